/-
  The contracts of the program's FormatInt and ParseInt (over strconv's Itoa and Atoi, by the kit's shelf): the same answers as the specification's. Conditions on the world: strconv's table of powers of ten reads as laid; for ParseInt strconv's two sentinels hold some error.
-/
import Derived.Test.YtaccnbchehopjaaDoorL1Parse
import Derived.Test.YtaccnbchehopjaaDoorShelf
import Derived.Lib.SmallJoins
namespace Go.Proofs.YtaccnbchehopjaaDoor.L1
open Go.ChangeShapes Go.WideShapes Go.ChangeAt Go.RowKit

theorem below_grow (w : World) (k : Nat) (os : Array Obj) : Below w.heap.size w (Sort.grow (w.drewN k) os) :=
  ⟨rfl, rfl, rfl, by simp [Sort.grow, World.drewN], fun i hi => by
    show (w.heap ++ os)[i]? = _
    rw [Array.getElem?_append_left hi]⟩

/-- What the calls of strconv want of the world. -/
def Tab (w : World) : Prop := Lib.TabIs Tryd.prog w "internal/strconv.uint64pow10" .u64 Lib.pow10Tab
theorem Tab.below {w w' : World} (h : Tab w) (hb : Below w.heap.size w w') : Tab w' :=
  _root_.Go.Joins.tab_stays (g := 2) (by kernel_rfl) h hb (Nat.le_refl _)

theorem implFormatInt_any (n : Int) (h0 : -9223372036854775808 ≤ n) (h1 : n ≤ 9223372036854775807) (w : World) (ht : Tab w) :
    Calls Tryd.prog 10 #[.int .i64 n] w fun e w' => e = .returned (.string ⟨(Lib.itoa n).toArray⟩) ∧ Below w.heap.size w w' := by
  go_enter Tryd.func10, Tryd.ntmps10
  go_wp2_with (go_at_call 23; refine (Tryd.strconv_Itoa n h0 h1 _ ht).mono ?_; rintro e w' ⟨rfl, k, os, rfl⟩)
  go_ret
  exact ⟨rfl, below_grow _ _ _⟩

def Sents (w : World) : Prop := (∃ tp p, w.var? Tryd.prog "strconv.ErrSyntax" = some #[.iface tp p]) ∧ (∃ tp p, w.var? Tryd.prog "strconv.ErrRange" = some #[.iface tp p])
theorem Sents.below {w w' : World} (h : Sents w) (hb : Below w.heap.size w w') : Sents w' := by
  obtain ⟨⟨a, b, h1⟩, c, d, h2⟩ := h
  exact ⟨⟨a, b, _root_.Go.Joins.var_stays (g := 0) (by kernel_rfl) h1 hb (Nat.le_refl _)⟩, c, d, _root_.Go.Joins.var_stays (g := 1) (by kernel_rfl) h2 hb (Nat.le_refl _)⟩

theorem atoi_ends (l : List UInt8) : (∃ v, Lib.atoiAll l = .ok v) ∨ Lib.atoiAll l = .range ∨ Lib.atoiAll l = Lib.atoiAll [] := by
  cases Lib.atoiAll l
  · exact Or.inl ⟨_, rfl⟩
  · exact Or.inr (Or.inr rfl)
  · exact Or.inr (Or.inl rfl)
theorem no_atoi {l : List UInt8} (h : ∀ v, Lib.atoiAll l ≠ .ok v) : pOk l = false := by
  cases h2 : pOk l with
  | false => rfl
  | true => exact absurd (pOk_num h2).atoi (h _)
theorem no_value {l : List UInt8} {v : Int} (ha : Lib.atoiAll l = .ok v) (h : ¬ Num l v) : pOk l = false := by
  cases h2 : pOk l with
  | false => rfl
  | true =>
    have h3 := pOk_num h2
    have h4 := h3.atoi
    rw [ha] at h4
    injection h4 with h5
    exact absurd (h5 ▸ h3) h

theorem below_bytes {w w' : World} {T : Nat} (h : w' = w ∨ ∃ t, w' = Lib.bytesWorld w T t) : Below w.heap.size w w' := by
  rcases h with rfl | ⟨t, rfl⟩
  · exact Below.refl _ _
  · exact Lib.bytesWorld_below _ _ _

set_option maxHeartbeats 400000 in
theorem implParseInt_any (s : ByteArray) (hlim : s.size ≤ 281474976710656) (w : World) (ht : Tab w) (hse : Sents w) :
    Calls Tryd.prog 8 #[.string s] w fun e w' => e = .returned (.tuple #[.int .i64 (pVal s.data.toList), .bool (pOk s.data.toList)]) ∧ Below w.heap.size w w' := by
  obtain ⟨⟨tp, p, hS⟩, tp', p', hR⟩ := hse
  have HS := Lib.hid hS
  have HR := Lib.hid hR
  clear hS hR
  rcases atoi_ends s.data.toList with ⟨v, ha⟩ | ha | ha
  case inr.inr =>
    have HN := Lib.hid (no_atoi (l := s.data.toList) (fun v e => by rw [ha] at e; cases e))
    have HA := Lib.hid ha
    clear ha
    go_enter Tryd.func8, Tryd.ntmps8
    go_wp2_with (go_at_call 20; refine (Tryd.strconv_Atoi_syntax_var s hlim HA.out tp p _ HS.out).mono ?_; rintro e W1 ⟨N, rfl, -, -, hb⟩)
    go_ret2
    rw [pVal_no HN.out, HN.out]
    exact ⟨rfl, hb⟩
  case inr.inl =>
    have HN := Lib.hid (no_atoi (l := s.data.toList) (fun v e => by rw [ha] at e; cases e))
    have HA := Lib.hid ha
    clear ha
    go_enter Tryd.func8, Tryd.ntmps8
    go_wp2_with (go_at_call 20; refine (Tryd.strconv_Atoi_range_var s hlim HA.out tp' p' _ HR.out).mono ?_; rintro e W1 ⟨N, rfl, -, -, hb⟩)
    go_ret2
    rw [pVal_no HN.out, HN.out]
    exact ⟨rfl, hb⟩
  case inl =>
    obtain ⟨b0, b1⟩ := Lib.atoiAll_bounds ha
    have HA := Lib.hid ha
    clear ha
    cases hin : inB v 0 1000000000000
    · have HN := Lib.hid (no_value HA.out (fun h => inB_false.mp hin ⟨h.1, h.2.1⟩))
      go_enter Tryd.func8, Tryd.ntmps8
      go_wp2_with (first | (go_at_call 20; refine (Tryd.strconv_Atoi_ok s (by omega) v HA.out _).mono ?_; rintro e W1 ⟨rfl, hw⟩) | (go_at_call 21; refine (inRange_any _ _ _ _).mono ?_; rintro e w' ⟨rfl, rfl⟩))
      go_ret2
      rw [pVal_no HN.out, HN.out]
      exact ⟨rfl, below_bytes hw⟩
    · obtain ⟨t, htt⟩ : ∃ t : ByteArray, t = ⟨(Lib.itoa v).toArray⟩ := ⟨_, rfl⟩
      have hc : ∀ W : World, Tab W → Calls Tryd.prog 10 #[.int .i64 v] W fun e w' => e = .returned (.string t) ∧ Below W.heap.size W w' := by
        rw [htt]; exact fun W hW => implFormatInt_any v b0 b1 W hW
      by_cases hi : Lib.itoa v = s.data.toList
      · have hnum : Num s.data.toList v := ⟨(inB_true.mp hin).1, (inB_true.mp hin).2, hi⟩
        have HN := Lib.hid hnum
        have hne : (t.toList == s.toList) = true := by
          rw [bytes_toList, bytes_toList, beq_iff_eq, htt]; exact hi
        clear hi htt hnum
        go_enter Tryd.func8, Tryd.ntmps8
        go_wp2_with (first | (go_at_call 20; refine (Tryd.strconv_Atoi_ok s (by omega) v HA.out _).mono ?_; rintro e W1 ⟨rfl, hw⟩; replace hw := below_bytes hw; have hT := ht.below hw) | (go_at_call 21; refine (inRange_any _ _ _ _).mono ?_; rintro e w' ⟨rfl, rfl⟩) | (go_at_call 10; refine (hc _ hT).mono ?_; rintro e w' ⟨rfl, hb⟩))
        go_ret2
        rw [HN.out.val, HN.out.ok]
        exact ⟨rfl, hw.trans (hb.mono hw.size)⟩
      · have HN := Lib.hid (no_value HA.out (fun h => hi h.2.2))
        have hne : (t.toList == s.toList) = false := by
          rw [bytes_toList, bytes_toList, beq_eq_false_iff_ne, htt]; exact hi
        clear hi htt
        go_enter Tryd.func8, Tryd.ntmps8
        go_wp2_with (first | (go_at_call 20; refine (Tryd.strconv_Atoi_ok s (by omega) v HA.out _).mono ?_; rintro e W1 ⟨rfl, hw⟩; replace hw := below_bytes hw; have hT := ht.below hw) | (go_at_call 21; refine (inRange_any _ _ _ _).mono ?_; rintro e w' ⟨rfl, rfl⟩) | (go_at_call 10; refine (hc _ hT).mono ?_; rintro e w' ⟨rfl, hb⟩))
        go_ret2
        rw [pVal_no HN.out, HN.out]
        exact ⟨rfl, hw.trans (hb.mono hw.size)⟩

end Go.Proofs.YtaccnbchehopjaaDoor.L1
