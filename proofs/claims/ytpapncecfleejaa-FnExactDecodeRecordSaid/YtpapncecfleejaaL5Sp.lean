/-
  The contracts of chapter 5's functions of the specification that only read: IsName, IsRecord, GetField. Conditions: a name of at most 2^48 bytes, a record of at most 2^40 fields.
-/
import Derived.Test.YtpapncecfleejaaL5Num
import Derived.Test.YtpapncecfleejaaSv
import Derived.Test.YtpapncecfleejaaL2Rd2
namespace Go.Proofs.Ytpapncecfleejaa.L5
set_option maxRecDepth 100000
open Go.Op (bytesLess)
open Go.ChangeShapes Go.WideShapes Go.ChangeAt Go.RowKit Mem Sl Ex L2 Sv
set_option linter.unusedVariables false

def F.cells (f : F) : List Value := [.string f.name, .int .i64 f.n]
def cellsF (l : List F) : List Value := l.flatMap F.cells
theorem cellsF_nil : cellsF [] = [] := rfl
theorem cellsF_cons (f : F) (l : List F) : cellsF (f :: l) = .string f.name :: .int .i64 f.n :: cellsF l := rfl
theorem cellsF_append (l m : List F) : cellsF (l ++ m) = cellsF l ++ cellsF m := by unfold cellsF; rw [List.flatMap_append]
@[simp] theorem cellsF_length : ∀ (l : List F), (cellsF l).length = l.length * 2
  | [] => rfl
  | f :: l => by rw [cellsF_cons, List.length_cons, List.length_cons, cellsF_length l, List.length_cons]; omega
theorem cellsF_at : ∀ (l : List F) (j : Nat) (h : j < l.length), (cellsF l)[j * 2]? = some (.string l[j].name) ∧ (cellsF l)[j * 2 + 1]? = some (.int .i64 l[j].n)
  | f :: l, 0, _ => ⟨rfl, rfl⟩
  | f :: l, j + 1, h => by
    have := cellsF_at l j (by simpa using h)
    rw [cellsF_cons, show (j + 1) * 2 = j * 2 + 1 + 1 by omega]
    exact this
theorem cellsF_one (l : List F) : ∀ u ∈ cellsF l, u.oneCell' = true := by
  intro u hu
  obtain ⟨f, _, hf⟩ := List.mem_flatMap.1 hu
  simp [F.cells] at hf
  rcases hf with rfl | rfl <;> rfl
theorem add_next (ad : Addr) (j : Nat) : ad.add (j + 1) = ⟨(ad.add j).block, (ad.add j).off + 1, none⟩ := by
  unfold Addr.add
  by_cases h : j = 0 <;> simp [h, Nat.add_assoc]
theorem readsF {w : World} {B : Nat} {a : Option Addr} {l : List F} (h : Reads w B a (cellsF l)) (j : Nat) (hj : j < l.length) :
    ∃ ad, a = some ad ∧ ad.block < B ∧ w.cell? (ad.add (j * 2)) = some (.string l[j].name) ∧ w.cell? ⟨(ad.add (j * 2)).block, (ad.add (j * 2)).off + 1, none⟩ = some (.int .i64 l[j].n) := by
  obtain ⟨ad, e, hb, h1⟩ := h (j * 2) (by simp; omega)
  obtain ⟨ad', e', _, h2⟩ := h (j * 2 + 1) (by simp; omega)
  rw [e] at e'
  injection e' with e'
  subst e'
  obtain ⟨c1, c2⟩ := cellsF_at l j hj
  refine ⟨ad, e, hb, by rw [h1, ← c1, List.getElem?_eq_getElem], by rw [← add_next, h2, ← c2, List.getElem?_eq_getElem]⟩

theorem specIsName_any (s : ByteArray) (hs : s.size ≤ 281474976710656) (w : World) :
    Calls Try.prog 29 #[.string s] w fun e w' => e = .returned (.bool (isN s.data.toList)) ∧ w = w' := by
  have hsz : s.data.toList.length = s.size := by rw [Array.length_toList]; rfl
  have HZ := Lib.hid hsz
  clear hsz
  have HI := Lib.hid (fun w => L1.l1In_any (s.size : Int) 1 8 w)
  obtain ⟨bi, hbi⟩ : ∃ b, L1.inB (s.size : Int) 1 8 = b := ⟨_, rfl⟩
  rw [hbi] at HI
  go_enter Try.func29, Try.ntmps29
  go_wp2
  go_loop [3] (fun i => ∃ k : Nat, k ≤ s.size ∧ i = .int .i64 k ∧ Hid (∀ j (hj : j < s.data.toList.length), j < k → low s.data.toList[j] = true)) (fun i => s.size - (intOf i).toNat)
  case atStart => exact ⟨0, Nat.zero_le _, rfl, fun j hj h => by omega⟩
  case round =>
    obtain ⟨k, hk, rfl, hrel⟩ := hrel
    by_cases hlt : k < s.size
    · have hb : s.data.toList[k]? = some s[k] := by
        rw [List.getElem?_eq_getElem (by rw [HZ.out]; exact hlt)]
        rfl
      have HB := Lib.hid hb
      clear hb
      have hT : ∀ b : Bool, low s[k] = b → Hid (low s[k] = b) := fun b h => h
      rcases (show ((s[k].toNat : Int) < 97 ∧ low s[k] = false) ∨ ((¬ (s[k].toNat : Int) < 97 ∧ (s[k].toNat : Int) ≤ 122) ∧ low s[k] = true) ∨ ((¬ (s[k].toNat : Int) < 97 ∧ 122 < (s[k].toNat : Int)) ∧ low s[k] = false) by
        unfold low
        simp only [Bool.and_eq_true, Bool.and_eq_false_iff, decide_eq_true_eq, decide_eq_false_iff_not]
        omega) with ⟨h1, h2⟩ | ⟨⟨h1, h3⟩, h2⟩ | ⟨⟨h1, h3⟩, h2⟩
      all_goals
        have H2 := hT _ h2
        clear h2 hT
        go_wp2
        first
        | (go_round
           case rel => exact ⟨k + 1, by omega, by go_num, fun j hj h => by
              by_cases e : j < k
              · exact hrel.out j hj e
              · obtain rfl : j = k := by omega
                have := HB.out
                rw [List.getElem?_eq_getElem hj] at this
                rw [Option.some.inj this]
                exact H2.out⟩
           case measure => simp [intOf]; omega)
        | (go_ret
           exact ⟨by rw [isN_no k _ HB.out H2.out]; rfl, rfl⟩)
    · go_wp2_with (go_at_call 69; refine (HI.out _).mono ?_; rintro e w1 ⟨rfl, rfl⟩)
      go_ret
      obtain rfl : k = s.size := by omega
      have e1 := isN_all (fun j hj => hrel.out j hj (by rw [HZ.out] at hj; exact hj))
      rw [HZ.out, hbi] at e1
      exact ⟨by rw [e1]; rfl, rfl⟩

/-- GetField's two results. -/
def getN (l : List F) (name : List UInt8) : Int := (getO l name).getD 0
def getB (l : List F) (name : List UInt8) : Bool := (getO l name).isSome
set_option maxHeartbeats 1000000 in
theorem specGetField_any (a : Option Addr) (c : Nat) (l : List F) (s : ByteArray) (hl : l.length ≤ 1099511627776) (w : World) (hr : Reads w w.heap.size a (cellsF l)) :
    Calls Try.prog 35 #[.agg #[.slice a l.length c], .string s] w fun e w' => e = .returned (.tuple #[.int .i64 (getN l s.data.toList), .bool (getB l s.data.toList)]) ∧ Below w.heap.size w w' := by
  have HBL := Lib.hid (below_alloc (Below.refl w.heap.size w) (.cells #[.slice a l.length c] 26) (Nat.le_refl _))
  have HR := Lib.hid (hr.below HBL.out)
  obtain ⟨n, hn⟩ : ∃ n, n = l.length := ⟨_, rfl⟩
  rw [← hn] at HBL ⊢
  rw [← hn] at hl HR
  have HN := Lib.hid hn
  clear hn hr
  have hl' : (n : Int) ≤ 1099511627776 := by omega
  go_enter Try.func35, Try.ntmps35
  go_wp2
  go_loop [6] (fun i => ∃ k : Nat, k ≤ n ∧ i = .int .i64 k ∧ Hid (∀ j (hj : j < l.length), j < k → l[j].t ≠ s.data.toList)) (fun i => n - (intOf i).toNat)
  case atStart => exact ⟨0, Nat.zero_le _, rfl, fun j hj h => by omega⟩
  case round =>
    obtain ⟨k, hk, rfl, hrel⟩ := hrel
    by_cases hlt : (k : Int) < (n : Int)
    · have hkl : k < l.length := by have := HN.out; omega
      obtain ⟨ad, rfl, had, h1, h2⟩ := readsF HR.out k hkl
      obtain ⟨t, ht⟩ : ∃ t, t = l[k].name := ⟨_, rfl⟩
      obtain ⟨m, hm⟩ : ∃ m, m = l[k].n := ⟨_, rfl⟩
      rw [← ht] at h1
      rw [← hm] at h2
      by_cases he : t.data.toList = s.data.toList
      · have heq : (t.toList == s.toList) = true := by rw [ByteArray.toList_eq, ByteArray.toList_eq, he, beq_self_eq_true]
        have HG := Lib.hid (getO_at k hkl (show l[k].t = s.data.toList by unfold F.t; rw [← ht]; exact he) hrel.out)
        rw [← hm] at HG
        clear ht hm he
        go_wp2
        go_ret2
        exact ⟨by unfold getN getB; rw [HG.out]; rfl, HBL.out⟩
      · have heq : (t.toList == s.toList) = false := by rw [ByteArray.toList_eq, ByteArray.toList_eq, beq_eq_false_iff_ne]; exact he
        have HT := Lib.hid (show l[k].t ≠ s.data.toList by unfold F.t; rw [← ht]; exact he)
        clear ht hm he
        go_wp2
        go_round
        case rel => exact ⟨k + 1, by omega, by go_num, fun j hj h => by
          by_cases e : j < k
          · exact hrel.out j hj e
          · obtain rfl : j = k := by omega
            exact HT.out⟩
        case measure => simp [intOf]; omega
    · go_wp2
      go_ret2
      have HG := getO_none (l := l) (name := s.data.toList) (fun j hj => hrel.out j hj (by have := HN.out; omega))
      exact ⟨by unfold getN getB; rw [HG]; rfl, HBL.out⟩
end Go.Proofs.Ytpapncecfleejaa.L5
