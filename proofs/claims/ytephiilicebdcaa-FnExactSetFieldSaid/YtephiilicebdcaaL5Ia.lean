/-
  The contracts of chapter 5's functions of the program that only read: IsName, GetField, copyRecord. Conditions: a name of at most 2^48 bytes, a record of at most 2^40 fields.
-/
import Derived.Test.YtephiilicebdcaaPc
import Derived.Test.YtephiilicebdcaaPb
namespace Go.Proofs.Ytephiilicebdcaa.L5
set_option maxRecDepth 100000
open Go.Op (bytesLess)
open Go.ChangeShapes Go.WideShapes Go.ChangeAt Go.RowKit Mem Sl Ex L2 Sv
set_option linter.unusedVariables false

theorem low_isLet (c : UInt8) : L4.isLet c = low c := rfl
theorem isName_any (s : ByteArray) (hs : s.size ≤ 281474976710656) (w : World) :
    Calls Try.prog 47 #[.string s] w fun e w' => e = .returned (.bool (isN s.data.toList)) ∧ w = w' := by
  have hsz : s.data.toList.length = s.size := by rw [Array.length_toList]; rfl
  have HZ := Lib.hid hsz
  clear hsz
  have HI := Lib.hid (fun w => L1.inRange_any (s.size : Int) 1 8 w)
  have HS := Lib.hid (show L1.inB (s.size : Int) 1 8 = false → isN s.data.toList = false from fun h => by
    unfold isN
    rw [Bool.and_eq_false_iff]
    right
    rw [HZ.out, ← h]
    unfold L1.inB
    congr 1 <;> (rw [decide_eq_decide]; omega))
  obtain ⟨bi, hbi⟩ : ∃ b, L1.inB (s.size : Int) 1 8 = b := ⟨_, rfl⟩
  rw [hbi] at HI HS
  have HB0 := Lib.hid hbi
  clear hbi
  cases bi with
  | false =>
    replace HS := Lib.hid (HS.out rfl)
    go_enter Try.func47, Try.ntmps47
    go_wp2_with (go_at_call 48; refine (HI.out _).mono ?_; rintro e w1 ⟨rfl, rfl⟩)
    go_ret
    exact ⟨by rw [HS.out]; rfl, rfl⟩
  | true =>
    go_enter Try.func47, Try.ntmps47
    go_wp2_with (go_at_call 48; refine (HI.out _).mono ?_; rintro e w1 ⟨rfl, rfl⟩)
    go_loop [10] (fun i => ∃ k : Nat, k ≤ s.size ∧ i = .int .i64 k ∧ Hid (∀ j (hj : j < s.data.toList.length), j < k → low s.data.toList[j] = true)) (fun i => s.size - (intOf i).toNat)
    case atStart => exact ⟨0, Nat.zero_le _, rfl, fun j hj h => by omega⟩
    case round =>
      obtain ⟨k, hk, rfl, hrel⟩ := hrel
      by_cases hlt : k < s.size
      · have hb : s.data.toList[k]? = some s[k] := by
          rw [List.getElem?_eq_getElem (by rw [HZ.out]; exact hlt)]
          rfl
        have HB := Lib.hid hb
        clear hb
        have H1 := Lib.hid (fun w => L4.isLetter_any s[k] w)
        obtain ⟨bl, hbl⟩ : ∃ b, L4.isLet s[k] = b := ⟨_, rfl⟩
        rw [hbl] at H1
        rw [low_isLet] at hbl
        have HL := Lib.hid hbl
        clear hbl
        cases bl with
        | true =>
          go_wp2_with (go_at_call 70; refine (H1.out _).mono ?_; rintro e w1 ⟨rfl, rfl⟩)
          go_round
          case rel => exact ⟨k + 1, by omega, by go_num, fun j hj h => by
              by_cases e : j < k
              · exact hrel.out j hj e
              · obtain rfl : j = k := by omega
                have := HB.out
                rw [List.getElem?_eq_getElem hj] at this
                rw [Option.some.inj this]
                exact HL.out⟩
          case measure => simp [intOf]; omega
        | false =>
          go_wp2_with (go_at_call 70; refine (H1.out _).mono ?_; rintro e w1 ⟨rfl, rfl⟩)
          go_ret
          exact ⟨by rw [isN_no k _ HB.out HL.out]; rfl, rfl⟩
      · go_wp2_with fail
        go_ret
        obtain rfl : k = s.size := by omega
        have e1 := isN_all (fun j hj => hrel.out j hj (by rw [HZ.out] at hj; exact hj))
        rw [HZ.out, HB0.out] at e1
        exact ⟨by rw [e1]; rfl, rfl⟩

set_option maxHeartbeats 1000000 in
theorem getField_any (a : Option Addr) (c : Nat) (l : List F) (s : ByteArray) (hl : l.length ≤ 1099511627776) (w : World) (hr : Reads w w.heap.size a (cellsF l)) :
    Calls Try.prog 13 #[.agg #[.slice a l.length c], .string s] w fun e w' => e = .returned (.tuple #[.int .i64 (getN l s.data.toList), .bool (getB l s.data.toList)]) ∧ Below w.heap.size w w' := by
  have HBL := Lib.hid (below_alloc (Below.refl w.heap.size w) (.cells #[.slice a l.length c] 26) (Nat.le_refl _))
  have HR := Lib.hid (fun w' (h : Below w.heap.size w w') => hr.below h)
  obtain ⟨n, hn⟩ : ∃ n, n = l.length := ⟨_, rfl⟩
  rw [← hn] at HBL ⊢
  rw [← hn] at hl
  have HN := Lib.hid hn
  clear hn hr
  have hl' : (n : Int) ≤ 1099511627776 := by omega
  go_enter Try.func13, Try.ntmps13
  go_wp2_with fail
  go_loopw [11] (fun i wr => ∃ k : Nat, k ≤ n ∧ i = .int .i64 k ∧ Hid (Below w.heap.size w wr ∧ ∀ j (hj : j < l.length), j < k → l[j].t ≠ s.data.toList)) (fun i _ => n - (intOf i).toNat)
  case atStart => exact ⟨0, Nat.zero_le _, rfl, HBL.out, fun j hj h => by omega⟩
  case round =>
    obtain ⟨k, hk, rfl, hrel⟩ := hrel
    by_cases hlt : (k : Int) < (n : Int)
    · have hkl : k < l.length := by have := HN.out; omega
      obtain ⟨ad, rfl, had, h1, h2⟩ := readsF (HR.out _ hrel.out.1) k hkl
      obtain ⟨t, ht⟩ : ∃ t, t = l[k].name := ⟨_, rfl⟩
      obtain ⟨m, hm⟩ : ∃ m, m = l[k].n := ⟨_, rfl⟩
      rw [← ht] at h1
      rw [← hm] at h2
      have HW := Lib.hid (below_alloc hrel.out.1 (.cells #[.string t, .int .i64 m] 64) (Nat.le_refl _))
      by_cases he : t.data.toList = s.data.toList
      · have heq : (t.toList == s.toList) = true := by rw [ByteArray.toList_eq, ByteArray.toList_eq, he, beq_self_eq_true]
        have HG := Lib.hid (getO_at k hkl (show l[k].t = s.data.toList by unfold F.t; rw [← ht]; exact he) hrel.out.2)
        rw [← hm] at HG
        clear ht hm he
        go_wp2_with fail
        go_ret2
        exact ⟨by unfold getN getB; rw [HG.out]; rfl, HW.out⟩
      · have heq : (t.toList == s.toList) = false := by rw [ByteArray.toList_eq, ByteArray.toList_eq, beq_eq_false_iff_ne]; exact he
        have HT := Lib.hid (show l[k].t ≠ s.data.toList by unfold F.t; rw [← ht]; exact he)
        clear ht hm he
        go_wp2_with fail
        go_roundw
        case rel => exact ⟨k + 1, by omega, by go_num, HW.out, fun j hj h => by
          by_cases e : j < k
          · exact hrel.out.2 j hj e
          · obtain rfl : j = k := by omega
            exact HT.out⟩
        case measure => simp [intOf]; omega
    · go_wp2_with fail
      go_ret2
      have HG := getO_none (l := l) (name := s.data.toList) (fun j hj => hrel.out.2 j hj (by have := HN.out; omega))
      exact ⟨by unfold getN getB; rw [HG]; rfl, hrel.out.1⟩
end Go.Proofs.Ytephiilicebdcaa.L5
