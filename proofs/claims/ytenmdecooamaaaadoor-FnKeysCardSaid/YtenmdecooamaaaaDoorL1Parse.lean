/-
  The contract of the specification's ParseInt at every string: the number and true if the string is the numeral of a number in the range 0 to MaxValue, else 0 and false. New memory only.
-/
import Derived.Test.YtenmdecooamaaaaDoorL1Fmt
namespace Go.Proofs.YtenmdecooamaaaaDoor.L1
open Go.ChangeShapes Go.WideShapes Go.ChangeAt Go.RowKit

def ParseRel (s : ByteArray) (n i : Value) : Prop :=
  ∃ (k m : Nat), k ≤ s.size ∧ i = .int .i64 k ∧ n = .int .i64 m ∧ m < 10 ^ k ∧ Lib.decFrom 0 (s.data.toList.take k) = some m

theorem bytes_toList (s : ByteArray) : s.toList = s.data.toList := ByteArray.toList_eq s

theorem no_len {l : List UInt8} (h : ¬ (1 ≤ (l.length : Int) ∧ (l.length : Int) ≤ 13)) : pOk l = false := by
  cases h2 : pOk l with
  | false => rfl
  | true => have := (pOk_num h2).length; omega
theorem no_digit {l : List UInt8} (k : Nat) (b : UInt8) (hb : l[k]? = some b) (h : ¬ (48 ≤ (b.toNat : Int) ∧ (b.toNat : Int) ≤ 57)) : pOk l = false := by
  cases h2 : pOk l with
  | false => rfl
  | true => have := (pOk_num h2).digit k b hb; omega
theorem no_great {l : List UInt8} (m : Nat) (hm : Lib.decFrom 0 l = some m) (h : 1000000000000 < m) : pOk l = false := by
  cases h2 : pOk l with
  | false => rfl
  | true =>
    have h3 := pOk_num h2
    have h4 := h3.dec
    rw [hm] at h4
    injection h4 with h5
    have := h3.2.1
    have := h3.1
    omega
theorem no_other {l : List UInt8} (m : Nat) (hm : Lib.decFrom 0 l = some m) (h : Lib.itoa m ≠ l) : pOk l = false := by
  cases h2 : pOk l with
  | false => rfl
  | true =>
    have h3 := pOk_num h2
    have h4 := h3.dec
    rw [hm] at h4
    injection h4 with h5
    have h6 := h3.1
    exact absurd (show Lib.itoa m = l by rw [show (m : Int) = pVal l by omega]; exact h3.2.2) h

theorem parse_next (s : ByteArray) (k m : Nat) (hlt : k < s.size) (hm : m < 10 ^ k) (hd : Lib.decFrom 0 (s.data.toList.take k) = some m) (hb : s.data.toList[k]? = some s[k]) (h0 : 48 ≤ (s[k].toNat : Int)) (h1 : (s[k].toNat : Int) ≤ 57) :
    ParseRel s (.int .i64 (10 * ↑m + (↑s[k].toNat - 48))) (.int .i64 (↑k + 1)) := by
  refine ⟨k + 1, m * 10 + (s[k].toNat - 48), by omega, by go_num, ?_, by rw [Nat.pow_succ]; omega, ?_⟩
  · congr 1; omega
  · exact Lib.decFrom_take _ k 0 m s[k] _ hd hb (by unfold Lib.digitVal; rw [if_pos (by omega)])

set_option maxHeartbeats 400000 in
theorem specParseInt_any (s : ByteArray) (hs : s.size ≤ maxLen) (w : World) :
    Calls Tryd.prog 35 #[.string s] w fun e w' => e = .returned (.tuple #[.int .i64 (pVal s.data.toList), .bool (pOk s.data.toList)]) ∧ Below w.heap.size w w' := by
  unfold maxLen at hs
  have hsz : s.data.toList.length = s.size := Array.length_toList
  cases hin : inB (s.size : Int) 1 13
  case false =>
    have hno : pOk s.data.toList = false := no_len (by rw [hsz]; exact inB_false.mp hin)
    rw [pVal_no hno, hno]
    go_enter Tryd.func35, Tryd.ntmps35
    go_wp2_with (go_at_call 51; refine (l1In_any _ _ _ _).mono ?_; rintro e w' ⟨rfl, rfl⟩)
    go_ret2
    exact ⟨rfl, Below.refl _ _⟩
  case true =>
    obtain ⟨hl0, hl1⟩ := inB_true.mp hin
    go_enter Tryd.func35, Tryd.ntmps35
    go_wp2_with (go_at_call 51; refine (l1In_any _ _ _ _).mono ?_; rintro e w' ⟨rfl, rfl⟩)
    go_loop [4, 5] (fun n i => ParseRel s n i) (fun _ i => s.size - (intOf i).toNat)
    case atStart => exact ⟨0, 0, Nat.zero_le _, rfl, rfl, by decide, rfl⟩
    case round =>
      obtain ⟨k, m, hk, rfl, rfl, hm, hd⟩ := hrel
      have hm0 : (0 : Int) ≤ (m : Int) := by omega
      have hm' : (m : Int) < 10000000000000 := by
        have h1 : (10 : Nat) ^ k ≤ 10 ^ 13 := Nat.pow_le_pow_right (by decide) (by omega)
        have h2 : (10 : Nat) ^ 13 = 10000000000000 := by decide
        omega
      have HM := Lib.hid hm
      have HD := Lib.hid hd
      clear hd hm
      by_cases hlt : k < s.size
      · have hb : s.data.toList[k]? = some s[k] := by
          rw [List.getElem?_eq_getElem (by omega)]; rfl
        have hb255 : (s[k].toNat : Int) ≤ 255 := by have := s[k].toNat_lt; omega
        cases hdig : inB (s[k].toNat : Int) 48 57
        · have HN := Lib.hid (no_digit k _ hb (inB_false.mp hdig))
          have HB := Lib.hid hb
          clear hb
          go_wp2_with (go_at_call 51; refine (l1In_any _ _ _ _).mono ?_; rintro e w' ⟨rfl, rfl⟩)
          go_ret2
          rw [pVal_no HN.out, HN.out]
          exact ⟨rfl, Below.refl _ _⟩
        · obtain ⟨hc0, hc1⟩ := inB_true.mp hdig
          have HB := Lib.hid hb
          clear hb
          go_wp2_with (go_at_call 51; refine (l1In_any _ _ _ _).mono ?_; rintro e w' ⟨rfl, rfl⟩)
          go_round
          case rel => exact parse_next s k m hlt HM.out HD.out HB.out hc0 hc1
          case measure => simp [intOf]; omega
      · obtain rfl : k = s.size := by omega
        have hd := HD.out
        rw [List.take_of_length_le (by omega)] at hd
        by_cases hg : (1000000000000 : Int) < (m : Int)
        · have HN := Lib.hid (no_great m hd (by omega))
          clear hd
          go_wp2_with fail
          go_ret2
          rw [pVal_no HN.out, HN.out]
          exact ⟨rfl, Below.refl _ _⟩
        · by_cases hi : Lib.itoa m = s.data.toList
          · have HN := Lib.hid (show Num s.data.toList m from ⟨by omega, by omega, hi⟩)
            clear hd
            go_wp2_with (go_at_call 39; refine (specFormatInt_any _ (by omega) (by omega) _).mono ?_; rintro e w' ⟨rfl, hb⟩)
            go_ret2
            rw [HN.out.val, HN.out.ok]
            exact ⟨rfl, hb⟩
          · have HN := Lib.hid (no_other m hd hi)
            have HI := Lib.hid hi
            obtain ⟨t, ht⟩ : ∃ t : ByteArray, t = ⟨(Lib.itoa m).toArray⟩ := ⟨_, rfl⟩
            have hc : ∀ W : World, Calls Tryd.prog 39 #[.int .i64 m] W fun e w' => e = .returned (.string t) ∧ Below W.heap.size W w' := by
              rw [ht]; exact fun W => specFormatInt_any _ (by omega) (by omega) W
            have hne : (t.toList == s.toList) = false := by
              rw [bytes_toList, bytes_toList, beq_eq_false_iff_ne, ht]; exact hi
            clear hd hi ht
            go_wp2_with (go_at_call 39; refine (hc _).mono ?_; rintro e w' ⟨rfl, hb⟩)
            go_ret2
            rw [pVal_no HN.out, HN.out]
            exact ⟨rfl, hb⟩

end Go.Proofs.YtenmdecooamaaaaDoor.L1
