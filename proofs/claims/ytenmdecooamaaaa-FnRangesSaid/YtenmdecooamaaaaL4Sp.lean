/-
  The contracts of chapter 4's functions of the specification: l4Text, IsKey, l4Sign, CompareKeys, CompareBytes, InRangeOf. Conditions: a text of at most 2^48 bytes.
-/
import Derived.Test.YtenmdecooamaaaaL4Par
import Derived.Test.YtenmdecooamaaaaL2Rd2
namespace Go.Proofs.Ytenmdecooamaaaa.L4
open Go.ChangeShapes Go.WideShapes Go.ChangeAt Go.RowKit Mem Sl Ex L2
set_option linter.unusedVariables false

def K.v (k : K) : Value := .agg #[.int .i64 k.kind, .int .i64 k.n, .string k.text]
def K.cells (k : K) : Array Value := #[.int .i64 k.kind, .int .i64 k.n, .string k.text]

theorem isT_no {s : List UInt8} (j : Nat) (b : UInt8) (hb : s[j]? = some b) (h : chr b = false) : isT s = false := by
  unfold isT
  rw [Bool.and_eq_false_iff]
  left
  rw [List.all_eq_false]
  exact ⟨b, List.mem_of_getElem? hb, by simp [h]⟩
theorem isT_all {s : List UInt8} (h : ∀ j (hj : j < s.length), chr s[j] = true) : isT s = decide (s.length ≤ 12) := by
  unfold isT
  rw [show s.all chr = true by rw [List.all_eq_true]; intro x hx; obtain ⟨i, hi, rfl⟩ := List.getElem_of_mem hx; exact h i hi, Bool.true_and]

theorem l4Text_any (s : ByteArray) (hs : s.size ≤ 281474976710656) (w : World) :
    Calls Try.prog 44 #[.string s] w fun e w' => e = .returned (.bool (isT s.data.toList)) ∧ w = w' := by
  have hsz : s.data.toList.length = s.size := by rw [Array.length_toList]; rfl
  have HZ := Lib.hid hsz
  clear hsz
  go_enter Try.func44, Try.ntmps44
  go_wp2
  go_loop [3] (fun i => ∃ k : Nat, k ≤ s.size ∧ i = .int .i64 k ∧ Hid (∀ j (hj : j < s.data.toList.length), j < k → chr s.data.toList[j] = true)) (fun i => s.size - (intOf i).toNat)
  case atStart => exact ⟨0, Nat.zero_le _, rfl, fun j hj h => by omega⟩
  case round =>
    obtain ⟨k, hk, rfl, hrel⟩ := hrel
    by_cases hlt : k < s.size
    · have hb : s.data.toList[k]? = some s[k] := by
        rw [List.getElem?_eq_getElem (by rw [HZ.out]; exact hlt)]
        rfl
      have HB := Lib.hid hb
      clear hb
      have hT : ∀ b : Bool, chr s[k] = b → Hid (chr s[k] = b) := fun b h => h
      rcases (show ((s[k].toNat : Int) < 48 ∧ chr s[k] = false) ∨ ((48 ≤ (s[k].toNat : Int) ∧ (s[k].toNat : Int) ≤ 57) ∧ chr s[k] = true) ∨ ((58 ≤ (s[k].toNat : Int) ∧ (s[k].toNat : Int) ≤ 96) ∧ chr s[k] = false) ∨ ((97 ≤ (s[k].toNat : Int) ∧ (s[k].toNat : Int) ≤ 122) ∧ chr s[k] = true) ∨ ((122 < (s[k].toNat : Int)) ∧ chr s[k] = false) by
        unfold chr
        simp only [Bool.or_eq_true, Bool.and_eq_true, Bool.or_eq_false_iff, Bool.and_eq_false_iff, decide_eq_true_eq, decide_eq_false_iff_not]
        omega) with ⟨h1, h2⟩ | ⟨⟨h1, h3⟩, h2⟩ | ⟨⟨h1, h3⟩, h2⟩ | ⟨⟨h1, h3⟩, h2⟩ | ⟨h1, h2⟩
      all_goals
        have H2 := hT _ h2
        clear h2 hT
        go_wp2
        first
        | (go_round
           case rel => exact ⟨k + 1, by omega, by go_num, fun j hj h => by
              by_cases e : j < k
              · exact hrel.out j hj e
              · obtain rfl : j = k := by omega
                have := HB.out
                rw [List.getElem?_eq_getElem hj] at this
                rw [Option.some.inj this]
                exact H2.out⟩
           case measure => simp [intOf]; omega)
        | (go_ret
           exact ⟨by rw [isT_no k _ HB.out H2.out]; rfl, rfl⟩)
    · by_cases h12 : (s.size : Int) ≤ 12
      all_goals
        go_wp2
        go_ret
        obtain rfl : k = s.size := by omega
        have e1 := isT_all (fun j hj => hrel.out j hj (by rw [HZ.out] at hj; exact hj))
        rw [HZ.out] at e1
        refine ⟨?_, rfl⟩
        rw [e1]
        first
        | (rw [decide_eq_true (show s.size ≤ 12 by omega)]; rfl)
        | (rw [decide_eq_false (show ¬ s.size ≤ 12 by omega)]; rfl)
set_option maxHeartbeats 2000000 in
theorem specIsKey_any (k : K) (hs : k.text.size ≤ 281474976710656) (w : World) :
    Calls Try.prog 16 #[k.v] w fun e w' => e = .returned (.bool (isK k)) ∧ Below w.heap.size w w' := by
  obtain ⟨kd, n, s⟩ := k
  unfold K.v
  obtain ⟨b1, hb1⟩ : ∃ b, L1.inB kd 1 3 = b := ⟨_, rfl⟩
  obtain ⟨b2, hb2⟩ : ∃ b, L1.inB n (-1000000000000) 1000000000000 = b := ⟨_, rfl⟩
  obtain ⟨b4, hb4⟩ : ∃ b, isT s.data.toList = b := ⟨_, rfl⟩
  have H1 := Lib.hid (fun w => L1.l1In_any kd 1 3 w)
  have H2 := Lib.hid (fun w => L1.l1In_any n (-1000000000000) 1000000000000 w)
  have H4 := Lib.hid (fun w => l4Text_any s hs w)
  rw [hb1] at H1
  rw [hb2] at H2
  rw [hb4] at H4
  obtain ⟨c0, hc0⟩ : ∃ b, (n == 0) = b := ⟨_, rfl⟩
  obtain ⟨ct, hct⟩ : ∃ b, (s.toList == []) = b := ⟨_, rfl⟩
  have HE := show isK ⟨kd, n, s⟩ = (b1 && b2 && (kd != 2 || c0) && b4 && (kd != 1 || ct)) by unfold isK; rw [hb1, hb2, show K.t ⟨kd, n, s⟩ = s.data.toList from rfl, hb4, ← hct, ByteArray.toList_eq, ← hc0]
  have HB := Lib.hid (fun o => below_alloc (Below.refl w.heap.size w) o (Nat.le_refl _))
  clear hb1 hb2 hb4
  rcases (show kd = 1 ∨ kd = 2 ∨ (kd ≠ 1 ∧ kd ≠ 2) by omega) with rfl | rfl | ⟨hk1, hk2⟩
  · rw [show isK ⟨1, n, s⟩ = (b1 && (b2 && (b4 && ct))) by rw [HE]; cases b1 <;> cases b2 <;> cases b4 <;> cases ct <;> rfl]
    clear HE hc0
    rcases (show b1 = false ∨ (b1 = true ∧ b2 = false) ∨ (b1 = true ∧ b2 = true ∧ b4 = false) ∨ (b1 = true ∧ b2 = true ∧ b4 = true) by cases b1 <;> cases b2 <;> cases b4 <;> simp) with rfl | ⟨rfl, rfl⟩ | ⟨rfl, rfl, rfl⟩ | ⟨rfl, rfl, rfl⟩
    all_goals
      go_enter Try.func16, Try.ntmps16
      go_wp2_with (first
        | (go_at_call 43; with_reducible refine (H1.out _).mono ?_; rintro e w1 ⟨rfl, rfl⟩)
        | (go_at_call 43; with_reducible refine (H2.out _).mono ?_; rintro e w1 ⟨rfl, rfl⟩)
        | (go_at_call 44; refine (H4.out _).mono ?_; rintro e w1 ⟨rfl, rfl⟩))
      go_ret
      exact ⟨rfl, HB.out _⟩
  · rw [show isK ⟨2, n, s⟩ = (b1 && (b2 && (c0 && b4))) by rw [HE]; cases b1 <;> cases b2 <;> cases b4 <;> cases c0 <;> rfl]
    clear HE hct
    rcases (show b1 = false ∨ (b1 = true ∧ b2 = false) ∨ (b1 = true ∧ b2 = true ∧ c0 = false) ∨ (b1 = true ∧ b2 = true ∧ c0 = true ∧ b4 = false) ∨ (b1 = true ∧ b2 = true ∧ c0 = true ∧ b4 = true) by cases b1 <;> cases b2 <;> cases c0 <;> cases b4 <;> simp) with rfl | ⟨rfl, rfl⟩ | ⟨rfl, rfl, rfl⟩ | ⟨rfl, rfl, rfl, rfl⟩ | ⟨rfl, rfl, rfl, rfl⟩
    all_goals
      go_enter Try.func16, Try.ntmps16
      go_wp2_with (first
        | (go_at_call 43; with_reducible refine (H1.out _).mono ?_; rintro e w1 ⟨rfl, rfl⟩)
        | (go_at_call 43; with_reducible refine (H2.out _).mono ?_; rintro e w1 ⟨rfl, rfl⟩)
        | (go_at_call 44; refine (H4.out _).mono ?_; rintro e w1 ⟨rfl, rfl⟩))
      go_ret
      exact ⟨rfl, HB.out _⟩
  · have hk1' : (kd == 1) = false := by simpa using hk1
    have hk2' : (kd == 2) = false := by simpa using hk2
    rw [show isK ⟨kd, n, s⟩ = (b1 && (b2 && b4)) by rw [HE]; unfold bne; rw [hk1', hk2']; cases b1 <;> cases b2 <;> cases b4 <;> rfl]
    clear HE hct hc0
    replace hk1 : ¬ kd = 1 := hk1
    replace hk2 : ¬ kd = 2 := hk2
    rcases (show b1 = false ∨ (b1 = true ∧ b2 = false) ∨ (b1 = true ∧ b2 = true ∧ b4 = false) ∨ (b1 = true ∧ b2 = true ∧ b4 = true) by cases b1 <;> cases b2 <;> cases b4 <;> simp) with rfl | ⟨rfl, rfl⟩ | ⟨rfl, rfl, rfl⟩ | ⟨rfl, rfl, rfl⟩
    all_goals
      go_enter Try.func16, Try.ntmps16
      go_wp2_with (first
        | (go_at_call 43; with_reducible refine (H1.out _).mono ?_; rintro e w1 ⟨rfl, rfl⟩)
        | (go_at_call 43; with_reducible refine (H2.out _).mono ?_; rintro e w1 ⟨rfl, rfl⟩)
        | (go_at_call 44; refine (H4.out _).mono ?_; rintro e w1 ⟨rfl, rfl⟩))
      go_ret
      exact ⟨rfl, HB.out _⟩
end Go.Proofs.Ytenmdecooamaaaa.L4
