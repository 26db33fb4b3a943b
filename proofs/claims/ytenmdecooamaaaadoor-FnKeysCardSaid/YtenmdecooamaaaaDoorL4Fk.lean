/-
  The contract of chapter 4's FormatKey of the specification. Condition: a text of at most 2^40 bytes.
-/
import Derived.Test.YtenmdecooamaaaaDoorL4Law
import Derived.Test.YtenmdecooamaaaaDoorL1Fmt
namespace Go.Proofs.YtenmdecooamaaaaDoor.L4
open Go.ChangeShapes Go.WideShapes Go.ChangeAt Go.RowKit Mem Sl Ex L2
set_option linter.unusedVariables false

theorem ba_ext {a b : ByteArray} (h : a.data.toList = b.data.toList) : a = b := by
  obtain ⟨⟨x⟩⟩ := a
  obtain ⟨⟨y⟩⟩ := b
  simp at h
  rw [h]
theorem ba_append (a b : ByteArray) : (a ++ b).data.toList = a.data.toList ++ b.data.toList := by simp
theorem ba_size (a : ByteArray) : a.size = a.data.toList.length := by rw [Array.length_toList]; rfl
def strU (u : List UInt8) : ByteArray := ⟨u.toArray⟩
theorem strU_data (u : List UInt8) : (strU u).data.toList = u := by simp [strU]
theorem fmt_1 {n : Int} {s T : ByteArray} (h : isK ⟨1, n, s⟩ = true) (hT : T.data.toList = Lib.itoa n) : T = strU (fmtU ⟨1, n, s⟩) := ba_ext (by rw [strU_data, fmtU_good h, hT]; simp)
theorem fmt_2 {n : Int} {s : ByteArray} (h : isK ⟨2, n, s⟩ = true) : (⟨#[39]⟩ : ByteArray) ++ s = strU (fmtU ⟨2, n, s⟩) := ba_ext (by rw [strU_data, fmtU_good h, ba_append]; simp [K.t])
theorem fmt_3 {kd n : Int} {s T : ByteArray} (h : isK ⟨kd, n, s⟩ = true) (h1 : ¬ kd = 1) (h2 : ¬ kd = 2) (hT : T.data.toList = Lib.itoa n) : T ++ ⟨#[39]⟩ ++ s = strU (fmtU ⟨kd, n, s⟩) := ba_ext (by rw [strU_data, fmtU_good h, ba_append, ba_append, hT]; simp [K.t, h1, h2])

set_option maxHeartbeats 1000000 in
theorem specFormatKey_any (k : K) (hs : k.text.size ≤ 1099511627776) (w : World) :
    Calls Tryd.prog 18 #[k.v] w fun e w' => e = .returned (.string (strU (fmtU k))) ∧ Below w.heap.size w w' := by
  obtain ⟨w2, hw2⟩ : ∃ w2, w2 = w.alloc (.cells k.cells 25) := ⟨_, rfl⟩
  have ba : Box w2 w.heap.size 25 k := by rw [hw2]; exact Box.made w _ k
  have hbl : Below w.heap.size w w2 := by rw [hw2]; exact below_alloc (Below.refl _ _) _ (Nat.le_refl _)
  have H1 := Lib.hid (fun w => specIsKey_any k (by omega) w)
  obtain ⟨ia, hia⟩ : ∃ x, isK k = x := ⟨_, rfl⟩
  rw [hia] at H1
  obtain ⟨kd, n, s⟩ := k
  simp only [K.v, K.cells] at H1 hw2 ⊢
  have hs' : (s.size : Int) ≤ 1099511627776 := by have : s.size ≤ 1099511627776 := hs; omega
  clear hs
  go_enter Tryd.func18, Tryd.ntmps18
  go_wp2_with fail
  go_at_call 36
  rw [← hw2]
  refine (H1.out w2).mono ?_
  rintro e w3 ⟨rfl, h3⟩
  have BA := Lib.hid (And.intro (ba.below h3) (hbl.trans (h3.mono hbl.size)))
  clear hw2 ba hbl h3 H1
  cases ia with
  | false =>
    have HE := Lib.hid (show strU (fmtU ⟨kd, n, s⟩) = ⟨#[]⟩ by unfold fmtU; rw [hia]; rfl)
    go_wp2_with fail
    go_ret
    rw [HE.out]
    exact ⟨rfl, BA.out.2⟩
  | true =>
    have g := isK_iff.1 hia
    have k0 : 1 ≤ kd := g.k0
    have k1 : kd ≤ 3 := g.k1
    have n0 : -1000000000000 ≤ n := g.n0
    have n1 : n ≤ 1000000000000 := g.n1
    obtain ⟨b0, b1, b2⟩ := BA.out.1.facts
    obtain ⟨T, hT⟩ : ∃ T : ByteArray, T = ⟨(Lib.itoa n).toArray⟩ := ⟨_, rfl⟩
    have hTd : T.data.toList = Lib.itoa n := by rw [hT]
    have hTs : (T.size : Int) ≤ 30 := by
      have := Lib.itoa_length_le n (by omega) (by omega)
      rw [ba_size, hTd]
      omega
    have HF := Lib.hid (fun w => L1.specFormatInt_any n (by omega) (by omega) w)
    rw [← hT] at HF
    clear hT
    rcases (show kd = 1 ∨ kd = 2 ∨ (¬ kd = 1 ∧ ¬ kd = 2) by omega) with rfl | rfl | ⟨hk1, hk2⟩
    · have HE := Lib.hid (fmt_1 hia hTd)
      clear hTd
      go_wp2_with fail
      go_at_call 39
      refine (HF.out w3).mono ?_
      rintro e w4 ⟨rfl, h4⟩
      have BA4 := Lib.hid (And.intro (BA.out.1.below h4) (BA.out.2.trans (h4.mono BA.out.2.size)))
      clear h4 b0 b1 b2
      obtain ⟨b0, b1, b2⟩ := BA4.out.1.facts
      go_wp2_with fail
      go_ret
      exact ⟨by rw [← HE.out]; rfl, BA4.out.2⟩
    · have HE := Lib.hid (fmt_2 hia)
      clear hTd
      go_wp2_with fail
      go_ret
      exact ⟨by rw [← HE.out]; rfl, BA.out.2⟩
    · have HE := Lib.hid (fmt_3 hia hk1 hk2 hTd)
      clear hTd
      go_wp2_with fail
      go_at_call 39
      refine (HF.out w3).mono ?_
      rintro e w4 ⟨rfl, h4⟩
      have BA4 := Lib.hid (And.intro (BA.out.1.below h4) (BA.out.2.trans (h4.mono BA.out.2.size)))
      clear h4 b0 b1 b2
      obtain ⟨b0, b1, b2⟩ := BA4.out.1.facts
      go_wp2_with fail
      go_ret
      exact ⟨by rw [← HE.out]; rfl, BA4.out.2⟩
end Go.Proofs.YtenmdecooamaaaaDoor.L4
