/-
  The contract of InRangeOf of the program. Conditions: texts of at most 2^48 bytes.
-/
import Derived.Test.YtkfejjoehgipmaaL4Im4
namespace Go.Proofs.Ytkfejjoehgipmaa.L4
open Go.Op (bytesLess)
open Go.ChangeShapes Go.WideShapes Go.ChangeAt Go.RowKit Mem Sl Ex L2
set_option maxRecDepth 100000
set_option linter.unusedVariables false

set_option maxHeartbeats 4000000 in
theorem implInRangeOf_any (k : K) (r : R) (h0 : k.text.size ≤ 281474976710656) (h1 : r.lo.text.size ≤ 281474976710656) (h2 : r.hi.text.size ≤ 281474976710656) (w : World) :
    Calls Try.prog 84 #[k.v, r.v] w fun e w' => e = .returned (.bool (inR k r)) ∧ Below w.heap.size w w' := by
  obtain ⟨w2, hw2⟩ : ∃ w2, w2 = (w.alloc (.cells k.cells 28)).alloc (.cells r.cells 45) := ⟨_, rfl⟩
  have st0 : Hid (St w w2 28 45 k r) := by
    rw [hw2]
    refine ⟨(Row.made w _ _).more _, ?_, below_alloc (below_alloc (Below.refl _ _) _ (Nat.le_refl _)) _ (Nat.le_refl _)⟩
    rw [show w.heap.size + 1 = (w.alloc (.cells k.cells 28)).heap.size by simp]
    exact Row.made _ _ _
  have HK := Lib.hid (fun w => implIsKey_any k h0 w)
  have HL := Lib.hid (fun w => implIsKey_any r.lo h1 w)
  have HH := Lib.hid (fun w => implIsKey_any r.hi h2 w)
  have HCL := Lib.hid (fun w => implCompareKeys_any k r.lo h0 h1 w)
  have HCH := Lib.hid (fun w => implCompareKeys_any k r.hi h0 h2 w)
  obtain ⟨ik, hik⟩ : ∃ x, isK k = x := ⟨_, rfl⟩
  obtain ⟨il, hil⟩ : ∃ x, isK r.lo = x := ⟨_, rfl⟩
  obtain ⟨ih, hih⟩ : ∃ x, isK r.hi = x := ⟨_, rfl⟩
  obtain ⟨cl, hcl⟩ : ∃ x, cmpK k r.lo = x := ⟨_, rfl⟩
  obtain ⟨ch, hch⟩ : ∃ x, cmpK k r.hi = x := ⟨_, rfl⟩
  have HE := show inR k r = (ik && ((!r.hl || il) && ((!r.hh || ih) && ((!r.hl || decide (-cl ≤ 0)) && (!r.hh || decide (ch ≤ 0)))))) by unfold inR; rw [hik, hil, hih, cmpK_swap k r.lo, hcl, hch]
  rw [HE]
  rw [hik] at HK
  rw [hil] at HL
  rw [hih] at HH
  rw [hcl] at HCL
  rw [hch] at HCH
  clear HE hik hil hih hcl hch
  obtain ⟨kd, n, s⟩ := k
  obtain ⟨hl, hh, ⟨ka, na, sa⟩, ⟨kb, nb, sb⟩⟩ := r
  obtain ⟨dl, hdl⟩ : ∃ b, decide (-cl ≤ 0) = b := ⟨_, rfl⟩
  obtain ⟨dh, hdh⟩ : ∃ b, decide (ch ≤ 0) = b := ⟨_, rfl⟩
  rw [hdl, hdh]
  have gl : (dl = true ∧ ¬ cl < 0) ∨ (dl = false ∧ cl < 0) := by
    by_cases h : cl < 0
    · exact .inr ⟨by rw [← hdl, decide_eq_false (by omega)], h⟩
    · exact .inl ⟨by rw [← hdl, decide_eq_true (by omega)], h⟩
  have gh : (dh = true ∧ ¬ 0 < ch) ∨ (dh = false ∧ 0 < ch) := by
    by_cases h : 0 < ch
    · exact .inr ⟨by rw [← hdh, decide_eq_false (by omega)], h⟩
    · exact .inl ⟨by rw [← hdh, decide_eq_true (by omega)], h⟩
  simp only [K.v, R.v, K.cells, R.cells] at HK HL HH HCL HCH hw2 ⊢
  clear h0 h1 h2 hdl hdh
  rcases (show (ik = false) ∨ (ik = true ∧ hl = true ∧ il = false) ∨ (ik = true ∧ hl = true ∧ il = true ∧ dl = false ∧ cl < 0) ∨ (ik = true ∧ hl = true ∧ il = true ∧ dl = true ∧ ¬ cl < 0 ∧ hh = false) ∨ (ik = true ∧ hl = true ∧ il = true ∧ dl = true ∧ ¬ cl < 0 ∧ hh = true ∧ ih = false) ∨ (ik = true ∧ hl = true ∧ il = true ∧ dl = true ∧ ¬ cl < 0 ∧ hh = true ∧ ih = true ∧ dh = true ∧ ¬ 0 < ch) ∨ (ik = true ∧ hl = true ∧ il = true ∧ dl = true ∧ ¬ cl < 0 ∧ hh = true ∧ ih = true ∧ dh = false ∧ 0 < ch) ∨ (ik = true ∧ hl = false ∧ hh = false) ∨ (ik = true ∧ hl = false ∧ hh = true ∧ ih = false) ∨ (ik = true ∧ hl = false ∧ hh = true ∧ ih = true ∧ dh = true ∧ ¬ 0 < ch) ∨ (ik = true ∧ hl = false ∧ hh = true ∧ ih = true ∧ dh = false ∧ 0 < ch) by
    rcases gl with ⟨rfl, g1⟩ | ⟨rfl, g1⟩ <;> rcases gh with ⟨rfl, g2⟩ | ⟨rfl, g2⟩ <;> cases ik <;> cases hl <;> cases il <;> cases hh <;> cases ih <;> simp [g1, g2]) with rfl | ⟨rfl, rfl, rfl⟩ | ⟨rfl, rfl, rfl, rfl, hL⟩ | ⟨rfl, rfl, rfl, rfl, hL, rfl⟩ | ⟨rfl, rfl, rfl, rfl, hL, rfl, rfl⟩ | ⟨rfl, rfl, rfl, rfl, hL, rfl, rfl, rfl, hH⟩ | ⟨rfl, rfl, rfl, rfl, hL, rfl, rfl, rfl, hH⟩ | ⟨rfl, rfl, rfl⟩ | ⟨rfl, rfl, rfl, rfl⟩ | ⟨rfl, rfl, rfl, rfl, rfl, hH⟩ | ⟨rfl, rfl, rfl, rfl, rfl, hH⟩
  all_goals
    clear gl gh
    go_enter Try.func84, Try.ntmps84
    go_wp2_with fail
    go_at_call 77
    rw [← hw2]
    clear hw2
    with_reducible refine (HK.out w2).mono ?_
    rintro e w3 ⟨rfl, hb⟩
    have st := St.next st0 hb
    clear hb
    obtain ⟨⟨x0, x1, x2⟩, y0, y1, y2, y3, y4, y5, y6, y7⟩ := St.facts st
    go_wp2_with (first
      | (go_at_call 77; with_reducible refine (HL.out _).mono ?_; rintro e wn ⟨rfl, hb⟩; have st := St.next (by assumption) hb; clear hb; obtain ⟨⟨x0, x1, x2⟩, y0, y1, y2, y3, y4, y5, y6, y7⟩ := St.facts st)
      | (go_at_call 77; with_reducible refine (HH.out _).mono ?_; rintro e wn ⟨rfl, hb⟩; have st := St.next (by assumption) hb; clear hb; obtain ⟨⟨x0, x1, x2⟩, y0, y1, y2, y3, y4, y5, y6, y7⟩ := St.facts st)
      | (go_at_call 79; with_reducible refine (HCL.out _).mono ?_; rintro e wn ⟨rfl, hb⟩; have st := St.next (by assumption) hb; clear hb; obtain ⟨⟨x0, x1, x2⟩, y0, y1, y2, y3, y4, y5, y6, y7⟩ := St.facts st)
      | (go_at_call 79; with_reducible refine (HCH.out _).mono ?_; rintro e wn ⟨rfl, hb⟩; have st := St.next (by assumption) hb; clear hb; obtain ⟨⟨x0, x1, x2⟩, y0, y1, y2, y3, y4, y5, y6, y7⟩ := St.facts st))
    go_ret
    exact ⟨by simp, st.out.b⟩
end Go.Proofs.Ytkfejjoehgipmaa.L4
