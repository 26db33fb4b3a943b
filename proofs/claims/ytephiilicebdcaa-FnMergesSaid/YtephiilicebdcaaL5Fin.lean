/-
  Plain mathematics of chapter 5's promise: a merge with the base gives the other side, a merge with itself the side; a field that was set is found until it is removed. No condition.
-/
import Derived.Test.YtephiilicebdcaaL5Gm
namespace Go.Proofs.Ytephiilicebdcaa.L5
set_option maxRecDepth 100000
open Go.Op (bytesLess)

theorem mrg_base (n x : Int) (h o : Bool) : mrg n x n h o h = (x, o) := by
  unfold mrg
  by_cases h1 : x = n ∧ o = h
  · rw [if_pos h1, h1.1, h1.2]
  · rw [if_neg h1, if_pos ⟨rfl, rfl⟩]
theorem mrg_same (n x : Int) (h o : Bool) : mrg n x x h o o = (x, o) := by
  unfold mrg
  by_cases h1 : x = n ∧ o = h
  · rw [if_pos h1]
  · rw [if_neg h1, if_neg h1, Int.max_self, Bool.or_self]
theorem pick_getO {a b : List F} {s : List UInt8} : (if hasN a b s && getB a s then some (getN a s) else none) = getO a s := by
  unfold getB getN hasN
  cases getO a s with
  | none => simp
  | some x => simp
/-- A merge in which only one side changed. -/
theorem mgO_right {l a : List F} (hl : isR l = true) (ha : isR a = true) : mgO l a l = a := by
  refine asc_ext (asc_mgO (isR_asc ha) (isR_asc hl)) (isR_asc ha) (fun s => ?_)
  rw [getO_mgO]
  unfold mO mB mN
  rw [mrg_base]
  exact pick_getO
theorem mgO_left {l b : List F} (hl : isR l = true) (hb : isR b = true) : mgO l l b = b := by rw [mgO_comm, mgO_right hl hb]
/-- A merge in which both sides are the same. -/
theorem mgO_self {l a : List F} (ha : isR a = true) : mgO l a a = a := by
  refine asc_ext (asc_mgO (isR_asc ha) (isR_asc ha)) (isR_asc ha) (fun s => ?_)
  rw [getO_mgO]
  unfold mO mB mN
  rw [mrg_same]
  exact pick_getO
theorem mgB_facts {l a b : List F} (h : mgB l a b = true) : isR l = true ∧ isR a = true ∧ isR b = true ∧ isR (mgO l a b) = true := by
  unfold mgB at h
  simp only [Bool.and_eq_true] at h
  exact ⟨h.1.1.1, h.1.1.2, h.1.2, h.2⟩
theorem mgL_no {l a b : List F} (h : mgB l a b = false) : mgL l a b = a := by unfold mgL; rw [h]; rfl
theorem mgL_yes {l a b : List F} (h : mgB l a b = true) : mgL l a b = mgO l a b := by unfold mgL; rw [h]; rfl
theorem mgs_turn {l a b : List F} (h : mgB l a b = true) : mgB l b a = true ∧ mgL l b a = mgL l a b := by
  have h2 : mgB l b a = true := by rw [mgB_comm]; exact h
  exact ⟨h2, by rw [mgL_yes h, mgL_yes h2, mgO_comm]⟩
theorem mgs_right {l a b : List F} (h : mgB l a b = true) : mgB l a l = true ∧ mgL l a l = a := by
  obtain ⟨h1, h2, h3, _⟩ := mgB_facts h
  have hb : mgB l a l = true := by unfold mgB; rw [mgO_right h1 h2, h1, h2]; rfl
  exact ⟨hb, by rw [mgL_yes hb, mgO_right h1 h2]⟩
theorem mgs_left {l a b : List F} (h : mgB l a b = true) : mgB l l b = true ∧ mgL l l b = b := by
  obtain ⟨h1, h2, h3, _⟩ := mgB_facts h
  have hb : mgB l l b = true := by unfold mgB; rw [mgO_left h1 h3, h1, h3]; rfl
  exact ⟨hb, by rw [mgL_yes hb, mgO_left h1 h3]⟩
theorem mgs_self {l a b : List F} (h : mgB l a b = true) : mgB l a a = true ∧ mgL l a a = a := by
  obtain ⟨h1, h2, h3, _⟩ := mgB_facts h
  have hb : mgB l a a = true := by unfold mgB; rw [mgO_self h2, h1, h2]; rfl
  exact ⟨hb, by rw [mgL_yes hb, mgO_self h2]⟩

/-! ### set, found, removed, gone -/
theorem set_facts {l : List F} {s : ByteArray} {x : Int} (h : setB l s x = true) : isR l = true ∧ isR (putF l s x) = true ∧ setL l s x = putF l s x := by
  have h1 := h
  unfold setB at h1
  simp only [Bool.and_eq_true] at h1
  refine ⟨h1.1, h1.2, ?_⟩
  unfold setL
  rw [h1.1, h1.2]; rfl
theorem set_no {l : List F} {s : ByteArray} {x : Int} (h : setB l s x = false) : setL l s x = l := by
  unfold setB at h
  unfold setL
  rw [h]; rfl
theorem set_found {l : List F} {s : ByteArray} {x : Int} (h : setB l s x = true) : getO (setL l s x) s.data.toList = some x := by
  obtain ⟨h1, h2, h3⟩ := set_facts h
  rw [h3, getO_put (isR_asc h1)]
  unfold upd
  rw [if_pos rfl]
theorem set_gone {l : List F} {s : ByteArray} {x : Int} (h : setB l s x = true) : remB (setL l s x) s.data.toList = true ∧ getB (remL (setL l s x) s.data.toList) s.data.toList = false := by
  obtain ⟨h1, h2, h3⟩ := set_facts h
  have hg := set_found h
  have hr : isR (setL l s x) = true := by rw [h3]; exact h2
  have hb : getB (setL l s x) s.data.toList = true := by unfold getB; rw [hg]; rfl
  have hc : (isR (setL l s x) && !((remF (setL l s x) s.data.toList).length == (setL l s x).length)) = true := by rw [rem_len, hr, hb]; rfl
  refine ⟨by unfold remB; exact hc, ?_⟩
  unfold remL
  rw [if_pos hc]
  unfold getB
  rw [getO_rem]
  unfold era
  rw [if_pos rfl]; rfl
end Go.Proofs.Ytephiilicebdcaa.L5
