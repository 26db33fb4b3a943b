/-
  A function that writes into a row that was handed to it: what else the caller owns, as one thing that stays. No condition.
-/
import Derived.Test.YtkfejjoehgipmaaRun
namespace Go.Proofs.Ytkfejjoehgipmaa.Run
set_option maxRecDepth 100000
open Go.ChangeShapes Go.WideShapes Go.ChangeAt Go.RowKit Mem Sl Sv Bag
set_option linter.unusedVariables false

def restR (W w0 : World) (g : Nat) : Res where
  fp := (List.range w0.heap.size).filter fun b => decide (W.heap.size ≤ b) && decide (b ≠ g)
  is w := ∀ b, b < w0.heap.size → W.heap.size ≤ b → b ≠ g → w.heap[b]? = w0.heap[b]?
  loc := fun hs h b h1 h2 h3 => (hs b (List.mem_filter.2 ⟨List.mem_range.2 h1, by simp [h2, h3]⟩)).trans (h b h1 h2 h3)
theorem over_mid (A C vs old : List Value) (o : Nat) (h : A.length = o) (hv : vs.length = old.length) : over (A ++ (old ++ C)) o vs = A ++ (vs ++ C) := by
  rw [over_at _ _ _ _ h (by rw [List.length_append]; omega), hv, List.drop_left]
section
variable {W w w0 w' : World} {rs : List Res} {e : TypeId} {k c n g : Nat} {xs : List Value}
theorem rest_start (h : Sep W w rs) (i : Nat) (hi : rs[i]? = some (ownV e k (some ⟨g, 0, none⟩) c n xs)) : Sep W w [ownV e k (some ⟨g, 0, none⟩) c n xs, restR W w g] := by
  refine ⟨h.old, fun j r hj => ?_, fun j r hj b hb => ?_, fun j q r s hj hq hne b hb hb2 => ?_⟩
  · rcases j with _ | _ | j
    · simp at hj; subst hj; exact h.is i _ hi
    · simp at hj; subst hj; exact fun b _ _ _ => rfl
    · simp at hj
  · rcases j with _ | _ | j
    · simp at hj; subst hj; exact h.lies i _ hi b hb
    · simp at hj; subst hj
      obtain ⟨h1, h2⟩ := List.mem_filter.1 hb
      simp only [Bool.and_eq_true, decide_eq_true_eq] at h2
      exact ⟨h2.1, List.mem_range.1 h1⟩
    · simp at hj
  · have own : ∀ b, b ∈ (ownV e k (some ⟨g, 0, none⟩) c n xs).fp → b = g := fun b hb => by simpa [ownV, Value.ownBlock] using hb
    have rst : ∀ b, b ∈ (restR W w g).fp → b ≠ g := fun b hb => by
      obtain ⟨_, h2⟩ := List.mem_filter.1 hb
      simp only [Bool.and_eq_true, decide_eq_true_eq] at h2
      exact h2.2
    rcases j with _ | _ | j <;> rcases q with _ | _ | q
    · exact hne rfl
    · simp at hj hq; subst hj; subst hq; exact rst b hb2 (own b hb)
    · simp at hq
    · simp at hj hq; subst hj; subst hq; exact rst b hb (own b hb2)
    · exact hne rfl
    · simp at hq
    · simp at hj
    · simp at hj
    · simp at hj
theorem rest_block (h0 : Below W.heap.size W w0) (h : Sep W w' (ownV e k (some ⟨g, 0, none⟩) c n xs :: restR W w0 g :: rs)) (b : Nat) (hb : b < w0.heap.size) (hg : b ≠ g) : w'.heap[b]? = w0.heap[b]? := by
  rcases Nat.lt_or_ge b W.heap.size with h1 | h1
  · exact (h.old.block b h1).trans (h0.block b h1).symm
  · exact (h.is 1 (restR W w0 g) rfl) b hb h1 hg
theorem rest_turned (h0 : Below W.heap.size W w0) (h : Sep W w' (ownV e k (some ⟨g, 0, none⟩) c n xs :: restR W w0 g :: rs)) : Turned [g] w0 w' := by
  have key := rest_block h0 h
  refine ⟨h.old.os.trans h0.os.symm, h.old.tape.trans h0.tape.symm, h.old.output.trans h0.output.symm, ?_, fun b hb hn => key b hb (by simpa using hn)⟩
  rcases Nat.eq_zero_or_pos w0.heap.size with h1 | h1
  · omega
  · by_cases e1 : w0.heap.size - 1 = g
    · have h2 := (h.lies 0 _ rfl g (by simp [ownV, Value.ownBlock])).2
      omega
    · have h2 := key (w0.heap.size - 1) (by omega) e1
      have h3 := (Array.getElem?_eq_some_iff.1 (h2.trans (Array.getElem?_eq_getElem (show w0.heap.size - 1 < w0.heap.size by omega)))).1
      omega
theorem rest_back {c' n' : Nat} {xs' : List Value} (h : Sep W w rs) (i : Nat) (hi : rs[i]? = some (ownV e k (some ⟨g, 0, none⟩) c n xs)) (h' : Sep W w' [ownV e k (some ⟨g, 0, none⟩) c' n' xs', restR W w g]) : Sep W w' (rs.set i (ownV e k (some ⟨g, 0, none⟩) c' n' xs')) :=
  h.put i hi (by have := rest_turned h.old h'; simpa [ownV, Value.ownBlock] using this) (h'.is 0 _ rfl) (fun b hb => by simpa [ownV, Value.ownBlock] using hb)
theorem reads_app {B o : Nat} {A Bs : List Value} (h : Reads w B (some ⟨g, o, none⟩) (A ++ Bs)) : Reads w B (some ⟨g, o + A.length, none⟩) Bs := fun j hj => by
  obtain ⟨ad, e, hb, hc⟩ := h (A.length + j) (by rw [List.length_append]; omega)
  injection e with e
  subst e
  refine ⟨_, rfl, hb, ?_⟩
  rw [Addr.add_lit] at hc ⊢
  rw [Nat.add_assoc, hc, List.getElem_append_right (by omega)]
  congr 2
  omega
theorem reads_four {B o : Nat} {v0 v1 v2 v3 : Value} {r : List Value} (h : Reads w B (some ⟨g, o, none⟩) (v0 :: v1 :: v2 :: v3 :: r)) : w.cell? ⟨g, o, none⟩ = some v0 ∧ w.cell? ⟨g, o + 1, none⟩ = some v1 ∧ w.cell? ⟨g, o + 2, none⟩ = some v2 ∧ w.cell? ⟨g, o + 3, none⟩ = some v3 := by
  have key : ∀ j (hj : j < (v0 :: v1 :: v2 :: v3 :: r).length), w.cell? ⟨g, o + j, none⟩ = some (v0 :: v1 :: v2 :: v3 :: r)[j] := fun j hj => by
    obtain ⟨ad, e, _, hc⟩ := h j hj
    injection e with e
    subst e
    rwa [Addr.add_lit] at hc
  exact ⟨key 0 (by simp), key 1 (by simp), key 2 (by simp), key 3 (by simp)⟩
/-! the same for a thing of several blocks -/
def restL (W w0 : World) (fps : List Nat) : Res where
  fp := (List.range w0.heap.size).filter fun b => decide (W.heap.size ≤ b) && decide (b ∉ fps)
  is w := ∀ b, b < w0.heap.size → W.heap.size ≤ b → b ∉ fps → w.heap[b]? = w0.heap[b]?
  loc := fun hs h b h1 h2 h3 => (hs b (List.mem_filter.2 ⟨List.mem_range.2 h1, by simp [h2, h3]⟩)).trans (h b h1 h2 h3)
theorem restL_start {r : Res} (h : Sep W w rs) (i : Nat) (hi : rs[i]? = some r) : Sep W w [r, restL W w r.fp] := by
  have rst : ∀ b, b ∈ (restL W w r.fp).fp → b ∉ r.fp := fun b hb => by
    obtain ⟨_, h2⟩ := List.mem_filter.1 hb
    simp only [Bool.and_eq_true, decide_eq_true_eq] at h2
    exact h2.2
  refine ⟨h.old, fun j s hj => ?_, fun j s hj b hb => ?_, fun j q s t hj hq hne b hb hb2 => ?_⟩
  · rcases j with _ | _ | j
    · simp at hj; subst hj; exact h.is i _ hi
    · simp at hj; subst hj; exact fun b _ _ _ => rfl
    · simp at hj
  · rcases j with _ | _ | j
    · simp at hj; subst hj; exact h.lies i _ hi b hb
    · simp at hj; subst hj
      obtain ⟨h1, h2⟩ := List.mem_filter.1 hb
      simp only [Bool.and_eq_true, decide_eq_true_eq] at h2
      exact ⟨h2.1, List.mem_range.1 h1⟩
    · simp at hj
  · rcases j with _ | _ | j <;> rcases q with _ | _ | q
    · exact hne rfl
    · simp at hj hq; subst hj; subst hq; exact rst b hb2 hb
    · simp at hq
    · simp at hj hq; subst hj; subst hq; exact rst b hb hb2
    · exact hne rfl
    · simp at hq
    · simp at hj
    · simp at hj
    · simp at hj
theorem restL_turned {r : Res} {fps : List Nat} (h0 : Below W.heap.size W w0) (h : Sep W w' [r, restL W w0 fps]) (hfp : ∀ b ∈ fps, b ∈ r.fp) : Turned fps w0 w' := by
  have key : ∀ b, b < w0.heap.size → b ∉ fps → w'.heap[b]? = w0.heap[b]? := fun b hb hn => by
    rcases Nat.lt_or_ge b W.heap.size with h1 | h1
    · exact (h.old.block b h1).trans (h0.block b h1).symm
    · exact (h.is 1 (restL W w0 fps) rfl) b hb h1 hn
  refine ⟨h.old.os.trans h0.os.symm, h.old.tape.trans h0.tape.symm, h.old.output.trans h0.output.symm, ?_, key⟩
  rcases Nat.eq_zero_or_pos w0.heap.size with h1 | h1
  · omega
  · by_cases e1 : w0.heap.size - 1 ∈ fps
    · have h2 := (h.lies 0 _ rfl _ (hfp _ e1)).2
      omega
    · have h2 := key (w0.heap.size - 1) (by omega) e1
      have h3 := (Array.getElem?_eq_some_iff.1 (h2.trans (Array.getElem?_eq_getElem (show w0.heap.size - 1 < w0.heap.size by omega)))).1
      omega
theorem restL_back {r r' : Res} (h : Sep W w rs) (i : Nat) (hi : rs[i]? = some r) (h' : Sep W w' [r', restL W w r.fp]) (hfp : r'.fp = r.fp) : Sep W w' (rs.set i r') :=
  h.put i hi (restL_turned h.old h' (fun b hb => by rw [hfp]; exact hb)) (h'.is 0 _ rfl) (fun b hb => by rw [← hfp]; exact hb)
/-! several things as one, while they are not looked at -/
def allR (rs : List Res) : Res where
  fp := rs.flatMap Res.fp
  is w := (∀ (i : Nat) (r : Res), rs[i]? = some r → r.is w) ∧ ∀ (i j : Nat) (r s : Res), rs[i]? = some r → rs[j]? = some s → i ≠ j → ∀ b ∈ r.fp, b ∉ s.fp
  loc := fun hs h => ⟨fun i r hi => r.loc (fun b hb => hs b (List.mem_flatMap.2 ⟨r, List.mem_of_getElem? hi, hb⟩)) (h.1 i r hi), h.2⟩
theorem packR {us vs : List Res} (h : Sep W w (us ++ vs)) : Sep W w (us ++ [allR vs]) := by
  have at1 : ∀ (i : Nat) (r : Res), vs[i]? = some r → (us ++ vs)[us.length + i]? = some r := fun i r hi => by
    rw [List.getElem?_append_right (by omega), Nat.add_sub_cancel_left]; exact hi
  have key : ∀ (i : Nat) (r : Res), (us ++ [allR vs])[i]? = some r → (i < us.length ∧ (us ++ vs)[i]? = some r) ∨ (i = us.length ∧ r = allR vs) := fun i r hi => by
    rcases Nat.lt_trichotomy i us.length with h1 | h1 | h1
    · rw [List.getElem?_append_left h1] at hi
      exact .inl ⟨h1, by rw [List.getElem?_append_left h1]; exact hi⟩
    · rw [List.getElem?_append_right (by omega), h1, Nat.sub_self] at hi
      simp at hi
      exact .inr ⟨h1, hi.symm⟩
    · rw [List.getElem?_eq_none (by simp; omega)] at hi
      cases hi
  refine ⟨h.old, fun i r hi => ?_, fun i r hi b hb => ?_, fun i j r s hi hj hne b hb hb2 => ?_⟩
  · rcases key i r hi with ⟨_, h1⟩ | ⟨_, rfl⟩
    · exact h.is i r h1
    · exact ⟨fun j s hj => h.is _ s (at1 j s hj), fun j q s t hj hq hne => h.apart _ _ s t (at1 j s hj) (at1 q t hq) (by omega)⟩
  · rcases key i r hi with ⟨_, h1⟩ | ⟨_, rfl⟩
    · exact h.lies i r h1 b hb
    · obtain ⟨s, hs, hb⟩ := List.mem_flatMap.1 hb
      obtain ⟨j, hj⟩ := List.getElem?_of_mem hs
      exact h.lies _ s (at1 j s hj) b hb
  · rcases key i r hi with ⟨l1, h1⟩ | ⟨l1, rfl⟩ <;> rcases key j s hj with ⟨l2, h2⟩ | ⟨l2, rfl⟩
    · exact h.apart i j r s h1 h2 hne b hb hb2
    · obtain ⟨t, ht, hb2⟩ := List.mem_flatMap.1 hb2
      obtain ⟨q, hq⟩ := List.getElem?_of_mem ht
      exact h.apart i _ r t h1 (at1 q t hq) (by omega) b hb hb2
    · obtain ⟨t, ht, hb⟩ := List.mem_flatMap.1 hb
      obtain ⟨q, hq⟩ := List.getElem?_of_mem ht
      exact h.apart _ j t s (at1 q t hq) h2 (by omega) b hb hb2
    · omega
theorem unpackR {us vs : List Res} (h : Sep W w (us ++ [allR vs])) : Sep W w (us ++ vs) := by
  have hl : (us ++ [allR vs])[us.length]? = some (allR vs) := by simp
  have hall : (allR vs).is w := h.is us.length _ hl
  have key : ∀ (i : Nat) (r : Res), (us ++ vs)[i]? = some r → (i < us.length ∧ (us ++ [allR vs])[i]? = some r) ∨ (us.length ≤ i ∧ vs[i - us.length]? = some r) := fun i r hi => by
    rcases Nat.lt_or_ge i us.length with h1 | h1
    · rw [List.getElem?_append_left h1] at hi
      exact .inl ⟨h1, by rw [List.getElem?_append_left h1]; exact hi⟩
    · rw [List.getElem?_append_right h1] at hi
      exact .inr ⟨h1, hi⟩
  have inb : ∀ (i : Nat) (r : Res), vs[i]? = some r → ∀ b ∈ r.fp, b ∈ (allR vs).fp := fun i r hi b hb => List.mem_flatMap.2 ⟨r, List.mem_of_getElem? hi, hb⟩
  refine ⟨h.old, fun i r hi => ?_, fun i r hi b hb => ?_, fun i j r s hi hj hne b hb hb2 => ?_⟩
  · rcases key i r hi with ⟨_, h1⟩ | ⟨_, h1⟩
    · exact h.is i r h1
    · exact hall.1 _ r h1
  · rcases key i r hi with ⟨_, h1⟩ | ⟨_, h1⟩
    · exact h.lies i r h1 b hb
    · exact h.lies _ _ hl b (inb _ r h1 b hb)
  · rcases key i r hi with ⟨l1, h1⟩ | ⟨l1, h1⟩ <;> rcases key j s hj with ⟨l2, h2⟩ | ⟨l2, h2⟩
    · exact h.apart i j r s h1 h2 hne b hb hb2
    · exact h.apart i _ r _ h1 hl (by omega) b hb (inb _ s h2 b hb2)
    · exact h.apart _ j _ s hl h2 (by omega) b (inb _ r h1 b hb) hb2
    · exact hall.2 _ _ r s h1 h2 (by omega) b hb hb2
end
end Go.Proofs.Ytkfejjoehgipmaa.Run
