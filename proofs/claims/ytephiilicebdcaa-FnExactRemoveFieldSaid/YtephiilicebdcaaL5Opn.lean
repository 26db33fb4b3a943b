/-
  How chapter 5's arguments open: a record that came in reads as a list of fields. No condition but the form's own reach.
-/
import Derived.Test.YtephiilicebdcaaPc
import Derived.Test.YtephiilicebdcaaPa
import Derived.ChangeArms
import Derived.DataReads
namespace Go.Proofs.Ytephiilicebdcaa.L5
set_option maxRecDepth 100000
open Go.ChangeShapes Go.WideShapes Go.ChangeAt Go.RowKit Mem Sl Ex L2

/-- What a field may hold. -/
def Wide (f : F) : Prop := f.name.size ≤ maxLen ∧ (-9223372036854775808 ≤ f.n ∧ f.n ≤ 9223372036854775807)
theorem list_of {P : Nat → F → Prop} : ∀ (n : Nat), (∀ i, i < n → ∃ f, P i f) → ∃ l : List F, l.length = n ∧ ∀ i (hi : i < l.length), P i l[i]
  | 0, _ => ⟨[], rfl, fun i hi => absurd hi (by simp)⟩
  | n + 1, h => by
    obtain ⟨l, hl, hp⟩ := list_of n (fun i hi => h i (by omega))
    obtain ⟨f, hf⟩ := h n (by omega)
    refine ⟨l ++ [f], by simp [hl], fun i hi => ?_⟩
    by_cases hlt : i < l.length
    · rw [List.getElem_append_left hlt]; exact hp i hlt
    · have e : i = n := by simp at hi; omega
      subst e
      rw [List.getElem_append_right (by omega)]
      simpa using hf
section
variable {H : Type} {enc : TypeId × Value → H} {W : World} {b : Nat} {sp : Nat → Bool} {hd : Bool}
theorem trod_field {fuel : Nat} {cs : List Value} {x : DataW H × List MemPlace} (h : DataW.trod enc Try.prog W b sp hd fuel 102 cs = some x) :
    ∃ f : F, cs = f.cells ∧ Wide f := by
  obtain ⟨xs, n, _, _, hl, hlen, hf⟩ := DataW.trod_struct Try.underlying102 h
  have hl2 : cs.length = 2 := hl.trans (by kernel_rfl)
  match cs, hl2 with
  | [c0, c1], _ =>
    have h0 : DataW.trod enc Try.prog W b sp hd n 9 (List.take (Try.prog.cellsOf 9) (List.drop 0 [c0, c1])) = xs[0]? := hf 0 _ rfl
    have h1 : DataW.trod enc Try.prog W b sp hd n 3 (List.take (Try.prog.cellsOf 3) (List.drop 1 [c0, c1])) = xs[1]? := hf 1 _ rfl
    rw [show (Try.prog.cellsOf 3) = 1 by kernel_rfl] at h1
    rw [show (Try.prog.cellsOf 9) = 1 by kernel_rfl] at h0
    rw [List.getElem?_eq_getElem (by rw [hlen]; decide)] at h0 h1
    obtain ⟨s, e0, _, w0⟩ := DataW.trod_string Try.underlying9 h0
    obtain ⟨m, e1, _, w1⟩ := DataW.trod_int Try.underlying3 h1
    simp at e0 e1
    subst e0; subst e1
    exact ⟨⟨s, m⟩, rfl, w0, Law.wf_i64 w1⟩
theorem trod_fields {fuel : Nat} {cs : List Value} {x : DataW H × List MemPlace} (h : DataW.trod enc Try.prog W b sp hd fuel 43 cs = some x) (hlt : ∀ p ∈ x.2, p.block < W.heap.size) :
    ∃ (a : Option Addr) (l : List F) (c : Nat), cs = [.slice a l.length c] ∧ Reads W W.heap.size a (cellsF l) ∧ (∀ f ∈ l, Wide f) ∧ l.length ≤ maxLen := by
  rcases DataW.trod_slice Try.underlying43 h with ⟨rfl, _⟩ | ⟨a, len, cap, elems, rest, n, _, rfl, rfl, _, hll0, hmm0, hlen, hel, _, _⟩
  · exact ⟨none, [], 0, rfl, Reads.nil, (fun f hf => by cases hf), Nat.zero_le _⟩
  · have e2 : (Try.prog.cellsOf 102) = 2 := by kernel_rfl
    rw [e2] at hel hlt
    obtain ⟨l, hll, hp⟩ := list_of (P := fun i f => W.cell? (a.add (i * 2)) = some (.string f.name) ∧ W.cell? (a.add (i * 2 + 1)) = some (.int .i64 f.n) ∧ Wide f) len (fun i hi => by
      have h1 := hel i hi
      rw [List.getElem?_eq_getElem (by omega), Option.bind_eq_some_iff] at h1
      obtain ⟨cs, hc, ht⟩ := h1
      obtain ⟨f, rfl, hw⟩ := trod_field ht
      obtain ⟨_, _, h3⟩ := World.cells?_some hc
      have q0 := h3 0 (by omega)
      have q1 := h3 1 (by omega)
      rw [add_add] at q0 q1
      exact ⟨f, q0, q1, hw⟩)
    subst hll
    refine ⟨some a, l, cap, rfl, fun j hj => ?_, fun f hf => ?_, Nat.le_trans hll0 hmm0⟩
    · rw [cellsF_length] at hj
      refine ⟨a, rfl, ?_, ?_⟩
      · have := hlt (MemPlace.cell a.block (a.off + 0)) (List.mem_append_left _ (List.mem_map.2 ⟨0, List.mem_range.2 (by omega), rfl⟩))
        simpa [MemPlace.block] using this
      · have hk : j / 2 < l.length := by omega
        obtain ⟨c0, c1⟩ := cellsF_at l (j / 2) hk
        obtain ⟨p0, p1, _⟩ := hp (j / 2) hk
        rcases (show j = j / 2 * 2 ∨ j = j / 2 * 2 + 1 by omega) with e | e
        · have : (cellsF l)[j]? = some (.string l[j / 2].name) := by rw [← c0]; exact congrArg _ e
          rw [List.getElem?_eq_getElem (by rw [cellsF_length]; exact hj)] at this
          rw [Option.some.inj this, ← p0]
          exact congrArg (fun q => W.cell? (a.add q)) e
        · have : (cellsF l)[j]? = some (.int .i64 l[j / 2].n) := by rw [← c1]; exact congrArg _ e
          rw [List.getElem?_eq_getElem (by rw [cellsF_length]; exact hj)] at this
          rw [Option.some.inj this, ← p1]
          exact congrArg (fun q => W.cell? (a.add q)) e
    · obtain ⟨i, hi, rfl⟩ := List.getElem_of_mem hf
      exact (hp i hi).2.2
theorem open_record {b0 : Nat} {v : Value} {d : DataW H} {ps : List MemPlace} (hval : Value.okWide Try.prog W .any b0 45 v) (h0 : DataW.Trod enc Try.prog W b sp hd 45 v d ps) (hlt : ∀ p ∈ ps, p.block < W.heap.size) :
    ∃ (a : Option Addr) (l : List F) (c : Nat), v = .agg #[.slice a l.length c] ∧ Reads W W.heap.size a (cellsF l) ∧ (∀ f ∈ l, Wide f) ∧ l.length ≤ maxLen := by
  obtain ⟨cs, rfl, _⟩ := okWide_struct Try.underlying45 hval
  obtain ⟨fuel, hf0⟩ := h0
  obtain ⟨xs, n, _, hx, hl, hlen, hf⟩ := DataW.trod_struct Try.underlying45 hf0
  have hl1 : cs.toList.length = 1 := hl.trans (by kernel_rfl)
  obtain ⟨l⟩ := cs
  match l, hl1 with
  | [c0], _ =>
    have h0 : DataW.trod enc Try.prog W b sp hd n 43 (List.take (Try.prog.cellsOf 43) (List.drop 0 [c0])) = xs[0]? := hf 0 _ rfl
    rw [show (Try.prog.cellsOf 43) = 1 by kernel_rfl, List.getElem?_eq_getElem (by rw [hlen]; decide)] at h0
    simp only [Prod.mk.injEq] at hx
    obtain ⟨a, l, c, e, h1, h2⟩ := trod_fields h0 (fun p hp => hlt p (by rw [hx.2]; exact List.mem_flatMap.2 ⟨_, List.getElem_mem _, hp⟩))
    simp at e
    subst e
    exact ⟨a, l, c, rfl, h1, h2⟩
end
end Go.Proofs.Ytephiilicebdcaa.L5
