/-
  How chapter 6's arguments open: a store that came in, laid with its rows. No condition but the form's own reach.
-/
import Derived.Test.YtkfejjoehgipmaaL6Num
import Derived.Test.YtkfejjoehgipmaaL5Opn
import Derived.Test.YtkfejjoehgipmaaPb
namespace Go.Proofs.Ytkfejjoehgipmaa.L6
set_option maxRecDepth 100000
open L4 (K isK cmpK R inR encU)
open L5 (F isR isN cellsF encR eqR Small Wide cellsF_length cellsF_at)
open Go.ChangeShapes Go.WideShapes Go.ChangeAt Go.RowKit Mem Sl Ex L2 Sv Bag
set_option linter.unusedVariables false

structure WideI (x : It) : Prop where
  text : x.k.text.size ≤ maxLen
  kind : -9223372036854775808 ≤ x.k.kind ∧ x.k.kind ≤ 9223372036854775807
  n : -9223372036854775808 ≤ x.k.n ∧ x.k.n ≤ 9223372036854775807
  len : x.l.length ≤ maxLen
  fields : ∀ f ∈ x.l, Wide f
structure WideS (s : S6) : Prop where
  name : s.name.size ≤ maxLen
  auto : -9223372036854775808 ≤ s.auto ∧ s.auto ≤ 9223372036854775807
  len : s.items.length ≤ maxLen
  items : ∀ x ∈ s.items, WideI x
theorem list_of {α : Type} {P : Nat → α → Prop} : ∀ (n : Nat), (∀ i, i < n → ∃ f, P i f) → ∃ l : List α, l.length = n ∧ ∀ i (hi : i < l.length), P i l[i]
  | 0, _ => ⟨[], rfl, fun i hi => absurd hi (by simp)⟩
  | n + 1, h => by
    obtain ⟨l, hl, hp⟩ := list_of n (fun i hi => h i (by omega))
    obtain ⟨f, hf⟩ := h n (by omega)
    refine ⟨l ++ [f], by simp [hl], fun i hi => ?_⟩
    by_cases hlt : i < l.length
    · rw [List.getElem_append_left hlt]; exact hp i hlt
    · have e : i = n := by simp at hi; omega
      subst e
      rw [List.getElem_append_right (by omega)]
      simpa using hf
section
variable {H : Type} {enc : TypeId × Value → H} {W : World} {b : Nat} {sp : Nat → Bool} {hd : Bool}
theorem trod_fields2 {fuel : Nat} {cs : List Value} {x : DataW H × List MemPlace} (h : DataW.trod enc Try.prog W b sp hd fuel 65 cs = some x) (hlt : ∀ p ∈ x.2, p.block < W.heap.size) :
    ∃ (a : Option Addr) (l : List F) (c : Nat), cs = [.slice a l.length c] ∧ Reads W W.heap.size a (cellsF l) ∧ (∀ f ∈ l, Wide f) ∧ l.length ≤ maxLen ∧ l.length ≤ c ∧ (a = none → c = 0) := by
  obtain ⟨a, l, c, e, h1, h2, h3⟩ := L5.trod_fields h hlt
  refine ⟨a, l, c, e, h1, h2, h3, ?_⟩
  rcases DataW.trod_slice Try.underlying65 h with ⟨rfl, _⟩ | ⟨ad, len, cap, elems, rest, n, _, rfl, _, _, hll0, _⟩
  · injection e with e _
    injection e with e1 e2 e3
    subst e3
    exact ⟨by omega, fun _ => rfl⟩
  · injection e with e _
    injection e with e1 e2 e3
    subst e1
    subst e2
    subst e3
    exact ⟨hll0, fun h => (by cases h)⟩
theorem trod_item {fuel : Nat} {cs : List Value} {x : DataW H × List MemPlace} (h : DataW.trod enc Try.prog W b sp hd fuel 140 cs = some x) (hlt : ∀ p ∈ x.2, p.block < W.heap.size) :
    ∃ z : LI, cs = z.cells ∧ z.row.Rd W W.heap.size ∧ WideI z.con := by
  obtain ⟨xs, n, _, hx, hl, hlen, hf⟩ := DataW.trod_struct Try.underlying140 h
  have hl4 : cs.length = 4 := hl.trans (by kernel_rfl)
  match cs, hl4 with
  | [c0, c1, c2, c3], _ =>
    have h0 : DataW.trod enc Try.prog W b sp hd n 61 (List.take (Try.prog.cellsOf 61) (List.drop 0 [c0, c1, c2, c3])) = xs[0]? := hf 0 _ rfl
    have h1 : DataW.trod enc Try.prog W b sp hd n 67 (List.take (Try.prog.cellsOf 67) (List.drop 3 [c0, c1, c2, c3])) = xs[1]? := hf 1 _ rfl
    rw [show (Try.prog.cellsOf 61) = 3 by kernel_rfl] at h0
    rw [show (Try.prog.cellsOf 67) = 1 by kernel_rfl] at h1
    rw [List.getElem?_eq_getElem (by rw [hlen]; decide)] at h0 h1
    obtain ⟨k, e0, w0, w1, w2⟩ := L4.trod_key h0
    have hlt1 : ∀ p ∈ (xs[1]'(by rw [hlen]; decide)).2, p.block < W.heap.size := fun p hp => hlt p (by rw [hx]; exact List.mem_flatMap.2 ⟨_, List.getElem_mem _, hp⟩)
    obtain ⟨ys, n2, _, hy, hl2, hlen2, hf2⟩ := DataW.trod_struct Try.underlying67 h1
    have h2 : DataW.trod enc Try.prog W b sp hd n2 65 (List.take (Try.prog.cellsOf 65) (List.drop 0 (List.take 1 (List.drop 3 [c0, c1, c2, c3])))) = ys[0]? := hf2 0 _ rfl
    rw [show (Try.prog.cellsOf 65) = 1 by kernel_rfl, List.getElem?_eq_getElem (by rw [hlen2]; decide)] at h2
    obtain ⟨a, l, c, e, r1, r2, r3, r4, r5⟩ := trod_fields2 h2 (fun p hp => hlt1 p (by rw [hy]; exact List.mem_flatMap.2 ⟨_, List.getElem_mem _, hp⟩))
    simp [K.cells] at e0 e
    obtain ⟨rfl, rfl, rfl⟩ := e0
    subst e
    exact ⟨⟨k, a, c, l⟩, rfl, ⟨r1, r4, r5⟩, ⟨w0, w1, w2, r3, r2⟩⟩
theorem trod_items {fuel : Nat} {cs : List Value} {x : DataW H × List MemPlace} (h : DataW.trod enc Try.prog W b sp hd fuel 55 cs = some x) (hlt : ∀ p ∈ x.2, p.block < W.heap.size) :
    ∃ (a : Option Addr) (xs : List LI) (c : Nat), cs = [.slice a xs.length c] ∧ RowsRd W W.heap.size (rowI a c xs :: rowsI xs) ∧ (∀ z ∈ conI xs, WideI z) ∧ xs.length ≤ maxLen := by
  rcases DataW.trod_slice Try.underlying55 h with ⟨rfl, _⟩ | ⟨a, len, cap, elems, rest, n, _, rfl, rfl, hxx, hll0, hmm0, hlen, hel, _, _⟩
  · refine ⟨none, [], 0, rfl, fun r hr => ?_, (fun f hf => by cases hf), Nat.zero_le _⟩
    rw [show (rowsI []) = [] from rfl, List.mem_singleton] at hr
    subst hr
    exact ⟨Reads.nil, Nat.le_refl _, fun _ => rfl⟩
  · have e2 : (Try.prog.cellsOf 140) = 4 := by kernel_rfl
    rw [e2] at hel hlt
    obtain ⟨l, hll, hp⟩ := list_of (P := fun i z => (∀ q (hq : q < 4), W.cell? (a.add (i * 4 + q)) = some ((LI.cells z)[q]'hq)) ∧ z.row.Rd W W.heap.size ∧ WideI z.con) len (fun i hi => by
      have h1 := hel i hi
      rw [List.getElem?_eq_getElem (by omega), Option.bind_eq_some_iff] at h1
      obtain ⟨cs, hc, ht⟩ := h1
      obtain ⟨z, rfl, hw, hw2⟩ := trod_item ht (fun p hp => hlt p (List.mem_append_right _ (List.mem_flatMap.2 ⟨_, List.mem_append_left _ (List.getElem_mem (show i < elems.length by omega)), hp⟩)))
      obtain ⟨_, _, h3⟩ := World.cells?_some hc
      refine ⟨z, fun q hq => ?_, hw, hw2⟩
      have q0 := h3 q hq
      rw [add_add] at q0
      exact q0.trans (List.getElem?_eq_getElem _))
    subst hll
    have hrd : Reads W W.heap.size (some a) (cellsI l) := fun j hj => by
      rw [cellsI_length] at hj
      refine ⟨a, rfl, ?_, ?_⟩
      · have := hlt (MemPlace.cell a.block (a.off + 0)) (List.mem_append_left _ (List.mem_map.2 ⟨0, List.mem_range.2 (by omega), rfl⟩))
        simpa [MemPlace.block] using this
      · have hk : j / 4 < l.length := by omega
        have hq : j % 4 < 4 := Nat.mod_lt _ (by omega)
        have h1 := (hp (j / 4) hk).1 (j % 4) hq
        have e : j / 4 * 4 + j % 4 = j := by omega
        obtain ⟨c0, c1, c2, c3⟩ := cellsI_at l (j / 4) hk
        have h4 : (cellsI l)[j / 4 * 4 + j % 4]? = some ((LI.cells l[j / 4])[j % 4]'hq) := by
          generalize j % 4 = q at hq
          rcases (show q = 0 ∨ q = 1 ∨ q = 2 ∨ q = 3 by omega) with rfl | rfl | rfl | rfl
          · exact c0
          · exact c1
          · exact c2
          · exact c3
        rw [e] at h1 h4
        exact h1.trans (h4.symm.trans (List.getElem?_eq_getElem _))
    refine ⟨some a, l, cap, rfl, fun r hr => ?_, fun z hz => ?_, Nat.le_trans hll0 hmm0⟩
    · rcases List.mem_cons.1 hr with rfl | hr
      · exact ⟨hrd, hll0, fun h => (by cases h)⟩
      · obtain ⟨z, hz, rfl⟩ := List.mem_map.1 hr
        obtain ⟨i, hi, rfl⟩ := List.getElem_of_mem hz
        exact (hp i hi).2.1
    · obtain ⟨y, hy, rfl⟩ := List.mem_map.1 hz
      obtain ⟨i, hi, rfl⟩ := List.getElem_of_mem hy
      exact (hp i hi).2.2
theorem open_store {b0 : Nat} {v : Value} {d : DataW H} {ps : List MemPlace} (hval : Value.okWide Try.prog W .any b0 57 v) (h0 : DataW.Trod enc Try.prog W b sp hd 57 v d ps) (hlt : ∀ p ∈ ps, p.block < W.heap.size) :
    ∃ y : LS, v = y.v ∧ RowsRd W W.heap.size y.rows ∧ WideS y.con := by
  obtain ⟨cs, rfl, _⟩ := okWide_struct Try.underlying57 hval
  obtain ⟨fuel, hf0⟩ := h0
  obtain ⟨xs, n, _, hx, hl, hlen, hf⟩ := DataW.trod_struct Try.underlying57 hf0
  have hl1 : cs.toList.length = 3 := hl.trans (by kernel_rfl)
  obtain ⟨l⟩ := cs
  match l, hl1 with
  | [c0, c1, c2], _ =>
    have h0 : DataW.trod enc Try.prog W b sp hd n 9 (List.take (Try.prog.cellsOf 9) (List.drop 0 [c0, c1, c2])) = xs[0]? := hf 0 _ rfl
    have h1 : DataW.trod enc Try.prog W b sp hd n 55 (List.take (Try.prog.cellsOf 55) (List.drop 1 [c0, c1, c2])) = xs[1]? := hf 1 _ rfl
    have h2 : DataW.trod enc Try.prog W b sp hd n 3 (List.take (Try.prog.cellsOf 3) (List.drop 2 [c0, c1, c2])) = xs[2]? := hf 2 _ rfl
    rw [show (Try.prog.cellsOf 9) = 1 by kernel_rfl] at h0
    rw [show (Try.prog.cellsOf 55) = 1 by kernel_rfl] at h1
    rw [show (Try.prog.cellsOf 3) = 1 by kernel_rfl] at h2
    rw [List.getElem?_eq_getElem (by rw [hlen]; decide)] at h0 h1 h2
    simp only [Prod.mk.injEq] at hx
    obtain ⟨s, e0, _, w0⟩ := DataW.trod_string Try.underlying9 h0
    obtain ⟨m, e2, _, w2⟩ := DataW.trod_int Try.underlying3 h2
    obtain ⟨a, l, c, e1, r1, r2, r3⟩ := trod_items h1 (fun p hp => hlt p (by rw [hx.2]; exact List.mem_flatMap.2 ⟨_, List.getElem_mem _, hp⟩))
    simp at e0 e1 e2
    subst e0; subst e1; subst e2
    exact ⟨⟨s, a, c, l, m⟩, rfl, r1, ⟨w0, Law.wf_i64 w2, by show (conI l).length ≤ _; rw [conI_length]; exact r3, r2⟩⟩
end
end Go.Proofs.Ytkfejjoehgipmaa.L6
