/-
  The exact laws' steps over several owned things: an argument opens as a list of numbers; a copy, a comparison of two owned lists, marks and the look at the marks. No condition but a length below 2^40 where numbers are counted.
-/
import Derived.Test.YtenmdecooamaaaaDoorEx
namespace Go.Proofs.YtenmdecooamaaaaDoor.Law
open Go.ChangeShapes Go.WideShapes Go.ChangeAt Go.RowKit Mem Sl Ex

section
variable {H : Type} {enc : TypeId × Value → H} {P : Program}
theorem open_list {W : World} {t e : TypeId} {k : IntKind} (ht : P.underlying t = some (.slice e)) (he : P.underlying e = some (.int k)) (hc : P.cellsOf e = 1) {b0 : Nat} {v : Value} {d : DataW H} {ps : List MemPlace}
    (hval : Value.okWide P W .any b0 t v) (h0 : DataW.Trod enc P W 0 (fun _ => true) true t v d ps) (hlt : ∀ x ∈ ps, x.block < W.heap.size) :
    ∃ (a : Option Addr) (l : List Int) (cap : Nat), v = .slice a l.length cap ∧ l.length ≤ cap ∧ cap ≤ 9223372036854775807 ∧ Reads W W.heap.size a (ints k l) ∧ ∀ n ∈ l, (Lit.int k n).wf = true := by
  obtain ⟨a0, len, cap, rfl⟩ := okWide_slice ht hval
  obtain ⟨fuel, hf⟩ := h0
  rcases open_ints ht he hc hf with ⟨hcs, hx⟩ | ⟨a, len', cap', zs, hcs, _, hl, hm, hz, hx, hcell, hwz⟩
  · simp [Value.cells] at hcs
    obtain ⟨rfl, rfl, rfl⟩ := hcs
    exact ⟨none, [], 0, rfl, Nat.le_refl _, by omega, Reads.nil, fun n hn => by simp at hn⟩
  · simp [Value.cells] at hcs
    obtain ⟨rfl, rfl, rfl⟩ := hcs
    simp only [Prod.mk.injEq] at hx
    obtain ⟨rfl, rfl⟩ := hx
    simp at hz
    have hlen : (zs.take len).length = len := by simp; omega
    refine ⟨some a, zs.take len, cap, by rw [hlen], by omega, by unfold maxLen at hm; omega, fun j hj => ?_, fun n hn => hwz n (List.mem_of_mem_take hn)⟩
    simp at hj
    refine ⟨a, rfl, ?_, ?_⟩
    · have := hlt (MemPlace.cell a.block (a.off + 0)) ?_
      · simpa [MemPlace.block] using this
      · exact List.mem_map.2 ⟨0, List.mem_range.2 (by omega), rfl⟩
    · rw [hcell j (by omega), ints_get _ _ _ (by simp; omega)]
      simp [List.getD_eq_getElem?_getD, List.getElem?_eq_getElem (show j < zs.length by omega)]
theorem wf_u8 {n : Int} (h : (Lit.int .u8 n).wf = true) : 0 ≤ n ∧ n ≤ 255 := by
  simpa [Lit.wf, IntKind.min, IntKind.max, IntKind.signed, IntKind.bits] using h
theorem wf_i64 {n : Int} (h : (Lit.int .i64 n).wf = true) : -9223372036854775808 ≤ n ∧ n ≤ 9223372036854775807 := by
  simpa [Lit.wf, IntKind.min, IntKind.max, IntKind.signed, IntKind.bits] using h
end

theorem Reads_of {W w : World} {rs : List Res} {a : Option Addr} {l : List Value} (h : Sep W w rs) (hr : Reads W W.heap.size a l) : Reads w w.heap.size a l := (hr.below h.old).more h.old.size
theorem Sep.drew {W w w' : World} {rs : List Res} (h : Sep W w rs) (hd : Drew w w') : Sep W w' rs := h.keep (hd.below _)

end Go.Proofs.YtenmdecooamaaaaDoor.Law
