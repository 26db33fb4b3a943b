/-
  How a law's arguments open, of no function: a slice of bytes that came in reads as a list of bytes. No condition but the form's own reach.
-/
import Derived.Test.YtpapncecfleejaaMem
import Derived.Test.YtpapncecfleejaaFrame
import Derived.ChangeSlices
import Derived.SizedLaws
namespace Go.Proofs.Ytpapncecfleejaa.Args
set_option maxRecDepth 100000
open Go.ChangeShapes Go.WideShapes Go.ChangeAt Go.RowKit Mem

/-- The slice's places from a on, below block B, hold the bytes l. -/
def Holds (w : World) (B : Nat) (a : Option Addr) (l : List UInt8) : Prop :=
  ∀ j (hj : j < l.length), ∃ ad, a = some ad ∧ ad.block < B ∧ w.cell? (ad.add j) = some (.int .u8 (l[j].toNat : Int))
theorem Holds.bytes {w : World} {B : Nat} {a : Option Addr} {l : List UInt8} (h : Holds w B a l) : Bytes w B a l.length := fun j hj => by
  obtain ⟨ad, e, hb, hc⟩ := h j hj
  exact ⟨ad, _, e, hb, hc, by omega, by have := l[j].toNat_lt; omega⟩
theorem Holds.below {w w' : World} {B : Nat} {a : Option Addr} {l : List UInt8} (h : Holds w B a l) (hb : Below B w w') : Holds w' B a l := fun j hj => by
  obtain ⟨ad, e, hB, hc⟩ := h j hj
  exact ⟨ad, e, hB, by rw [hb.cell (by rw [add_block]; exact hB)]; exact hc⟩

section
variable {H : Type} {enc : TypeId × Value → H} {P : Program}

theorem open_bytes {W : World} {t e : TypeId} (ht : P.underlying t = some (.slice e)) (he : P.underlying e = some (.int .u8)) (hc : P.cellsOf e = 1) (hbe : P.bytesOf e = 1) {b0 : Nat} {v : Value} {d : DataW H} {ps : List MemPlace}
    (hval : Value.okWide P W .any b0 t v) (h0 : DataW.Trod enc P W 0 (fun _ => true) true t v d ps) (hlt : ∀ x ∈ ps, x.block < W.heap.size)
    (hsz : ∀ elems spare, d = .slice elems spare → (elems.length + spare.length) * P.bytesOf e ≤ reachBytes) :
    ∃ (a : Option Addr) (l : List UInt8) (cap : Nat), v = .slice a l.length cap ∧ l.length ≤ cap ∧ cap ≤ 140737488351232 ∧ Holds W W.heap.size a l := by
  obtain ⟨a0, len, cap, rfl⟩ := okWide_slice ht hval
  obtain ⟨fuel, hf⟩ := h0
  rcases open_ints ht he hc hf with ⟨hcs, hx⟩ | ⟨a, len', cap', zs, hcs, _, hl, hm, hz, hx, hcell, hwz⟩
  · simp [Value.cells] at hcs
    obtain ⟨rfl, rfl, rfl⟩ := hcs
    exact ⟨none, [], 0, rfl, Nat.le_refl _, by omega, fun j hj => by simp at hj⟩
  · simp [Value.cells] at hcs
    obtain ⟨rfl, rfl, rfl⟩ := hcs
    simp only [Prod.mk.injEq] at hx
    obtain ⟨rfl, rfl⟩ := hx
    simp at hz
    have hs := hsz _ _ rfl
    rw [hbe] at hs
    simp [lits] at hs
    have hr : reachBytes = 140737488351232 := rfl
    refine ⟨some a, (zs.take len).map fun n => UInt8.ofNat n.toNat, cap, by simp; omega, by simp; omega, by omega, fun j hj => ?_⟩
    simp at hj
    refine ⟨a, rfl, ?_, ?_⟩
    · have := hlt (MemPlace.cell a.block (a.off + 0)) ?_
      · simpa [MemPlace.block] using this
      · exact List.mem_map.2 ⟨0, List.mem_range.2 (by omega), rfl⟩
    · rw [hcell j (by omega)]
      have hw := hwz (zs[j]'(by omega)) (List.getElem_mem _)
      have hw' : 0 ≤ zs[j]'(by omega) ∧ zs[j]'(by omega) ≤ 255 := by
        simpa [Lit.wf, IntKind.min, IntKind.max, IntKind.signed, IntKind.bits] using hw
      simp [List.getD_eq_getElem?_getD, List.getElem?_eq_getElem (show j < zs.length by omega)]
      omega
end
end Go.Proofs.Ytpapncecfleejaa.Args
