/-
  The exact laws' steps over several owned things: an argument opens as a list of numbers; a copy, a comparison of two owned lists, marks and the look at the marks. No condition but a length below 2^40 where numbers are counted.
-/
import Derived.Test.YtpapncecfleejaaEx
namespace Go.Proofs.Ytpapncecfleejaa.Law
set_option maxRecDepth 100000
open Go.ChangeShapes Go.WideShapes Go.ChangeAt Go.RowKit Mem Sl Ex

section
variable {H : Type} {enc : TypeId × Value → H} {P : Program}
theorem open_list {W : World} {t e : TypeId} {k : IntKind} (ht : P.underlying t = some (.slice e)) (he : P.underlying e = some (.int k)) (hc : P.cellsOf e = 1) {b0 : Nat} {v : Value} {d : DataW H} {ps : List MemPlace}
    (hval : Value.okWide P W .any b0 t v) (h0 : DataW.Trod enc P W 0 (fun _ => true) true t v d ps) (hlt : ∀ x ∈ ps, x.block < W.heap.size) :
    ∃ (a : Option Addr) (l : List Int) (cap : Nat), v = .slice a l.length cap ∧ l.length ≤ cap ∧ cap ≤ 9223372036854775807 ∧ Reads W W.heap.size a (ints k l) ∧ ∀ n ∈ l, (Lit.int k n).wf = true := by
  obtain ⟨a0, len, cap, rfl⟩ := okWide_slice ht hval
  obtain ⟨fuel, hf⟩ := h0
  rcases open_ints ht he hc hf with ⟨hcs, hx⟩ | ⟨a, len', cap', zs, hcs, _, hl, hm, hz, hx, hcell, hwz⟩
  · simp [Value.cells] at hcs
    obtain ⟨rfl, rfl, rfl⟩ := hcs
    exact ⟨none, [], 0, rfl, Nat.le_refl _, by omega, Reads.nil, fun n hn => by simp at hn⟩
  · simp [Value.cells] at hcs
    obtain ⟨rfl, rfl, rfl⟩ := hcs
    simp only [Prod.mk.injEq] at hx
    obtain ⟨rfl, rfl⟩ := hx
    simp at hz
    have hlen : (zs.take len).length = len := by simp; omega
    refine ⟨some a, zs.take len, cap, by rw [hlen], by omega, by unfold maxLen at hm; omega, fun j hj => ?_, fun n hn => hwz n (List.mem_of_mem_take hn)⟩
    simp at hj
    refine ⟨a, rfl, ?_, ?_⟩
    · have := hlt (MemPlace.cell a.block (a.off + 0)) ?_
      · simpa [MemPlace.block] using this
      · exact List.mem_map.2 ⟨0, List.mem_range.2 (by omega), rfl⟩
    · rw [hcell j (by omega), ints_get _ _ _ (by simp; omega)]
      simp [List.getD_eq_getElem?_getD, List.getElem?_eq_getElem (show j < zs.length by omega)]
theorem wf_u8 {n : Int} (h : (Lit.int .u8 n).wf = true) : 0 ≤ n ∧ n ≤ 255 := by
  simpa [Lit.wf, IntKind.min, IntKind.max, IntKind.signed, IntKind.bits] using h
theorem wf_i64 {n : Int} (h : (Lit.int .i64 n).wf = true) : -9223372036854775808 ≤ n ∧ n ≤ 9223372036854775807 := by
  simpa [Lit.wf, IntKind.min, IntKind.max, IntKind.signed, IntKind.bits] using h
end

theorem Reads_of {W w : World} {rs : List Res} {a : Option Addr} {l : List Value} (h : Sep W w rs) (hr : Reads W W.heap.size a l) : Reads w w.heap.size a l := (hr.below h.old).more h.old.size
theorem Sep.drew {W w w' : World} {rs : List Res} (h : Sep W w rs) (hd : Drew w w') : Sep W w' rs := h.keep (hd.below _)

theorem copyByteS {W w : World} {rs : List Res} (h : Sep W w rs) {a : Option Addr} {c : Nat} {l : List Int} (hr : Reads W W.heap.size a (ints .u8 l)) (hl : l.length ≤ 1099511627776) :
    Calls Try.prog 44 #[.slice a l.length c] w fun e w' => ∃ a' c', e = .returned (.slice a' l.length c') ∧ Sep W w' (rs ++ [own 5 .u8 a' c' l]) :=
  (toByteS_any a c l w (Reads_of h hr) hl).mono fun _ _ ⟨a', c', he, ho, hb⟩ => ⟨a', c', he, h.pushOwn hb ho⟩
theorem eqByteS {W w : World} {rs : List Res} (h : Sep W w rs) (i j : Nat) {a a2 : Option Addr} {c c2 : Nat} {l : List Int} (hi : rs[i]? = some (own 5 .u8 a c l)) (hj : rs[j]? = some (own 5 .u8 a2 c2 l)) (hl : l.length ≤ 1099511627776) :
    Calls Try.prog 40 #[.slice a l.length c, .slice a2 l.length c2] w fun e w' => e = .returned (.bool true) ∧ Sep W w' rs :=
  (eqByteS_any a a2 c c2 l l w _ (h.own i hi).reads (h.own j hj).reads (by omega) (by omega)).mono fun _ _ ⟨he, hd⟩ => ⟨by rw [he, eqB_true rfl], Sep.drew h hd⟩
theorem markByteS {W w : World} {rs : List Res} (h : Sep W w rs) (i : Nat) {a : Option Addr} {c : Nat} {l : List Int} (hi : rs[i]? = some (own 5 .u8 a c l)) (k : Int) (hl : l.length ≤ 1099511627776) (hk0 : 0 ≤ k) (hk1 : k ≤ 4611686018427387904) :
    Calls Try.prog 41 #[.slice a l.length c, .int .i64 k] w fun e w' => e = .returned (.int .i64 (k + l.length)) ∧ Sep W w' (rs.set i (own 5 .u8 a c (marks .u8 k l.length))) :=
  (markByteS_any a c l k w (h.own i hi) hl hk0 hk1).mono fun _ _ ⟨he, ho, ht⟩ => ⟨he, h.put i hi ht ho (by
    rcases a with _ | g
    · exact fun b hb => by simp [own, Value.ownBlock] at hb
    · exact fun b hb => by simpa [own, Value.ownBlock] using hb)⟩
theorem heldByteS {W w : World} {rs : List Res} (h : Sep W w rs) (i : Nat) {a : Option Addr} {c n : Nat} (k : Int) (hi : rs[i]? = some (own 5 .u8 a c (marks .u8 k n))) (hl : n ≤ 1099511627776) (hk0 : 0 ≤ k) (hk1 : k ≤ 4611686018427387904) :
    Calls Try.prog 42 #[.slice a n c, .int .i64 k] w fun e w' => e = .returned (.int .i64 (k + n)) ∧ Sep W w' rs :=
  (heldByteS_any a c n k w _ (h.own i hi).reads hl hk0 hk1).mono fun _ _ ⟨he, hd⟩ => ⟨he, Sep.drew h hd⟩
end Go.Proofs.Ytpapncecfleejaa.Law
