/-
  The contract of chapter 5's EqualRecords of the specification, and of l5Copy. Conditions: a record of at most 2^40 fields.
-/
import Derived.Test.YtpapncecfleejaaL5Sp
import Derived.Deep.RegionHeld3
import Derived.Deep.DeepCutAuto
namespace Go.Proofs.Ytpapncecfleejaa.L5
set_option maxRecDepth 100000
open Go.ChangeShapes Go.WideShapes Go.ChangeAt Go.RowKit Mem Sl Ex L2 Sv
set_option linter.unusedVariables false

theorem infoField : (Try.prog.info? 68).map (fun i => (i.zero, i.size, i.bytes)) = some (some (.agg #[.string ⟨#[]⟩, .int .i64 0]), 2, 24) := by kernel_rfl
theorem below_rows {B : Nat} {w w' : World} {e : TypeId} {k : Nat} {a : Option Addr} {c n : Nat} {xs : List Value} (ho : OwnV w B e k a c n xs) (hg : w.grownBy w' (Value.slice a n c).ownBlock) (hB : B ≤ w.heap.size) : Below B w w' :=
  (Below.refl _ _).grown hg hB (fun k hk => (World.ownsRow.lt ho k hk).1)
theorem Row.madeAt (w : World) (t : TypeId) (cs : Array Value) (g : Nat) (hg : g = w.heap.size) : Row (w.alloc (.cells cs t)) g t cs := by
  subst hg
  exact Row.made w t cs
set_option maxHeartbeats 1000000 in
theorem l5Copy_any (a : Option Addr) (c : Nat) (l : List F) (hl : l.length ≤ 1099511627776) (w : World) (hr : Reads w w.heap.size a (cellsF l)) :
    Calls Try.prog 53 #[.agg #[.slice a l.length c]] w fun e w' => ∃ a' c', e = .returned (.agg #[.slice a' l.length c']) ∧ OwnV w' w.heap.size 68 2 a' c' l.length (cellsF l) ∧ Below w.heap.size w w' := by
  obtain ⟨i0, hi, hz0, hz1, hz2⟩ : ∃ i, Try.prog.info? 68 = some i ∧ i.zero = some (.agg #[.string ⟨#[]⟩, .int .i64 0]) ∧ i.size = 2 ∧ i.bytes = 24 := by
    have h := infoField
    rw [Option.map_eq_some_iff] at h
    obtain ⟨i, h1, h2⟩ := h
    simp only [Prod.mk.injEq] at h2
    exact ⟨i, h1, h2⟩
  obtain ⟨n, hn⟩ : ∃ n, n = l.length := ⟨_, rfl⟩
  rw [← hn] at hl ⊢
  have W0 := Lib.hid (fun (b1 b2 b3 : Obj) => below_alloc (below_alloc (below_alloc (Below.refl w.heap.size w) b1 (Nat.le_refl _)) b2 (Nat.le_refl _)) b3 (Nat.le_refl _))
  have HR := Lib.hid (fun w' (h : Below w.heap.size w w') => hr.below h)
  have HC := Lib.hid (show (cellsF l).length = n * 2 by rw [cellsF_length, hn])
  have HI := Lib.hid (And.intro hi (And.intro hz0 (And.intro hz1 hz2)))
  clear hn hr
  go_enter Try.func53, Try.ntmps53
  go_wp2_with (at_builtin; refine wpList_append_rows _ rfl _ _ 24 rfl (w.heap.size + 1 + 1) 68 i0 (.agg #[.string ⟨#[]⟩, .int .i64 0]) 2 24 Try.underlying24 HI.out.1 HI.out.2.1 HI.out.2.2.1 HI.out.2.2.2 rfl (by omega) _ 0 0 _ [] rfl rfl (OwnV.emptyAt _ _ _ _ (by simp) (by simp)) w.heap.size _ n n _ (cellsF l) rfl rfl (HR.out _ (W0.out _ _ _)) HC.out (cellsF_one l) (by unfold maxLen; omega) (by omega) (by simp) ?_; intro a9 c9 w9 ho9 hg9; have q9 := below_rows (OwnV.emptyAt (B := w.heap.size + 1 + 1) _ 68 2 _ (by simp) (by simp)) hg9 (by simp); have r9 := Row.below ((Row.madeAt (w.alloc (.cells #[.slice a n c] 26)) 26 #[.slice none 0 0] (w.heap.size + 1) (by simp)).more (.cells #[] 68)) q9 (by omega); have r0 := r9.cell 0; have r1 := r9.free 0; simp at r0)
  refine bodyPost_ret (v := .agg #[.slice a9 n c9]) (by simp [results, Try.results53, go_sem, r0]) rfl ?_
  have q0 := (W0.out (.cells #[.slice a n c] 26) (.cells #[.slice none 0 0] 26) (.cells #[] 68)).trans (q9.mono (by omega))
  refine ⟨a9, c9, rfl, (OwnV.far (by simpa using ho9) (w.heap.size + 1) 0 _ (by omega)).base (by omega), q0.setCell (p := ⟨w.heap.size + 1, 0, none⟩) (by show w.heap.size ≤ w.heap.size + 1; omega) _⟩
end Go.Proofs.Ytpapncecfleejaa.L5
