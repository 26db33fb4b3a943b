/-
  The contracts of the library's slices.Grow of nil and slices.Concat of two slices of fields. Conditions: at most 6 fields each.
-/
import Derived.Test.YtephiilicebdcaaL5Ih
import Derived.Lib.AppendZeros
namespace Go.Proofs.Ytephiilicebdcaa.L5
set_option maxRecDepth 100000
open L4 (boxR push_box box_at)
open Go.ChangeShapes Go.WideShapes Go.ChangeAt Go.RowKit Mem Sl Ex L2 Sv
set_option linter.unusedVariables false
set_option linter.unusedSimpArgs false

theorem reads_pair {w : World} {B g : Nat} {x y : Value} (h : Reads w B (some ⟨g, 0, none⟩) [x, y]) : w.cell? ⟨g, 0, none⟩ = some x ∧ w.cell? ⟨g, 1, none⟩ = some y := by
  obtain ⟨a, e, _, h0⟩ := h 0 (by simp)
  obtain ⟨b, e1, _, h1⟩ := h 1 (by simp)
  injection e with e
  injection e1 with e1
  subst e
  subst e1
  simp only [Addr.add_lit] at h0 h1
  exact ⟨h0, h1⟩
theorem pair_reads (w : World) (x y : Value) (g : Nat) (hg : g = w.heap.size) (e : TypeId) : Reads (w.alloc (.cells #[x, y] e)) (w.heap.size + 1) (some ⟨g, 0, none⟩) [x, y] := by
  have hr := Row.madeAt w e #[x, y] g hg
  intro j hj
  refine ⟨_, rfl, by show g < _; omega, ?_⟩
  rw [Addr.add_lit, Nat.zero_add, hr.cell]
  match j, hj with
  | 0, _ => rfl
  | 1, _ => rfl
set_option maxHeartbeats 2000000 in
theorem growNil_any (n : Nat) (hn : n ≤ 1048576) (w : World) :
    Calls Try.prog 72 #[.slice none 0 0, .int .i64 n] w fun e w' => ∃ a c, e = .returned (.slice a 0 c) ∧ OwnV w' w.heap.size 64 2 a c 0 [] ∧ Below w.heap.size w w' := by
  obtain ⟨i0, hi, hz0, hz1, hz2⟩ := fieldInfo
  by_cases h0 : n = 0
  · subst h0
    go_enter Try.func72, Try.ntmps72
    go_wp2_with fail
    go_ret
    exact ⟨none, 0, rfl, OwnV.nil _ _ _ _, Below.refl _ _⟩
  · have hp : (0 : Int) < (n : Int) := by omega
    have hn' : (n : Int) ≤ 1048576 := by omega
    have hge := grownCap_ge w n 0 64
    have hle := grownCap_le_maxLen w n 0 64 (by unfold maxLen; omega)
    obtain ⟨G, hG⟩ : ∃ G, G = grownCap w n 0 64 := ⟨_, rfl⟩
    obtain ⟨cs, hcs⟩ : ∃ cs, cs = Builtin.zeroCells (Value.agg #[.string ⟨#[]⟩, .int .i64 0]).cells n ++ Builtin.zeroCells (Value.agg #[.string ⟨#[]⟩, .int .i64 0]).cells (grownCap w n 0 64 - n) := ⟨_, rfl⟩
    have hsz : cs.size = G * 2 := by
      rw [hcs, Array.size_append, size_zeroCells, size_zeroCells, ← hG, show (Value.agg #[.string ⟨#[]⟩, .int .i64 0]).cells.size = 2 from rfl, ← Nat.add_mul]
      congr 1
      omega
    have hrun := fun ty => Lib.run_append_nil_zeros (P := Try.prog) w 24 3 ty 64 i0 (.agg #[.string ⟨#[]⟩, .int .i64 0]) .i64 .i64 Try.underlying24 Try.underlying3 hi hz0 n (by omega) (by omega) (by omega) (by rw [hz2]; omega)
    rw [← hcs, ← hG] at hrun
    rw [← hG] at hge hle
    have HRun := Lib.hid hrun
    have hG' : (0 : Int) ≤ (G : Int) := by omega
    have HO := Lib.hid (show OwnV (w.drew.alloc (.cells cs 64)) w.heap.size 64 2 (some ⟨w.heap.size, 0, none⟩) G 0 [] from
      ⟨by simp, .inr ⟨w.heap.size, G, cs, rfl, Nat.le_refl _, heap_alloc_new w.drew _, Nat.zero_le _, hle, hsz, by simp⟩⟩)
    have HB := Lib.hid (show Below w.heap.size w (w.drew.alloc (.cells cs 64)) from (Below.refl _ _).drew.alloc (Nat.le_refl _) _)
    clear hrun hcs hG hsz hi hz0 hz1 hz2
    go_enter Try.func72, Try.ntmps72
    go_wp2_with (at_builtin; refine Lib.wpList_append_run _ rfl _ _ _ _ rfl _ _ rfl rfl _ _ (HRun.out _) ?_)
    go_ret
    exact ⟨_, _, rfl, HO.out, HB.out⟩
set_option maxHeartbeats 4000000 in
theorem concat_any (g : Nat) (a b : Option Addr) (c d : Nat) (l m : List F) (hl : l.length ≤ 6) (hm : m.length ≤ 6) (w : World) (hg : Reads w w.heap.size (some ⟨g, 0, none⟩) [.slice a l.length c, .slice b m.length d])
    (hr : Reads w w.heap.size a (cellsF l)) (hs : Reads w w.heap.size b (cellsF m)) :
    Calls Try.prog 51 #[.slice (some ⟨g, 0, none⟩) 2 2] w fun e w' => ∃ a' c', e = .returned (.slice a' (l.length + m.length) c') ∧ OwnV w' w.heap.size 64 2 a' c' (l.length + m.length) (cellsF (l ++ m)) ∧ Below w.heap.size w w' := by
  obtain ⟨i0, hi, hz0, hz1, hz2⟩ := fieldInfo
  have HI := Lib.hid (And.intro hi (And.intro hz0 (And.intro hz1 hz2)))
  have HG := Lib.hid (fun w' (h : Below w.heap.size w w') => (hg.below h))
  have HR := Lib.hid (fun w' (h : Below w.heap.size w w') => hr.below h)
  have HS := Lib.hid (fun w' (h : Below w.heap.size w w') => hs.below h)
  have HC := Lib.hid (And.intro (show (cellsF l).length = l.length * 2 from cellsF_length l) (show (cellsF m).length = m.length * 2 from cellsF_length m))
  obtain ⟨p, hp⟩ : ∃ p, p = l.length := ⟨_, rfl⟩
  obtain ⟨q, hq⟩ : ∃ q, q = m.length := ⟨_, rfl⟩
  rw [← hp, ← hq] at HG HC ⊢
  rw [← hp] at hl
  rw [← hq] at hm
  have hl' : (p : Int) ≤ 6 := by omega
  have hm' : (q : Int) ≤ 6 := by omega
  clear hp hq hg hr hs hi hz0 hz1 hz2
  obtain ⟨g0, g1⟩ := reads_pair (HG.out w (Below.refl _ _))
  have HGr := Lib.hid (growNil_any (p + q) (by omega) w)
  obtain ⟨s, hs⟩ : ∃ s : Nat, s = p + q := ⟨_, rfl⟩
  have HS' := Lib.hid hs
  have hsI := Lib.hid (show (p : Int) + (q : Int) = (s : Int) by omega)
  rw [← hs] at HGr
  clear hs
  have hs6 : (s : Int) ≤ 12 := by have := hsI.out; omega
  go_enter Try.func51, Try.ntmps51
  go_wp2_with fail
  refine wp_loop_rounds 3 ?_
  iterate 3 (rw [rounds_succ]; go_wp2_with fail)
  go_at_call 72
  rw [hsI.out]
  refine HGr.out.mono ?_
  rintro e w2 ⟨a2, c2, rfl, ho, hb⟩
  have S1 := Lib.hid (push_own (Sep.start w) hb ho)
  clear ho hb g0 g1
  obtain ⟨g0, g1⟩ := reads_pair (HG.out w2 S1.out.old)
  go_wp2_with fail
  refine wp_loop_rounds 3 ?_
  rw [rounds_succ]
  go_wp2_with (at_builtin; refine wpList_append_v S1.out 0 rfl rfl _ _ 24 (by rfl) i0 (.agg #[.string ⟨#[]⟩, .int .i64 0]) 24 Try.underlying24 HI.out.1 HI.out.2.1 HI.out.2.2.1 HI.out.2.2.2 rfl (by omega) 0 (by rfl) rfl w.heap.size a p p c (cellsF l) (by rfl) rfl (HR.out _ S1.out.old) HC.out.1 (cellsF_one _) (by unfold maxLen; omega) (by omega) ?_; intro a3 c3 w3 S2'; have S2 := Lib.hid S2'; clear S2' g0 g1; obtain ⟨g0, g1⟩ := reads_pair (HG.out w3 S2.out.old))
  rw [rounds_succ]
  go_wp2_with (at_builtin; refine wpList_append_v S2.out 0 rfl rfl _ _ 24 (by rfl) i0 (.agg #[.string ⟨#[]⟩, .int .i64 0]) 24 Try.underlying24 HI.out.1 HI.out.2.1 HI.out.2.2.1 HI.out.2.2.2 rfl (by omega) p (by rfl) (Nat.zero_add p).symm w.heap.size b q q d (cellsF m) (by rfl) rfl (HS.out _ S2.out.old) HC.out.2 (cellsF_one _) (by unfold maxLen; omega) (by omega) ?_; intro a4 c4 w4 S3'; have S3 := Lib.hid S3'; clear S3' g0 g1)
  rw [rounds_succ]
  go_wp2_with fail
  go_ret
  have h := own_from S3.out 0 rfl
  rw [List.nil_append, Nat.zero_add, ← cellsF_append] at h
  refine ⟨a4, c4, ?_, h, S3.out.old⟩
  simp
end Go.Proofs.Ytephiilicebdcaa.L5
