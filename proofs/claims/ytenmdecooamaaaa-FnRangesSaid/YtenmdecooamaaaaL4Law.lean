/-
  The exact laws' helpers for keys and ranges: toKey, szKey, eqKey, toKeyRange, szKeyRange. Condition: a room of at most 2^20.
-/
import Derived.Test.YtenmdecooamaaaaL4Cmp
namespace Go.Proofs.Ytenmdecooamaaaa.L4
open Go.ChangeShapes Go.WideShapes Go.ChangeAt Go.RowKit Mem Sl Ex L2
set_option linter.unusedVariables false

/-- What is left of a room behind a text; -1 if there is none. -/
def left (n : Int) (s : ByteArray) : Int := if n - s.size < 0 then -1 else n - s.size
theorem toKey_any (k : K) (w : World) :
    Calls Try.prog 20 #[k.v] w fun e w' => e = .returned k.v ∧ Below w.heap.size w w' := by
  obtain ⟨kd, n, s⟩ := k
  unfold K.v
  go_enter Try.func20, Try.ntmps20
  go_wp2
  refine bodyPost_ret (v := .agg #[.int .i64 kd, .int .i64 n, .string s]) (by simp [results, Try.results20, go_sem]) rfl ?_
  exact ⟨rfl, below_alloc (below_alloc (below_alloc (Below.refl _ _) _ (Nat.le_refl _)) _ (Nat.le_refl _)) _ (Nat.le_refl _)⟩
theorem szKey_any (k : K) (n : Int) (h : k.text.size ≤ maxLen) (hn0 : -1 ≤ n) (hn1 : n ≤ 1048576) (w : World) :
    Calls Try.prog 19 #[k.v, .int .i64 n] w fun e w' => e = .returned (.int .i64 (left n k.text)) ∧ Below w.heap.size w w' := by
  obtain ⟨kd, m, s⟩ := k
  unfold K.v left
  have hs : (s.size : Int) ≤ 9223372036854775807 := by have : s.size ≤ maxLen := h; unfold maxLen at this; omega
  have HB := Lib.hid (fun o => below_alloc (Below.refl w.heap.size w) o (Nat.le_refl _))
  clear h
  by_cases hlt : n - (s.size : Int) < 0
  · go_enter Try.func19, Try.ntmps19
    go_wp2
    go_ret
    exact ⟨rfl, HB.out _⟩
  · go_enter Try.func19, Try.ntmps19
    go_wp2
    go_ret
    exact ⟨rfl, HB.out _⟩
theorem eqKey_any (k : K) (w : World) :
    Calls Try.prog 30 #[k.v, k.v] w fun e w' => e = .returned (.bool true) ∧ Below w.heap.size w w' := by
  obtain ⟨kd, n, s⟩ := k
  unfold K.v
  have HB := Lib.hid (fun o p => below_alloc (below_alloc (Below.refl w.heap.size w) o (Nat.le_refl _)) p (Nat.le_refl _))
  go_enter Try.func30, Try.ntmps30
  go_wp2
  go_ret
  exact ⟨rfl, HB.out _ _⟩

def R.left (n : Int) (r : R) : Int := if L4.left n r.lo.text < 0 then -1 else L4.left (L4.left n r.lo.text) r.hi.text
theorem left_range (n : Int) (s : ByteArray) (h : n ≤ 1048576) : -1 ≤ left n s ∧ left n s ≤ 1048576 := by unfold left; split <;> omega
theorem szKeyRange_any (r : R) (n : Int) (h : r.lo.text.size ≤ maxLen) (h2 : r.hi.text.size ≤ maxLen) (hn0 : -1 ≤ n) (hn1 : n ≤ 1048576) (w : World) :
    Calls Try.prog 33 #[r.v, .int .i64 n] w fun e w' => e = .returned (.int .i64 (r.left n)) ∧ Below w.heap.size w w' := by
  obtain ⟨m1, hm1⟩ : ∃ m, left n r.lo.text = m := ⟨_, rfl⟩
  have b1 := left_range n r.lo.text hn1
  rw [hm1] at b1
  obtain ⟨m2, hm2⟩ : ∃ m, left m1 r.hi.text = m := ⟨_, rfl⟩
  have b2 := left_range m1 r.hi.text b1.2
  rw [hm2] at b2
  have H1 := Lib.hid (fun w => szKey_any r.lo n h hn0 hn1 w)
  have H2 := Lib.hid (fun w => szKey_any r.hi m1 h2 b1.1 b1.2 w)
  rw [hm1] at H1
  rw [hm2] at H2
  have HE := Lib.hid (show r.left n = if m1 < 0 then -1 else m2 by unfold R.left; rw [hm1, hm2])
  rw [HE.out]
  clear HE hm1 hm2 h h2
  have h2' : m2 < 0 → m2 = -1 := fun h => by omega
  obtain ⟨w2, hw2⟩ : ∃ w2, w2 = w.alloc (.cells r.cells 47) := ⟨_, rfl⟩
  have r2 : Row w2 w.heap.size 47 r.cells := by rw [hw2]; exact Row.made _ _ _
  have hb2 : Below w.heap.size w w2 := by rw [hw2]; exact below_alloc (Below.refl _ _) _ (Nat.le_refl _)
  obtain ⟨hl, hh, ⟨ka, na, sa⟩, ⟨kb, nb, sb⟩⟩ := r
  simp only [K.v, R.v, R.cells] at H1 H2 hw2 r2 ⊢
  have HR := Lib.hid (And.intro r2 hb2)
  clear r2 hb2
  go_enter Try.func33, Try.ntmps33
  go_wp2_with fail
  go_at_call 19
  rw [← hw2]
  clear hw2
  with_reducible refine (H1.out w2).mono ?_
  rintro e w3 ⟨rfl, h3⟩
  have HR3 := Lib.hid (And.intro (HR.out.1.below h3 HR.out.1.inside) (HR.out.2.trans (h3.mono HR.out.2.size)))
  clear h3
  by_cases hlt : m1 < 0
  · go_wp2_with fail
    go_ret
    exact ⟨by first | (rw [if_pos hlt]; rfl) | rfl, HR3.out.2⟩
  · have c5 := HR3.out.1.cell 5
    have c6 := HR3.out.1.cell 6
    have c7 := HR3.out.1.cell 7
    simp at c5 c6 c7
    go_wp2_with fail
    go_at_call 19
    with_reducible refine (H2.out w3).mono ?_
    rintro e w4 ⟨rfl, h4⟩
    have HB := Lib.hid (HR3.out.2.trans (h4.mono HR3.out.2.size))
    clear h4
    by_cases hlt2 : m2 < 0
    · have e2 := h2' hlt2
      subst e2
      go_wp2_with fail
      go_ret
      exact ⟨by first | (rw [if_neg hlt]; rfl) | rfl, HB.out⟩
    · go_wp2_with fail
      go_ret
      exact ⟨by first | (rw [if_neg hlt]; rfl) | rfl, HB.out⟩
theorem Row.cells8 {w : World} {g : Nat} {t : TypeId} {a0 a1 a2 a3 a4 a5 a6 a7 : Value} (h : Row w g t #[a0, a1, a2, a3, a4, a5, a6, a7]) : w.cell? ⟨g, 0, none⟩ = some a0 ∧ w.cell? ⟨g, 1, none⟩ = some a1 ∧ w.cell? ⟨g, 2, none⟩ = some a2 ∧ w.cell? ⟨g, 3, none⟩ = some a3 ∧ w.cell? ⟨g, 4, none⟩ = some a4 ∧ w.cell? ⟨g, 5, none⟩ = some a5 ∧ w.cell? ⟨g, 6, none⟩ = some a6 ∧ w.cell? ⟨g, 7, none⟩ = some a7 := by
  refine ⟨?_, ?_, ?_, ?_, ?_, ?_, ?_, ?_⟩ <;> (rw [h.cell]; rfl)
/-- The range that came in, the result's cell and the variable stand; below w nothing has turned. -/
structure Tri (w wr : World) (t u : TypeId) (r : R) (x : Array Value) : Prop where
  r : Row wr w.heap.size t r.cells
  z : Row wr (w.heap.size + 1) u #[.bool false, .bool false, .int .i64 0, .int .i64 0, .string ⟨#[]⟩, .int .i64 0, .int .i64 0, .string ⟨#[]⟩]
  x : Row wr (w.heap.size + 1 + 1) u x
  b : Below w.heap.size w wr
theorem Tri.next {w wr w' : World} {t u : TypeId} {r : R} {x : Array Value} (h : Hid (Tri w wr t u r x)) (hb : Below wr.heap.size wr w') : Hid (Tri w w' t u r x) :=
  ⟨h.out.r.below hb h.out.r.inside, h.out.z.below hb h.out.z.inside, h.out.x.below hb h.out.x.inside, h.out.b.trans (hb.mono h.out.b.size)⟩
theorem Row.apart {w : World} {g g' : Nat} {t : TypeId} {cs : Array Value} (h : Row w g t cs) (i : Nat) (v : Value) (hne : g ≠ g') : Row (w.setCell ⟨g', i, none⟩ v) g t cs := (Below.heap_setCell w ⟨g', i, none⟩ v g hne).trans h
theorem Tri.put {w wr : World} {t u : TypeId} {r : R} {x : Array Value} (h : Hid (Tri w wr t u r x)) (i : Nat) (v : Value) : Hid (Tri w (wr.setCell ⟨w.heap.size + 1 + 1, i, none⟩ v) t u r (x.setIfInBounds i v)) :=
  ⟨Row.apart h.out.r i v (by omega), Row.apart h.out.z i v (by omega), h.out.x.put i v, h.out.b.setCell (by show w.heap.size ≤ w.heap.size + 1 + 1; omega) v⟩
set_option maxHeartbeats 1000000 in
theorem toKeyRange_any (r : R) (w : World) :
    Calls Try.prog 34 #[r.v] w fun e w' => e = .returned r.v ∧ Below w.heap.size w w' := by
  have H1 := Lib.hid (fun w => toKey_any r.lo w)
  have H2 := Lib.hid (fun w => toKey_any r.hi w)
  obtain ⟨w2, hw2⟩ : ∃ u, u = ((w.alloc (.cells r.cells 47)).alloc (.cells #[.bool false, .bool false, .int .i64 0, .int .i64 0, .string ⟨#[]⟩, .int .i64 0, .int .i64 0, .string ⟨#[]⟩] 27)).alloc (.cells #[.bool r.hl, .bool r.hh, .int .i64 0, .int .i64 0, .string ⟨#[]⟩, .int .i64 0, .int .i64 0, .string ⟨#[]⟩] 27) := ⟨_, rfl⟩
  have t2 : Hid (Tri w w2 47 27 r #[.bool r.hl, .bool r.hh, .int .i64 0, .int .i64 0, .string ⟨#[]⟩, .int .i64 0, .int .i64 0, .string ⟨#[]⟩]) := by
    rw [hw2]
    refine ⟨((Row.made w _ _).more _).more _, ?_, ?_, below_alloc (below_alloc (below_alloc (Below.refl _ _) _ (Nat.le_refl _)) _ (Nat.le_refl _)) _ (Nat.le_refl _)⟩
    · refine Row.more ?_ _
      rw [show w.heap.size + 1 = (w.alloc (.cells r.cells 47)).heap.size by simp]
      exact Row.made _ _ _
    · rw [show w.heap.size + 1 + 1 = ((w.alloc (.cells r.cells 47)).alloc (.cells #[.bool false, .bool false, .int .i64 0, .int .i64 0, .string ⟨#[]⟩, .int .i64 0, .int .i64 0, .string ⟨#[]⟩] 27)).heap.size by simp]
      exact Row.made _ _ _
  obtain ⟨hl, hh, ⟨ka, na, sa⟩, ⟨kb, nb, sb⟩⟩ := r
  simp only [K.v, R.v, R.cells] at H1 H2 hw2 ⊢
  go_enter Try.func34, Try.ntmps34
  go_wp2_with fail
  go_at_call 20
  rw [← hw2]
  clear hw2
  with_reducible refine (H1.out w2).mono ?_
  rintro e w3 ⟨rfl, h3⟩
  have t3 := Tri.next t2 h3
  clear t2 h3
  have f2 := t3.out.x.free 2
  have f3 := t3.out.x.free 3
  have f4 := t3.out.x.free 4
  obtain ⟨x0, x1, x2, x3, x4, x5, x6, x7⟩ := Row.cells8 t3.out.x
  obtain ⟨r0, r1, r2, r3, r4, r5, r6, r7⟩ := Row.cells8 (show Row w3 w.heap.size 47 #[.bool hl, .bool hh, .int .i64 ka, .int .i64 na, .string sa, .int .i64 kb, .int .i64 nb, .string sb] from t3.out.r)
  go_wp2_with fail
  go_at_call 20
  have t4 : Hid (Tri w (((w3.setCell ⟨w.heap.size + 1 + 1, 2, none⟩ (.int .i64 ka)).setCell ⟨w.heap.size + 1 + 1, 3, none⟩ (.int .i64 na)).setCell ⟨w.heap.size + 1 + 1, 4, none⟩ (.string sa)) 47 27 ⟨hl, hh, ⟨ka, na, sa⟩, ⟨kb, nb, sb⟩⟩ #[.bool hl, .bool hh, .int .i64 ka, .int .i64 na, .string sa, .int .i64 0, .int .i64 0, .string ⟨#[]⟩]) := Tri.put (Tri.put (Tri.put t3 2 (.int .i64 ka)) 3 (.int .i64 na)) 4 (.string sa)
  obtain ⟨w4, hw4⟩ : ∃ u, u = (((w3.setCell ⟨w.heap.size + 1 + 1, 2, none⟩ (.int .i64 ka)).setCell ⟨w.heap.size + 1 + 1, 3, none⟩ (.int .i64 na)).setCell ⟨w.heap.size + 1 + 1, 4, none⟩ (.string sa)) := ⟨_, rfl⟩
  rw [← hw4] at t4 ⊢
  clear hw4 t3 f2 f3 f4 x0 x1 x2 x3 x4 x5 x6 x7 r0 r1 r2 r3 r4 r5 r6 r7
  with_reducible refine (H2.out w4).mono ?_
  rintro e w5 ⟨rfl, h5⟩
  have t5 := Tri.next t4 h5
  clear t4 h5
  have f5 := t5.out.x.free 5
  have f6 := t5.out.x.free 6
  have f7 := t5.out.x.free 7
  obtain ⟨x0, x1, x2, x3, x4, x5, x6, x7⟩ := Row.cells8 t5.out.x
  obtain ⟨z0, z1, z2, z3, z4, z5, z6, z7⟩ := Row.cells8 t5.out.z
  have g0 := t5.out.z.free 0
  have g1 := t5.out.z.free 1
  have g2 := t5.out.z.free 2
  have g3 := t5.out.z.free 3
  have g4 := t5.out.z.free 4
  have g5 := t5.out.z.free 5
  have g6 := t5.out.z.free 6
  have g7 := t5.out.z.free 7
  go_wp2_with fail
  refine bodyPost_ret (v := .agg #[.bool hl, .bool hh, .int .i64 ka, .int .i64 na, .string sa, .int .i64 kb, .int .i64 nb, .string sb]) (by simp [results, Try.results34, go_sem, z0, z1, z2, z3, z4, z5, z6, z7]) rfl ?_
  refine ⟨rfl, ?_⟩
  exact (((((((((((t5.out.b.setCell (p := ⟨w.heap.size + 1 + 1, 5, none⟩) (by show w.heap.size ≤ w.heap.size + 1 + 1; omega) _).setCell (p := ⟨w.heap.size + 1 + 1, 6, none⟩) (by show w.heap.size ≤ w.heap.size + 1 + 1; omega) _).setCell (p := ⟨w.heap.size + 1 + 1, 7, none⟩) (by show w.heap.size ≤ w.heap.size + 1 + 1; omega) _).setCell (p := ⟨w.heap.size + 1, 0, none⟩) (by show w.heap.size ≤ w.heap.size + 1; omega) _).setCell (p := ⟨w.heap.size + 1, 1, none⟩) (by show w.heap.size ≤ w.heap.size + 1; omega) _).setCell (p := ⟨w.heap.size + 1, 2, none⟩) (by show w.heap.size ≤ w.heap.size + 1; omega) _).setCell (p := ⟨w.heap.size + 1, 3, none⟩) (by show w.heap.size ≤ w.heap.size + 1; omega) _).setCell (p := ⟨w.heap.size + 1, 4, none⟩) (by show w.heap.size ≤ w.heap.size + 1; omega) _).setCell (p := ⟨w.heap.size + 1, 5, none⟩) (by show w.heap.size ≤ w.heap.size + 1; omega) _).setCell (p := ⟨w.heap.size + 1, 6, none⟩) (by show w.heap.size ≤ w.heap.size + 1; omega) _).setCell (p := ⟨w.heap.size + 1, 7, none⟩) (by show w.heap.size ≤ w.heap.size + 1; omega) _)
end Go.Proofs.Ytenmdecooamaaaa.L4
