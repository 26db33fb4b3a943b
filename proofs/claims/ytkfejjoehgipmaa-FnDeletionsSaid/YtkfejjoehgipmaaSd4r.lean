/-
  Chapter 4's draws of ranges: l4Range, DrawInRangeOf.
-/
import Derived.Test.YtkfejjoehgipmaaPb
namespace Go.Proofs.Ytkfejjoehgipmaa.Sd
set_option maxRecDepth 100000
open Go.ChangeShapes Go.WideShapes Go.ChangeAt Go.RowKit Mem Sl Ex Draw L2 L4
set_option linter.unusedVariables false

theorem r_facts8 {W w : World} {rs ts : List Res} {g : Nat} {t : TypeId} {a0 a1 a2 a3 a4 a5 a6 a7 : Value} (h : Sep W w (rs ++ ts)) (i : Nat) (hi : ts[i]? = some (boxR g t #[a0, a1, a2, a3, a4, a5, a6, a7])) : (w.cell? ⟨g, 0, none⟩ = some a0 ∧ w.cell? ⟨g, 1, none⟩ = some a1 ∧ w.cell? ⟨g, 2, none⟩ = some a2 ∧ w.cell? ⟨g, 3, none⟩ = some a3 ∧ w.cell? ⟨g, 4, none⟩ = some a4 ∧ w.cell? ⟨g, 5, none⟩ = some a5 ∧ w.cell? ⟨g, 6, none⟩ = some a6 ∧ w.cell? ⟨g, 7, none⟩ = some a7) ∧ (w.frozen? ⟨g, 0, none⟩ = false ∧ w.frozen? ⟨g, 1, none⟩ = false ∧ w.frozen? ⟨g, 2, none⟩ = false ∧ w.frozen? ⟨g, 3, none⟩ = false ∧ w.frozen? ⟨g, 4, none⟩ = false ∧ w.frozen? ⟨g, 5, none⟩ = false ∧ w.frozen? ⟨g, 6, none⟩ = false ∧ w.frozen? ⟨g, 7, none⟩ = false) := by
  have hr : Row w g t #[a0, a1, a2, a3, a4, a5, a6, a7] := box_at h (rs.length + i) (by rw [List.getElem?_append_right (by omega)]; simpa using hi)
  exact ⟨Row.cells8 hr, hr.free 0, hr.free 1, hr.free 2, hr.free 3, hr.free 4, hr.free 5, hr.free 6, hr.free 7⟩
theorem put_any {W w : World} {rs ts : List Res} {g : Nat} {t : TypeId} {cs : Array Value} (i : Nat) (h : ∃ cs, Sep W w (rs ++ ts.set i (boxR g t cs))) (hi : i < ts.length) (j : Nat) (v : Value) : ∃ cs, Sep W (w.setCell ⟨g, j, none⟩ v) (rs ++ ts.set i (boxR g t cs)) := by
  obtain ⟨cs, h⟩ := h
  have h1 := put_r h i (by rw [List.getElem?_set_self hi]) j v
  rw [List.set_set] at h1
  exact ⟨_, h1⟩
theorem set_at {α : Type} {ts : List α} {i : Nat} {x : α} (h : ts[i]? = some x) : ts.set i x = ts := set_same h
theorem put8 {W w : World} {rs ts : List Res} {g : Nat} {t : TypeId} {cs : Array Value} (h : Sep W w (rs ++ ts)) (i : Nat) (hi : ts[i]? = some (boxR g t cs)) (b0 b1 b2 b3 b4 b5 b6 b7 : Value) : ∃ cs, Sep W ((((((((w.setCell ⟨g, 0, none⟩ b0).setCell ⟨g, 1, none⟩ b1).setCell ⟨g, 2, none⟩ b2).setCell ⟨g, 3, none⟩ b3).setCell ⟨g, 4, none⟩ b4).setCell ⟨g, 5, none⟩ b5).setCell ⟨g, 6, none⟩ b6).setCell ⟨g, 7, none⟩ b7) (rs ++ ts.set i (boxR g t cs)) := by
  have hl : i < ts.length := (List.getElem?_eq_some_iff.1 hi).1
  have h0 : ∃ cs, Sep W w (rs ++ ts.set i (boxR g t cs)) := ⟨cs, by rw [set_at hi]; exact h⟩
  exact put_any (cs := #[]) i (put_any (cs := #[]) i (put_any (cs := #[]) i (put_any (cs := #[]) i (put_any (cs := #[]) i (put_any (cs := #[]) i (put_any (cs := #[]) i (put_any (cs := #[]) i (h0) hl 0 _) hl 1 _) hl 2 _) hl 3 _) hl 4 _) hl 5 _) hl 6 _) hl 7 _
section
variable {W w : World} {rs : List Res} {c : Nat}
theorem range_s (h : Sep W w rs) (i : Nat) (hi : rs[i]? = some (curR W c)) :
    Calls Try.prog 81 #[.pointer (some ⟨c, 0, none⟩)] w fun e w' => ∃ r : R, e = .returned r.v ∧ (r.lo.text.size = 0 ∧ r.hi.text.size = 0) ∧ Sep W w' rs := by
  have H := Lib.hid (push_box h 45 #[.bool false, .bool false, .int .i64 0, .int .i64 0, .string ⟨#[]⟩, .int .i64 0, .int .i64 0, .string ⟨#[]⟩] w.heap.size rfl)
  have HI := Lib.hid (at_left (m := [boxR w.heap.size 45 #[.bool false, .bool false, .int .i64 0, .int .i64 0, .string ⟨#[]⟩, .int .i64 0, .int .i64 0, .string ⟨#[]⟩]]) hi)
  clear h hi
  go_enter Try.func81, Try.ntmps81
  go_wp2_with fail
  go_at_call 102
  refine (once_s H.out i HI.out _ (by decide) (by decide)).mono ?_
  rintro e w1 ⟨hl, rfl, h1⟩
  go_wp2_with fail
  go_at_call 102
  refine (once_s h1 i HI.out _ (by decide) (by decide)).mono ?_
  rintro e w2 ⟨hh, rfl, h2⟩
  clear h1
  go_wp2_with fail
  go_at_call 104
  refine (small_s h2 i HI.out).mono ?_
  rintro e w3 ⟨⟨kl, nl, sl⟩, rfl, ⟨-, hsl⟩, h3⟩
  have HSL := Lib.hid hsl
  clear h2 hsl
  simp only [K.v]
  go_wp2_with fail
  go_at_call 104
  refine (small_s h3 i HI.out).mono ?_
  rintro e w4 ⟨⟨kh, nh, sh⟩, rfl, ⟨-, hsh⟩, h4⟩
  have HSH := Lib.hid hsh
  clear h3 hsh
  simp only [K.v]
  obtain ⟨g, hg⟩ : ∃ g, g = w4.heap.size := ⟨_, rfl⟩
  obtain ⟨wA, hwA⟩ : ∃ u, u = w4.alloc (.cells #[.bool hl, .bool hh, .int .i64 kl, .int .i64 nl, .string sl, .int .i64 kh, .int .i64 nh, .string sh] 45) := ⟨_, rfl⟩
  have h5 := push_box h4 45 #[.bool hl, .bool hh, .int .i64 kl, .int .i64 nl, .string sl, .int .i64 kh, .int .i64 nh, .string sh] g hg
  rw [← hwA] at h5
  go_wp2_with fail
  go_at_call 102
  rw [← hwA, ← hg]
  clear h4 hwA hg
  refine (once_s h5 i (at_left HI.out) _ (by decide) (by decide)).mono ?_
  rintro e w6 ⟨b, rfl, h6⟩
  replace h6 := (show Sep W w6 (rs ++ [boxR w.heap.size 45 #[.bool false, .bool false, .int .i64 0, .int .i64 0, .string ⟨#[]⟩, .int .i64 0, .int .i64 0, .string ⟨#[]⟩], boxR g 45 #[.bool hl, .bool hh, .int .i64 kl, .int .i64 nl, .string sl, .int .i64 kh, .int .i64 nh, .string sh]]) by simpa [List.append_assoc] using h6)
  clear h5
  have ap := r_apart h6 0 1 rfl rfl (by decide)
  have ap2 := ap.symm
  obtain ⟨⟨z0, z1, z2, z3, z4, z5, z6, z7⟩, f0, f1, f2, f3, f4, f5, f6, f7⟩ := r_facts8 h6 0 rfl
  obtain ⟨⟨y0, y1, y2, y3, y4, y5, y6, y7⟩, e0, e1, e2, e3, e4, e5, e6, e7⟩ := r_facts8 h6 1 rfl
  have HE := Lib.hid h6
  clear h6
  cases b with
  | true =>
    go_wp2_with fail
    refine bodyPost_ret (v := R.v ⟨hl, hh, K.zero, ⟨kh, nh, sh⟩⟩) (by simp [results, Try.results81, go_sem, R.v, K.zero, z0, z1, z2, z3, z4, z5, z6, z7]) rfl ?_
    have h7 := put_r (put_r (put_r HE.out 1 rfl 2 (.int .i64 0)) 1 rfl 3 (.int .i64 0)) 1 rfl 4 (.string ⟨#[]⟩)
    obtain ⟨cs, h9⟩ := put8 h7 0 rfl (.bool hl) (.bool hh) (.int .i64 0) (.int .i64 0) (.string ⟨#[]⟩) (.int .i64 kh) (.int .i64 nh) (.string sh)
    exact ⟨_, rfl, ⟨rfl, HSH.out⟩, let_go h9⟩
  | false =>
    go_wp2_with fail
    refine bodyPost_ret (v := R.v ⟨hl, hh, ⟨kl, nl, sl⟩, ⟨kh, nh, sh⟩⟩) (by simp [results, Try.results81, go_sem, R.v, z0, z1, z2, z3, z4, z5, z6, z7]) rfl ?_
    obtain ⟨cs, h9⟩ := put8 HE.out 0 rfl (.bool hl) (.bool hh) (.int .i64 kl) (.int .i64 nl) (.string sl) (.int .i64 kh) (.int .i64 nh) (.string sh)
    exact ⟨_, rfl, ⟨HSL.out, HSH.out⟩, let_go h9⟩
end
end Go.Proofs.Ytkfejjoehgipmaa.Sd
