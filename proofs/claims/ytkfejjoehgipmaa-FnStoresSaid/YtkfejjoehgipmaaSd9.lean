/-
  Drawn keys and the bounds of their numbers. No condition.
-/
import Derived.Test.YtkfejjoehgipmaaPb
namespace Go.Proofs.Ytkfejjoehgipmaa.Sd
set_option maxRecDepth 100000
open Go.ChangeShapes Go.WideShapes Go.ChangeAt Go.RowKit Mem Sl Ex Draw L2 L4
set_option linter.unusedVariables false

def Low (k : K) : Prop := L4.Good k ∧ k.text.size ≤ 12 ∧ (k.kind = 1 → k.n ≤ 256 ∨ 1000000 < k.n)
section
variable {W w : World} {rs : List Res} {c : Nat}
theorem number_n (h : Sep W w rs) (i : Nat) (hi : rs[i]? = some (curR W c)) :
    Calls Try.prog 139 #[.pointer (some ⟨c, 0, none⟩)] w fun e w' => ∃ n, e = .returned (.int .i64 n) ∧ (-1000000000000 ≤ n ∧ n ≤ 1000000000000 ∧ (n ≤ 256 ∨ 1000000 < n)) ∧ Sep W w' rs := by
  have H := Lib.hid h
  have HI := Lib.hid hi
  clear h hi
  go_enter Try.func139, Try.ntmps139
  go_wp2_with fail
  go_at_call 106
  refine (below_s H.out i HI.out _ (by decide) (by decide)).mono ?_
  rintro e w1 ⟨x, rfl, ⟨hx0, hx1⟩, h1⟩
  go_wp2_with fail
  go_at_call 108
  refine (int_sg h1 i HI.out [0, 1, 2, -1, 255, 256, -1000000000000, 1000000000000, x] (fun n => -1000000000000 ≤ n ∧ n ≤ 1000000000000 ∧ (n ≤ 256 ∨ 1000000 < n)) (by intro v hv; simp at hv; omega) 9 rfl (by decide) (by decide) _ rfl).mono ?_
  rintro e w2 ⟨n, rfl, hn, h2⟩
  go_wp2_with fail
  go_ret
  exact ⟨_, rfl, hn, h2⟩
theorem small_n (h : Sep W w rs) (i : Nat) (hi : rs[i]? = some (curR W c)) :
    Calls Try.prog 104 #[.pointer (some ⟨c, 0, none⟩)] w fun e w' => ∃ k : K, e = .returned k.v ∧ Low k ∧ Sep W w' rs := by
  have H := Lib.hid (push_box h 28 #[.int .i64 0, .int .i64 0, .string ⟨#[]⟩] w.heap.size rfl)
  have HI := Lib.hid (at_left (m := [boxR w.heap.size 28 #[.int .i64 0, .int .i64 0, .string ⟨#[]⟩]]) hi)
  clear h hi
  go_enter Try.func104, Try.ntmps104
  go_wp2_with fail
  go_at_call 106
  refine (below_s H.out i HI.out _ (by decide) (by decide)).mono ?_
  rintro e w1 ⟨x, rfl, ⟨hx0, hx1⟩, h1⟩
  obtain ⟨z0, z1, z2, f0, f1, f2⟩ := box_facts h1
  have HE := Lib.hid h1
  clear h1
  go_wp2_with fail
  refine bodyPost_ret (v := K.v ⟨1, x, ⟨#[]⟩⟩) (by simp [results, Try.results104, go_sem, K.v, z0, z1, z2]) rfl ?_
  exact ⟨_, rfl, ⟨good1 (by omega) (by omega), by show (0 : Nat) ≤ 12; omega, fun _ => .inl (by show x ≤ 256; omega)⟩, box_end HE.out _ _ _⟩
theorem key_n (h : Sep W w rs) (i : Nat) (hi : rs[i]? = some (curR W c)) :
    Calls Try.prog 129 #[.pointer (some ⟨c, 0, none⟩)] w fun e w' => ∃ k : K, e = .returned k.v ∧ Low k ∧ Sep W w' rs := by
  have H := Lib.hid (push_box h 28 #[.int .i64 0, .int .i64 0, .string ⟨#[]⟩] w.heap.size rfl)
  have HI := Lib.hid (at_left (m := [boxR w.heap.size 28 #[.int .i64 0, .int .i64 0, .string ⟨#[]⟩]]) hi)
  clear h hi
  go_enter Try.func129, Try.ntmps129
  go_wp2_with fail
  go_at_call 107
  refine (str_sg H.out i HI.out [⟨#[]⟩, ⟨#[97]⟩, ⟨#[97, 98]⟩, ⟨#[98]⟩, ⟨#[122, 57]⟩, ⟨#[97, 98, 99, 100, 101, 102, 103, 104, 105, 106, 107, 108]⟩] (fun s => isT s.data.toList = true ∧ s.size ≤ 12) (by decide) 6 rfl (by decide) (by decide) _ (by simp)).mono ?_
  rintro e w1 ⟨s, rfl, ⟨hs, hs2⟩, h1⟩
  have HS := Lib.hid hs
  clear hs
  go_wp2_with fail
  go_at_call 106
  refine (below_s h1 i HI.out _ (by decide) (by decide)).mono ?_
  rintro e w2 ⟨x, rfl, ⟨hx0, hx1⟩, h2⟩
  clear h1
  by_cases hx : x = 0
  · subst hx
    obtain ⟨z0, z1, z2, f0, f1, f2⟩ := box_facts h2
    have HE := Lib.hid h2
    clear h2
    go_wp2_with fail
    refine bodyPost_ret (v := K.v ⟨2, 0, s⟩) (by simp [results, Try.results129, go_sem, K.v, z0, z1, z2]) rfl ?_
    exact ⟨_, rfl, ⟨good2 HS.out, hs2, fun h => absurd h (by show ¬ (2 : Int) = 1; decide)⟩, box_end HE.out _ _ _⟩
  · have hx' : (x == 0) = false := by simp [hx]
    by_cases hy : x = 1
    · subst hy
      go_wp2_with fail
      go_at_call 139
      refine (number_n h2 i HI.out).mono ?_
      rintro e w3 ⟨n, rfl, ⟨hn0, hn1, hn2⟩, h3⟩
      clear h2
      obtain ⟨z0, z1, z2, f0, f1, f2⟩ := box_facts h3
      have HE := Lib.hid h3
      clear h3
      go_wp2_with fail
      refine bodyPost_ret (v := K.v ⟨3, n, s⟩) (by simp [results, Try.results129, go_sem, K.v, z0, z1, z2]) rfl ?_
      exact ⟨_, rfl, ⟨good3 hn0 hn1 HS.out, hs2, fun h => absurd h (by show ¬ (3 : Int) = 1; decide)⟩, box_end HE.out _ _ _⟩
    · have hy' : (x == 1) = false := by simp [hy]
      go_wp2_with fail
      go_at_call 139
      refine (number_n h2 i HI.out).mono ?_
      rintro e w3 ⟨n, rfl, ⟨hn0, hn1, hn2⟩, h3⟩
      clear h2
      obtain ⟨z0, z1, z2, f0, f1, f2⟩ := box_facts h3
      have HE := Lib.hid h3
      clear h3
      go_wp2_with fail
      refine bodyPost_ret (v := K.v ⟨1, n, ⟨#[]⟩⟩) (by simp [results, Try.results129, go_sem, K.v, z0, z1, z2]) rfl ?_
      exact ⟨_, rfl, ⟨good1 hn0 hn1, by show (⟨#[]⟩ : ByteArray).size ≤ 12; decide, fun _ => hn2⟩, box_end HE.out _ _ _⟩
end
end Go.Proofs.Ytkfejjoehgipmaa.Sd
