/-
  What the law FnDeletions needs, laid by my program lawpack.py, part 4: the texts Sd4, Sd9, L5Gm, L5Iq, Sd5, L5Dec, Sd6, L6Dr, Sd4r, L6Ds, one behind the other; each begins with its own words.
-/
import Derived.Test.YtojcdmgcbgpdmaaFnDeletionsP3
set_option linter.unusedSimpArgs false
set_option linter.unusedVariables false
set_option maxRecDepth 100000
namespace Go.Proofs.Ytojcdmgcbgpdmaa.Sd
open Go.ChangeShapes Go.WideShapes Go.ChangeAt Go.RowKit Mem Sl Ex Draw L2 L4

section
variable {W w : World} {rs : List Res} {g : Nat} {t : TypeId} {cs : Array Value}
theorem put_box (h : Sep W w rs) (i : Nat) (hi : rs[i]? = some (boxR g t cs)) (j : Nat) (v : Value) : Sep W (w.setCell ⟨g, j, none⟩ v) (rs.set i (boxR g t (cs.setIfInBounds j v))) :=
 h.put i hi (Turned.of_grown (grownBy_put w g j v)) ((box_at h i hi).put j v) (fun b hb => hb)
theorem box_end (h : Sep W w (rs ++ [boxR g t cs])) (x y z : Value) : Sep W (((w.setCell ⟨g, 0, none⟩ x).setCell ⟨g, 1, none⟩ y).setCell ⟨g, 2, none⟩ z) rs := by
 have h1 := put_box h rs.length (at_last _ _) 0 x
 rw [set_last] at h1
 have h2 := put_box h1 rs.length (at_last _ _) 1 y
 rw [set_last] at h2
 have h3 := put_box h2 rs.length (at_last _ _) 2 z
 rw [set_last] at h3
 have h4 := drop (ts := []) h3
 rwa [List.append_nil] at h4
theorem box_facts {x y z : Value} (h : Sep W w (rs ++ [boxR g t #[x, y, z]])) : w.cell? ⟨g, 0, none⟩ = some x ∧ w.cell? ⟨g, 1, none⟩ = some y ∧ w.cell? ⟨g, 2, none⟩ = some z ∧ w.frozen? ⟨g, 0, none⟩ = false ∧ w.frozen? ⟨g, 1, none⟩ = false ∧ w.frozen? ⟨g, 2, none⟩ = false := Row.facts3 (box_at h rs.length (at_last _ _))
end

theorem good1 {n : Int} (h0 : -1000000000000 ≤ n) (h1 : n ≤ 1000000000000) : L4.Good ⟨1, n, ⟨#[]⟩⟩ := ⟨by show (1 : Int) ≤ 1; decide, by show (1 : Int) ≤ 3; decide, h0, h1, by intro h; simp at h, rfl, fun _ => rfl⟩
theorem good2 {s : ByteArray} (h : isT s.data.toList = true) : L4.Good ⟨2, 0, s⟩ := ⟨by show (1 : Int) ≤ 2; decide, by show (2 : Int) ≤ 3; decide, by show (-1000000000000 : Int) ≤ 0; decide, by show (0 : Int) ≤ 1000000000000; decide, fun _ => rfl, h, by intro h; simp at h⟩
theorem good3 {n : Int} {s : ByteArray} (h0 : -1000000000000 ≤ n) (h1 : n ≤ 1000000000000) (h : isT s.data.toList = true) : L4.Good ⟨3, n, s⟩ := ⟨by show (1 : Int) ≤ 3; decide, by show (3 : Int) ≤ 3; decide, h0, h1, by intro h; simp at h, h, by intro h; simp at h⟩
theorem two_facts {W w : World} {rs : List Res} {g g2 : Nat} {t t2 : TypeId} {x y z : Value} {x2 y2 z2 : Value} (h : Sep W w ((rs ++ [boxR g t #[x, y, z]]) ++ [boxR g2 t2 #[x2, y2, z2]])) : (w.cell? ⟨g, 0, none⟩ = some x ∧ w.cell? ⟨g, 1, none⟩ = some y ∧ w.cell? ⟨g, 2, none⟩ = some z ∧ w.frozen? ⟨g, 0, none⟩ = false ∧ w.frozen? ⟨g, 1, none⟩ = false ∧ w.frozen? ⟨g, 2, none⟩ = false) ∧ (w.cell? ⟨g2, 0, none⟩ = some x2 ∧ w.cell? ⟨g2, 1, none⟩ = some y2 ∧ w.cell? ⟨g2, 2, none⟩ = some z2 ∧ w.frozen? ⟨g2, 0, none⟩ = false ∧ w.frozen? ⟨g2, 1, none⟩ = false ∧ w.frozen? ⟨g2, 2, none⟩ = false) :=
 ⟨Row.facts3 (box_at h rs.length (at_left (at_last _ _))), box_facts h⟩
theorem drop1 {W w : World} {rs : List Res} {r : Res} (h : Sep W w (rs ++ [r])) : Sep W w rs := by
 have h4 := drop (ts := []) h
 rwa [List.append_nil] at h4
theorem put_last {W w : World} {rs : List Res} {g : Nat} {t : TypeId} {cs : Array Value} (h : Sep W w (rs ++ [boxR g t cs])) (j : Nat) (v : Value) : Sep W (w.setCell ⟨g, j, none⟩ v) (rs ++ [boxR g t (cs.setIfInBounds j v)]) := by
 have h1 := put_box h rs.length (at_last _ _) j v
 rwa [set_last] at h1

theorem put_r {W w : World} {rs ts : List Res} {g : Nat} {t : TypeId} {cs : Array Value} (h : Sep W w (rs ++ ts)) (i : Nat) (hi : ts[i]? = some (boxR g t cs)) (j : Nat) (v : Value) : Sep W (w.setCell ⟨g, j, none⟩ v) (rs ++ ts.set i (boxR g t (cs.setIfInBounds j v))) := by
 have h1 := put_box h (rs.length + i) (by rw [List.getElem?_append_right (by omega)]; simpa using hi) j v
 rwa [List.set_append_right _ _ (by omega), Nat.add_sub_cancel_left] at h1
theorem let_go {W w : World} {rs : List Res} : ∀ {ts : List Res}, Sep W w (rs ++ ts) → Sep W w rs
 | [], h => by rwa [List.append_nil] at h
 | _ :: _, h => let_go (drop h)
theorem r_apart {W w : World} {rs ts : List Res} {g g2 : Nat} {t t2 : TypeId} {cs cs2 : Array Value} (h : Sep W w (rs ++ ts)) (i j : Nat) (hi : ts[i]? = some (boxR g t cs)) (hj : ts[j]? = some (boxR g2 t2 cs2)) (hne : i ≠ j) : g ≠ g2 := fun e =>
 h.apart (rs.length + i) (rs.length + j) _ _ (by rw [List.getElem?_append_right (by omega)]; simpa using hi) (by rw [List.getElem?_append_right (by omega)]; simpa using hj) (by omega) g (by simp [boxR]) (by simp [boxR, e])

section
variable {W w : World} {rs : List Res} {c : Nat}
theorem str_sg (h : Sep W w rs) (i : Nat) (hi : rs[i]? = some (curR W c)) (l : List ByteArray) (P : ByteArray → Prop) (hP : ∀ v ∈ l, P v) (n : Nat) (hn : n = l.length) (h1 : 1 ≤ n) (h2 : n ≤ 1000) (g : Nat) (hg : g = w.heap.size) :
  Calls Try.prog 161 #[.pointer (some ⟨c, 0, none⟩), .slice (some ⟨g, 0, none⟩) n n] (w.alloc (.cells (l.map Value.string).toArray 9)) fun e w' => ∃ s, e = .returned (.string s) ∧ P s ∧ Sep W w' rs := by
 subst hn
 subst hg
 exact (l1Str_on w.heap.size l.length h1 h2 (strs_lit w 9 l P hP) (by simp) (fun e => by have := (cur_on h i hi).lt; omega) (cur_on (h.alloc _) i hi)).mono fun _ _ ⟨s, he, hs, ho⟩ => ⟨s, he, hs, moved (h.alloc _) i hi ho⟩
theorem int_sg (h : Sep W w rs) (i : Nat) (hi : rs[i]? = some (curR W c)) (l : List Int) (Q : Int → Prop) (hQ : ∀ v ∈ l, Q v) (n : Nat) (hn : n = l.length) (h1 : 1 ≤ n) (h2 : n ≤ 1000) (g : Nat) (hg : g = w.heap.size) :
  Calls Try.prog 162 #[.pointer (some ⟨c, 0, none⟩), .slice (some ⟨g, 0, none⟩) n n] (w.alloc (.cells (l.map (Value.int .i64)).toArray 3)) fun e w' => ∃ r, e = .returned (.int .i64 r) ∧ Q r ∧ Sep W w' rs := by
 subst hn
 subst hg
 exact int_s h i hi l Q hQ h1 h2
theorem number_s (h : Sep W w rs) (i : Nat) (hi : rs[i]? = some (curR W c)) :
  Calls Try.prog 232 #[.pointer (some ⟨c, 0, none⟩)] w fun e w' => ∃ n, e = .returned (.int .i64 n) ∧ (-1000000000000 ≤ n ∧ n ≤ 1000000000000) ∧ Sep W w' rs := by
 have H := Lib.hid h
 have HI := Lib.hid hi
 clear h hi
 go_enter Try.func232, Try.ntmps232
 go_wp2_with fail
 go_at_call 160
 refine (below_s H.out i HI.out _ (by decide) (by decide)).mono ?_
 rintro e w1 ⟨x, rfl, ⟨hx0, hx1⟩, h1⟩
 go_wp2_with fail
 go_at_call 162
 refine (int_sg h1 i HI.out [0, 1, 2, -1, 255, 256, -1000000000000, 1000000000000, x] (fun n => -1000000000000 ≤ n ∧ n ≤ 1000000000000) (by intro v hv; simp at hv; omega) 9 rfl (by decide) (by decide) _ rfl).mono ?_
 rintro e w2 ⟨n, rfl, hn, h2⟩
 go_wp2_with fail
 go_ret
 exact ⟨_, rfl, hn, h2⟩
theorem small_s (h : Sep W w rs) (i : Nat) (hi : rs[i]? = some (curR W c)) :
  Calls Try.prog 158 #[.pointer (some ⟨c, 0, none⟩)] w fun e w' => ∃ k : K, e = .returned k.v ∧ (L4.Good k ∧ k.text.size = 0) ∧ Sep W w' rs := by
 have H := Lib.hid (push_box h 28 #[.int .i64 0, .int .i64 0, .string ⟨#[]⟩] w.heap.size rfl)
 have HI := Lib.hid (at_left (m := [boxR w.heap.size 28 #[.int .i64 0, .int .i64 0, .string ⟨#[]⟩]]) hi)
 clear h hi
 go_enter Try.func158, Try.ntmps158
 go_wp2_with fail
 go_at_call 160
 refine (below_s H.out i HI.out _ (by decide) (by decide)).mono ?_
 rintro e w1 ⟨x, rfl, ⟨hx0, hx1⟩, h1⟩
 obtain ⟨z0, z1, z2, f0, f1, f2⟩ := box_facts h1
 have HE := Lib.hid h1
 clear h1
 go_wp2_with fail
 refine bodyPost_ret (v := K.v ⟨1, x, ⟨#[]⟩⟩) (by simp [results, Try.results158, go_sem, K.v, z0, z1, z2]) rfl ?_
 exact ⟨_, rfl, ⟨good1 (by omega) (by omega), rfl⟩, box_end HE.out _ _ _⟩
theorem key_s (h : Sep W w rs) (i : Nat) (hi : rs[i]? = some (curR W c)) :
  Calls Try.prog 207 #[.pointer (some ⟨c, 0, none⟩)] w fun e w' => ∃ k : K, e = .returned k.v ∧ (L4.Good k ∧ k.text.size ≤ 12) ∧ Sep W w' rs := by
 have H := Lib.hid (push_box h 28 #[.int .i64 0, .int .i64 0, .string ⟨#[]⟩] w.heap.size rfl)
 have HI := Lib.hid (at_left (m := [boxR w.heap.size 28 #[.int .i64 0, .int .i64 0, .string ⟨#[]⟩]]) hi)
 clear h hi
 go_enter Try.func207, Try.ntmps207
 go_wp2_with fail
 go_at_call 161
 refine (str_sg H.out i HI.out [⟨#[]⟩, ⟨#[97]⟩, ⟨#[97, 98]⟩, ⟨#[98]⟩, ⟨#[122, 57]⟩, ⟨#[97, 98, 99, 100, 101, 102, 103, 104, 105, 106, 107, 108]⟩] (fun s => isT s.data.toList = true ∧ s.size ≤ 12) (by decide) 6 rfl (by decide) (by decide) _ (by simp)).mono ?_
 rintro e w1 ⟨s, rfl, ⟨hs, hs2⟩, h1⟩
 have HS := Lib.hid hs
 clear hs
 go_wp2_with fail
 go_at_call 160
 refine (below_s h1 i HI.out _ (by decide) (by decide)).mono ?_
 rintro e w2 ⟨x, rfl, ⟨hx0, hx1⟩, h2⟩
 clear h1
 by_cases hx : x = 0
 ·
  subst hx
  obtain ⟨z0, z1, z2, f0, f1, f2⟩ := box_facts h2
  have HE := Lib.hid h2
  clear h2
  go_wp2_with fail
  refine bodyPost_ret (v := K.v ⟨2, 0, s⟩) (by simp [results, Try.results207, go_sem, K.v, z0, z1, z2]) rfl ?_
  exact ⟨_, rfl, ⟨good2 HS.out, hs2⟩, box_end HE.out _ _ _⟩
 ·
  have hx' : (x == 0) = false := by simp [hx]
  by_cases hy : x = 1
  ·
   subst hy
   go_wp2_with fail
   go_at_call 232
   refine (number_s h2 i HI.out).mono ?_
   rintro e w3 ⟨n, rfl, ⟨hn0, hn1⟩, h3⟩
   clear h2
   obtain ⟨z0, z1, z2, f0, f1, f2⟩ := box_facts h3
   have HE := Lib.hid h3
   clear h3
   go_wp2_with fail
   refine bodyPost_ret (v := K.v ⟨3, n, s⟩) (by simp [results, Try.results207, go_sem, K.v, z0, z1, z2]) rfl ?_
   exact ⟨_, rfl, ⟨good3 hn0 hn1 HS.out, hs2⟩, box_end HE.out _ _ _⟩
  ·
   have hy' : (x == 1) = false := by simp [hy]
   go_wp2_with fail
   go_at_call 232
   refine (number_s h2 i HI.out).mono ?_
   rintro e w3 ⟨n, rfl, ⟨hn0, hn1⟩, h3⟩
   clear h2
   obtain ⟨z0, z1, z2, f0, f1, f2⟩ := box_facts h3
   have HE := Lib.hid h3
   clear h3
   go_wp2_with fail
   refine bodyPost_ret (v := K.v ⟨1, n, ⟨#[]⟩⟩) (by simp [results, Try.results207, go_sem, K.v, z0, z1, z2]) rfl ?_
   exact ⟨_, rfl, ⟨good1 hn0 hn1, by show (⟨#[]⟩ : ByteArray).size ≤ 12; decide⟩, box_end HE.out _ _ _⟩
def Some (k : K) : Prop := 0 ≤ k.kind ∧ k.kind ≤ 5 ∧ -1000000000001 ≤ k.n ∧ k.n ≤ 1000000000001 ∧ k.text.size ≤ 13
theorem any_s (h : Sep W w rs) (i : Nat) (hi : rs[i]? = some (curR W c)) :
  Calls Try.prog 157 #[.pointer (some ⟨c, 0, none⟩)] w fun e w' => ∃ k : K, e = .returned k.v ∧ Some k ∧ Sep W w' rs := by
 have H := Lib.hid (push_box h 28 #[.int .i64 0, .int .i64 0, .string ⟨#[]⟩] w.heap.size rfl)
 have HI := Lib.hid (at_left (m := [boxR w.heap.size 28 #[.int .i64 0, .int .i64 0, .string ⟨#[]⟩]]) hi)
 clear h hi
 go_enter Try.func157, Try.ntmps157
 go_wp2_with fail
 go_at_call 207
 refine (key_s H.out i HI.out).mono ?_
 rintro e w1 ⟨⟨kd, n, s⟩, rfl, ⟨hg, hs⟩, h1⟩
 have hb : 1 ≤ kd ∧ kd ≤ 3 ∧ -1000000000000 ≤ n ∧ n ≤ 1000000000000 := ⟨hg.k0, hg.k1, hg.n0, hg.n1⟩
 obtain ⟨k0, k1, n0, n1⟩ := hb
 have hs' : s.size ≤ 12 := hs
 clear hg hs
 simp only [K.v]
 obtain ⟨g, hg⟩ : ∃ g, g = w1.heap.size := ⟨_, rfl⟩
 obtain ⟨wA, hwA⟩ : ∃ u, u = w1.alloc (.cells #[.int .i64 kd, .int .i64 n, .string s] 28) := ⟨_, rfl⟩
 have HA := Lib.hid (show Sep W wA _ by rw [hwA]; exact push_box h1 28 #[.int .i64 kd, .int .i64 n, .string s] g hg)
 have HI2 := Lib.hid (at_left (m := [boxR g 28 #[.int .i64 kd, .int .i64 n, .string s]]) HI.out)
 have hin := (box_at h1 rs.length (at_last _ _)).inside
 have hne : ¬ g = w.heap.size := by omega
 have hne2 : ¬ w.heap.size = g := by omega
 clear h1 hin
 go_wp2_with fail
 go_at_call 160
 rw [← hwA, ← hg]
 clear hwA hg
 refine (below_s HA.out i HI2.out _ (by decide) (by decide)).mono ?_
 rintro e w2 ⟨x, rfl, ⟨hx0, hx1⟩, h2⟩
 by_cases hx : x = 0
 ·
  subst hx
  go_wp2_with fail
  go_at_call 160
  refine (below_s h2 i HI2.out _ (by decide) (by decide)).mono ?_
  rintro e w3 ⟨v, rfl, ⟨hv0, hv1⟩, h3⟩
  clear h2
  obtain ⟨⟨z0, z1, z2, f0, f1, f2⟩, y0, y1, y2, e0, e1, e2⟩ := two_facts h3
  have HE := Lib.hid h3
  clear h3
  go_wp2_with fail
  refine bodyPost_ret (v := K.v ⟨v, n, s⟩) (by simp [results, Try.results157, go_sem, K.v, z0, z1, z2]) rfl ?_
  exact ⟨_, rfl, ⟨by show 0 ≤ v; omega, by show v ≤ 5; omega, by show _ ≤ n; omega, by show n ≤ _; omega, by show (s).size ≤ 13; omega⟩, box_end (drop1 (put_last HE.out 0 (.int .i64 v))) _ _ _⟩
 ·
  have hx' : (x == 0) = false := by simp [hx]
  by_cases hy : x = 1
  ·
   subst hy
   go_wp2_with fail
   go_at_call 162
   refine (int_sg h2 i HI2.out [-1000000000001, 1000000000001, 5] (fun n => -1000000000001 ≤ n ∧ n ≤ 1000000000001) (by decide) 3 rfl (by decide) (by decide) _ rfl).mono ?_
   rintro e w3 ⟨v, rfl, ⟨hv0, hv1⟩, h3⟩
   clear h2
   obtain ⟨⟨z0, z1, z2, f0, f1, f2⟩, y0, y1, y2, e0, e1, e2⟩ := two_facts h3
   have HE := Lib.hid h3
   clear h3
   go_wp2_with fail
   refine bodyPost_ret (v := K.v ⟨kd, v, s⟩) (by simp [results, Try.results157, go_sem, K.v, z0, z1, z2]) rfl ?_
   exact ⟨_, rfl, ⟨by show 0 ≤ kd; omega, by show kd ≤ 5; omega, by show _ ≤ v; omega, by show v ≤ _; omega, by show (s).size ≤ 13; omega⟩, box_end (drop1 (put_last HE.out 1 (.int .i64 v))) _ _ _⟩
  ·
   have hy' : (x == 1) = false := by simp [hy]
   by_cases hz : x = 2
   ·
    subst hz
    go_wp2_with fail
    go_at_call 161
    refine (str_sg h2 i HI2.out [⟨#[65]⟩, ⟨#[97, 32, 98]⟩, ⟨#[97, 98, 99, 100, 101, 102, 103, 104, 105, 106, 107, 108, 109]⟩, ⟨#[120, 39]⟩] (fun s => s.size ≤ 13) (by decide) 4 rfl (by decide) (by decide) _ rfl).mono ?_
    rintro e w3 ⟨v, rfl, hv, h3⟩
    clear h2
    obtain ⟨⟨z0, z1, z2, f0, f1, f2⟩, y0, y1, y2, e0, e1, e2⟩ := two_facts h3
    have HE := Lib.hid h3
    clear h3
    go_wp2_with fail
    refine bodyPost_ret (v := K.v ⟨kd, n, v⟩) (by simp [results, Try.results157, go_sem, K.v, z0, z1, z2]) rfl ?_
    exact ⟨_, rfl, ⟨by show 0 ≤ kd; omega, by show kd ≤ 5; omega, by show _ ≤ n; omega, by show n ≤ _; omega, by show (v).size ≤ 13; omega⟩, box_end (drop1 (put_last HE.out 2 (.string v))) _ _ _⟩
   ·
    have hz' : (x == 2) = false := by simp [hz]
    obtain ⟨⟨z0, z1, z2, f0, f1, f2⟩, y0, y1, y2, e0, e1, e2⟩ := two_facts h2
    have HE := Lib.hid h2
    clear h2
    go_wp2_with fail
    refine bodyPost_ret (v := K.v ⟨kd, n, s⟩) (by simp [results, Try.results157, go_sem, K.v, z0, z1, z2]) rfl ?_
    exact ⟨_, rfl, ⟨by show 0 ≤ kd; omega, by show kd ≤ 5; omega, by show _ ≤ n; omega, by show n ≤ _; omega, by show (s).size ≤ 13; omega⟩, box_end (drop1 (HE.out)) _ _ _⟩
end
end Go.Proofs.Ytojcdmgcbgpdmaa.Sd

namespace Go.Proofs.Ytojcdmgcbgpdmaa.Sd
open Go.ChangeShapes Go.WideShapes Go.ChangeAt Go.RowKit Mem Sl Ex Draw L2 L4

def Low (k : K) : Prop := L4.Good k ∧ k.text.size ≤ 12 ∧ (k.kind = 1 → k.n ≤ 256 ∨ 1000000 < k.n)
section
variable {W w : World} {rs : List Res} {c : Nat}
theorem number_n (h : Sep W w rs) (i : Nat) (hi : rs[i]? = some (curR W c)) :
  Calls Try.prog 232 #[.pointer (some ⟨c, 0, none⟩)] w fun e w' => ∃ n, e = .returned (.int .i64 n) ∧ (-1000000000000 ≤ n ∧ n ≤ 1000000000000 ∧ (n ≤ 256 ∨ 1000000 < n)) ∧ Sep W w' rs := by
 have H := Lib.hid h
 have HI := Lib.hid hi
 clear h hi
 go_enter Try.func232, Try.ntmps232
 go_wp2_with fail
 go_at_call 160
 refine (below_s H.out i HI.out _ (by decide) (by decide)).mono ?_
 rintro e w1 ⟨x, rfl, ⟨hx0, hx1⟩, h1⟩
 go_wp2_with fail
 go_at_call 162
 refine (int_sg h1 i HI.out [0, 1, 2, -1, 255, 256, -1000000000000, 1000000000000, x] (fun n => -1000000000000 ≤ n ∧ n ≤ 1000000000000 ∧ (n ≤ 256 ∨ 1000000 < n)) (by intro v hv; simp at hv; omega) 9 rfl (by decide) (by decide) _ rfl).mono ?_
 rintro e w2 ⟨n, rfl, hn, h2⟩
 go_wp2_with fail
 go_ret
 exact ⟨_, rfl, hn, h2⟩
theorem small_n (h : Sep W w rs) (i : Nat) (hi : rs[i]? = some (curR W c)) :
  Calls Try.prog 158 #[.pointer (some ⟨c, 0, none⟩)] w fun e w' => ∃ k : K, e = .returned k.v ∧ Low k ∧ Sep W w' rs := by
 have H := Lib.hid (push_box h 28 #[.int .i64 0, .int .i64 0, .string ⟨#[]⟩] w.heap.size rfl)
 have HI := Lib.hid (at_left (m := [boxR w.heap.size 28 #[.int .i64 0, .int .i64 0, .string ⟨#[]⟩]]) hi)
 clear h hi
 go_enter Try.func158, Try.ntmps158
 go_wp2_with fail
 go_at_call 160
 refine (below_s H.out i HI.out _ (by decide) (by decide)).mono ?_
 rintro e w1 ⟨x, rfl, ⟨hx0, hx1⟩, h1⟩
 obtain ⟨z0, z1, z2, f0, f1, f2⟩ := box_facts h1
 have HE := Lib.hid h1
 clear h1
 go_wp2_with fail
 refine bodyPost_ret (v := K.v ⟨1, x, ⟨#[]⟩⟩) (by simp [results, Try.results158, go_sem, K.v, z0, z1, z2]) rfl ?_
 exact ⟨_, rfl, ⟨good1 (by omega) (by omega), by show (0 : Nat) ≤ 12; omega, fun _ => .inl (by show x ≤ 256; omega)⟩, box_end HE.out _ _ _⟩
theorem key_n (h : Sep W w rs) (i : Nat) (hi : rs[i]? = some (curR W c)) :
  Calls Try.prog 207 #[.pointer (some ⟨c, 0, none⟩)] w fun e w' => ∃ k : K, e = .returned k.v ∧ Low k ∧ Sep W w' rs := by
 have H := Lib.hid (push_box h 28 #[.int .i64 0, .int .i64 0, .string ⟨#[]⟩] w.heap.size rfl)
 have HI := Lib.hid (at_left (m := [boxR w.heap.size 28 #[.int .i64 0, .int .i64 0, .string ⟨#[]⟩]]) hi)
 clear h hi
 go_enter Try.func207, Try.ntmps207
 go_wp2_with fail
 go_at_call 161
 refine (str_sg H.out i HI.out [⟨#[]⟩, ⟨#[97]⟩, ⟨#[97, 98]⟩, ⟨#[98]⟩, ⟨#[122, 57]⟩, ⟨#[97, 98, 99, 100, 101, 102, 103, 104, 105, 106, 107, 108]⟩] (fun s => isT s.data.toList = true ∧ s.size ≤ 12) (by decide) 6 rfl (by decide) (by decide) _ (by simp)).mono ?_
 rintro e w1 ⟨s, rfl, ⟨hs, hs2⟩, h1⟩
 have HS := Lib.hid hs
 clear hs
 go_wp2_with fail
 go_at_call 160
 refine (below_s h1 i HI.out _ (by decide) (by decide)).mono ?_
 rintro e w2 ⟨x, rfl, ⟨hx0, hx1⟩, h2⟩
 clear h1
 by_cases hx : x = 0
 ·
  subst hx
  obtain ⟨z0, z1, z2, f0, f1, f2⟩ := box_facts h2
  have HE := Lib.hid h2
  clear h2
  go_wp2_with fail
  refine bodyPost_ret (v := K.v ⟨2, 0, s⟩) (by simp [results, Try.results207, go_sem, K.v, z0, z1, z2]) rfl ?_
  exact ⟨_, rfl, ⟨good2 HS.out, hs2, fun h => absurd h (by show ¬ (2 : Int) = 1; decide)⟩, box_end HE.out _ _ _⟩
 ·
  have hx' : (x == 0) = false := by simp [hx]
  by_cases hy : x = 1
  ·
   subst hy
   go_wp2_with fail
   go_at_call 232
   refine (number_n h2 i HI.out).mono ?_
   rintro e w3 ⟨n, rfl, ⟨hn0, hn1, hn2⟩, h3⟩
   clear h2
   obtain ⟨z0, z1, z2, f0, f1, f2⟩ := box_facts h3
   have HE := Lib.hid h3
   clear h3
   go_wp2_with fail
   refine bodyPost_ret (v := K.v ⟨3, n, s⟩) (by simp [results, Try.results207, go_sem, K.v, z0, z1, z2]) rfl ?_
   exact ⟨_, rfl, ⟨good3 hn0 hn1 HS.out, hs2, fun h => absurd h (by show ¬ (3 : Int) = 1; decide)⟩, box_end HE.out _ _ _⟩
  ·
   have hy' : (x == 1) = false := by simp [hy]
   go_wp2_with fail
   go_at_call 232
   refine (number_n h2 i HI.out).mono ?_
   rintro e w3 ⟨n, rfl, ⟨hn0, hn1, hn2⟩, h3⟩
   clear h2
   obtain ⟨z0, z1, z2, f0, f1, f2⟩ := box_facts h3
   have HE := Lib.hid h3
   clear h3
   go_wp2_with fail
   refine bodyPost_ret (v := K.v ⟨1, n, ⟨#[]⟩⟩) (by simp [results, Try.results207, go_sem, K.v, z0, z1, z2]) rfl ?_
   exact ⟨_, rfl, ⟨good1 hn0 hn1, by show (⟨#[]⟩ : ByteArray).size ≤ 12; decide, fun _ => hn2⟩, box_end HE.out _ _ _⟩
end
end Go.Proofs.Ytojcdmgcbgpdmaa.Sd

namespace Go.Proofs.Ytojcdmgcbgpdmaa.L5
open Go.Op (bytesLess)
open L4 (less_irrefl less_total less_asymm less_trans)

theorem posF_cons (x : F) (l : List F) (s : ByteArray) : posF (x :: l) s = if bytesLess x.t s.data.toList then posF l s + 1 else 0 := by
 unfold posF
 rw [List.takeWhile_cons]
 split <;> simp
theorem putF_nil (s : ByteArray) (x : Int) : putF [] s x = [⟨s, x⟩] := rfl
theorem putF_cons (f : F) (l : List F) (s : ByteArray) (x : Int) : putF (f :: l) s x = if bytesLess f.t s.data.toList then f :: putF l s x else if f.t = s.data.toList then ⟨f.name, x⟩ :: l else ⟨s, x⟩ :: f :: l := by
 unfold putF
 rw [posF_cons]
 by_cases h : bytesLess f.t s.data.toList = true
 ·
  rw [if_pos h, if_pos h, List.getElem?_cons_succ]
  cases h2 : l[posF l s]? with
  | none => simp
  | some g =>
   simp only
   by_cases h3 : g.t = s.data.toList
   ·
    rw [if_pos h3, if_pos h3, List.set_cons_succ]
   ·
    rw [if_neg h3, if_neg h3, List.take_succ_cons, List.drop_succ_cons]; rfl
 ·
  rw [if_neg h, if_neg h, List.getElem?_cons_zero]
  simp only
  by_cases h3 : f.t = s.data.toList
  ·
   rw [if_pos h3, if_pos h3, List.set_cons_zero]
  ·
   rw [if_neg h3, if_neg h3, List.take_zero, List.drop_zero]; rfl
theorem name_of_bytes {f : F} {s : ByteArray} (h : f.t = s.data.toList) : f.name = s := by
 obtain ⟨⟨⟨t1⟩⟩, n1⟩ := f
 obtain ⟨⟨t2⟩⟩ := s
 simp only [F.t] at h
 subst h
 rfl
theorem putF_mem {l : List F} {s : ByteArray} {x : Int} : ∀ g ∈ putF l s x, g ∈ l ∨ g = ⟨s, x⟩ := by
 induction l with
 | nil => intro g hg; rw [putF_nil] at hg; simp at hg; exact .inr hg
 | cons f r ih =>
  intro g hg
  rw [putF_cons] at hg
  split at hg
  ·
   rcases List.mem_cons.1 hg with rfl | hg
   ·
    exact .inl (by simp)
   ·
    rcases ih g hg with h | h
    ·
     exact .inl (by simp [h])
    ·
     exact .inr h
  ·
   split at hg
   ·
    rename_i h2
    rcases List.mem_cons.1 hg with rfl | hg
    ·
     exact .inr (by rw [name_of_bytes h2])
    ·
     exact .inl (by simp [hg])
   ·
    rcases List.mem_cons.1 hg with rfl | hg
    ·
     exact .inr rfl
    ·
     exact .inl hg
theorem putF_len (l : List F) (s : ByteArray) (x : Int) : (putF l s x).length ≤ l.length + 1 := by
 induction l with
 | nil => rw [putF_nil]; simp
 | cons f r ih =>
  rw [putF_cons]
  split
  ·
   simp; omega
  ·
   split <;> simp

end Go.Proofs.Ytojcdmgcbgpdmaa.L5

namespace Go.Proofs.Ytojcdmgcbgpdmaa.L5
open L4 (boxR push_box box_at)
open Go.ChangeShapes Go.WideShapes Go.ChangeAt Go.RowKit Mem Sl Ex L2 Sv
theorem small_put {l : List F} {s : ByteArray} {x : Int} (h : Small l) (hs : s.size ≤ 281474976710656) : Small (putF l s x) := fun f hf => by
 rcases putF_mem f hf with h1 | rfl
 ·
  exact h f h1
 ·
  exact hs
end Go.Proofs.Ytojcdmgcbgpdmaa.L5

namespace Go.Proofs.Ytojcdmgcbgpdmaa.L5
open L4 (boxR push_box box_at)
open Go.ChangeShapes Go.WideShapes Go.ChangeAt Go.RowKit Mem Sl Ex Draw L2 Sv
open Sd (curR at_left below_s once_s new_s str_sg int_sg drew_s cur_on moved put_r let_go drop gave)

section
variable {W w w' : World} {rs ts us : List Res} {g : Nat} {t : TypeId} {cs : Array Value} {e : TypeId} {k : Nat} {a : Option Addr} {c n : Nat} {xs : List Value}
theorem at_r {α : Type} {l m : List α} {i : Nat} {x : α} (h : m[i]? = some x) : (l ++ m)[l.length + i]? = some x := by
 rw [List.getElem?_append_right (by omega)]
 simpa using h
theorem none_r (h : Sep W w rs) : Sep W w (rs ++ []) := by rwa [List.append_nil]
theorem one_r {x : Value} (h : Sep W w (rs ++ ts)) (i : Nat) (hi : ts[i]? = some (boxR g t #[x])) : w.cell? ⟨g, 0, none⟩ = some x ∧ w.frozen? ⟨g, 0, none⟩ = false := Row.one (box_at h (rs.length + i) (at_r hi))
theorem own_r (h : Sep W w (rs ++ ts)) (i : Nat) (hi : ts[i]? = some (ownV e k a c n xs)) : OwnV w 0 e k a c n xs := own_at h (rs.length + i) (at_r hi)
theorem push_r (h : Sep W w (rs ++ ts)) (hb : Below w.heap.size w w') (ho : OwnV w' w.heap.size e k a c n xs) : Sep W w' (rs ++ (ts ++ [ownV e k a c n xs])) := by
 have := push_own h hb ho
 rwa [List.append_assoc] at this
theorem box_r (h : Sep W w (rs ++ ts)) (t : TypeId) (cs : Array Value) (g : Nat) (hg : g = w.heap.size) : Sep W (w.alloc (.cells cs t)) (rs ++ (ts ++ [boxR g t cs])) := by
 have := push_box h t cs g hg
 rwa [List.append_assoc] at this
theorem take_r (h : Sep W w (rs ++ ts)) (is : List Nat) (he : is.map (fun i => ts[i]?) = us.map some) (hd : is.Nodup) : Sep W w (rs ++ us) := by
 have hl : is.length = us.length := by simpa using congrArg List.length he
 have at_ : ∀ i r, us[i]? = some r → ts[is.getD i 0]? = some r := fun i r hr => by
  have hi : i < us.length := (List.getElem?_eq_some_iff.1 hr).1
  have h2 := congrArg (fun l => l[i]?) he
  simp only [List.getElem?_map, List.getElem?_eq_getElem (show i < is.length by omega), hr, Option.map_some] at h2
  rw [List.getD_eq_getElem?_getD, List.getElem?_eq_getElem (show i < is.length by omega)]
  simpa using h2
 refine sep_sub h (fun i => if i < rs.length then i else rs.length + is.getD (i - rs.length) 0) (fun i r hr => ?_) (fun i j hi hj e => ?_)
 ·
  by_cases hlt : i < rs.length
  ·
   rw [if_pos hlt, List.getElem?_append_left hlt]
   rw [List.getElem?_append_left hlt] at hr
   exact hr
  ·
   rw [if_neg hlt]
   rw [List.getElem?_append_right (by omega)] at hr
   exact at_r (at_ _ _ hr)
 ·
  rw [List.length_append] at hi hj
  by_cases h1 : i < rs.length <;> by_cases h2 : j < rs.length
  ·
   rw [if_pos h1, if_pos h2] at e; exact e
  ·
   rw [if_pos h1, if_neg h2] at e; omega
  ·
   rw [if_neg h1, if_pos h2] at e; omega
  ·
   rw [if_neg h1, if_neg h2] at e
   have e2 : is.getD (i - rs.length) 0 = is.getD (j - rs.length) 0 := by omega
   simp only [List.getD_eq_getElem?_getD, List.getElem?_eq_getElem (show i - rs.length < is.length by omega), List.getElem?_eq_getElem (show j - rs.length < is.length by omega), Option.getD_some] at e2
   have := (List.getElem_inj hd).1 e2
   omega
end

section
variable {W w : World} {rs : List Res} {c g : Nat} {t : TypeId} {cs : Array Value}
theorem strB_s (h : Sep W w rs) (i : Nat) (hi : rs[i]? = some (curR W c)) (j : Nat) (hj : rs[j]? = some (boxR g t cs)) (hij : i ≠ j) (l : List ByteArray) (hcs : cs = (l.map Value.string).toArray) (P : ByteArray → Prop) (hP : ∀ v ∈ l, P v) (n : Nat) (hn : n = l.length) (h1 : 1 ≤ n) (h2 : n ≤ 1000) :
  Calls Try.prog 161 #[.pointer (some ⟨c, 0, none⟩), .slice (some ⟨g, 0, none⟩) n n] w fun e w' => ∃ s, e = .returned (.string s) ∧ P s ∧ Sep W w' rs := by
 subst hn
 subst hcs
 have hr := box_at h j hj
 have hs : Strs w P g l.length := fun q hq => by
  refine ⟨l[q], ?_, hP _ (List.getElem_mem hq)⟩
  rw [hr.cell]
  simp [hq]
 exact (l1Str_on g l.length h1 h2 hs (h.lies j _ hj g (by simp [boxR])).2 (fun e => h.apart i j _ _ hi hj hij c (by simp [curR]) (by simp [boxR, e])) (cur_on h i hi)).mono fun _ _ ⟨s, he, hs, ho⟩ => ⟨s, he, hs, moved h i hi ho⟩
theorem intB_s (h : Sep W w rs) (i : Nat) (hi : rs[i]? = some (curR W c)) (j : Nat) (hj : rs[j]? = some (boxR g t cs)) (hij : i ≠ j) (l : List Int) (hcs : cs = (l.map (Value.int .i64)).toArray) (P : Int → Prop) (hP : ∀ v ∈ l, P v) (n : Nat) (hn : n = l.length) (h1 : 1 ≤ n) (h2 : n ≤ 1000) :
  Calls Try.prog 162 #[.pointer (some ⟨c, 0, none⟩), .slice (some ⟨g, 0, none⟩) n n] w fun e w' => ∃ s, e = .returned (.int .i64 s) ∧ P s ∧ Sep W w' rs := by
 subst hn
 subst hcs
 have hr := box_at h j hj
 have hs : Ints w P g l.length := fun q hq => by
  refine ⟨l[q], ?_, hP _ (List.getElem_mem hq)⟩
  rw [hr.cell]
  simp [hq]
 exact (l1Int_on g l.length h1 h2 hs (h.lies j _ hj g (by simp [boxR])).2 (fun e => h.apart i j _ _ hi hj hij c (by simp [curR]) (by simp [boxR, e])) (cur_on h i hi)).mono fun _ _ ⟨s, he, hs, ho⟩ => ⟨s, he, hs, moved h i hi ho⟩
end

def Tame (l : List F) (n : Nat) : Prop := l.length ≤ n ∧ Small l
theorem Tame.nil (n : Nat) : Tame [] n := ⟨Nat.zero_le _, fun f hf => by cases hf⟩
theorem Tame.mono {l : List F} {n m : Nat} (h : Tame l n) (hm : n ≤ m) : Tame l m := ⟨Nat.le_trans h.1 hm, h.2⟩
theorem Tame.set {l : List F} {n : Nat} (h : Tame l n) {s : ByteArray} (hs : s.size ≤ 281474976710656) (x : Int) : Tame (setL l s x) (n + 1) := by
 unfold setL
 split
 ·
  exact ⟨by have := putF_len l s x; have := h.1; omega, small_put h.2 hs⟩
 ·
  exact h.mono (by omega)
theorem Tame.app {l : List F} {n : Nat} (h : Tame l n) {s : ByteArray} (hs : s.size ≤ 281474976710656) (x : Int) : Tame (l ++ [⟨s, x⟩]) (n + 1) := by
 refine ⟨by rw [List.length_append]; have := h.1; simp; omega, fun f hf => ?_⟩
 rcases List.mem_append.1 hf with h1 | h1
 ·
  exact h.2 f h1
 ·
  rw [List.mem_singleton] at h1
  rw [h1]; exact hs

section
variable {W w : World} {rs : List Res} {c : Nat}
theorem name_s (h : Sep W w rs) (i : Nat) (hi : rs[i]? = some (curR W c)) :
  Calls Try.prog 208 #[.pointer (some ⟨c, 0, none⟩)] w fun e w' => ∃ s, e = .returned (.string s) ∧ s.size ≤ 5 ∧ Sep W w' rs := by
 have H := Lib.hid h
 have HI := Lib.hid hi
 clear h hi
 go_enter Try.func208, Try.ntmps208
 go_wp2_with fail
 go_at_call 161
 refine (str_sg H.out i HI.out [⟨#[97]⟩, ⟨#[98]⟩, ⟨#[99]⟩, ⟨#[100, 111, 110, 101]⟩, ⟨#[116, 105, 116, 108, 101]⟩] (fun s => s.size ≤ 5) (by decide) 5 rfl (by decide) (by decide) _ rfl).mono ?_
 rintro e w1 ⟨s, rfl, hs, h1⟩
 go_wp2_with fail
 go_ret
 exact ⟨s, rfl, hs, h1⟩
set_option maxHeartbeats 4000000 in
theorem rec_s (h : Sep W w rs) (i : Nat) (hi : rs[i]? = some (curR W c)) :
  Calls Try.prog 159 #[.pointer (some ⟨c, 0, none⟩)] w fun e w' => ∃ A C l, e = .returned (.agg #[.slice A l.length C]) ∧ Tame l 3 ∧ Sep W w' (rs ++ [ownV 128 2 A C l.length (cellsF l)]) := by
 have HI := Lib.hid hi
 have S1 := box_r (none_r h) 31 #[.slice none 0 0] w.heap.size rfl
 have S2 := box_r S1 31 #[.slice none 0 0] (w.heap.size + 1) (by simp)
 have S3 := Lib.hid (push_r S2 (Below.refl _ _) (OwnV.nil _ _ 128 2))
 clear h hi S1 S2
 go_enter Try.func159, Try.ntmps159
 go_wp2_with fail
 go_at_call 160
 refine (below_s S3.out i (at_left HI.out) _ (by decide) (by decide)).mono ?_
 rintro e w1 ⟨x, rfl, ⟨hx0, hx1⟩, S4'⟩
 have S4 := Lib.hid S4'
 clear S4' S3
 obtain ⟨x, rfl⟩ : ∃ j : Nat, x = j := ⟨x.toNat, by omega⟩
 go_wp2_with fail
 go_loopw [4] (fun v wr => ∃ j : Nat, j ≤ 3 ∧ v = .int .i64 j ∧ Hid (∃ A C l, Tame l (3 - j) ∧ Sep W wr (rs ++ [boxR w.heap.size 31 #[.slice none 0 0], boxR (w.heap.size + 1) 31 #[.slice A l.length C], ownV 128 2 A C l.length (cellsF l)]))) (fun v _ => (intOf v).toNat)
 case atStart => exact ⟨x, by omega, rfl, none, 0, [], Tame.nil _, S4.out⟩
 case round =>
  obtain ⟨j, hj, rfl, hrel⟩ := hrel
  obtain ⟨A, C, l, hT, S⟩ := hrel.out
  have S5 := Lib.hid S
  have HT := Lib.hid hT
  clear S hT hrel S4
  obtain ⟨b0, b0'⟩ := one_r S5.out 1 rfl
  obtain ⟨q0, q0'⟩ := one_r S5.out 0 rfl
  by_cases hlt : (0 : Int) < (j : Int)
  ·
   have hset := fun (s : ByteArray) (hs : s.size ≤ 5) (y : Int) w' hr hc hz => specSetField_any A C l s y (by have := HT.out.1; omega) HT.out.2 (by omega) w' hr hc hz
   have HSet := Lib.hid hset
   clear hset
   go_wp2_with fail
   go_region_with (first
    | (go_at_call 208; refine (name_s (drew_s S5.out) i (at_left HI.out)).mono ?_; rintro e w2 ⟨s, rfl, hs, S6'⟩; have S6 := Lib.hid S6'; clear S6'; obtain ⟨b1, b1'⟩ := one_r S6.out 1 rfl)
    | (go_at_call 160; refine (below_s S6.out i (at_left HI.out) _ (by decide) (by decide)).mono ?_; rintro e w3 ⟨y, rfl, ⟨hy0, hy1⟩, S7'⟩; have S7 := Lib.hid S7'; clear S7'; obtain ⟨b2, b2'⟩ := one_r S7.out 1 rfl)
    | (go_at_call 163; refine (HSet.out s hs y _ (own_r S7.out 2 rfl).reads (own_r S7.out 2 rfl).cap (own_zero (own_r S7.out 2 rfl))).mono ?_; rintro e w4 h8; obtain ⟨A2, C2, rfl, ho, hb⟩ := h8; have S8 := Lib.hid (push_r S7.out hb ho); clear ho hb; obtain ⟨b3, b3'⟩ := one_r S8.out 1 rfl))
   all_goals
    have S9 := Lib.hid (take_r (us := [boxR w.heap.size 31 #[.slice none 0 0], boxR (w.heap.size + 1) 31 #[.slice A2 (setL l s y).length C2], ownV 128 2 A2 C2 (setL l s y).length (cellsF (setL l s y))]) (put_r S8.out 1 rfl 0 (.slice A2 (setL l s y).length C2)) [0, 1, 3] (by rfl) (by decide))
    have HT2 := Lib.hid (HT.out.set (show s.size ≤ 281474976710656 by omega) y)
    clear b0 b0' b1 b1' b2 b2' b3 b3' q0 q0'
    go_wp2_with fail
    go_roundw
    case rel => exact ⟨j - 1, by omega, by go_num, A2, C2, setL l s y, by have := HT2.out; rwa [show 3 - j + 1 = 3 - (j - 1) by omega] at this, S9.out⟩
    case measure => simp [intOf]; omega
  ·
   go_wp2_with fail
   refine bodyPost_ret (v := .agg #[.slice A l.length C]) (by simp [results, Try.results159, go_sem, q0]) rfl ?_
   refine ⟨A, C, l, rfl, HT.out.mono (by omega), take_r (put_r S5.out 0 rfl 0 (.slice A l.length C)) [2] (by rfl) (by decide)⟩
end
end Go.Proofs.Ytojcdmgcbgpdmaa.L5

namespace Go.Proofs.Ytojcdmgcbgpdmaa.L5
open L4 (boxR push_box box_at)
open Go.ChangeShapes Go.WideShapes Go.ChangeAt Go.RowKit Mem Sl Ex L2 Sv

def decL (l : List Int) : List F := (decR l).getD []
def decB (l : List Int) : Bool := (decR l).isSome
end Go.Proofs.Ytojcdmgcbgpdmaa.L5

set_option linter.unusedSimpArgs false
namespace Go.Proofs.Ytojcdmgcbgpdmaa.L5
open L4 (boxR push_box box_at)
open Go.ChangeShapes Go.WideShapes Go.ChangeAt Go.RowKit Mem Sl Ex Draw L2 Sv
open Sd (curR at_left below_s once_s new_s str_sg int_sg drew_s cur_on moved put_r let_go drop gave)

theorem assoc_r {W w : World} {rs ts us : List Res} (h : Sep W w ((rs ++ ts) ++ us)) : Sep W w (rs ++ (ts ++ us)) := by rwa [List.append_assoc] at h
theorem six_strs (j : Nat) (hj : j < 6) : ∃ s : ByteArray, (#[.string ⟨#[100]⟩, .string ⟨#[101]⟩, .string ⟨#[102]⟩, .string ⟨#[103]⟩, .string ⟨#[104]⟩, .string ⟨#[105]⟩] : Array Value)[j]? = some (.string s) ∧ s.size ≤ 1 := by
 match j, hj with
 | 0, _ => exact ⟨_, rfl, by decide⟩
 | 1, _ => exact ⟨_, rfl, by decide⟩
 | 2, _ => exact ⟨_, rfl, by decide⟩
 | 3, _ => exact ⟨_, rfl, by decide⟩
 | 4, _ => exact ⟨_, rfl, by decide⟩
 | 5, _ => exact ⟨_, rfl, by decide⟩
section
variable {W w : World} {rs : List Res} {c : Nat}
set_option maxHeartbeats 16000000 in
theorem any_s (h : Sep W w rs) (i : Nat) (hi : rs[i]? = some (curR W c)) :
  Calls Try.prog 79 #[.pointer (some ⟨c, 0, none⟩)] w fun e w' => ∃ A C l, e = .returned (.agg #[.slice A l.length C]) ∧ Tame l 9 ∧ Sep W w' (rs ++ [ownV 128 2 A C l.length (cellsF l)]) := by
 obtain ⟨i0, hi0, hz0, hz1, hz2⟩ := fieldInfo
 have HF := Lib.hid (And.intro hi0 (And.intro hz0 (And.intro hz1 hz2)))
 have HI := Lib.hid hi
 have S1 := Lib.hid (box_r (none_r h) 31 #[.slice none 0 0] w.heap.size rfl)
 clear h hi hi0 hz0 hz1 hz2
 go_enter Try.func79, Try.ntmps79
 go_wp2_with fail
 go_at_call 159
 refine (rec_s S1.out i (at_left HI.out)).mono ?_
 rintro e w1 ⟨A, C, l, rfl, hT, S2'⟩
 have S2 := Lib.hid (box_r (assoc_r S2') 31 #[.slice A l.length C] w1.heap.size rfl)
 have HT := Lib.hid hT
 clear S1 S2' hT
 go_wp2_with fail
 go_at_call 160
 refine (below_s S2.out i (at_left HI.out) _ (by decide) (by decide)).mono ?_
 rintro e w2 ⟨x, rfl, ⟨hx0, hx1⟩, S3'⟩
 have S3 := Lib.hid S3'
 clear S3' S2
 obtain ⟨g, hg⟩ : ∃ g, g = w1.heap.size := ⟨_, rfl⟩
 rw [← hg] at S3 ⊢
 clear hg
 by_cases e0 : x = 0
 ·
  subst e0
  go_upto_region 4 with fail
  refine wp_region_held_drew (S := (fun _ => True)) (by kernel_rfl) trivial (fun hS => ?_)
  have SD0 := Lib.hid (drew_s S3.out)
  clear S3
  generalize w2.drew = wd at SD0 ⊢
  refine tk 0 rfl ?_
  try simp only [zp0, zp1, zp2, zp3, zp4]
  refine tk 2 rfl ?_
  try simp only [zp0, zp1, zp2, zp3, zp4]
  refine tk 5 rfl ?_
  try simp only [zp0, zp1, zp2, zp3, zp4]
  refine wpAnyH_ready (rs := [1, 3, 6]) (by kernel_rfl) (by simp) ?_
  refine Reg.cons_op (i := 1) rfl (fun K hK => ?_) ?_
  ·
   obtain ⟨r0, r0'⟩ := one_r SD0.out 2 rfl
   go_simp
   clear r0 r0'
   refine hK.out _ _ trivial (fun hS => ?_)
   clear hK K
   try simp only [zp0, zp1, zp2, zp3, zp4]
   refine wpAnyH_ready (rs := [3, 6]) (by kernel_rfl) (by simp) ?_
   refine Reg.cons_op (i := 3) rfl (fun K hK => ?_) ?_
   ·
    go_simp
    have SD1 := Lib.hid (box_r SD0.out 9 #[.string ⟨#[]⟩, .string ⟨#[65]⟩, .string ⟨#[122, 122, 122, 122, 122, 122, 122, 122, 122]⟩, .string ⟨#[122]⟩, .string ⟨#[97]⟩] wd.heap.size rfl)
    obtain ⟨g3, hg⟩ : ∃ g', g' = wd.heap.size := ⟨_, rfl⟩
    rw [← hg] at SD1 ⊢
    clear hg
    generalize wd.alloc (.cells #[.string ⟨#[]⟩, .string ⟨#[65]⟩, .string ⟨#[122, 122, 122, 122, 122, 122, 122, 122, 122]⟩, .string ⟨#[122]⟩, .string ⟨#[97]⟩] 9) = wq1 at SD1 ⊢
    refine hK.out _ _ trivial (fun hS => ?_)
    clear hK K
    try simp only [zp0, zp1, zp2, zp3, zp4]
    refine wpAnyH_ready (rs := [4, 6]) (by kernel_rfl) (by simp) ?_
    refine Reg.cons_op (i := 4) rfl (fun K hK => ?_) ?_
    ·
     go_simp
     go_at_call 161
     refine (strB_s SD1.out i (at_left HI.out) (rs.length + 3) (at_r (by rfl)) (by have := (List.getElem?_eq_some_iff.1 HI.out).1; omega) [⟨#[]⟩, ⟨#[65]⟩, ⟨#[122, 122, 122, 122, 122, 122, 122, 122, 122]⟩, ⟨#[122]⟩, ⟨#[97]⟩] rfl (fun s => s.size ≤ 9) (by decide) 5 rfl (by decide) (by decide)).mono ?_
     rintro e wq2 ⟨s, rfl, hs, hS⟩
     have SD2 := Lib.hid hS
     clear hS
     go_wp2_with fail
     refine hK.out _ _ trivial (fun hS => ?_)
     clear hK K
     try simp only [zp0, zp1, zp2, zp3, zp4]
     refine Reg.one_op (i := 6) rfl (by kernel_rfl) (fun K hK => ?_)
     go_simp
     have SD3 := Lib.hid (box_r SD2.out 3 #[.int .i64 0, .int .i64 (-1), .int .i64 1000000000, .int .i64 1000000001] wq2.heap.size rfl)
     obtain ⟨g4, hg⟩ : ∃ g', g' = wq2.heap.size := ⟨_, rfl⟩
     rw [← hg] at SD3 ⊢
     clear hg
     generalize wq2.alloc (.cells #[.int .i64 0, .int .i64 (-1), .int .i64 1000000000, .int .i64 1000000001] 3) = wq3 at SD3 ⊢
     refine hK.out _ _ trivial (fun hS => ?_)
     clear hK K
     try simp only [zp0, zp1, zp2, zp3, zp4]
     refine Reg.one_op (i := 7) rfl (by kernel_rfl) (fun K hK => ?_)
     go_simp
     go_at_call 162
     refine (intB_s SD3.out i (at_left HI.out) (rs.length + 4) (at_r (by rfl)) (by have := (List.getElem?_eq_some_iff.1 HI.out).1; omega) [0, -1, 1000000000, 1000000001] rfl (fun _ => True) (by intro _ _; trivial) 4 rfl (by decide) (by decide)).mono ?_
     rintro e wq4 ⟨y, rfl, -, hS⟩
     have SD4 := Lib.hid hS
     clear hS
     go_wp2_with fail
     refine hK.out _ _ trivial (fun hS => ?_)
     clear hK K
     try simp only [zp0, zp1, zp2, zp3, zp4]
     refine tk 8 rfl ?_
     try simp only [zp0, zp1, zp2, zp3, zp4]
     refine Reg.one_op (i := 9) rfl (by kernel_rfl) (fun K hK => ?_)
     go_simp
     have SD5 := Lib.hid (SD4.out.alloc (.cells #[.string s, .int .i64 y] 128))
     have R2 := Lib.hid (reads_two wq4 s y _ rfl 128)
     obtain ⟨g9, hg⟩ : ∃ g', g' = wq4.heap.size := ⟨_, rfl⟩
     rw [← hg] at R2 ⊢
     clear hg
     generalize wq4.alloc (.cells #[.string s, .int .i64 y] 128) = wq5 at SD5 R2 ⊢
     refine hK.out _ _ trivial (fun hS => ?_)
     clear hK K
     try simp only [zp0, zp1, zp2, zp3, zp4]
     refine Reg.one_op (i := 10) rfl (by kernel_rfl) (fun K hK => ?_)
     refine step_append_s SD5.out (rs.length + 1) (at_r (by rfl)) rfl _ _ 29 (by rfl) i0 (.agg #[.string ⟨#[]⟩, .int .i64 0]) 24 Try.underlying29 HF.out.1 HF.out.2.1 HF.out.2.2.1 HF.out.2.2.2 rfl (by omega) l.length (by rfl) rfl (g9 + 1) (some ⟨g9, 0, none⟩) 1 1 1 (cellsF [⟨s, y⟩]) (by rfl) rfl R2.out (by simp) (cellsF_one _) (by have := HT.out.1; unfold maxLen; omega) (by have := HT.out.1; omega) ?_
     intro A2 C2 wq6 hS
     have SD6 := Lib.hid (show Sep W wq6 (rs ++ [boxR w.heap.size 31 #[.slice none 0 0], ownV 128 2 A2 C2 (l.length + 1) (cellsF l ++ cellsF [⟨s, y⟩]), boxR g 31 #[.slice A l.length C]]) from by rw [List.set_append_right _ _ (by omega), Nat.add_sub_cancel_left] at hS; exact take_r hS [0, 1, 2] (by rfl) (by decide))
     clear hS
     refine hK.out _ _ trivial (fun hS => ?_)
     clear hK K
     try simp only [zp0, zp1, zp2, zp3, zp4]
     refine tk 11 rfl ?_
     try simp only [zp0, zp1, zp2, zp3, zp4]
     refine Reg.one_op (i := 12) rfl (by kernel_rfl) (fun K hK => ?_)
     obtain ⟨z0, z1⟩ := one_r SD6.out 2 rfl
     go_simp
     have SD7 := Lib.hid (put_r SD6.out 2 rfl 0 (.slice A2 (l.length + 1) C2))
     clear z0 z1
     refine hK.out _ _ trivial (fun hS => ?_)
     clear hK K
     try simp only [zp0, zp1, zp2, zp3, zp4]
     refine wpAnyH_done (by kernel_rfl) ?_ _
     have hl := Lib.hid (show l.length + 1 = (l ++ [⟨s, y⟩] : List F).length by simp)
     obtain ⟨q0, q0'⟩ := one_r SD7.out 0 rfl
     obtain ⟨r0, r0'⟩ := one_r SD7.out 2 rfl
     go_wp2_with fail
     refine bodyPost_ret (v := .agg #[.slice A2 (l.length + 1) C2]) (by simp [results, Try.results79, go_sem, q0]) rfl ?_
     refine ⟨A2, C2, l ++ [⟨s, y⟩], by rw [← hl.out], (HT.out.app (by omega) y).mono (by omega), ?_⟩
     rw [← hl.out, cellsF_append]
     exact take_r (put_r SD7.out 0 rfl 0 (.slice A2 (l.length + 1) C2)) [1] (by rfl) (by decide)
    refine Reg.cons_op (i := 6) rfl (fun K hK => ?_) ?_
    ·
     go_simp
     have SD2 := Lib.hid (box_r SD1.out 3 #[.int .i64 0, .int .i64 (-1), .int .i64 1000000000, .int .i64 1000000001] wq1.heap.size rfl)
     obtain ⟨g4, hg⟩ : ∃ g', g' = wq1.heap.size := ⟨_, rfl⟩
     rw [← hg] at SD2 ⊢
     clear hg
     generalize wq1.alloc (.cells #[.int .i64 0, .int .i64 (-1), .int .i64 1000000000, .int .i64 1000000001] 3) = wq2 at SD2 ⊢
     refine hK.out _ _ trivial (fun hS => ?_)
     clear hK K
     try simp only [zp0, zp1, zp2, zp3, zp4]
     refine Reg.one_op (i := 4) rfl (by kernel_rfl) (fun K hK => ?_)
     go_simp
     go_at_call 161
     refine (strB_s SD2.out i (at_left HI.out) (rs.length + 3) (at_r (by rfl)) (by have := (List.getElem?_eq_some_iff.1 HI.out).1; omega) [⟨#[]⟩, ⟨#[65]⟩, ⟨#[122, 122, 122, 122, 122, 122, 122, 122, 122]⟩, ⟨#[122]⟩, ⟨#[97]⟩] rfl (fun s => s.size ≤ 9) (by decide) 5 rfl (by decide) (by decide)).mono ?_
     rintro e wq3 ⟨s, rfl, hs, hS⟩
     have SD3 := Lib.hid hS
     clear hS
     go_wp2_with fail
     refine hK.out _ _ trivial (fun hS => ?_)
     clear hK K
     try simp only [zp0, zp1, zp2, zp3, zp4]
     refine Reg.one_op (i := 7) rfl (by kernel_rfl) (fun K hK => ?_)
     go_simp
     go_at_call 162
     refine (intB_s SD3.out i (at_left HI.out) (rs.length + 4) (at_r (by rfl)) (by have := (List.getElem?_eq_some_iff.1 HI.out).1; omega) [0, -1, 1000000000, 1000000001] rfl (fun _ => True) (by intro _ _; trivial) 4 rfl (by decide) (by decide)).mono ?_
     rintro e wq4 ⟨y, rfl, -, hS⟩
     have SD4 := Lib.hid hS
     clear hS
     go_wp2_with fail
     refine hK.out _ _ trivial (fun hS => ?_)
     clear hK K
     try simp only [zp0, zp1, zp2, zp3, zp4]
     refine tk 8 rfl ?_
     try simp only [zp0, zp1, zp2, zp3, zp4]
     refine Reg.one_op (i := 9) rfl (by kernel_rfl) (fun K hK => ?_)
     go_simp
     have SD5 := Lib.hid (SD4.out.alloc (.cells #[.string s, .int .i64 y] 128))
     have R2 := Lib.hid (reads_two wq4 s y _ rfl 128)
     obtain ⟨g9, hg⟩ : ∃ g', g' = wq4.heap.size := ⟨_, rfl⟩
     rw [← hg] at R2 ⊢
     clear hg
     generalize wq4.alloc (.cells #[.string s, .int .i64 y] 128) = wq5 at SD5 R2 ⊢
     refine hK.out _ _ trivial (fun hS => ?_)
     clear hK K
     try simp only [zp0, zp1, zp2, zp3, zp4]
     refine Reg.one_op (i := 10) rfl (by kernel_rfl) (fun K hK => ?_)
     refine step_append_s SD5.out (rs.length + 1) (at_r (by rfl)) rfl _ _ 29 (by rfl) i0 (.agg #[.string ⟨#[]⟩, .int .i64 0]) 24 Try.underlying29 HF.out.1 HF.out.2.1 HF.out.2.2.1 HF.out.2.2.2 rfl (by omega) l.length (by rfl) rfl (g9 + 1) (some ⟨g9, 0, none⟩) 1 1 1 (cellsF [⟨s, y⟩]) (by rfl) rfl R2.out (by simp) (cellsF_one _) (by have := HT.out.1; unfold maxLen; omega) (by have := HT.out.1; omega) ?_
     intro A2 C2 wq6 hS
     have SD6 := Lib.hid (show Sep W wq6 (rs ++ [boxR w.heap.size 31 #[.slice none 0 0], ownV 128 2 A2 C2 (l.length + 1) (cellsF l ++ cellsF [⟨s, y⟩]), boxR g 31 #[.slice A l.length C]]) from by rw [List.set_append_right _ _ (by omega), Nat.add_sub_cancel_left] at hS; exact take_r hS [0, 1, 2] (by rfl) (by decide))
     clear hS
     refine hK.out _ _ trivial (fun hS => ?_)
     clear hK K
     try simp only [zp0, zp1, zp2, zp3, zp4]
     refine tk 11 rfl ?_
     try simp only [zp0, zp1, zp2, zp3, zp4]
     refine Reg.one_op (i := 12) rfl (by kernel_rfl) (fun K hK => ?_)
     obtain ⟨z0, z1⟩ := one_r SD6.out 2 rfl
     go_simp
     have SD7 := Lib.hid (put_r SD6.out 2 rfl 0 (.slice A2 (l.length + 1) C2))
     clear z0 z1
     refine hK.out _ _ trivial (fun hS => ?_)
     clear hK K
     try simp only [zp0, zp1, zp2, zp3, zp4]
     refine wpAnyH_done (by kernel_rfl) ?_ _
     have hl := Lib.hid (show l.length + 1 = (l ++ [⟨s, y⟩] : List F).length by simp)
     obtain ⟨q0, q0'⟩ := one_r SD7.out 0 rfl
     obtain ⟨r0, r0'⟩ := one_r SD7.out 2 rfl
     go_wp2_with fail
     refine bodyPost_ret (v := .agg #[.slice A2 (l.length + 1) C2]) (by simp [results, Try.results79, go_sem, q0]) rfl ?_
     refine ⟨A2, C2, l ++ [⟨s, y⟩], by rw [← hl.out], (HT.out.app (by omega) y).mono (by omega), ?_⟩
     rw [← hl.out, cellsF_append]
     exact take_r (put_r SD7.out 0 rfl 0 (.slice A2 (l.length + 1) C2)) [1] (by rfl) (by decide)
    exact AllReadyH.nil
   refine Reg.cons_op (i := 6) rfl (fun K hK => ?_) ?_
   ·
    go_simp
    have SD1 := Lib.hid (box_r SD0.out 3 #[.int .i64 0, .int .i64 (-1), .int .i64 1000000000, .int .i64 1000000001] wd.heap.size rfl)
    obtain ⟨g3, hg⟩ : ∃ g', g' = wd.heap.size := ⟨_, rfl⟩
    rw [← hg] at SD1 ⊢
    clear hg
    generalize wd.alloc (.cells #[.int .i64 0, .int .i64 (-1), .int .i64 1000000000, .int .i64 1000000001] 3) = wq1 at SD1 ⊢
    refine hK.out _ _ trivial (fun hS => ?_)
    clear hK K
    try simp only [zp0, zp1, zp2, zp3, zp4]
    refine Reg.one_op (i := 3) rfl (by kernel_rfl) (fun K hK => ?_)
    go_simp
    have SD2 := Lib.hid (box_r SD1.out 9 #[.string ⟨#[]⟩, .string ⟨#[65]⟩, .string ⟨#[122, 122, 122, 122, 122, 122, 122, 122, 122]⟩, .string ⟨#[122]⟩, .string ⟨#[97]⟩] wq1.heap.size rfl)
    obtain ⟨g4, hg⟩ : ∃ g', g' = wq1.heap.size := ⟨_, rfl⟩
    rw [← hg] at SD2 ⊢
    clear hg
    generalize wq1.alloc (.cells #[.string ⟨#[]⟩, .string ⟨#[65]⟩, .string ⟨#[122, 122, 122, 122, 122, 122, 122, 122, 122]⟩, .string ⟨#[122]⟩, .string ⟨#[97]⟩] 9) = wq2 at SD2 ⊢
    refine hK.out _ _ trivial (fun hS => ?_)
    clear hK K
    try simp only [zp0, zp1, zp2, zp3, zp4]
    refine Reg.one_op (i := 4) rfl (by kernel_rfl) (fun K hK => ?_)
    go_simp
    go_at_call 161
    refine (strB_s SD2.out i (at_left HI.out) (rs.length + 4) (at_r (by rfl)) (by have := (List.getElem?_eq_some_iff.1 HI.out).1; omega) [⟨#[]⟩, ⟨#[65]⟩, ⟨#[122, 122, 122, 122, 122, 122, 122, 122, 122]⟩, ⟨#[122]⟩, ⟨#[97]⟩] rfl (fun s => s.size ≤ 9) (by decide) 5 rfl (by decide) (by decide)).mono ?_
    rintro e wq3 ⟨s, rfl, hs, hS⟩
    have SD3 := Lib.hid hS
    clear hS
    go_wp2_with fail
    refine hK.out _ _ trivial (fun hS => ?_)
    clear hK K
    try simp only [zp0, zp1, zp2, zp3, zp4]
    refine Reg.one_op (i := 7) rfl (by kernel_rfl) (fun K hK => ?_)
    go_simp
    go_at_call 162
    refine (intB_s SD3.out i (at_left HI.out) (rs.length + 3) (at_r (by rfl)) (by have := (List.getElem?_eq_some_iff.1 HI.out).1; omega) [0, -1, 1000000000, 1000000001] rfl (fun _ => True) (by intro _ _; trivial) 4 rfl (by decide) (by decide)).mono ?_
    rintro e wq4 ⟨y, rfl, -, hS⟩
    have SD4 := Lib.hid hS
    clear hS
    go_wp2_with fail
    refine hK.out _ _ trivial (fun hS => ?_)
    clear hK K
    try simp only [zp0, zp1, zp2, zp3, zp4]
    refine tk 8 rfl ?_
    try simp only [zp0, zp1, zp2, zp3, zp4]
    refine Reg.one_op (i := 9) rfl (by kernel_rfl) (fun K hK => ?_)
    go_simp
    have SD5 := Lib.hid (SD4.out.alloc (.cells #[.string s, .int .i64 y] 128))
    have R2 := Lib.hid (reads_two wq4 s y _ rfl 128)
    obtain ⟨g9, hg⟩ : ∃ g', g' = wq4.heap.size := ⟨_, rfl⟩
    rw [← hg] at R2 ⊢
    clear hg
    generalize wq4.alloc (.cells #[.string s, .int .i64 y] 128) = wq5 at SD5 R2 ⊢
    refine hK.out _ _ trivial (fun hS => ?_)
    clear hK K
    try simp only [zp0, zp1, zp2, zp3, zp4]
    refine Reg.one_op (i := 10) rfl (by kernel_rfl) (fun K hK => ?_)
    refine step_append_s SD5.out (rs.length + 1) (at_r (by rfl)) rfl _ _ 29 (by rfl) i0 (.agg #[.string ⟨#[]⟩, .int .i64 0]) 24 Try.underlying29 HF.out.1 HF.out.2.1 HF.out.2.2.1 HF.out.2.2.2 rfl (by omega) l.length (by rfl) rfl (g9 + 1) (some ⟨g9, 0, none⟩) 1 1 1 (cellsF [⟨s, y⟩]) (by rfl) rfl R2.out (by simp) (cellsF_one _) (by have := HT.out.1; unfold maxLen; omega) (by have := HT.out.1; omega) ?_
    intro A2 C2 wq6 hS
    have SD6 := Lib.hid (show Sep W wq6 (rs ++ [boxR w.heap.size 31 #[.slice none 0 0], ownV 128 2 A2 C2 (l.length + 1) (cellsF l ++ cellsF [⟨s, y⟩]), boxR g 31 #[.slice A l.length C]]) from by rw [List.set_append_right _ _ (by omega), Nat.add_sub_cancel_left] at hS; exact take_r hS [0, 1, 2] (by rfl) (by decide))
    clear hS
    refine hK.out _ _ trivial (fun hS => ?_)
    clear hK K
    try simp only [zp0, zp1, zp2, zp3, zp4]
    refine tk 11 rfl ?_
    try simp only [zp0, zp1, zp2, zp3, zp4]
    refine Reg.one_op (i := 12) rfl (by kernel_rfl) (fun K hK => ?_)
    obtain ⟨z0, z1⟩ := one_r SD6.out 2 rfl
    go_simp
    have SD7 := Lib.hid (put_r SD6.out 2 rfl 0 (.slice A2 (l.length + 1) C2))
    clear z0 z1
    refine hK.out _ _ trivial (fun hS => ?_)
    clear hK K
    try simp only [zp0, zp1, zp2, zp3, zp4]
    refine wpAnyH_done (by kernel_rfl) ?_ _
    have hl := Lib.hid (show l.length + 1 = (l ++ [⟨s, y⟩] : List F).length by simp)
    obtain ⟨q0, q0'⟩ := one_r SD7.out 0 rfl
    obtain ⟨r0, r0'⟩ := one_r SD7.out 2 rfl
    go_wp2_with fail
    refine bodyPost_ret (v := .agg #[.slice A2 (l.length + 1) C2]) (by simp [results, Try.results79, go_sem, q0]) rfl ?_
    refine ⟨A2, C2, l ++ [⟨s, y⟩], by rw [← hl.out], (HT.out.app (by omega) y).mono (by omega), ?_⟩
    rw [← hl.out, cellsF_append]
    exact take_r (put_r SD7.out 0 rfl 0 (.slice A2 (l.length + 1) C2)) [1] (by rfl) (by decide)
   exact AllReadyH.nil
  refine Reg.cons_op (i := 3) rfl (fun K hK => ?_) ?_
  ·
   go_simp
   have SD1 := Lib.hid (box_r SD0.out 9 #[.string ⟨#[]⟩, .string ⟨#[65]⟩, .string ⟨#[122, 122, 122, 122, 122, 122, 122, 122, 122]⟩, .string ⟨#[122]⟩, .string ⟨#[97]⟩] wd.heap.size rfl)
   obtain ⟨g3, hg⟩ : ∃ g', g' = wd.heap.size := ⟨_, rfl⟩
   rw [← hg] at SD1 ⊢
   clear hg
   generalize wd.alloc (.cells #[.string ⟨#[]⟩, .string ⟨#[65]⟩, .string ⟨#[122, 122, 122, 122, 122, 122, 122, 122, 122]⟩, .string ⟨#[122]⟩, .string ⟨#[97]⟩] 9) = wq1 at SD1 ⊢
   refine hK.out _ _ trivial (fun hS => ?_)
   clear hK K
   try simp only [zp0, zp1, zp2, zp3, zp4]
   refine wpAnyH_ready (rs := [1, 4, 6]) (by kernel_rfl) (by simp) ?_
   refine Reg.cons_op (i := 1) rfl (fun K hK => ?_) ?_
   ·
    obtain ⟨r0, r0'⟩ := one_r SD1.out 2 rfl
    go_simp
    clear r0 r0'
    refine hK.out _ _ trivial (fun hS => ?_)
    clear hK K
    try simp only [zp0, zp1, zp2, zp3, zp4]
    refine wpAnyH_ready (rs := [4, 6]) (by kernel_rfl) (by simp) ?_
    refine Reg.cons_op (i := 4) rfl (fun K hK => ?_) ?_
    ·
     go_simp
     go_at_call 161
     refine (strB_s SD1.out i (at_left HI.out) (rs.length + 3) (at_r (by rfl)) (by have := (List.getElem?_eq_some_iff.1 HI.out).1; omega) [⟨#[]⟩, ⟨#[65]⟩, ⟨#[122, 122, 122, 122, 122, 122, 122, 122, 122]⟩, ⟨#[122]⟩, ⟨#[97]⟩] rfl (fun s => s.size ≤ 9) (by decide) 5 rfl (by decide) (by decide)).mono ?_
     rintro e wq2 ⟨s, rfl, hs, hS⟩
     have SD2 := Lib.hid hS
     clear hS
     go_wp2_with fail
     refine hK.out _ _ trivial (fun hS => ?_)
     clear hK K
     try simp only [zp0, zp1, zp2, zp3, zp4]
     refine Reg.one_op (i := 6) rfl (by kernel_rfl) (fun K hK => ?_)
     go_simp
     have SD3 := Lib.hid (box_r SD2.out 3 #[.int .i64 0, .int .i64 (-1), .int .i64 1000000000, .int .i64 1000000001] wq2.heap.size rfl)
     obtain ⟨g4, hg⟩ : ∃ g', g' = wq2.heap.size := ⟨_, rfl⟩
     rw [← hg] at SD3 ⊢
     clear hg
     generalize wq2.alloc (.cells #[.int .i64 0, .int .i64 (-1), .int .i64 1000000000, .int .i64 1000000001] 3) = wq3 at SD3 ⊢
     refine hK.out _ _ trivial (fun hS => ?_)
     clear hK K
     try simp only [zp0, zp1, zp2, zp3, zp4]
     refine Reg.one_op (i := 7) rfl (by kernel_rfl) (fun K hK => ?_)
     go_simp
     go_at_call 162
     refine (intB_s SD3.out i (at_left HI.out) (rs.length + 4) (at_r (by rfl)) (by have := (List.getElem?_eq_some_iff.1 HI.out).1; omega) [0, -1, 1000000000, 1000000001] rfl (fun _ => True) (by intro _ _; trivial) 4 rfl (by decide) (by decide)).mono ?_
     rintro e wq4 ⟨y, rfl, -, hS⟩
     have SD4 := Lib.hid hS
     clear hS
     go_wp2_with fail
     refine hK.out _ _ trivial (fun hS => ?_)
     clear hK K
     try simp only [zp0, zp1, zp2, zp3, zp4]
     refine tk 8 rfl ?_
     try simp only [zp0, zp1, zp2, zp3, zp4]
     refine Reg.one_op (i := 9) rfl (by kernel_rfl) (fun K hK => ?_)
     go_simp
     have SD5 := Lib.hid (SD4.out.alloc (.cells #[.string s, .int .i64 y] 128))
     have R2 := Lib.hid (reads_two wq4 s y _ rfl 128)
     obtain ⟨g9, hg⟩ : ∃ g', g' = wq4.heap.size := ⟨_, rfl⟩
     rw [← hg] at R2 ⊢
     clear hg
     generalize wq4.alloc (.cells #[.string s, .int .i64 y] 128) = wq5 at SD5 R2 ⊢
     refine hK.out _ _ trivial (fun hS => ?_)
     clear hK K
     try simp only [zp0, zp1, zp2, zp3, zp4]
     refine Reg.one_op (i := 10) rfl (by kernel_rfl) (fun K hK => ?_)
     refine step_append_s SD5.out (rs.length + 1) (at_r (by rfl)) rfl _ _ 29 (by rfl) i0 (.agg #[.string ⟨#[]⟩, .int .i64 0]) 24 Try.underlying29 HF.out.1 HF.out.2.1 HF.out.2.2.1 HF.out.2.2.2 rfl (by omega) l.length (by rfl) rfl (g9 + 1) (some ⟨g9, 0, none⟩) 1 1 1 (cellsF [⟨s, y⟩]) (by rfl) rfl R2.out (by simp) (cellsF_one _) (by have := HT.out.1; unfold maxLen; omega) (by have := HT.out.1; omega) ?_
     intro A2 C2 wq6 hS
     have SD6 := Lib.hid (show Sep W wq6 (rs ++ [boxR w.heap.size 31 #[.slice none 0 0], ownV 128 2 A2 C2 (l.length + 1) (cellsF l ++ cellsF [⟨s, y⟩]), boxR g 31 #[.slice A l.length C]]) from by rw [List.set_append_right _ _ (by omega), Nat.add_sub_cancel_left] at hS; exact take_r hS [0, 1, 2] (by rfl) (by decide))
     clear hS
     refine hK.out _ _ trivial (fun hS => ?_)
     clear hK K
     try simp only [zp0, zp1, zp2, zp3, zp4]
     refine tk 11 rfl ?_
     try simp only [zp0, zp1, zp2, zp3, zp4]
     refine Reg.one_op (i := 12) rfl (by kernel_rfl) (fun K hK => ?_)
     obtain ⟨z0, z1⟩ := one_r SD6.out 2 rfl
     go_simp
     have SD7 := Lib.hid (put_r SD6.out 2 rfl 0 (.slice A2 (l.length + 1) C2))
     clear z0 z1
     refine hK.out _ _ trivial (fun hS => ?_)
     clear hK K
     try simp only [zp0, zp1, zp2, zp3, zp4]
     refine wpAnyH_done (by kernel_rfl) ?_ _
     have hl := Lib.hid (show l.length + 1 = (l ++ [⟨s, y⟩] : List F).length by simp)
     obtain ⟨q0, q0'⟩ := one_r SD7.out 0 rfl
     obtain ⟨r0, r0'⟩ := one_r SD7.out 2 rfl
     go_wp2_with fail
     refine bodyPost_ret (v := .agg #[.slice A2 (l.length + 1) C2]) (by simp [results, Try.results79, go_sem, q0]) rfl ?_
     refine ⟨A2, C2, l ++ [⟨s, y⟩], by rw [← hl.out], (HT.out.app (by omega) y).mono (by omega), ?_⟩
     rw [← hl.out, cellsF_append]
     exact take_r (put_r SD7.out 0 rfl 0 (.slice A2 (l.length + 1) C2)) [1] (by rfl) (by decide)
    refine Reg.cons_op (i := 6) rfl (fun K hK => ?_) ?_
    ·
     go_simp
     have SD2 := Lib.hid (box_r SD1.out 3 #[.int .i64 0, .int .i64 (-1), .int .i64 1000000000, .int .i64 1000000001] wq1.heap.size rfl)
     obtain ⟨g4, hg⟩ : ∃ g', g' = wq1.heap.size := ⟨_, rfl⟩
     rw [← hg] at SD2 ⊢
     clear hg
     generalize wq1.alloc (.cells #[.int .i64 0, .int .i64 (-1), .int .i64 1000000000, .int .i64 1000000001] 3) = wq2 at SD2 ⊢
     refine hK.out _ _ trivial (fun hS => ?_)
     clear hK K
     try simp only [zp0, zp1, zp2, zp3, zp4]
     refine Reg.one_op (i := 4) rfl (by kernel_rfl) (fun K hK => ?_)
     go_simp
     go_at_call 161
     refine (strB_s SD2.out i (at_left HI.out) (rs.length + 3) (at_r (by rfl)) (by have := (List.getElem?_eq_some_iff.1 HI.out).1; omega) [⟨#[]⟩, ⟨#[65]⟩, ⟨#[122, 122, 122, 122, 122, 122, 122, 122, 122]⟩, ⟨#[122]⟩, ⟨#[97]⟩] rfl (fun s => s.size ≤ 9) (by decide) 5 rfl (by decide) (by decide)).mono ?_
     rintro e wq3 ⟨s, rfl, hs, hS⟩
     have SD3 := Lib.hid hS
     clear hS
     go_wp2_with fail
     refine hK.out _ _ trivial (fun hS => ?_)
     clear hK K
     try simp only [zp0, zp1, zp2, zp3, zp4]
     refine Reg.one_op (i := 7) rfl (by kernel_rfl) (fun K hK => ?_)
     go_simp
     go_at_call 162
     refine (intB_s SD3.out i (at_left HI.out) (rs.length + 4) (at_r (by rfl)) (by have := (List.getElem?_eq_some_iff.1 HI.out).1; omega) [0, -1, 1000000000, 1000000001] rfl (fun _ => True) (by intro _ _; trivial) 4 rfl (by decide) (by decide)).mono ?_
     rintro e wq4 ⟨y, rfl, -, hS⟩
     have SD4 := Lib.hid hS
     clear hS
     go_wp2_with fail
     refine hK.out _ _ trivial (fun hS => ?_)
     clear hK K
     try simp only [zp0, zp1, zp2, zp3, zp4]
     refine tk 8 rfl ?_
     try simp only [zp0, zp1, zp2, zp3, zp4]
     refine Reg.one_op (i := 9) rfl (by kernel_rfl) (fun K hK => ?_)
     go_simp
     have SD5 := Lib.hid (SD4.out.alloc (.cells #[.string s, .int .i64 y] 128))
     have R2 := Lib.hid (reads_two wq4 s y _ rfl 128)
     obtain ⟨g9, hg⟩ : ∃ g', g' = wq4.heap.size := ⟨_, rfl⟩
     rw [← hg] at R2 ⊢
     clear hg
     generalize wq4.alloc (.cells #[.string s, .int .i64 y] 128) = wq5 at SD5 R2 ⊢
     refine hK.out _ _ trivial (fun hS => ?_)
     clear hK K
     try simp only [zp0, zp1, zp2, zp3, zp4]
     refine Reg.one_op (i := 10) rfl (by kernel_rfl) (fun K hK => ?_)
     refine step_append_s SD5.out (rs.length + 1) (at_r (by rfl)) rfl _ _ 29 (by rfl) i0 (.agg #[.string ⟨#[]⟩, .int .i64 0]) 24 Try.underlying29 HF.out.1 HF.out.2.1 HF.out.2.2.1 HF.out.2.2.2 rfl (by omega) l.length (by rfl) rfl (g9 + 1) (some ⟨g9, 0, none⟩) 1 1 1 (cellsF [⟨s, y⟩]) (by rfl) rfl R2.out (by simp) (cellsF_one _) (by have := HT.out.1; unfold maxLen; omega) (by have := HT.out.1; omega) ?_
     intro A2 C2 wq6 hS
     have SD6 := Lib.hid (show Sep W wq6 (rs ++ [boxR w.heap.size 31 #[.slice none 0 0], ownV 128 2 A2 C2 (l.length + 1) (cellsF l ++ cellsF [⟨s, y⟩]), boxR g 31 #[.slice A l.length C]]) from by rw [List.set_append_right _ _ (by omega), Nat.add_sub_cancel_left] at hS; exact take_r hS [0, 1, 2] (by rfl) (by decide))
     clear hS
     refine hK.out _ _ trivial (fun hS => ?_)
     clear hK K
     try simp only [zp0, zp1, zp2, zp3, zp4]
     refine tk 11 rfl ?_
     try simp only [zp0, zp1, zp2, zp3, zp4]
     refine Reg.one_op (i := 12) rfl (by kernel_rfl) (fun K hK => ?_)
     obtain ⟨z0, z1⟩ := one_r SD6.out 2 rfl
     go_simp
     have SD7 := Lib.hid (put_r SD6.out 2 rfl 0 (.slice A2 (l.length + 1) C2))
     clear z0 z1
     refine hK.out _ _ trivial (fun hS => ?_)
     clear hK K
     try simp only [zp0, zp1, zp2, zp3, zp4]
     refine wpAnyH_done (by kernel_rfl) ?_ _
     have hl := Lib.hid (show l.length + 1 = (l ++ [⟨s, y⟩] : List F).length by simp)
     obtain ⟨q0, q0'⟩ := one_r SD7.out 0 rfl
     obtain ⟨r0, r0'⟩ := one_r SD7.out 2 rfl
     go_wp2_with fail
     refine bodyPost_ret (v := .agg #[.slice A2 (l.length + 1) C2]) (by simp [results, Try.results79, go_sem, q0]) rfl ?_
     refine ⟨A2, C2, l ++ [⟨s, y⟩], by rw [← hl.out], (HT.out.app (by omega) y).mono (by omega), ?_⟩
     rw [← hl.out, cellsF_append]
     exact take_r (put_r SD7.out 0 rfl 0 (.slice A2 (l.length + 1) C2)) [1] (by rfl) (by decide)
    exact AllReadyH.nil
   refine Reg.cons_op (i := 4) rfl (fun K hK => ?_) ?_
   ·
    go_simp
    go_at_call 161
    refine (strB_s SD1.out i (at_left HI.out) (rs.length + 3) (at_r (by rfl)) (by have := (List.getElem?_eq_some_iff.1 HI.out).1; omega) [⟨#[]⟩, ⟨#[65]⟩, ⟨#[122, 122, 122, 122, 122, 122, 122, 122, 122]⟩, ⟨#[122]⟩, ⟨#[97]⟩] rfl (fun s => s.size ≤ 9) (by decide) 5 rfl (by decide) (by decide)).mono ?_
    rintro e wq2 ⟨s, rfl, hs, hS⟩
    have SD2 := Lib.hid hS
    clear hS
    go_wp2_with fail
    refine hK.out _ _ trivial (fun hS => ?_)
    clear hK K
    try simp only [zp0, zp1, zp2, zp3, zp4]
    refine wpAnyH_ready (rs := [1, 6]) (by kernel_rfl) (by simp) ?_
    refine Reg.cons_op (i := 1) rfl (fun K hK => ?_) ?_
    ·
     obtain ⟨r0, r0'⟩ := one_r SD2.out 2 rfl
     go_simp
     clear r0 r0'
     refine hK.out _ _ trivial (fun hS => ?_)
     clear hK K
     try simp only [zp0, zp1, zp2, zp3, zp4]
     refine Reg.one_op (i := 6) rfl (by kernel_rfl) (fun K hK => ?_)
     go_simp
     have SD3 := Lib.hid (box_r SD2.out 3 #[.int .i64 0, .int .i64 (-1), .int .i64 1000000000, .int .i64 1000000001] wq2.heap.size rfl)
     obtain ⟨g4, hg⟩ : ∃ g', g' = wq2.heap.size := ⟨_, rfl⟩
     rw [← hg] at SD3 ⊢
     clear hg
     generalize wq2.alloc (.cells #[.int .i64 0, .int .i64 (-1), .int .i64 1000000000, .int .i64 1000000001] 3) = wq3 at SD3 ⊢
     refine hK.out _ _ trivial (fun hS => ?_)
     clear hK K
     try simp only [zp0, zp1, zp2, zp3, zp4]
     refine Reg.one_op (i := 7) rfl (by kernel_rfl) (fun K hK => ?_)
     go_simp
     go_at_call 162
     refine (intB_s SD3.out i (at_left HI.out) (rs.length + 4) (at_r (by rfl)) (by have := (List.getElem?_eq_some_iff.1 HI.out).1; omega) [0, -1, 1000000000, 1000000001] rfl (fun _ => True) (by intro _ _; trivial) 4 rfl (by decide) (by decide)).mono ?_
     rintro e wq4 ⟨y, rfl, -, hS⟩
     have SD4 := Lib.hid hS
     clear hS
     go_wp2_with fail
     refine hK.out _ _ trivial (fun hS => ?_)
     clear hK K
     try simp only [zp0, zp1, zp2, zp3, zp4]
     refine tk 8 rfl ?_
     try simp only [zp0, zp1, zp2, zp3, zp4]
     refine Reg.one_op (i := 9) rfl (by kernel_rfl) (fun K hK => ?_)
     go_simp
     have SD5 := Lib.hid (SD4.out.alloc (.cells #[.string s, .int .i64 y] 128))
     have R2 := Lib.hid (reads_two wq4 s y _ rfl 128)
     obtain ⟨g9, hg⟩ : ∃ g', g' = wq4.heap.size := ⟨_, rfl⟩
     rw [← hg] at R2 ⊢
     clear hg
     generalize wq4.alloc (.cells #[.string s, .int .i64 y] 128) = wq5 at SD5 R2 ⊢
     refine hK.out _ _ trivial (fun hS => ?_)
     clear hK K
     try simp only [zp0, zp1, zp2, zp3, zp4]
     refine Reg.one_op (i := 10) rfl (by kernel_rfl) (fun K hK => ?_)
     refine step_append_s SD5.out (rs.length + 1) (at_r (by rfl)) rfl _ _ 29 (by rfl) i0 (.agg #[.string ⟨#[]⟩, .int .i64 0]) 24 Try.underlying29 HF.out.1 HF.out.2.1 HF.out.2.2.1 HF.out.2.2.2 rfl (by omega) l.length (by rfl) rfl (g9 + 1) (some ⟨g9, 0, none⟩) 1 1 1 (cellsF [⟨s, y⟩]) (by rfl) rfl R2.out (by simp) (cellsF_one _) (by have := HT.out.1; unfold maxLen; omega) (by have := HT.out.1; omega) ?_
     intro A2 C2 wq6 hS
     have SD6 := Lib.hid (show Sep W wq6 (rs ++ [boxR w.heap.size 31 #[.slice none 0 0], ownV 128 2 A2 C2 (l.length + 1) (cellsF l ++ cellsF [⟨s, y⟩]), boxR g 31 #[.slice A l.length C]]) from by rw [List.set_append_right _ _ (by omega), Nat.add_sub_cancel_left] at hS; exact take_r hS [0, 1, 2] (by rfl) (by decide))
     clear hS
     refine hK.out _ _ trivial (fun hS => ?_)
     clear hK K
     try simp only [zp0, zp1, zp2, zp3, zp4]
     refine tk 11 rfl ?_
     try simp only [zp0, zp1, zp2, zp3, zp4]
     refine Reg.one_op (i := 12) rfl (by kernel_rfl) (fun K hK => ?_)
     obtain ⟨z0, z1⟩ := one_r SD6.out 2 rfl
     go_simp
     have SD7 := Lib.hid (put_r SD6.out 2 rfl 0 (.slice A2 (l.length + 1) C2))
     clear z0 z1
     refine hK.out _ _ trivial (fun hS => ?_)
     clear hK K
     try simp only [zp0, zp1, zp2, zp3, zp4]
     refine wpAnyH_done (by kernel_rfl) ?_ _
     have hl := Lib.hid (show l.length + 1 = (l ++ [⟨s, y⟩] : List F).length by simp)
     obtain ⟨q0, q0'⟩ := one_r SD7.out 0 rfl
     obtain ⟨r0, r0'⟩ := one_r SD7.out 2 rfl
     go_wp2_with fail
     refine bodyPost_ret (v := .agg #[.slice A2 (l.length + 1) C2]) (by simp [results, Try.results79, go_sem, q0]) rfl ?_
     refine ⟨A2, C2, l ++ [⟨s, y⟩], by rw [← hl.out], (HT.out.app (by omega) y).mono (by omega), ?_⟩
     rw [← hl.out, cellsF_append]
     exact take_r (put_r SD7.out 0 rfl 0 (.slice A2 (l.length + 1) C2)) [1] (by rfl) (by decide)
    refine Reg.cons_op (i := 6) rfl (fun K hK => ?_) ?_
    ·
     go_simp
     have SD3 := Lib.hid (box_r SD2.out 3 #[.int .i64 0, .int .i64 (-1), .int .i64 1000000000, .int .i64 1000000001] wq2.heap.size rfl)
     obtain ⟨g4, hg⟩ : ∃ g', g' = wq2.heap.size := ⟨_, rfl⟩
     rw [← hg] at SD3 ⊢
     clear hg
     generalize wq2.alloc (.cells #[.int .i64 0, .int .i64 (-1), .int .i64 1000000000, .int .i64 1000000001] 3) = wq3 at SD3 ⊢
     refine hK.out _ _ trivial (fun hS => ?_)
     clear hK K
     try simp only [zp0, zp1, zp2, zp3, zp4]
     refine wpAnyH_ready (rs := [1, 7]) (by kernel_rfl) (by simp) ?_
     refine Reg.cons_op (i := 1) rfl (fun K hK => ?_) ?_
     ·
      obtain ⟨r0, r0'⟩ := one_r SD3.out 2 rfl
      go_simp
      clear r0 r0'
      refine hK.out _ _ trivial (fun hS => ?_)
      clear hK K
      try simp only [zp0, zp1, zp2, zp3, zp4]
      refine Reg.one_op (i := 7) rfl (by kernel_rfl) (fun K hK => ?_)
      go_simp
      go_at_call 162
      refine (intB_s SD3.out i (at_left HI.out) (rs.length + 4) (at_r (by rfl)) (by have := (List.getElem?_eq_some_iff.1 HI.out).1; omega) [0, -1, 1000000000, 1000000001] rfl (fun _ => True) (by intro _ _; trivial) 4 rfl (by decide) (by decide)).mono ?_
      rintro e wq4 ⟨y, rfl, -, hS⟩
      have SD4 := Lib.hid hS
      clear hS
      go_wp2_with fail
      refine hK.out _ _ trivial (fun hS => ?_)
      clear hK K
      try simp only [zp0, zp1, zp2, zp3, zp4]
      refine tk 8 rfl ?_
      try simp only [zp0, zp1, zp2, zp3, zp4]
      refine Reg.one_op (i := 9) rfl (by kernel_rfl) (fun K hK => ?_)
      go_simp
      have SD5 := Lib.hid (SD4.out.alloc (.cells #[.string s, .int .i64 y] 128))
      have R2 := Lib.hid (reads_two wq4 s y _ rfl 128)
      obtain ⟨g9, hg⟩ : ∃ g', g' = wq4.heap.size := ⟨_, rfl⟩
      rw [← hg] at R2 ⊢
      clear hg
      generalize wq4.alloc (.cells #[.string s, .int .i64 y] 128) = wq5 at SD5 R2 ⊢
      refine hK.out _ _ trivial (fun hS => ?_)
      clear hK K
      try simp only [zp0, zp1, zp2, zp3, zp4]
      refine Reg.one_op (i := 10) rfl (by kernel_rfl) (fun K hK => ?_)
      refine step_append_s SD5.out (rs.length + 1) (at_r (by rfl)) rfl _ _ 29 (by rfl) i0 (.agg #[.string ⟨#[]⟩, .int .i64 0]) 24 Try.underlying29 HF.out.1 HF.out.2.1 HF.out.2.2.1 HF.out.2.2.2 rfl (by omega) l.length (by rfl) rfl (g9 + 1) (some ⟨g9, 0, none⟩) 1 1 1 (cellsF [⟨s, y⟩]) (by rfl) rfl R2.out (by simp) (cellsF_one _) (by have := HT.out.1; unfold maxLen; omega) (by have := HT.out.1; omega) ?_
      intro A2 C2 wq6 hS
      have SD6 := Lib.hid (show Sep W wq6 (rs ++ [boxR w.heap.size 31 #[.slice none 0 0], ownV 128 2 A2 C2 (l.length + 1) (cellsF l ++ cellsF [⟨s, y⟩]), boxR g 31 #[.slice A l.length C]]) from by rw [List.set_append_right _ _ (by omega), Nat.add_sub_cancel_left] at hS; exact take_r hS [0, 1, 2] (by rfl) (by decide))
      clear hS
      refine hK.out _ _ trivial (fun hS => ?_)
      clear hK K
      try simp only [zp0, zp1, zp2, zp3, zp4]
      refine tk 11 rfl ?_
      try simp only [zp0, zp1, zp2, zp3, zp4]
      refine Reg.one_op (i := 12) rfl (by kernel_rfl) (fun K hK => ?_)
      obtain ⟨z0, z1⟩ := one_r SD6.out 2 rfl
      go_simp
      have SD7 := Lib.hid (put_r SD6.out 2 rfl 0 (.slice A2 (l.length + 1) C2))
      clear z0 z1
      refine hK.out _ _ trivial (fun hS => ?_)
      clear hK K
      try simp only [zp0, zp1, zp2, zp3, zp4]
      refine wpAnyH_done (by kernel_rfl) ?_ _
      have hl := Lib.hid (show l.length + 1 = (l ++ [⟨s, y⟩] : List F).length by simp)
      obtain ⟨q0, q0'⟩ := one_r SD7.out 0 rfl
      obtain ⟨r0, r0'⟩ := one_r SD7.out 2 rfl
      go_wp2_with fail
      refine bodyPost_ret (v := .agg #[.slice A2 (l.length + 1) C2]) (by simp [results, Try.results79, go_sem, q0]) rfl ?_
      refine ⟨A2, C2, l ++ [⟨s, y⟩], by rw [← hl.out], (HT.out.app (by omega) y).mono (by omega), ?_⟩
      rw [← hl.out, cellsF_append]
      exact take_r (put_r SD7.out 0 rfl 0 (.slice A2 (l.length + 1) C2)) [1] (by rfl) (by decide)
     refine Reg.cons_op (i := 7) rfl (fun K hK => ?_) ?_
     ·
      go_simp
      go_at_call 162
      refine (intB_s SD3.out i (at_left HI.out) (rs.length + 4) (at_r (by rfl)) (by have := (List.getElem?_eq_some_iff.1 HI.out).1; omega) [0, -1, 1000000000, 1000000001] rfl (fun _ => True) (by intro _ _; trivial) 4 rfl (by decide) (by decide)).mono ?_
      rintro e wq4 ⟨y, rfl, -, hS⟩
      have SD4 := Lib.hid hS
      clear hS
      go_wp2_with fail
      refine hK.out _ _ trivial (fun hS => ?_)
      clear hK K
      try simp only [zp0, zp1, zp2, zp3, zp4]
      refine tk 8 rfl ?_
      try simp only [zp0, zp1, zp2, zp3, zp4]
      refine wpAnyH_ready (rs := [1, 9]) (by kernel_rfl) (by simp) ?_
      refine Reg.cons_op (i := 1) rfl (fun K hK => ?_) ?_
      ·
       obtain ⟨r0, r0'⟩ := one_r SD4.out 2 rfl
       go_simp
       clear r0 r0'
       refine hK.out _ _ trivial (fun hS => ?_)
       clear hK K
       try simp only [zp0, zp1, zp2, zp3, zp4]
       refine Reg.one_op (i := 9) rfl (by kernel_rfl) (fun K hK => ?_)
       go_simp
       have SD5 := Lib.hid (SD4.out.alloc (.cells #[.string s, .int .i64 y] 128))
       have R2 := Lib.hid (reads_two wq4 s y _ rfl 128)
       obtain ⟨g9, hg⟩ : ∃ g', g' = wq4.heap.size := ⟨_, rfl⟩
       rw [← hg] at R2 ⊢
       clear hg
       generalize wq4.alloc (.cells #[.string s, .int .i64 y] 128) = wq5 at SD5 R2 ⊢
       refine hK.out _ _ trivial (fun hS => ?_)
       clear hK K
       try simp only [zp0, zp1, zp2, zp3, zp4]
       refine Reg.one_op (i := 10) rfl (by kernel_rfl) (fun K hK => ?_)
       refine step_append_s SD5.out (rs.length + 1) (at_r (by rfl)) rfl _ _ 29 (by rfl) i0 (.agg #[.string ⟨#[]⟩, .int .i64 0]) 24 Try.underlying29 HF.out.1 HF.out.2.1 HF.out.2.2.1 HF.out.2.2.2 rfl (by omega) l.length (by rfl) rfl (g9 + 1) (some ⟨g9, 0, none⟩) 1 1 1 (cellsF [⟨s, y⟩]) (by rfl) rfl R2.out (by simp) (cellsF_one _) (by have := HT.out.1; unfold maxLen; omega) (by have := HT.out.1; omega) ?_
       intro A2 C2 wq6 hS
       have SD6 := Lib.hid (show Sep W wq6 (rs ++ [boxR w.heap.size 31 #[.slice none 0 0], ownV 128 2 A2 C2 (l.length + 1) (cellsF l ++ cellsF [⟨s, y⟩]), boxR g 31 #[.slice A l.length C]]) from by rw [List.set_append_right _ _ (by omega), Nat.add_sub_cancel_left] at hS; exact take_r hS [0, 1, 2] (by rfl) (by decide))
       clear hS
       refine hK.out _ _ trivial (fun hS => ?_)
       clear hK K
       try simp only [zp0, zp1, zp2, zp3, zp4]
       refine tk 11 rfl ?_
       try simp only [zp0, zp1, zp2, zp3, zp4]
       refine Reg.one_op (i := 12) rfl (by kernel_rfl) (fun K hK => ?_)
       obtain ⟨z0, z1⟩ := one_r SD6.out 2 rfl
       go_simp
       have SD7 := Lib.hid (put_r SD6.out 2 rfl 0 (.slice A2 (l.length + 1) C2))
       clear z0 z1
       refine hK.out _ _ trivial (fun hS => ?_)
       clear hK K
       try simp only [zp0, zp1, zp2, zp3, zp4]
       refine wpAnyH_done (by kernel_rfl) ?_ _
       have hl := Lib.hid (show l.length + 1 = (l ++ [⟨s, y⟩] : List F).length by simp)
       obtain ⟨q0, q0'⟩ := one_r SD7.out 0 rfl
       obtain ⟨r0, r0'⟩ := one_r SD7.out 2 rfl
       go_wp2_with fail
       refine bodyPost_ret (v := .agg #[.slice A2 (l.length + 1) C2]) (by simp [results, Try.results79, go_sem, q0]) rfl ?_
       refine ⟨A2, C2, l ++ [⟨s, y⟩], by rw [← hl.out], (HT.out.app (by omega) y).mono (by omega), ?_⟩
       rw [← hl.out, cellsF_append]
       exact take_r (put_r SD7.out 0 rfl 0 (.slice A2 (l.length + 1) C2)) [1] (by rfl) (by decide)
      refine Reg.cons_op (i := 9) rfl (fun K hK => ?_) ?_
      ·
       go_simp
       have SD5 := Lib.hid (SD4.out.alloc (.cells #[.string s, .int .i64 y] 128))
       have R2 := Lib.hid (reads_two wq4 s y _ rfl 128)
       obtain ⟨g9, hg⟩ : ∃ g', g' = wq4.heap.size := ⟨_, rfl⟩
       rw [← hg] at R2 ⊢
       clear hg
       generalize wq4.alloc (.cells #[.string s, .int .i64 y] 128) = wq5 at SD5 R2 ⊢
       refine hK.out _ _ trivial (fun hS => ?_)
       clear hK K
       try simp only [zp0, zp1, zp2, zp3, zp4]
       refine Reg.one_op (i := 1) rfl (by kernel_rfl) (fun K hK => ?_)
       obtain ⟨r0, r0'⟩ := one_r SD5.out 2 rfl
       go_simp
       clear r0 r0'
       refine hK.out _ _ trivial (fun hS => ?_)
       clear hK K
       try simp only [zp0, zp1, zp2, zp3, zp4]
       refine Reg.one_op (i := 10) rfl (by kernel_rfl) (fun K hK => ?_)
       refine step_append_s SD5.out (rs.length + 1) (at_r (by rfl)) rfl _ _ 29 (by rfl) i0 (.agg #[.string ⟨#[]⟩, .int .i64 0]) 24 Try.underlying29 HF.out.1 HF.out.2.1 HF.out.2.2.1 HF.out.2.2.2 rfl (by omega) l.length (by rfl) rfl (g9 + 1) (some ⟨g9, 0, none⟩) 1 1 1 (cellsF [⟨s, y⟩]) (by rfl) rfl R2.out (by simp) (cellsF_one _) (by have := HT.out.1; unfold maxLen; omega) (by have := HT.out.1; omega) ?_
       intro A2 C2 wq6 hS
       have SD6 := Lib.hid (show Sep W wq6 (rs ++ [boxR w.heap.size 31 #[.slice none 0 0], ownV 128 2 A2 C2 (l.length + 1) (cellsF l ++ cellsF [⟨s, y⟩]), boxR g 31 #[.slice A l.length C]]) from by rw [List.set_append_right _ _ (by omega), Nat.add_sub_cancel_left] at hS; exact take_r hS [0, 1, 2] (by rfl) (by decide))
       clear hS
       refine hK.out _ _ trivial (fun hS => ?_)
       clear hK K
       try simp only [zp0, zp1, zp2, zp3, zp4]
       refine tk 11 rfl ?_
       try simp only [zp0, zp1, zp2, zp3, zp4]
       refine Reg.one_op (i := 12) rfl (by kernel_rfl) (fun K hK => ?_)
       obtain ⟨z0, z1⟩ := one_r SD6.out 2 rfl
       go_simp
       have SD7 := Lib.hid (put_r SD6.out 2 rfl 0 (.slice A2 (l.length + 1) C2))
       clear z0 z1
       refine hK.out _ _ trivial (fun hS => ?_)
       clear hK K
       try simp only [zp0, zp1, zp2, zp3, zp4]
       refine wpAnyH_done (by kernel_rfl) ?_ _
       have hl := Lib.hid (show l.length + 1 = (l ++ [⟨s, y⟩] : List F).length by simp)
       obtain ⟨q0, q0'⟩ := one_r SD7.out 0 rfl
       obtain ⟨r0, r0'⟩ := one_r SD7.out 2 rfl
       go_wp2_with fail
       refine bodyPost_ret (v := .agg #[.slice A2 (l.length + 1) C2]) (by simp [results, Try.results79, go_sem, q0]) rfl ?_
       refine ⟨A2, C2, l ++ [⟨s, y⟩], by rw [← hl.out], (HT.out.app (by omega) y).mono (by omega), ?_⟩
       rw [← hl.out, cellsF_append]
       exact take_r (put_r SD7.out 0 rfl 0 (.slice A2 (l.length + 1) C2)) [1] (by rfl) (by decide)
      exact AllReadyH.nil
     exact AllReadyH.nil
    exact AllReadyH.nil
   refine Reg.cons_op (i := 6) rfl (fun K hK => ?_) ?_
   ·
    go_simp
    have SD2 := Lib.hid (box_r SD1.out 3 #[.int .i64 0, .int .i64 (-1), .int .i64 1000000000, .int .i64 1000000001] wq1.heap.size rfl)
    obtain ⟨g4, hg⟩ : ∃ g', g' = wq1.heap.size := ⟨_, rfl⟩
    rw [← hg] at SD2 ⊢
    clear hg
    generalize wq1.alloc (.cells #[.int .i64 0, .int .i64 (-1), .int .i64 1000000000, .int .i64 1000000001] 3) = wq2 at SD2 ⊢
    refine hK.out _ _ trivial (fun hS => ?_)
    clear hK K
    try simp only [zp0, zp1, zp2, zp3, zp4]
    refine wpAnyH_ready (rs := [1, 4]) (by kernel_rfl) (by simp) ?_
    refine Reg.cons_op (i := 1) rfl (fun K hK => ?_) ?_
    ·
     obtain ⟨r0, r0'⟩ := one_r SD2.out 2 rfl
     go_simp
     clear r0 r0'
     refine hK.out _ _ trivial (fun hS => ?_)
     clear hK K
     try simp only [zp0, zp1, zp2, zp3, zp4]
     refine Reg.one_op (i := 4) rfl (by kernel_rfl) (fun K hK => ?_)
     go_simp
     go_at_call 161
     refine (strB_s SD2.out i (at_left HI.out) (rs.length + 3) (at_r (by rfl)) (by have := (List.getElem?_eq_some_iff.1 HI.out).1; omega) [⟨#[]⟩, ⟨#[65]⟩, ⟨#[122, 122, 122, 122, 122, 122, 122, 122, 122]⟩, ⟨#[122]⟩, ⟨#[97]⟩] rfl (fun s => s.size ≤ 9) (by decide) 5 rfl (by decide) (by decide)).mono ?_
     rintro e wq3 ⟨s, rfl, hs, hS⟩
     have SD3 := Lib.hid hS
     clear hS
     go_wp2_with fail
     refine hK.out _ _ trivial (fun hS => ?_)
     clear hK K
     try simp only [zp0, zp1, zp2, zp3, zp4]
     refine Reg.one_op (i := 7) rfl (by kernel_rfl) (fun K hK => ?_)
     go_simp
     go_at_call 162
     refine (intB_s SD3.out i (at_left HI.out) (rs.length + 4) (at_r (by rfl)) (by have := (List.getElem?_eq_some_iff.1 HI.out).1; omega) [0, -1, 1000000000, 1000000001] rfl (fun _ => True) (by intro _ _; trivial) 4 rfl (by decide) (by decide)).mono ?_
     rintro e wq4 ⟨y, rfl, -, hS⟩
     have SD4 := Lib.hid hS
     clear hS
     go_wp2_with fail
     refine hK.out _ _ trivial (fun hS => ?_)
     clear hK K
     try simp only [zp0, zp1, zp2, zp3, zp4]
     refine tk 8 rfl ?_
     try simp only [zp0, zp1, zp2, zp3, zp4]
     refine Reg.one_op (i := 9) rfl (by kernel_rfl) (fun K hK => ?_)
     go_simp
     have SD5 := Lib.hid (SD4.out.alloc (.cells #[.string s, .int .i64 y] 128))
     have R2 := Lib.hid (reads_two wq4 s y _ rfl 128)
     obtain ⟨g9, hg⟩ : ∃ g', g' = wq4.heap.size := ⟨_, rfl⟩
     rw [← hg] at R2 ⊢
     clear hg
     generalize wq4.alloc (.cells #[.string s, .int .i64 y] 128) = wq5 at SD5 R2 ⊢
     refine hK.out _ _ trivial (fun hS => ?_)
     clear hK K
     try simp only [zp0, zp1, zp2, zp3, zp4]
     refine Reg.one_op (i := 10) rfl (by kernel_rfl) (fun K hK => ?_)
     refine step_append_s SD5.out (rs.length + 1) (at_r (by rfl)) rfl _ _ 29 (by rfl) i0 (.agg #[.string ⟨#[]⟩, .int .i64 0]) 24 Try.underlying29 HF.out.1 HF.out.2.1 HF.out.2.2.1 HF.out.2.2.2 rfl (by omega) l.length (by rfl) rfl (g9 + 1) (some ⟨g9, 0, none⟩) 1 1 1 (cellsF [⟨s, y⟩]) (by rfl) rfl R2.out (by simp) (cellsF_one _) (by have := HT.out.1; unfold maxLen; omega) (by have := HT.out.1; omega) ?_
     intro A2 C2 wq6 hS
     have SD6 := Lib.hid (show Sep W wq6 (rs ++ [boxR w.heap.size 31 #[.slice none 0 0], ownV 128 2 A2 C2 (l.length + 1) (cellsF l ++ cellsF [⟨s, y⟩]), boxR g 31 #[.slice A l.length C]]) from by rw [List.set_append_right _ _ (by omega), Nat.add_sub_cancel_left] at hS; exact take_r hS [0, 1, 2] (by rfl) (by decide))
     clear hS
     refine hK.out _ _ trivial (fun hS => ?_)
     clear hK K
     try simp only [zp0, zp1, zp2, zp3, zp4]
     refine tk 11 rfl ?_
     try simp only [zp0, zp1, zp2, zp3, zp4]
     refine Reg.one_op (i := 12) rfl (by kernel_rfl) (fun K hK => ?_)
     obtain ⟨z0, z1⟩ := one_r SD6.out 2 rfl
     go_simp
     have SD7 := Lib.hid (put_r SD6.out 2 rfl 0 (.slice A2 (l.length + 1) C2))
     clear z0 z1
     refine hK.out _ _ trivial (fun hS => ?_)
     clear hK K
     try simp only [zp0, zp1, zp2, zp3, zp4]
     refine wpAnyH_done (by kernel_rfl) ?_ _
     have hl := Lib.hid (show l.length + 1 = (l ++ [⟨s, y⟩] : List F).length by simp)
     obtain ⟨q0, q0'⟩ := one_r SD7.out 0 rfl
     obtain ⟨r0, r0'⟩ := one_r SD7.out 2 rfl
     go_wp2_with fail
     refine bodyPost_ret (v := .agg #[.slice A2 (l.length + 1) C2]) (by simp [results, Try.results79, go_sem, q0]) rfl ?_
     refine ⟨A2, C2, l ++ [⟨s, y⟩], by rw [← hl.out], (HT.out.app (by omega) y).mono (by omega), ?_⟩
     rw [← hl.out, cellsF_append]
     exact take_r (put_r SD7.out 0 rfl 0 (.slice A2 (l.length + 1) C2)) [1] (by rfl) (by decide)
    refine Reg.cons_op (i := 4) rfl (fun K hK => ?_) ?_
    ·
     go_simp
     go_at_call 161
     refine (strB_s SD2.out i (at_left HI.out) (rs.length + 3) (at_r (by rfl)) (by have := (List.getElem?_eq_some_iff.1 HI.out).1; omega) [⟨#[]⟩, ⟨#[65]⟩, ⟨#[122, 122, 122, 122, 122, 122, 122, 122, 122]⟩, ⟨#[122]⟩, ⟨#[97]⟩] rfl (fun s => s.size ≤ 9) (by decide) 5 rfl (by decide) (by decide)).mono ?_
     rintro e wq3 ⟨s, rfl, hs, hS⟩
     have SD3 := Lib.hid hS
     clear hS
     go_wp2_with fail
     refine hK.out _ _ trivial (fun hS => ?_)
     clear hK K
     try simp only [zp0, zp1, zp2, zp3, zp4]
     refine wpAnyH_ready (rs := [1, 7]) (by kernel_rfl) (by simp) ?_
     refine Reg.cons_op (i := 1) rfl (fun K hK => ?_) ?_
     ·
      obtain ⟨r0, r0'⟩ := one_r SD3.out 2 rfl
      go_simp
      clear r0 r0'
      refine hK.out _ _ trivial (fun hS => ?_)
      clear hK K
      try simp only [zp0, zp1, zp2, zp3, zp4]
      refine Reg.one_op (i := 7) rfl (by kernel_rfl) (fun K hK => ?_)
      go_simp
      go_at_call 162
      refine (intB_s SD3.out i (at_left HI.out) (rs.length + 4) (at_r (by rfl)) (by have := (List.getElem?_eq_some_iff.1 HI.out).1; omega) [0, -1, 1000000000, 1000000001] rfl (fun _ => True) (by intro _ _; trivial) 4 rfl (by decide) (by decide)).mono ?_
      rintro e wq4 ⟨y, rfl, -, hS⟩
      have SD4 := Lib.hid hS
      clear hS
      go_wp2_with fail
      refine hK.out _ _ trivial (fun hS => ?_)
      clear hK K
      try simp only [zp0, zp1, zp2, zp3, zp4]
      refine tk 8 rfl ?_
      try simp only [zp0, zp1, zp2, zp3, zp4]
      refine Reg.one_op (i := 9) rfl (by kernel_rfl) (fun K hK => ?_)
      go_simp
      have SD5 := Lib.hid (SD4.out.alloc (.cells #[.string s, .int .i64 y] 128))
      have R2 := Lib.hid (reads_two wq4 s y _ rfl 128)
      obtain ⟨g9, hg⟩ : ∃ g', g' = wq4.heap.size := ⟨_, rfl⟩
      rw [← hg] at R2 ⊢
      clear hg
      generalize wq4.alloc (.cells #[.string s, .int .i64 y] 128) = wq5 at SD5 R2 ⊢
      refine hK.out _ _ trivial (fun hS => ?_)
      clear hK K
      try simp only [zp0, zp1, zp2, zp3, zp4]
      refine Reg.one_op (i := 10) rfl (by kernel_rfl) (fun K hK => ?_)
      refine step_append_s SD5.out (rs.length + 1) (at_r (by rfl)) rfl _ _ 29 (by rfl) i0 (.agg #[.string ⟨#[]⟩, .int .i64 0]) 24 Try.underlying29 HF.out.1 HF.out.2.1 HF.out.2.2.1 HF.out.2.2.2 rfl (by omega) l.length (by rfl) rfl (g9 + 1) (some ⟨g9, 0, none⟩) 1 1 1 (cellsF [⟨s, y⟩]) (by rfl) rfl R2.out (by simp) (cellsF_one _) (by have := HT.out.1; unfold maxLen; omega) (by have := HT.out.1; omega) ?_
      intro A2 C2 wq6 hS
      have SD6 := Lib.hid (show Sep W wq6 (rs ++ [boxR w.heap.size 31 #[.slice none 0 0], ownV 128 2 A2 C2 (l.length + 1) (cellsF l ++ cellsF [⟨s, y⟩]), boxR g 31 #[.slice A l.length C]]) from by rw [List.set_append_right _ _ (by omega), Nat.add_sub_cancel_left] at hS; exact take_r hS [0, 1, 2] (by rfl) (by decide))
      clear hS
      refine hK.out _ _ trivial (fun hS => ?_)
      clear hK K
      try simp only [zp0, zp1, zp2, zp3, zp4]
      refine tk 11 rfl ?_
      try simp only [zp0, zp1, zp2, zp3, zp4]
      refine Reg.one_op (i := 12) rfl (by kernel_rfl) (fun K hK => ?_)
      obtain ⟨z0, z1⟩ := one_r SD6.out 2 rfl
      go_simp
      have SD7 := Lib.hid (put_r SD6.out 2 rfl 0 (.slice A2 (l.length + 1) C2))
      clear z0 z1
      refine hK.out _ _ trivial (fun hS => ?_)
      clear hK K
      try simp only [zp0, zp1, zp2, zp3, zp4]
      refine wpAnyH_done (by kernel_rfl) ?_ _
      have hl := Lib.hid (show l.length + 1 = (l ++ [⟨s, y⟩] : List F).length by simp)
      obtain ⟨q0, q0'⟩ := one_r SD7.out 0 rfl
      obtain ⟨r0, r0'⟩ := one_r SD7.out 2 rfl
      go_wp2_with fail
      refine bodyPost_ret (v := .agg #[.slice A2 (l.length + 1) C2]) (by simp [results, Try.results79, go_sem, q0]) rfl ?_
      refine ⟨A2, C2, l ++ [⟨s, y⟩], by rw [← hl.out], (HT.out.app (by omega) y).mono (by omega), ?_⟩
      rw [← hl.out, cellsF_append]
      exact take_r (put_r SD7.out 0 rfl 0 (.slice A2 (l.length + 1) C2)) [1] (by rfl) (by decide)
     refine Reg.cons_op (i := 7) rfl (fun K hK => ?_) ?_
     ·
      go_simp
      go_at_call 162
      refine (intB_s SD3.out i (at_left HI.out) (rs.length + 4) (at_r (by rfl)) (by have := (List.getElem?_eq_some_iff.1 HI.out).1; omega) [0, -1, 1000000000, 1000000001] rfl (fun _ => True) (by intro _ _; trivial) 4 rfl (by decide) (by decide)).mono ?_
      rintro e wq4 ⟨y, rfl, -, hS⟩
      have SD4 := Lib.hid hS
      clear hS
      go_wp2_with fail
      refine hK.out _ _ trivial (fun hS => ?_)
      clear hK K
      try simp only [zp0, zp1, zp2, zp3, zp4]
      refine tk 8 rfl ?_
      try simp only [zp0, zp1, zp2, zp3, zp4]
      refine wpAnyH_ready (rs := [1, 9]) (by kernel_rfl) (by simp) ?_
      refine Reg.cons_op (i := 1) rfl (fun K hK => ?_) ?_
      ·
       obtain ⟨r0, r0'⟩ := one_r SD4.out 2 rfl
       go_simp
       clear r0 r0'
       refine hK.out _ _ trivial (fun hS => ?_)
       clear hK K
       try simp only [zp0, zp1, zp2, zp3, zp4]
       refine Reg.one_op (i := 9) rfl (by kernel_rfl) (fun K hK => ?_)
       go_simp
       have SD5 := Lib.hid (SD4.out.alloc (.cells #[.string s, .int .i64 y] 128))
       have R2 := Lib.hid (reads_two wq4 s y _ rfl 128)
       obtain ⟨g9, hg⟩ : ∃ g', g' = wq4.heap.size := ⟨_, rfl⟩
       rw [← hg] at R2 ⊢
       clear hg
       generalize wq4.alloc (.cells #[.string s, .int .i64 y] 128) = wq5 at SD5 R2 ⊢
       refine hK.out _ _ trivial (fun hS => ?_)
       clear hK K
       try simp only [zp0, zp1, zp2, zp3, zp4]
       refine Reg.one_op (i := 10) rfl (by kernel_rfl) (fun K hK => ?_)
       refine step_append_s SD5.out (rs.length + 1) (at_r (by rfl)) rfl _ _ 29 (by rfl) i0 (.agg #[.string ⟨#[]⟩, .int .i64 0]) 24 Try.underlying29 HF.out.1 HF.out.2.1 HF.out.2.2.1 HF.out.2.2.2 rfl (by omega) l.length (by rfl) rfl (g9 + 1) (some ⟨g9, 0, none⟩) 1 1 1 (cellsF [⟨s, y⟩]) (by rfl) rfl R2.out (by simp) (cellsF_one _) (by have := HT.out.1; unfold maxLen; omega) (by have := HT.out.1; omega) ?_
       intro A2 C2 wq6 hS
       have SD6 := Lib.hid (show Sep W wq6 (rs ++ [boxR w.heap.size 31 #[.slice none 0 0], ownV 128 2 A2 C2 (l.length + 1) (cellsF l ++ cellsF [⟨s, y⟩]), boxR g 31 #[.slice A l.length C]]) from by rw [List.set_append_right _ _ (by omega), Nat.add_sub_cancel_left] at hS; exact take_r hS [0, 1, 2] (by rfl) (by decide))
       clear hS
       refine hK.out _ _ trivial (fun hS => ?_)
       clear hK K
       try simp only [zp0, zp1, zp2, zp3, zp4]
       refine tk 11 rfl ?_
       try simp only [zp0, zp1, zp2, zp3, zp4]
       refine Reg.one_op (i := 12) rfl (by kernel_rfl) (fun K hK => ?_)
       obtain ⟨z0, z1⟩ := one_r SD6.out 2 rfl
       go_simp
       have SD7 := Lib.hid (put_r SD6.out 2 rfl 0 (.slice A2 (l.length + 1) C2))
       clear z0 z1
       refine hK.out _ _ trivial (fun hS => ?_)
       clear hK K
       try simp only [zp0, zp1, zp2, zp3, zp4]
       refine wpAnyH_done (by kernel_rfl) ?_ _
       have hl := Lib.hid (show l.length + 1 = (l ++ [⟨s, y⟩] : List F).length by simp)
       obtain ⟨q0, q0'⟩ := one_r SD7.out 0 rfl
       obtain ⟨r0, r0'⟩ := one_r SD7.out 2 rfl
       go_wp2_with fail
       refine bodyPost_ret (v := .agg #[.slice A2 (l.length + 1) C2]) (by simp [results, Try.results79, go_sem, q0]) rfl ?_
       refine ⟨A2, C2, l ++ [⟨s, y⟩], by rw [← hl.out], (HT.out.app (by omega) y).mono (by omega), ?_⟩
       rw [← hl.out, cellsF_append]
       exact take_r (put_r SD7.out 0 rfl 0 (.slice A2 (l.length + 1) C2)) [1] (by rfl) (by decide)
      refine Reg.cons_op (i := 9) rfl (fun K hK => ?_) ?_
      ·
       go_simp
       have SD5 := Lib.hid (SD4.out.alloc (.cells #[.string s, .int .i64 y] 128))
       have R2 := Lib.hid (reads_two wq4 s y _ rfl 128)
       obtain ⟨g9, hg⟩ : ∃ g', g' = wq4.heap.size := ⟨_, rfl⟩
       rw [← hg] at R2 ⊢
       clear hg
       generalize wq4.alloc (.cells #[.string s, .int .i64 y] 128) = wq5 at SD5 R2 ⊢
       refine hK.out _ _ trivial (fun hS => ?_)
       clear hK K
       try simp only [zp0, zp1, zp2, zp3, zp4]
       refine Reg.one_op (i := 1) rfl (by kernel_rfl) (fun K hK => ?_)
       obtain ⟨r0, r0'⟩ := one_r SD5.out 2 rfl
       go_simp
       clear r0 r0'
       refine hK.out _ _ trivial (fun hS => ?_)
       clear hK K
       try simp only [zp0, zp1, zp2, zp3, zp4]
       refine Reg.one_op (i := 10) rfl (by kernel_rfl) (fun K hK => ?_)
       refine step_append_s SD5.out (rs.length + 1) (at_r (by rfl)) rfl _ _ 29 (by rfl) i0 (.agg #[.string ⟨#[]⟩, .int .i64 0]) 24 Try.underlying29 HF.out.1 HF.out.2.1 HF.out.2.2.1 HF.out.2.2.2 rfl (by omega) l.length (by rfl) rfl (g9 + 1) (some ⟨g9, 0, none⟩) 1 1 1 (cellsF [⟨s, y⟩]) (by rfl) rfl R2.out (by simp) (cellsF_one _) (by have := HT.out.1; unfold maxLen; omega) (by have := HT.out.1; omega) ?_
       intro A2 C2 wq6 hS
       have SD6 := Lib.hid (show Sep W wq6 (rs ++ [boxR w.heap.size 31 #[.slice none 0 0], ownV 128 2 A2 C2 (l.length + 1) (cellsF l ++ cellsF [⟨s, y⟩]), boxR g 31 #[.slice A l.length C]]) from by rw [List.set_append_right _ _ (by omega), Nat.add_sub_cancel_left] at hS; exact take_r hS [0, 1, 2] (by rfl) (by decide))
       clear hS
       refine hK.out _ _ trivial (fun hS => ?_)
       clear hK K
       try simp only [zp0, zp1, zp2, zp3, zp4]
       refine tk 11 rfl ?_
       try simp only [zp0, zp1, zp2, zp3, zp4]
       refine Reg.one_op (i := 12) rfl (by kernel_rfl) (fun K hK => ?_)
       obtain ⟨z0, z1⟩ := one_r SD6.out 2 rfl
       go_simp
       have SD7 := Lib.hid (put_r SD6.out 2 rfl 0 (.slice A2 (l.length + 1) C2))
       clear z0 z1
       refine hK.out _ _ trivial (fun hS => ?_)
       clear hK K
       try simp only [zp0, zp1, zp2, zp3, zp4]
       refine wpAnyH_done (by kernel_rfl) ?_ _
       have hl := Lib.hid (show l.length + 1 = (l ++ [⟨s, y⟩] : List F).length by simp)
       obtain ⟨q0, q0'⟩ := one_r SD7.out 0 rfl
       obtain ⟨r0, r0'⟩ := one_r SD7.out 2 rfl
       go_wp2_with fail
       refine bodyPost_ret (v := .agg #[.slice A2 (l.length + 1) C2]) (by simp [results, Try.results79, go_sem, q0]) rfl ?_
       refine ⟨A2, C2, l ++ [⟨s, y⟩], by rw [← hl.out], (HT.out.app (by omega) y).mono (by omega), ?_⟩
       rw [← hl.out, cellsF_append]
       exact take_r (put_r SD7.out 0 rfl 0 (.slice A2 (l.length + 1) C2)) [1] (by rfl) (by decide)
      exact AllReadyH.nil
     exact AllReadyH.nil
    exact AllReadyH.nil
   exact AllReadyH.nil
  refine Reg.cons_op (i := 6) rfl (fun K hK => ?_) ?_
  ·
   go_simp
   have SD1 := Lib.hid (box_r SD0.out 3 #[.int .i64 0, .int .i64 (-1), .int .i64 1000000000, .int .i64 1000000001] wd.heap.size rfl)
   obtain ⟨g3, hg⟩ : ∃ g', g' = wd.heap.size := ⟨_, rfl⟩
   rw [← hg] at SD1 ⊢
   clear hg
   generalize wd.alloc (.cells #[.int .i64 0, .int .i64 (-1), .int .i64 1000000000, .int .i64 1000000001] 3) = wq1 at SD1 ⊢
   refine hK.out _ _ trivial (fun hS => ?_)
   clear hK K
   try simp only [zp0, zp1, zp2, zp3, zp4]
   refine wpAnyH_ready (rs := [1, 3]) (by kernel_rfl) (by simp) ?_
   refine Reg.cons_op (i := 1) rfl (fun K hK => ?_) ?_
   ·
    obtain ⟨r0, r0'⟩ := one_r SD1.out 2 rfl
    go_simp
    clear r0 r0'
    refine hK.out _ _ trivial (fun hS => ?_)
    clear hK K
    try simp only [zp0, zp1, zp2, zp3, zp4]
    refine Reg.one_op (i := 3) rfl (by kernel_rfl) (fun K hK => ?_)
    go_simp
    have SD2 := Lib.hid (box_r SD1.out 9 #[.string ⟨#[]⟩, .string ⟨#[65]⟩, .string ⟨#[122, 122, 122, 122, 122, 122, 122, 122, 122]⟩, .string ⟨#[122]⟩, .string ⟨#[97]⟩] wq1.heap.size rfl)
    obtain ⟨g4, hg⟩ : ∃ g', g' = wq1.heap.size := ⟨_, rfl⟩
    rw [← hg] at SD2 ⊢
    clear hg
    generalize wq1.alloc (.cells #[.string ⟨#[]⟩, .string ⟨#[65]⟩, .string ⟨#[122, 122, 122, 122, 122, 122, 122, 122, 122]⟩, .string ⟨#[122]⟩, .string ⟨#[97]⟩] 9) = wq2 at SD2 ⊢
    refine hK.out _ _ trivial (fun hS => ?_)
    clear hK K
    try simp only [zp0, zp1, zp2, zp3, zp4]
    refine Reg.one_op (i := 4) rfl (by kernel_rfl) (fun K hK => ?_)
    go_simp
    go_at_call 161
    refine (strB_s SD2.out i (at_left HI.out) (rs.length + 4) (at_r (by rfl)) (by have := (List.getElem?_eq_some_iff.1 HI.out).1; omega) [⟨#[]⟩, ⟨#[65]⟩, ⟨#[122, 122, 122, 122, 122, 122, 122, 122, 122]⟩, ⟨#[122]⟩, ⟨#[97]⟩] rfl (fun s => s.size ≤ 9) (by decide) 5 rfl (by decide) (by decide)).mono ?_
    rintro e wq3 ⟨s, rfl, hs, hS⟩
    have SD3 := Lib.hid hS
    clear hS
    go_wp2_with fail
    refine hK.out _ _ trivial (fun hS => ?_)
    clear hK K
    try simp only [zp0, zp1, zp2, zp3, zp4]
    refine Reg.one_op (i := 7) rfl (by kernel_rfl) (fun K hK => ?_)
    go_simp
    go_at_call 162
    refine (intB_s SD3.out i (at_left HI.out) (rs.length + 3) (at_r (by rfl)) (by have := (List.getElem?_eq_some_iff.1 HI.out).1; omega) [0, -1, 1000000000, 1000000001] rfl (fun _ => True) (by intro _ _; trivial) 4 rfl (by decide) (by decide)).mono ?_
    rintro e wq4 ⟨y, rfl, -, hS⟩
    have SD4 := Lib.hid hS
    clear hS
    go_wp2_with fail
    refine hK.out _ _ trivial (fun hS => ?_)
    clear hK K
    try simp only [zp0, zp1, zp2, zp3, zp4]
    refine tk 8 rfl ?_
    try simp only [zp0, zp1, zp2, zp3, zp4]
    refine Reg.one_op (i := 9) rfl (by kernel_rfl) (fun K hK => ?_)
    go_simp
    have SD5 := Lib.hid (SD4.out.alloc (.cells #[.string s, .int .i64 y] 128))
    have R2 := Lib.hid (reads_two wq4 s y _ rfl 128)
    obtain ⟨g9, hg⟩ : ∃ g', g' = wq4.heap.size := ⟨_, rfl⟩
    rw [← hg] at R2 ⊢
    clear hg
    generalize wq4.alloc (.cells #[.string s, .int .i64 y] 128) = wq5 at SD5 R2 ⊢
    refine hK.out _ _ trivial (fun hS => ?_)
    clear hK K
    try simp only [zp0, zp1, zp2, zp3, zp4]
    refine Reg.one_op (i := 10) rfl (by kernel_rfl) (fun K hK => ?_)
    refine step_append_s SD5.out (rs.length + 1) (at_r (by rfl)) rfl _ _ 29 (by rfl) i0 (.agg #[.string ⟨#[]⟩, .int .i64 0]) 24 Try.underlying29 HF.out.1 HF.out.2.1 HF.out.2.2.1 HF.out.2.2.2 rfl (by omega) l.length (by rfl) rfl (g9 + 1) (some ⟨g9, 0, none⟩) 1 1 1 (cellsF [⟨s, y⟩]) (by rfl) rfl R2.out (by simp) (cellsF_one _) (by have := HT.out.1; unfold maxLen; omega) (by have := HT.out.1; omega) ?_
    intro A2 C2 wq6 hS
    have SD6 := Lib.hid (show Sep W wq6 (rs ++ [boxR w.heap.size 31 #[.slice none 0 0], ownV 128 2 A2 C2 (l.length + 1) (cellsF l ++ cellsF [⟨s, y⟩]), boxR g 31 #[.slice A l.length C]]) from by rw [List.set_append_right _ _ (by omega), Nat.add_sub_cancel_left] at hS; exact take_r hS [0, 1, 2] (by rfl) (by decide))
    clear hS
    refine hK.out _ _ trivial (fun hS => ?_)
    clear hK K
    try simp only [zp0, zp1, zp2, zp3, zp4]
    refine tk 11 rfl ?_
    try simp only [zp0, zp1, zp2, zp3, zp4]
    refine Reg.one_op (i := 12) rfl (by kernel_rfl) (fun K hK => ?_)
    obtain ⟨z0, z1⟩ := one_r SD6.out 2 rfl
    go_simp
    have SD7 := Lib.hid (put_r SD6.out 2 rfl 0 (.slice A2 (l.length + 1) C2))
    clear z0 z1
    refine hK.out _ _ trivial (fun hS => ?_)
    clear hK K
    try simp only [zp0, zp1, zp2, zp3, zp4]
    refine wpAnyH_done (by kernel_rfl) ?_ _
    have hl := Lib.hid (show l.length + 1 = (l ++ [⟨s, y⟩] : List F).length by simp)
    obtain ⟨q0, q0'⟩ := one_r SD7.out 0 rfl
    obtain ⟨r0, r0'⟩ := one_r SD7.out 2 rfl
    go_wp2_with fail
    refine bodyPost_ret (v := .agg #[.slice A2 (l.length + 1) C2]) (by simp [results, Try.results79, go_sem, q0]) rfl ?_
    refine ⟨A2, C2, l ++ [⟨s, y⟩], by rw [← hl.out], (HT.out.app (by omega) y).mono (by omega), ?_⟩
    rw [← hl.out, cellsF_append]
    exact take_r (put_r SD7.out 0 rfl 0 (.slice A2 (l.length + 1) C2)) [1] (by rfl) (by decide)
   refine Reg.cons_op (i := 3) rfl (fun K hK => ?_) ?_
   ·
    go_simp
    have SD2 := Lib.hid (box_r SD1.out 9 #[.string ⟨#[]⟩, .string ⟨#[65]⟩, .string ⟨#[122, 122, 122, 122, 122, 122, 122, 122, 122]⟩, .string ⟨#[122]⟩, .string ⟨#[97]⟩] wq1.heap.size rfl)
    obtain ⟨g4, hg⟩ : ∃ g', g' = wq1.heap.size := ⟨_, rfl⟩
    rw [← hg] at SD2 ⊢
    clear hg
    generalize wq1.alloc (.cells #[.string ⟨#[]⟩, .string ⟨#[65]⟩, .string ⟨#[122, 122, 122, 122, 122, 122, 122, 122, 122]⟩, .string ⟨#[122]⟩, .string ⟨#[97]⟩] 9) = wq2 at SD2 ⊢
    refine hK.out _ _ trivial (fun hS => ?_)
    clear hK K
    try simp only [zp0, zp1, zp2, zp3, zp4]
    refine wpAnyH_ready (rs := [1, 4]) (by kernel_rfl) (by simp) ?_
    refine Reg.cons_op (i := 1) rfl (fun K hK => ?_) ?_
    ·
     obtain ⟨r0, r0'⟩ := one_r SD2.out 2 rfl
     go_simp
     clear r0 r0'
     refine hK.out _ _ trivial (fun hS => ?_)
     clear hK K
     try simp only [zp0, zp1, zp2, zp3, zp4]
     refine Reg.one_op (i := 4) rfl (by kernel_rfl) (fun K hK => ?_)
     go_simp
     go_at_call 161
     refine (strB_s SD2.out i (at_left HI.out) (rs.length + 4) (at_r (by rfl)) (by have := (List.getElem?_eq_some_iff.1 HI.out).1; omega) [⟨#[]⟩, ⟨#[65]⟩, ⟨#[122, 122, 122, 122, 122, 122, 122, 122, 122]⟩, ⟨#[122]⟩, ⟨#[97]⟩] rfl (fun s => s.size ≤ 9) (by decide) 5 rfl (by decide) (by decide)).mono ?_
     rintro e wq3 ⟨s, rfl, hs, hS⟩
     have SD3 := Lib.hid hS
     clear hS
     go_wp2_with fail
     refine hK.out _ _ trivial (fun hS => ?_)
     clear hK K
     try simp only [zp0, zp1, zp2, zp3, zp4]
     refine Reg.one_op (i := 7) rfl (by kernel_rfl) (fun K hK => ?_)
     go_simp
     go_at_call 162
     refine (intB_s SD3.out i (at_left HI.out) (rs.length + 3) (at_r (by rfl)) (by have := (List.getElem?_eq_some_iff.1 HI.out).1; omega) [0, -1, 1000000000, 1000000001] rfl (fun _ => True) (by intro _ _; trivial) 4 rfl (by decide) (by decide)).mono ?_
     rintro e wq4 ⟨y, rfl, -, hS⟩
     have SD4 := Lib.hid hS
     clear hS
     go_wp2_with fail
     refine hK.out _ _ trivial (fun hS => ?_)
     clear hK K
     try simp only [zp0, zp1, zp2, zp3, zp4]
     refine tk 8 rfl ?_
     try simp only [zp0, zp1, zp2, zp3, zp4]
     refine Reg.one_op (i := 9) rfl (by kernel_rfl) (fun K hK => ?_)
     go_simp
     have SD5 := Lib.hid (SD4.out.alloc (.cells #[.string s, .int .i64 y] 128))
     have R2 := Lib.hid (reads_two wq4 s y _ rfl 128)
     obtain ⟨g9, hg⟩ : ∃ g', g' = wq4.heap.size := ⟨_, rfl⟩
     rw [← hg] at R2 ⊢
     clear hg
     generalize wq4.alloc (.cells #[.string s, .int .i64 y] 128) = wq5 at SD5 R2 ⊢
     refine hK.out _ _ trivial (fun hS => ?_)
     clear hK K
     try simp only [zp0, zp1, zp2, zp3, zp4]
     refine Reg.one_op (i := 10) rfl (by kernel_rfl) (fun K hK => ?_)
     refine step_append_s SD5.out (rs.length + 1) (at_r (by rfl)) rfl _ _ 29 (by rfl) i0 (.agg #[.string ⟨#[]⟩, .int .i64 0]) 24 Try.underlying29 HF.out.1 HF.out.2.1 HF.out.2.2.1 HF.out.2.2.2 rfl (by omega) l.length (by rfl) rfl (g9 + 1) (some ⟨g9, 0, none⟩) 1 1 1 (cellsF [⟨s, y⟩]) (by rfl) rfl R2.out (by simp) (cellsF_one _) (by have := HT.out.1; unfold maxLen; omega) (by have := HT.out.1; omega) ?_
     intro A2 C2 wq6 hS
     have SD6 := Lib.hid (show Sep W wq6 (rs ++ [boxR w.heap.size 31 #[.slice none 0 0], ownV 128 2 A2 C2 (l.length + 1) (cellsF l ++ cellsF [⟨s, y⟩]), boxR g 31 #[.slice A l.length C]]) from by rw [List.set_append_right _ _ (by omega), Nat.add_sub_cancel_left] at hS; exact take_r hS [0, 1, 2] (by rfl) (by decide))
     clear hS
     refine hK.out _ _ trivial (fun hS => ?_)
     clear hK K
     try simp only [zp0, zp1, zp2, zp3, zp4]
     refine tk 11 rfl ?_
     try simp only [zp0, zp1, zp2, zp3, zp4]
     refine Reg.one_op (i := 12) rfl (by kernel_rfl) (fun K hK => ?_)
     obtain ⟨z0, z1⟩ := one_r SD6.out 2 rfl
     go_simp
     have SD7 := Lib.hid (put_r SD6.out 2 rfl 0 (.slice A2 (l.length + 1) C2))
     clear z0 z1
     refine hK.out _ _ trivial (fun hS => ?_)
     clear hK K
     try simp only [zp0, zp1, zp2, zp3, zp4]
     refine wpAnyH_done (by kernel_rfl) ?_ _
     have hl := Lib.hid (show l.length + 1 = (l ++ [⟨s, y⟩] : List F).length by simp)
     obtain ⟨q0, q0'⟩ := one_r SD7.out 0 rfl
     obtain ⟨r0, r0'⟩ := one_r SD7.out 2 rfl
     go_wp2_with fail
     refine bodyPost_ret (v := .agg #[.slice A2 (l.length + 1) C2]) (by simp [results, Try.results79, go_sem, q0]) rfl ?_
     refine ⟨A2, C2, l ++ [⟨s, y⟩], by rw [← hl.out], (HT.out.app (by omega) y).mono (by omega), ?_⟩
     rw [← hl.out, cellsF_append]
     exact take_r (put_r SD7.out 0 rfl 0 (.slice A2 (l.length + 1) C2)) [1] (by rfl) (by decide)
    refine Reg.cons_op (i := 4) rfl (fun K hK => ?_) ?_
    ·
     go_simp
     go_at_call 161
     refine (strB_s SD2.out i (at_left HI.out) (rs.length + 4) (at_r (by rfl)) (by have := (List.getElem?_eq_some_iff.1 HI.out).1; omega) [⟨#[]⟩, ⟨#[65]⟩, ⟨#[122, 122, 122, 122, 122, 122, 122, 122, 122]⟩, ⟨#[122]⟩, ⟨#[97]⟩] rfl (fun s => s.size ≤ 9) (by decide) 5 rfl (by decide) (by decide)).mono ?_
     rintro e wq3 ⟨s, rfl, hs, hS⟩
     have SD3 := Lib.hid hS
     clear hS
     go_wp2_with fail
     refine hK.out _ _ trivial (fun hS => ?_)
     clear hK K
     try simp only [zp0, zp1, zp2, zp3, zp4]
     refine wpAnyH_ready (rs := [1, 7]) (by kernel_rfl) (by simp) ?_
     refine Reg.cons_op (i := 1) rfl (fun K hK => ?_) ?_
     ·
      obtain ⟨r0, r0'⟩ := one_r SD3.out 2 rfl
      go_simp
      clear r0 r0'
      refine hK.out _ _ trivial (fun hS => ?_)
      clear hK K
      try simp only [zp0, zp1, zp2, zp3, zp4]
      refine Reg.one_op (i := 7) rfl (by kernel_rfl) (fun K hK => ?_)
      go_simp
      go_at_call 162
      refine (intB_s SD3.out i (at_left HI.out) (rs.length + 3) (at_r (by rfl)) (by have := (List.getElem?_eq_some_iff.1 HI.out).1; omega) [0, -1, 1000000000, 1000000001] rfl (fun _ => True) (by intro _ _; trivial) 4 rfl (by decide) (by decide)).mono ?_
      rintro e wq4 ⟨y, rfl, -, hS⟩
      have SD4 := Lib.hid hS
      clear hS
      go_wp2_with fail
      refine hK.out _ _ trivial (fun hS => ?_)
      clear hK K
      try simp only [zp0, zp1, zp2, zp3, zp4]
      refine tk 8 rfl ?_
      try simp only [zp0, zp1, zp2, zp3, zp4]
      refine Reg.one_op (i := 9) rfl (by kernel_rfl) (fun K hK => ?_)
      go_simp
      have SD5 := Lib.hid (SD4.out.alloc (.cells #[.string s, .int .i64 y] 128))
      have R2 := Lib.hid (reads_two wq4 s y _ rfl 128)
      obtain ⟨g9, hg⟩ : ∃ g', g' = wq4.heap.size := ⟨_, rfl⟩
      rw [← hg] at R2 ⊢
      clear hg
      generalize wq4.alloc (.cells #[.string s, .int .i64 y] 128) = wq5 at SD5 R2 ⊢
      refine hK.out _ _ trivial (fun hS => ?_)
      clear hK K
      try simp only [zp0, zp1, zp2, zp3, zp4]
      refine Reg.one_op (i := 10) rfl (by kernel_rfl) (fun K hK => ?_)
      refine step_append_s SD5.out (rs.length + 1) (at_r (by rfl)) rfl _ _ 29 (by rfl) i0 (.agg #[.string ⟨#[]⟩, .int .i64 0]) 24 Try.underlying29 HF.out.1 HF.out.2.1 HF.out.2.2.1 HF.out.2.2.2 rfl (by omega) l.length (by rfl) rfl (g9 + 1) (some ⟨g9, 0, none⟩) 1 1 1 (cellsF [⟨s, y⟩]) (by rfl) rfl R2.out (by simp) (cellsF_one _) (by have := HT.out.1; unfold maxLen; omega) (by have := HT.out.1; omega) ?_
      intro A2 C2 wq6 hS
      have SD6 := Lib.hid (show Sep W wq6 (rs ++ [boxR w.heap.size 31 #[.slice none 0 0], ownV 128 2 A2 C2 (l.length + 1) (cellsF l ++ cellsF [⟨s, y⟩]), boxR g 31 #[.slice A l.length C]]) from by rw [List.set_append_right _ _ (by omega), Nat.add_sub_cancel_left] at hS; exact take_r hS [0, 1, 2] (by rfl) (by decide))
      clear hS
      refine hK.out _ _ trivial (fun hS => ?_)
      clear hK K
      try simp only [zp0, zp1, zp2, zp3, zp4]
      refine tk 11 rfl ?_
      try simp only [zp0, zp1, zp2, zp3, zp4]
      refine Reg.one_op (i := 12) rfl (by kernel_rfl) (fun K hK => ?_)
      obtain ⟨z0, z1⟩ := one_r SD6.out 2 rfl
      go_simp
      have SD7 := Lib.hid (put_r SD6.out 2 rfl 0 (.slice A2 (l.length + 1) C2))
      clear z0 z1
      refine hK.out _ _ trivial (fun hS => ?_)
      clear hK K
      try simp only [zp0, zp1, zp2, zp3, zp4]
      refine wpAnyH_done (by kernel_rfl) ?_ _
      have hl := Lib.hid (show l.length + 1 = (l ++ [⟨s, y⟩] : List F).length by simp)
      obtain ⟨q0, q0'⟩ := one_r SD7.out 0 rfl
      obtain ⟨r0, r0'⟩ := one_r SD7.out 2 rfl
      go_wp2_with fail
      refine bodyPost_ret (v := .agg #[.slice A2 (l.length + 1) C2]) (by simp [results, Try.results79, go_sem, q0]) rfl ?_
      refine ⟨A2, C2, l ++ [⟨s, y⟩], by rw [← hl.out], (HT.out.app (by omega) y).mono (by omega), ?_⟩
      rw [← hl.out, cellsF_append]
      exact take_r (put_r SD7.out 0 rfl 0 (.slice A2 (l.length + 1) C2)) [1] (by rfl) (by decide)
     refine Reg.cons_op (i := 7) rfl (fun K hK => ?_) ?_
     ·
      go_simp
      go_at_call 162
      refine (intB_s SD3.out i (at_left HI.out) (rs.length + 3) (at_r (by rfl)) (by have := (List.getElem?_eq_some_iff.1 HI.out).1; omega) [0, -1, 1000000000, 1000000001] rfl (fun _ => True) (by intro _ _; trivial) 4 rfl (by decide) (by decide)).mono ?_
      rintro e wq4 ⟨y, rfl, -, hS⟩
      have SD4 := Lib.hid hS
      clear hS
      go_wp2_with fail
      refine hK.out _ _ trivial (fun hS => ?_)
      clear hK K
      try simp only [zp0, zp1, zp2, zp3, zp4]
      refine tk 8 rfl ?_
      try simp only [zp0, zp1, zp2, zp3, zp4]
      refine wpAnyH_ready (rs := [1, 9]) (by kernel_rfl) (by simp) ?_
      refine Reg.cons_op (i := 1) rfl (fun K hK => ?_) ?_
      ·
       obtain ⟨r0, r0'⟩ := one_r SD4.out 2 rfl
       go_simp
       clear r0 r0'
       refine hK.out _ _ trivial (fun hS => ?_)
       clear hK K
       try simp only [zp0, zp1, zp2, zp3, zp4]
       refine Reg.one_op (i := 9) rfl (by kernel_rfl) (fun K hK => ?_)
       go_simp
       have SD5 := Lib.hid (SD4.out.alloc (.cells #[.string s, .int .i64 y] 128))
       have R2 := Lib.hid (reads_two wq4 s y _ rfl 128)
       obtain ⟨g9, hg⟩ : ∃ g', g' = wq4.heap.size := ⟨_, rfl⟩
       rw [← hg] at R2 ⊢
       clear hg
       generalize wq4.alloc (.cells #[.string s, .int .i64 y] 128) = wq5 at SD5 R2 ⊢
       refine hK.out _ _ trivial (fun hS => ?_)
       clear hK K
       try simp only [zp0, zp1, zp2, zp3, zp4]
       refine Reg.one_op (i := 10) rfl (by kernel_rfl) (fun K hK => ?_)
       refine step_append_s SD5.out (rs.length + 1) (at_r (by rfl)) rfl _ _ 29 (by rfl) i0 (.agg #[.string ⟨#[]⟩, .int .i64 0]) 24 Try.underlying29 HF.out.1 HF.out.2.1 HF.out.2.2.1 HF.out.2.2.2 rfl (by omega) l.length (by rfl) rfl (g9 + 1) (some ⟨g9, 0, none⟩) 1 1 1 (cellsF [⟨s, y⟩]) (by rfl) rfl R2.out (by simp) (cellsF_one _) (by have := HT.out.1; unfold maxLen; omega) (by have := HT.out.1; omega) ?_
       intro A2 C2 wq6 hS
       have SD6 := Lib.hid (show Sep W wq6 (rs ++ [boxR w.heap.size 31 #[.slice none 0 0], ownV 128 2 A2 C2 (l.length + 1) (cellsF l ++ cellsF [⟨s, y⟩]), boxR g 31 #[.slice A l.length C]]) from by rw [List.set_append_right _ _ (by omega), Nat.add_sub_cancel_left] at hS; exact take_r hS [0, 1, 2] (by rfl) (by decide))
       clear hS
       refine hK.out _ _ trivial (fun hS => ?_)
       clear hK K
       try simp only [zp0, zp1, zp2, zp3, zp4]
       refine tk 11 rfl ?_
       try simp only [zp0, zp1, zp2, zp3, zp4]
       refine Reg.one_op (i := 12) rfl (by kernel_rfl) (fun K hK => ?_)
       obtain ⟨z0, z1⟩ := one_r SD6.out 2 rfl
       go_simp
       have SD7 := Lib.hid (put_r SD6.out 2 rfl 0 (.slice A2 (l.length + 1) C2))
       clear z0 z1
       refine hK.out _ _ trivial (fun hS => ?_)
       clear hK K
       try simp only [zp0, zp1, zp2, zp3, zp4]
       refine wpAnyH_done (by kernel_rfl) ?_ _
       have hl := Lib.hid (show l.length + 1 = (l ++ [⟨s, y⟩] : List F).length by simp)
       obtain ⟨q0, q0'⟩ := one_r SD7.out 0 rfl
       obtain ⟨r0, r0'⟩ := one_r SD7.out 2 rfl
       go_wp2_with fail
       refine bodyPost_ret (v := .agg #[.slice A2 (l.length + 1) C2]) (by simp [results, Try.results79, go_sem, q0]) rfl ?_
       refine ⟨A2, C2, l ++ [⟨s, y⟩], by rw [← hl.out], (HT.out.app (by omega) y).mono (by omega), ?_⟩
       rw [← hl.out, cellsF_append]
       exact take_r (put_r SD7.out 0 rfl 0 (.slice A2 (l.length + 1) C2)) [1] (by rfl) (by decide)
      refine Reg.cons_op (i := 9) rfl (fun K hK => ?_) ?_
      ·
       go_simp
       have SD5 := Lib.hid (SD4.out.alloc (.cells #[.string s, .int .i64 y] 128))
       have R2 := Lib.hid (reads_two wq4 s y _ rfl 128)
       obtain ⟨g9, hg⟩ : ∃ g', g' = wq4.heap.size := ⟨_, rfl⟩
       rw [← hg] at R2 ⊢
       clear hg
       generalize wq4.alloc (.cells #[.string s, .int .i64 y] 128) = wq5 at SD5 R2 ⊢
       refine hK.out _ _ trivial (fun hS => ?_)
       clear hK K
       try simp only [zp0, zp1, zp2, zp3, zp4]
       refine Reg.one_op (i := 1) rfl (by kernel_rfl) (fun K hK => ?_)
       obtain ⟨r0, r0'⟩ := one_r SD5.out 2 rfl
       go_simp
       clear r0 r0'
       refine hK.out _ _ trivial (fun hS => ?_)
       clear hK K
       try simp only [zp0, zp1, zp2, zp3, zp4]
       refine Reg.one_op (i := 10) rfl (by kernel_rfl) (fun K hK => ?_)
       refine step_append_s SD5.out (rs.length + 1) (at_r (by rfl)) rfl _ _ 29 (by rfl) i0 (.agg #[.string ⟨#[]⟩, .int .i64 0]) 24 Try.underlying29 HF.out.1 HF.out.2.1 HF.out.2.2.1 HF.out.2.2.2 rfl (by omega) l.length (by rfl) rfl (g9 + 1) (some ⟨g9, 0, none⟩) 1 1 1 (cellsF [⟨s, y⟩]) (by rfl) rfl R2.out (by simp) (cellsF_one _) (by have := HT.out.1; unfold maxLen; omega) (by have := HT.out.1; omega) ?_
       intro A2 C2 wq6 hS
       have SD6 := Lib.hid (show Sep W wq6 (rs ++ [boxR w.heap.size 31 #[.slice none 0 0], ownV 128 2 A2 C2 (l.length + 1) (cellsF l ++ cellsF [⟨s, y⟩]), boxR g 31 #[.slice A l.length C]]) from by rw [List.set_append_right _ _ (by omega), Nat.add_sub_cancel_left] at hS; exact take_r hS [0, 1, 2] (by rfl) (by decide))
       clear hS
       refine hK.out _ _ trivial (fun hS => ?_)
       clear hK K
       try simp only [zp0, zp1, zp2, zp3, zp4]
       refine tk 11 rfl ?_
       try simp only [zp0, zp1, zp2, zp3, zp4]
       refine Reg.one_op (i := 12) rfl (by kernel_rfl) (fun K hK => ?_)
       obtain ⟨z0, z1⟩ := one_r SD6.out 2 rfl
       go_simp
       have SD7 := Lib.hid (put_r SD6.out 2 rfl 0 (.slice A2 (l.length + 1) C2))
       clear z0 z1
       refine hK.out _ _ trivial (fun hS => ?_)
       clear hK K
       try simp only [zp0, zp1, zp2, zp3, zp4]
       refine wpAnyH_done (by kernel_rfl) ?_ _
       have hl := Lib.hid (show l.length + 1 = (l ++ [⟨s, y⟩] : List F).length by simp)
       obtain ⟨q0, q0'⟩ := one_r SD7.out 0 rfl
       obtain ⟨r0, r0'⟩ := one_r SD7.out 2 rfl
       go_wp2_with fail
       refine bodyPost_ret (v := .agg #[.slice A2 (l.length + 1) C2]) (by simp [results, Try.results79, go_sem, q0]) rfl ?_
       refine ⟨A2, C2, l ++ [⟨s, y⟩], by rw [← hl.out], (HT.out.app (by omega) y).mono (by omega), ?_⟩
       rw [← hl.out, cellsF_append]
       exact take_r (put_r SD7.out 0 rfl 0 (.slice A2 (l.length + 1) C2)) [1] (by rfl) (by decide)
      exact AllReadyH.nil
     exact AllReadyH.nil
    exact AllReadyH.nil
   exact AllReadyH.nil
  exact AllReadyH.nil
 ·
  have e0' : (x == 0) = false := by simp [e0]
  by_cases e1 : x = 1
  ·
   subst e1
   have S4 := Lib.hid (box_r S3.out 9 #[.string ⟨#[100]⟩, .string ⟨#[101]⟩, .string ⟨#[102]⟩, .string ⟨#[103]⟩, .string ⟨#[104]⟩, .string ⟨#[105]⟩] w2.heap.size rfl)
   go_wp2_with fail
   go_loopw [28] (fun v wr => ∃ j : Nat, j ≤ 6 ∧ v = .int .i64 j ∧ Hid (∃ A C l, Tame l (3 + j) ∧ Sep W wr (rs ++ [boxR w.heap.size 31 #[.slice none 0 0], ownV 128 2 A C l.length (cellsF l), boxR g 31 #[.slice A l.length C], boxR w2.heap.size 9 #[.string ⟨#[100]⟩, .string ⟨#[101]⟩, .string ⟨#[102]⟩, .string ⟨#[103]⟩, .string ⟨#[104]⟩, .string ⟨#[105]⟩]]))) (fun v _ => 6 - (intOf v).toNat)
   case atStart => exact ⟨0, by omega, rfl, A, C, l, HT.out, S4.out⟩
   case round =>
    obtain ⟨j, hj, rfl, hrel⟩ := hrel
    clear S4 S3 HT
    obtain ⟨A, C, l, hT, S⟩ := hrel.out
    have S5 := Lib.hid S
    have HT := Lib.hid hT
    clear S hT hrel
    by_cases hlt : (j : Int) < 6
    ·
     obtain ⟨s, hs0, hs⟩ := six_strs j (by omega)
     have hc : wr.cell? ⟨w2.heap.size, j, none⟩ = some (.string s) := by rw [(box_at S5.out (rs.length + 3) (at_r rfl)).cell]; exact hs0
     obtain ⟨r0, r0'⟩ := one_r S5.out 2 rfl
     have HSet := Lib.hid (specSetField_any A C l s 1 (by have := HT.out.1; omega) HT.out.2 (by omega) wr (own_r S5.out 1 rfl).reads (own_r S5.out 1 rfl).cap (own_zero (own_r S5.out 1 rfl)))
     have HT2 := Lib.hid (HT.out.set (show s.size ≤ 281474976710656 by omega) 1)
     clear hs0
     go_wp2_with fail
     go_at_call 163
     refine HSet.out.mono ?_
     rintro e w4 h8
     obtain ⟨A2, C2, rfl, ho, hb⟩ := h8
     have S6 := Lib.hid (push_r S5.out hb ho)
     clear ho hb r0 r0' hc HSet
     obtain ⟨r0, r0'⟩ := one_r S6.out 2 rfl
     have S7 := Lib.hid (take_r (us := [boxR w.heap.size 31 #[.slice none 0 0], ownV 128 2 A2 C2 (setL l s 1).length (cellsF (setL l s 1)), boxR g 31 #[.slice A2 (setL l s 1).length C2], boxR w2.heap.size 9 #[.string ⟨#[100]⟩, .string ⟨#[101]⟩, .string ⟨#[102]⟩, .string ⟨#[103]⟩, .string ⟨#[104]⟩, .string ⟨#[105]⟩]]) (put_r S6.out 2 rfl 0 (.slice A2 (setL l s 1).length C2)) [0, 4, 2, 3] (by rfl) (by decide))
     go_wp2_with fail
     go_roundw
     case rel => exact ⟨j + 1, by omega, by go_num, A2, C2, setL l s 1, HT2.out, S7.out⟩
     case measure => simp [intOf]; omega
    ·
     obtain rfl : j = 6 := by omega
     obtain ⟨q0, q0'⟩ := one_r S5.out 0 rfl
     obtain ⟨r0, r0'⟩ := one_r S5.out 2 rfl
     go_wp2_with fail
     refine bodyPost_ret (v := .agg #[.slice A l.length C]) (by simp [results, Try.results79, go_sem, q0]) rfl ?_
     exact ⟨A, C, l, rfl, HT.out, take_r (put_r S5.out 0 rfl 0 (.slice A l.length C)) [1] (by rfl) (by decide)⟩
  ·
   have e1' : (x == 1) = false := by simp [e1]
   obtain ⟨q0, q0'⟩ := one_r S3.out 0 rfl
   obtain ⟨r0, r0'⟩ := one_r S3.out 2 rfl
   go_wp2_with fail
   refine bodyPost_ret (v := .agg #[.slice A l.length C]) (by simp [results, Try.results79, go_sem, q0]) rfl ?_
   exact ⟨A, C, l, rfl, HT.out.mono (by omega), take_r (put_r S3.out 0 rfl 0 (.slice A l.length C)) [1] (by rfl) (by decide)⟩
end
end Go.Proofs.Ytojcdmgcbgpdmaa.L5

set_option linter.unusedSimpArgs false
namespace Go.Proofs.Ytojcdmgcbgpdmaa.L6
open L4 (K isK cmpK R inR encU)
open L5 (F isR isN cellsF encR eqR Small Tame)
open Sd (curR)
open Go.ChangeShapes Go.WideShapes Go.ChangeAt Go.RowKit Mem Sl Ex L2 Sv Bag

theorem fitI_of {k : K} {l : List F} (hk : k.text.size ≤ 1099511627776) (hl : Tame l 1000) : FitI ⟨k, l⟩ := ⟨hk, by have := hl.1; show l.length ≤ _; omega, hl.2⟩

set_option maxHeartbeats 16000000 in
theorem l6Store_q {W w : World} {Q : Res} {c : Nat} (nm : ByteArray) (hn : isN nm.data.toList = true) (hn2 : nm.size ≤ 281474976710656) (h : Sl.Sep W w [curR W c, Q]) :
  Calls Try.prog 177 #[.pointer (some ⟨c, 0, none⟩), .string nm] w fun e w' => ∃ y : LS, e = .returned y.v ∧ Nice y.con 256 ∧ Sl.Sep W w' [curR W c, Q, bag y.rows] := by
 have S1 := Lib.hid h
 have HNM := Lib.hid (And.intro hn hn2)
 clear h
 go_enter Try.func177, Try.ntmps177
 go_upto_region 1 with fail
 have S2 := Lib.hid (show Sl.Sep W _ [_, _, _] from L4.push_box S1.out 26 #[.string ⟨#[]⟩, .slice none 0 0, .int .i64 0] w.heap.size rfl)
 clear S1
 obtain ⟨g1, hg⟩ : ∃ g', g' = w.heap.size := ⟨_, rfl⟩
 rw [← hg] at S2 ⊢
 clear hg
 generalize w.alloc (.cells #[.string ⟨#[]⟩, .slice none 0 0, .int .i64 0] 26) = w1 at S2 ⊢
 go_upto_region 2 with fail
 have S3 := Lib.hid (show Sl.Sep W _ [_, _, _, _] from L4.push_box S2.out 26 #[.string nm, .slice none 0 0, .int .i64 0] w1.heap.size rfl)
 clear S2
 obtain ⟨g2, hg⟩ : ∃ g', g' = w1.heap.size := ⟨_, rfl⟩
 rw [← hg] at S3 ⊢
 clear hg
 generalize w1.alloc (.cells #[.string nm, .slice none 0 0, .int .i64 0] 26) = w2 at S3 ⊢
 have S4 := Lib.hid (show Sl.Sep W _ [curR W c, Q, _, L4.boxR g2 26 #[.string nm, .slice none 0 0, .int .i64 0], Bag.bag ((LS.mk nm none 0 [] 0).rows)] from Bag.push_bag S3.out (Below.refl _ _) (Bag.BagOwn.one (OwnV.nil _ _ _ _)))
 clear S3
 go_wp2_with fail
 go_at_call 162
 refine (Sd.int_sg S4.out 0 rfl [0, 2, 4, 6] (fun n => 0 ≤ n ∧ n ≤ 6) (by decide) 4 rfl (by decide) (by decide) _ rfl).mono ?_
 rintro e w3 ⟨n0, rfl, hn0, hS⟩
 have S5 := Lib.hid (show Sl.Sep W _ [curR W c, Q, _, _, _] from hS)
 clear S4
 clear hS
 try dsimp only [L4.K.v, L4.R.v, LS.v, LS.cells]
 obtain ⟨hn0, hn1⟩ := hn0
 go_wp2_with fail
 go_loopw [6] (fun i wr => ∃ (n : Int) (y : LS), i = .int .i64 n ∧ 0 ≤ n ∧ n ≤ 6 ∧ Hid (Nice y.con 256 ∧ Sl.Sep W wr [curR W c, Q, L4.boxR g1 26 #[.string ⟨#[]⟩, .slice none 0 0, .int .i64 0], L4.boxR g2 26 #[.string y.name, .slice y.a y.xs.length y.c, .int .i64 y.auto], Bag.bag y.rows])) (fun i _ => (intOf i).toNat)
 case atStart => exact ⟨n0, ⟨nm, none, 0, [], 0⟩, rfl, hn0, hn1, And.intro (Nice.start HNM.out.1 HNM.out.2) S5.out⟩
 case round =>
  obtain ⟨n, y, rfl, hn0, hn1, hrel⟩ := hrel
  have HN := Lib.hid hrel.out.1
  have S6 := Lib.hid hrel.out.2
  clear hrel S5
  by_cases hlt : 0 < n
  ·
   skip
   go_upto_region 5 with fail
   refine Reg.wp_region_late (fun w' => True) (fun w' => (w'.cell? ⟨g2, 0, none⟩ = some (.string y.name) ∧ w'.cell? ⟨g2, 1, none⟩ = some (.slice y.a y.xs.length y.c) ∧ w'.cell? ⟨g2, 2, none⟩ = some (.int .i64 y.auto))) 9 (by kernel_rfl) trivial (Bag.cs3 (Bag.drew1 S6.out) 3 rfl) (fun hS hL => ?_)
   have S7 := Lib.hid (Bag.drew1 S6.out)
   clear S6
   generalize World.drew _ = w4 at hS hL S7 ⊢
   refine Reg.early_op (i := 0) (v := ?_) rfl (by kernel_rfl) (by kernel_rfl) (by kernel_rfl) rfl (by kernel_rfl) (by kernel_rfl) (fun _ _ _ h => h) (by rfl) ?_ hS hL ?_
   rotate_left
   ·
    (intro w hSw hSv; (try dsimp only at hSw); (try dsimp only at hSv); go_simp; try with_reducible rfl)
   try simp only [zp0, zp1, zp2, zp3, zp4]
   refine Reg.early_op (i := 1) (v := ?_) rfl (by kernel_rfl) (by kernel_rfl) (by kernel_rfl) rfl (by kernel_rfl) (by kernel_rfl) (fun _ _ _ h => h) (by rfl) ?_ hS hL ?_
   rotate_left
   ·
    (intro w hSw hSv; (try dsimp only at hSw); (try dsimp only at hSv); go_simp; try with_reducible rfl)
   try simp only [zp0, zp1, zp2, zp3, zp4]
   refine Reg.early_op (i := 3) (v := ?_) rfl (by kernel_rfl) (by kernel_rfl) (by kernel_rfl) rfl (by kernel_rfl) (by kernel_rfl) (fun _ _ _ h => h) (by rfl) ?_ hS hL ?_
   rotate_left
   ·
    (intro w hSw hSv; (try dsimp only at hSw); (try dsimp only at hSv); go_simp; try with_reducible rfl)
   try simp only [zp0, zp1, zp2, zp3, zp4]
   refine Reg.only_op (i := 2) rfl (by kernel_rfl) (fun K hK => ?_)
   go_simp
   go_at_call 158
   refine (Sd.small_n S7.out 0 rfl).mono ?_
   rintro e w5 ⟨k, rfl, hk, hS⟩
   have S8 := Lib.hid (show Sl.Sep W _ [curR W c, Q, _, _, _] from hS)
   clear S7
   clear hS
   try dsimp only [L4.K.v, L4.R.v, LS.v, LS.cells]
   have HK := Lib.hid hk
   clear hk
   go_wp2_with fail
   clear hL
   refine hK.out _ _ trivial (Bag.cs3 S8.out 3 rfl) (fun hS hL => ?_)
   clear hK K
   try simp only [zp0, zp1, zp2, zp3, zp4]
   refine Reg.only_op (i := 4) rfl (by kernel_rfl) (fun K hK => ?_)
   go_simp
   go_at_call 159
   refine (L5.rec_s S8.out 0 rfl).mono ?_
   rintro e w6 ⟨A, C, l, rfl, hl, hS⟩
   have S9 := Lib.hid (show Sl.Sep W _ [curR W c, Q, _, _, _, Sv.ownV 128 2 A C l.length (cellsF l)] from hS)
   clear S8
   clear hS
   try dsimp only [L4.K.v, L4.R.v, LS.v, LS.cells]
   have HL := Lib.hid hl
   clear hl
   go_wp2_with fail
   clear hL
   refine hK.out _ _ trivial (Bag.cs3 S9.out 3 rfl) (fun hS hL => ?_)
   clear hK K
   try simp only [zp0, zp1, zp2, zp3, zp4]
   refine Reg.only_op (i := 5) rfl (by kernel_rfl) (fun K hK => ?_)
   go_simp
   have HC := specPutItem_any y k A C l HN.out.fit (by have := HK.out.2.1; omega) (by have := HL.out.1; omega) HL.out.2 _ (Bag.bag_rd S9.out 4 rfl) (Sv.own_at S9.out 5 rfl).reads
   dsimp only [LS.v, LS.cells, L4.K.v] at HC
   go_at_call 19
   refine HC.mono ?_
   clear HC
   rintro e w7 ⟨z, rfl, hcon, ho, hb⟩
   have S10 := Lib.hid (show Sl.Sep W _ [curR W c, Q, _, _, _, _, Bag.bag z.rows] from Bag.push_bag S9.out hb ho)
   clear S9
   clear ho hb
   try dsimp only [LS.v, LS.cells]
   have HZ := Lib.hid (show Nice z.con 256 from by rw [hcon]; exact HN.out.put HK.out.2.2 (fitI_of (by have := HK.out.2.1; omega) (HL.out.mono (by omega))))
   clear hcon
   go_wp2_with fail
   clear hL
   refine hK.out _ _ trivial (Bag.cs3 S10.out 3 rfl) (fun hS hL => ?_)
   clear hK K
   try simp only [zp0, zp1, zp2, zp3, zp4]
   refine Reg.early_op (i := 6) (v := ?_) rfl (by kernel_rfl) (by kernel_rfl) (by kernel_rfl) rfl (by kernel_rfl) (by kernel_rfl) (fun _ _ _ h => h) (by rfl) ?_ hS hL ?_
   rotate_left
   ·
    (intro w hSw hSv; (try dsimp only at hSw); (try dsimp only at hSv); go_simp; try with_reducible rfl)
   try simp only [zp0, zp1, zp2, zp3, zp4]
   refine Reg.early_op (i := 7) (v := ?_) rfl (by kernel_rfl) (by kernel_rfl) (by kernel_rfl) rfl (by kernel_rfl) (by kernel_rfl) (fun _ _ _ h => h) (by rfl) ?_ hS hL ?_
   rotate_left
   ·
    (intro w hSw hSv; (try dsimp only at hSw); (try dsimp only at hSv); go_simp; try with_reducible rfl)
   try simp only [zp0, zp1, zp2, zp3, zp4]
   refine Reg.plain_op (i := 8) (v := ?_) rfl (by kernel_rfl) (by kernel_rfl) (by kernel_rfl) rfl (fun _ _ _ h => h) (by rfl) ?_ hS (fun _ => hL) ?_
   rotate_left
   ·
    (intro w hSw; (try dsimp only at hSw); go_simp; try with_reducible rfl)
   try simp only [zp0, zp1, zp2, zp3, zp4]
   refine Reg.late_op (i := 9) rfl (by kernel_rfl) rfl (fun K hK => ?_)
   obtain ⟨f0, f1, f2⟩ := Bag.cs3 S10.out 3 rfl
   obtain ⟨z0, z1, z2⟩ := Bag.fs3 S10.out 3 rfl
   go_simp
   clear f0 f1 f2 z0 z1 z2
   have S11 := Lib.hid (show Sl.Sep W _ [curR W c, Q, _, L4.boxR g2 26 #[.string z.name, .slice z.a z.xs.length z.c, .int .i64 z.auto], _, _, _] from L5.put_box5 (L5.put_box5 (L5.put_box5 (S10.out) 3 rfl 0 (.string z.name)) 3 rfl 1 (.slice z.a z.xs.length z.c)) 3 rfl 2 (.int .i64 z.auto))
   clear S10
   refine hK.out _ _ trivial (fun hS => ?_)
   clear hL
   clear hK K
   try simp only [zp0, zp1, zp2, zp3, zp4]
   refine Reg.anyL_done (by kernel_rfl) ?_ _
   obtain ⟨f0, f1, f2⟩ := Bag.cs3 S11.out 2 rfl
   obtain ⟨f3, f4, f5⟩ := Bag.cs3 S11.out 3 rfl
   clear f0 f1 f2 f3 f4 f5
   have S12 := Lib.hid (show Sl.Sep W _ [curR W c, Q, _, _, _] from Bag.take S11.out [0, 1, 2, 3, 6] (by rfl) (by decide))
   clear S11
   go_wp2_with fail
   go_roundw
   case rel => exact ⟨n - 1, z, by go_num, by omega, by omega, And.intro HZ.out S12.out⟩
   case measure => simp [intOf]; omega
  ·
   skip
   go_wp2_with fail
   go_at_call 156
   refine (Sd.once_s S6.out 0 rfl _ (by decide) (by decide)).mono ?_
   rintro e w4 ⟨b, rfl, hS⟩
   have S7 := Lib.hid (show Sl.Sep W _ [curR W c, Q, _, L4.boxR g2 26 #[.string y.name, .slice y.a y.xs.length y.c, .int .i64 y.auto], Bag.bag y.rows] from hS)
   clear S6
   clear hS
   try dsimp only [L4.K.v, L4.R.v, LS.v, LS.cells]
   cases b with
   | false =>
    obtain ⟨f0, f1, f2⟩ := Bag.cs3 S7.out 3 rfl
    clear f0 f1 f2
    obtain ⟨f0, f1, f2⟩ := Bag.cs3 S7.out 2 rfl
    obtain ⟨f3, f4, f5⟩ := Bag.cs3 S7.out 3 rfl
    obtain ⟨z0, z1, z2⟩ := Bag.fs3 S7.out 2 rfl
    go_wp2_with fail
    clear f0 f1 f2 f3 f4 f5 z0 z1 z2
    have S8 := Lib.hid (show Sl.Sep W _ [curR W c, Q, L4.boxR g1 26 #[.string y.name, .slice y.a y.xs.length y.c, .int .i64 y.auto], _, _] from L5.put_box5 (L5.put_box5 (L5.put_box5 (S7.out) 2 rfl 0 (.string y.name)) 2 rfl 1 (.slice y.a y.xs.length y.c)) 2 rfl 2 (.int .i64 y.auto))
    clear S7
    obtain ⟨f0, f1, f2⟩ := Bag.cs3 S8.out 2 rfl
    refine bodyPost_ret (v := .agg #[.string y.name, .slice y.a y.xs.length y.c, .int .i64 y.auto]) (by simp [results, Try.results177, go_sem, *]) rfl ?_
    clear f0 f1 f2
    have S9 := Lib.hid (show Sl.Sep W _ [curR W c, Q, _] from Bag.take S8.out [0, 1, 4] (by rfl) (by decide))
    clear S8
    exact ⟨y, rfl, HN.out, S9.out⟩
   | true =>
    go_upto_region 7 with fail
    refine Reg.wp_region_late (fun w' => True) (fun w' => (w'.cell? ⟨g2, 0, none⟩ = some (.string y.name) ∧ w'.cell? ⟨g2, 1, none⟩ = some (.slice y.a y.xs.length y.c) ∧ w'.cell? ⟨g2, 2, none⟩ = some (.int .i64 y.auto))) 9 (by kernel_rfl) trivial (Bag.cs3 (Bag.drew1 S7.out) 3 rfl) (fun hS hL => ?_)
    have S8 := Lib.hid (Bag.drew1 S7.out)
    clear S7
    generalize World.drew _ = w5 at hS hL S8 ⊢
    refine Reg.early_op (i := 0) (v := ?_) rfl (by kernel_rfl) (by kernel_rfl) (by kernel_rfl) rfl (by kernel_rfl) (by kernel_rfl) (fun _ _ _ h => h) (by rfl) ?_ hS hL ?_
    rotate_left
    ·
     (intro w hSw hSv; (try dsimp only at hSw); (try dsimp only at hSv); go_simp; try with_reducible rfl)
    try simp only [zp0, zp1, zp2, zp3, zp4]
    refine Reg.early_op (i := 1) (v := ?_) rfl (by kernel_rfl) (by kernel_rfl) (by kernel_rfl) rfl (by kernel_rfl) (by kernel_rfl) (fun _ _ _ h => h) (by rfl) ?_ hS hL ?_
    rotate_left
    ·
     (intro w hSw hSv; (try dsimp only at hSw); (try dsimp only at hSv); go_simp; try with_reducible rfl)
    try simp only [zp0, zp1, zp2, zp3, zp4]
    refine Reg.early_op (i := 3) (v := ?_) rfl (by kernel_rfl) (by kernel_rfl) (by kernel_rfl) rfl (by kernel_rfl) (by kernel_rfl) (fun _ _ _ h => h) (by rfl) ?_ hS hL ?_
    rotate_left
    ·
     (intro w hSw hSv; (try dsimp only at hSw); (try dsimp only at hSv); go_simp; try with_reducible rfl)
    try simp only [zp0, zp1, zp2, zp3, zp4]
    refine Reg.only_op (i := 2) rfl (by kernel_rfl) (fun K hK => ?_)
    go_simp
    go_at_call 207
    refine (Sd.key_n S8.out 0 rfl).mono ?_
    rintro e w6 ⟨k, rfl, hk, hS⟩
    have S9 := Lib.hid (show Sl.Sep W _ [curR W c, Q, _, _, _] from hS)
    clear S8
    clear hS
    try dsimp only [L4.K.v, L4.R.v, LS.v, LS.cells]
    have HK := Lib.hid hk
    clear hk
    go_wp2_with fail
    clear hL
    refine hK.out _ _ trivial (Bag.cs3 S9.out 3 rfl) (fun hS hL => ?_)
    clear hK K
    try simp only [zp0, zp1, zp2, zp3, zp4]
    refine Reg.only_op (i := 4) rfl (by kernel_rfl) (fun K hK => ?_)
    go_simp
    go_at_call 159
    refine (L5.rec_s S9.out 0 rfl).mono ?_
    rintro e w7 ⟨A, C, l, rfl, hl, hS⟩
    have S10 := Lib.hid (show Sl.Sep W _ [curR W c, Q, _, _, _, Sv.ownV 128 2 A C l.length (cellsF l)] from hS)
    clear S9
    clear hS
    try dsimp only [L4.K.v, L4.R.v, LS.v, LS.cells]
    have HL := Lib.hid hl
    clear hl
    go_wp2_with fail
    clear hL
    refine hK.out _ _ trivial (Bag.cs3 S10.out 3 rfl) (fun hS hL => ?_)
    clear hK K
    try simp only [zp0, zp1, zp2, zp3, zp4]
    refine Reg.only_op (i := 5) rfl (by kernel_rfl) (fun K hK => ?_)
    go_simp
    have HC := specPutItem_any y k A C l HN.out.fit (by have := HK.out.2.1; omega) (by have := HL.out.1; omega) HL.out.2 _ (Bag.bag_rd S10.out 4 rfl) (Sv.own_at S10.out 5 rfl).reads
    dsimp only [LS.v, LS.cells, L4.K.v] at HC
    go_at_call 19
    refine HC.mono ?_
    clear HC
    rintro e w8 ⟨z, rfl, hcon, ho, hb⟩
    have S11 := Lib.hid (show Sl.Sep W _ [curR W c, Q, _, _, _, _, Bag.bag z.rows] from Bag.push_bag S10.out hb ho)
    clear S10
    clear ho hb
    try dsimp only [LS.v, LS.cells]
    have HZ := Lib.hid (show Nice z.con 256 from by rw [hcon]; exact HN.out.put HK.out.2.2 (fitI_of (by have := HK.out.2.1; omega) (HL.out.mono (by omega))))
    clear hcon
    go_wp2_with fail
    clear hL
    refine hK.out _ _ trivial (Bag.cs3 S11.out 3 rfl) (fun hS hL => ?_)
    clear hK K
    try simp only [zp0, zp1, zp2, zp3, zp4]
    refine Reg.early_op (i := 6) (v := ?_) rfl (by kernel_rfl) (by kernel_rfl) (by kernel_rfl) rfl (by kernel_rfl) (by kernel_rfl) (fun _ _ _ h => h) (by rfl) ?_ hS hL ?_
    rotate_left
    ·
     (intro w hSw hSv; (try dsimp only at hSw); (try dsimp only at hSv); go_simp; try with_reducible rfl)
    try simp only [zp0, zp1, zp2, zp3, zp4]
    refine Reg.early_op (i := 7) (v := ?_) rfl (by kernel_rfl) (by kernel_rfl) (by kernel_rfl) rfl (by kernel_rfl) (by kernel_rfl) (fun _ _ _ h => h) (by rfl) ?_ hS hL ?_
    rotate_left
    ·
     (intro w hSw hSv; (try dsimp only at hSw); (try dsimp only at hSv); go_simp; try with_reducible rfl)
    try simp only [zp0, zp1, zp2, zp3, zp4]
    refine Reg.plain_op (i := 8) (v := ?_) rfl (by kernel_rfl) (by kernel_rfl) (by kernel_rfl) rfl (fun _ _ _ h => h) (by rfl) ?_ hS (fun _ => hL) ?_
    rotate_left
    ·
     (intro w hSw; (try dsimp only at hSw); go_simp; try with_reducible rfl)
    try simp only [zp0, zp1, zp2, zp3, zp4]
    refine Reg.late_op (i := 9) rfl (by kernel_rfl) rfl (fun K hK => ?_)
    obtain ⟨f0, f1, f2⟩ := Bag.cs3 S11.out 3 rfl
    obtain ⟨z0, z1, z2⟩ := Bag.fs3 S11.out 3 rfl
    go_simp
    clear f0 f1 f2 z0 z1 z2
    have S12 := Lib.hid (show Sl.Sep W _ [curR W c, Q, _, L4.boxR g2 26 #[.string z.name, .slice z.a z.xs.length z.c, .int .i64 z.auto], _, _, _] from L5.put_box5 (L5.put_box5 (L5.put_box5 (S11.out) 3 rfl 0 (.string z.name)) 3 rfl 1 (.slice z.a z.xs.length z.c)) 3 rfl 2 (.int .i64 z.auto))
    clear S11
    refine hK.out _ _ trivial (fun hS => ?_)
    clear hL
    clear hK K
    try simp only [zp0, zp1, zp2, zp3, zp4]
    refine Reg.anyL_done (by kernel_rfl) ?_ _
    obtain ⟨f0, f1, f2⟩ := Bag.cs3 S12.out 2 rfl
    obtain ⟨f3, f4, f5⟩ := Bag.cs3 S12.out 3 rfl
    clear f0 f1 f2 f3 f4 f5
    have S13 := Lib.hid (show Sl.Sep W _ [curR W c, Q, _, _, _] from Bag.take S12.out [0, 1, 2, 3, 6] (by rfl) (by decide))
    clear S12
    obtain ⟨f0, f1, f2⟩ := Bag.cs3 S13.out 3 rfl
    clear f0 f1 f2
    obtain ⟨f0, f1, f2⟩ := Bag.cs3 S13.out 2 rfl
    obtain ⟨f3, f4, f5⟩ := Bag.cs3 S13.out 3 rfl
    obtain ⟨z0, z1, z2⟩ := Bag.fs3 S13.out 2 rfl
    go_wp2_with fail
    clear f0 f1 f2 f3 f4 f5 z0 z1 z2
    have S14 := Lib.hid (show Sl.Sep W _ [curR W c, Q, L4.boxR g1 26 #[.string z.name, .slice z.a z.xs.length z.c, .int .i64 z.auto], _, _] from L5.put_box5 (L5.put_box5 (L5.put_box5 (S13.out) 2 rfl 0 (.string z.name)) 2 rfl 1 (.slice z.a z.xs.length z.c)) 2 rfl 2 (.int .i64 z.auto))
    clear S13
    obtain ⟨f0, f1, f2⟩ := Bag.cs3 S14.out 2 rfl
    refine bodyPost_ret (v := .agg #[.string z.name, .slice z.a z.xs.length z.c, .int .i64 z.auto]) (by simp [results, Try.results177, go_sem, *]) rfl ?_
    clear f0 f1 f2
    have S15 := Lib.hid (show Sl.Sep W _ [curR W c, Q, _] from Bag.take S14.out [0, 1, 4] (by rfl) (by decide))
    clear S14
    exact ⟨z, rfl, HZ.out, S15.out⟩

def lenOf (w : World) (g : Nat) : Nat := match w.cell? ⟨g, 1, none⟩ with
 | some (.slice _ n _) => n
 | _ => 0
theorem lenOf_at {w : World} {g : Nat} {a : Option Addr} {n c : Nat} (h : w.cell? ⟨g, 1, none⟩ = some (.slice a n c)) : lenOf w g = n := by unfold lenOf; rw [h]
theorem Nice.more {s : S6} {b c : Int} (h : Nice s b) (hb : b ≤ c) : Nice s c := ⟨h.valid, h.cov, Int.le_trans h.auto hb, h.fit⟩
theorem small_nil : Small [] := fun f hf => by cases hf

set_option maxHeartbeats 16000000 in
theorem l6Any_q {W w : World} {Q : Res} {c : Nat} (h : Sl.Sep W w [curR W c, Q]) :
  Calls Try.prog 102 #[.pointer (some ⟨c, 0, none⟩)] w fun e w' => ∃ y : LS, e = .returned y.v ∧ FitS y.con ∧ Sl.Sep W w' [curR W c, Q, bag y.rows] := by
 obtain ⟨i0, hi1, hi2, hi3, hi4⟩ := itemInfo
 have HI := Lib.hid (And.intro hi1 (And.intro hi2 (And.intro hi3 hi4)))
 clear hi1 hi2 hi3 hi4
 have S1 := Lib.hid h
 clear h
 go_enter Try.func102, Try.ntmps102
 go_upto_region 1 with fail
 have S2 := Lib.hid (show Sl.Sep W _ [_, _, _] from L4.push_box S1.out 26 #[.string ⟨#[]⟩, .slice none 0 0, .int .i64 0] w.heap.size rfl)
 clear S1
 obtain ⟨g1, hg⟩ : ∃ g', g' = w.heap.size := ⟨_, rfl⟩
 rw [← hg] at S2 ⊢
 clear hg
 generalize w.alloc (.cells #[.string ⟨#[]⟩, .slice none 0 0, .int .i64 0] 26) = w1 at S2 ⊢
 have HC := l6Store_q ⟨#[110, 111, 116, 101, 115]⟩ (by decide) (by decide) (Run.packR (us := [curR W c]) (vs := [Q, L4.boxR g1 26 #[.string ⟨#[]⟩, .slice none 0 0, .int .i64 0]]) S2.out)
 go_wp2_with fail
 go_at_call 177
 refine HC.mono ?_
 clear HC
 rintro e w2 ⟨y, rfl, hN, hS⟩
 have HN := Lib.hid hN
 clear hN
 have hlen : y.xs.length ≤ 16 := by have := (isS_iff.1 HN.out.valid).2.2.1; simpa [LS.con] using this
 have S3 := Lib.hid (show Sl.Sep W _ [curR W c, Bag.bag y.rows, Q, L4.boxR g1 26 #[.string ⟨#[]⟩, .slice none 0 0, .int .i64 0]] from Run.unpackR (us := [curR W c, Bag.bag y.rows]) (vs := [Q, L4.boxR g1 26 #[.string ⟨#[]⟩, .slice none 0 0, .int .i64 0]]) (Bag.take hS [0, 2, 1] (by rfl) (by decide)))
 clear S2
 clear hS
 dsimp only [LS.v, LS.cells]
 go_upto_region 2 with fail
 have S4 := Lib.hid (show Sl.Sep W _ [_, _, _, _, _] from L4.push_box S3.out 26 #[.string y.name, .slice y.a y.xs.length y.c, .int .i64 y.auto] w2.heap.size rfl)
 clear S3
 obtain ⟨g2, hg⟩ : ∃ g', g' = w2.heap.size := ⟨_, rfl⟩
 rw [← hg] at S4 ⊢
 clear hg
 generalize w2.alloc (.cells #[.string y.name, .slice y.a y.xs.length y.c, .int .i64 y.auto] 26) = w3 at S4 ⊢
 have S5 := Lib.hid (show Sl.Sep W _ [curR W c, Q, _, L4.boxR g2 26 #[.string y.name, .slice y.a y.xs.length y.c, .int .i64 y.auto], _] from Bag.take S4.out [0, 2, 3, 4, 1] (by rfl) (by decide))
 clear S4
 go_wp2_with fail
 go_at_call 160
 refine (Sd.below_s S5.out 0 rfl _ (by decide) (by decide)).mono ?_
 rintro e w4 ⟨x, rfl, ⟨hx0, hx1⟩, hS⟩
 have S6 := Lib.hid (show Sl.Sep W _ [curR W c, Q, _, _, _] from hS)
 clear S5
 clear hS
 try dsimp only [L4.K.v, L4.R.v, LS.v, LS.cells]
 by_cases h0 : x = 0
 ·
  subst h0
  go_wp2_with fail
  go_at_call 161
  refine (Sd.str_sg S6.out 0 rfl [⟨#[]⟩, ⟨#[81]⟩, ⟨#[97, 98, 99, 100, 101, 102, 103, 104, 105]⟩] (fun s => s.size ≤ 9) (by decide) 3 rfl (by decide) (by decide) _ rfl).mono ?_
  rintro e w5 ⟨s, rfl, hs, hS⟩
  have S7 := Lib.hid (show Sl.Sep W _ [curR W c, Q, _, _, _] from hS)
  clear S6
  clear hS
  try dsimp only [L4.K.v, L4.R.v, LS.v, LS.cells]
  obtain ⟨f0, f1, f2⟩ := Bag.cs3 S7.out 3 rfl
  obtain ⟨z0, z1, z2⟩ := Bag.fs3 S7.out 3 rfl
  go_upto_region 12 with fail
  clear f0 f1 f2 z0 z1 z2
  have S8 := Lib.hid (show Sl.Sep W _ [curR W c, Q, _, L4.boxR g2 26 #[.string s, .slice y.a y.xs.length y.c, .int .i64 y.auto], _] from L5.put_box5 (S7.out) 3 rfl 0 (.string s))
  clear S7
  obtain ⟨f0, f1, f2⟩ := Bag.cs3 S8.out 3 rfl
  clear f0 f1 f2
  obtain ⟨f0, f1, f2⟩ := Bag.cs3 S8.out 2 rfl
  obtain ⟨f3, f4, f5⟩ := Bag.cs3 S8.out 3 rfl
  obtain ⟨z0, z1, z2⟩ := Bag.fs3 S8.out 2 rfl
  go_wp2_with fail
  clear f0 f1 f2 f3 f4 f5 z0 z1 z2
  have S9 := Lib.hid (show Sl.Sep W _ [curR W c, Q, L4.boxR g1 26 #[.string s, .slice y.a y.xs.length y.c, .int .i64 y.auto], _, _] from L5.put_box5 (L5.put_box5 (L5.put_box5 (S8.out) 2 rfl 0 (.string s)) 2 rfl 1 (.slice y.a y.xs.length y.c)) 2 rfl 2 (.int .i64 y.auto))
  clear S8
  obtain ⟨f0, f1, f2⟩ := Bag.cs3 S9.out 2 rfl
  refine bodyPost_ret (v := .agg #[.string s, .slice y.a y.xs.length y.c, .int .i64 y.auto]) (by simp [results, Try.results102, go_sem, *]) rfl ?_
  clear f0 f1 f2
  have S10 := Lib.hid (show Sl.Sep W _ [curR W c, Q, _] from Bag.take S9.out [0, 1, 4] (by rfl) (by decide))
  clear S9
  exact ⟨⟨s, y.a, y.c, y.xs, y.auto⟩, rfl, ⟨by show s.size ≤ _; omega, HN.out.fit.len, HN.out.fit.items⟩, S10.out⟩
 by_cases h1 : x = 1
 ·
  subst h1
  go_wp2_with fail
  go_at_call 162
  refine (Sd.int_sg S6.out 0 rfl [-1, 999999, 1000000, 1000001] (fun n => -1 ≤ n) (by decide) 4 rfl (by decide) (by decide) _ rfl).mono ?_
  rintro e w5 ⟨n0, rfl, hn0, hS⟩
  have S7 := Lib.hid (show Sl.Sep W _ [curR W c, Q, L4.boxR g1 26 #[.string ⟨#[]⟩, .slice none 0 0, .int .i64 0], L4.boxR g2 26 #[.string y.name, .slice y.a y.xs.length y.c, .int .i64 y.auto], Bag.bag y.rows] from hS)
  clear S6
  clear hS
  try dsimp only [L4.K.v, L4.R.v, LS.v, LS.cells]
  obtain ⟨f0, f1, f2⟩ := Bag.cs3 S7.out 3 rfl
  obtain ⟨z0, z1, z2⟩ := Bag.fs3 S7.out 3 rfl
  go_upto_region 12 with fail
  clear f0 f1 f2 z0 z1 z2
  have S8 := Lib.hid (show Sl.Sep W _ [curR W c, Q, _, L4.boxR g2 26 #[.string y.name, .slice y.a y.xs.length y.c, .int .i64 n0], _] from L5.put_box5 (S7.out) 3 rfl 2 (.int .i64 n0))
  clear S7
  obtain ⟨f0, f1, f2⟩ := Bag.cs3 S8.out 3 rfl
  clear f0 f1 f2
  obtain ⟨f0, f1, f2⟩ := Bag.cs3 S8.out 2 rfl
  obtain ⟨f3, f4, f5⟩ := Bag.cs3 S8.out 3 rfl
  obtain ⟨z0, z1, z2⟩ := Bag.fs3 S8.out 2 rfl
  go_wp2_with fail
  clear f0 f1 f2 f3 f4 f5 z0 z1 z2
  have S9 := Lib.hid (show Sl.Sep W _ [curR W c, Q, L4.boxR g1 26 #[.string y.name, .slice y.a y.xs.length y.c, .int .i64 n0], _, _] from L5.put_box5 (L5.put_box5 (L5.put_box5 (S8.out) 2 rfl 0 (.string y.name)) 2 rfl 1 (.slice y.a y.xs.length y.c)) 2 rfl 2 (.int .i64 n0))
  clear S8
  obtain ⟨f0, f1, f2⟩ := Bag.cs3 S9.out 2 rfl
  refine bodyPost_ret (v := .agg #[.string y.name, .slice y.a y.xs.length y.c, .int .i64 n0]) (by simp [results, Try.results102, go_sem, *]) rfl ?_
  clear f0 f1 f2
  have S10 := Lib.hid (show Sl.Sep W _ [curR W c, Q, _] from Bag.take S9.out [0, 1, 4] (by rfl) (by decide))
  clear S9
  exact ⟨⟨y.name, y.a, y.c, y.xs, n0⟩, rfl, ⟨HN.out.fit.name, HN.out.fit.len, HN.out.fit.items⟩, S10.out⟩
 by_cases h2 : x = 2
 ·
  subst h2
  go_upto_region 8 with fail
  refine Reg.wp_region_late (fun w' => True) (fun w' => (w'.cell? ⟨g2, 0, none⟩ = some (.string y.name) ∧ w'.cell? ⟨g2, 1, none⟩ = some (.slice y.a y.xs.length y.c) ∧ w'.cell? ⟨g2, 2, none⟩ = some (.int .i64 y.auto))) 10 (by kernel_rfl) trivial (Bag.cs3 (Bag.drew1 S6.out) 3 rfl) (fun hS hL => ?_)
  have S7 := Lib.hid (Bag.drew1 S6.out)
  clear S6
  generalize World.drew _ = w5 at hS hL S7 ⊢
  refine Reg.early_op (i := 0) (v := ?_) rfl (by kernel_rfl) (by kernel_rfl) (by kernel_rfl) rfl (by kernel_rfl) (by kernel_rfl) (fun _ _ _ h => h) (by rfl) ?_ hS hL ?_
  rotate_left
  ·
   (intro w hSw hSv; (try dsimp only at hSw); (try dsimp only at hSv); go_simp; try with_reducible rfl)
  try simp only [zp0, zp1, zp2, zp3, zp4]
  refine Reg.early_op (i := 1) (v := ?_) rfl (by kernel_rfl) (by kernel_rfl) (by kernel_rfl) rfl (by kernel_rfl) (by kernel_rfl) (fun _ _ _ h => h) (by rfl) ?_ hS hL ?_
  rotate_left
  ·
   (intro w hSw hSv; (try dsimp only at hSw); (try dsimp only at hSv); go_simp; try with_reducible rfl)
  try simp only [zp0, zp1, zp2, zp3, zp4]
  refine Reg.early_op (i := 2) (v := ?_) rfl (by kernel_rfl) (by kernel_rfl) (by kernel_rfl) rfl (by kernel_rfl) (by kernel_rfl) (fun _ _ _ h => h) (by rfl) ?_ hS hL ?_
  rotate_left
  ·
   (intro w hSw hSv; (try dsimp only at hSw); (try dsimp only at hSv); go_simp; try with_reducible rfl)
  try simp only [zp0, zp1, zp2, zp3, zp4]
  refine Reg.early_op (i := 4) (v := ?_) rfl (by kernel_rfl) (by kernel_rfl) (by kernel_rfl) rfl (by kernel_rfl) (by kernel_rfl) (fun _ _ _ h => h) (by rfl) ?_ hS hL ?_
  rotate_left
  ·
   (intro w hSw hSv; (try dsimp only at hSw); (try dsimp only at hSv); go_simp; try with_reducible rfl)
  try simp only [zp0, zp1, zp2, zp3, zp4]
  refine Reg.only_op (i := 3) rfl (by kernel_rfl) (fun K hK => ?_)
  go_simp
  go_at_call 157
  refine (Sd.any_s S7.out 0 rfl).mono ?_
  rintro e w6 ⟨⟨kd, n, t⟩, rfl, hk, hS⟩
  have S8 := Lib.hid (show Sl.Sep W _ [curR W c, Q, _, _, _] from hS)
  clear S7
  clear hS
  try dsimp only [L4.K.v, L4.R.v, LS.v, LS.cells]
  have HK := Lib.hid hk
  clear hk
  go_wp2_with fail
  clear hL
  refine hK.out _ _ trivial (Bag.cs3 S8.out 3 rfl) (fun hS hL => ?_)
  clear hK K
  try simp only [zp0, zp1, zp2, zp3, zp4]
  refine Reg.only_op (i := 5) rfl (by kernel_rfl) (fun K hK => ?_)
  go_simp
  go_at_call 79
  refine (L5.any_s S8.out 0 rfl).mono ?_
  rintro e w7 ⟨a1, c1, l, rfl, hl, hS⟩
  have S9 := Lib.hid (show Sl.Sep W _ [curR W c, Q, _, _, _, Sv.ownV 128 2 a1 c1 l.length (cellsF l)] from hS)
  clear S8
  clear hS
  try dsimp only [L4.K.v, L4.R.v, LS.v, LS.cells]
  have HL := Lib.hid hl
  clear hl
  go_wp2_with fail
  clear hL
  refine hK.out _ _ trivial (Bag.cs3 S9.out 3 rfl) (fun hS hL => ?_)
  clear hK K
  try simp only [zp0, zp1, zp2, zp3, zp4]
  refine Reg.early_op (i := 6) (v := ?_) rfl (by kernel_rfl) (by kernel_rfl) (by kernel_rfl) rfl (by kernel_rfl) (by kernel_rfl) (fun _ _ _ h => h) (by rfl) ?_ hS hL ?_
  rotate_left
  ·
   (intro w hSw hSv; (try dsimp only at hSw); (try dsimp only at hSv); go_simp; try with_reducible rfl)
  try simp only [zp0, zp1, zp2, zp3, zp4]
  refine Reg.only_op (i := 7) rfl (by kernel_rfl) (fun K hK => ?_)
  go_simp
  have S10 := Lib.hid (show Sl.Sep W _ [curR W c, Q, _, _, _, _, Sv.ownV 40 4 (some ⟨w7.heap.size, 0, none⟩) 1 1 (cellsI [⟨⟨kd, n, t⟩, a1, c1, l⟩])] from Sv.push_own S9.out ((Below.refl _ _).alloc (Nat.le_refl _) _) (OwnV.madeAt w7 40 4 1 w7.heap.size #[.int .i64 kd, .int .i64 n, .string t, .slice a1 l.length c1] rfl (Nat.le_refl _) rfl (by decide)))
  clear S9
  obtain ⟨g3, hg⟩ : ∃ g', g' = w7.heap.size := ⟨_, rfl⟩
  rw [← hg] at S10 ⊢
  clear hg
  generalize w7.alloc (.cells #[.int .i64 kd, .int .i64 n, .string t, .slice a1 l.length c1] 40) = w8 at S10 ⊢
  clear hL
  refine hK.out _ _ trivial (Bag.cs3 S10.out 3 rfl) (fun hS hL => ?_)
  clear hK K
  try simp only [zp0, zp1, zp2, zp3, zp4]
  refine Reg.only_op (i := 8) rfl (by kernel_rfl) (fun K hK => ?_)
  have S11 := Lib.hid (show Sl.Sep W _ [curR W c, Q, _, _, Bag.bag ([rowI y.a y.c y.xs]), _, Sv.ownV 40 4 (some ⟨g3, 0, none⟩) 1 1 (cellsI [⟨⟨kd, n, t⟩, a1, c1, l⟩]), Bag.bag (rowsI y.xs)] from Bag.bag_split S10.out 4 (xs := [rowI y.a y.c y.xs]) (ys := rowsI y.xs) rfl)
  clear S10
  have S12 := Lib.hid (show Sl.Sep W _ [curR W c, Q, _, _, Sv.ownV 40 4 y.a y.c y.xs.length (cellsI y.xs), _, _, _] from Bag.one_of_bag S11.out 4 (r := rowI y.a y.c y.xs) rfl)
  clear S11
  refine Sv.step_append_s S12.out 4 rfl rfl _ _ 24 (by rfl) i0 (.agg #[.int .i64 0, .int .i64 0, .string ⟨#[]⟩, .slice none 0 0]) 56 Try.underlying24 HI.out.1 HI.out.2.1 HI.out.2.2.1 HI.out.2.2.2 rfl (by omega) _ (by rfl) rfl _ _ 1 _ _ (cellsI [⟨⟨kd, n, t⟩, a1, c1, l⟩]) (by rfl) rfl ((Sv.own_at S12.out 6 rfl).reads) rfl (cellsI_one _) (by unfold maxLen; omega) (by omega) ?_
  intro a4' c4' w9 hA
  have S13 := Lib.hid (show Sl.Sep W _ [curR W c, Q, _, _, Sv.ownV 40 4 a4' c4' (y.xs.length + 1) (cellsI y.xs ++ (cellsI [⟨⟨kd, n, t⟩, a1, c1, l⟩])), _, _, _] from hA)
  clear S12
  clear hA
  clear hL
  refine hK.out _ _ trivial (Bag.cs3 S13.out 3 rfl) (fun hS hL => ?_)
  clear hK K
  try simp only [zp0, zp1, zp2, zp3, zp4]
  refine Reg.early_op (i := 9) (v := ?_) rfl (by kernel_rfl) (by kernel_rfl) (by kernel_rfl) rfl (by kernel_rfl) (by kernel_rfl) (fun _ _ _ h => h) (by rfl) ?_ hS hL ?_
  rotate_left
  ·
   (intro w hSw hSv; (try dsimp only at hSw); (try dsimp only at hSv); go_simp; try with_reducible rfl)
  try simp only [zp0, zp1, zp2, zp3, zp4]
  refine Reg.late_op (i := 10) rfl (by kernel_rfl) rfl (fun K hK => ?_)
  obtain ⟨f0, f1, f2⟩ := Bag.cs3 S13.out 3 rfl
  obtain ⟨z0, z1, z2⟩ := Bag.fs3 S13.out 3 rfl
  go_simp
  clear f0 f1 f2 z0 z1 z2
  have S14 := Lib.hid (show Sl.Sep W _ [curR W c, Q, _, L4.boxR g2 26 #[.string y.name, .slice a4' (y.xs.length + 1) c4', .int .i64 y.auto], _, _, _, _] from L5.put_box5 (S13.out) 3 rfl 1 (.slice a4' (y.xs.length + 1) c4'))
  clear S13
  refine hK.out _ _ trivial (fun hS => ?_)
  clear hL
  clear hK K
  try simp only [zp0, zp1, zp2, zp3, zp4]
  refine Reg.anyL_done (by kernel_rfl) ?_ _
  obtain ⟨f0, f1, f2⟩ := Bag.cs3 S14.out 2 rfl
  obtain ⟨f3, f4, f5⟩ := Bag.cs3 S14.out 3 rfl
  clear f0 f1 f2 f3 f4 f5
  have S15 := Lib.hid (show Sl.Sep W _ [curR W c, Q, _, _, _, _, _] from Bag.take S14.out [0, 1, 2, 3, 4, 5, 7] (by rfl) (by decide))
  clear S14
  try dsimp only
  have S16 := Lib.hid (show Sl.Sep W _ [curR W c, Q, _, _, Bag.bag ([rowI a4' c4' (y.xs ++ [⟨⟨kd, n, t⟩, a1, c1, l⟩])]), _, _] from Bag.bag_of_one S15.out 4 (r := rowI a4' c4' (y.xs ++ [⟨⟨kd, n, t⟩, a1, c1, l⟩])) (by show some _ = some _; unfold RowS.res rowI; dsimp only; rw [List.length_append, cellsI_append]; rfl))
  clear S15
  have S17 := Lib.hid (show Sl.Sep W _ [curR W c, Q, _, _, _, Bag.bag ([(LI.mk ⟨kd, n, t⟩ a1 c1 l).row]), _] from Bag.bag_of_one S16.out 5 (r := (LI.mk ⟨kd, n, t⟩ a1 c1 l).row) rfl)
  clear S16
  have S18 := Lib.hid (show Sl.Sep W _ [curR W c, Q, _, _, _, Bag.bag ([]), Bag.bag (rowsI y.xs ++ ([(LI.mk ⟨kd, n, t⟩ a1 c1 l).row]))] from Bag.bag_join S17.out 6 5 (by decide) rfl rfl)
  clear S17
  have S19 := Lib.hid (show Sl.Sep W _ [curR W c, Q, _, _, Bag.bag ([rowI a4' c4' (y.xs ++ [⟨⟨kd, n, t⟩, a1, c1, l⟩])] ++ (rowsI y.xs ++ ([(LI.mk ⟨kd, n, t⟩ a1 c1 l).row]))), Bag.bag ([]), Bag.bag ([])] from Bag.bag_join S18.out 4 6 (by decide) rfl rfl)
  clear S18
  have S20 := Lib.hid (show Sl.Sep W _ [curR W c, Q, _, _, _] from Bag.take S19.out [0, 1, 2, 3, 4] (by rfl) (by decide))
  clear S19
  have S21 := Lib.hid (show Sl.Sep W _ [curR W c, Q, _, _, Bag.bag ((LS.mk y.name a4' c4' (y.xs ++ [⟨⟨kd, n, t⟩, a1, c1, l⟩]) y.auto).rows)] from (by have h := S20.out; rw [show (LS.mk y.name a4' c4' (y.xs ++ [⟨⟨kd, n, t⟩, a1, c1, l⟩]) y.auto).rows = [rowI a4' c4' (y.xs ++ [⟨⟨kd, n, t⟩, a1, c1, l⟩])] ++ (rowsI y.xs ++ [(LI.mk ⟨kd, n, t⟩ a1 c1 l).row]) from by unfold LS.rows; rw [rowsI_append]; rfl]; exact h))
  clear S20
  obtain ⟨f0, f1, f2⟩ := Bag.cs3 S21.out 3 rfl
  clear f0 f1 f2
  obtain ⟨f0, f1, f2⟩ := Bag.cs3 S21.out 2 rfl
  obtain ⟨f3, f4, f5⟩ := Bag.cs3 S21.out 3 rfl
  obtain ⟨z0, z1, z2⟩ := Bag.fs3 S21.out 2 rfl
  go_wp2_with fail
  clear f0 f1 f2 f3 f4 f5 z0 z1 z2
  have S22 := Lib.hid (show Sl.Sep W _ [curR W c, Q, L4.boxR g1 26 #[.string y.name, .slice a4' (y.xs.length + 1) c4', .int .i64 y.auto], _, _] from L5.put_box5 (L5.put_box5 (L5.put_box5 (S21.out) 2 rfl 0 (.string y.name)) 2 rfl 1 (.slice a4' (y.xs.length + 1) c4')) 2 rfl 2 (.int .i64 y.auto))
  clear S21
  obtain ⟨f0, f1, f2⟩ := Bag.cs3 S22.out 2 rfl
  refine bodyPost_ret (v := .agg #[.string y.name, .slice a4' (y.xs.length + 1) c4', .int .i64 y.auto]) (by simp [results, Try.results102, go_sem, *]) rfl ?_
  clear f0 f1 f2
  have S23 := Lib.hid (show Sl.Sep W _ [curR W c, Q, _] from Bag.take S22.out [0, 1, 4] (by rfl) (by decide))
  clear S22
  exact ⟨⟨y.name, a4', c4', y.xs ++ [⟨⟨kd, n, t⟩, a1, c1, l⟩], y.auto⟩, by unfold LS.v LS.cells; dsimp only; rw [List.length_append]; rfl, ⟨HN.out.fit.name, by show (conI (y.xs ++ [_])).length ≤ _; rw [conI_length, List.length_append]; show y.xs.length + 1 ≤ _; omega, fun x hx => by
     have hx' : x ∈ conI y.xs ++ [⟨⟨kd, n, t⟩, l⟩] := by have := hx; unfold LS.con at this; dsimp only at this; rw [conI_snoc] at this; exact this
     rcases List.mem_append.1 hx' with hx | hx
     ·
      exact HN.out.fit.items x hx
     ·
      rw [List.mem_singleton.1 hx]; exact fitI_of (by have := HK.out.2.2.2.2; omega) (HL.out.mono (by omega))⟩, S23.out⟩
 by_cases h3 : x = 3
 ·
  subst h3
  go_wp2_with fail
  go_loopw [] (fun wr => ∃ z : LS, Hid (Nice z.con (256 + (z.xs.length : Int)) ∧ Sl.Sep W wr [curR W c, Q, L4.boxR g1 26 #[.string ⟨#[]⟩, .slice none 0 0, .int .i64 0], L4.boxR g2 26 #[.string z.name, .slice z.a z.xs.length z.c, .int .i64 z.auto], Bag.bag z.rows])) (fun wr => 16 - lenOf wr g2)
  case atStart => exact ⟨y, And.intro (HN.out.more (by omega)) S6.out⟩
  case round =>
   obtain ⟨z, hrel⟩ := hrel
   have HZ := Lib.hid hrel.out.1
   have S7 := Lib.hid hrel.out.2
   clear hrel S6
   have hlz : z.xs.length ≤ 16 := by have := (isS_iff.1 HZ.out.valid).2.2.1; simpa [LS.con] using this
   have HM := Lib.hid (lenOf_at (Bag.cell_at S7.out 3 rfl 1 rfl))
   by_cases hlt : (z.xs.length : Int) < 16
   ·
    skip
    obtain ⟨f0, f1, f2⟩ := Bag.cs3 S7.out 3 rfl
    have HC := specIsStore_any z HZ.out.fit _ (Bag.bag_rd S7.out 4 rfl)
    rw [HZ.out.valid] at HC
    dsimp only [LS.v, LS.cells] at HC
    go_wp2_with fail
    go_at_call 29
    refine HC.mono ?_
    clear HC
    rintro e w5 ⟨rfl, hb⟩
    clear f0 f1 f2
    have S8 := Lib.hid (S7.out.keep hb)
    clear S7
    clear hb
    obtain ⟨f0, f1, f2⟩ := Bag.cs3 S8.out 3 rfl
    obtain ⟨hs1, hs2, hs3⟩ := HZ.out.step (by omega) (by show (conI z.xs).length < 16; rw [conI_length]; omega)
    have HS := Lib.hid (And.intro hs1 (And.intro hs2 hs3))
    clear hs1 hs2 hs3
    have HC := specAutoItem_any z none 0 [] HZ.out.fit (by have : 0 ≤ z.con.auto := (isS_iff.1 HZ.out.valid).2.2.2.1; have : z.con.auto = z.auto := rfl; omega) (by decide) small_nil _ (Bag.bag_rd S8.out 4 rfl) (show Reads _ _ _ (cellsF []) from Reads.nil)
    dsimp only [LS.v, LS.cells, List.length_nil] at HC
    go_wp2_with fail
    go_at_call 25
    refine HC.mono ?_
    clear HC
    rintro e w6 ⟨y', rfl, hcon, ho, hb⟩
    clear f0 f1 f2
    have S9 := Lib.hid (show Sl.Sep W _ [curR W c, Q, _, L4.boxR g2 26 #[.string z.name, .slice z.a z.xs.length z.c, .int .i64 z.auto], Bag.bag z.rows, Bag.bag y'.rows] from Bag.push_bag S8.out hb ho)
    clear S8
    clear ho hb
    dsimp only [LS.v, LS.cells]
    have HCON := Lib.hid hcon
    clear hcon
    obtain ⟨f0, f1, f2⟩ := Bag.cs3 S9.out 3 rfl
    obtain ⟨z0, z1, z2⟩ := Bag.fs3 S9.out 3 rfl
    have S10 := Lib.hid (show Sl.Sep W _ [curR W c, Q, _, L4.boxR g2 26 #[.string y'.name, .slice y'.a y'.xs.length y'.c, .int .i64 y'.auto], _, _] from L5.put_box5 (L5.put_box5 (L5.put_box5 (S9.out) 3 rfl 0 (.string y'.name)) 3 rfl 1 (.slice y'.a y'.xs.length y'.c)) 3 rfl 2 (.int .i64 y'.auto))
    clear S9
    have S11 := Lib.hid (show Sl.Sep W _ [curR W c, Q, _, _, _] from Bag.take S10.out [0, 1, 2, 3, 5] (by rfl) (by decide))
    clear S10
    go_wp2_with fail
    go_roundw
    case rel =>
     refine ⟨y', And.intro ?_ S11.out⟩
     have h1 := HS.out.1
     have h2 := HS.out.2.1
     rw [← HCON.out] at h1 h2
     have h3 : (y'.xs.length : Int) = z.xs.length + 1 := by have : y'.con.items.length = y'.xs.length := conI_length _; have : z.con.items.length = z.xs.length := conI_length _; omega
     exact h1.more (by omega)
    case measure =>
     show 16 - lenOf _ _ < 16 - lenOf _ _
     rw [HM.out, lenOf_at (Bag.cell_at S11.out 3 rfl 1 rfl)]
     have h2 := HS.out.2.1
     rw [← HCON.out] at h2
     have : y'.con.items.length = y'.xs.length := conI_length _
     have : z.con.items.length = z.xs.length := conI_length _
     omega
   ·
    skip
    obtain ⟨f0, f1, f2⟩ := Bag.cs3 S7.out 3 rfl
    clear f0 f1 f2
    obtain ⟨f0, f1, f2⟩ := Bag.cs3 S7.out 2 rfl
    obtain ⟨f3, f4, f5⟩ := Bag.cs3 S7.out 3 rfl
    obtain ⟨z0, z1, z2⟩ := Bag.fs3 S7.out 2 rfl
    go_wp2_with fail
    clear f0 f1 f2 f3 f4 f5 z0 z1 z2
    have S8 := Lib.hid (show Sl.Sep W _ [curR W c, Q, L4.boxR g1 26 #[.string z.name, .slice z.a z.xs.length z.c, .int .i64 z.auto], L4.boxR g2 26 #[.string z.name, .slice z.a z.xs.length z.c, .int .i64 z.auto], Bag.bag z.rows] from L5.put_box5 (L5.put_box5 (L5.put_box5 (S7.out) 2 rfl 0 (.string z.name)) 2 rfl 1 (.slice z.a z.xs.length z.c)) 2 rfl 2 (.int .i64 z.auto))
    clear S7
    obtain ⟨f0, f1, f2⟩ := Bag.cs3 S8.out 2 rfl
    refine bodyPost_ret (v := .agg #[.string z.name, .slice z.a z.xs.length z.c, .int .i64 z.auto]) (by simp [results, Try.results102, go_sem, *]) rfl ?_
    clear f0 f1 f2
    have S9 := Lib.hid (show Sl.Sep W _ [curR W c, Q, _] from Bag.take S8.out [0, 1, 4] (by rfl) (by decide))
    clear S8
    exact ⟨z, rfl, HZ.out.fit, S9.out⟩
 obtain ⟨f0, f1, f2⟩ := Bag.cs3 S6.out 3 rfl
 clear f0 f1 f2
 obtain ⟨f0, f1, f2⟩ := Bag.cs3 S6.out 2 rfl
 obtain ⟨f3, f4, f5⟩ := Bag.cs3 S6.out 3 rfl
 obtain ⟨z0, z1, z2⟩ := Bag.fs3 S6.out 2 rfl
 go_wp2_with fail
 clear f0 f1 f2 f3 f4 f5 z0 z1 z2
 have S7 := Lib.hid (show Sl.Sep W _ [curR W c, Q, L4.boxR g1 26 #[.string y.name, .slice y.a y.xs.length y.c, .int .i64 y.auto], _, _] from L5.put_box5 (L5.put_box5 (L5.put_box5 (S6.out) 2 rfl 0 (.string y.name)) 2 rfl 1 (.slice y.a y.xs.length y.c)) 2 rfl 2 (.int .i64 y.auto))
 clear S6
 obtain ⟨f0, f1, f2⟩ := Bag.cs3 S7.out 2 rfl
 refine bodyPost_ret (v := .agg #[.string y.name, .slice y.a y.xs.length y.c, .int .i64 y.auto]) (by simp [results, Try.results102, go_sem, *]) rfl ?_
 clear f0 f1 f2
 have S8 := Lib.hid (show Sl.Sep W _ [curR W c, Q, _] from Bag.take S7.out [0, 1, 4] (by rfl) (by decide))
 clear S7
 exact ⟨y, rfl, HN.out.fit, S8.out⟩
end Go.Proofs.Ytojcdmgcbgpdmaa.L6

namespace Go.Proofs.Ytojcdmgcbgpdmaa.Sd
open Go.ChangeShapes Go.WideShapes Go.ChangeAt Go.RowKit Mem Sl Ex Draw L2 L4

theorem r_facts8 {W w : World} {rs ts : List Res} {g : Nat} {t : TypeId} {a0 a1 a2 a3 a4 a5 a6 a7 : Value} (h : Sep W w (rs ++ ts)) (i : Nat) (hi : ts[i]? = some (boxR g t #[a0, a1, a2, a3, a4, a5, a6, a7])) : (w.cell? ⟨g, 0, none⟩ = some a0 ∧ w.cell? ⟨g, 1, none⟩ = some a1 ∧ w.cell? ⟨g, 2, none⟩ = some a2 ∧ w.cell? ⟨g, 3, none⟩ = some a3 ∧ w.cell? ⟨g, 4, none⟩ = some a4 ∧ w.cell? ⟨g, 5, none⟩ = some a5 ∧ w.cell? ⟨g, 6, none⟩ = some a6 ∧ w.cell? ⟨g, 7, none⟩ = some a7) ∧ (w.frozen? ⟨g, 0, none⟩ = false ∧ w.frozen? ⟨g, 1, none⟩ = false ∧ w.frozen? ⟨g, 2, none⟩ = false ∧ w.frozen? ⟨g, 3, none⟩ = false ∧ w.frozen? ⟨g, 4, none⟩ = false ∧ w.frozen? ⟨g, 5, none⟩ = false ∧ w.frozen? ⟨g, 6, none⟩ = false ∧ w.frozen? ⟨g, 7, none⟩ = false) := by
 have hr : Row w g t #[a0, a1, a2, a3, a4, a5, a6, a7] := box_at h (rs.length + i) (by rw [List.getElem?_append_right (by omega)]; simpa using hi)
 exact ⟨Row.cells8 hr, hr.free 0, hr.free 1, hr.free 2, hr.free 3, hr.free 4, hr.free 5, hr.free 6, hr.free 7⟩
theorem put_any {W w : World} {rs ts : List Res} {g : Nat} {t : TypeId} {cs : Array Value} (i : Nat) (h : ∃ cs, Sep W w (rs ++ ts.set i (boxR g t cs))) (hi : i < ts.length) (j : Nat) (v : Value) : ∃ cs, Sep W (w.setCell ⟨g, j, none⟩ v) (rs ++ ts.set i (boxR g t cs)) := by
 obtain ⟨cs, h⟩ := h
 have h1 := put_r h i (by rw [List.getElem?_set_self hi]) j v
 rw [List.set_set] at h1
 exact ⟨_, h1⟩
theorem set_at {α : Type} {ts : List α} {i : Nat} {x : α} (h : ts[i]? = some x) : ts.set i x = ts := set_same h
theorem put8 {W w : World} {rs ts : List Res} {g : Nat} {t : TypeId} {cs : Array Value} (h : Sep W w (rs ++ ts)) (i : Nat) (hi : ts[i]? = some (boxR g t cs)) (b0 b1 b2 b3 b4 b5 b6 b7 : Value) : ∃ cs, Sep W ((((((((w.setCell ⟨g, 0, none⟩ b0).setCell ⟨g, 1, none⟩ b1).setCell ⟨g, 2, none⟩ b2).setCell ⟨g, 3, none⟩ b3).setCell ⟨g, 4, none⟩ b4).setCell ⟨g, 5, none⟩ b5).setCell ⟨g, 6, none⟩ b6).setCell ⟨g, 7, none⟩ b7) (rs ++ ts.set i (boxR g t cs)) := by
 have hl : i < ts.length := (List.getElem?_eq_some_iff.1 hi).1
 have h0 : ∃ cs, Sep W w (rs ++ ts.set i (boxR g t cs)) := ⟨cs, by rw [set_at hi]; exact h⟩
 exact put_any (cs := #[]) i (put_any (cs := #[]) i (put_any (cs := #[]) i (put_any (cs := #[]) i (put_any (cs := #[]) i (put_any (cs := #[]) i (put_any (cs := #[]) i (put_any (cs := #[]) i (h0) hl 0 _) hl 1 _) hl 2 _) hl 3 _) hl 4 _) hl 5 _) hl 6 _) hl 7 _
section
variable {W w : World} {rs : List Res} {c : Nat}
theorem range_s (h : Sep W w rs) (i : Nat) (hi : rs[i]? = some (curR W c)) :
  Calls Try.prog 103 #[.pointer (some ⟨c, 0, none⟩)] w fun e w' => ∃ r : R, e = .returned r.v ∧ (r.lo.text.size = 0 ∧ r.hi.text.size = 0) ∧ Sep W w' rs := by
 have H := Lib.hid (push_box h 45 #[.bool false, .bool false, .int .i64 0, .int .i64 0, .string ⟨#[]⟩, .int .i64 0, .int .i64 0, .string ⟨#[]⟩] w.heap.size rfl)
 have HI := Lib.hid (at_left (m := [boxR w.heap.size 45 #[.bool false, .bool false, .int .i64 0, .int .i64 0, .string ⟨#[]⟩, .int .i64 0, .int .i64 0, .string ⟨#[]⟩]]) hi)
 clear h hi
 go_enter Try.func103, Try.ntmps103
 go_wp2_with fail
 go_at_call 156
 refine (once_s H.out i HI.out _ (by decide) (by decide)).mono ?_
 rintro e w1 ⟨hl, rfl, h1⟩
 go_wp2_with fail
 go_at_call 156
 refine (once_s h1 i HI.out _ (by decide) (by decide)).mono ?_
 rintro e w2 ⟨hh, rfl, h2⟩
 clear h1
 go_wp2_with fail
 go_at_call 158
 refine (small_s h2 i HI.out).mono ?_
 rintro e w3 ⟨⟨kl, nl, sl⟩, rfl, ⟨-, hsl⟩, h3⟩
 have HSL := Lib.hid hsl
 clear h2 hsl
 simp only [K.v]
 go_wp2_with fail
 go_at_call 158
 refine (small_s h3 i HI.out).mono ?_
 rintro e w4 ⟨⟨kh, nh, sh⟩, rfl, ⟨-, hsh⟩, h4⟩
 have HSH := Lib.hid hsh
 clear h3 hsh
 simp only [K.v]
 obtain ⟨g, hg⟩ : ∃ g, g = w4.heap.size := ⟨_, rfl⟩
 obtain ⟨wA, hwA⟩ : ∃ u, u = w4.alloc (.cells #[.bool hl, .bool hh, .int .i64 kl, .int .i64 nl, .string sl, .int .i64 kh, .int .i64 nh, .string sh] 45) := ⟨_, rfl⟩
 have h5 := push_box h4 45 #[.bool hl, .bool hh, .int .i64 kl, .int .i64 nl, .string sl, .int .i64 kh, .int .i64 nh, .string sh] g hg
 rw [← hwA] at h5
 go_wp2_with fail
 go_at_call 156
 rw [← hwA, ← hg]
 clear h4 hwA hg
 refine (once_s h5 i (at_left HI.out) _ (by decide) (by decide)).mono ?_
 rintro e w6 ⟨b, rfl, h6⟩
 replace h6 := (show Sep W w6 (rs ++ [boxR w.heap.size 45 #[.bool false, .bool false, .int .i64 0, .int .i64 0, .string ⟨#[]⟩, .int .i64 0, .int .i64 0, .string ⟨#[]⟩], boxR g 45 #[.bool hl, .bool hh, .int .i64 kl, .int .i64 nl, .string sl, .int .i64 kh, .int .i64 nh, .string sh]]) by simpa [List.append_assoc] using h6)
 clear h5
 have ap := r_apart h6 0 1 rfl rfl (by decide)
 have ap2 := ap.symm
 obtain ⟨⟨z0, z1, z2, z3, z4, z5, z6, z7⟩, f0, f1, f2, f3, f4, f5, f6, f7⟩ := r_facts8 h6 0 rfl
 obtain ⟨⟨y0, y1, y2, y3, y4, y5, y6, y7⟩, e0, e1, e2, e3, e4, e5, e6, e7⟩ := r_facts8 h6 1 rfl
 have HE := Lib.hid h6
 clear h6
 cases b with
 | true =>
  go_wp2_with fail
  refine bodyPost_ret (v := R.v ⟨hl, hh, K.zero, ⟨kh, nh, sh⟩⟩) (by simp [results, Try.results103, go_sem, R.v, K.zero, z0, z1, z2, z3, z4, z5, z6, z7]) rfl ?_
  have h7 := put_r (put_r (put_r HE.out 1 rfl 2 (.int .i64 0)) 1 rfl 3 (.int .i64 0)) 1 rfl 4 (.string ⟨#[]⟩)
  obtain ⟨cs, h9⟩ := put8 h7 0 rfl (.bool hl) (.bool hh) (.int .i64 0) (.int .i64 0) (.string ⟨#[]⟩) (.int .i64 kh) (.int .i64 nh) (.string sh)
  exact ⟨_, rfl, ⟨rfl, HSH.out⟩, let_go h9⟩
 | false =>
  go_wp2_with fail
  refine bodyPost_ret (v := R.v ⟨hl, hh, ⟨kl, nl, sl⟩, ⟨kh, nh, sh⟩⟩) (by simp [results, Try.results103, go_sem, R.v, z0, z1, z2, z3, z4, z5, z6, z7]) rfl ?_
  obtain ⟨cs, h9⟩ := put8 HE.out 0 rfl (.bool hl) (.bool hh) (.int .i64 kl) (.int .i64 nl) (.string sl) (.int .i64 kh) (.int .i64 nh) (.string sh)
  exact ⟨_, rfl, ⟨HSL.out, HSH.out⟩, let_go h9⟩
end
end Go.Proofs.Ytojcdmgcbgpdmaa.Sd

set_option linter.unusedSimpArgs false
namespace Go.Proofs.Ytojcdmgcbgpdmaa.L6
open L4 (K isK cmpK R inR encU)
open L5 (F isR isN cellsF encR eqR Small Tame)
open Sd (curR)
open Go.ChangeShapes Go.WideShapes Go.ChangeAt Go.RowKit Mem Sl Ex L2 Sv Bag

set_option maxHeartbeats 8000000 in
theorem drawDeleteItems_r {W w : World} {Q : Res} {a : Option Addr} {len : Nat} (cap : Nat) (hl : len ≤ 4611686018427387904) (hby : Bytes W W.heap.size a len) (h : Sl.Sep W w [Q]) :
  Calls Try.prog 26 #[.slice a len cap] w fun e w' => ∃ (y : LS) (r : R), e = .returned (.tuple #[y.v, r.v]) ∧ FitS y.con ∧ (r.lo.text.size = 0 ∧ r.hi.text.size = 0) ∧ Sl.Sep W w' [Q, bag y.rows] := by
 have S1 := Lib.hid h
 clear h
 go_enter Try.func26, Try.ntmps26
 go_upto_region 1 with fail
 have S2 := Lib.hid (show Sl.Sep W _ [_, _, _] from L4.push_box (L4.push_box (S1.out) 26 #[.string ⟨#[]⟩, .slice none 0 0, .int .i64 0] (w.heap.size) (by simp)) 45 #[.bool false, .bool false, .int .i64 0, .int .i64 0, .string ⟨#[]⟩, .int .i64 0, .int .i64 0, .string ⟨#[]⟩] (w.heap.size + 1) (by simp))
 clear S1
 obtain ⟨g1, hg⟩ : ∃ g', g' = w.heap.size := ⟨_, rfl⟩
 rw [← hg] at S2 ⊢
 clear hg
 obtain ⟨g2, hg⟩ : ∃ g', g' = g1 + 1 := ⟨_, rfl⟩
 (try rw [← hg] at S2); (try rw [← hg])
 clear hg
 obtain ⟨w1, hw⟩ : ∃ u, u = ((w.alloc (.cells #[.string ⟨#[]⟩, .slice none 0 0, .int .i64 0] 26)).alloc (.cells #[.bool false, .bool false, .int .i64 0, .int .i64 0, .string ⟨#[]⟩, .int .i64 0, .int .i64 0, .string ⟨#[]⟩] 45)) := ⟨_, rfl⟩
 rw [← hw] at S2 ⊢
 clear hw
 go_wp2_with fail
 go_at_call 78
 refine (Sd.new_s S2.out _ _ _ hl hby).mono ?_
 rintro e w2 ⟨c, rfl, hS⟩
 have S3 := Lib.hid (show Sl.Sep W _ [Q, L4.boxR g1 26 #[.string ⟨#[]⟩, .slice none 0 0, .int .i64 0], L4.boxR g2 45 #[.bool false, .bool false, .int .i64 0, .int .i64 0, .string ⟨#[]⟩, .int .i64 0, .int .i64 0, .string ⟨#[]⟩], curR W c] from hS)
 clear S2
 clear hS
 have S4 := Lib.hid (show Sl.Sep W _ [curR W c, Q, _, _] from Bag.take S3.out [3, 0, 1, 2] (by rfl) (by decide))
 clear S3
 have HC := l6Any_q (Run.packR (us := [curR W c]) (vs := [Q, L4.boxR g1 26 #[.string ⟨#[]⟩, .slice none 0 0, .int .i64 0], L4.boxR g2 45 #[.bool false, .bool false, .int .i64 0, .int .i64 0, .string ⟨#[]⟩, .int .i64 0, .int .i64 0, .string ⟨#[]⟩]]) S4.out)
 go_wp2_with fail
 go_at_call 102
 refine HC.mono ?_
 clear HC
 rintro e w3 ⟨y, rfl, hF, hS⟩
 have HF := Lib.hid hF
 clear hF
 have S5 := Lib.hid (show Sl.Sep W _ [curR W c, Bag.bag y.rows, Q, L4.boxR g1 26 #[.string ⟨#[]⟩, .slice none 0 0, .int .i64 0], L4.boxR g2 45 #[.bool false, .bool false, .int .i64 0, .int .i64 0, .string ⟨#[]⟩, .int .i64 0, .int .i64 0, .string ⟨#[]⟩]] from Run.unpackR (us := [curR W c, Bag.bag y.rows]) (vs := [Q, L4.boxR g1 26 #[.string ⟨#[]⟩, .slice none 0 0, .int .i64 0], L4.boxR g2 45 #[.bool false, .bool false, .int .i64 0, .int .i64 0, .string ⟨#[]⟩, .int .i64 0, .int .i64 0, .string ⟨#[]⟩]]) (Bag.take hS [0, 2, 1] (by rfl) (by decide)))
 clear S4
 clear hS
 dsimp only [LS.v, LS.cells]
 go_upto_region 3 with fail
 have S6 := Lib.hid (show Sl.Sep W _ [_, _, _, _, _, _] from L4.push_box S5.out 26 #[.string y.name, .slice y.a y.xs.length y.c, .int .i64 y.auto] w3.heap.size rfl)
 clear S5
 obtain ⟨g3, hg⟩ : ∃ g', g' = w3.heap.size := ⟨_, rfl⟩
 rw [← hg] at S6 ⊢
 clear hg
 generalize w3.alloc (.cells #[.string y.name, .slice y.a y.xs.length y.c, .int .i64 y.auto] 26) = w4 at S6 ⊢
 refine wp_region_held_drew (S := (fun w' => w'.cell? ⟨g3, 0, none⟩ = some (.string y.name) ∧ w'.cell? ⟨g3, 1, none⟩ = some (.slice y.a y.xs.length y.c) ∧ w'.cell? ⟨g3, 2, none⟩ = some (.int .i64 y.auto))) (by kernel_rfl) ⟨Bag.cell_at S6.out 5 rfl 0 rfl, Bag.cell_at S6.out 5 rfl 1 rfl, Bag.cell_at S6.out 5 rfl 2 rfl⟩ (fun hS => ?_)
 have S7 := Lib.hid (Bag.drew1 S6.out)
 clear S6
 generalize World.drew _ = w5 at hS S7 ⊢
 refine tk 0 rfl ?_
 try simp only [zp0, zp1, zp2, zp3, zp4]
 refine tk 1 rfl ?_
 try simp only [zp0, zp1, zp2, zp3, zp4]
 refine Reg.one_op (i := 2) rfl (by kernel_rfl) (fun K hK => ?_)
 go_simp
 go_at_call 103
 refine (Sd.range_s S7.out 0 rfl).mono ?_
 rintro e w6 ⟨⟨rl, rh, ⟨lk, ln, lt⟩, ⟨gk, gn, gt⟩⟩, rfl, hr, hS⟩
 have S8 := Lib.hid (show Sl.Sep W _ [curR W c, _, Q, _, _, _] from hS)
 clear S7
 clear hS
 try dsimp only [L4.K.v, L4.R.v]
 have HR := Lib.hid hr
 clear hr
 go_wp2_with fail
 refine hK.out _ _ ⟨Bag.cell_at S8.out 5 rfl 0 rfl, Bag.cell_at S8.out 5 rfl 1 rfl, Bag.cell_at S8.out 5 rfl 2 rfl⟩ (fun hS => ?_)
 clear hK K
 try simp only [zp0, zp1, zp2, zp3, zp4]
 refine Reg.one_op (i := 3) rfl (by kernel_rfl) (fun K hK => ?_)
 have f0 : World.cell? _ ⟨g1, 0, none⟩ = some (.string ⟨#[]⟩) := Bag.cell_at S8.out 3 rfl 0 rfl
 have f1 : World.cell? _ ⟨g1, 1, none⟩ = some (.slice none 0 0) := Bag.cell_at S8.out 3 rfl 1 rfl
 have f2 : World.cell? _ ⟨g1, 2, none⟩ = some (.int .i64 0) := Bag.cell_at S8.out 3 rfl 2 rfl
 have z0 := Bag.free_at S8.out 3 rfl 0
 have z1 := Bag.free_at S8.out 3 rfl 1
 have z2 := Bag.free_at S8.out 3 rfl 2
 go_simp
 clear f0 f1 f2 z0 z1 z2
 have S9 := Lib.hid (show Sl.Sep W _ [curR W c, _, Q, L4.boxR g1 26 #[.string y.name, .slice y.a y.xs.length y.c, .int .i64 y.auto], _, _] from L5.put_box5 (L5.put_box5 (L5.put_box5 (S8.out) 3 rfl 0 (.string y.name)) 3 rfl 1 (.slice y.a y.xs.length y.c)) 3 rfl 2 (.int .i64 y.auto))
 clear S8
 refine hK.out _ _ ⟨Bag.cell_at S9.out 5 rfl 0 rfl, Bag.cell_at S9.out 5 rfl 1 rfl, Bag.cell_at S9.out 5 rfl 2 rfl⟩ (fun hS => ?_)
 clear hK K
 try simp only [zp0, zp1, zp2, zp3, zp4]
 refine Reg.one_op (i := 4) rfl (by kernel_rfl) (fun K hK => ?_)
 have f0 : World.cell? _ ⟨g2, 0, none⟩ = some (.bool false) := Bag.cell_at S9.out 4 rfl 0 rfl
 have f1 : World.cell? _ ⟨g2, 1, none⟩ = some (.bool false) := Bag.cell_at S9.out 4 rfl 1 rfl
 have f2 : World.cell? _ ⟨g2, 2, none⟩ = some (.int .i64 0) := Bag.cell_at S9.out 4 rfl 2 rfl
 have f3 : World.cell? _ ⟨g2, 3, none⟩ = some (.int .i64 0) := Bag.cell_at S9.out 4 rfl 3 rfl
 have f4 : World.cell? _ ⟨g2, 4, none⟩ = some (.string ⟨#[]⟩) := Bag.cell_at S9.out 4 rfl 4 rfl
 have f5 : World.cell? _ ⟨g2, 5, none⟩ = some (.int .i64 0) := Bag.cell_at S9.out 4 rfl 5 rfl
 have f6 : World.cell? _ ⟨g2, 6, none⟩ = some (.int .i64 0) := Bag.cell_at S9.out 4 rfl 6 rfl
 have f7 : World.cell? _ ⟨g2, 7, none⟩ = some (.string ⟨#[]⟩) := Bag.cell_at S9.out 4 rfl 7 rfl
 have z0 := Bag.free_at S9.out 4 rfl 0
 have z1 := Bag.free_at S9.out 4 rfl 1
 have z2 := Bag.free_at S9.out 4 rfl 2
 have z3 := Bag.free_at S9.out 4 rfl 3
 have z4 := Bag.free_at S9.out 4 rfl 4
 have z5 := Bag.free_at S9.out 4 rfl 5
 have z6 := Bag.free_at S9.out 4 rfl 6
 have z7 := Bag.free_at S9.out 4 rfl 7
 go_simp
 clear f0 f1 f2 f3 f4 f5 f6 f7 z0 z1 z2 z3 z4 z5 z6 z7
 have S10 := Lib.hid (show Sl.Sep W _ [curR W c, _, Q, _, L4.boxR g2 45 #[.bool rl, .bool rh, .int .i64 lk, .int .i64 ln, .string ⟨#[]⟩, .int .i64 0, .int .i64 0, .string ⟨#[]⟩], _] from L5.put_box5 (L5.put_box5 (L5.put_box5 (L5.put_box5 (S9.out) 4 rfl 0 (.bool rl)) 4 rfl 1 (.bool rh)) 4 rfl 2 (.int .i64 lk)) 4 rfl 3 (.int .i64 ln))
 clear S9
 have S11 := Lib.hid (show Sl.Sep W _ [curR W c, _, Q, _, L4.boxR g2 45 #[.bool rl, .bool rh, .int .i64 lk, .int .i64 ln, .string lt, .int .i64 gk, .int .i64 gn, .string gt], _] from L5.put_box5 (L5.put_box5 (L5.put_box5 (L5.put_box5 (S10.out) 4 rfl 4 (.string lt)) 4 rfl 5 (.int .i64 gk)) 4 rfl 6 (.int .i64 gn)) 4 rfl 7 (.string gt))
 clear S10
 refine hK.out _ _ ⟨Bag.cell_at S11.out 5 rfl 0 rfl, Bag.cell_at S11.out 5 rfl 1 rfl, Bag.cell_at S11.out 5 rfl 2 rfl⟩ (fun hS => ?_)
 clear hK K
 try simp only [zp0, zp1, zp2, zp3, zp4]
 refine wpAnyH_done (by kernel_rfl) ?_ _
 have f0 : World.cell? _ ⟨g1, 0, none⟩ = some (.string y.name) := Bag.cell_at S11.out 3 rfl 0 rfl
 have f1 : World.cell? _ ⟨g1, 1, none⟩ = some (.slice y.a y.xs.length y.c) := Bag.cell_at S11.out 3 rfl 1 rfl
 have f2 : World.cell? _ ⟨g1, 2, none⟩ = some (.int .i64 y.auto) := Bag.cell_at S11.out 3 rfl 2 rfl
 have f3 : World.cell? _ ⟨g2, 0, none⟩ = some (.bool rl) := Bag.cell_at S11.out 4 rfl 0 rfl
 have f4 : World.cell? _ ⟨g2, 1, none⟩ = some (.bool rh) := Bag.cell_at S11.out 4 rfl 1 rfl
 have f5 : World.cell? _ ⟨g2, 2, none⟩ = some (.int .i64 lk) := Bag.cell_at S11.out 4 rfl 2 rfl
 have f6 : World.cell? _ ⟨g2, 3, none⟩ = some (.int .i64 ln) := Bag.cell_at S11.out 4 rfl 3 rfl
 have f7 : World.cell? _ ⟨g2, 4, none⟩ = some (.string lt) := Bag.cell_at S11.out 4 rfl 4 rfl
 have f8 : World.cell? _ ⟨g2, 5, none⟩ = some (.int .i64 gk) := Bag.cell_at S11.out 4 rfl 5 rfl
 have f9 : World.cell? _ ⟨g2, 6, none⟩ = some (.int .i64 gn) := Bag.cell_at S11.out 4 rfl 6 rfl
 have f10 : World.cell? _ ⟨g2, 7, none⟩ = some (.string gt) := Bag.cell_at S11.out 4 rfl 7 rfl
 have f11 : World.cell? _ ⟨g3, 0, none⟩ = some (.string y.name) := Bag.cell_at S11.out 5 rfl 0 rfl
 have f12 : World.cell? _ ⟨g3, 1, none⟩ = some (.slice y.a y.xs.length y.c) := Bag.cell_at S11.out 5 rfl 1 rfl
 have f13 : World.cell? _ ⟨g3, 2, none⟩ = some (.int .i64 y.auto) := Bag.cell_at S11.out 5 rfl 2 rfl
 clear f0 f1 f2 f3 f4 f5 f6 f7 f8 f9 f10 f11 f12 f13
 have f0 : World.cell? _ ⟨g1, 0, none⟩ = some (.string y.name) := Bag.cell_at S11.out 3 rfl 0 rfl
 have f1 : World.cell? _ ⟨g1, 1, none⟩ = some (.slice y.a y.xs.length y.c) := Bag.cell_at S11.out 3 rfl 1 rfl
 have f2 : World.cell? _ ⟨g1, 2, none⟩ = some (.int .i64 y.auto) := Bag.cell_at S11.out 3 rfl 2 rfl
 have f3 : World.cell? _ ⟨g2, 0, none⟩ = some (.bool rl) := Bag.cell_at S11.out 4 rfl 0 rfl
 have f4 : World.cell? _ ⟨g2, 1, none⟩ = some (.bool rh) := Bag.cell_at S11.out 4 rfl 1 rfl
 have f5 : World.cell? _ ⟨g2, 2, none⟩ = some (.int .i64 lk) := Bag.cell_at S11.out 4 rfl 2 rfl
 have f6 : World.cell? _ ⟨g2, 3, none⟩ = some (.int .i64 ln) := Bag.cell_at S11.out 4 rfl 3 rfl
 have f7 : World.cell? _ ⟨g2, 4, none⟩ = some (.string lt) := Bag.cell_at S11.out 4 rfl 4 rfl
 have f8 : World.cell? _ ⟨g2, 5, none⟩ = some (.int .i64 gk) := Bag.cell_at S11.out 4 rfl 5 rfl
 have f9 : World.cell? _ ⟨g2, 6, none⟩ = some (.int .i64 gn) := Bag.cell_at S11.out 4 rfl 6 rfl
 have f10 : World.cell? _ ⟨g2, 7, none⟩ = some (.string gt) := Bag.cell_at S11.out 4 rfl 7 rfl
 go_wp2_with fail
 refine bodyPost_ret (v := .tuple #[.agg #[.string y.name, .slice y.a y.xs.length y.c, .int .i64 y.auto], .agg #[.bool rl, .bool rh, .int .i64 lk, .int .i64 ln, .string lt, .int .i64 gk, .int .i64 gn, .string gt]]) (by simp [results, Try.results26, go_sem, *]) rfl ?_
 clear f0 f1 f2 f3 f4 f5 f6 f7 f8 f9 f10
 have S12 := Lib.hid (show Sl.Sep W _ [Q, _] from Bag.take S11.out [2, 1] (by rfl) (by decide))
 clear S11
 exact ⟨y, ⟨rl, rh, ⟨lk, ln, lt⟩, ⟨gk, gn, gt⟩⟩, rfl, HF.out, HR.out, S12.out⟩
theorem drawDeleteItems_q {W w : World} {a : Option Addr} {len : Nat} (cap : Nat) (hl : len ≤ 4611686018427387904) (hby : Bytes W W.heap.size a len) (h : Sl.Sep W w []) :
  Calls Try.prog 26 #[.slice a len cap] w fun e w' => ∃ (y : LS) (r : R), e = .returned (.tuple #[y.v, r.v]) ∧ FitS y.con ∧ (r.lo.text.size = 0 ∧ r.hi.text.size = 0) ∧ Sl.Sep W w' [bag y.rows] := by
 refine (drawDeleteItems_r cap hl hby (Run.packR (us := []) (vs := []) h)).mono ?_
 rintro e w' ⟨y, r, he, h1, h2, hS⟩
 exact ⟨y, r, he, h1, h2, Bag.take hS [1] (by rfl) (by decide)⟩
end Go.Proofs.Ytojcdmgcbgpdmaa.L6

