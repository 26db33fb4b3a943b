/-
  Chapter 4's draws over several things that lie apart: l4Number, l4Key, l4Any, l4Small and what draws them. No condition but that the code is a slice of bytes of at most 2^62 places.
-/
import Derived.Test.YtenmdecooamaaaaSd2
import Derived.Test.YtenmdecooamaaaaL4Dec
import Derived.Test.YtenmdecooamaaaaL4Open
import Derived.Deep.RegionWith
namespace Go.Proofs.Ytenmdecooamaaaa.Sd
open Go.ChangeShapes Go.WideShapes Go.ChangeAt Go.RowKit Mem Sl Ex Draw L2 L4
set_option linter.unusedVariables false

section
variable {W w : World} {rs : List Res} {g : Nat} {t : TypeId} {cs : Array Value}
theorem put_box (h : Sep W w rs) (i : Nat) (hi : rs[i]? = some (boxR g t cs)) (j : Nat) (v : Value) : Sep W (w.setCell ⟨g, j, none⟩ v) (rs.set i (boxR g t (cs.setIfInBounds j v))) :=
  h.put i hi (Turned.of_grown (grownBy_put w g j v)) ((box_at h i hi).put j v) (fun b hb => hb)
theorem box_end (h : Sep W w (rs ++ [boxR g t cs])) (x y z : Value) : Sep W (((w.setCell ⟨g, 0, none⟩ x).setCell ⟨g, 1, none⟩ y).setCell ⟨g, 2, none⟩ z) rs := by
  have h1 := put_box h rs.length (at_last _ _) 0 x
  rw [set_last] at h1
  have h2 := put_box h1 rs.length (at_last _ _) 1 y
  rw [set_last] at h2
  have h3 := put_box h2 rs.length (at_last _ _) 2 z
  rw [set_last] at h3
  have h4 := drop (ts := []) h3
  rwa [List.append_nil] at h4
theorem box_facts {x y z : Value} (h : Sep W w (rs ++ [boxR g t #[x, y, z]])) : w.cell? ⟨g, 0, none⟩ = some x ∧ w.cell? ⟨g, 1, none⟩ = some y ∧ w.cell? ⟨g, 2, none⟩ = some z ∧ w.frozen? ⟨g, 0, none⟩ = false ∧ w.frozen? ⟨g, 1, none⟩ = false ∧ w.frozen? ⟨g, 2, none⟩ = false := Row.facts3 (box_at h rs.length (at_last _ _))
end

theorem good1 {n : Int} (h0 : -1000000000000 ≤ n) (h1 : n ≤ 1000000000000) : L4.Good ⟨1, n, ⟨#[]⟩⟩ := ⟨by show (1 : Int) ≤ 1; decide, by show (1 : Int) ≤ 3; decide, h0, h1, by intro h; simp at h, rfl, fun _ => rfl⟩
theorem good2 {s : ByteArray} (h : isT s.data.toList = true) : L4.Good ⟨2, 0, s⟩ := ⟨by show (1 : Int) ≤ 2; decide, by show (2 : Int) ≤ 3; decide, by show (-1000000000000 : Int) ≤ 0; decide, by show (0 : Int) ≤ 1000000000000; decide, fun _ => rfl, h, by intro h; simp at h⟩
theorem good3 {n : Int} {s : ByteArray} (h0 : -1000000000000 ≤ n) (h1 : n ≤ 1000000000000) (h : isT s.data.toList = true) : L4.Good ⟨3, n, s⟩ := ⟨by show (1 : Int) ≤ 3; decide, by show (3 : Int) ≤ 3; decide, h0, h1, by intro h; simp at h, h, by intro h; simp at h⟩
theorem two_facts {W w : World} {rs : List Res} {g g2 : Nat} {t t2 : TypeId} {x y z : Value} {x2 y2 z2 : Value} (h : Sep W w ((rs ++ [boxR g t #[x, y, z]]) ++ [boxR g2 t2 #[x2, y2, z2]])) : (w.cell? ⟨g, 0, none⟩ = some x ∧ w.cell? ⟨g, 1, none⟩ = some y ∧ w.cell? ⟨g, 2, none⟩ = some z ∧ w.frozen? ⟨g, 0, none⟩ = false ∧ w.frozen? ⟨g, 1, none⟩ = false ∧ w.frozen? ⟨g, 2, none⟩ = false) ∧ (w.cell? ⟨g2, 0, none⟩ = some x2 ∧ w.cell? ⟨g2, 1, none⟩ = some y2 ∧ w.cell? ⟨g2, 2, none⟩ = some z2 ∧ w.frozen? ⟨g2, 0, none⟩ = false ∧ w.frozen? ⟨g2, 1, none⟩ = false ∧ w.frozen? ⟨g2, 2, none⟩ = false) :=
  ⟨Row.facts3 (box_at h rs.length (at_left (at_last _ _))), box_facts h⟩
theorem drop1 {W w : World} {rs : List Res} {r : Res} (h : Sep W w (rs ++ [r])) : Sep W w rs := by
  have h4 := drop (ts := []) h
  rwa [List.append_nil] at h4
theorem put_last {W w : World} {rs : List Res} {g : Nat} {t : TypeId} {cs : Array Value} (h : Sep W w (rs ++ [boxR g t cs])) (j : Nat) (v : Value) : Sep W (w.setCell ⟨g, j, none⟩ v) (rs ++ [boxR g t (cs.setIfInBounds j v)]) := by
  have h1 := put_box h rs.length (at_last _ _) j v
  rwa [set_last] at h1

theorem put_r {W w : World} {rs ts : List Res} {g : Nat} {t : TypeId} {cs : Array Value} (h : Sep W w (rs ++ ts)) (i : Nat) (hi : ts[i]? = some (boxR g t cs)) (j : Nat) (v : Value) : Sep W (w.setCell ⟨g, j, none⟩ v) (rs ++ ts.set i (boxR g t (cs.setIfInBounds j v))) := by
  have h1 := put_box h (rs.length + i) (by rw [List.getElem?_append_right (by omega)]; simpa using hi) j v
  rwa [List.set_append_right _ _ (by omega), Nat.add_sub_cancel_left] at h1
theorem let_go {W w : World} {rs : List Res} : ∀ {ts : List Res}, Sep W w (rs ++ ts) → Sep W w rs
  | [], h => by rwa [List.append_nil] at h
  | _ :: _, h => let_go (drop h)
theorem put3 {W w : World} {rs ts : List Res} {g : Nat} {t : TypeId} {a b c : Value} (h : Sep W w (rs ++ ts)) (i : Nat) (hi : ts[i]? = some (boxR g t #[a, b, c])) (x y z : Value) : Sep W (((w.setCell ⟨g, 0, none⟩ x).setCell ⟨g, 1, none⟩ y).setCell ⟨g, 2, none⟩ z) (rs ++ ts.set i (boxR g t #[x, y, z])) := by
  have hl : i < ts.length := (List.getElem?_eq_some_iff.1 hi).1
  have h1 := put_r (put_r (put_r h i hi 0 x) i (by rw [List.getElem?_set_self hl]) 1 y) i (by rw [List.getElem?_set_self (by simpa using hl)]) 2 z
  rwa [List.set_set, List.set_set] at h1
theorem r_facts {W w : World} {rs ts : List Res} {g : Nat} {t : TypeId} {x y z : Value} (h : Sep W w (rs ++ ts)) (i : Nat) (hi : ts[i]? = some (boxR g t #[x, y, z])) : w.cell? ⟨g, 0, none⟩ = some x ∧ w.cell? ⟨g, 1, none⟩ = some y ∧ w.cell? ⟨g, 2, none⟩ = some z ∧ w.frozen? ⟨g, 0, none⟩ = false ∧ w.frozen? ⟨g, 1, none⟩ = false ∧ w.frozen? ⟨g, 2, none⟩ = false :=
  Row.facts3 (box_at h (rs.length + i) (by rw [List.getElem?_append_right (by omega)]; simpa using hi))
/-- Boxes that lie apart have different numbers. -/
theorem r_apart {W w : World} {rs ts : List Res} {g g2 : Nat} {t t2 : TypeId} {cs cs2 : Array Value} (h : Sep W w (rs ++ ts)) (i j : Nat) (hi : ts[i]? = some (boxR g t cs)) (hj : ts[j]? = some (boxR g2 t2 cs2)) (hne : i ≠ j) : g ≠ g2 := fun e =>
  h.apart (rs.length + i) (rs.length + j) _ _ (by rw [List.getElem?_append_right (by omega)]; simpa using hi) (by rw [List.getElem?_append_right (by omega)]; simpa using hj) (by omega) g (by simp [boxR]) (by simp [boxR, e])

section
variable {W w : World} {rs : List Res} {c : Nat}
theorem str_sg (h : Sep W w rs) (i : Nat) (hi : rs[i]? = some (curR W c)) (l : List ByteArray) (P : ByteArray → Prop) (hP : ∀ v ∈ l, P v) (n : Nat) (hn : n = l.length) (h1 : 1 ≤ n) (h2 : n ≤ 1000) (g : Nat) (hg : g = w.heap.size) :
    Calls Try.prog 54 #[.pointer (some ⟨c, 0, none⟩), .slice (some ⟨g, 0, none⟩) n n] (w.alloc (.cells (l.map Value.string).toArray 9)) fun e w' => ∃ s, e = .returned (.string s) ∧ P s ∧ Sep W w' rs := by
  subst hn
  subst hg
  exact (l1Str_on w.heap.size l.length h1 h2 (strs_lit w 9 l P hP) (by simp) (fun e => by have := (cur_on h i hi).lt; omega) (cur_on (h.alloc _) i hi)).mono fun _ _ ⟨s, he, hs, ho⟩ => ⟨s, he, hs, moved (h.alloc _) i hi ho⟩
theorem int_sg (h : Sep W w rs) (i : Nat) (hi : rs[i]? = some (curR W c)) (l : List Int) (Q : Int → Prop) (hQ : ∀ v ∈ l, Q v) (n : Nat) (hn : n = l.length) (h1 : 1 ≤ n) (h2 : n ≤ 1000) (g : Nat) (hg : g = w.heap.size) :
    Calls Try.prog 53 #[.pointer (some ⟨c, 0, none⟩), .slice (some ⟨g, 0, none⟩) n n] (w.alloc (.cells (l.map (Value.int .i64)).toArray 3)) fun e w' => ∃ r, e = .returned (.int .i64 r) ∧ Q r ∧ Sep W w' rs := by
  subst hn
  subst hg
  exact int_s h i hi l Q hQ h1 h2
theorem number_s (h : Sep W w rs) (i : Nat) (hi : rs[i]? = some (curR W c)) :
    Calls Try.prog 55 #[.pointer (some ⟨c, 0, none⟩)] w fun e w' => ∃ n, e = .returned (.int .i64 n) ∧ (-1000000000000 ≤ n ∧ n ≤ 1000000000000) ∧ Sep W w' rs := by
  have H := Lib.hid h
  have HI := Lib.hid hi
  clear h hi
  go_enter Try.func55, Try.ntmps55
  go_wp2_with fail
  go_at_call 52
  refine (below_s H.out i HI.out _ (by decide) (by decide)).mono ?_
  rintro e w1 ⟨x, rfl, ⟨hx0, hx1⟩, h1⟩
  go_wp2_with fail
  go_at_call 53
  refine (int_sg h1 i HI.out [0, 1, 2, -1, 255, 256, -1000000000000, 1000000000000, x] (fun n => -1000000000000 ≤ n ∧ n ≤ 1000000000000) (by intro v hv; simp at hv; omega) 9 rfl (by decide) (by decide) _ rfl).mono ?_
  rintro e w2 ⟨n, rfl, hn, h2⟩
  go_wp2_with fail
  go_ret
  exact ⟨_, rfl, hn, h2⟩
theorem small_s (h : Sep W w rs) (i : Nat) (hi : rs[i]? = some (curR W c)) :
    Calls Try.prog 36 #[.pointer (some ⟨c, 0, none⟩)] w fun e w' => ∃ k : K, e = .returned k.v ∧ (L4.Good k ∧ k.text.size = 0) ∧ Sep W w' rs := by
  have H := Lib.hid (push_box h 25 #[.int .i64 0, .int .i64 0, .string ⟨#[]⟩] w.heap.size rfl)
  have HI := Lib.hid (at_left (m := [boxR w.heap.size 25 #[.int .i64 0, .int .i64 0, .string ⟨#[]⟩]]) hi)
  clear h hi
  go_enter Try.func36, Try.ntmps36
  go_wp2_with fail
  go_at_call 52
  refine (below_s H.out i HI.out _ (by decide) (by decide)).mono ?_
  rintro e w1 ⟨x, rfl, ⟨hx0, hx1⟩, h1⟩
  obtain ⟨z0, z1, z2, f0, f1, f2⟩ := box_facts h1
  have HE := Lib.hid h1
  clear h1
  go_wp2_with fail
  refine bodyPost_ret (v := K.v ⟨1, x, ⟨#[]⟩⟩) (by simp [results, Try.results36, go_sem, K.v, z0, z1, z2]) rfl ?_
  exact ⟨_, rfl, ⟨good1 (by omega) (by omega), rfl⟩, box_end HE.out _ _ _⟩
theorem key_s (h : Sep W w rs) (i : Nat) (hi : rs[i]? = some (curR W c)) :
    Calls Try.prog 40 #[.pointer (some ⟨c, 0, none⟩)] w fun e w' => ∃ k : K, e = .returned k.v ∧ (L4.Good k ∧ k.text.size ≤ 12) ∧ Sep W w' rs := by
  have H := Lib.hid (push_box h 25 #[.int .i64 0, .int .i64 0, .string ⟨#[]⟩] w.heap.size rfl)
  have HI := Lib.hid (at_left (m := [boxR w.heap.size 25 #[.int .i64 0, .int .i64 0, .string ⟨#[]⟩]]) hi)
  clear h hi
  go_enter Try.func40, Try.ntmps40
  go_wp2_with fail
  go_at_call 54
  refine (str_sg H.out i HI.out [⟨#[]⟩, ⟨#[97]⟩, ⟨#[97, 98]⟩, ⟨#[98]⟩, ⟨#[122, 57]⟩, ⟨#[97, 98, 99, 100, 101, 102, 103, 104, 105, 106, 107, 108]⟩] (fun s => isT s.data.toList = true ∧ s.size ≤ 12) (by decide) 6 rfl (by decide) (by decide) _ (by simp)).mono ?_
  rintro e w1 ⟨s, rfl, ⟨hs, hs2⟩, h1⟩
  have HS := Lib.hid hs
  clear hs
  go_wp2_with fail
  go_at_call 52
  refine (below_s h1 i HI.out _ (by decide) (by decide)).mono ?_
  rintro e w2 ⟨x, rfl, ⟨hx0, hx1⟩, h2⟩
  clear h1
  by_cases hx : x = 0
  · subst hx
    obtain ⟨z0, z1, z2, f0, f1, f2⟩ := box_facts h2
    have HE := Lib.hid h2
    clear h2
    go_wp2_with fail
    refine bodyPost_ret (v := K.v ⟨2, 0, s⟩) (by simp [results, Try.results40, go_sem, K.v, z0, z1, z2]) rfl ?_
    exact ⟨_, rfl, ⟨good2 HS.out, hs2⟩, box_end HE.out _ _ _⟩
  · have hx' : (x == 0) = false := by simp [hx]
    by_cases hy : x = 1
    · subst hy
      go_wp2_with fail
      go_at_call 55
      refine (number_s h2 i HI.out).mono ?_
      rintro e w3 ⟨n, rfl, ⟨hn0, hn1⟩, h3⟩
      clear h2
      obtain ⟨z0, z1, z2, f0, f1, f2⟩ := box_facts h3
      have HE := Lib.hid h3
      clear h3
      go_wp2_with fail
      refine bodyPost_ret (v := K.v ⟨3, n, s⟩) (by simp [results, Try.results40, go_sem, K.v, z0, z1, z2]) rfl ?_
      exact ⟨_, rfl, ⟨good3 hn0 hn1 HS.out, hs2⟩, box_end HE.out _ _ _⟩
    · have hy' : (x == 1) = false := by simp [hy]
      go_wp2_with fail
      go_at_call 55
      refine (number_s h2 i HI.out).mono ?_
      rintro e w3 ⟨n, rfl, ⟨hn0, hn1⟩, h3⟩
      clear h2
      obtain ⟨z0, z1, z2, f0, f1, f2⟩ := box_facts h3
      have HE := Lib.hid h3
      clear h3
      go_wp2_with fail
      refine bodyPost_ret (v := K.v ⟨1, n, ⟨#[]⟩⟩) (by simp [results, Try.results40, go_sem, K.v, z0, z1, z2]) rfl ?_
      exact ⟨_, rfl, ⟨good1 hn0 hn1, by show (⟨#[]⟩ : ByteArray).size ≤ 12; decide⟩, box_end HE.out _ _ _⟩
/-- Some key: nearly valid or valid. -/
def Some (k : K) : Prop := 0 ≤ k.kind ∧ k.kind ≤ 5 ∧ -1000000000001 ≤ k.n ∧ k.n ≤ 1000000000001 ∧ k.text.size ≤ 13
theorem any_s (h : Sep W w rs) (i : Nat) (hi : rs[i]? = some (curR W c)) :
    Calls Try.prog 38 #[.pointer (some ⟨c, 0, none⟩)] w fun e w' => ∃ k : K, e = .returned k.v ∧ Some k ∧ Sep W w' rs := by
  have H := Lib.hid (push_box h 25 #[.int .i64 0, .int .i64 0, .string ⟨#[]⟩] w.heap.size rfl)
  have HI := Lib.hid (at_left (m := [boxR w.heap.size 25 #[.int .i64 0, .int .i64 0, .string ⟨#[]⟩]]) hi)
  clear h hi
  go_enter Try.func38, Try.ntmps38
  go_wp2_with fail
  go_at_call 40
  refine (key_s H.out i HI.out).mono ?_
  rintro e w1 ⟨⟨kd, n, s⟩, rfl, ⟨hg, hs⟩, h1⟩
  have hb : 1 ≤ kd ∧ kd ≤ 3 ∧ -1000000000000 ≤ n ∧ n ≤ 1000000000000 := ⟨hg.k0, hg.k1, hg.n0, hg.n1⟩
  obtain ⟨k0, k1, n0, n1⟩ := hb
  have hs' : s.size ≤ 12 := hs
  clear hg hs
  simp only [K.v]
  obtain ⟨g, hg⟩ : ∃ g, g = w1.heap.size := ⟨_, rfl⟩
  obtain ⟨wA, hwA⟩ : ∃ u, u = w1.alloc (.cells #[.int .i64 kd, .int .i64 n, .string s] 25) := ⟨_, rfl⟩
  have HA := Lib.hid (show Sep W wA _ by rw [hwA]; exact push_box h1 25 #[.int .i64 kd, .int .i64 n, .string s] g hg)
  have HI2 := Lib.hid (at_left (m := [boxR g 25 #[.int .i64 kd, .int .i64 n, .string s]]) HI.out)
  have hin := (box_at h1 rs.length (at_last _ _)).inside
  have hne : ¬ g = w.heap.size := by omega
  have hne2 : ¬ w.heap.size = g := by omega
  clear h1 hin
  go_wp2_with fail
  go_at_call 52
  rw [← hwA, ← hg]
  clear hwA hg
  refine (below_s HA.out i HI2.out _ (by decide) (by decide)).mono ?_
  rintro e w2 ⟨x, rfl, ⟨hx0, hx1⟩, h2⟩
  by_cases hx : x = 0
  · subst hx
    go_wp2_with fail
    go_at_call 52
    refine (below_s h2 i HI2.out _ (by decide) (by decide)).mono ?_
    rintro e w3 ⟨v, rfl, ⟨hv0, hv1⟩, h3⟩
    clear h2
    obtain ⟨⟨z0, z1, z2, f0, f1, f2⟩, y0, y1, y2, e0, e1, e2⟩ := two_facts h3
    have HE := Lib.hid h3
    clear h3
    go_wp2_with fail
    refine bodyPost_ret (v := K.v ⟨v, n, s⟩) (by simp [results, Try.results38, go_sem, K.v, z0, z1, z2]) rfl ?_
    exact ⟨_, rfl, ⟨by show 0 ≤ v; omega, by show v ≤ 5; omega, by show _ ≤ n; omega, by show n ≤ _; omega, by show (s).size ≤ 13; omega⟩, box_end (drop1 (put_last HE.out 0 (.int .i64 v))) _ _ _⟩
  · have hx' : (x == 0) = false := by simp [hx]
    by_cases hy : x = 1
    · subst hy
      go_wp2_with fail
      go_at_call 53
      refine (int_sg h2 i HI2.out [-1000000000001, 1000000000001, 5] (fun n => -1000000000001 ≤ n ∧ n ≤ 1000000000001) (by decide) 3 rfl (by decide) (by decide) _ rfl).mono ?_
      rintro e w3 ⟨v, rfl, ⟨hv0, hv1⟩, h3⟩
      clear h2
      obtain ⟨⟨z0, z1, z2, f0, f1, f2⟩, y0, y1, y2, e0, e1, e2⟩ := two_facts h3
      have HE := Lib.hid h3
      clear h3
      go_wp2_with fail
      refine bodyPost_ret (v := K.v ⟨kd, v, s⟩) (by simp [results, Try.results38, go_sem, K.v, z0, z1, z2]) rfl ?_
      exact ⟨_, rfl, ⟨by show 0 ≤ kd; omega, by show kd ≤ 5; omega, by show _ ≤ v; omega, by show v ≤ _; omega, by show (s).size ≤ 13; omega⟩, box_end (drop1 (put_last HE.out 1 (.int .i64 v))) _ _ _⟩
    · have hy' : (x == 1) = false := by simp [hy]
      by_cases hz : x = 2
      · subst hz
        go_wp2_with fail
        go_at_call 54
        refine (str_sg h2 i HI2.out [⟨#[65]⟩, ⟨#[97, 32, 98]⟩, ⟨#[97, 98, 99, 100, 101, 102, 103, 104, 105, 106, 107, 108, 109]⟩, ⟨#[120, 39]⟩] (fun s => s.size ≤ 13) (by decide) 4 rfl (by decide) (by decide) _ rfl).mono ?_
        rintro e w3 ⟨v, rfl, hv, h3⟩
        clear h2
        obtain ⟨⟨z0, z1, z2, f0, f1, f2⟩, y0, y1, y2, e0, e1, e2⟩ := two_facts h3
        have HE := Lib.hid h3
        clear h3
        go_wp2_with fail
        refine bodyPost_ret (v := K.v ⟨kd, n, v⟩) (by simp [results, Try.results38, go_sem, K.v, z0, z1, z2]) rfl ?_
        exact ⟨_, rfl, ⟨by show 0 ≤ kd; omega, by show kd ≤ 5; omega, by show _ ≤ n; omega, by show n ≤ _; omega, by show (v).size ≤ 13; omega⟩, box_end (drop1 (put_last HE.out 2 (.string v))) _ _ _⟩
      · have hz' : (x == 2) = false := by simp [hz]
        obtain ⟨⟨z0, z1, z2, f0, f1, f2⟩, y0, y1, y2, e0, e1, e2⟩ := two_facts h2
        have HE := Lib.hid h2
        clear h2
        go_wp2_with fail
        refine bodyPost_ret (v := K.v ⟨kd, n, s⟩) (by simp [results, Try.results38, go_sem, K.v, z0, z1, z2]) rfl ?_
        exact ⟨_, rfl, ⟨by show 0 ≤ kd; omega, by show kd ≤ 5; omega, by show _ ≤ n; omega, by show n ≤ _; omega, by show (s).size ≤ 13; omega⟩, box_end (drop1 (HE.out)) _ _ _⟩
end
end Go.Proofs.Ytenmdecooamaaaa.Sd
