/-
  Chapter 4's draws over several things that lie apart: l4Number, l4Key, l4Any, l4Small and what draws them. No condition but that the code is a slice of bytes of at most 2^62 places.
-/
import Derived.Test.YtenmdecooamaaaaDoorSd2
import Derived.Test.YtenmdecooamaaaaDoorL4Dec
import Derived.Test.YtenmdecooamaaaaDoorL4Open
import Derived.Deep.RegionWith
namespace Go.Proofs.YtenmdecooamaaaaDoor.Sd
open Go.ChangeShapes Go.WideShapes Go.ChangeAt Go.RowKit Mem Sl Ex Draw L2 L4
set_option linter.unusedVariables false

section
variable {W w : World} {rs : List Res} {g : Nat} {t : TypeId} {cs : Array Value}
theorem put_box (h : Sep W w rs) (i : Nat) (hi : rs[i]? = some (boxR g t cs)) (j : Nat) (v : Value) : Sep W (w.setCell ⟨g, j, none⟩ v) (rs.set i (boxR g t (cs.setIfInBounds j v))) :=
  h.put i hi (Turned.of_grown (grownBy_put w g j v)) ((box_at h i hi).put j v) (fun b hb => hb)
theorem box_end (h : Sep W w (rs ++ [boxR g t cs])) (x y z : Value) : Sep W (((w.setCell ⟨g, 0, none⟩ x).setCell ⟨g, 1, none⟩ y).setCell ⟨g, 2, none⟩ z) rs := by
  have h1 := put_box h rs.length (at_last _ _) 0 x
  rw [set_last] at h1
  have h2 := put_box h1 rs.length (at_last _ _) 1 y
  rw [set_last] at h2
  have h3 := put_box h2 rs.length (at_last _ _) 2 z
  rw [set_last] at h3
  have h4 := drop (ts := []) h3
  rwa [List.append_nil] at h4
theorem box_facts {x y z : Value} (h : Sep W w (rs ++ [boxR g t #[x, y, z]])) : w.cell? ⟨g, 0, none⟩ = some x ∧ w.cell? ⟨g, 1, none⟩ = some y ∧ w.cell? ⟨g, 2, none⟩ = some z ∧ w.frozen? ⟨g, 0, none⟩ = false ∧ w.frozen? ⟨g, 1, none⟩ = false ∧ w.frozen? ⟨g, 2, none⟩ = false := Row.facts3 (box_at h rs.length (at_last _ _))
end

theorem good1 {n : Int} (h0 : -1000000000000 ≤ n) (h1 : n ≤ 1000000000000) : L4.Good ⟨1, n, ⟨#[]⟩⟩ := ⟨by show (1 : Int) ≤ 1; decide, by show (1 : Int) ≤ 3; decide, h0, h1, by intro h; simp at h, rfl, fun _ => rfl⟩
theorem good2 {s : ByteArray} (h : isT s.data.toList = true) : L4.Good ⟨2, 0, s⟩ := ⟨by show (1 : Int) ≤ 2; decide, by show (2 : Int) ≤ 3; decide, by show (-1000000000000 : Int) ≤ 0; decide, by show (0 : Int) ≤ 1000000000000; decide, fun _ => rfl, h, by intro h; simp at h⟩
theorem good3 {n : Int} {s : ByteArray} (h0 : -1000000000000 ≤ n) (h1 : n ≤ 1000000000000) (h : isT s.data.toList = true) : L4.Good ⟨3, n, s⟩ := ⟨by show (1 : Int) ≤ 3; decide, by show (3 : Int) ≤ 3; decide, h0, h1, by intro h; simp at h, h, by intro h; simp at h⟩
theorem two_facts {W w : World} {rs : List Res} {g g2 : Nat} {t t2 : TypeId} {x y z : Value} {x2 y2 z2 : Value} (h : Sep W w ((rs ++ [boxR g t #[x, y, z]]) ++ [boxR g2 t2 #[x2, y2, z2]])) : (w.cell? ⟨g, 0, none⟩ = some x ∧ w.cell? ⟨g, 1, none⟩ = some y ∧ w.cell? ⟨g, 2, none⟩ = some z ∧ w.frozen? ⟨g, 0, none⟩ = false ∧ w.frozen? ⟨g, 1, none⟩ = false ∧ w.frozen? ⟨g, 2, none⟩ = false) ∧ (w.cell? ⟨g2, 0, none⟩ = some x2 ∧ w.cell? ⟨g2, 1, none⟩ = some y2 ∧ w.cell? ⟨g2, 2, none⟩ = some z2 ∧ w.frozen? ⟨g2, 0, none⟩ = false ∧ w.frozen? ⟨g2, 1, none⟩ = false ∧ w.frozen? ⟨g2, 2, none⟩ = false) :=
  ⟨Row.facts3 (box_at h rs.length (at_left (at_last _ _))), box_facts h⟩
theorem drop1 {W w : World} {rs : List Res} {r : Res} (h : Sep W w (rs ++ [r])) : Sep W w rs := by
  have h4 := drop (ts := []) h
  rwa [List.append_nil] at h4
theorem put_last {W w : World} {rs : List Res} {g : Nat} {t : TypeId} {cs : Array Value} (h : Sep W w (rs ++ [boxR g t cs])) (j : Nat) (v : Value) : Sep W (w.setCell ⟨g, j, none⟩ v) (rs ++ [boxR g t (cs.setIfInBounds j v)]) := by
  have h1 := put_box h rs.length (at_last _ _) j v
  rwa [set_last] at h1

theorem put_r {W w : World} {rs ts : List Res} {g : Nat} {t : TypeId} {cs : Array Value} (h : Sep W w (rs ++ ts)) (i : Nat) (hi : ts[i]? = some (boxR g t cs)) (j : Nat) (v : Value) : Sep W (w.setCell ⟨g, j, none⟩ v) (rs ++ ts.set i (boxR g t (cs.setIfInBounds j v))) := by
  have h1 := put_box h (rs.length + i) (by rw [List.getElem?_append_right (by omega)]; simpa using hi) j v
  rwa [List.set_append_right _ _ (by omega), Nat.add_sub_cancel_left] at h1
theorem let_go {W w : World} {rs : List Res} : ∀ {ts : List Res}, Sep W w (rs ++ ts) → Sep W w rs
  | [], h => by rwa [List.append_nil] at h
  | _ :: _, h => let_go (drop h)
theorem put3 {W w : World} {rs ts : List Res} {g : Nat} {t : TypeId} {a b c : Value} (h : Sep W w (rs ++ ts)) (i : Nat) (hi : ts[i]? = some (boxR g t #[a, b, c])) (x y z : Value) : Sep W (((w.setCell ⟨g, 0, none⟩ x).setCell ⟨g, 1, none⟩ y).setCell ⟨g, 2, none⟩ z) (rs ++ ts.set i (boxR g t #[x, y, z])) := by
  have hl : i < ts.length := (List.getElem?_eq_some_iff.1 hi).1
  have h1 := put_r (put_r (put_r h i hi 0 x) i (by rw [List.getElem?_set_self hl]) 1 y) i (by rw [List.getElem?_set_self (by simpa using hl)]) 2 z
  rwa [List.set_set, List.set_set] at h1
theorem r_facts {W w : World} {rs ts : List Res} {g : Nat} {t : TypeId} {x y z : Value} (h : Sep W w (rs ++ ts)) (i : Nat) (hi : ts[i]? = some (boxR g t #[x, y, z])) : w.cell? ⟨g, 0, none⟩ = some x ∧ w.cell? ⟨g, 1, none⟩ = some y ∧ w.cell? ⟨g, 2, none⟩ = some z ∧ w.frozen? ⟨g, 0, none⟩ = false ∧ w.frozen? ⟨g, 1, none⟩ = false ∧ w.frozen? ⟨g, 2, none⟩ = false :=
  Row.facts3 (box_at h (rs.length + i) (by rw [List.getElem?_append_right (by omega)]; simpa using hi))
/-- Boxes that lie apart have different numbers. -/
theorem r_apart {W w : World} {rs ts : List Res} {g g2 : Nat} {t t2 : TypeId} {cs cs2 : Array Value} (h : Sep W w (rs ++ ts)) (i j : Nat) (hi : ts[i]? = some (boxR g t cs)) (hj : ts[j]? = some (boxR g2 t2 cs2)) (hne : i ≠ j) : g ≠ g2 := fun e =>
  h.apart (rs.length + i) (rs.length + j) _ _ (by rw [List.getElem?_append_right (by omega)]; simpa using hi) (by rw [List.getElem?_append_right (by omega)]; simpa using hj) (by omega) g (by simp [boxR]) (by simp [boxR, e])

section
variable {W w : World} {rs : List Res} {c : Nat}
theorem str_sg (h : Sep W w rs) (i : Nat) (hi : rs[i]? = some (curR W c)) (l : List ByteArray) (P : ByteArray → Prop) (hP : ∀ v ∈ l, P v) (n : Nat) (hn : n = l.length) (h1 : 1 ≤ n) (h2 : n ≤ 1000) (g : Nat) (hg : g = w.heap.size) :
    Calls Tryd.prog 33 #[.pointer (some ⟨c, 0, none⟩), .slice (some ⟨g, 0, none⟩) n n] (w.alloc (.cells (l.map Value.string).toArray 9)) fun e w' => ∃ s, e = .returned (.string s) ∧ P s ∧ Sep W w' rs := by
  subst hn
  subst hg
  exact (l1Str_on w.heap.size l.length h1 h2 (strs_lit w 9 l P hP) (by simp) (fun e => by have := (cur_on h i hi).lt; omega) (cur_on (h.alloc _) i hi)).mono fun _ _ ⟨s, he, hs, ho⟩ => ⟨s, he, hs, moved (h.alloc _) i hi ho⟩
theorem int_sg (h : Sep W w rs) (i : Nat) (hi : rs[i]? = some (curR W c)) (l : List Int) (Q : Int → Prop) (hQ : ∀ v ∈ l, Q v) (n : Nat) (hn : n = l.length) (h1 : 1 ≤ n) (h2 : n ≤ 1000) (g : Nat) (hg : g = w.heap.size) :
    Calls Tryd.prog 50 #[.pointer (some ⟨c, 0, none⟩), .slice (some ⟨g, 0, none⟩) n n] (w.alloc (.cells (l.map (Value.int .i64)).toArray 3)) fun e w' => ∃ r, e = .returned (.int .i64 r) ∧ Q r ∧ Sep W w' rs := by
  subst hn
  subst hg
  exact int_s h i hi l Q hQ h1 h2
theorem number_s (h : Sep W w rs) (i : Nat) (hi : rs[i]? = some (curR W c)) :
    Calls Tryd.prog 41 #[.pointer (some ⟨c, 0, none⟩)] w fun e w' => ∃ n, e = .returned (.int .i64 n) ∧ (-1000000000000 ≤ n ∧ n ≤ 1000000000000) ∧ Sep W w' rs := by
  have H := Lib.hid h
  have HI := Lib.hid hi
  clear h hi
  go_enter Tryd.func41, Tryd.ntmps41
  go_wp2_with fail
  go_at_call 40
  refine (below_s H.out i HI.out _ (by decide) (by decide)).mono ?_
  rintro e w1 ⟨x, rfl, ⟨hx0, hx1⟩, h1⟩
  go_wp2_with fail
  go_at_call 50
  refine (int_sg h1 i HI.out [0, 1, 2, -1, 255, 256, -1000000000000, 1000000000000, x] (fun n => -1000000000000 ≤ n ∧ n ≤ 1000000000000) (by intro v hv; simp at hv; omega) 9 rfl (by decide) (by decide) _ rfl).mono ?_
  rintro e w2 ⟨n, rfl, hn, h2⟩
  go_wp2_with fail
  go_ret
  exact ⟨_, rfl, hn, h2⟩
theorem key_s (h : Sep W w rs) (i : Nat) (hi : rs[i]? = some (curR W c)) :
    Calls Tryd.prog 22 #[.pointer (some ⟨c, 0, none⟩)] w fun e w' => ∃ k : K, e = .returned k.v ∧ (L4.Good k ∧ k.text.size ≤ 12) ∧ Sep W w' rs := by
  have H := Lib.hid (push_box h 25 #[.int .i64 0, .int .i64 0, .string ⟨#[]⟩] w.heap.size rfl)
  have HI := Lib.hid (at_left (m := [boxR w.heap.size 25 #[.int .i64 0, .int .i64 0, .string ⟨#[]⟩]]) hi)
  clear h hi
  go_enter Tryd.func22, Tryd.ntmps22
  go_wp2_with fail
  go_at_call 33
  refine (str_sg H.out i HI.out [⟨#[]⟩, ⟨#[97]⟩, ⟨#[97, 98]⟩, ⟨#[98]⟩, ⟨#[122, 57]⟩, ⟨#[97, 98, 99, 100, 101, 102, 103, 104, 105, 106, 107, 108]⟩] (fun s => isT s.data.toList = true ∧ s.size ≤ 12) (by decide) 6 rfl (by decide) (by decide) _ (by simp)).mono ?_
  rintro e w1 ⟨s, rfl, ⟨hs, hs2⟩, h1⟩
  have HS := Lib.hid hs
  clear hs
  go_wp2_with fail
  go_at_call 40
  refine (below_s h1 i HI.out _ (by decide) (by decide)).mono ?_
  rintro e w2 ⟨x, rfl, ⟨hx0, hx1⟩, h2⟩
  clear h1
  by_cases hx : x = 0
  · subst hx
    obtain ⟨z0, z1, z2, f0, f1, f2⟩ := box_facts h2
    have HE := Lib.hid h2
    clear h2
    go_wp2_with fail
    refine bodyPost_ret (v := K.v ⟨2, 0, s⟩) (by simp [results, Tryd.results22, go_sem, K.v, z0, z1, z2]) rfl ?_
    exact ⟨_, rfl, ⟨good2 HS.out, hs2⟩, box_end HE.out _ _ _⟩
  · have hx' : (x == 0) = false := by simp [hx]
    by_cases hy : x = 1
    · subst hy
      go_wp2_with fail
      go_at_call 41
      refine (number_s h2 i HI.out).mono ?_
      rintro e w3 ⟨n, rfl, ⟨hn0, hn1⟩, h3⟩
      clear h2
      obtain ⟨z0, z1, z2, f0, f1, f2⟩ := box_facts h3
      have HE := Lib.hid h3
      clear h3
      go_wp2_with fail
      refine bodyPost_ret (v := K.v ⟨3, n, s⟩) (by simp [results, Tryd.results22, go_sem, K.v, z0, z1, z2]) rfl ?_
      exact ⟨_, rfl, ⟨good3 hn0 hn1 HS.out, hs2⟩, box_end HE.out _ _ _⟩
    · have hy' : (x == 1) = false := by simp [hy]
      go_wp2_with fail
      go_at_call 41
      refine (number_s h2 i HI.out).mono ?_
      rintro e w3 ⟨n, rfl, ⟨hn0, hn1⟩, h3⟩
      clear h2
      obtain ⟨z0, z1, z2, f0, f1, f2⟩ := box_facts h3
      have HE := Lib.hid h3
      clear h3
      go_wp2_with fail
      refine bodyPost_ret (v := K.v ⟨1, n, ⟨#[]⟩⟩) (by simp [results, Tryd.results22, go_sem, K.v, z0, z1, z2]) rfl ?_
      exact ⟨_, rfl, ⟨good1 hn0 hn1, by show (⟨#[]⟩ : ByteArray).size ≤ 12; decide⟩, box_end HE.out _ _ _⟩
/-- Some key: nearly valid or valid. -/
def Some (k : K) : Prop := 0 ≤ k.kind ∧ k.kind ≤ 5 ∧ -1000000000001 ≤ k.n ∧ k.n ≤ 1000000000001 ∧ k.text.size ≤ 13
theorem any_s (h : Sep W w rs) (i : Nat) (hi : rs[i]? = some (curR W c)) :
    Calls Tryd.prog 34 #[.pointer (some ⟨c, 0, none⟩)] w fun e w' => ∃ k : K, e = .returned k.v ∧ Some k ∧ Sep W w' rs := by
  have H := Lib.hid (push_box h 25 #[.int .i64 0, .int .i64 0, .string ⟨#[]⟩] w.heap.size rfl)
  have HI := Lib.hid (at_left (m := [boxR w.heap.size 25 #[.int .i64 0, .int .i64 0, .string ⟨#[]⟩]]) hi)
  clear h hi
  go_enter Tryd.func34, Tryd.ntmps34
  go_wp2_with fail
  go_at_call 22
  refine (key_s H.out i HI.out).mono ?_
  rintro e w1 ⟨⟨kd, n, s⟩, rfl, ⟨hg, hs⟩, h1⟩
  have hb : 1 ≤ kd ∧ kd ≤ 3 ∧ -1000000000000 ≤ n ∧ n ≤ 1000000000000 := ⟨hg.k0, hg.k1, hg.n0, hg.n1⟩
  obtain ⟨k0, k1, n0, n1⟩ := hb
  have hs' : s.size ≤ 12 := hs
  clear hg hs
  simp only [K.v]
  obtain ⟨g, hg⟩ : ∃ g, g = w1.heap.size := ⟨_, rfl⟩
  obtain ⟨wA, hwA⟩ : ∃ u, u = w1.alloc (.cells #[.int .i64 kd, .int .i64 n, .string s] 25) := ⟨_, rfl⟩
  have HA := Lib.hid (show Sep W wA _ by rw [hwA]; exact push_box h1 25 #[.int .i64 kd, .int .i64 n, .string s] g hg)
  have HI2 := Lib.hid (at_left (m := [boxR g 25 #[.int .i64 kd, .int .i64 n, .string s]]) HI.out)
  have hin := (box_at h1 rs.length (at_last _ _)).inside
  have hne : ¬ g = w.heap.size := by omega
  have hne2 : ¬ w.heap.size = g := by omega
  clear h1 hin
  go_wp2_with fail
  go_at_call 40
  rw [← hwA, ← hg]
  clear hwA hg
  refine (below_s HA.out i HI2.out _ (by decide) (by decide)).mono ?_
  rintro e w2 ⟨x, rfl, ⟨hx0, hx1⟩, h2⟩
  by_cases hx : x = 0
  · subst hx
    go_wp2_with fail
    go_at_call 40
    refine (below_s h2 i HI2.out _ (by decide) (by decide)).mono ?_
    rintro e w3 ⟨v, rfl, ⟨hv0, hv1⟩, h3⟩
    clear h2
    obtain ⟨⟨z0, z1, z2, f0, f1, f2⟩, y0, y1, y2, e0, e1, e2⟩ := two_facts h3
    have HE := Lib.hid h3
    clear h3
    go_wp2_with fail
    refine bodyPost_ret (v := K.v ⟨v, n, s⟩) (by simp [results, Tryd.results34, go_sem, K.v, z0, z1, z2]) rfl ?_
    exact ⟨_, rfl, ⟨by show 0 ≤ v; omega, by show v ≤ 5; omega, by show _ ≤ n; omega, by show n ≤ _; omega, by show (s).size ≤ 13; omega⟩, box_end (drop1 (put_last HE.out 0 (.int .i64 v))) _ _ _⟩
  · have hx' : (x == 0) = false := by simp [hx]
    by_cases hy : x = 1
    · subst hy
      go_wp2_with fail
      go_at_call 50
      refine (int_sg h2 i HI2.out [-1000000000001, 1000000000001, 5] (fun n => -1000000000001 ≤ n ∧ n ≤ 1000000000001) (by decide) 3 rfl (by decide) (by decide) _ rfl).mono ?_
      rintro e w3 ⟨v, rfl, ⟨hv0, hv1⟩, h3⟩
      clear h2
      obtain ⟨⟨z0, z1, z2, f0, f1, f2⟩, y0, y1, y2, e0, e1, e2⟩ := two_facts h3
      have HE := Lib.hid h3
      clear h3
      go_wp2_with fail
      refine bodyPost_ret (v := K.v ⟨kd, v, s⟩) (by simp [results, Tryd.results34, go_sem, K.v, z0, z1, z2]) rfl ?_
      exact ⟨_, rfl, ⟨by show 0 ≤ kd; omega, by show kd ≤ 5; omega, by show _ ≤ v; omega, by show v ≤ _; omega, by show (s).size ≤ 13; omega⟩, box_end (drop1 (put_last HE.out 1 (.int .i64 v))) _ _ _⟩
    · have hy' : (x == 1) = false := by simp [hy]
      by_cases hz : x = 2
      · subst hz
        go_wp2_with fail
        go_at_call 33
        refine (str_sg h2 i HI2.out [⟨#[65]⟩, ⟨#[97, 32, 98]⟩, ⟨#[97, 98, 99, 100, 101, 102, 103, 104, 105, 106, 107, 108, 109]⟩, ⟨#[120, 39]⟩] (fun s => s.size ≤ 13) (by decide) 4 rfl (by decide) (by decide) _ rfl).mono ?_
        rintro e w3 ⟨v, rfl, hv, h3⟩
        clear h2
        obtain ⟨⟨z0, z1, z2, f0, f1, f2⟩, y0, y1, y2, e0, e1, e2⟩ := two_facts h3
        have HE := Lib.hid h3
        clear h3
        go_wp2_with fail
        refine bodyPost_ret (v := K.v ⟨kd, n, v⟩) (by simp [results, Tryd.results34, go_sem, K.v, z0, z1, z2]) rfl ?_
        exact ⟨_, rfl, ⟨by show 0 ≤ kd; omega, by show kd ≤ 5; omega, by show _ ≤ n; omega, by show n ≤ _; omega, by show (v).size ≤ 13; omega⟩, box_end (drop1 (put_last HE.out 2 (.string v))) _ _ _⟩
      · have hz' : (x == 2) = false := by simp [hz]
        obtain ⟨⟨z0, z1, z2, f0, f1, f2⟩, y0, y1, y2, e0, e1, e2⟩ := two_facts h2
        have HE := Lib.hid h2
        clear h2
        go_wp2_with fail
        refine bodyPost_ret (v := K.v ⟨kd, n, s⟩) (by simp [results, Tryd.results34, go_sem, K.v, z0, z1, z2]) rfl ?_
        exact ⟨_, rfl, ⟨by show 0 ≤ kd; omega, by show kd ≤ 5; omega, by show _ ≤ n; omega, by show n ≤ _; omega, by show (s).size ≤ 13; omega⟩, box_end (drop1 (HE.out)) _ _ _⟩
set_option maxHeartbeats 4000000 in
theorem drawThreeKeys_s {a : Option Addr} {len : Nat} (cap : Nat) (hl : len ≤ 4611686018427387904) (hby : Bytes W W.heap.size a len) (h : Sep W w rs) :
    Calls Tryd.prog 7 #[.slice a len cap] w fun e w' => ∃ k1 k2 k3 : K, e = .returned (.tuple #[k1.v, k2.v, k3.v]) ∧ ((L4.Good k1 ∧ k1.text.size ≤ 12) ∧ (L4.Good k2 ∧ k2.text.size ≤ 12) ∧ L4.Good k3 ∧ k3.text.size ≤ 12) ∧ Sep W w' rs := by
  obtain ⟨wA, hwA⟩ : ∃ u, u = ((w.alloc (.cells #[.int .i64 0, .int .i64 0, .string ⟨#[]⟩] 25)).alloc (.cells #[.int .i64 0, .int .i64 0, .string ⟨#[]⟩] 25)).alloc (.cells #[.int .i64 0, .int .i64 0, .string ⟨#[]⟩] 25) := ⟨_, rfl⟩
  have HA := Lib.hid (show Sep W wA (rs ++ [boxR w.heap.size 25 #[.int .i64 0, .int .i64 0, .string ⟨#[]⟩], boxR (w.heap.size + 1) 25 #[.int .i64 0, .int .i64 0, .string ⟨#[]⟩], boxR (w.heap.size + 1 + 1) 25 #[.int .i64 0, .int .i64 0, .string ⟨#[]⟩]]) by
    have := push_box (push_box (push_box h 25 #[.int .i64 0, .int .i64 0, .string ⟨#[]⟩] _ rfl) 25 #[.int .i64 0, .int .i64 0, .string ⟨#[]⟩] (w.heap.size + 1) (by simp)) 25 #[.int .i64 0, .int .i64 0, .string ⟨#[]⟩] (w.heap.size + 1 + 1) (by simp)
    rw [hwA]
    simpa [List.append_assoc] using this)
  have HL := Lib.hid (And.intro hl hby)
  clear h hl hby
  obtain ⟨RS, hRS⟩ : ∃ RS, RS = (rs ++ [boxR w.heap.size 25 #[.int .i64 0, .int .i64 0, .string ⟨#[]⟩], boxR (w.heap.size + 1) 25 #[.int .i64 0, .int .i64 0, .string ⟨#[]⟩], boxR (w.heap.size + 1 + 1) 25 #[.int .i64 0, .int .i64 0, .string ⟨#[]⟩]]) := ⟨_, rfl⟩
  rw [← hRS] at HA
  have HRS := Lib.hid hRS
  clear hRS
  go_enter Tryd.func7, Tryd.ntmps7
  go_wp2_with fail
  go_at_call 21
  rw [← hwA]
  clear hwA
  refine (new_s HA.out a len cap HL.out.1 HL.out.2).mono ?_
  rintro e w1 ⟨c, rfl, h1⟩
  go_wp2_with fail
  go_at_call 22
  refine (key_s h1 RS.length (at_last _ _)).mono ?_
  rintro e w2 ⟨⟨kd1, n1, s1⟩, rfl, g1, h2⟩
  have HG1 := Lib.hid g1
  clear h1 g1
  simp only [K.v]
  obtain ⟨B1, hB1⟩ : ∃ g, g = w2.heap.size := ⟨_, rfl⟩
  have h3 := push_box h2 25 #[.int .i64 kd1, .int .i64 n1, .string s1] B1 hB1
  go_wp2_with fail
  go_at_call 22
  rw [← hB1]
  refine (key_s h3 RS.length (at_left (at_last _ _))).mono ?_
  rintro e w4 ⟨⟨kd2, n2, s2⟩, rfl, g2, h4⟩
  have HG2 := Lib.hid g2
  clear h2 h3 g2 hB1
  simp only [K.v]
  obtain ⟨B2, hB2⟩ : ∃ g, g = w4.heap.size := ⟨_, rfl⟩
  obtain ⟨wB, hwB⟩ : ∃ u, u = w4.alloc (.cells #[.int .i64 kd2, .int .i64 n2, .string s2] 25) := ⟨_, rfl⟩
  have h5 := push_box h4 25 #[.int .i64 kd2, .int .i64 n2, .string s2] B2 hB2
  rw [← hwB] at h5
  replace h5 := (show Sep W wB (rs ++ ([boxR w.heap.size 25 #[.int .i64 0, .int .i64 0, .string ⟨#[]⟩], boxR (w.heap.size + 1) 25 #[.int .i64 0, .int .i64 0, .string ⟨#[]⟩], boxR (w.heap.size + 1 + 1) 25 #[.int .i64 0, .int .i64 0, .string ⟨#[]⟩], curR W c, boxR B1 25 #[.int .i64 kd1, .int .i64 n1, .string s1], boxR B2 25 #[.int .i64 kd2, .int .i64 n2, .string s2]])) by rw [HRS.out] at h5; simpa [List.append_assoc] using h5)
  go_wp2_with fail
  rw [← hwB, ← hB2]
  clear h4 hwB hB2
  obtain ⟨y0, y1, y2, e0, e1, e2⟩ := r_facts h5 4 rfl
  obtain ⟨v0, v1, v2, d0, d1, d2⟩ := r_facts h5 5 rfl
  have a1 := r_apart h5 0 4 rfl rfl (by decide)
  have a2 := r_apart h5 1 4 rfl rfl (by decide)
  have a3 := r_apart h5 2 4 rfl rfl (by decide)
  have b1 := r_apart h5 0 5 rfl rfl (by decide)
  have b2 := r_apart h5 1 5 rfl rfl (by decide)
  have b3 := r_apart h5 2 5 rfl rfl (by decide)
  set_option maxHeartbeats 1000000 in
  go_region_with (first | (go_at_call 22; refine (key_s (drew_s h5) (rs.length + 3) (by simp)).mono ?_; rintro e w6 ⟨⟨kd3, n3, s3⟩, rfl, g3, h6⟩; simp only [K.v]; have HG3 := Lib.hid g3; clear g3; obtain ⟨y0', y1', y2', e0', e1', e2'⟩ := r_facts h6 4 rfl; obtain ⟨v0', v1', v2', d0', d1', d2'⟩ := r_facts h6 5 rfl; obtain ⟨z0, z1, z2, f0, f1, f2⟩ := r_facts h6 0 rfl; obtain ⟨x0, x1, x2, i0, i1, i2⟩ := r_facts h6 1 rfl; obtain ⟨q0, q1, q2, m0, m1, m2⟩ := r_facts h6 2 rfl))
  all_goals
    have HE := Lib.hid h6
    clear h5 h6
    go_wp2_with fail
    refine bodyPost_ret (v := .tuple #[K.v ⟨kd1, n1, s1⟩, K.v ⟨kd2, n2, s2⟩, K.v ⟨kd3, n3, s3⟩]) (by simp [results, Tryd.results7, go_sem, K.v, z0, z1, z2, x0, x1, x2, q0, q1, q2]) rfl ?_
    exact ⟨_, _, _, rfl, ⟨HG1.out, HG2.out, HG3.out⟩, let_go (put3 (put3 (put3 HE.out 0 rfl _ _ _) 1 rfl _ _ _) 2 rfl _ _ _)⟩
end
end Go.Proofs.YtenmdecooamaaaaDoor.Sd
