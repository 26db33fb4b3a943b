/-
  Chapter 5's draws over several things that lie apart: l5Name, l5Record. No condition but that the code is a slice of bytes of at most 2^62 places.
-/
import Derived.Test.YtephiilicebdcaaPb
import Derived.Test.YtephiilicebdcaaL5Iq
import Derived.Test.YtephiilicebdcaaL5Gm
import Derived.Test.YtephiilicebdcaaL5Rd
import Derived.Deep.RegionWith
namespace Go.Proofs.Ytephiilicebdcaa.L5
set_option maxRecDepth 100000
open L4 (boxR push_box box_at)
open Go.ChangeShapes Go.WideShapes Go.ChangeAt Go.RowKit Mem Sl Ex Draw L2 Sv
open Sd (curR at_left below_s once_s new_s str_sg int_sg drew_s cur_on moved put_r let_go drop gave)
set_option linter.unusedVariables false
set_option linter.unusedSimpArgs false

/-! ### things behind others -/
section
variable {W w w' : World} {rs ts us : List Res} {g : Nat} {t : TypeId} {cs : Array Value} {e : TypeId} {k : Nat} {a : Option Addr} {c n : Nat} {xs : List Value}
theorem at_r {α : Type} {l m : List α} {i : Nat} {x : α} (h : m[i]? = some x) : (l ++ m)[l.length + i]? = some x := by
  rw [List.getElem?_append_right (by omega)]
  simpa using h
theorem none_r (h : Sep W w rs) : Sep W w (rs ++ []) := by rwa [List.append_nil]
theorem end_r (h : Sep W w (rs ++ [])) : Sep W w rs := by rwa [List.append_nil] at h
theorem one_r {x : Value} (h : Sep W w (rs ++ ts)) (i : Nat) (hi : ts[i]? = some (boxR g t #[x])) : w.cell? ⟨g, 0, none⟩ = some x ∧ w.frozen? ⟨g, 0, none⟩ = false := Row.one (box_at h (rs.length + i) (at_r hi))
theorem own_r (h : Sep W w (rs ++ ts)) (i : Nat) (hi : ts[i]? = some (ownV e k a c n xs)) : OwnV w 0 e k a c n xs := own_at h (rs.length + i) (at_r hi)
theorem push_r (h : Sep W w (rs ++ ts)) (hb : Below w.heap.size w w') (ho : OwnV w' w.heap.size e k a c n xs) : Sep W w' (rs ++ (ts ++ [ownV e k a c n xs])) := by
  have := push_own h hb ho
  rwa [List.append_assoc] at this
theorem box_r (h : Sep W w (rs ++ ts)) (t : TypeId) (cs : Array Value) (g : Nat) (hg : g = w.heap.size) : Sep W (w.alloc (.cells cs t)) (rs ++ (ts ++ [boxR g t cs])) := by
  have := push_box h t cs g hg
  rwa [List.append_assoc] at this
/-- Some of the things behind, in whatever order. -/
theorem take_r (h : Sep W w (rs ++ ts)) (is : List Nat) (he : is.map (fun i => ts[i]?) = us.map some) (hd : is.Nodup) : Sep W w (rs ++ us) := by
  have hl : is.length = us.length := by simpa using congrArg List.length he
  have at_ : ∀ i r, us[i]? = some r → ts[is.getD i 0]? = some r := fun i r hr => by
    have hi : i < us.length := (List.getElem?_eq_some_iff.1 hr).1
    have h2 := congrArg (fun l => l[i]?) he
    simp only [List.getElem?_map, List.getElem?_eq_getElem (show i < is.length by omega), hr, Option.map_some] at h2
    rw [List.getD_eq_getElem?_getD, List.getElem?_eq_getElem (show i < is.length by omega)]
    simpa using h2
  refine sep_sub h (fun i => if i < rs.length then i else rs.length + is.getD (i - rs.length) 0) (fun i r hr => ?_) (fun i j hi hj e => ?_)
  · by_cases hlt : i < rs.length
    · rw [if_pos hlt, List.getElem?_append_left hlt]
      rw [List.getElem?_append_left hlt] at hr
      exact hr
    · rw [if_neg hlt]
      rw [List.getElem?_append_right (by omega)] at hr
      exact at_r (at_ _ _ hr)
  · rw [List.length_append] at hi hj
    by_cases h1 : i < rs.length <;> by_cases h2 : j < rs.length
    · rw [if_pos h1, if_pos h2] at e; exact e
    · rw [if_pos h1, if_neg h2] at e; omega
    · rw [if_neg h1, if_pos h2] at e; omega
    · rw [if_neg h1, if_neg h2] at e
      have e2 : is.getD (i - rs.length) 0 = is.getD (j - rs.length) 0 := by omega
      simp only [List.getD_eq_getElem?_getD, List.getElem?_eq_getElem (show i - rs.length < is.length by omega), List.getElem?_eq_getElem (show j - rs.length < is.length by omega), Option.getD_some] at e2
      have := (List.getElem_inj hd).1 e2
      omega
end

/-! ### a literal of strings or numbers that lies among the things -/
section
variable {W w : World} {rs : List Res} {c g : Nat} {t : TypeId} {cs : Array Value}
theorem strB_s (h : Sep W w rs) (i : Nat) (hi : rs[i]? = some (curR W c)) (j : Nat) (hj : rs[j]? = some (boxR g t cs)) (hij : i ≠ j) (l : List ByteArray) (hcs : cs = (l.map Value.string).toArray) (P : ByteArray → Prop) (hP : ∀ v ∈ l, P v) (n : Nat) (hn : n = l.length) (h1 : 1 ≤ n) (h2 : n ≤ 1000) :
    Calls Try.prog 31 #[.pointer (some ⟨c, 0, none⟩), .slice (some ⟨g, 0, none⟩) n n] w fun e w' => ∃ s, e = .returned (.string s) ∧ P s ∧ Sep W w' rs := by
  subst hn
  subst hcs
  have hr := box_at h j hj
  have hs : Strs w P g l.length := fun q hq => by
    refine ⟨l[q], ?_, hP _ (List.getElem_mem hq)⟩
    rw [hr.cell]
    simp [hq]
  exact (l1Str_on g l.length h1 h2 hs (h.lies j _ hj g (by simp [boxR])).2 (fun e => h.apart i j _ _ hi hj hij c (by simp [curR]) (by simp [boxR, e])) (cur_on h i hi)).mono fun _ _ ⟨s, he, hs, ho⟩ => ⟨s, he, hs, moved h i hi ho⟩
theorem intB_s (h : Sep W w rs) (i : Nat) (hi : rs[i]? = some (curR W c)) (j : Nat) (hj : rs[j]? = some (boxR g t cs)) (hij : i ≠ j) (l : List Int) (hcs : cs = (l.map (Value.int .i64)).toArray) (P : Int → Prop) (hP : ∀ v ∈ l, P v) (n : Nat) (hn : n = l.length) (h1 : 1 ≤ n) (h2 : n ≤ 1000) :
    Calls Try.prog 32 #[.pointer (some ⟨c, 0, none⟩), .slice (some ⟨g, 0, none⟩) n n] w fun e w' => ∃ s, e = .returned (.int .i64 s) ∧ P s ∧ Sep W w' rs := by
  subst hn
  subst hcs
  have hr := box_at h j hj
  have hs : Ints w P g l.length := fun q hq => by
    refine ⟨l[q], ?_, hP _ (List.getElem_mem hq)⟩
    rw [hr.cell]
    simp [hq]
  exact (l1Int_on g l.length h1 h2 hs (h.lies j _ hj g (by simp [boxR])).2 (fun e => h.apart i j _ _ hi hj hij c (by simp [curR]) (by simp [boxR, e])) (cur_on h i hi)).mono fun _ _ ⟨s, he, hs, ho⟩ => ⟨s, he, hs, moved h i hi ho⟩
end

/-! ### records that a draw makes -/
def Tame (l : List F) (n : Nat) : Prop := l.length ≤ n ∧ Small l
theorem Tame.nil (n : Nat) : Tame [] n := ⟨Nat.zero_le _, fun f hf => by cases hf⟩
theorem Tame.mono {l : List F} {n m : Nat} (h : Tame l n) (hm : n ≤ m) : Tame l m := ⟨Nat.le_trans h.1 hm, h.2⟩
theorem Tame.set {l : List F} {n : Nat} (h : Tame l n) {s : ByteArray} (hs : s.size ≤ 281474976710656) (x : Int) : Tame (setL l s x) (n + 1) := by
  unfold setL
  split
  · exact ⟨by have := putF_len l s x; have := h.1; omega, small_put h.2 hs⟩
  · exact h.mono (by omega)
theorem Tame.rem {l : List F} {n : Nat} (h : Tame l n) (s : List UInt8) : Tame (remL l s) n := by
  unfold remL
  split
  · exact ⟨by have : (remF l s).length ≤ l.length := List.length_filter_le _ _; have := h.1; omega, small_rem h.2⟩
  · exact h
theorem Tame.app {l : List F} {n : Nat} (h : Tame l n) {s : ByteArray} (hs : s.size ≤ 281474976710656) (x : Int) : Tame (l ++ [⟨s, x⟩]) (n + 1) := by
  refine ⟨by rw [List.length_append]; have := h.1; simp; omega, fun f hf => ?_⟩
  rcases List.mem_append.1 hf with h1 | h1
  · exact h.2 f h1
  · rw [List.mem_singleton] at h1
    rw [h1]; exact hs

section
variable {W w : World} {rs : List Res} {c : Nat}
theorem name_s (h : Sep W w rs) (i : Nat) (hi : rs[i]? = some (curR W c)) :
    Calls Try.prog 50 #[.pointer (some ⟨c, 0, none⟩)] w fun e w' => ∃ s, e = .returned (.string s) ∧ s.size ≤ 5 ∧ Sep W w' rs := by
  have H := Lib.hid h
  have HI := Lib.hid hi
  clear h hi
  go_enter Try.func50, Try.ntmps50
  go_wp2_with fail
  go_at_call 31
  refine (str_sg H.out i HI.out [⟨#[97]⟩, ⟨#[98]⟩, ⟨#[99]⟩, ⟨#[100, 111, 110, 101]⟩, ⟨#[116, 105, 116, 108, 101]⟩] (fun s => s.size ≤ 5) (by decide) 5 rfl (by decide) (by decide) _ rfl).mono ?_
  rintro e w1 ⟨s, rfl, hs, h1⟩
  go_wp2_with fail
  go_ret
  exact ⟨s, rfl, hs, h1⟩
set_option maxHeartbeats 4000000 in
theorem rec_s (h : Sep W w rs) (i : Nat) (hi : rs[i]? = some (curR W c)) :
    Calls Try.prog 44 #[.pointer (some ⟨c, 0, none⟩)] w fun e w' => ∃ A C l, e = .returned (.agg #[.slice A l.length C]) ∧ Tame l 3 ∧ Sep W w' (rs ++ [ownV 64 2 A C l.length (cellsF l)]) := by
  have HI := Lib.hid hi
  have S1 := box_r (none_r h) 26 #[.slice none 0 0] w.heap.size rfl
  have S2 := box_r S1 26 #[.slice none 0 0] (w.heap.size + 1) (by simp)
  have S3 := Lib.hid (push_r S2 (Below.refl _ _) (OwnV.nil _ _ 64 2))
  clear h hi S1 S2
  go_enter Try.func44, Try.ntmps44
  go_wp2_with fail
  go_at_call 49
  refine (below_s S3.out i (at_left HI.out) _ (by decide) (by decide)).mono ?_
  rintro e w1 ⟨x, rfl, ⟨hx0, hx1⟩, S4'⟩
  have S4 := Lib.hid S4'
  clear S4' S3
  obtain ⟨x, rfl⟩ : ∃ j : Nat, x = j := ⟨x.toNat, by omega⟩
  go_wp2_with fail
  go_loopw [4] (fun v wr => ∃ j : Nat, j ≤ 3 ∧ v = .int .i64 j ∧ Hid (∃ A C l, Tame l (3 - j) ∧ Sep W wr (rs ++ [boxR w.heap.size 26 #[.slice none 0 0], boxR (w.heap.size + 1) 26 #[.slice A l.length C], ownV 64 2 A C l.length (cellsF l)]))) (fun v _ => (intOf v).toNat)
  case atStart => exact ⟨x, by omega, rfl, none, 0, [], Tame.nil _, S4.out⟩
  case round =>
    obtain ⟨j, hj, rfl, hrel⟩ := hrel
    obtain ⟨A, C, l, hT, S⟩ := hrel.out
    have S5 := Lib.hid S
    have HT := Lib.hid hT
    clear S hT hrel S4
    obtain ⟨b0, b0'⟩ := one_r S5.out 1 rfl
    obtain ⟨q0, q0'⟩ := one_r S5.out 0 rfl
    by_cases hlt : (0 : Int) < (j : Int)
    · have hset := fun (s : ByteArray) (hs : s.size ≤ 5) (y : Int) w' hr hc hz => specSetField_any A C l s y (by have := HT.out.1; omega) HT.out.2 (by omega) w' hr hc hz
      have HSet := Lib.hid hset
      clear hset
      go_wp2_with fail
      go_region_with (first
        | (go_at_call 50; refine (name_s (drew_s S5.out) i (at_left HI.out)).mono ?_; rintro e w2 ⟨s, rfl, hs, S6'⟩; have S6 := Lib.hid S6'; clear S6'; obtain ⟨b1, b1'⟩ := one_r S6.out 1 rfl)
        | (go_at_call 49; refine (below_s S6.out i (at_left HI.out) _ (by decide) (by decide)).mono ?_; rintro e w3 ⟨y, rfl, ⟨hy0, hy1⟩, S7'⟩; have S7 := Lib.hid S7'; clear S7'; obtain ⟨b2, b2'⟩ := one_r S7.out 1 rfl)
        | (go_at_call 11; refine (HSet.out s hs y _ (own_r S7.out 2 rfl).reads (own_r S7.out 2 rfl).cap (own_zero (own_r S7.out 2 rfl))).mono ?_; rintro e w4 h8; obtain ⟨A2, C2, rfl, ho, hb⟩ := h8; have S8 := Lib.hid (push_r S7.out hb ho); clear ho hb; obtain ⟨b3, b3'⟩ := one_r S8.out 1 rfl))
      all_goals
        have S9 := Lib.hid (take_r (us := [boxR w.heap.size 26 #[.slice none 0 0], boxR (w.heap.size + 1) 26 #[.slice A2 (setL l s y).length C2], ownV 64 2 A2 C2 (setL l s y).length (cellsF (setL l s y))]) (put_r S8.out 1 rfl 0 (.slice A2 (setL l s y).length C2)) [0, 1, 3] (by rfl) (by decide))
        have HT2 := Lib.hid (HT.out.set (show s.size ≤ 281474976710656 by omega) y)
        clear b0 b0' b1 b1' b2 b2' b3 b3' q0 q0'
        go_wp2_with fail
        go_roundw
        case rel => exact ⟨j - 1, by omega, by go_num, A2, C2, setL l s y, by have := HT2.out; rwa [show 3 - j + 1 = 3 - (j - 1) by omega] at this, S9.out⟩
        case measure => simp [intOf]; omega
    · go_wp2_with fail
      refine bodyPost_ret (v := .agg #[.slice A l.length C]) (by simp [results, Try.results44, go_sem, q0]) rfl ?_
      refine ⟨A, C, l, rfl, HT.out.mono (by omega), take_r (put_r S5.out 0 rfl 0 (.slice A l.length C)) [2] (by rfl) (by decide)⟩
end
end Go.Proofs.Ytephiilicebdcaa.L5
