/-
  The contract of chapter 6's AutoItem of the specification. Conditions: keys' texts of at most 2^40 bytes, at most 2^20 fields and items, an automatic key of 64 bits. (Written by my program gen_l6l.py.)
-/
import Derived.Test.YtkfejjoehgipmaaTk
import Derived.Test.YtkfejjoehgipmaaL6Sf
namespace Go.Proofs.Ytkfejjoehgipmaa.L6
set_option maxRecDepth 100000
open L4 (K isK cmpK R inR encU)
open L5 (F isR isN cellsF encR eqR Small)
open Go.ChangeShapes Go.WideShapes Go.ChangeAt Go.RowKit Mem Sl Ex L2 Sv Bag
set_option linter.unusedVariables false
set_option linter.unusedSimpArgs false

theorem putI_false {s : S6} {k : K} {l : List F} (h : (putI s k l).2 = false) : (putI s k l).1 = s := by
  unfold putI at h ⊢
  split at h
  · split at h
    · cases h
    · split at h
      · rename_i h1 _ h2 h3
        rw [if_pos h1, if_pos h3]
      · cases h
  · rename_i h1
    rw [if_neg h1]
theorem addI_false {s : S6} {k : K} {l : List F} (h : (addI s k l).2 = false) : (addI s k l).1 = s := by
  unfold addI at h ⊢
  split at h
  · rename_i h1
    rw [if_pos h1]
  · rename_i h1
    rw [if_neg h1]
    exact putI_false h
theorem auto_parts (s : S6) (l : List F) : (1000000 ≤ s.auto → autoS s l = s ∧ autoR s l = zK ∧ autoB s l = false) ∧
    (¬ 1000000 ≤ s.auto → (addI s (autoK s) l).2 = false → autoS s l = s ∧ autoR s l = zK ∧ autoB s l = false) ∧
    (¬ 1000000 ≤ s.auto → (addI s (autoK s) l).2 = true → autoS s l = (addI s (autoK s) l).1 ∧ autoR s l = autoK s ∧ autoB s l = true) := by
  refine ⟨fun h => ?_, fun h h2 => ?_, fun h h2 => ?_⟩ <;> unfold autoS autoR autoB <;> simp [h, *]

set_option maxHeartbeats 8000000 in
theorem specAutoItem_any (y : LS) (ra : Option Addr) (rc : Nat) (rl : List F) (hf : FitS y.con) (hau : -9223372036854775808 ≤ y.auto) (hrl : rl.length ≤ 1048576) (hrs : Small rl) (w : World) (hr : RowsRd w w.heap.size y.rows) (hrr : Reads w w.heap.size ra (cellsF rl)) :
    Calls Try.prog 24 #[y.v, .agg #[.slice ra rl.length rc]] w (GaveSKB w (autoS y.con rl) (autoR y.con rl) (autoB y.con rl)) := by
  have HCP := Lib.hid (fun w' (h : Below w.heap.size w w') => l6Copy_any y hf w' ((hr.below h).more h.size))
  have HAD := Lib.hid (fun w' (h : Below w.heap.size w w') => specAddItem_any y ⟨1, y.auto + 1, ⟨#[]⟩⟩ ra rc rl hf (by show (0 : Nat) ≤ _; omega) hrl hrs w' ((hr.below h).more h.size) ((hrr.below h).more h.size))
  obtain ⟨name, a, c, xs, auto⟩ := y
  have HR := Lib.hid (fun w' (h : Below w.heap.size w w') => LS.outer (hr.below h))
  have HX := Lib.hid (fun w' (h : Below w.heap.size w w') => (LS.inner (hr.below h)).more h.size)
  have HF := Lib.hid hf.items
  have HNM := Lib.hid hf.name
  have hl := hf.len
  simp only [LS.con, conI_length] at hl
  dsimp only [LS.con] at HR HX HF HNM
  try unfold LS.v LS.cells LS.con
  try dsimp only
  obtain ⟨N, hN⟩ : ∃ n, n = xs.length := ⟨_, rfl⟩
  rw [← hN] at hl ⊢
  have hl' : (N : Int) ≤ 1048576 := by omega
  have HN := Lib.hid hN
  clear hN hr hf
  dsimp only [LS.v, LS.cells, LS.con, L4.K.v] at HCP HAD hau ⊢
  rw [← HN.out] at HCP HAD
  obtain ⟨M, hM⟩ : ∃ M, M = rl.length := ⟨_, rfl⟩
  rw [← hM] at HAD ⊢
  clear hM hrr hrl
  have HP := Lib.hid (auto_parts ⟨name, conI xs, auto⟩ rl)
  dsimp only [autoK] at HP
  obtain ⟨ad, had⟩ : ∃ r, addI ⟨name, conI xs, auto⟩ ⟨1, auto + 1, ⟨#[]⟩⟩ rl = r := ⟨_, rfl⟩
  rw [had] at HAD HP
  have HF2 := Lib.hid (show ad.2 = false → ad.1 = ⟨name, conI xs, auto⟩ from by rw [← had]; exact addI_false)
  clear had
  obtain ⟨rs, has⟩ : ∃ r, autoS ⟨name, conI xs, auto⟩ rl = r := ⟨_, rfl⟩
  obtain ⟨rk, hak⟩ : ∃ r, autoR ⟨name, conI xs, auto⟩ rl = r := ⟨_, rfl⟩
  obtain ⟨rb, hab⟩ : ∃ r, autoB ⟨name, conI xs, auto⟩ rl = r := ⟨_, rfl⟩
  rw [has, hak, hab] at HP ⊢
  clear has hak hab
  have S1 := Lib.hid (show Sl.Sep w ((((w.alloc (.cells #[.string name, .slice a N c, .int .i64 auto] 26)).alloc (.cells #[.slice ra M rc] 31)).alloc (.cells #[.string ⟨#[]⟩, .slice none 0 0, .int .i64 0] 26)).alloc (.cells #[.int .i64 0, .int .i64 0, .string ⟨#[]⟩] 28)) [L4.boxR w.heap.size 26 #[.string name, .slice a N c, .int .i64 auto], L4.boxR (w.heap.size + 1) 31 #[.slice ra M rc], L4.boxR (w.heap.size + 1 + 1) 26 #[.string ⟨#[]⟩, .slice none 0 0, .int .i64 0], L4.boxR (w.heap.size + 1 + 1 + 1) 28 #[.int .i64 0, .int .i64 0, .string ⟨#[]⟩]] from L4.push_box (L4.push_box (L4.push_box (L4.push_box (Sl.Sep.start w) 26 #[.string name, .slice a N c, .int .i64 auto] (w.heap.size) (by simp)) 31 #[.slice ra M rc] (w.heap.size + 1) (by simp)) 26 #[.string ⟨#[]⟩, .slice none 0 0, .int .i64 0] (w.heap.size + 1 + 1) (by simp)) 28 #[.int .i64 0, .int .i64 0, .string ⟨#[]⟩] (w.heap.size + 1 + 1 + 1) (by simp))
  obtain ⟨wa, hwa⟩ : ∃ u, u = ((((w.alloc (.cells #[.string name, .slice a N c, .int .i64 auto] 26)).alloc (.cells #[.slice ra M rc] 31)).alloc (.cells #[.string ⟨#[]⟩, .slice none 0 0, .int .i64 0] 26)).alloc (.cells #[.int .i64 0, .int .i64 0, .string ⟨#[]⟩] 28)) := ⟨_, rfl⟩
  rw [← hwa] at S1
  go_enter Try.func24, Try.ntmps24
  go_upto_region 1 with fail
  rw [← hwa]
  clear hwa
  have f0 : World.cell? _ ⟨w.heap.size, 0, none⟩ = some (.string name) := Bag.cell_at S1.out 0 rfl 0 rfl
  have f1 : World.cell? _ ⟨w.heap.size, 1, none⟩ = some (.slice a N c) := Bag.cell_at S1.out 0 rfl 1 rfl
  have f2 : World.cell? _ ⟨w.heap.size, 2, none⟩ = some (.int .i64 auto) := Bag.cell_at S1.out 0 rfl 2 rfl
  have f3 : World.cell? _ ⟨w.heap.size + 1, 0, none⟩ = some (.slice ra M rc) := Bag.cell_at S1.out 1 rfl 0 rfl
  have f4 : World.cell? _ ⟨w.heap.size + 1 + 1, 0, none⟩ = some (.string ⟨#[]⟩) := Bag.cell_at S1.out 2 rfl 0 rfl
  have f5 : World.cell? _ ⟨w.heap.size + 1 + 1, 1, none⟩ = some (.slice none 0 0) := Bag.cell_at S1.out 2 rfl 1 rfl
  have f6 : World.cell? _ ⟨w.heap.size + 1 + 1, 2, none⟩ = some (.int .i64 0) := Bag.cell_at S1.out 2 rfl 2 rfl
  have f7 : World.cell? _ ⟨w.heap.size + 1 + 1 + 1, 0, none⟩ = some (.int .i64 0) := Bag.cell_at S1.out 3 rfl 0 rfl
  have f8 : World.cell? _ ⟨w.heap.size + 1 + 1 + 1, 1, none⟩ = some (.int .i64 0) := Bag.cell_at S1.out 3 rfl 1 rfl
  have f9 : World.cell? _ ⟨w.heap.size + 1 + 1 + 1, 2, none⟩ = some (.string ⟨#[]⟩) := Bag.cell_at S1.out 3 rfl 2 rfl
  by_cases h0 : 1000000 ≤ auto
  · have HE := Lib.hid (HP.out.1 h0)
    go_wp2_with fail
    go_at_call 66
    refine (HCP.out _ S1.out.old).mono ?_
    rintro e w1 ⟨⟨nm3, a3, c3, ys, au3⟩, rfl, hcon, ho, hb⟩
    clear f0 f1 f2 f3 f4 f5 f6 f7 f8 f9
    have S2 := Lib.hid (show Sl.Sep w _ [L4.boxR w.heap.size 26 #[.string name, .slice a N c, .int .i64 auto], L4.boxR (w.heap.size + 1) 31 #[.slice ra M rc], L4.boxR (w.heap.size + 1 + 1) 26 #[.string ⟨#[]⟩, .slice none 0 0, .int .i64 0], L4.boxR (w.heap.size + 1 + 1 + 1) 28 #[.int .i64 0, .int .i64 0, .string ⟨#[]⟩], Bag.bag ((LS.mk nm3 a3 c3 ys au3).rows)] from Bag.push_bag S1.out hb ho)
    clear S1
    clear hb ho
    have HCON := Lib.hid hcon
    clear hcon
    simp only [LS.v, LS.cells]
    have f0 : World.cell? _ ⟨w.heap.size + 1 + 1, 0, none⟩ = some (.string ⟨#[]⟩) := Bag.cell_at S2.out 2 rfl 0 rfl
    have f1 : World.cell? _ ⟨w.heap.size + 1 + 1, 1, none⟩ = some (.slice none 0 0) := Bag.cell_at S2.out 2 rfl 1 rfl
    have f2 : World.cell? _ ⟨w.heap.size + 1 + 1, 2, none⟩ = some (.int .i64 0) := Bag.cell_at S2.out 2 rfl 2 rfl
    have f3 : World.cell? _ ⟨w.heap.size + 1 + 1 + 1, 0, none⟩ = some (.int .i64 0) := Bag.cell_at S2.out 3 rfl 0 rfl
    have f4 : World.cell? _ ⟨w.heap.size + 1 + 1 + 1, 1, none⟩ = some (.int .i64 0) := Bag.cell_at S2.out 3 rfl 1 rfl
    have f5 : World.cell? _ ⟨w.heap.size + 1 + 1 + 1, 2, none⟩ = some (.string ⟨#[]⟩) := Bag.cell_at S2.out 3 rfl 2 rfl
    have z0 := Bag.free_at S2.out 2 rfl 0
    have z1 := Bag.free_at S2.out 2 rfl 1
    have z2 := Bag.free_at S2.out 2 rfl 2
    have y0 := Bag.free_at S2.out 3 rfl 0
    have y1 := Bag.free_at S2.out 3 rfl 1
    have y2 := Bag.free_at S2.out 3 rfl 2
    go_wp2_with fail
    clear f0 f1 f2 f3 f4 f5 z0 z1 z2 y0 y1 y2
    have S3 := Lib.hid (show Sl.Sep w _ [L4.boxR w.heap.size 26 #[.string name, .slice a N c, .int .i64 auto], L4.boxR (w.heap.size + 1) 31 #[.slice ra M rc], L4.boxR (w.heap.size + 1 + 1) 26 #[.string nm3, .slice a3 ys.length c3, .int .i64 au3], L4.boxR (w.heap.size + 1 + 1 + 1) 28 #[.int .i64 0, .int .i64 0, .string ⟨#[]⟩], Bag.bag ((LS.mk nm3 a3 c3 ys au3).rows)] from L5.put_box5 (L5.put_box5 (L5.put_box5 (S2.out) 2 rfl 0 (.string nm3)) 2 rfl 1 (.slice a3 ys.length c3)) 2 rfl 2 (.int .i64 au3))
    clear S2
    have S4 := Lib.hid (show Sl.Sep w _ [L4.boxR w.heap.size 26 #[.string name, .slice a N c, .int .i64 auto], L4.boxR (w.heap.size + 1) 31 #[.slice ra M rc], L4.boxR (w.heap.size + 1 + 1) 26 #[.string nm3, .slice a3 ys.length c3, .int .i64 au3], L4.boxR (w.heap.size + 1 + 1 + 1) 28 #[.int .i64 0, .int .i64 0, .string ⟨#[]⟩], Bag.bag ((LS.mk nm3 a3 c3 ys au3).rows)] from L5.put_box5 (L5.put_box5 (L5.put_box5 (S3.out) 3 rfl 0 (.int .i64 0)) 3 rfl 1 (.int .i64 0)) 3 rfl 2 (.string ⟨#[]⟩))
    clear S3
    have f0 : World.cell? _ ⟨w.heap.size + 1 + 1, 0, none⟩ = some (.string nm3) := Bag.cell_at S4.out 2 rfl 0 rfl
    have f1 : World.cell? _ ⟨w.heap.size + 1 + 1, 1, none⟩ = some (.slice a3 ys.length c3) := Bag.cell_at S4.out 2 rfl 1 rfl
    have f2 : World.cell? _ ⟨w.heap.size + 1 + 1, 2, none⟩ = some (.int .i64 au3) := Bag.cell_at S4.out 2 rfl 2 rfl
    have f3 : World.cell? _ ⟨w.heap.size + 1 + 1 + 1, 0, none⟩ = some (.int .i64 0) := Bag.cell_at S4.out 3 rfl 0 rfl
    have f4 : World.cell? _ ⟨w.heap.size + 1 + 1 + 1, 1, none⟩ = some (.int .i64 0) := Bag.cell_at S4.out 3 rfl 1 rfl
    have f5 : World.cell? _ ⟨w.heap.size + 1 + 1 + 1, 2, none⟩ = some (.string ⟨#[]⟩) := Bag.cell_at S4.out 3 rfl 2 rfl
    refine bodyPost_ret (v := .tuple #[.agg #[.string nm3, .slice a3 ys.length c3, .int .i64 au3], .agg #[.int .i64 0, .int .i64 0, .string ⟨#[]⟩], .bool false]) (by simp [results, Try.results24, go_sem, *]) rfl ?_
    exact ⟨⟨nm3, a3, c3, ys, au3⟩, by rw [HE.out.2.1, HE.out.2.2]; rfl, by rw [HE.out.1]; exact HCON.out, Bag.bag_from S4.out 4 rfl, S4.out.old⟩
  · have hlt : auto < 1000000 := by omega
    have hw1 : IntKind.i64.wrap (auto + 1) = auto + 1 := IntWalk.i64_in _ ⟨by omega, by omega⟩
    go_upto_region 4 with fail
    clear f0 f1 f2 f3 f4 f5 f6 f7 f8 f9
    have S2 := Lib.hid (show Sl.Sep w _ [L4.boxR w.heap.size 26 #[.string name, .slice a N c, .int .i64 auto], L4.boxR (w.heap.size + 1) 31 #[.slice ra M rc], L4.boxR (w.heap.size + 1 + 1) 26 #[.string ⟨#[]⟩, .slice none 0 0, .int .i64 0], L4.boxR (w.heap.size + 1 + 1 + 1) 28 #[.int .i64 0, .int .i64 0, .string ⟨#[]⟩], L4.boxR wa.heap.size 28 #[.int .i64 1, .int .i64 (auto + 1), .string ⟨#[]⟩]] from L4.push_box S1.out 28 #[.int .i64 1, .int .i64 (auto + 1), .string ⟨#[]⟩] wa.heap.size rfl)
    clear S1
    obtain ⟨g1, hg⟩ : ∃ g', g' = wa.heap.size := ⟨_, rfl⟩
    rw [← hg] at S2 ⊢
    clear hg
    generalize wa.alloc (.cells #[.int .i64 1, .int .i64 (auto + 1), .string ⟨#[]⟩] 28) = w1 at S2 ⊢
    have f0 : World.cell? _ ⟨w.heap.size, 0, none⟩ = some (.string name) := Bag.cell_at S2.out 0 rfl 0 rfl
    have f1 : World.cell? _ ⟨w.heap.size, 1, none⟩ = some (.slice a N c) := Bag.cell_at S2.out 0 rfl 1 rfl
    have f2 : World.cell? _ ⟨w.heap.size, 2, none⟩ = some (.int .i64 auto) := Bag.cell_at S2.out 0 rfl 2 rfl
    have f3 : World.cell? _ ⟨w.heap.size + 1, 0, none⟩ = some (.slice ra M rc) := Bag.cell_at S2.out 1 rfl 0 rfl
    have f4 : World.cell? _ ⟨w.heap.size + 1 + 1, 0, none⟩ = some (.string ⟨#[]⟩) := Bag.cell_at S2.out 2 rfl 0 rfl
    have f5 : World.cell? _ ⟨w.heap.size + 1 + 1, 1, none⟩ = some (.slice none 0 0) := Bag.cell_at S2.out 2 rfl 1 rfl
    have f6 : World.cell? _ ⟨w.heap.size + 1 + 1, 2, none⟩ = some (.int .i64 0) := Bag.cell_at S2.out 2 rfl 2 rfl
    have f7 : World.cell? _ ⟨w.heap.size + 1 + 1 + 1, 0, none⟩ = some (.int .i64 0) := Bag.cell_at S2.out 3 rfl 0 rfl
    have f8 : World.cell? _ ⟨w.heap.size + 1 + 1 + 1, 1, none⟩ = some (.int .i64 0) := Bag.cell_at S2.out 3 rfl 1 rfl
    have f9 : World.cell? _ ⟨w.heap.size + 1 + 1 + 1, 2, none⟩ = some (.string ⟨#[]⟩) := Bag.cell_at S2.out 3 rfl 2 rfl
    have f10 : World.cell? _ ⟨g1, 0, none⟩ = some (.int .i64 1) := Bag.cell_at S2.out 4 rfl 0 rfl
    have f11 : World.cell? _ ⟨g1, 1, none⟩ = some (.int .i64 (auto + 1)) := Bag.cell_at S2.out 4 rfl 1 rfl
    have f12 : World.cell? _ ⟨g1, 2, none⟩ = some (.string ⟨#[]⟩) := Bag.cell_at S2.out 4 rfl 2 rfl
    go_wp2_with fail
    go_at_call 45
    refine (HAD.out _ S2.out.old).mono ?_
    rintro e w2 ⟨⟨nm3, a3, c3, ys, au3⟩, rfl, hcon, ho, hb⟩
    clear f0 f1 f2 f3 f4 f5 f6 f7 f8 f9 f10 f11 f12
    have S3 := Lib.hid (show Sl.Sep w _ [L4.boxR w.heap.size 26 #[.string name, .slice a N c, .int .i64 auto], L4.boxR (w.heap.size + 1) 31 #[.slice ra M rc], L4.boxR (w.heap.size + 1 + 1) 26 #[.string ⟨#[]⟩, .slice none 0 0, .int .i64 0], L4.boxR (w.heap.size + 1 + 1 + 1) 28 #[.int .i64 0, .int .i64 0, .string ⟨#[]⟩], L4.boxR g1 28 #[.int .i64 1, .int .i64 (auto + 1), .string ⟨#[]⟩], Bag.bag ((LS.mk nm3 a3 c3 ys au3).rows)] from Bag.push_bag S2.out hb ho)
    clear S2
    clear hb ho
    have HC3 := Lib.hid hcon
    clear hcon
    simp only [LS.v, LS.cells]
    obtain ⟨pb, hpb⟩ : ∃ b, ad.2 = b := ⟨_, rfl⟩
    rw [hpb]
    have HPB := Lib.hid hpb
    clear hpb
    go_upto_region 5 with fail
    have S4 := Lib.hid (show Sl.Sep w _ [L4.boxR w.heap.size 26 #[.string name, .slice a N c, .int .i64 auto], L4.boxR (w.heap.size + 1) 31 #[.slice ra M rc], L4.boxR (w.heap.size + 1 + 1) 26 #[.string ⟨#[]⟩, .slice none 0 0, .int .i64 0], L4.boxR (w.heap.size + 1 + 1 + 1) 28 #[.int .i64 0, .int .i64 0, .string ⟨#[]⟩], L4.boxR g1 28 #[.int .i64 1, .int .i64 (auto + 1), .string ⟨#[]⟩], Bag.bag ((LS.mk nm3 a3 c3 ys au3).rows), L4.boxR w2.heap.size 26 #[.string nm3, .slice a3 ys.length c3, .int .i64 au3]] from L4.push_box S3.out 26 #[.string nm3, .slice a3 ys.length c3, .int .i64 au3] w2.heap.size rfl)
    clear S3
    obtain ⟨g2, hg⟩ : ∃ g', g' = w2.heap.size := ⟨_, rfl⟩
    rw [← hg] at S4 ⊢
    clear hg
    generalize w2.alloc (.cells #[.string nm3, .slice a3 ys.length c3, .int .i64 au3] 26) = w3 at S4 ⊢
    have f0 : World.cell? _ ⟨w.heap.size, 0, none⟩ = some (.string name) := Bag.cell_at S4.out 0 rfl 0 rfl
    have f1 : World.cell? _ ⟨w.heap.size, 1, none⟩ = some (.slice a N c) := Bag.cell_at S4.out 0 rfl 1 rfl
    have f2 : World.cell? _ ⟨w.heap.size, 2, none⟩ = some (.int .i64 auto) := Bag.cell_at S4.out 0 rfl 2 rfl
    have f3 : World.cell? _ ⟨w.heap.size + 1, 0, none⟩ = some (.slice ra M rc) := Bag.cell_at S4.out 1 rfl 0 rfl
    have f4 : World.cell? _ ⟨w.heap.size + 1 + 1, 0, none⟩ = some (.string ⟨#[]⟩) := Bag.cell_at S4.out 2 rfl 0 rfl
    have f5 : World.cell? _ ⟨w.heap.size + 1 + 1, 1, none⟩ = some (.slice none 0 0) := Bag.cell_at S4.out 2 rfl 1 rfl
    have f6 : World.cell? _ ⟨w.heap.size + 1 + 1, 2, none⟩ = some (.int .i64 0) := Bag.cell_at S4.out 2 rfl 2 rfl
    have f7 : World.cell? _ ⟨w.heap.size + 1 + 1 + 1, 0, none⟩ = some (.int .i64 0) := Bag.cell_at S4.out 3 rfl 0 rfl
    have f8 : World.cell? _ ⟨w.heap.size + 1 + 1 + 1, 1, none⟩ = some (.int .i64 0) := Bag.cell_at S4.out 3 rfl 1 rfl
    have f9 : World.cell? _ ⟨w.heap.size + 1 + 1 + 1, 2, none⟩ = some (.string ⟨#[]⟩) := Bag.cell_at S4.out 3 rfl 2 rfl
    have f10 : World.cell? _ ⟨g1, 0, none⟩ = some (.int .i64 1) := Bag.cell_at S4.out 4 rfl 0 rfl
    have f11 : World.cell? _ ⟨g1, 1, none⟩ = some (.int .i64 (auto + 1)) := Bag.cell_at S4.out 4 rfl 1 rfl
    have f12 : World.cell? _ ⟨g1, 2, none⟩ = some (.string ⟨#[]⟩) := Bag.cell_at S4.out 4 rfl 2 rfl
    have f13 : World.cell? _ ⟨g2, 0, none⟩ = some (.string nm3) := Bag.cell_at S4.out 6 rfl 0 rfl
    have f14 : World.cell? _ ⟨g2, 1, none⟩ = some (.slice a3 ys.length c3) := Bag.cell_at S4.out 6 rfl 1 rfl
    have f15 : World.cell? _ ⟨g2, 2, none⟩ = some (.int .i64 au3) := Bag.cell_at S4.out 6 rfl 2 rfl
    cases pb with
    | false =>
      have HE := Lib.hid (HP.out.2.1 h0 HPB.out)
      clear HC3
      go_wp2_with fail
      go_at_call 66
      refine (HCP.out _ S4.out.old).mono ?_
      rintro e w4 ⟨⟨nm4, a4, c4, ys4, au4⟩, rfl, hcon, ho, hb⟩
      clear f0 f1 f2 f3 f4 f5 f6 f7 f8 f9 f10 f11 f12 f13 f14 f15
      have S5 := Lib.hid (show Sl.Sep w _ [L4.boxR w.heap.size 26 #[.string name, .slice a N c, .int .i64 auto], L4.boxR (w.heap.size + 1) 31 #[.slice ra M rc], L4.boxR (w.heap.size + 1 + 1) 26 #[.string ⟨#[]⟩, .slice none 0 0, .int .i64 0], L4.boxR (w.heap.size + 1 + 1 + 1) 28 #[.int .i64 0, .int .i64 0, .string ⟨#[]⟩], L4.boxR g1 28 #[.int .i64 1, .int .i64 (auto + 1), .string ⟨#[]⟩], Bag.bag ((LS.mk nm3 a3 c3 ys au3).rows), L4.boxR g2 26 #[.string nm3, .slice a3 ys.length c3, .int .i64 au3], Bag.bag ((LS.mk nm4 a4 c4 ys4 au4).rows)] from Bag.push_bag S4.out hb ho)
      clear S4
      clear hb ho
      have HCON := Lib.hid hcon
      clear hcon
      simp only [LS.v, LS.cells]
      have f0 : World.cell? _ ⟨w.heap.size + 1 + 1, 0, none⟩ = some (.string ⟨#[]⟩) := Bag.cell_at S5.out 2 rfl 0 rfl
      have f1 : World.cell? _ ⟨w.heap.size + 1 + 1, 1, none⟩ = some (.slice none 0 0) := Bag.cell_at S5.out 2 rfl 1 rfl
      have f2 : World.cell? _ ⟨w.heap.size + 1 + 1, 2, none⟩ = some (.int .i64 0) := Bag.cell_at S5.out 2 rfl 2 rfl
      have f3 : World.cell? _ ⟨w.heap.size + 1 + 1 + 1, 0, none⟩ = some (.int .i64 0) := Bag.cell_at S5.out 3 rfl 0 rfl
      have f4 : World.cell? _ ⟨w.heap.size + 1 + 1 + 1, 1, none⟩ = some (.int .i64 0) := Bag.cell_at S5.out 3 rfl 1 rfl
      have f5 : World.cell? _ ⟨w.heap.size + 1 + 1 + 1, 2, none⟩ = some (.string ⟨#[]⟩) := Bag.cell_at S5.out 3 rfl 2 rfl
      have z0 := Bag.free_at S5.out 2 rfl 0
      have z1 := Bag.free_at S5.out 2 rfl 1
      have z2 := Bag.free_at S5.out 2 rfl 2
      have y0 := Bag.free_at S5.out 3 rfl 0
      have y1 := Bag.free_at S5.out 3 rfl 1
      have y2 := Bag.free_at S5.out 3 rfl 2
      go_wp2_with fail
      clear f0 f1 f2 f3 f4 f5 z0 z1 z2 y0 y1 y2
      have S6 := Lib.hid (show Sl.Sep w _ [L4.boxR w.heap.size 26 #[.string name, .slice a N c, .int .i64 auto], L4.boxR (w.heap.size + 1) 31 #[.slice ra M rc], L4.boxR (w.heap.size + 1 + 1) 26 #[.string nm4, .slice a4 ys4.length c4, .int .i64 au4], L4.boxR (w.heap.size + 1 + 1 + 1) 28 #[.int .i64 0, .int .i64 0, .string ⟨#[]⟩], L4.boxR g1 28 #[.int .i64 1, .int .i64 (auto + 1), .string ⟨#[]⟩], Bag.bag ((LS.mk nm3 a3 c3 ys au3).rows), L4.boxR g2 26 #[.string nm3, .slice a3 ys.length c3, .int .i64 au3], Bag.bag ((LS.mk nm4 a4 c4 ys4 au4).rows)] from L5.put_box5 (L5.put_box5 (L5.put_box5 (S5.out) 2 rfl 0 (.string nm4)) 2 rfl 1 (.slice a4 ys4.length c4)) 2 rfl 2 (.int .i64 au4))
      clear S5
      have S7 := Lib.hid (show Sl.Sep w _ [L4.boxR w.heap.size 26 #[.string name, .slice a N c, .int .i64 auto], L4.boxR (w.heap.size + 1) 31 #[.slice ra M rc], L4.boxR (w.heap.size + 1 + 1) 26 #[.string nm4, .slice a4 ys4.length c4, .int .i64 au4], L4.boxR (w.heap.size + 1 + 1 + 1) 28 #[.int .i64 0, .int .i64 0, .string ⟨#[]⟩], L4.boxR g1 28 #[.int .i64 1, .int .i64 (auto + 1), .string ⟨#[]⟩], Bag.bag ((LS.mk nm3 a3 c3 ys au3).rows), L4.boxR g2 26 #[.string nm3, .slice a3 ys.length c3, .int .i64 au3], Bag.bag ((LS.mk nm4 a4 c4 ys4 au4).rows)] from L5.put_box5 (L5.put_box5 (L5.put_box5 (S6.out) 3 rfl 0 (.int .i64 0)) 3 rfl 1 (.int .i64 0)) 3 rfl 2 (.string ⟨#[]⟩))
      clear S6
      have f0 : World.cell? _ ⟨w.heap.size + 1 + 1, 0, none⟩ = some (.string nm4) := Bag.cell_at S7.out 2 rfl 0 rfl
      have f1 : World.cell? _ ⟨w.heap.size + 1 + 1, 1, none⟩ = some (.slice a4 ys4.length c4) := Bag.cell_at S7.out 2 rfl 1 rfl
      have f2 : World.cell? _ ⟨w.heap.size + 1 + 1, 2, none⟩ = some (.int .i64 au4) := Bag.cell_at S7.out 2 rfl 2 rfl
      have f3 : World.cell? _ ⟨w.heap.size + 1 + 1 + 1, 0, none⟩ = some (.int .i64 0) := Bag.cell_at S7.out 3 rfl 0 rfl
      have f4 : World.cell? _ ⟨w.heap.size + 1 + 1 + 1, 1, none⟩ = some (.int .i64 0) := Bag.cell_at S7.out 3 rfl 1 rfl
      have f5 : World.cell? _ ⟨w.heap.size + 1 + 1 + 1, 2, none⟩ = some (.string ⟨#[]⟩) := Bag.cell_at S7.out 3 rfl 2 rfl
      refine bodyPost_ret (v := .tuple #[.agg #[.string nm4, .slice a4 ys4.length c4, .int .i64 au4], .agg #[.int .i64 0, .int .i64 0, .string ⟨#[]⟩], .bool false]) (by simp [results, Try.results24, go_sem, *]) rfl ?_
      exact ⟨⟨nm4, a4, c4, ys4, au4⟩, by rw [HE.out.2.1, HE.out.2.2]; rfl, by rw [HE.out.1]; exact HCON.out, Bag.bag_from S7.out 7 rfl, S7.out.old⟩
    | true =>
      have HE := Lib.hid (HP.out.2.2 h0 HPB.out)
      have HCON := HC3
      go_upto_region 7 with fail
      clear f0 f1 f2 f3 f4 f5 f6 f7 f8 f9 f10 f11 f12 f13 f14 f15
      refine wp_region_held_drew (S := (fun w' => World.cell? w' ⟨g1, 0, none⟩ = some (.int .i64 1) ∧ World.cell? w' ⟨g1, 1, none⟩ = some (.int .i64 (auto + 1)) ∧ World.cell? w' ⟨g1, 2, none⟩ = some (.string ⟨#[]⟩) ∧ World.cell? w' ⟨g2, 0, none⟩ = some (.string nm3) ∧ World.cell? w' ⟨g2, 1, none⟩ = some (.slice a3 ys.length c3) ∧ World.cell? w' ⟨g2, 2, none⟩ = some (.int .i64 au3))) (by kernel_rfl) ⟨Bag.cell_at S4.out 4 rfl 0 rfl, Bag.cell_at S4.out 4 rfl 1 rfl, Bag.cell_at S4.out 4 rfl 2 rfl, Bag.cell_at S4.out 6 rfl 0 rfl, Bag.cell_at S4.out 6 rfl 1 rfl, Bag.cell_at S4.out 6 rfl 2 rfl⟩ (fun hS => ?_)
      have S5 := Lib.hid (show Sl.Sep w _ [L4.boxR w.heap.size 26 #[.string name, .slice a N c, .int .i64 auto], L4.boxR (w.heap.size + 1) 31 #[.slice ra M rc], L4.boxR (w.heap.size + 1 + 1) 26 #[.string ⟨#[]⟩, .slice none 0 0, .int .i64 0], L4.boxR (w.heap.size + 1 + 1 + 1) 28 #[.int .i64 0, .int .i64 0, .string ⟨#[]⟩], L4.boxR g1 28 #[.int .i64 1, .int .i64 (auto + 1), .string ⟨#[]⟩], Bag.bag ((LS.mk nm3 a3 c3 ys au3).rows), L4.boxR g2 26 #[.string nm3, .slice a3 ys.length c3, .int .i64 au3]] from Bag.drew1 S4.out)
      clear S4
      generalize World.drew _ = w4 at hS S5 ⊢
      refine tk 0 rfl ?_
      try simp only [zp0, zp1, zp2, zp3, zp4]
      refine tk 1 rfl ?_
      try simp only [zp0, zp1, zp2, zp3, zp4]
      refine Reg.one_op (i := 2) rfl (by kernel_rfl) (fun K hK => ?_)
      have f0 : World.cell? _ ⟨w.heap.size + 1 + 1, 0, none⟩ = some (.string ⟨#[]⟩) := Bag.cell_at S5.out 2 rfl 0 rfl
      have f1 : World.cell? _ ⟨w.heap.size + 1 + 1, 1, none⟩ = some (.slice none 0 0) := Bag.cell_at S5.out 2 rfl 1 rfl
      have f2 : World.cell? _ ⟨w.heap.size + 1 + 1, 2, none⟩ = some (.int .i64 0) := Bag.cell_at S5.out 2 rfl 2 rfl
      have z0 := Bag.free_at S5.out 2 rfl 0
      have z1 := Bag.free_at S5.out 2 rfl 1
      have z2 := Bag.free_at S5.out 2 rfl 2
      go_simp
      clear f0 f1 f2 z0 z1 z2
      have S6 := Lib.hid (show Sl.Sep w _ [L4.boxR w.heap.size 26 #[.string name, .slice a N c, .int .i64 auto], L4.boxR (w.heap.size + 1) 31 #[.slice ra M rc], L4.boxR (w.heap.size + 1 + 1) 26 #[.string nm3, .slice a3 ys.length c3, .int .i64 au3], L4.boxR (w.heap.size + 1 + 1 + 1) 28 #[.int .i64 0, .int .i64 0, .string ⟨#[]⟩], L4.boxR g1 28 #[.int .i64 1, .int .i64 (auto + 1), .string ⟨#[]⟩], Bag.bag ((LS.mk nm3 a3 c3 ys au3).rows), L4.boxR g2 26 #[.string nm3, .slice a3 ys.length c3, .int .i64 au3]] from L5.put_box5 (L5.put_box5 (L5.put_box5 (S5.out) 2 rfl 0 (.string nm3)) 2 rfl 1 (.slice a3 ys.length c3)) 2 rfl 2 (.int .i64 au3))
      clear S5
      refine hK.out _ _ ⟨Bag.cell_at S6.out 4 rfl 0 rfl, Bag.cell_at S6.out 4 rfl 1 rfl, Bag.cell_at S6.out 4 rfl 2 rfl, Bag.cell_at S6.out 6 rfl 0 rfl, Bag.cell_at S6.out 6 rfl 1 rfl, Bag.cell_at S6.out 6 rfl 2 rfl⟩ (fun hS => ?_)
      clear hK K
      try simp only [zp0, zp1, zp2, zp3, zp4]
      refine Reg.one_op (i := 3) rfl (by kernel_rfl) (fun K hK => ?_)
      have f0 : World.cell? _ ⟨w.heap.size + 1 + 1 + 1, 0, none⟩ = some (.int .i64 0) := Bag.cell_at S6.out 3 rfl 0 rfl
      have f1 : World.cell? _ ⟨w.heap.size + 1 + 1 + 1, 1, none⟩ = some (.int .i64 0) := Bag.cell_at S6.out 3 rfl 1 rfl
      have f2 : World.cell? _ ⟨w.heap.size + 1 + 1 + 1, 2, none⟩ = some (.string ⟨#[]⟩) := Bag.cell_at S6.out 3 rfl 2 rfl
      have z0 := Bag.free_at S6.out 3 rfl 0
      have z1 := Bag.free_at S6.out 3 rfl 1
      have z2 := Bag.free_at S6.out 3 rfl 2
      go_simp
      clear f0 f1 f2 z0 z1 z2
      have S7 := Lib.hid (show Sl.Sep w _ [L4.boxR w.heap.size 26 #[.string name, .slice a N c, .int .i64 auto], L4.boxR (w.heap.size + 1) 31 #[.slice ra M rc], L4.boxR (w.heap.size + 1 + 1) 26 #[.string nm3, .slice a3 ys.length c3, .int .i64 au3], L4.boxR (w.heap.size + 1 + 1 + 1) 28 #[.int .i64 1, .int .i64 (auto + 1), .string ⟨#[]⟩], L4.boxR g1 28 #[.int .i64 1, .int .i64 (auto + 1), .string ⟨#[]⟩], Bag.bag ((LS.mk nm3 a3 c3 ys au3).rows), L4.boxR g2 26 #[.string nm3, .slice a3 ys.length c3, .int .i64 au3]] from L5.put_box5 (L5.put_box5 (L5.put_box5 (S6.out) 3 rfl 0 (.int .i64 1)) 3 rfl 1 (.int .i64 (auto + 1))) 3 rfl 2 (.string ⟨#[]⟩))
      clear S6
      refine hK.out _ _ ⟨Bag.cell_at S7.out 4 rfl 0 rfl, Bag.cell_at S7.out 4 rfl 1 rfl, Bag.cell_at S7.out 4 rfl 2 rfl, Bag.cell_at S7.out 6 rfl 0 rfl, Bag.cell_at S7.out 6 rfl 1 rfl, Bag.cell_at S7.out 6 rfl 2 rfl⟩ (fun hS => ?_)
      clear hK K
      try simp only [zp0, zp1, zp2, zp3, zp4]
      refine tk 4 rfl ?_
      try simp only [zp0, zp1, zp2, zp3, zp4]
      refine wpAnyH_done (by kernel_rfl) ?_ _
      have f0 : World.cell? _ ⟨w.heap.size, 0, none⟩ = some (.string name) := Bag.cell_at S7.out 0 rfl 0 rfl
      have f1 : World.cell? _ ⟨w.heap.size, 1, none⟩ = some (.slice a N c) := Bag.cell_at S7.out 0 rfl 1 rfl
      have f2 : World.cell? _ ⟨w.heap.size, 2, none⟩ = some (.int .i64 auto) := Bag.cell_at S7.out 0 rfl 2 rfl
      have f3 : World.cell? _ ⟨w.heap.size + 1, 0, none⟩ = some (.slice ra M rc) := Bag.cell_at S7.out 1 rfl 0 rfl
      have f4 : World.cell? _ ⟨w.heap.size + 1 + 1, 0, none⟩ = some (.string nm3) := Bag.cell_at S7.out 2 rfl 0 rfl
      have f5 : World.cell? _ ⟨w.heap.size + 1 + 1, 1, none⟩ = some (.slice a3 ys.length c3) := Bag.cell_at S7.out 2 rfl 1 rfl
      have f6 : World.cell? _ ⟨w.heap.size + 1 + 1, 2, none⟩ = some (.int .i64 au3) := Bag.cell_at S7.out 2 rfl 2 rfl
      have f7 : World.cell? _ ⟨w.heap.size + 1 + 1 + 1, 0, none⟩ = some (.int .i64 1) := Bag.cell_at S7.out 3 rfl 0 rfl
      have f8 : World.cell? _ ⟨w.heap.size + 1 + 1 + 1, 1, none⟩ = some (.int .i64 (auto + 1)) := Bag.cell_at S7.out 3 rfl 1 rfl
      have f9 : World.cell? _ ⟨w.heap.size + 1 + 1 + 1, 2, none⟩ = some (.string ⟨#[]⟩) := Bag.cell_at S7.out 3 rfl 2 rfl
      have f10 : World.cell? _ ⟨g1, 0, none⟩ = some (.int .i64 1) := Bag.cell_at S7.out 4 rfl 0 rfl
      have f11 : World.cell? _ ⟨g1, 1, none⟩ = some (.int .i64 (auto + 1)) := Bag.cell_at S7.out 4 rfl 1 rfl
      have f12 : World.cell? _ ⟨g1, 2, none⟩ = some (.string ⟨#[]⟩) := Bag.cell_at S7.out 4 rfl 2 rfl
      have f13 : World.cell? _ ⟨g2, 0, none⟩ = some (.string nm3) := Bag.cell_at S7.out 6 rfl 0 rfl
      have f14 : World.cell? _ ⟨g2, 1, none⟩ = some (.slice a3 ys.length c3) := Bag.cell_at S7.out 6 rfl 1 rfl
      have f15 : World.cell? _ ⟨g2, 2, none⟩ = some (.int .i64 au3) := Bag.cell_at S7.out 6 rfl 2 rfl
      go_wp2_with fail
      refine bodyPost_ret (v := .tuple #[.agg #[.string nm3, .slice a3 ys.length c3, .int .i64 au3], .agg #[.int .i64 1, .int .i64 (auto + 1), .string ⟨#[]⟩], .bool true]) (by simp [results, Try.results24, go_sem, *]) rfl ?_
      exact ⟨⟨nm3, a3, c3, ys, au3⟩, by rw [HE.out.2.1, HE.out.2.2]; rfl, by rw [HE.out.1]; exact HCON.out, Bag.bag_from S7.out 5 rfl, S7.out.old⟩
end Go.Proofs.Ytkfejjoehgipmaa.L6
