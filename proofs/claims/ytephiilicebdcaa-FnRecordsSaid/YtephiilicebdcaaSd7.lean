/-
  Chapter 5's draws over several things that lie apart: l5Any, DrawSetField, DrawDecodeRecord. No condition but that the code is a slice of bytes of at most 2^62 places. (The regions that draw their order are written by my program gen_sd6.py.)
-/
import Derived.Test.YtephiilicebdcaaSd6
import Derived.Test.YtephiilicebdcaaL5Dec
namespace Go.Proofs.Ytephiilicebdcaa.L5
set_option maxRecDepth 100000
open L4 (boxR push_box box_at)
open Go.ChangeShapes Go.WideShapes Go.ChangeAt Go.RowKit Mem Sl Ex Draw L2 Sv
open Sd (curR at_left below_s once_s new_s str_sg int_sg drew_s cur_on moved put_r let_go drop gave bent_s Byts)
set_option linter.unusedVariables false
set_option linter.unusedSimpArgs false

section
variable {W w : World} {rs : List Res} {c : Nat}
set_option maxHeartbeats 4000000 in
theorem drawSetField_s {a : Option Addr} {len : Nat} (cap : Nat) (hl : len ≤ 4611686018427387904) (hby : Bytes W W.heap.size a len) (h : Sep W w rs) :
    Calls Try.prog 9 #[.slice a len cap] w fun e w' => ∃ A C l s n, e = .returned (.tuple #[.agg #[.slice A l.length C], .string s, .int .i64 n]) ∧ Tame l 9 ∧ s.size ≤ 2 ∧ (-1 ≤ n ∧ n ≤ 1000000001) ∧ Sep W w' (rs ++ [ownV 64 2 A C l.length (cellsF l)]) := by
  have S1 := Lib.hid (box_r (none_r h) 26 #[.slice none 0 0] w.heap.size rfl)
  have HL := Lib.hid (And.intro hl hby)
  clear h hl hby
  go_enter Try.func9, Try.ntmps9
  go_wp2_with fail
  go_at_call 29
  refine (new_s S1.out a len cap HL.out.1 HL.out.2).mono ?_
  rintro e w1 ⟨c, rfl, S2'⟩
  have S2 := Lib.hid (assoc_r S2')
  clear S2' S1
  go_wp2_with fail
  go_at_call 30
  refine (any_s S2.out (rs.length + 1) (at_r rfl)).mono ?_
  rintro e w2 ⟨A, C, l, rfl, hT, S3'⟩
  have S3 := Lib.hid (box_r (assoc_r S3') 26 #[.slice A l.length C] w2.heap.size rfl)
  have HT := Lib.hid hT
  clear S2 S3' hT
  go_wp2_with fail
  go_at_call 31
  refine (str_sg S3.out (rs.length + 1) (at_r rfl) [⟨#[97]⟩, ⟨#[98]⟩, ⟨#[99]⟩, ⟨#[]⟩, ⟨#[122, 122]⟩, ⟨#[81]⟩] (fun s => s.size ≤ 2) (by decide) 6 rfl (by decide) (by decide) _ (by simp)).mono ?_
  rintro e w3 ⟨s, rfl, hs, S4'⟩
  have S4 := Lib.hid S4'
  clear S4' S3
  obtain ⟨g, hg⟩ : ∃ g, g = w2.heap.size := ⟨_, rfl⟩
  rw [← hg] at S4 ⊢
  clear hg
  obtain ⟨r0, r0'⟩ := one_r S4.out 3 rfl
  go_upto_region 4 with fail
  refine wp_region_held_drew (S := (fun w' => w'.cell? ⟨g, 0, none⟩ = some (.slice A l.length C))) (by kernel_rfl) r0 (fun hS => ?_)
  have SD0 := Lib.hid (drew_s S4.out)
  clear S4 r0 r0'
  generalize w3.drew = wd at hS SD0 ⊢
  refine Reg.take_op (i := 0) (v := ?_) rfl (by kernel_rfl) (by kernel_rfl) (by kernel_rfl) (fun _ _ _ h => h) (by rfl) ?_ (by assumption) ?_
  rotate_left
  · (intro w hSw; (try dsimp only at hSw); go_simp; try with_reducible rfl)
  try simp only [Act.put, List.setIfInBounds_toArray, List.set_cons_zero, List.set_cons_succ]
  refine Reg.take_op (i := 1) (v := ?_) rfl (by kernel_rfl) (by kernel_rfl) (by kernel_rfl) (fun _ _ _ h => h) (by rfl) ?_ (by assumption) ?_
  rotate_left
  · (intro w hSw; (try dsimp only at hSw); go_simp; try with_reducible rfl)
  try simp only [Act.put, List.setIfInBounds_toArray, List.set_cons_zero, List.set_cons_succ]
  refine Reg.take_op (i := 2) (v := ?_) rfl (by kernel_rfl) (by kernel_rfl) (by kernel_rfl) (fun _ _ _ h => h) (by rfl) ?_ (by assumption) ?_
  rotate_left
  · (intro w hSw; (try dsimp only at hSw); go_simp; try with_reducible rfl)
  try simp only [Act.put, List.setIfInBounds_toArray, List.set_cons_zero, List.set_cons_succ]
  refine Reg.one_op (i := 3) rfl (by kernel_rfl) (fun K hK => ?_)
  go_simp
  have SD1 := Lib.hid (box_r SD0.out 3 #[.int .i64 0, .int .i64 7, .int .i64 (-1), .int .i64 1000000000, .int .i64 1000000001] wd.heap.size rfl)
  obtain ⟨g4, hg⟩ : ∃ g', g' = wd.heap.size := ⟨_, rfl⟩
  rw [← hg] at SD1 ⊢
  clear hg
  generalize wd.alloc (.cells #[.int .i64 0, .int .i64 7, .int .i64 (-1), .int .i64 1000000000, .int .i64 1000000001] 3) = wq1 at SD1 ⊢
  refine hK.out _ _ (one_r SD1.out 3 rfl).1 (fun hS => ?_)
  clear hK K
  try simp only [Act.put, List.setIfInBounds_toArray, List.set_cons_zero, List.set_cons_succ]
  refine Reg.one_op (i := 4) rfl (by kernel_rfl) (fun K hK => ?_)
  go_simp
  go_at_call 32
  refine (intB_s SD1.out (rs.length + 1) (at_r rfl) (rs.length + 4) (at_r (by rfl)) (by omega) [0, 7, -1, 1000000000, 1000000001] rfl (fun v => -1 ≤ v ∧ v ≤ 1000000001) (by decide) 5 rfl (by decide) (by decide)).mono ?_
  rintro e wq2 ⟨y, rfl, hy, hS⟩
  have SD2 := Lib.hid hS
  clear hS
  go_wp2_with fail
  refine hK.out _ _ (one_r SD2.out 3 rfl).1 (fun hS => ?_)
  clear hK K
  try simp only [Act.put, List.setIfInBounds_toArray, List.set_cons_zero, List.set_cons_succ]
  refine Reg.one_op (i := 5) rfl (by kernel_rfl) (fun K hK => ?_)
  obtain ⟨z0, z1⟩ := one_r SD2.out 0 rfl
  go_simp
  have SD3 := Lib.hid (put_r SD2.out 0 rfl 0 (.slice A l.length C))
  refine hK.out _ _ (one_r SD3.out 3 rfl).1 (fun hS => ?_)
  clear hK K
  try simp only [Act.put, List.setIfInBounds_toArray, List.set_cons_zero, List.set_cons_succ]
  refine Reg.take_op (i := 6) (v := ?_) rfl (by kernel_rfl) (by kernel_rfl) (by kernel_rfl) (fun _ _ _ h => h) (by rfl) ?_ (by assumption) ?_
  rotate_left
  · (intro w hSw; (try dsimp only at hSw); go_simp; try with_reducible rfl)
  try simp only [Act.put, List.setIfInBounds_toArray, List.set_cons_zero, List.set_cons_succ]
  refine Reg.take_op (i := 7) (v := ?_) rfl (by kernel_rfl) (by kernel_rfl) (by kernel_rfl) (fun _ _ _ h => h) (by rfl) ?_ (by assumption) ?_
  rotate_left
  · (intro w hSw; (try dsimp only at hSw); go_simp; try with_reducible rfl)
  try simp only [Act.put, List.setIfInBounds_toArray, List.set_cons_zero, List.set_cons_succ]
  refine wpAnyH_done (by kernel_rfl) ?_ _
  obtain ⟨q0, q0'⟩ := one_r SD3.out 0 rfl
  go_wp2_with fail
  refine bodyPost_ret (v := .tuple #[.agg #[.slice A l.length C], .string s, .int .i64 y]) (by simp [results, Try.results9, go_sem, q0]) rfl ?_
  exact ⟨A, C, l, s, y, rfl, HT.out, hs, hy, take_r SD3.out [2] (by rfl) (by decide)⟩
theorem encR_1000 (l : List F) : (encR l).length ≤ 1000 ∧ Byts (encR l) := by
  unfold encR
  split
  · rename_i h
    have h1 := encB_len l (isR_names h)
    have h2 := (isR_iff.1 h).2
    have h3 := L2.enc_len (l.length : Int)
    refine ⟨by rw [List.length_append]; omega, fun x hx => ?_⟩
    rcases List.mem_append.1 hx with h4 | h4
    · exact L2.enc_byte _ x h4
    · unfold encB at h4
      obtain ⟨f, -, hf⟩ := List.mem_flatMap.1 h4
      unfold encF at hf
      rcases List.mem_append.1 hf with h5 | h5
      · rcases List.mem_append.1 h5 with h6 | h6
        · exact L2.enc_byte _ x h6
        · unfold L3.strB at h6
          obtain ⟨u, -, rfl⟩ := List.mem_map.1 h6
          have := u.toNat_lt
          omega
      · exact L2.enc_byte _ x h5
  · exact ⟨by simp, fun x hx => by simp at hx⟩
set_option maxHeartbeats 1000000 in
theorem drawDecodeRecord_s {a : Option Addr} {len : Nat} (cap : Nat) (hl : len ≤ 4611686018427387904) (hby : Bytes W W.heap.size a len) (h : Sep W w rs) :
    Calls Try.prog 17 #[.slice a len cap] w fun e w' => ∃ a1 c1 l n, e = .returned (.slice a1 n c1) ∧ (n ≤ l.length ∧ Byts l ∧ l.length ≤ 1001) ∧ Sep W w' (rs ++ [own 5 .u8 a1 c1 l]) := by
  have H := Lib.hid h
  have HL := Lib.hid (And.intro hl hby)
  clear h hl hby
  go_enter Try.func17, Try.ntmps17
  go_wp2_with fail
  go_at_call 29
  refine (new_s H.out a len cap HL.out.1 HL.out.2).mono ?_
  rintro e w1 ⟨c, rfl, h1⟩
  go_wp2_with fail
  go_at_call 44
  refine (rec_s h1 rs.length (Sd.at_last _ _)).mono ?_
  rintro e w2 ⟨A, C, l, rfl, hT, h2'⟩
  have h2 := assoc_r h2'
  clear h1 h2'
  have HK := Lib.hid (encR_1000 l)
  go_wp2_with fail
  go_at_call 43
  refine (gave h2 (specEncodeRecord_any A C l (by have := hT.1; omega) hT.2 _ (own_r h2 1 rfl).reads)).mono ?_
  rintro e w3 ⟨a2, c2, x, rfl, hx, h3'⟩
  have h3 := take_r (us := [curR W c, own 5 .u8 a2 c2 x]) (assoc_r h3') [0, 2] (by rfl) (by decide)
  clear h2 h3' hT
  have HX := Lib.hid (show x.length ≤ 1000 ∧ Byts x by rw [hx.out]; exact HK.out)
  go_wp2_with fail
  go_at_call 45
  refine (once_s h3 rs.length (at_r (i := 0) rfl) _ (by decide) (by decide)).mono ?_
  rintro e w4 ⟨b, rfl, h4⟩
  clear h3
  cases b with
  | true =>
    go_wp2_with fail
    go_at_call 46
    refine (bent_s h4 rs.length (at_r (i := 0) rfl) (rs.length + 1) (at_r rfl) HX.out.2 HX.out.1).mono ?_
    rintro e w5 ⟨a3, c3, l3, n3, rfl, h5, h6⟩
    go_wp2_with fail
    go_ret
    exact ⟨a3, c3, l3, n3, rfl, h5, take_r (assoc_r h6) [2] (by rfl) (by decide)⟩
  | false =>
    go_wp2_with fail
    go_ret
    exact ⟨a2, c2, x, x.length, rfl, ⟨Nat.le_refl _, HX.out.2, by have := HX.out.1; omega⟩, take_r h4 [1] (by rfl) (by decide)⟩
end
end Go.Proofs.Ytephiilicebdcaa.L5
