/-
  Chapter 1's l1Bent, over several things that lie apart: a copy of a row, one byte turned, cut or longer by one.
-/
import Derived.Test.YtenmdecooamaaaaSd4
import Derived.Test.YtenmdecooamaaaaSd3
namespace Go.Proofs.Ytenmdecooamaaaa.Sd
open Go.ChangeShapes Go.WideShapes Go.ChangeAt Go.RowKit Mem Sl Ex Draw L2 L4
set_option linter.unusedVariables false

theorem enc_1000 {k : K} (h : L4.Good k) (h2 : k.text.size ≤ 12) : (encU k).length ≤ 1000 := by
  have h3 : k.t.length = k.text.size := Array.length_toList
  rw [encU_good (isK_iff.2 h)]
  have h6 : (num6 k).length ≤ 100 := by unfold num6; split <;> simp
  simp
  omega
section
variable {W w : World} {rs : List Res} {c : Nat}
set_option maxHeartbeats 2000000 in
theorem bent_s {a : Option Addr} {c0 : Nat} {m : List Int} (h : Sep W w rs) (i : Nat) (hi : rs[i]? = some (curR W c)) (j : Nat) (hj : rs[j]? = some (own 5 .u8 a c0 m)) (hm : Byts m) (hl : m.length ≤ 1000) :
    Calls Try.prog 41 #[.pointer (some ⟨c, 0, none⟩), .slice a m.length c0] w fun e w' => ∃ a1 c1 l n, e = .returned (.slice a1 n c1) ∧ (n ≤ l.length ∧ Byts l ∧ l.length ≤ 1001) ∧ Sep W w' (rs ++ [own 5 .u8 a1 c1 l]) := by
  obtain ⟨i0, hi0, hz0, hz1, hz2⟩ := infoOf _ _ _ _ infoB
  have H := Lib.hid (push_made h 5 .u8)
  have HI := Lib.hid (at_left (m := [own 5 .u8 (some ⟨w.heap.size, 0, none⟩) 0 []]) hi)
  have HJ := Lib.hid (at_left (m := [own 5 .u8 (some ⟨w.heap.size, 0, none⟩) 0 []]) hj)
  have HI2 := Lib.hid hi
  have HM := Lib.hid hm
  clear h hi hj hm
  go_enter Try.func41, Try.ntmps41
  go_wp2_with (at_builtin; refine wpList_append_sep _ rfl _ _ 22 rfl 5 i0 (.int .u8 0) 1 Try.underlying22 hi0 hz0 hz1 hz2 rfl .u8 _ _ _ [] rfl rfl W _ H.out rs.length (at_last _ _) _ a _ c0 m rfl rfl (H.out.own j HJ.out).reads (by simp [maxLen]; omega) (by simp; omega) ?_; intro a2 c2 w2 S2)
  rw [set_last, List.nil_append] at S2
  go_wp2_with fail
  go_at_call 52
  refine (below_s S2 i (at_left HI2.out) _ (by decide) (by decide)).mono ?_
  rintro e w3 ⟨x, rfl, ⟨hx0, hx1⟩, S3⟩
  clear S2
  by_cases e0 : x = 0
  · subst e0
    by_cases hz : m.length = 0
    · have hz' : ¬ (0 : Int) < (m.length : Int) := by omega
      have HS := Lib.hid S3
      clear S3
      go_wp2_with fail
      go_ret
      exact ⟨_, _, m, 0, rfl, ⟨Nat.zero_le _, HM.out, by omega⟩, HS.out⟩
    · have hz' : (0 : Int) < (m.length : Int) := by omega
      go_wp2_with fail
      go_at_call 52
      refine (below_s S3 i (at_left HI2.out) _ (by omega) (by omega)).mono ?_
      rintro e w4 ⟨y, rfl, ⟨hy0, hy1⟩, S4⟩
      obtain ⟨k, rfl⟩ : ∃ k : Nat, y = k := ⟨y.toNat, by omega⟩
      clear S3
      go_wp2_with fail
      go_at_call 52
      refine (below_s S4 i (at_left HI2.out) _ (by decide) (by decide)).mono ?_
      rintro e w5 ⟨v, rfl, ⟨hv0, hv1⟩, S5⟩
      clear S4
      have hwv : IntKind.u8.wrap v = v := IntWalk.u8_in _ ⟨by omega, by omega⟩
      rcases (S5.own rs.length (at_last _ _)).form with ⟨-, hnil, -⟩ | ⟨g, rfl, -, -, -, -⟩
      · exact absurd (by rw [hnil]; rfl) hz
      · obtain ⟨hc, hf⟩ := cell_s S5 rs.length (at_last _ _) k (by omega)
        have S6 := set_s S5 rs.length (at_last _ _) k v
        rw [set_last] at S6
        have HS := Lib.hid S6
        clear S5 S6
        go_wp2_with fail
        go_ret
        refine ⟨_, _, m.set k v, m.length, rfl, ⟨by simp, fun y hy => ?_, by simp; omega⟩, HS.out⟩
        rcases List.mem_or_eq_of_mem_set hy with h | h
        · exact HM.out y h
        · omega
  · have e0' : (x == 0) = false := by simp [e0]
    by_cases e1 : x = 1
    · subst e1
      go_wp2_with fail
      go_at_call 52
      refine (below_s S3 i (at_left HI2.out) _ (by omega) (by omega)).mono ?_
      rintro e w4 ⟨y, rfl, ⟨hy0, hy1⟩, S4⟩
      obtain ⟨k, rfl⟩ : ∃ k : Nat, y = k := ⟨y.toNat, by omega⟩
      clear S3
      have hcap := (S4.own rs.length (at_last _ _)).cap
      have hk1 : (k : Int) ≤ (c2 : Int) := by omega
      have HS := Lib.hid S4
      clear S4
      go_wp2_with fail
      go_ret
      exact ⟨_, _, m, k, rfl, ⟨by omega, HM.out, by omega⟩, HS.out⟩
    · have e1' : (x == 1) = false := by simp [e1]
      by_cases e2 : x = 2
      · subst e2
        go_wp2_with fail
        go_at_call 53
        refine (int_sg S3 i (at_left HI2.out) [0, 1, 128, 255] (fun n => 0 ≤ n ∧ n ≤ 255) (by decide) 4 rfl (by decide) (by decide) _ rfl).mono ?_
        rintro e w4 ⟨v, rfl, ⟨hv0, hv1⟩, S4⟩
        clear S3
        have hwv : IntKind.u8.wrap v = v := IntWalk.u8_in _ ⟨by omega, by omega⟩
        go_wp2_with (at_builtin; refine wpList_append_sep _ rfl _ _ 22 rfl 5 i0 (.int .u8 0) 1 Try.underlying22 hi0 hz0 hz1 hz2 rfl .u8 a2 _ c2 m rfl rfl W _ (S4.alloc _) rs.length (at_last _ _) _ _ 1 1 [_] rfl rfl (reads_one _ _ _ _) (by simp [maxLen]; omega) (by simp; omega) ?_; intro a3 c3 w5 S5)
        rw [set_last] at S5
        have HS := Lib.hid S5
        clear S4 S5
        go_ret
        exact ⟨_, _, m ++ [v], m.length + 1, rfl, ⟨by simp, HM.out.snoc hv0 hv1, by simp; omega⟩, HS.out⟩
      · have e2' : (x == 2) = false := by simp [e2]
        have HS := Lib.hid S3
        clear S3
        go_wp2_with fail
        go_ret
        exact ⟨_, _, _, _, rfl, ⟨Nat.le_refl _, HM.out, by omega⟩, HS.out⟩
set_option maxHeartbeats 1000000 in
theorem drawDecodeKey_s {a : Option Addr} {len : Nat} (cap : Nat) (hl : len ≤ 4611686018427387904) (hby : Bytes W W.heap.size a len) (h : Sep W w rs) :
    Calls Try.prog 12 #[.slice a len cap] w fun e w' => ∃ a1 c1 l n, e = .returned (.slice a1 n c1) ∧ (n ≤ l.length ∧ Byts l ∧ l.length ≤ 1001) ∧ Sep W w' (rs ++ [own 5 .u8 a1 c1 l]) := by
  have H := Lib.hid h
  have HL := Lib.hid (And.intro hl hby)
  clear h hl hby
  go_enter Try.func12, Try.ntmps12
  go_wp2_with fail
  go_at_call 35
  refine (new_s H.out a len cap HL.out.1 HL.out.2).mono ?_
  rintro e w1 ⟨c, rfl, h1⟩
  go_wp2_with fail
  go_at_call 40
  refine (key_s h1 rs.length (at_last _ _)).mono ?_
  rintro e w2 ⟨k, rfl, ⟨gk, hk⟩, h2⟩
  clear h1
  have HK := Lib.hid (show (toI (encU k)).length ≤ 1000 ∧ Byts (toI (encU k)) from ⟨by rw [toI_length]; exact enc_1000 gk hk, toI_byt _⟩)
  go_wp2_with fail
  go_at_call 24
  refine (gave h2 (specEncodeKey_any k (by omega) _)).mono ?_
  rintro e w3 ⟨a2, c2, x, rfl, hx, h3⟩
  clear h2 gk hk
  have HX := Lib.hid (show x.length ≤ 1000 ∧ Byts x by rw [hx.out]; exact HK.out)
  go_wp2_with fail
  go_at_call 37
  refine (once_s h3 rs.length (at_left (at_last _ _)) _ (by decide) (by decide)).mono ?_
  rintro e w4 ⟨b, rfl, h4⟩
  clear h3
  cases b with
  | true =>
    go_wp2_with fail
    go_at_call 41
    refine (bent_s h4 rs.length (at_left (at_last _ _)) (rs ++ [curR W c]).length (at_last _ _) HX.out.2 HX.out.1).mono ?_
    rintro e w5 ⟨a1, c1, l, n, rfl, hn, h5⟩
    have HN := Lib.hid hn
    have HS := Lib.hid (show Sep W w5 (rs ++ [own 5 .u8 a1 c1 l]) by
      rw [List.append_assoc, List.append_assoc] at h5
      have h6 := drop (rs := rs) (r := curR W c) (ts := [own 5 .u8 a2 c2 x] ++ [own 5 .u8 a1 c1 l]) h5
      exact drop (rs := rs) (r := own 5 .u8 a2 c2 x) (ts := [own 5 .u8 a1 c1 l]) h6)
    clear h4 h5 hn
    go_wp2_with fail
    go_ret
    exact ⟨_, _, l, n, rfl, HN.out, HS.out⟩
  | false =>
    have HS := Lib.hid (show Sep W w4 (rs ++ [own 5 .u8 a2 c2 x]) by
      rw [List.append_assoc] at h4
      exact drop (rs := rs) (r := curR W c) (ts := [own 5 .u8 a2 c2 x]) h4)
    clear h4
    go_wp2_with fail
    go_ret
    exact ⟨_, _, x, x.length, rfl, ⟨Nat.le_refl _, HX.out.2, by have := HX.out.1; omega⟩, HS.out⟩
end
end Go.Proofs.Ytenmdecooamaaaa.Sd
