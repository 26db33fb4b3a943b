/-
  The contract of chapter 5's EncodeRecord of the program. Conditions: names of at most 2^48 bytes, a record of at most 2^40 fields. (The region that draws its order is written by my program gen_l5if.py.)
-/
import Derived.Test.YtephiilicebdcaaL5Is
import Derived.Test.YtephiilicebdcaaL5Enc
namespace Go.Proofs.Ytephiilicebdcaa.L5
set_option maxRecDepth 100000
open L4 (boxR push_box box_at)
open Go.ChangeShapes Go.WideShapes Go.ChangeAt Go.RowKit Mem Sl Ex L2 Sv
set_option linter.unusedVariables false
set_option linter.unusedSimpArgs false

theorem own_at0 {W w : World} {rs : List Res} {e : TypeId} {k : IntKind} {a : Option Addr} {c : Nat} {l : List Int} (h : Sep W w rs) (i : Nat) (hi : rs[i]? = some (Sl.own e k a c l)) : Own w 0 e k a c l := h.own i hi
theorem sep_ends {W w : World} {r0 r1 r2 r3 r4 : Res} (h : Sep W w [r0, r1, r2, r3, r4]) : Sep W w [r0, r4] :=
  sep_sub h (fun i => i * 4) (fun i r hr => by
    match i, hr with
    | 0, hr => exact hr
    | 1, hr => exact hr
    | i + 2, hr => simp at hr) (fun i j _ _ e => by omega)
set_option maxHeartbeats 4000000 in
theorem encodeRecord_any (a : Option Addr) (c : Nat) (l : List F) (hl : l.length ≤ 1099511627776) (hsm : Small l) (w : World) (hr : Reads w w.heap.size a (cellsF l)) :
    Calls Try.prog 16 #[.agg #[.slice a l.length c]] w (Gave w w.heap.size 5 .u8 (encR l)) := by
  have HR := Lib.hid (fun w' (h : Below w.heap.size w w') => hr.below h)
  have HS := Lib.hid (fun w' (h : Below w.heap.size w w') => isRecord_any a c l hl hsm w' ((hr.below h).more h.size))
  obtain ⟨n, hn⟩ : ∃ n, n = l.length := ⟨_, rfl⟩
  rw [← hn] at hl HS ⊢
  have HN := Lib.hid hn
  clear hn hr hsm
  have hl' : (n : Int) ≤ 1099511627776 := by omega
  obtain ⟨br, hbr⟩ : ∃ b, isR l = b := ⟨_, rfl⟩
  rw [hbr] at HS
  have HBr := Lib.hid hbr
  clear hbr
  have S1 := Lib.hid (push_box (Sep.start w) 26 #[.slice a n c] w.heap.size rfl)
  obtain ⟨W1, hW1⟩ : ∃ u, u = w.alloc (.cells #[.slice a n c] 26) := ⟨_, rfl⟩
  rw [← hW1] at S1
  go_enter Try.func16, Try.ntmps16
  go_upto_region 1 with fail
  rw [← hW1]
  clear hW1
  obtain ⟨r0, r1⟩ := Row.one (box_at S1.out 0 rfl)
  go_wp2_with fail
  go_at_call 18
  refine (HS.out _ S1.out.old).mono ?_
  rintro e w3 ⟨rfl, h3⟩
  have S2 := Lib.hid (S1.out.keep h3)
  clear h3 HS r0 r1 S1
  obtain ⟨r0, r1⟩ := Row.one (box_at S2.out 0 rfl)
  cases br with
  | false =>
    have HE := Lib.hid (show encR l = [] by unfold encR; rw [HBr.out]; rfl)
    go_wp2_with fail
    go_ret
    rw [HE.out]
    exact Gave.mk rfl (Own.empty w3 5 .u8 S2.out.old.size) (below_alloc S2.out.old _ (Nat.le_refl _))
  | true =>
    have HE := Lib.hid (show encR l = enc n ++ encB l by unfold encR; rw [HBr.out, HN.out]; rfl)
    have HI := Lib.hid (isR_iff.1 HBr.out).2
    have HNM := Lib.hid (isR_names HBr.out)
    have HLN := Lib.hid (show ∀ k, (enc n ++ encB (l.take k)).length ≤ 126 from fun k => by
      have h1 := enc_len n
      have h2 := encB_len (l.take k) (fun f hf => HNM.out f (List.mem_of_mem_take hf))
      have h3 : (l.take k).length ≤ l.length := by rw [List.length_take]; exact Nat.min_le_right _ _
      have h4 := HI.out
      rw [List.length_append]
      omega)
    have HC4 := Lib.hid (implAppendUvarint_any none 0 [] n w3 Reads.nil (by simp) (by simp))
    go_wp2_with fail
    go_at_call 41
    refine HC4.out.mono ?_
    rintro e w5 ⟨a5, c5, rfl, ho5, hb5⟩
    have S5 := Lib.hid (S2.out.pushOwn hb5 ho5)
    clear ho5 hb5 HC4 r0 r1
    obtain ⟨r0, r1⟩ := Row.one (box_at S5.out 0 rfl)
    go_wp2_with fail
    clear r0 r1
    go_loopw [3, 17] (fun s i wr => ∃ (k : Nat) (a1 : Option Addr) (c1 n1 : Nat), k ≤ n ∧ i = .int .i64 k ∧ s = .slice a1 n1 c1 ∧ Hid (Sep w wr [boxR w.heap.size 26 #[.slice a n c], own 5 .u8 a1 c1 (enc n ++ encB (l.take k))] ∧ n1 = (enc n ++ encB (l.take k)).length)) (fun _ i _ => n - (intOf i).toNat)
    case atStart => exact ⟨0, _, _, _, Nat.zero_le _, rfl, rfl, And.intro (by simpa [encB] using S5.out) (by simp [encB])⟩
    case round =>
      obtain ⟨k, a1, c1, n1, hk, rfl, rfl, hrel⟩ := hrel
      by_cases hlt : (k : Int) < (n : Int)
      · have hkl : k < l.length := by have := HN.out; omega
        obtain ⟨ad, rfl, had, h1, h2⟩ := readsF (HR.out _ hrel.out.1.old) k hkl
        obtain ⟨t, ht⟩ : ∃ t, t = l[k].name := ⟨_, rfl⟩
        obtain ⟨x, hx⟩ : ∃ m, m = l[k].n := ⟨_, rfl⟩
        have HK := Lib.hid (show encB (l.take (k + 1)) = encB (l.take k) ++ ((enc (L3.strB t).length ++ L3.strB t) ++ enc x) by rw [encB_take l k hkl, ht, hx]; rfl)
        have HTL := Lib.hid (show (L3.strB t).length ≤ 8 by
          have h := HNM.out _ (List.getElem_mem hkl)
          unfold isN at h
          simp only [Bool.and_eq_true, decide_eq_true_eq] at h
          rw [ht]; unfold L3.strB; rw [List.length_map]; exact h.2.2)
        rw [← ht] at h1
        rw [← hx] at h2
        clear ht hx
        obtain ⟨fb, hfb⟩ : ∃ g, g = wr.heap.size := ⟨_, rfl⟩
        have SF := Lib.hid (push_box hrel.out.1 64 #[.string t, .int .i64 x] fb hfb)
        obtain ⟨W2, hW2⟩ : ∃ u, u = wr.alloc (.cells #[.string t, .int .i64 x] 64) := ⟨_, rfl⟩
        rw [← hW2] at SF
        go_upto_region 7 with fail
        rw [← hW2, ← hfb]
        clear hW2 hfb h1 h2 had
        obtain ⟨wd, hwd⟩ : ∃ u, u = W2.drew := ⟨_, rfl⟩
        have SD := Lib.hid (show Sep w wd [boxR w.heap.size 26 #[.slice (some ad) n c], own 5 .u8 a1 c1 (enc n ++ encB (l.take k)), boxR fb 64 #[.string t, .int .i64 x]] by rw [hwd]; exact SF.out.drews 1)
        have HC := Lib.hid (show ∀ w', Below wd.heap.size wd w' → w'.cell? ⟨fb, 0, none⟩ = some (.string t) ∧ w'.cell? ⟨fb, 1, none⟩ = some (.int .i64 x) from fun w' h => Row.two (box_at (SD.out.keep h) 2 rfl))
        have HT := Lib.hid (Lib.run_convert_string_bytes (P := Try.prog) wd 9 22 5 t Try.underlying9 Try.underlying22 Try.underlying5)
        have HT1 := Lib.hid (And.intro (L3.strB_reads wd 5 t) (L3.strB_below wd 5 t))
        obtain ⟨wb, hwb⟩ : ∃ x, x = Lib.bytesWorld wd 5 t := ⟨_, rfl⟩
        obtain ⟨cp, hcp⟩ : ∃ x, x = grownCap wd t.size 0 5 := ⟨_, rfl⟩
        obtain ⟨p, hp⟩ : ∃ p, p = t.size := ⟨_, rfl⟩
        rw [← hwb, ← hcp, ← hp] at HT
        rw [← hwb] at HT1
        have SB := Lib.hid (SD.out.keep HT1.out.2)
        obtain ⟨g, hg⟩ : ∃ g, g = wd.heap.size := ⟨_, rfl⟩
        have HTr := Lib.hid HT1.out.1
        rw [← hg] at HT HTr
        have HP := Lib.hid (show p = (L3.strB t).length by rw [hp, L3.strB_length])
        have HN1 := Lib.hid hrel.out.2
        obtain ⟨X, hX⟩ : ∃ X, X = enc n ++ encB (l.take k) ++ enc (L3.strB t).length ++ L3.strB t := ⟨_, rfl⟩
        obtain ⟨Y, hY⟩ : ∃ Y, Y = X ++ enc x := ⟨_, rfl⟩
        have HY := Lib.hid (show enc n ++ encB (l.take (k + 1)) = Y by rw [HK.out, hY, hX]; simp only [List.append_assoc])
        have HXL := Lib.hid (show X.length ≤ 1000 by
          have h3 := HLN.out k
          have h4 := HTL.out
          have h5 := enc_len (L3.strB t).length
          rw [List.length_append] at h3
          rw [hX, List.length_append, List.length_append, List.length_append]
          omega)
        have H15 := Lib.hid (show ∀ w' a8 c8, Own w' 0 5 .u8 a8 c8 X → Calls Try.prog 41 #[.slice a8 X.length c8, .int .i64 x] w' (Gave w' w'.heap.size 5 .u8 Y) from fun w' a8 c8 ho => by
          rw [hY]
          exact implAppendUvarint_any a8 c8 X x w' ho.reads ho.cap (by have := HXL.out; omega))
        have H8 := Lib.hid (show ∀ w', Reads w' w'.heap.size (some ⟨g, 0, none⟩) (ints .u8 (L3.strB t)) → w' = wb → ∀ c2, Calls Try.prog 42 #[.slice a1 n1 c1, .slice (some ⟨g, 0, none⟩) p c2] w' (Gave w' w'.heap.size 5 .u8 X) from fun w' hr he c2 => by
          subst he
          rw [hX]
          rw [HN1.out, HP.out]
          have h3 := HLN.out k
          have h4 := HTL.out
          have ho := own_at0 SB.out 1 rfl
          exact implAppendBytes_any a1 _ c1 c2 _ _ w' ho.reads hr ho.cap (by omega) (by omega))
        have hcv := HT.out
        have HWD := Lib.hid hwd
        have HGd := Lib.hid hg
        clear hwb hcp hp hg hX hY hwd
        refine wp_region_held_drew (S := (fun w' => w'.cell? ⟨fb, 0, none⟩ = some (.string t) ∧ w'.cell? ⟨fb, 1, none⟩ = some (.int .i64 x))) (by kernel_rfl) (by rw [← HWD.out]; exact HC.out _ (Below.refl _ _)) (fun hS => ?_)
        rw [← HWD.out] at hS ⊢
        refine Reg.take_op (i := 0) (v := ?_) rfl (by kernel_rfl) (by kernel_rfl) (by kernel_rfl) (fun _ _ _ h => h) (by rfl) ?_ (by assumption) ?_
        rotate_left
        · (intro w hSw; (try dsimp only at hSw); go_simp; try with_reducible rfl)
        try simp only [Act.put, List.setIfInBounds_toArray, List.set_cons_zero, List.set_cons_succ]
        refine Reg.take_op (i := 1) (v := ?_) rfl (by kernel_rfl) (by kernel_rfl) (by kernel_rfl) (fun _ _ _ h => h) (by rfl) ?_ (by assumption) ?_
        rotate_left
        · (intro w hSw; (try dsimp only at hSw); go_simp; try with_reducible rfl)
        try simp only [Act.put, List.setIfInBounds_toArray, List.set_cons_zero, List.set_cons_succ]
        refine Reg.take_op (i := 2) (v := ?_) rfl (by kernel_rfl) (by kernel_rfl) (by kernel_rfl) (fun _ _ _ h => h) (by rfl) ?_ (by assumption) ?_
        rotate_left
        · (intro w hSw; (try dsimp only at hSw); go_simp; try with_reducible rfl)
        try simp only [Act.put, List.setIfInBounds_toArray, List.set_cons_zero, List.set_cons_succ]
        refine Reg.take_op (i := 5) (v := ?_) rfl (by kernel_rfl) (by kernel_rfl) (by kernel_rfl) (fun _ _ _ h => h) (by rfl) ?_ (by assumption) ?_
        rotate_left
        · (intro w hSw; (try dsimp only at hSw); go_simp; try with_reducible rfl)
        try simp only [Act.put, List.setIfInBounds_toArray, List.set_cons_zero, List.set_cons_succ]
        refine Reg.take_op (i := 6) (v := ?_) rfl (by kernel_rfl) (by kernel_rfl) (by kernel_rfl) (fun _ _ _ h => h) (by rfl) ?_ (by assumption) ?_
        rotate_left
        · (intro w hSw; (try dsimp only at hSw); go_simp; try with_reducible rfl)
        try simp only [Act.put, List.setIfInBounds_toArray, List.set_cons_zero, List.set_cons_succ]
        refine Reg.one_op (i := 3) rfl (by kernel_rfl) (fun K hK => ?_)
        go_simp
        refine hK.out _ _ (HC.out _ HT1.out.2) (fun hS => ?_)
        clear hK K
        try simp only [Act.put, List.setIfInBounds_toArray, List.set_cons_zero, List.set_cons_succ]
        refine Reg.one_op (i := 4) rfl (by kernel_rfl) (fun K hK => ?_)
        go_simp
        go_at_call 42
        refine (H8.out _ HTr.out rfl _).mono ?_
        rintro e w8 ⟨a8, c8, rfl, ho8, hb8⟩
        have HO8 := Lib.hid (And.intro ho8 (HT1.out.2.trans (hb8.mono HT1.out.2.size)))
        have S8 := Lib.hid (SB.out.pushOwn hb8 ho8)
        clear ho8 hb8
        go_wp2_with fail
        refine hK.out _ _ (HC.out _ HO8.out.2) (fun hS => ?_)
        clear hK K
        try simp only [Act.put, List.setIfInBounds_toArray, List.set_cons_zero, List.set_cons_succ]
        refine Reg.one_op (i := 7) rfl (by kernel_rfl) (fun K hK => ?_)
        go_simp
        go_at_call 41
        refine (H15.out _ _ _ (own_at0 S8.out 3 rfl)).mono ?_
        rintro e w9 ⟨a9, c9, rfl, ho9, hb9⟩
        have HO9 := Lib.hid (HO8.out.2.trans (hb9.mono HO8.out.2.size))
        have S9 := Lib.hid (S8.out.pushOwn hb9 ho9)
        clear ho9 hb9
        go_wp2_with fail
        refine hK.out _ _ (HC.out _ HO9.out) (fun hS => ?_)
        clear hK K
        try simp only [Act.put, List.setIfInBounds_toArray, List.set_cons_zero, List.set_cons_succ]
        refine Reg.take_op (i := 8) (v := ?_) rfl (by kernel_rfl) (by kernel_rfl) (by kernel_rfl) (fun _ _ _ h => h) (by rfl) ?_ (by assumption) ?_
        rotate_left
        · (intro w hSw; (try dsimp only at hSw); go_simp; try with_reducible rfl)
        try simp only [Act.put, List.setIfInBounds_toArray, List.set_cons_zero, List.set_cons_succ]
        refine wpAnyH_done (by kernel_rfl) ?_ _
        go_wp2_with fail
        go_roundw
        case rel => exact ⟨k + 1, _, _, _, by omega, by go_num, rfl, And.intro (by rw [HY.out]; exact sep_ends S9.out) (by rw [HY.out])⟩
        case measure => simp [intOf]; omega
      · go_wp2_with fail
        go_ret
        obtain rfl : k = n := by omega
        have e1 : l.take k = l := by rw [HN.out, List.take_length]
        obtain ⟨ho, h3⟩ := hrel.out
        rw [e1] at ho h3
        rw [HE.out]
        exact Gave.mk h3 (ho.ownAt 1 rfl) ho.old
end Go.Proofs.Ytephiilicebdcaa.L5
