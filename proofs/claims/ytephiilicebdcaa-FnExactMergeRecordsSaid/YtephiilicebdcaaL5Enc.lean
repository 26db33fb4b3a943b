/-
  The contract of chapter 5's EncodeRecord of the specification. Conditions: names of at most 2^48 bytes, a record of at most 2^40 fields. (The region that draws its order is written by my program gen_l5enc.py.)
-/
import Derived.Test.YtephiilicebdcaaPc
import Derived.Test.YtephiilicebdcaaPb
import Derived.Test.YtephiilicebdcaaPa
namespace Go.Proofs.Ytephiilicebdcaa.L5
set_option maxRecDepth 100000
open L4 (boxR push_box box_at)
open Go.ChangeShapes Go.WideShapes Go.ChangeAt Go.RowKit Mem Sl Ex L2 Sv
set_option linter.unusedVariables false
set_option linter.unusedSimpArgs false

/-- A field's bytes; a record's. -/
def encF (f : F) : List Int := (enc (L3.strB f.name).length ++ L3.strB f.name) ++ enc f.n
def encB (l : List F) : List Int := l.flatMap encF
def encR (l : List F) : List Int := if isR l then enc l.length ++ encB l else []
theorem encB_take (l : List F) (k : Nat) (h : k < l.length) : encB (l.take (k + 1)) = encB (l.take k) ++ encF l[k] := by
  unfold encB
  rw [List.take_succ_eq_append_getElem h, List.flatMap_append]
  simp
theorem encF_len (f : F) (h : isN f.t = true) : (encF f).length ≤ 20 := by
  unfold isN at h
  simp only [Bool.and_eq_true, decide_eq_true_eq] at h
  have h1 : (L3.strB f.name).length ≤ 8 := by unfold L3.strB; rw [List.length_map]; exact h.2.2
  have h2 := enc_len (L3.strB f.name).length
  have h3 := enc_len f.n
  unfold encF
  simp only [List.length_append]
  omega
theorem encB_len : ∀ (l : List F), (∀ f ∈ l, isN f.t = true) → (encB l).length ≤ 20 * l.length
  | [], _ => by simp [encB]
  | f :: l, h => by
    have h1 := encF_len f (h f (List.mem_cons_self ..))
    have h2 := encB_len l (fun g hg => h g (List.mem_cons_of_mem _ hg))
    unfold encB at h2 ⊢
    rw [List.flatMap_cons, List.length_append, List.length_cons]
    omega
theorem isR_names {l : List F} (h : isR l = true) : ∀ f ∈ l, isN f.t = true := fun f hf => by
  obtain ⟨i, hi, rfl⟩ := List.getElem_of_mem hf
  have := ((isR_iff.1 h).1 i hi hi).1
  unfold okF at this
  exact (Bool.and_eq_true _ _ ▸ this).1
theorem specBytes_any (B : Nat) (a a2 : Option Addr) (c c2 : Nat) (l m : List Int) (w : World) (h : Own w B 5 .u8 a c l) (hr2 : Reads w w.heap.size a2 (ints .u8 m)) (hl : l.length ≤ 1000000000) (hm : m.length ≤ 1000000000) (hB : B ≤ w.heap.size) :
    Calls Try.prog 69 #[.slice a l.length c, .slice a2 m.length c2] w (Gave w B 5 .u8 (l ++ enc m.length ++ m)) :=
  (specAppendBytes_any a a2 c c2 l m w h.reads hr2 h.cap hl hm).mono fun _ _ ⟨a1, c1, he, ho, hb⟩ => ⟨a1, c1, he, ho.base hB, hb.mono hB⟩
set_option maxHeartbeats 4000000 in
theorem specEncodeRecord_any (a : Option Addr) (c : Nat) (l : List F) (hl : l.length ≤ 1099511627776) (hsm : Small l) (w : World) (hr : Reads w w.heap.size a (cellsF l)) :
    Calls Try.prog 43 #[.agg #[.slice a l.length c]] w (Gave w w.heap.size 5 .u8 (encR l)) := by
  obtain ⟨w2, hw2⟩ : ∃ w2, w2 = w.alloc (.cells #[.slice a l.length c] 26) := ⟨_, rfl⟩
  have ba : Row w2 w.heap.size 26 #[.slice a l.length c] := by rw [hw2]; exact Row.made w _ _
  have hbl : Below w.heap.size w w2 := by rw [hw2]; exact below_alloc (Below.refl _ _) _ (Nat.le_refl _)
  have HR := Lib.hid (fun w' (h : Below w.heap.size w w') => hr.below h)
  have HS := Lib.hid (fun w' (h : Below w.heap.size w w') => specIsRecord_any a c l hl hsm w' ((hr.below h).more h.size))
  obtain ⟨n, hn⟩ : ∃ n, n = l.length := ⟨_, rfl⟩
  rw [← hn] at hl HS hw2 ba ⊢
  have HN := Lib.hid hn
  clear hn hr hsm
  have hl' : (n : Int) ≤ 1099511627776 := by omega
  obtain ⟨br, hbr⟩ : ∃ b, isR l = b := ⟨_, rfl⟩
  rw [hbr] at HS
  go_enter Try.func43, Try.ntmps43
  go_upto_region 1 with fail
  rw [← hw2]
  have HZ := Lib.hid (show w.heap.size + 1 ≤ w2.heap.size by rw [hw2]; simp)
  clear hw2
  have b0 := (Row.one ba).1
  go_wp2_with fail
  go_at_call 37
  refine (HS.out _ hbl).mono ?_
  rintro e w3 ⟨rfl, h3⟩
  have BA := Lib.hid (And.intro (Row.below ba h3 ba.inside) (hbl.trans (h3.mono hbl.size)))
  have hsz : w.heap.size + 1 ≤ w3.heap.size := Nat.le_trans HZ.out h3.size
  clear ba hbl h3 HS b0 HZ
  have b0 := (Row.one BA.out.1).1
  cases br with
  | false =>
    have HE := Lib.hid (show encR l = [] by unfold encR; rw [hbr]; rfl)
    go_wp2_with fail
    go_ret
    rw [HE.out]
    exact Gave.mk rfl (Own.empty w3 5 .u8 BA.out.2.size) (below_alloc BA.out.2 _ (Nat.le_refl _))
  | true =>
    have HE := Lib.hid (show encR l = enc n ++ encB l by unfold encR; rw [hbr, HN.out]; rfl)
    have HI := Lib.hid (isR_iff.1 hbr).2
    have HNM := Lib.hid (isR_names hbr)
    have HLN := Lib.hid (show ∀ k, (enc n ++ encB (l.take k)).length ≤ 126 from fun k => by
      have h1 := enc_len n
      have h2 := encB_len (l.take k) (fun f hf => HNM.out f (List.mem_of_mem_take hf))
      have h3 : (l.take k).length ≤ l.length := by rw [List.length_take]; exact Nat.min_le_right _ _
      have h4 := HI.out
      rw [List.length_append]
      omega)
    have H3 := Lib.hid (And.intro (Own.empty (B := w.heap.size + 1) w3 5 .u8 hsz) (below_alloc (Below.refl (w.heap.size + 1) w3) (.cells #[] 5) hsz))
    obtain ⟨w4, hw4⟩ : ∃ u, u = w3.alloc (.cells #[] 5) := ⟨_, rfl⟩
    rw [← hw4] at H3
    obtain ⟨g4, hg4⟩ : ∃ g, g = w3.heap.size := ⟨_, rfl⟩
    rw [← hg4] at H3
    have HC4 := Lib.hid (specStep_any (w.heap.size + 1) _ 0 [] n w4 H3.out.1 (by simp) (Nat.le_trans hsz H3.out.2.size))
    have c0 : w4.cell? ⟨w.heap.size, 0, none⟩ = some (.slice a n c) := (Row.one (Row.below BA.out.1 H3.out.2 (Nat.lt_succ_self _))).1
    have c1 : (w3.alloc (.cells #[] 5)).cell? ⟨w.heap.size, 0, none⟩ = some (.slice a n c) := by rw [← hw4]; exact c0
    go_wp2_with fail
    go_at_call 68
    rw [← hw4, ← hg4]
    refine HC4.out.mono ?_
    rintro e w5 ⟨a5, c5, rfl, ho5, hb5⟩
    have H5 := Lib.hid (And.intro ho5 (H3.out.2.trans hb5))
    clear ho5 hb5 HC4 H3 hw4 hg4 c0 c1 b0
    have b0 := (Row.one (Row.below BA.out.1 H5.out.2 (Nat.lt_succ_self _))).1
    go_wp2_with fail
    go_loopw [3, 4] (fun s i wr => ∃ (k : Nat) (a1 : Option Addr) (c1 n1 : Nat), k ≤ n ∧ i = .int .i64 k ∧ s = .slice a1 n1 c1 ∧ Hid (Own wr (w.heap.size + 1) 5 .u8 a1 c1 (enc n ++ encB (l.take k)) ∧ Below (w.heap.size + 1) w3 wr ∧ n1 = (enc n ++ encB (l.take k)).length)) (fun _ i _ => n - (intOf i).toNat)
    case atStart => exact ⟨0, _, _, _, Nat.zero_le _, rfl, rfl, And.intro (by simpa [encB] using H5.out.1) (And.intro H5.out.2 (by simp [encB]))⟩
    case round =>
      obtain ⟨k, a1, c1, n1, hk, rfl, rfl, hrel⟩ := hrel
      clear b0
      have b0 := (Row.one (Row.below BA.out.1 hrel.out.2.1 (Nat.lt_succ_self _))).1
      by_cases hlt : (k : Int) < (n : Int)
      · have hkl : k < l.length := by have := HN.out; omega
        have hbw : Below w.heap.size w wr := BA.out.2.trans (hrel.out.2.1.mono (Nat.le_succ _))
        obtain ⟨ad, rfl, had, h1, h2⟩ := readsF (HR.out _ hbw) k hkl
        obtain ⟨t, ht⟩ : ∃ t, t = l[k].name := ⟨_, rfl⟩
        obtain ⟨x, hx⟩ : ∃ m, m = l[k].n := ⟨_, rfl⟩
        have HK := Lib.hid (show encB (l.take (k + 1)) = encB (l.take k) ++ ((enc (L3.strB t).length ++ L3.strB t) ++ enc x) by rw [encB_take l k hkl, ht, hx]; rfl)
        have HTL := Lib.hid (show (L3.strB t).length ≤ 8 by
          have h := HNM.out _ (List.getElem_mem hkl)
          unfold isN at h
          simp only [Bool.and_eq_true, decide_eq_true_eq] at h
          rw [ht]; unfold L3.strB; rw [List.length_map]; exact h.2.2)
        rw [← ht] at h1
        rw [← hx] at h2
        have HTX := Lib.hid (And.intro ht hx)
        clear ht hx
        have hsr : w.heap.size + 1 ≤ wr.heap.size := Nat.le_trans hsz hrel.out.2.1.size
        obtain ⟨wd, hwd⟩ : ∃ u, u = wr.drew := ⟨_, rfl⟩
        have HD := Lib.hid (show Below (w.heap.size + 1) wr wd ∧ w.heap.size + 1 ≤ wd.heap.size ∧ Own wd (w.heap.size + 1) 5 .u8 a1 c1 (enc n ++ encB (l.take k)) from by
          rw [hwd]
          exact ⟨(Below.refl _ _).drew, hsr, hrel.out.1.below (Below.refl _ _).drew⟩)
        have HC := Lib.hid (show ∀ w', Below (w.heap.size + 1) wd w' → w'.cell? ⟨w.heap.size, 0, none⟩ = some (.slice (some ad) n c) ∧ w'.cell? (ad.add (k * 2)) = some (.string t) ∧ w'.cell? ⟨(ad.add (k * 2)).block, (ad.add (k * 2)).off + 1, none⟩ = some (.int .i64 x) from fun w' h => by
          have hb := HD.out.1.trans h
          have h0 := readsF (HR.out _ (BA.out.2.trans ((hrel.out.2.1.trans hb).mono (Nat.le_succ _)))) k hkl
          obtain ⟨ad', e', _, g1, g2⟩ := h0
          injection e' with e'
          subst e'
          rw [← HTX.out.1] at g1
          rw [← HTX.out.2] at g2
          exact ⟨(Row.one (Row.below BA.out.1 (hrel.out.2.1.trans hb) (Nat.lt_succ_self _))).1, g1, g2⟩)
        have HT := Lib.hid (Lib.run_convert_string_bytes (P := Try.prog) wd 9 22 5 t Try.underlying9 Try.underlying22 Try.underlying5)
        have HT1 := Lib.hid (And.intro (L3.strB_reads wd 5 t) (L3.strB_below wd 5 t))
        obtain ⟨wb, hwb⟩ : ∃ x, x = Lib.bytesWorld wd 5 t := ⟨_, rfl⟩
        obtain ⟨cp, hcp⟩ : ∃ x, x = grownCap wd t.size 0 5 := ⟨_, rfl⟩
        obtain ⟨p, hp⟩ : ∃ p, p = t.size := ⟨_, rfl⟩
        rw [← hwb, ← hcp, ← hp] at HT
        rw [← hwb] at HT1
        obtain ⟨g, hg⟩ : ∃ g, g = wd.heap.size := ⟨_, rfl⟩
        rw [← hg] at HT HT1
        have HB7 := Lib.hid (HT1.out.2.mono (by rw [hg]; exact HD.out.2.1))
        have HP := Lib.hid (show p = (L3.strB t).length by rw [hp, L3.strB_length])
        have HN1 := Lib.hid hrel.out.2.2
        obtain ⟨X, hX⟩ : ∃ X, X = enc n ++ encB (l.take k) ++ enc (L3.strB t).length ++ L3.strB t := ⟨_, rfl⟩
        obtain ⟨Y, hY⟩ : ∃ Y, Y = X ++ enc x := ⟨_, rfl⟩
        have HY := Lib.hid (show enc n ++ encB (l.take (k + 1)) = Y by rw [HK.out, hY, hX]; simp only [List.append_assoc])
        have HXL := Lib.hid (show X.length ≤ 1000 by
          have h3 := HLN.out k
          have h4 := HTL.out
          have h5 := enc_len (L3.strB t).length
          rw [List.length_append] at h3
          rw [hX, List.length_append, List.length_append, List.length_append]
          omega)
        have H15 := Lib.hid (show ∀ w' a8 c8, Own w' (w.heap.size + 1) 5 .u8 a8 c8 X → Below (w.heap.size + 1) wb w' → Calls Try.prog 68 #[.slice a8 X.length c8, .int .i64 x] w' (Gave w' (w.heap.size + 1) 5 .u8 Y) from fun w' a8 c8 ho hb => by
          rw [hY]
          exact specStep_any (w.heap.size + 1) a8 c8 X x w' ho (by have := HXL.out; omega) (Nat.le_trans HD.out.2.1 (Nat.le_trans HB7.out.size hb.size)))
        have H8 := Lib.hid (show ∀ w', Reads w' w'.heap.size (some ⟨g, 0, none⟩) (ints .u8 (L3.strB t)) → w' = wb → ∀ c2, Calls Try.prog 69 #[.slice a1 n1 c1, .slice (some ⟨g, 0, none⟩) p c2] w' (Gave w' (w.heap.size + 1) 5 .u8 X) from fun w' hr he c2 => by
          subst he
          rw [hX]
          rw [HN1.out, HP.out]
          have h3 := HLN.out k
          have h4 := HTL.out
          exact specBytes_any (w.heap.size + 1) a1 _ c1 c2 _ _ w' (HD.out.2.2.below (HT1.out.2.mono (Nat.le_of_eq hg.symm))) hr (by omega) (by omega) (Nat.le_trans HD.out.2.1 (by rw [← hg]; exact hg ▸ HT1.out.2.size)))
        have hcv := HT.out
        clear hwb hcp hp hg hX hY
        have HWD := Lib.hid hwd
        clear hwd h1 h2 had
        go_upto_region 7 with fail
        refine wp_region_held_drew (S := (fun w' => w'.cell? ⟨w.heap.size, 0, none⟩ = some (.slice (some ad) n c) ∧ w'.cell? (ad.add (k * 2)) = some (.string t) ∧ w'.cell? ⟨(ad.add (k * 2)).block, (ad.add (k * 2)).off + 1, none⟩ = some (.int .i64 x))) (by kernel_rfl) (by rw [← HWD.out]; exact HC.out _ (Below.refl _ _)) (fun hS => ?_)
        rw [← HWD.out] at hS ⊢
        refine Reg.take_op (i := 0) (v := ?_) rfl (by kernel_rfl) (by kernel_rfl) (by kernel_rfl) (fun _ _ _ h => h) (by rfl) ?_ (by assumption) ?_
        rotate_left
        · (intro w hSw; (try dsimp only at hSw); go_simp; try with_reducible rfl)
        try simp only [Act.put, List.setIfInBounds_toArray, List.set_cons_zero, List.set_cons_succ]
        refine Reg.take_op (i := 1) (v := ?_) rfl (by kernel_rfl) (by kernel_rfl) (by kernel_rfl) (fun _ _ _ h => h) (by rfl) ?_ (by assumption) ?_
        rotate_left
        · (intro w hSw; (try dsimp only at hSw); go_simp; try with_reducible rfl)
        try simp only [Act.put, List.setIfInBounds_toArray, List.set_cons_zero, List.set_cons_succ]
        refine Reg.take_op (i := 2) (v := ?_) rfl (by kernel_rfl) (by kernel_rfl) (by kernel_rfl) (fun _ _ _ h => h) (by rfl) ?_ (by assumption) ?_
        rotate_left
        · (intro w hSw; (try dsimp only at hSw); go_simp; try with_reducible rfl)
        try simp only [Act.put, List.setIfInBounds_toArray, List.set_cons_zero, List.set_cons_succ]
        refine Reg.take_op (i := 3) (v := ?_) rfl (by kernel_rfl) (by kernel_rfl) (by kernel_rfl) (fun _ _ _ h => h) (by rfl) ?_ (by assumption) ?_
        rotate_left
        · (intro w hSw; (try dsimp only at hSw); go_simp; try with_reducible rfl)
        try simp only [Act.put, List.setIfInBounds_toArray, List.set_cons_zero, List.set_cons_succ]
        refine Reg.take_op (i := 4) (v := ?_) rfl (by kernel_rfl) (by kernel_rfl) (by kernel_rfl) (fun _ _ _ h => h) (by rfl) ?_ (by assumption) ?_
        rotate_left
        · (intro w hSw; (try dsimp only at hSw); go_simp; try with_reducible rfl)
        try simp only [Act.put, List.setIfInBounds_toArray, List.set_cons_zero, List.set_cons_succ]
        refine Reg.take_op (i := 5) (v := ?_) rfl (by kernel_rfl) (by kernel_rfl) (by kernel_rfl) (fun _ _ _ h => h) (by rfl) ?_ (by assumption) ?_
        rotate_left
        · (intro w hSw; (try dsimp only at hSw); go_simp; try with_reducible rfl)
        try simp only [Act.put, List.setIfInBounds_toArray, List.set_cons_zero, List.set_cons_succ]
        refine Reg.take_op (i := 6) (v := ?_) rfl (by kernel_rfl) (by kernel_rfl) (by kernel_rfl) (fun _ _ _ h => h) (by rfl) ?_ (by assumption) ?_
        rotate_left
        · (intro w hSw; (try dsimp only at hSw); go_simp; try with_reducible rfl)
        try simp only [Act.put, List.setIfInBounds_toArray, List.set_cons_zero, List.set_cons_succ]
        refine Reg.take_op (i := 9) (v := ?_) rfl (by kernel_rfl) (by kernel_rfl) (by kernel_rfl) (fun _ _ _ h => h) (by rfl) ?_ (by assumption) ?_
        rotate_left
        · (intro w hSw; (try dsimp only at hSw); go_simp; try with_reducible rfl)
        try simp only [Act.put, List.setIfInBounds_toArray, List.set_cons_zero, List.set_cons_succ]
        refine Reg.take_op (i := 10) (v := ?_) rfl (by kernel_rfl) (by kernel_rfl) (by kernel_rfl) (fun _ _ _ h => h) (by rfl) ?_ (by assumption) ?_
        rotate_left
        · (intro w hSw; (try dsimp only at hSw); go_simp; try with_reducible rfl)
        try simp only [Act.put, List.setIfInBounds_toArray, List.set_cons_zero, List.set_cons_succ]
        refine Reg.take_op (i := 11) (v := ?_) rfl (by kernel_rfl) (by kernel_rfl) (by kernel_rfl) (fun _ _ _ h => h) (by rfl) ?_ (by assumption) ?_
        rotate_left
        · (intro w hSw; (try dsimp only at hSw); go_simp; try with_reducible rfl)
        try simp only [Act.put, List.setIfInBounds_toArray, List.set_cons_zero, List.set_cons_succ]
        refine Reg.take_op (i := 12) (v := ?_) rfl (by kernel_rfl) (by kernel_rfl) (by kernel_rfl) (fun _ _ _ h => h) (by rfl) ?_ (by assumption) ?_
        rotate_left
        · (intro w hSw; (try dsimp only at hSw); go_simp; try with_reducible rfl)
        try simp only [Act.put, List.setIfInBounds_toArray, List.set_cons_zero, List.set_cons_succ]
        refine Reg.take_op (i := 13) (v := ?_) rfl (by kernel_rfl) (by kernel_rfl) (by kernel_rfl) (fun _ _ _ h => h) (by rfl) ?_ (by assumption) ?_
        rotate_left
        · (intro w hSw; (try dsimp only at hSw); go_simp; try with_reducible rfl)
        try simp only [Act.put, List.setIfInBounds_toArray, List.set_cons_zero, List.set_cons_succ]
        refine Reg.take_op (i := 14) (v := ?_) rfl (by kernel_rfl) (by kernel_rfl) (by kernel_rfl) (fun _ _ _ h => h) (by rfl) ?_ (by assumption) ?_
        rotate_left
        · (intro w hSw; (try dsimp only at hSw); go_simp; try with_reducible rfl)
        try simp only [Act.put, List.setIfInBounds_toArray, List.set_cons_zero, List.set_cons_succ]
        refine Reg.one_op (i := 7) rfl (by kernel_rfl) (fun K hK => ?_)
        go_simp
        refine hK.out _ _ (HC.out _ HB7.out) (fun hS => ?_)
        clear hK K
        try simp only [Act.put, List.setIfInBounds_toArray, List.set_cons_zero, List.set_cons_succ]
        refine Reg.one_op (i := 8) rfl (by kernel_rfl) (fun K hK => ?_)
        go_simp
        go_at_call 69
        refine (H8.out _ HT1.out.1 rfl _).mono ?_
        rintro e w8 ⟨a8, c8, rfl, ho8, hb8⟩
        have HO8 := Lib.hid (And.intro ho8 hb8)
        clear ho8 hb8
        go_wp2_with fail
        refine hK.out _ _ (HC.out _ (HB7.out.trans HO8.out.2)) (fun hS => ?_)
        clear hK K
        try simp only [Act.put, List.setIfInBounds_toArray, List.set_cons_zero, List.set_cons_succ]
        refine Reg.one_op (i := 15) rfl (by kernel_rfl) (fun K hK => ?_)
        go_simp
        go_at_call 68
        refine (H15.out _ _ _ HO8.out.1 HO8.out.2).mono ?_
        rintro e w9 ⟨a9, c9, rfl, ho9, hb9⟩
        have HO9 := Lib.hid (And.intro ho9 hb9)
        clear ho9 hb9
        go_wp2_with fail
        refine hK.out _ _ (HC.out _ ((HB7.out.trans HO8.out.2).trans HO9.out.2)) (fun hS => ?_)
        clear hK K
        try simp only [Act.put, List.setIfInBounds_toArray, List.set_cons_zero, List.set_cons_succ]
        refine Reg.take_op (i := 16) (v := ?_) rfl (by kernel_rfl) (by kernel_rfl) (by kernel_rfl) (fun _ _ _ h => h) (by rfl) ?_ (by assumption) ?_
        rotate_left
        · (intro w hSw; (try dsimp only at hSw); go_simp; try with_reducible rfl)
        try simp only [Act.put, List.setIfInBounds_toArray, List.set_cons_zero, List.set_cons_succ]
        refine wpAnyH_done (by kernel_rfl) ?_ _
        go_wp2_with fail
        go_roundw
        case rel => exact ⟨k + 1, _, _, _, by omega, by go_num, rfl, And.intro (by rw [HY.out]; exact HO9.out.1) (And.intro (((hrel.out.2.1.trans HD.out.1).trans HB7.out).trans (HO8.out.2.trans HO9.out.2)) (by rw [HY.out]))⟩
        case measure => simp [intOf]; omega
      · go_wp2_with fail
        go_ret
        obtain rfl : k = n := by omega
        have e1 : l.take k = l := by rw [HN.out, List.take_length]
        obtain ⟨ho, hb, h3⟩ := hrel.out
        rw [e1] at ho h3
        rw [HE.out]
        exact Gave.mk h3 (ho.base (Nat.le_succ _)) (BA.out.2.trans (hb.mono (Nat.le_succ _)))
end Go.Proofs.Ytephiilicebdcaa.L5
