/-
  What the law FnExactDeleteItems needs, laid by my program lawpack.py, part 3: the texts L4Im4, L6Ic, L4Im6, L6Ii, L6Pm, L6Lc, one behind the other; each begins with its own words.
-/
import Derived.Test.YtojcdmgcbgpdmaaFnExactDeleteItemsP2
set_option linter.unusedSimpArgs false
set_option linter.unusedVariables false
set_option maxRecDepth 100000
set_option linter.unusedSimpArgs false
namespace Go.Proofs.Ytojcdmgcbgpdmaa.L4
open Go.Op (bytesLess)
open Go.ChangeShapes Go.WideShapes Go.ChangeAt Go.RowKit Mem Sl Ex L2

theorem step_store_box {P : Program} {ops : Array Oper} {o : Oper} {a : Act} {w : World} {K : Act → World → Prop} {Q : Exit → Act → World → Prop} {E : Prop} (hgd : o.guard = none) (ty : TypeId) (x y : Operand) (ho : o.op = .store ty x y)
  (g : Nat) (t : TypeId) (old cells : Array Value) (hx : a.eval x = .pointer (some ⟨g, 0, none⟩)) (hy : a.eval y = .agg cells) (hr : Row w g t old) (hi : (P.info? ty).map (·.size) = some cells.size) (hold : old.size = cells.size) (h1 : cells.all (·.oneCell') = true)
  (h : ∀ w', Turned [g] w w' → Row w' g t cells → K (a.put o.dst undef) w') : if Region.wanted o (yielded ops a.tmps) = true then Oper.wp P o a w K Q else E := by
 have hw : Region.wanted o (yielded ops a.tmps) = true := by simp [Region.wanted, hgd]
 rw [if_pos hw]
 refine wp_store_row ty x y ho g cells hx hy t old hr hi hold h1 (h _ ⟨rfl, rfl, rfl, by simp [World.setRow], fun b _ hb => setRow_other w g b cells (by simpa using hb)⟩ (setRow_heap w g old cells t (0, 0) hr))
theorem sep_two {W w : World} {a b : Res} {ts : List Res} (h : Sep W w (a :: b :: ts)) : Sep W w [a, b] := by
 have e : ∀ (i : Nat) (r : Res), [a, b][i]? = some r → (a :: b :: ts)[i]? = some r := fun i r hi => by
  match i with
  | 0 => simpa using hi
  | 1 => simpa using hi
  | i + 2 => simp at hi
 exact ⟨h.old, fun i r hi => h.is i r (e i r hi), fun i r hi => h.lies i r (e i r hi), fun i j r s hi hj => h.apart i j r s (e i r hi) (e j s hj)⟩
theorem box6 {w : World} {g : Nat} {t : TypeId} {a0 a1 a2 a3 a4 a5 : Value} (hr : Row w g t #[a0, a1, a2, a3, a4, a5]) : w.cell? ⟨g, 0, none⟩ = some a0 ∧ w.cell? ⟨g, 1, none⟩ = some a1 ∧ w.cell? ⟨g, 2, none⟩ = some a2 ∧ w.cell? ⟨g, 3, none⟩ = some a3 ∧ w.cell? ⟨g, 4, none⟩ = some a4 ∧ w.cell? ⟨g, 5, none⟩ = some a5 := by
 refine ⟨?_, ?_, ?_, ?_, ?_, ?_⟩ <;> (rw [hr.cell]; rfl)
set_option maxHeartbeats 30000000 in
theorem implCompareKeys_any (a b : K) (ha : a.text.size ≤ 281474976710656) (hb : b.text.size ≤ 281474976710656) (w : World) :
  Calls Try.prog 101 #[a.v, b.v] w fun e w' => e = .returned (.int .i64 (cmpK a b)) ∧ Below w.heap.size w w' := by
 have H1 := Lib.hid (fun w => implIsKey_any a ha w)
 have H2 := Lib.hid (fun w => implIsKey_any b hb w)
 obtain ⟨ia, hia⟩ : ∃ x, isK a = x := ⟨_, rfl⟩
 obtain ⟨ib, hib⟩ : ∃ x, isK b = x := ⟨_, rfl⟩
 rw [hia] at H1
 rw [hib] at H2
 obtain ⟨ka, na, sa⟩ := a
 obtain ⟨kb, nb, sb⟩ := b
 have S0 := Sl.Sep.start w
 have S1 := L4.push_box S0 28 #[.int .i64 ka, .int .i64 na, .string sa] (w.heap.size) (by simp)
 clear S0
 have S2 := L4.push_box S1 28 #[.int .i64 kb, .int .i64 nb, .string sb] (w.heap.size + 1) (by simp)
 clear S1
 unfold K.v at H1 H2 ⊢
 go_enter Try.func101, Try.ntmps101
 go_wp2_with fail
 go_at_call 99
 refine (H1.out _).mono ?_
 rintro e w3 ⟨rfl, h3⟩
 have S3 := S2.keep h3
 clear S2 h3
 obtain ⟨f0_0, f0_1, f0_2⟩ := L4.box3 S3 0 rfl
 obtain ⟨f1_0, f1_1, f1_2⟩ := L4.box3 S3 1 rfl
 cases ia with
 | false =>
  go_wp2_with fail
  go_ret
  exact ⟨by rw [cmpK_bad1 hia]; rfl, S3.old⟩
 | true =>
  go_wp2_with fail
  go_at_call 99
  refine (H2.out _).mono ?_
  rintro e w4 ⟨rfl, h4⟩
  have S4 := S3.keep h4
  clear S3 h4 f0_0 f0_1 f0_2 f1_0 f1_1 f1_2
  obtain ⟨f0_0, f0_1, f0_2⟩ := L4.box3 S4 0 rfl
  obtain ⟨f1_0, f1_1, f1_2⟩ := L4.box3 S4 1 rfl
  cases ib with
  | false =>
   go_wp2_with fail
   go_ret
   exact ⟨by rw [cmpK_bad2 hib]; rfl, S4.old⟩
  | true =>
   have ga := isK_iff.1 hia
   have gb := isK_iff.1 hib
   by_cases hk : ka = kb
   ·
    obtain ⟨ma, hma⟩ : ∃ m : Nat, (m : Int) = na + 1000000000000 := ⟨(na + 1000000000000).toNat, by have := ga.n0; simp only at this; omega⟩
    obtain ⟨mb, hmb⟩ : ∃ m : Nat, (m : Int) = nb + 1000000000000 := ⟨(nb + 1000000000000).toNat, by have := gb.n0; simp only at this; omega⟩
    have HA := Lib.hid (fun w => encodeNumber_any na ma hma ga.n1 w)
    have HB := Lib.hid (fun w => encodeNumber_any nb mb hmb gb.n1 w)
    obtain ⟨x0, x1, x2, x3, x4, x5, hxc, hxl⟩ := numCells_form ma
    obtain ⟨y0, y1, y2, y3, y4, y5, hyc, hyl⟩ := numCells_form mb
    rw [hxc] at HA
    rw [hyc] at HB
    have HE1 := Lib.hid (fun (hn : na = nb) => cmpK_t hia hib hk hn)
    have HE2 := Lib.hid (fun (hn : ¬ na = nb) => cmpK_n hia hib hk hn)
    have HM := Lib.hid (And.intro hma (And.intro hmb (And.intro hxl hyl)))
    have HM2 := Lib.hid (show na ≤ 1000000000000 ∧ nb ≤ 1000000000000 from ⟨ga.n1, gb.n1⟩)
    subst hk
    clear hia hib ga gb hxc hyc hma hmb hxl hyl
    go_upto_region 5 with fail
    go_cut [5, 6] (fun p q wx => ∃ g1 g2, p = .pointer (some ⟨g1, 0, none⟩) ∧ q = .pointer (some ⟨g2, 0, none⟩) ∧ Hid (Row wx g1 190 #[.int .u8 x0, .int .u8 x1, .int .u8 x2, .int .u8 x3, .int .u8 x4, .int .u8 x5] ∧ Row wx g2 190 #[.int .u8 y0, .int .u8 y1, .int .u8 y2, .int .u8 y3, .int .u8 y4, .int .u8 y5] ∧ Sep w wx [boxR w.heap.size 28 #[.int .i64 ka, .int .i64 na, .string sa], boxR (w.heap.size + 1) 28 #[.int .i64 ka, .int .i64 nb, .string sb]]))
    case first =>
     refine wp_region_held_drew (S := fun w' => w'.cell? ⟨w.heap.size, 1, none⟩ = some (.int .i64 na) ∧ w'.cell? ⟨w.heap.size + 1, 1, none⟩ = some (.int .i64 nb)) (by kernel_rfl) ⟨f0_1, f1_1⟩ (fun hS => ?_)
     have S4d : Sep w w4.drew _ := S4.drews 1
     clear f0_0 f0_1 f0_2 f1_0 f1_1 f1_2 S4
     generalize w4.drew = wd at hS S4d ⊢
     refine wpAnyH_take (i := 0) (v := ?_) rfl (by kernel_rfl) (by kernel_rfl) (by kernel_rfl) (fun _ _ _ h => h) (Or.inl ⟨by rfl, ?_⟩) (by assumption) ?_
     rotate_left
     ·
      (intro w hSw; (try dsimp only at hSw); go_simp; try with_reducible rfl)
     try simp only [zp0, zp1, zp2, zp3, zp4]
     refine wpAnyH_take (i := 1) (v := ?_) rfl (by kernel_rfl) (by kernel_rfl) (by kernel_rfl) (fun _ _ _ h => h) (Or.inl ⟨by rfl, ?_⟩) (by assumption) ?_
     rotate_left
     ·
      (intro w hSw; (try dsimp only at hSw); go_simp; try with_reducible rfl)
     try simp only [zp0, zp1, zp2, zp3, zp4]
     refine wpAnyH_take (i := 3) (v := ?_) rfl (by kernel_rfl) (by kernel_rfl) (by kernel_rfl) (fun _ _ _ h => h) (Or.inl ⟨by rfl, ?_⟩) (by assumption) ?_
     rotate_left
     ·
      (intro w hSw; (try dsimp only at hSw); go_simp; try with_reducible rfl)
     try simp only [zp0, zp1, zp2, zp3, zp4]
     refine wpAnyH_take (i := 4) (v := ?_) rfl (by kernel_rfl) (by kernel_rfl) (by kernel_rfl) (fun _ _ _ h => h) (Or.inl ⟨by rfl, ?_⟩) (by assumption) ?_
     rotate_left
     ·
      (intro w hSw; (try dsimp only at hSw); go_simp; try with_reducible rfl)
     try simp only [zp0, zp1, zp2, zp3, zp4]
     refine wpAnyH_ready (rs := [2, 6, 7]) (by kernel_rfl) (by simp) ?_
     refine AllReadyH.cons rfl (fun K hK => ?_) ?_
     ·
      go_simp
      go_at_call 174
      refine (HA.out _).mono ?_
      rintro e w1x ⟨rfl, hb⟩
      have S1x := Sl.Sep.keep S4d hb
      clear hb S4d
      go_wp2_with fail
      refine hK.out _ _ ⟨(box3 S1x 0 rfl).2.1, (box3 S1x 1 rfl).2.1⟩ (fun hS => ?_)
      clear hK K
      try simp only [zp0, zp1, zp2, zp3, zp4]
      refine wpAnyH_ready (rs := [5, 6, 7]) (by kernel_rfl) (by simp) ?_
      refine AllReadyH.cons rfl (fun K hK => ?_) ?_
      ·
       go_simp
       go_at_call 174
       refine (HB.out _).mono ?_
       rintro e w2x ⟨rfl, hb⟩
       have S2x := Sl.Sep.keep S1x hb
       clear hb S1x
       go_wp2_with fail
       refine hK.out _ _ ⟨(box3 S2x 0 rfl).2.1, (box3 S2x 1 rfl).2.1⟩ (fun hS => ?_)
       clear hK K
       try simp only [zp0, zp1, zp2, zp3, zp4]
       refine wpAnyH_ready (rs := [6, 7]) (by kernel_rfl) (by simp) ?_
       refine AllReadyH.cons rfl (fun K hK => ?_) ?_
       ·
        have S3x := push_box S2x 190 #[.int .u8 0, .int .u8 0, .int .u8 0, .int .u8 0, .int .u8 0, .int .u8 0] w2x.heap.size rfl
        go_simp
        refine hK.out _ _ ⟨(box3 S3x 0 rfl).2.1, (box3 S3x 1 rfl).2.1⟩ (fun hS => ?_)
        clear hK K
        try simp only [zp0, zp1, zp2, zp3, zp4]
        generalize w2x.alloc (.cells #[.int .u8 0, .int .u8 0, .int .u8 0, .int .u8 0, .int .u8 0, .int .u8 0] 190) = w3x at hS S3x ⊢
        refine wpAnyH_ready (rs := [7]) (by kernel_rfl) (by simp) ?_
        refine AllReadyH.cons rfl (fun K hK => ?_) ?_
        ·
         have S4x := push_box S3x 190 #[.int .u8 0, .int .u8 0, .int .u8 0, .int .u8 0, .int .u8 0, .int .u8 0] w3x.heap.size rfl
         go_simp
         refine hK.out _ _ ⟨(box3 S4x 0 rfl).2.1, (box3 S4x 1 rfl).2.1⟩ (fun hS => ?_)
         clear hK K
         try simp only [zp0, zp1, zp2, zp3, zp4]
         generalize w3x.alloc (.cells #[.int .u8 0, .int .u8 0, .int .u8 0, .int .u8 0, .int .u8 0, .int .u8 0] 190) = w4x at hS S4x ⊢
         refine wpAnyH_ready (rs := [8]) (by kernel_rfl) (by simp) ?_
         refine AllReadyH.cons rfl (fun K hK => ?_) ?_
         ·
          refine step_store_box rfl 190 (.tmp 5) (.tmp 27) rfl w2x.heap.size 190 #[.int .u8 0, .int .u8 0, .int .u8 0, .int .u8 0, .int .u8 0, .int .u8 0] #[.int .u8 x0, .int .u8 x1, .int .u8 x2, .int .u8 x3, .int .u8 x4, .int .u8 x5] rfl rfl (box_at S4x 2 rfl) (by kernel_rfl) rfl (by simp [Value.oneCell']) ?_
          intro w5x ht hr
          have S5x := Sl.Sep.put (r' := boxR w2x.heap.size 190 #[.int .u8 x0, .int .u8 x1, .int .u8 x2, .int .u8 x3, .int .u8 x4, .int .u8 x5]) S4x 2 rfl ht hr (fun b hb => hb)
          clear ht hr
          refine hK.out _ _ ⟨(box3 S5x 0 rfl).2.1, (box3 S5x 1 rfl).2.1⟩ (fun hS => ?_)
          clear hK K
          try simp only [zp0, zp1, zp2, zp3, zp4]
          refine wpAnyH_ready (rs := [9]) (by kernel_rfl) (by simp) ?_
          refine AllReadyH.cons rfl (fun K hK => ?_) ?_
          ·
           refine step_store_box rfl 190 (.tmp 6) (.tmp 30) rfl w3x.heap.size 190 #[.int .u8 0, .int .u8 0, .int .u8 0, .int .u8 0, .int .u8 0, .int .u8 0] #[.int .u8 y0, .int .u8 y1, .int .u8 y2, .int .u8 y3, .int .u8 y4, .int .u8 y5] rfl rfl (box_at S5x 3 rfl) (by kernel_rfl) rfl (by simp [Value.oneCell']) ?_
           intro w6x ht hr
           have S6x := Sl.Sep.put (r' := boxR w3x.heap.size 190 #[.int .u8 y0, .int .u8 y1, .int .u8 y2, .int .u8 y3, .int .u8 y4, .int .u8 y5]) S5x 3 rfl ht hr (fun b hb => hb)
           clear ht hr
           refine hK.out _ _ ⟨(box3 S6x 0 rfl).2.1, (box3 S6x 1 rfl).2.1⟩ (fun hS => ?_)
           clear hK K
           try simp only [zp0, zp1, zp2, zp3, zp4]
           refine wpAnyH_done (by kernel_rfl) ?_ _
           go_wp2_with fail
           go_meet
           case rel => exact ⟨_, _, rfl, rfl, And.intro (box_at S6x 2 rfl) (And.intro (box_at S6x 3 rfl) (sep_two S6x))⟩
          exact AllReadyH.nil
         exact AllReadyH.nil
        exact AllReadyH.nil
       refine AllReadyH.cons rfl (fun K hK => ?_) ?_
       ·
        have S7x := push_box S2x 190 #[.int .u8 0, .int .u8 0, .int .u8 0, .int .u8 0, .int .u8 0, .int .u8 0] w2x.heap.size rfl
        go_simp
        refine hK.out _ _ ⟨(box3 S7x 0 rfl).2.1, (box3 S7x 1 rfl).2.1⟩ (fun hS => ?_)
        clear hK K
        try simp only [zp0, zp1, zp2, zp3, zp4]
        generalize w2x.alloc (.cells #[.int .u8 0, .int .u8 0, .int .u8 0, .int .u8 0, .int .u8 0, .int .u8 0] 190) = w7x at hS S7x ⊢
        refine wpAnyH_ready (rs := [6]) (by kernel_rfl) (by simp) ?_
        refine AllReadyH.cons rfl (fun K hK => ?_) ?_
        ·
         have S8x := push_box S7x 190 #[.int .u8 0, .int .u8 0, .int .u8 0, .int .u8 0, .int .u8 0, .int .u8 0] w7x.heap.size rfl
         go_simp
         refine hK.out _ _ ⟨(box3 S8x 0 rfl).2.1, (box3 S8x 1 rfl).2.1⟩ (fun hS => ?_)
         clear hK K
         try simp only [zp0, zp1, zp2, zp3, zp4]
         generalize w7x.alloc (.cells #[.int .u8 0, .int .u8 0, .int .u8 0, .int .u8 0, .int .u8 0, .int .u8 0] 190) = w8x at hS S8x ⊢
         refine wpAnyH_ready (rs := [8]) (by kernel_rfl) (by simp) ?_
         refine AllReadyH.cons rfl (fun K hK => ?_) ?_
         ·
          refine step_store_box rfl 190 (.tmp 5) (.tmp 27) rfl w7x.heap.size 190 #[.int .u8 0, .int .u8 0, .int .u8 0, .int .u8 0, .int .u8 0, .int .u8 0] #[.int .u8 x0, .int .u8 x1, .int .u8 x2, .int .u8 x3, .int .u8 x4, .int .u8 x5] rfl rfl (box_at S8x 3 rfl) (by kernel_rfl) rfl (by simp [Value.oneCell']) ?_
          intro w9x ht hr
          have S9x := Sl.Sep.put (r' := boxR w7x.heap.size 190 #[.int .u8 x0, .int .u8 x1, .int .u8 x2, .int .u8 x3, .int .u8 x4, .int .u8 x5]) S8x 3 rfl ht hr (fun b hb => hb)
          clear ht hr
          refine hK.out _ _ ⟨(box3 S9x 0 rfl).2.1, (box3 S9x 1 rfl).2.1⟩ (fun hS => ?_)
          clear hK K
          try simp only [zp0, zp1, zp2, zp3, zp4]
          refine wpAnyH_ready (rs := [9]) (by kernel_rfl) (by simp) ?_
          refine AllReadyH.cons rfl (fun K hK => ?_) ?_
          ·
           refine step_store_box rfl 190 (.tmp 6) (.tmp 30) rfl w2x.heap.size 190 #[.int .u8 0, .int .u8 0, .int .u8 0, .int .u8 0, .int .u8 0, .int .u8 0] #[.int .u8 y0, .int .u8 y1, .int .u8 y2, .int .u8 y3, .int .u8 y4, .int .u8 y5] rfl rfl (box_at S9x 2 rfl) (by kernel_rfl) rfl (by simp [Value.oneCell']) ?_
           intro w10x ht hr
           have S10x := Sl.Sep.put (r' := boxR w2x.heap.size 190 #[.int .u8 y0, .int .u8 y1, .int .u8 y2, .int .u8 y3, .int .u8 y4, .int .u8 y5]) S9x 2 rfl ht hr (fun b hb => hb)
           clear ht hr
           refine hK.out _ _ ⟨(box3 S10x 0 rfl).2.1, (box3 S10x 1 rfl).2.1⟩ (fun hS => ?_)
           clear hK K
           try simp only [zp0, zp1, zp2, zp3, zp4]
           refine wpAnyH_done (by kernel_rfl) ?_ _
           go_wp2_with fail
           go_meet
           case rel => exact ⟨_, _, rfl, rfl, And.intro (box_at S10x 3 rfl) (And.intro (box_at S10x 2 rfl) (sep_two S10x))⟩
          exact AllReadyH.nil
         exact AllReadyH.nil
        exact AllReadyH.nil
       exact AllReadyH.nil
      refine AllReadyH.cons rfl (fun K hK => ?_) ?_
      ·
       have S11x := push_box S1x 190 #[.int .u8 0, .int .u8 0, .int .u8 0, .int .u8 0, .int .u8 0, .int .u8 0] w1x.heap.size rfl
       go_simp
       refine hK.out _ _ ⟨(box3 S11x 0 rfl).2.1, (box3 S11x 1 rfl).2.1⟩ (fun hS => ?_)
       clear hK K
       try simp only [zp0, zp1, zp2, zp3, zp4]
       generalize w1x.alloc (.cells #[.int .u8 0, .int .u8 0, .int .u8 0, .int .u8 0, .int .u8 0, .int .u8 0] 190) = w11x at hS S11x ⊢
       refine wpAnyH_ready (rs := [5, 7]) (by kernel_rfl) (by simp) ?_
       refine AllReadyH.cons rfl (fun K hK => ?_) ?_
       ·
        go_simp
        go_at_call 174
        refine (HB.out _).mono ?_
        rintro e w12x ⟨rfl, hb⟩
        have S12x := Sl.Sep.keep S11x hb
        clear hb S11x
        go_wp2_with fail
        refine hK.out _ _ ⟨(box3 S12x 0 rfl).2.1, (box3 S12x 1 rfl).2.1⟩ (fun hS => ?_)
        clear hK K
        try simp only [zp0, zp1, zp2, zp3, zp4]
        refine wpAnyH_ready (rs := [7]) (by kernel_rfl) (by simp) ?_
        refine AllReadyH.cons rfl (fun K hK => ?_) ?_
        ·
         have S13x := push_box S12x 190 #[.int .u8 0, .int .u8 0, .int .u8 0, .int .u8 0, .int .u8 0, .int .u8 0] w12x.heap.size rfl
         go_simp
         refine hK.out _ _ ⟨(box3 S13x 0 rfl).2.1, (box3 S13x 1 rfl).2.1⟩ (fun hS => ?_)
         clear hK K
         try simp only [zp0, zp1, zp2, zp3, zp4]
         generalize w12x.alloc (.cells #[.int .u8 0, .int .u8 0, .int .u8 0, .int .u8 0, .int .u8 0, .int .u8 0] 190) = w13x at hS S13x ⊢
         refine wpAnyH_ready (rs := [8]) (by kernel_rfl) (by simp) ?_
         refine AllReadyH.cons rfl (fun K hK => ?_) ?_
         ·
          refine step_store_box rfl 190 (.tmp 5) (.tmp 27) rfl w1x.heap.size 190 #[.int .u8 0, .int .u8 0, .int .u8 0, .int .u8 0, .int .u8 0, .int .u8 0] #[.int .u8 x0, .int .u8 x1, .int .u8 x2, .int .u8 x3, .int .u8 x4, .int .u8 x5] rfl rfl (box_at S13x 2 rfl) (by kernel_rfl) rfl (by simp [Value.oneCell']) ?_
          intro w14x ht hr
          have S14x := Sl.Sep.put (r' := boxR w1x.heap.size 190 #[.int .u8 x0, .int .u8 x1, .int .u8 x2, .int .u8 x3, .int .u8 x4, .int .u8 x5]) S13x 2 rfl ht hr (fun b hb => hb)
          clear ht hr
          refine hK.out _ _ ⟨(box3 S14x 0 rfl).2.1, (box3 S14x 1 rfl).2.1⟩ (fun hS => ?_)
          clear hK K
          try simp only [zp0, zp1, zp2, zp3, zp4]
          refine wpAnyH_ready (rs := [9]) (by kernel_rfl) (by simp) ?_
          refine AllReadyH.cons rfl (fun K hK => ?_) ?_
          ·
           refine step_store_box rfl 190 (.tmp 6) (.tmp 30) rfl w12x.heap.size 190 #[.int .u8 0, .int .u8 0, .int .u8 0, .int .u8 0, .int .u8 0, .int .u8 0] #[.int .u8 y0, .int .u8 y1, .int .u8 y2, .int .u8 y3, .int .u8 y4, .int .u8 y5] rfl rfl (box_at S14x 3 rfl) (by kernel_rfl) rfl (by simp [Value.oneCell']) ?_
           intro w15x ht hr
           have S15x := Sl.Sep.put (r' := boxR w12x.heap.size 190 #[.int .u8 y0, .int .u8 y1, .int .u8 y2, .int .u8 y3, .int .u8 y4, .int .u8 y5]) S14x 3 rfl ht hr (fun b hb => hb)
           clear ht hr
           refine hK.out _ _ ⟨(box3 S15x 0 rfl).2.1, (box3 S15x 1 rfl).2.1⟩ (fun hS => ?_)
           clear hK K
           try simp only [zp0, zp1, zp2, zp3, zp4]
           refine wpAnyH_done (by kernel_rfl) ?_ _
           go_wp2_with fail
           go_meet
           case rel => exact ⟨_, _, rfl, rfl, And.intro (box_at S15x 2 rfl) (And.intro (box_at S15x 3 rfl) (sep_two S15x))⟩
          exact AllReadyH.nil
         exact AllReadyH.nil
        exact AllReadyH.nil
       refine AllReadyH.cons rfl (fun K hK => ?_) ?_
       ·
        have S16x := push_box S11x 190 #[.int .u8 0, .int .u8 0, .int .u8 0, .int .u8 0, .int .u8 0, .int .u8 0] w11x.heap.size rfl
        go_simp
        refine hK.out _ _ ⟨(box3 S16x 0 rfl).2.1, (box3 S16x 1 rfl).2.1⟩ (fun hS => ?_)
        clear hK K
        try simp only [zp0, zp1, zp2, zp3, zp4]
        generalize w11x.alloc (.cells #[.int .u8 0, .int .u8 0, .int .u8 0, .int .u8 0, .int .u8 0, .int .u8 0] 190) = w16x at hS S16x ⊢
        refine wpAnyH_ready (rs := [5]) (by kernel_rfl) (by simp) ?_
        refine AllReadyH.cons rfl (fun K hK => ?_) ?_
        ·
         go_simp
         go_at_call 174
         refine (HB.out _).mono ?_
         rintro e w17x ⟨rfl, hb⟩
         have S17x := Sl.Sep.keep S16x hb
         clear hb S16x
         go_wp2_with fail
         refine hK.out _ _ ⟨(box3 S17x 0 rfl).2.1, (box3 S17x 1 rfl).2.1⟩ (fun hS => ?_)
         clear hK K
         try simp only [zp0, zp1, zp2, zp3, zp4]
         refine wpAnyH_ready (rs := [8]) (by kernel_rfl) (by simp) ?_
         refine AllReadyH.cons rfl (fun K hK => ?_) ?_
         ·
          refine step_store_box rfl 190 (.tmp 5) (.tmp 27) rfl w1x.heap.size 190 #[.int .u8 0, .int .u8 0, .int .u8 0, .int .u8 0, .int .u8 0, .int .u8 0] #[.int .u8 x0, .int .u8 x1, .int .u8 x2, .int .u8 x3, .int .u8 x4, .int .u8 x5] rfl rfl (box_at S17x 2 rfl) (by kernel_rfl) rfl (by simp [Value.oneCell']) ?_
          intro w18x ht hr
          have S18x := Sl.Sep.put (r' := boxR w1x.heap.size 190 #[.int .u8 x0, .int .u8 x1, .int .u8 x2, .int .u8 x3, .int .u8 x4, .int .u8 x5]) S17x 2 rfl ht hr (fun b hb => hb)
          clear ht hr
          refine hK.out _ _ ⟨(box3 S18x 0 rfl).2.1, (box3 S18x 1 rfl).2.1⟩ (fun hS => ?_)
          clear hK K
          try simp only [zp0, zp1, zp2, zp3, zp4]
          refine wpAnyH_ready (rs := [9]) (by kernel_rfl) (by simp) ?_
          refine AllReadyH.cons rfl (fun K hK => ?_) ?_
          ·
           refine step_store_box rfl 190 (.tmp 6) (.tmp 30) rfl w11x.heap.size 190 #[.int .u8 0, .int .u8 0, .int .u8 0, .int .u8 0, .int .u8 0, .int .u8 0] #[.int .u8 y0, .int .u8 y1, .int .u8 y2, .int .u8 y3, .int .u8 y4, .int .u8 y5] rfl rfl (box_at S18x 3 rfl) (by kernel_rfl) rfl (by simp [Value.oneCell']) ?_
           intro w19x ht hr
           have S19x := Sl.Sep.put (r' := boxR w11x.heap.size 190 #[.int .u8 y0, .int .u8 y1, .int .u8 y2, .int .u8 y3, .int .u8 y4, .int .u8 y5]) S18x 3 rfl ht hr (fun b hb => hb)
           clear ht hr
           refine hK.out _ _ ⟨(box3 S19x 0 rfl).2.1, (box3 S19x 1 rfl).2.1⟩ (fun hS => ?_)
           clear hK K
           try simp only [zp0, zp1, zp2, zp3, zp4]
           refine wpAnyH_done (by kernel_rfl) ?_ _
           go_wp2_with fail
           go_meet
           case rel => exact ⟨_, _, rfl, rfl, And.intro (box_at S19x 2 rfl) (And.intro (box_at S19x 3 rfl) (sep_two S19x))⟩
          exact AllReadyH.nil
         exact AllReadyH.nil
        exact AllReadyH.nil
       exact AllReadyH.nil
      refine AllReadyH.cons rfl (fun K hK => ?_) ?_
      ·
       have S20x := push_box S1x 190 #[.int .u8 0, .int .u8 0, .int .u8 0, .int .u8 0, .int .u8 0, .int .u8 0] w1x.heap.size rfl
       go_simp
       refine hK.out _ _ ⟨(box3 S20x 0 rfl).2.1, (box3 S20x 1 rfl).2.1⟩ (fun hS => ?_)
       clear hK K
       try simp only [zp0, zp1, zp2, zp3, zp4]
       generalize w1x.alloc (.cells #[.int .u8 0, .int .u8 0, .int .u8 0, .int .u8 0, .int .u8 0, .int .u8 0] 190) = w20x at hS S20x ⊢
       refine wpAnyH_ready (rs := [5, 6]) (by kernel_rfl) (by simp) ?_
       refine AllReadyH.cons rfl (fun K hK => ?_) ?_
       ·
        go_simp
        go_at_call 174
        refine (HB.out _).mono ?_
        rintro e w21x ⟨rfl, hb⟩
        have S21x := Sl.Sep.keep S20x hb
        clear hb S20x
        go_wp2_with fail
        refine hK.out _ _ ⟨(box3 S21x 0 rfl).2.1, (box3 S21x 1 rfl).2.1⟩ (fun hS => ?_)
        clear hK K
        try simp only [zp0, zp1, zp2, zp3, zp4]
        refine wpAnyH_ready (rs := [6]) (by kernel_rfl) (by simp) ?_
        refine AllReadyH.cons rfl (fun K hK => ?_) ?_
        ·
         have S22x := push_box S21x 190 #[.int .u8 0, .int .u8 0, .int .u8 0, .int .u8 0, .int .u8 0, .int .u8 0] w21x.heap.size rfl
         go_simp
         refine hK.out _ _ ⟨(box3 S22x 0 rfl).2.1, (box3 S22x 1 rfl).2.1⟩ (fun hS => ?_)
         clear hK K
         try simp only [zp0, zp1, zp2, zp3, zp4]
         generalize w21x.alloc (.cells #[.int .u8 0, .int .u8 0, .int .u8 0, .int .u8 0, .int .u8 0, .int .u8 0] 190) = w22x at hS S22x ⊢
         refine wpAnyH_ready (rs := [8]) (by kernel_rfl) (by simp) ?_
         refine AllReadyH.cons rfl (fun K hK => ?_) ?_
         ·
          refine step_store_box rfl 190 (.tmp 5) (.tmp 27) rfl w21x.heap.size 190 #[.int .u8 0, .int .u8 0, .int .u8 0, .int .u8 0, .int .u8 0, .int .u8 0] #[.int .u8 x0, .int .u8 x1, .int .u8 x2, .int .u8 x3, .int .u8 x4, .int .u8 x5] rfl rfl (box_at S22x 3 rfl) (by kernel_rfl) rfl (by simp [Value.oneCell']) ?_
          intro w23x ht hr
          have S23x := Sl.Sep.put (r' := boxR w21x.heap.size 190 #[.int .u8 x0, .int .u8 x1, .int .u8 x2, .int .u8 x3, .int .u8 x4, .int .u8 x5]) S22x 3 rfl ht hr (fun b hb => hb)
          clear ht hr
          refine hK.out _ _ ⟨(box3 S23x 0 rfl).2.1, (box3 S23x 1 rfl).2.1⟩ (fun hS => ?_)
          clear hK K
          try simp only [zp0, zp1, zp2, zp3, zp4]
          refine wpAnyH_ready (rs := [9]) (by kernel_rfl) (by simp) ?_
          refine AllReadyH.cons rfl (fun K hK => ?_) ?_
          ·
           refine step_store_box rfl 190 (.tmp 6) (.tmp 30) rfl w1x.heap.size 190 #[.int .u8 0, .int .u8 0, .int .u8 0, .int .u8 0, .int .u8 0, .int .u8 0] #[.int .u8 y0, .int .u8 y1, .int .u8 y2, .int .u8 y3, .int .u8 y4, .int .u8 y5] rfl rfl (box_at S23x 2 rfl) (by kernel_rfl) rfl (by simp [Value.oneCell']) ?_
           intro w24x ht hr
           have S24x := Sl.Sep.put (r' := boxR w1x.heap.size 190 #[.int .u8 y0, .int .u8 y1, .int .u8 y2, .int .u8 y3, .int .u8 y4, .int .u8 y5]) S23x 2 rfl ht hr (fun b hb => hb)
           clear ht hr
           refine hK.out _ _ ⟨(box3 S24x 0 rfl).2.1, (box3 S24x 1 rfl).2.1⟩ (fun hS => ?_)
           clear hK K
           try simp only [zp0, zp1, zp2, zp3, zp4]
           refine wpAnyH_done (by kernel_rfl) ?_ _
           go_wp2_with fail
           go_meet
           case rel => exact ⟨_, _, rfl, rfl, And.intro (box_at S24x 3 rfl) (And.intro (box_at S24x 2 rfl) (sep_two S24x))⟩
          exact AllReadyH.nil
         exact AllReadyH.nil
        exact AllReadyH.nil
       refine AllReadyH.cons rfl (fun K hK => ?_) ?_
       ·
        have S25x := push_box S20x 190 #[.int .u8 0, .int .u8 0, .int .u8 0, .int .u8 0, .int .u8 0, .int .u8 0] w20x.heap.size rfl
        go_simp
        refine hK.out _ _ ⟨(box3 S25x 0 rfl).2.1, (box3 S25x 1 rfl).2.1⟩ (fun hS => ?_)
        clear hK K
        try simp only [zp0, zp1, zp2, zp3, zp4]
        generalize w20x.alloc (.cells #[.int .u8 0, .int .u8 0, .int .u8 0, .int .u8 0, .int .u8 0, .int .u8 0] 190) = w25x at hS S25x ⊢
        refine wpAnyH_ready (rs := [5]) (by kernel_rfl) (by simp) ?_
        refine AllReadyH.cons rfl (fun K hK => ?_) ?_
        ·
         go_simp
         go_at_call 174
         refine (HB.out _).mono ?_
         rintro e w26x ⟨rfl, hb⟩
         have S26x := Sl.Sep.keep S25x hb
         clear hb S25x
         go_wp2_with fail
         refine hK.out _ _ ⟨(box3 S26x 0 rfl).2.1, (box3 S26x 1 rfl).2.1⟩ (fun hS => ?_)
         clear hK K
         try simp only [zp0, zp1, zp2, zp3, zp4]
         refine wpAnyH_ready (rs := [8]) (by kernel_rfl) (by simp) ?_
         refine AllReadyH.cons rfl (fun K hK => ?_) ?_
         ·
          refine step_store_box rfl 190 (.tmp 5) (.tmp 27) rfl w20x.heap.size 190 #[.int .u8 0, .int .u8 0, .int .u8 0, .int .u8 0, .int .u8 0, .int .u8 0] #[.int .u8 x0, .int .u8 x1, .int .u8 x2, .int .u8 x3, .int .u8 x4, .int .u8 x5] rfl rfl (box_at S26x 3 rfl) (by kernel_rfl) rfl (by simp [Value.oneCell']) ?_
          intro w27x ht hr
          have S27x := Sl.Sep.put (r' := boxR w20x.heap.size 190 #[.int .u8 x0, .int .u8 x1, .int .u8 x2, .int .u8 x3, .int .u8 x4, .int .u8 x5]) S26x 3 rfl ht hr (fun b hb => hb)
          clear ht hr
          refine hK.out _ _ ⟨(box3 S27x 0 rfl).2.1, (box3 S27x 1 rfl).2.1⟩ (fun hS => ?_)
          clear hK K
          try simp only [zp0, zp1, zp2, zp3, zp4]
          refine wpAnyH_ready (rs := [9]) (by kernel_rfl) (by simp) ?_
          refine AllReadyH.cons rfl (fun K hK => ?_) ?_
          ·
           refine step_store_box rfl 190 (.tmp 6) (.tmp 30) rfl w1x.heap.size 190 #[.int .u8 0, .int .u8 0, .int .u8 0, .int .u8 0, .int .u8 0, .int .u8 0] #[.int .u8 y0, .int .u8 y1, .int .u8 y2, .int .u8 y3, .int .u8 y4, .int .u8 y5] rfl rfl (box_at S27x 2 rfl) (by kernel_rfl) rfl (by simp [Value.oneCell']) ?_
           intro w28x ht hr
           have S28x := Sl.Sep.put (r' := boxR w1x.heap.size 190 #[.int .u8 y0, .int .u8 y1, .int .u8 y2, .int .u8 y3, .int .u8 y4, .int .u8 y5]) S27x 2 rfl ht hr (fun b hb => hb)
           clear ht hr
           refine hK.out _ _ ⟨(box3 S28x 0 rfl).2.1, (box3 S28x 1 rfl).2.1⟩ (fun hS => ?_)
           clear hK K
           try simp only [zp0, zp1, zp2, zp3, zp4]
           refine wpAnyH_done (by kernel_rfl) ?_ _
           go_wp2_with fail
           go_meet
           case rel => exact ⟨_, _, rfl, rfl, And.intro (box_at S28x 3 rfl) (And.intro (box_at S28x 2 rfl) (sep_two S28x))⟩
          exact AllReadyH.nil
         exact AllReadyH.nil
        exact AllReadyH.nil
       exact AllReadyH.nil
      exact AllReadyH.nil
     refine AllReadyH.cons rfl (fun K hK => ?_) ?_
     ·
      have S29x := push_box S4d 190 #[.int .u8 0, .int .u8 0, .int .u8 0, .int .u8 0, .int .u8 0, .int .u8 0] wd.heap.size rfl
      go_simp
      refine hK.out _ _ ⟨(box3 S29x 0 rfl).2.1, (box3 S29x 1 rfl).2.1⟩ (fun hS => ?_)
      clear hK K
      try simp only [zp0, zp1, zp2, zp3, zp4]
      generalize wd.alloc (.cells #[.int .u8 0, .int .u8 0, .int .u8 0, .int .u8 0, .int .u8 0, .int .u8 0] 190) = w29x at hS S29x ⊢
      refine wpAnyH_ready (rs := [2, 7]) (by kernel_rfl) (by simp) ?_
      refine AllReadyH.cons rfl (fun K hK => ?_) ?_
      ·
       go_simp
       go_at_call 174
       refine (HA.out _).mono ?_
       rintro e w30x ⟨rfl, hb⟩
       have S30x := Sl.Sep.keep S29x hb
       clear hb S29x
       go_wp2_with fail
       refine hK.out _ _ ⟨(box3 S30x 0 rfl).2.1, (box3 S30x 1 rfl).2.1⟩ (fun hS => ?_)
       clear hK K
       try simp only [zp0, zp1, zp2, zp3, zp4]
       refine wpAnyH_ready (rs := [5, 7]) (by kernel_rfl) (by simp) ?_
       refine AllReadyH.cons rfl (fun K hK => ?_) ?_
       ·
        go_simp
        go_at_call 174
        refine (HB.out _).mono ?_
        rintro e w31x ⟨rfl, hb⟩
        have S31x := Sl.Sep.keep S30x hb
        clear hb S30x
        go_wp2_with fail
        refine hK.out _ _ ⟨(box3 S31x 0 rfl).2.1, (box3 S31x 1 rfl).2.1⟩ (fun hS => ?_)
        clear hK K
        try simp only [zp0, zp1, zp2, zp3, zp4]
        refine wpAnyH_ready (rs := [7]) (by kernel_rfl) (by simp) ?_
        refine AllReadyH.cons rfl (fun K hK => ?_) ?_
        ·
         have S32x := push_box S31x 190 #[.int .u8 0, .int .u8 0, .int .u8 0, .int .u8 0, .int .u8 0, .int .u8 0] w31x.heap.size rfl
         go_simp
         refine hK.out _ _ ⟨(box3 S32x 0 rfl).2.1, (box3 S32x 1 rfl).2.1⟩ (fun hS => ?_)
         clear hK K
         try simp only [zp0, zp1, zp2, zp3, zp4]
         generalize w31x.alloc (.cells #[.int .u8 0, .int .u8 0, .int .u8 0, .int .u8 0, .int .u8 0, .int .u8 0] 190) = w32x at hS S32x ⊢
         refine wpAnyH_ready (rs := [8]) (by kernel_rfl) (by simp) ?_
         refine AllReadyH.cons rfl (fun K hK => ?_) ?_
         ·
          refine step_store_box rfl 190 (.tmp 5) (.tmp 27) rfl wd.heap.size 190 #[.int .u8 0, .int .u8 0, .int .u8 0, .int .u8 0, .int .u8 0, .int .u8 0] #[.int .u8 x0, .int .u8 x1, .int .u8 x2, .int .u8 x3, .int .u8 x4, .int .u8 x5] rfl rfl (box_at S32x 2 rfl) (by kernel_rfl) rfl (by simp [Value.oneCell']) ?_
          intro w33x ht hr
          have S33x := Sl.Sep.put (r' := boxR wd.heap.size 190 #[.int .u8 x0, .int .u8 x1, .int .u8 x2, .int .u8 x3, .int .u8 x4, .int .u8 x5]) S32x 2 rfl ht hr (fun b hb => hb)
          clear ht hr
          refine hK.out _ _ ⟨(box3 S33x 0 rfl).2.1, (box3 S33x 1 rfl).2.1⟩ (fun hS => ?_)
          clear hK K
          try simp only [zp0, zp1, zp2, zp3, zp4]
          refine wpAnyH_ready (rs := [9]) (by kernel_rfl) (by simp) ?_
          refine AllReadyH.cons rfl (fun K hK => ?_) ?_
          ·
           refine step_store_box rfl 190 (.tmp 6) (.tmp 30) rfl w31x.heap.size 190 #[.int .u8 0, .int .u8 0, .int .u8 0, .int .u8 0, .int .u8 0, .int .u8 0] #[.int .u8 y0, .int .u8 y1, .int .u8 y2, .int .u8 y3, .int .u8 y4, .int .u8 y5] rfl rfl (box_at S33x 3 rfl) (by kernel_rfl) rfl (by simp [Value.oneCell']) ?_
           intro w34x ht hr
           have S34x := Sl.Sep.put (r' := boxR w31x.heap.size 190 #[.int .u8 y0, .int .u8 y1, .int .u8 y2, .int .u8 y3, .int .u8 y4, .int .u8 y5]) S33x 3 rfl ht hr (fun b hb => hb)
           clear ht hr
           refine hK.out _ _ ⟨(box3 S34x 0 rfl).2.1, (box3 S34x 1 rfl).2.1⟩ (fun hS => ?_)
           clear hK K
           try simp only [zp0, zp1, zp2, zp3, zp4]
           refine wpAnyH_done (by kernel_rfl) ?_ _
           go_wp2_with fail
           go_meet
           case rel => exact ⟨_, _, rfl, rfl, And.intro (box_at S34x 2 rfl) (And.intro (box_at S34x 3 rfl) (sep_two S34x))⟩
          exact AllReadyH.nil
         exact AllReadyH.nil
        exact AllReadyH.nil
       refine AllReadyH.cons rfl (fun K hK => ?_) ?_
       ·
        have S35x := push_box S30x 190 #[.int .u8 0, .int .u8 0, .int .u8 0, .int .u8 0, .int .u8 0, .int .u8 0] w30x.heap.size rfl
        go_simp
        refine hK.out _ _ ⟨(box3 S35x 0 rfl).2.1, (box3 S35x 1 rfl).2.1⟩ (fun hS => ?_)
        clear hK K
        try simp only [zp0, zp1, zp2, zp3, zp4]
        generalize w30x.alloc (.cells #[.int .u8 0, .int .u8 0, .int .u8 0, .int .u8 0, .int .u8 0, .int .u8 0] 190) = w35x at hS S35x ⊢
        refine wpAnyH_ready (rs := [5]) (by kernel_rfl) (by simp) ?_
        refine AllReadyH.cons rfl (fun K hK => ?_) ?_
        ·
         go_simp
         go_at_call 174
         refine (HB.out _).mono ?_
         rintro e w36x ⟨rfl, hb⟩
         have S36x := Sl.Sep.keep S35x hb
         clear hb S35x
         go_wp2_with fail
         refine hK.out _ _ ⟨(box3 S36x 0 rfl).2.1, (box3 S36x 1 rfl).2.1⟩ (fun hS => ?_)
         clear hK K
         try simp only [zp0, zp1, zp2, zp3, zp4]
         refine wpAnyH_ready (rs := [8]) (by kernel_rfl) (by simp) ?_
         refine AllReadyH.cons rfl (fun K hK => ?_) ?_
         ·
          refine step_store_box rfl 190 (.tmp 5) (.tmp 27) rfl wd.heap.size 190 #[.int .u8 0, .int .u8 0, .int .u8 0, .int .u8 0, .int .u8 0, .int .u8 0] #[.int .u8 x0, .int .u8 x1, .int .u8 x2, .int .u8 x3, .int .u8 x4, .int .u8 x5] rfl rfl (box_at S36x 2 rfl) (by kernel_rfl) rfl (by simp [Value.oneCell']) ?_
          intro w37x ht hr
          have S37x := Sl.Sep.put (r' := boxR wd.heap.size 190 #[.int .u8 x0, .int .u8 x1, .int .u8 x2, .int .u8 x3, .int .u8 x4, .int .u8 x5]) S36x 2 rfl ht hr (fun b hb => hb)
          clear ht hr
          refine hK.out _ _ ⟨(box3 S37x 0 rfl).2.1, (box3 S37x 1 rfl).2.1⟩ (fun hS => ?_)
          clear hK K
          try simp only [zp0, zp1, zp2, zp3, zp4]
          refine wpAnyH_ready (rs := [9]) (by kernel_rfl) (by simp) ?_
          refine AllReadyH.cons rfl (fun K hK => ?_) ?_
          ·
           refine step_store_box rfl 190 (.tmp 6) (.tmp 30) rfl w30x.heap.size 190 #[.int .u8 0, .int .u8 0, .int .u8 0, .int .u8 0, .int .u8 0, .int .u8 0] #[.int .u8 y0, .int .u8 y1, .int .u8 y2, .int .u8 y3, .int .u8 y4, .int .u8 y5] rfl rfl (box_at S37x 3 rfl) (by kernel_rfl) rfl (by simp [Value.oneCell']) ?_
           intro w38x ht hr
           have S38x := Sl.Sep.put (r' := boxR w30x.heap.size 190 #[.int .u8 y0, .int .u8 y1, .int .u8 y2, .int .u8 y3, .int .u8 y4, .int .u8 y5]) S37x 3 rfl ht hr (fun b hb => hb)
           clear ht hr
           refine hK.out _ _ ⟨(box3 S38x 0 rfl).2.1, (box3 S38x 1 rfl).2.1⟩ (fun hS => ?_)
           clear hK K
           try simp only [zp0, zp1, zp2, zp3, zp4]
           refine wpAnyH_done (by kernel_rfl) ?_ _
           go_wp2_with fail
           go_meet
           case rel => exact ⟨_, _, rfl, rfl, And.intro (box_at S38x 2 rfl) (And.intro (box_at S38x 3 rfl) (sep_two S38x))⟩
          exact AllReadyH.nil
         exact AllReadyH.nil
        exact AllReadyH.nil
       exact AllReadyH.nil
      refine AllReadyH.cons rfl (fun K hK => ?_) ?_
      ·
       have S39x := push_box S29x 190 #[.int .u8 0, .int .u8 0, .int .u8 0, .int .u8 0, .int .u8 0, .int .u8 0] w29x.heap.size rfl
       go_simp
       refine hK.out _ _ ⟨(box3 S39x 0 rfl).2.1, (box3 S39x 1 rfl).2.1⟩ (fun hS => ?_)
       clear hK K
       try simp only [zp0, zp1, zp2, zp3, zp4]
       generalize w29x.alloc (.cells #[.int .u8 0, .int .u8 0, .int .u8 0, .int .u8 0, .int .u8 0, .int .u8 0] 190) = w39x at hS S39x ⊢
       refine wpAnyH_ready (rs := [2]) (by kernel_rfl) (by simp) ?_
       refine AllReadyH.cons rfl (fun K hK => ?_) ?_
       ·
        go_simp
        go_at_call 174
        refine (HA.out _).mono ?_
        rintro e w40x ⟨rfl, hb⟩
        have S40x := Sl.Sep.keep S39x hb
        clear hb S39x
        go_wp2_with fail
        refine hK.out _ _ ⟨(box3 S40x 0 rfl).2.1, (box3 S40x 1 rfl).2.1⟩ (fun hS => ?_)
        clear hK K
        try simp only [zp0, zp1, zp2, zp3, zp4]
        refine wpAnyH_ready (rs := [5]) (by kernel_rfl) (by simp) ?_
        refine AllReadyH.cons rfl (fun K hK => ?_) ?_
        ·
         go_simp
         go_at_call 174
         refine (HB.out _).mono ?_
         rintro e w41x ⟨rfl, hb⟩
         have S41x := Sl.Sep.keep S40x hb
         clear hb S40x
         go_wp2_with fail
         refine hK.out _ _ ⟨(box3 S41x 0 rfl).2.1, (box3 S41x 1 rfl).2.1⟩ (fun hS => ?_)
         clear hK K
         try simp only [zp0, zp1, zp2, zp3, zp4]
         refine wpAnyH_ready (rs := [8]) (by kernel_rfl) (by simp) ?_
         refine AllReadyH.cons rfl (fun K hK => ?_) ?_
         ·
          refine step_store_box rfl 190 (.tmp 5) (.tmp 27) rfl wd.heap.size 190 #[.int .u8 0, .int .u8 0, .int .u8 0, .int .u8 0, .int .u8 0, .int .u8 0] #[.int .u8 x0, .int .u8 x1, .int .u8 x2, .int .u8 x3, .int .u8 x4, .int .u8 x5] rfl rfl (box_at S41x 2 rfl) (by kernel_rfl) rfl (by simp [Value.oneCell']) ?_
          intro w42x ht hr
          have S42x := Sl.Sep.put (r' := boxR wd.heap.size 190 #[.int .u8 x0, .int .u8 x1, .int .u8 x2, .int .u8 x3, .int .u8 x4, .int .u8 x5]) S41x 2 rfl ht hr (fun b hb => hb)
          clear ht hr
          refine hK.out _ _ ⟨(box3 S42x 0 rfl).2.1, (box3 S42x 1 rfl).2.1⟩ (fun hS => ?_)
          clear hK K
          try simp only [zp0, zp1, zp2, zp3, zp4]
          refine wpAnyH_ready (rs := [9]) (by kernel_rfl) (by simp) ?_
          refine AllReadyH.cons rfl (fun K hK => ?_) ?_
          ·
           refine step_store_box rfl 190 (.tmp 6) (.tmp 30) rfl w29x.heap.size 190 #[.int .u8 0, .int .u8 0, .int .u8 0, .int .u8 0, .int .u8 0, .int .u8 0] #[.int .u8 y0, .int .u8 y1, .int .u8 y2, .int .u8 y3, .int .u8 y4, .int .u8 y5] rfl rfl (box_at S42x 3 rfl) (by kernel_rfl) rfl (by simp [Value.oneCell']) ?_
           intro w43x ht hr
           have S43x := Sl.Sep.put (r' := boxR w29x.heap.size 190 #[.int .u8 y0, .int .u8 y1, .int .u8 y2, .int .u8 y3, .int .u8 y4, .int .u8 y5]) S42x 3 rfl ht hr (fun b hb => hb)
           clear ht hr
           refine hK.out _ _ ⟨(box3 S43x 0 rfl).2.1, (box3 S43x 1 rfl).2.1⟩ (fun hS => ?_)
           clear hK K
           try simp only [zp0, zp1, zp2, zp3, zp4]
           refine wpAnyH_done (by kernel_rfl) ?_ _
           go_wp2_with fail
           go_meet
           case rel => exact ⟨_, _, rfl, rfl, And.intro (box_at S43x 2 rfl) (And.intro (box_at S43x 3 rfl) (sep_two S43x))⟩
          exact AllReadyH.nil
         exact AllReadyH.nil
        exact AllReadyH.nil
       exact AllReadyH.nil
      exact AllReadyH.nil
     refine AllReadyH.cons rfl (fun K hK => ?_) ?_
     ·
      have S44x := push_box S4d 190 #[.int .u8 0, .int .u8 0, .int .u8 0, .int .u8 0, .int .u8 0, .int .u8 0] wd.heap.size rfl
      go_simp
      refine hK.out _ _ ⟨(box3 S44x 0 rfl).2.1, (box3 S44x 1 rfl).2.1⟩ (fun hS => ?_)
      clear hK K
      try simp only [zp0, zp1, zp2, zp3, zp4]
      generalize wd.alloc (.cells #[.int .u8 0, .int .u8 0, .int .u8 0, .int .u8 0, .int .u8 0, .int .u8 0] 190) = w44x at hS S44x ⊢
      refine wpAnyH_ready (rs := [2, 6]) (by kernel_rfl) (by simp) ?_
      refine AllReadyH.cons rfl (fun K hK => ?_) ?_
      ·
       go_simp
       go_at_call 174
       refine (HA.out _).mono ?_
       rintro e w45x ⟨rfl, hb⟩
       have S45x := Sl.Sep.keep S44x hb
       clear hb S44x
       go_wp2_with fail
       refine hK.out _ _ ⟨(box3 S45x 0 rfl).2.1, (box3 S45x 1 rfl).2.1⟩ (fun hS => ?_)
       clear hK K
       try simp only [zp0, zp1, zp2, zp3, zp4]
       refine wpAnyH_ready (rs := [5, 6]) (by kernel_rfl) (by simp) ?_
       refine AllReadyH.cons rfl (fun K hK => ?_) ?_
       ·
        go_simp
        go_at_call 174
        refine (HB.out _).mono ?_
        rintro e w46x ⟨rfl, hb⟩
        have S46x := Sl.Sep.keep S45x hb
        clear hb S45x
        go_wp2_with fail
        refine hK.out _ _ ⟨(box3 S46x 0 rfl).2.1, (box3 S46x 1 rfl).2.1⟩ (fun hS => ?_)
        clear hK K
        try simp only [zp0, zp1, zp2, zp3, zp4]
        refine wpAnyH_ready (rs := [6]) (by kernel_rfl) (by simp) ?_
        refine AllReadyH.cons rfl (fun K hK => ?_) ?_
        ·
         have S47x := push_box S46x 190 #[.int .u8 0, .int .u8 0, .int .u8 0, .int .u8 0, .int .u8 0, .int .u8 0] w46x.heap.size rfl
         go_simp
         refine hK.out _ _ ⟨(box3 S47x 0 rfl).2.1, (box3 S47x 1 rfl).2.1⟩ (fun hS => ?_)
         clear hK K
         try simp only [zp0, zp1, zp2, zp3, zp4]
         generalize w46x.alloc (.cells #[.int .u8 0, .int .u8 0, .int .u8 0, .int .u8 0, .int .u8 0, .int .u8 0] 190) = w47x at hS S47x ⊢
         refine wpAnyH_ready (rs := [8]) (by kernel_rfl) (by simp) ?_
         refine AllReadyH.cons rfl (fun K hK => ?_) ?_
         ·
          refine step_store_box rfl 190 (.tmp 5) (.tmp 27) rfl w46x.heap.size 190 #[.int .u8 0, .int .u8 0, .int .u8 0, .int .u8 0, .int .u8 0, .int .u8 0] #[.int .u8 x0, .int .u8 x1, .int .u8 x2, .int .u8 x3, .int .u8 x4, .int .u8 x5] rfl rfl (box_at S47x 3 rfl) (by kernel_rfl) rfl (by simp [Value.oneCell']) ?_
          intro w48x ht hr
          have S48x := Sl.Sep.put (r' := boxR w46x.heap.size 190 #[.int .u8 x0, .int .u8 x1, .int .u8 x2, .int .u8 x3, .int .u8 x4, .int .u8 x5]) S47x 3 rfl ht hr (fun b hb => hb)
          clear ht hr
          refine hK.out _ _ ⟨(box3 S48x 0 rfl).2.1, (box3 S48x 1 rfl).2.1⟩ (fun hS => ?_)
          clear hK K
          try simp only [zp0, zp1, zp2, zp3, zp4]
          refine wpAnyH_ready (rs := [9]) (by kernel_rfl) (by simp) ?_
          refine AllReadyH.cons rfl (fun K hK => ?_) ?_
          ·
           refine step_store_box rfl 190 (.tmp 6) (.tmp 30) rfl wd.heap.size 190 #[.int .u8 0, .int .u8 0, .int .u8 0, .int .u8 0, .int .u8 0, .int .u8 0] #[.int .u8 y0, .int .u8 y1, .int .u8 y2, .int .u8 y3, .int .u8 y4, .int .u8 y5] rfl rfl (box_at S48x 2 rfl) (by kernel_rfl) rfl (by simp [Value.oneCell']) ?_
           intro w49x ht hr
           have S49x := Sl.Sep.put (r' := boxR wd.heap.size 190 #[.int .u8 y0, .int .u8 y1, .int .u8 y2, .int .u8 y3, .int .u8 y4, .int .u8 y5]) S48x 2 rfl ht hr (fun b hb => hb)
           clear ht hr
           refine hK.out _ _ ⟨(box3 S49x 0 rfl).2.1, (box3 S49x 1 rfl).2.1⟩ (fun hS => ?_)
           clear hK K
           try simp only [zp0, zp1, zp2, zp3, zp4]
           refine wpAnyH_done (by kernel_rfl) ?_ _
           go_wp2_with fail
           go_meet
           case rel => exact ⟨_, _, rfl, rfl, And.intro (box_at S49x 3 rfl) (And.intro (box_at S49x 2 rfl) (sep_two S49x))⟩
          exact AllReadyH.nil
         exact AllReadyH.nil
        exact AllReadyH.nil
       refine AllReadyH.cons rfl (fun K hK => ?_) ?_
       ·
        have S50x := push_box S45x 190 #[.int .u8 0, .int .u8 0, .int .u8 0, .int .u8 0, .int .u8 0, .int .u8 0] w45x.heap.size rfl
        go_simp
        refine hK.out _ _ ⟨(box3 S50x 0 rfl).2.1, (box3 S50x 1 rfl).2.1⟩ (fun hS => ?_)
        clear hK K
        try simp only [zp0, zp1, zp2, zp3, zp4]
        generalize w45x.alloc (.cells #[.int .u8 0, .int .u8 0, .int .u8 0, .int .u8 0, .int .u8 0, .int .u8 0] 190) = w50x at hS S50x ⊢
        refine wpAnyH_ready (rs := [5]) (by kernel_rfl) (by simp) ?_
        refine AllReadyH.cons rfl (fun K hK => ?_) ?_
        ·
         go_simp
         go_at_call 174
         refine (HB.out _).mono ?_
         rintro e w51x ⟨rfl, hb⟩
         have S51x := Sl.Sep.keep S50x hb
         clear hb S50x
         go_wp2_with fail
         refine hK.out _ _ ⟨(box3 S51x 0 rfl).2.1, (box3 S51x 1 rfl).2.1⟩ (fun hS => ?_)
         clear hK K
         try simp only [zp0, zp1, zp2, zp3, zp4]
         refine wpAnyH_ready (rs := [8]) (by kernel_rfl) (by simp) ?_
         refine AllReadyH.cons rfl (fun K hK => ?_) ?_
         ·
          refine step_store_box rfl 190 (.tmp 5) (.tmp 27) rfl w45x.heap.size 190 #[.int .u8 0, .int .u8 0, .int .u8 0, .int .u8 0, .int .u8 0, .int .u8 0] #[.int .u8 x0, .int .u8 x1, .int .u8 x2, .int .u8 x3, .int .u8 x4, .int .u8 x5] rfl rfl (box_at S51x 3 rfl) (by kernel_rfl) rfl (by simp [Value.oneCell']) ?_
          intro w52x ht hr
          have S52x := Sl.Sep.put (r' := boxR w45x.heap.size 190 #[.int .u8 x0, .int .u8 x1, .int .u8 x2, .int .u8 x3, .int .u8 x4, .int .u8 x5]) S51x 3 rfl ht hr (fun b hb => hb)
          clear ht hr
          refine hK.out _ _ ⟨(box3 S52x 0 rfl).2.1, (box3 S52x 1 rfl).2.1⟩ (fun hS => ?_)
          clear hK K
          try simp only [zp0, zp1, zp2, zp3, zp4]
          refine wpAnyH_ready (rs := [9]) (by kernel_rfl) (by simp) ?_
          refine AllReadyH.cons rfl (fun K hK => ?_) ?_
          ·
           refine step_store_box rfl 190 (.tmp 6) (.tmp 30) rfl wd.heap.size 190 #[.int .u8 0, .int .u8 0, .int .u8 0, .int .u8 0, .int .u8 0, .int .u8 0] #[.int .u8 y0, .int .u8 y1, .int .u8 y2, .int .u8 y3, .int .u8 y4, .int .u8 y5] rfl rfl (box_at S52x 2 rfl) (by kernel_rfl) rfl (by simp [Value.oneCell']) ?_
           intro w53x ht hr
           have S53x := Sl.Sep.put (r' := boxR wd.heap.size 190 #[.int .u8 y0, .int .u8 y1, .int .u8 y2, .int .u8 y3, .int .u8 y4, .int .u8 y5]) S52x 2 rfl ht hr (fun b hb => hb)
           clear ht hr
           refine hK.out _ _ ⟨(box3 S53x 0 rfl).2.1, (box3 S53x 1 rfl).2.1⟩ (fun hS => ?_)
           clear hK K
           try simp only [zp0, zp1, zp2, zp3, zp4]
           refine wpAnyH_done (by kernel_rfl) ?_ _
           go_wp2_with fail
           go_meet
           case rel => exact ⟨_, _, rfl, rfl, And.intro (box_at S53x 3 rfl) (And.intro (box_at S53x 2 rfl) (sep_two S53x))⟩
          exact AllReadyH.nil
         exact AllReadyH.nil
        exact AllReadyH.nil
       exact AllReadyH.nil
      refine AllReadyH.cons rfl (fun K hK => ?_) ?_
      ·
       have S54x := push_box S44x 190 #[.int .u8 0, .int .u8 0, .int .u8 0, .int .u8 0, .int .u8 0, .int .u8 0] w44x.heap.size rfl
       go_simp
       refine hK.out _ _ ⟨(box3 S54x 0 rfl).2.1, (box3 S54x 1 rfl).2.1⟩ (fun hS => ?_)
       clear hK K
       try simp only [zp0, zp1, zp2, zp3, zp4]
       generalize w44x.alloc (.cells #[.int .u8 0, .int .u8 0, .int .u8 0, .int .u8 0, .int .u8 0, .int .u8 0] 190) = w54x at hS S54x ⊢
       refine wpAnyH_ready (rs := [2]) (by kernel_rfl) (by simp) ?_
       refine AllReadyH.cons rfl (fun K hK => ?_) ?_
       ·
        go_simp
        go_at_call 174
        refine (HA.out _).mono ?_
        rintro e w55x ⟨rfl, hb⟩
        have S55x := Sl.Sep.keep S54x hb
        clear hb S54x
        go_wp2_with fail
        refine hK.out _ _ ⟨(box3 S55x 0 rfl).2.1, (box3 S55x 1 rfl).2.1⟩ (fun hS => ?_)
        clear hK K
        try simp only [zp0, zp1, zp2, zp3, zp4]
        refine wpAnyH_ready (rs := [5]) (by kernel_rfl) (by simp) ?_
        refine AllReadyH.cons rfl (fun K hK => ?_) ?_
        ·
         go_simp
         go_at_call 174
         refine (HB.out _).mono ?_
         rintro e w56x ⟨rfl, hb⟩
         have S56x := Sl.Sep.keep S55x hb
         clear hb S55x
         go_wp2_with fail
         refine hK.out _ _ ⟨(box3 S56x 0 rfl).2.1, (box3 S56x 1 rfl).2.1⟩ (fun hS => ?_)
         clear hK K
         try simp only [zp0, zp1, zp2, zp3, zp4]
         refine wpAnyH_ready (rs := [8]) (by kernel_rfl) (by simp) ?_
         refine AllReadyH.cons rfl (fun K hK => ?_) ?_
         ·
          refine step_store_box rfl 190 (.tmp 5) (.tmp 27) rfl w44x.heap.size 190 #[.int .u8 0, .int .u8 0, .int .u8 0, .int .u8 0, .int .u8 0, .int .u8 0] #[.int .u8 x0, .int .u8 x1, .int .u8 x2, .int .u8 x3, .int .u8 x4, .int .u8 x5] rfl rfl (box_at S56x 3 rfl) (by kernel_rfl) rfl (by simp [Value.oneCell']) ?_
          intro w57x ht hr
          have S57x := Sl.Sep.put (r' := boxR w44x.heap.size 190 #[.int .u8 x0, .int .u8 x1, .int .u8 x2, .int .u8 x3, .int .u8 x4, .int .u8 x5]) S56x 3 rfl ht hr (fun b hb => hb)
          clear ht hr
          refine hK.out _ _ ⟨(box3 S57x 0 rfl).2.1, (box3 S57x 1 rfl).2.1⟩ (fun hS => ?_)
          clear hK K
          try simp only [zp0, zp1, zp2, zp3, zp4]
          refine wpAnyH_ready (rs := [9]) (by kernel_rfl) (by simp) ?_
          refine AllReadyH.cons rfl (fun K hK => ?_) ?_
          ·
           refine step_store_box rfl 190 (.tmp 6) (.tmp 30) rfl wd.heap.size 190 #[.int .u8 0, .int .u8 0, .int .u8 0, .int .u8 0, .int .u8 0, .int .u8 0] #[.int .u8 y0, .int .u8 y1, .int .u8 y2, .int .u8 y3, .int .u8 y4, .int .u8 y5] rfl rfl (box_at S57x 2 rfl) (by kernel_rfl) rfl (by simp [Value.oneCell']) ?_
           intro w58x ht hr
           have S58x := Sl.Sep.put (r' := boxR wd.heap.size 190 #[.int .u8 y0, .int .u8 y1, .int .u8 y2, .int .u8 y3, .int .u8 y4, .int .u8 y5]) S57x 2 rfl ht hr (fun b hb => hb)
           clear ht hr
           refine hK.out _ _ ⟨(box3 S58x 0 rfl).2.1, (box3 S58x 1 rfl).2.1⟩ (fun hS => ?_)
           clear hK K
           try simp only [zp0, zp1, zp2, zp3, zp4]
           refine wpAnyH_done (by kernel_rfl) ?_ _
           go_wp2_with fail
           go_meet
           case rel => exact ⟨_, _, rfl, rfl, And.intro (box_at S58x 3 rfl) (And.intro (box_at S58x 2 rfl) (sep_two S58x))⟩
          exact AllReadyH.nil
         exact AllReadyH.nil
        exact AllReadyH.nil
       exact AllReadyH.nil
      exact AllReadyH.nil
     exact AllReadyH.nil
    case rest =>
     obtain ⟨g1, g2, rfl, rfl, HR⟩ := hcut
     obtain ⟨p0, p1, p2, p3, p4, p5⟩ := box6 HR.out.1
     obtain ⟨q0, q1, q2, q3, q4, q5⟩ := box6 HR.out.2.1
     have hdec : decide ([x0, x1, x2, x3, x4, x5] = [y0, y1, y2, y3, y4, y5]) = decide (na = nb) := by
      obtain ⟨h1, h2, h3, h4⟩ := HM.out
      by_cases hn : na = nb
      ·
       obtain rfl : ma = mb := by omega
       rw [decide_eq_true hn, decide_eq_true (h3.symm.trans h4)]
      ·
       have hne : ¬ [x0, x1, x2, x3, x4, x5] = [y0, y1, y2, y3, y4, y5] := fun e => by
        rw [← h3, ← h4] at e
        have e2 := congrArg toU e
        rw [toU_toI, toU_toI] at e2
        have p6 : (256 : Nat) ^ 6 = 281474976710656 := by decide
        have g9 := HM2.out
        have := be_inj 6 ma mb (by rw [p6]; omega) (by rw [p6]; omega) e2
        omega
       rw [decide_eq_false hn, decide_eq_false hne]
     have heq : ∀ w, (Op.equalIn 10000 190 (.agg #[.int .u8 x0, .int .u8 x1, .int .u8 x2, .int .u8 x3, .int .u8 x4, .int .u8 x5]) (.agg #[.int .u8 y0, .int .u8 y1, .int .u8 y2, .int .u8 y3, .int .u8 y4, .int .u8 y5])).run Try.prog w = .ok (decide (na = nb)) w := fun w => by
      rw [array_eq, hdec]
     clear hdec
     by_cases hn : na = nb
     ·
      have hd : decide (na = nb) = true := decide_eq_true hn
      rw [hd] at heq
      have HE := Lib.hid (HE1.out hn)
      clear HE1 HE2 hd
      obtain ⟨f0_0, f0_1, f0_2⟩ := L4.box3 HR.out.2.2 0 rfl
      obtain ⟨f1_0, f1_1, f1_2⟩ := L4.box3 HR.out.2.2 1 rfl
      have HC := Lib.hid (fun w => stringsCompare_any sa sb w)
      go_wp2_with (go_at_call 176; refine (HC.out _).mono ?_; rintro e w5 ⟨rfl, rfl⟩)
      go_ret
      refine ⟨?_, HR.out.2.2.old⟩
      rw [HE.out, ByteArray.toList_eq, ByteArray.toList_eq]
      simp [cmpL]
     ·
      have hd : decide (na = nb) = false := decide_eq_false hn
      rw [hd] at heq
      have HE := Lib.hid (HE2.out hn)
      clear HE1 HE2 hd
      have HC := Lib.hid (show ∀ w', Row w' g1 190 #[.int .u8 x0, .int .u8 x1, .int .u8 x2, .int .u8 x3, .int .u8 x4, .int .u8 x5] → Row w' g2 190 #[.int .u8 y0, .int .u8 y1, .int .u8 y2, .int .u8 y3, .int .u8 y4, .int .u8 y5] →
        Calls Try.prog 175 #[.slice (some ⟨g1, 0, none⟩) 6 6, .slice (some ⟨g2, 0, none⟩) 6 6] w' fun e w'' => e = .returned (.int .i64 (sgn (decide (na < nb)) true)) ∧ Drew w' w'' from fun w' r1 r2 => by
       obtain ⟨h1, h2, h3, h4⟩ := HM.out
       have c := implCompareBytes_any (some ⟨g1, 0, none⟩) (some ⟨g2, 0, none⟩) 6 6 (toI (be 6 ma)) (toI (be 6 mb)) w' w'.heap.size (reads_row (t := 190) (by rw [h3]; exact r1)) (reads_row (t := 190) (by rw [h4]; exact r2))
       rw [toU_toI, toU_toI] at c
       have e1 : cmpL (be 6 ma) (be 6 mb) = sgn (decide (na < nb)) true := by
        have p6 : (256 : Nat) ^ 6 = 281474976710656 := by decide
        have g9 := HM2.out
        have l1 := be_less 6 ma mb (by rw [p6]; omega) (by rw [p6]; omega)
        have l2 := be_less 6 mb ma (by rw [p6]; omega) (by rw [p6]; omega)
        by_cases hlt : na < nb
        ·
         rw [decide_eq_true (show ma < mb by omega)] at l1
         rw [cmpL_less l1, decide_eq_true hlt]
         rfl
        ·
         rw [decide_eq_true (show mb < ma by omega)] at l2
         rw [cmpL_more l2, decide_eq_false hlt]
         rfl
       rw [e1, toI_length, toI_length, be_length, be_length] at c
       exact c)
      go_wp2_with fail
      go_region_held3 (fun _ => True) (exact trivial) ((go_at_call 175; refine (HC.out wc.drew HR.out.1 HR.out.2.1).mono ?_; rintro e w5 ⟨rfl, hd⟩))
      have hold := Lib.hid ((Sl.Sep.drews HR.out.2.2 1).keep (hd.below _)).old
      go_wp2_with fail
      go_ret
      exact ⟨by rw [HE.out]; rfl, hold.out⟩
   ·
    have HE := Lib.hid (cmpK_kind hia hib hk)
    have HC := Lib.hid (fun w => cmpInt_any ka kb hk w)
    go_wp2_with (go_at_call 173; refine (HC.out _).mono ?_; rintro e w5 ⟨rfl, rfl⟩)
    go_ret
    exact ⟨by rw [HE.out]; rfl, S4.old⟩
end Go.Proofs.Ytojcdmgcbgpdmaa.L4

set_option linter.unusedSimpArgs false
namespace Go.Proofs.Ytojcdmgcbgpdmaa.L6
open L4 (K isK cmpK R inR encU)
open L5 (F isR isN cellsF encR eqR Small)
open Go.ChangeShapes Go.WideShapes Go.ChangeAt Go.RowKit Mem Sl Ex L2 Sv Bag

set_option maxHeartbeats 8000000 in
theorem isStore_any (y : LS) (hf : FitS y.con) (w : World) (hr : RowsRd w w.heap.size y.rows) :
  Calls Try.prog 23 #[y.v] w fun e w' => e = .returned (.bool (isS y.con)) ∧ Below w.heap.size w w' := by
 obtain ⟨name, a, c, xs, auto⟩ := y
 have HR := Lib.hid (fun w' (h : Below w.heap.size w w') => LS.outer (hr.below h))
 have HX := Lib.hid (fun w' (h : Below w.heap.size w w') => (LS.inner (hr.below h)).more h.size)
 have HF := Lib.hid hf.items
 have HNM := Lib.hid hf.name
 have hl := hf.len
 simp only [LS.con, conI_length] at hl
 dsimp only [LS.con] at HR HX HF HNM
 try unfold LS.v LS.cells LS.con
 try dsimp only
 obtain ⟨N, hN⟩ : ∃ n, n = xs.length := ⟨_, rfl⟩
 rw [← hN] at hl ⊢
 have hl' : (N : Int) ≤ 1048576 := by omega
 have HN := Lib.hid hN
 clear hN hr hf
 obtain ⟨bn, hbn⟩ : ∃ b, isN name.data.toList = b := ⟨_, rfl⟩
 have HIN := fun w => L5.isName_any name HNM.out w
 rw [hbn] at HIN
 replace HIN := Lib.hid HIN
 obtain ⟨ba, hba⟩ : ∃ b, L1.inB auto 0 1000000 = b := ⟨_, rfl⟩
 have HIA := fun w => L1.inRange_any auto 0 1000000 w
 rw [hba] at HIA
 replace HIA := Lib.hid HIA
 have HE := Lib.hid (show isS ⟨name, conI xs, auto⟩ = (isI (conI xs) && (bn && (decide (N ≤ 16) && ba))) from by unfold isS; rw [hbn, hba, conI_length, ← HN.out])
 clear hbn hba
 have S1 := Lib.hid (show Sl.Sep w _ [_] from L4.push_box (Sl.Sep.start w) 26 #[.string name, .slice a N c, .int .i64 auto] (w.heap.size) (by simp))
 obtain ⟨wa, hwa⟩ : ∃ u, u = (w.alloc (.cells #[.string name, .slice a N c, .int .i64 auto] 26)) := ⟨_, rfl⟩
 rw [← hwa] at S1
 go_enter Try.func23, Try.ntmps23
 go_upto_region 1 with fail
 rw [← hwa]
 clear hwa
 obtain ⟨f0, f1, f2⟩ := Bag.cs3 S1.out 0 rfl
 cases bn with
 | false =>
  go_wp2_with fail
  go_at_call 97
  refine (HIN.out _).mono ?_
  rintro e w1 ⟨rfl, rfl⟩
  go_wp2_with fail
  go_ret
  exact ⟨by rw [HE.out]; simp, S1.out.old⟩
 | true =>
  go_wp2_with fail
  go_at_call 97
  refine (HIN.out _).mono ?_
  rintro e w1 ⟨rfl, rfl⟩
  by_cases h16 : N ≤ 16
  rotate_left
  ·
   have h16i : (16 : Int) < (N : Int) := by omega
   have hd := decide_eq_false h16
   go_wp2_with fail
   go_ret
   exact ⟨by rw [HE.out, hd]; simp, S1.out.old⟩
  have h16i : ¬ (16 : Int) < (N : Int) := by omega
  have HD := Lib.hid (decide_eq_true h16)
  clear h16
  cases ba with
  | false =>
   go_wp2_with fail
   go_at_call 98
   refine (HIA.out _).mono ?_
   rintro e w2 ⟨rfl, rfl⟩
   go_wp2_with fail
   go_ret
   exact ⟨by rw [HE.out]; simp, S1.out.old⟩
  | true =>
   go_wp2_with fail
   go_at_call 98
   refine (HIA.out _).mono ?_
   rintro e w2 ⟨rfl, rfl⟩
   replace HE := Lib.hid (show isS ⟨name, conI xs, auto⟩ = isI (conI xs) from by rw [HE.out, HD.out]; simp)
   clear HD
   go_wp2_with fail
   clear f0 f1 f2
   go_loopw [24] (fun i wr => ∃ k : Nat, k ≤ N ∧ i = .int .i64 k ∧ Hid ((∀ j, j < k → okIx (conI xs) j = true) ∧ Sl.Sep w wr [L4.boxR w.heap.size 26 #[.string name, .slice a N c, .int .i64 auto]])) (fun i _ => N - (intOf i).toNat)
   case atStart => exact ⟨0, Nat.zero_le _, rfl, And.intro (fun j h => absurd h (by omega)) S1.out⟩
   case round =>
    obtain ⟨k, hk, rfl, hrel⟩ := hrel
    have HA := Lib.hid hrel.out.1
    have S2 := Lib.hid hrel.out.2
    clear hrel S1
    by_cases hlt : (k : Int) < (N : Int)
    ·
     skip
     have hkl : k < xs.length := by have := HN.out; omega
     obtain ⟨ad, x, rfl, hx⟩ := readsI_some (HR.out _ S2.out.old) k hkl
     obtain ⟨⟨kd, n, t⟩, ia, ic, l⟩ := x
     have HK := Lib.hid (fun w' (h : Below w.heap.size w w') => readsI_at (HR.out _ h) k _ hx)
     try dsimp only at HK
     have HFI := Lib.hid (fit_at HF.out hx)
     try dsimp only [LI.con] at HFI
     have hci : k < (conI xs).length := by rw [conI_length]; exact hkl
     have HC := Lib.hid (show (conI xs)[k]? = some (⟨⟨kd, n, t⟩, l⟩ : It) from con_of hx)
     obtain ⟨bk, hbk⟩ : ∃ b, isK ⟨kd, n, t⟩ = b := ⟨_, rfl⟩
     have HIK := fun w => L4.implIsKey_any ⟨kd, n, t⟩ (by have : t.size ≤ 1099511627776 := HFI.out.text; show t.size ≤ _; omega) w
     rw [hbk] at HIK
     replace HIK := Lib.hid HIK
     have HBK := Lib.hid hbk
     obtain ⟨br, hbr⟩ : ∃ b, isR l = b := ⟨_, rfl⟩
     have HIR := fun w' (h : Below w.heap.size w w') => L5.isRecord_any ia ic l (by have : l.length ≤ 1048576 := HFI.out.len; omega) HFI.out.small w' (((HX.out _ h).at_ (rowsI_mem hx)).reads)
     rw [hbr] at HIR
     replace HIR := Lib.hid HIR
     have HBR := Lib.hid hbr
     clear hbk hbr hx
     obtain ⟨f0, f1, f2⟩ := Bag.cs3 S2.out 0 rfl
     obtain ⟨f3, f4, f5, f6⟩ := HK.out _ S2.out.old
     go_upto_region 6 with fail
     clear f0 f1 f2 f3 f4 f5 f6
     have S3 := Lib.hid (show Sl.Sep w _ [_, _] from L4.push_box S2.out 40 #[.int .i64 kd, .int .i64 n, .string t, .slice ia l.length ic] wr.heap.size rfl)
     clear S2
     obtain ⟨g1, hg⟩ : ∃ g', g' = wr.heap.size := ⟨_, rfl⟩
     rw [← hg] at S3 ⊢
     clear hg
     generalize wr.alloc (.cells #[.int .i64 kd, .int .i64 n, .string t, .slice ia l.length ic] 40) = w3 at S3 ⊢
     obtain ⟨f0, f1, f2⟩ := Bag.cs3 S3.out 0 rfl
     obtain ⟨f3, f4, f5, f6⟩ := Bag.cs4 S3.out 1 rfl
     obtain ⟨f7, f8, f9, f10⟩ := HK.out _ S3.out.old
     cases bk with
     | false =>
      go_wp2_with fail
      go_at_call 99
      refine (HIK.out _).mono ?_
      rintro e w4 ⟨rfl, hb⟩
      clear f0 f1 f2 f3 f4 f5 f6 f7 f8 f9 f10
      have S4 := Lib.hid (S3.out.keep hb)
      clear S3
      clear hb
      obtain ⟨f0, f1, f2⟩ := Bag.cs3 S4.out 0 rfl
      obtain ⟨f3, f4, f5, f6⟩ := Bag.cs4 S4.out 1 rfl
      obtain ⟨f7, f8, f9, f10⟩ := HK.out _ S4.out.old
      have HNO := Lib.hid (show isI (conI xs) = false from isI_no k hci (by rw [okIx_at HC.out]; dsimp only; rw [HBK.out]; rfl))
      go_wp2_with fail
      go_ret
      exact ⟨by rw [HE.out, HNO.out]; rfl, S4.out.old⟩
     | true =>
      go_wp2_with fail
      go_at_call 99
      refine (HIK.out _).mono ?_
      rintro e w4 ⟨rfl, hb⟩
      clear f0 f1 f2 f3 f4 f5 f6 f7 f8 f9 f10
      have S4 := Lib.hid (S3.out.keep hb)
      clear S3
      clear hb
      obtain ⟨f0, f1, f2⟩ := Bag.cs3 S4.out 0 rfl
      obtain ⟨f3, f4, f5, f6⟩ := Bag.cs4 S4.out 1 rfl
      obtain ⟨f7, f8, f9, f10⟩ := HK.out _ S4.out.old
      cases br with
      | false =>
       go_wp2_with fail
       go_at_call 100
       refine (HIR.out _ S4.out.old).mono ?_
       rintro e w5 ⟨rfl, hb⟩
       clear f0 f1 f2 f3 f4 f5 f6 f7 f8 f9 f10
       have S5 := Lib.hid (S4.out.keep hb)
       clear S4
       clear hb
       obtain ⟨f0, f1, f2⟩ := Bag.cs3 S5.out 0 rfl
       obtain ⟨f3, f4, f5, f6⟩ := Bag.cs4 S5.out 1 rfl
       obtain ⟨f7, f8, f9, f10⟩ := HK.out _ S5.out.old
       have HNO := Lib.hid (show isI (conI xs) = false from isI_no k hci (by rw [okIx_at HC.out]; dsimp only; rw [HBK.out, HBR.out]; rfl))
       go_wp2_with fail
       go_ret
       exact ⟨by rw [HE.out, HNO.out]; rfl, S5.out.old⟩
      | true =>
       go_wp2_with fail
       go_at_call 100
       refine (HIR.out _ S4.out.old).mono ?_
       rintro e w5 ⟨rfl, hb⟩
       clear f0 f1 f2 f3 f4 f5 f6 f7 f8 f9 f10
       have S5 := Lib.hid (S4.out.keep hb)
       clear S4
       clear hb
       obtain ⟨f0, f1, f2⟩ := Bag.cs3 S5.out 0 rfl
       obtain ⟨f3, f4, f5, f6⟩ := Bag.cs4 S5.out 1 rfl
       obtain ⟨f7, f8, f9, f10⟩ := HK.out _ S5.out.old
       rcases Nat.eq_zero_or_pos k with hk0 | hk0
       ·
        have hk1 : (0 < k) = False := by simp; omega
        have HZ := Lib.hid hk0
        clear hk0
        go_upto_region 8 with fail
        clear f0 f1 f2 f3 f4 f5 f6 f7 f8 f9 f10
        refine wp_region_held_drew (S := (fun w' => (w'.cell? ⟨w.heap.size, 0, none⟩ = some (.string name) ∧ w'.cell? ⟨w.heap.size, 1, none⟩ = some (.slice (some ad) N c) ∧ w'.cell? ⟨w.heap.size, 2, none⟩ = some (.int .i64 auto)) ∧ (w'.cell? ⟨g1, 0, none⟩ = some (.int .i64 kd) ∧ w'.cell? ⟨g1, 1, none⟩ = some (.int .i64 n) ∧ w'.cell? ⟨g1, 2, none⟩ = some (.string t) ∧ w'.cell? ⟨g1, 3, none⟩ = some (.slice ia l.length ic)) ∧ (w'.cell? (ad.add (k * 4)) = some (.int .i64 kd) ∧ w'.cell? (⟨(ad.add (k * 4)).block, (ad.add (k * 4)).off + 1, none⟩) = some (.int .i64 n) ∧ w'.cell? (⟨(ad.add (k * 4)).block, (ad.add (k * 4)).off + 2, none⟩) = some (.string t) ∧ w'.cell? (⟨(ad.add (k * 4)).block, (ad.add (k * 4)).off + 3, none⟩) = some (.slice ia l.length ic)))) (by kernel_rfl) ⟨Bag.cs3 (Bag.drew1 S5.out) 0 rfl, Bag.cs4 (Bag.drew1 S5.out) 1 rfl, HK.out _ (Bag.drew1 S5.out).old⟩ (fun hS => ?_)
        have S6 := Lib.hid (Bag.drew1 S5.out)
        clear S5
        generalize World.drew _ = w6 at hS S6 ⊢
        refine tk 0 rfl ?_
        try simp only [zp0, zp1, zp2, zp3, zp4]
        refine tk 1 rfl ?_
        try simp only [zp0, zp1, zp2, zp3, zp4]
        refine tk 2 rfl ?_
        try simp only [zp0, zp1, zp2, zp3, zp4]
        refine sk 3 rfl ?_
        try simp only [zp0, zp1, zp2, zp3, zp4]
        refine sk 4 rfl ?_
        try simp only [zp0, zp1, zp2, zp3, zp4]
        refine sk 5 rfl ?_
        try simp only [zp0, zp1, zp2, zp3, zp4]
        refine sk 6 rfl ?_
        try simp only [zp0, zp1, zp2, zp3, zp4]
        refine sk 7 rfl ?_
        try simp only [zp0, zp1, zp2, zp3, zp4]
        refine sk 8 rfl ?_
        try simp only [zp0, zp1, zp2, zp3, zp4]
        refine sk 9 rfl ?_
        try simp only [zp0, zp1, zp2, zp3, zp4]
        refine sk 10 rfl ?_
        try simp only [zp0, zp1, zp2, zp3, zp4]
        refine sk 11 rfl ?_
        try simp only [zp0, zp1, zp2, zp3, zp4]
        refine Reg.skip_one (i := 12) rfl (by kernel_rfl) (by rfl) (by assumption) ?_
        try simp only [zp0, zp1, zp2, zp3, zp4]
        refine sk 13 rfl ?_
        try simp only [zp0, zp1, zp2, zp3, zp4]
        refine tk 14 rfl ?_
        try simp only [zp0, zp1, zp2, zp3, zp4]
        refine wpAnyH_done (by kernel_rfl) ?_ _
        obtain ⟨f0, f1, f2⟩ := Bag.cs3 S6.out 0 rfl
        obtain ⟨f3, f4, f5, f6⟩ := Bag.cs4 S6.out 1 rfl
        obtain ⟨f7, f8, f9, f10⟩ := HK.out _ S6.out.old
        clear f0 f1 f2 f3 f4 f5 f6 f7 f8 f9 f10
        have S7 := Lib.hid (show Sl.Sep w _ [_] from Bag.take S6.out [0] (by rfl) (by decide))
        clear S6
        go_wp2_with fail
        go_roundw
        case rel => exact ⟨k + 1, by omega, by go_num, And.intro (fun j h => by
         by_cases e : j < k
         ·
          exact HA.out j e
         ·
          obtain rfl : j = k := by omega
          rw [okIx_at HC.out]; dsimp only; rw [HBK.out, HBR.out, HZ.out]; rfl) S7.out⟩
        case measure => simp [intOf]; omega
       ·
        obtain ⟨m, hkm⟩ : ∃ m, k = m + 1 := ⟨k - 1, by omega⟩
        have hki : (k : Int) - 1 = (m : Int) := by omega
        have HKM := Lib.hid hkm
        have hm0 : m < xs.length := by omega
        have hmi : (m : Int) < (N : Int) := by omega
        have hmw : IntKind.i64.wrap (m : Int) = (m : Int) := IntWalk.i64_in _ ⟨by omega, by omega⟩
        clear hkm
        clear f0 f1 f2 f3 f4 f5 f6 f7 f8 f9 f10
        obtain ⟨ad_, x2, e_, hx2⟩ := readsI_some (HR.out _ S5.out.old) m hm0
        clear e_ ad_
        obtain ⟨⟨kd2, n2, t2⟩, ia2, ic2, l2⟩ := x2
        have HK2 := Lib.hid (fun w' (h : Below w.heap.size w w') => readsI_at (HR.out _ h) m _ hx2)
        try dsimp only at HK2
        have HC2 := Lib.hid (show (conI xs)[m]? = some (⟨⟨kd2, n2, t2⟩, l2⟩ : It) from con_of hx2)
        have HFI2 := Lib.hid (fit_at HF.out hx2)
        clear hx2
        obtain ⟨cv, hcv⟩ : ∃ b, cmpK ⟨kd2, n2, t2⟩ ⟨kd, n, t⟩ = b := ⟨_, rfl⟩
        have HCMP := fun w => L4.implCompareKeys_any ⟨kd2, n2, t2⟩ ⟨kd, n, t⟩ (by have : t2.size ≤ 1099511627776 := HFI2.out.text; show t2.size ≤ _; omega) (by have : t.size ≤ 1099511627776 := HFI.out.text; show t.size ≤ _; omega) w
        rw [hcv] at HCMP
        replace HCMP := Lib.hid HCMP
        have HCV := Lib.hid hcv
        clear hcv
        obtain ⟨f0, f1, f2⟩ := Bag.cs3 S5.out 0 rfl
        obtain ⟨f3, f4, f5, f6⟩ := Bag.cs4 S5.out 1 rfl
        obtain ⟨f7, f8, f9, f10⟩ := HK.out _ S5.out.old
        obtain ⟨f11, f12, f13, f14⟩ := HK2.out _ S5.out.old
        by_cases hc : cv < 0
        ·
         have hc2 : ¬ 0 ≤ cv := by omega
         go_upto_region 8 with fail
         clear f0 f1 f2 f3 f4 f5 f6 f7 f8 f9 f10 f11 f12 f13 f14
         refine wp_region_held_drew (S := (fun w' => (w'.cell? ⟨w.heap.size, 0, none⟩ = some (.string name) ∧ w'.cell? ⟨w.heap.size, 1, none⟩ = some (.slice (some ad) N c) ∧ w'.cell? ⟨w.heap.size, 2, none⟩ = some (.int .i64 auto)) ∧ (w'.cell? ⟨g1, 0, none⟩ = some (.int .i64 kd) ∧ w'.cell? ⟨g1, 1, none⟩ = some (.int .i64 n) ∧ w'.cell? ⟨g1, 2, none⟩ = some (.string t) ∧ w'.cell? ⟨g1, 3, none⟩ = some (.slice ia l.length ic)) ∧ (w'.cell? (ad.add (k * 4)) = some (.int .i64 kd) ∧ w'.cell? (⟨(ad.add (k * 4)).block, (ad.add (k * 4)).off + 1, none⟩) = some (.int .i64 n) ∧ w'.cell? (⟨(ad.add (k * 4)).block, (ad.add (k * 4)).off + 2, none⟩) = some (.string t) ∧ w'.cell? (⟨(ad.add (k * 4)).block, (ad.add (k * 4)).off + 3, none⟩) = some (.slice ia l.length ic)) ∧ (w'.cell? (ad.add (m * 4)) = some (.int .i64 kd2) ∧ w'.cell? (⟨(ad.add (m * 4)).block, (ad.add (m * 4)).off + 1, none⟩) = some (.int .i64 n2) ∧ w'.cell? (⟨(ad.add (m * 4)).block, (ad.add (m * 4)).off + 2, none⟩) = some (.string t2) ∧ w'.cell? (⟨(ad.add (m * 4)).block, (ad.add (m * 4)).off + 3, none⟩) = some (.slice ia2 l2.length ic2)))) (by kernel_rfl) ⟨Bag.cs3 (Bag.drew1 S5.out) 0 rfl, Bag.cs4 (Bag.drew1 S5.out) 1 rfl, HK.out _ (Bag.drew1 S5.out).old, HK2.out _ (Bag.drew1 S5.out).old⟩ (fun hS => ?_)
         have S6 := Lib.hid (Bag.drew1 S5.out)
         clear S5
         generalize World.drew _ = w6 at hS S6 ⊢
         refine tk 0 rfl ?_
         try simp only [zp0, zp1, zp2, zp3, zp4]
         refine tk 1 rfl ?_
         try simp only [zp0, zp1, zp2, zp3, zp4]
         refine tk 2 rfl ?_
         try simp only [zp0, zp1, zp2, zp3, zp4]
         refine tk 3 rfl ?_
         try simp only [zp0, zp1, zp2, zp3, zp4]
         refine tk 4 rfl ?_
         try simp only [zp0, zp1, zp2, zp3, zp4]
         refine tk 5 rfl ?_
         try simp only [zp0, zp1, zp2, zp3, zp4]
         refine tk 6 rfl ?_
         try simp only [zp0, zp1, zp2, zp3, zp4]
         refine tk 7 rfl ?_
         try simp only [zp0, zp1, zp2, zp3, zp4]
         refine tk 8 rfl ?_
         try simp only [zp0, zp1, zp2, zp3, zp4]
         refine tk 9 rfl ?_
         try simp only [zp0, zp1, zp2, zp3, zp4]
         refine tk 10 rfl ?_
         try simp only [zp0, zp1, zp2, zp3, zp4]
         refine tk 11 rfl ?_
         try simp only [zp0, zp1, zp2, zp3, zp4]
         refine Reg.one_op (i := 12) rfl (by kernel_rfl) (fun K hK => ?_)
         go_simp
         go_at_call 101
         refine (HCMP.out _).mono ?_
         rintro e w7 ⟨rfl, hb⟩
         have S7 := Lib.hid (S6.out.keep hb)
         clear S6
         clear hb
         go_wp2_with fail
         refine hK.out _ _ ⟨Bag.cs3 S7.out 0 rfl, Bag.cs4 S7.out 1 rfl, HK.out _ S7.out.old, HK2.out _ S7.out.old⟩ (fun hS => ?_)
         clear hK K
         try simp only [zp0, zp1, zp2, zp3, zp4]
         refine tk 13 rfl ?_
         try simp only [zp0, zp1, zp2, zp3, zp4]
         refine tk 14 rfl ?_
         try simp only [zp0, zp1, zp2, zp3, zp4]
         refine wpAnyH_done (by kernel_rfl) ?_ _
         obtain ⟨f0, f1, f2⟩ := Bag.cs3 S7.out 0 rfl
         obtain ⟨f3, f4, f5, f6⟩ := Bag.cs4 S7.out 1 rfl
         obtain ⟨f7, f8, f9, f10⟩ := HK.out _ S7.out.old
         obtain ⟨f11, f12, f13, f14⟩ := HK2.out _ S7.out.old
         clear f0 f1 f2 f3 f4 f5 f6 f7 f8 f9 f10 f11 f12 f13 f14
         have S8 := Lib.hid (show Sl.Sep w _ [_] from Bag.take S7.out [0] (by rfl) (by decide))
         clear S7
         go_wp2_with fail
         go_roundw
         case rel => exact ⟨k + 1, by omega, by go_num, And.intro (fun j h => by
          by_cases e : j < k
          ·
           exact HA.out j e
          ·
           obtain rfl : j = k := by omega
           rw [okIx_at HC.out, HKM.out, behind_at HC2.out]; dsimp only; rw [HBK.out, HBR.out, HCV.out]; simpa using hc) S8.out⟩
         case measure => simp [intOf]; omega
        ·
         have hc2 : 0 ≤ cv := by omega
         go_upto_region 8 with fail
         clear f0 f1 f2 f3 f4 f5 f6 f7 f8 f9 f10 f11 f12 f13 f14
         refine wp_region_held_drew (S := (fun w' => (w'.cell? ⟨w.heap.size, 0, none⟩ = some (.string name) ∧ w'.cell? ⟨w.heap.size, 1, none⟩ = some (.slice (some ad) N c) ∧ w'.cell? ⟨w.heap.size, 2, none⟩ = some (.int .i64 auto)) ∧ (w'.cell? ⟨g1, 0, none⟩ = some (.int .i64 kd) ∧ w'.cell? ⟨g1, 1, none⟩ = some (.int .i64 n) ∧ w'.cell? ⟨g1, 2, none⟩ = some (.string t) ∧ w'.cell? ⟨g1, 3, none⟩ = some (.slice ia l.length ic)) ∧ (w'.cell? (ad.add (k * 4)) = some (.int .i64 kd) ∧ w'.cell? (⟨(ad.add (k * 4)).block, (ad.add (k * 4)).off + 1, none⟩) = some (.int .i64 n) ∧ w'.cell? (⟨(ad.add (k * 4)).block, (ad.add (k * 4)).off + 2, none⟩) = some (.string t) ∧ w'.cell? (⟨(ad.add (k * 4)).block, (ad.add (k * 4)).off + 3, none⟩) = some (.slice ia l.length ic)) ∧ (w'.cell? (ad.add (m * 4)) = some (.int .i64 kd2) ∧ w'.cell? (⟨(ad.add (m * 4)).block, (ad.add (m * 4)).off + 1, none⟩) = some (.int .i64 n2) ∧ w'.cell? (⟨(ad.add (m * 4)).block, (ad.add (m * 4)).off + 2, none⟩) = some (.string t2) ∧ w'.cell? (⟨(ad.add (m * 4)).block, (ad.add (m * 4)).off + 3, none⟩) = some (.slice ia2 l2.length ic2)))) (by kernel_rfl) ⟨Bag.cs3 (Bag.drew1 S5.out) 0 rfl, Bag.cs4 (Bag.drew1 S5.out) 1 rfl, HK.out _ (Bag.drew1 S5.out).old, HK2.out _ (Bag.drew1 S5.out).old⟩ (fun hS => ?_)
         have S6 := Lib.hid (Bag.drew1 S5.out)
         clear S5
         generalize World.drew _ = w6 at hS S6 ⊢
         refine tk 0 rfl ?_
         try simp only [zp0, zp1, zp2, zp3, zp4]
         refine tk 1 rfl ?_
         try simp only [zp0, zp1, zp2, zp3, zp4]
         refine tk 2 rfl ?_
         try simp only [zp0, zp1, zp2, zp3, zp4]
         refine tk 3 rfl ?_
         try simp only [zp0, zp1, zp2, zp3, zp4]
         refine tk 4 rfl ?_
         try simp only [zp0, zp1, zp2, zp3, zp4]
         refine tk 5 rfl ?_
         try simp only [zp0, zp1, zp2, zp3, zp4]
         refine tk 6 rfl ?_
         try simp only [zp0, zp1, zp2, zp3, zp4]
         refine tk 7 rfl ?_
         try simp only [zp0, zp1, zp2, zp3, zp4]
         refine tk 8 rfl ?_
         try simp only [zp0, zp1, zp2, zp3, zp4]
         refine tk 9 rfl ?_
         try simp only [zp0, zp1, zp2, zp3, zp4]
         refine tk 10 rfl ?_
         try simp only [zp0, zp1, zp2, zp3, zp4]
         refine tk 11 rfl ?_
         try simp only [zp0, zp1, zp2, zp3, zp4]
         refine Reg.one_op (i := 12) rfl (by kernel_rfl) (fun K hK => ?_)
         go_simp
         go_at_call 101
         refine (HCMP.out _).mono ?_
         rintro e w7 ⟨rfl, hb⟩
         have S7 := Lib.hid (S6.out.keep hb)
         clear S6
         clear hb
         go_wp2_with fail
         refine hK.out _ _ ⟨Bag.cs3 S7.out 0 rfl, Bag.cs4 S7.out 1 rfl, HK.out _ S7.out.old, HK2.out _ S7.out.old⟩ (fun hS => ?_)
         clear hK K
         try simp only [zp0, zp1, zp2, zp3, zp4]
         refine tk 13 rfl ?_
         try simp only [zp0, zp1, zp2, zp3, zp4]
         refine tk 14 rfl ?_
         try simp only [zp0, zp1, zp2, zp3, zp4]
         refine wpAnyH_done (by kernel_rfl) ?_ _
         obtain ⟨f0, f1, f2⟩ := Bag.cs3 S7.out 0 rfl
         obtain ⟨f3, f4, f5, f6⟩ := Bag.cs4 S7.out 1 rfl
         obtain ⟨f7, f8, f9, f10⟩ := HK.out _ S7.out.old
         obtain ⟨f11, f12, f13, f14⟩ := HK2.out _ S7.out.old
         have HNO := Lib.hid (show isI (conI xs) = false from isI_no k hci (by rw [okIx_at HC.out, HKM.out, behind_at HC2.out]; dsimp only; rw [HBK.out, HBR.out, HCV.out]; simpa using hc2))
         go_wp2_with fail
         go_ret
         exact ⟨by rw [HE.out, HNO.out]; rfl, S7.out.old⟩
    ·
     skip
     obtain rfl : k = N := by omega
     have HI := Lib.hid (isI_all (xs := conI xs) (fun i hi => HA.out i (by rw [conI_length] at hi; have := HN.out; omega)))
     go_wp2_with fail
     go_ret
     exact ⟨by rw [HE.out, HI.out]; rfl, S2.out.old⟩
end Go.Proofs.Ytojcdmgcbgpdmaa.L6

namespace Go.Proofs.Ytojcdmgcbgpdmaa.L4
open Go.Op (bytesLess)
open Go.ChangeShapes Go.WideShapes Go.ChangeAt Go.RowKit Mem Sl Ex L2

set_option maxHeartbeats 4000000 in
theorem implInRangeOf_any (k : K) (r : R) (h0 : k.text.size ≤ 281474976710656) (h1 : r.lo.text.size ≤ 281474976710656) (h2 : r.hi.text.size ≤ 281474976710656) (w : World) :
  Calls Try.prog 106 #[k.v, r.v] w fun e w' => e = .returned (.bool (inR k r)) ∧ Below w.heap.size w w' := by
 obtain ⟨w2, hw2⟩ : ∃ w2, w2 = (w.alloc (.cells k.cells 28)).alloc (.cells r.cells 45) := ⟨_, rfl⟩
 have st0 : Hid (St w w2 28 45 k r) := by
  rw [hw2]
  refine ⟨(Row.made w _ _).more _, ?_, below_alloc (below_alloc (Below.refl _ _) _ (Nat.le_refl _)) _ (Nat.le_refl _)⟩
  rw [show w.heap.size + 1 = (w.alloc (.cells k.cells 28)).heap.size by simp]
  exact Row.made _ _ _
 have HK := Lib.hid (fun w => implIsKey_any k h0 w)
 have HL := Lib.hid (fun w => implIsKey_any r.lo h1 w)
 have HH := Lib.hid (fun w => implIsKey_any r.hi h2 w)
 have HCL := Lib.hid (fun w => implCompareKeys_any k r.lo h0 h1 w)
 have HCH := Lib.hid (fun w => implCompareKeys_any k r.hi h0 h2 w)
 obtain ⟨ik, hik⟩ : ∃ x, isK k = x := ⟨_, rfl⟩
 obtain ⟨il, hil⟩ : ∃ x, isK r.lo = x := ⟨_, rfl⟩
 obtain ⟨ih, hih⟩ : ∃ x, isK r.hi = x := ⟨_, rfl⟩
 obtain ⟨cl, hcl⟩ : ∃ x, cmpK k r.lo = x := ⟨_, rfl⟩
 obtain ⟨ch, hch⟩ : ∃ x, cmpK k r.hi = x := ⟨_, rfl⟩
 have HE := show inR k r = (ik && ((!r.hl || il) && ((!r.hh || ih) && ((!r.hl || decide (-cl ≤ 0)) && (!r.hh || decide (ch ≤ 0)))))) by unfold inR; rw [hik, hil, hih, cmpK_swap k r.lo, hcl, hch]
 rw [HE]
 rw [hik] at HK
 rw [hil] at HL
 rw [hih] at HH
 rw [hcl] at HCL
 rw [hch] at HCH
 clear HE hik hil hih hcl hch
 obtain ⟨kd, n, s⟩ := k
 obtain ⟨hl, hh, ⟨ka, na, sa⟩, ⟨kb, nb, sb⟩⟩ := r
 obtain ⟨dl, hdl⟩ : ∃ b, decide (-cl ≤ 0) = b := ⟨_, rfl⟩
 obtain ⟨dh, hdh⟩ : ∃ b, decide (ch ≤ 0) = b := ⟨_, rfl⟩
 rw [hdl, hdh]
 have gl : (dl = true ∧ ¬ cl < 0) ∨ (dl = false ∧ cl < 0) := by
  by_cases h : cl < 0
  ·
   exact .inr ⟨by rw [← hdl, decide_eq_false (by omega)], h⟩
  ·
   exact .inl ⟨by rw [← hdl, decide_eq_true (by omega)], h⟩
 have gh : (dh = true ∧ ¬ 0 < ch) ∨ (dh = false ∧ 0 < ch) := by
  by_cases h : 0 < ch
  ·
   exact .inr ⟨by rw [← hdh, decide_eq_false (by omega)], h⟩
  ·
   exact .inl ⟨by rw [← hdh, decide_eq_true (by omega)], h⟩
 simp only [K.v, R.v, K.cells, R.cells] at HK HL HH HCL HCH hw2 ⊢
 clear h0 h1 h2 hdl hdh
 rcases (show (ik = false) ∨ (ik = true ∧ hl = true ∧ il = false) ∨ (ik = true ∧ hl = true ∧ il = true ∧ dl = false ∧ cl < 0) ∨ (ik = true ∧ hl = true ∧ il = true ∧ dl = true ∧ ¬ cl < 0 ∧ hh = false) ∨ (ik = true ∧ hl = true ∧ il = true ∧ dl = true ∧ ¬ cl < 0 ∧ hh = true ∧ ih = false) ∨ (ik = true ∧ hl = true ∧ il = true ∧ dl = true ∧ ¬ cl < 0 ∧ hh = true ∧ ih = true ∧ dh = true ∧ ¬ 0 < ch) ∨ (ik = true ∧ hl = true ∧ il = true ∧ dl = true ∧ ¬ cl < 0 ∧ hh = true ∧ ih = true ∧ dh = false ∧ 0 < ch) ∨ (ik = true ∧ hl = false ∧ hh = false) ∨ (ik = true ∧ hl = false ∧ hh = true ∧ ih = false) ∨ (ik = true ∧ hl = false ∧ hh = true ∧ ih = true ∧ dh = true ∧ ¬ 0 < ch) ∨ (ik = true ∧ hl = false ∧ hh = true ∧ ih = true ∧ dh = false ∧ 0 < ch) by
  rcases gl with ⟨rfl, g1⟩ | ⟨rfl, g1⟩ <;> rcases gh with ⟨rfl, g2⟩ | ⟨rfl, g2⟩ <;> cases ik <;> cases hl <;> cases il <;> cases hh <;> cases ih <;> simp [g1, g2]) with rfl | ⟨rfl, rfl, rfl⟩ | ⟨rfl, rfl, rfl, rfl, hL⟩ | ⟨rfl, rfl, rfl, rfl, hL, rfl⟩ | ⟨rfl, rfl, rfl, rfl, hL, rfl, rfl⟩ | ⟨rfl, rfl, rfl, rfl, hL, rfl, rfl, rfl, hH⟩ | ⟨rfl, rfl, rfl, rfl, hL, rfl, rfl, rfl, hH⟩ | ⟨rfl, rfl, rfl⟩ | ⟨rfl, rfl, rfl, rfl⟩ | ⟨rfl, rfl, rfl, rfl, rfl, hH⟩ | ⟨rfl, rfl, rfl, rfl, rfl, hH⟩
 all_goals
  clear gl gh
  go_enter Try.func106, Try.ntmps106
  go_wp2_with fail
  go_at_call 99
  rw [← hw2]
  clear hw2
  with_reducible refine (HK.out w2).mono ?_
  rintro e w3 ⟨rfl, hb⟩
  have st := St.next st0 hb
  clear hb
  obtain ⟨⟨x0, x1, x2⟩, y0, y1, y2, y3, y4, y5, y6, y7⟩ := St.facts st
  go_wp2_with (first
   | (go_at_call 99; with_reducible refine (HL.out _).mono ?_; rintro e wn ⟨rfl, hb⟩; have st := St.next (by assumption) hb; clear hb; obtain ⟨⟨x0, x1, x2⟩, y0, y1, y2, y3, y4, y5, y6, y7⟩ := St.facts st)
   | (go_at_call 99; with_reducible refine (HH.out _).mono ?_; rintro e wn ⟨rfl, hb⟩; have st := St.next (by assumption) hb; clear hb; obtain ⟨⟨x0, x1, x2⟩, y0, y1, y2, y3, y4, y5, y6, y7⟩ := St.facts st)
   | (go_at_call 101; with_reducible refine (HCL.out _).mono ?_; rintro e wn ⟨rfl, hb⟩; have st := St.next (by assumption) hb; clear hb; obtain ⟨⟨x0, x1, x2⟩, y0, y1, y2, y3, y4, y5, y6, y7⟩ := St.facts st)
   | (go_at_call 101; with_reducible refine (HCH.out _).mono ?_; rintro e wn ⟨rfl, hb⟩; have st := St.next (by assumption) hb; clear hb; obtain ⟨⟨x0, x1, x2⟩, y0, y1, y2, y3, y4, y5, y6, y7⟩ := St.facts st))
  go_ret
  exact ⟨by simp, st.out.b⟩
end Go.Proofs.Ytojcdmgcbgpdmaa.L4

set_option linter.unusedSimpArgs false
namespace Go.Proofs.Ytojcdmgcbgpdmaa.L6
open L4 (K isK cmpK R inR encU)
open L5 (F isR isN cellsF encR eqR Small)
open Go.ChangeShapes Go.WideShapes Go.ChangeAt Go.RowKit Mem Sl Ex L2 Sv Bag

def TestsC (Fn g : Nat) (f : It → Bool) (xs : List LI) (w : World) : Prop :=
 ∀ x ∈ xs, ∀ w', w.heap.size ≤ w'.heap.size → w'.heap[g]? = w.heap[g]? → Calls Try.prog Fn #[.agg #[.int .i64 x.k.kind, .int .i64 x.k.n, .string x.k.text, .slice x.a x.l.length x.c], .pointer (some ⟨g, 0, none⟩)] w' fun e w'' => e = .returned (.bool (f x.con)) ∧ Below w'.heap.size w' w''
theorem TestsC.below {Fn g : Nat} {f : It → Bool} {xs : List LI} {w : World} (h : TestsC Fn g f xs w) (hg : g < w.heap.size) : Tests Fn g f xs w := fun x hx w' hb => h x hx w' hb.size (hb.block g hg)
def keptL (f : It → Bool) (ys : List LI) : List LI := ys.filter fun x => !f x.con
theorem keptL_take {f : It → Bool} {ys : List LI} {j : Nat} {x : LI} (h : ys[j]? = some x) : keptL f (ys.take (j + 1)) = keptL f (ys.take j) ++ (if f x.con then [] else [x]) := by
 obtain ⟨hj, rfl⟩ := List.getElem?_eq_some_iff.1 h
 unfold keptL
 rw [List.take_succ_eq_append_getElem hj, List.filter_append]
 congr 1
 by_cases h1 : f ys[j].con = true
 ·
  simp [h1]
 ·
  simp [h1]
theorem keptL_all {f : It → Bool} {ys : List LI} (h : ∀ j (hj : j < (conI ys).length), f (conI ys)[j] = false) : keptL f ys = ys := by
 unfold keptL
 rw [List.filter_eq_self]
 intro x hx
 obtain ⟨j, hj, rfl⟩ := List.getElem_of_mem hx
 have := h j (by rw [conI_length]; exact hj)
 rw [conI_get ys j hj] at this
 rw [this]
 rfl
theorem ixP_cases (f : It → Bool) (xs : List It) : (ixP f xs = -1 ∧ ∀ j (hj : j < xs.length), f xs[j] = false) ∨ ∃ i : Nat, ixP f xs = i ∧ ∃ hi : i < xs.length, f xs[i] = true ∧ ∀ j (hj : j < xs.length), j < i → f xs[j] = false := by
 unfold ixP
 cases h : xs.findIdx? f with
 | none =>
  rw [List.findIdx?_eq_none_iff] at h
  exact .inl ⟨rfl, fun j hj => by simpa using h _ (List.getElem_mem hj)⟩
 | some i =>
  rw [List.findIdx?_eq_some_iff_getElem] at h
  obtain ⟨hi, h1, h2⟩ := h
  exact .inr ⟨i, rfl, hi, h1, fun j hj hji => by simpa using h2 j hji⟩
theorem keptL_con (f : It → Bool) (ys : List LI) : conI (keptL f ys) = (conI ys).filter fun x => !f x := by
 unfold conI keptL
 rw [List.filter_map]
 rfl

theorem zero_one (n : Nat) : ∀ v ∈ (Builtin.zeroCells (Value.agg #[.int .i64 0, .int .i64 0, .string ⟨#[]⟩, .slice none 0 0]).cells n).toList, v.oneCell' = true := by
 intro v hv
 simp only [Builtin.zeroCells, Array.toList_map, List.mem_map] at hv
 obtain ⟨j, _, rfl⟩ := hv
 have h4 : j % (Value.agg #[.int .i64 0, .int .i64 0, .string ⟨#[]⟩, .slice none 0 0]).cells.size < 4 := Nat.mod_lt _ (by decide)
 generalize j % (Value.agg #[.int .i64 0, .int .i64 0, .string ⟨#[]⟩, .slice none 0 0]).cells.size = q at h4
 rcases (show q = 0 ∨ q = 1 ∨ q = 2 ∨ q = 3 by omega) with rfl | rfl | rfl | rfl <;> rfl
set_option maxHeartbeats 8000000 in
theorem deleteFuncI_any (g gc c : Nat) (f : It → Bool) (ys : List LI) (hl : ys.length ≤ 1048576) (W w : World) (S : Sl.Sep W w [Sv.ownV 40 4 (some ⟨g, 0, none⟩) c ys.length (cellsI ys), Run.restR W w g]) (hgc : gc < w.heap.size) (hne : gc ≠ g) (ht : TestsC 105 gc f ys w) :
  Calls Try.prog 104 #[.slice (some ⟨g, 0, none⟩) ys.length c, .func (.func 105) #[] #[.pointer (some ⟨gc, 0, none⟩)]] w fun e w' => ∃ zs, e = .returned (.slice (some ⟨g, 0, none⟩) zs.length c) ∧ zs = keptL f ys ∧ Sl.Sep W w' [Sv.ownV 40 4 (some ⟨g, 0, none⟩) c zs.length (cellsI zs), Run.restR W w g] := by
 obtain ⟨i0', hi1, hi2, hi3, hi4⟩ := itemInfo
 have HI := Lib.hid (And.intro hi1 (And.intro hi2 (And.intro hi3 hi4)))
 clear hi1 hi2 hi3 hi4
 have HB0 := Lib.hid S.old
 have HT := Lib.hid ht
 have HTB := Lib.hid (ht.below hgc)
 have HG := Lib.hid (show gc < w.heap.size ∧ gc ≠ g from ⟨hgc, hne⟩)
 obtain ⟨N, hN⟩ : ∃ n, n = ys.length := ⟨_, rfl⟩
 rw [← hN] at S hl
 have hl' : (N : Int) ≤ 1048576 := by omega
 have HN := Lib.hid hN
 have HCN := Lib.hid (Sv.own_at S 0 rfl).cap
 have HIX := Lib.hid (indexFuncB_any gc f (some ⟨g, 0, none⟩) c ys (by omega) w (Sv.own_at S 0 rfl).reads HTB.out)
 rw [← hN] at HIX ⊢
 have S1 := Lib.hid S
 clear hN S ht
 go_enter Try.func104, Try.ntmps104
 go_wp2_with fail
 go_at_call 92
 refine (HIX.out).mono ?_
 rintro e w1 ⟨rfl, hb⟩
 have S2 := Lib.hid (S1.out.keep hb)
 clear S1
 clear hb
 rcases ixP_cases f (conI ys) with ⟨hix, hall⟩ | ⟨i0, hix, hi0, hfi, hbef⟩
 ·
  rw [hix]
  have HA := Lib.hid (keptL_all hall)
  clear hix hall
  go_wp2_with fail
  go_ret
  exact ⟨keptL f ys, by rw [HA.out, ← HN.out]; rfl, rfl, by rw [HA.out, ← HN.out]; exact S2.out⟩
 ·
  rw [hix]
  rw [conI_length] at hi0
  have hiN : i0 < N := by have := HN.out; omega
  have hiI : (i0 : Int) < (N : Int) := by omega
  have HK0 := Lib.hid (show keptL f (ys.take i0) = ys.take i0 from keptL_all (fun j hj => by
   rw [conI_length, List.length_take] at hj
   have h1 := hbef j (by rw [conI_length]; omega) (by omega)
   have h2 : (conI (ys.take i0))[j]'(by rw [conI_length, List.length_take]; omega) = (conI ys)[j]'(by rw [conI_length]; omega) := by rw [conI_get _ _ (by rw [List.length_take]; omega), conI_get _ _ (by omega), List.getElem_take]
   rw [h2]; exact h1))
  have HX0 := Lib.hid (show keptL f (ys.take (i0 + 1)) = ys.take i0 from by rw [keptL_take (List.getElem?_eq_getElem hi0), HK0.out]; rw [conI_get ys i0 hi0] at hfi; rw [hfi]; simp)
  clear hix hfi hbef
  have hne1 : ¬ (i0 : Int) = -1 := by omega
  have hne2 : ((i0 : Int) == -1) = false := beq_eq_false_iff_ne.2 hne1
  go_upto_region 5 with fail
  have HR0 := Lib.hid (show cellsI ys = cellsI (ys.take i0) ++ (cellsI [ys[i0]] ++ cellsI (ys.drop (i0 + 1))) from by rw [← cellsI_append, ← cellsI_append]; congr 1; rw [List.singleton_append, List.getElem_cons_drop, List.take_append_drop])
  have S3 := Lib.hid (show Sl.Sep W _ [Sv.ownV 40 4 (some ⟨g, 0, none⟩) c N (cellsI (ys.take i0) ++ (cellsI [ys[i0]] ++ cellsI (ys.drop (i0 + 1)))), Run.restR W w g] from (by have h := S2.out; rw [HR0.out] at h; exact h))
  clear S2
  go_loopw [5, 6] (fun u v wr => ∃ (m k : Nat) (zs : List LI) (Ms : List Value), u = .int .i64 m ∧ v = .int .i64 k ∧ m < k ∧ k ≤ N ∧ Hid ((zs = keptL f (ys.take k) ∧ zs.length = m ∧ Ms.length = (k - m) * 4) ∧ Sl.Sep W wr [Sv.ownV 40 4 (some ⟨g, 0, none⟩) c N (cellsI zs ++ (Ms ++ cellsI (ys.drop k))), Run.restR W w g])) (fun _ v _ => N - (intOf v).toNat)
  case atStart => exact ⟨i0, i0 + 1, ys.take i0, _, rfl, by go_num, by omega, by omega, And.intro ⟨HX0.out.symm, by rw [List.length_take]; omega, by rw [cellsI_length]; simp⟩ S3.out⟩
  case round =>
   obtain ⟨m, k, zs, Ms, rfl, rfl, hmk, hk, hrel⟩ := hrel
   have HC := Lib.hid hrel.out.1
   have S4 := Lib.hid hrel.out.2
   clear hrel S3
   have HZL := Lib.hid (show (cellsI zs).length = m * 4 by rw [cellsI_length, HC.out.2.1])
   by_cases hlt : (k : Int) < (N : Int)
   ·
    skip
    have hkl : k < ys.length := by have := HN.out; omega
    obtain ⟨x, hx⟩ : ∃ x, x = ys[k] := ⟨_, rfl⟩
    have HX := Lib.hid (show ys[k]? = some x from by rw [hx]; exact List.getElem?_eq_getElem hkl)
    have HD := Lib.hid (show cellsI (ys.drop k) = cellsI [x] ++ cellsI (ys.drop (k + 1)) from by rw [← cellsI_append, List.singleton_append, hx, List.getElem_cons_drop])
    have HMEM := Lib.hid (show x ∈ ys from by rw [hx]; exact List.getElem_mem hkl)
    clear hx
    obtain ⟨⟨kd, n, t⟩, ia, ic, l⟩ := x
    skip
    obtain ⟨b, hb⟩ : ∃ b, f (LI.mk ⟨kd, n, t⟩ ia ic l).con = b := ⟨_, rfl⟩
    have HB := Lib.hid hb
    clear hb
    have HKT := Lib.hid (keptL_take (f := f) HX.out)
    rw [HB.out] at HKT
    have hrd := (Sv.own_at S4.out 0 rfl).reads
    rw [← List.append_assoc, HD.out] at hrd
    have hrd2 := Run.reads_app hrd
    rw [List.length_append, HZL.out, HC.out.2.2, show 0 + (m * 4 + (k - m) * 4) = k * 4 by omega] at hrd2
    obtain ⟨f0, f1, f2, f3⟩ := Run.reads_four hrd2
    clear hrd hrd2
    go_upto_region 8 with fail
    clear f0 f1 f2 f3
    have S5 := Lib.hid (show Sl.Sep W _ [_, _, _] from L4.push_box S4.out 40 #[.int .i64 kd, .int .i64 n, .string t, .slice ia l.length ic] wr.heap.size rfl)
    clear S4
    obtain ⟨g1, hg⟩ : ∃ g', g' = wr.heap.size := ⟨_, rfl⟩
    rw [← hg] at S5 ⊢
    clear hg
    generalize wr.alloc (.cells #[.int .i64 kd, .int .i64 n, .string t, .slice ia l.length ic] 40) = w2 at S5 ⊢
    obtain ⟨f0, f1, f2, f3⟩ := Bag.cs4 S5.out 2 rfl
    have HCALL := HT.out _ HMEM.out w2 (Run.rest_turned HB0.out S5.out).size (Run.rest_block HB0.out S5.out gc HG.out.1 HG.out.2)
    rw [HB.out] at HCALL
    replace HCALL := Lib.hid HCALL
    go_wp2_with fail
    go_at_call 105
    refine (HCALL.out).mono ?_
    rintro e w3 ⟨rfl, hb⟩
    clear f0 f1 f2 f3
    have S6 := Lib.hid (S5.out.keep hb)
    clear S5
    clear hb
    obtain ⟨f0, f1, f2, f3⟩ := Bag.cs4 S6.out 2 rfl
    clear HCALL
    cases b with
    | true =>
     clear f0 f1 f2 f3
     have S7 := Lib.hid (show Sl.Sep W _ [Sv.ownV 40 4 (some ⟨g, 0, none⟩) c N (cellsI zs ++ (Ms ++ cellsI (ys.drop k))), Run.restR W w g] from Bag.take S6.out [0, 1] (by rfl) (by decide))
     clear S6
     have S8 := Lib.hid (show Sl.Sep W _ [Sv.ownV 40 4 (some ⟨g, 0, none⟩) c N (cellsI zs ++ ((Ms ++ cellsI [⟨⟨kd, n, t⟩, ia, ic, l⟩]) ++ cellsI (ys.drop (k + 1)))), _] from (by have h := S7.out; rw [HD.out, ← List.append_assoc Ms] at h; exact h))
     clear S7
     go_wp2_with fail
     go_roundw
     case rel => exact ⟨m, k + 1, zs, _, rfl, by go_num, by omega, by omega, And.intro ⟨by rw [HKT.out, HC.out.1]; simp, HC.out.2.1, by rw [List.length_append, cellsI_length, HC.out.2.2]; simp; omega⟩ S8.out⟩
     case measure => simp [intOf]; omega
    | false =>
     have hRl : m * 4 + 4 ≤ (cellsI zs ++ (Ms ++ cellsI (ys.drop k))).length := by rw [List.length_append, List.length_append, HZL.out, HC.out.2.2, HD.out, List.length_append, cellsI_length]; simp; omega
     have HRL := Lib.hid hRl
     clear hRl
     have hmN : (m : Int) < (N : Int) := by omega
     have q0 := (Sv.own_at S6.out 0 rfl).cell (m * 4) (by have := HRL.out; omega)
     have z0 := (Sv.own_at S6.out 0 rfl).free (m * 4)
     have q1 := (Sv.own_at S6.out 0 rfl).cell (m * 4 + 1) (by have := HRL.out; omega)
     have z1 := (Sv.own_at S6.out 0 rfl).free (m * 4 + 1)
     have q2 := (Sv.own_at S6.out 0 rfl).cell (m * 4 + 2) (by have := HRL.out; omega)
     have z2 := (Sv.own_at S6.out 0 rfl).free (m * 4 + 2)
     have q3 := (Sv.own_at S6.out 0 rfl).cell (m * 4 + 3) (by have := HRL.out; omega)
     have z3 := (Sv.own_at S6.out 0 rfl).free (m * 4 + 3)
     go_wp2_with fail
     clear f0 f1 f2 f3 q0 z0 q1 z1 q2 z2 q3 z3
     have S7 := Lib.hid (show Sl.Sep W ((((w3.setCell ⟨g, m * 4, none⟩ (.int .i64 kd)).setCell ⟨g, m * 4 + 1, none⟩ (.int .i64 n)).setCell ⟨g, m * 4 + 2, none⟩ (.string t)).setCell ⟨g, m * 4 + 3, none⟩ (.slice ia l.length ic)) [Sv.ownV 40 4 (some ⟨g, 0, none⟩) c N (cellsI (zs ++ [⟨⟨kd, n, t⟩, ia, ic, l⟩]) ++ ((Ms ++ cellsI [⟨⟨kd, n, t⟩, ia, ic, l⟩]).drop 4 ++ cellsI (ys.drop (k + 1)))), Run.restR W w g, L4.boxR g1 40 #[.int .i64 kd, .int .i64 n, .string t, .slice ia l.length ic]] from (by have h := Run.put_run S6.out 0 rfl (m * 4) [.int .i64 kd, .int .i64 n, .string t, .slice ia l.length ic] (by have := HRL.out; simpa using this); rw [Run.over_at _ _ _ _ HZL.out (by rw [HD.out, List.length_append, List.length_append, cellsI_length]; simp; omega), HD.out, ← List.append_assoc Ms, List.drop_append_of_le_length (by rw [List.length_append, cellsI_length]; simp)] at h; rw [cellsI_append, List.append_assoc]; exact h))
     clear S6
     have S8 := Lib.hid (show Sl.Sep W _ [_, _] from Bag.take S7.out [0, 1] (by rfl) (by decide))
     clear S7
     go_roundw
     case rel => exact ⟨m + 1, k + 1, zs ++ [⟨⟨kd, n, t⟩, ia, ic, l⟩], (Ms ++ cellsI [⟨⟨kd, n, t⟩, ia, ic, l⟩]).drop 4, by go_num, by go_num, by omega, by omega, And.intro ⟨by rw [HKT.out, HC.out.1]; simp, by rw [List.length_append, HC.out.2.1]; rfl, by rw [List.length_drop, List.length_append, cellsI_length, HC.out.2.2]; simp <;> omega⟩ S8.out⟩
     case measure => simp [intOf]; omega
   ·
    skip
    obtain rfl : k = N := by omega
    have hcN : k ≤ c := HCN.out
    have hcm : ¬ c = m := by omega
    have hmc : (m : Int) ≤ (c : Int) := by omega
    have hkc : (k : Int) ≤ (c : Int) := by omega
    have hmk2 : (m : Int) ≤ (k : Int) := by omega
    have hdk : cellsI (ys.drop k) = [] := by rw [List.drop_of_length_le (by have := HN.out; omega)]; rfl
    have S5 := Lib.hid (show Sl.Sep W _ [Sv.ownV 40 4 (some ⟨g, 0, none⟩) c k (cellsI zs ++ Ms), Run.restR W w g] from (by have h := S4.out; rw [hdk, List.append_nil] at h; exact h))
    clear S4
    clear hdk
    obtain ⟨Zs, hZs⟩ : ∃ Z, Z = (Builtin.zeroCells (Value.agg #[.int .i64 0, .int .i64 0, .string ⟨#[]⟩, .slice none 0 0]).cells (k - m)).toList := ⟨_, rfl⟩
    have HZS := Lib.hid (show Zs.length = (k - m) * 4 by rw [hZs, Array.length_toList, size_zeroCells]; rfl)
    have hRl : m * 4 + (k - m) * 4 ≤ (cellsI zs ++ Ms).length := by rw [List.length_append, HZL.out, HC.out.2.2]; omega
    have hcl := fun ty cc => Run.run_clear_rows (P := Try.prog) wr 24 40 ty i0' (.agg #[.int .i64 0, .int .i64 0, .string ⟨#[]⟩, .slice none 0 0]) g (m * 4) (k - m) cc Try.underlying24 HI.out.1 HI.out.2.1 (fun j hj => by rw [(Sv.own_at S5.out 0 rfl).cell (m * 4 + j) (by simp [Value.cells] at hj; omega)]; rfl) (fun j _ => (Sv.own_at S5.out 0 rfl).free (m * 4 + j)) (zero_one (k - m))
    rw [← hZs] at hcl
    clear hZs
    obtain ⟨w8, hw⟩ : ∃ u, u = World.setCells wr g (m * 4) Zs := ⟨_, rfl⟩
    rw [← hw] at hcl
    have HW := Lib.hid hw
    have HRL := Lib.hid hRl
    clear hw hRl
    go_wp2_with fail
    have S6 := Lib.hid (show Sl.Sep W _ [Sv.ownV 40 4 (some ⟨g, 0, none⟩) c k (cellsI zs ++ Zs), _] from (by have h := Run.put_run S5.out 0 rfl (m * 4) Zs (by rw [HZS.out]; exact HRL.out); rw [← HW.out, Run.over_at _ _ _ _ HZL.out (by rw [HZS.out, HC.out.2.2]; exact Nat.le_refl _), List.drop_of_length_le (by rw [HC.out.2.2, HZS.out]; exact Nat.le_refl _), List.append_nil] at h; exact h))
    clear S5
    go_ret
    have S90 := Run.shorter S6.out 0 rfl m (by omega)
    rw [List.take_left' HZL.out] at S90
    have hz := HC.out.1
    rw [List.take_of_length_le (by have := HN.out; omega)] at hz
    have hm := HC.out.2.1
    subst hm
    exact ⟨zs, rfl, hz, S90⟩
set_option maxHeartbeats 4000000 in
theorem deleteItems1_any (kd n : Int) (t : ByteArray) (ia : Option Addr) (ln ic g : Nat) (r : R) (ht : t.size ≤ 1099511627776) (hr1 : r.lo.text.size ≤ 281474976710656) (hr2 : r.hi.text.size ≤ 281474976710656) (w : World) (hg : g < w.heap.size) (hrow : Row w g 45 r.cells) :
  Calls Try.prog 105 #[.agg #[.int .i64 kd, .int .i64 n, .string t, .slice ia ln ic], .pointer (some ⟨g, 0, none⟩)] w fun e w' => e = .returned (.bool (inR ⟨kd, n, t⟩ r)) ∧ Below w.heap.size w w' := by
 obtain ⟨rl, rh, ⟨lk, ln0, lt⟩, ⟨gk, gn, gt⟩⟩ := r
 obtain ⟨b, hb⟩ : ∃ b, inR ⟨kd, n, t⟩ ⟨rl, rh, ⟨lk, ln0, lt⟩, ⟨gk, gn, gt⟩⟩ = b := ⟨_, rfl⟩
 have HIN := fun w => L4.implInRangeOf_any ⟨kd, n, t⟩ ⟨rl, rh, ⟨lk, ln0, lt⟩, ⟨gk, gn, gt⟩⟩ (by show t.size ≤ _; omega) hr1 hr2 w
 rw [hb] at HIN ⊢
 clear hb
 replace HIN := Lib.hid HIN
 dsimp only [L4.R.cells] at hrow
 unfold L4.R.v at HIN
 dsimp only at HIN
 have HK := Lib.hid (fun w' (h : Below w.heap.size w w') => (⟨by rw [(Row.below hrow h hg).cell]; rfl, by rw [(Row.below hrow h hg).cell]; rfl, by rw [(Row.below hrow h hg).cell]; rfl, by rw [(Row.below hrow h hg).cell]; rfl, by rw [(Row.below hrow h hg).cell]; rfl, by rw [(Row.below hrow h hg).cell]; rfl, by rw [(Row.below hrow h hg).cell]; rfl, by rw [(Row.below hrow h hg).cell]; rfl⟩ : w'.cell? ⟨g, 0, none⟩ = some (.bool rl) ∧ w'.cell? ⟨g, 1, none⟩ = some (.bool rh) ∧ w'.cell? ⟨g, 2, none⟩ = some (.int .i64 lk) ∧ w'.cell? ⟨g, 3, none⟩ = some (.int .i64 ln0) ∧ w'.cell? ⟨g, 4, none⟩ = some (.string lt) ∧ w'.cell? ⟨g, 5, none⟩ = some (.int .i64 gk) ∧ w'.cell? ⟨g, 6, none⟩ = some (.int .i64 gn) ∧ w'.cell? ⟨g, 7, none⟩ = some (.string gt)))
 clear hrow
 have S1 := Lib.hid (show Sl.Sep w _ [_] from L4.push_box (Sl.Sep.start w) 40 #[.int .i64 kd, .int .i64 n, .string t, .slice ia ln ic] (w.heap.size) (by simp))
 obtain ⟨wa, hwa⟩ : ∃ u, u = (w.alloc (.cells #[.int .i64 kd, .int .i64 n, .string t, .slice ia ln ic] 40)) := ⟨_, rfl⟩
 rw [← hwa] at S1
 go_enter Try.func105, Try.ntmps105
 go_upto_region 1 with fail
 rw [← hwa]
 clear hwa
 obtain ⟨f0, f1, f2, f3⟩ := Bag.cs4 S1.out 0 rfl
 obtain ⟨f4, f5, f6, f7, f8, f9, f10, f11⟩ := HK.out _ S1.out.old
 go_wp2_with fail
 go_at_call 106
 refine (HIN.out _).mono ?_
 rintro e w1 ⟨rfl, hb⟩
 clear f0 f1 f2 f3 f4 f5 f6 f7 f8 f9 f10 f11
 have S2 := Lib.hid (S1.out.keep hb)
 clear S1
 clear hb
 obtain ⟨f0, f1, f2, f3⟩ := Bag.cs4 S2.out 0 rfl
 obtain ⟨f4, f5, f6, f7, f8, f9, f10, f11⟩ := HK.out _ S2.out.old
 go_wp2_with fail
 go_ret
 exact ⟨rfl, S2.out.old⟩
set_option maxHeartbeats 8000000 in
theorem deleteItems_any (y : LS) (r : R) (hf : FitS y.con) (hr1 : r.lo.text.size ≤ 281474976710656) (hr2 : r.hi.text.size ≤ 281474976710656) (w : World) (hr : RowsRd w w.heap.size y.rows) :
  Calls Try.prog 27 #[y.v, r.v] w (GaveSN w (delS y.con r) (delN y.con r)) := by
 have HR1 := Lib.hid hr1
 have HR2 := Lib.hid hr2
 obtain ⟨rl, rh, ⟨lk, ln, lt⟩, ⟨gk, gn, gt⟩⟩ := r
 unfold L4.R.v
 dsimp only at *
 have HIS := Lib.hid (fun w' (h : Below w.heap.size w w') => isStore_any y hf w' ((hr.below h).more h.size))
 have HCP := Lib.hid (fun w' (h : Below w.heap.size w w') => copyStore_full y hf w' ((hr.below h).more h.size))
 obtain ⟨name, a, c, xs, auto⟩ := y
 have HR := Lib.hid (fun w' (h : Below w.heap.size w w') => LS.outer (hr.below h))
 have HX := Lib.hid (fun w' (h : Below w.heap.size w w') => (LS.inner (hr.below h)).more h.size)
 have HF := Lib.hid hf.items
 have HNM := Lib.hid hf.name
 have hl := hf.len
 simp only [LS.con, conI_length] at hl
 dsimp only [LS.con] at HR HX HF HNM
 try unfold LS.v LS.cells LS.con
 try dsimp only
 obtain ⟨N, hN⟩ : ∃ n, n = xs.length := ⟨_, rfl⟩
 rw [← hN] at hl ⊢
 have hl' : (N : Int) ≤ 1048576 := by omega
 have HN := Lib.hid hN
 clear hN hr hf
 dsimp only [LS.v, LS.cells, LS.con] at HIS HCP
 rw [← HN.out] at HIS HCP
 obtain ⟨bs, hbs⟩ : ∃ b, isS ⟨name, conI xs, auto⟩ = b := ⟨_, rfl⟩
 rw [hbs] at HIS
 have HBS := Lib.hid hbs
 have HD := Lib.hid (show (delS ⟨name, conI xs, auto⟩ ⟨rl, rh, ⟨lk, ln, lt⟩, ⟨gk, gn, gt⟩⟩ = if bs then ⟨name, outI (conI xs) ⟨rl, rh, ⟨lk, ln, lt⟩, ⟨gk, gn, gt⟩⟩, auto⟩ else ⟨name, conI xs, auto⟩) ∧ delN ⟨name, conI xs, auto⟩ ⟨rl, rh, ⟨lk, ln, lt⟩, ⟨gk, gn, gt⟩⟩ = if bs then ((N : Int) - (outI (conI xs) ⟨rl, rh, ⟨lk, ln, lt⟩, ⟨gk, gn, gt⟩⟩).length) else 0 from by unfold delS delN; rw [hbs, HN.out]; simp)
 clear hbs
 have hmf : ∀ (fn : Fn) (first cap : Array Value) (w : World), (Instr.makeFunc fn first cap).run Try.prog w = .ok (.func fn first cap) w := fun _ _ _ _ => rfl
 have S1 := Lib.hid (show Sl.Sep w _ [_, _, _] from L4.push_box (L4.push_box (L4.push_box (Sl.Sep.start w) 26 #[.string name, .slice a N c, .int .i64 auto] (w.heap.size) (by simp)) 45 #[.bool rl, .bool rh, .int .i64 lk, .int .i64 ln, .string lt, .int .i64 gk, .int .i64 gn, .string gt] (w.heap.size + 1) (by simp)) 26 #[.string ⟨#[]⟩, .slice none 0 0, .int .i64 0] (w.heap.size + 1 + 1) (by simp))
 obtain ⟨wa, hwa⟩ : ∃ u, u = (((w.alloc (.cells #[.string name, .slice a N c, .int .i64 auto] 26)).alloc (.cells #[.bool rl, .bool rh, .int .i64 lk, .int .i64 ln, .string lt, .int .i64 gk, .int .i64 gn, .string gt] 45)).alloc (.cells #[.string ⟨#[]⟩, .slice none 0 0, .int .i64 0] 26)) := ⟨_, rfl⟩
 rw [← hwa] at S1
 go_enter Try.func27, Try.ntmps27
 go_upto_region 1 with fail
 rw [← hwa]
 clear hwa
 obtain ⟨f0, f1, f2⟩ := Bag.cs3 S1.out 0 rfl
 obtain ⟨f3, f4, f5, f6, f7, f8, f9, f10⟩ := Bag.cs8 S1.out 1 rfl
 obtain ⟨f11, f12, f13⟩ := Bag.cs3 S1.out 2 rfl
 go_wp2_with fail
 go_at_call 80
 refine (HCP.out _ S1.out.old).mono ?_
 rintro e w1 ⟨g3, ys, rfl, hcon, ho, hb⟩
 clear f0 f1 f2 f3 f4 f5 f6 f7 f8 f9 f10 f11 f12 f13
 have S2 := Lib.hid (show Sl.Sep w _ [_, _, _, Bag.bag (rowI (some ⟨g3, 0, none⟩) ys.length ys :: rowsI ys)] from Bag.push_bag S1.out hb ho)
 clear S1
 clear hb ho
 have HCON := Lib.hid hcon
 clear hcon
 dsimp only at HCON ⊢
 have hyl : ys.length = N := by have h := congrArg List.length HCON.out; simp only [conI_length] at h; rw [h]; exact HN.out.symm
 obtain ⟨f0, f1, f2⟩ := Bag.cs3 S2.out 0 rfl
 obtain ⟨f3, f4, f5, f6, f7, f8, f9, f10⟩ := Bag.cs8 S2.out 1 rfl
 obtain ⟨f11, f12, f13⟩ := Bag.cs3 S2.out 2 rfl
 rw [hyl]
 go_upto_region 2 with fail
 clear f0 f1 f2 f3 f4 f5 f6 f7 f8 f9 f10 f11 f12 f13
 have S3 := Lib.hid (show Sl.Sep w _ [_, _, _, _, _] from L4.push_box S2.out 26 #[.string name, .slice (some ⟨g3, 0, none⟩) N N, .int .i64 auto] w1.heap.size rfl)
 clear S2
 obtain ⟨g1, hg⟩ : ∃ g', g' = w1.heap.size := ⟨_, rfl⟩
 rw [← hg] at S3 ⊢
 clear hg
 generalize w1.alloc (.cells #[.string name, .slice (some ⟨g3, 0, none⟩) N N, .int .i64 auto] 26) = w2 at S3 ⊢
 obtain ⟨f0, f1, f2⟩ := Bag.cs3 S3.out 0 rfl
 obtain ⟨f3, f4, f5, f6, f7, f8, f9, f10⟩ := Bag.cs8 S3.out 1 rfl
 obtain ⟨f11, f12, f13⟩ := Bag.cs3 S3.out 2 rfl
 obtain ⟨f14, f15, f16⟩ := Bag.cs3 S3.out 4 rfl
 go_wp2_with fail
 go_at_call 23
 refine (HIS.out _ S3.out.old).mono ?_
 rintro e w3 ⟨rfl, hb⟩
 clear f0 f1 f2 f3 f4 f5 f6 f7 f8 f9 f10 f11 f12 f13 f14 f15 f16
 have S4 := Lib.hid (S3.out.keep hb)
 clear S3
 clear hb
 obtain ⟨f0, f1, f2⟩ := Bag.cs3 S4.out 0 rfl
 obtain ⟨f3, f4, f5, f6, f7, f8, f9, f10⟩ := Bag.cs8 S4.out 1 rfl
 obtain ⟨f11, f12, f13⟩ := Bag.cs3 S4.out 2 rfl
 obtain ⟨f14, f15, f16⟩ := Bag.cs3 S4.out 4 rfl
 cases bs with
 | false =>
  clear f0 f1 f2 f3 f4 f5 f6 f7 f8 f9 f10 f11 f12 f13 f14 f15 f16
  obtain ⟨f0, f1, f2⟩ := Bag.cs3 S4.out 2 rfl
  obtain ⟨f3, f4, f5⟩ := Bag.cs3 S4.out 4 rfl
  obtain ⟨z0, z1, z2⟩ := Bag.fs3 S4.out 2 rfl
  go_wp2_with fail
  clear f0 f1 f2 f3 f4 f5 z0 z1 z2
  have S5 := Lib.hid (show Sl.Sep w _ [L4.boxR w.heap.size 26 #[.string name, .slice a N c, .int .i64 auto], L4.boxR (w.heap.size + 1) 45 #[.bool rl, .bool rh, .int .i64 lk, .int .i64 ln, .string lt, .int .i64 gk, .int .i64 gn, .string gt], L4.boxR (w.heap.size + 1 + 1) 26 #[.string name, .slice (some ⟨g3, 0, none⟩) N N, .int .i64 auto], Bag.bag (rowI (some ⟨g3, 0, none⟩) ys.length ys :: rowsI ys), L4.boxR g1 26 #[.string name, .slice (some ⟨g3, 0, none⟩) N N, .int .i64 auto]] from L5.put_box5 (L5.put_box5 (L5.put_box5 (S4.out) 2 rfl 0 (.string name)) 2 rfl 1 (.slice (some ⟨g3, 0, none⟩) N N)) 2 rfl 2 (.int .i64 auto))
  clear S4
  obtain ⟨f0, f1, f2⟩ := Bag.cs3 S5.out 2 rfl
  refine bodyPost_ret (v := .tuple #[.agg #[.string name, .slice (some ⟨g3, 0, none⟩) N N, .int .i64 auto], .int .i64 0]) (by simp [results, Try.results27, go_sem, *]) rfl ?_
  have hb := Bag.bag_from S5.out 3 rfl
  exact ⟨⟨name, some ⟨g3, 0, none⟩, N, ys, auto⟩, by rw [HD.out.2]; unfold LS.v LS.cells; dsimp only; rw [hyl]; rfl, by rw [HD.out.1]; unfold LS.con; dsimp only; rw [HCON.out]; rfl, by rw [hyl] at hb; exact hb, S5.out.old⟩
 | true =>
  clear f0 f1 f2 f3 f4 f5 f6 f7 f8 f9 f10 f11 f12 f13 f14 f15 f16
  have S5 := Lib.hid (show Sl.Sep w _ [L4.boxR w.heap.size 26 #[.string name, .slice a N c, .int .i64 auto], L4.boxR (w.heap.size + 1) 45 #[.bool rl, .bool rh, .int .i64 lk, .int .i64 ln, .string lt, .int .i64 gk, .int .i64 gn, .string gt], L4.boxR (w.heap.size + 1 + 1) 26 #[.string ⟨#[]⟩, .slice none 0 0, .int .i64 0], Bag.bag ([rowI (some ⟨g3, 0, none⟩) ys.length ys] ++ rowsI ys), L4.boxR g1 26 #[.string name, .slice (some ⟨g3, 0, none⟩) N N, .int .i64 auto]] from S4.out)
  clear S4
  have S6 := Lib.hid (show Sl.Sep w _ [_, _, _, Bag.bag ([rowI (some ⟨g3, 0, none⟩) ys.length ys]), _, Bag.bag (rowsI ys)] from Bag.bag_split S5.out 3 rfl)
  clear S5
  have S7 := Lib.hid (show Sl.Sep w _ [_, _, _, Sv.ownV 40 4 (some ⟨g3, 0, none⟩) N ys.length (cellsI ys), _, _] from (by have h := Bag.one_of_bag S6.out 3 (r := rowI (some ⟨g3, 0, none⟩) ys.length ys) rfl; unfold RowS.res rowI at h; dsimp only at h; rw [hyl] at h ⊢; exact h))
  clear S6
  have HIT := Lib.hid (show ∀ x ∈ ys, FitI x.con from fun x hx => HF.out _ (by rw [← HCON.out]; exact List.mem_map.2 ⟨x, hx, rfl⟩))
  have hne : w.heap.size + 1 ≠ g3 := fun e => S7.out.apart 1 3 _ _ rfl rfl (by decide) g3 (by rw [← e]; simp [L4.boxR]) (by simp [Sv.ownV, Value.ownBlock])
  have HDF := Lib.hid (deleteFuncI_any g3 (w.heap.size + 1) N (fun x => inR x.k ⟨rl, rh, ⟨lk, ln, lt⟩, ⟨gk, gn, gt⟩⟩) ys (by omega) w w3 (Run.rest_start S7.out 3 rfl) (S7.out.lies 1 _ rfl _ (by simp [L4.boxR])).2 hne (fun x hx w' hsz hb => deleteItems1_any _ _ _ _ _ _ _ _ (HIT.out x hx).text HR1.out HR2.out w' (Nat.lt_of_lt_of_le (S7.out.lies 1 _ rfl _ (by simp [L4.boxR])).2 hsz) (hb.trans (L4.box_at S7.out 1 rfl))))
  rw [hyl] at HDF
  clear hne
  obtain ⟨f0, f1, f2⟩ := Bag.cs3 S7.out 0 rfl
  obtain ⟨f3, f4, f5, f6, f7, f8, f9, f10⟩ := Bag.cs8 S7.out 1 rfl
  obtain ⟨f11, f12, f13⟩ := Bag.cs3 S7.out 2 rfl
  obtain ⟨f14, f15, f16⟩ := Bag.cs3 S7.out 4 rfl
  go_wp2_with fail
  go_at_call 104
  refine HDF.out.mono ?_
  rintro e w5 ⟨zs, rfl, hzs, hS⟩
  clear f0 f1 f2 f3 f4 f5 f6 f7 f8 f9 f10 f11 f12 f13 f14 f15 f16
  obtain ⟨Q, hQ⟩ : ∃ q, q = zs.length := ⟨_, rfl⟩
  rw [← hQ] at hS ⊢
  have S8 := Lib.hid (show Sl.Sep w _ [_, _, _, Sv.ownV 40 4 (some ⟨g3, 0, none⟩) N Q (cellsI zs), _, _] from Run.rest_back S7.out 3 rfl hS)
  clear S7
  have HQ := Lib.hid hQ
  have HZ := Lib.hid hzs
  clear hQ hzs hS HDF
  have HO := Lib.hid (show conI zs = outI (conI xs) ⟨rl, rh, ⟨lk, ln, lt⟩, ⟨gk, gn, gt⟩⟩ from by rw [HZ.out, keptL_con, HCON.out]; rfl)
  have hQN : Q ≤ N := by rw [HQ.out, HZ.out, ← hyl]; exact List.length_filter_le _ _
  have hw1 : IntKind.i64.wrap ((N : Int) - (Q : Int)) = (N : Int) - (Q : Int) := IntWalk.i64_in _ ⟨by omega, by omega⟩
  obtain ⟨f0, f1, f2⟩ := Bag.cs3 S8.out 0 rfl
  obtain ⟨f3, f4, f5, f6, f7, f8, f9, f10⟩ := Bag.cs8 S8.out 1 rfl
  obtain ⟨f11, f12, f13⟩ := Bag.cs3 S8.out 2 rfl
  obtain ⟨f14, f15, f16⟩ := Bag.cs3 S8.out 4 rfl
  obtain ⟨z0, z1, z2⟩ := Bag.fs3 S8.out 4 rfl
  go_upto_region 5 with fail
  clear f0 f1 f2 f3 f4 f5 f6 f7 f8 f9 f10 f11 f12 f13 f14 f15 f16 z0 z1 z2
  have S9 := Lib.hid (show Sl.Sep w _ [_, _, _, _, L4.boxR g1 26 #[.string name, .slice (some ⟨g3, 0, none⟩) Q N, .int .i64 auto], _] from L5.put_box5 (S8.out) 4 rfl 1 (.slice (some ⟨g3, 0, none⟩) Q N))
  clear S8
  refine wp_region_held_drew (S := (fun w' => (w'.cell? ⟨w.heap.size, 0, none⟩ = some (.string name) ∧ w'.cell? ⟨w.heap.size, 1, none⟩ = some (.slice a N c) ∧ w'.cell? ⟨w.heap.size, 2, none⟩ = some (.int .i64 auto)) ∧ (w'.cell? ⟨g1, 0, none⟩ = some (.string name) ∧ w'.cell? ⟨g1, 1, none⟩ = some (.slice (some ⟨g3, 0, none⟩) Q N) ∧ w'.cell? ⟨g1, 2, none⟩ = some (.int .i64 auto)))) (by kernel_rfl) ⟨Bag.cs3 (Bag.drew1 S9.out) 0 rfl, Bag.cs3 (Bag.drew1 S9.out) 4 rfl⟩ (fun hS => ?_)
  have S10 := Lib.hid (Bag.drew1 S9.out)
  clear S9
  generalize World.drew _ = w4 at hS S10 ⊢
  refine tk 0 rfl ?_
  try simp only [zp0, zp1, zp2, zp3, zp4]
  refine tk 1 rfl ?_
  try simp only [zp0, zp1, zp2, zp3, zp4]
  refine tk 2 rfl ?_
  try simp only [zp0, zp1, zp2, zp3, zp4]
  refine tk 3 rfl ?_
  try simp only [zp0, zp1, zp2, zp3, zp4]
  refine tk 4 rfl ?_
  try simp only [zp0, zp1, zp2, zp3, zp4]
  refine tk 5 rfl ?_
  try simp only [zp0, zp1, zp2, zp3, zp4]
  refine tk 6 rfl ?_
  try simp only [zp0, zp1, zp2, zp3, zp4]
  refine tk 7 rfl ?_
  try simp only [zp0, zp1, zp2, zp3, zp4]
  refine Reg.one_op (i := 8) rfl (by kernel_rfl) (fun K hK => ?_)
  obtain ⟨f0, f1, f2⟩ := Bag.cs3 S10.out 2 rfl
  obtain ⟨z0, z1, z2⟩ := Bag.fs3 S10.out 2 rfl
  go_simp
  clear f0 f1 f2 z0 z1 z2
  have S11 := Lib.hid (show Sl.Sep w _ [_, _, L4.boxR (w.heap.size + 1 + 1) 26 #[.string name, .slice (some ⟨g3, 0, none⟩) Q N, .int .i64 auto], _, _, _] from L5.put_box5 (L5.put_box5 (L5.put_box5 (S10.out) 2 rfl 0 (.string name)) 2 rfl 1 (.slice (some ⟨g3, 0, none⟩) Q N)) 2 rfl 2 (.int .i64 auto))
  clear S10
  refine hK.out _ _ ⟨Bag.cs3 S11.out 0 rfl, Bag.cs3 S11.out 4 rfl⟩ (fun hS => ?_)
  clear hK K
  try simp only [zp0, zp1, zp2, zp3, zp4]
  refine tk 9 rfl ?_
  try simp only [zp0, zp1, zp2, zp3, zp4]
  refine wpAnyH_done (by kernel_rfl) ?_ _
  obtain ⟨f0, f1, f2⟩ := Bag.cs3 S11.out 0 rfl
  obtain ⟨f3, f4, f5, f6, f7, f8, f9, f10⟩ := Bag.cs8 S11.out 1 rfl
  obtain ⟨f11, f12, f13⟩ := Bag.cs3 S11.out 2 rfl
  obtain ⟨f14, f15, f16⟩ := Bag.cs3 S11.out 4 rfl
  go_wp2_with fail
  refine bodyPost_ret (v := .tuple #[.agg #[.string name, .slice (some ⟨g3, 0, none⟩) Q N, .int .i64 auto], .int .i64 ((N : Int) - (Q : Int))]) (by simp [results, Try.results27, go_sem, *]) rfl ?_
  clear f0 f1 f2 f3 f4 f5 f6 f7 f8 f9 f10 f11 f12 f13 f14 f15 f16
  have S12 := Lib.hid (show Sl.Sep w _ [_, _, _, _, _, Bag.bag (rowsI zs)] from Bag.bag_sub S11.out 5 rfl (by rw [HZ.out]; exact List.filter_sublist.map _))
  clear S11
  have S13 := Lib.hid (show Sl.Sep w _ [_, _, _, Bag.bag ([rowI (some ⟨g3, 0, none⟩) N zs]), _, _] from Bag.bag_of_one S12.out 3 (r := rowI (some ⟨g3, 0, none⟩) N zs) (by unfold RowS.res rowI; dsimp only; rw [← HQ.out]; rfl))
  clear S12
  have S14 := Lib.hid (show Sl.Sep w _ [_, _, _, Bag.bag ([rowI (some ⟨g3, 0, none⟩) N zs] ++ (rowsI zs)), _, Bag.bag ([])] from Bag.bag_join S13.out 3 5 (by decide) rfl rfl)
  clear S13
  have hl9 : (outI (conI xs) ⟨rl, rh, ⟨lk, ln, lt⟩, ⟨gk, gn, gt⟩⟩).length = Q := by rw [← HO.out, conI_length, HQ.out]
  exact ⟨⟨name, some ⟨g3, 0, none⟩, N, zs, auto⟩, by rw [HD.out.2, hl9, HQ.out]; rfl, by rw [HD.out.1]; unfold LS.con; dsimp only; rw [HO.out]; rfl, Bag.bag_from S14.out 3 rfl, S14.out.old⟩
end Go.Proofs.Ytojcdmgcbgpdmaa.L6

namespace Go.Proofs.Ytojcdmgcbgpdmaa.L6
open L4 (K isK cmpK R inR encU)
open L5 (F isR isN cellsF encR eqR Small)

theorem FitS.set {n : ByteArray} {xs : List It} {u u2 : Int} (h : FitS ⟨n, xs, u⟩) (i : Nat) (z : It) (hz : FitI z) : FitS ⟨n, xs.set i z, u2⟩ :=
 ⟨h.name, by show (xs.set i z).length ≤ _; rw [List.length_set]; exact h.len, fun x hx => by
  rcases List.mem_or_eq_of_mem_set hx with h1 | h1
  ·
   exact h.items x h1
  ·
   rw [h1]; exact hz⟩
end Go.Proofs.Ytojcdmgcbgpdmaa.L6

namespace Go.Proofs.Ytojcdmgcbgpdmaa.L6
open L4 (K isK cmpK R inR encU)
open L5 (F isR isN cellsF encR eqR Small)
theorem FitS_del {s : S6} {r : R} (h : FitS s) : FitS (delS s r) := by
 unfold delS
 split
 ·
  exact ⟨h.name, Nat.le_trans (List.length_filter_le _ _) h.len, fun x hx => h.items x ((List.mem_filter.1 hx).1)⟩
 ·
  exact h
end Go.Proofs.Ytojcdmgcbgpdmaa.L6

