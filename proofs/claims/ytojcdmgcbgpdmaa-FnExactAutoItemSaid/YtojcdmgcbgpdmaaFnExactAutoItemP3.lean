/-
  What the law FnExactAutoItem needs, laid by my program lawpack.py, part 3: the texts L4Im4, L6Ic, L6Id, L6Pm, L6Ie, L6If, L6Lc, one behind the other; each begins with its own words.
-/
import Derived.Test.YtojcdmgcbgpdmaaFnExactAutoItemP2
set_option linter.unusedSimpArgs false
set_option linter.unusedVariables false
set_option maxRecDepth 100000
set_option linter.unusedSimpArgs false
namespace Go.Proofs.Ytojcdmgcbgpdmaa.L4
open Go.Op (bytesLess)
open Go.ChangeShapes Go.WideShapes Go.ChangeAt Go.RowKit Mem Sl Ex L2

theorem step_store_box {P : Program} {ops : Array Oper} {o : Oper} {a : Act} {w : World} {K : Act → World → Prop} {Q : Exit → Act → World → Prop} {E : Prop} (hgd : o.guard = none) (ty : TypeId) (x y : Operand) (ho : o.op = .store ty x y)
  (g : Nat) (t : TypeId) (old cells : Array Value) (hx : a.eval x = .pointer (some ⟨g, 0, none⟩)) (hy : a.eval y = .agg cells) (hr : Row w g t old) (hi : (P.info? ty).map (·.size) = some cells.size) (hold : old.size = cells.size) (h1 : cells.all (·.oneCell') = true)
  (h : ∀ w', Turned [g] w w' → Row w' g t cells → K (a.put o.dst undef) w') : if Region.wanted o (yielded ops a.tmps) = true then Oper.wp P o a w K Q else E := by
 have hw : Region.wanted o (yielded ops a.tmps) = true := by simp [Region.wanted, hgd]
 rw [if_pos hw]
 refine wp_store_row ty x y ho g cells hx hy t old hr hi hold h1 (h _ ⟨rfl, rfl, rfl, by simp [World.setRow], fun b _ hb => setRow_other w g b cells (by simpa using hb)⟩ (setRow_heap w g old cells t (0, 0) hr))
theorem sep_two {W w : World} {a b : Res} {ts : List Res} (h : Sep W w (a :: b :: ts)) : Sep W w [a, b] := by
 have e : ∀ (i : Nat) (r : Res), [a, b][i]? = some r → (a :: b :: ts)[i]? = some r := fun i r hi => by
  match i with
  | 0 => simpa using hi
  | 1 => simpa using hi
  | i + 2 => simp at hi
 exact ⟨h.old, fun i r hi => h.is i r (e i r hi), fun i r hi => h.lies i r (e i r hi), fun i j r s hi hj => h.apart i j r s (e i r hi) (e j s hj)⟩
theorem box6 {w : World} {g : Nat} {t : TypeId} {a0 a1 a2 a3 a4 a5 : Value} (hr : Row w g t #[a0, a1, a2, a3, a4, a5]) : w.cell? ⟨g, 0, none⟩ = some a0 ∧ w.cell? ⟨g, 1, none⟩ = some a1 ∧ w.cell? ⟨g, 2, none⟩ = some a2 ∧ w.cell? ⟨g, 3, none⟩ = some a3 ∧ w.cell? ⟨g, 4, none⟩ = some a4 ∧ w.cell? ⟨g, 5, none⟩ = some a5 := by
 refine ⟨?_, ?_, ?_, ?_, ?_, ?_⟩ <;> (rw [hr.cell]; rfl)
set_option maxHeartbeats 30000000 in
theorem implCompareKeys_any (a b : K) (ha : a.text.size ≤ 281474976710656) (hb : b.text.size ≤ 281474976710656) (w : World) :
  Calls Try.prog 101 #[a.v, b.v] w fun e w' => e = .returned (.int .i64 (cmpK a b)) ∧ Below w.heap.size w w' := by
 have H1 := Lib.hid (fun w => implIsKey_any a ha w)
 have H2 := Lib.hid (fun w => implIsKey_any b hb w)
 obtain ⟨ia, hia⟩ : ∃ x, isK a = x := ⟨_, rfl⟩
 obtain ⟨ib, hib⟩ : ∃ x, isK b = x := ⟨_, rfl⟩
 rw [hia] at H1
 rw [hib] at H2
 obtain ⟨ka, na, sa⟩ := a
 obtain ⟨kb, nb, sb⟩ := b
 have S0 := Sl.Sep.start w
 have S1 := L4.push_box S0 28 #[.int .i64 ka, .int .i64 na, .string sa] (w.heap.size) (by simp)
 clear S0
 have S2 := L4.push_box S1 28 #[.int .i64 kb, .int .i64 nb, .string sb] (w.heap.size + 1) (by simp)
 clear S1
 unfold K.v at H1 H2 ⊢
 go_enter Try.func101, Try.ntmps101
 go_wp2_with fail
 go_at_call 99
 refine (H1.out _).mono ?_
 rintro e w3 ⟨rfl, h3⟩
 have S3 := S2.keep h3
 clear S2 h3
 obtain ⟨f0_0, f0_1, f0_2⟩ := L4.box3 S3 0 rfl
 obtain ⟨f1_0, f1_1, f1_2⟩ := L4.box3 S3 1 rfl
 cases ia with
 | false =>
  go_wp2_with fail
  go_ret
  exact ⟨by rw [cmpK_bad1 hia]; rfl, S3.old⟩
 | true =>
  go_wp2_with fail
  go_at_call 99
  refine (H2.out _).mono ?_
  rintro e w4 ⟨rfl, h4⟩
  have S4 := S3.keep h4
  clear S3 h4 f0_0 f0_1 f0_2 f1_0 f1_1 f1_2
  obtain ⟨f0_0, f0_1, f0_2⟩ := L4.box3 S4 0 rfl
  obtain ⟨f1_0, f1_1, f1_2⟩ := L4.box3 S4 1 rfl
  cases ib with
  | false =>
   go_wp2_with fail
   go_ret
   exact ⟨by rw [cmpK_bad2 hib]; rfl, S4.old⟩
  | true =>
   have ga := isK_iff.1 hia
   have gb := isK_iff.1 hib
   by_cases hk : ka = kb
   ·
    obtain ⟨ma, hma⟩ : ∃ m : Nat, (m : Int) = na + 1000000000000 := ⟨(na + 1000000000000).toNat, by have := ga.n0; simp only at this; omega⟩
    obtain ⟨mb, hmb⟩ : ∃ m : Nat, (m : Int) = nb + 1000000000000 := ⟨(nb + 1000000000000).toNat, by have := gb.n0; simp only at this; omega⟩
    have HA := Lib.hid (fun w => encodeNumber_any na ma hma ga.n1 w)
    have HB := Lib.hid (fun w => encodeNumber_any nb mb hmb gb.n1 w)
    obtain ⟨x0, x1, x2, x3, x4, x5, hxc, hxl⟩ := numCells_form ma
    obtain ⟨y0, y1, y2, y3, y4, y5, hyc, hyl⟩ := numCells_form mb
    rw [hxc] at HA
    rw [hyc] at HB
    have HE1 := Lib.hid (fun (hn : na = nb) => cmpK_t hia hib hk hn)
    have HE2 := Lib.hid (fun (hn : ¬ na = nb) => cmpK_n hia hib hk hn)
    have HM := Lib.hid (And.intro hma (And.intro hmb (And.intro hxl hyl)))
    have HM2 := Lib.hid (show na ≤ 1000000000000 ∧ nb ≤ 1000000000000 from ⟨ga.n1, gb.n1⟩)
    subst hk
    clear hia hib ga gb hxc hyc hma hmb hxl hyl
    go_upto_region 5 with fail
    go_cut [5, 6] (fun p q wx => ∃ g1 g2, p = .pointer (some ⟨g1, 0, none⟩) ∧ q = .pointer (some ⟨g2, 0, none⟩) ∧ Hid (Row wx g1 190 #[.int .u8 x0, .int .u8 x1, .int .u8 x2, .int .u8 x3, .int .u8 x4, .int .u8 x5] ∧ Row wx g2 190 #[.int .u8 y0, .int .u8 y1, .int .u8 y2, .int .u8 y3, .int .u8 y4, .int .u8 y5] ∧ Sep w wx [boxR w.heap.size 28 #[.int .i64 ka, .int .i64 na, .string sa], boxR (w.heap.size + 1) 28 #[.int .i64 ka, .int .i64 nb, .string sb]]))
    case first =>
     refine wp_region_held_drew (S := fun w' => w'.cell? ⟨w.heap.size, 1, none⟩ = some (.int .i64 na) ∧ w'.cell? ⟨w.heap.size + 1, 1, none⟩ = some (.int .i64 nb)) (by kernel_rfl) ⟨f0_1, f1_1⟩ (fun hS => ?_)
     have S4d : Sep w w4.drew _ := S4.drews 1
     clear f0_0 f0_1 f0_2 f1_0 f1_1 f1_2 S4
     generalize w4.drew = wd at hS S4d ⊢
     refine wpAnyH_take (i := 0) (v := ?_) rfl (by kernel_rfl) (by kernel_rfl) (by kernel_rfl) (fun _ _ _ h => h) (Or.inl ⟨by rfl, ?_⟩) (by assumption) ?_
     rotate_left
     ·
      (intro w hSw; (try dsimp only at hSw); go_simp; try with_reducible rfl)
     try simp only [zp0, zp1, zp2, zp3, zp4]
     refine wpAnyH_take (i := 1) (v := ?_) rfl (by kernel_rfl) (by kernel_rfl) (by kernel_rfl) (fun _ _ _ h => h) (Or.inl ⟨by rfl, ?_⟩) (by assumption) ?_
     rotate_left
     ·
      (intro w hSw; (try dsimp only at hSw); go_simp; try with_reducible rfl)
     try simp only [zp0, zp1, zp2, zp3, zp4]
     refine wpAnyH_take (i := 3) (v := ?_) rfl (by kernel_rfl) (by kernel_rfl) (by kernel_rfl) (fun _ _ _ h => h) (Or.inl ⟨by rfl, ?_⟩) (by assumption) ?_
     rotate_left
     ·
      (intro w hSw; (try dsimp only at hSw); go_simp; try with_reducible rfl)
     try simp only [zp0, zp1, zp2, zp3, zp4]
     refine wpAnyH_take (i := 4) (v := ?_) rfl (by kernel_rfl) (by kernel_rfl) (by kernel_rfl) (fun _ _ _ h => h) (Or.inl ⟨by rfl, ?_⟩) (by assumption) ?_
     rotate_left
     ·
      (intro w hSw; (try dsimp only at hSw); go_simp; try with_reducible rfl)
     try simp only [zp0, zp1, zp2, zp3, zp4]
     refine wpAnyH_ready (rs := [2, 6, 7]) (by kernel_rfl) (by simp) ?_
     refine AllReadyH.cons rfl (fun K hK => ?_) ?_
     ·
      go_simp
      go_at_call 174
      refine (HA.out _).mono ?_
      rintro e w1x ⟨rfl, hb⟩
      have S1x := Sl.Sep.keep S4d hb
      clear hb S4d
      go_wp2_with fail
      refine hK.out _ _ ⟨(box3 S1x 0 rfl).2.1, (box3 S1x 1 rfl).2.1⟩ (fun hS => ?_)
      clear hK K
      try simp only [zp0, zp1, zp2, zp3, zp4]
      refine wpAnyH_ready (rs := [5, 6, 7]) (by kernel_rfl) (by simp) ?_
      refine AllReadyH.cons rfl (fun K hK => ?_) ?_
      ·
       go_simp
       go_at_call 174
       refine (HB.out _).mono ?_
       rintro e w2x ⟨rfl, hb⟩
       have S2x := Sl.Sep.keep S1x hb
       clear hb S1x
       go_wp2_with fail
       refine hK.out _ _ ⟨(box3 S2x 0 rfl).2.1, (box3 S2x 1 rfl).2.1⟩ (fun hS => ?_)
       clear hK K
       try simp only [zp0, zp1, zp2, zp3, zp4]
       refine wpAnyH_ready (rs := [6, 7]) (by kernel_rfl) (by simp) ?_
       refine AllReadyH.cons rfl (fun K hK => ?_) ?_
       ·
        have S3x := push_box S2x 190 #[.int .u8 0, .int .u8 0, .int .u8 0, .int .u8 0, .int .u8 0, .int .u8 0] w2x.heap.size rfl
        go_simp
        refine hK.out _ _ ⟨(box3 S3x 0 rfl).2.1, (box3 S3x 1 rfl).2.1⟩ (fun hS => ?_)
        clear hK K
        try simp only [zp0, zp1, zp2, zp3, zp4]
        generalize w2x.alloc (.cells #[.int .u8 0, .int .u8 0, .int .u8 0, .int .u8 0, .int .u8 0, .int .u8 0] 190) = w3x at hS S3x ⊢
        refine wpAnyH_ready (rs := [7]) (by kernel_rfl) (by simp) ?_
        refine AllReadyH.cons rfl (fun K hK => ?_) ?_
        ·
         have S4x := push_box S3x 190 #[.int .u8 0, .int .u8 0, .int .u8 0, .int .u8 0, .int .u8 0, .int .u8 0] w3x.heap.size rfl
         go_simp
         refine hK.out _ _ ⟨(box3 S4x 0 rfl).2.1, (box3 S4x 1 rfl).2.1⟩ (fun hS => ?_)
         clear hK K
         try simp only [zp0, zp1, zp2, zp3, zp4]
         generalize w3x.alloc (.cells #[.int .u8 0, .int .u8 0, .int .u8 0, .int .u8 0, .int .u8 0, .int .u8 0] 190) = w4x at hS S4x ⊢
         refine wpAnyH_ready (rs := [8]) (by kernel_rfl) (by simp) ?_
         refine AllReadyH.cons rfl (fun K hK => ?_) ?_
         ·
          refine step_store_box rfl 190 (.tmp 5) (.tmp 27) rfl w2x.heap.size 190 #[.int .u8 0, .int .u8 0, .int .u8 0, .int .u8 0, .int .u8 0, .int .u8 0] #[.int .u8 x0, .int .u8 x1, .int .u8 x2, .int .u8 x3, .int .u8 x4, .int .u8 x5] rfl rfl (box_at S4x 2 rfl) (by kernel_rfl) rfl (by simp [Value.oneCell']) ?_
          intro w5x ht hr
          have S5x := Sl.Sep.put (r' := boxR w2x.heap.size 190 #[.int .u8 x0, .int .u8 x1, .int .u8 x2, .int .u8 x3, .int .u8 x4, .int .u8 x5]) S4x 2 rfl ht hr (fun b hb => hb)
          clear ht hr
          refine hK.out _ _ ⟨(box3 S5x 0 rfl).2.1, (box3 S5x 1 rfl).2.1⟩ (fun hS => ?_)
          clear hK K
          try simp only [zp0, zp1, zp2, zp3, zp4]
          refine wpAnyH_ready (rs := [9]) (by kernel_rfl) (by simp) ?_
          refine AllReadyH.cons rfl (fun K hK => ?_) ?_
          ·
           refine step_store_box rfl 190 (.tmp 6) (.tmp 30) rfl w3x.heap.size 190 #[.int .u8 0, .int .u8 0, .int .u8 0, .int .u8 0, .int .u8 0, .int .u8 0] #[.int .u8 y0, .int .u8 y1, .int .u8 y2, .int .u8 y3, .int .u8 y4, .int .u8 y5] rfl rfl (box_at S5x 3 rfl) (by kernel_rfl) rfl (by simp [Value.oneCell']) ?_
           intro w6x ht hr
           have S6x := Sl.Sep.put (r' := boxR w3x.heap.size 190 #[.int .u8 y0, .int .u8 y1, .int .u8 y2, .int .u8 y3, .int .u8 y4, .int .u8 y5]) S5x 3 rfl ht hr (fun b hb => hb)
           clear ht hr
           refine hK.out _ _ ⟨(box3 S6x 0 rfl).2.1, (box3 S6x 1 rfl).2.1⟩ (fun hS => ?_)
           clear hK K
           try simp only [zp0, zp1, zp2, zp3, zp4]
           refine wpAnyH_done (by kernel_rfl) ?_ _
           go_wp2_with fail
           go_meet
           case rel => exact ⟨_, _, rfl, rfl, And.intro (box_at S6x 2 rfl) (And.intro (box_at S6x 3 rfl) (sep_two S6x))⟩
          exact AllReadyH.nil
         exact AllReadyH.nil
        exact AllReadyH.nil
       refine AllReadyH.cons rfl (fun K hK => ?_) ?_
       ·
        have S7x := push_box S2x 190 #[.int .u8 0, .int .u8 0, .int .u8 0, .int .u8 0, .int .u8 0, .int .u8 0] w2x.heap.size rfl
        go_simp
        refine hK.out _ _ ⟨(box3 S7x 0 rfl).2.1, (box3 S7x 1 rfl).2.1⟩ (fun hS => ?_)
        clear hK K
        try simp only [zp0, zp1, zp2, zp3, zp4]
        generalize w2x.alloc (.cells #[.int .u8 0, .int .u8 0, .int .u8 0, .int .u8 0, .int .u8 0, .int .u8 0] 190) = w7x at hS S7x ⊢
        refine wpAnyH_ready (rs := [6]) (by kernel_rfl) (by simp) ?_
        refine AllReadyH.cons rfl (fun K hK => ?_) ?_
        ·
         have S8x := push_box S7x 190 #[.int .u8 0, .int .u8 0, .int .u8 0, .int .u8 0, .int .u8 0, .int .u8 0] w7x.heap.size rfl
         go_simp
         refine hK.out _ _ ⟨(box3 S8x 0 rfl).2.1, (box3 S8x 1 rfl).2.1⟩ (fun hS => ?_)
         clear hK K
         try simp only [zp0, zp1, zp2, zp3, zp4]
         generalize w7x.alloc (.cells #[.int .u8 0, .int .u8 0, .int .u8 0, .int .u8 0, .int .u8 0, .int .u8 0] 190) = w8x at hS S8x ⊢
         refine wpAnyH_ready (rs := [8]) (by kernel_rfl) (by simp) ?_
         refine AllReadyH.cons rfl (fun K hK => ?_) ?_
         ·
          refine step_store_box rfl 190 (.tmp 5) (.tmp 27) rfl w7x.heap.size 190 #[.int .u8 0, .int .u8 0, .int .u8 0, .int .u8 0, .int .u8 0, .int .u8 0] #[.int .u8 x0, .int .u8 x1, .int .u8 x2, .int .u8 x3, .int .u8 x4, .int .u8 x5] rfl rfl (box_at S8x 3 rfl) (by kernel_rfl) rfl (by simp [Value.oneCell']) ?_
          intro w9x ht hr
          have S9x := Sl.Sep.put (r' := boxR w7x.heap.size 190 #[.int .u8 x0, .int .u8 x1, .int .u8 x2, .int .u8 x3, .int .u8 x4, .int .u8 x5]) S8x 3 rfl ht hr (fun b hb => hb)
          clear ht hr
          refine hK.out _ _ ⟨(box3 S9x 0 rfl).2.1, (box3 S9x 1 rfl).2.1⟩ (fun hS => ?_)
          clear hK K
          try simp only [zp0, zp1, zp2, zp3, zp4]
          refine wpAnyH_ready (rs := [9]) (by kernel_rfl) (by simp) ?_
          refine AllReadyH.cons rfl (fun K hK => ?_) ?_
          ·
           refine step_store_box rfl 190 (.tmp 6) (.tmp 30) rfl w2x.heap.size 190 #[.int .u8 0, .int .u8 0, .int .u8 0, .int .u8 0, .int .u8 0, .int .u8 0] #[.int .u8 y0, .int .u8 y1, .int .u8 y2, .int .u8 y3, .int .u8 y4, .int .u8 y5] rfl rfl (box_at S9x 2 rfl) (by kernel_rfl) rfl (by simp [Value.oneCell']) ?_
           intro w10x ht hr
           have S10x := Sl.Sep.put (r' := boxR w2x.heap.size 190 #[.int .u8 y0, .int .u8 y1, .int .u8 y2, .int .u8 y3, .int .u8 y4, .int .u8 y5]) S9x 2 rfl ht hr (fun b hb => hb)
           clear ht hr
           refine hK.out _ _ ⟨(box3 S10x 0 rfl).2.1, (box3 S10x 1 rfl).2.1⟩ (fun hS => ?_)
           clear hK K
           try simp only [zp0, zp1, zp2, zp3, zp4]
           refine wpAnyH_done (by kernel_rfl) ?_ _
           go_wp2_with fail
           go_meet
           case rel => exact ⟨_, _, rfl, rfl, And.intro (box_at S10x 3 rfl) (And.intro (box_at S10x 2 rfl) (sep_two S10x))⟩
          exact AllReadyH.nil
         exact AllReadyH.nil
        exact AllReadyH.nil
       exact AllReadyH.nil
      refine AllReadyH.cons rfl (fun K hK => ?_) ?_
      ·
       have S11x := push_box S1x 190 #[.int .u8 0, .int .u8 0, .int .u8 0, .int .u8 0, .int .u8 0, .int .u8 0] w1x.heap.size rfl
       go_simp
       refine hK.out _ _ ⟨(box3 S11x 0 rfl).2.1, (box3 S11x 1 rfl).2.1⟩ (fun hS => ?_)
       clear hK K
       try simp only [zp0, zp1, zp2, zp3, zp4]
       generalize w1x.alloc (.cells #[.int .u8 0, .int .u8 0, .int .u8 0, .int .u8 0, .int .u8 0, .int .u8 0] 190) = w11x at hS S11x ⊢
       refine wpAnyH_ready (rs := [5, 7]) (by kernel_rfl) (by simp) ?_
       refine AllReadyH.cons rfl (fun K hK => ?_) ?_
       ·
        go_simp
        go_at_call 174
        refine (HB.out _).mono ?_
        rintro e w12x ⟨rfl, hb⟩
        have S12x := Sl.Sep.keep S11x hb
        clear hb S11x
        go_wp2_with fail
        refine hK.out _ _ ⟨(box3 S12x 0 rfl).2.1, (box3 S12x 1 rfl).2.1⟩ (fun hS => ?_)
        clear hK K
        try simp only [zp0, zp1, zp2, zp3, zp4]
        refine wpAnyH_ready (rs := [7]) (by kernel_rfl) (by simp) ?_
        refine AllReadyH.cons rfl (fun K hK => ?_) ?_
        ·
         have S13x := push_box S12x 190 #[.int .u8 0, .int .u8 0, .int .u8 0, .int .u8 0, .int .u8 0, .int .u8 0] w12x.heap.size rfl
         go_simp
         refine hK.out _ _ ⟨(box3 S13x 0 rfl).2.1, (box3 S13x 1 rfl).2.1⟩ (fun hS => ?_)
         clear hK K
         try simp only [zp0, zp1, zp2, zp3, zp4]
         generalize w12x.alloc (.cells #[.int .u8 0, .int .u8 0, .int .u8 0, .int .u8 0, .int .u8 0, .int .u8 0] 190) = w13x at hS S13x ⊢
         refine wpAnyH_ready (rs := [8]) (by kernel_rfl) (by simp) ?_
         refine AllReadyH.cons rfl (fun K hK => ?_) ?_
         ·
          refine step_store_box rfl 190 (.tmp 5) (.tmp 27) rfl w1x.heap.size 190 #[.int .u8 0, .int .u8 0, .int .u8 0, .int .u8 0, .int .u8 0, .int .u8 0] #[.int .u8 x0, .int .u8 x1, .int .u8 x2, .int .u8 x3, .int .u8 x4, .int .u8 x5] rfl rfl (box_at S13x 2 rfl) (by kernel_rfl) rfl (by simp [Value.oneCell']) ?_
          intro w14x ht hr
          have S14x := Sl.Sep.put (r' := boxR w1x.heap.size 190 #[.int .u8 x0, .int .u8 x1, .int .u8 x2, .int .u8 x3, .int .u8 x4, .int .u8 x5]) S13x 2 rfl ht hr (fun b hb => hb)
          clear ht hr
          refine hK.out _ _ ⟨(box3 S14x 0 rfl).2.1, (box3 S14x 1 rfl).2.1⟩ (fun hS => ?_)
          clear hK K
          try simp only [zp0, zp1, zp2, zp3, zp4]
          refine wpAnyH_ready (rs := [9]) (by kernel_rfl) (by simp) ?_
          refine AllReadyH.cons rfl (fun K hK => ?_) ?_
          ·
           refine step_store_box rfl 190 (.tmp 6) (.tmp 30) rfl w12x.heap.size 190 #[.int .u8 0, .int .u8 0, .int .u8 0, .int .u8 0, .int .u8 0, .int .u8 0] #[.int .u8 y0, .int .u8 y1, .int .u8 y2, .int .u8 y3, .int .u8 y4, .int .u8 y5] rfl rfl (box_at S14x 3 rfl) (by kernel_rfl) rfl (by simp [Value.oneCell']) ?_
           intro w15x ht hr
           have S15x := Sl.Sep.put (r' := boxR w12x.heap.size 190 #[.int .u8 y0, .int .u8 y1, .int .u8 y2, .int .u8 y3, .int .u8 y4, .int .u8 y5]) S14x 3 rfl ht hr (fun b hb => hb)
           clear ht hr
           refine hK.out _ _ ⟨(box3 S15x 0 rfl).2.1, (box3 S15x 1 rfl).2.1⟩ (fun hS => ?_)
           clear hK K
           try simp only [zp0, zp1, zp2, zp3, zp4]
           refine wpAnyH_done (by kernel_rfl) ?_ _
           go_wp2_with fail
           go_meet
           case rel => exact ⟨_, _, rfl, rfl, And.intro (box_at S15x 2 rfl) (And.intro (box_at S15x 3 rfl) (sep_two S15x))⟩
          exact AllReadyH.nil
         exact AllReadyH.nil
        exact AllReadyH.nil
       refine AllReadyH.cons rfl (fun K hK => ?_) ?_
       ·
        have S16x := push_box S11x 190 #[.int .u8 0, .int .u8 0, .int .u8 0, .int .u8 0, .int .u8 0, .int .u8 0] w11x.heap.size rfl
        go_simp
        refine hK.out _ _ ⟨(box3 S16x 0 rfl).2.1, (box3 S16x 1 rfl).2.1⟩ (fun hS => ?_)
        clear hK K
        try simp only [zp0, zp1, zp2, zp3, zp4]
        generalize w11x.alloc (.cells #[.int .u8 0, .int .u8 0, .int .u8 0, .int .u8 0, .int .u8 0, .int .u8 0] 190) = w16x at hS S16x ⊢
        refine wpAnyH_ready (rs := [5]) (by kernel_rfl) (by simp) ?_
        refine AllReadyH.cons rfl (fun K hK => ?_) ?_
        ·
         go_simp
         go_at_call 174
         refine (HB.out _).mono ?_
         rintro e w17x ⟨rfl, hb⟩
         have S17x := Sl.Sep.keep S16x hb
         clear hb S16x
         go_wp2_with fail
         refine hK.out _ _ ⟨(box3 S17x 0 rfl).2.1, (box3 S17x 1 rfl).2.1⟩ (fun hS => ?_)
         clear hK K
         try simp only [zp0, zp1, zp2, zp3, zp4]
         refine wpAnyH_ready (rs := [8]) (by kernel_rfl) (by simp) ?_
         refine AllReadyH.cons rfl (fun K hK => ?_) ?_
         ·
          refine step_store_box rfl 190 (.tmp 5) (.tmp 27) rfl w1x.heap.size 190 #[.int .u8 0, .int .u8 0, .int .u8 0, .int .u8 0, .int .u8 0, .int .u8 0] #[.int .u8 x0, .int .u8 x1, .int .u8 x2, .int .u8 x3, .int .u8 x4, .int .u8 x5] rfl rfl (box_at S17x 2 rfl) (by kernel_rfl) rfl (by simp [Value.oneCell']) ?_
          intro w18x ht hr
          have S18x := Sl.Sep.put (r' := boxR w1x.heap.size 190 #[.int .u8 x0, .int .u8 x1, .int .u8 x2, .int .u8 x3, .int .u8 x4, .int .u8 x5]) S17x 2 rfl ht hr (fun b hb => hb)
          clear ht hr
          refine hK.out _ _ ⟨(box3 S18x 0 rfl).2.1, (box3 S18x 1 rfl).2.1⟩ (fun hS => ?_)
          clear hK K
          try simp only [zp0, zp1, zp2, zp3, zp4]
          refine wpAnyH_ready (rs := [9]) (by kernel_rfl) (by simp) ?_
          refine AllReadyH.cons rfl (fun K hK => ?_) ?_
          ·
           refine step_store_box rfl 190 (.tmp 6) (.tmp 30) rfl w11x.heap.size 190 #[.int .u8 0, .int .u8 0, .int .u8 0, .int .u8 0, .int .u8 0, .int .u8 0] #[.int .u8 y0, .int .u8 y1, .int .u8 y2, .int .u8 y3, .int .u8 y4, .int .u8 y5] rfl rfl (box_at S18x 3 rfl) (by kernel_rfl) rfl (by simp [Value.oneCell']) ?_
           intro w19x ht hr
           have S19x := Sl.Sep.put (r' := boxR w11x.heap.size 190 #[.int .u8 y0, .int .u8 y1, .int .u8 y2, .int .u8 y3, .int .u8 y4, .int .u8 y5]) S18x 3 rfl ht hr (fun b hb => hb)
           clear ht hr
           refine hK.out _ _ ⟨(box3 S19x 0 rfl).2.1, (box3 S19x 1 rfl).2.1⟩ (fun hS => ?_)
           clear hK K
           try simp only [zp0, zp1, zp2, zp3, zp4]
           refine wpAnyH_done (by kernel_rfl) ?_ _
           go_wp2_with fail
           go_meet
           case rel => exact ⟨_, _, rfl, rfl, And.intro (box_at S19x 2 rfl) (And.intro (box_at S19x 3 rfl) (sep_two S19x))⟩
          exact AllReadyH.nil
         exact AllReadyH.nil
        exact AllReadyH.nil
       exact AllReadyH.nil
      refine AllReadyH.cons rfl (fun K hK => ?_) ?_
      ·
       have S20x := push_box S1x 190 #[.int .u8 0, .int .u8 0, .int .u8 0, .int .u8 0, .int .u8 0, .int .u8 0] w1x.heap.size rfl
       go_simp
       refine hK.out _ _ ⟨(box3 S20x 0 rfl).2.1, (box3 S20x 1 rfl).2.1⟩ (fun hS => ?_)
       clear hK K
       try simp only [zp0, zp1, zp2, zp3, zp4]
       generalize w1x.alloc (.cells #[.int .u8 0, .int .u8 0, .int .u8 0, .int .u8 0, .int .u8 0, .int .u8 0] 190) = w20x at hS S20x ⊢
       refine wpAnyH_ready (rs := [5, 6]) (by kernel_rfl) (by simp) ?_
       refine AllReadyH.cons rfl (fun K hK => ?_) ?_
       ·
        go_simp
        go_at_call 174
        refine (HB.out _).mono ?_
        rintro e w21x ⟨rfl, hb⟩
        have S21x := Sl.Sep.keep S20x hb
        clear hb S20x
        go_wp2_with fail
        refine hK.out _ _ ⟨(box3 S21x 0 rfl).2.1, (box3 S21x 1 rfl).2.1⟩ (fun hS => ?_)
        clear hK K
        try simp only [zp0, zp1, zp2, zp3, zp4]
        refine wpAnyH_ready (rs := [6]) (by kernel_rfl) (by simp) ?_
        refine AllReadyH.cons rfl (fun K hK => ?_) ?_
        ·
         have S22x := push_box S21x 190 #[.int .u8 0, .int .u8 0, .int .u8 0, .int .u8 0, .int .u8 0, .int .u8 0] w21x.heap.size rfl
         go_simp
         refine hK.out _ _ ⟨(box3 S22x 0 rfl).2.1, (box3 S22x 1 rfl).2.1⟩ (fun hS => ?_)
         clear hK K
         try simp only [zp0, zp1, zp2, zp3, zp4]
         generalize w21x.alloc (.cells #[.int .u8 0, .int .u8 0, .int .u8 0, .int .u8 0, .int .u8 0, .int .u8 0] 190) = w22x at hS S22x ⊢
         refine wpAnyH_ready (rs := [8]) (by kernel_rfl) (by simp) ?_
         refine AllReadyH.cons rfl (fun K hK => ?_) ?_
         ·
          refine step_store_box rfl 190 (.tmp 5) (.tmp 27) rfl w21x.heap.size 190 #[.int .u8 0, .int .u8 0, .int .u8 0, .int .u8 0, .int .u8 0, .int .u8 0] #[.int .u8 x0, .int .u8 x1, .int .u8 x2, .int .u8 x3, .int .u8 x4, .int .u8 x5] rfl rfl (box_at S22x 3 rfl) (by kernel_rfl) rfl (by simp [Value.oneCell']) ?_
          intro w23x ht hr
          have S23x := Sl.Sep.put (r' := boxR w21x.heap.size 190 #[.int .u8 x0, .int .u8 x1, .int .u8 x2, .int .u8 x3, .int .u8 x4, .int .u8 x5]) S22x 3 rfl ht hr (fun b hb => hb)
          clear ht hr
          refine hK.out _ _ ⟨(box3 S23x 0 rfl).2.1, (box3 S23x 1 rfl).2.1⟩ (fun hS => ?_)
          clear hK K
          try simp only [zp0, zp1, zp2, zp3, zp4]
          refine wpAnyH_ready (rs := [9]) (by kernel_rfl) (by simp) ?_
          refine AllReadyH.cons rfl (fun K hK => ?_) ?_
          ·
           refine step_store_box rfl 190 (.tmp 6) (.tmp 30) rfl w1x.heap.size 190 #[.int .u8 0, .int .u8 0, .int .u8 0, .int .u8 0, .int .u8 0, .int .u8 0] #[.int .u8 y0, .int .u8 y1, .int .u8 y2, .int .u8 y3, .int .u8 y4, .int .u8 y5] rfl rfl (box_at S23x 2 rfl) (by kernel_rfl) rfl (by simp [Value.oneCell']) ?_
           intro w24x ht hr
           have S24x := Sl.Sep.put (r' := boxR w1x.heap.size 190 #[.int .u8 y0, .int .u8 y1, .int .u8 y2, .int .u8 y3, .int .u8 y4, .int .u8 y5]) S23x 2 rfl ht hr (fun b hb => hb)
           clear ht hr
           refine hK.out _ _ ⟨(box3 S24x 0 rfl).2.1, (box3 S24x 1 rfl).2.1⟩ (fun hS => ?_)
           clear hK K
           try simp only [zp0, zp1, zp2, zp3, zp4]
           refine wpAnyH_done (by kernel_rfl) ?_ _
           go_wp2_with fail
           go_meet
           case rel => exact ⟨_, _, rfl, rfl, And.intro (box_at S24x 3 rfl) (And.intro (box_at S24x 2 rfl) (sep_two S24x))⟩
          exact AllReadyH.nil
         exact AllReadyH.nil
        exact AllReadyH.nil
       refine AllReadyH.cons rfl (fun K hK => ?_) ?_
       ·
        have S25x := push_box S20x 190 #[.int .u8 0, .int .u8 0, .int .u8 0, .int .u8 0, .int .u8 0, .int .u8 0] w20x.heap.size rfl
        go_simp
        refine hK.out _ _ ⟨(box3 S25x 0 rfl).2.1, (box3 S25x 1 rfl).2.1⟩ (fun hS => ?_)
        clear hK K
        try simp only [zp0, zp1, zp2, zp3, zp4]
        generalize w20x.alloc (.cells #[.int .u8 0, .int .u8 0, .int .u8 0, .int .u8 0, .int .u8 0, .int .u8 0] 190) = w25x at hS S25x ⊢
        refine wpAnyH_ready (rs := [5]) (by kernel_rfl) (by simp) ?_
        refine AllReadyH.cons rfl (fun K hK => ?_) ?_
        ·
         go_simp
         go_at_call 174
         refine (HB.out _).mono ?_
         rintro e w26x ⟨rfl, hb⟩
         have S26x := Sl.Sep.keep S25x hb
         clear hb S25x
         go_wp2_with fail
         refine hK.out _ _ ⟨(box3 S26x 0 rfl).2.1, (box3 S26x 1 rfl).2.1⟩ (fun hS => ?_)
         clear hK K
         try simp only [zp0, zp1, zp2, zp3, zp4]
         refine wpAnyH_ready (rs := [8]) (by kernel_rfl) (by simp) ?_
         refine AllReadyH.cons rfl (fun K hK => ?_) ?_
         ·
          refine step_store_box rfl 190 (.tmp 5) (.tmp 27) rfl w20x.heap.size 190 #[.int .u8 0, .int .u8 0, .int .u8 0, .int .u8 0, .int .u8 0, .int .u8 0] #[.int .u8 x0, .int .u8 x1, .int .u8 x2, .int .u8 x3, .int .u8 x4, .int .u8 x5] rfl rfl (box_at S26x 3 rfl) (by kernel_rfl) rfl (by simp [Value.oneCell']) ?_
          intro w27x ht hr
          have S27x := Sl.Sep.put (r' := boxR w20x.heap.size 190 #[.int .u8 x0, .int .u8 x1, .int .u8 x2, .int .u8 x3, .int .u8 x4, .int .u8 x5]) S26x 3 rfl ht hr (fun b hb => hb)
          clear ht hr
          refine hK.out _ _ ⟨(box3 S27x 0 rfl).2.1, (box3 S27x 1 rfl).2.1⟩ (fun hS => ?_)
          clear hK K
          try simp only [zp0, zp1, zp2, zp3, zp4]
          refine wpAnyH_ready (rs := [9]) (by kernel_rfl) (by simp) ?_
          refine AllReadyH.cons rfl (fun K hK => ?_) ?_
          ·
           refine step_store_box rfl 190 (.tmp 6) (.tmp 30) rfl w1x.heap.size 190 #[.int .u8 0, .int .u8 0, .int .u8 0, .int .u8 0, .int .u8 0, .int .u8 0] #[.int .u8 y0, .int .u8 y1, .int .u8 y2, .int .u8 y3, .int .u8 y4, .int .u8 y5] rfl rfl (box_at S27x 2 rfl) (by kernel_rfl) rfl (by simp [Value.oneCell']) ?_
           intro w28x ht hr
           have S28x := Sl.Sep.put (r' := boxR w1x.heap.size 190 #[.int .u8 y0, .int .u8 y1, .int .u8 y2, .int .u8 y3, .int .u8 y4, .int .u8 y5]) S27x 2 rfl ht hr (fun b hb => hb)
           clear ht hr
           refine hK.out _ _ ⟨(box3 S28x 0 rfl).2.1, (box3 S28x 1 rfl).2.1⟩ (fun hS => ?_)
           clear hK K
           try simp only [zp0, zp1, zp2, zp3, zp4]
           refine wpAnyH_done (by kernel_rfl) ?_ _
           go_wp2_with fail
           go_meet
           case rel => exact ⟨_, _, rfl, rfl, And.intro (box_at S28x 3 rfl) (And.intro (box_at S28x 2 rfl) (sep_two S28x))⟩
          exact AllReadyH.nil
         exact AllReadyH.nil
        exact AllReadyH.nil
       exact AllReadyH.nil
      exact AllReadyH.nil
     refine AllReadyH.cons rfl (fun K hK => ?_) ?_
     ·
      have S29x := push_box S4d 190 #[.int .u8 0, .int .u8 0, .int .u8 0, .int .u8 0, .int .u8 0, .int .u8 0] wd.heap.size rfl
      go_simp
      refine hK.out _ _ ⟨(box3 S29x 0 rfl).2.1, (box3 S29x 1 rfl).2.1⟩ (fun hS => ?_)
      clear hK K
      try simp only [zp0, zp1, zp2, zp3, zp4]
      generalize wd.alloc (.cells #[.int .u8 0, .int .u8 0, .int .u8 0, .int .u8 0, .int .u8 0, .int .u8 0] 190) = w29x at hS S29x ⊢
      refine wpAnyH_ready (rs := [2, 7]) (by kernel_rfl) (by simp) ?_
      refine AllReadyH.cons rfl (fun K hK => ?_) ?_
      ·
       go_simp
       go_at_call 174
       refine (HA.out _).mono ?_
       rintro e w30x ⟨rfl, hb⟩
       have S30x := Sl.Sep.keep S29x hb
       clear hb S29x
       go_wp2_with fail
       refine hK.out _ _ ⟨(box3 S30x 0 rfl).2.1, (box3 S30x 1 rfl).2.1⟩ (fun hS => ?_)
       clear hK K
       try simp only [zp0, zp1, zp2, zp3, zp4]
       refine wpAnyH_ready (rs := [5, 7]) (by kernel_rfl) (by simp) ?_
       refine AllReadyH.cons rfl (fun K hK => ?_) ?_
       ·
        go_simp
        go_at_call 174
        refine (HB.out _).mono ?_
        rintro e w31x ⟨rfl, hb⟩
        have S31x := Sl.Sep.keep S30x hb
        clear hb S30x
        go_wp2_with fail
        refine hK.out _ _ ⟨(box3 S31x 0 rfl).2.1, (box3 S31x 1 rfl).2.1⟩ (fun hS => ?_)
        clear hK K
        try simp only [zp0, zp1, zp2, zp3, zp4]
        refine wpAnyH_ready (rs := [7]) (by kernel_rfl) (by simp) ?_
        refine AllReadyH.cons rfl (fun K hK => ?_) ?_
        ·
         have S32x := push_box S31x 190 #[.int .u8 0, .int .u8 0, .int .u8 0, .int .u8 0, .int .u8 0, .int .u8 0] w31x.heap.size rfl
         go_simp
         refine hK.out _ _ ⟨(box3 S32x 0 rfl).2.1, (box3 S32x 1 rfl).2.1⟩ (fun hS => ?_)
         clear hK K
         try simp only [zp0, zp1, zp2, zp3, zp4]
         generalize w31x.alloc (.cells #[.int .u8 0, .int .u8 0, .int .u8 0, .int .u8 0, .int .u8 0, .int .u8 0] 190) = w32x at hS S32x ⊢
         refine wpAnyH_ready (rs := [8]) (by kernel_rfl) (by simp) ?_
         refine AllReadyH.cons rfl (fun K hK => ?_) ?_
         ·
          refine step_store_box rfl 190 (.tmp 5) (.tmp 27) rfl wd.heap.size 190 #[.int .u8 0, .int .u8 0, .int .u8 0, .int .u8 0, .int .u8 0, .int .u8 0] #[.int .u8 x0, .int .u8 x1, .int .u8 x2, .int .u8 x3, .int .u8 x4, .int .u8 x5] rfl rfl (box_at S32x 2 rfl) (by kernel_rfl) rfl (by simp [Value.oneCell']) ?_
          intro w33x ht hr
          have S33x := Sl.Sep.put (r' := boxR wd.heap.size 190 #[.int .u8 x0, .int .u8 x1, .int .u8 x2, .int .u8 x3, .int .u8 x4, .int .u8 x5]) S32x 2 rfl ht hr (fun b hb => hb)
          clear ht hr
          refine hK.out _ _ ⟨(box3 S33x 0 rfl).2.1, (box3 S33x 1 rfl).2.1⟩ (fun hS => ?_)
          clear hK K
          try simp only [zp0, zp1, zp2, zp3, zp4]
          refine wpAnyH_ready (rs := [9]) (by kernel_rfl) (by simp) ?_
          refine AllReadyH.cons rfl (fun K hK => ?_) ?_
          ·
           refine step_store_box rfl 190 (.tmp 6) (.tmp 30) rfl w31x.heap.size 190 #[.int .u8 0, .int .u8 0, .int .u8 0, .int .u8 0, .int .u8 0, .int .u8 0] #[.int .u8 y0, .int .u8 y1, .int .u8 y2, .int .u8 y3, .int .u8 y4, .int .u8 y5] rfl rfl (box_at S33x 3 rfl) (by kernel_rfl) rfl (by simp [Value.oneCell']) ?_
           intro w34x ht hr
           have S34x := Sl.Sep.put (r' := boxR w31x.heap.size 190 #[.int .u8 y0, .int .u8 y1, .int .u8 y2, .int .u8 y3, .int .u8 y4, .int .u8 y5]) S33x 3 rfl ht hr (fun b hb => hb)
           clear ht hr
           refine hK.out _ _ ⟨(box3 S34x 0 rfl).2.1, (box3 S34x 1 rfl).2.1⟩ (fun hS => ?_)
           clear hK K
           try simp only [zp0, zp1, zp2, zp3, zp4]
           refine wpAnyH_done (by kernel_rfl) ?_ _
           go_wp2_with fail
           go_meet
           case rel => exact ⟨_, _, rfl, rfl, And.intro (box_at S34x 2 rfl) (And.intro (box_at S34x 3 rfl) (sep_two S34x))⟩
          exact AllReadyH.nil
         exact AllReadyH.nil
        exact AllReadyH.nil
       refine AllReadyH.cons rfl (fun K hK => ?_) ?_
       ·
        have S35x := push_box S30x 190 #[.int .u8 0, .int .u8 0, .int .u8 0, .int .u8 0, .int .u8 0, .int .u8 0] w30x.heap.size rfl
        go_simp
        refine hK.out _ _ ⟨(box3 S35x 0 rfl).2.1, (box3 S35x 1 rfl).2.1⟩ (fun hS => ?_)
        clear hK K
        try simp only [zp0, zp1, zp2, zp3, zp4]
        generalize w30x.alloc (.cells #[.int .u8 0, .int .u8 0, .int .u8 0, .int .u8 0, .int .u8 0, .int .u8 0] 190) = w35x at hS S35x ⊢
        refine wpAnyH_ready (rs := [5]) (by kernel_rfl) (by simp) ?_
        refine AllReadyH.cons rfl (fun K hK => ?_) ?_
        ·
         go_simp
         go_at_call 174
         refine (HB.out _).mono ?_
         rintro e w36x ⟨rfl, hb⟩
         have S36x := Sl.Sep.keep S35x hb
         clear hb S35x
         go_wp2_with fail
         refine hK.out _ _ ⟨(box3 S36x 0 rfl).2.1, (box3 S36x 1 rfl).2.1⟩ (fun hS => ?_)
         clear hK K
         try simp only [zp0, zp1, zp2, zp3, zp4]
         refine wpAnyH_ready (rs := [8]) (by kernel_rfl) (by simp) ?_
         refine AllReadyH.cons rfl (fun K hK => ?_) ?_
         ·
          refine step_store_box rfl 190 (.tmp 5) (.tmp 27) rfl wd.heap.size 190 #[.int .u8 0, .int .u8 0, .int .u8 0, .int .u8 0, .int .u8 0, .int .u8 0] #[.int .u8 x0, .int .u8 x1, .int .u8 x2, .int .u8 x3, .int .u8 x4, .int .u8 x5] rfl rfl (box_at S36x 2 rfl) (by kernel_rfl) rfl (by simp [Value.oneCell']) ?_
          intro w37x ht hr
          have S37x := Sl.Sep.put (r' := boxR wd.heap.size 190 #[.int .u8 x0, .int .u8 x1, .int .u8 x2, .int .u8 x3, .int .u8 x4, .int .u8 x5]) S36x 2 rfl ht hr (fun b hb => hb)
          clear ht hr
          refine hK.out _ _ ⟨(box3 S37x 0 rfl).2.1, (box3 S37x 1 rfl).2.1⟩ (fun hS => ?_)
          clear hK K
          try simp only [zp0, zp1, zp2, zp3, zp4]
          refine wpAnyH_ready (rs := [9]) (by kernel_rfl) (by simp) ?_
          refine AllReadyH.cons rfl (fun K hK => ?_) ?_
          ·
           refine step_store_box rfl 190 (.tmp 6) (.tmp 30) rfl w30x.heap.size 190 #[.int .u8 0, .int .u8 0, .int .u8 0, .int .u8 0, .int .u8 0, .int .u8 0] #[.int .u8 y0, .int .u8 y1, .int .u8 y2, .int .u8 y3, .int .u8 y4, .int .u8 y5] rfl rfl (box_at S37x 3 rfl) (by kernel_rfl) rfl (by simp [Value.oneCell']) ?_
           intro w38x ht hr
           have S38x := Sl.Sep.put (r' := boxR w30x.heap.size 190 #[.int .u8 y0, .int .u8 y1, .int .u8 y2, .int .u8 y3, .int .u8 y4, .int .u8 y5]) S37x 3 rfl ht hr (fun b hb => hb)
           clear ht hr
           refine hK.out _ _ ⟨(box3 S38x 0 rfl).2.1, (box3 S38x 1 rfl).2.1⟩ (fun hS => ?_)
           clear hK K
           try simp only [zp0, zp1, zp2, zp3, zp4]
           refine wpAnyH_done (by kernel_rfl) ?_ _
           go_wp2_with fail
           go_meet
           case rel => exact ⟨_, _, rfl, rfl, And.intro (box_at S38x 2 rfl) (And.intro (box_at S38x 3 rfl) (sep_two S38x))⟩
          exact AllReadyH.nil
         exact AllReadyH.nil
        exact AllReadyH.nil
       exact AllReadyH.nil
      refine AllReadyH.cons rfl (fun K hK => ?_) ?_
      ·
       have S39x := push_box S29x 190 #[.int .u8 0, .int .u8 0, .int .u8 0, .int .u8 0, .int .u8 0, .int .u8 0] w29x.heap.size rfl
       go_simp
       refine hK.out _ _ ⟨(box3 S39x 0 rfl).2.1, (box3 S39x 1 rfl).2.1⟩ (fun hS => ?_)
       clear hK K
       try simp only [zp0, zp1, zp2, zp3, zp4]
       generalize w29x.alloc (.cells #[.int .u8 0, .int .u8 0, .int .u8 0, .int .u8 0, .int .u8 0, .int .u8 0] 190) = w39x at hS S39x ⊢
       refine wpAnyH_ready (rs := [2]) (by kernel_rfl) (by simp) ?_
       refine AllReadyH.cons rfl (fun K hK => ?_) ?_
       ·
        go_simp
        go_at_call 174
        refine (HA.out _).mono ?_
        rintro e w40x ⟨rfl, hb⟩
        have S40x := Sl.Sep.keep S39x hb
        clear hb S39x
        go_wp2_with fail
        refine hK.out _ _ ⟨(box3 S40x 0 rfl).2.1, (box3 S40x 1 rfl).2.1⟩ (fun hS => ?_)
        clear hK K
        try simp only [zp0, zp1, zp2, zp3, zp4]
        refine wpAnyH_ready (rs := [5]) (by kernel_rfl) (by simp) ?_
        refine AllReadyH.cons rfl (fun K hK => ?_) ?_
        ·
         go_simp
         go_at_call 174
         refine (HB.out _).mono ?_
         rintro e w41x ⟨rfl, hb⟩
         have S41x := Sl.Sep.keep S40x hb
         clear hb S40x
         go_wp2_with fail
         refine hK.out _ _ ⟨(box3 S41x 0 rfl).2.1, (box3 S41x 1 rfl).2.1⟩ (fun hS => ?_)
         clear hK K
         try simp only [zp0, zp1, zp2, zp3, zp4]
         refine wpAnyH_ready (rs := [8]) (by kernel_rfl) (by simp) ?_
         refine AllReadyH.cons rfl (fun K hK => ?_) ?_
         ·
          refine step_store_box rfl 190 (.tmp 5) (.tmp 27) rfl wd.heap.size 190 #[.int .u8 0, .int .u8 0, .int .u8 0, .int .u8 0, .int .u8 0, .int .u8 0] #[.int .u8 x0, .int .u8 x1, .int .u8 x2, .int .u8 x3, .int .u8 x4, .int .u8 x5] rfl rfl (box_at S41x 2 rfl) (by kernel_rfl) rfl (by simp [Value.oneCell']) ?_
          intro w42x ht hr
          have S42x := Sl.Sep.put (r' := boxR wd.heap.size 190 #[.int .u8 x0, .int .u8 x1, .int .u8 x2, .int .u8 x3, .int .u8 x4, .int .u8 x5]) S41x 2 rfl ht hr (fun b hb => hb)
          clear ht hr
          refine hK.out _ _ ⟨(box3 S42x 0 rfl).2.1, (box3 S42x 1 rfl).2.1⟩ (fun hS => ?_)
          clear hK K
          try simp only [zp0, zp1, zp2, zp3, zp4]
          refine wpAnyH_ready (rs := [9]) (by kernel_rfl) (by simp) ?_
          refine AllReadyH.cons rfl (fun K hK => ?_) ?_
          ·
           refine step_store_box rfl 190 (.tmp 6) (.tmp 30) rfl w29x.heap.size 190 #[.int .u8 0, .int .u8 0, .int .u8 0, .int .u8 0, .int .u8 0, .int .u8 0] #[.int .u8 y0, .int .u8 y1, .int .u8 y2, .int .u8 y3, .int .u8 y4, .int .u8 y5] rfl rfl (box_at S42x 3 rfl) (by kernel_rfl) rfl (by simp [Value.oneCell']) ?_
           intro w43x ht hr
           have S43x := Sl.Sep.put (r' := boxR w29x.heap.size 190 #[.int .u8 y0, .int .u8 y1, .int .u8 y2, .int .u8 y3, .int .u8 y4, .int .u8 y5]) S42x 3 rfl ht hr (fun b hb => hb)
           clear ht hr
           refine hK.out _ _ ⟨(box3 S43x 0 rfl).2.1, (box3 S43x 1 rfl).2.1⟩ (fun hS => ?_)
           clear hK K
           try simp only [zp0, zp1, zp2, zp3, zp4]
           refine wpAnyH_done (by kernel_rfl) ?_ _
           go_wp2_with fail
           go_meet
           case rel => exact ⟨_, _, rfl, rfl, And.intro (box_at S43x 2 rfl) (And.intro (box_at S43x 3 rfl) (sep_two S43x))⟩
          exact AllReadyH.nil
         exact AllReadyH.nil
        exact AllReadyH.nil
       exact AllReadyH.nil
      exact AllReadyH.nil
     refine AllReadyH.cons rfl (fun K hK => ?_) ?_
     ·
      have S44x := push_box S4d 190 #[.int .u8 0, .int .u8 0, .int .u8 0, .int .u8 0, .int .u8 0, .int .u8 0] wd.heap.size rfl
      go_simp
      refine hK.out _ _ ⟨(box3 S44x 0 rfl).2.1, (box3 S44x 1 rfl).2.1⟩ (fun hS => ?_)
      clear hK K
      try simp only [zp0, zp1, zp2, zp3, zp4]
      generalize wd.alloc (.cells #[.int .u8 0, .int .u8 0, .int .u8 0, .int .u8 0, .int .u8 0, .int .u8 0] 190) = w44x at hS S44x ⊢
      refine wpAnyH_ready (rs := [2, 6]) (by kernel_rfl) (by simp) ?_
      refine AllReadyH.cons rfl (fun K hK => ?_) ?_
      ·
       go_simp
       go_at_call 174
       refine (HA.out _).mono ?_
       rintro e w45x ⟨rfl, hb⟩
       have S45x := Sl.Sep.keep S44x hb
       clear hb S44x
       go_wp2_with fail
       refine hK.out _ _ ⟨(box3 S45x 0 rfl).2.1, (box3 S45x 1 rfl).2.1⟩ (fun hS => ?_)
       clear hK K
       try simp only [zp0, zp1, zp2, zp3, zp4]
       refine wpAnyH_ready (rs := [5, 6]) (by kernel_rfl) (by simp) ?_
       refine AllReadyH.cons rfl (fun K hK => ?_) ?_
       ·
        go_simp
        go_at_call 174
        refine (HB.out _).mono ?_
        rintro e w46x ⟨rfl, hb⟩
        have S46x := Sl.Sep.keep S45x hb
        clear hb S45x
        go_wp2_with fail
        refine hK.out _ _ ⟨(box3 S46x 0 rfl).2.1, (box3 S46x 1 rfl).2.1⟩ (fun hS => ?_)
        clear hK K
        try simp only [zp0, zp1, zp2, zp3, zp4]
        refine wpAnyH_ready (rs := [6]) (by kernel_rfl) (by simp) ?_
        refine AllReadyH.cons rfl (fun K hK => ?_) ?_
        ·
         have S47x := push_box S46x 190 #[.int .u8 0, .int .u8 0, .int .u8 0, .int .u8 0, .int .u8 0, .int .u8 0] w46x.heap.size rfl
         go_simp
         refine hK.out _ _ ⟨(box3 S47x 0 rfl).2.1, (box3 S47x 1 rfl).2.1⟩ (fun hS => ?_)
         clear hK K
         try simp only [zp0, zp1, zp2, zp3, zp4]
         generalize w46x.alloc (.cells #[.int .u8 0, .int .u8 0, .int .u8 0, .int .u8 0, .int .u8 0, .int .u8 0] 190) = w47x at hS S47x ⊢
         refine wpAnyH_ready (rs := [8]) (by kernel_rfl) (by simp) ?_
         refine AllReadyH.cons rfl (fun K hK => ?_) ?_
         ·
          refine step_store_box rfl 190 (.tmp 5) (.tmp 27) rfl w46x.heap.size 190 #[.int .u8 0, .int .u8 0, .int .u8 0, .int .u8 0, .int .u8 0, .int .u8 0] #[.int .u8 x0, .int .u8 x1, .int .u8 x2, .int .u8 x3, .int .u8 x4, .int .u8 x5] rfl rfl (box_at S47x 3 rfl) (by kernel_rfl) rfl (by simp [Value.oneCell']) ?_
          intro w48x ht hr
          have S48x := Sl.Sep.put (r' := boxR w46x.heap.size 190 #[.int .u8 x0, .int .u8 x1, .int .u8 x2, .int .u8 x3, .int .u8 x4, .int .u8 x5]) S47x 3 rfl ht hr (fun b hb => hb)
          clear ht hr
          refine hK.out _ _ ⟨(box3 S48x 0 rfl).2.1, (box3 S48x 1 rfl).2.1⟩ (fun hS => ?_)
          clear hK K
          try simp only [zp0, zp1, zp2, zp3, zp4]
          refine wpAnyH_ready (rs := [9]) (by kernel_rfl) (by simp) ?_
          refine AllReadyH.cons rfl (fun K hK => ?_) ?_
          ·
           refine step_store_box rfl 190 (.tmp 6) (.tmp 30) rfl wd.heap.size 190 #[.int .u8 0, .int .u8 0, .int .u8 0, .int .u8 0, .int .u8 0, .int .u8 0] #[.int .u8 y0, .int .u8 y1, .int .u8 y2, .int .u8 y3, .int .u8 y4, .int .u8 y5] rfl rfl (box_at S48x 2 rfl) (by kernel_rfl) rfl (by simp [Value.oneCell']) ?_
           intro w49x ht hr
           have S49x := Sl.Sep.put (r' := boxR wd.heap.size 190 #[.int .u8 y0, .int .u8 y1, .int .u8 y2, .int .u8 y3, .int .u8 y4, .int .u8 y5]) S48x 2 rfl ht hr (fun b hb => hb)
           clear ht hr
           refine hK.out _ _ ⟨(box3 S49x 0 rfl).2.1, (box3 S49x 1 rfl).2.1⟩ (fun hS => ?_)
           clear hK K
           try simp only [zp0, zp1, zp2, zp3, zp4]
           refine wpAnyH_done (by kernel_rfl) ?_ _
           go_wp2_with fail
           go_meet
           case rel => exact ⟨_, _, rfl, rfl, And.intro (box_at S49x 3 rfl) (And.intro (box_at S49x 2 rfl) (sep_two S49x))⟩
          exact AllReadyH.nil
         exact AllReadyH.nil
        exact AllReadyH.nil
       refine AllReadyH.cons rfl (fun K hK => ?_) ?_
       ·
        have S50x := push_box S45x 190 #[.int .u8 0, .int .u8 0, .int .u8 0, .int .u8 0, .int .u8 0, .int .u8 0] w45x.heap.size rfl
        go_simp
        refine hK.out _ _ ⟨(box3 S50x 0 rfl).2.1, (box3 S50x 1 rfl).2.1⟩ (fun hS => ?_)
        clear hK K
        try simp only [zp0, zp1, zp2, zp3, zp4]
        generalize w45x.alloc (.cells #[.int .u8 0, .int .u8 0, .int .u8 0, .int .u8 0, .int .u8 0, .int .u8 0] 190) = w50x at hS S50x ⊢
        refine wpAnyH_ready (rs := [5]) (by kernel_rfl) (by simp) ?_
        refine AllReadyH.cons rfl (fun K hK => ?_) ?_
        ·
         go_simp
         go_at_call 174
         refine (HB.out _).mono ?_
         rintro e w51x ⟨rfl, hb⟩
         have S51x := Sl.Sep.keep S50x hb
         clear hb S50x
         go_wp2_with fail
         refine hK.out _ _ ⟨(box3 S51x 0 rfl).2.1, (box3 S51x 1 rfl).2.1⟩ (fun hS => ?_)
         clear hK K
         try simp only [zp0, zp1, zp2, zp3, zp4]
         refine wpAnyH_ready (rs := [8]) (by kernel_rfl) (by simp) ?_
         refine AllReadyH.cons rfl (fun K hK => ?_) ?_
         ·
          refine step_store_box rfl 190 (.tmp 5) (.tmp 27) rfl w45x.heap.size 190 #[.int .u8 0, .int .u8 0, .int .u8 0, .int .u8 0, .int .u8 0, .int .u8 0] #[.int .u8 x0, .int .u8 x1, .int .u8 x2, .int .u8 x3, .int .u8 x4, .int .u8 x5] rfl rfl (box_at S51x 3 rfl) (by kernel_rfl) rfl (by simp [Value.oneCell']) ?_
          intro w52x ht hr
          have S52x := Sl.Sep.put (r' := boxR w45x.heap.size 190 #[.int .u8 x0, .int .u8 x1, .int .u8 x2, .int .u8 x3, .int .u8 x4, .int .u8 x5]) S51x 3 rfl ht hr (fun b hb => hb)
          clear ht hr
          refine hK.out _ _ ⟨(box3 S52x 0 rfl).2.1, (box3 S52x 1 rfl).2.1⟩ (fun hS => ?_)
          clear hK K
          try simp only [zp0, zp1, zp2, zp3, zp4]
          refine wpAnyH_ready (rs := [9]) (by kernel_rfl) (by simp) ?_
          refine AllReadyH.cons rfl (fun K hK => ?_) ?_
          ·
           refine step_store_box rfl 190 (.tmp 6) (.tmp 30) rfl wd.heap.size 190 #[.int .u8 0, .int .u8 0, .int .u8 0, .int .u8 0, .int .u8 0, .int .u8 0] #[.int .u8 y0, .int .u8 y1, .int .u8 y2, .int .u8 y3, .int .u8 y4, .int .u8 y5] rfl rfl (box_at S52x 2 rfl) (by kernel_rfl) rfl (by simp [Value.oneCell']) ?_
           intro w53x ht hr
           have S53x := Sl.Sep.put (r' := boxR wd.heap.size 190 #[.int .u8 y0, .int .u8 y1, .int .u8 y2, .int .u8 y3, .int .u8 y4, .int .u8 y5]) S52x 2 rfl ht hr (fun b hb => hb)
           clear ht hr
           refine hK.out _ _ ⟨(box3 S53x 0 rfl).2.1, (box3 S53x 1 rfl).2.1⟩ (fun hS => ?_)
           clear hK K
           try simp only [zp0, zp1, zp2, zp3, zp4]
           refine wpAnyH_done (by kernel_rfl) ?_ _
           go_wp2_with fail
           go_meet
           case rel => exact ⟨_, _, rfl, rfl, And.intro (box_at S53x 3 rfl) (And.intro (box_at S53x 2 rfl) (sep_two S53x))⟩
          exact AllReadyH.nil
         exact AllReadyH.nil
        exact AllReadyH.nil
       exact AllReadyH.nil
      refine AllReadyH.cons rfl (fun K hK => ?_) ?_
      ·
       have S54x := push_box S44x 190 #[.int .u8 0, .int .u8 0, .int .u8 0, .int .u8 0, .int .u8 0, .int .u8 0] w44x.heap.size rfl
       go_simp
       refine hK.out _ _ ⟨(box3 S54x 0 rfl).2.1, (box3 S54x 1 rfl).2.1⟩ (fun hS => ?_)
       clear hK K
       try simp only [zp0, zp1, zp2, zp3, zp4]
       generalize w44x.alloc (.cells #[.int .u8 0, .int .u8 0, .int .u8 0, .int .u8 0, .int .u8 0, .int .u8 0] 190) = w54x at hS S54x ⊢
       refine wpAnyH_ready (rs := [2]) (by kernel_rfl) (by simp) ?_
       refine AllReadyH.cons rfl (fun K hK => ?_) ?_
       ·
        go_simp
        go_at_call 174
        refine (HA.out _).mono ?_
        rintro e w55x ⟨rfl, hb⟩
        have S55x := Sl.Sep.keep S54x hb
        clear hb S54x
        go_wp2_with fail
        refine hK.out _ _ ⟨(box3 S55x 0 rfl).2.1, (box3 S55x 1 rfl).2.1⟩ (fun hS => ?_)
        clear hK K
        try simp only [zp0, zp1, zp2, zp3, zp4]
        refine wpAnyH_ready (rs := [5]) (by kernel_rfl) (by simp) ?_
        refine AllReadyH.cons rfl (fun K hK => ?_) ?_
        ·
         go_simp
         go_at_call 174
         refine (HB.out _).mono ?_
         rintro e w56x ⟨rfl, hb⟩
         have S56x := Sl.Sep.keep S55x hb
         clear hb S55x
         go_wp2_with fail
         refine hK.out _ _ ⟨(box3 S56x 0 rfl).2.1, (box3 S56x 1 rfl).2.1⟩ (fun hS => ?_)
         clear hK K
         try simp only [zp0, zp1, zp2, zp3, zp4]
         refine wpAnyH_ready (rs := [8]) (by kernel_rfl) (by simp) ?_
         refine AllReadyH.cons rfl (fun K hK => ?_) ?_
         ·
          refine step_store_box rfl 190 (.tmp 5) (.tmp 27) rfl w44x.heap.size 190 #[.int .u8 0, .int .u8 0, .int .u8 0, .int .u8 0, .int .u8 0, .int .u8 0] #[.int .u8 x0, .int .u8 x1, .int .u8 x2, .int .u8 x3, .int .u8 x4, .int .u8 x5] rfl rfl (box_at S56x 3 rfl) (by kernel_rfl) rfl (by simp [Value.oneCell']) ?_
          intro w57x ht hr
          have S57x := Sl.Sep.put (r' := boxR w44x.heap.size 190 #[.int .u8 x0, .int .u8 x1, .int .u8 x2, .int .u8 x3, .int .u8 x4, .int .u8 x5]) S56x 3 rfl ht hr (fun b hb => hb)
          clear ht hr
          refine hK.out _ _ ⟨(box3 S57x 0 rfl).2.1, (box3 S57x 1 rfl).2.1⟩ (fun hS => ?_)
          clear hK K
          try simp only [zp0, zp1, zp2, zp3, zp4]
          refine wpAnyH_ready (rs := [9]) (by kernel_rfl) (by simp) ?_
          refine AllReadyH.cons rfl (fun K hK => ?_) ?_
          ·
           refine step_store_box rfl 190 (.tmp 6) (.tmp 30) rfl wd.heap.size 190 #[.int .u8 0, .int .u8 0, .int .u8 0, .int .u8 0, .int .u8 0, .int .u8 0] #[.int .u8 y0, .int .u8 y1, .int .u8 y2, .int .u8 y3, .int .u8 y4, .int .u8 y5] rfl rfl (box_at S57x 2 rfl) (by kernel_rfl) rfl (by simp [Value.oneCell']) ?_
           intro w58x ht hr
           have S58x := Sl.Sep.put (r' := boxR wd.heap.size 190 #[.int .u8 y0, .int .u8 y1, .int .u8 y2, .int .u8 y3, .int .u8 y4, .int .u8 y5]) S57x 2 rfl ht hr (fun b hb => hb)
           clear ht hr
           refine hK.out _ _ ⟨(box3 S58x 0 rfl).2.1, (box3 S58x 1 rfl).2.1⟩ (fun hS => ?_)
           clear hK K
           try simp only [zp0, zp1, zp2, zp3, zp4]
           refine wpAnyH_done (by kernel_rfl) ?_ _
           go_wp2_with fail
           go_meet
           case rel => exact ⟨_, _, rfl, rfl, And.intro (box_at S58x 3 rfl) (And.intro (box_at S58x 2 rfl) (sep_two S58x))⟩
          exact AllReadyH.nil
         exact AllReadyH.nil
        exact AllReadyH.nil
       exact AllReadyH.nil
      exact AllReadyH.nil
     exact AllReadyH.nil
    case rest =>
     obtain ⟨g1, g2, rfl, rfl, HR⟩ := hcut
     obtain ⟨p0, p1, p2, p3, p4, p5⟩ := box6 HR.out.1
     obtain ⟨q0, q1, q2, q3, q4, q5⟩ := box6 HR.out.2.1
     have hdec : decide ([x0, x1, x2, x3, x4, x5] = [y0, y1, y2, y3, y4, y5]) = decide (na = nb) := by
      obtain ⟨h1, h2, h3, h4⟩ := HM.out
      by_cases hn : na = nb
      ·
       obtain rfl : ma = mb := by omega
       rw [decide_eq_true hn, decide_eq_true (h3.symm.trans h4)]
      ·
       have hne : ¬ [x0, x1, x2, x3, x4, x5] = [y0, y1, y2, y3, y4, y5] := fun e => by
        rw [← h3, ← h4] at e
        have e2 := congrArg toU e
        rw [toU_toI, toU_toI] at e2
        have p6 : (256 : Nat) ^ 6 = 281474976710656 := by decide
        have g9 := HM2.out
        have := be_inj 6 ma mb (by rw [p6]; omega) (by rw [p6]; omega) e2
        omega
       rw [decide_eq_false hn, decide_eq_false hne]
     have heq : ∀ w, (Op.equalIn 10000 190 (.agg #[.int .u8 x0, .int .u8 x1, .int .u8 x2, .int .u8 x3, .int .u8 x4, .int .u8 x5]) (.agg #[.int .u8 y0, .int .u8 y1, .int .u8 y2, .int .u8 y3, .int .u8 y4, .int .u8 y5])).run Try.prog w = .ok (decide (na = nb)) w := fun w => by
      rw [array_eq, hdec]
     clear hdec
     by_cases hn : na = nb
     ·
      have hd : decide (na = nb) = true := decide_eq_true hn
      rw [hd] at heq
      have HE := Lib.hid (HE1.out hn)
      clear HE1 HE2 hd
      obtain ⟨f0_0, f0_1, f0_2⟩ := L4.box3 HR.out.2.2 0 rfl
      obtain ⟨f1_0, f1_1, f1_2⟩ := L4.box3 HR.out.2.2 1 rfl
      have HC := Lib.hid (fun w => stringsCompare_any sa sb w)
      go_wp2_with (go_at_call 176; refine (HC.out _).mono ?_; rintro e w5 ⟨rfl, rfl⟩)
      go_ret
      refine ⟨?_, HR.out.2.2.old⟩
      rw [HE.out, ByteArray.toList_eq, ByteArray.toList_eq]
      simp [cmpL]
     ·
      have hd : decide (na = nb) = false := decide_eq_false hn
      rw [hd] at heq
      have HE := Lib.hid (HE2.out hn)
      clear HE1 HE2 hd
      have HC := Lib.hid (show ∀ w', Row w' g1 190 #[.int .u8 x0, .int .u8 x1, .int .u8 x2, .int .u8 x3, .int .u8 x4, .int .u8 x5] → Row w' g2 190 #[.int .u8 y0, .int .u8 y1, .int .u8 y2, .int .u8 y3, .int .u8 y4, .int .u8 y5] →
        Calls Try.prog 175 #[.slice (some ⟨g1, 0, none⟩) 6 6, .slice (some ⟨g2, 0, none⟩) 6 6] w' fun e w'' => e = .returned (.int .i64 (sgn (decide (na < nb)) true)) ∧ Drew w' w'' from fun w' r1 r2 => by
       obtain ⟨h1, h2, h3, h4⟩ := HM.out
       have c := implCompareBytes_any (some ⟨g1, 0, none⟩) (some ⟨g2, 0, none⟩) 6 6 (toI (be 6 ma)) (toI (be 6 mb)) w' w'.heap.size (reads_row (t := 190) (by rw [h3]; exact r1)) (reads_row (t := 190) (by rw [h4]; exact r2))
       rw [toU_toI, toU_toI] at c
       have e1 : cmpL (be 6 ma) (be 6 mb) = sgn (decide (na < nb)) true := by
        have p6 : (256 : Nat) ^ 6 = 281474976710656 := by decide
        have g9 := HM2.out
        have l1 := be_less 6 ma mb (by rw [p6]; omega) (by rw [p6]; omega)
        have l2 := be_less 6 mb ma (by rw [p6]; omega) (by rw [p6]; omega)
        by_cases hlt : na < nb
        ·
         rw [decide_eq_true (show ma < mb by omega)] at l1
         rw [cmpL_less l1, decide_eq_true hlt]
         rfl
        ·
         rw [decide_eq_true (show mb < ma by omega)] at l2
         rw [cmpL_more l2, decide_eq_false hlt]
         rfl
       rw [e1, toI_length, toI_length, be_length, be_length] at c
       exact c)
      go_wp2_with fail
      go_region_held3 (fun _ => True) (exact trivial) ((go_at_call 175; refine (HC.out wc.drew HR.out.1 HR.out.2.1).mono ?_; rintro e w5 ⟨rfl, hd⟩))
      have hold := Lib.hid ((Sl.Sep.drews HR.out.2.2 1).keep (hd.below _)).old
      go_wp2_with fail
      go_ret
      exact ⟨by rw [HE.out]; rfl, hold.out⟩
   ·
    have HE := Lib.hid (cmpK_kind hia hib hk)
    have HC := Lib.hid (fun w => cmpInt_any ka kb hk w)
    go_wp2_with (go_at_call 173; refine (HC.out _).mono ?_; rintro e w5 ⟨rfl, rfl⟩)
    go_ret
    exact ⟨by rw [HE.out]; rfl, S4.old⟩
end Go.Proofs.Ytojcdmgcbgpdmaa.L4

set_option linter.unusedSimpArgs false
namespace Go.Proofs.Ytojcdmgcbgpdmaa.L6
open L4 (K isK cmpK R inR encU)
open L5 (F isR isN cellsF encR eqR Small)
open Go.ChangeShapes Go.WideShapes Go.ChangeAt Go.RowKit Mem Sl Ex L2 Sv Bag

set_option maxHeartbeats 8000000 in
theorem isStore_any (y : LS) (hf : FitS y.con) (w : World) (hr : RowsRd w w.heap.size y.rows) :
  Calls Try.prog 23 #[y.v] w fun e w' => e = .returned (.bool (isS y.con)) ∧ Below w.heap.size w w' := by
 obtain ⟨name, a, c, xs, auto⟩ := y
 have HR := Lib.hid (fun w' (h : Below w.heap.size w w') => LS.outer (hr.below h))
 have HX := Lib.hid (fun w' (h : Below w.heap.size w w') => (LS.inner (hr.below h)).more h.size)
 have HF := Lib.hid hf.items
 have HNM := Lib.hid hf.name
 have hl := hf.len
 simp only [LS.con, conI_length] at hl
 dsimp only [LS.con] at HR HX HF HNM
 try unfold LS.v LS.cells LS.con
 try dsimp only
 obtain ⟨N, hN⟩ : ∃ n, n = xs.length := ⟨_, rfl⟩
 rw [← hN] at hl ⊢
 have hl' : (N : Int) ≤ 1048576 := by omega
 have HN := Lib.hid hN
 clear hN hr hf
 obtain ⟨bn, hbn⟩ : ∃ b, isN name.data.toList = b := ⟨_, rfl⟩
 have HIN := fun w => L5.isName_any name HNM.out w
 rw [hbn] at HIN
 replace HIN := Lib.hid HIN
 obtain ⟨ba, hba⟩ : ∃ b, L1.inB auto 0 1000000 = b := ⟨_, rfl⟩
 have HIA := fun w => L1.inRange_any auto 0 1000000 w
 rw [hba] at HIA
 replace HIA := Lib.hid HIA
 have HE := Lib.hid (show isS ⟨name, conI xs, auto⟩ = (isI (conI xs) && (bn && (decide (N ≤ 16) && ba))) from by unfold isS; rw [hbn, hba, conI_length, ← HN.out])
 clear hbn hba
 have S1 := Lib.hid (show Sl.Sep w _ [_] from L4.push_box (Sl.Sep.start w) 26 #[.string name, .slice a N c, .int .i64 auto] (w.heap.size) (by simp))
 obtain ⟨wa, hwa⟩ : ∃ u, u = (w.alloc (.cells #[.string name, .slice a N c, .int .i64 auto] 26)) := ⟨_, rfl⟩
 rw [← hwa] at S1
 go_enter Try.func23, Try.ntmps23
 go_upto_region 1 with fail
 rw [← hwa]
 clear hwa
 obtain ⟨f0, f1, f2⟩ := Bag.cs3 S1.out 0 rfl
 cases bn with
 | false =>
  go_wp2_with fail
  go_at_call 97
  refine (HIN.out _).mono ?_
  rintro e w1 ⟨rfl, rfl⟩
  go_wp2_with fail
  go_ret
  exact ⟨by rw [HE.out]; simp, S1.out.old⟩
 | true =>
  go_wp2_with fail
  go_at_call 97
  refine (HIN.out _).mono ?_
  rintro e w1 ⟨rfl, rfl⟩
  by_cases h16 : N ≤ 16
  rotate_left
  ·
   have h16i : (16 : Int) < (N : Int) := by omega
   have hd := decide_eq_false h16
   go_wp2_with fail
   go_ret
   exact ⟨by rw [HE.out, hd]; simp, S1.out.old⟩
  have h16i : ¬ (16 : Int) < (N : Int) := by omega
  have HD := Lib.hid (decide_eq_true h16)
  clear h16
  cases ba with
  | false =>
   go_wp2_with fail
   go_at_call 98
   refine (HIA.out _).mono ?_
   rintro e w2 ⟨rfl, rfl⟩
   go_wp2_with fail
   go_ret
   exact ⟨by rw [HE.out]; simp, S1.out.old⟩
  | true =>
   go_wp2_with fail
   go_at_call 98
   refine (HIA.out _).mono ?_
   rintro e w2 ⟨rfl, rfl⟩
   replace HE := Lib.hid (show isS ⟨name, conI xs, auto⟩ = isI (conI xs) from by rw [HE.out, HD.out]; simp)
   clear HD
   go_wp2_with fail
   clear f0 f1 f2
   go_loopw [24] (fun i wr => ∃ k : Nat, k ≤ N ∧ i = .int .i64 k ∧ Hid ((∀ j, j < k → okIx (conI xs) j = true) ∧ Sl.Sep w wr [L4.boxR w.heap.size 26 #[.string name, .slice a N c, .int .i64 auto]])) (fun i _ => N - (intOf i).toNat)
   case atStart => exact ⟨0, Nat.zero_le _, rfl, And.intro (fun j h => absurd h (by omega)) S1.out⟩
   case round =>
    obtain ⟨k, hk, rfl, hrel⟩ := hrel
    have HA := Lib.hid hrel.out.1
    have S2 := Lib.hid hrel.out.2
    clear hrel S1
    by_cases hlt : (k : Int) < (N : Int)
    ·
     skip
     have hkl : k < xs.length := by have := HN.out; omega
     obtain ⟨ad, x, rfl, hx⟩ := readsI_some (HR.out _ S2.out.old) k hkl
     obtain ⟨⟨kd, n, t⟩, ia, ic, l⟩ := x
     have HK := Lib.hid (fun w' (h : Below w.heap.size w w') => readsI_at (HR.out _ h) k _ hx)
     try dsimp only at HK
     have HFI := Lib.hid (fit_at HF.out hx)
     try dsimp only [LI.con] at HFI
     have hci : k < (conI xs).length := by rw [conI_length]; exact hkl
     have HC := Lib.hid (show (conI xs)[k]? = some (⟨⟨kd, n, t⟩, l⟩ : It) from con_of hx)
     obtain ⟨bk, hbk⟩ : ∃ b, isK ⟨kd, n, t⟩ = b := ⟨_, rfl⟩
     have HIK := fun w => L4.implIsKey_any ⟨kd, n, t⟩ (by have : t.size ≤ 1099511627776 := HFI.out.text; show t.size ≤ _; omega) w
     rw [hbk] at HIK
     replace HIK := Lib.hid HIK
     have HBK := Lib.hid hbk
     obtain ⟨br, hbr⟩ : ∃ b, isR l = b := ⟨_, rfl⟩
     have HIR := fun w' (h : Below w.heap.size w w') => L5.isRecord_any ia ic l (by have : l.length ≤ 1048576 := HFI.out.len; omega) HFI.out.small w' (((HX.out _ h).at_ (rowsI_mem hx)).reads)
     rw [hbr] at HIR
     replace HIR := Lib.hid HIR
     have HBR := Lib.hid hbr
     clear hbk hbr hx
     obtain ⟨f0, f1, f2⟩ := Bag.cs3 S2.out 0 rfl
     obtain ⟨f3, f4, f5, f6⟩ := HK.out _ S2.out.old
     go_upto_region 6 with fail
     clear f0 f1 f2 f3 f4 f5 f6
     have S3 := Lib.hid (show Sl.Sep w _ [_, _] from L4.push_box S2.out 40 #[.int .i64 kd, .int .i64 n, .string t, .slice ia l.length ic] wr.heap.size rfl)
     clear S2
     obtain ⟨g1, hg⟩ : ∃ g', g' = wr.heap.size := ⟨_, rfl⟩
     rw [← hg] at S3 ⊢
     clear hg
     generalize wr.alloc (.cells #[.int .i64 kd, .int .i64 n, .string t, .slice ia l.length ic] 40) = w3 at S3 ⊢
     obtain ⟨f0, f1, f2⟩ := Bag.cs3 S3.out 0 rfl
     obtain ⟨f3, f4, f5, f6⟩ := Bag.cs4 S3.out 1 rfl
     obtain ⟨f7, f8, f9, f10⟩ := HK.out _ S3.out.old
     cases bk with
     | false =>
      go_wp2_with fail
      go_at_call 99
      refine (HIK.out _).mono ?_
      rintro e w4 ⟨rfl, hb⟩
      clear f0 f1 f2 f3 f4 f5 f6 f7 f8 f9 f10
      have S4 := Lib.hid (S3.out.keep hb)
      clear S3
      clear hb
      obtain ⟨f0, f1, f2⟩ := Bag.cs3 S4.out 0 rfl
      obtain ⟨f3, f4, f5, f6⟩ := Bag.cs4 S4.out 1 rfl
      obtain ⟨f7, f8, f9, f10⟩ := HK.out _ S4.out.old
      have HNO := Lib.hid (show isI (conI xs) = false from isI_no k hci (by rw [okIx_at HC.out]; dsimp only; rw [HBK.out]; rfl))
      go_wp2_with fail
      go_ret
      exact ⟨by rw [HE.out, HNO.out]; rfl, S4.out.old⟩
     | true =>
      go_wp2_with fail
      go_at_call 99
      refine (HIK.out _).mono ?_
      rintro e w4 ⟨rfl, hb⟩
      clear f0 f1 f2 f3 f4 f5 f6 f7 f8 f9 f10
      have S4 := Lib.hid (S3.out.keep hb)
      clear S3
      clear hb
      obtain ⟨f0, f1, f2⟩ := Bag.cs3 S4.out 0 rfl
      obtain ⟨f3, f4, f5, f6⟩ := Bag.cs4 S4.out 1 rfl
      obtain ⟨f7, f8, f9, f10⟩ := HK.out _ S4.out.old
      cases br with
      | false =>
       go_wp2_with fail
       go_at_call 100
       refine (HIR.out _ S4.out.old).mono ?_
       rintro e w5 ⟨rfl, hb⟩
       clear f0 f1 f2 f3 f4 f5 f6 f7 f8 f9 f10
       have S5 := Lib.hid (S4.out.keep hb)
       clear S4
       clear hb
       obtain ⟨f0, f1, f2⟩ := Bag.cs3 S5.out 0 rfl
       obtain ⟨f3, f4, f5, f6⟩ := Bag.cs4 S5.out 1 rfl
       obtain ⟨f7, f8, f9, f10⟩ := HK.out _ S5.out.old
       have HNO := Lib.hid (show isI (conI xs) = false from isI_no k hci (by rw [okIx_at HC.out]; dsimp only; rw [HBK.out, HBR.out]; rfl))
       go_wp2_with fail
       go_ret
       exact ⟨by rw [HE.out, HNO.out]; rfl, S5.out.old⟩
      | true =>
       go_wp2_with fail
       go_at_call 100
       refine (HIR.out _ S4.out.old).mono ?_
       rintro e w5 ⟨rfl, hb⟩
       clear f0 f1 f2 f3 f4 f5 f6 f7 f8 f9 f10
       have S5 := Lib.hid (S4.out.keep hb)
       clear S4
       clear hb
       obtain ⟨f0, f1, f2⟩ := Bag.cs3 S5.out 0 rfl
       obtain ⟨f3, f4, f5, f6⟩ := Bag.cs4 S5.out 1 rfl
       obtain ⟨f7, f8, f9, f10⟩ := HK.out _ S5.out.old
       rcases Nat.eq_zero_or_pos k with hk0 | hk0
       ·
        have hk1 : (0 < k) = False := by simp; omega
        have HZ := Lib.hid hk0
        clear hk0
        go_upto_region 8 with fail
        clear f0 f1 f2 f3 f4 f5 f6 f7 f8 f9 f10
        refine wp_region_held_drew (S := (fun w' => (w'.cell? ⟨w.heap.size, 0, none⟩ = some (.string name) ∧ w'.cell? ⟨w.heap.size, 1, none⟩ = some (.slice (some ad) N c) ∧ w'.cell? ⟨w.heap.size, 2, none⟩ = some (.int .i64 auto)) ∧ (w'.cell? ⟨g1, 0, none⟩ = some (.int .i64 kd) ∧ w'.cell? ⟨g1, 1, none⟩ = some (.int .i64 n) ∧ w'.cell? ⟨g1, 2, none⟩ = some (.string t) ∧ w'.cell? ⟨g1, 3, none⟩ = some (.slice ia l.length ic)) ∧ (w'.cell? (ad.add (k * 4)) = some (.int .i64 kd) ∧ w'.cell? (⟨(ad.add (k * 4)).block, (ad.add (k * 4)).off + 1, none⟩) = some (.int .i64 n) ∧ w'.cell? (⟨(ad.add (k * 4)).block, (ad.add (k * 4)).off + 2, none⟩) = some (.string t) ∧ w'.cell? (⟨(ad.add (k * 4)).block, (ad.add (k * 4)).off + 3, none⟩) = some (.slice ia l.length ic)))) (by kernel_rfl) ⟨Bag.cs3 (Bag.drew1 S5.out) 0 rfl, Bag.cs4 (Bag.drew1 S5.out) 1 rfl, HK.out _ (Bag.drew1 S5.out).old⟩ (fun hS => ?_)
        have S6 := Lib.hid (Bag.drew1 S5.out)
        clear S5
        generalize World.drew _ = w6 at hS S6 ⊢
        refine tk 0 rfl ?_
        try simp only [zp0, zp1, zp2, zp3, zp4]
        refine tk 1 rfl ?_
        try simp only [zp0, zp1, zp2, zp3, zp4]
        refine tk 2 rfl ?_
        try simp only [zp0, zp1, zp2, zp3, zp4]
        refine sk 3 rfl ?_
        try simp only [zp0, zp1, zp2, zp3, zp4]
        refine sk 4 rfl ?_
        try simp only [zp0, zp1, zp2, zp3, zp4]
        refine sk 5 rfl ?_
        try simp only [zp0, zp1, zp2, zp3, zp4]
        refine sk 6 rfl ?_
        try simp only [zp0, zp1, zp2, zp3, zp4]
        refine sk 7 rfl ?_
        try simp only [zp0, zp1, zp2, zp3, zp4]
        refine sk 8 rfl ?_
        try simp only [zp0, zp1, zp2, zp3, zp4]
        refine sk 9 rfl ?_
        try simp only [zp0, zp1, zp2, zp3, zp4]
        refine sk 10 rfl ?_
        try simp only [zp0, zp1, zp2, zp3, zp4]
        refine sk 11 rfl ?_
        try simp only [zp0, zp1, zp2, zp3, zp4]
        refine Reg.skip_one (i := 12) rfl (by kernel_rfl) (by rfl) (by assumption) ?_
        try simp only [zp0, zp1, zp2, zp3, zp4]
        refine sk 13 rfl ?_
        try simp only [zp0, zp1, zp2, zp3, zp4]
        refine tk 14 rfl ?_
        try simp only [zp0, zp1, zp2, zp3, zp4]
        refine wpAnyH_done (by kernel_rfl) ?_ _
        obtain ⟨f0, f1, f2⟩ := Bag.cs3 S6.out 0 rfl
        obtain ⟨f3, f4, f5, f6⟩ := Bag.cs4 S6.out 1 rfl
        obtain ⟨f7, f8, f9, f10⟩ := HK.out _ S6.out.old
        clear f0 f1 f2 f3 f4 f5 f6 f7 f8 f9 f10
        have S7 := Lib.hid (show Sl.Sep w _ [_] from Bag.take S6.out [0] (by rfl) (by decide))
        clear S6
        go_wp2_with fail
        go_roundw
        case rel => exact ⟨k + 1, by omega, by go_num, And.intro (fun j h => by
         by_cases e : j < k
         ·
          exact HA.out j e
         ·
          obtain rfl : j = k := by omega
          rw [okIx_at HC.out]; dsimp only; rw [HBK.out, HBR.out, HZ.out]; rfl) S7.out⟩
        case measure => simp [intOf]; omega
       ·
        obtain ⟨m, hkm⟩ : ∃ m, k = m + 1 := ⟨k - 1, by omega⟩
        have hki : (k : Int) - 1 = (m : Int) := by omega
        have HKM := Lib.hid hkm
        have hm0 : m < xs.length := by omega
        have hmi : (m : Int) < (N : Int) := by omega
        have hmw : IntKind.i64.wrap (m : Int) = (m : Int) := IntWalk.i64_in _ ⟨by omega, by omega⟩
        clear hkm
        clear f0 f1 f2 f3 f4 f5 f6 f7 f8 f9 f10
        obtain ⟨ad_, x2, e_, hx2⟩ := readsI_some (HR.out _ S5.out.old) m hm0
        clear e_ ad_
        obtain ⟨⟨kd2, n2, t2⟩, ia2, ic2, l2⟩ := x2
        have HK2 := Lib.hid (fun w' (h : Below w.heap.size w w') => readsI_at (HR.out _ h) m _ hx2)
        try dsimp only at HK2
        have HC2 := Lib.hid (show (conI xs)[m]? = some (⟨⟨kd2, n2, t2⟩, l2⟩ : It) from con_of hx2)
        have HFI2 := Lib.hid (fit_at HF.out hx2)
        clear hx2
        obtain ⟨cv, hcv⟩ : ∃ b, cmpK ⟨kd2, n2, t2⟩ ⟨kd, n, t⟩ = b := ⟨_, rfl⟩
        have HCMP := fun w => L4.implCompareKeys_any ⟨kd2, n2, t2⟩ ⟨kd, n, t⟩ (by have : t2.size ≤ 1099511627776 := HFI2.out.text; show t2.size ≤ _; omega) (by have : t.size ≤ 1099511627776 := HFI.out.text; show t.size ≤ _; omega) w
        rw [hcv] at HCMP
        replace HCMP := Lib.hid HCMP
        have HCV := Lib.hid hcv
        clear hcv
        obtain ⟨f0, f1, f2⟩ := Bag.cs3 S5.out 0 rfl
        obtain ⟨f3, f4, f5, f6⟩ := Bag.cs4 S5.out 1 rfl
        obtain ⟨f7, f8, f9, f10⟩ := HK.out _ S5.out.old
        obtain ⟨f11, f12, f13, f14⟩ := HK2.out _ S5.out.old
        by_cases hc : cv < 0
        ·
         have hc2 : ¬ 0 ≤ cv := by omega
         go_upto_region 8 with fail
         clear f0 f1 f2 f3 f4 f5 f6 f7 f8 f9 f10 f11 f12 f13 f14
         refine wp_region_held_drew (S := (fun w' => (w'.cell? ⟨w.heap.size, 0, none⟩ = some (.string name) ∧ w'.cell? ⟨w.heap.size, 1, none⟩ = some (.slice (some ad) N c) ∧ w'.cell? ⟨w.heap.size, 2, none⟩ = some (.int .i64 auto)) ∧ (w'.cell? ⟨g1, 0, none⟩ = some (.int .i64 kd) ∧ w'.cell? ⟨g1, 1, none⟩ = some (.int .i64 n) ∧ w'.cell? ⟨g1, 2, none⟩ = some (.string t) ∧ w'.cell? ⟨g1, 3, none⟩ = some (.slice ia l.length ic)) ∧ (w'.cell? (ad.add (k * 4)) = some (.int .i64 kd) ∧ w'.cell? (⟨(ad.add (k * 4)).block, (ad.add (k * 4)).off + 1, none⟩) = some (.int .i64 n) ∧ w'.cell? (⟨(ad.add (k * 4)).block, (ad.add (k * 4)).off + 2, none⟩) = some (.string t) ∧ w'.cell? (⟨(ad.add (k * 4)).block, (ad.add (k * 4)).off + 3, none⟩) = some (.slice ia l.length ic)) ∧ (w'.cell? (ad.add (m * 4)) = some (.int .i64 kd2) ∧ w'.cell? (⟨(ad.add (m * 4)).block, (ad.add (m * 4)).off + 1, none⟩) = some (.int .i64 n2) ∧ w'.cell? (⟨(ad.add (m * 4)).block, (ad.add (m * 4)).off + 2, none⟩) = some (.string t2) ∧ w'.cell? (⟨(ad.add (m * 4)).block, (ad.add (m * 4)).off + 3, none⟩) = some (.slice ia2 l2.length ic2)))) (by kernel_rfl) ⟨Bag.cs3 (Bag.drew1 S5.out) 0 rfl, Bag.cs4 (Bag.drew1 S5.out) 1 rfl, HK.out _ (Bag.drew1 S5.out).old, HK2.out _ (Bag.drew1 S5.out).old⟩ (fun hS => ?_)
         have S6 := Lib.hid (Bag.drew1 S5.out)
         clear S5
         generalize World.drew _ = w6 at hS S6 ⊢
         refine tk 0 rfl ?_
         try simp only [zp0, zp1, zp2, zp3, zp4]
         refine tk 1 rfl ?_
         try simp only [zp0, zp1, zp2, zp3, zp4]
         refine tk 2 rfl ?_
         try simp only [zp0, zp1, zp2, zp3, zp4]
         refine tk 3 rfl ?_
         try simp only [zp0, zp1, zp2, zp3, zp4]
         refine tk 4 rfl ?_
         try simp only [zp0, zp1, zp2, zp3, zp4]
         refine tk 5 rfl ?_
         try simp only [zp0, zp1, zp2, zp3, zp4]
         refine tk 6 rfl ?_
         try simp only [zp0, zp1, zp2, zp3, zp4]
         refine tk 7 rfl ?_
         try simp only [zp0, zp1, zp2, zp3, zp4]
         refine tk 8 rfl ?_
         try simp only [zp0, zp1, zp2, zp3, zp4]
         refine tk 9 rfl ?_
         try simp only [zp0, zp1, zp2, zp3, zp4]
         refine tk 10 rfl ?_
         try simp only [zp0, zp1, zp2, zp3, zp4]
         refine tk 11 rfl ?_
         try simp only [zp0, zp1, zp2, zp3, zp4]
         refine Reg.one_op (i := 12) rfl (by kernel_rfl) (fun K hK => ?_)
         go_simp
         go_at_call 101
         refine (HCMP.out _).mono ?_
         rintro e w7 ⟨rfl, hb⟩
         have S7 := Lib.hid (S6.out.keep hb)
         clear S6
         clear hb
         go_wp2_with fail
         refine hK.out _ _ ⟨Bag.cs3 S7.out 0 rfl, Bag.cs4 S7.out 1 rfl, HK.out _ S7.out.old, HK2.out _ S7.out.old⟩ (fun hS => ?_)
         clear hK K
         try simp only [zp0, zp1, zp2, zp3, zp4]
         refine tk 13 rfl ?_
         try simp only [zp0, zp1, zp2, zp3, zp4]
         refine tk 14 rfl ?_
         try simp only [zp0, zp1, zp2, zp3, zp4]
         refine wpAnyH_done (by kernel_rfl) ?_ _
         obtain ⟨f0, f1, f2⟩ := Bag.cs3 S7.out 0 rfl
         obtain ⟨f3, f4, f5, f6⟩ := Bag.cs4 S7.out 1 rfl
         obtain ⟨f7, f8, f9, f10⟩ := HK.out _ S7.out.old
         obtain ⟨f11, f12, f13, f14⟩ := HK2.out _ S7.out.old
         clear f0 f1 f2 f3 f4 f5 f6 f7 f8 f9 f10 f11 f12 f13 f14
         have S8 := Lib.hid (show Sl.Sep w _ [_] from Bag.take S7.out [0] (by rfl) (by decide))
         clear S7
         go_wp2_with fail
         go_roundw
         case rel => exact ⟨k + 1, by omega, by go_num, And.intro (fun j h => by
          by_cases e : j < k
          ·
           exact HA.out j e
          ·
           obtain rfl : j = k := by omega
           rw [okIx_at HC.out, HKM.out, behind_at HC2.out]; dsimp only; rw [HBK.out, HBR.out, HCV.out]; simpa using hc) S8.out⟩
         case measure => simp [intOf]; omega
        ·
         have hc2 : 0 ≤ cv := by omega
         go_upto_region 8 with fail
         clear f0 f1 f2 f3 f4 f5 f6 f7 f8 f9 f10 f11 f12 f13 f14
         refine wp_region_held_drew (S := (fun w' => (w'.cell? ⟨w.heap.size, 0, none⟩ = some (.string name) ∧ w'.cell? ⟨w.heap.size, 1, none⟩ = some (.slice (some ad) N c) ∧ w'.cell? ⟨w.heap.size, 2, none⟩ = some (.int .i64 auto)) ∧ (w'.cell? ⟨g1, 0, none⟩ = some (.int .i64 kd) ∧ w'.cell? ⟨g1, 1, none⟩ = some (.int .i64 n) ∧ w'.cell? ⟨g1, 2, none⟩ = some (.string t) ∧ w'.cell? ⟨g1, 3, none⟩ = some (.slice ia l.length ic)) ∧ (w'.cell? (ad.add (k * 4)) = some (.int .i64 kd) ∧ w'.cell? (⟨(ad.add (k * 4)).block, (ad.add (k * 4)).off + 1, none⟩) = some (.int .i64 n) ∧ w'.cell? (⟨(ad.add (k * 4)).block, (ad.add (k * 4)).off + 2, none⟩) = some (.string t) ∧ w'.cell? (⟨(ad.add (k * 4)).block, (ad.add (k * 4)).off + 3, none⟩) = some (.slice ia l.length ic)) ∧ (w'.cell? (ad.add (m * 4)) = some (.int .i64 kd2) ∧ w'.cell? (⟨(ad.add (m * 4)).block, (ad.add (m * 4)).off + 1, none⟩) = some (.int .i64 n2) ∧ w'.cell? (⟨(ad.add (m * 4)).block, (ad.add (m * 4)).off + 2, none⟩) = some (.string t2) ∧ w'.cell? (⟨(ad.add (m * 4)).block, (ad.add (m * 4)).off + 3, none⟩) = some (.slice ia2 l2.length ic2)))) (by kernel_rfl) ⟨Bag.cs3 (Bag.drew1 S5.out) 0 rfl, Bag.cs4 (Bag.drew1 S5.out) 1 rfl, HK.out _ (Bag.drew1 S5.out).old, HK2.out _ (Bag.drew1 S5.out).old⟩ (fun hS => ?_)
         have S6 := Lib.hid (Bag.drew1 S5.out)
         clear S5
         generalize World.drew _ = w6 at hS S6 ⊢
         refine tk 0 rfl ?_
         try simp only [zp0, zp1, zp2, zp3, zp4]
         refine tk 1 rfl ?_
         try simp only [zp0, zp1, zp2, zp3, zp4]
         refine tk 2 rfl ?_
         try simp only [zp0, zp1, zp2, zp3, zp4]
         refine tk 3 rfl ?_
         try simp only [zp0, zp1, zp2, zp3, zp4]
         refine tk 4 rfl ?_
         try simp only [zp0, zp1, zp2, zp3, zp4]
         refine tk 5 rfl ?_
         try simp only [zp0, zp1, zp2, zp3, zp4]
         refine tk 6 rfl ?_
         try simp only [zp0, zp1, zp2, zp3, zp4]
         refine tk 7 rfl ?_
         try simp only [zp0, zp1, zp2, zp3, zp4]
         refine tk 8 rfl ?_
         try simp only [zp0, zp1, zp2, zp3, zp4]
         refine tk 9 rfl ?_
         try simp only [zp0, zp1, zp2, zp3, zp4]
         refine tk 10 rfl ?_
         try simp only [zp0, zp1, zp2, zp3, zp4]
         refine tk 11 rfl ?_
         try simp only [zp0, zp1, zp2, zp3, zp4]
         refine Reg.one_op (i := 12) rfl (by kernel_rfl) (fun K hK => ?_)
         go_simp
         go_at_call 101
         refine (HCMP.out _).mono ?_
         rintro e w7 ⟨rfl, hb⟩
         have S7 := Lib.hid (S6.out.keep hb)
         clear S6
         clear hb
         go_wp2_with fail
         refine hK.out _ _ ⟨Bag.cs3 S7.out 0 rfl, Bag.cs4 S7.out 1 rfl, HK.out _ S7.out.old, HK2.out _ S7.out.old⟩ (fun hS => ?_)
         clear hK K
         try simp only [zp0, zp1, zp2, zp3, zp4]
         refine tk 13 rfl ?_
         try simp only [zp0, zp1, zp2, zp3, zp4]
         refine tk 14 rfl ?_
         try simp only [zp0, zp1, zp2, zp3, zp4]
         refine wpAnyH_done (by kernel_rfl) ?_ _
         obtain ⟨f0, f1, f2⟩ := Bag.cs3 S7.out 0 rfl
         obtain ⟨f3, f4, f5, f6⟩ := Bag.cs4 S7.out 1 rfl
         obtain ⟨f7, f8, f9, f10⟩ := HK.out _ S7.out.old
         obtain ⟨f11, f12, f13, f14⟩ := HK2.out _ S7.out.old
         have HNO := Lib.hid (show isI (conI xs) = false from isI_no k hci (by rw [okIx_at HC.out, HKM.out, behind_at HC2.out]; dsimp only; rw [HBK.out, HBR.out, HCV.out]; simpa using hc2))
         go_wp2_with fail
         go_ret
         exact ⟨by rw [HE.out, HNO.out]; rfl, S7.out.old⟩
    ·
     skip
     obtain rfl : k = N := by omega
     have HI := Lib.hid (isI_all (xs := conI xs) (fun i hi => HA.out i (by rw [conI_length] at hi; have := HN.out; omega)))
     go_wp2_with fail
     go_ret
     exact ⟨by rw [HE.out, HI.out]; rfl, S2.out.old⟩
end Go.Proofs.Ytojcdmgcbgpdmaa.L6

set_option linter.unusedSimpArgs false
namespace Go.Proofs.Ytojcdmgcbgpdmaa.L6
open L4 (K isK cmpK R inR encU)
open L5 (F isR isN cellsF encR eqR Small)
open Go.ChangeShapes Go.WideShapes Go.ChangeAt Go.RowKit Mem Sl Ex L2 Sv Bag

def plcI (xs : List It) (k : K) : Nat := (xs.findIdx? fun x => decide (0 < cmpK x.k k)).getD xs.length
theorem plcI_at {xs : List It} {k : K} (i : Nat) (hi : i ≤ xs.length) (hl : ∀ j (hj : j < xs.length), j < i → cmpK xs[j].k k ≤ 0) (hn : ∀ hi : i < xs.length, 0 < cmpK xs[i].k k) : plcI xs k = i := by
 unfold plcI
 by_cases h : i < xs.length
 ·
  rw [show (xs.findIdx? fun x => decide (0 < cmpK x.k k)) = some i by
   rw [List.findIdx?_eq_some_iff_getElem]
   exact ⟨h, by simpa using hn h, fun j hj => by simpa using hl j (by omega) hj⟩]
  rfl
 ·
  obtain rfl : i = xs.length := by omega
  rw [show (xs.findIdx? fun x => decide (0 < cmpK x.k k)) = none by
   rw [List.findIdx?_eq_none_iff]
   intro x hx
   obtain ⟨j, hj, rfl⟩ := List.getElem_of_mem hx
   simpa using hl j hj hj]
  rfl
theorem plcI_le (xs : List It) (k : K) : plcI xs k ≤ xs.length := by
 unfold plcI
 cases h : xs.findIdx? fun x => decide (0 < cmpK x.k k) with
 | none => exact Nat.le_refl _
 | some i =>
  rw [List.findIdx?_eq_some_iff_getElem] at h
  exact Nat.le_of_lt h.1
theorem findIdx_congr {α : Type} {p q : α → Bool} : ∀ (xs : List α), (∀ x ∈ xs, p x = q x) → xs.findIdx? p = xs.findIdx? q
 | [], _ => rfl
 | x :: xs, h => by
  rw [List.findIdx?_cons, List.findIdx?_cons, h x (List.mem_cons_self ..), findIdx_congr xs (fun y hy => h y (List.mem_cons_of_mem _ hy))]
theorem plcI_posI {xs : List It} {k : K} (h : ∀ x ∈ xs, cmpK x.k k ≠ 0) : plcI xs k = posI xs k := by
 unfold plcI posI
 rw [findIdx_congr (q := fun x => !decide (cmpK x.k k < 0)) xs (fun x hx => by
  have := h x hx
  by_cases h1 : cmpK x.k k < 0
  ·
   rw [decide_eq_true h1, decide_eq_false (by omega)]; rfl
  ·
   rw [decide_eq_false h1, decide_eq_true (show 0 < cmpK x.k k by omega)]; rfl)]

set_option maxHeartbeats 4000000 in
theorem placeOf_any (y : LS) (k0 : K) (hf : FitS y.con) (hkt : k0.text.size ≤ 1099511627776) (w : World) (hr : RowsRd w w.heap.size y.rows) :
  Calls Try.prog 83 #[y.v, k0.v] w fun e w' => e = .returned (.int .i64 (plcI y.con.items k0)) ∧ Below w.heap.size w w' := by
 obtain ⟨name, a, c, xs, auto⟩ := y
 have HR := Lib.hid (fun w' (h : Below w.heap.size w w') => LS.outer (hr.below h))
 have HX := Lib.hid (fun w' (h : Below w.heap.size w w') => (LS.inner (hr.below h)).more h.size)
 have HF := Lib.hid hf.items
 have HNM := Lib.hid hf.name
 have hl := hf.len
 simp only [LS.con, conI_length] at hl
 dsimp only [LS.con] at HR HX HF HNM
 try unfold LS.v LS.cells LS.con
 try dsimp only
 obtain ⟨N, hN⟩ : ∃ n, n = xs.length := ⟨_, rfl⟩
 rw [← hN] at hl ⊢
 have hl' : (N : Int) ≤ 1048576 := by omega
 have HN := Lib.hid hN
 clear hN hr hf
 obtain ⟨kd2, n2, t2⟩ := k0
 unfold L4.K.v
 try dsimp only at hkt ⊢
 have S1 := Lib.hid (show Sl.Sep w _ [_, _] from L4.push_box (L4.push_box (Sl.Sep.start w) 26 #[.string name, .slice a N c, .int .i64 auto] (w.heap.size) (by simp)) 28 #[.int .i64 kd2, .int .i64 n2, .string t2] (w.heap.size + 1) (by simp))
 obtain ⟨wa, hwa⟩ : ∃ u, u = ((w.alloc (.cells #[.string name, .slice a N c, .int .i64 auto] 26)).alloc (.cells #[.int .i64 kd2, .int .i64 n2, .string t2] 28)) := ⟨_, rfl⟩
 rw [← hwa] at S1
 go_enter Try.func83, Try.ntmps83
 go_upto_region 1 with fail
 rw [← hwa]
 clear hwa
 have f0 : World.cell? _ ⟨w.heap.size, 0, none⟩ = some (.string name) := Bag.cell_at S1.out 0 rfl 0 rfl
 have f1 : World.cell? _ ⟨w.heap.size, 1, none⟩ = some (.slice a N c) := Bag.cell_at S1.out 0 rfl 1 rfl
 have f2 : World.cell? _ ⟨w.heap.size, 2, none⟩ = some (.int .i64 auto) := Bag.cell_at S1.out 0 rfl 2 rfl
 have f3 : World.cell? _ ⟨w.heap.size + 1, 0, none⟩ = some (.int .i64 kd2) := Bag.cell_at S1.out 1 rfl 0 rfl
 have f4 : World.cell? _ ⟨w.heap.size + 1, 1, none⟩ = some (.int .i64 n2) := Bag.cell_at S1.out 1 rfl 1 rfl
 have f5 : World.cell? _ ⟨w.heap.size + 1, 2, none⟩ = some (.string t2) := Bag.cell_at S1.out 1 rfl 2 rfl
 go_wp2_with fail
 clear f0 f1 f2 f3 f4 f5
 go_loopw [10] (fun i wr => ∃ k : Nat, k ≤ N ∧ i = .int .i64 k ∧ Hid ((∀ j (hj : j < (conI xs).length), j < k → cmpK (conI xs)[j].k ⟨kd2, n2, t2⟩ ≤ 0) ∧ Sl.Sep w wr [L4.boxR w.heap.size 26 #[.string name, .slice a N c, .int .i64 auto], L4.boxR (w.heap.size + 1) 28 #[.int .i64 kd2, .int .i64 n2, .string t2]])) (fun i _ => N - (intOf i).toNat)
 case atStart => exact ⟨0, Nat.zero_le _, rfl, And.intro (fun j hj h => absurd h (by omega)) S1.out⟩
 case round =>
  obtain ⟨k, hk, rfl, hrel⟩ := hrel
  have HA := Lib.hid hrel.out.1
  have S2 := Lib.hid hrel.out.2
  clear hrel S1
  by_cases hlt : (k : Int) < (N : Int)
  ·
   skip
   have hkl : k < xs.length := by have := HN.out; omega
   obtain ⟨ad, x, rfl, hx⟩ := readsI_some (HR.out _ S2.out.old) k hkl
   obtain ⟨⟨kd, n, t⟩, ia, ic, l⟩ := x
   have HK := Lib.hid (fun w' (h : Below w.heap.size w w') => readsI_at (HR.out _ h) k _ hx)
   try dsimp only at HK
   have HFI := Lib.hid (fit_at HF.out hx)
   try dsimp only [LI.con] at HFI
   have HC := Lib.hid (show (conI xs)[k]? = some (⟨⟨kd, n, t⟩, l⟩ : It) from con_of hx)
   clear hx
   obtain ⟨cv, hcv⟩ : ∃ b, cmpK ⟨kd, n, t⟩ ⟨kd2, n2, t2⟩ = b := ⟨_, rfl⟩
   have HCMP := fun w => L4.implCompareKeys_any ⟨kd, n, t⟩ ⟨kd2, n2, t2⟩ (by have : t.size ≤ 1099511627776 := HFI.out.text; show t.size ≤ _; omega) (by show t2.size ≤ _; omega) w
   rw [hcv] at HCMP
   replace HCMP := Lib.hid HCMP
   have HCV := Lib.hid hcv
   clear hcv
   have f0 : World.cell? _ ⟨w.heap.size, 0, none⟩ = some (.string name) := Bag.cell_at S2.out 0 rfl 0 rfl
   have f1 : World.cell? _ ⟨w.heap.size, 1, none⟩ = some (.slice (some ad) N c) := Bag.cell_at S2.out 0 rfl 1 rfl
   have f2 : World.cell? _ ⟨w.heap.size, 2, none⟩ = some (.int .i64 auto) := Bag.cell_at S2.out 0 rfl 2 rfl
   have f3 : World.cell? _ ⟨w.heap.size + 1, 0, none⟩ = some (.int .i64 kd2) := Bag.cell_at S2.out 1 rfl 0 rfl
   have f4 : World.cell? _ ⟨w.heap.size + 1, 1, none⟩ = some (.int .i64 n2) := Bag.cell_at S2.out 1 rfl 1 rfl
   have f5 : World.cell? _ ⟨w.heap.size + 1, 2, none⟩ = some (.string t2) := Bag.cell_at S2.out 1 rfl 2 rfl
   have f6 : World.cell? _ (ad.add (k * 4)) = some (.int .i64 kd) := (HK.out _ S2.out.old).1
   have f7 : World.cell? _ (⟨(ad.add (k * 4)).block, (ad.add (k * 4)).off + 1, none⟩) = some (.int .i64 n) := (HK.out _ S2.out.old).2.1
   have f8 : World.cell? _ (⟨(ad.add (k * 4)).block, (ad.add (k * 4)).off + 2, none⟩) = some (.string t) := (HK.out _ S2.out.old).2.2.1
   have f9 : World.cell? _ (⟨(ad.add (k * 4)).block, (ad.add (k * 4)).off + 3, none⟩) = some (.slice ia l.length ic) := (HK.out _ S2.out.old).2.2.2
   go_upto_region 4 with fail
   clear f0 f1 f2 f3 f4 f5 f6 f7 f8 f9
   have S3 := Lib.hid (show Sl.Sep w _ [_, _, _] from L4.push_box S2.out 40 #[.int .i64 kd, .int .i64 n, .string t, .slice ia l.length ic] wr.heap.size rfl)
   clear S2
   obtain ⟨g1, hg⟩ : ∃ g', g' = wr.heap.size := ⟨_, rfl⟩
   rw [← hg] at S3 ⊢
   clear hg
   generalize wr.alloc (.cells #[.int .i64 kd, .int .i64 n, .string t, .slice ia l.length ic] 40) = w1 at S3 ⊢
   have f0 : World.cell? _ ⟨w.heap.size, 0, none⟩ = some (.string name) := Bag.cell_at S3.out 0 rfl 0 rfl
   have f1 : World.cell? _ ⟨w.heap.size, 1, none⟩ = some (.slice (some ad) N c) := Bag.cell_at S3.out 0 rfl 1 rfl
   have f2 : World.cell? _ ⟨w.heap.size, 2, none⟩ = some (.int .i64 auto) := Bag.cell_at S3.out 0 rfl 2 rfl
   have f3 : World.cell? _ ⟨w.heap.size + 1, 0, none⟩ = some (.int .i64 kd2) := Bag.cell_at S3.out 1 rfl 0 rfl
   have f4 : World.cell? _ ⟨w.heap.size + 1, 1, none⟩ = some (.int .i64 n2) := Bag.cell_at S3.out 1 rfl 1 rfl
   have f5 : World.cell? _ ⟨w.heap.size + 1, 2, none⟩ = some (.string t2) := Bag.cell_at S3.out 1 rfl 2 rfl
   have f6 : World.cell? _ ⟨g1, 0, none⟩ = some (.int .i64 kd) := Bag.cell_at S3.out 2 rfl 0 rfl
   have f7 : World.cell? _ ⟨g1, 1, none⟩ = some (.int .i64 n) := Bag.cell_at S3.out 2 rfl 1 rfl
   have f8 : World.cell? _ ⟨g1, 2, none⟩ = some (.string t) := Bag.cell_at S3.out 2 rfl 2 rfl
   have f9 : World.cell? _ ⟨g1, 3, none⟩ = some (.slice ia l.length ic) := Bag.cell_at S3.out 2 rfl 3 rfl
   have f10 : World.cell? _ (ad.add (k * 4)) = some (.int .i64 kd) := (HK.out _ S3.out.old).1
   have f11 : World.cell? _ (⟨(ad.add (k * 4)).block, (ad.add (k * 4)).off + 1, none⟩) = some (.int .i64 n) := (HK.out _ S3.out.old).2.1
   have f12 : World.cell? _ (⟨(ad.add (k * 4)).block, (ad.add (k * 4)).off + 2, none⟩) = some (.string t) := (HK.out _ S3.out.old).2.2.1
   have f13 : World.cell? _ (⟨(ad.add (k * 4)).block, (ad.add (k * 4)).off + 3, none⟩) = some (.slice ia l.length ic) := (HK.out _ S3.out.old).2.2.2
   go_wp2_with fail
   go_at_call 101
   refine (HCMP.out _).mono ?_
   rintro e w2 ⟨rfl, hb⟩
   clear f0 f1 f2 f3 f4 f5 f6 f7 f8 f9 f10 f11 f12 f13
   have S4 := Lib.hid (show Sl.Sep w _ [_, _, L4.boxR g1 40 #[.int .i64 kd, .int .i64 n, .string t, .slice ia l.length ic]] from S3.out.keep hb)
   clear S3
   clear hb
   have f0 : World.cell? _ ⟨w.heap.size, 0, none⟩ = some (.string name) := Bag.cell_at S4.out 0 rfl 0 rfl
   have f1 : World.cell? _ ⟨w.heap.size, 1, none⟩ = some (.slice (some ad) N c) := Bag.cell_at S4.out 0 rfl 1 rfl
   have f2 : World.cell? _ ⟨w.heap.size, 2, none⟩ = some (.int .i64 auto) := Bag.cell_at S4.out 0 rfl 2 rfl
   have f3 : World.cell? _ ⟨w.heap.size + 1, 0, none⟩ = some (.int .i64 kd2) := Bag.cell_at S4.out 1 rfl 0 rfl
   have f4 : World.cell? _ ⟨w.heap.size + 1, 1, none⟩ = some (.int .i64 n2) := Bag.cell_at S4.out 1 rfl 1 rfl
   have f5 : World.cell? _ ⟨w.heap.size + 1, 2, none⟩ = some (.string t2) := Bag.cell_at S4.out 1 rfl 2 rfl
   have f6 : World.cell? _ ⟨g1, 0, none⟩ = some (.int .i64 kd) := Bag.cell_at S4.out 2 rfl 0 rfl
   have f7 : World.cell? _ ⟨g1, 1, none⟩ = some (.int .i64 n) := Bag.cell_at S4.out 2 rfl 1 rfl
   have f8 : World.cell? _ ⟨g1, 2, none⟩ = some (.string t) := Bag.cell_at S4.out 2 rfl 2 rfl
   have f9 : World.cell? _ ⟨g1, 3, none⟩ = some (.slice ia l.length ic) := Bag.cell_at S4.out 2 rfl 3 rfl
   have f10 : World.cell? _ (ad.add (k * 4)) = some (.int .i64 kd) := (HK.out _ S4.out.old).1
   have f11 : World.cell? _ (⟨(ad.add (k * 4)).block, (ad.add (k * 4)).off + 1, none⟩) = some (.int .i64 n) := (HK.out _ S4.out.old).2.1
   have f12 : World.cell? _ (⟨(ad.add (k * 4)).block, (ad.add (k * 4)).off + 2, none⟩) = some (.string t) := (HK.out _ S4.out.old).2.2.1
   have f13 : World.cell? _ (⟨(ad.add (k * 4)).block, (ad.add (k * 4)).off + 3, none⟩) = some (.slice ia l.length ic) := (HK.out _ S4.out.old).2.2.2
   by_cases hc : 0 < cv
   ·
    skip
    go_wp2_with fail
    go_ret
    exact ⟨by rw [plcI_at (xs := conI xs) (k := ⟨kd2, n2, t2⟩) k (Nat.le_of_lt (List.getElem?_eq_some_iff.1 HC.out).1) HA.out (fun h => by rw [(List.getElem?_eq_some_iff.1 HC.out).2, HCV.out]; exact hc)]; rfl, S4.out.old⟩
   ·
    skip
    clear f0 f1 f2 f3 f4 f5 f6 f7 f8 f9 f10 f11 f12 f13
    have S5 := Lib.hid (show Sl.Sep w _ [_, _] from Bag.take S4.out [0, 1] (by rfl) (by decide))
    clear S4
    go_wp2_with fail
    go_roundw
    case rel => exact ⟨k + 1, by omega, by go_num, And.intro (fun j hj h => by
     by_cases e : j < k
     ·
      exact HA.out j hj e
     ·
      obtain rfl : j = k := by omega
      rw [(List.getElem?_eq_some_iff.1 HC.out).2, HCV.out]; omega) S5.out⟩
    case measure => simp [intOf]; omega
  ·
   skip
   have f0 : World.cell? _ ⟨w.heap.size, 0, none⟩ = some (.string name) := Bag.cell_at S2.out 0 rfl 0 rfl
   have f1 : World.cell? _ ⟨w.heap.size, 1, none⟩ = some (.slice a N c) := Bag.cell_at S2.out 0 rfl 1 rfl
   have f2 : World.cell? _ ⟨w.heap.size, 2, none⟩ = some (.int .i64 auto) := Bag.cell_at S2.out 0 rfl 2 rfl
   have f3 : World.cell? _ ⟨w.heap.size + 1, 0, none⟩ = some (.int .i64 kd2) := Bag.cell_at S2.out 1 rfl 0 rfl
   have f4 : World.cell? _ ⟨w.heap.size + 1, 1, none⟩ = some (.int .i64 n2) := Bag.cell_at S2.out 1 rfl 1 rfl
   have f5 : World.cell? _ ⟨w.heap.size + 1, 2, none⟩ = some (.string t2) := Bag.cell_at S2.out 1 rfl 2 rfl
   go_wp2_with fail
   go_ret
   have hkN : k = N := by omega
   exact ⟨by rw [plcI_at (xs := conI xs) (k := ⟨kd2, n2, t2⟩) k (by rw [conI_length]; have := HN.out; omega) HA.out (fun h => absurd h (by rw [conI_length]; have := HN.out; omega)), hkN]; rfl, S2.out.old⟩
set_option maxHeartbeats 4000000 in
theorem autoAfter_any (auto : Int) (k0 : K) (h0 : 0 ≤ auto) (h1 : auto ≤ 1000000) (w : World) :
  Calls Try.prog 84 #[.int .i64 auto, k0.v] w fun e w' => e = .returned (.int .i64 (nextAuto auto k0)) ∧ Below w.heap.size w w' := by
 obtain ⟨pk, pn, pt⟩ := k0
 unfold L4.K.v
 obtain ⟨ba, hba⟩ : ∃ b, L1.inB pn (auto + 1) 1000000 = b := ⟨_, rfl⟩
 have HIA := fun w => L1.inRange_any pn (auto + 1) 1000000 w
 rw [hba] at HIA
 replace HIA := Lib.hid HIA
 have HBA := Lib.hid hba
 clear hba
 have hw1 : IntKind.i64.wrap (auto + 1) = auto + 1 := IntWalk.i64_in _ ⟨by omega, by omega⟩
 have S1 := Lib.hid (show Sl.Sep w _ [_] from L4.push_box (Sl.Sep.start w) 28 #[.int .i64 pk, .int .i64 pn, .string pt] (w.heap.size) (by simp))
 obtain ⟨wa, hwa⟩ : ∃ u, u = (w.alloc (.cells #[.int .i64 pk, .int .i64 pn, .string pt] 28)) := ⟨_, rfl⟩
 rw [← hwa] at S1
 go_enter Try.func84, Try.ntmps84
 go_upto_region 1 with fail
 rw [← hwa]
 clear hwa
 have f0 : World.cell? _ ⟨w.heap.size, 0, none⟩ = some (.int .i64 pk) := Bag.cell_at S1.out 0 rfl 0 rfl
 have f1 : World.cell? _ ⟨w.heap.size, 1, none⟩ = some (.int .i64 pn) := Bag.cell_at S1.out 0 rfl 1 rfl
 have f2 : World.cell? _ ⟨w.heap.size, 2, none⟩ = some (.string pt) := Bag.cell_at S1.out 0 rfl 2 rfl
 by_cases hk1 : pk = 1
 ·
  subst hk1
  cases ba with
  | false =>
   go_wp2_with fail
   go_at_call 98
   refine (HIA.out _).mono ?_
   rintro e w1 ⟨rfl, rfl⟩
   go_wp2_with fail
   go_ret
   exact ⟨by unfold nextAuto; dsimp only; rw [HBA.out]; rfl, S1.out.old⟩
  | true =>
   go_wp2_with fail
   go_at_call 98
   refine (HIA.out _).mono ?_
   rintro e w1 ⟨rfl, rfl⟩
   go_wp2_with fail
   go_ret
   exact ⟨by unfold nextAuto; dsimp only; rw [HBA.out]; rfl, S1.out.old⟩
 ·
  have hk2 : (pk == 1) = false := by simpa using hk1
  have HK2 := Lib.hid hk2
  go_wp2_with fail
  go_ret
  exact ⟨by unfold nextAuto; dsimp only; rw [HK2.out]; rfl, S1.out.old⟩
set_option maxHeartbeats 8000000 in
theorem insertI_any (g vb k : Nat) (ys : List LI) (z : LI) (hk : k ≤ ys.length) (hy : ys.length ≤ 1048576) (w : World) (hr : Reads w w.heap.size (some ⟨g, 0, none⟩) (cellsI ys)) (hv : Reads w w.heap.size (some ⟨vb, 0, none⟩) (cellsI [z])) :
  Calls Try.prog 82 #[.slice (some ⟨g, 0, none⟩) ys.length ys.length, .int .i64 k, .slice (some ⟨vb, 0, none⟩) 1 1] w fun e w' => ∃ a' c', e = .returned (.slice a' (ys.length + 1) c') ∧ OwnV w' w.heap.size 40 4 a' c' (ys.length + 1) (cellsI (ys.take k ++ z :: ys.drop k)) ∧ Below w.heap.size w w' := by
 obtain ⟨i0, hi1, hi2, hi3, hi4⟩ := itemInfo
 have HI := Lib.hid (And.intro hi1 (And.intro hi2 (And.intro hi3 hi4)))
 clear hi1 hi2 hi3 hi4
 have HR := Lib.hid (fun w' (h : Below w.heap.size w w') => hr.below h)
 have HV := Lib.hid (fun w' (h : Below w.heap.size w w') => hv.below h)
 obtain ⟨N, hN⟩ : ∃ n, n = ys.length := ⟨_, rfl⟩
 rw [← hN] at hy hk ⊢
 have hy' : (N : Int) ≤ 1048576 := by omega
 have hk' : (k : Int) ≤ (N : Int) := by omega
 have hcN := Lib.hid (show (cellsI ys).length = N * 4 by rw [cellsI_length, hN])
 have HN := Lib.hid hN
 clear hN hr hv
 have S1 := Lib.hid (show Sl.Sep w w [] from Sl.Sep.start w)
 by_cases hkN : k = N
 ·
  subst hkN
  go_enter Try.func82, Try.ntmps82
  go_wp2_with (at_builtin; refine Run.wpList_grow_s S1.out rfl _ _ 24 rfl 40 i0 (.agg #[.int .i64 0, .int .i64 0, .string ⟨#[]⟩, .slice none 0 0]) 4 56 Try.underlying24 HI.out.1 HI.out.2.1 HI.out.2.2.1 HI.out.2.2.2 rfl ⟨g, 0, none⟩ k k (by rfl) w.heap.size (cellsI ys) (HR.out _ S1.out.old) hcN.out ⟨vb, 0, none⟩ 1 1 (by rfl) w.heap.size (cellsI [z]) (HV.out _ S1.out.old) (by rw [cellsI_length]; rfl) (cellsI_one _) (by omega) (by unfold maxLen; omega) (by omega) ?_; intro w1 C hC S')
  go_ret
  refine ⟨_, _, rfl, ?_, S'.old⟩
  have h := Sv.own_from S' 0 rfl
  rw [List.take_of_length_le (by have := HN.out; omega), List.drop_of_length_le (by have := HN.out; omega), cellsI_append]
  exact h
 ·
  skip
  have hklt : k < N := by omega
  have hkNi : (k : Int) < (N : Int) := by omega
  have hne : ¬ (k : Int) = (N : Int) := by omega
  have hne2 : ¬ N = k := by omega
  obtain ⟨d, hd⟩ : ∃ d : Nat, (N : Int) + 1 - (k : Int) = (d : Int) := ⟨N + 1 - k, by omega⟩
  have hdN : k + d = N + 1 := by omega
  have hgt : (N : Int) < (N : Int) + 1 := by omega
  have hwd : IntKind.i64.wrap (N : Int) = (N : Int) := IntWalk.i64_in _ ⟨by omega, by omega⟩
  have HKD := Lib.hid hdN
  clear hdN hkN
  go_enter Try.func82, Try.ntmps82
  go_upto_region 10 with (at_builtin; refine Run.wpList_zeros_s S1.out rfl _ _ 24 3 rfl 40 i0 (.agg #[.int .i64 0, .int .i64 0, .string ⟨#[]⟩, .slice none 0 0]) 4 56 .i64 .i64 Try.underlying24 Try.underlying3 HI.out.1 HI.out.2.1 HI.out.2.2.1 HI.out.2.2.2 rfl (by omega) ⟨g, 0, none⟩ k N d (by rfl) (by rfl) w.heap.size (cellsI (ys.take k)) (reads_head (HR.out _ S1.out.old) k) (by rw [cellsI_length, List.length_take]; have := HN.out; omega) (by omega) (by have := HKD.out; omega) (by have := HKD.out; unfold maxLen; omega) (by have := HKD.out; omega) ?_; intro w1 C hC S')
  obtain ⟨g2, hg2⟩ : ∃ g', g' = w.heap.size := ⟨_, rfl⟩
  rw [← hg2] at S' ⊢
  clear hg2
  obtain ⟨Zs, hZs⟩ : ∃ Z, Z = (Builtin.zeroCells (Value.agg #[.int .i64 0, .int .i64 0, .string ⟨#[]⟩, .slice none 0 0]).cells d).toList := ⟨_, rfl⟩
  rw [← hZs] at S'
  have HZ := Lib.hid (show Zs.length = d * 4 by rw [hZs, Array.length_toList, size_zeroCells]; rfl)
  clear hZs
  have HA := Lib.hid (show (cellsI (ys.take k)).length = k * 4 by rw [cellsI_length, List.length_take]; have := HN.out; omega)
  have HL := Lib.hid (show k * 4 + 4 ≤ (cellsI (ys.take k) ++ Zs).length ∧ 4 ≤ Zs.length from by rw [List.length_append, HA.out, HZ.out]; have := HKD.out; omega)
  have hCk : ¬ C = k := by have := HKD.out; omega
  have hCk1 : ¬ C = k + 1 := by have := HKD.out; omega
  have hkC : (k : Int) ≤ (C : Int) := by omega
  have hk1C : (k : Int) + 1 ≤ (C : Int) := by omega
  have hk10 : (0 : Int) ≤ (k : Int) + 1 := by omega
  have hw2 : IntKind.i64.wrap ((k : Int) + 1) = (k : Int) + 1 := IntWalk.i64_in _ ⟨by omega, by omega⟩
  have ht1 : ((k : Int) + 1).toNat = k + 1 := by omega
  have hd1 : (1 : Int) ≤ (d : Int) := by have := HKD.out; omega
  have hC63 : C ≤ 9223372036854775807 := by
   rcases (Sv.own_at S' 0 rfl).form with ⟨e, _⟩ | ⟨g, _, _, _, _, h⟩
   ·
    cases e
   ·
    unfold maxLen at h; omega
  have S2 := Lib.hid (show Sl.Sep w _ [Sv.ownV 40 4 (some ⟨g2, 0, none⟩) C (k + d) (cellsI (ys.take k) ++ Zs)] from S')
  clear S1
  clear S' hC
  have HM1 := Lib.hid (show (cellsI [z]).length = Nat.min 1 d * 4 from by rw [cellsI_length, show Nat.min 1 d = 1 from Nat.min_eq_left (by omega)]; rfl)
  have hcp := fun ty => Run.run_copy_s (P := Try.prog) S2.out 0 rfl 24 24 ty i0 Try.underlying24 HI.out.1 HI.out.2.2.1 (k * 4) d (C - k) 1 1 (some ⟨vb, 0, none⟩) (cellsI [z]) HM1.out w.heap.size (HV.out _ S2.out.old) (by rw [cellsI_length]; exact HL.out.1) (cellsI_one _)
  obtain ⟨w2, hw⟩ : ∃ u, u = World.setCells w1 g2 (k * 4) (cellsI [z]) := ⟨_, rfl⟩
  rw [← hw] at hcp
  have HW := Lib.hid hw
  clear hw
  go_upto_region 11 with fail
  have S3 := Lib.hid (show Sl.Sep w _ [Sv.ownV 40 4 (some ⟨g2, 0, none⟩) C (k + d) (cellsI (ys.take k ++ [z]) ++ Zs.drop 4)] from (by have h := Run.put_run S2.out 0 rfl (k * 4) (cellsI [z]) (by rw [cellsI_length]; exact HL.out.1); rw [← HW.out, Run.over_at _ _ _ _ HA.out (by rw [cellsI_length]; exact HL.out.2), ← List.append_assoc, ← cellsI_append, cellsI_length] at h; exact h))
  clear S2
  clear hcp HW
  have HD := Lib.hid (show (cellsI (ys.drop k)).length = (N - k) * 4 by rw [cellsI_length, List.length_drop, ← HN.out])
  have HM2 := Lib.hid (show (cellsI (ys.drop k)).length = Nat.min (N - k) (k + d - (k + 1)) * 4 from by rw [HD.out, show k + d - (k + 1) = N - k from by have := HKD.out; omega, show Nat.min (N - k) (N - k) = N - k from Nat.min_self _])
  have HA2 := Lib.hid (show (cellsI (ys.take k ++ [z])).length = (k + 1) * 4 by rw [cellsI_length, List.length_append, List.length_take]; have := HN.out; simp; omega)
  have HZ2 := Lib.hid (show (Zs.drop 4).length = (cellsI (ys.drop k)).length by rw [List.length_drop, HZ.out, HD.out]; have := HKD.out; omega)
  have HQ2 := Lib.hid (show (k + 1) * 4 + (cellsI (ys.drop k)).length ≤ (cellsI (ys.take k ++ [z]) ++ Zs.drop 4).length from by rw [List.length_append, HA2.out, HZ2.out]; exact Nat.le_refl _)
  refine wp_region_held_drew (S := (fun w' => True)) (by kernel_rfl) trivial (fun hS => ?_)
  have S4 := Lib.hid (Bag.drew1 S3.out)
  clear S3
  generalize World.drew _ = w3 at hS S4 ⊢
  refine tk 0 rfl ?_
  try simp only [zp0, zp1, zp2, zp3, zp4]
  refine tk 1 rfl ?_
  try simp only [zp0, zp1, zp2, zp3, zp4]
  refine tk 2 rfl ?_
  try simp only [zp0, zp1, zp2, zp3, zp4]
  refine tk 3 rfl ?_
  try simp only [zp0, zp1, zp2, zp3, zp4]
  refine tk 4 rfl ?_
  try simp only [zp0, zp1, zp2, zp3, zp4]
  refine tk 5 rfl ?_
  try simp only [zp0, zp1, zp2, zp3, zp4]
  refine tk 6 rfl ?_
  try simp only [zp0, zp1, zp2, zp3, zp4]
  refine tk 7 rfl ?_
  try simp only [zp0, zp1, zp2, zp3, zp4]
  refine Reg.one_op (i := 8) rfl (by kernel_rfl) (fun K hK => ?_)
  refine Run.step_copy_s S4.out 0 rfl rfl _ _ 24 24 rfl i0 Try.underlying24 HI.out.1 HI.out.2.2.1 ((k + 1) * 4) (k + d - (k + 1)) (C - (k + 1)) (by rfl) (some ⟨g, k * 4, none⟩) (N - k) (N - k) (by rfl) w.heap.size (cellsI (ys.drop k)) (reads_rest2 (HR.out _ S4.out.old) k) HM2.out HQ2.out (cellsI_one _) ?_
  intro w4 S'
  have S5 := Lib.hid (show Sl.Sep w _ [Sv.ownV 40 4 (some ⟨g2, 0, none⟩) C (k + d) (cellsI (ys.take k ++ z :: ys.drop k))] from (by have h := S'; rw [Run.over_at _ _ _ _ HA2.out (Nat.le_of_eq HZ2.out.symm), List.drop_of_length_le (Nat.le_of_eq HZ2.out), List.append_nil, ← cellsI_append, List.append_assoc] at h; exact h))
  clear S4
  clear S'
  refine hK.out _ _ trivial (fun hS => ?_)
  clear hK K
  try simp only [zp0, zp1, zp2, zp3, zp4]
  refine wpAnyH_done (by kernel_rfl) ?_ _
  go_wp2_with fail
  go_ret
  refine ⟨some ⟨g2, 0, none⟩, C, ?_, ?_, S5.out.old⟩
  ·
   show Ending.returned (.slice (some ⟨g2, 0, none⟩) (k + d) C) = _
   rw [HKD.out]
  ·
   have h := Sv.own_from S5.out 0 rfl
   rw [HKD.out] at h
   exact h
end Go.Proofs.Ytojcdmgcbgpdmaa.L6

namespace Go.Proofs.Ytojcdmgcbgpdmaa.L6
open L4 (K isK cmpK R inR encU)
open L5 (F isR isN cellsF encR eqR Small)

theorem isI_iff {xs : List It} : isI xs = true ↔ (∀ i (h : i < xs.length), isK xs[i].k = true ∧ isR xs[i].l = true) ∧ ∀ i (h : i + 1 < xs.length), cmpK xs[i].k xs[i + 1].k < 0 := by
 constructor
 ·
  intro h
  refine ⟨fun i hi => ?_, fun i hi => ?_⟩
  ·
   have h1 := isI_at h i hi
   rw [okIx_at (List.getElem?_eq_getElem hi)] at h1
   simp only [Bool.and_eq_true] at h1
   exact ⟨h1.1, h1.2.1⟩
  ·
   have h1 := isI_at h (i + 1) hi
   rw [okIx_succ i hi] at h1
   simp only [Bool.and_eq_true, decide_eq_true_eq] at h1
   exact h1.2.2
 ·
  rintro ⟨h1, h2⟩
  refine isI_all fun i hi => ?_
  rcases i with _ | j
  ·
   rw [okIx_zero hi, (h1 0 hi).1, (h1 0 hi).2]; rfl
  ·
   rw [okIx_succ j hi, (h1 _ hi).1, (h1 _ hi).2, decide_eq_true (h2 j hi)]; rfl
theorem isI_bad {xs : List It} (i : Nat) (x : It) (hx : xs[i]? = some x) (h : (isK x.k && isR x.l) = false) : isI xs = false := by
 cases h1 : isI xs with
 | false => rfl
 | true =>
  obtain ⟨hi, rfl⟩ := List.getElem?_eq_some_iff.1 hx
  have h2 := (isI_iff.1 h1).1 i hi
  rw [h2.1, h2.2] at h
  cases h
theorem isI_set {xs : List It} (h : isI xs = true) (i : Nat) (hi : i < xs.length) (l : List F) : isI (xs.set i ⟨xs[i].k, l⟩) = isR l := by
 have hx := isI_iff.1 h
 cases hl : isR l with
 | false => exact isI_bad i ⟨xs[i].k, l⟩ (by rw [List.getElem?_set_self hi]) (by show (isK xs[i].k && isR l) = false; rw [hl, Bool.and_false])
 | true =>
  have hk : ∀ j (hj : j < (xs.set i ⟨xs[i].k, l⟩).length), (xs.set i ⟨xs[i].k, l⟩)[j].k = (xs[j]'(by simpa using hj)).k := fun j hj => by
   rw [List.getElem_set]
   split
   ·
    rename_i e; subst e; rfl
   ·
    rfl
  refine isI_iff.2 ⟨fun j hj => ?_, fun j hj => ?_⟩
  ·
   have hj' : j < xs.length := by simpa using hj
   refine ⟨by rw [hk j hj]; exact (hx.1 j hj').1, ?_⟩
   rw [List.getElem_set]
   split
   ·
    exact hl
   ·
    exact (hx.1 j hj').2
  ·
   rw [hk j (by omega), hk (j + 1) hj]
   exact hx.2 j (by simpa using hj)
theorem get_ins (xs : List It) (p : Nat) (hp : p ≤ xs.length) (z : It) (i : Nat) :
  (xs.take p ++ z :: xs.drop p)[i]? = if i < p then xs[i]? else if i = p then some z else xs[i - 1]? := by
 rw [List.getElem?_append, List.length_take, Nat.min_eq_left hp]
 split
 ·
  rw [List.getElem?_take, if_pos (by assumption)]
 ·
  rename_i h
  split
  ·
   rename_i e; subst e; simp
  ·
   rw [show i - p = (i - p - 1) + 1 by omega, List.getElem?_cons_succ, List.getElem?_drop]
   congr 1
   omega
theorem isI_ins {xs : List It} (h : isI xs = true) (k : K) (l : List F) (p : Nat) (hp : p ≤ xs.length) (hk : isK k = true) (hl : isR l = true) (hlo : ∀ j (hj : j < xs.length), j < p → cmpK xs[j].k k < 0) (hhi : ∀ hj : p < xs.length, cmpK k xs[p].k < 0) : isI (xs.take p ++ ⟨k, l⟩ :: xs.drop p) = true := by
 have hx := isI_iff.1 h
 have hlen : (xs.take p ++ (⟨k, l⟩ : It) :: xs.drop p).length = xs.length + 1 := by simp; omega
 have hg : ∀ i (hi : i < (xs.take p ++ (⟨k, l⟩ : It) :: xs.drop p).length) (z : It), (if i < p then xs[i]? else if i = p then some ⟨k, l⟩ else xs[i - 1]?) = some z → (xs.take p ++ (⟨k, l⟩ : It) :: xs.drop p)[i] = z := fun i hi z hz => by
  have h1 := get_ins xs p hp ⟨k, l⟩ i
  rw [hz, List.getElem?_eq_getElem hi] at h1
  exact Option.some.inj h1
 refine isI_iff.2 ⟨fun i hi => ?_, fun i hi => ?_⟩
 ·
  rcases Nat.lt_trichotomy i p with h1 | h1 | h1
  ·
   rw [hg i hi xs[i] (by rw [if_pos h1, List.getElem?_eq_getElem])]
   exact hx.1 i (by omega)
  ·
   rw [hg i hi ⟨k, l⟩ (by rw [if_neg (by omega), if_pos h1])]
   exact ⟨hk, hl⟩
  ·
   have : i - 1 < xs.length := by omega
   rw [hg i hi xs[i - 1] (by rw [if_neg (by omega), if_neg (by omega), List.getElem?_eq_getElem])]
   exact hx.1 (i - 1) this
 ·
  rcases Nat.lt_trichotomy (i + 1) p with h1 | h1 | h1
  ·
   rw [hg i (by omega) xs[i] (by rw [if_pos (by omega), List.getElem?_eq_getElem]), hg (i + 1) hi xs[i + 1] (by rw [if_pos h1, List.getElem?_eq_getElem])]
   exact hx.2 i (by omega)
  ·
   rw [hg i (by omega) xs[i] (by rw [if_pos (by omega), List.getElem?_eq_getElem]), hg (i + 1) hi ⟨k, l⟩ (by rw [if_neg (by omega), if_pos h1])]
   exact hlo i (by omega) (by omega)
  ·
   rcases Nat.lt_or_ge p i with h2 | h2
   ·
    have h3 : i - 1 + 1 < xs.length := by omega
    rw [hg i (by omega) xs[i - 1] (by rw [if_neg (by omega), if_neg (by omega), List.getElem?_eq_getElem]), hg (i + 1) hi (xs[i - 1 + 1]'h3) (by
     rw [if_neg (by omega), if_neg (by omega), List.getElem?_eq_getElem (show i + 1 - 1 < xs.length by omega)]
     congr 2
     omega)]
    exact hx.2 (i - 1) h3
   ·
    obtain rfl : i = p := by omega
    have h3 : i < xs.length := by omega
    rw [hg i (by omega) ⟨k, l⟩ (by rw [if_neg (by omega), if_pos rfl]), hg (i + 1) hi (xs[i]'h3) (by
     rw [if_neg (by omega), if_neg (by omega), List.getElem?_eq_getElem (show i + 1 - 1 < xs.length by omega)]
     congr 2)]
    exact hhi h3
theorem isS_iff {s : S6} : isS s = true ↔ isI s.items = true ∧ isN s.name.data.toList = true ∧ s.items.length ≤ 16 ∧ 0 ≤ s.auto ∧ s.auto ≤ 1000000 := by
 unfold isS
 simp only [Bool.and_eq_true, decide_eq_true_eq, L1.inB_true]
theorem fndO_ne {xs : List It} {k : K} (h : fndO xs k = none) : ∀ x ∈ xs, x.k ≠ k := fun x hx e => by
 unfold fndO at h
 rw [List.findIdx?_eq_none_iff] at h
 have := h x hx
 rw [e, eqK_refl] at this
 cases this
theorem fndO_cmp {xs : List It} {k : K} (hv : isI xs = true) (hk : isK k = true) (h : fndO xs k = none) : ∀ x ∈ xs, cmpK x.k k ≠ 0 := fun x hx e => by
 obtain ⟨j, hj, rfl⟩ := List.getElem_of_mem hx
 exact fndO_ne h _ hx ((L4.cmpK_zero ((isI_iff.1 hv).1 j hj).1 hk).1 e)
theorem posI_spec (xs : List It) (k : K) : (∀ j (hj : j < xs.length), j < posI xs k → cmpK xs[j].k k < 0) ∧ ∀ hj : posI xs k < xs.length, ¬ cmpK xs[posI xs k].k k < 0 := by
 unfold posI
 cases h : xs.findIdx? fun x => !decide (cmpK x.k k < 0) with
 | none =>
  rw [List.findIdx?_eq_none_iff] at h
  refine ⟨fun j hj _ => ?_, fun hj => absurd hj (by simp)⟩
  have := h _ (List.getElem_mem hj)
  simpa using this
 | some i =>
  rw [List.findIdx?_eq_some_iff_getElem] at h
  obtain ⟨hi, h1, h2⟩ := h
  refine ⟨fun j hj hji => ?_, fun hj => ?_⟩
  ·
   have := h2 j hji
   simpa using this
  ·
   simpa using h1
theorem nextAuto_range {auto : Int} (k : K) (h0 : 0 ≤ auto) (h1 : auto ≤ 1000000) : auto ≤ nextAuto auto k ∧ nextAuto auto k ≤ 1000000 := by
 unfold nextAuto
 split
 ·
  rename_i h
  simp only [Bool.and_eq_true, L1.inB_true] at h
  omega
 ·
  omega
theorem putI_valid {s : S6} (k : K) (l : List F) (h : isS s = true) : isS (putI s k l).1 = true := by
 obtain ⟨h1, h2, h3, h4, h5⟩ := isS_iff.1 h
 unfold putI
 split
 ·
  rename_i hg
  simp only [Bool.and_eq_true] at hg
  cases hf : fndO s.items k with
  | some i =>
   obtain ⟨hi, hki⟩ := fndO_some hf
   have e := isI_set h1 i hi l
   rw [hki] at e
   exact isS_iff.2 ⟨by show isI (s.items.set i ⟨k, l⟩) = true; rw [e]; exact hg.2.2, h2, by show (s.items.set i _).length ≤ 16; rw [List.length_set]; exact h3, h4, h5⟩
  | none =>
   dsimp only
   split
   ·
    exact h
   ·
    have hp := posI_spec s.items k
    have ha := nextAuto_range k h4 h5
    refine isS_iff.2 ⟨isI_ins h1 k l _ (posI_le _ _) hg.2.1 hg.2.2 hp.1 (fun hj => ?_), h2, ?_, by show 0 ≤ nextAuto s.auto k; omega, by show nextAuto s.auto k ≤ 1000000; omega⟩
    ·
     have e1 := hp.2 hj
     have e2 := fndO_cmp h1 hg.2.1 hf _ (List.getElem_mem hj)
     rw [L4.cmpK_swap]
     omega
    ·
     have := posI_le s.items k
     simp
     omega
 ·
  exact h
theorem FitS.set {n : ByteArray} {xs : List It} {u u2 : Int} (h : FitS ⟨n, xs, u⟩) (i : Nat) (z : It) (hz : FitI z) : FitS ⟨n, xs.set i z, u2⟩ :=
 ⟨h.name, by show (xs.set i z).length ≤ _; rw [List.length_set]; exact h.len, fun x hx => by
  rcases List.mem_or_eq_of_mem_set hx with h1 | h1
  ·
   exact h.items x h1
  ·
   rw [h1]; exact hz⟩
theorem FitS.ins {n : ByteArray} {xs : List It} {u u2 : Int} (h : FitS ⟨n, xs, u⟩) (p : Nat) (z : It) (hz : FitI z) (hl : xs.length ≤ 1000) : FitS ⟨n, xs.take p ++ z :: xs.drop p, u2⟩ :=
 ⟨h.name, by show (xs.take p ++ z :: xs.drop p).length ≤ _; simp; omega, fun x hx => by
  rcases List.mem_append.1 hx with h1 | h1
  ·
   exact h.items x (List.mem_of_mem_take h1)
  ·
   rcases List.mem_cons.1 h1 with h2 | h2
   ·
    rw [h2]; exact hz
   ·
    exact h.items x (List.mem_of_mem_drop h2)⟩
end Go.Proofs.Ytojcdmgcbgpdmaa.L6

set_option linter.unusedSimpArgs false
namespace Go.Proofs.Ytojcdmgcbgpdmaa.L6
open L4 (K isK cmpK R inR encU)
open L5 (F isR isN cellsF encR eqR Small)
open Go.ChangeShapes Go.WideShapes Go.ChangeAt Go.RowKit Mem Sl Ex L2 Sv Bag

theorem putI_some {s : S6} {k : K} {l : List F} {i : Nat} (h : isS s = true) (hf : fndO s.items k = some i) : putI s k l = if isS ⟨s.name, s.items.set i ⟨k, l⟩, s.auto⟩ then (⟨s.name, s.items.set i ⟨k, l⟩, s.auto⟩, true) else (s, false) := by
 obtain ⟨h1, h2, h3, h4, h5⟩ := isS_iff.1 h
 obtain ⟨hi, hk⟩ := fndO_some hf
 have e := isI_set h1 i hi l
 rw [hk] at e
 have hkk : isK k = true := by rw [← hk]; exact ((isI_iff.1 h1).1 i hi).1
 have e2 : isS ⟨s.name, s.items.set i ⟨k, l⟩, s.auto⟩ = isR l := by
  unfold isS
  dsimp only
  rw [e, h2, List.length_set, decide_eq_true h3, L1.inB_true.2 ⟨h4, h5⟩, Bool.and_true, Bool.and_true, Bool.and_true]
 rw [e2]
 unfold putI
 rw [h, hkk, hf]
 cases isR l <;> rfl
theorem putI_none {s : S6} {k : K} {l : List F} (h : isS s = true) (hf : fndO s.items k = none) : putI s k l = if isS ⟨s.name, s.items.take (plcI s.items k) ++ ⟨k, l⟩ :: s.items.drop (plcI s.items k), nextAuto s.auto k⟩ then (⟨s.name, s.items.take (plcI s.items k) ++ ⟨k, l⟩ :: s.items.drop (plcI s.items k), nextAuto s.auto k⟩, true) else (s, false) := by
 obtain ⟨h1, h2, h3, h4, h5⟩ := isS_iff.1 h
 have hp := plcI_le s.items k
 cases hg : isK k && isR l with
 | false =>
  have e : isS ⟨s.name, s.items.take (plcI s.items k) ++ ⟨k, l⟩ :: s.items.drop (plcI s.items k), nextAuto s.auto k⟩ = false := by
   unfold isS
   dsimp only
   rw [isI_bad (plcI s.items k) ⟨k, l⟩ (by rw [get_ins _ _ hp, if_neg (Nat.lt_irrefl _), if_pos rfl]) hg, Bool.false_and]
  rw [e]
  unfold putI
  rw [hg, Bool.and_false]
  rfl
 | true =>
  have hkk : isK k = true := by simp only [Bool.and_eq_true] at hg; exact hg.1
  have e : putI s k l = if 16 ≤ s.items.length then (s, false) else (⟨s.name, s.items.take (plcI s.items k) ++ ⟨k, l⟩ :: s.items.drop (plcI s.items k), nextAuto s.auto k⟩, true) := by
   rw [plcI_posI (fndO_cmp h1 hkk hf)]
   unfold putI
   rw [h, hg, hf]
   rfl
  by_cases hl : 16 ≤ s.items.length
  ·
   have e2 : isS ⟨s.name, s.items.take (plcI s.items k) ++ ⟨k, l⟩ :: s.items.drop (plcI s.items k), nextAuto s.auto k⟩ = false := by
    unfold isS
    dsimp only
    rw [decide_eq_false (by simp; omega), Bool.false_and, Bool.and_false, Bool.and_false]
   rw [e, if_pos hl, e2]
   rfl
  ·
   have hv := putI_valid k l h
   rw [e, if_neg hl] at hv
   rw [e, if_neg hl, hv]
   rfl

set_option maxHeartbeats 16000000 in
theorem putItem_any (y : LS) (k0 : K) (ra : Option Addr) (rc : Nat) (rl : List F) (hf : FitS y.con) (hkt : k0.text.size ≤ 1099511627776) (hrl : rl.length ≤ 1048576) (hrs : Small rl) (w : World) (hr : RowsRd w w.heap.size y.rows) (hrr : Reads w w.heap.size ra (cellsF rl)) :
  Calls Try.prog 17 #[y.v, k0.v, .agg #[.slice ra rl.length rc]] w (GaveSB w (putI y.con k0 rl).1 (putI y.con k0 rl).2) := by
 obtain ⟨i0, hi1, hi2, hi3, hi4⟩ := itemInfo
 have HI := Lib.hid (And.intro hi1 (And.intro hi2 (And.intro hi3 hi4)))
 clear hi1 hi2 hi3 hi4
 obtain ⟨pk, pn, pt⟩ := k0
 unfold L4.K.v
 try dsimp only at hkt ⊢
 have HFZ := Lib.hid (show FitI ⟨⟨pk, pn, pt⟩, rl⟩ from ⟨hkt, hrl, hrs⟩)
 have HFY := Lib.hid hf
 have HIS := Lib.hid (fun w' (h : Below w.heap.size w w') => isStore_any y hf w' ((hr.below h).more h.size))
 have HCP := Lib.hid (fun w' (h : Below w.heap.size w w') => copyStore_full y hf w' ((hr.below h).more h.size))
 have HFD := Lib.hid (fun w' (h : Below w.heap.size w w') => findItem_any y ⟨pk, pn, pt⟩ hf w' ((hr.below h).more h.size))
 have HPL := Lib.hid (fun w' (h : Below w.heap.size w w') => placeOf_any y ⟨pk, pn, pt⟩ hf hkt w' ((hr.below h).more h.size))
 have HRC := Lib.hid (fun w' (h : Below w.heap.size w w') => L5.copyRecord_any ra rc rl (by omega) w' ((hrr.below h).more h.size))
 obtain ⟨name, a, c, xs, auto⟩ := y
 have HR := Lib.hid (fun w' (h : Below w.heap.size w w') => LS.outer (hr.below h))
 have HX := Lib.hid (fun w' (h : Below w.heap.size w w') => (LS.inner (hr.below h)).more h.size)
 have HF := Lib.hid hf.items
 have HNM := Lib.hid hf.name
 have hl := hf.len
 simp only [LS.con, conI_length] at hl
 dsimp only [LS.con] at HR HX HF HNM
 try unfold LS.v LS.cells LS.con
 try dsimp only
 obtain ⟨N, hN⟩ : ∃ n, n = xs.length := ⟨_, rfl⟩
 rw [← hN] at hl ⊢
 have hl' : (N : Int) ≤ 1048576 := by omega
 have HN := Lib.hid hN
 clear hN hr hf
 dsimp only [LS.v, LS.cells, LS.con] at HIS HCP HFD HPL HFY
 rw [← HN.out] at HIS HCP HFD HPL
 obtain ⟨M, hM⟩ : ∃ M, M = rl.length := ⟨_, rfl⟩
 rw [← hM] at HRC ⊢
 have HM := Lib.hid hM
 clear hM hrr hrl hrs
 obtain ⟨bs, hbs⟩ : ∃ b, isS ⟨name, conI xs, auto⟩ = b := ⟨_, rfl⟩
 rw [hbs] at HIS
 obtain ⟨res, hres⟩ : ∃ r, putI ⟨name, conI xs, auto⟩ ⟨pk, pn, pt⟩ rl = r := ⟨_, rfl⟩
 rw [hres]
 have HBS := Lib.hid hbs
 have HP := Lib.hid hres
 clear hbs hres
 have S1 := Lib.hid (show Sl.Sep w _ [_, _, _, _] from L4.push_box (L4.push_box (L4.push_box (L4.push_box (Sl.Sep.start w) 26 #[.string name, .slice a N c, .int .i64 auto] (w.heap.size) (by simp)) 28 #[.int .i64 pk, .int .i64 pn, .string pt] (w.heap.size + 1) (by simp)) 31 #[.slice ra M rc] (w.heap.size + 1 + 1) (by simp)) 26 #[.string ⟨#[]⟩, .slice none 0 0, .int .i64 0] (w.heap.size + 1 + 1 + 1) (by simp))
 obtain ⟨wa, hwa⟩ : ∃ u, u = ((((w.alloc (.cells #[.string name, .slice a N c, .int .i64 auto] 26)).alloc (.cells #[.int .i64 pk, .int .i64 pn, .string pt] 28)).alloc (.cells #[.slice ra M rc] 31)).alloc (.cells #[.string ⟨#[]⟩, .slice none 0 0, .int .i64 0] 26)) := ⟨_, rfl⟩
 rw [← hwa] at S1
 go_enter Try.func17, Try.ntmps17
 go_upto_region 1 with fail
 rw [← hwa]
 clear hwa
 have f0 : World.cell? _ ⟨w.heap.size, 0, none⟩ = some (.string name) := Bag.cell_at S1.out 0 rfl 0 rfl
 have f1 : World.cell? _ ⟨w.heap.size, 1, none⟩ = some (.slice a N c) := Bag.cell_at S1.out 0 rfl 1 rfl
 have f2 : World.cell? _ ⟨w.heap.size, 2, none⟩ = some (.int .i64 auto) := Bag.cell_at S1.out 0 rfl 2 rfl
 have f3 : World.cell? _ ⟨w.heap.size + 1, 0, none⟩ = some (.int .i64 pk) := Bag.cell_at S1.out 1 rfl 0 rfl
 have f4 : World.cell? _ ⟨w.heap.size + 1, 1, none⟩ = some (.int .i64 pn) := Bag.cell_at S1.out 1 rfl 1 rfl
 have f5 : World.cell? _ ⟨w.heap.size + 1, 2, none⟩ = some (.string pt) := Bag.cell_at S1.out 1 rfl 2 rfl
 have f6 : World.cell? _ ⟨w.heap.size + 1 + 1, 0, none⟩ = some (.slice ra M rc) := Bag.cell_at S1.out 2 rfl 0 rfl
 have f7 : World.cell? _ ⟨w.heap.size + 1 + 1 + 1, 0, none⟩ = some (.string ⟨#[]⟩) := Bag.cell_at S1.out 3 rfl 0 rfl
 have f8 : World.cell? _ ⟨w.heap.size + 1 + 1 + 1, 1, none⟩ = some (.slice none 0 0) := Bag.cell_at S1.out 3 rfl 1 rfl
 have f9 : World.cell? _ ⟨w.heap.size + 1 + 1 + 1, 2, none⟩ = some (.int .i64 0) := Bag.cell_at S1.out 3 rfl 2 rfl
 go_wp2_with fail
 go_at_call 23
 refine (HIS.out _ S1.out.old).mono ?_
 rintro e w1 ⟨rfl, hb⟩
 clear f0 f1 f2 f3 f4 f5 f6 f7 f8 f9
 have S2 := Lib.hid (show Sl.Sep w _ [_, _, _, _] from S1.out.keep hb)
 clear S1
 clear hb
 have f0 : World.cell? _ ⟨w.heap.size, 0, none⟩ = some (.string name) := Bag.cell_at S2.out 0 rfl 0 rfl
 have f1 : World.cell? _ ⟨w.heap.size, 1, none⟩ = some (.slice a N c) := Bag.cell_at S2.out 0 rfl 1 rfl
 have f2 : World.cell? _ ⟨w.heap.size, 2, none⟩ = some (.int .i64 auto) := Bag.cell_at S2.out 0 rfl 2 rfl
 have f3 : World.cell? _ ⟨w.heap.size + 1, 0, none⟩ = some (.int .i64 pk) := Bag.cell_at S2.out 1 rfl 0 rfl
 have f4 : World.cell? _ ⟨w.heap.size + 1, 1, none⟩ = some (.int .i64 pn) := Bag.cell_at S2.out 1 rfl 1 rfl
 have f5 : World.cell? _ ⟨w.heap.size + 1, 2, none⟩ = some (.string pt) := Bag.cell_at S2.out 1 rfl 2 rfl
 have f6 : World.cell? _ ⟨w.heap.size + 1 + 1, 0, none⟩ = some (.slice ra M rc) := Bag.cell_at S2.out 2 rfl 0 rfl
 have f7 : World.cell? _ ⟨w.heap.size + 1 + 1 + 1, 0, none⟩ = some (.string ⟨#[]⟩) := Bag.cell_at S2.out 3 rfl 0 rfl
 have f8 : World.cell? _ ⟨w.heap.size + 1 + 1 + 1, 1, none⟩ = some (.slice none 0 0) := Bag.cell_at S2.out 3 rfl 1 rfl
 have f9 : World.cell? _ ⟨w.heap.size + 1 + 1 + 1, 2, none⟩ = some (.int .i64 0) := Bag.cell_at S2.out 3 rfl 2 rfl
 cases bs with
 | false =>
  go_wp2_with fail
  go_at_call 80
  refine (HCP.out _ S2.out.old).mono ?_
  rintro e w2 ⟨g9, ys9, rfl, hcon, ho, hb⟩
  clear f0 f1 f2 f3 f4 f5 f6 f7 f8 f9
  have S3 := Lib.hid (show Sl.Sep w _ [_, _, _, _, Bag.bag (rowI (some ⟨g9, 0, none⟩) ys9.length ys9 :: rowsI ys9)] from Bag.push_bag S2.out hb ho)
  clear S2
  clear hb ho
  have HCON9 := Lib.hid hcon
  clear hcon
  dsimp only at HCON9 ⊢
  have f0 : World.cell? _ ⟨w.heap.size + 1 + 1 + 1, 0, none⟩ = some (.string ⟨#[]⟩) := Bag.cell_at S3.out 3 rfl 0 rfl
  have f1 : World.cell? _ ⟨w.heap.size + 1 + 1 + 1, 1, none⟩ = some (.slice none 0 0) := Bag.cell_at S3.out 3 rfl 1 rfl
  have f2 : World.cell? _ ⟨w.heap.size + 1 + 1 + 1, 2, none⟩ = some (.int .i64 0) := Bag.cell_at S3.out 3 rfl 2 rfl
  have z0 := Bag.free_at S3.out 3 rfl 0
  have z1 := Bag.free_at S3.out 3 rfl 1
  have z2 := Bag.free_at S3.out 3 rfl 2
  go_wp2_with fail
  clear f0 f1 f2 z0 z1 z2
  have S4 := Lib.hid (show Sl.Sep w _ [_, _, _, L4.boxR (w.heap.size + 1 + 1 + 1) 26 #[.string name, .slice (some ⟨g9, 0, none⟩) ys9.length ys9.length, .int .i64 auto], _] from L5.put_box5 (L5.put_box5 (L5.put_box5 (S3.out) 3 rfl 0 (.string name)) 3 rfl 1 (.slice (some ⟨g9, 0, none⟩) ys9.length ys9.length)) 3 rfl 2 (.int .i64 auto))
  clear S3
  have f0 : World.cell? _ ⟨w.heap.size + 1 + 1 + 1, 0, none⟩ = some (.string name) := Bag.cell_at S4.out 3 rfl 0 rfl
  have f1 : World.cell? _ ⟨w.heap.size + 1 + 1 + 1, 1, none⟩ = some (.slice (some ⟨g9, 0, none⟩) ys9.length ys9.length) := Bag.cell_at S4.out 3 rfl 1 rfl
  have f2 : World.cell? _ ⟨w.heap.size + 1 + 1 + 1, 2, none⟩ = some (.int .i64 auto) := Bag.cell_at S4.out 3 rfl 2 rfl
  refine bodyPost_ret (v := .tuple #[.agg #[.string name, .slice (some ⟨g9, 0, none⟩) ys9.length ys9.length, .int .i64 auto], .bool false]) (by simp [results, Try.results17, go_sem, *]) rfl ?_
  have HE := Lib.hid (show res = (⟨name, conI xs, auto⟩, false) from by rw [← HP.out]; unfold putI; rw [HBS.out]; rfl)
  exact ⟨⟨name, some ⟨g9, 0, none⟩, ys9.length, ys9, auto⟩, by rw [HE.out]; rfl, by rw [HE.out]; unfold LS.con; dsimp only; rw [HCON9.out], Bag.bag_from S4.out 4 rfl, S4.out.old⟩
 | true =>
  go_wp2_with fail
  go_at_call 80
  refine (HCP.out _ S2.out.old).mono ?_
  rintro e w2 ⟨g3, ys3, rfl, hcon, ho, hb⟩
  clear f0 f1 f2 f3 f4 f5 f6 f7 f8 f9
  have S3 := Lib.hid (show Sl.Sep w _ [_, _, _, _, Bag.bag (rowI (some ⟨g3, 0, none⟩) ys3.length ys3 :: rowsI ys3)] from Bag.push_bag S2.out hb ho)
  clear S2
  clear hb ho
  have HCON3 := Lib.hid hcon
  clear hcon
  dsimp only at HCON3 ⊢
  have hyl : ys3.length = N := by have h := congrArg List.length HCON3.out; simp only [conI_length] at h; rw [h]; exact HN.out.symm
  have HV16 := Lib.hid (show N ≤ 16 ∧ 0 ≤ auto ∧ auto ≤ 1000000 from by have h := (isS_iff.1 HBS.out).2.2; dsimp only at h; rw [conI_length, ← HN.out] at h; exact h)
  have f0 : World.cell? _ ⟨w.heap.size, 0, none⟩ = some (.string name) := Bag.cell_at S3.out 0 rfl 0 rfl
  have f1 : World.cell? _ ⟨w.heap.size, 1, none⟩ = some (.slice a N c) := Bag.cell_at S3.out 0 rfl 1 rfl
  have f2 : World.cell? _ ⟨w.heap.size, 2, none⟩ = some (.int .i64 auto) := Bag.cell_at S3.out 0 rfl 2 rfl
  have f3 : World.cell? _ ⟨w.heap.size + 1, 0, none⟩ = some (.int .i64 pk) := Bag.cell_at S3.out 1 rfl 0 rfl
  have f4 : World.cell? _ ⟨w.heap.size + 1, 1, none⟩ = some (.int .i64 pn) := Bag.cell_at S3.out 1 rfl 1 rfl
  have f5 : World.cell? _ ⟨w.heap.size + 1, 2, none⟩ = some (.string pt) := Bag.cell_at S3.out 1 rfl 2 rfl
  have f6 : World.cell? _ ⟨w.heap.size + 1 + 1, 0, none⟩ = some (.slice ra M rc) := Bag.cell_at S3.out 2 rfl 0 rfl
  have f7 : World.cell? _ ⟨w.heap.size + 1 + 1 + 1, 0, none⟩ = some (.string ⟨#[]⟩) := Bag.cell_at S3.out 3 rfl 0 rfl
  have f8 : World.cell? _ ⟨w.heap.size + 1 + 1 + 1, 1, none⟩ = some (.slice none 0 0) := Bag.cell_at S3.out 3 rfl 1 rfl
  have f9 : World.cell? _ ⟨w.heap.size + 1 + 1 + 1, 2, none⟩ = some (.int .i64 0) := Bag.cell_at S3.out 3 rfl 2 rfl
  rw [hyl]
  go_upto_region 4 with fail
  clear f0 f1 f2 f3 f4 f5 f6 f7 f8 f9
  have S4 := Lib.hid (show Sl.Sep w _ [_, _, _, _, _, _] from L4.push_box S3.out 26 #[.string name, .slice (some ⟨g3, 0, none⟩) N N, .int .i64 auto] w2.heap.size rfl)
  clear S3
  obtain ⟨g1, hg⟩ : ∃ g', g' = w2.heap.size := ⟨_, rfl⟩
  rw [← hg] at S4 ⊢
  clear hg
  generalize w2.alloc (.cells #[.string name, .slice (some ⟨g3, 0, none⟩) N N, .int .i64 auto] 26) = w3 at S4 ⊢
  have S5 := Lib.hid (show Sl.Sep w _ [_, _, _, _, Bag.bag ([rowI (some ⟨g3, 0, none⟩) ys3.length ys3] ++ rowsI ys3), L4.boxR g1 26 #[.string name, .slice (some ⟨g3, 0, none⟩) N N, .int .i64 auto]] from S4.out)
  clear S4
  have S6 := Lib.hid (show Sl.Sep w _ [_, _, _, _, Bag.bag ([rowI (some ⟨g3, 0, none⟩) ys3.length ys3]), _, Bag.bag (rowsI ys3)] from Bag.bag_split S5.out 4 rfl)
  clear S5
  have S7 := Lib.hid (show Sl.Sep w _ [_, _, _, _, Sv.ownV 40 4 (some ⟨g3, 0, none⟩) N N (cellsI ys3), _, _] from (by have h := Bag.one_of_bag S6.out 4 (r := rowI (some ⟨g3, 0, none⟩) ys3.length ys3) rfl; unfold RowS.res rowI at h; dsimp only at h; rw [hyl] at h; exact h))
  clear S6
  have f0 : World.cell? _ ⟨w.heap.size, 0, none⟩ = some (.string name) := Bag.cell_at S7.out 0 rfl 0 rfl
  have f1 : World.cell? _ ⟨w.heap.size, 1, none⟩ = some (.slice a N c) := Bag.cell_at S7.out 0 rfl 1 rfl
  have f2 : World.cell? _ ⟨w.heap.size, 2, none⟩ = some (.int .i64 auto) := Bag.cell_at S7.out 0 rfl 2 rfl
  have f3 : World.cell? _ ⟨w.heap.size + 1, 0, none⟩ = some (.int .i64 pk) := Bag.cell_at S7.out 1 rfl 0 rfl
  have f4 : World.cell? _ ⟨w.heap.size + 1, 1, none⟩ = some (.int .i64 pn) := Bag.cell_at S7.out 1 rfl 1 rfl
  have f5 : World.cell? _ ⟨w.heap.size + 1, 2, none⟩ = some (.string pt) := Bag.cell_at S7.out 1 rfl 2 rfl
  have f6 : World.cell? _ ⟨w.heap.size + 1 + 1, 0, none⟩ = some (.slice ra M rc) := Bag.cell_at S7.out 2 rfl 0 rfl
  have f7 : World.cell? _ ⟨w.heap.size + 1 + 1 + 1, 0, none⟩ = some (.string ⟨#[]⟩) := Bag.cell_at S7.out 3 rfl 0 rfl
  have f8 : World.cell? _ ⟨w.heap.size + 1 + 1 + 1, 1, none⟩ = some (.slice none 0 0) := Bag.cell_at S7.out 3 rfl 1 rfl
  have f9 : World.cell? _ ⟨w.heap.size + 1 + 1 + 1, 2, none⟩ = some (.int .i64 0) := Bag.cell_at S7.out 3 rfl 2 rfl
  have f10 : World.cell? _ ⟨g1, 0, none⟩ = some (.string name) := Bag.cell_at S7.out 5 rfl 0 rfl
  have f11 : World.cell? _ ⟨g1, 1, none⟩ = some (.slice (some ⟨g3, 0, none⟩) N N) := Bag.cell_at S7.out 5 rfl 1 rfl
  have f12 : World.cell? _ ⟨g1, 2, none⟩ = some (.int .i64 auto) := Bag.cell_at S7.out 5 rfl 2 rfl
  obtain ⟨fi, hfi⟩ : ∃ i, fndI (conI xs) ⟨pk, pn, pt⟩ = i := ⟨_, rfl⟩
  rw [hfi] at HFD
  have HFI := Lib.hid hfi
  clear hfi
  go_wp2_with fail
  go_at_call 20
  refine (HFD.out _ S7.out.old).mono ?_
  rintro e w4 ⟨rfl, hb⟩
  clear f0 f1 f2 f3 f4 f5 f6 f7 f8 f9 f10 f11 f12
  have S8 := Lib.hid (show Sl.Sep w _ [_, _, _, _, _, _, _] from S7.out.keep hb)
  clear S7
  clear hb
  have f0 : World.cell? _ ⟨w.heap.size, 0, none⟩ = some (.string name) := Bag.cell_at S8.out 0 rfl 0 rfl
  have f1 : World.cell? _ ⟨w.heap.size, 1, none⟩ = some (.slice a N c) := Bag.cell_at S8.out 0 rfl 1 rfl
  have f2 : World.cell? _ ⟨w.heap.size, 2, none⟩ = some (.int .i64 auto) := Bag.cell_at S8.out 0 rfl 2 rfl
  have f3 : World.cell? _ ⟨w.heap.size + 1, 0, none⟩ = some (.int .i64 pk) := Bag.cell_at S8.out 1 rfl 0 rfl
  have f4 : World.cell? _ ⟨w.heap.size + 1, 1, none⟩ = some (.int .i64 pn) := Bag.cell_at S8.out 1 rfl 1 rfl
  have f5 : World.cell? _ ⟨w.heap.size + 1, 2, none⟩ = some (.string pt) := Bag.cell_at S8.out 1 rfl 2 rfl
  have f6 : World.cell? _ ⟨w.heap.size + 1 + 1, 0, none⟩ = some (.slice ra M rc) := Bag.cell_at S8.out 2 rfl 0 rfl
  have f7 : World.cell? _ ⟨w.heap.size + 1 + 1 + 1, 0, none⟩ = some (.string ⟨#[]⟩) := Bag.cell_at S8.out 3 rfl 0 rfl
  have f8 : World.cell? _ ⟨w.heap.size + 1 + 1 + 1, 1, none⟩ = some (.slice none 0 0) := Bag.cell_at S8.out 3 rfl 1 rfl
  have f9 : World.cell? _ ⟨w.heap.size + 1 + 1 + 1, 2, none⟩ = some (.int .i64 0) := Bag.cell_at S8.out 3 rfl 2 rfl
  have f10 : World.cell? _ ⟨g1, 0, none⟩ = some (.string name) := Bag.cell_at S8.out 5 rfl 0 rfl
  have f11 : World.cell? _ ⟨g1, 1, none⟩ = some (.slice (some ⟨g3, 0, none⟩) N N) := Bag.cell_at S8.out 5 rfl 1 rfl
  have f12 : World.cell? _ ⟨g1, 2, none⟩ = some (.int .i64 auto) := Bag.cell_at S8.out 5 rfl 2 rfl
  cases hfo : fndO (conI xs) ⟨pk, pn, pt⟩ with
  | some i =>
   have hfi2 : fi = (i : Int) := by have h := HFI.out; unfold fndI at h; rw [hfo] at h; exact h.symm
   obtain ⟨hi, hki⟩ := fndO_some hfo
   subst hfi2
   have hiN : i < N := by rw [conI_length] at hi; have := HN.out; omega
   have hiy : i < ys3.length := by omega
   have HE := Lib.hid (putI_some (l := rl) HBS.out hfo)
   dsimp only at HE
   have HKI := Lib.hid (show ys3[i].k = ⟨pk, pn, pt⟩ from by have h1 := con_of (List.getElem?_eq_getElem hiy); rw [HCON3.out, List.getElem?_eq_getElem hi] at h1; have h2 := Option.some.inj h1; rw [h2] at hki; exact hki)
   clear hfo hki hi
   have hii : ((i : Nat) : Int) < (N : Int) := by omega
   clear f0 f1 f2 f3 f4 f5 f6 f7 f8 f9 f10 f11 f12
   have f0 : World.cell? _ ⟨w.heap.size, 0, none⟩ = some (.string name) := Bag.cell_at S8.out 0 rfl 0 rfl
   have f1 : World.cell? _ ⟨w.heap.size, 1, none⟩ = some (.slice a N c) := Bag.cell_at S8.out 0 rfl 1 rfl
   have f2 : World.cell? _ ⟨w.heap.size, 2, none⟩ = some (.int .i64 auto) := Bag.cell_at S8.out 0 rfl 2 rfl
   have f3 : World.cell? _ ⟨w.heap.size + 1, 0, none⟩ = some (.int .i64 pk) := Bag.cell_at S8.out 1 rfl 0 rfl
   have f4 : World.cell? _ ⟨w.heap.size + 1, 1, none⟩ = some (.int .i64 pn) := Bag.cell_at S8.out 1 rfl 1 rfl
   have f5 : World.cell? _ ⟨w.heap.size + 1, 2, none⟩ = some (.string pt) := Bag.cell_at S8.out 1 rfl 2 rfl
   have f6 : World.cell? _ ⟨w.heap.size + 1 + 1, 0, none⟩ = some (.slice ra M rc) := Bag.cell_at S8.out 2 rfl 0 rfl
   have f7 : World.cell? _ ⟨w.heap.size + 1 + 1 + 1, 0, none⟩ = some (.string ⟨#[]⟩) := Bag.cell_at S8.out 3 rfl 0 rfl
   have f8 : World.cell? _ ⟨w.heap.size + 1 + 1 + 1, 1, none⟩ = some (.slice none 0 0) := Bag.cell_at S8.out 3 rfl 1 rfl
   have f9 : World.cell? _ ⟨w.heap.size + 1 + 1 + 1, 2, none⟩ = some (.int .i64 0) := Bag.cell_at S8.out 3 rfl 2 rfl
   have f10 : World.cell? _ ⟨g1, 0, none⟩ = some (.string name) := Bag.cell_at S8.out 5 rfl 0 rfl
   have f11 : World.cell? _ ⟨g1, 1, none⟩ = some (.slice (some ⟨g3, 0, none⟩) N N) := Bag.cell_at S8.out 5 rfl 1 rfl
   have f12 : World.cell? _ ⟨g1, 2, none⟩ = some (.int .i64 auto) := Bag.cell_at S8.out 5 rfl 2 rfl
   go_upto_region 6 with fail
   clear f0 f1 f2 f3 f4 f5 f6 f7 f8 f9 f10 f11 f12
   refine wp_region_held_drew (S := (fun w' => w'.cell? ⟨w.heap.size + 1 + 1, 0, none⟩ = some (.slice ra M rc) ∧ w'.cell? ⟨g1, 0, none⟩ = some (.string name) ∧ w'.cell? ⟨g1, 1, none⟩ = some (.slice (some ⟨g3, 0, none⟩) N N) ∧ w'.cell? ⟨g1, 2, none⟩ = some (.int .i64 auto))) (by kernel_rfl) ⟨Bag.cell_at S8.out 2 rfl 0 rfl, Bag.cell_at S8.out 5 rfl 0 rfl, Bag.cell_at S8.out 5 rfl 1 rfl, Bag.cell_at S8.out 5 rfl 2 rfl⟩ (fun hS => ?_)
   have S9 := Lib.hid (Bag.drew1 S8.out)
   clear S8
   generalize World.drew _ = w5 at hS S9 ⊢
   refine tk 0 rfl ?_
   try simp only [zp0, zp1, zp2, zp3, zp4]
   refine tk 1 rfl ?_
   try simp only [zp0, zp1, zp2, zp3, zp4]
   refine tk 2 rfl ?_
   try simp only [zp0, zp1, zp2, zp3, zp4]
   refine tk 3 rfl ?_
   try simp only [zp0, zp1, zp2, zp3, zp4]
   refine Reg.one_op (i := 4) rfl (by kernel_rfl) (fun K hK => ?_)
   go_simp
   go_at_call 81
   refine (HRC.out _ S9.out.old).mono ?_
   rintro e w6 ⟨a1, c1, rfl, ho, hb⟩
   have S10 := Lib.hid (show Sl.Sep w _ [_, _, _, _, _, _, _, Sv.ownV 128 2 a1 c1 M (cellsF rl)] from Sv.push_own S9.out hb ho)
   clear S9
   clear hb ho
   go_wp2_with fail
   refine hK.out _ _ ⟨Bag.cell_at S10.out 2 rfl 0 rfl, Bag.cell_at S10.out 5 rfl 0 rfl, Bag.cell_at S10.out 5 rfl 1 rfl, Bag.cell_at S10.out 5 rfl 2 rfl⟩ (fun hS => ?_)
   clear hK K
   try simp only [zp0, zp1, zp2, zp3, zp4]
   refine tk 5 rfl ?_
   try simp only [zp0, zp1, zp2, zp3, zp4]
   refine tk 6 rfl ?_
   try simp only [zp0, zp1, zp2, zp3, zp4]
   refine Reg.one_op (i := 7) rfl (by kernel_rfl) (fun K hK => ?_)
   have q0 := (Sv.own_at S10.out 4 rfl).cell (i * 4 + 3) (by rw [cellsI_length]; omega)
   have q1 := (Sv.own_at S10.out 4 rfl).free (i * 4 + 3)
   go_simp
   clear q0 q1
   have S11 := Lib.hid (show Sl.Sep w (w6.setCell ⟨g3, i * 4 + 3, none⟩ (.slice a1 M c1)) [_, _, _, _, Sv.ownV 40 4 (some ⟨g3, 0, none⟩) N N (cellsI (ys3.set i ⟨ys3[i].k, a1, c1, rl⟩)), _, _, _] from (by have h := Sv.set_own S10.out 4 rfl (i * 4 + 3) (by rw [cellsI_length]; omega) (.slice a1 M c1); rw [cellsI_set3m ys3 i hiy a1 c1 rl M HM.out] at h; exact h))
   clear S10
   refine hK.out _ _ ⟨Bag.cell_at S11.out 2 rfl 0 rfl, Bag.cell_at S11.out 5 rfl 0 rfl, Bag.cell_at S11.out 5 rfl 1 rfl, Bag.cell_at S11.out 5 rfl 2 rfl⟩ (fun hS => ?_)
   clear hK K
   try simp only [zp0, zp1, zp2, zp3, zp4]
   refine wpAnyH_done (by kernel_rfl) ?_ _
   have f0 : World.cell? _ ⟨w.heap.size, 0, none⟩ = some (.string name) := Bag.cell_at S11.out 0 rfl 0 rfl
   have f1 : World.cell? _ ⟨w.heap.size, 1, none⟩ = some (.slice a N c) := Bag.cell_at S11.out 0 rfl 1 rfl
   have f2 : World.cell? _ ⟨w.heap.size, 2, none⟩ = some (.int .i64 auto) := Bag.cell_at S11.out 0 rfl 2 rfl
   have f3 : World.cell? _ ⟨w.heap.size + 1, 0, none⟩ = some (.int .i64 pk) := Bag.cell_at S11.out 1 rfl 0 rfl
   have f4 : World.cell? _ ⟨w.heap.size + 1, 1, none⟩ = some (.int .i64 pn) := Bag.cell_at S11.out 1 rfl 1 rfl
   have f5 : World.cell? _ ⟨w.heap.size + 1, 2, none⟩ = some (.string pt) := Bag.cell_at S11.out 1 rfl 2 rfl
   have f6 : World.cell? _ ⟨w.heap.size + 1 + 1, 0, none⟩ = some (.slice ra M rc) := Bag.cell_at S11.out 2 rfl 0 rfl
   have f7 : World.cell? _ ⟨w.heap.size + 1 + 1 + 1, 0, none⟩ = some (.string ⟨#[]⟩) := Bag.cell_at S11.out 3 rfl 0 rfl
   have f8 : World.cell? _ ⟨w.heap.size + 1 + 1 + 1, 1, none⟩ = some (.slice none 0 0) := Bag.cell_at S11.out 3 rfl 1 rfl
   have f9 : World.cell? _ ⟨w.heap.size + 1 + 1 + 1, 2, none⟩ = some (.int .i64 0) := Bag.cell_at S11.out 3 rfl 2 rfl
   have f10 : World.cell? _ ⟨g1, 0, none⟩ = some (.string name) := Bag.cell_at S11.out 5 rfl 0 rfl
   have f11 : World.cell? _ ⟨g1, 1, none⟩ = some (.slice (some ⟨g3, 0, none⟩) N N) := Bag.cell_at S11.out 5 rfl 1 rfl
   have f12 : World.cell? _ ⟨g1, 2, none⟩ = some (.int .i64 auto) := Bag.cell_at S11.out 5 rfl 2 rfl
   clear f0 f1 f2 f3 f4 f5 f6 f7 f8 f9 f10 f11 f12
   have S12 := Lib.hid (show Sl.Sep w _ [_, _, _, _, _, _, _, Bag.bag ([(LI.mk ys3[i].k a1 c1 rl).row])] from Bag.bag_of_one S11.out 7 (r := (LI.mk ys3[i].k a1 c1 rl).row) (by show some _ = some _; rw [HM.out]; rfl))
   clear S11
   have S13 := Lib.hid (show Sl.Sep w _ [_, _, _, _, _, _, Bag.bag (rowsI ys3 ++ ([(LI.mk ys3[i].k a1 c1 rl).row])), Bag.bag ([])] from Bag.bag_join S12.out 6 7 (by decide) rfl rfl)
   clear S12
   have S14 := Lib.hid (show Sl.Sep w _ [_, _, _, _, _, _, Bag.bag (rowsI (ys3.set i ⟨ys3[i].k, a1, c1, rl⟩)), Bag.bag ([])] from (by rw [rowsI_set]; exact bag_swap S13.out 6 rfl i (by unfold rowsI; rw [List.length_map]; exact hiy)))
   clear S13
   have S15 := Lib.hid (show Sl.Sep w _ [_, _, _, _, Bag.bag ([rowI (some ⟨g3, 0, none⟩) N (ys3.set i ⟨ys3[i].k, a1, c1, rl⟩)]), _, _, Bag.bag ([])] from Bag.bag_of_one S14.out 4 (r := rowI (some ⟨g3, 0, none⟩) N (ys3.set i ⟨ys3[i].k, a1, c1, rl⟩)) (by unfold RowS.res rowI; dsimp only; rw [List.length_set, hyl]; rfl))
   clear S14
   have S16 := Lib.hid (show Sl.Sep w _ [_, _, _, _, Bag.bag ([rowI (some ⟨g3, 0, none⟩) N (ys3.set i ⟨ys3[i].k, a1, c1, rl⟩)] ++ (rowsI (ys3.set i ⟨ys3[i].k, a1, c1, rl⟩))), _, Bag.bag ([]), Bag.bag ([])] from Bag.bag_join S15.out 4 6 (by decide) rfl rfl)
   clear S15
   have S17 := Lib.hid (show Sl.Sep w _ [_, _, _, _, Bag.bag (LS.rows (LS.mk name (some ⟨g3, 0, none⟩) N (ys3.set i ⟨ys3[i].k, a1, c1, rl⟩) auto)), _] from Bag.take S16.out [0, 1, 2, 3, 4, 5] (by rfl) (by decide))
   clear S16
   have HC2 := Lib.hid (show LS.con (LS.mk name (some ⟨g3, 0, none⟩) N (ys3.set i ⟨ys3[i].k, a1, c1, rl⟩) auto) = ⟨name, (conI xs).set i ⟨⟨pk, pn, pt⟩, rl⟩, auto⟩ from by unfold LS.con; dsimp only; rw [conI_set, HCON3.out]; unfold LI.con; dsimp only; rw [HKI.out])
   have hfit : FitS (LS.con (LS.mk name (some ⟨g3, 0, none⟩) N (ys3.set i ⟨ys3[i].k, a1, c1, rl⟩) auto)) := (by rw [HC2.out]; exact HFY.out.set i _ HFZ.out)
   have HIS2 := Lib.hid (fun w' (h : RowsRd w' w'.heap.size (LS.rows (LS.mk name (some ⟨g3, 0, none⟩) N (ys3.set i ⟨ys3[i].k, a1, c1, rl⟩) auto))) => isStore_any (LS.mk name (some ⟨g3, 0, none⟩) N (ys3.set i ⟨ys3[i].k, a1, c1, rl⟩) auto) hfit w' h)
   obtain ⟨bs2, hbs2⟩ : ∃ b, isS (LS.con (LS.mk name (some ⟨g3, 0, none⟩) N (ys3.set i ⟨ys3[i].k, a1, c1, rl⟩) auto)) = b := ⟨_, rfl⟩
   rw [hbs2] at HIS2
   have HBS2 := Lib.hid hbs2
   clear hbs2 hfit
   dsimp only [LS.v, LS.cells] at HIS2
   rw [List.length_set, hyl] at HIS2
   have f0 : World.cell? _ ⟨w.heap.size, 0, none⟩ = some (.string name) := Bag.cell_at S17.out 0 rfl 0 rfl
   have f1 : World.cell? _ ⟨w.heap.size, 1, none⟩ = some (.slice a N c) := Bag.cell_at S17.out 0 rfl 1 rfl
   have f2 : World.cell? _ ⟨w.heap.size, 2, none⟩ = some (.int .i64 auto) := Bag.cell_at S17.out 0 rfl 2 rfl
   have f3 : World.cell? _ ⟨w.heap.size + 1, 0, none⟩ = some (.int .i64 pk) := Bag.cell_at S17.out 1 rfl 0 rfl
   have f4 : World.cell? _ ⟨w.heap.size + 1, 1, none⟩ = some (.int .i64 pn) := Bag.cell_at S17.out 1 rfl 1 rfl
   have f5 : World.cell? _ ⟨w.heap.size + 1, 2, none⟩ = some (.string pt) := Bag.cell_at S17.out 1 rfl 2 rfl
   have f6 : World.cell? _ ⟨w.heap.size + 1 + 1, 0, none⟩ = some (.slice ra M rc) := Bag.cell_at S17.out 2 rfl 0 rfl
   have f7 : World.cell? _ ⟨w.heap.size + 1 + 1 + 1, 0, none⟩ = some (.string ⟨#[]⟩) := Bag.cell_at S17.out 3 rfl 0 rfl
   have f8 : World.cell? _ ⟨w.heap.size + 1 + 1 + 1, 1, none⟩ = some (.slice none 0 0) := Bag.cell_at S17.out 3 rfl 1 rfl
   have f9 : World.cell? _ ⟨w.heap.size + 1 + 1 + 1, 2, none⟩ = some (.int .i64 0) := Bag.cell_at S17.out 3 rfl 2 rfl
   have f10 : World.cell? _ ⟨g1, 0, none⟩ = some (.string name) := Bag.cell_at S17.out 5 rfl 0 rfl
   have f11 : World.cell? _ ⟨g1, 1, none⟩ = some (.slice (some ⟨g3, 0, none⟩) N N) := Bag.cell_at S17.out 5 rfl 1 rfl
   have f12 : World.cell? _ ⟨g1, 2, none⟩ = some (.int .i64 auto) := Bag.cell_at S17.out 5 rfl 2 rfl
   go_wp2_with fail
   go_at_call 23
   refine (HIS2.out _ (Bag.bag_rd S17.out 4 rfl)).mono ?_
   rintro e w7 ⟨rfl, hb⟩
   clear f0 f1 f2 f3 f4 f5 f6 f7 f8 f9 f10 f11 f12
   have S18 := Lib.hid (show Sl.Sep w _ [_, _, _, _, _, _] from S17.out.keep hb)
   clear S17
   clear hb
   have f0 : World.cell? _ ⟨w.heap.size, 0, none⟩ = some (.string name) := Bag.cell_at S18.out 0 rfl 0 rfl
   have f1 : World.cell? _ ⟨w.heap.size, 1, none⟩ = some (.slice a N c) := Bag.cell_at S18.out 0 rfl 1 rfl
   have f2 : World.cell? _ ⟨w.heap.size, 2, none⟩ = some (.int .i64 auto) := Bag.cell_at S18.out 0 rfl 2 rfl
   have f3 : World.cell? _ ⟨w.heap.size + 1, 0, none⟩ = some (.int .i64 pk) := Bag.cell_at S18.out 1 rfl 0 rfl
   have f4 : World.cell? _ ⟨w.heap.size + 1, 1, none⟩ = some (.int .i64 pn) := Bag.cell_at S18.out 1 rfl 1 rfl
   have f5 : World.cell? _ ⟨w.heap.size + 1, 2, none⟩ = some (.string pt) := Bag.cell_at S18.out 1 rfl 2 rfl
   have f6 : World.cell? _ ⟨w.heap.size + 1 + 1, 0, none⟩ = some (.slice ra M rc) := Bag.cell_at S18.out 2 rfl 0 rfl
   have f7 : World.cell? _ ⟨w.heap.size + 1 + 1 + 1, 0, none⟩ = some (.string ⟨#[]⟩) := Bag.cell_at S18.out 3 rfl 0 rfl
   have f8 : World.cell? _ ⟨w.heap.size + 1 + 1 + 1, 1, none⟩ = some (.slice none 0 0) := Bag.cell_at S18.out 3 rfl 1 rfl
   have f9 : World.cell? _ ⟨w.heap.size + 1 + 1 + 1, 2, none⟩ = some (.int .i64 0) := Bag.cell_at S18.out 3 rfl 2 rfl
   have f10 : World.cell? _ ⟨g1, 0, none⟩ = some (.string name) := Bag.cell_at S18.out 5 rfl 0 rfl
   have f11 : World.cell? _ ⟨g1, 1, none⟩ = some (.slice (some ⟨g3, 0, none⟩) N N) := Bag.cell_at S18.out 5 rfl 1 rfl
   have f12 : World.cell? _ ⟨g1, 2, none⟩ = some (.int .i64 auto) := Bag.cell_at S18.out 5 rfl 2 rfl
   have HRES := Lib.hid (show res = if bs2 then (LS.con (LS.mk name (some ⟨g3, 0, none⟩) N (ys3.set i ⟨ys3[i].k, a1, c1, rl⟩) auto), true) else (⟨name, conI xs, auto⟩, false) from by rw [← HP.out, ← HBS2.out]; rw [HC2.out]; exact HE.out)
   cases bs2 with
   | false =>
    go_wp2_with fail
    go_at_call 80
    refine (HCP.out _ S18.out.old).mono ?_
    rintro e w8 ⟨g9, ys9, rfl, hcon, ho, hb⟩
    clear f0 f1 f2 f3 f4 f5 f6 f7 f8 f9 f10 f11 f12
    have S19 := Lib.hid (show Sl.Sep w _ [_, _, _, _, _, _, Bag.bag (rowI (some ⟨g9, 0, none⟩) ys9.length ys9 :: rowsI ys9)] from Bag.push_bag S18.out hb ho)
    clear S18
    clear hb ho
    have HCON9 := Lib.hid hcon
    clear hcon
    dsimp only at HCON9 ⊢
    have f0 : World.cell? _ ⟨w.heap.size + 1 + 1 + 1, 0, none⟩ = some (.string ⟨#[]⟩) := Bag.cell_at S19.out 3 rfl 0 rfl
    have f1 : World.cell? _ ⟨w.heap.size + 1 + 1 + 1, 1, none⟩ = some (.slice none 0 0) := Bag.cell_at S19.out 3 rfl 1 rfl
    have f2 : World.cell? _ ⟨w.heap.size + 1 + 1 + 1, 2, none⟩ = some (.int .i64 0) := Bag.cell_at S19.out 3 rfl 2 rfl
    have z0 := Bag.free_at S19.out 3 rfl 0
    have z1 := Bag.free_at S19.out 3 rfl 1
    have z2 := Bag.free_at S19.out 3 rfl 2
    go_wp2_with fail
    clear f0 f1 f2 z0 z1 z2
    have S20 := Lib.hid (show Sl.Sep w _ [_, _, _, L4.boxR (w.heap.size + 1 + 1 + 1) 26 #[.string name, .slice (some ⟨g9, 0, none⟩) ys9.length ys9.length, .int .i64 auto], _, _, _] from L5.put_box5 (L5.put_box5 (L5.put_box5 (S19.out) 3 rfl 0 (.string name)) 3 rfl 1 (.slice (some ⟨g9, 0, none⟩) ys9.length ys9.length)) 3 rfl 2 (.int .i64 auto))
    clear S19
    have f0 : World.cell? _ ⟨w.heap.size + 1 + 1 + 1, 0, none⟩ = some (.string name) := Bag.cell_at S20.out 3 rfl 0 rfl
    have f1 : World.cell? _ ⟨w.heap.size + 1 + 1 + 1, 1, none⟩ = some (.slice (some ⟨g9, 0, none⟩) ys9.length ys9.length) := Bag.cell_at S20.out 3 rfl 1 rfl
    have f2 : World.cell? _ ⟨w.heap.size + 1 + 1 + 1, 2, none⟩ = some (.int .i64 auto) := Bag.cell_at S20.out 3 rfl 2 rfl
    refine bodyPost_ret (v := .tuple #[.agg #[.string name, .slice (some ⟨g9, 0, none⟩) ys9.length ys9.length, .int .i64 auto], .bool false]) (by simp [results, Try.results17, go_sem, *]) rfl ?_
    have HE := Lib.hid (show res = (⟨name, conI xs, auto⟩, false) from by rw [← HP.out]; rw [HP.out, HRES.out]; rfl)
    exact ⟨⟨name, some ⟨g9, 0, none⟩, ys9.length, ys9, auto⟩, by rw [HE.out]; rfl, by rw [HE.out]; unfold LS.con; dsimp only; rw [HCON9.out], Bag.bag_from S20.out 6 rfl, S20.out.old⟩
   | true =>
    clear f0 f1 f2 f3 f4 f5 f6 f7 f8 f9 f10 f11 f12
    have f0 : World.cell? _ ⟨w.heap.size + 1 + 1 + 1, 0, none⟩ = some (.string ⟨#[]⟩) := Bag.cell_at S18.out 3 rfl 0 rfl
    have f1 : World.cell? _ ⟨w.heap.size + 1 + 1 + 1, 1, none⟩ = some (.slice none 0 0) := Bag.cell_at S18.out 3 rfl 1 rfl
    have f2 : World.cell? _ ⟨w.heap.size + 1 + 1 + 1, 2, none⟩ = some (.int .i64 0) := Bag.cell_at S18.out 3 rfl 2 rfl
    have f3 : World.cell? _ ⟨g1, 0, none⟩ = some (.string name) := Bag.cell_at S18.out 5 rfl 0 rfl
    have f4 : World.cell? _ ⟨g1, 1, none⟩ = some (.slice (some ⟨g3, 0, none⟩) N N) := Bag.cell_at S18.out 5 rfl 1 rfl
    have f5 : World.cell? _ ⟨g1, 2, none⟩ = some (.int .i64 auto) := Bag.cell_at S18.out 5 rfl 2 rfl
    have z0 := Bag.free_at S18.out 3 rfl 0
    have z1 := Bag.free_at S18.out 3 rfl 1
    have z2 := Bag.free_at S18.out 3 rfl 2
    go_wp2_with fail
    clear f0 f1 f2 f3 f4 f5 z0 z1 z2
    have S19 := Lib.hid (show Sl.Sep w _ [_, _, _, L4.boxR (w.heap.size + 1 + 1 + 1) 26 #[.string name, .slice (some ⟨g3, 0, none⟩) N N, .int .i64 auto], _, _] from L5.put_box5 (L5.put_box5 (L5.put_box5 (S18.out) 3 rfl 0 (.string name)) 3 rfl 1 (.slice (some ⟨g3, 0, none⟩) N N)) 3 rfl 2 (.int .i64 auto))
    clear S18
    have f0 : World.cell? _ ⟨w.heap.size + 1 + 1 + 1, 0, none⟩ = some (.string name) := Bag.cell_at S19.out 3 rfl 0 rfl
    have f1 : World.cell? _ ⟨w.heap.size + 1 + 1 + 1, 1, none⟩ = some (.slice (some ⟨g3, 0, none⟩) N N) := Bag.cell_at S19.out 3 rfl 1 rfl
    have f2 : World.cell? _ ⟨w.heap.size + 1 + 1 + 1, 2, none⟩ = some (.int .i64 auto) := Bag.cell_at S19.out 3 rfl 2 rfl
    refine bodyPost_ret (v := .tuple #[.agg #[.string name, .slice (some ⟨g3, 0, none⟩) N N, .int .i64 auto], .bool true]) (by simp [results, Try.results17, go_sem, *]) rfl ?_
    clear f0 f1 f2
    refine ⟨(LS.mk name (some ⟨g3, 0, none⟩) N (ys3.set i ⟨ys3[i].k, a1, c1, rl⟩) auto), ?_, ?_, Bag.bag_from S19.out 4 rfl, S19.out.old⟩
    ·
     rw [HRES.out]; unfold LS.v LS.cells; dsimp only; rw [List.length_set, hyl]; rfl
    ·
     rw [HRES.out]; rfl
  | none =>
   have hfi2 : fi = -1 := by have h := HFI.out; unfold fndI at h; rw [hfo] at h; exact h.symm
   subst hfi2
   have HE := Lib.hid (putI_none (l := rl) HBS.out hfo)
   dsimp only at HE
   clear hfo
   obtain ⟨pp, hpp⟩ : ∃ q, plcI (conI xs) ⟨pk, pn, pt⟩ = q := ⟨_, rfl⟩
   have hppN : pp ≤ N := by have h := plcI_le (conI xs) ⟨pk, pn, pt⟩; rw [hpp, conI_length] at h; have := HN.out; omega
   rw [hpp] at HPL HE
   clear hpp
   have hppy : pp ≤ ys3.length := by omega
   obtain ⟨na, hna⟩ : ∃ q, nextAuto auto ⟨pk, pn, pt⟩ = q := ⟨_, rfl⟩
   have HAA := fun w' => autoAfter_any auto ⟨pk, pn, pt⟩ HV16.out.2.1 HV16.out.2.2 w'
   rw [hna] at HAA HE
   replace HAA := Lib.hid HAA
   clear hna
   have HINS := Lib.hid (fun (a1 : Option Addr) (c1 gv : Nat) (w' : World) (hr : Reads w' w'.heap.size (some ⟨g3, 0, none⟩) (cellsI ys3)) (hv : Reads w' w'.heap.size (some ⟨gv, 0, none⟩) [.int .i64 pk, .int .i64 pn, .string pt, .slice a1 M c1]) => insertI_any g3 gv pp ys3 ⟨⟨pk, pn, pt⟩, a1, c1, rl⟩ hppy (by have := HV16.out.1; omega) w' hr (by have h := hv; rw [HM.out] at h; exact h))
   rw [hyl] at HINS
   clear f0 f1 f2 f3 f4 f5 f6 f7 f8 f9 f10 f11 f12
   have f0 : World.cell? _ ⟨w.heap.size, 0, none⟩ = some (.string name) := Bag.cell_at S8.out 0 rfl 0 rfl
   have f1 : World.cell? _ ⟨w.heap.size, 1, none⟩ = some (.slice a N c) := Bag.cell_at S8.out 0 rfl 1 rfl
   have f2 : World.cell? _ ⟨w.heap.size, 2, none⟩ = some (.int .i64 auto) := Bag.cell_at S8.out 0 rfl 2 rfl
   have f3 : World.cell? _ ⟨w.heap.size + 1, 0, none⟩ = some (.int .i64 pk) := Bag.cell_at S8.out 1 rfl 0 rfl
   have f4 : World.cell? _ ⟨w.heap.size + 1, 1, none⟩ = some (.int .i64 pn) := Bag.cell_at S8.out 1 rfl 1 rfl
   have f5 : World.cell? _ ⟨w.heap.size + 1, 2, none⟩ = some (.string pt) := Bag.cell_at S8.out 1 rfl 2 rfl
   have f6 : World.cell? _ ⟨w.heap.size + 1 + 1, 0, none⟩ = some (.slice ra M rc) := Bag.cell_at S8.out 2 rfl 0 rfl
   have f7 : World.cell? _ ⟨w.heap.size + 1 + 1 + 1, 0, none⟩ = some (.string ⟨#[]⟩) := Bag.cell_at S8.out 3 rfl 0 rfl
   have f8 : World.cell? _ ⟨w.heap.size + 1 + 1 + 1, 1, none⟩ = some (.slice none 0 0) := Bag.cell_at S8.out 3 rfl 1 rfl
   have f9 : World.cell? _ ⟨w.heap.size + 1 + 1 + 1, 2, none⟩ = some (.int .i64 0) := Bag.cell_at S8.out 3 rfl 2 rfl
   have f10 : World.cell? _ ⟨g1, 0, none⟩ = some (.string name) := Bag.cell_at S8.out 5 rfl 0 rfl
   have f11 : World.cell? _ ⟨g1, 1, none⟩ = some (.slice (some ⟨g3, 0, none⟩) N N) := Bag.cell_at S8.out 5 rfl 1 rfl
   have f12 : World.cell? _ ⟨g1, 2, none⟩ = some (.int .i64 auto) := Bag.cell_at S8.out 5 rfl 2 rfl
   go_upto_region 7 with fail
   clear f0 f1 f2 f3 f4 f5 f6 f7 f8 f9 f10 f11 f12
   refine Reg.wp_region_late (fun w' => w'.cell? ⟨w.heap.size, 0, none⟩ = some (.string name) ∧ w'.cell? ⟨w.heap.size, 1, none⟩ = some (.slice a N c) ∧ w'.cell? ⟨w.heap.size, 2, none⟩ = some (.int .i64 auto) ∧ w'.cell? ⟨w.heap.size + 1, 0, none⟩ = some (.int .i64 pk) ∧ w'.cell? ⟨w.heap.size + 1, 1, none⟩ = some (.int .i64 pn) ∧ w'.cell? ⟨w.heap.size + 1, 2, none⟩ = some (.string pt) ∧ w'.cell? ⟨w.heap.size + 1 + 1, 0, none⟩ = some (.slice ra M rc)) (fun w' => w'.cell? ⟨g1, 0, none⟩ = some (.string name) ∧ w'.cell? ⟨g1, 1, none⟩ = some (.slice (some ⟨g3, 0, none⟩) N N) ∧ w'.cell? ⟨g1, 2, none⟩ = some (.int .i64 auto)) 12 (by kernel_rfl) ⟨Bag.cell_at S8.out 0 rfl 0 rfl, Bag.cell_at S8.out 0 rfl 1 rfl, Bag.cell_at S8.out 0 rfl 2 rfl, Bag.cell_at S8.out 1 rfl 0 rfl, Bag.cell_at S8.out 1 rfl 1 rfl, Bag.cell_at S8.out 1 rfl 2 rfl, Bag.cell_at S8.out 2 rfl 0 rfl⟩ ⟨Bag.cell_at S8.out 5 rfl 0 rfl, Bag.cell_at S8.out 5 rfl 1 rfl, Bag.cell_at S8.out 5 rfl 2 rfl⟩ (fun hS hL => ?_)
   have S9 := Lib.hid (Bag.drew1 S8.out)
   clear S8
   generalize World.drew _ = w5 at hS hL S9 ⊢
   refine Reg.early_op (i := 0) (v := ?_) rfl (by kernel_rfl) (by kernel_rfl) (by kernel_rfl) rfl (by kernel_rfl) (by kernel_rfl) (fun _ _ _ h => h) (by rfl) ?_ hS hL ?_
   rotate_left
   ·
    (intro w hSw hSv; (try dsimp only at hSw); (try dsimp only at hSv); go_simp; try with_reducible rfl)
   try simp only [zp0, zp1, zp2, zp3, zp4]
   refine Reg.early_op (i := 1) (v := ?_) rfl (by kernel_rfl) (by kernel_rfl) (by kernel_rfl) rfl (by kernel_rfl) (by kernel_rfl) (fun _ _ _ h => h) (by rfl) ?_ hS hL ?_
   rotate_left
   ·
    (intro w hSw hSv; (try dsimp only at hSw); (try dsimp only at hSv); go_simp; try with_reducible rfl)
   try simp only [zp0, zp1, zp2, zp3, zp4]
   refine Reg.early_op (i := 2) (v := ?_) rfl (by kernel_rfl) (by kernel_rfl) (by kernel_rfl) rfl (by kernel_rfl) (by kernel_rfl) (fun _ _ _ h => h) (by rfl) ?_ hS hL ?_
   rotate_left
   ·
    (intro w hSw hSv; (try dsimp only at hSw); (try dsimp only at hSv); go_simp; try with_reducible rfl)
   try simp only [zp0, zp1, zp2, zp3, zp4]
   refine Reg.early_op (i := 3) (v := ?_) rfl (by kernel_rfl) (by kernel_rfl) (by kernel_rfl) rfl (by kernel_rfl) (by kernel_rfl) (fun _ _ _ h => h) (by rfl) ?_ hS hL ?_
   rotate_left
   ·
    (intro w hSw hSv; (try dsimp only at hSw); (try dsimp only at hSv); go_simp; try with_reducible rfl)
   try simp only [zp0, zp1, zp2, zp3, zp4]
   refine Reg.early_op (i := 5) (v := ?_) rfl (by kernel_rfl) (by kernel_rfl) (by kernel_rfl) rfl (by kernel_rfl) (by kernel_rfl) (fun _ _ _ h => h) (by rfl) ?_ hS hL ?_
   rotate_left
   ·
    (intro w hSw hSv; (try dsimp only at hSw); (try dsimp only at hSv); go_simp; try with_reducible rfl)
   try simp only [zp0, zp1, zp2, zp3, zp4]
   refine Reg.early_op (i := 6) (v := ?_) rfl (by kernel_rfl) (by kernel_rfl) (by kernel_rfl) rfl (by kernel_rfl) (by kernel_rfl) (fun _ _ _ h => h) (by rfl) ?_ hS hL ?_
   rotate_left
   ·
    (intro w hSw hSv; (try dsimp only at hSw); (try dsimp only at hSv); go_simp; try with_reducible rfl)
   try simp only [zp0, zp1, zp2, zp3, zp4]
   refine Reg.only_op (i := 4) rfl (by kernel_rfl) (fun K hK => ?_)
   go_simp
   go_at_call 83
   refine (HPL.out _ S9.out.old).mono ?_
   rintro e w6 ⟨rfl, hb⟩
   have S10 := Lib.hid (show Sl.Sep w _ [_, _, _, _, _, _, _] from S9.out.keep hb)
   clear S9
   clear hb
   go_wp2_with fail
   clear hL
   refine hK.out _ _ ⟨Bag.cell_at S10.out 0 rfl 0 rfl, Bag.cell_at S10.out 0 rfl 1 rfl, Bag.cell_at S10.out 0 rfl 2 rfl, Bag.cell_at S10.out 1 rfl 0 rfl, Bag.cell_at S10.out 1 rfl 1 rfl, Bag.cell_at S10.out 1 rfl 2 rfl, Bag.cell_at S10.out 2 rfl 0 rfl⟩ ⟨Bag.cell_at S10.out 5 rfl 0 rfl, Bag.cell_at S10.out 5 rfl 1 rfl, Bag.cell_at S10.out 5 rfl 2 rfl⟩ (fun hS hL => ?_)
   clear hK K
   try simp only [zp0, zp1, zp2, zp3, zp4]
   refine Reg.only_op (i := 7) rfl (by kernel_rfl) (fun K hK => ?_)
   go_simp
   go_at_call 81
   refine (HRC.out _ S10.out.old).mono ?_
   rintro e w7 ⟨a1, c1, rfl, ho, hb⟩
   have S11 := Lib.hid (show Sl.Sep w _ [_, _, _, _, _, _, _, Sv.ownV 128 2 a1 c1 M (cellsF rl)] from Sv.push_own S10.out hb ho)
   clear S10
   clear hb ho
   go_wp2_with fail
   clear hL
   refine hK.out _ _ ⟨Bag.cell_at S11.out 0 rfl 0 rfl, Bag.cell_at S11.out 0 rfl 1 rfl, Bag.cell_at S11.out 0 rfl 2 rfl, Bag.cell_at S11.out 1 rfl 0 rfl, Bag.cell_at S11.out 1 rfl 1 rfl, Bag.cell_at S11.out 1 rfl 2 rfl, Bag.cell_at S11.out 2 rfl 0 rfl⟩ ⟨Bag.cell_at S11.out 5 rfl 0 rfl, Bag.cell_at S11.out 5 rfl 1 rfl, Bag.cell_at S11.out 5 rfl 2 rfl⟩ (fun hS hL => ?_)
   clear hK K
   try simp only [zp0, zp1, zp2, zp3, zp4]
   refine Reg.early_op (i := 8) (v := ?_) rfl (by kernel_rfl) (by kernel_rfl) (by kernel_rfl) rfl (by kernel_rfl) (by kernel_rfl) (fun _ _ _ h => h) (by rfl) ?_ hS hL ?_
   rotate_left
   ·
    (intro w hSw hSv; (try dsimp only at hSw); (try dsimp only at hSv); go_simp; try with_reducible rfl)
   try simp only [zp0, zp1, zp2, zp3, zp4]
   refine Reg.only_op (i := 9) rfl (by kernel_rfl) (fun K hK => ?_)
   go_simp
   have S12 := Lib.hid (show Sl.Sep w _ [_, _, _, _, _, _, _, _, Sv.ownV 40 4 (some ⟨w7.heap.size, 0, none⟩) 1 1 ([.int .i64 pk, .int .i64 pn, .string pt, .slice a1 M c1])] from Sv.push_own S11.out ((Below.refl _ _).alloc (Nat.le_refl _) _) (OwnV.madeAt w7 40 4 1 w7.heap.size #[.int .i64 pk, .int .i64 pn, .string pt, .slice a1 M c1] rfl (Nat.le_refl _) rfl (by decide)))
   clear S11
   obtain ⟨g2, hg⟩ : ∃ g', g' = w7.heap.size := ⟨_, rfl⟩
   rw [← hg] at S12 ⊢
   clear hg
   generalize w7.alloc (.cells #[.int .i64 pk, .int .i64 pn, .string pt, .slice a1 M c1] 40) = w8 at S12 ⊢
   clear hL
   refine hK.out _ _ ⟨Bag.cell_at S12.out 0 rfl 0 rfl, Bag.cell_at S12.out 0 rfl 1 rfl, Bag.cell_at S12.out 0 rfl 2 rfl, Bag.cell_at S12.out 1 rfl 0 rfl, Bag.cell_at S12.out 1 rfl 1 rfl, Bag.cell_at S12.out 1 rfl 2 rfl, Bag.cell_at S12.out 2 rfl 0 rfl⟩ ⟨Bag.cell_at S12.out 5 rfl 0 rfl, Bag.cell_at S12.out 5 rfl 1 rfl, Bag.cell_at S12.out 5 rfl 2 rfl⟩ (fun hS hL => ?_)
   clear hK K
   try simp only [zp0, zp1, zp2, zp3, zp4]
   refine Reg.only_op (i := 10) rfl (by kernel_rfl) (fun K hK => ?_)
   go_simp
   go_at_call 82
   refine (HINS.out _ _ _ _ (Sv.own_at S12.out 4 rfl).reads (Sv.own_at S12.out 8 rfl).reads).mono ?_
   rintro e w9 ⟨a5, c5, rfl, ho, hb⟩
   have S13 := Lib.hid (show Sl.Sep w _ [_, _, _, _, _, _, _, _, Sv.ownV 40 4 (some ⟨g2, 0, none⟩) 1 1 ([.int .i64 pk, .int .i64 pn, .string pt, .slice a1 M c1]), Sv.ownV 40 4 a5 c5 (N + 1) (cellsI (ys3.take pp ++ ⟨⟨pk, pn, pt⟩, a1, c1, rl⟩ :: ys3.drop pp))] from Sv.push_own S12.out hb ho)
   clear S12
   clear hb ho
   go_wp2_with fail
   clear hL
   refine hK.out _ _ ⟨Bag.cell_at S13.out 0 rfl 0 rfl, Bag.cell_at S13.out 0 rfl 1 rfl, Bag.cell_at S13.out 0 rfl 2 rfl, Bag.cell_at S13.out 1 rfl 0 rfl, Bag.cell_at S13.out 1 rfl 1 rfl, Bag.cell_at S13.out 1 rfl 2 rfl, Bag.cell_at S13.out 2 rfl 0 rfl⟩ ⟨Bag.cell_at S13.out 5 rfl 0 rfl, Bag.cell_at S13.out 5 rfl 1 rfl, Bag.cell_at S13.out 5 rfl 2 rfl⟩ (fun hS hL => ?_)
   clear hK K
   try simp only [zp0, zp1, zp2, zp3, zp4]
   refine Reg.early_op (i := 11) (v := ?_) rfl (by kernel_rfl) (by kernel_rfl) (by kernel_rfl) rfl (by kernel_rfl) (by kernel_rfl) (fun _ _ _ h => h) (by rfl) ?_ hS hL ?_
   rotate_left
   ·
    (intro w hSw hSv; (try dsimp only at hSw); (try dsimp only at hSv); go_simp; try with_reducible rfl)
   try simp only [zp0, zp1, zp2, zp3, zp4]
   refine Reg.late_op (i := 12) rfl (by kernel_rfl) rfl (fun K hK => ?_)
   have f0 : World.cell? _ ⟨g1, 0, none⟩ = some (.string name) := Bag.cell_at S13.out 5 rfl 0 rfl
   have f1 : World.cell? _ ⟨g1, 1, none⟩ = some (.slice (some ⟨g3, 0, none⟩) N N) := Bag.cell_at S13.out 5 rfl 1 rfl
   have f2 : World.cell? _ ⟨g1, 2, none⟩ = some (.int .i64 auto) := Bag.cell_at S13.out 5 rfl 2 rfl
   have z0 := Bag.free_at S13.out 5 rfl 0
   have z1 := Bag.free_at S13.out 5 rfl 1
   have z2 := Bag.free_at S13.out 5 rfl 2
   go_simp
   clear f0 f1 f2 z0 z1 z2
   have S14 := Lib.hid (show Sl.Sep w _ [_, _, _, _, _, L4.boxR g1 26 #[.string name, .slice a5 (N + 1) c5, .int .i64 auto], _, _, _, _] from L5.put_box5 (S13.out) 5 rfl 1 (.slice a5 (N + 1) c5))
   clear S13
   refine hK.out _ _ ⟨Bag.cell_at S14.out 0 rfl 0 rfl, Bag.cell_at S14.out 0 rfl 1 rfl, Bag.cell_at S14.out 0 rfl 2 rfl, Bag.cell_at S14.out 1 rfl 0 rfl, Bag.cell_at S14.out 1 rfl 1 rfl, Bag.cell_at S14.out 1 rfl 2 rfl, Bag.cell_at S14.out 2 rfl 0 rfl⟩ (fun hS => ?_)
   clear hL
   clear hK K
   try simp only [zp0, zp1, zp2, zp3, zp4]
   refine Reg.anyL_done (by kernel_rfl) ?_ _
   have f0 : World.cell? _ ⟨w.heap.size, 0, none⟩ = some (.string name) := Bag.cell_at S14.out 0 rfl 0 rfl
   have f1 : World.cell? _ ⟨w.heap.size, 1, none⟩ = some (.slice a N c) := Bag.cell_at S14.out 0 rfl 1 rfl
   have f2 : World.cell? _ ⟨w.heap.size, 2, none⟩ = some (.int .i64 auto) := Bag.cell_at S14.out 0 rfl 2 rfl
   have f3 : World.cell? _ ⟨w.heap.size + 1, 0, none⟩ = some (.int .i64 pk) := Bag.cell_at S14.out 1 rfl 0 rfl
   have f4 : World.cell? _ ⟨w.heap.size + 1, 1, none⟩ = some (.int .i64 pn) := Bag.cell_at S14.out 1 rfl 1 rfl
   have f5 : World.cell? _ ⟨w.heap.size + 1, 2, none⟩ = some (.string pt) := Bag.cell_at S14.out 1 rfl 2 rfl
   have f6 : World.cell? _ ⟨w.heap.size + 1 + 1, 0, none⟩ = some (.slice ra M rc) := Bag.cell_at S14.out 2 rfl 0 rfl
   have f7 : World.cell? _ ⟨w.heap.size + 1 + 1 + 1, 0, none⟩ = some (.string ⟨#[]⟩) := Bag.cell_at S14.out 3 rfl 0 rfl
   have f8 : World.cell? _ ⟨w.heap.size + 1 + 1 + 1, 1, none⟩ = some (.slice none 0 0) := Bag.cell_at S14.out 3 rfl 1 rfl
   have f9 : World.cell? _ ⟨w.heap.size + 1 + 1 + 1, 2, none⟩ = some (.int .i64 0) := Bag.cell_at S14.out 3 rfl 2 rfl
   have f10 : World.cell? _ ⟨g1, 0, none⟩ = some (.string name) := Bag.cell_at S14.out 5 rfl 0 rfl
   have f11 : World.cell? _ ⟨g1, 1, none⟩ = some (.slice a5 (N + 1) c5) := Bag.cell_at S14.out 5 rfl 1 rfl
   have f12 : World.cell? _ ⟨g1, 2, none⟩ = some (.int .i64 auto) := Bag.cell_at S14.out 5 rfl 2 rfl
   go_wp2_with fail
   go_at_call 84
   refine (HAA.out _).mono ?_
   rintro e w10 ⟨rfl, hb⟩
   clear f0 f1 f2 f3 f4 f5 f6 f7 f8 f9 f10 f11 f12
   have S15 := Lib.hid (show Sl.Sep w _ [_, _, _, _, _, _, _, _, _, _] from S14.out.keep hb)
   clear S14
   clear hb
   have f0 : World.cell? _ ⟨w.heap.size, 0, none⟩ = some (.string name) := Bag.cell_at S15.out 0 rfl 0 rfl
   have f1 : World.cell? _ ⟨w.heap.size, 1, none⟩ = some (.slice a N c) := Bag.cell_at S15.out 0 rfl 1 rfl
   have f2 : World.cell? _ ⟨w.heap.size, 2, none⟩ = some (.int .i64 auto) := Bag.cell_at S15.out 0 rfl 2 rfl
   have f3 : World.cell? _ ⟨w.heap.size + 1, 0, none⟩ = some (.int .i64 pk) := Bag.cell_at S15.out 1 rfl 0 rfl
   have f4 : World.cell? _ ⟨w.heap.size + 1, 1, none⟩ = some (.int .i64 pn) := Bag.cell_at S15.out 1 rfl 1 rfl
   have f5 : World.cell? _ ⟨w.heap.size + 1, 2, none⟩ = some (.string pt) := Bag.cell_at S15.out 1 rfl 2 rfl
   have f6 : World.cell? _ ⟨w.heap.size + 1 + 1, 0, none⟩ = some (.slice ra M rc) := Bag.cell_at S15.out 2 rfl 0 rfl
   have f7 : World.cell? _ ⟨w.heap.size + 1 + 1 + 1, 0, none⟩ = some (.string ⟨#[]⟩) := Bag.cell_at S15.out 3 rfl 0 rfl
   have f8 : World.cell? _ ⟨w.heap.size + 1 + 1 + 1, 1, none⟩ = some (.slice none 0 0) := Bag.cell_at S15.out 3 rfl 1 rfl
   have f9 : World.cell? _ ⟨w.heap.size + 1 + 1 + 1, 2, none⟩ = some (.int .i64 0) := Bag.cell_at S15.out 3 rfl 2 rfl
   have f10 : World.cell? _ ⟨g1, 0, none⟩ = some (.string name) := Bag.cell_at S15.out 5 rfl 0 rfl
   have f11 : World.cell? _ ⟨g1, 1, none⟩ = some (.slice a5 (N + 1) c5) := Bag.cell_at S15.out 5 rfl 1 rfl
   have f12 : World.cell? _ ⟨g1, 2, none⟩ = some (.int .i64 auto) := Bag.cell_at S15.out 5 rfl 2 rfl
   have z0 := Bag.free_at S15.out 5 rfl 0
   have z1 := Bag.free_at S15.out 5 rfl 1
   have z2 := Bag.free_at S15.out 5 rfl 2
   go_upto_region 9 with fail
   clear f0 f1 f2 f3 f4 f5 f6 f7 f8 f9 f10 f11 f12 z0 z1 z2
   have S16 := Lib.hid (show Sl.Sep w _ [_, _, _, _, _, L4.boxR g1 26 #[.string name, .slice a5 (N + 1) c5, .int .i64 na], _, _, _, _] from L5.put_box5 (S15.out) 5 rfl 2 (.int .i64 na))
   clear S15
   have S17 := Lib.hid (show Sl.Sep w _ [_, _, _, _, _, _, _, _] from Bag.take S16.out [0, 1, 2, 3, 9, 5, 6, 7] (by rfl) (by decide))
   clear S16
   have S18 := Lib.hid (show Sl.Sep w _ [_, _, _, _, _, _, _, Bag.bag ([(LI.mk ⟨pk, pn, pt⟩ a1 c1 rl).row])] from Bag.bag_of_one S17.out 7 (r := (LI.mk ⟨pk, pn, pt⟩ a1 c1 rl).row) (by show some _ = some _; rw [HM.out]; rfl))
   clear S17
   have S19 := Lib.hid (show Sl.Sep w _ [_, _, _, _, _, _, Bag.bag (rowsI ys3 ++ ([(LI.mk ⟨pk, pn, pt⟩ a1 c1 rl).row])), Bag.bag ([])] from Bag.bag_join S18.out 6 7 (by decide) rfl rfl)
   clear S18
   have S20 := Lib.hid (show Sl.Sep w _ [L4.boxR w.heap.size 26 #[.string name, .slice a N c, .int .i64 auto], L4.boxR (w.heap.size + 1) 28 #[.int .i64 pk, .int .i64 pn, .string pt], L4.boxR (w.heap.size + 1 + 1) 31 #[.slice ra M rc], L4.boxR (w.heap.size + 1 + 1 + 1) 26 #[.string ⟨#[]⟩, .slice none 0 0, .int .i64 0], Sv.ownV 40 4 a5 c5 (N + 1) (cellsI (ys3.take pp ++ ⟨⟨pk, pn, pt⟩, a1, c1, rl⟩ :: ys3.drop pp)), L4.boxR g1 26 #[.string name, .slice a5 (N + 1) c5, .int .i64 na], Bag.bag (rowsI (ys3.take pp ++ ⟨⟨pk, pn, pt⟩, a1, c1, rl⟩ :: ys3.drop pp)), Bag.bag ([])] from Bag.bag_perm S19.out 6 rfl (rowsI_ins ys3 pp ⟨⟨pk, pn, pt⟩, a1, c1, rl⟩))
   clear S19
   have hlz : (ys3.take pp ++ ⟨⟨pk, pn, pt⟩, a1, c1, rl⟩ :: ys3.drop pp).length = N + 1 := by rw [List.length_append, List.length_cons, List.length_take, List.length_drop]; omega
   have S21 := Lib.hid (show Sl.Sep w _ [_, _, _, _, Bag.bag ([rowI a5 c5 (ys3.take pp ++ ⟨⟨pk, pn, pt⟩, a1, c1, rl⟩ :: ys3.drop pp)]), _, _, Bag.bag ([])] from Bag.bag_of_one S20.out 4 (r := rowI a5 c5 (ys3.take pp ++ ⟨⟨pk, pn, pt⟩, a1, c1, rl⟩ :: ys3.drop pp)) (by unfold RowS.res rowI; dsimp only; rw [hlz]; rfl))
   clear S20
   have S22 := Lib.hid (show Sl.Sep w _ [_, _, _, _, Bag.bag ([rowI a5 c5 (ys3.take pp ++ ⟨⟨pk, pn, pt⟩, a1, c1, rl⟩ :: ys3.drop pp)] ++ (rowsI (ys3.take pp ++ ⟨⟨pk, pn, pt⟩, a1, c1, rl⟩ :: ys3.drop pp))), _, Bag.bag ([]), Bag.bag ([])] from Bag.bag_join S21.out 4 6 (by decide) rfl rfl)
   clear S21
   have S23 := Lib.hid (show Sl.Sep w _ [_, _, _, _, Bag.bag (LS.rows (LS.mk name a5 c5 (ys3.take pp ++ ⟨⟨pk, pn, pt⟩, a1, c1, rl⟩ :: ys3.drop pp) na)), _] from Bag.take S22.out [0, 1, 2, 3, 4, 5] (by rfl) (by decide))
   clear S22
   have HC2 := Lib.hid (show LS.con (LS.mk name a5 c5 (ys3.take pp ++ ⟨⟨pk, pn, pt⟩, a1, c1, rl⟩ :: ys3.drop pp) na) = ⟨name, (conI xs).take pp ++ ⟨⟨pk, pn, pt⟩, rl⟩ :: (conI xs).drop pp, na⟩ from by unfold LS.con; dsimp only; rw [conI_ins, HCON3.out]; rfl)
   have hfit : FitS (LS.con (LS.mk name a5 c5 (ys3.take pp ++ ⟨⟨pk, pn, pt⟩, a1, c1, rl⟩ :: ys3.drop pp) na)) := (by rw [HC2.out]; exact HFY.out.ins pp _ HFZ.out (by rw [conI_length, ← HN.out]; have := HV16.out.1; omega))
   have HIS2 := Lib.hid (fun w' (h : RowsRd w' w'.heap.size (LS.rows (LS.mk name a5 c5 (ys3.take pp ++ ⟨⟨pk, pn, pt⟩, a1, c1, rl⟩ :: ys3.drop pp) na))) => isStore_any (LS.mk name a5 c5 (ys3.take pp ++ ⟨⟨pk, pn, pt⟩, a1, c1, rl⟩ :: ys3.drop pp) na) hfit w' h)
   obtain ⟨bs2, hbs2⟩ : ∃ b, isS (LS.con (LS.mk name a5 c5 (ys3.take pp ++ ⟨⟨pk, pn, pt⟩, a1, c1, rl⟩ :: ys3.drop pp) na)) = b := ⟨_, rfl⟩
   rw [hbs2] at HIS2
   have HBS2 := Lib.hid hbs2
   clear hbs2 hfit
   dsimp only [LS.v, LS.cells] at HIS2
   rw [hlz] at HIS2
   have f0 : World.cell? _ ⟨w.heap.size, 0, none⟩ = some (.string name) := Bag.cell_at S23.out 0 rfl 0 rfl
   have f1 : World.cell? _ ⟨w.heap.size, 1, none⟩ = some (.slice a N c) := Bag.cell_at S23.out 0 rfl 1 rfl
   have f2 : World.cell? _ ⟨w.heap.size, 2, none⟩ = some (.int .i64 auto) := Bag.cell_at S23.out 0 rfl 2 rfl
   have f3 : World.cell? _ ⟨w.heap.size + 1, 0, none⟩ = some (.int .i64 pk) := Bag.cell_at S23.out 1 rfl 0 rfl
   have f4 : World.cell? _ ⟨w.heap.size + 1, 1, none⟩ = some (.int .i64 pn) := Bag.cell_at S23.out 1 rfl 1 rfl
   have f5 : World.cell? _ ⟨w.heap.size + 1, 2, none⟩ = some (.string pt) := Bag.cell_at S23.out 1 rfl 2 rfl
   have f6 : World.cell? _ ⟨w.heap.size + 1 + 1, 0, none⟩ = some (.slice ra M rc) := Bag.cell_at S23.out 2 rfl 0 rfl
   have f7 : World.cell? _ ⟨w.heap.size + 1 + 1 + 1, 0, none⟩ = some (.string ⟨#[]⟩) := Bag.cell_at S23.out 3 rfl 0 rfl
   have f8 : World.cell? _ ⟨w.heap.size + 1 + 1 + 1, 1, none⟩ = some (.slice none 0 0) := Bag.cell_at S23.out 3 rfl 1 rfl
   have f9 : World.cell? _ ⟨w.heap.size + 1 + 1 + 1, 2, none⟩ = some (.int .i64 0) := Bag.cell_at S23.out 3 rfl 2 rfl
   have f10 : World.cell? _ ⟨g1, 0, none⟩ = some (.string name) := Bag.cell_at S23.out 5 rfl 0 rfl
   have f11 : World.cell? _ ⟨g1, 1, none⟩ = some (.slice a5 (N + 1) c5) := Bag.cell_at S23.out 5 rfl 1 rfl
   have f12 : World.cell? _ ⟨g1, 2, none⟩ = some (.int .i64 na) := Bag.cell_at S23.out 5 rfl 2 rfl
   go_wp2_with fail
   go_at_call 23
   refine (HIS2.out _ (Bag.bag_rd S23.out 4 rfl)).mono ?_
   rintro e w11 ⟨rfl, hb⟩
   clear f0 f1 f2 f3 f4 f5 f6 f7 f8 f9 f10 f11 f12
   have S24 := Lib.hid (show Sl.Sep w _ [_, _, _, _, _, _] from S23.out.keep hb)
   clear S23
   clear hb
   have f0 : World.cell? _ ⟨w.heap.size, 0, none⟩ = some (.string name) := Bag.cell_at S24.out 0 rfl 0 rfl
   have f1 : World.cell? _ ⟨w.heap.size, 1, none⟩ = some (.slice a N c) := Bag.cell_at S24.out 0 rfl 1 rfl
   have f2 : World.cell? _ ⟨w.heap.size, 2, none⟩ = some (.int .i64 auto) := Bag.cell_at S24.out 0 rfl 2 rfl
   have f3 : World.cell? _ ⟨w.heap.size + 1, 0, none⟩ = some (.int .i64 pk) := Bag.cell_at S24.out 1 rfl 0 rfl
   have f4 : World.cell? _ ⟨w.heap.size + 1, 1, none⟩ = some (.int .i64 pn) := Bag.cell_at S24.out 1 rfl 1 rfl
   have f5 : World.cell? _ ⟨w.heap.size + 1, 2, none⟩ = some (.string pt) := Bag.cell_at S24.out 1 rfl 2 rfl
   have f6 : World.cell? _ ⟨w.heap.size + 1 + 1, 0, none⟩ = some (.slice ra M rc) := Bag.cell_at S24.out 2 rfl 0 rfl
   have f7 : World.cell? _ ⟨w.heap.size + 1 + 1 + 1, 0, none⟩ = some (.string ⟨#[]⟩) := Bag.cell_at S24.out 3 rfl 0 rfl
   have f8 : World.cell? _ ⟨w.heap.size + 1 + 1 + 1, 1, none⟩ = some (.slice none 0 0) := Bag.cell_at S24.out 3 rfl 1 rfl
   have f9 : World.cell? _ ⟨w.heap.size + 1 + 1 + 1, 2, none⟩ = some (.int .i64 0) := Bag.cell_at S24.out 3 rfl 2 rfl
   have f10 : World.cell? _ ⟨g1, 0, none⟩ = some (.string name) := Bag.cell_at S24.out 5 rfl 0 rfl
   have f11 : World.cell? _ ⟨g1, 1, none⟩ = some (.slice a5 (N + 1) c5) := Bag.cell_at S24.out 5 rfl 1 rfl
   have f12 : World.cell? _ ⟨g1, 2, none⟩ = some (.int .i64 na) := Bag.cell_at S24.out 5 rfl 2 rfl
   have HRES := Lib.hid (show res = if bs2 then (LS.con (LS.mk name a5 c5 (ys3.take pp ++ ⟨⟨pk, pn, pt⟩, a1, c1, rl⟩ :: ys3.drop pp) na), true) else (⟨name, conI xs, auto⟩, false) from by rw [← HP.out, ← HBS2.out]; rw [HC2.out]; exact HE.out)
   cases bs2 with
   | false =>
    go_wp2_with fail
    go_at_call 80
    refine (HCP.out _ S24.out.old).mono ?_
    rintro e w12 ⟨g9, ys9, rfl, hcon, ho, hb⟩
    clear f0 f1 f2 f3 f4 f5 f6 f7 f8 f9 f10 f11 f12
    have S25 := Lib.hid (show Sl.Sep w _ [_, _, _, _, _, _, Bag.bag (rowI (some ⟨g9, 0, none⟩) ys9.length ys9 :: rowsI ys9)] from Bag.push_bag S24.out hb ho)
    clear S24
    clear hb ho
    have HCON9 := Lib.hid hcon
    clear hcon
    dsimp only at HCON9 ⊢
    have f0 : World.cell? _ ⟨w.heap.size + 1 + 1 + 1, 0, none⟩ = some (.string ⟨#[]⟩) := Bag.cell_at S25.out 3 rfl 0 rfl
    have f1 : World.cell? _ ⟨w.heap.size + 1 + 1 + 1, 1, none⟩ = some (.slice none 0 0) := Bag.cell_at S25.out 3 rfl 1 rfl
    have f2 : World.cell? _ ⟨w.heap.size + 1 + 1 + 1, 2, none⟩ = some (.int .i64 0) := Bag.cell_at S25.out 3 rfl 2 rfl
    have z0 := Bag.free_at S25.out 3 rfl 0
    have z1 := Bag.free_at S25.out 3 rfl 1
    have z2 := Bag.free_at S25.out 3 rfl 2
    go_wp2_with fail
    clear f0 f1 f2 z0 z1 z2
    have S26 := Lib.hid (show Sl.Sep w _ [_, _, _, L4.boxR (w.heap.size + 1 + 1 + 1) 26 #[.string name, .slice (some ⟨g9, 0, none⟩) ys9.length ys9.length, .int .i64 auto], _, _, _] from L5.put_box5 (L5.put_box5 (L5.put_box5 (S25.out) 3 rfl 0 (.string name)) 3 rfl 1 (.slice (some ⟨g9, 0, none⟩) ys9.length ys9.length)) 3 rfl 2 (.int .i64 auto))
    clear S25
    have f0 : World.cell? _ ⟨w.heap.size + 1 + 1 + 1, 0, none⟩ = some (.string name) := Bag.cell_at S26.out 3 rfl 0 rfl
    have f1 : World.cell? _ ⟨w.heap.size + 1 + 1 + 1, 1, none⟩ = some (.slice (some ⟨g9, 0, none⟩) ys9.length ys9.length) := Bag.cell_at S26.out 3 rfl 1 rfl
    have f2 : World.cell? _ ⟨w.heap.size + 1 + 1 + 1, 2, none⟩ = some (.int .i64 auto) := Bag.cell_at S26.out 3 rfl 2 rfl
    refine bodyPost_ret (v := .tuple #[.agg #[.string name, .slice (some ⟨g9, 0, none⟩) ys9.length ys9.length, .int .i64 auto], .bool false]) (by simp [results, Try.results17, go_sem, *]) rfl ?_
    have HE := Lib.hid (show res = (⟨name, conI xs, auto⟩, false) from by rw [← HP.out]; rw [HP.out, HRES.out]; rfl)
    exact ⟨⟨name, some ⟨g9, 0, none⟩, ys9.length, ys9, auto⟩, by rw [HE.out]; rfl, by rw [HE.out]; unfold LS.con; dsimp only; rw [HCON9.out], Bag.bag_from S26.out 6 rfl, S26.out.old⟩
   | true =>
    clear f0 f1 f2 f3 f4 f5 f6 f7 f8 f9 f10 f11 f12
    have f0 : World.cell? _ ⟨w.heap.size + 1 + 1 + 1, 0, none⟩ = some (.string ⟨#[]⟩) := Bag.cell_at S24.out 3 rfl 0 rfl
    have f1 : World.cell? _ ⟨w.heap.size + 1 + 1 + 1, 1, none⟩ = some (.slice none 0 0) := Bag.cell_at S24.out 3 rfl 1 rfl
    have f2 : World.cell? _ ⟨w.heap.size + 1 + 1 + 1, 2, none⟩ = some (.int .i64 0) := Bag.cell_at S24.out 3 rfl 2 rfl
    have f3 : World.cell? _ ⟨g1, 0, none⟩ = some (.string name) := Bag.cell_at S24.out 5 rfl 0 rfl
    have f4 : World.cell? _ ⟨g1, 1, none⟩ = some (.slice a5 (N + 1) c5) := Bag.cell_at S24.out 5 rfl 1 rfl
    have f5 : World.cell? _ ⟨g1, 2, none⟩ = some (.int .i64 na) := Bag.cell_at S24.out 5 rfl 2 rfl
    have z0 := Bag.free_at S24.out 3 rfl 0
    have z1 := Bag.free_at S24.out 3 rfl 1
    have z2 := Bag.free_at S24.out 3 rfl 2
    go_wp2_with fail
    clear f0 f1 f2 f3 f4 f5 z0 z1 z2
    have S25 := Lib.hid (show Sl.Sep w _ [_, _, _, L4.boxR (w.heap.size + 1 + 1 + 1) 26 #[.string name, .slice a5 (N + 1) c5, .int .i64 na], _, _] from L5.put_box5 (L5.put_box5 (L5.put_box5 (S24.out) 3 rfl 0 (.string name)) 3 rfl 1 (.slice a5 (N + 1) c5)) 3 rfl 2 (.int .i64 na))
    clear S24
    have f0 : World.cell? _ ⟨w.heap.size + 1 + 1 + 1, 0, none⟩ = some (.string name) := Bag.cell_at S25.out 3 rfl 0 rfl
    have f1 : World.cell? _ ⟨w.heap.size + 1 + 1 + 1, 1, none⟩ = some (.slice a5 (N + 1) c5) := Bag.cell_at S25.out 3 rfl 1 rfl
    have f2 : World.cell? _ ⟨w.heap.size + 1 + 1 + 1, 2, none⟩ = some (.int .i64 na) := Bag.cell_at S25.out 3 rfl 2 rfl
    refine bodyPost_ret (v := .tuple #[.agg #[.string name, .slice a5 (N + 1) c5, .int .i64 na], .bool true]) (by simp [results, Try.results17, go_sem, *]) rfl ?_
    clear f0 f1 f2
    refine ⟨(LS.mk name a5 c5 (ys3.take pp ++ ⟨⟨pk, pn, pt⟩, a1, c1, rl⟩ :: ys3.drop pp) na), ?_, ?_, Bag.bag_from S25.out 4 rfl, S25.out.old⟩
    ·
     rw [HRES.out]; unfold LS.v LS.cells; dsimp only; rw [hlz]; rfl
    ·
     rw [HRES.out]; rfl
end Go.Proofs.Ytojcdmgcbgpdmaa.L6

set_option linter.unusedSimpArgs false
namespace Go.Proofs.Ytojcdmgcbgpdmaa.L6
open L4 (K isK cmpK R inR encU)
open L5 (F isR isN cellsF encR eqR Small)
open Go.ChangeShapes Go.WideShapes Go.ChangeAt Go.RowKit Mem Sl Ex L2 Sv Bag

set_option maxHeartbeats 8000000 in
theorem addItem_any (y : LS) (k0 : K) (ra : Option Addr) (rc : Nat) (rl : List F) (hf : FitS y.con) (hkt : k0.text.size ≤ 1099511627776) (hrl : rl.length ≤ 1048576) (hrs : Small rl) (w : World) (hr : RowsRd w w.heap.size y.rows) (hrr : Reads w w.heap.size ra (cellsF rl)) :
  Calls Try.prog 18 #[y.v, k0.v, .agg #[.slice ra rl.length rc]] w (GaveSB w (addI y.con k0 rl).1 (addI y.con k0 rl).2) := by
 obtain ⟨pk, pn, pt⟩ := k0
 unfold L4.K.v
 try dsimp only at hkt ⊢
 have HCP := Lib.hid (fun w' (h : Below w.heap.size w w') => copyStore_any y hf w' ((hr.below h).more h.size))
 have HFD := Lib.hid (fun w' (h : Below w.heap.size w w') => findItem_any y ⟨pk, pn, pt⟩ hf w' ((hr.below h).more h.size))
 have HPT := Lib.hid (fun w' (h : Below w.heap.size w w') => putItem_any y ⟨pk, pn, pt⟩ ra rc rl hf hkt hrl hrs w' ((hr.below h).more h.size) ((hrr.below h).more h.size))
 have HR0 := Lib.hid (fndI_range y.con.items ⟨pk, pn, pt⟩)
 obtain ⟨name, a, c, xs, auto⟩ := y
 have HR := Lib.hid (fun w' (h : Below w.heap.size w w') => LS.outer (hr.below h))
 have HX := Lib.hid (fun w' (h : Below w.heap.size w w') => (LS.inner (hr.below h)).more h.size)
 have HF := Lib.hid hf.items
 have HNM := Lib.hid hf.name
 have hl := hf.len
 simp only [LS.con, conI_length] at hl
 dsimp only [LS.con] at HR HX HF HNM
 try unfold LS.v LS.cells LS.con
 try dsimp only
 obtain ⟨N, hN⟩ : ∃ n, n = xs.length := ⟨_, rfl⟩
 rw [← hN] at hl ⊢
 have hl' : (N : Int) ≤ 1048576 := by omega
 have HN := Lib.hid hN
 clear hN hr hf
 dsimp only [LS.v, LS.cells, LS.con] at HCP HFD HPT HR0
 rw [← HN.out] at HCP HFD HPT
 obtain ⟨M, hM⟩ : ∃ M, M = rl.length := ⟨_, rfl⟩
 rw [← hM] at HPT ⊢
 clear hM hrr hrl
 obtain ⟨res, hres⟩ : ∃ r, addI ⟨name, conI xs, auto⟩ ⟨pk, pn, pt⟩ rl = r := ⟨_, rfl⟩
 rw [hres]
 obtain ⟨pu, hpu⟩ : ∃ r, putI ⟨name, conI xs, auto⟩ ⟨pk, pn, pt⟩ rl = r := ⟨_, rfl⟩
 rw [hpu] at HPT
 obtain ⟨fi, hfi⟩ : ∃ i, fndI (conI xs) ⟨pk, pn, pt⟩ = i := ⟨_, rfl⟩
 rw [hfi] at HFD HR0
 have HP := Lib.hid (show res = if 0 ≤ fi then (⟨name, conI xs, auto⟩, false) else pu from by rw [← hres, ← hpu, ← hfi]; rfl)
 clear hres hpu hfi
 have S1 := Lib.hid (show Sl.Sep w _ [_, _, _, _] from L4.push_box (L4.push_box (L4.push_box (L4.push_box (Sl.Sep.start w) 26 #[.string name, .slice a N c, .int .i64 auto] (w.heap.size) (by simp)) 28 #[.int .i64 pk, .int .i64 pn, .string pt] (w.heap.size + 1) (by simp)) 31 #[.slice ra M rc] (w.heap.size + 1 + 1) (by simp)) 26 #[.string ⟨#[]⟩, .slice none 0 0, .int .i64 0] (w.heap.size + 1 + 1 + 1) (by simp))
 obtain ⟨wa, hwa⟩ : ∃ u, u = ((((w.alloc (.cells #[.string name, .slice a N c, .int .i64 auto] 26)).alloc (.cells #[.int .i64 pk, .int .i64 pn, .string pt] 28)).alloc (.cells #[.slice ra M rc] 31)).alloc (.cells #[.string ⟨#[]⟩, .slice none 0 0, .int .i64 0] 26)) := ⟨_, rfl⟩
 rw [← hwa] at S1
 go_enter Try.func18, Try.ntmps18
 go_upto_region 1 with fail
 rw [← hwa]
 clear hwa
 have f0 : World.cell? _ ⟨w.heap.size, 0, none⟩ = some (.string name) := Bag.cell_at S1.out 0 rfl 0 rfl
 have f1 : World.cell? _ ⟨w.heap.size, 1, none⟩ = some (.slice a N c) := Bag.cell_at S1.out 0 rfl 1 rfl
 have f2 : World.cell? _ ⟨w.heap.size, 2, none⟩ = some (.int .i64 auto) := Bag.cell_at S1.out 0 rfl 2 rfl
 have f3 : World.cell? _ ⟨w.heap.size + 1, 0, none⟩ = some (.int .i64 pk) := Bag.cell_at S1.out 1 rfl 0 rfl
 have f4 : World.cell? _ ⟨w.heap.size + 1, 1, none⟩ = some (.int .i64 pn) := Bag.cell_at S1.out 1 rfl 1 rfl
 have f5 : World.cell? _ ⟨w.heap.size + 1, 2, none⟩ = some (.string pt) := Bag.cell_at S1.out 1 rfl 2 rfl
 have f6 : World.cell? _ ⟨w.heap.size + 1 + 1, 0, none⟩ = some (.slice ra M rc) := Bag.cell_at S1.out 2 rfl 0 rfl
 have f7 : World.cell? _ ⟨w.heap.size + 1 + 1 + 1, 0, none⟩ = some (.string ⟨#[]⟩) := Bag.cell_at S1.out 3 rfl 0 rfl
 have f8 : World.cell? _ ⟨w.heap.size + 1 + 1 + 1, 1, none⟩ = some (.slice none 0 0) := Bag.cell_at S1.out 3 rfl 1 rfl
 have f9 : World.cell? _ ⟨w.heap.size + 1 + 1 + 1, 2, none⟩ = some (.int .i64 0) := Bag.cell_at S1.out 3 rfl 2 rfl
 go_wp2_with fail
 go_at_call 20
 refine (HFD.out _ S1.out.old).mono ?_
 rintro e w1 ⟨rfl, hb⟩
 clear f0 f1 f2 f3 f4 f5 f6 f7 f8 f9
 have S2 := Lib.hid (show Sl.Sep w _ [_, _, _, _] from S1.out.keep hb)
 clear S1
 clear hb
 have f0 : World.cell? _ ⟨w.heap.size, 0, none⟩ = some (.string name) := Bag.cell_at S2.out 0 rfl 0 rfl
 have f1 : World.cell? _ ⟨w.heap.size, 1, none⟩ = some (.slice a N c) := Bag.cell_at S2.out 0 rfl 1 rfl
 have f2 : World.cell? _ ⟨w.heap.size, 2, none⟩ = some (.int .i64 auto) := Bag.cell_at S2.out 0 rfl 2 rfl
 have f3 : World.cell? _ ⟨w.heap.size + 1, 0, none⟩ = some (.int .i64 pk) := Bag.cell_at S2.out 1 rfl 0 rfl
 have f4 : World.cell? _ ⟨w.heap.size + 1, 1, none⟩ = some (.int .i64 pn) := Bag.cell_at S2.out 1 rfl 1 rfl
 have f5 : World.cell? _ ⟨w.heap.size + 1, 2, none⟩ = some (.string pt) := Bag.cell_at S2.out 1 rfl 2 rfl
 have f6 : World.cell? _ ⟨w.heap.size + 1 + 1, 0, none⟩ = some (.slice ra M rc) := Bag.cell_at S2.out 2 rfl 0 rfl
 have f7 : World.cell? _ ⟨w.heap.size + 1 + 1 + 1, 0, none⟩ = some (.string ⟨#[]⟩) := Bag.cell_at S2.out 3 rfl 0 rfl
 have f8 : World.cell? _ ⟨w.heap.size + 1 + 1 + 1, 1, none⟩ = some (.slice none 0 0) := Bag.cell_at S2.out 3 rfl 1 rfl
 have f9 : World.cell? _ ⟨w.heap.size + 1 + 1 + 1, 2, none⟩ = some (.int .i64 0) := Bag.cell_at S2.out 3 rfl 2 rfl
 by_cases h0 : 0 ≤ fi
 ·
  have HE := Lib.hid (show res = (⟨name, conI xs, auto⟩, false) from by rw [HP.out, if_pos h0])
  go_wp2_with fail
  go_at_call 80
  refine (HCP.out _ S2.out.old).mono ?_
  rintro e w2 ⟨⟨nm3, a3, c3, ys, au3⟩, rfl, hcon, ho, hb⟩
  clear f0 f1 f2 f3 f4 f5 f6 f7 f8 f9
  have S3 := Lib.hid (show Sl.Sep w _ [_, _, _, _, Bag.bag ((LS.mk nm3 a3 c3 ys au3).rows)] from Bag.push_bag S2.out hb ho)
  clear S2
  clear hb ho
  have HCON := Lib.hid hcon
  clear hcon
  simp only [LS.v, LS.cells]
  have f0 : World.cell? _ ⟨w.heap.size + 1 + 1 + 1, 0, none⟩ = some (.string ⟨#[]⟩) := Bag.cell_at S3.out 3 rfl 0 rfl
  have f1 : World.cell? _ ⟨w.heap.size + 1 + 1 + 1, 1, none⟩ = some (.slice none 0 0) := Bag.cell_at S3.out 3 rfl 1 rfl
  have f2 : World.cell? _ ⟨w.heap.size + 1 + 1 + 1, 2, none⟩ = some (.int .i64 0) := Bag.cell_at S3.out 3 rfl 2 rfl
  have z0 := Bag.free_at S3.out 3 rfl 0
  have z1 := Bag.free_at S3.out 3 rfl 1
  have z2 := Bag.free_at S3.out 3 rfl 2
  go_wp2_with fail
  clear f0 f1 f2 z0 z1 z2
  have S4 := Lib.hid (show Sl.Sep w _ [_, _, _, L4.boxR (w.heap.size + 1 + 1 + 1) 26 #[.string nm3, .slice a3 ys.length c3, .int .i64 au3], _] from L5.put_box5 (L5.put_box5 (L5.put_box5 (S3.out) 3 rfl 0 (.string nm3)) 3 rfl 1 (.slice a3 ys.length c3)) 3 rfl 2 (.int .i64 au3))
  clear S3
  have f0 : World.cell? _ ⟨w.heap.size + 1 + 1 + 1, 0, none⟩ = some (.string nm3) := Bag.cell_at S4.out 3 rfl 0 rfl
  have f1 : World.cell? _ ⟨w.heap.size + 1 + 1 + 1, 1, none⟩ = some (.slice a3 ys.length c3) := Bag.cell_at S4.out 3 rfl 1 rfl
  have f2 : World.cell? _ ⟨w.heap.size + 1 + 1 + 1, 2, none⟩ = some (.int .i64 au3) := Bag.cell_at S4.out 3 rfl 2 rfl
  refine bodyPost_ret (v := .tuple #[.agg #[.string nm3, .slice a3 ys.length c3, .int .i64 au3], .bool false]) (by simp [results, Try.results18, go_sem, *]) rfl ?_
  exact ⟨⟨nm3, a3, c3, ys, au3⟩, by rw [HE.out]; rfl, by rw [HE.out]; exact HCON.out, Bag.bag_from S4.out 4 rfl, S4.out.old⟩
 ·
  have HE := Lib.hid (show res = pu from by rw [HP.out, if_neg h0])
  have h1 : fi < 0 := by omega
  go_wp2_with fail
  go_at_call 17
  refine (HPT.out _ S2.out.old).mono ?_
  rintro e w2 ⟨⟨nm3, a3, c3, ys, au3⟩, rfl, hcon, ho, hb⟩
  clear f0 f1 f2 f3 f4 f5 f6 f7 f8 f9
  have S3 := Lib.hid (show Sl.Sep w _ [_, _, _, _, Bag.bag ((LS.mk nm3 a3 c3 ys au3).rows)] from Bag.push_bag S2.out hb ho)
  clear S2
  clear hb ho
  have HCON := Lib.hid hcon
  clear hcon
  simp only [LS.v, LS.cells]
  obtain ⟨pb, hpb⟩ : ∃ b, pu.2 = b := ⟨_, rfl⟩
  rw [hpb]
  have HPB := Lib.hid hpb
  clear hpb
  have f0 : World.cell? _ ⟨w.heap.size + 1 + 1 + 1, 0, none⟩ = some (.string ⟨#[]⟩) := Bag.cell_at S3.out 3 rfl 0 rfl
  have f1 : World.cell? _ ⟨w.heap.size + 1 + 1 + 1, 1, none⟩ = some (.slice none 0 0) := Bag.cell_at S3.out 3 rfl 1 rfl
  have f2 : World.cell? _ ⟨w.heap.size + 1 + 1 + 1, 2, none⟩ = some (.int .i64 0) := Bag.cell_at S3.out 3 rfl 2 rfl
  have z0 := Bag.free_at S3.out 3 rfl 0
  have z1 := Bag.free_at S3.out 3 rfl 1
  have z2 := Bag.free_at S3.out 3 rfl 2
  go_wp2_with fail
  clear f0 f1 f2 z0 z1 z2
  have S4 := Lib.hid (show Sl.Sep w _ [_, _, _, L4.boxR (w.heap.size + 1 + 1 + 1) 26 #[.string nm3, .slice a3 ys.length c3, .int .i64 au3], _] from L5.put_box5 (L5.put_box5 (L5.put_box5 (S3.out) 3 rfl 0 (.string nm3)) 3 rfl 1 (.slice a3 ys.length c3)) 3 rfl 2 (.int .i64 au3))
  clear S3
  have f0 : World.cell? _ ⟨w.heap.size + 1 + 1 + 1, 0, none⟩ = some (.string nm3) := Bag.cell_at S4.out 3 rfl 0 rfl
  have f1 : World.cell? _ ⟨w.heap.size + 1 + 1 + 1, 1, none⟩ = some (.slice a3 ys.length c3) := Bag.cell_at S4.out 3 rfl 1 rfl
  have f2 : World.cell? _ ⟨w.heap.size + 1 + 1 + 1, 2, none⟩ = some (.int .i64 au3) := Bag.cell_at S4.out 3 rfl 2 rfl
  refine bodyPost_ret (v := .tuple #[.agg #[.string nm3, .slice a3 ys.length c3, .int .i64 au3], .bool pb]) (by simp [results, Try.results18, go_sem, *]) rfl ?_
  exact ⟨⟨nm3, a3, c3, ys, au3⟩, by rw [HE.out, HPB.out]; rfl, by rw [HE.out]; exact HCON.out, Bag.bag_from S4.out 4 rfl, S4.out.old⟩
set_option maxHeartbeats 8000000 in
theorem autoItem_any (y : LS) (ra : Option Addr) (rc : Nat) (rl : List F) (hf : FitS y.con) (hau : -9223372036854775808 ≤ y.auto) (hrl : rl.length ≤ 1048576) (hrs : Small rl) (w : World) (hr : RowsRd w w.heap.size y.rows) (hrr : Reads w w.heap.size ra (cellsF rl)) :
  Calls Try.prog 24 #[y.v, .agg #[.slice ra rl.length rc]] w (GaveSKB w (autoS y.con rl) (autoR y.con rl) (autoB y.con rl)) := by
 have HCP := Lib.hid (fun w' (h : Below w.heap.size w w') => copyStore_any y hf w' ((hr.below h).more h.size))
 have HAD := Lib.hid (fun w' (h : Below w.heap.size w w') => addItem_any y ⟨1, y.auto + 1, ⟨#[]⟩⟩ ra rc rl hf (by show (0 : Nat) ≤ _; omega) hrl hrs w' ((hr.below h).more h.size) ((hrr.below h).more h.size))
 obtain ⟨name, a, c, xs, auto⟩ := y
 have HR := Lib.hid (fun w' (h : Below w.heap.size w w') => LS.outer (hr.below h))
 have HX := Lib.hid (fun w' (h : Below w.heap.size w w') => (LS.inner (hr.below h)).more h.size)
 have HF := Lib.hid hf.items
 have HNM := Lib.hid hf.name
 have hl := hf.len
 simp only [LS.con, conI_length] at hl
 dsimp only [LS.con] at HR HX HF HNM
 try unfold LS.v LS.cells LS.con
 try dsimp only
 obtain ⟨N, hN⟩ : ∃ n, n = xs.length := ⟨_, rfl⟩
 rw [← hN] at hl ⊢
 have hl' : (N : Int) ≤ 1048576 := by omega
 have HN := Lib.hid hN
 clear hN hr hf
 dsimp only [LS.v, LS.cells, LS.con, L4.K.v] at HCP HAD hau ⊢
 rw [← HN.out] at HCP HAD
 obtain ⟨M, hM⟩ : ∃ M, M = rl.length := ⟨_, rfl⟩
 rw [← hM] at HAD ⊢
 clear hM hrr hrl
 have HP := Lib.hid (auto_parts ⟨name, conI xs, auto⟩ rl)
 dsimp only [autoK] at HP
 obtain ⟨ad, had⟩ : ∃ r, addI ⟨name, conI xs, auto⟩ ⟨1, auto + 1, ⟨#[]⟩⟩ rl = r := ⟨_, rfl⟩
 rw [had] at HAD HP
 have HF2 := Lib.hid (show ad.2 = false → ad.1 = ⟨name, conI xs, auto⟩ from by rw [← had]; exact addI_false)
 clear had
 obtain ⟨rs, has⟩ : ∃ r, autoS ⟨name, conI xs, auto⟩ rl = r := ⟨_, rfl⟩
 obtain ⟨rk, hak⟩ : ∃ r, autoR ⟨name, conI xs, auto⟩ rl = r := ⟨_, rfl⟩
 obtain ⟨rb, hab⟩ : ∃ r, autoB ⟨name, conI xs, auto⟩ rl = r := ⟨_, rfl⟩
 rw [has, hak, hab] at HP ⊢
 clear has hak hab
 have S1 := Lib.hid (show Sl.Sep w _ [_, _, _, _] from L4.push_box (L4.push_box (L4.push_box (L4.push_box (Sl.Sep.start w) 26 #[.string name, .slice a N c, .int .i64 auto] (w.heap.size) (by simp)) 31 #[.slice ra M rc] (w.heap.size + 1) (by simp)) 26 #[.string ⟨#[]⟩, .slice none 0 0, .int .i64 0] (w.heap.size + 1 + 1) (by simp)) 28 #[.int .i64 0, .int .i64 0, .string ⟨#[]⟩] (w.heap.size + 1 + 1 + 1) (by simp))
 obtain ⟨wa, hwa⟩ : ∃ u, u = ((((w.alloc (.cells #[.string name, .slice a N c, .int .i64 auto] 26)).alloc (.cells #[.slice ra M rc] 31)).alloc (.cells #[.string ⟨#[]⟩, .slice none 0 0, .int .i64 0] 26)).alloc (.cells #[.int .i64 0, .int .i64 0, .string ⟨#[]⟩] 28)) := ⟨_, rfl⟩
 rw [← hwa] at S1
 go_enter Try.func24, Try.ntmps24
 go_upto_region 1 with fail
 rw [← hwa]
 clear hwa
 have f0 : World.cell? _ ⟨w.heap.size, 0, none⟩ = some (.string name) := Bag.cell_at S1.out 0 rfl 0 rfl
 have f1 : World.cell? _ ⟨w.heap.size, 1, none⟩ = some (.slice a N c) := Bag.cell_at S1.out 0 rfl 1 rfl
 have f2 : World.cell? _ ⟨w.heap.size, 2, none⟩ = some (.int .i64 auto) := Bag.cell_at S1.out 0 rfl 2 rfl
 have f3 : World.cell? _ ⟨w.heap.size + 1, 0, none⟩ = some (.slice ra M rc) := Bag.cell_at S1.out 1 rfl 0 rfl
 have f4 : World.cell? _ ⟨w.heap.size + 1 + 1, 0, none⟩ = some (.string ⟨#[]⟩) := Bag.cell_at S1.out 2 rfl 0 rfl
 have f5 : World.cell? _ ⟨w.heap.size + 1 + 1, 1, none⟩ = some (.slice none 0 0) := Bag.cell_at S1.out 2 rfl 1 rfl
 have f6 : World.cell? _ ⟨w.heap.size + 1 + 1, 2, none⟩ = some (.int .i64 0) := Bag.cell_at S1.out 2 rfl 2 rfl
 have f7 : World.cell? _ ⟨w.heap.size + 1 + 1 + 1, 0, none⟩ = some (.int .i64 0) := Bag.cell_at S1.out 3 rfl 0 rfl
 have f8 : World.cell? _ ⟨w.heap.size + 1 + 1 + 1, 1, none⟩ = some (.int .i64 0) := Bag.cell_at S1.out 3 rfl 1 rfl
 have f9 : World.cell? _ ⟨w.heap.size + 1 + 1 + 1, 2, none⟩ = some (.string ⟨#[]⟩) := Bag.cell_at S1.out 3 rfl 2 rfl
 by_cases h0 : 1000000 ≤ auto
 ·
  have HE := Lib.hid (HP.out.1 h0)
  go_wp2_with fail
  go_at_call 80
  refine (HCP.out _ S1.out.old).mono ?_
  rintro e w1 ⟨⟨nm3, a3, c3, ys, au3⟩, rfl, hcon, ho, hb⟩
  clear f0 f1 f2 f3 f4 f5 f6 f7 f8 f9
  have S2 := Lib.hid (show Sl.Sep w _ [_, _, _, _, Bag.bag ((LS.mk nm3 a3 c3 ys au3).rows)] from Bag.push_bag S1.out hb ho)
  clear S1
  clear hb ho
  have HCON := Lib.hid hcon
  clear hcon
  simp only [LS.v, LS.cells]
  have f0 : World.cell? _ ⟨w.heap.size + 1 + 1, 0, none⟩ = some (.string ⟨#[]⟩) := Bag.cell_at S2.out 2 rfl 0 rfl
  have f1 : World.cell? _ ⟨w.heap.size + 1 + 1, 1, none⟩ = some (.slice none 0 0) := Bag.cell_at S2.out 2 rfl 1 rfl
  have f2 : World.cell? _ ⟨w.heap.size + 1 + 1, 2, none⟩ = some (.int .i64 0) := Bag.cell_at S2.out 2 rfl 2 rfl
  have f3 : World.cell? _ ⟨w.heap.size + 1 + 1 + 1, 0, none⟩ = some (.int .i64 0) := Bag.cell_at S2.out 3 rfl 0 rfl
  have f4 : World.cell? _ ⟨w.heap.size + 1 + 1 + 1, 1, none⟩ = some (.int .i64 0) := Bag.cell_at S2.out 3 rfl 1 rfl
  have f5 : World.cell? _ ⟨w.heap.size + 1 + 1 + 1, 2, none⟩ = some (.string ⟨#[]⟩) := Bag.cell_at S2.out 3 rfl 2 rfl
  have z0 := Bag.free_at S2.out 2 rfl 0
  have z1 := Bag.free_at S2.out 2 rfl 1
  have z2 := Bag.free_at S2.out 2 rfl 2
  have y0 := Bag.free_at S2.out 3 rfl 0
  have y1 := Bag.free_at S2.out 3 rfl 1
  have y2 := Bag.free_at S2.out 3 rfl 2
  go_wp2_with fail
  clear f0 f1 f2 f3 f4 f5 z0 z1 z2 y0 y1 y2
  have S3 := Lib.hid (show Sl.Sep w _ [_, _, L4.boxR (w.heap.size + 1 + 1) 26 #[.string nm3, .slice a3 ys.length c3, .int .i64 au3], _, _] from L5.put_box5 (L5.put_box5 (L5.put_box5 (S2.out) 2 rfl 0 (.string nm3)) 2 rfl 1 (.slice a3 ys.length c3)) 2 rfl 2 (.int .i64 au3))
  clear S2
  have S4 := Lib.hid (show Sl.Sep w _ [_, _, _, _, _] from L5.put_box5 (L5.put_box5 (L5.put_box5 (S3.out) 3 rfl 0 (.int .i64 0)) 3 rfl 1 (.int .i64 0)) 3 rfl 2 (.string ⟨#[]⟩))
  clear S3
  have f0 : World.cell? _ ⟨w.heap.size + 1 + 1, 0, none⟩ = some (.string nm3) := Bag.cell_at S4.out 2 rfl 0 rfl
  have f1 : World.cell? _ ⟨w.heap.size + 1 + 1, 1, none⟩ = some (.slice a3 ys.length c3) := Bag.cell_at S4.out 2 rfl 1 rfl
  have f2 : World.cell? _ ⟨w.heap.size + 1 + 1, 2, none⟩ = some (.int .i64 au3) := Bag.cell_at S4.out 2 rfl 2 rfl
  have f3 : World.cell? _ ⟨w.heap.size + 1 + 1 + 1, 0, none⟩ = some (.int .i64 0) := Bag.cell_at S4.out 3 rfl 0 rfl
  have f4 : World.cell? _ ⟨w.heap.size + 1 + 1 + 1, 1, none⟩ = some (.int .i64 0) := Bag.cell_at S4.out 3 rfl 1 rfl
  have f5 : World.cell? _ ⟨w.heap.size + 1 + 1 + 1, 2, none⟩ = some (.string ⟨#[]⟩) := Bag.cell_at S4.out 3 rfl 2 rfl
  refine bodyPost_ret (v := .tuple #[.agg #[.string nm3, .slice a3 ys.length c3, .int .i64 au3], .agg #[.int .i64 0, .int .i64 0, .string ⟨#[]⟩], .bool false]) (by simp [results, Try.results24, go_sem, *]) rfl ?_
  exact ⟨⟨nm3, a3, c3, ys, au3⟩, by rw [HE.out.2.1, HE.out.2.2]; rfl, by rw [HE.out.1]; exact HCON.out, Bag.bag_from S4.out 4 rfl, S4.out.old⟩
 ·
  have hlt : auto < 1000000 := by omega
  have hw1 : IntKind.i64.wrap (auto + 1) = auto + 1 := IntWalk.i64_in _ ⟨by omega, by omega⟩
  go_upto_region 4 with fail
  clear f0 f1 f2 f3 f4 f5 f6 f7 f8 f9
  have S2 := Lib.hid (show Sl.Sep w _ [_, _, _, _, _] from L4.push_box S1.out 28 #[.int .i64 1, .int .i64 (auto + 1), .string ⟨#[]⟩] wa.heap.size rfl)
  clear S1
  obtain ⟨g1, hg⟩ : ∃ g', g' = wa.heap.size := ⟨_, rfl⟩
  rw [← hg] at S2 ⊢
  clear hg
  generalize wa.alloc (.cells #[.int .i64 1, .int .i64 (auto + 1), .string ⟨#[]⟩] 28) = w1 at S2 ⊢
  have f0 : World.cell? _ ⟨w.heap.size, 0, none⟩ = some (.string name) := Bag.cell_at S2.out 0 rfl 0 rfl
  have f1 : World.cell? _ ⟨w.heap.size, 1, none⟩ = some (.slice a N c) := Bag.cell_at S2.out 0 rfl 1 rfl
  have f2 : World.cell? _ ⟨w.heap.size, 2, none⟩ = some (.int .i64 auto) := Bag.cell_at S2.out 0 rfl 2 rfl
  have f3 : World.cell? _ ⟨w.heap.size + 1, 0, none⟩ = some (.slice ra M rc) := Bag.cell_at S2.out 1 rfl 0 rfl
  have f4 : World.cell? _ ⟨w.heap.size + 1 + 1, 0, none⟩ = some (.string ⟨#[]⟩) := Bag.cell_at S2.out 2 rfl 0 rfl
  have f5 : World.cell? _ ⟨w.heap.size + 1 + 1, 1, none⟩ = some (.slice none 0 0) := Bag.cell_at S2.out 2 rfl 1 rfl
  have f6 : World.cell? _ ⟨w.heap.size + 1 + 1, 2, none⟩ = some (.int .i64 0) := Bag.cell_at S2.out 2 rfl 2 rfl
  have f7 : World.cell? _ ⟨w.heap.size + 1 + 1 + 1, 0, none⟩ = some (.int .i64 0) := Bag.cell_at S2.out 3 rfl 0 rfl
  have f8 : World.cell? _ ⟨w.heap.size + 1 + 1 + 1, 1, none⟩ = some (.int .i64 0) := Bag.cell_at S2.out 3 rfl 1 rfl
  have f9 : World.cell? _ ⟨w.heap.size + 1 + 1 + 1, 2, none⟩ = some (.string ⟨#[]⟩) := Bag.cell_at S2.out 3 rfl 2 rfl
  have f10 : World.cell? _ ⟨g1, 0, none⟩ = some (.int .i64 1) := Bag.cell_at S2.out 4 rfl 0 rfl
  have f11 : World.cell? _ ⟨g1, 1, none⟩ = some (.int .i64 (auto + 1)) := Bag.cell_at S2.out 4 rfl 1 rfl
  have f12 : World.cell? _ ⟨g1, 2, none⟩ = some (.string ⟨#[]⟩) := Bag.cell_at S2.out 4 rfl 2 rfl
  go_wp2_with fail
  go_at_call 18
  refine (HAD.out _ S2.out.old).mono ?_
  rintro e w2 ⟨⟨nm3, a3, c3, ys, au3⟩, rfl, hcon, ho, hb⟩
  clear f0 f1 f2 f3 f4 f5 f6 f7 f8 f9 f10 f11 f12
  have S3 := Lib.hid (show Sl.Sep w _ [_, _, _, _, L4.boxR g1 28 #[.int .i64 1, .int .i64 (auto + 1), .string ⟨#[]⟩], Bag.bag ((LS.mk nm3 a3 c3 ys au3).rows)] from Bag.push_bag S2.out hb ho)
  clear S2
  clear hb ho
  have HC3 := Lib.hid hcon
  clear hcon
  simp only [LS.v, LS.cells]
  obtain ⟨pb, hpb⟩ : ∃ b, ad.2 = b := ⟨_, rfl⟩
  rw [hpb]
  have HPB := Lib.hid hpb
  clear hpb
  go_upto_region 5 with fail
  have S4 := Lib.hid (show Sl.Sep w _ [_, _, _, _, _, _, _] from L4.push_box S3.out 26 #[.string nm3, .slice a3 ys.length c3, .int .i64 au3] w2.heap.size rfl)
  clear S3
  obtain ⟨g2, hg⟩ : ∃ g', g' = w2.heap.size := ⟨_, rfl⟩
  rw [← hg] at S4 ⊢
  clear hg
  generalize w2.alloc (.cells #[.string nm3, .slice a3 ys.length c3, .int .i64 au3] 26) = w3 at S4 ⊢
  have f0 : World.cell? _ ⟨w.heap.size, 0, none⟩ = some (.string name) := Bag.cell_at S4.out 0 rfl 0 rfl
  have f1 : World.cell? _ ⟨w.heap.size, 1, none⟩ = some (.slice a N c) := Bag.cell_at S4.out 0 rfl 1 rfl
  have f2 : World.cell? _ ⟨w.heap.size, 2, none⟩ = some (.int .i64 auto) := Bag.cell_at S4.out 0 rfl 2 rfl
  have f3 : World.cell? _ ⟨w.heap.size + 1, 0, none⟩ = some (.slice ra M rc) := Bag.cell_at S4.out 1 rfl 0 rfl
  have f4 : World.cell? _ ⟨w.heap.size + 1 + 1, 0, none⟩ = some (.string ⟨#[]⟩) := Bag.cell_at S4.out 2 rfl 0 rfl
  have f5 : World.cell? _ ⟨w.heap.size + 1 + 1, 1, none⟩ = some (.slice none 0 0) := Bag.cell_at S4.out 2 rfl 1 rfl
  have f6 : World.cell? _ ⟨w.heap.size + 1 + 1, 2, none⟩ = some (.int .i64 0) := Bag.cell_at S4.out 2 rfl 2 rfl
  have f7 : World.cell? _ ⟨w.heap.size + 1 + 1 + 1, 0, none⟩ = some (.int .i64 0) := Bag.cell_at S4.out 3 rfl 0 rfl
  have f8 : World.cell? _ ⟨w.heap.size + 1 + 1 + 1, 1, none⟩ = some (.int .i64 0) := Bag.cell_at S4.out 3 rfl 1 rfl
  have f9 : World.cell? _ ⟨w.heap.size + 1 + 1 + 1, 2, none⟩ = some (.string ⟨#[]⟩) := Bag.cell_at S4.out 3 rfl 2 rfl
  have f10 : World.cell? _ ⟨g1, 0, none⟩ = some (.int .i64 1) := Bag.cell_at S4.out 4 rfl 0 rfl
  have f11 : World.cell? _ ⟨g1, 1, none⟩ = some (.int .i64 (auto + 1)) := Bag.cell_at S4.out 4 rfl 1 rfl
  have f12 : World.cell? _ ⟨g1, 2, none⟩ = some (.string ⟨#[]⟩) := Bag.cell_at S4.out 4 rfl 2 rfl
  have f13 : World.cell? _ ⟨g2, 0, none⟩ = some (.string nm3) := Bag.cell_at S4.out 6 rfl 0 rfl
  have f14 : World.cell? _ ⟨g2, 1, none⟩ = some (.slice a3 ys.length c3) := Bag.cell_at S4.out 6 rfl 1 rfl
  have f15 : World.cell? _ ⟨g2, 2, none⟩ = some (.int .i64 au3) := Bag.cell_at S4.out 6 rfl 2 rfl
  cases pb with
  | false =>
   have HE := Lib.hid (HP.out.2.1 h0 HPB.out)
   clear f0 f1 f2 f3 f4 f5 f6 f7 f8 f9 f10 f11 f12 f13 f14 f15
   have f0 : World.cell? _ ⟨w.heap.size + 1 + 1, 0, none⟩ = some (.string ⟨#[]⟩) := Bag.cell_at S4.out 2 rfl 0 rfl
   have f1 : World.cell? _ ⟨w.heap.size + 1 + 1, 1, none⟩ = some (.slice none 0 0) := Bag.cell_at S4.out 2 rfl 1 rfl
   have f2 : World.cell? _ ⟨w.heap.size + 1 + 1, 2, none⟩ = some (.int .i64 0) := Bag.cell_at S4.out 2 rfl 2 rfl
   have f3 : World.cell? _ ⟨w.heap.size + 1 + 1 + 1, 0, none⟩ = some (.int .i64 0) := Bag.cell_at S4.out 3 rfl 0 rfl
   have f4 : World.cell? _ ⟨w.heap.size + 1 + 1 + 1, 1, none⟩ = some (.int .i64 0) := Bag.cell_at S4.out 3 rfl 1 rfl
   have f5 : World.cell? _ ⟨w.heap.size + 1 + 1 + 1, 2, none⟩ = some (.string ⟨#[]⟩) := Bag.cell_at S4.out 3 rfl 2 rfl
   have f6 : World.cell? _ ⟨g2, 0, none⟩ = some (.string nm3) := Bag.cell_at S4.out 6 rfl 0 rfl
   have f7 : World.cell? _ ⟨g2, 1, none⟩ = some (.slice a3 ys.length c3) := Bag.cell_at S4.out 6 rfl 1 rfl
   have f8 : World.cell? _ ⟨g2, 2, none⟩ = some (.int .i64 au3) := Bag.cell_at S4.out 6 rfl 2 rfl
   have z0 := Bag.free_at S4.out 2 rfl 0
   have z1 := Bag.free_at S4.out 2 rfl 1
   have z2 := Bag.free_at S4.out 2 rfl 2
   have y0 := Bag.free_at S4.out 3 rfl 0
   have y1 := Bag.free_at S4.out 3 rfl 1
   have y2 := Bag.free_at S4.out 3 rfl 2
   go_wp2_with fail
   clear f0 f1 f2 f3 f4 f5 f6 f7 f8 z0 z1 z2 y0 y1 y2
   have S5 := Lib.hid (show Sl.Sep w _ [_, _, L4.boxR (w.heap.size + 1 + 1) 26 #[.string nm3, .slice a3 ys.length c3, .int .i64 au3], _, _, _, L4.boxR g2 26 #[.string nm3, .slice a3 ys.length c3, .int .i64 au3]] from L5.put_box5 (L5.put_box5 (L5.put_box5 (S4.out) 2 rfl 0 (.string nm3)) 2 rfl 1 (.slice a3 ys.length c3)) 2 rfl 2 (.int .i64 au3))
   clear S4
   have S6 := Lib.hid (show Sl.Sep w _ [_, _, _, _, _, _, _] from L5.put_box5 (L5.put_box5 (L5.put_box5 (S5.out) 3 rfl 0 (.int .i64 0)) 3 rfl 1 (.int .i64 0)) 3 rfl 2 (.string ⟨#[]⟩))
   clear S5
   have f0 : World.cell? _ ⟨w.heap.size + 1 + 1, 0, none⟩ = some (.string nm3) := Bag.cell_at S6.out 2 rfl 0 rfl
   have f1 : World.cell? _ ⟨w.heap.size + 1 + 1, 1, none⟩ = some (.slice a3 ys.length c3) := Bag.cell_at S6.out 2 rfl 1 rfl
   have f2 : World.cell? _ ⟨w.heap.size + 1 + 1, 2, none⟩ = some (.int .i64 au3) := Bag.cell_at S6.out 2 rfl 2 rfl
   have f3 : World.cell? _ ⟨w.heap.size + 1 + 1 + 1, 0, none⟩ = some (.int .i64 0) := Bag.cell_at S6.out 3 rfl 0 rfl
   have f4 : World.cell? _ ⟨w.heap.size + 1 + 1 + 1, 1, none⟩ = some (.int .i64 0) := Bag.cell_at S6.out 3 rfl 1 rfl
   have f5 : World.cell? _ ⟨w.heap.size + 1 + 1 + 1, 2, none⟩ = some (.string ⟨#[]⟩) := Bag.cell_at S6.out 3 rfl 2 rfl
   have HCON := Lib.hid (HC3.out.trans (HF2.out HPB.out))
   refine bodyPost_ret (v := .tuple #[.agg #[.string nm3, .slice a3 ys.length c3, .int .i64 au3], .agg #[.int .i64 0, .int .i64 0, .string ⟨#[]⟩], .bool false]) (by simp [results, Try.results24, go_sem, *]) rfl ?_
   exact ⟨⟨nm3, a3, c3, ys, au3⟩, by rw [HE.out.2.1, HE.out.2.2]; rfl, by rw [HE.out.1]; exact HCON.out, Bag.bag_from S6.out 5 rfl, S6.out.old⟩
  | true =>
   have HE := Lib.hid (HP.out.2.2 h0 HPB.out)
   have HCON := HC3
   go_upto_region 7 with fail
   clear f0 f1 f2 f3 f4 f5 f6 f7 f8 f9 f10 f11 f12 f13 f14 f15
   refine wp_region_held_drew (S := (fun w' => w'.cell? ⟨g1, 0, none⟩ = some (.int .i64 1) ∧ w'.cell? ⟨g1, 1, none⟩ = some (.int .i64 (auto + 1)) ∧ w'.cell? ⟨g1, 2, none⟩ = some (.string ⟨#[]⟩) ∧ w'.cell? ⟨g2, 0, none⟩ = some (.string nm3) ∧ w'.cell? ⟨g2, 1, none⟩ = some (.slice a3 ys.length c3) ∧ w'.cell? ⟨g2, 2, none⟩ = some (.int .i64 au3))) (by kernel_rfl) ⟨Bag.cell_at S4.out 4 rfl 0 rfl, Bag.cell_at S4.out 4 rfl 1 rfl, Bag.cell_at S4.out 4 rfl 2 rfl, Bag.cell_at S4.out 6 rfl 0 rfl, Bag.cell_at S4.out 6 rfl 1 rfl, Bag.cell_at S4.out 6 rfl 2 rfl⟩ (fun hS => ?_)
   have S5 := Lib.hid (Bag.drew1 S4.out)
   clear S4
   generalize World.drew _ = w4 at hS S5 ⊢
   refine tk 0 rfl ?_
   try simp only [zp0, zp1, zp2, zp3, zp4]
   refine tk 1 rfl ?_
   try simp only [zp0, zp1, zp2, zp3, zp4]
   refine Reg.one_op (i := 2) rfl (by kernel_rfl) (fun K hK => ?_)
   have f0 : World.cell? _ ⟨w.heap.size + 1 + 1, 0, none⟩ = some (.string ⟨#[]⟩) := Bag.cell_at S5.out 2 rfl 0 rfl
   have f1 : World.cell? _ ⟨w.heap.size + 1 + 1, 1, none⟩ = some (.slice none 0 0) := Bag.cell_at S5.out 2 rfl 1 rfl
   have f2 : World.cell? _ ⟨w.heap.size + 1 + 1, 2, none⟩ = some (.int .i64 0) := Bag.cell_at S5.out 2 rfl 2 rfl
   have z0 := Bag.free_at S5.out 2 rfl 0
   have z1 := Bag.free_at S5.out 2 rfl 1
   have z2 := Bag.free_at S5.out 2 rfl 2
   go_simp
   clear f0 f1 f2 z0 z1 z2
   have S6 := Lib.hid (show Sl.Sep w _ [_, _, L4.boxR (w.heap.size + 1 + 1) 26 #[.string nm3, .slice a3 ys.length c3, .int .i64 au3], _, _, _, _] from L5.put_box5 (L5.put_box5 (L5.put_box5 (S5.out) 2 rfl 0 (.string nm3)) 2 rfl 1 (.slice a3 ys.length c3)) 2 rfl 2 (.int .i64 au3))
   clear S5
   refine hK.out _ _ ⟨Bag.cell_at S6.out 4 rfl 0 rfl, Bag.cell_at S6.out 4 rfl 1 rfl, Bag.cell_at S6.out 4 rfl 2 rfl, Bag.cell_at S6.out 6 rfl 0 rfl, Bag.cell_at S6.out 6 rfl 1 rfl, Bag.cell_at S6.out 6 rfl 2 rfl⟩ (fun hS => ?_)
   clear hK K
   try simp only [zp0, zp1, zp2, zp3, zp4]
   refine Reg.one_op (i := 3) rfl (by kernel_rfl) (fun K hK => ?_)
   have f0 : World.cell? _ ⟨w.heap.size + 1 + 1 + 1, 0, none⟩ = some (.int .i64 0) := Bag.cell_at S6.out 3 rfl 0 rfl
   have f1 : World.cell? _ ⟨w.heap.size + 1 + 1 + 1, 1, none⟩ = some (.int .i64 0) := Bag.cell_at S6.out 3 rfl 1 rfl
   have f2 : World.cell? _ ⟨w.heap.size + 1 + 1 + 1, 2, none⟩ = some (.string ⟨#[]⟩) := Bag.cell_at S6.out 3 rfl 2 rfl
   have z0 := Bag.free_at S6.out 3 rfl 0
   have z1 := Bag.free_at S6.out 3 rfl 1
   have z2 := Bag.free_at S6.out 3 rfl 2
   go_simp
   clear f0 f1 f2 z0 z1 z2
   have S7 := Lib.hid (show Sl.Sep w _ [_, _, _, L4.boxR (w.heap.size + 1 + 1 + 1) 28 #[.int .i64 1, .int .i64 (auto + 1), .string ⟨#[]⟩], _, _, _] from L5.put_box5 (L5.put_box5 (L5.put_box5 (S6.out) 3 rfl 0 (.int .i64 1)) 3 rfl 1 (.int .i64 (auto + 1))) 3 rfl 2 (.string ⟨#[]⟩))
   clear S6
   refine hK.out _ _ ⟨Bag.cell_at S7.out 4 rfl 0 rfl, Bag.cell_at S7.out 4 rfl 1 rfl, Bag.cell_at S7.out 4 rfl 2 rfl, Bag.cell_at S7.out 6 rfl 0 rfl, Bag.cell_at S7.out 6 rfl 1 rfl, Bag.cell_at S7.out 6 rfl 2 rfl⟩ (fun hS => ?_)
   clear hK K
   try simp only [zp0, zp1, zp2, zp3, zp4]
   refine tk 4 rfl ?_
   try simp only [zp0, zp1, zp2, zp3, zp4]
   refine wpAnyH_done (by kernel_rfl) ?_ _
   have f0 : World.cell? _ ⟨w.heap.size, 0, none⟩ = some (.string name) := Bag.cell_at S7.out 0 rfl 0 rfl
   have f1 : World.cell? _ ⟨w.heap.size, 1, none⟩ = some (.slice a N c) := Bag.cell_at S7.out 0 rfl 1 rfl
   have f2 : World.cell? _ ⟨w.heap.size, 2, none⟩ = some (.int .i64 auto) := Bag.cell_at S7.out 0 rfl 2 rfl
   have f3 : World.cell? _ ⟨w.heap.size + 1, 0, none⟩ = some (.slice ra M rc) := Bag.cell_at S7.out 1 rfl 0 rfl
   have f4 : World.cell? _ ⟨w.heap.size + 1 + 1, 0, none⟩ = some (.string nm3) := Bag.cell_at S7.out 2 rfl 0 rfl
   have f5 : World.cell? _ ⟨w.heap.size + 1 + 1, 1, none⟩ = some (.slice a3 ys.length c3) := Bag.cell_at S7.out 2 rfl 1 rfl
   have f6 : World.cell? _ ⟨w.heap.size + 1 + 1, 2, none⟩ = some (.int .i64 au3) := Bag.cell_at S7.out 2 rfl 2 rfl
   have f7 : World.cell? _ ⟨w.heap.size + 1 + 1 + 1, 0, none⟩ = some (.int .i64 1) := Bag.cell_at S7.out 3 rfl 0 rfl
   have f8 : World.cell? _ ⟨w.heap.size + 1 + 1 + 1, 1, none⟩ = some (.int .i64 (auto + 1)) := Bag.cell_at S7.out 3 rfl 1 rfl
   have f9 : World.cell? _ ⟨w.heap.size + 1 + 1 + 1, 2, none⟩ = some (.string ⟨#[]⟩) := Bag.cell_at S7.out 3 rfl 2 rfl
   have f10 : World.cell? _ ⟨g1, 0, none⟩ = some (.int .i64 1) := Bag.cell_at S7.out 4 rfl 0 rfl
   have f11 : World.cell? _ ⟨g1, 1, none⟩ = some (.int .i64 (auto + 1)) := Bag.cell_at S7.out 4 rfl 1 rfl
   have f12 : World.cell? _ ⟨g1, 2, none⟩ = some (.string ⟨#[]⟩) := Bag.cell_at S7.out 4 rfl 2 rfl
   have f13 : World.cell? _ ⟨g2, 0, none⟩ = some (.string nm3) := Bag.cell_at S7.out 6 rfl 0 rfl
   have f14 : World.cell? _ ⟨g2, 1, none⟩ = some (.slice a3 ys.length c3) := Bag.cell_at S7.out 6 rfl 1 rfl
   have f15 : World.cell? _ ⟨g2, 2, none⟩ = some (.int .i64 au3) := Bag.cell_at S7.out 6 rfl 2 rfl
   go_wp2_with fail
   refine bodyPost_ret (v := .tuple #[.agg #[.string nm3, .slice a3 ys.length c3, .int .i64 au3], .agg #[.int .i64 1, .int .i64 (auto + 1), .string ⟨#[]⟩], .bool true]) (by simp [results, Try.results24, go_sem, *]) rfl ?_
   exact ⟨⟨nm3, a3, c3, ys, au3⟩, by rw [HE.out.2.1, HE.out.2.2]; rfl, by rw [HE.out.1]; exact HCON.out, Bag.bag_from S7.out 5 rfl, S7.out.old⟩
end Go.Proofs.Ytojcdmgcbgpdmaa.L6

namespace Go.Proofs.Ytojcdmgcbgpdmaa.L6
open L4 (K isK cmpK R inR encU)
open L5 (F isR isN cellsF encR eqR Small)
theorem FitS_put {s : S6} {k : K} {l : List F} (h : FitS s) (hz : FitI ⟨k, l⟩) : FitS (putI s k l).1 := by
 obtain ⟨n, xs, u⟩ := s
 unfold putI
 split
 ·
  rename_i hg
  split
  ·
   exact h.set _ _ hz
  ·
   split
   ·
    exact h
   ·
    rename_i h2
    exact h.ins _ _ hz (by dsimp only at h2; omega)
 ·
  exact h
theorem FitS_add {s : S6} {k : K} {l : List F} (h : FitS s) (hz : FitI ⟨k, l⟩) : FitS (addI s k l).1 := by
 unfold addI
 split
 ·
  exact h
 ·
  exact FitS_put h hz
theorem FitS_auto {s : S6} {l : List F} (h : FitS s) (h1 : l.length ≤ 1048576) (h2 : Small l) : FitS (autoS s l) := by
 unfold autoS
 split
 ·
  exact FitS_add h ⟨by show (0 : Nat) ≤ _; omega, h1, h2⟩
 ·
  exact h
end Go.Proofs.Ytojcdmgcbgpdmaa.L6

