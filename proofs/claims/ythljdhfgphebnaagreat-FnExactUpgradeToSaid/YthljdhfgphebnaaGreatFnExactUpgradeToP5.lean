/-
  What the law FnExactUpgradeTo needs, laid by my program lawpack.py, part 5: the texts L4Im4, L6Ic, CeStore, L6Iw, L7Ia, L7Ib, L7Ic, L8Ia, Eat, one behind the other; each begins with its own words.
-/
import Derived.Test.YthljdhfgphebnaaGreatFnExactUpgradeToP4
set_option linter.unusedSimpArgs false
set_option linter.unusedVariables false
set_option maxRecDepth 100000
set_option linter.unusedSimpArgs false
namespace Go.Proofs.YthljdhfgphebnaaGreat.L4
open Go.Op (bytesLess)
open Go.ChangeShapes Go.WideShapes Go.ChangeAt Go.RowKit Mem Sl Ex L2

theorem step_store_box {P : Program} {ops : Array Oper} {o : Oper} {a : Act} {w : World} {K : Act → World → Prop} {Q : Exit → Act → World → Prop} {E : Prop} (hgd : o.guard = none) (ty : TypeId) (x y : Operand) (ho : o.op = .store ty x y)
  (g : Nat) (t : TypeId) (old cells : Array Value) (hx : a.eval x = .pointer (some ⟨g, 0, none⟩)) (hy : a.eval y = .agg cells) (hr : Row w g t old) (hi : (P.info? ty).map (·.size) = some cells.size) (hold : old.size = cells.size) (h1 : cells.all (·.oneCell') = true)
  (h : ∀ w', Turned [g] w w' → Row w' g t cells → K (a.put o.dst undef) w') : if Region.wanted o (yielded ops a.tmps) = true then Oper.wp P o a w K Q else E := by
 have hw : Region.wanted o (yielded ops a.tmps) = true := by simp [Region.wanted, hgd]
 rw [if_pos hw]
 refine wp_store_row ty x y ho g cells hx hy t old hr hi hold h1 (h _ ⟨rfl, rfl, rfl, by simp [World.setRow], fun b _ hb => setRow_other w g b cells (by simpa using hb)⟩ (setRow_heap w g old cells t (0, 0) hr))
theorem sep_two {W w : World} {a b : Res} {ts : List Res} (h : Sep W w (a :: b :: ts)) : Sep W w [a, b] := by
 have e : ∀ (i : Nat) (r : Res), [a, b][i]? = some r → (a :: b :: ts)[i]? = some r := fun i r hi => by
  match i with
  | 0 => simpa using hi
  | 1 => simpa using hi
  | i + 2 => simp at hi
 exact ⟨h.old, fun i r hi => h.is i r (e i r hi), fun i r hi => h.lies i r (e i r hi), fun i j r s hi hj => h.apart i j r s (e i r hi) (e j s hj)⟩
theorem box6 {w : World} {g : Nat} {t : TypeId} {a0 a1 a2 a3 a4 a5 : Value} (hr : Row w g t #[a0, a1, a2, a3, a4, a5]) : w.cell? ⟨g, 0, none⟩ = some a0 ∧ w.cell? ⟨g, 1, none⟩ = some a1 ∧ w.cell? ⟨g, 2, none⟩ = some a2 ∧ w.cell? ⟨g, 3, none⟩ = some a3 ∧ w.cell? ⟨g, 4, none⟩ = some a4 ∧ w.cell? ⟨g, 5, none⟩ = some a5 := by
 refine ⟨?_, ?_, ?_, ?_, ?_, ?_⟩ <;> (rw [hr.cell]; rfl)
set_option maxHeartbeats 30000000 in
theorem implCompareKeys_any (a b : K) (ha : a.text.size ≤ 281474976710656) (hb : b.text.size ≤ 281474976710656) (w : World) :
  Calls Tryz.prog 139 #[a.v, b.v] w fun e w' => e = .returned (.int .i64 (cmpK a b)) ∧ Below w.heap.size w w' := by
 have H1 := Lib.hid (fun w => implIsKey_any a ha w)
 have H2 := Lib.hid (fun w => implIsKey_any b hb w)
 obtain ⟨ia, hia⟩ : ∃ x, isK a = x := ⟨_, rfl⟩
 obtain ⟨ib, hib⟩ : ∃ x, isK b = x := ⟨_, rfl⟩
 rw [hia] at H1
 rw [hib] at H2
 obtain ⟨ka, na, sa⟩ := a
 obtain ⟨kb, nb, sb⟩ := b
 have S0 := Sl.Sep.start w
 have S1 := L4.push_box S0 110 #[.int .i64 ka, .int .i64 na, .string sa] (w.heap.size) (by simp)
 clear S0
 have S2 := L4.push_box S1 110 #[.int .i64 kb, .int .i64 nb, .string sb] (w.heap.size + 1) (by simp)
 clear S1
 unfold K.v at H1 H2 ⊢
 go_enter Tryz.func139, Tryz.ntmps139
 go_wp2_with fail
 go_at_call 137
 refine (H1.out _).mono ?_
 rintro e w3 ⟨rfl, h3⟩
 have S3 := S2.keep h3
 clear S2 h3
 obtain ⟨f0_0, f0_1, f0_2⟩ := L4.box3 S3 0 rfl
 obtain ⟨f1_0, f1_1, f1_2⟩ := L4.box3 S3 1 rfl
 cases ia with
 | false =>
  go_wp2_with fail
  go_ret
  exact ⟨by rw [cmpK_bad1 hia]; rfl, S3.old⟩
 | true =>
  go_wp2_with fail
  go_at_call 137
  refine (H2.out _).mono ?_
  rintro e w4 ⟨rfl, h4⟩
  have S4 := S3.keep h4
  clear S3 h4 f0_0 f0_1 f0_2 f1_0 f1_1 f1_2
  obtain ⟨f0_0, f0_1, f0_2⟩ := L4.box3 S4 0 rfl
  obtain ⟨f1_0, f1_1, f1_2⟩ := L4.box3 S4 1 rfl
  cases ib with
  | false =>
   go_wp2_with fail
   go_ret
   exact ⟨by rw [cmpK_bad2 hib]; rfl, S4.old⟩
  | true =>
   have ga := isK_iff.1 hia
   have gb := isK_iff.1 hib
   by_cases hk : ka = kb
   ·
    obtain ⟨ma, hma⟩ : ∃ m : Nat, (m : Int) = na + 1000000000000 := ⟨(na + 1000000000000).toNat, by have := ga.n0; simp only at this; omega⟩
    obtain ⟨mb, hmb⟩ : ∃ m : Nat, (m : Int) = nb + 1000000000000 := ⟨(nb + 1000000000000).toNat, by have := gb.n0; simp only at this; omega⟩
    have HA := Lib.hid (fun w => encodeNumber_any na ma hma ga.n1 w)
    have HB := Lib.hid (fun w => encodeNumber_any nb mb hmb gb.n1 w)
    obtain ⟨x0, x1, x2, x3, x4, x5, hxc, hxl⟩ := numCells_form ma
    obtain ⟨y0, y1, y2, y3, y4, y5, hyc, hyl⟩ := numCells_form mb
    rw [hxc] at HA
    rw [hyc] at HB
    have HE1 := Lib.hid (fun (hn : na = nb) => cmpK_t hia hib hk hn)
    have HE2 := Lib.hid (fun (hn : ¬ na = nb) => cmpK_n hia hib hk hn)
    have HM := Lib.hid (And.intro hma (And.intro hmb (And.intro hxl hyl)))
    have HM2 := Lib.hid (show na ≤ 1000000000000 ∧ nb ≤ 1000000000000 from ⟨ga.n1, gb.n1⟩)
    subst hk
    clear hia hib ga gb hxc hyc hma hmb hxl hyl
    go_upto_region 5 with fail
    go_cut [5, 6] (fun p q wx => ∃ g1 g2, p = .pointer (some ⟨g1, 0, none⟩) ∧ q = .pointer (some ⟨g2, 0, none⟩) ∧ Hid (Row wx g1 209 #[.int .u8 x0, .int .u8 x1, .int .u8 x2, .int .u8 x3, .int .u8 x4, .int .u8 x5] ∧ Row wx g2 209 #[.int .u8 y0, .int .u8 y1, .int .u8 y2, .int .u8 y3, .int .u8 y4, .int .u8 y5] ∧ Sep w wx [boxR w.heap.size 110 #[.int .i64 ka, .int .i64 na, .string sa], boxR (w.heap.size + 1) 110 #[.int .i64 ka, .int .i64 nb, .string sb]]))
    case first =>
     refine wp_region_held_drew (S := fun w' => w'.cell? ⟨w.heap.size, 1, none⟩ = some (.int .i64 na) ∧ w'.cell? ⟨w.heap.size + 1, 1, none⟩ = some (.int .i64 nb)) (by kernel_rfl) ⟨f0_1, f1_1⟩ (fun hS => ?_)
     have S4d : Sep w w4.drew _ := S4.drews 1
     clear f0_0 f0_1 f0_2 f1_0 f1_1 f1_2 S4
     generalize w4.drew = wd at hS S4d ⊢
     refine wpAnyH_take (i := 0) (v := ?_) rfl (by kernel_rfl) (by kernel_rfl) (by kernel_rfl) (fun _ _ _ h => h) (Or.inl ⟨by rfl, ?_⟩) (by assumption) ?_
     rotate_left
     ·
      (intro w hSw; (try dsimp only at hSw); go_simp; try with_reducible rfl)
     try simp only [zp0, zp1, zp2, zp3, zp4]
     refine wpAnyH_take (i := 1) (v := ?_) rfl (by kernel_rfl) (by kernel_rfl) (by kernel_rfl) (fun _ _ _ h => h) (Or.inl ⟨by rfl, ?_⟩) (by assumption) ?_
     rotate_left
     ·
      (intro w hSw; (try dsimp only at hSw); go_simp; try with_reducible rfl)
     try simp only [zp0, zp1, zp2, zp3, zp4]
     refine wpAnyH_take (i := 3) (v := ?_) rfl (by kernel_rfl) (by kernel_rfl) (by kernel_rfl) (fun _ _ _ h => h) (Or.inl ⟨by rfl, ?_⟩) (by assumption) ?_
     rotate_left
     ·
      (intro w hSw; (try dsimp only at hSw); go_simp; try with_reducible rfl)
     try simp only [zp0, zp1, zp2, zp3, zp4]
     refine wpAnyH_take (i := 4) (v := ?_) rfl (by kernel_rfl) (by kernel_rfl) (by kernel_rfl) (fun _ _ _ h => h) (Or.inl ⟨by rfl, ?_⟩) (by assumption) ?_
     rotate_left
     ·
      (intro w hSw; (try dsimp only at hSw); go_simp; try with_reducible rfl)
     try simp only [zp0, zp1, zp2, zp3, zp4]
     refine wpAnyH_ready (rs := [2, 6, 7]) (by kernel_rfl) (by simp) ?_
     refine AllReadyH.cons rfl (fun K hK => ?_) ?_
     ·
      go_simp
      go_at_call 168
      refine (HA.out _).mono ?_
      rintro e w1x ⟨rfl, hb⟩
      have S1x := Sl.Sep.keep S4d hb
      clear hb S4d
      go_wp2_with fail
      refine hK.out _ _ ⟨(box3 S1x 0 rfl).2.1, (box3 S1x 1 rfl).2.1⟩ (fun hS => ?_)
      clear hK K
      try simp only [zp0, zp1, zp2, zp3, zp4]
      refine wpAnyH_ready (rs := [5, 6, 7]) (by kernel_rfl) (by simp) ?_
      refine AllReadyH.cons rfl (fun K hK => ?_) ?_
      ·
       go_simp
       go_at_call 168
       refine (HB.out _).mono ?_
       rintro e w2x ⟨rfl, hb⟩
       have S2x := Sl.Sep.keep S1x hb
       clear hb S1x
       go_wp2_with fail
       refine hK.out _ _ ⟨(box3 S2x 0 rfl).2.1, (box3 S2x 1 rfl).2.1⟩ (fun hS => ?_)
       clear hK K
       try simp only [zp0, zp1, zp2, zp3, zp4]
       refine wpAnyH_ready (rs := [6, 7]) (by kernel_rfl) (by simp) ?_
       refine AllReadyH.cons rfl (fun K hK => ?_) ?_
       ·
        have S3x := push_box S2x 209 #[.int .u8 0, .int .u8 0, .int .u8 0, .int .u8 0, .int .u8 0, .int .u8 0] w2x.heap.size rfl
        go_simp
        refine hK.out _ _ ⟨(box3 S3x 0 rfl).2.1, (box3 S3x 1 rfl).2.1⟩ (fun hS => ?_)
        clear hK K
        try simp only [zp0, zp1, zp2, zp3, zp4]
        generalize w2x.alloc (.cells #[.int .u8 0, .int .u8 0, .int .u8 0, .int .u8 0, .int .u8 0, .int .u8 0] 209) = w3x at hS S3x ⊢
        refine wpAnyH_ready (rs := [7]) (by kernel_rfl) (by simp) ?_
        refine AllReadyH.cons rfl (fun K hK => ?_) ?_
        ·
         have S4x := push_box S3x 209 #[.int .u8 0, .int .u8 0, .int .u8 0, .int .u8 0, .int .u8 0, .int .u8 0] w3x.heap.size rfl
         go_simp
         refine hK.out _ _ ⟨(box3 S4x 0 rfl).2.1, (box3 S4x 1 rfl).2.1⟩ (fun hS => ?_)
         clear hK K
         try simp only [zp0, zp1, zp2, zp3, zp4]
         generalize w3x.alloc (.cells #[.int .u8 0, .int .u8 0, .int .u8 0, .int .u8 0, .int .u8 0, .int .u8 0] 209) = w4x at hS S4x ⊢
         refine wpAnyH_ready (rs := [8]) (by kernel_rfl) (by simp) ?_
         refine AllReadyH.cons rfl (fun K hK => ?_) ?_
         ·
          refine step_store_box rfl 209 (.tmp 5) (.tmp 27) rfl w2x.heap.size 209 #[.int .u8 0, .int .u8 0, .int .u8 0, .int .u8 0, .int .u8 0, .int .u8 0] #[.int .u8 x0, .int .u8 x1, .int .u8 x2, .int .u8 x3, .int .u8 x4, .int .u8 x5] rfl rfl (box_at S4x 2 rfl) (by kernel_rfl) rfl (by simp [Value.oneCell']) ?_
          intro w5x ht hr
          have S5x := Sl.Sep.put (r' := boxR w2x.heap.size 209 #[.int .u8 x0, .int .u8 x1, .int .u8 x2, .int .u8 x3, .int .u8 x4, .int .u8 x5]) S4x 2 rfl ht hr (fun b hb => hb)
          clear ht hr
          refine hK.out _ _ ⟨(box3 S5x 0 rfl).2.1, (box3 S5x 1 rfl).2.1⟩ (fun hS => ?_)
          clear hK K
          try simp only [zp0, zp1, zp2, zp3, zp4]
          refine wpAnyH_ready (rs := [9]) (by kernel_rfl) (by simp) ?_
          refine AllReadyH.cons rfl (fun K hK => ?_) ?_
          ·
           refine step_store_box rfl 209 (.tmp 6) (.tmp 30) rfl w3x.heap.size 209 #[.int .u8 0, .int .u8 0, .int .u8 0, .int .u8 0, .int .u8 0, .int .u8 0] #[.int .u8 y0, .int .u8 y1, .int .u8 y2, .int .u8 y3, .int .u8 y4, .int .u8 y5] rfl rfl (box_at S5x 3 rfl) (by kernel_rfl) rfl (by simp [Value.oneCell']) ?_
           intro w6x ht hr
           have S6x := Sl.Sep.put (r' := boxR w3x.heap.size 209 #[.int .u8 y0, .int .u8 y1, .int .u8 y2, .int .u8 y3, .int .u8 y4, .int .u8 y5]) S5x 3 rfl ht hr (fun b hb => hb)
           clear ht hr
           refine hK.out _ _ ⟨(box3 S6x 0 rfl).2.1, (box3 S6x 1 rfl).2.1⟩ (fun hS => ?_)
           clear hK K
           try simp only [zp0, zp1, zp2, zp3, zp4]
           refine wpAnyH_done (by kernel_rfl) ?_ _
           go_wp2_with fail
           go_meet
           case rel => exact ⟨_, _, rfl, rfl, And.intro (box_at S6x 2 rfl) (And.intro (box_at S6x 3 rfl) (sep_two S6x))⟩
          exact AllReadyH.nil
         exact AllReadyH.nil
        exact AllReadyH.nil
       refine AllReadyH.cons rfl (fun K hK => ?_) ?_
       ·
        have S7x := push_box S2x 209 #[.int .u8 0, .int .u8 0, .int .u8 0, .int .u8 0, .int .u8 0, .int .u8 0] w2x.heap.size rfl
        go_simp
        refine hK.out _ _ ⟨(box3 S7x 0 rfl).2.1, (box3 S7x 1 rfl).2.1⟩ (fun hS => ?_)
        clear hK K
        try simp only [zp0, zp1, zp2, zp3, zp4]
        generalize w2x.alloc (.cells #[.int .u8 0, .int .u8 0, .int .u8 0, .int .u8 0, .int .u8 0, .int .u8 0] 209) = w7x at hS S7x ⊢
        refine wpAnyH_ready (rs := [6]) (by kernel_rfl) (by simp) ?_
        refine AllReadyH.cons rfl (fun K hK => ?_) ?_
        ·
         have S8x := push_box S7x 209 #[.int .u8 0, .int .u8 0, .int .u8 0, .int .u8 0, .int .u8 0, .int .u8 0] w7x.heap.size rfl
         go_simp
         refine hK.out _ _ ⟨(box3 S8x 0 rfl).2.1, (box3 S8x 1 rfl).2.1⟩ (fun hS => ?_)
         clear hK K
         try simp only [zp0, zp1, zp2, zp3, zp4]
         generalize w7x.alloc (.cells #[.int .u8 0, .int .u8 0, .int .u8 0, .int .u8 0, .int .u8 0, .int .u8 0] 209) = w8x at hS S8x ⊢
         refine wpAnyH_ready (rs := [8]) (by kernel_rfl) (by simp) ?_
         refine AllReadyH.cons rfl (fun K hK => ?_) ?_
         ·
          refine step_store_box rfl 209 (.tmp 5) (.tmp 27) rfl w7x.heap.size 209 #[.int .u8 0, .int .u8 0, .int .u8 0, .int .u8 0, .int .u8 0, .int .u8 0] #[.int .u8 x0, .int .u8 x1, .int .u8 x2, .int .u8 x3, .int .u8 x4, .int .u8 x5] rfl rfl (box_at S8x 3 rfl) (by kernel_rfl) rfl (by simp [Value.oneCell']) ?_
          intro w9x ht hr
          have S9x := Sl.Sep.put (r' := boxR w7x.heap.size 209 #[.int .u8 x0, .int .u8 x1, .int .u8 x2, .int .u8 x3, .int .u8 x4, .int .u8 x5]) S8x 3 rfl ht hr (fun b hb => hb)
          clear ht hr
          refine hK.out _ _ ⟨(box3 S9x 0 rfl).2.1, (box3 S9x 1 rfl).2.1⟩ (fun hS => ?_)
          clear hK K
          try simp only [zp0, zp1, zp2, zp3, zp4]
          refine wpAnyH_ready (rs := [9]) (by kernel_rfl) (by simp) ?_
          refine AllReadyH.cons rfl (fun K hK => ?_) ?_
          ·
           refine step_store_box rfl 209 (.tmp 6) (.tmp 30) rfl w2x.heap.size 209 #[.int .u8 0, .int .u8 0, .int .u8 0, .int .u8 0, .int .u8 0, .int .u8 0] #[.int .u8 y0, .int .u8 y1, .int .u8 y2, .int .u8 y3, .int .u8 y4, .int .u8 y5] rfl rfl (box_at S9x 2 rfl) (by kernel_rfl) rfl (by simp [Value.oneCell']) ?_
           intro w10x ht hr
           have S10x := Sl.Sep.put (r' := boxR w2x.heap.size 209 #[.int .u8 y0, .int .u8 y1, .int .u8 y2, .int .u8 y3, .int .u8 y4, .int .u8 y5]) S9x 2 rfl ht hr (fun b hb => hb)
           clear ht hr
           refine hK.out _ _ ⟨(box3 S10x 0 rfl).2.1, (box3 S10x 1 rfl).2.1⟩ (fun hS => ?_)
           clear hK K
           try simp only [zp0, zp1, zp2, zp3, zp4]
           refine wpAnyH_done (by kernel_rfl) ?_ _
           go_wp2_with fail
           go_meet
           case rel => exact ⟨_, _, rfl, rfl, And.intro (box_at S10x 3 rfl) (And.intro (box_at S10x 2 rfl) (sep_two S10x))⟩
          exact AllReadyH.nil
         exact AllReadyH.nil
        exact AllReadyH.nil
       exact AllReadyH.nil
      refine AllReadyH.cons rfl (fun K hK => ?_) ?_
      ·
       have S11x := push_box S1x 209 #[.int .u8 0, .int .u8 0, .int .u8 0, .int .u8 0, .int .u8 0, .int .u8 0] w1x.heap.size rfl
       go_simp
       refine hK.out _ _ ⟨(box3 S11x 0 rfl).2.1, (box3 S11x 1 rfl).2.1⟩ (fun hS => ?_)
       clear hK K
       try simp only [zp0, zp1, zp2, zp3, zp4]
       generalize w1x.alloc (.cells #[.int .u8 0, .int .u8 0, .int .u8 0, .int .u8 0, .int .u8 0, .int .u8 0] 209) = w11x at hS S11x ⊢
       refine wpAnyH_ready (rs := [5, 7]) (by kernel_rfl) (by simp) ?_
       refine AllReadyH.cons rfl (fun K hK => ?_) ?_
       ·
        go_simp
        go_at_call 168
        refine (HB.out _).mono ?_
        rintro e w12x ⟨rfl, hb⟩
        have S12x := Sl.Sep.keep S11x hb
        clear hb S11x
        go_wp2_with fail
        refine hK.out _ _ ⟨(box3 S12x 0 rfl).2.1, (box3 S12x 1 rfl).2.1⟩ (fun hS => ?_)
        clear hK K
        try simp only [zp0, zp1, zp2, zp3, zp4]
        refine wpAnyH_ready (rs := [7]) (by kernel_rfl) (by simp) ?_
        refine AllReadyH.cons rfl (fun K hK => ?_) ?_
        ·
         have S13x := push_box S12x 209 #[.int .u8 0, .int .u8 0, .int .u8 0, .int .u8 0, .int .u8 0, .int .u8 0] w12x.heap.size rfl
         go_simp
         refine hK.out _ _ ⟨(box3 S13x 0 rfl).2.1, (box3 S13x 1 rfl).2.1⟩ (fun hS => ?_)
         clear hK K
         try simp only [zp0, zp1, zp2, zp3, zp4]
         generalize w12x.alloc (.cells #[.int .u8 0, .int .u8 0, .int .u8 0, .int .u8 0, .int .u8 0, .int .u8 0] 209) = w13x at hS S13x ⊢
         refine wpAnyH_ready (rs := [8]) (by kernel_rfl) (by simp) ?_
         refine AllReadyH.cons rfl (fun K hK => ?_) ?_
         ·
          refine step_store_box rfl 209 (.tmp 5) (.tmp 27) rfl w1x.heap.size 209 #[.int .u8 0, .int .u8 0, .int .u8 0, .int .u8 0, .int .u8 0, .int .u8 0] #[.int .u8 x0, .int .u8 x1, .int .u8 x2, .int .u8 x3, .int .u8 x4, .int .u8 x5] rfl rfl (box_at S13x 2 rfl) (by kernel_rfl) rfl (by simp [Value.oneCell']) ?_
          intro w14x ht hr
          have S14x := Sl.Sep.put (r' := boxR w1x.heap.size 209 #[.int .u8 x0, .int .u8 x1, .int .u8 x2, .int .u8 x3, .int .u8 x4, .int .u8 x5]) S13x 2 rfl ht hr (fun b hb => hb)
          clear ht hr
          refine hK.out _ _ ⟨(box3 S14x 0 rfl).2.1, (box3 S14x 1 rfl).2.1⟩ (fun hS => ?_)
          clear hK K
          try simp only [zp0, zp1, zp2, zp3, zp4]
          refine wpAnyH_ready (rs := [9]) (by kernel_rfl) (by simp) ?_
          refine AllReadyH.cons rfl (fun K hK => ?_) ?_
          ·
           refine step_store_box rfl 209 (.tmp 6) (.tmp 30) rfl w12x.heap.size 209 #[.int .u8 0, .int .u8 0, .int .u8 0, .int .u8 0, .int .u8 0, .int .u8 0] #[.int .u8 y0, .int .u8 y1, .int .u8 y2, .int .u8 y3, .int .u8 y4, .int .u8 y5] rfl rfl (box_at S14x 3 rfl) (by kernel_rfl) rfl (by simp [Value.oneCell']) ?_
           intro w15x ht hr
           have S15x := Sl.Sep.put (r' := boxR w12x.heap.size 209 #[.int .u8 y0, .int .u8 y1, .int .u8 y2, .int .u8 y3, .int .u8 y4, .int .u8 y5]) S14x 3 rfl ht hr (fun b hb => hb)
           clear ht hr
           refine hK.out _ _ ⟨(box3 S15x 0 rfl).2.1, (box3 S15x 1 rfl).2.1⟩ (fun hS => ?_)
           clear hK K
           try simp only [zp0, zp1, zp2, zp3, zp4]
           refine wpAnyH_done (by kernel_rfl) ?_ _
           go_wp2_with fail
           go_meet
           case rel => exact ⟨_, _, rfl, rfl, And.intro (box_at S15x 2 rfl) (And.intro (box_at S15x 3 rfl) (sep_two S15x))⟩
          exact AllReadyH.nil
         exact AllReadyH.nil
        exact AllReadyH.nil
       refine AllReadyH.cons rfl (fun K hK => ?_) ?_
       ·
        have S16x := push_box S11x 209 #[.int .u8 0, .int .u8 0, .int .u8 0, .int .u8 0, .int .u8 0, .int .u8 0] w11x.heap.size rfl
        go_simp
        refine hK.out _ _ ⟨(box3 S16x 0 rfl).2.1, (box3 S16x 1 rfl).2.1⟩ (fun hS => ?_)
        clear hK K
        try simp only [zp0, zp1, zp2, zp3, zp4]
        generalize w11x.alloc (.cells #[.int .u8 0, .int .u8 0, .int .u8 0, .int .u8 0, .int .u8 0, .int .u8 0] 209) = w16x at hS S16x ⊢
        refine wpAnyH_ready (rs := [5]) (by kernel_rfl) (by simp) ?_
        refine AllReadyH.cons rfl (fun K hK => ?_) ?_
        ·
         go_simp
         go_at_call 168
         refine (HB.out _).mono ?_
         rintro e w17x ⟨rfl, hb⟩
         have S17x := Sl.Sep.keep S16x hb
         clear hb S16x
         go_wp2_with fail
         refine hK.out _ _ ⟨(box3 S17x 0 rfl).2.1, (box3 S17x 1 rfl).2.1⟩ (fun hS => ?_)
         clear hK K
         try simp only [zp0, zp1, zp2, zp3, zp4]
         refine wpAnyH_ready (rs := [8]) (by kernel_rfl) (by simp) ?_
         refine AllReadyH.cons rfl (fun K hK => ?_) ?_
         ·
          refine step_store_box rfl 209 (.tmp 5) (.tmp 27) rfl w1x.heap.size 209 #[.int .u8 0, .int .u8 0, .int .u8 0, .int .u8 0, .int .u8 0, .int .u8 0] #[.int .u8 x0, .int .u8 x1, .int .u8 x2, .int .u8 x3, .int .u8 x4, .int .u8 x5] rfl rfl (box_at S17x 2 rfl) (by kernel_rfl) rfl (by simp [Value.oneCell']) ?_
          intro w18x ht hr
          have S18x := Sl.Sep.put (r' := boxR w1x.heap.size 209 #[.int .u8 x0, .int .u8 x1, .int .u8 x2, .int .u8 x3, .int .u8 x4, .int .u8 x5]) S17x 2 rfl ht hr (fun b hb => hb)
          clear ht hr
          refine hK.out _ _ ⟨(box3 S18x 0 rfl).2.1, (box3 S18x 1 rfl).2.1⟩ (fun hS => ?_)
          clear hK K
          try simp only [zp0, zp1, zp2, zp3, zp4]
          refine wpAnyH_ready (rs := [9]) (by kernel_rfl) (by simp) ?_
          refine AllReadyH.cons rfl (fun K hK => ?_) ?_
          ·
           refine step_store_box rfl 209 (.tmp 6) (.tmp 30) rfl w11x.heap.size 209 #[.int .u8 0, .int .u8 0, .int .u8 0, .int .u8 0, .int .u8 0, .int .u8 0] #[.int .u8 y0, .int .u8 y1, .int .u8 y2, .int .u8 y3, .int .u8 y4, .int .u8 y5] rfl rfl (box_at S18x 3 rfl) (by kernel_rfl) rfl (by simp [Value.oneCell']) ?_
           intro w19x ht hr
           have S19x := Sl.Sep.put (r' := boxR w11x.heap.size 209 #[.int .u8 y0, .int .u8 y1, .int .u8 y2, .int .u8 y3, .int .u8 y4, .int .u8 y5]) S18x 3 rfl ht hr (fun b hb => hb)
           clear ht hr
           refine hK.out _ _ ⟨(box3 S19x 0 rfl).2.1, (box3 S19x 1 rfl).2.1⟩ (fun hS => ?_)
           clear hK K
           try simp only [zp0, zp1, zp2, zp3, zp4]
           refine wpAnyH_done (by kernel_rfl) ?_ _
           go_wp2_with fail
           go_meet
           case rel => exact ⟨_, _, rfl, rfl, And.intro (box_at S19x 2 rfl) (And.intro (box_at S19x 3 rfl) (sep_two S19x))⟩
          exact AllReadyH.nil
         exact AllReadyH.nil
        exact AllReadyH.nil
       exact AllReadyH.nil
      refine AllReadyH.cons rfl (fun K hK => ?_) ?_
      ·
       have S20x := push_box S1x 209 #[.int .u8 0, .int .u8 0, .int .u8 0, .int .u8 0, .int .u8 0, .int .u8 0] w1x.heap.size rfl
       go_simp
       refine hK.out _ _ ⟨(box3 S20x 0 rfl).2.1, (box3 S20x 1 rfl).2.1⟩ (fun hS => ?_)
       clear hK K
       try simp only [zp0, zp1, zp2, zp3, zp4]
       generalize w1x.alloc (.cells #[.int .u8 0, .int .u8 0, .int .u8 0, .int .u8 0, .int .u8 0, .int .u8 0] 209) = w20x at hS S20x ⊢
       refine wpAnyH_ready (rs := [5, 6]) (by kernel_rfl) (by simp) ?_
       refine AllReadyH.cons rfl (fun K hK => ?_) ?_
       ·
        go_simp
        go_at_call 168
        refine (HB.out _).mono ?_
        rintro e w21x ⟨rfl, hb⟩
        have S21x := Sl.Sep.keep S20x hb
        clear hb S20x
        go_wp2_with fail
        refine hK.out _ _ ⟨(box3 S21x 0 rfl).2.1, (box3 S21x 1 rfl).2.1⟩ (fun hS => ?_)
        clear hK K
        try simp only [zp0, zp1, zp2, zp3, zp4]
        refine wpAnyH_ready (rs := [6]) (by kernel_rfl) (by simp) ?_
        refine AllReadyH.cons rfl (fun K hK => ?_) ?_
        ·
         have S22x := push_box S21x 209 #[.int .u8 0, .int .u8 0, .int .u8 0, .int .u8 0, .int .u8 0, .int .u8 0] w21x.heap.size rfl
         go_simp
         refine hK.out _ _ ⟨(box3 S22x 0 rfl).2.1, (box3 S22x 1 rfl).2.1⟩ (fun hS => ?_)
         clear hK K
         try simp only [zp0, zp1, zp2, zp3, zp4]
         generalize w21x.alloc (.cells #[.int .u8 0, .int .u8 0, .int .u8 0, .int .u8 0, .int .u8 0, .int .u8 0] 209) = w22x at hS S22x ⊢
         refine wpAnyH_ready (rs := [8]) (by kernel_rfl) (by simp) ?_
         refine AllReadyH.cons rfl (fun K hK => ?_) ?_
         ·
          refine step_store_box rfl 209 (.tmp 5) (.tmp 27) rfl w21x.heap.size 209 #[.int .u8 0, .int .u8 0, .int .u8 0, .int .u8 0, .int .u8 0, .int .u8 0] #[.int .u8 x0, .int .u8 x1, .int .u8 x2, .int .u8 x3, .int .u8 x4, .int .u8 x5] rfl rfl (box_at S22x 3 rfl) (by kernel_rfl) rfl (by simp [Value.oneCell']) ?_
          intro w23x ht hr
          have S23x := Sl.Sep.put (r' := boxR w21x.heap.size 209 #[.int .u8 x0, .int .u8 x1, .int .u8 x2, .int .u8 x3, .int .u8 x4, .int .u8 x5]) S22x 3 rfl ht hr (fun b hb => hb)
          clear ht hr
          refine hK.out _ _ ⟨(box3 S23x 0 rfl).2.1, (box3 S23x 1 rfl).2.1⟩ (fun hS => ?_)
          clear hK K
          try simp only [zp0, zp1, zp2, zp3, zp4]
          refine wpAnyH_ready (rs := [9]) (by kernel_rfl) (by simp) ?_
          refine AllReadyH.cons rfl (fun K hK => ?_) ?_
          ·
           refine step_store_box rfl 209 (.tmp 6) (.tmp 30) rfl w1x.heap.size 209 #[.int .u8 0, .int .u8 0, .int .u8 0, .int .u8 0, .int .u8 0, .int .u8 0] #[.int .u8 y0, .int .u8 y1, .int .u8 y2, .int .u8 y3, .int .u8 y4, .int .u8 y5] rfl rfl (box_at S23x 2 rfl) (by kernel_rfl) rfl (by simp [Value.oneCell']) ?_
           intro w24x ht hr
           have S24x := Sl.Sep.put (r' := boxR w1x.heap.size 209 #[.int .u8 y0, .int .u8 y1, .int .u8 y2, .int .u8 y3, .int .u8 y4, .int .u8 y5]) S23x 2 rfl ht hr (fun b hb => hb)
           clear ht hr
           refine hK.out _ _ ⟨(box3 S24x 0 rfl).2.1, (box3 S24x 1 rfl).2.1⟩ (fun hS => ?_)
           clear hK K
           try simp only [zp0, zp1, zp2, zp3, zp4]
           refine wpAnyH_done (by kernel_rfl) ?_ _
           go_wp2_with fail
           go_meet
           case rel => exact ⟨_, _, rfl, rfl, And.intro (box_at S24x 3 rfl) (And.intro (box_at S24x 2 rfl) (sep_two S24x))⟩
          exact AllReadyH.nil
         exact AllReadyH.nil
        exact AllReadyH.nil
       refine AllReadyH.cons rfl (fun K hK => ?_) ?_
       ·
        have S25x := push_box S20x 209 #[.int .u8 0, .int .u8 0, .int .u8 0, .int .u8 0, .int .u8 0, .int .u8 0] w20x.heap.size rfl
        go_simp
        refine hK.out _ _ ⟨(box3 S25x 0 rfl).2.1, (box3 S25x 1 rfl).2.1⟩ (fun hS => ?_)
        clear hK K
        try simp only [zp0, zp1, zp2, zp3, zp4]
        generalize w20x.alloc (.cells #[.int .u8 0, .int .u8 0, .int .u8 0, .int .u8 0, .int .u8 0, .int .u8 0] 209) = w25x at hS S25x ⊢
        refine wpAnyH_ready (rs := [5]) (by kernel_rfl) (by simp) ?_
        refine AllReadyH.cons rfl (fun K hK => ?_) ?_
        ·
         go_simp
         go_at_call 168
         refine (HB.out _).mono ?_
         rintro e w26x ⟨rfl, hb⟩
         have S26x := Sl.Sep.keep S25x hb
         clear hb S25x
         go_wp2_with fail
         refine hK.out _ _ ⟨(box3 S26x 0 rfl).2.1, (box3 S26x 1 rfl).2.1⟩ (fun hS => ?_)
         clear hK K
         try simp only [zp0, zp1, zp2, zp3, zp4]
         refine wpAnyH_ready (rs := [8]) (by kernel_rfl) (by simp) ?_
         refine AllReadyH.cons rfl (fun K hK => ?_) ?_
         ·
          refine step_store_box rfl 209 (.tmp 5) (.tmp 27) rfl w20x.heap.size 209 #[.int .u8 0, .int .u8 0, .int .u8 0, .int .u8 0, .int .u8 0, .int .u8 0] #[.int .u8 x0, .int .u8 x1, .int .u8 x2, .int .u8 x3, .int .u8 x4, .int .u8 x5] rfl rfl (box_at S26x 3 rfl) (by kernel_rfl) rfl (by simp [Value.oneCell']) ?_
          intro w27x ht hr
          have S27x := Sl.Sep.put (r' := boxR w20x.heap.size 209 #[.int .u8 x0, .int .u8 x1, .int .u8 x2, .int .u8 x3, .int .u8 x4, .int .u8 x5]) S26x 3 rfl ht hr (fun b hb => hb)
          clear ht hr
          refine hK.out _ _ ⟨(box3 S27x 0 rfl).2.1, (box3 S27x 1 rfl).2.1⟩ (fun hS => ?_)
          clear hK K
          try simp only [zp0, zp1, zp2, zp3, zp4]
          refine wpAnyH_ready (rs := [9]) (by kernel_rfl) (by simp) ?_
          refine AllReadyH.cons rfl (fun K hK => ?_) ?_
          ·
           refine step_store_box rfl 209 (.tmp 6) (.tmp 30) rfl w1x.heap.size 209 #[.int .u8 0, .int .u8 0, .int .u8 0, .int .u8 0, .int .u8 0, .int .u8 0] #[.int .u8 y0, .int .u8 y1, .int .u8 y2, .int .u8 y3, .int .u8 y4, .int .u8 y5] rfl rfl (box_at S27x 2 rfl) (by kernel_rfl) rfl (by simp [Value.oneCell']) ?_
           intro w28x ht hr
           have S28x := Sl.Sep.put (r' := boxR w1x.heap.size 209 #[.int .u8 y0, .int .u8 y1, .int .u8 y2, .int .u8 y3, .int .u8 y4, .int .u8 y5]) S27x 2 rfl ht hr (fun b hb => hb)
           clear ht hr
           refine hK.out _ _ ⟨(box3 S28x 0 rfl).2.1, (box3 S28x 1 rfl).2.1⟩ (fun hS => ?_)
           clear hK K
           try simp only [zp0, zp1, zp2, zp3, zp4]
           refine wpAnyH_done (by kernel_rfl) ?_ _
           go_wp2_with fail
           go_meet
           case rel => exact ⟨_, _, rfl, rfl, And.intro (box_at S28x 3 rfl) (And.intro (box_at S28x 2 rfl) (sep_two S28x))⟩
          exact AllReadyH.nil
         exact AllReadyH.nil
        exact AllReadyH.nil
       exact AllReadyH.nil
      exact AllReadyH.nil
     refine AllReadyH.cons rfl (fun K hK => ?_) ?_
     ·
      have S29x := push_box S4d 209 #[.int .u8 0, .int .u8 0, .int .u8 0, .int .u8 0, .int .u8 0, .int .u8 0] wd.heap.size rfl
      go_simp
      refine hK.out _ _ ⟨(box3 S29x 0 rfl).2.1, (box3 S29x 1 rfl).2.1⟩ (fun hS => ?_)
      clear hK K
      try simp only [zp0, zp1, zp2, zp3, zp4]
      generalize wd.alloc (.cells #[.int .u8 0, .int .u8 0, .int .u8 0, .int .u8 0, .int .u8 0, .int .u8 0] 209) = w29x at hS S29x ⊢
      refine wpAnyH_ready (rs := [2, 7]) (by kernel_rfl) (by simp) ?_
      refine AllReadyH.cons rfl (fun K hK => ?_) ?_
      ·
       go_simp
       go_at_call 168
       refine (HA.out _).mono ?_
       rintro e w30x ⟨rfl, hb⟩
       have S30x := Sl.Sep.keep S29x hb
       clear hb S29x
       go_wp2_with fail
       refine hK.out _ _ ⟨(box3 S30x 0 rfl).2.1, (box3 S30x 1 rfl).2.1⟩ (fun hS => ?_)
       clear hK K
       try simp only [zp0, zp1, zp2, zp3, zp4]
       refine wpAnyH_ready (rs := [5, 7]) (by kernel_rfl) (by simp) ?_
       refine AllReadyH.cons rfl (fun K hK => ?_) ?_
       ·
        go_simp
        go_at_call 168
        refine (HB.out _).mono ?_
        rintro e w31x ⟨rfl, hb⟩
        have S31x := Sl.Sep.keep S30x hb
        clear hb S30x
        go_wp2_with fail
        refine hK.out _ _ ⟨(box3 S31x 0 rfl).2.1, (box3 S31x 1 rfl).2.1⟩ (fun hS => ?_)
        clear hK K
        try simp only [zp0, zp1, zp2, zp3, zp4]
        refine wpAnyH_ready (rs := [7]) (by kernel_rfl) (by simp) ?_
        refine AllReadyH.cons rfl (fun K hK => ?_) ?_
        ·
         have S32x := push_box S31x 209 #[.int .u8 0, .int .u8 0, .int .u8 0, .int .u8 0, .int .u8 0, .int .u8 0] w31x.heap.size rfl
         go_simp
         refine hK.out _ _ ⟨(box3 S32x 0 rfl).2.1, (box3 S32x 1 rfl).2.1⟩ (fun hS => ?_)
         clear hK K
         try simp only [zp0, zp1, zp2, zp3, zp4]
         generalize w31x.alloc (.cells #[.int .u8 0, .int .u8 0, .int .u8 0, .int .u8 0, .int .u8 0, .int .u8 0] 209) = w32x at hS S32x ⊢
         refine wpAnyH_ready (rs := [8]) (by kernel_rfl) (by simp) ?_
         refine AllReadyH.cons rfl (fun K hK => ?_) ?_
         ·
          refine step_store_box rfl 209 (.tmp 5) (.tmp 27) rfl wd.heap.size 209 #[.int .u8 0, .int .u8 0, .int .u8 0, .int .u8 0, .int .u8 0, .int .u8 0] #[.int .u8 x0, .int .u8 x1, .int .u8 x2, .int .u8 x3, .int .u8 x4, .int .u8 x5] rfl rfl (box_at S32x 2 rfl) (by kernel_rfl) rfl (by simp [Value.oneCell']) ?_
          intro w33x ht hr
          have S33x := Sl.Sep.put (r' := boxR wd.heap.size 209 #[.int .u8 x0, .int .u8 x1, .int .u8 x2, .int .u8 x3, .int .u8 x4, .int .u8 x5]) S32x 2 rfl ht hr (fun b hb => hb)
          clear ht hr
          refine hK.out _ _ ⟨(box3 S33x 0 rfl).2.1, (box3 S33x 1 rfl).2.1⟩ (fun hS => ?_)
          clear hK K
          try simp only [zp0, zp1, zp2, zp3, zp4]
          refine wpAnyH_ready (rs := [9]) (by kernel_rfl) (by simp) ?_
          refine AllReadyH.cons rfl (fun K hK => ?_) ?_
          ·
           refine step_store_box rfl 209 (.tmp 6) (.tmp 30) rfl w31x.heap.size 209 #[.int .u8 0, .int .u8 0, .int .u8 0, .int .u8 0, .int .u8 0, .int .u8 0] #[.int .u8 y0, .int .u8 y1, .int .u8 y2, .int .u8 y3, .int .u8 y4, .int .u8 y5] rfl rfl (box_at S33x 3 rfl) (by kernel_rfl) rfl (by simp [Value.oneCell']) ?_
           intro w34x ht hr
           have S34x := Sl.Sep.put (r' := boxR w31x.heap.size 209 #[.int .u8 y0, .int .u8 y1, .int .u8 y2, .int .u8 y3, .int .u8 y4, .int .u8 y5]) S33x 3 rfl ht hr (fun b hb => hb)
           clear ht hr
           refine hK.out _ _ ⟨(box3 S34x 0 rfl).2.1, (box3 S34x 1 rfl).2.1⟩ (fun hS => ?_)
           clear hK K
           try simp only [zp0, zp1, zp2, zp3, zp4]
           refine wpAnyH_done (by kernel_rfl) ?_ _
           go_wp2_with fail
           go_meet
           case rel => exact ⟨_, _, rfl, rfl, And.intro (box_at S34x 2 rfl) (And.intro (box_at S34x 3 rfl) (sep_two S34x))⟩
          exact AllReadyH.nil
         exact AllReadyH.nil
        exact AllReadyH.nil
       refine AllReadyH.cons rfl (fun K hK => ?_) ?_
       ·
        have S35x := push_box S30x 209 #[.int .u8 0, .int .u8 0, .int .u8 0, .int .u8 0, .int .u8 0, .int .u8 0] w30x.heap.size rfl
        go_simp
        refine hK.out _ _ ⟨(box3 S35x 0 rfl).2.1, (box3 S35x 1 rfl).2.1⟩ (fun hS => ?_)
        clear hK K
        try simp only [zp0, zp1, zp2, zp3, zp4]
        generalize w30x.alloc (.cells #[.int .u8 0, .int .u8 0, .int .u8 0, .int .u8 0, .int .u8 0, .int .u8 0] 209) = w35x at hS S35x ⊢
        refine wpAnyH_ready (rs := [5]) (by kernel_rfl) (by simp) ?_
        refine AllReadyH.cons rfl (fun K hK => ?_) ?_
        ·
         go_simp
         go_at_call 168
         refine (HB.out _).mono ?_
         rintro e w36x ⟨rfl, hb⟩
         have S36x := Sl.Sep.keep S35x hb
         clear hb S35x
         go_wp2_with fail
         refine hK.out _ _ ⟨(box3 S36x 0 rfl).2.1, (box3 S36x 1 rfl).2.1⟩ (fun hS => ?_)
         clear hK K
         try simp only [zp0, zp1, zp2, zp3, zp4]
         refine wpAnyH_ready (rs := [8]) (by kernel_rfl) (by simp) ?_
         refine AllReadyH.cons rfl (fun K hK => ?_) ?_
         ·
          refine step_store_box rfl 209 (.tmp 5) (.tmp 27) rfl wd.heap.size 209 #[.int .u8 0, .int .u8 0, .int .u8 0, .int .u8 0, .int .u8 0, .int .u8 0] #[.int .u8 x0, .int .u8 x1, .int .u8 x2, .int .u8 x3, .int .u8 x4, .int .u8 x5] rfl rfl (box_at S36x 2 rfl) (by kernel_rfl) rfl (by simp [Value.oneCell']) ?_
          intro w37x ht hr
          have S37x := Sl.Sep.put (r' := boxR wd.heap.size 209 #[.int .u8 x0, .int .u8 x1, .int .u8 x2, .int .u8 x3, .int .u8 x4, .int .u8 x5]) S36x 2 rfl ht hr (fun b hb => hb)
          clear ht hr
          refine hK.out _ _ ⟨(box3 S37x 0 rfl).2.1, (box3 S37x 1 rfl).2.1⟩ (fun hS => ?_)
          clear hK K
          try simp only [zp0, zp1, zp2, zp3, zp4]
          refine wpAnyH_ready (rs := [9]) (by kernel_rfl) (by simp) ?_
          refine AllReadyH.cons rfl (fun K hK => ?_) ?_
          ·
           refine step_store_box rfl 209 (.tmp 6) (.tmp 30) rfl w30x.heap.size 209 #[.int .u8 0, .int .u8 0, .int .u8 0, .int .u8 0, .int .u8 0, .int .u8 0] #[.int .u8 y0, .int .u8 y1, .int .u8 y2, .int .u8 y3, .int .u8 y4, .int .u8 y5] rfl rfl (box_at S37x 3 rfl) (by kernel_rfl) rfl (by simp [Value.oneCell']) ?_
           intro w38x ht hr
           have S38x := Sl.Sep.put (r' := boxR w30x.heap.size 209 #[.int .u8 y0, .int .u8 y1, .int .u8 y2, .int .u8 y3, .int .u8 y4, .int .u8 y5]) S37x 3 rfl ht hr (fun b hb => hb)
           clear ht hr
           refine hK.out _ _ ⟨(box3 S38x 0 rfl).2.1, (box3 S38x 1 rfl).2.1⟩ (fun hS => ?_)
           clear hK K
           try simp only [zp0, zp1, zp2, zp3, zp4]
           refine wpAnyH_done (by kernel_rfl) ?_ _
           go_wp2_with fail
           go_meet
           case rel => exact ⟨_, _, rfl, rfl, And.intro (box_at S38x 2 rfl) (And.intro (box_at S38x 3 rfl) (sep_two S38x))⟩
          exact AllReadyH.nil
         exact AllReadyH.nil
        exact AllReadyH.nil
       exact AllReadyH.nil
      refine AllReadyH.cons rfl (fun K hK => ?_) ?_
      ·
       have S39x := push_box S29x 209 #[.int .u8 0, .int .u8 0, .int .u8 0, .int .u8 0, .int .u8 0, .int .u8 0] w29x.heap.size rfl
       go_simp
       refine hK.out _ _ ⟨(box3 S39x 0 rfl).2.1, (box3 S39x 1 rfl).2.1⟩ (fun hS => ?_)
       clear hK K
       try simp only [zp0, zp1, zp2, zp3, zp4]
       generalize w29x.alloc (.cells #[.int .u8 0, .int .u8 0, .int .u8 0, .int .u8 0, .int .u8 0, .int .u8 0] 209) = w39x at hS S39x ⊢
       refine wpAnyH_ready (rs := [2]) (by kernel_rfl) (by simp) ?_
       refine AllReadyH.cons rfl (fun K hK => ?_) ?_
       ·
        go_simp
        go_at_call 168
        refine (HA.out _).mono ?_
        rintro e w40x ⟨rfl, hb⟩
        have S40x := Sl.Sep.keep S39x hb
        clear hb S39x
        go_wp2_with fail
        refine hK.out _ _ ⟨(box3 S40x 0 rfl).2.1, (box3 S40x 1 rfl).2.1⟩ (fun hS => ?_)
        clear hK K
        try simp only [zp0, zp1, zp2, zp3, zp4]
        refine wpAnyH_ready (rs := [5]) (by kernel_rfl) (by simp) ?_
        refine AllReadyH.cons rfl (fun K hK => ?_) ?_
        ·
         go_simp
         go_at_call 168
         refine (HB.out _).mono ?_
         rintro e w41x ⟨rfl, hb⟩
         have S41x := Sl.Sep.keep S40x hb
         clear hb S40x
         go_wp2_with fail
         refine hK.out _ _ ⟨(box3 S41x 0 rfl).2.1, (box3 S41x 1 rfl).2.1⟩ (fun hS => ?_)
         clear hK K
         try simp only [zp0, zp1, zp2, zp3, zp4]
         refine wpAnyH_ready (rs := [8]) (by kernel_rfl) (by simp) ?_
         refine AllReadyH.cons rfl (fun K hK => ?_) ?_
         ·
          refine step_store_box rfl 209 (.tmp 5) (.tmp 27) rfl wd.heap.size 209 #[.int .u8 0, .int .u8 0, .int .u8 0, .int .u8 0, .int .u8 0, .int .u8 0] #[.int .u8 x0, .int .u8 x1, .int .u8 x2, .int .u8 x3, .int .u8 x4, .int .u8 x5] rfl rfl (box_at S41x 2 rfl) (by kernel_rfl) rfl (by simp [Value.oneCell']) ?_
          intro w42x ht hr
          have S42x := Sl.Sep.put (r' := boxR wd.heap.size 209 #[.int .u8 x0, .int .u8 x1, .int .u8 x2, .int .u8 x3, .int .u8 x4, .int .u8 x5]) S41x 2 rfl ht hr (fun b hb => hb)
          clear ht hr
          refine hK.out _ _ ⟨(box3 S42x 0 rfl).2.1, (box3 S42x 1 rfl).2.1⟩ (fun hS => ?_)
          clear hK K
          try simp only [zp0, zp1, zp2, zp3, zp4]
          refine wpAnyH_ready (rs := [9]) (by kernel_rfl) (by simp) ?_
          refine AllReadyH.cons rfl (fun K hK => ?_) ?_
          ·
           refine step_store_box rfl 209 (.tmp 6) (.tmp 30) rfl w29x.heap.size 209 #[.int .u8 0, .int .u8 0, .int .u8 0, .int .u8 0, .int .u8 0, .int .u8 0] #[.int .u8 y0, .int .u8 y1, .int .u8 y2, .int .u8 y3, .int .u8 y4, .int .u8 y5] rfl rfl (box_at S42x 3 rfl) (by kernel_rfl) rfl (by simp [Value.oneCell']) ?_
           intro w43x ht hr
           have S43x := Sl.Sep.put (r' := boxR w29x.heap.size 209 #[.int .u8 y0, .int .u8 y1, .int .u8 y2, .int .u8 y3, .int .u8 y4, .int .u8 y5]) S42x 3 rfl ht hr (fun b hb => hb)
           clear ht hr
           refine hK.out _ _ ⟨(box3 S43x 0 rfl).2.1, (box3 S43x 1 rfl).2.1⟩ (fun hS => ?_)
           clear hK K
           try simp only [zp0, zp1, zp2, zp3, zp4]
           refine wpAnyH_done (by kernel_rfl) ?_ _
           go_wp2_with fail
           go_meet
           case rel => exact ⟨_, _, rfl, rfl, And.intro (box_at S43x 2 rfl) (And.intro (box_at S43x 3 rfl) (sep_two S43x))⟩
          exact AllReadyH.nil
         exact AllReadyH.nil
        exact AllReadyH.nil
       exact AllReadyH.nil
      exact AllReadyH.nil
     refine AllReadyH.cons rfl (fun K hK => ?_) ?_
     ·
      have S44x := push_box S4d 209 #[.int .u8 0, .int .u8 0, .int .u8 0, .int .u8 0, .int .u8 0, .int .u8 0] wd.heap.size rfl
      go_simp
      refine hK.out _ _ ⟨(box3 S44x 0 rfl).2.1, (box3 S44x 1 rfl).2.1⟩ (fun hS => ?_)
      clear hK K
      try simp only [zp0, zp1, zp2, zp3, zp4]
      generalize wd.alloc (.cells #[.int .u8 0, .int .u8 0, .int .u8 0, .int .u8 0, .int .u8 0, .int .u8 0] 209) = w44x at hS S44x ⊢
      refine wpAnyH_ready (rs := [2, 6]) (by kernel_rfl) (by simp) ?_
      refine AllReadyH.cons rfl (fun K hK => ?_) ?_
      ·
       go_simp
       go_at_call 168
       refine (HA.out _).mono ?_
       rintro e w45x ⟨rfl, hb⟩
       have S45x := Sl.Sep.keep S44x hb
       clear hb S44x
       go_wp2_with fail
       refine hK.out _ _ ⟨(box3 S45x 0 rfl).2.1, (box3 S45x 1 rfl).2.1⟩ (fun hS => ?_)
       clear hK K
       try simp only [zp0, zp1, zp2, zp3, zp4]
       refine wpAnyH_ready (rs := [5, 6]) (by kernel_rfl) (by simp) ?_
       refine AllReadyH.cons rfl (fun K hK => ?_) ?_
       ·
        go_simp
        go_at_call 168
        refine (HB.out _).mono ?_
        rintro e w46x ⟨rfl, hb⟩
        have S46x := Sl.Sep.keep S45x hb
        clear hb S45x
        go_wp2_with fail
        refine hK.out _ _ ⟨(box3 S46x 0 rfl).2.1, (box3 S46x 1 rfl).2.1⟩ (fun hS => ?_)
        clear hK K
        try simp only [zp0, zp1, zp2, zp3, zp4]
        refine wpAnyH_ready (rs := [6]) (by kernel_rfl) (by simp) ?_
        refine AllReadyH.cons rfl (fun K hK => ?_) ?_
        ·
         have S47x := push_box S46x 209 #[.int .u8 0, .int .u8 0, .int .u8 0, .int .u8 0, .int .u8 0, .int .u8 0] w46x.heap.size rfl
         go_simp
         refine hK.out _ _ ⟨(box3 S47x 0 rfl).2.1, (box3 S47x 1 rfl).2.1⟩ (fun hS => ?_)
         clear hK K
         try simp only [zp0, zp1, zp2, zp3, zp4]
         generalize w46x.alloc (.cells #[.int .u8 0, .int .u8 0, .int .u8 0, .int .u8 0, .int .u8 0, .int .u8 0] 209) = w47x at hS S47x ⊢
         refine wpAnyH_ready (rs := [8]) (by kernel_rfl) (by simp) ?_
         refine AllReadyH.cons rfl (fun K hK => ?_) ?_
         ·
          refine step_store_box rfl 209 (.tmp 5) (.tmp 27) rfl w46x.heap.size 209 #[.int .u8 0, .int .u8 0, .int .u8 0, .int .u8 0, .int .u8 0, .int .u8 0] #[.int .u8 x0, .int .u8 x1, .int .u8 x2, .int .u8 x3, .int .u8 x4, .int .u8 x5] rfl rfl (box_at S47x 3 rfl) (by kernel_rfl) rfl (by simp [Value.oneCell']) ?_
          intro w48x ht hr
          have S48x := Sl.Sep.put (r' := boxR w46x.heap.size 209 #[.int .u8 x0, .int .u8 x1, .int .u8 x2, .int .u8 x3, .int .u8 x4, .int .u8 x5]) S47x 3 rfl ht hr (fun b hb => hb)
          clear ht hr
          refine hK.out _ _ ⟨(box3 S48x 0 rfl).2.1, (box3 S48x 1 rfl).2.1⟩ (fun hS => ?_)
          clear hK K
          try simp only [zp0, zp1, zp2, zp3, zp4]
          refine wpAnyH_ready (rs := [9]) (by kernel_rfl) (by simp) ?_
          refine AllReadyH.cons rfl (fun K hK => ?_) ?_
          ·
           refine step_store_box rfl 209 (.tmp 6) (.tmp 30) rfl wd.heap.size 209 #[.int .u8 0, .int .u8 0, .int .u8 0, .int .u8 0, .int .u8 0, .int .u8 0] #[.int .u8 y0, .int .u8 y1, .int .u8 y2, .int .u8 y3, .int .u8 y4, .int .u8 y5] rfl rfl (box_at S48x 2 rfl) (by kernel_rfl) rfl (by simp [Value.oneCell']) ?_
           intro w49x ht hr
           have S49x := Sl.Sep.put (r' := boxR wd.heap.size 209 #[.int .u8 y0, .int .u8 y1, .int .u8 y2, .int .u8 y3, .int .u8 y4, .int .u8 y5]) S48x 2 rfl ht hr (fun b hb => hb)
           clear ht hr
           refine hK.out _ _ ⟨(box3 S49x 0 rfl).2.1, (box3 S49x 1 rfl).2.1⟩ (fun hS => ?_)
           clear hK K
           try simp only [zp0, zp1, zp2, zp3, zp4]
           refine wpAnyH_done (by kernel_rfl) ?_ _
           go_wp2_with fail
           go_meet
           case rel => exact ⟨_, _, rfl, rfl, And.intro (box_at S49x 3 rfl) (And.intro (box_at S49x 2 rfl) (sep_two S49x))⟩
          exact AllReadyH.nil
         exact AllReadyH.nil
        exact AllReadyH.nil
       refine AllReadyH.cons rfl (fun K hK => ?_) ?_
       ·
        have S50x := push_box S45x 209 #[.int .u8 0, .int .u8 0, .int .u8 0, .int .u8 0, .int .u8 0, .int .u8 0] w45x.heap.size rfl
        go_simp
        refine hK.out _ _ ⟨(box3 S50x 0 rfl).2.1, (box3 S50x 1 rfl).2.1⟩ (fun hS => ?_)
        clear hK K
        try simp only [zp0, zp1, zp2, zp3, zp4]
        generalize w45x.alloc (.cells #[.int .u8 0, .int .u8 0, .int .u8 0, .int .u8 0, .int .u8 0, .int .u8 0] 209) = w50x at hS S50x ⊢
        refine wpAnyH_ready (rs := [5]) (by kernel_rfl) (by simp) ?_
        refine AllReadyH.cons rfl (fun K hK => ?_) ?_
        ·
         go_simp
         go_at_call 168
         refine (HB.out _).mono ?_
         rintro e w51x ⟨rfl, hb⟩
         have S51x := Sl.Sep.keep S50x hb
         clear hb S50x
         go_wp2_with fail
         refine hK.out _ _ ⟨(box3 S51x 0 rfl).2.1, (box3 S51x 1 rfl).2.1⟩ (fun hS => ?_)
         clear hK K
         try simp only [zp0, zp1, zp2, zp3, zp4]
         refine wpAnyH_ready (rs := [8]) (by kernel_rfl) (by simp) ?_
         refine AllReadyH.cons rfl (fun K hK => ?_) ?_
         ·
          refine step_store_box rfl 209 (.tmp 5) (.tmp 27) rfl w45x.heap.size 209 #[.int .u8 0, .int .u8 0, .int .u8 0, .int .u8 0, .int .u8 0, .int .u8 0] #[.int .u8 x0, .int .u8 x1, .int .u8 x2, .int .u8 x3, .int .u8 x4, .int .u8 x5] rfl rfl (box_at S51x 3 rfl) (by kernel_rfl) rfl (by simp [Value.oneCell']) ?_
          intro w52x ht hr
          have S52x := Sl.Sep.put (r' := boxR w45x.heap.size 209 #[.int .u8 x0, .int .u8 x1, .int .u8 x2, .int .u8 x3, .int .u8 x4, .int .u8 x5]) S51x 3 rfl ht hr (fun b hb => hb)
          clear ht hr
          refine hK.out _ _ ⟨(box3 S52x 0 rfl).2.1, (box3 S52x 1 rfl).2.1⟩ (fun hS => ?_)
          clear hK K
          try simp only [zp0, zp1, zp2, zp3, zp4]
          refine wpAnyH_ready (rs := [9]) (by kernel_rfl) (by simp) ?_
          refine AllReadyH.cons rfl (fun K hK => ?_) ?_
          ·
           refine step_store_box rfl 209 (.tmp 6) (.tmp 30) rfl wd.heap.size 209 #[.int .u8 0, .int .u8 0, .int .u8 0, .int .u8 0, .int .u8 0, .int .u8 0] #[.int .u8 y0, .int .u8 y1, .int .u8 y2, .int .u8 y3, .int .u8 y4, .int .u8 y5] rfl rfl (box_at S52x 2 rfl) (by kernel_rfl) rfl (by simp [Value.oneCell']) ?_
           intro w53x ht hr
           have S53x := Sl.Sep.put (r' := boxR wd.heap.size 209 #[.int .u8 y0, .int .u8 y1, .int .u8 y2, .int .u8 y3, .int .u8 y4, .int .u8 y5]) S52x 2 rfl ht hr (fun b hb => hb)
           clear ht hr
           refine hK.out _ _ ⟨(box3 S53x 0 rfl).2.1, (box3 S53x 1 rfl).2.1⟩ (fun hS => ?_)
           clear hK K
           try simp only [zp0, zp1, zp2, zp3, zp4]
           refine wpAnyH_done (by kernel_rfl) ?_ _
           go_wp2_with fail
           go_meet
           case rel => exact ⟨_, _, rfl, rfl, And.intro (box_at S53x 3 rfl) (And.intro (box_at S53x 2 rfl) (sep_two S53x))⟩
          exact AllReadyH.nil
         exact AllReadyH.nil
        exact AllReadyH.nil
       exact AllReadyH.nil
      refine AllReadyH.cons rfl (fun K hK => ?_) ?_
      ·
       have S54x := push_box S44x 209 #[.int .u8 0, .int .u8 0, .int .u8 0, .int .u8 0, .int .u8 0, .int .u8 0] w44x.heap.size rfl
       go_simp
       refine hK.out _ _ ⟨(box3 S54x 0 rfl).2.1, (box3 S54x 1 rfl).2.1⟩ (fun hS => ?_)
       clear hK K
       try simp only [zp0, zp1, zp2, zp3, zp4]
       generalize w44x.alloc (.cells #[.int .u8 0, .int .u8 0, .int .u8 0, .int .u8 0, .int .u8 0, .int .u8 0] 209) = w54x at hS S54x ⊢
       refine wpAnyH_ready (rs := [2]) (by kernel_rfl) (by simp) ?_
       refine AllReadyH.cons rfl (fun K hK => ?_) ?_
       ·
        go_simp
        go_at_call 168
        refine (HA.out _).mono ?_
        rintro e w55x ⟨rfl, hb⟩
        have S55x := Sl.Sep.keep S54x hb
        clear hb S54x
        go_wp2_with fail
        refine hK.out _ _ ⟨(box3 S55x 0 rfl).2.1, (box3 S55x 1 rfl).2.1⟩ (fun hS => ?_)
        clear hK K
        try simp only [zp0, zp1, zp2, zp3, zp4]
        refine wpAnyH_ready (rs := [5]) (by kernel_rfl) (by simp) ?_
        refine AllReadyH.cons rfl (fun K hK => ?_) ?_
        ·
         go_simp
         go_at_call 168
         refine (HB.out _).mono ?_
         rintro e w56x ⟨rfl, hb⟩
         have S56x := Sl.Sep.keep S55x hb
         clear hb S55x
         go_wp2_with fail
         refine hK.out _ _ ⟨(box3 S56x 0 rfl).2.1, (box3 S56x 1 rfl).2.1⟩ (fun hS => ?_)
         clear hK K
         try simp only [zp0, zp1, zp2, zp3, zp4]
         refine wpAnyH_ready (rs := [8]) (by kernel_rfl) (by simp) ?_
         refine AllReadyH.cons rfl (fun K hK => ?_) ?_
         ·
          refine step_store_box rfl 209 (.tmp 5) (.tmp 27) rfl w44x.heap.size 209 #[.int .u8 0, .int .u8 0, .int .u8 0, .int .u8 0, .int .u8 0, .int .u8 0] #[.int .u8 x0, .int .u8 x1, .int .u8 x2, .int .u8 x3, .int .u8 x4, .int .u8 x5] rfl rfl (box_at S56x 3 rfl) (by kernel_rfl) rfl (by simp [Value.oneCell']) ?_
          intro w57x ht hr
          have S57x := Sl.Sep.put (r' := boxR w44x.heap.size 209 #[.int .u8 x0, .int .u8 x1, .int .u8 x2, .int .u8 x3, .int .u8 x4, .int .u8 x5]) S56x 3 rfl ht hr (fun b hb => hb)
          clear ht hr
          refine hK.out _ _ ⟨(box3 S57x 0 rfl).2.1, (box3 S57x 1 rfl).2.1⟩ (fun hS => ?_)
          clear hK K
          try simp only [zp0, zp1, zp2, zp3, zp4]
          refine wpAnyH_ready (rs := [9]) (by kernel_rfl) (by simp) ?_
          refine AllReadyH.cons rfl (fun K hK => ?_) ?_
          ·
           refine step_store_box rfl 209 (.tmp 6) (.tmp 30) rfl wd.heap.size 209 #[.int .u8 0, .int .u8 0, .int .u8 0, .int .u8 0, .int .u8 0, .int .u8 0] #[.int .u8 y0, .int .u8 y1, .int .u8 y2, .int .u8 y3, .int .u8 y4, .int .u8 y5] rfl rfl (box_at S57x 2 rfl) (by kernel_rfl) rfl (by simp [Value.oneCell']) ?_
           intro w58x ht hr
           have S58x := Sl.Sep.put (r' := boxR wd.heap.size 209 #[.int .u8 y0, .int .u8 y1, .int .u8 y2, .int .u8 y3, .int .u8 y4, .int .u8 y5]) S57x 2 rfl ht hr (fun b hb => hb)
           clear ht hr
           refine hK.out _ _ ⟨(box3 S58x 0 rfl).2.1, (box3 S58x 1 rfl).2.1⟩ (fun hS => ?_)
           clear hK K
           try simp only [zp0, zp1, zp2, zp3, zp4]
           refine wpAnyH_done (by kernel_rfl) ?_ _
           go_wp2_with fail
           go_meet
           case rel => exact ⟨_, _, rfl, rfl, And.intro (box_at S58x 3 rfl) (And.intro (box_at S58x 2 rfl) (sep_two S58x))⟩
          exact AllReadyH.nil
         exact AllReadyH.nil
        exact AllReadyH.nil
       exact AllReadyH.nil
      exact AllReadyH.nil
     exact AllReadyH.nil
    case rest =>
     obtain ⟨g1, g2, rfl, rfl, HR⟩ := hcut
     obtain ⟨p0, p1, p2, p3, p4, p5⟩ := box6 HR.out.1
     obtain ⟨q0, q1, q2, q3, q4, q5⟩ := box6 HR.out.2.1
     have hdec : decide ([x0, x1, x2, x3, x4, x5] = [y0, y1, y2, y3, y4, y5]) = decide (na = nb) := by
      obtain ⟨h1, h2, h3, h4⟩ := HM.out
      by_cases hn : na = nb
      ·
       obtain rfl : ma = mb := by omega
       rw [decide_eq_true hn, decide_eq_true (h3.symm.trans h4)]
      ·
       have hne : ¬ [x0, x1, x2, x3, x4, x5] = [y0, y1, y2, y3, y4, y5] := fun e => by
        rw [← h3, ← h4] at e
        have e2 := congrArg toU e
        rw [toU_toI, toU_toI] at e2
        have p6 : (256 : Nat) ^ 6 = 281474976710656 := by decide
        have g9 := HM2.out
        have := be_inj 6 ma mb (by rw [p6]; omega) (by rw [p6]; omega) e2
        omega
       rw [decide_eq_false hn, decide_eq_false hne]
     have heq : ∀ w, (Op.equalIn 10000 209 (.agg #[.int .u8 x0, .int .u8 x1, .int .u8 x2, .int .u8 x3, .int .u8 x4, .int .u8 x5]) (.agg #[.int .u8 y0, .int .u8 y1, .int .u8 y2, .int .u8 y3, .int .u8 y4, .int .u8 y5])).run Tryz.prog w = .ok (decide (na = nb)) w := fun w => by
      rw [array_eq, hdec]
     clear hdec
     by_cases hn : na = nb
     ·
      have hd : decide (na = nb) = true := decide_eq_true hn
      rw [hd] at heq
      have HE := Lib.hid (HE1.out hn)
      clear HE1 HE2 hd
      obtain ⟨f0_0, f0_1, f0_2⟩ := L4.box3 HR.out.2.2 0 rfl
      obtain ⟨f1_0, f1_1, f1_2⟩ := L4.box3 HR.out.2.2 1 rfl
      have HC := Lib.hid (fun w => stringsCompare_any sa sb w)
      go_wp2_with (go_at_call 108; refine (HC.out _).mono ?_; rintro e w5 ⟨rfl, rfl⟩)
      go_ret
      refine ⟨?_, HR.out.2.2.old⟩
      rw [HE.out, ByteArray.toList_eq, ByteArray.toList_eq]
      simp [cmpL]
     ·
      have hd : decide (na = nb) = false := decide_eq_false hn
      rw [hd] at heq
      have HE := Lib.hid (HE2.out hn)
      clear HE1 HE2 hd
      have HC := Lib.hid (show ∀ w', Row w' g1 209 #[.int .u8 x0, .int .u8 x1, .int .u8 x2, .int .u8 x3, .int .u8 x4, .int .u8 x5] → Row w' g2 209 #[.int .u8 y0, .int .u8 y1, .int .u8 y2, .int .u8 y3, .int .u8 y4, .int .u8 y5] →
        Calls Tryz.prog 169 #[.slice (some ⟨g1, 0, none⟩) 6 6, .slice (some ⟨g2, 0, none⟩) 6 6] w' fun e w'' => e = .returned (.int .i64 (sgn (decide (na < nb)) true)) ∧ Drew w' w'' from fun w' r1 r2 => by
       obtain ⟨h1, h2, h3, h4⟩ := HM.out
       have c := implCompareBytes_any (some ⟨g1, 0, none⟩) (some ⟨g2, 0, none⟩) 6 6 (toI (be 6 ma)) (toI (be 6 mb)) w' w'.heap.size (reads_row (t := 209) (by rw [h3]; exact r1)) (reads_row (t := 209) (by rw [h4]; exact r2))
       rw [toU_toI, toU_toI] at c
       have e1 : cmpL (be 6 ma) (be 6 mb) = sgn (decide (na < nb)) true := by
        have p6 : (256 : Nat) ^ 6 = 281474976710656 := by decide
        have g9 := HM2.out
        have l1 := be_less 6 ma mb (by rw [p6]; omega) (by rw [p6]; omega)
        have l2 := be_less 6 mb ma (by rw [p6]; omega) (by rw [p6]; omega)
        by_cases hlt : na < nb
        ·
         rw [decide_eq_true (show ma < mb by omega)] at l1
         rw [cmpL_less l1, decide_eq_true hlt]
         rfl
        ·
         rw [decide_eq_true (show mb < ma by omega)] at l2
         rw [cmpL_more l2, decide_eq_false hlt]
         rfl
       rw [e1, toI_length, toI_length, be_length, be_length] at c
       exact c)
      go_wp2_with fail
      go_region_held3 (fun _ => True) (exact trivial) ((go_at_call 169; refine (HC.out wc.drew HR.out.1 HR.out.2.1).mono ?_; rintro e w5 ⟨rfl, hd⟩))
      have hold := Lib.hid ((Sl.Sep.drews HR.out.2.2 1).keep (hd.below _)).old
      go_wp2_with fail
      go_ret
      exact ⟨by rw [HE.out]; rfl, hold.out⟩
   ·
    have HE := Lib.hid (cmpK_kind hia hib hk)
    have HC := Lib.hid (fun w => cmpInt_any ka kb hk w)
    go_wp2_with (go_at_call 167; refine (HC.out _).mono ?_; rintro e w5 ⟨rfl, rfl⟩)
    go_ret
    exact ⟨by rw [HE.out]; rfl, S4.old⟩
end Go.Proofs.YthljdhfgphebnaaGreat.L4

set_option linter.unusedSimpArgs false
namespace Go.Proofs.YthljdhfgphebnaaGreat.L6
open L4 (K isK cmpK R inR encU)
open L5 (F isR isN cellsF encR eqR Small)
open Go.ChangeShapes Go.WideShapes Go.ChangeAt Go.RowKit Mem Sl Ex L2 Sv Bag

set_option maxHeartbeats 8000000 in
theorem isStore_any (y : LS) (hf : FitS y.con) (w : World) (hr : RowsRd w w.heap.size y.rows) :
  Calls Tryz.prog 101 #[y.v] w fun e w' => e = .returned (.bool (isS y.con)) ∧ Below w.heap.size w w' := by
 obtain ⟨name, a, c, xs, auto⟩ := y
 have HR := Lib.hid (fun w' (h : Below w.heap.size w w') => LS.outer (hr.below h))
 have HX := Lib.hid (fun w' (h : Below w.heap.size w w') => (LS.inner (hr.below h)).more h.size)
 have HF := Lib.hid hf.items
 have HNM := Lib.hid hf.name
 have hl := hf.len
 simp only [LS.con, conI_length] at hl
 dsimp only [LS.con] at HR HX HF HNM
 try unfold LS.v LS.cells LS.con
 try dsimp only
 obtain ⟨N, hN⟩ : ∃ n, n = xs.length := ⟨_, rfl⟩
 rw [← hN] at hl ⊢
 have hl' : (N : Int) ≤ 1048576 := by omega
 have HN := Lib.hid hN
 clear hN hr hf
 obtain ⟨bn, hbn⟩ : ∃ b, isN name.data.toList = b := ⟨_, rfl⟩
 have HIN := fun w => L5.isName_any name HNM.out w
 rw [hbn] at HIN
 replace HIN := Lib.hid HIN
 obtain ⟨ba, hba⟩ : ∃ b, L1.inB auto 0 1000000 = b := ⟨_, rfl⟩
 have HIA := fun w => L1.inRange_any auto 0 1000000 w
 rw [hba] at HIA
 replace HIA := Lib.hid HIA
 have HE := Lib.hid (show isS ⟨name, conI xs, auto⟩ = (isI (conI xs) && (bn && (decide (N ≤ 16) && ba))) from by unfold isS; rw [hbn, hba, conI_length, ← HN.out])
 clear hbn hba
 have S1 := Lib.hid (show Sl.Sep w _ [_] from L4.push_box (Sl.Sep.start w) 70 #[.string name, .slice a N c, .int .i64 auto] (w.heap.size) (by simp))
 obtain ⟨wa, hwa⟩ : ∃ u, u = (w.alloc (.cells #[.string name, .slice a N c, .int .i64 auto] 70)) := ⟨_, rfl⟩
 rw [← hwa] at S1
 go_enter Tryz.func101, Tryz.ntmps101
 go_upto_region 1 with fail
 rw [← hwa]
 clear hwa
 obtain ⟨f0, f1, f2⟩ := Bag.cs3 S1.out 0 rfl
 cases bn with
 | false =>
  go_wp2_with fail
  go_at_call 68
  refine (HIN.out _).mono ?_
  rintro e w1 ⟨rfl, rfl⟩
  go_wp2_with fail
  go_ret
  exact ⟨by rw [HE.out]; simp, S1.out.old⟩
 | true =>
  go_wp2_with fail
  go_at_call 68
  refine (HIN.out _).mono ?_
  rintro e w1 ⟨rfl, rfl⟩
  by_cases h16 : N ≤ 16
  rotate_left
  ·
   have h16i : (16 : Int) < (N : Int) := by omega
   have hd := decide_eq_false h16
   go_wp2_with fail
   go_ret
   exact ⟨by rw [HE.out, hd]; simp, S1.out.old⟩
  have h16i : ¬ (16 : Int) < (N : Int) := by omega
  have HD := Lib.hid (decide_eq_true h16)
  clear h16
  cases ba with
  | false =>
   go_wp2_with fail
   go_at_call 46
   refine (HIA.out _).mono ?_
   rintro e w2 ⟨rfl, rfl⟩
   go_wp2_with fail
   go_ret
   exact ⟨by rw [HE.out]; simp, S1.out.old⟩
  | true =>
   go_wp2_with fail
   go_at_call 46
   refine (HIA.out _).mono ?_
   rintro e w2 ⟨rfl, rfl⟩
   replace HE := Lib.hid (show isS ⟨name, conI xs, auto⟩ = isI (conI xs) from by rw [HE.out, HD.out]; simp)
   clear HD
   go_wp2_with fail
   clear f0 f1 f2
   go_loopw [24] (fun i wr => ∃ k : Nat, k ≤ N ∧ i = .int .i64 k ∧ Hid ((∀ j, j < k → okIx (conI xs) j = true) ∧ Sl.Sep w wr [L4.boxR w.heap.size 70 #[.string name, .slice a N c, .int .i64 auto]])) (fun i _ => N - (intOf i).toNat)
   case atStart => exact ⟨0, Nat.zero_le _, rfl, And.intro (fun j h => absurd h (by omega)) S1.out⟩
   case round =>
    obtain ⟨k, hk, rfl, hrel⟩ := hrel
    have HA := Lib.hid hrel.out.1
    have S2 := Lib.hid hrel.out.2
    clear hrel S1
    by_cases hlt : (k : Int) < (N : Int)
    ·
     skip
     have hkl : k < xs.length := by have := HN.out; omega
     obtain ⟨ad, x, rfl, hx⟩ := readsI_some (HR.out _ S2.out.old) k hkl
     obtain ⟨⟨kd, n, t⟩, ia, ic, l⟩ := x
     have HK := Lib.hid (fun w' (h : Below w.heap.size w w') => readsI_at (HR.out _ h) k _ hx)
     try dsimp only at HK
     have HFI := Lib.hid (fit_at HF.out hx)
     try dsimp only [LI.con] at HFI
     have hci : k < (conI xs).length := by rw [conI_length]; exact hkl
     have HC := Lib.hid (show (conI xs)[k]? = some (⟨⟨kd, n, t⟩, l⟩ : It) from con_of hx)
     obtain ⟨bk, hbk⟩ : ∃ b, isK ⟨kd, n, t⟩ = b := ⟨_, rfl⟩
     have HIK := fun w => L4.implIsKey_any ⟨kd, n, t⟩ (by have : t.size ≤ 1099511627776 := HFI.out.text; show t.size ≤ _; omega) w
     rw [hbk] at HIK
     replace HIK := Lib.hid HIK
     have HBK := Lib.hid hbk
     obtain ⟨br, hbr⟩ : ∃ b, isR l = b := ⟨_, rfl⟩
     have HIR := fun w' (h : Below w.heap.size w w') => L5.isRecord_any ia ic l (by have : l.length ≤ 1048576 := HFI.out.len; omega) HFI.out.small w' (((HX.out _ h).at_ (rowsI_mem hx)).reads)
     rw [hbr] at HIR
     replace HIR := Lib.hid HIR
     have HBR := Lib.hid hbr
     clear hbk hbr hx
     obtain ⟨f0, f1, f2⟩ := Bag.cs3 S2.out 0 rfl
     obtain ⟨f3, f4, f5, f6⟩ := HK.out _ S2.out.old
     go_upto_region 6 with fail
     clear f0 f1 f2 f3 f4 f5 f6
     have S3 := Lib.hid (show Sl.Sep w _ [_, _] from L4.push_box S2.out 135 #[.int .i64 kd, .int .i64 n, .string t, .slice ia l.length ic] wr.heap.size rfl)
     clear S2
     obtain ⟨g1, hg⟩ : ∃ g', g' = wr.heap.size := ⟨_, rfl⟩
     rw [← hg] at S3 ⊢
     clear hg
     generalize wr.alloc (.cells #[.int .i64 kd, .int .i64 n, .string t, .slice ia l.length ic] 135) = w3 at S3 ⊢
     obtain ⟨f0, f1, f2⟩ := Bag.cs3 S3.out 0 rfl
     obtain ⟨f3, f4, f5, f6⟩ := Bag.cs4 S3.out 1 rfl
     obtain ⟨f7, f8, f9, f10⟩ := HK.out _ S3.out.old
     cases bk with
     | false =>
      go_wp2_with fail
      go_at_call 137
      refine (HIK.out _).mono ?_
      rintro e w4 ⟨rfl, hb⟩
      clear f0 f1 f2 f3 f4 f5 f6 f7 f8 f9 f10
      have S4 := Lib.hid (S3.out.keep hb)
      clear S3
      clear hb
      obtain ⟨f0, f1, f2⟩ := Bag.cs3 S4.out 0 rfl
      obtain ⟨f3, f4, f5, f6⟩ := Bag.cs4 S4.out 1 rfl
      obtain ⟨f7, f8, f9, f10⟩ := HK.out _ S4.out.old
      have HNO := Lib.hid (show isI (conI xs) = false from isI_no k hci (by rw [okIx_at HC.out]; dsimp only; rw [HBK.out]; rfl))
      go_wp2_with fail
      go_ret
      exact ⟨by rw [HE.out, HNO.out]; rfl, S4.out.old⟩
     | true =>
      go_wp2_with fail
      go_at_call 137
      refine (HIK.out _).mono ?_
      rintro e w4 ⟨rfl, hb⟩
      clear f0 f1 f2 f3 f4 f5 f6 f7 f8 f9 f10
      have S4 := Lib.hid (S3.out.keep hb)
      clear S3
      clear hb
      obtain ⟨f0, f1, f2⟩ := Bag.cs3 S4.out 0 rfl
      obtain ⟨f3, f4, f5, f6⟩ := Bag.cs4 S4.out 1 rfl
      obtain ⟨f7, f8, f9, f10⟩ := HK.out _ S4.out.old
      cases br with
      | false =>
       go_wp2_with fail
       go_at_call 138
       refine (HIR.out _ S4.out.old).mono ?_
       rintro e w5 ⟨rfl, hb⟩
       clear f0 f1 f2 f3 f4 f5 f6 f7 f8 f9 f10
       have S5 := Lib.hid (S4.out.keep hb)
       clear S4
       clear hb
       obtain ⟨f0, f1, f2⟩ := Bag.cs3 S5.out 0 rfl
       obtain ⟨f3, f4, f5, f6⟩ := Bag.cs4 S5.out 1 rfl
       obtain ⟨f7, f8, f9, f10⟩ := HK.out _ S5.out.old
       have HNO := Lib.hid (show isI (conI xs) = false from isI_no k hci (by rw [okIx_at HC.out]; dsimp only; rw [HBK.out, HBR.out]; rfl))
       go_wp2_with fail
       go_ret
       exact ⟨by rw [HE.out, HNO.out]; rfl, S5.out.old⟩
      | true =>
       go_wp2_with fail
       go_at_call 138
       refine (HIR.out _ S4.out.old).mono ?_
       rintro e w5 ⟨rfl, hb⟩
       clear f0 f1 f2 f3 f4 f5 f6 f7 f8 f9 f10
       have S5 := Lib.hid (S4.out.keep hb)
       clear S4
       clear hb
       obtain ⟨f0, f1, f2⟩ := Bag.cs3 S5.out 0 rfl
       obtain ⟨f3, f4, f5, f6⟩ := Bag.cs4 S5.out 1 rfl
       obtain ⟨f7, f8, f9, f10⟩ := HK.out _ S5.out.old
       rcases Nat.eq_zero_or_pos k with hk0 | hk0
       ·
        have hk1 : (0 < k) = False := by simp; omega
        have HZ := Lib.hid hk0
        clear hk0
        go_upto_region 8 with fail
        clear f0 f1 f2 f3 f4 f5 f6 f7 f8 f9 f10
        refine wp_region_held_drew (S := (fun w' => (w'.cell? ⟨w.heap.size, 0, none⟩ = some (.string name) ∧ w'.cell? ⟨w.heap.size, 1, none⟩ = some (.slice (some ad) N c) ∧ w'.cell? ⟨w.heap.size, 2, none⟩ = some (.int .i64 auto)) ∧ (w'.cell? ⟨g1, 0, none⟩ = some (.int .i64 kd) ∧ w'.cell? ⟨g1, 1, none⟩ = some (.int .i64 n) ∧ w'.cell? ⟨g1, 2, none⟩ = some (.string t) ∧ w'.cell? ⟨g1, 3, none⟩ = some (.slice ia l.length ic)) ∧ (w'.cell? (ad.add (k * 4)) = some (.int .i64 kd) ∧ w'.cell? (⟨(ad.add (k * 4)).block, (ad.add (k * 4)).off + 1, none⟩) = some (.int .i64 n) ∧ w'.cell? (⟨(ad.add (k * 4)).block, (ad.add (k * 4)).off + 2, none⟩) = some (.string t) ∧ w'.cell? (⟨(ad.add (k * 4)).block, (ad.add (k * 4)).off + 3, none⟩) = some (.slice ia l.length ic)))) (by kernel_rfl) ⟨Bag.cs3 (Bag.drew1 S5.out) 0 rfl, Bag.cs4 (Bag.drew1 S5.out) 1 rfl, HK.out _ (Bag.drew1 S5.out).old⟩ (fun hS => ?_)
        have S6 := Lib.hid (Bag.drew1 S5.out)
        clear S5
        generalize World.drew _ = w6 at hS S6 ⊢
        refine tk 0 rfl ?_
        try simp only [zp0, zp1, zp2, zp3, zp4]
        refine tk 1 rfl ?_
        try simp only [zp0, zp1, zp2, zp3, zp4]
        refine tk 2 rfl ?_
        try simp only [zp0, zp1, zp2, zp3, zp4]
        refine sk 3 rfl ?_
        try simp only [zp0, zp1, zp2, zp3, zp4]
        refine sk 4 rfl ?_
        try simp only [zp0, zp1, zp2, zp3, zp4]
        refine sk 5 rfl ?_
        try simp only [zp0, zp1, zp2, zp3, zp4]
        refine sk 6 rfl ?_
        try simp only [zp0, zp1, zp2, zp3, zp4]
        refine sk 7 rfl ?_
        try simp only [zp0, zp1, zp2, zp3, zp4]
        refine sk 8 rfl ?_
        try simp only [zp0, zp1, zp2, zp3, zp4]
        refine sk 9 rfl ?_
        try simp only [zp0, zp1, zp2, zp3, zp4]
        refine sk 10 rfl ?_
        try simp only [zp0, zp1, zp2, zp3, zp4]
        refine sk 11 rfl ?_
        try simp only [zp0, zp1, zp2, zp3, zp4]
        refine Reg.skip_one (i := 12) rfl (by kernel_rfl) (by rfl) (by assumption) ?_
        try simp only [zp0, zp1, zp2, zp3, zp4]
        refine sk 13 rfl ?_
        try simp only [zp0, zp1, zp2, zp3, zp4]
        refine tk 14 rfl ?_
        try simp only [zp0, zp1, zp2, zp3, zp4]
        refine wpAnyH_done (by kernel_rfl) ?_ _
        obtain ⟨f0, f1, f2⟩ := Bag.cs3 S6.out 0 rfl
        obtain ⟨f3, f4, f5, f6⟩ := Bag.cs4 S6.out 1 rfl
        obtain ⟨f7, f8, f9, f10⟩ := HK.out _ S6.out.old
        clear f0 f1 f2 f3 f4 f5 f6 f7 f8 f9 f10
        have S7 := Lib.hid (show Sl.Sep w _ [_] from Bag.take S6.out [0] (by rfl) (by decide))
        clear S6
        go_wp2_with fail
        go_roundw
        case rel => exact ⟨k + 1, by omega, by go_num, And.intro (fun j h => by
         by_cases e : j < k
         ·
          exact HA.out j e
         ·
          obtain rfl : j = k := by omega
          rw [okIx_at HC.out]; dsimp only; rw [HBK.out, HBR.out, HZ.out]; rfl) S7.out⟩
        case measure => simp [intOf]; omega
       ·
        obtain ⟨m, hkm⟩ : ∃ m, k = m + 1 := ⟨k - 1, by omega⟩
        have hki : (k : Int) - 1 = (m : Int) := by omega
        have HKM := Lib.hid hkm
        have hm0 : m < xs.length := by omega
        have hmi : (m : Int) < (N : Int) := by omega
        have hmw : IntKind.i64.wrap (m : Int) = (m : Int) := IntWalk.i64_in _ ⟨by omega, by omega⟩
        clear hkm
        clear f0 f1 f2 f3 f4 f5 f6 f7 f8 f9 f10
        obtain ⟨ad_, x2, e_, hx2⟩ := readsI_some (HR.out _ S5.out.old) m hm0
        clear e_ ad_
        obtain ⟨⟨kd2, n2, t2⟩, ia2, ic2, l2⟩ := x2
        have HK2 := Lib.hid (fun w' (h : Below w.heap.size w w') => readsI_at (HR.out _ h) m _ hx2)
        try dsimp only at HK2
        have HC2 := Lib.hid (show (conI xs)[m]? = some (⟨⟨kd2, n2, t2⟩, l2⟩ : It) from con_of hx2)
        have HFI2 := Lib.hid (fit_at HF.out hx2)
        clear hx2
        obtain ⟨cv, hcv⟩ : ∃ b, cmpK ⟨kd2, n2, t2⟩ ⟨kd, n, t⟩ = b := ⟨_, rfl⟩
        have HCMP := fun w => L4.implCompareKeys_any ⟨kd2, n2, t2⟩ ⟨kd, n, t⟩ (by have : t2.size ≤ 1099511627776 := HFI2.out.text; show t2.size ≤ _; omega) (by have : t.size ≤ 1099511627776 := HFI.out.text; show t.size ≤ _; omega) w
        rw [hcv] at HCMP
        replace HCMP := Lib.hid HCMP
        have HCV := Lib.hid hcv
        clear hcv
        obtain ⟨f0, f1, f2⟩ := Bag.cs3 S5.out 0 rfl
        obtain ⟨f3, f4, f5, f6⟩ := Bag.cs4 S5.out 1 rfl
        obtain ⟨f7, f8, f9, f10⟩ := HK.out _ S5.out.old
        obtain ⟨f11, f12, f13, f14⟩ := HK2.out _ S5.out.old
        by_cases hc : cv < 0
        ·
         have hc2 : ¬ 0 ≤ cv := by omega
         go_upto_region 8 with fail
         clear f0 f1 f2 f3 f4 f5 f6 f7 f8 f9 f10 f11 f12 f13 f14
         refine wp_region_held_drew (S := (fun w' => (w'.cell? ⟨w.heap.size, 0, none⟩ = some (.string name) ∧ w'.cell? ⟨w.heap.size, 1, none⟩ = some (.slice (some ad) N c) ∧ w'.cell? ⟨w.heap.size, 2, none⟩ = some (.int .i64 auto)) ∧ (w'.cell? ⟨g1, 0, none⟩ = some (.int .i64 kd) ∧ w'.cell? ⟨g1, 1, none⟩ = some (.int .i64 n) ∧ w'.cell? ⟨g1, 2, none⟩ = some (.string t) ∧ w'.cell? ⟨g1, 3, none⟩ = some (.slice ia l.length ic)) ∧ (w'.cell? (ad.add (k * 4)) = some (.int .i64 kd) ∧ w'.cell? (⟨(ad.add (k * 4)).block, (ad.add (k * 4)).off + 1, none⟩) = some (.int .i64 n) ∧ w'.cell? (⟨(ad.add (k * 4)).block, (ad.add (k * 4)).off + 2, none⟩) = some (.string t) ∧ w'.cell? (⟨(ad.add (k * 4)).block, (ad.add (k * 4)).off + 3, none⟩) = some (.slice ia l.length ic)) ∧ (w'.cell? (ad.add (m * 4)) = some (.int .i64 kd2) ∧ w'.cell? (⟨(ad.add (m * 4)).block, (ad.add (m * 4)).off + 1, none⟩) = some (.int .i64 n2) ∧ w'.cell? (⟨(ad.add (m * 4)).block, (ad.add (m * 4)).off + 2, none⟩) = some (.string t2) ∧ w'.cell? (⟨(ad.add (m * 4)).block, (ad.add (m * 4)).off + 3, none⟩) = some (.slice ia2 l2.length ic2)))) (by kernel_rfl) ⟨Bag.cs3 (Bag.drew1 S5.out) 0 rfl, Bag.cs4 (Bag.drew1 S5.out) 1 rfl, HK.out _ (Bag.drew1 S5.out).old, HK2.out _ (Bag.drew1 S5.out).old⟩ (fun hS => ?_)
         have S6 := Lib.hid (Bag.drew1 S5.out)
         clear S5
         generalize World.drew _ = w6 at hS S6 ⊢
         refine tk 0 rfl ?_
         try simp only [zp0, zp1, zp2, zp3, zp4]
         refine tk 1 rfl ?_
         try simp only [zp0, zp1, zp2, zp3, zp4]
         refine tk 2 rfl ?_
         try simp only [zp0, zp1, zp2, zp3, zp4]
         refine tk 3 rfl ?_
         try simp only [zp0, zp1, zp2, zp3, zp4]
         refine tk 4 rfl ?_
         try simp only [zp0, zp1, zp2, zp3, zp4]
         refine tk 5 rfl ?_
         try simp only [zp0, zp1, zp2, zp3, zp4]
         refine tk 6 rfl ?_
         try simp only [zp0, zp1, zp2, zp3, zp4]
         refine tk 7 rfl ?_
         try simp only [zp0, zp1, zp2, zp3, zp4]
         refine tk 8 rfl ?_
         try simp only [zp0, zp1, zp2, zp3, zp4]
         refine tk 9 rfl ?_
         try simp only [zp0, zp1, zp2, zp3, zp4]
         refine tk 10 rfl ?_
         try simp only [zp0, zp1, zp2, zp3, zp4]
         refine tk 11 rfl ?_
         try simp only [zp0, zp1, zp2, zp3, zp4]
         refine Reg.one_op (i := 12) rfl (by kernel_rfl) (fun K hK => ?_)
         go_simp
         go_at_call 139
         refine (HCMP.out _).mono ?_
         rintro e w7 ⟨rfl, hb⟩
         have S7 := Lib.hid (S6.out.keep hb)
         clear S6
         clear hb
         go_wp2_with fail
         refine hK.out _ _ ⟨Bag.cs3 S7.out 0 rfl, Bag.cs4 S7.out 1 rfl, HK.out _ S7.out.old, HK2.out _ S7.out.old⟩ (fun hS => ?_)
         clear hK K
         try simp only [zp0, zp1, zp2, zp3, zp4]
         refine tk 13 rfl ?_
         try simp only [zp0, zp1, zp2, zp3, zp4]
         refine tk 14 rfl ?_
         try simp only [zp0, zp1, zp2, zp3, zp4]
         refine wpAnyH_done (by kernel_rfl) ?_ _
         obtain ⟨f0, f1, f2⟩ := Bag.cs3 S7.out 0 rfl
         obtain ⟨f3, f4, f5, f6⟩ := Bag.cs4 S7.out 1 rfl
         obtain ⟨f7, f8, f9, f10⟩ := HK.out _ S7.out.old
         obtain ⟨f11, f12, f13, f14⟩ := HK2.out _ S7.out.old
         clear f0 f1 f2 f3 f4 f5 f6 f7 f8 f9 f10 f11 f12 f13 f14
         have S8 := Lib.hid (show Sl.Sep w _ [_] from Bag.take S7.out [0] (by rfl) (by decide))
         clear S7
         go_wp2_with fail
         go_roundw
         case rel => exact ⟨k + 1, by omega, by go_num, And.intro (fun j h => by
          by_cases e : j < k
          ·
           exact HA.out j e
          ·
           obtain rfl : j = k := by omega
           rw [okIx_at HC.out, HKM.out, behind_at HC2.out]; dsimp only; rw [HBK.out, HBR.out, HCV.out]; simpa using hc) S8.out⟩
         case measure => simp [intOf]; omega
        ·
         have hc2 : 0 ≤ cv := by omega
         go_upto_region 8 with fail
         clear f0 f1 f2 f3 f4 f5 f6 f7 f8 f9 f10 f11 f12 f13 f14
         refine wp_region_held_drew (S := (fun w' => (w'.cell? ⟨w.heap.size, 0, none⟩ = some (.string name) ∧ w'.cell? ⟨w.heap.size, 1, none⟩ = some (.slice (some ad) N c) ∧ w'.cell? ⟨w.heap.size, 2, none⟩ = some (.int .i64 auto)) ∧ (w'.cell? ⟨g1, 0, none⟩ = some (.int .i64 kd) ∧ w'.cell? ⟨g1, 1, none⟩ = some (.int .i64 n) ∧ w'.cell? ⟨g1, 2, none⟩ = some (.string t) ∧ w'.cell? ⟨g1, 3, none⟩ = some (.slice ia l.length ic)) ∧ (w'.cell? (ad.add (k * 4)) = some (.int .i64 kd) ∧ w'.cell? (⟨(ad.add (k * 4)).block, (ad.add (k * 4)).off + 1, none⟩) = some (.int .i64 n) ∧ w'.cell? (⟨(ad.add (k * 4)).block, (ad.add (k * 4)).off + 2, none⟩) = some (.string t) ∧ w'.cell? (⟨(ad.add (k * 4)).block, (ad.add (k * 4)).off + 3, none⟩) = some (.slice ia l.length ic)) ∧ (w'.cell? (ad.add (m * 4)) = some (.int .i64 kd2) ∧ w'.cell? (⟨(ad.add (m * 4)).block, (ad.add (m * 4)).off + 1, none⟩) = some (.int .i64 n2) ∧ w'.cell? (⟨(ad.add (m * 4)).block, (ad.add (m * 4)).off + 2, none⟩) = some (.string t2) ∧ w'.cell? (⟨(ad.add (m * 4)).block, (ad.add (m * 4)).off + 3, none⟩) = some (.slice ia2 l2.length ic2)))) (by kernel_rfl) ⟨Bag.cs3 (Bag.drew1 S5.out) 0 rfl, Bag.cs4 (Bag.drew1 S5.out) 1 rfl, HK.out _ (Bag.drew1 S5.out).old, HK2.out _ (Bag.drew1 S5.out).old⟩ (fun hS => ?_)
         have S6 := Lib.hid (Bag.drew1 S5.out)
         clear S5
         generalize World.drew _ = w6 at hS S6 ⊢
         refine tk 0 rfl ?_
         try simp only [zp0, zp1, zp2, zp3, zp4]
         refine tk 1 rfl ?_
         try simp only [zp0, zp1, zp2, zp3, zp4]
         refine tk 2 rfl ?_
         try simp only [zp0, zp1, zp2, zp3, zp4]
         refine tk 3 rfl ?_
         try simp only [zp0, zp1, zp2, zp3, zp4]
         refine tk 4 rfl ?_
         try simp only [zp0, zp1, zp2, zp3, zp4]
         refine tk 5 rfl ?_
         try simp only [zp0, zp1, zp2, zp3, zp4]
         refine tk 6 rfl ?_
         try simp only [zp0, zp1, zp2, zp3, zp4]
         refine tk 7 rfl ?_
         try simp only [zp0, zp1, zp2, zp3, zp4]
         refine tk 8 rfl ?_
         try simp only [zp0, zp1, zp2, zp3, zp4]
         refine tk 9 rfl ?_
         try simp only [zp0, zp1, zp2, zp3, zp4]
         refine tk 10 rfl ?_
         try simp only [zp0, zp1, zp2, zp3, zp4]
         refine tk 11 rfl ?_
         try simp only [zp0, zp1, zp2, zp3, zp4]
         refine Reg.one_op (i := 12) rfl (by kernel_rfl) (fun K hK => ?_)
         go_simp
         go_at_call 139
         refine (HCMP.out _).mono ?_
         rintro e w7 ⟨rfl, hb⟩
         have S7 := Lib.hid (S6.out.keep hb)
         clear S6
         clear hb
         go_wp2_with fail
         refine hK.out _ _ ⟨Bag.cs3 S7.out 0 rfl, Bag.cs4 S7.out 1 rfl, HK.out _ S7.out.old, HK2.out _ S7.out.old⟩ (fun hS => ?_)
         clear hK K
         try simp only [zp0, zp1, zp2, zp3, zp4]
         refine tk 13 rfl ?_
         try simp only [zp0, zp1, zp2, zp3, zp4]
         refine tk 14 rfl ?_
         try simp only [zp0, zp1, zp2, zp3, zp4]
         refine wpAnyH_done (by kernel_rfl) ?_ _
         obtain ⟨f0, f1, f2⟩ := Bag.cs3 S7.out 0 rfl
         obtain ⟨f3, f4, f5, f6⟩ := Bag.cs4 S7.out 1 rfl
         obtain ⟨f7, f8, f9, f10⟩ := HK.out _ S7.out.old
         obtain ⟨f11, f12, f13, f14⟩ := HK2.out _ S7.out.old
         have HNO := Lib.hid (show isI (conI xs) = false from isI_no k hci (by rw [okIx_at HC.out, HKM.out, behind_at HC2.out]; dsimp only; rw [HBK.out, HBR.out, HCV.out]; simpa using hc2))
         go_wp2_with fail
         go_ret
         exact ⟨by rw [HE.out, HNO.out]; rfl, S7.out.old⟩
    ·
     skip
     obtain rfl : k = N := by omega
     have HI := Lib.hid (isI_all (xs := conI xs) (fun i hi => HA.out i (by rw [conI_length] at hi; have := HN.out; omega)))
     go_wp2_with fail
     go_ret
     exact ⟨by rw [HE.out, HI.out]; rfl, S2.out.old⟩
end Go.Proofs.YthljdhfgphebnaaGreat.L6

namespace Go.Proofs.YthljdhfgphebnaaGreat.V
open Go.ChangeShapes Go.WideShapes Go.ChangeAt Go.RowKit Mem Sl Sv Bag

theorem infoE_Store : ∃ i, Tryz.prog.info? 70 = some i ∧ i.zero = some (.agg #[.string ⟨#[]⟩, .slice none 0 0, .int .i64 0]) ∧ i.size = 3 ∧ i.bytes = 48 := Ex.infoOf _ _ _ _ (by kernel_rfl)
def Copied_Store (w : World) (x : L6.LS) (e : Ending) (w' : World) : Prop := ∃ y : L6.LS, e = .returned (vv_Store y) ∧ co_Store y = co_Store x ∧ BagOwn w' w.heap.size (rw_Store y) ∧ Below w.heap.size w w'
def CopiedS_Store (w : World) (xs : List L6.LS) (e : Ending) (w' : World) : Prop := ∃ (g : Nat) (ys : List L6.LS), e = .returned (.slice (some ⟨g, 0, none⟩) ys.length ys.length) ∧ coS_Store ys = coS_Store xs ∧ BagOwn w' w.heap.size (rs_Store (some ⟨g, 0, none⟩) ys.length ys) ∧ Below w.heap.size w w'
set_option maxHeartbeats 4000000 in
theorem copyEach_Store (hco : ∀ (x : L6.LS) (hf : L6.FitS (co_Store x)) (w : World) (hr : RowsRd w w.heap.size (rw_Store x)), Calls Tryz.prog 72 #[vv_Store x] w (Copied_Store w x))
  (a : Option Addr) (c : Nat) (xs : List L6.LS) (hl : xs.length ≤ 1048576) (hf : ∀ x ∈ xs, L6.FitS (co_Store x)) (w : World) (hr : Reads w w.heap.size a (xs.flatMap cl_Store)) (hx : RowsRd w w.heap.size (rws_Store xs)) :
  Calls Tryz.prog 71 #[.slice a xs.length c, .func (.func 72) #[] #[]] w (CopiedS_Store w xs) := by
 obtain ⟨i0, hi1, hi2, hi3, hi4⟩ := infoE_Store
 have HI := Lib.hid (And.intro hi1 (And.intro hi2 (And.intro hi3 hi4)))
 clear hi1 hi2 hi3 hi4
 have HR := Lib.hid (fun w' (h : Below w.heap.size w w') => hr.below h)
 have HX := Lib.hid (fun w' (h : Below w.heap.size w w') => (hx.below h).more h.size)
 have HF := Lib.hid hf
 have HCO := Lib.hid hco
 obtain ⟨N, hN⟩ : ∃ n, n = xs.length := ⟨_, rfl⟩
 rw [← hN] at hl ⊢
 have hl' : (N : Int) ≤ 1048576 := by omega
 have HN := Lib.hid hN
 clear hN hr hx hf hco
 obtain ⟨Z, hZ⟩ : ∃ Z, Z = (madeCells (Value.agg #[.string ⟨#[]⟩, .slice none 0 0, .int .i64 0]).cells (N * 3)).toList := ⟨_, rfl⟩
 have HZ := Lib.hid (show Z.length = N * 3 by rw [hZ]; simp [madeCells])
 have HZD := Lib.hid hZ
 clear hZ
 have S1 := Lib.hid (show Sl.Sep w w [] from Sl.Sep.start w)
 go_enter Tryz.func71, Tryz.ntmps71
 go_upto_region 2 with (at_make; refine Run.wpList_make_s S1.out rfl _ _ 30 rfl 70 i0 (.agg #[.string ⟨#[]⟩, .slice none 0 0, .int .i64 0]) 3 Tryz.underlying30 HI.out.1 HI.out.2.1 HI.out.2.2.1 _ _ N rfl rfl (by rw [HI.out.2.2.2]; omega) (by unfold maxLen; omega) ?_; intro w1 S')
 obtain ⟨g1, hg⟩ : ∃ g', g' = w.heap.size := ⟨_, rfl⟩
 rw [← hg] at S' ⊢
 clear hg
 have S2 := Lib.hid (show Sl.Sep w _ [Sv.ownV 70 3 (some ⟨g1, 0, none⟩) N N (([] : List L6.LS).flatMap cl_Store ++ Z)] from (by have h := S'; rw [← HZD.out] at h; exact h))
 clear S1
 clear S'
 have S3 := Lib.hid (show Sl.Sep w _ [_, Bag.bag (rws_Store [])] from Bag.push_bag S2.out (Below.refl _ _) (by rw [rws_Store_eq]; exact Bag.BagOwn.nil _ _))
 clear S2
 go_wp2_with fail
 go_loopw [13] (fun i wr => ∃ (k : Nat) (ys : List L6.LS) (Zs : List Value), k ≤ N ∧ i = .int .i64 k ∧ Hid ((ys.map co_Store = (xs.take k).map co_Store ∧ ys.length = k ∧ Zs.length = (N - k) * 3) ∧ Sl.Sep w wr [Sv.ownV 70 3 (some ⟨g1, 0, none⟩) N N (ys.flatMap cl_Store ++ Zs), Bag.bag (rws_Store ys)])) (fun i _ => N - (intOf i).toNat)
 case atStart => exact ⟨0, [], Z, Nat.zero_le _, rfl, And.intro ⟨rfl, rfl, HZ.out⟩ S3.out⟩
 case round =>
  obtain ⟨k, ys, Zs, hk, rfl, hrel⟩ := hrel
  have HC := Lib.hid hrel.out.1
  have S4 := Lib.hid hrel.out.2
  clear hrel S3
  by_cases hlt : (k : Int) < (N : Int)
  ·
   skip
   have hkl : k < xs.length := by have := HN.out; omega
   obtain ⟨x, hx⟩ : ∃ x, xs[k]? = some x := ⟨_, List.getElem?_eq_getElem hkl⟩
   obtain ⟨ad, e'⟩ := el_some cl_Store_len (by decide) (HR.out _ S4.out.old) hkl
   subst e'
   have HK := Lib.hid (fun w' (h : Below w.heap.size w w') => el3 cl_Store_len (HR.out _ h) hx rfl)
   have HTX := Lib.hid (take_next hx)
   have HL := Lib.hid (show (ys.flatMap cl_Store).length = k * 3 ∧ k * 3 + 3 ≤ (ys.flatMap cl_Store ++ Zs).length ∧ 3 ≤ Zs.length from by have h1 := HC.out.2.1; have h2 := HC.out.2.2; rw [List.length_append, flat_len cl_Store_len, h1, h2]; omega)
   have HCI := Lib.hid (fun w' (h : Below w.heap.size w w') => HCO.out x (HF.out x (List.mem_of_getElem? hx)) w' (rd_el (rw_ := rw_Store) (by rw [← rws_Store_eq]; exact HX.out w' h) hx))
   dsimp only [vv_Store] at HCI
   clear hx
   obtain ⟨f0, f1, f2⟩ := HK.out _ S4.out.old
   go_upto_region 5 with fail
   clear f0 f1 f2
   have S5 := Lib.hid (show Sl.Sep w _ [_, _, _] from L4.push_box S4.out 70 #[.string x.name, .slice x.a x.xs.length x.c, .int .i64 x.auto] wr.heap.size rfl)
   clear S4
   obtain ⟨g2, hg⟩ : ∃ g', g' = wr.heap.size := ⟨_, rfl⟩
   rw [← hg] at S5 ⊢
   clear hg
   generalize wr.alloc (.cells #[.string x.name, .slice x.a x.xs.length x.c, .int .i64 x.auto] 70) = w2 at S5 ⊢
   obtain ⟨f0, f1, f2⟩ := Bag.cs3 S5.out 2 rfl
   obtain ⟨f3, f4, f5⟩ := HK.out _ S5.out.old
   go_wp2_with fail
   go_at_call 72
   refine (HCI.out _ S5.out.old).mono ?_
   rintro e w3 ⟨y, rfl, hcy, ho, hb⟩
   clear f0 f1 f2 f3 f4 f5
   have S6 := Lib.hid (show Sl.Sep w _ [_, _, L4.boxR g2 70 #[.string x.name, .slice x.a x.xs.length x.c, .int .i64 x.auto], Bag.bag (rw_Store y)] from Bag.push_bag S5.out hb ho)
   clear S5
   clear hb ho
   have HCY := Lib.hid hcy
   clear hcy
   try dsimp only [vv_Store]
   have q0 := (Sv.own_at S6.out 0 rfl).cell (k * 3) (by have := HL.out.2.1; omega)
   have z0 := (Sv.own_at S6.out 0 rfl).free (k * 3)
   have q1 := (Sv.own_at S6.out 0 rfl).cell (k * 3 + 1) (by have := HL.out.2.1; omega)
   have z1 := (Sv.own_at S6.out 0 rfl).free (k * 3 + 1)
   have q2 := (Sv.own_at S6.out 0 rfl).cell (k * 3 + 2) (by have := HL.out.2.1; omega)
   have z2 := (Sv.own_at S6.out 0 rfl).free (k * 3 + 2)
   go_wp2_with fail
   clear q0 z0 q1 z1 q2 z2
   have S7 := Lib.hid (show Sl.Sep w (World.setCells w3 g1 (k * 3) [.string y.name, .slice y.a y.xs.length y.c, .int .i64 y.auto]) [Sv.ownV 70 3 (some ⟨g1, 0, none⟩) N N ((ys ++ [y]).flatMap cl_Store ++ Zs.drop 3), Bag.bag (rws_Store ys), L4.boxR g2 70 #[.string x.name, .slice x.a x.xs.length x.c, .int .i64 x.auto], Bag.bag (rw_Store y)] from (by have h := Run.put_run S6.out 0 rfl (k * 3) [.string y.name, .slice y.a y.xs.length y.c, .int .i64 y.auto] (by have := HL.out.2.1; simpa using this); rw [Run.over_at _ _ _ _ HL.out.1 (by have := HL.out.2.2; simpa using this)] at h; rw [List.flatMap_append, List.append_assoc]; exact h))
   clear S6
   have S8 := Lib.hid (show Sl.Sep w _ [Sv.ownV 70 3 (some ⟨g1, 0, none⟩) N N ((ys ++ [y]).flatMap cl_Store ++ Zs.drop 3), Bag.bag (rws_Store ys ++ (rw_Store y)), L4.boxR g2 70 #[.string x.name, .slice x.a x.xs.length x.c, .int .i64 x.auto], Bag.bag ([])] from Bag.bag_join S7.out 1 3 (by decide) rfl rfl)
   clear S7
   have S9 := Lib.hid (show Sl.Sep w _ [_, _] from Bag.take S8.out [0, 1] (by rfl) (by decide))
   clear S8
   go_roundw
   case rel =>
    refine ⟨k + 1, ys ++ [y], Zs.drop 3, by omega, by go_num, And.intro ⟨?_, ?_, ?_⟩ ?_⟩
    ·
     rw [HTX.out, List.map_append, List.map_append, HC.out.1]; rw [show [y].map co_Store = [x].map co_Store from congrArg (fun u => [u]) HCY.out]
    ·
     rw [List.length_append, HC.out.2.1]; rfl
    ·
     rw [List.length_drop, HC.out.2.2]; omega
    ·
     rw [rws_Store_app]; rw [show rws_Store [y] = rw_Store y from by rw [rws_Store_eq]; simp]; exact S9.out
   case measure => simp [intOf]; omega
  ·
   skip
   obtain rfl : k = N := by omega
   go_wp2_with fail
   go_ret
   obtain ⟨hc1, hc2, hc3⟩ := HC.out
   have hZs : Zs = [] := List.eq_nil_of_length_eq_zero (by rw [hc3]; omega)
   have hcon : ys.map co_Store = xs.map co_Store := by rw [hc1, List.take_of_length_le (by have := HN.out; omega)]
   have S90 := Lib.hid (Bag.bag_of_one S4.out 0 (r := row_Store (some ⟨g1, 0, none⟩) k ys) (by unfold RowS.res row_Store; dsimp only; rw [hZs, List.append_nil, hc2]; rfl))
   have S91 := Lib.hid (Bag.bag_join S90.out 0 1 (by decide) rfl rfl)
   have hb := Bag.bag_from S91.out 0 rfl
   subst hc2
   exact ⟨_, ys, rfl, by rw [coS_Store_eq, coS_Store_eq]; exact hcon, hb, S91.out.old⟩
end Go.Proofs.YthljdhfgphebnaaGreat.V

set_option linter.unusedSimpArgs false
namespace Go.Proofs.YthljdhfgphebnaaGreat.L7
open L4 (K isK cmpK R inR encU)
open L5 (F isR isN cellsF encR eqR Small getO getN getB)
open L6
open Go.ChangeShapes Go.WideShapes Go.ChangeAt Go.RowKit Mem Sl Ex L2 Sv Bag

theorem filt_take {f : It → Bool} {xs : List It} {k : Nat} {x : It} (h : xs[k]? = some x) : (xs.take (k + 1)).filter f = (xs.take k).filter f ++ (if f x then [x] else []) := by
 obtain ⟨hk, rfl⟩ := List.getElem?_eq_some_iff.1 h
 rw [List.take_succ_eq_append_getElem hk, List.filter_append]
 congr 1
 by_cases h1 : f xs[k] = true
 ·
  simp [h1]
 ·
  simp [h1]
def Tests1 (Fn g : Nat) (f : It → Bool) (xs : List LI) (w : World) : Prop :=
 ∀ x ∈ xs, ∀ w', Below w.heap.size w w' → Calls Tryz.prog Fn #[.agg #[.int .i64 x.k.kind, .int .i64 x.k.n, .string x.k.text, .slice x.a x.l.length x.c], .pointer (some ⟨g, 0, none⟩)] w' fun e w'' => e = .returned (.bool (f x.con)) ∧ Below w'.heap.size w' w''
set_option maxHeartbeats 8000000 in
theorem itemsWhereB_any (g : Nat) (f : It → Bool) (y : LS) (hf : FitS y.con) (w : World) (hp : Tests1 195 g f y.xs w) (hr : RowsRd w w.heap.size y.rows) :
  Calls Tryz.prog 194 #[y.v, .func (.func 195) #[] #[.pointer (some ⟨g, 0, none⟩)]] w (GaveIs w (y.con.items.filter f)) := by
 obtain ⟨i0, hi1, hi2, hi3, hi4⟩ := itemInfo
 have HI := Lib.hid (And.intro hi1 (And.intro hi2 (And.intro hi3 hi4)))
 clear hi1 hi2 hi3 hi4
 have HP := Lib.hid hp
 clear hp
 obtain ⟨name, a, c, xs, auto⟩ := y
 have HR := Lib.hid (fun w' (h : Below w.heap.size w w') => LS.outer (hr.below h))
 have HX := Lib.hid (fun w' (h : Below w.heap.size w w') => (LS.inner (hr.below h)).more h.size)
 have HF := Lib.hid hf.items
 have HNM := Lib.hid hf.name
 have hl := hf.len
 simp only [LS.con, conI_length] at hl
 dsimp only [LS.con] at HR HX HF HNM
 try unfold LS.v LS.cells LS.con
 try dsimp only
 obtain ⟨N, hN⟩ : ∃ n, n = xs.length := ⟨_, rfl⟩
 rw [← hN] at hl ⊢
 have hl' : (N : Int) ≤ 1048576 := by omega
 have HN := Lib.hid hN
 clear hN hr hf
 have S1 := Lib.hid (show Sl.Sep w _ [_] from L4.push_box (Sl.Sep.start w) 70 #[.string name, .slice a N c, .int .i64 auto] (w.heap.size) (by simp))
 obtain ⟨wa, hwa⟩ : ∃ u, u = (w.alloc (.cells #[.string name, .slice a N c, .int .i64 auto] 70)) := ⟨_, rfl⟩
 rw [← hwa] at S1
 go_enter Tryz.func194, Tryz.ntmps194
 go_upto_region 1 with fail
 rw [← hwa]
 clear hwa
 go_upto_region 2 with fail
 have S2 := Lib.hid (show Sl.Sep w _ [_, Sv.ownV 135 4 (some ⟨wa.heap.size, 0, none⟩) 0 0 (cellsI [])] from Sv.push_own S1.out ((Below.refl _ _).alloc (Nat.le_refl _) _) (OwnV.madeAt wa 135 4 0 wa.heap.size #[] rfl (Nat.le_refl _) rfl (by decide)))
 clear S1
 obtain ⟨g1, hg⟩ : ∃ g', g' = wa.heap.size := ⟨_, rfl⟩
 rw [← hg] at S2 ⊢
 clear hg
 generalize wa.alloc (.cells #[] 135) = w1 at S2 ⊢
 have S3 := Lib.hid (show Sl.Sep w _ [_, Sv.ownV 135 4 (some ⟨g1, 0, none⟩) 0 0 (cellsI []), Bag.bag (rowsI [])] from Bag.push_bag S2.out (Below.refl _ _) (Bag.BagOwn.nil _ _))
 clear S2
 obtain ⟨f0, f1, f2⟩ := Bag.cs3 S3.out 0 rfl
 go_wp2_with fail
 clear f0 f1 f2
 go_loopw [5, 12] (fun v i wr => ∃ (k m : Nat) (A : Option Addr) (C : Nat) (ys : List LI), k ≤ N ∧ i = .int .i64 k ∧ v = .slice A m C ∧ m ≤ k ∧ Hid ((m = ys.length ∧ conI ys = ((conI xs).take k).filter f) ∧ Sl.Sep w wr [L4.boxR w.heap.size 70 #[.string name, .slice a N c, .int .i64 auto], Sv.ownV 135 4 A C m (cellsI ys), Bag.bag (rowsI ys)])) (fun _ i _ => N - (intOf i).toNat)
 case atStart => exact ⟨0, 0, _, _, [], Nat.zero_le _, rfl, rfl, Nat.le_refl _, And.intro ⟨rfl, rfl⟩ S3.out⟩
 case round =>
  obtain ⟨k, m, A, C, ys, hk, rfl, rfl, hmk, hrel⟩ := hrel
  have HC := Lib.hid hrel.out.1
  have S4 := Lib.hid hrel.out.2
  clear hrel S3
  by_cases hlt : (k : Int) < (N : Int)
  ·
   skip
   have hkl : k < xs.length := by have := HN.out; omega
   obtain ⟨ad, x, rfl, hx⟩ := readsI_some (HR.out _ S4.out.old) k hkl
   obtain ⟨⟨kd, n, t⟩, ia, ic, l⟩ := x
   have HK := Lib.hid (fun w' (h : Below w.heap.size w w') => readsI_at (HR.out _ h) k _ hx)
   try dsimp only at HK
   have HFI := Lib.hid (fit_at HF.out hx)
   try dsimp only [LI.con] at HFI
   have HCI := Lib.hid (fun w' (h : Below w.heap.size w w') => copyItem_any kd n t ia ic l HFI.out.len w' (((HX.out _ h).at_ (rowsI_mem hx)).reads))
   try dsimp only at HCI
   have HPX := fun w' (h : Below w.heap.size w w') => HP.out _ (List.mem_of_getElem? hx) w' h
   obtain ⟨b, hb⟩ : ∃ b, f (⟨⟨kd, n, t⟩, l⟩ : It) = b := ⟨_, rfl⟩
   unfold LI.con at HPX
   dsimp only at HPX
   rw [hb] at HPX
   replace HPX := Lib.hid HPX
   have HT := Lib.hid (filt_take (f := f) (show (conI xs)[k]? = some (⟨⟨kd, n, t⟩, l⟩ : It) from con_of hx))
   have HB := Lib.hid hb
   clear hx hb
   obtain ⟨f0, f1, f2⟩ := Bag.cs3 S4.out 0 rfl
   obtain ⟨f3, f4, f5, f6⟩ := HK.out _ S4.out.old
   go_upto_region 5 with fail
   clear f0 f1 f2 f3 f4 f5 f6
   have S5 := Lib.hid (show Sl.Sep w _ [_, _, _, _] from L4.push_box S4.out 135 #[.int .i64 kd, .int .i64 n, .string t, .slice ia l.length ic] wr.heap.size rfl)
   clear S4
   obtain ⟨g2, hg⟩ : ∃ g', g' = wr.heap.size := ⟨_, rfl⟩
   rw [← hg] at S5 ⊢
   clear hg
   generalize wr.alloc (.cells #[.int .i64 kd, .int .i64 n, .string t, .slice ia l.length ic] 135) = w2 at S5 ⊢
   obtain ⟨f0, f1, f2⟩ := Bag.cs3 S5.out 0 rfl
   obtain ⟨f3, f4, f5, f6⟩ := Bag.cs4 S5.out 3 rfl
   obtain ⟨f7, f8, f9, f10⟩ := HK.out _ S5.out.old
   go_wp2_with fail
   go_at_call 195
   refine (HPX.out _ S5.out.old).mono ?_
   rintro e w3 ⟨rfl, hb⟩
   clear f0 f1 f2 f3 f4 f5 f6 f7 f8 f9 f10
   have S6 := Lib.hid (S5.out.keep hb)
   clear S5
   clear hb
   obtain ⟨f0, f1, f2⟩ := Bag.cs3 S6.out 0 rfl
   obtain ⟨f3, f4, f5, f6⟩ := Bag.cs4 S6.out 3 rfl
   obtain ⟨f7, f8, f9, f10⟩ := HK.out _ S6.out.old
   cases b with
   | false =>
    clear f0 f1 f2 f3 f4 f5 f6 f7 f8 f9 f10
    have S7 := Lib.hid (show Sl.Sep w _ [L4.boxR w.heap.size 70 #[.string name, .slice (some ad) N c, .int .i64 auto], Sv.ownV 135 4 A C m (cellsI ys), Bag.bag (rowsI ys)] from Bag.take S6.out [0, 1, 2] (by rfl) (by decide))
    clear S6
    go_wp2_with fail
    go_roundw
    case rel => exact ⟨k + 1, m, A, C, ys, by omega, by go_num, rfl, by omega, And.intro ⟨HC.out.1, by rw [HT.out, HB.out, HC.out.2]; simp⟩ S7.out⟩
    case measure => simp [intOf]; omega
   | true =>
    go_wp2_with fail
    go_at_call 105
    refine (HCI.out _ S6.out.old).mono ?_
    rintro e w4 ⟨a1, c1, rfl, ho, hb⟩
    clear f0 f1 f2 f3 f4 f5 f6 f7 f8 f9 f10
    have S7 := Lib.hid (show Sl.Sep w _ [L4.boxR w.heap.size 70 #[.string name, .slice (some ad) N c, .int .i64 auto], Sv.ownV 135 4 A C m (cellsI ys), Bag.bag (rowsI ys), L4.boxR g2 135 #[.int .i64 kd, .int .i64 n, .string t, .slice ia l.length ic], Bag.bag ([(LI.mk ⟨kd, n, t⟩ a1 c1 l).row])] from Bag.push_bag S6.out hb ho)
    clear S6
    clear hb ho
    obtain ⟨f0, f1, f2⟩ := Bag.cs3 S7.out 0 rfl
    obtain ⟨f3, f4, f5, f6⟩ := Bag.cs4 S7.out 3 rfl
    obtain ⟨f7, f8, f9, f10⟩ := HK.out _ S7.out.old
    have S8 := Lib.hid (show Sl.Sep w _ [_, _, _, _, _, Sv.ownV 135 4 (some ⟨w4.heap.size, 0, none⟩) 1 1 (cellsI [⟨⟨kd, n, t⟩, a1, c1, l⟩])] from Sv.push_own S7.out ((Below.refl _ _).alloc (Nat.le_refl _) _) (OwnV.madeAt w4 135 4 1 w4.heap.size #[.int .i64 kd, .int .i64 n, .string t, .slice a1 l.length c1] rfl (Nat.le_refl _) rfl (by decide)))
    clear S7
    go_wp2_with (at_builtin; refine L5.wpList_append_v S8.out 1 rfl rfl _ _ 68 (by rfl) i0 (.agg #[.int .i64 0, .int .i64 0, .string ⟨#[]⟩, .slice none 0 0]) 56 Tryz.underlying68 HI.out.1 HI.out.2.1 HI.out.2.2.1 HI.out.2.2.2 rfl (by omega) _ (by rfl) rfl _ _ 1 _ _ (cellsI [⟨⟨kd, n, t⟩, a1, c1, l⟩]) (by rfl) rfl (Sv.own_at S8.out 5 rfl).reads rfl (cellsI_one _) (by unfold maxLen; omega) (by omega) ?_; intro a3' c3' w5 hA)
    have S9 := Lib.hid (show Sl.Sep w _ [_, Sv.ownV 135 4 a3' c3' (m + 1) (cellsI ys ++ (cellsI [⟨⟨kd, n, t⟩, a1, c1, l⟩])), _, _, _, _] from hA)
    clear S8
    clear hA
    clear f0 f1 f2 f3 f4 f5 f6 f7 f8 f9 f10
    have S10 := Lib.hid (show Sl.Sep w _ [_, _, Bag.bag (rowsI ys ++ ([(LI.mk ⟨kd, n, t⟩ a1 c1 l).row])), _, Bag.bag ([]), _] from Bag.bag_join S9.out 2 4 (by decide) rfl rfl)
    clear S9
    have S11 := Lib.hid (show Sl.Sep w _ [_, _, _] from Bag.take S10.out [0, 1, 2] (by rfl) (by decide))
    clear S10
    go_roundw
    case rel =>
     refine ⟨k + 1, m + 1, a3', c3', ys ++ [⟨⟨kd, n, t⟩, a1, c1, l⟩], by omega, by go_num, rfl, by omega, And.intro ⟨?_, ?_⟩ ?_⟩
     ·
      rw [List.length_append, ← HC.out.1]; rfl
     ·
      rw [HT.out, HB.out, conI_snoc, HC.out.2]; rfl
     ·
      rw [cellsI_append, rowsI_append]; exact S11.out
    case measure => simp [intOf]; omega
  ·
   skip
   obtain ⟨f0, f1, f2⟩ := Bag.cs3 S4.out 0 rfl
   go_wp2_with fail
   go_ret
   obtain rfl : k = N := by omega
   obtain ⟨hm, hc⟩ := HC.out
   rw [List.take_of_length_le (show (conI xs).length ≤ k by have := HN.out; simp; omega)] at hc
   subst hm
   have S90 := Lib.hid (Bag.bag_of_one S4.out 1 (r := rowI A C ys) rfl)
   have S91 := Lib.hid (Bag.bag_join S90.out 1 2 (by decide) rfl rfl)
   exact ⟨A, C, ys, rfl, hc, Bag.bag_from S91.out 1 rfl, S91.out.old⟩
set_option maxHeartbeats 4000000 in
theorem numberIn_any (kd n : Int) (t : ByteArray) (ia : Option Addr) (ic : Nat) (l : List F) (f : ByteArray) (hl : l.length ≤ 1048576) (w : World) (hr : Reads w w.heap.size ia (cellsF l)) :
  Calls Tryz.prog 171 #[.agg #[.int .i64 kd, .int .i64 n, .string t, .slice ia l.length ic], .string f] w fun e w' => e = .returned (.int .i64 (getN l f.data.toList)) ∧ Below w.heap.size w w' := by
 have HGF := fun w' (h : Below w.heap.size w w') => L5.getField_any ia ic l f (by omega) w' ((hr.below h).more h.size)
 obtain ⟨fn, hfn⟩ : ∃ u, getN l f.data.toList = u := ⟨_, rfl⟩
 obtain ⟨fb, hfb⟩ : ∃ u, getB l f.data.toList = u := ⟨_, rfl⟩
 rw [hfn, hfb] at HGF
 replace HGF := Lib.hid HGF
 obtain ⟨N, hN⟩ : ∃ n, n = l.length := ⟨_, rfl⟩
 rw [← hN] at HGF ⊢
 clear hN hr
 rw [hfn]
 clear hfn hfb
 have S1 := Lib.hid (show Sl.Sep w _ [_] from L4.push_box (Sl.Sep.start w) 135 #[.int .i64 kd, .int .i64 n, .string t, .slice ia N ic] (w.heap.size) (by simp))
 obtain ⟨wa, hwa⟩ : ∃ u, u = (w.alloc (.cells #[.int .i64 kd, .int .i64 n, .string t, .slice ia N ic] 135)) := ⟨_, rfl⟩
 rw [← hwa] at S1
 go_enter Tryz.func171, Tryz.ntmps171
 go_upto_region 1 with fail
 rw [← hwa]
 clear hwa
 obtain ⟨f0, f1, f2, f3⟩ := Bag.cs4 S1.out 0 rfl
 go_wp2_with fail
 go_at_call 196
 refine (HGF.out _ S1.out.old).mono ?_
 rintro e w1 ⟨rfl, hb⟩
 clear f0 f1 f2 f3
 have S2 := Lib.hid (S1.out.keep hb)
 clear S1
 clear hb
 obtain ⟨f0, f1, f2, f3⟩ := Bag.cs4 S2.out 0 rfl
 go_wp2_with fail
 go_ret
 exact ⟨rfl, S2.out.old⟩
set_option maxHeartbeats 4000000 in
theorem indexOn1_any (kd n : Int) (t : ByteArray) (ia : Option Addr) (ic : Nat) (l : List F) (f : ByteArray) (hl : l.length ≤ 1048576) (g : Nat) (w : World) (hr : Reads w w.heap.size ia (cellsF l)) (hg : g < w.heap.size) (h0 : w.cell? ⟨g, 0, none⟩ = some (.string f)) :
  Calls Tryz.prog 195 #[.agg #[.int .i64 kd, .int .i64 n, .string t, .slice ia l.length ic], .pointer (some ⟨g, 0, none⟩)] w fun e w' => e = .returned (.bool (getB l f.data.toList)) ∧ Below w.heap.size w w' := by
 have HGF := fun w' (h : Below w.heap.size w w') => L5.getField_any ia ic l f (by omega) w' ((hr.below h).more h.size)
 obtain ⟨fn, hfn⟩ : ∃ u, getN l f.data.toList = u := ⟨_, rfl⟩
 obtain ⟨fb, hfb⟩ : ∃ u, getB l f.data.toList = u := ⟨_, rfl⟩
 rw [hfn, hfb] at HGF
 replace HGF := Lib.hid HGF
 obtain ⟨N, hN⟩ : ∃ n, n = l.length := ⟨_, rfl⟩
 rw [← hN] at HGF ⊢
 clear hN hr
 rw [hfb]
 clear hfn hfb
 have HK := Lib.hid (fun w' (h : Below w.heap.size w w') => (h.cell (p := ⟨g, 0, none⟩) hg).trans h0)
 clear h0
 have S1 := Lib.hid (show Sl.Sep w _ [_] from L4.push_box (Sl.Sep.start w) 135 #[.int .i64 kd, .int .i64 n, .string t, .slice ia N ic] (w.heap.size) (by simp))
 obtain ⟨wa, hwa⟩ : ∃ u, u = (w.alloc (.cells #[.int .i64 kd, .int .i64 n, .string t, .slice ia N ic] 135)) := ⟨_, rfl⟩
 rw [← hwa] at S1
 go_enter Tryz.func195, Tryz.ntmps195
 go_upto_region 1 with fail
 rw [← hwa]
 clear hwa
 obtain ⟨f0, f1, f2, f3⟩ := Bag.cs4 S1.out 0 rfl
 have f4 : World.cell? _ ⟨g, 0, none⟩ = some (.string f) := (And.intro (HK.out _ S1.out.old) trivial).1
 go_wp2_with fail
 go_at_call 196
 refine (HGF.out _ S1.out.old).mono ?_
 rintro e w1 ⟨rfl, hb⟩
 clear f0 f1 f2 f3 f4
 have S2 := Lib.hid (S1.out.keep hb)
 clear S1
 clear hb
 obtain ⟨f0, f1, f2, f3⟩ := Bag.cs4 S2.out 0 rfl
 have f4 : World.cell? _ ⟨g, 0, none⟩ = some (.string f) := (And.intro (HK.out _ S2.out.old) trivial).1
 go_wp2_with fail
 go_ret
 exact ⟨rfl, S2.out.old⟩
def cmp3 (x y : Int) : Int := if x < y then -1 else if y < x then 1 else 0
theorem cmpInt3_any (x y : Int) (w : World) :
  Calls Tryz.prog 167 #[.int .i64 x, .int .i64 y] w fun e w' => e = .returned (.int .i64 (cmp3 x y)) ∧ w = w' := by
 have H := Lib.hid L4.isNaN_any
 rcases (show x < y ∨ (¬ x < y ∧ x > y) ∨ (¬ x < y ∧ ¬ x > y) by omega) with h | ⟨h, h2⟩ | ⟨h, h2⟩
 all_goals
  go_enter Tryz.func167, Tryz.ntmps167
  go_wp2_with (go_at_call 192; refine (H.out _ _).mono ?_; rintro e w1 ⟨rfl, rfl⟩)
  go_ret
  exact ⟨by unfold cmp3; simp_all <;> omega, rfl⟩
set_option maxHeartbeats 2000000 in
theorem cmpOr_any (g : Nat) (u v : Int) (w : World) (h0 : w.cell? ⟨g, 0, none⟩ = some (.int .i64 u)) (h1 : w.cell? ⟨g, 1, none⟩ = some (.int .i64 v)) :
  Calls Tryz.prog 199 #[.slice (some ⟨g, 0, none⟩) 2 2] w fun e w' => e = .returned (.int .i64 (if u = 0 then v else u)) ∧ w = w' := by
 by_cases hu : u = 0
 ·
  by_cases hv : v = 0
  ·
   go_enter Tryz.func199, Tryz.ntmps199
   go_wp2
   refine wp_loop_rounds 3 ?_
   iterate 3 (rw [rounds_succ]; go_wp2)
   go_ret
   exact ⟨by simp [hu, hv], rfl⟩
  ·
   go_enter Tryz.func199, Tryz.ntmps199
   go_wp2
   refine wp_loop_rounds 3 ?_
   iterate 2 (rw [rounds_succ]; go_wp2)
   go_ret
   exact ⟨by simp [hu], rfl⟩
 ·
  go_enter Tryz.func199, Tryz.ntmps199
  go_wp2
  refine wp_loop_rounds 3 ?_
  iterate 1 (rw [rounds_succ]; go_wp2)
  go_ret
  exact ⟨by simp [hu], rfl⟩
set_option maxHeartbeats 8000000 in
theorem indexOn2_any (d1 n1 d2 n2 : Int) (t1 t2 : ByteArray) (a1 a2 : Option Addr) (c1 c2 : Nat) (l1 l2 : List F) (f : ByteArray) (g : Nat) (ht1 : t1.size ≤ 1099511627776) (ht2 : t2.size ≤ 1099511627776) (hl1 : l1.length ≤ 1048576) (hl2 : l2.length ≤ 1048576) (w : World) (hr1 : Reads w w.heap.size a1 (cellsF l1)) (hr2 : Reads w w.heap.size a2 (cellsF l2)) (hg : g < w.heap.size) (h0 : w.cell? ⟨g, 0, none⟩ = some (.string f)) :
  Calls Tryz.prog 198 #[.agg #[.int .i64 d1, .int .i64 n1, .string t1, .slice a1 l1.length c1], .agg #[.int .i64 d2, .int .i64 n2, .string t2, .slice a2 l2.length c2], .pointer (some ⟨g, 0, none⟩)] w fun e w' => e = .returned (.bool (less7 f.data.toList ⟨⟨d1, n1, t1⟩, l1⟩ ⟨⟨d2, n2, t2⟩, l2⟩)) ∧ Below w.heap.size w w' := by
 have HR1 := fun w' (h : Below w.heap.size w w') => numberIn_any d1 n1 t1 a1 c1 l1 f hl1 w' ((hr1.below h).more h.size)
 have HR2 := fun w' (h : Below w.heap.size w w') => numberIn_any d2 n2 t2 a2 c2 l2 f hl2 w' ((hr2.below h).more h.size)
 have HCK := fun w => L4.implCompareKeys_any ⟨d1, n1, t1⟩ ⟨d2, n2, t2⟩ (by show t1.size ≤ _; omega) (by show t2.size ≤ _; omega) w
 obtain ⟨na, hna⟩ : ∃ u, getN l1 f.data.toList = u := ⟨_, rfl⟩
 obtain ⟨nb, hnb⟩ : ∃ u, getN l2 f.data.toList = u := ⟨_, rfl⟩
 obtain ⟨m, hm⟩ : ∃ u, cmpK ⟨d1, n1, t1⟩ ⟨d2, n2, t2⟩ = u := ⟨_, rfl⟩
 obtain ⟨cv, hcv⟩ : ∃ u, cmp3 na nb = u := ⟨_, rfl⟩
 obtain ⟨z, hz⟩ : ∃ u, (if cv = 0 then m else cv) = u := ⟨_, rfl⟩
 have HE : less7 f.data.toList ⟨⟨d1, n1, t1⟩, l1⟩ ⟨⟨d2, n2, t2⟩, l2⟩ = decide (z < 0) := by
  unfold less7; dsimp only; rw [hna, hnb, hm, ← hz, ← hcv]; unfold cmp3
  by_cases h1 : na < nb
  ·
   simp [h1]
  ·
   by_cases h2 : nb < na
   ·
    have h3 : ¬ na = nb := by omega
    simp [h1, h2, h3]
   ·
    have h3 : na = nb := by omega
    simp [h3]
 rw [HE]
 rw [hna] at HR1
 rw [hnb] at HR2
 rw [hm] at HCK
 replace HR1 := Lib.hid HR1
 replace HR2 := Lib.hid HR2
 replace HCK := Lib.hid HCK
 dsimp only [L4.K.v] at HCK
 have HC3 := fun w => cmpInt3_any na nb w
 rw [hcv] at HC3
 replace HC3 := Lib.hid HC3
 have HOR := fun g w h0 h1 => cmpOr_any g cv m w h0 h1
 rw [hz] at HOR
 replace HOR := Lib.hid HOR
 have HK := Lib.hid (fun w' (h : Below w.heap.size w w') => (h.cell (p := ⟨g, 0, none⟩) hg).trans h0)
 obtain ⟨N1, hN1⟩ : ∃ n, n = l1.length := ⟨_, rfl⟩
 obtain ⟨N2, hN2⟩ : ∃ n, n = l2.length := ⟨_, rfl⟩
 rw [← hN1] at HR1 ⊢
 rw [← hN2] at HR2 ⊢
 clear h0 hna hnb hm hcv hz HE hr1 hr2 hN1 hN2
 have S1 := Lib.hid (show Sl.Sep w _ [_, _] from L4.push_box (L4.push_box (Sl.Sep.start w) 135 #[.int .i64 d1, .int .i64 n1, .string t1, .slice a1 N1 c1] (w.heap.size) (by simp)) 135 #[.int .i64 d2, .int .i64 n2, .string t2, .slice a2 N2 c2] (w.heap.size + 1) (by simp))
 obtain ⟨wa, hwa⟩ : ∃ u, u = ((w.alloc (.cells #[.int .i64 d1, .int .i64 n1, .string t1, .slice a1 N1 c1] 135)).alloc (.cells #[.int .i64 d2, .int .i64 n2, .string t2, .slice a2 N2 c2] 135)) := ⟨_, rfl⟩
 rw [← hwa] at S1
 go_enter Tryz.func198, Tryz.ntmps198
 go_upto_region 1 with fail
 rw [← hwa]
 clear hwa
 obtain ⟨f0, f1, f2, f3⟩ := Bag.cs4 S1.out 0 rfl
 obtain ⟨f4, f5, f6, f7⟩ := Bag.cs4 S1.out 1 rfl
 have f8 : World.cell? _ ⟨g, 0, none⟩ = some (.string f) := (And.intro (HK.out _ S1.out.old) trivial).1
 clear f0 f1 f2 f3 f4 f5 f6 f7 f8
 refine wp_region_held_drew (S := (fun w' => (w'.cell? ⟨w.heap.size, 0, none⟩ = some (.int .i64 d1) ∧ w'.cell? ⟨w.heap.size, 1, none⟩ = some (.int .i64 n1) ∧ w'.cell? ⟨w.heap.size, 2, none⟩ = some (.string t1) ∧ w'.cell? ⟨w.heap.size, 3, none⟩ = some (.slice a1 N1 c1)) ∧ (w'.cell? ⟨w.heap.size + 1, 0, none⟩ = some (.int .i64 d2) ∧ w'.cell? ⟨w.heap.size + 1, 1, none⟩ = some (.int .i64 n2) ∧ w'.cell? ⟨w.heap.size + 1, 2, none⟩ = some (.string t2) ∧ w'.cell? ⟨w.heap.size + 1, 3, none⟩ = some (.slice a2 N2 c2)) ∧ w'.cell? ⟨g, 0, none⟩ = some (.string f))) (by kernel_rfl) ⟨Bag.cs4 (Bag.drew1 S1.out) 0 rfl, Bag.cs4 (Bag.drew1 S1.out) 1 rfl, (And.intro (HK.out _ (Bag.drew1 S1.out).old) trivial).1⟩ (fun hS => ?_)
 have S2 := Lib.hid (Bag.drew1 S1.out)
 clear S1
 generalize World.drew _ = w1 at hS S2 ⊢
 refine tk 0 rfl ?_
 try simp only [zp0, zp1, zp2, zp3, zp4]
 refine tk 1 rfl ?_
 try simp only [zp0, zp1, zp2, zp3, zp4]
 refine tk 3 rfl ?_
 try simp only [zp0, zp1, zp2, zp3, zp4]
 refine tk 4 rfl ?_
 try simp only [zp0, zp1, zp2, zp3, zp4]
 refine tk 7 rfl ?_
 try simp only [zp0, zp1, zp2, zp3, zp4]
 refine tk 8 rfl ?_
 try simp only [zp0, zp1, zp2, zp3, zp4]
 refine tk 9 rfl ?_
 try simp only [zp0, zp1, zp2, zp3, zp4]
 refine tk 10 rfl ?_
 try simp only [zp0, zp1, zp2, zp3, zp4]
 refine Reg.one_op (i := 2) rfl (by kernel_rfl) (fun K hK => ?_)
 go_simp
 go_at_call 171
 refine (HR1.out _ S2.out.old).mono ?_
 rintro e w2 ⟨rfl, hb⟩
 have S3 := Lib.hid (S2.out.keep hb)
 clear S2
 clear hb
 go_wp2_with fail
 refine hK.out _ _ ⟨Bag.cs4 S3.out 0 rfl, Bag.cs4 S3.out 1 rfl, (And.intro (HK.out _ S3.out.old) trivial).1⟩ (fun hS => ?_)
 clear hK K
 try simp only [zp0, zp1, zp2, zp3, zp4]
 refine Reg.one_op (i := 5) rfl (by kernel_rfl) (fun K hK => ?_)
 go_simp
 go_at_call 171
 refine (HR2.out _ S3.out.old).mono ?_
 rintro e w3 ⟨rfl, hb⟩
 have S4 := Lib.hid (S3.out.keep hb)
 clear S3
 clear hb
 go_wp2_with fail
 refine hK.out _ _ ⟨Bag.cs4 S4.out 0 rfl, Bag.cs4 S4.out 1 rfl, (And.intro (HK.out _ S4.out.old) trivial).1⟩ (fun hS => ?_)
 clear hK K
 try simp only [zp0, zp1, zp2, zp3, zp4]
 refine Reg.one_op (i := 6) rfl (by kernel_rfl) (fun K hK => ?_)
 go_simp
 go_at_call 167
 refine (HC3.out _).mono ?_
 rintro e w4 ⟨rfl, rfl⟩
 go_wp2_with fail
 refine hK.out _ _ ⟨Bag.cs4 S4.out 0 rfl, Bag.cs4 S4.out 1 rfl, (And.intro (HK.out _ S4.out.old) trivial).1⟩ (fun hS => ?_)
 clear hK K
 try simp only [zp0, zp1, zp2, zp3, zp4]
 refine Reg.one_op (i := 11) rfl (by kernel_rfl) (fun K hK => ?_)
 go_simp
 go_at_call 139
 refine (HCK.out _).mono ?_
 rintro e w5 ⟨rfl, hb⟩
 have S5 := Lib.hid (S4.out.keep hb)
 clear S4
 clear hb
 go_wp2_with fail
 refine hK.out _ _ ⟨Bag.cs4 S5.out 0 rfl, Bag.cs4 S5.out 1 rfl, (And.intro (HK.out _ S5.out.old) trivial).1⟩ (fun hS => ?_)
 clear hK K
 try simp only [zp0, zp1, zp2, zp3, zp4]
 refine Reg.one_op (i := 12) rfl (by kernel_rfl) (fun K hK => ?_)
 go_simp
 have S6 := Lib.hid (show Sl.Sep w _ [_, _, _] from L4.push_box S5.out 3 #[.int .i64 cv, .int .i64 m] w5.heap.size rfl)
 clear S5
 obtain ⟨g1, hg⟩ : ∃ g', g' = w5.heap.size := ⟨_, rfl⟩
 rw [← hg] at S6 ⊢
 clear hg
 generalize w5.alloc (.cells #[.int .i64 cv, .int .i64 m] 3) = w6 at S6 ⊢
 refine hK.out _ _ ⟨Bag.cs4 S6.out 0 rfl, Bag.cs4 S6.out 1 rfl, (And.intro (HK.out _ S6.out.old) trivial).1⟩ (fun hS => ?_)
 clear hK K
 try simp only [zp0, zp1, zp2, zp3, zp4]
 refine Reg.one_op (i := 13) rfl (by kernel_rfl) (fun K hK => ?_)
 go_simp
 go_at_call 199
 refine (HOR.out _ _ (Bag.cell_at S6.out 2 rfl 0 rfl) (Bag.cell_at S6.out 2 rfl 1 rfl)).mono ?_
 rintro e w7 ⟨rfl, rfl⟩
 go_wp2_with fail
 refine hK.out _ _ ⟨Bag.cs4 S6.out 0 rfl, Bag.cs4 S6.out 1 rfl, (And.intro (HK.out _ S6.out.old) trivial).1⟩ (fun hS => ?_)
 clear hK K
 try simp only [zp0, zp1, zp2, zp3, zp4]
 refine tk 14 rfl ?_
 try simp only [zp0, zp1, zp2, zp3, zp4]
 refine tk 15 rfl ?_
 try simp only [zp0, zp1, zp2, zp3, zp4]
 refine wpAnyH_done (by kernel_rfl) ?_ _
 obtain ⟨f0, f1, f2, f3⟩ := Bag.cs4 S6.out 0 rfl
 obtain ⟨f4, f5, f6, f7⟩ := Bag.cs4 S6.out 1 rfl
 obtain ⟨f8, f9⟩ := Bag.cs2 S6.out 2 rfl
 have f10 : World.cell? _ ⟨g, 0, none⟩ = some (.string f) := (And.intro (HK.out _ S6.out.old) trivial).1
 go_wp2_with fail
 go_ret
 exact ⟨rfl, S6.out.old⟩
end Go.Proofs.YthljdhfgphebnaaGreat.L7

namespace Go.Proofs.YthljdhfgphebnaaGreat.L7
open L4 (K isK cmpK R inR encU)
open L5 (F isR isN cellsF encR eqR Small getO getN getB)
open L6
open Go.ChangeShapes Go.WideShapes Go.ChangeAt Go.RowKit Mem Sl Ex L2 Sv Bag

theorem rowsI_mem' {xs : List LI} {x : LI} (h : x ∈ xs) : x.row ∈ rowsI xs := List.mem_map.2 ⟨x, h, rfl⟩
end Go.Proofs.YthljdhfgphebnaaGreat.L7

set_option linter.unusedSimpArgs false
namespace Go.Proofs.YthljdhfgphebnaaGreat.L7
open L4 (K isK cmpK R inR encU)
open L5 (F isR isN cellsF encR eqR Small getO getN getB)
open L6
open Go.ChangeShapes Go.WideShapes Go.ChangeAt Go.RowKit Mem Sl Ex L2 Sv Bag

def Prec (Fn gc g : Nat) (t : List UInt8) (ys : List LI) (w : World) : Prop :=
 ∀ a ∈ ys, ∀ b ∈ ys, ∀ w', Turned [g] w w' → Calls Tryz.prog Fn #[.agg #[.int .i64 a.k.kind, .int .i64 a.k.n, .string a.k.text, .slice a.a a.l.length a.c], .agg #[.int .i64 b.k.kind, .int .i64 b.k.n, .string b.k.text, .slice b.a b.l.length b.c], .pointer (some ⟨gc, 0, none⟩)] w' fun e w'' => e = .returned (.bool (less7 t a.con b.con)) ∧ Below w'.heap.size w' w''
theorem four_at {w : World} {B g : Nat} {zs : List LI} (h : Reads w B (some ⟨g, 0, none⟩) (cellsI zs)) (q : Nat) (x : LI) (hx : zs[q]? = some x) :
  w.cell? ⟨g, q * 4, none⟩ = some (.int .i64 x.k.kind) ∧ w.cell? ⟨g, q * 4 + 1, none⟩ = some (.int .i64 x.k.n) ∧ w.cell? ⟨g, q * 4 + 2, none⟩ = some (.string x.k.text) ∧ w.cell? ⟨g, q * 4 + 3, none⟩ = some (.slice x.a x.l.length x.c) := by
 have h2 := readsI_at h q x hx
 simp only [Addr.add_lit, Nat.zero_add] at h2
 exact h2
theorem cells_swap1 {srt R : List LI} {q : Nat} {y x : LI} (hy : srt[q]? = some y) : cellsI (srt.take (q + 1) ++ x :: (srt.drop (q + 1) ++ R)) = cellsI (srt.take q) ++ (cellsI [y] ++ (cellsI [x] ++ cellsI (srt.drop (q + 1) ++ R))) := by
 obtain ⟨hq, rfl⟩ := List.getElem?_eq_some_iff.1 hy
 rw [List.take_succ_eq_append_getElem hq, ← cellsI_append, ← cellsI_append, ← cellsI_append]
 congr 1
 simp only [List.append_assoc, List.singleton_append, List.cons_append, List.nil_append]
theorem cells_swap2 {srt R : List LI} {q : Nat} {y x : LI} (hy : srt[q]? = some y) : cellsI (srt.take q ++ x :: (srt.drop q ++ R)) = (cellsI (srt.take q) ++ cellsI [x]) ++ (cellsI [y] ++ cellsI (srt.drop (q + 1) ++ R)) := by
 obtain ⟨hq, rfl⟩ := List.getElem?_eq_some_iff.1 hy
 rw [List.drop_eq_getElem_cons hq, ← cellsI_append, ← cellsI_append, ← cellsI_append]
 congr 1
 simp only [List.append_assoc, List.singleton_append, List.cons_append, List.nil_append]
def srtI (t : List UInt8) (xs : List It) : List It := xs.foldl (insX t) []
theorem srtI_take {xs : List It} {t : List UInt8} {k : Nat} {x : It} (h : xs[k]? = some x) : srtI t (xs.take (k + 1)) = insX t (srtI t (xs.take k)) x := by
 obtain ⟨hk, rfl⟩ := List.getElem?_eq_some_iff.1 h
 unfold srtI
 rw [List.take_succ_eq_append_getElem hk, List.foldl_append]
 rfl
theorem idx_srt (xs : List It) (t : List UInt8) : idxI xs t = srtI t (xs.filter fun x => getB x.l t) := by
 unfold idxI srtI
 rw [List.foldl_filter]
 rfl
theorem conI_ins7 (srt : List LI) (x : LI) (j : Nat) : conI (srt.take j ++ x :: srt.drop j) = (conI srt).take j ++ x.con :: (conI srt).drop j := by
 simp [conI, List.map_take, List.map_drop]
theorem perm_ins (srt : List LI) (x : LI) (j : Nat) (R ys : List LI) (h : (srt ++ x :: R).Perm ys) : (srt.take j ++ x :: srt.drop j ++ R).Perm ys := by
 refine List.Perm.trans ?_ h
 have h1 : (srt.take j ++ x :: srt.drop j).Perm (x :: srt) := by
  have h2 := List.perm_middle (a := x) (l₁ := srt.take j) (l₂ := srt.drop j)
  rwa [List.take_append_drop] at h2
 have h3 : (srt ++ x :: R).Perm (x :: (srt ++ R)) := List.perm_middle
 exact (h1.append_right R).trans h3.symm

set_option maxHeartbeats 8000000 in
theorem sort_any (g gc c : Nat) (ft : List UInt8) (ys : List LI) (hl : ys.length ≤ 1048576) (W w : World) (S : Sl.Sep W w [Sv.ownV 135 4 (some ⟨g, 0, none⟩) c ys.length (cellsI ys), Run.restR W w g]) (hp : Prec 198 gc g ft ys w) :
  Calls Tryz.prog 197 #[.slice (some ⟨g, 0, none⟩) ys.length c, .func (.func 198) #[] #[.pointer (some ⟨gc, 0, none⟩)]] w fun e w' => ∃ zs, e = .returned (.tuple #[]) ∧ zs.Perm ys ∧ conI zs = srtI ft (conI ys) ∧ Sl.Sep W w' [Sv.ownV 135 4 (some ⟨g, 0, none⟩) c ys.length (cellsI zs), Run.restR W w g] := by
 obtain ⟨i0, hi1, hi2, hi3, hi4⟩ := itemInfo
 have HI := Lib.hid (And.intro hi1 (And.intro hi2 (And.intro hi3 hi4)))
 clear hi1 hi2 hi3 hi4
 have HB0 := Lib.hid S.old
 have HP := Lib.hid hp
 obtain ⟨N, hN⟩ : ∃ n, n = ys.length := ⟨_, rfl⟩
 rw [← hN] at S hl
 have hl' : (N : Int) ≤ 1048576 := by omega
 have HN := Lib.hid hN
 have HCN := Lib.hid (Sv.own_at S 0 rfl).cap
 rw [← hN]
 have S1 := Lib.hid S
 clear hN S hp
 go_enter Tryz.func197, Tryz.ntmps197
 go_wp2_with fail
 go_loopw [8] (fun i wr => ∃ (k : Nat) (srt : List LI), k ≤ N ∧ i = .int .i64 k ∧ Hid ((srt.length = k ∧ conI srt = srtI ft ((conI ys).take k) ∧ (srt ++ ys.drop k).Perm ys) ∧ Sl.Sep W wr [Sv.ownV 135 4 (some ⟨g, 0, none⟩) c N (cellsI (srt ++ ys.drop k)), Run.restR W w g])) (fun i _ => N - (intOf i).toNat)
 case atStart => exact ⟨0, [], Nat.zero_le _, rfl, And.intro ⟨rfl, rfl, List.Perm.refl _⟩ S1.out⟩
 case round =>
  obtain ⟨k, srt, hk, rfl, hrel⟩ := hrel
  have HC := Lib.hid hrel.out.1
  have S2 := Lib.hid hrel.out.2
  clear hrel S1
  by_cases hlt : (k : Int) < (N : Int)
  ·
   skip
   have hkl : k < ys.length := by have := HN.out; omega
   obtain ⟨x, hx⟩ : ∃ x, x = ys[k] := ⟨_, rfl⟩
   have HX := Lib.hid (show ys[k]? = some x from by rw [hx]; exact List.getElem?_eq_getElem hkl)
   have HD := Lib.hid (show ys.drop k = x :: ys.drop (k + 1) from by rw [hx, List.drop_eq_getElem_cons hkl])
   have HMEM := Lib.hid (show x ∈ ys from by rw [hx]; exact List.getElem_mem hkl)
   have HXC := Lib.hid (show (conI ys)[k]? = some x.con from con_of HX.out)
   have HSL := Lib.hid HC.out.1
   have HPM := Lib.hid (show (srt ++ x :: ys.drop (k + 1)).Perm ys from by rw [← HD.out]; exact HC.out.2.2)
   have HSM := Lib.hid (fun y (h : y ∈ srt) => HPM.out.subset (List.mem_append_left _ h))
   clear hx
   obtain ⟨⟨kd, n, t⟩, ia, ic, l⟩ := x
   have S3 := Lib.hid (show Sl.Sep W _ [Sv.ownV 135 4 (some ⟨g, 0, none⟩) c N (cellsI (srt.take k ++ ⟨⟨kd, n, t⟩, ia, ic, l⟩ :: (srt.drop k ++ ys.drop (k + 1)))), Run.restR W w g] from (by have h := S2.out; rw [HD.out] at h; rw [List.take_of_length_le (Nat.le_of_eq HSL.out), List.drop_of_length_le (Nat.le_of_eq HSL.out)]; exact h))
   clear S2
   go_wp2_with fail
   go_loopw [5] (fun v wr2 => ∃ j : Nat, j ≤ k ∧ v = .int .i64 j ∧ Hid (backP ft (⟨⟨kd, n, t⟩, l⟩ : It) (conI srt) k = backP ft (⟨⟨kd, n, t⟩, l⟩ : It) (conI srt) j ∧ Sl.Sep W wr2 [Sv.ownV 135 4 (some ⟨g, 0, none⟩) c N (cellsI (srt.take j ++ ⟨⟨kd, n, t⟩, ia, ic, l⟩ :: (srt.drop j ++ ys.drop (k + 1)))), Run.restR W w g])) (fun v _ => (intOf v).toNat)
   case atStart => exact ⟨k, Nat.le_refl _, rfl, And.intro rfl S3.out⟩
   case round =>
    obtain ⟨j, hjk, rfl, hrel⟩ := hrel
    have HBP := Lib.hid hrel.out.1
    have S4 := Lib.hid hrel.out.2
    clear hrel S3
    by_cases hj0 : j = 0
    ·
     subst hj0
     go_upto_region 4 with fail
     refine wp_region_held_drew (S := (fun w' => True)) (by kernel_rfl) trivial (fun hS => ?_)
     have S5 := Lib.hid (Bag.drew1 S4.out)
     clear S4
     generalize World.drew _ = w1 at hS S5 ⊢
     refine tk 0 rfl ?_
     try simp only [zp0, zp1, zp2, zp3, zp4]
     refine tk 1 rfl ?_
     try simp only [zp0, zp1, zp2, zp3, zp4]
     refine tk 2 rfl ?_
     try simp only [zp0, zp1, zp2, zp3, zp4]
     refine sk 3 rfl ?_
     try simp only [zp0, zp1, zp2, zp3, zp4]
     refine sk 4 rfl ?_
     try simp only [zp0, zp1, zp2, zp3, zp4]
     refine sk 5 rfl ?_
     try simp only [zp0, zp1, zp2, zp3, zp4]
     refine sk 6 rfl ?_
     try simp only [zp0, zp1, zp2, zp3, zp4]
     refine sk 7 rfl ?_
     try simp only [zp0, zp1, zp2, zp3, zp4]
     refine sk 8 rfl ?_
     try simp only [zp0, zp1, zp2, zp3, zp4]
     refine sk 9 rfl ?_
     try simp only [zp0, zp1, zp2, zp3, zp4]
     refine sk 10 rfl ?_
     try simp only [zp0, zp1, zp2, zp3, zp4]
     refine sk 11 rfl ?_
     try simp only [zp0, zp1, zp2, zp3, zp4]
     refine sk 12 rfl ?_
     try simp only [zp0, zp1, zp2, zp3, zp4]
     refine Reg.skip_one (i := 13) rfl (by kernel_rfl) (by rfl) (by assumption) ?_
     try simp only [zp0, zp1, zp2, zp3, zp4]
     refine tk 14 rfl ?_
     try simp only [zp0, zp1, zp2, zp3, zp4]
     refine wpAnyH_done (by kernel_rfl) ?_ _
     have HBJ := Lib.hid (show backP ft (⟨⟨kd, n, t⟩, l⟩ : It) (conI srt) k = 0 from by rw [HBP.out]; rfl)
     go_wp2_with fail
     go_roundw
     case rel =>
      refine ⟨k + 1, srt.take 0 ++ ⟨⟨kd, n, t⟩, ia, ic, l⟩ :: srt.drop 0, by omega, by go_num, And.intro ⟨?_, ?_, ?_⟩ ?_⟩
      ·
       have := HSL.out; simp only [List.length_append, List.length_cons, List.length_take, List.length_drop]; omega
      ·
       rw [srtI_take HXC.out, ← HC.out.2.1, conI_ins7]; unfold insX; rw [conI_length, HSL.out, show backP ft (LI.con ⟨⟨kd, n, t⟩, ia, ic, l⟩) (conI srt) k = 0 from HBJ.out] <;> rfl
      ·
       exact perm_ins srt _ _ _ _ HPM.out
      ·
       rw [List.append_assoc, List.cons_append]; exact S5.out
     case measure => simp [intOf]; omega
    ·
     skip
     obtain ⟨q, rfl⟩ : ∃ q, j = q + 1 := ⟨j - 1, by omega⟩
     have hqs : q < srt.length := by have := HSL.out; omega
     skip
     obtain ⟨y, hy⟩ : ∃ y, srt[q]? = some y := ⟨_, List.getElem?_eq_getElem hqs⟩
     obtain ⟨⟨kd2, n2, t2⟩, ia2, ic2, l2⟩ := y
     have HY := Lib.hid hy
     have HYC := Lib.hid (show (conI srt)[q]? = some (⟨⟨kd2, n2, t2⟩, l2⟩ : It) from con_of hy)
     have HYM := Lib.hid (HSM.out _ (List.mem_of_getElem? hy))
     have HL1 := Lib.hid (show (srt.take (q + 1) ++ ⟨⟨kd, n, t⟩, ia, ic, l⟩ :: (srt.drop (q + 1) ++ ys.drop (k + 1)))[q + 1]? = some ⟨⟨kd, n, t⟩, ia, ic, l⟩ from by rw [List.getElem?_append_right (by rw [List.length_take]; omega)]; rw [show q + 1 - (srt.take (q + 1)).length = 0 by rw [List.length_take]; omega]; rfl)
     have HL2 := Lib.hid (show (srt.take (q + 1) ++ ⟨⟨kd, n, t⟩, ia, ic, l⟩ :: (srt.drop (q + 1) ++ ys.drop (k + 1)))[q]? = some ⟨⟨kd2, n2, t2⟩, ia2, ic2, l2⟩ from by rw [List.getElem?_append_left (by rw [List.length_take]; omega), List.getElem?_take, if_pos (Nat.lt_succ_self q)]; exact hy)
     clear hy
     have hsub : ((q + 1 : Nat) : Int) - 1 = (q : Int) := by omega
     have hi0 : 0 < ((q + 1 : Nat) : Int) := by omega
     have hqN : (q : Int) < (N : Int) := by omega
     have hqN1 : (q : Int) + 1 < (N : Int) := by omega
     have hq1 : (0 : Int) ≤ (q : Int) + 1 := by omega
     have hwr : IntKind.i64.wrap (q : Int) = (q : Int) := IntWalk.i64_in _ ⟨by omega, by omega⟩
     obtain ⟨b, hb⟩ : ∃ b, less7 ft (⟨⟨kd, n, t⟩, l⟩ : It) ⟨⟨kd2, n2, t2⟩, l2⟩ = b := ⟨_, rfl⟩
     go_upto_region 4 with fail
     refine wp_region_held_drew (S := (fun w' => w'.cell? ⟨g, (q + 1) * 4, none⟩ = some (.int .i64 kd) ∧ w'.cell? ⟨g, (q + 1) * 4 + 1, none⟩ = some (.int .i64 n) ∧ w'.cell? ⟨g, (q + 1) * 4 + 2, none⟩ = some (.string t) ∧ w'.cell? ⟨g, (q + 1) * 4 + 3, none⟩ = some (.slice ia l.length ic) ∧ w'.cell? ⟨g, q * 4, none⟩ = some (.int .i64 kd2) ∧ w'.cell? ⟨g, q * 4 + 1, none⟩ = some (.int .i64 n2) ∧ w'.cell? ⟨g, q * 4 + 2, none⟩ = some (.string t2) ∧ w'.cell? ⟨g, q * 4 + 3, none⟩ = some (.slice ia2 l2.length ic2))) (by kernel_rfl) ⟨(four_at (Sv.own_at (Bag.drew1 S4.out) 0 rfl).reads _ _ HL1.out).1, (four_at (Sv.own_at (Bag.drew1 S4.out) 0 rfl).reads _ _ HL1.out).2.1, (four_at (Sv.own_at (Bag.drew1 S4.out) 0 rfl).reads _ _ HL1.out).2.2.1, (four_at (Sv.own_at (Bag.drew1 S4.out) 0 rfl).reads _ _ HL1.out).2.2.2, (four_at (Sv.own_at (Bag.drew1 S4.out) 0 rfl).reads _ _ HL2.out).1, (four_at (Sv.own_at (Bag.drew1 S4.out) 0 rfl).reads _ _ HL2.out).2.1, (four_at (Sv.own_at (Bag.drew1 S4.out) 0 rfl).reads _ _ HL2.out).2.2.1, (four_at (Sv.own_at (Bag.drew1 S4.out) 0 rfl).reads _ _ HL2.out).2.2.2⟩ (fun hS => ?_)
     have S5 := Lib.hid (Bag.drew1 S4.out)
     clear S4
     generalize World.drew _ = w1 at hS S5 ⊢
     refine tk 0 rfl ?_
     try simp only [zp0, zp1, zp2, zp3, zp4]
     refine tk 1 rfl ?_
     try simp only [zp0, zp1, zp2, zp3, zp4]
     refine tk 2 rfl ?_
     try simp only [zp0, zp1, zp2, zp3, zp4]
     refine tk 3 rfl ?_
     try simp only [zp0, zp1, zp2, zp3, zp4]
     refine tk 4 rfl ?_
     try simp only [zp0, zp1, zp2, zp3, zp4]
     refine tk 5 rfl ?_
     try simp only [zp0, zp1, zp2, zp3, zp4]
     refine tk 6 rfl ?_
     try simp only [zp0, zp1, zp2, zp3, zp4]
     refine tk 7 rfl ?_
     try simp only [zp0, zp1, zp2, zp3, zp4]
     refine tk 8 rfl ?_
     try simp only [zp0, zp1, zp2, zp3, zp4]
     refine tk 9 rfl ?_
     try simp only [zp0, zp1, zp2, zp3, zp4]
     refine tk 10 rfl ?_
     try simp only [zp0, zp1, zp2, zp3, zp4]
     refine tk 11 rfl ?_
     try simp only [zp0, zp1, zp2, zp3, zp4]
     refine tk 12 rfl ?_
     try simp only [zp0, zp1, zp2, zp3, zp4]
     refine Reg.one_op (i := 13) rfl (by kernel_rfl) (fun K hK => ?_)
     have HLS := HP.out _ HMEM.out _ HYM.out w1 (Run.rest_turned HB0.out S5.out)
     unfold LI.con at HLS
     dsimp only at HLS
     rw [hb] at HLS
     go_simp
     go_at_call 198
     refine HLS.mono ?_
     clear HLS
     rintro e w2 ⟨rfl, hbw⟩
     have S6 := Lib.hid (S5.out.keep hbw)
     clear S5
     clear hbw
     go_wp2_with fail
     refine hK.out _ _ ⟨(four_at (Sv.own_at S6.out 0 rfl).reads _ _ HL1.out).1, (four_at (Sv.own_at S6.out 0 rfl).reads _ _ HL1.out).2.1, (four_at (Sv.own_at S6.out 0 rfl).reads _ _ HL1.out).2.2.1, (four_at (Sv.own_at S6.out 0 rfl).reads _ _ HL1.out).2.2.2, (four_at (Sv.own_at S6.out 0 rfl).reads _ _ HL2.out).1, (four_at (Sv.own_at S6.out 0 rfl).reads _ _ HL2.out).2.1, (four_at (Sv.own_at S6.out 0 rfl).reads _ _ HL2.out).2.2.1, (four_at (Sv.own_at S6.out 0 rfl).reads _ _ HL2.out).2.2.2⟩ (fun hS => ?_)
     clear hK K
     try simp only [zp0, zp1, zp2, zp3, zp4]
     refine tk 14 rfl ?_
     try simp only [zp0, zp1, zp2, zp3, zp4]
     refine wpAnyH_done (by kernel_rfl) ?_ _
     have f0 : World.cell? _ ⟨g, (q + 1) * 4, none⟩ = some (.int .i64 kd) := (four_at (Sv.own_at S6.out 0 rfl).reads _ _ HL1.out).1
     have f1 : World.cell? _ ⟨g, (q + 1) * 4 + 1, none⟩ = some (.int .i64 n) := (four_at (Sv.own_at S6.out 0 rfl).reads _ _ HL1.out).2.1
     have f2 : World.cell? _ ⟨g, (q + 1) * 4 + 2, none⟩ = some (.string t) := (four_at (Sv.own_at S6.out 0 rfl).reads _ _ HL1.out).2.2.1
     have f3 : World.cell? _ ⟨g, (q + 1) * 4 + 3, none⟩ = some (.slice ia l.length ic) := (four_at (Sv.own_at S6.out 0 rfl).reads _ _ HL1.out).2.2.2
     have f4 : World.cell? _ ⟨g, q * 4, none⟩ = some (.int .i64 kd2) := (four_at (Sv.own_at S6.out 0 rfl).reads _ _ HL2.out).1
     have f5 : World.cell? _ ⟨g, q * 4 + 1, none⟩ = some (.int .i64 n2) := (four_at (Sv.own_at S6.out 0 rfl).reads _ _ HL2.out).2.1
     have f6 : World.cell? _ ⟨g, q * 4 + 2, none⟩ = some (.string t2) := (four_at (Sv.own_at S6.out 0 rfl).reads _ _ HL2.out).2.2.1
     have f7 : World.cell? _ ⟨g, q * 4 + 3, none⟩ = some (.slice ia2 l2.length ic2) := (four_at (Sv.own_at S6.out 0 rfl).reads _ _ HL2.out).2.2.2
     cases b with
     | false =>
      have HBJ := Lib.hid (show backP ft (⟨⟨kd, n, t⟩, l⟩ : It) (conI srt) k = q + 1 from by rw [HBP.out]; exact backP_stop HYC.out hb)
      go_wp2_with fail
      go_roundw
      case rel =>
       refine ⟨k + 1, srt.take (q + 1) ++ ⟨⟨kd, n, t⟩, ia, ic, l⟩ :: srt.drop (q + 1), by omega, by go_num, And.intro ⟨?_, ?_, ?_⟩ ?_⟩
       ·
        have := HSL.out; simp only [List.length_append, List.length_cons, List.length_take, List.length_drop]; omega
       ·
        rw [srtI_take HXC.out, ← HC.out.2.1, conI_ins7]; unfold insX; rw [conI_length, HSL.out, show backP ft (LI.con ⟨⟨kd, n, t⟩, ia, ic, l⟩) (conI srt) k = q + 1 from HBJ.out] <;> rfl
       ·
        exact perm_ins srt _ _ _ _ HPM.out
       ·
        rw [List.append_assoc, List.cons_append]; exact S6.out
      case measure => simp [intOf]; omega
     | true =>
      go_upto_region 6 with fail
      clear f0 f1 f2 f3 f4 f5 f6 f7
      refine Reg.wp_region_late (fun w' => True) (fun w' => w'.cell? ⟨g, (q + 1) * 4, none⟩ = some (.int .i64 kd) ∧ w'.cell? ⟨g, (q + 1) * 4 + 1, none⟩ = some (.int .i64 n) ∧ w'.cell? ⟨g, (q + 1) * 4 + 2, none⟩ = some (.string t) ∧ w'.cell? ⟨g, (q + 1) * 4 + 3, none⟩ = some (.slice ia l.length ic) ∧ w'.cell? ⟨g, q * 4, none⟩ = some (.int .i64 kd2) ∧ w'.cell? ⟨g, q * 4 + 1, none⟩ = some (.int .i64 n2) ∧ w'.cell? ⟨g, q * 4 + 2, none⟩ = some (.string t2) ∧ w'.cell? ⟨g, q * 4 + 3, none⟩ = some (.slice ia2 l2.length ic2)) 15 (by kernel_rfl) trivial ⟨(four_at (Sv.own_at (Bag.drew1 S6.out) 0 rfl).reads _ _ HL1.out).1, (four_at (Sv.own_at (Bag.drew1 S6.out) 0 rfl).reads _ _ HL1.out).2.1, (four_at (Sv.own_at (Bag.drew1 S6.out) 0 rfl).reads _ _ HL1.out).2.2.1, (four_at (Sv.own_at (Bag.drew1 S6.out) 0 rfl).reads _ _ HL1.out).2.2.2, (four_at (Sv.own_at (Bag.drew1 S6.out) 0 rfl).reads _ _ HL2.out).1, (four_at (Sv.own_at (Bag.drew1 S6.out) 0 rfl).reads _ _ HL2.out).2.1, (four_at (Sv.own_at (Bag.drew1 S6.out) 0 rfl).reads _ _ HL2.out).2.2.1, (four_at (Sv.own_at (Bag.drew1 S6.out) 0 rfl).reads _ _ HL2.out).2.2.2⟩ (fun hS hL => ?_)
      have S7 := Lib.hid (Bag.drew1 S6.out)
      clear S6
      generalize World.drew _ = w3 at hS hL S7 ⊢
      refine Reg.early_op (i := 0) (v := ?_) rfl (by kernel_rfl) (by kernel_rfl) (by kernel_rfl) rfl (by kernel_rfl) (by kernel_rfl) (fun _ _ _ h => h) (by rfl) ?_ hS hL ?_
      rotate_left
      ·
       (intro w hSw hSv; (try dsimp only at hSw); (try dsimp only at hSv); go_simp; try with_reducible rfl)
      try simp only [zp0, zp1, zp2, zp3, zp4]
      refine Reg.early_op (i := 1) (v := ?_) rfl (by kernel_rfl) (by kernel_rfl) (by kernel_rfl) rfl (by kernel_rfl) (by kernel_rfl) (fun _ _ _ h => h) (by rfl) ?_ hS hL ?_
      rotate_left
      ·
       (intro w hSw hSv; (try dsimp only at hSw); (try dsimp only at hSv); go_simp; try with_reducible rfl)
      try simp only [zp0, zp1, zp2, zp3, zp4]
      refine Reg.early_op (i := 2) (v := ?_) rfl (by kernel_rfl) (by kernel_rfl) (by kernel_rfl) rfl (by kernel_rfl) (by kernel_rfl) (fun _ _ _ h => h) (by rfl) ?_ hS hL ?_
      rotate_left
      ·
       (intro w hSw hSv; (try dsimp only at hSw); (try dsimp only at hSv); go_simp; try with_reducible rfl)
      try simp only [zp0, zp1, zp2, zp3, zp4]
      refine Reg.plain_op (i := 3) (v := ?_) rfl (by kernel_rfl) (by kernel_rfl) (by kernel_rfl) rfl (fun _ _ _ h => h) (by rfl) ?_ hS (fun _ => hL) ?_
      rotate_left
      ·
       (intro w hSw; (try dsimp only at hSw); go_simp; try with_reducible rfl)
      try simp only [zp0, zp1, zp2, zp3, zp4]
      refine Reg.plain_op (i := 4) (v := ?_) rfl (by kernel_rfl) (by kernel_rfl) (by kernel_rfl) rfl (fun _ _ _ h => h) (by rfl) ?_ hS (fun _ => hL) ?_
      rotate_left
      ·
       (intro w hSw; (try dsimp only at hSw); go_simp; try with_reducible rfl)
      try simp only [zp0, zp1, zp2, zp3, zp4]
      refine Reg.early_op (i := 5) (v := ?_) rfl (by kernel_rfl) (by kernel_rfl) (by kernel_rfl) rfl (by kernel_rfl) (by kernel_rfl) (fun _ _ _ h => h) (by rfl) ?_ hS hL ?_
      rotate_left
      ·
       (intro w hSw hSv; (try dsimp only at hSw); (try dsimp only at hSv); go_simp; try with_reducible rfl)
      try simp only [zp0, zp1, zp2, zp3, zp4]
      refine Reg.early_op (i := 6) (v := ?_) rfl (by kernel_rfl) (by kernel_rfl) (by kernel_rfl) rfl (by kernel_rfl) (by kernel_rfl) (fun _ _ _ h => h) (by rfl) ?_ hS hL ?_
      rotate_left
      ·
       (intro w hSw hSv; (try dsimp only at hSw); (try dsimp only at hSv); go_simp; try with_reducible rfl)
      try simp only [zp0, zp1, zp2, zp3, zp4]
      refine Reg.early_op (i := 7) (v := ?_) rfl (by kernel_rfl) (by kernel_rfl) (by kernel_rfl) rfl (by kernel_rfl) (by kernel_rfl) (fun _ _ _ h => h) (by rfl) ?_ hS hL ?_
      rotate_left
      ·
       (intro w hSw hSv; (try dsimp only at hSw); (try dsimp only at hSv); go_simp; try with_reducible rfl)
      try simp only [zp0, zp1, zp2, zp3, zp4]
      refine Reg.early_op (i := 8) (v := ?_) rfl (by kernel_rfl) (by kernel_rfl) (by kernel_rfl) rfl (by kernel_rfl) (by kernel_rfl) (fun _ _ _ h => h) (by rfl) ?_ hS hL ?_
      rotate_left
      ·
       (intro w hSw hSv; (try dsimp only at hSw); (try dsimp only at hSv); go_simp; try with_reducible rfl)
      try simp only [zp0, zp1, zp2, zp3, zp4]
      refine Reg.plain_op (i := 9) (v := ?_) rfl (by kernel_rfl) (by kernel_rfl) (by kernel_rfl) rfl (fun _ _ _ h => h) (by rfl) ?_ hS (fun _ => hL) ?_
      rotate_left
      ·
       (intro w hSw; (try dsimp only at hSw); go_simp; try with_reducible rfl)
      try simp only [zp0, zp1, zp2, zp3, zp4]
      refine Reg.plain_op (i := 10) (v := ?_) rfl (by kernel_rfl) (by kernel_rfl) (by kernel_rfl) rfl (fun _ _ _ h => h) (by rfl) ?_ hS (fun _ => hL) ?_
      rotate_left
      ·
       (intro w hSw; (try dsimp only at hSw); go_simp; try with_reducible rfl)
      try simp only [zp0, zp1, zp2, zp3, zp4]
      refine Reg.plain_op (i := 11) (v := ?_) rfl (by kernel_rfl) (by kernel_rfl) (by kernel_rfl) rfl (fun _ _ _ h => h) (by rfl) ?_ hS (fun _ => hL) ?_
      rotate_left
      ·
       (intro w hSw; (try dsimp only at hSw); go_simp; try with_reducible rfl)
      try simp only [zp0, zp1, zp2, zp3, zp4]
      refine Reg.plain_op (i := 12) (v := ?_) rfl (by kernel_rfl) (by kernel_rfl) (by kernel_rfl) rfl (fun _ _ _ h => h) (by rfl) ?_ hS (fun _ => hL) ?_
      rotate_left
      ·
       (intro w hSw; (try dsimp only at hSw); go_simp; try with_reducible rfl)
      try simp only [zp0, zp1, zp2, zp3, zp4]
      refine Reg.early_op (i := 13) (v := ?_) rfl (by kernel_rfl) (by kernel_rfl) (by kernel_rfl) rfl (by kernel_rfl) (by kernel_rfl) (fun _ _ _ h => h) (by rfl) ?_ hS hL ?_
      rotate_left
      ·
       (intro w hSw hSv; (try dsimp only at hSw); (try dsimp only at hSv); go_simp; try with_reducible rfl)
      try simp only [zp0, zp1, zp2, zp3, zp4]
      refine Reg.early_op (i := 14) (v := ?_) rfl (by kernel_rfl) (by kernel_rfl) (by kernel_rfl) rfl (by kernel_rfl) (by kernel_rfl) (fun _ _ _ h => h) (by rfl) ?_ hS hL ?_
      rotate_left
      ·
       (intro w hSw hSv; (try dsimp only at hSw); (try dsimp only at hSv); go_simp; try with_reducible rfl)
      try simp only [zp0, zp1, zp2, zp3, zp4]
      refine Reg.late_op (i := 15) rfl (by kernel_rfl) rfl (fun K hK => ?_)
      have S8 := Lib.hid (show Sl.Sep W _ [Sv.ownV 135 4 (some ⟨g, 0, none⟩) c N (cellsI (srt.take q) ++ (cellsI [⟨⟨kd2, n2, t2⟩, ia2, ic2, l2⟩] ++ (cellsI [⟨⟨kd, n, t⟩, ia, ic, l⟩] ++ cellsI (srt.drop (q + 1) ++ ys.drop (k + 1))))), _] from (by have h := S7.out; rw [cells_swap1 HY.out] at h; exact h))
      clear S7
      have HAL := Lib.hid (show (cellsI (srt.take q)).length = q * 4 by rw [cellsI_length, List.length_take]; omega)
      have HAR := Lib.hid (show q * 4 + 8 ≤ (cellsI (srt.take q) ++ (cellsI [⟨⟨kd2, n2, t2⟩, ia2, ic2, l2⟩] ++ (cellsI [⟨⟨kd, n, t⟩, ia, ic, l⟩] ++ cellsI (srt.drop (q + 1) ++ ys.drop (k + 1))))).length from by simp only [List.length_append, HAL.out, cellsI_length, List.length_cons, List.length_nil]; omega)
      have q0 := (Sv.own_at S8.out 0 rfl).cell (q * 4) (by have := HAR.out; omega)
      have z0 := (Sv.own_at S8.out 0 rfl).free (q * 4)
      have q1 := (Sv.own_at S8.out 0 rfl).cell (q * 4 + 1) (by have := HAR.out; omega)
      have z1 := (Sv.own_at S8.out 0 rfl).free (q * 4 + 1)
      have q2 := (Sv.own_at S8.out 0 rfl).cell (q * 4 + 2) (by have := HAR.out; omega)
      have z2 := (Sv.own_at S8.out 0 rfl).free (q * 4 + 2)
      have q3 := (Sv.own_at S8.out 0 rfl).cell (q * 4 + 3) (by have := HAR.out; omega)
      have z3 := (Sv.own_at S8.out 0 rfl).free (q * 4 + 3)
      go_simp
      clear q0 z0 q1 z1 q2 z2 q3 z3
      have S9 := Lib.hid (show Sl.Sep W ((((w3.setCell ⟨g, q * 4, none⟩ (.int .i64 kd)).setCell ⟨g, q * 4 + 1, none⟩ (.int .i64 n)).setCell ⟨g, q * 4 + 2, none⟩ (.string t)).setCell ⟨g, q * 4 + 3, none⟩ (.slice ia l.length ic)) [Sv.ownV 135 4 (some ⟨g, 0, none⟩) c N (cellsI (srt.take q) ++ (cellsI [⟨⟨kd, n, t⟩, ia, ic, l⟩] ++ (cellsI [⟨⟨kd, n, t⟩, ia, ic, l⟩] ++ cellsI (srt.drop (q + 1) ++ ys.drop (k + 1))))), _] from (by have h := Run.put_run S8.out 0 rfl (q * 4) [.int .i64 kd, .int .i64 n, .string t, .slice ia l.length ic] (by have := HAR.out; simp only [List.length_cons, List.length_nil]; omega); rw [Run.over_mid _ _ _ _ _ HAL.out (by rw [cellsI_length]; rfl)] at h; exact h))
      clear S8
      refine hK.out _ _ trivial (fun hS => ?_)
      clear hL
      clear hK K
      try simp only [zp0, zp1, zp2, zp3, zp4]
      refine Reg.plain_op (i := 16) (v := ?_) rfl (by kernel_rfl) (by kernel_rfl) (by kernel_rfl) rfl (fun _ _ _ h => h) (by rfl) ?_ hS (fun h => absurd h (by decide)) ?_
      rotate_left
      ·
       (intro w hSw; (try dsimp only at hSw); go_simp; try with_reducible rfl)
      try simp only [zp0, zp1, zp2, zp3, zp4]
      refine Reg.after_op (i := 17) rfl (by kernel_rfl) (by kernel_rfl) (fun K hK => ?_)
      have S10 := Lib.hid (show Sl.Sep W ((((w3.setCell ⟨g, q * 4, none⟩ (.int .i64 kd)).setCell ⟨g, q * 4 + 1, none⟩ (.int .i64 n)).setCell ⟨g, q * 4 + 2, none⟩ (.string t)).setCell ⟨g, q * 4 + 3, none⟩ (.slice ia l.length ic)) [Sv.ownV 135 4 (some ⟨g, 0, none⟩) c N ((cellsI (srt.take q) ++ cellsI [⟨⟨kd, n, t⟩, ia, ic, l⟩]) ++ (cellsI [⟨⟨kd, n, t⟩, ia, ic, l⟩] ++ cellsI (srt.drop (q + 1) ++ ys.drop (k + 1)))), _] from (by have h := S9.out; rw [← List.append_assoc] at h; exact h))
      clear S9
      have HAL2 := Lib.hid (show (cellsI (srt.take q) ++ cellsI [⟨⟨kd, n, t⟩, ia, ic, l⟩]).length = (q + 1) * 4 by rw [List.length_append, HAL.out, cellsI_length]; simp; omega)
      have HAR2 := Lib.hid (show (q + 1) * 4 + 4 ≤ ((cellsI (srt.take q) ++ cellsI [⟨⟨kd, n, t⟩, ia, ic, l⟩]) ++ (cellsI [⟨⟨kd, n, t⟩, ia, ic, l⟩] ++ cellsI (srt.drop (q + 1) ++ ys.drop (k + 1)))).length from by simp only [List.length_append, HAL.out, cellsI_length, List.length_cons, List.length_nil]; omega)
      have q0 := (Sv.own_at S10.out 0 rfl).cell ((q + 1) * 4) (by have := HAR2.out; omega)
      have z0 := (Sv.own_at S10.out 0 rfl).free ((q + 1) * 4)
      have q1 := (Sv.own_at S10.out 0 rfl).cell ((q + 1) * 4 + 1) (by have := HAR2.out; omega)
      have z1 := (Sv.own_at S10.out 0 rfl).free ((q + 1) * 4 + 1)
      have q2 := (Sv.own_at S10.out 0 rfl).cell ((q + 1) * 4 + 2) (by have := HAR2.out; omega)
      have z2 := (Sv.own_at S10.out 0 rfl).free ((q + 1) * 4 + 2)
      have q3 := (Sv.own_at S10.out 0 rfl).cell ((q + 1) * 4 + 3) (by have := HAR2.out; omega)
      have z3 := (Sv.own_at S10.out 0 rfl).free ((q + 1) * 4 + 3)
      go_simp
      clear q0 z0 q1 z1 q2 z2 q3 z3
      have S11 := Lib.hid (show Sl.Sep W ((((((((w3.setCell ⟨g, q * 4, none⟩ (.int .i64 kd)).setCell ⟨g, q * 4 + 1, none⟩ (.int .i64 n)).setCell ⟨g, q * 4 + 2, none⟩ (.string t)).setCell ⟨g, q * 4 + 3, none⟩ (.slice ia l.length ic)).setCell ⟨g, (q + 1) * 4, none⟩ (.int .i64 kd2)).setCell ⟨g, (q + 1) * 4 + 1, none⟩ (.int .i64 n2)).setCell ⟨g, (q + 1) * 4 + 2, none⟩ (.string t2)).setCell ⟨g, (q + 1) * 4 + 3, none⟩ (.slice ia2 l2.length ic2)) [Sv.ownV 135 4 (some ⟨g, 0, none⟩) c N ((cellsI (srt.take q) ++ cellsI [⟨⟨kd, n, t⟩, ia, ic, l⟩]) ++ (cellsI [⟨⟨kd2, n2, t2⟩, ia2, ic2, l2⟩] ++ cellsI (srt.drop (q + 1) ++ ys.drop (k + 1)))), _] from (by have h := Run.put_run S10.out 0 rfl ((q + 1) * 4) [.int .i64 kd2, .int .i64 n2, .string t2, .slice ia2 l2.length ic2] (by have := HAR2.out; simp only [List.length_cons, List.length_nil]; omega); rw [Run.over_mid _ _ _ _ _ HAL2.out (by rw [cellsI_length]; rfl)] at h; exact h))
      clear S10
      refine hK.out _ _ trivial (fun hS => ?_)
      clear hK K
      try simp only [zp0, zp1, zp2, zp3, zp4]
      refine Reg.anyL_done (by kernel_rfl) ?_ _
      have S12 := Lib.hid (show Sl.Sep W _ [Sv.ownV 135 4 (some ⟨g, 0, none⟩) c N (cellsI (srt.take q ++ ⟨⟨kd, n, t⟩, ia, ic, l⟩ :: (srt.drop q ++ ys.drop (k + 1)))), _] from (by rw [cells_swap2 HY.out]; exact S11.out))
      clear S11
      go_wp2_with fail
      go_roundw
      case rel => exact ⟨q, by omega, by go_num, And.intro (by rw [HBP.out, backP_go HYC.out hb]) S12.out⟩
      case measure => simp [intOf]
  ·
   skip
   go_wp2_with fail
   obtain rfl : k = N := by omega
   have hd : ys.drop k = [] := List.drop_of_length_le (Nat.le_of_eq HN.out.symm)
   have HC2 := HC.out
   have SE := S2.out
   rw [hd, List.append_nil] at HC2 SE
   rw [List.take_of_length_le (by rw [conI_length]; exact Nat.le_of_eq HN.out.symm)] at HC2
   go_end0
   exact ⟨rfl, srt, HC2.2.2, HC2.2.1, SE⟩
set_option maxHeartbeats 2000000 in
theorem sortNil_any (gc : Nat) (w : World) :
  Calls Tryz.prog 197 #[.slice none 0 0, .func (.func 198) #[] #[.pointer (some ⟨gc, 0, none⟩)]] w fun e w' => e = .returned (.tuple #[]) ∧ Below w.heap.size w w' := by
 go_enter Tryz.func197, Tryz.ntmps197
 go_wp2_with fail
 refine wp_loop_rounds 1 ?_
 rw [rounds_succ]
 go_wp2_with fail
 go_end0
 exact ⟨rfl, Below.refl _ _⟩
set_option maxHeartbeats 8000000 in
theorem indexOn_any (y : LS) (f : ByteArray) (hf : FitS y.con) (w : World) (hr : RowsRd w w.heap.size y.rows) :
  Calls Tryz.prog 170 #[y.v, .string f] w (GaveIs w (idxI y.con.items f.data.toList)) := by
 have HF := Lib.hid hf.items
 have HRY := Lib.hid (fun w' (h : Below w.heap.size w w') => (hr.below h).more h.size)
 have HINN := Lib.hid (fun w' (h : Below w.heap.size w w') => ((LS.inner hr).below h).more h.size)
 have hmf : ∀ (fn : Fn) (first cap : Array Value) (w : World), (Instr.makeFunc fn first cap).run Tryz.prog w = .ok (.func fn first cap) w := fun _ _ _ _ => rfl
 have HFS := Lib.hid hf
 clear hr hf
 obtain ⟨name, a, c, xs, auto⟩ := y
 dsimp only [LS.v, LS.cells, LS.con] at HRY HF HINN HFS ⊢
 have hxl : xs.length ≤ 1048576 := by have h := HFS.out.len; simp only [conI_length] at h; exact h
 have HXL := Lib.hid hxl
 clear hxl
 have S1 := Lib.hid (show Sl.Sep w _ [_, _] from L4.push_box (L4.push_box (Sl.Sep.start w) 70 #[.string name, .slice a xs.length c, .int .i64 auto] (w.heap.size) (by simp)) 9 #[.string f] (w.heap.size + 1) (by simp))
 obtain ⟨wa, hwa⟩ : ∃ u, u = ((w.alloc (.cells #[.string name, .slice a xs.length c, .int .i64 auto] 70)).alloc (.cells #[.string f] 9)) := ⟨_, rfl⟩
 rw [← hwa] at S1
 go_enter Tryz.func170, Tryz.ntmps170
 go_upto_region 1 with fail
 rw [← hwa]
 clear hwa
 have HW := Lib.hid (itemsWhereB_any (w.heap.size + 1) (fun x => getB x.l f.data.toList) ⟨name, a, c, xs, auto⟩ HFS.out wa (fun x hx w' hb => by
  have c0 := (Below.cell hb (p := ⟨w.heap.size + 1, 0, none⟩) (S1.out.lies 1 _ rfl _ (by simp [L4.boxR])).2).trans (Bag.cell_at S1.out 1 rfl 0 rfl)
  exact indexOn1_any _ _ _ _ _ x.l f (HF.out _ (List.mem_map.2 ⟨x, hx, rfl⟩)).len _ w' (((HINN.out w' (S1.out.old.trans (hb.mono S1.out.old.size))).at_ (rowsI_mem' hx)).reads) (Nat.lt_of_lt_of_le (S1.out.lies 1 _ rfl _ (by simp [L4.boxR])).2 hb.size) c0) (HRY.out _ S1.out.old))
 dsimp only [LS.v, LS.cells, LS.con] at HW
 obtain ⟨f0, f1, f2⟩ := Bag.cs3 S1.out 0 rfl
 have f3 := Bag.cs1 S1.out 1 rfl
 go_wp2_with fail
 go_at_call 194
 refine (HW.out).mono ?_
 rintro e w1 ⟨la, lc, ys, rfl, hys, ho, hb⟩
 clear f0 f1 f2 f3
 have S2 := Lib.hid (show Sl.Sep w _ [_, _, Bag.bag (rowI la lc ys :: rowsI ys)] from Bag.push_bag S1.out hb ho)
 clear S1
 clear hb ho
 clear HW
 have HY := Lib.hid hys
 clear hys
 have hyl : ys.length ≤ 1048576 := by have h := congrArg List.length HY.out; rw [conI_length] at h; have h2 := List.length_filter_le (fun x : It => getB x.l f.data.toList) (conI xs); rw [conI_length] at h2; have := HXL.out; omega
 have HYL := Lib.hid hyl
 clear hyl
 have HIT := Lib.hid (fun (x : LI) (hx : x ∈ ys) => HF.out x.con (List.mem_filter.1 (show x.con ∈ (conI xs).filter (fun x => getB x.l f.data.toList) from by rw [← HY.out]; exact List.mem_map.2 ⟨x, hx, rfl⟩)).1)
 have HIDX := Lib.hid (show idxI (conI xs) f.data.toList = srtI f.data.toList (conI ys) from by rw [idx_srt, HY.out])
 have S3 := Lib.hid (show Sl.Sep w _ [_, _, Bag.bag ([rowI la lc ys] ++ rowsI ys)] from S2.out)
 clear S2
 have S4 := Lib.hid (show Sl.Sep w _ [_, _, Bag.bag ([rowI la lc ys]), Bag.bag (rowsI ys)] from Bag.bag_split S3.out 2 rfl)
 clear S3
 have S5 := Lib.hid (show Sl.Sep w _ [_, _, Sv.ownV 135 4 la lc ys.length (cellsI ys), _] from (by have h := Bag.one_of_bag S4.out 2 (r := rowI la lc ys) rfl; unfold RowS.res rowI at h; dsimp only at h; exact h))
 clear S4
 rcases (Sv.own_at S5.out 2 rfl).form with ⟨rfl, hl0, -, rfl⟩ | ⟨g3, rfl, -⟩
 ·
  have hy0 : ys = [] := List.eq_nil_of_length_eq_zero hl0
  subst hy0
  dsimp only [List.length_nil]
  obtain ⟨f0, f1, f2⟩ := Bag.cs3 S5.out 0 rfl
  have f3 := Bag.cs1 S5.out 1 rfl
  go_wp2_with fail
  go_at_call 197
  refine (sortNil_any _ _).mono ?_
  rintro e w2 ⟨rfl, hb⟩
  clear f0 f1 f2 f3
  have S6 := Lib.hid (S5.out.keep hb)
  clear S5
  clear hb
  obtain ⟨f0, f1, f2⟩ := Bag.cs3 S6.out 0 rfl
  have f3 := Bag.cs1 S6.out 1 rfl
  go_wp2_with fail
  go_ret
  exact ⟨none, 0, [], rfl, (show conI [] = srtI f.data.toList (conI []) from rfl).trans HIDX.out.symm, BagOwn.one (by have h := Sv.own_from S6.out 2 rfl; exact h), S6.out.old⟩
 ·
  skip
  have HPR : Hid (Prec 198 (w.heap.size + 1) g3 f.data.toList ys w1) := Lib.hid (fun x hx y hy w' ht => by
   have hne : ∀ (i : Nat) (r : Res), i ≠ 2 → ([L4.boxR w.heap.size 70 #[.string name, .slice a xs.length c, .int .i64 auto], L4.boxR (w.heap.size + 1) 9 #[.string f], Sv.ownV 135 4 (some ⟨g3, 0, none⟩) lc ys.length (cellsI ys), Bag.bag (rowsI ys)] : List Res)[i]? = some r → ∀ b ∈ r.fp, w'.heap[b]? = (World.heap w1)[b]? := fun i r hi hr b hb => ht.block b (S5.out.lies i r hr b hb).2 (fun e => by
    rw [List.mem_singleton] at e; subst e; exact S5.out.apart i 2 r _ hr rfl hi _ hb (by simp [Sv.ownV, Value.ownBlock]))
   have hrd := Bag.BagOwn.rd ((Bag.bag (rowsI ys)).loc (hne 3 _ (by decide) rfl) (S5.out.is 3 _ rfl))
   have hrow := (L4.boxR (w.heap.size + 1) 9 #[.string f]).loc (hne 1 _ (by decide) rfl) (S5.out.is 1 _ rfl)
   have hrow' : Row w' (w.heap.size + 1) 9 #[.string f] := hrow
   exact indexOn2_any _ _ _ _ _ _ _ _ _ _ x.l y.l f _ (HIT.out x hx).text (HIT.out y hy).text (HIT.out x hx).len (HIT.out y hy).len w' ((hrd.at_ (rowsI_mem' hx)).reads) ((hrd.at_ (rowsI_mem' hy)).reads) (Nat.lt_of_lt_of_le (S5.out.lies 1 _ rfl _ (by simp [L4.boxR])).2 ht.size) (by rw [hrow'.cell]; rfl))
  have HSO := Lib.hid (sort_any g3 (w.heap.size + 1) lc f.data.toList ys (by have := HYL.out; omega) w w1 (Run.rest_start S5.out 2 rfl) HPR.out)
  obtain ⟨f0, f1, f2⟩ := Bag.cs3 S5.out 0 rfl
  have f3 := Bag.cs1 S5.out 1 rfl
  go_wp2_with fail
  go_at_call 197
  refine HSO.out.mono ?_
  rintro e w5 ⟨zs, rfl, hpm, hcz, hS⟩
  clear f0 f1 f2 f3
  have S6 := Lib.hid (show Sl.Sep w _ [_, _, Sv.ownV 135 4 (some ⟨g3, 0, none⟩) lc ys.length (cellsI zs), _] from Run.rest_back S5.out 2 rfl hS)
  clear S5
  clear hS HSO HPR
  have HPM := Lib.hid hpm
  have HCZ := Lib.hid hcz
  clear hpm hcz
  have S7 := Lib.hid (show Sl.Sep w _ [L4.boxR w.heap.size 70 #[.string name, .slice a xs.length c, .int .i64 auto], L4.boxR (w.heap.size + 1) 9 #[.string f], Sv.ownV 135 4 (some ⟨g3, 0, none⟩) lc ys.length (cellsI zs), Bag.bag (rowsI zs)] from Bag.bag_perm S6.out 3 rfl ((HPM.out.map LI.row).symm))
  clear S6
  obtain ⟨f0, f1, f2⟩ := Bag.cs3 S7.out 0 rfl
  have f3 := Bag.cs1 S7.out 1 rfl
  go_wp2_with fail
  go_ret
  have hlz := HPM.out.length_eq
  clear f0 f1 f2 f3
  have S8 := Lib.hid (show Sl.Sep w _ [_, _, Sv.ownV 135 4 (some ⟨g3, 0, none⟩) lc zs.length (cellsI zs), _] from (by have h := S7.out; rw [← hlz] at h; exact h))
  clear S7
  have S9 := Lib.hid (show Sl.Sep w _ [_, _, Bag.bag ([rowI (some ⟨g3, 0, none⟩) lc zs]), _] from Bag.bag_of_one S8.out 2 (r := rowI (some ⟨g3, 0, none⟩) lc zs) rfl)
  clear S8
  have S10 := Lib.hid (show Sl.Sep w _ [_, _, Bag.bag ([rowI (some ⟨g3, 0, none⟩) lc zs] ++ (rowsI zs)), Bag.bag ([])] from Bag.bag_join S9.out 2 3 (by decide) rfl rfl)
  clear S9
  exact ⟨some ⟨g3, 0, none⟩, lc, zs, by rw [hlz]; rfl, HCZ.out.trans HIDX.out.symm, Bag.bag_from S10.out 2 rfl, S10.out.old⟩
end Go.Proofs.YthljdhfgphebnaaGreat.L7

set_option linter.unusedSimpArgs false
namespace Go.Proofs.YthljdhfgphebnaaGreat.L7
open L4 (K isK cmpK R inR encU)
open L5 (F isR isN cellsF encR eqR Small getO getN getB)
open L6
open Go.ChangeShapes Go.WideShapes Go.ChangeAt Go.RowKit Mem Sl Ex L2 Sv Bag

set_option maxHeartbeats 8000000 in
theorem uniqueFault_any (y : LS) (f : ByteArray) (hf : FitS y.con) (w : World) (hr : RowsRd w w.heap.size y.rows) :
  Calls Tryz.prog 140 #[y.v, .string f] w fun e w' => e = .returned (.tuple #[(ufA f.data.toList (idxI y.con.items f.data.toList)).v, (ufZ f.data.toList (idxI y.con.items f.data.toList)).v, .bool (ufB f.data.toList (idxI y.con.items f.data.toList))]) ∧ Below w.heap.size w w' := by
 have HIX := Lib.hid (fun w' (h : Below w.heap.size w w') => indexOn_any y f hf w' ((hr.below h).more h.size))
 have HFX := Lib.hid (fit_idx (t := f.data.toList) hf.items)
 have HLN := Lib.hid (Nat.le_trans (idxI_len y.con.items f.data.toList) hf.len)
 obtain ⟨L, hL⟩ : ∃ u, idxI y.con.items f.data.toList = u := ⟨_, rfl⟩
 rw [hL] at HIX HFX HLN ⊢
 clear hL
 obtain ⟨name, a, c, xs, auto⟩ := y
 dsimp only [LS.v, LS.cells] at HIX ⊢
 have S1 := Lib.hid (show Sl.Sep w _ [_, _, _] from L4.push_box (L4.push_box (L4.push_box (Sl.Sep.start w) 70 #[.string name, .slice a xs.length c, .int .i64 auto] (w.heap.size) (by simp)) 110 #[.int .i64 0, .int .i64 0, .string ⟨#[]⟩] (w.heap.size + 1) (by simp)) 110 #[.int .i64 0, .int .i64 0, .string ⟨#[]⟩] (w.heap.size + 1 + 1) (by simp))
 obtain ⟨wa, hwa⟩ : ∃ u, u = (((w.alloc (.cells #[.string name, .slice a xs.length c, .int .i64 auto] 70)).alloc (.cells #[.int .i64 0, .int .i64 0, .string ⟨#[]⟩] 110)).alloc (.cells #[.int .i64 0, .int .i64 0, .string ⟨#[]⟩] 110)) := ⟨_, rfl⟩
 rw [← hwa] at S1
 go_enter Tryz.func140, Tryz.ntmps140
 go_upto_region 1 with fail
 rw [← hwa]
 clear hwa
 obtain ⟨f0, f1, f2⟩ := Bag.cs3 S1.out 0 rfl
 go_wp2_with fail
 go_at_call 170
 refine (HIX.out _ S1.out.old).mono ?_
 rintro e w1 ⟨la, lc, ys, rfl, hys, ho, hb⟩
 clear f0 f1 f2
 have S2 := Lib.hid (show Sl.Sep w _ [_, _, _, Bag.bag (rowI la lc ys :: rowsI ys)] from Bag.push_bag S1.out hb ho)
 clear S1
 clear hb ho
 have HY := Lib.hid hys
 clear hys
 obtain ⟨N, hN⟩ : ∃ N, N = ys.length := ⟨_, rfl⟩
 rw [← hN]
 have HN := Lib.hid hN
 have hNl : N ≤ 1048576 := by have h := HLN.out; rw [← HY.out, conI_length] at h; omega
 clear hN
 go_wp2_with fail
 go_loopw [8] (fun i wr => ∃ j : Nat, (j + 1 ≤ N ∨ j = 0) ∧ i = .int .i64 ((j + 1 : Nat) : Int) ∧ Hid ((∀ q, q < j → adj7 f.data.toList (conI ys) q = false) ∧ Sl.Sep w wr [L4.boxR w.heap.size 70 #[.string name, .slice a xs.length c, .int .i64 auto], L4.boxR (w.heap.size + 1) 110 #[.int .i64 0, .int .i64 0, .string ⟨#[]⟩], L4.boxR (w.heap.size + 1 + 1) 110 #[.int .i64 0, .int .i64 0, .string ⟨#[]⟩], Bag.bag (rowI la lc ys :: rowsI ys)])) (fun i _ => N - (intOf i).toNat)
 case atStart => exact ⟨0, .inr rfl, rfl, And.intro (fun q hq => absurd hq (by omega)) S2.out⟩
 case round =>
  obtain ⟨j, hj, rfl, hrel⟩ := hrel
  have HA := Lib.hid hrel.out.1
  have S3 := Lib.hid hrel.out.2
  clear hrel S2
  by_cases hlt : ((j + 1 : Nat) : Int) < (N : Int)
  ·
   skip
   obtain ⟨ad, x1, e', hx1⟩ := readsI_some (LS.outer (s := ⟨⟨#[]⟩, la, lc, ys, 0⟩) (Bag.bag_rd S3.out 3 rfl)) j (by show j < ys.length; have := HN.out; omega)
   have e'' : la = some ad := e'
   subst e''
   clear e'
   obtain ⟨ad_, x2, e_, hx2⟩ := readsI_some (LS.outer (s := ⟨⟨#[]⟩, some ad, lc, ys, 0⟩) (Bag.bag_rd S3.out 3 rfl)) (j + 1) (by show j + 1 < ys.length; have := HN.out; omega)
   clear ad_ e_
   obtain ⟨⟨kd, n, t⟩, ia, ic, l⟩ := x1
   obtain ⟨⟨kd2, n2, t2⟩, ia2, ic2, l2⟩ := x2
   have HX1 := Lib.hid hx1
   have HX2 := Lib.hid hx2
   have HC1 := Lib.hid (show (conI ys)[j]? = some (⟨⟨kd, n, t⟩, l⟩ : It) from con_of hx1)
   have HC2 := Lib.hid (show (conI ys)[j + 1]? = some (⟨⟨kd2, n2, t2⟩, l2⟩ : It) from con_of hx2)
   clear hx1 hx2
   have HF1 := Lib.hid (show FitI ⟨⟨kd, n, t⟩, l⟩ from HFX.out _ (by rw [← HY.out]; exact List.mem_of_getElem? HC1.out))
   have HF2 := Lib.hid (show FitI ⟨⟨kd2, n2, t2⟩, l2⟩ from HFX.out _ (by rw [← HY.out]; exact List.mem_of_getElem? HC2.out))
   obtain ⟨na, hna⟩ : ∃ u, getN l f.data.toList = u := ⟨_, rfl⟩
   obtain ⟨nb, hnb⟩ : ∃ u, getN l2 f.data.toList = u := ⟨_, rfl⟩
   have HNA := Lib.hid hna
   have HNB := Lib.hid hnb
   have HAD := Lib.hid (show adj7 f.data.toList (conI ys) j = (na == nb) from by rw [adj_at HC1.out HC2.out]; dsimp only; rw [hna, hnb])
   clear hna hnb
   have hj1 : (0 : Int) ≤ (j : Int) + 1 := by omega
   have hsub : ((j + 1 : Nat) : Int) - 1 = (j : Int) := by omega
   have hjm : (j : Int) < (N : Int) := by omega
   have hjm1 : (j : Int) + 1 < (N : Int) := by omega
   have hwr : IntKind.i64.wrap (j : Int) = (j : Int) := IntWalk.i64_in _ ⟨by omega, by omega⟩
   go_upto_region 5 with fail
   refine wp_region_held_drew (S := (fun w' => w'.cell? (ad.add (j * 4)) = some (.int .i64 kd) ∧ w'.cell? (⟨(ad.add (j * 4)).block, (ad.add (j * 4)).off + 1, none⟩) = some (.int .i64 n) ∧ w'.cell? (⟨(ad.add (j * 4)).block, (ad.add (j * 4)).off + 2, none⟩) = some (.string t) ∧ w'.cell? (⟨(ad.add (j * 4)).block, (ad.add (j * 4)).off + 3, none⟩) = some (.slice ia l.length ic) ∧ w'.cell? (ad.add ((j + 1) * 4)) = some (.int .i64 kd2) ∧ w'.cell? (⟨(ad.add ((j + 1) * 4)).block, (ad.add ((j + 1) * 4)).off + 1, none⟩) = some (.int .i64 n2) ∧ w'.cell? (⟨(ad.add ((j + 1) * 4)).block, (ad.add ((j + 1) * 4)).off + 2, none⟩) = some (.string t2) ∧ w'.cell? (⟨(ad.add ((j + 1) * 4)).block, (ad.add ((j + 1) * 4)).off + 3, none⟩) = some (.slice ia2 l2.length ic2))) (by kernel_rfl) ⟨(readsI_at (LS.outer (s := ⟨⟨#[]⟩, some ad, lc, ys, 0⟩) (Bag.bag_rd (Bag.drew1 S3.out) 3 rfl)) j _ HX1.out).1, (readsI_at (LS.outer (s := ⟨⟨#[]⟩, some ad, lc, ys, 0⟩) (Bag.bag_rd (Bag.drew1 S3.out) 3 rfl)) j _ HX1.out).2.1, (readsI_at (LS.outer (s := ⟨⟨#[]⟩, some ad, lc, ys, 0⟩) (Bag.bag_rd (Bag.drew1 S3.out) 3 rfl)) j _ HX1.out).2.2.1, (readsI_at (LS.outer (s := ⟨⟨#[]⟩, some ad, lc, ys, 0⟩) (Bag.bag_rd (Bag.drew1 S3.out) 3 rfl)) j _ HX1.out).2.2.2, (readsI_at (LS.outer (s := ⟨⟨#[]⟩, some ad, lc, ys, 0⟩) (Bag.bag_rd (Bag.drew1 S3.out) 3 rfl)) (j + 1) _ HX2.out).1, (readsI_at (LS.outer (s := ⟨⟨#[]⟩, some ad, lc, ys, 0⟩) (Bag.bag_rd (Bag.drew1 S3.out) 3 rfl)) (j + 1) _ HX2.out).2.1, (readsI_at (LS.outer (s := ⟨⟨#[]⟩, some ad, lc, ys, 0⟩) (Bag.bag_rd (Bag.drew1 S3.out) 3 rfl)) (j + 1) _ HX2.out).2.2.1, (readsI_at (LS.outer (s := ⟨⟨#[]⟩, some ad, lc, ys, 0⟩) (Bag.bag_rd (Bag.drew1 S3.out) 3 rfl)) (j + 1) _ HX2.out).2.2.2⟩ (fun hS => ?_)
   have S4 := Lib.hid (Bag.drew1 S3.out)
   clear S3
   generalize World.drew _ = w2 at hS S4 ⊢
   refine tk 0 rfl ?_
   try simp only [zp0, zp1, zp2, zp3, zp4]
   refine tk 1 rfl ?_
   try simp only [zp0, zp1, zp2, zp3, zp4]
   refine tk 2 rfl ?_
   try simp only [zp0, zp1, zp2, zp3, zp4]
   refine tk 3 rfl ?_
   try simp only [zp0, zp1, zp2, zp3, zp4]
   refine tk 4 rfl ?_
   try simp only [zp0, zp1, zp2, zp3, zp4]
   refine tk 5 rfl ?_
   try simp only [zp0, zp1, zp2, zp3, zp4]
   refine tk 7 rfl ?_
   try simp only [zp0, zp1, zp2, zp3, zp4]
   refine tk 8 rfl ?_
   try simp only [zp0, zp1, zp2, zp3, zp4]
   refine tk 9 rfl ?_
   try simp only [zp0, zp1, zp2, zp3, zp4]
   refine tk 10 rfl ?_
   try simp only [zp0, zp1, zp2, zp3, zp4]
   refine tk 11 rfl ?_
   try simp only [zp0, zp1, zp2, zp3, zp4]
   refine Reg.one_op (i := 6) rfl (by kernel_rfl) (fun K hK => ?_)
   have HC := numberIn_any kd n t ia ic l f HF1.out.len w2 (((LS.inner (s := ⟨⟨#[]⟩, some ad, lc, ys, 0⟩) (Bag.bag_rd S4.out 3 rfl)).at_ (rowsI_mem HX1.out)).reads)
   rw [HNA.out] at HC
   go_simp
   go_at_call 171
   refine HC.mono ?_
   clear HC
   rintro e w3 ⟨rfl, hb⟩
   have S5 := Lib.hid (S4.out.keep hb)
   clear S4
   clear hb
   go_wp2_with fail
   refine hK.out _ _ ⟨(readsI_at (LS.outer (s := ⟨⟨#[]⟩, some ad, lc, ys, 0⟩) (Bag.bag_rd S5.out 3 rfl)) j _ HX1.out).1, (readsI_at (LS.outer (s := ⟨⟨#[]⟩, some ad, lc, ys, 0⟩) (Bag.bag_rd S5.out 3 rfl)) j _ HX1.out).2.1, (readsI_at (LS.outer (s := ⟨⟨#[]⟩, some ad, lc, ys, 0⟩) (Bag.bag_rd S5.out 3 rfl)) j _ HX1.out).2.2.1, (readsI_at (LS.outer (s := ⟨⟨#[]⟩, some ad, lc, ys, 0⟩) (Bag.bag_rd S5.out 3 rfl)) j _ HX1.out).2.2.2, (readsI_at (LS.outer (s := ⟨⟨#[]⟩, some ad, lc, ys, 0⟩) (Bag.bag_rd S5.out 3 rfl)) (j + 1) _ HX2.out).1, (readsI_at (LS.outer (s := ⟨⟨#[]⟩, some ad, lc, ys, 0⟩) (Bag.bag_rd S5.out 3 rfl)) (j + 1) _ HX2.out).2.1, (readsI_at (LS.outer (s := ⟨⟨#[]⟩, some ad, lc, ys, 0⟩) (Bag.bag_rd S5.out 3 rfl)) (j + 1) _ HX2.out).2.2.1, (readsI_at (LS.outer (s := ⟨⟨#[]⟩, some ad, lc, ys, 0⟩) (Bag.bag_rd S5.out 3 rfl)) (j + 1) _ HX2.out).2.2.2⟩ (fun hS => ?_)
   clear hK K
   try simp only [zp0, zp1, zp2, zp3, zp4]
   refine Reg.one_op (i := 12) rfl (by kernel_rfl) (fun K hK => ?_)
   have HC := numberIn_any kd2 n2 t2 ia2 ic2 l2 f HF2.out.len w3 (((LS.inner (s := ⟨⟨#[]⟩, some ad, lc, ys, 0⟩) (Bag.bag_rd S5.out 3 rfl)).at_ (rowsI_mem HX2.out)).reads)
   rw [HNB.out] at HC
   go_simp
   go_at_call 171
   refine HC.mono ?_
   clear HC
   rintro e w4 ⟨rfl, hb⟩
   have S6 := Lib.hid (S5.out.keep hb)
   clear S5
   clear hb
   go_wp2_with fail
   refine hK.out _ _ ⟨(readsI_at (LS.outer (s := ⟨⟨#[]⟩, some ad, lc, ys, 0⟩) (Bag.bag_rd S6.out 3 rfl)) j _ HX1.out).1, (readsI_at (LS.outer (s := ⟨⟨#[]⟩, some ad, lc, ys, 0⟩) (Bag.bag_rd S6.out 3 rfl)) j _ HX1.out).2.1, (readsI_at (LS.outer (s := ⟨⟨#[]⟩, some ad, lc, ys, 0⟩) (Bag.bag_rd S6.out 3 rfl)) j _ HX1.out).2.2.1, (readsI_at (LS.outer (s := ⟨⟨#[]⟩, some ad, lc, ys, 0⟩) (Bag.bag_rd S6.out 3 rfl)) j _ HX1.out).2.2.2, (readsI_at (LS.outer (s := ⟨⟨#[]⟩, some ad, lc, ys, 0⟩) (Bag.bag_rd S6.out 3 rfl)) (j + 1) _ HX2.out).1, (readsI_at (LS.outer (s := ⟨⟨#[]⟩, some ad, lc, ys, 0⟩) (Bag.bag_rd S6.out 3 rfl)) (j + 1) _ HX2.out).2.1, (readsI_at (LS.outer (s := ⟨⟨#[]⟩, some ad, lc, ys, 0⟩) (Bag.bag_rd S6.out 3 rfl)) (j + 1) _ HX2.out).2.2.1, (readsI_at (LS.outer (s := ⟨⟨#[]⟩, some ad, lc, ys, 0⟩) (Bag.bag_rd S6.out 3 rfl)) (j + 1) _ HX2.out).2.2.2⟩ (fun hS => ?_)
   clear hK K
   try simp only [zp0, zp1, zp2, zp3, zp4]
   refine tk 13 rfl ?_
   try simp only [zp0, zp1, zp2, zp3, zp4]
   refine wpAnyH_done (by kernel_rfl) ?_ _
   obtain ⟨f0, f1, f2⟩ := Bag.cs3 S6.out 0 rfl
   obtain ⟨f3, f4, f5⟩ := Bag.cs3 S6.out 1 rfl
   obtain ⟨f6, f7, f8⟩ := Bag.cs3 S6.out 2 rfl
   have f9 : World.cell? _ (ad.add (j * 4)) = some (.int .i64 kd) := (readsI_at (LS.outer (s := ⟨⟨#[]⟩, some ad, lc, ys, 0⟩) (Bag.bag_rd S6.out 3 rfl)) j _ HX1.out).1
   have f10 : World.cell? _ (⟨(ad.add (j * 4)).block, (ad.add (j * 4)).off + 1, none⟩) = some (.int .i64 n) := (readsI_at (LS.outer (s := ⟨⟨#[]⟩, some ad, lc, ys, 0⟩) (Bag.bag_rd S6.out 3 rfl)) j _ HX1.out).2.1
   have f11 : World.cell? _ (⟨(ad.add (j * 4)).block, (ad.add (j * 4)).off + 2, none⟩) = some (.string t) := (readsI_at (LS.outer (s := ⟨⟨#[]⟩, some ad, lc, ys, 0⟩) (Bag.bag_rd S6.out 3 rfl)) j _ HX1.out).2.2.1
   have f12 : World.cell? _ (⟨(ad.add (j * 4)).block, (ad.add (j * 4)).off + 3, none⟩) = some (.slice ia l.length ic) := (readsI_at (LS.outer (s := ⟨⟨#[]⟩, some ad, lc, ys, 0⟩) (Bag.bag_rd S6.out 3 rfl)) j _ HX1.out).2.2.2
   have f13 : World.cell? _ (ad.add ((j + 1) * 4)) = some (.int .i64 kd2) := (readsI_at (LS.outer (s := ⟨⟨#[]⟩, some ad, lc, ys, 0⟩) (Bag.bag_rd S6.out 3 rfl)) (j + 1) _ HX2.out).1
   have f14 : World.cell? _ (⟨(ad.add ((j + 1) * 4)).block, (ad.add ((j + 1) * 4)).off + 1, none⟩) = some (.int .i64 n2) := (readsI_at (LS.outer (s := ⟨⟨#[]⟩, some ad, lc, ys, 0⟩) (Bag.bag_rd S6.out 3 rfl)) (j + 1) _ HX2.out).2.1
   have f15 : World.cell? _ (⟨(ad.add ((j + 1) * 4)).block, (ad.add ((j + 1) * 4)).off + 2, none⟩) = some (.string t2) := (readsI_at (LS.outer (s := ⟨⟨#[]⟩, some ad, lc, ys, 0⟩) (Bag.bag_rd S6.out 3 rfl)) (j + 1) _ HX2.out).2.2.1
   have f16 : World.cell? _ (⟨(ad.add ((j + 1) * 4)).block, (ad.add ((j + 1) * 4)).off + 3, none⟩) = some (.slice ia2 l2.length ic2) := (readsI_at (LS.outer (s := ⟨⟨#[]⟩, some ad, lc, ys, 0⟩) (Bag.bag_rd S6.out 3 rfl)) (j + 1) _ HX2.out).2.2.2
   by_cases he : na = nb
   ·
    have he' : (na == nb) = true := by simp [he]
    go_upto_region 6 with fail
    clear f0 f1 f2 f3 f4 f5 f6 f7 f8 f9 f10 f11 f12 f13 f14 f15 f16
    refine wp_region_held_drew (S := (fun w' => w'.cell? (ad.add (j * 4)) = some (.int .i64 kd) ∧ w'.cell? (⟨(ad.add (j * 4)).block, (ad.add (j * 4)).off + 1, none⟩) = some (.int .i64 n) ∧ w'.cell? (⟨(ad.add (j * 4)).block, (ad.add (j * 4)).off + 2, none⟩) = some (.string t) ∧ w'.cell? (⟨(ad.add (j * 4)).block, (ad.add (j * 4)).off + 3, none⟩) = some (.slice ia l.length ic) ∧ w'.cell? (ad.add ((j + 1) * 4)) = some (.int .i64 kd2) ∧ w'.cell? (⟨(ad.add ((j + 1) * 4)).block, (ad.add ((j + 1) * 4)).off + 1, none⟩) = some (.int .i64 n2) ∧ w'.cell? (⟨(ad.add ((j + 1) * 4)).block, (ad.add ((j + 1) * 4)).off + 2, none⟩) = some (.string t2) ∧ w'.cell? (⟨(ad.add ((j + 1) * 4)).block, (ad.add ((j + 1) * 4)).off + 3, none⟩) = some (.slice ia2 l2.length ic2))) (by kernel_rfl) ⟨(readsI_at (LS.outer (s := ⟨⟨#[]⟩, some ad, lc, ys, 0⟩) (Bag.bag_rd (Bag.drew1 S6.out) 3 rfl)) j _ HX1.out).1, (readsI_at (LS.outer (s := ⟨⟨#[]⟩, some ad, lc, ys, 0⟩) (Bag.bag_rd (Bag.drew1 S6.out) 3 rfl)) j _ HX1.out).2.1, (readsI_at (LS.outer (s := ⟨⟨#[]⟩, some ad, lc, ys, 0⟩) (Bag.bag_rd (Bag.drew1 S6.out) 3 rfl)) j _ HX1.out).2.2.1, (readsI_at (LS.outer (s := ⟨⟨#[]⟩, some ad, lc, ys, 0⟩) (Bag.bag_rd (Bag.drew1 S6.out) 3 rfl)) j _ HX1.out).2.2.2, (readsI_at (LS.outer (s := ⟨⟨#[]⟩, some ad, lc, ys, 0⟩) (Bag.bag_rd (Bag.drew1 S6.out) 3 rfl)) (j + 1) _ HX2.out).1, (readsI_at (LS.outer (s := ⟨⟨#[]⟩, some ad, lc, ys, 0⟩) (Bag.bag_rd (Bag.drew1 S6.out) 3 rfl)) (j + 1) _ HX2.out).2.1, (readsI_at (LS.outer (s := ⟨⟨#[]⟩, some ad, lc, ys, 0⟩) (Bag.bag_rd (Bag.drew1 S6.out) 3 rfl)) (j + 1) _ HX2.out).2.2.1, (readsI_at (LS.outer (s := ⟨⟨#[]⟩, some ad, lc, ys, 0⟩) (Bag.bag_rd (Bag.drew1 S6.out) 3 rfl)) (j + 1) _ HX2.out).2.2.2⟩ (fun hS => ?_)
    have S7 := Lib.hid (Bag.drew1 S6.out)
    clear S6
    generalize World.drew _ = w5 at hS S7 ⊢
    refine tk 0 rfl ?_
    try simp only [zp0, zp1, zp2, zp3, zp4]
    refine tk 1 rfl ?_
    try simp only [zp0, zp1, zp2, zp3, zp4]
    refine tk 2 rfl ?_
    try simp only [zp0, zp1, zp2, zp3, zp4]
    refine tk 3 rfl ?_
    try simp only [zp0, zp1, zp2, zp3, zp4]
    refine tk 4 rfl ?_
    try simp only [zp0, zp1, zp2, zp3, zp4]
    refine tk 5 rfl ?_
    try simp only [zp0, zp1, zp2, zp3, zp4]
    refine tk 6 rfl ?_
    try simp only [zp0, zp1, zp2, zp3, zp4]
    refine tk 7 rfl ?_
    try simp only [zp0, zp1, zp2, zp3, zp4]
    refine tk 8 rfl ?_
    try simp only [zp0, zp1, zp2, zp3, zp4]
    refine tk 9 rfl ?_
    try simp only [zp0, zp1, zp2, zp3, zp4]
    refine tk 10 rfl ?_
    try simp only [zp0, zp1, zp2, zp3, zp4]
    refine Reg.one_op (i := 11) rfl (by kernel_rfl) (fun K hK => ?_)
    obtain ⟨f0, f1, f2⟩ := Bag.cs3 S7.out 1 rfl
    obtain ⟨z0, z1, z2⟩ := Bag.fs3 S7.out 1 rfl
    go_simp
    clear f0 f1 f2 z0 z1 z2
    have S8 := Lib.hid (show Sl.Sep w _ [_, L4.boxR (w.heap.size + 1) 110 #[.int .i64 kd, .int .i64 n, .string t], _, _] from L5.put_box5 (L5.put_box5 (L5.put_box5 (S7.out) 1 rfl 0 (.int .i64 kd)) 1 rfl 1 (.int .i64 n)) 1 rfl 2 (.string t))
    clear S7
    refine hK.out _ _ ⟨(readsI_at (LS.outer (s := ⟨⟨#[]⟩, some ad, lc, ys, 0⟩) (Bag.bag_rd S8.out 3 rfl)) j _ HX1.out).1, (readsI_at (LS.outer (s := ⟨⟨#[]⟩, some ad, lc, ys, 0⟩) (Bag.bag_rd S8.out 3 rfl)) j _ HX1.out).2.1, (readsI_at (LS.outer (s := ⟨⟨#[]⟩, some ad, lc, ys, 0⟩) (Bag.bag_rd S8.out 3 rfl)) j _ HX1.out).2.2.1, (readsI_at (LS.outer (s := ⟨⟨#[]⟩, some ad, lc, ys, 0⟩) (Bag.bag_rd S8.out 3 rfl)) j _ HX1.out).2.2.2, (readsI_at (LS.outer (s := ⟨⟨#[]⟩, some ad, lc, ys, 0⟩) (Bag.bag_rd S8.out 3 rfl)) (j + 1) _ HX2.out).1, (readsI_at (LS.outer (s := ⟨⟨#[]⟩, some ad, lc, ys, 0⟩) (Bag.bag_rd S8.out 3 rfl)) (j + 1) _ HX2.out).2.1, (readsI_at (LS.outer (s := ⟨⟨#[]⟩, some ad, lc, ys, 0⟩) (Bag.bag_rd S8.out 3 rfl)) (j + 1) _ HX2.out).2.2.1, (readsI_at (LS.outer (s := ⟨⟨#[]⟩, some ad, lc, ys, 0⟩) (Bag.bag_rd S8.out 3 rfl)) (j + 1) _ HX2.out).2.2.2⟩ (fun hS => ?_)
    clear hK K
    try simp only [zp0, zp1, zp2, zp3, zp4]
    refine Reg.one_op (i := 12) rfl (by kernel_rfl) (fun K hK => ?_)
    obtain ⟨f0, f1, f2⟩ := Bag.cs3 S8.out 2 rfl
    obtain ⟨z0, z1, z2⟩ := Bag.fs3 S8.out 2 rfl
    go_simp
    clear f0 f1 f2 z0 z1 z2
    have S9 := Lib.hid (show Sl.Sep w _ [_, _, L4.boxR (w.heap.size + 1 + 1) 110 #[.int .i64 kd2, .int .i64 n2, .string t2], _] from L5.put_box5 (L5.put_box5 (L5.put_box5 (S8.out) 2 rfl 0 (.int .i64 kd2)) 2 rfl 1 (.int .i64 n2)) 2 rfl 2 (.string t2))
    clear S8
    refine hK.out _ _ ⟨(readsI_at (LS.outer (s := ⟨⟨#[]⟩, some ad, lc, ys, 0⟩) (Bag.bag_rd S9.out 3 rfl)) j _ HX1.out).1, (readsI_at (LS.outer (s := ⟨⟨#[]⟩, some ad, lc, ys, 0⟩) (Bag.bag_rd S9.out 3 rfl)) j _ HX1.out).2.1, (readsI_at (LS.outer (s := ⟨⟨#[]⟩, some ad, lc, ys, 0⟩) (Bag.bag_rd S9.out 3 rfl)) j _ HX1.out).2.2.1, (readsI_at (LS.outer (s := ⟨⟨#[]⟩, some ad, lc, ys, 0⟩) (Bag.bag_rd S9.out 3 rfl)) j _ HX1.out).2.2.2, (readsI_at (LS.outer (s := ⟨⟨#[]⟩, some ad, lc, ys, 0⟩) (Bag.bag_rd S9.out 3 rfl)) (j + 1) _ HX2.out).1, (readsI_at (LS.outer (s := ⟨⟨#[]⟩, some ad, lc, ys, 0⟩) (Bag.bag_rd S9.out 3 rfl)) (j + 1) _ HX2.out).2.1, (readsI_at (LS.outer (s := ⟨⟨#[]⟩, some ad, lc, ys, 0⟩) (Bag.bag_rd S9.out 3 rfl)) (j + 1) _ HX2.out).2.2.1, (readsI_at (LS.outer (s := ⟨⟨#[]⟩, some ad, lc, ys, 0⟩) (Bag.bag_rd S9.out 3 rfl)) (j + 1) _ HX2.out).2.2.2⟩ (fun hS => ?_)
    clear hK K
    try simp only [zp0, zp1, zp2, zp3, zp4]
    refine tk 13 rfl ?_
    try simp only [zp0, zp1, zp2, zp3, zp4]
    refine wpAnyH_done (by kernel_rfl) ?_ _
    obtain ⟨f0, f1, f2⟩ := Bag.cs3 S9.out 0 rfl
    obtain ⟨f3, f4, f5⟩ := Bag.cs3 S9.out 1 rfl
    obtain ⟨f6, f7, f8⟩ := Bag.cs3 S9.out 2 rfl
    have f9 : World.cell? _ (ad.add (j * 4)) = some (.int .i64 kd) := (readsI_at (LS.outer (s := ⟨⟨#[]⟩, some ad, lc, ys, 0⟩) (Bag.bag_rd S9.out 3 rfl)) j _ HX1.out).1
    have f10 : World.cell? _ (⟨(ad.add (j * 4)).block, (ad.add (j * 4)).off + 1, none⟩) = some (.int .i64 n) := (readsI_at (LS.outer (s := ⟨⟨#[]⟩, some ad, lc, ys, 0⟩) (Bag.bag_rd S9.out 3 rfl)) j _ HX1.out).2.1
    have f11 : World.cell? _ (⟨(ad.add (j * 4)).block, (ad.add (j * 4)).off + 2, none⟩) = some (.string t) := (readsI_at (LS.outer (s := ⟨⟨#[]⟩, some ad, lc, ys, 0⟩) (Bag.bag_rd S9.out 3 rfl)) j _ HX1.out).2.2.1
    have f12 : World.cell? _ (⟨(ad.add (j * 4)).block, (ad.add (j * 4)).off + 3, none⟩) = some (.slice ia l.length ic) := (readsI_at (LS.outer (s := ⟨⟨#[]⟩, some ad, lc, ys, 0⟩) (Bag.bag_rd S9.out 3 rfl)) j _ HX1.out).2.2.2
    have f13 : World.cell? _ (ad.add ((j + 1) * 4)) = some (.int .i64 kd2) := (readsI_at (LS.outer (s := ⟨⟨#[]⟩, some ad, lc, ys, 0⟩) (Bag.bag_rd S9.out 3 rfl)) (j + 1) _ HX2.out).1
    have f14 : World.cell? _ (⟨(ad.add ((j + 1) * 4)).block, (ad.add ((j + 1) * 4)).off + 1, none⟩) = some (.int .i64 n2) := (readsI_at (LS.outer (s := ⟨⟨#[]⟩, some ad, lc, ys, 0⟩) (Bag.bag_rd S9.out 3 rfl)) (j + 1) _ HX2.out).2.1
    have f15 : World.cell? _ (⟨(ad.add ((j + 1) * 4)).block, (ad.add ((j + 1) * 4)).off + 2, none⟩) = some (.string t2) := (readsI_at (LS.outer (s := ⟨⟨#[]⟩, some ad, lc, ys, 0⟩) (Bag.bag_rd S9.out 3 rfl)) (j + 1) _ HX2.out).2.2.1
    have f16 : World.cell? _ (⟨(ad.add ((j + 1) * 4)).block, (ad.add ((j + 1) * 4)).off + 3, none⟩) = some (.slice ia2 l2.length ic2) := (readsI_at (LS.outer (s := ⟨⟨#[]⟩, some ad, lc, ys, 0⟩) (Bag.bag_rd S9.out 3 rfl)) (j + 1) _ HX2.out).2.2.2
    clear f0 f1 f2 f3 f4 f5 f6 f7 f8 f9 f10 f11 f12 f13 f14 f15 f16
    obtain ⟨f0, f1, f2⟩ := Bag.cs3 S9.out 1 rfl
    obtain ⟨f3, f4, f5⟩ := Bag.cs3 S9.out 2 rfl
    have f6 : World.cell? _ (ad.add (j * 4)) = some (.int .i64 kd) := (readsI_at (LS.outer (s := ⟨⟨#[]⟩, some ad, lc, ys, 0⟩) (Bag.bag_rd S9.out 3 rfl)) j _ HX1.out).1
    have f7 : World.cell? _ (⟨(ad.add (j * 4)).block, (ad.add (j * 4)).off + 1, none⟩) = some (.int .i64 n) := (readsI_at (LS.outer (s := ⟨⟨#[]⟩, some ad, lc, ys, 0⟩) (Bag.bag_rd S9.out 3 rfl)) j _ HX1.out).2.1
    have f8 : World.cell? _ (⟨(ad.add (j * 4)).block, (ad.add (j * 4)).off + 2, none⟩) = some (.string t) := (readsI_at (LS.outer (s := ⟨⟨#[]⟩, some ad, lc, ys, 0⟩) (Bag.bag_rd S9.out 3 rfl)) j _ HX1.out).2.2.1
    have f9 : World.cell? _ (⟨(ad.add (j * 4)).block, (ad.add (j * 4)).off + 3, none⟩) = some (.slice ia l.length ic) := (readsI_at (LS.outer (s := ⟨⟨#[]⟩, some ad, lc, ys, 0⟩) (Bag.bag_rd S9.out 3 rfl)) j _ HX1.out).2.2.2
    have f10 : World.cell? _ (ad.add ((j + 1) * 4)) = some (.int .i64 kd2) := (readsI_at (LS.outer (s := ⟨⟨#[]⟩, some ad, lc, ys, 0⟩) (Bag.bag_rd S9.out 3 rfl)) (j + 1) _ HX2.out).1
    have f11 : World.cell? _ (⟨(ad.add ((j + 1) * 4)).block, (ad.add ((j + 1) * 4)).off + 1, none⟩) = some (.int .i64 n2) := (readsI_at (LS.outer (s := ⟨⟨#[]⟩, some ad, lc, ys, 0⟩) (Bag.bag_rd S9.out 3 rfl)) (j + 1) _ HX2.out).2.1
    have f12 : World.cell? _ (⟨(ad.add ((j + 1) * 4)).block, (ad.add ((j + 1) * 4)).off + 2, none⟩) = some (.string t2) := (readsI_at (LS.outer (s := ⟨⟨#[]⟩, some ad, lc, ys, 0⟩) (Bag.bag_rd S9.out 3 rfl)) (j + 1) _ HX2.out).2.2.1
    have f13 : World.cell? _ (⟨(ad.add ((j + 1) * 4)).block, (ad.add ((j + 1) * 4)).off + 3, none⟩) = some (.slice ia2 l2.length ic2) := (readsI_at (LS.outer (s := ⟨⟨#[]⟩, some ad, lc, ys, 0⟩) (Bag.bag_rd S9.out 3 rfl)) (j + 1) _ HX2.out).2.2.2
    go_wp2_with fail
    refine bodyPost_ret (v := .tuple #[.agg #[.int .i64 kd, .int .i64 n, .string t], .agg #[.int .i64 kd2, .int .i64 n2, .string t2], .bool true]) (by simp [results, Tryz.results140, go_sem, *]) rfl ?_
    clear f0 f1 f2 f3 f4 f5 f6 f7 f8 f9 f10 f11 f12 f13
    obtain ⟨e1, e2, e3⟩ := uf_yes (ufO_some (t := f.data.toList) (l := conI ys) (i := j) (by rw [conI_length, ← HN.out]; omega) (by rw [HAD.out]; exact he') HA.out) HC1.out HC2.out
    exact ⟨by rw [← HY.out, e1, e2, e3]; rfl, S9.out.old⟩
   ·
    have he' : (na == nb) = false := beq_no he
    go_wp2_with fail
    go_roundw
    case rel => exact ⟨j + 1, by omega, by go_num, And.intro (fun q hq => if e : q = j then by subst e; rw [HAD.out]; exact he' else HA.out q (by omega)) S6.out⟩
    case measure => simp [intOf]; omega
  ·
   skip
   obtain ⟨f0, f1, f2⟩ := Bag.cs3 S3.out 1 rfl
   obtain ⟨f3, f4, f5⟩ := Bag.cs3 S3.out 2 rfl
   obtain ⟨z0, z1, z2⟩ := Bag.fs3 S3.out 1 rfl
   have y0 := Bag.free_at S3.out 2 rfl 0
   have y1 := Bag.free_at S3.out 2 rfl 1
   have y2 := Bag.free_at S3.out 2 rfl 2
   go_wp2_with fail
   clear f0 f1 f2 f3 f4 f5 z0 z1 z2 y0 y1 y2
   have S4 := Lib.hid (show Sl.Sep w _ [L4.boxR w.heap.size 70 #[.string name, .slice a xs.length c, .int .i64 auto], L4.boxR (w.heap.size + 1) 110 #[.int .i64 0, .int .i64 0, .string ⟨#[]⟩], L4.boxR (w.heap.size + 1 + 1) 110 #[.int .i64 0, .int .i64 0, .string ⟨#[]⟩], Bag.bag (rowI la lc ys :: rowsI ys)] from L5.put_box5 (L5.put_box5 (L5.put_box5 (S3.out) 1 rfl 0 (.int .i64 0)) 1 rfl 1 (.int .i64 0)) 1 rfl 2 (.string ⟨#[]⟩))
   clear S3
   have S5 := Lib.hid (show Sl.Sep w _ [_, _, _, _] from L5.put_box5 (L5.put_box5 (L5.put_box5 (S4.out) 2 rfl 0 (.int .i64 0)) 2 rfl 1 (.int .i64 0)) 2 rfl 2 (.string ⟨#[]⟩))
   clear S4
   obtain ⟨f0, f1, f2⟩ := Bag.cs3 S5.out 1 rfl
   obtain ⟨f3, f4, f5⟩ := Bag.cs3 S5.out 2 rfl
   refine bodyPost_ret (v := .tuple #[.agg #[.int .i64 0, .int .i64 0, .string ⟨#[]⟩], .agg #[.int .i64 0, .int .i64 0, .string ⟨#[]⟩], .bool false]) (by simp [results, Tryz.results140, go_sem, *]) rfl ?_
   clear f0 f1 f2 f3 f4 f5
   obtain ⟨e1, e2, e3⟩ := uf_no (ufO_none (t := f.data.toList) (l := conI ys) (fun q hq => HA.out q (by rw [conI_length, ← HN.out] at hq; omega)))
   exact ⟨by rw [← HY.out, e1, e2, e3]; rfl, S5.out.old⟩
end Go.Proofs.YthljdhfgphebnaaGreat.L7

set_option linter.unusedSimpArgs false
namespace Go.Proofs.YthljdhfgphebnaaGreat.L8
open V L6 L7
open L4 (K isK cmpK)
open L5 (F isR isN string_geq)
open Go.Op (bytesLess)
open Go.ChangeShapes Go.WideShapes Go.ChangeAt Go.RowKit Mem Sl Ex L2 Sv Bag

theorem ixV_map {α β : Type} (co : α → β) (p : β → Bool) (xs : List α) : ixV (fun x => p (co x)) xs = numO ((xs.map co).findIdx? p) := by
 unfold ixV numO
 rw [List.findIdx?_map]
 rfl
theorem eqX_comm (a b : X_IndexDef) : eqX a b = eqX b a := by
 cases h : eqX a b with
 | true => rw [eqX_iff] at h; subst h; exact (eqX_iff.2 rfl).symm
 | false =>
  cases h2 : eqX b a with
  | false => rfl
  | true => rw [eqX_iff] at h2; subst h2; rw [eqX_iff.2 rfl] at h; cases h
theorem fresh_eq {us : List X_IndexDef} {u : X_IndexDef} {i : Nat} : freshX us u i = !(fndX (us.take i) u).isSome := by
 unfold freshX fndX
 rw [List.findIdx?_isSome, List.any_eq_not_all_not, Bool.not_not]

set_option maxHeartbeats 2000000 in
theorem findStore1_any (x : LS) (n : ByteArray) (g : Nat) (w : World) (hg : g < w.heap.size) (h0 : w.cell? ⟨g, 0, none⟩ = some (.string n)) :
  Calls Tryz.prog 146 #[vv_Store x, .pointer (some ⟨g, 0, none⟩)] w fun e w' => e = .returned (.bool (hasN n x.con)) ∧ Below w.heap.size w w' := by
 have HK := Lib.hid (fun w' (h : Below w.heap.size w w') => (⟨(h.cell (p := ⟨g, 0, none⟩) hg).trans h0, trivial⟩ : w'.cell? ⟨g, 0, none⟩ = some (.string n) ∧ True).1)
 clear h0
 unfold vv_Store hasN
 dsimp only [LS.con]
 have S1 := Lib.hid (show Sl.Sep w _ [_] from L4.push_box (Sl.Sep.start w) 70 #[.string x.name, .slice x.a x.xs.length x.c, .int .i64 x.auto] (w.heap.size) (by simp))
 obtain ⟨wa, hwa⟩ : ∃ w_, w_ = (w.alloc (.cells #[.string x.name, .slice x.a x.xs.length x.c, .int .i64 x.auto] 70)) := ⟨_, rfl⟩
 rw [← hwa] at S1
 go_enter Tryz.func146, Tryz.ntmps146
 go_upto_region 1 with fail
 rw [← hwa]
 clear hwa
 obtain ⟨f0, f1, f2⟩ := Bag.cs3 S1.out 0 rfl
 have fk := HK.out _ S1.out.old
 go_wp2_with fail
 go_ret
 exact ⟨rfl, S1.out.old⟩
set_option maxHeartbeats 2000000 in
theorem findStore_any (z : Y_Database) (n : ByteArray) (hf : FitD (co_Database z)) (w : World) (hr : RowsRd w w.heap.size (rw_Database z)) :
  Calls Tryz.prog 110 #[vv_Database z, .string n] w fun e w' => e = .returned (.int .i64 (numO (fndS (co_Database z).f_Stores n))) ∧ Below w.heap.size w w' := by
 have HR : Hid (∀ w' (h : Below w.heap.size w w'), Reads w' w.heap.size z.f_Stores_a (z.f_Stores.flatMap cl_Store)) := Lib.hid (fun w' h => (rdS hr).below h)
 have HX : Hid (∀ w' (h : Below w.heap.size w w'), RowsRd w' w'.heap.size (rws_Store z.f_Stores)) := Lib.hid (fun w' h => ((rdX hr).below h).more h.size)
 have HU : Hid (∀ w' (h : Below w.heap.size w w'), Reads w' w.heap.size z.f_Unique_a (z.f_Unique.flatMap cl_IndexDef)) := Lib.hid (fun w' h => (rdU hr).below h)
 have HFD := Lib.hid hf
 have HFDl : z.f_Stores.length ≤ 1048576 := by have h := hf.len; rwa [co_len] at h
 have HFDm : z.f_Unique.length ≤ 1048576 := hf.many
 clear hf hr
 obtain ⟨name, ver, sa, sc, ss, ua, uc, us⟩ := z
 dsimp only [co_Database] at HR HX HU HFD HFDl HFDm
 try unfold vv_Database
 try unfold co_Database
 try dsimp only
 try rw [show coS_IndexDef us = us from rfl]
 rw [show coS_IndexDef us = us from rfl] at HFD
 obtain ⟨N, hN⟩ : ∃ n, n = ss.length := ⟨_, rfl⟩
 obtain ⟨M, hM⟩ : ∃ n, n = us.length := ⟨_, rfl⟩
 rw [← hN] at HFDl ⊢
 rw [← hM] at HFDm ⊢
 have HFDl' : (N : Int) ≤ 1048576 := by omega
 have HFDm' : (M : Int) ≤ 1048576 := by omega
 have HN := Lib.hid hN
 have HM := Lib.hid hM
 clear hN hM
 obtain ⟨R, hR⟩ : ∃ r, numO (fndS (coS_Store ss) n) = r := ⟨_, rfl⟩
 rw [hR]
 have HRR := Lib.hid (show numO ((ss.map LS.con).findIdx? (hasN n)) = R from hR)
 clear hR
 have hmf : ∀ (fn : Fn) (first cap : Array Value) (w : World), (Instr.makeFunc fn first cap).run Tryz.prog w = .ok (.func fn first cap) w := fun _ _ _ _ => rfl
 have S1 := Lib.hid (show Sl.Sep w _ [_, _] from L4.push_box (L4.push_box (Sl.Sep.start w) 33 #[.string name, .int .i64 ver, .slice sa N sc, .slice ua M uc] (w.heap.size) (by simp)) 9 #[.string n] (w.heap.size + 1) (by simp))
 obtain ⟨wa, hwa⟩ : ∃ w_, w_ = ((w.alloc (.cells #[.string name, .int .i64 ver, .slice sa N sc, .slice ua M uc] 33)).alloc (.cells #[.string n] 9)) := ⟨_, rfl⟩
 rw [← hwa] at S1
 go_enter Tryz.func110, Tryz.ntmps110
 go_upto_region 1 with fail
 rw [← hwa]
 clear hwa
 have hg0 := Bag.cell_at S1.out 1 rfl 0 rfl
 have hlt := (S1.out.lies 1 _ rfl (w.heap.size + 1) (by simp [L4.boxR])).2
 skip
 skip
 obtain ⟨f0, f1, f2, f3⟩ := Bag.cs4 S1.out 0 rfl
 have f4 := Bag.cs1 S1.out 1 rfl
 go_wp2_with fail
 go_at_call 145
 have HIX := indexFunc_Store (w.heap.size + 1) (fun x => hasN n x.con) sa sc ss (by have := HN.out; omega) _ ((HR.out _ S1.out.old).more S1.out.old.size) (fun x hx w' hb => findStore1_any x n _ w' (Nat.lt_of_lt_of_le hlt hb.size) ((hb.cell (p := ⟨w.heap.size + 1, 0, none⟩) hlt).trans hg0))
 rw [ixV_map LS.con (hasN n) ss, HRR.out, ← HN.out] at HIX
 refine HIX.mono ?_
 rintro e w3 ⟨rfl, hb⟩
 clear HIX hg0 hlt
 clear f0 f1 f2 f3 f4
 have S2 := Lib.hid (S1.out.keep hb)
 clear S1
 clear hb
 go_wp2_with fail
 go_ret
 exact ⟨rfl, S2.out.old⟩
set_option maxHeartbeats 4000000 in
theorem indexX_any (a : Option Addr) (c : Nat) (us : List X_IndexDef) (u : X_IndexDef) (hl : us.length ≤ 1048576) (w : World) (hr : Reads w w.heap.size a (us.flatMap cl_IndexDef)) :
  Calls Tryz.prog 114 #[.slice a us.length c, vv_IndexDef u] w fun e w' => e = .returned (.int .i64 (numO (fndX us u))) ∧ Below w.heap.size w w' := by
 have HU := Lib.hid (fun w' (h : Below w.heap.size w w') => hr.below h)
 obtain ⟨M, hM⟩ : ∃ n, n = us.length := ⟨_, rfl⟩
 rw [← hM] at hl ⊢
 have hl' : (M : Int) ≤ 1048576 := by omega
 have HM := Lib.hid hM
 clear hM hr
 unfold vv_IndexDef
 have S1 := Lib.hid (show Sl.Sep w _ [_] from L4.push_box (Sl.Sep.start w) 73 #[.string u.f_Store, .string u.f_Field] (w.heap.size) (by simp))
 obtain ⟨wa, hwa⟩ : ∃ w_, w_ = (w.alloc (.cells #[.string u.f_Store, .string u.f_Field] 73)) := ⟨_, rfl⟩
 rw [← hwa] at S1
 go_enter Tryz.func114, Tryz.ntmps114
 go_upto_region 1 with fail
 rw [← hwa]
 clear hwa
 go_wp2_with fail
 go_loopw [8] (fun i wr => ∃ k : Nat, k ≤ M ∧ i = .int .i64 k ∧ Hid ((∀ j (hj : j < us.length), j < k → eqX us[j] u = false) ∧ Sl.Sep w wr [L4.boxR w.heap.size 73 #[.string u.f_Store, .string u.f_Field]])) (fun i _ => M - (intOf i).toNat)
 case atStart => exact ⟨0, Nat.zero_le _, rfl, And.intro (fun j hj h => absurd h (by omega)) S1.out⟩
 case round =>
  obtain ⟨k, hk, rfl, hrel⟩ := hrel
  have HA := Lib.hid hrel.out.1
  have S2 := Lib.hid hrel.out.2
  clear hrel S1
  by_cases hlt : (k : Int) < (M : Int)
  ·
   skip
   have hkl : k < us.length := by have := HM.out; omega
   obtain ⟨v, hv⟩ : ∃ x, us[k]? = some x := ⟨_, List.getElem?_eq_getElem hkl⟩
   obtain ⟨uad, e'⟩ := el_some cl_IndexDef_len (by decide) (HU.out _ S2.out.old) hkl
   subst e'
   have HKv := Lib.hid (fun w' (h : Below w.heap.size w w') => el2 cl_IndexDef_len (HU.out _ h) hv rfl)
   obtain ⟨b, hb⟩ : ∃ b, eqX u v = b := ⟨_, rfl⟩
   have HE := fun w => index_eq u v w
   rw [hb] at HE
   have HB := Lib.hid (show eqX us[k] u = b from by rw [(List.getElem?_eq_some_iff.1 hv).2, eqX_comm]; exact hb)
   clear hb hv
   obtain ⟨f0, f1⟩ := Bag.cs2 S2.out 0 rfl
   obtain ⟨f2, f3⟩ := HKv.out _ S2.out.old
   cases b with
   | true =>
    go_upto_region 4 with fail
    clear f0 f1 f2 f3
    refine wp_region_held_drew (S := (fun w' => (w'.cell? ⟨w.heap.size, 0, none⟩ = some (.string u.f_Store) ∧ w'.cell? ⟨w.heap.size, 1, none⟩ = some (.string u.f_Field)) ∧ (w'.cell? (uad.add (k * 2)) = some (.string v.f_Store) ∧ w'.cell? (⟨(uad.add (k * 2)).block, (uad.add (k * 2)).off + 1, none⟩) = some (.string v.f_Field)))) (by kernel_rfl) ⟨Bag.cs2 (Bag.drew1 S2.out) 0 rfl, HKv.out _ (Bag.drew1 S2.out).old⟩ (fun hS => ?_)
    have S3 := Lib.hid (Bag.drew1 S2.out)
    clear S2
    generalize World.drew _ = w1 at hS S3 ⊢
    refine tk 0 rfl ?_
    try simp only [zp0, zp1, zp2, zp3, zp4]
    refine tk 1 rfl ?_
    try simp only [zp0, zp1, zp2, zp3, zp4]
    refine tk 2 rfl ?_
    try simp only [zp0, zp1, zp2, zp3, zp4]
    refine tk 3 rfl ?_
    try simp only [zp0, zp1, zp2, zp3, zp4]
    refine tk 4 rfl ?_
    try simp only [zp0, zp1, zp2, zp3, zp4]
    refine tk 5 rfl ?_
    try simp only [zp0, zp1, zp2, zp3, zp4]
    refine wpAnyH_done (by kernel_rfl) ?_ _
    obtain ⟨f0, f1⟩ := Bag.cs2 S3.out 0 rfl
    obtain ⟨f2, f3⟩ := HKv.out _ S3.out.old
    go_wp2_with fail
    go_ret
    exact ⟨by unfold fndX; rw [idx_at (p := fun v => eqX v u) k hkl HB.out HA.out]; rfl, S3.out.old⟩
   | false =>
    go_upto_region 4 with fail
    clear f0 f1 f2 f3
    refine wp_region_held_drew (S := (fun w' => (w'.cell? ⟨w.heap.size, 0, none⟩ = some (.string u.f_Store) ∧ w'.cell? ⟨w.heap.size, 1, none⟩ = some (.string u.f_Field)) ∧ (w'.cell? (uad.add (k * 2)) = some (.string v.f_Store) ∧ w'.cell? (⟨(uad.add (k * 2)).block, (uad.add (k * 2)).off + 1, none⟩) = some (.string v.f_Field)))) (by kernel_rfl) ⟨Bag.cs2 (Bag.drew1 S2.out) 0 rfl, HKv.out _ (Bag.drew1 S2.out).old⟩ (fun hS => ?_)
    have S3 := Lib.hid (Bag.drew1 S2.out)
    clear S2
    generalize World.drew _ = w1 at hS S3 ⊢
    refine tk 0 rfl ?_
    try simp only [zp0, zp1, zp2, zp3, zp4]
    refine tk 1 rfl ?_
    try simp only [zp0, zp1, zp2, zp3, zp4]
    refine tk 2 rfl ?_
    try simp only [zp0, zp1, zp2, zp3, zp4]
    refine tk 3 rfl ?_
    try simp only [zp0, zp1, zp2, zp3, zp4]
    refine tk 4 rfl ?_
    try simp only [zp0, zp1, zp2, zp3, zp4]
    refine tk 5 rfl ?_
    try simp only [zp0, zp1, zp2, zp3, zp4]
    refine wpAnyH_done (by kernel_rfl) ?_ _
    obtain ⟨f0, f1⟩ := Bag.cs2 S3.out 0 rfl
    obtain ⟨f2, f3⟩ := HKv.out _ S3.out.old
    go_wp2_with fail
    go_roundw
    case rel => exact ⟨k + 1, by omega, by go_num, And.intro (fun j hj h => by
     by_cases e : j < k
     ·
      exact HA.out j hj e
     ·
      obtain rfl : j = k := by omega
      exact HB.out) S3.out⟩
    case measure => simp [intOf]; omega
  ·
   skip
   obtain ⟨f0, f1⟩ := Bag.cs2 S2.out 0 rfl
   obtain rfl : k = M := by omega
   go_wp2_with fail
   go_ret
   exact ⟨by unfold fndX; rw [idx_none (p := fun v => eqX v u) (fun j hj => HA.out j hj (by have := HM.out; omega))]; rfl, S2.out.old⟩
set_option maxHeartbeats 2000000 in
theorem containsX_any (a : Option Addr) (c : Nat) (us : List X_IndexDef) (u : X_IndexDef) (hl : us.length ≤ 1048576) (w : World) (hr : Reads w w.heap.size a (us.flatMap cl_IndexDef)) :
  Calls Tryz.prog 102 #[.slice a us.length c, vv_IndexDef u] w fun e w' => e = .returned (.bool (fndX us u).isSome) ∧ Below w.heap.size w w' := by
 have HIX := fun w' (h : Below w.heap.size w w') => indexX_any a c us u hl w' ((hr.below h).more h.size)
 obtain ⟨M, hM⟩ : ∃ n, n = us.length := ⟨_, rfl⟩
 rw [← hM] at HIX ⊢
 clear hM hl hr
 unfold vv_IndexDef at HIX ⊢
 obtain ⟨o, ho⟩ : ∃ o, fndX us u = o := ⟨_, rfl⟩
 rw [ho] at HIX ⊢
 clear ho
 replace HIX := Lib.hid HIX
 have S1 := Lib.hid (show Sl.Sep w _ [_] from L4.push_box (Sl.Sep.start w) 73 #[.string u.f_Store, .string u.f_Field] (w.heap.size) (by simp))
 obtain ⟨wa, hwa⟩ : ∃ w_, w_ = (w.alloc (.cells #[.string u.f_Store, .string u.f_Field] 73)) := ⟨_, rfl⟩
 rw [← hwa] at S1
 go_enter Tryz.func102, Tryz.ntmps102
 go_upto_region 1 with fail
 rw [← hwa]
 clear hwa
 obtain ⟨f0, f1⟩ := Bag.cs2 S1.out 0 rfl
 go_wp2_with fail
 go_at_call 114
 refine (HIX.out _ S1.out.old).mono ?_
 rintro e w1 ⟨rfl, hb⟩
 clear f0 f1
 have S2 := Lib.hid (S1.out.keep hb)
 clear S1
 clear hb
 obtain ⟨f0, f1⟩ := Bag.cs2 S2.out 0 rfl
 cases o with
 | none =>
  go_wp2_with fail
  go_ret
  exact ⟨rfl, S2.out.old⟩
 | some i =>
  have h0 : (0 : Int) ≤ (i : Int) := by omega
  dsimp only [numO]
  go_wp2_with fail
  go_ret
  exact ⟨by simp, S2.out.old⟩
set_option maxHeartbeats 8000000 in
theorem isKept_any (z : Y_Database) (u : X_IndexDef) (hf : FitD (co_Database z)) (hu : FitX u) (w : World) (hr : RowsRd w w.heap.size (rw_Database z)) :
  Calls Tryz.prog 103 #[vv_Database z, vv_IndexDef u] w fun e w' => e = .returned (.bool (keptX (co_Database z).f_Stores u)) ∧ Below w.heap.size w w' := by
 have HFS := Lib.hid (fun (n : ByteArray) w' (h : Below w.heap.size w w') => findStore_any z n hf w' ((hr.below h).more h.size))
 unfold vv_Database co_Database at HFS
 have HR : Hid (∀ w' (h : Below w.heap.size w w'), Reads w' w.heap.size z.f_Stores_a (z.f_Stores.flatMap cl_Store)) := Lib.hid (fun w' h => (rdS hr).below h)
 have HX : Hid (∀ w' (h : Below w.heap.size w w'), RowsRd w' w'.heap.size (rws_Store z.f_Stores)) := Lib.hid (fun w' h => ((rdX hr).below h).more h.size)
 have HU : Hid (∀ w' (h : Below w.heap.size w w'), Reads w' w.heap.size z.f_Unique_a (z.f_Unique.flatMap cl_IndexDef)) := Lib.hid (fun w' h => (rdU hr).below h)
 have HFD := Lib.hid hf
 have HFDl : z.f_Stores.length ≤ 1048576 := by have h := hf.len; rwa [co_len] at h
 have HFDm : z.f_Unique.length ≤ 1048576 := hf.many
 clear hf hr
 obtain ⟨name, ver, sa, sc, ss, ua, uc, us⟩ := z
 dsimp only [co_Database] at HR HX HU HFD HFDl HFDm
 try unfold vv_Database
 try unfold co_Database
 try dsimp only
 try rw [show coS_IndexDef us = us from rfl]
 rw [show coS_IndexDef us = us from rfl] at HFD
 obtain ⟨N, hN⟩ : ∃ n, n = ss.length := ⟨_, rfl⟩
 obtain ⟨M, hM⟩ : ∃ n, n = us.length := ⟨_, rfl⟩
 rw [← hN] at HFDl ⊢
 rw [← hM] at HFDm ⊢
 have HFDl' : (N : Int) ≤ 1048576 := by omega
 have HFDm' : (M : Int) ≤ 1048576 := by omega
 have HN := Lib.hid hN
 have HM := Lib.hid hM
 clear hN hM
 rw [← HN.out, ← HM.out] at HFS
 try dsimp only at HFS
 have HFu := Lib.hid hu
 unfold vv_IndexDef
 have S1 := Lib.hid (show Sl.Sep w _ [_, _] from L4.push_box (L4.push_box (Sl.Sep.start w) 33 #[.string name, .int .i64 ver, .slice sa N sc, .slice ua M uc] (w.heap.size) (by simp)) 73 #[.string u.f_Store, .string u.f_Field] (w.heap.size + 1) (by simp))
 obtain ⟨wa, hwa⟩ : ∃ w_, w_ = ((w.alloc (.cells #[.string name, .int .i64 ver, .slice sa N sc, .slice ua M uc] 33)).alloc (.cells #[.string u.f_Store, .string u.f_Field] 73)) := ⟨_, rfl⟩
 rw [← hwa] at S1
 go_enter Tryz.func103, Tryz.ntmps103
 go_upto_region 1 with fail
 rw [← hwa]
 clear hwa
 have HFI := fun w' (h : Below w.heap.size w w') => HFS.out u.f_Store w' h
 cases hfo : fndS (coS_Store ss) u.f_Store with
 | none =>
  rw [hfo] at HFI
  dsimp only [numO] at HFI
  replace HFI := Lib.hid HFI
  have HFO := Lib.hid hfo
  clear hfo
  obtain ⟨f0, f1, f2, f3⟩ := Bag.cs4 S1.out 0 rfl
  obtain ⟨f4, f5⟩ := Bag.cs2 S1.out 1 rfl
  go_wp2_with fail
  go_at_call 110
  refine (HFI.out _ S1.out.old).mono ?_
  rintro e w1 ⟨rfl, hb⟩
  clear f0 f1 f2 f3 f4 f5
  have S2 := Lib.hid (S1.out.keep hb)
  clear S1
  clear hb
  obtain ⟨f0, f1, f2, f3⟩ := Bag.cs4 S2.out 0 rfl
  obtain ⟨f4, f5⟩ := Bag.cs2 S2.out 1 rfl
  go_wp2_with fail
  go_ret
  exact ⟨by unfold keptX; rw [HFO.out]; rfl, S2.out.old⟩
 | some i =>
  have hil : i < ss.length := by obtain ⟨h1, _⟩ := idx_some hfo; rw [coS_len] at h1; exact h1
  have hiN : (i : Int) < (N : Int) := by have := HN.out; omega
  rw [hfo] at HFI
  dsimp only [numO] at HFI
  replace HFI := Lib.hid HFI
  have HFO := Lib.hid hfo
  clear hfo
  obtain ⟨f0, f1, f2, f3⟩ := Bag.cs4 S1.out 0 rfl
  obtain ⟨f4, f5⟩ := Bag.cs2 S1.out 1 rfl
  go_wp2_with fail
  go_at_call 110
  refine (HFI.out _ S1.out.old).mono ?_
  rintro e w1 ⟨rfl, hb⟩
  clear f0 f1 f2 f3 f4 f5
  have S2 := Lib.hid (S1.out.keep hb)
  clear S1
  clear hb
  obtain ⟨f0, f1, f2, f3⟩ := Bag.cs4 S2.out 0 rfl
  obtain ⟨f4, f5⟩ := Bag.cs2 S2.out 1 rfl
  clear f0 f1 f2 f3 f4 f5
  obtain ⟨bn, hbn⟩ : ∃ b, isN u.f_Field.data.toList = b := ⟨_, rfl⟩
  have HIN := fun w => L5.isName_any u.f_Field HFu.out.field w
  rw [hbn] at HIN
  replace HIN := Lib.hid HIN
  have HBN := Lib.hid hbn
  clear hbn
  obtain ⟨f0, f1, f2, f3⟩ := Bag.cs4 S2.out 0 rfl
  obtain ⟨f4, f5⟩ := Bag.cs2 S2.out 1 rfl
  cases bn with
  | false =>
   go_wp2_with fail
   go_at_call 68
   refine (HIN.out _).mono ?_
   rintro e w2 ⟨rfl, rfl⟩
   go_wp2_with fail
   go_ret
   exact ⟨by unfold keptX; rw [HFO.out]; dsimp only; rw [HBN.out]; rfl, S2.out.old⟩
  | true =>
   go_wp2_with fail
   go_at_call 68
   refine (HIN.out _).mono ?_
   rintro e w2 ⟨rfl, rfl⟩
   clear f0 f1 f2 f3 f4 f5
   obtain ⟨x, hx⟩ : ∃ x, ss[i]? = some x := ⟨_, List.getElem?_eq_getElem hil⟩
   obtain ⟨sad, e'⟩ := el_some cl_Store_len (by decide) (HR.out _ S2.out.old) hil
   subst e'
   have HKx := Lib.hid (fun w' (h : Below w.heap.size w w') => el3 cl_Store_len (HR.out _ h) hx rfl)
   have HRx := Lib.hid (fun w' (h : Below w.heap.size w w') => rd_store (HX.out w' h) hx)
   have HFx := Lib.hid (fit_store HFD.out.stores hx)
   have HCx := Lib.hid (coS_at hx)
   clear hx
   obtain ⟨bu, hbu⟩ : ∃ b, ufB u.f_Field.data.toList (idxI x.con.items u.f_Field.data.toList) = b := ⟨_, rfl⟩
   obtain ⟨KA, hKA⟩ : ∃ b, ufA u.f_Field.data.toList (idxI x.con.items u.f_Field.data.toList) = b := ⟨_, rfl⟩
   obtain ⟨KZ, hKZ⟩ : ∃ b, ufZ u.f_Field.data.toList (idxI x.con.items u.f_Field.data.toList) = b := ⟨_, rfl⟩
   have HUF := fun w' (h : Below w.heap.size w w') => uniqueFault_any x u.f_Field HFx.out w' (HRx.out w' h)
   rw [hbu, hKA, hKZ] at HUF
   dsimp only [LS.v, LS.cells, K.v] at HUF
   replace HUF := Lib.hid HUF
   have HBX := Lib.hid (show badX (coS_Store ss) i u.f_Field = bu from by unfold badX; rw [HCx.out]; exact hbu)
   clear hbu hKA hKZ
   have HKP := Lib.hid (show keptX (coS_Store ss) u = !bu from by unfold keptX; rw [HFO.out]; dsimp only; rw [HBN.out, HBX.out]; cases bu <;> rfl)
   obtain ⟨f0, f1, f2, f3⟩ := Bag.cs4 S2.out 0 rfl
   obtain ⟨f4, f5⟩ := Bag.cs2 S2.out 1 rfl
   obtain ⟨f6, f7, f8⟩ := HKx.out _ S2.out.old
   go_upto_region 4 with fail
   clear f0 f1 f2 f3 f4 f5 f6 f7 f8
   refine wp_region_held_drew (S := (fun w' => (w'.cell? ⟨w.heap.size, 0, none⟩ = some (.string name) ∧ w'.cell? ⟨w.heap.size, 1, none⟩ = some (.int .i64 ver) ∧ w'.cell? ⟨w.heap.size, 2, none⟩ = some (.slice (some sad) N sc) ∧ w'.cell? ⟨w.heap.size, 3, none⟩ = some (.slice ua M uc)) ∧ (w'.cell? ⟨w.heap.size + 1, 0, none⟩ = some (.string u.f_Store) ∧ w'.cell? ⟨w.heap.size + 1, 1, none⟩ = some (.string u.f_Field)) ∧ (w'.cell? (sad.add (i * 3)) = some (.string x.name) ∧ w'.cell? (⟨(sad.add (i * 3)).block, (sad.add (i * 3)).off + 1, none⟩) = some (.slice x.a x.xs.length x.c) ∧ w'.cell? (⟨(sad.add (i * 3)).block, (sad.add (i * 3)).off + 2, none⟩) = some (.int .i64 x.auto)))) (by kernel_rfl) ⟨Bag.cs4 (Bag.drew1 S2.out) 0 rfl, Bag.cs2 (Bag.drew1 S2.out) 1 rfl, HKx.out _ (Bag.drew1 S2.out).old⟩ (fun hS => ?_)
   have S3 := Lib.hid (Bag.drew1 S2.out)
   clear S2
   generalize World.drew _ = w3 at hS S3 ⊢
   refine tk 0 rfl ?_
   try simp only [zp0, zp1, zp2, zp3, zp4]
   refine tk 1 rfl ?_
   try simp only [zp0, zp1, zp2, zp3, zp4]
   refine tk 2 rfl ?_
   try simp only [zp0, zp1, zp2, zp3, zp4]
   refine tk 3 rfl ?_
   try simp only [zp0, zp1, zp2, zp3, zp4]
   refine tk 4 rfl ?_
   try simp only [zp0, zp1, zp2, zp3, zp4]
   refine tk 5 rfl ?_
   try simp only [zp0, zp1, zp2, zp3, zp4]
   refine tk 6 rfl ?_
   try simp only [zp0, zp1, zp2, zp3, zp4]
   refine wpAnyH_ready (rs := [7, 12, 13]) (by kernel_rfl) (by simp) ?_
   refine Reg.cons_op (i := 7) rfl (fun K hK => ?_) ?_
   ·
    skip
    go_simp
    go_at_call 140
    refine (HUF.out _ S3.out.old).mono ?_
    rintro e w4 ⟨rfl, hb⟩
    have S4 := Lib.hid (S3.out.keep hb)
    clear S3
    clear hb
    go_wp2_with fail
    refine hK.out _ _ ⟨Bag.cs4 S4.out 0 rfl, Bag.cs2 S4.out 1 rfl, HKx.out _ S4.out.old⟩ (fun hS => ?_)
    clear hK K
    try simp only [zp0, zp1, zp2, zp3, zp4]
    refine tk 8 rfl ?_
    try simp only [zp0, zp1, zp2, zp3, zp4]
    refine tk 9 rfl ?_
    try simp only [zp0, zp1, zp2, zp3, zp4]
    refine tk 10 rfl ?_
    try simp only [zp0, zp1, zp2, zp3, zp4]
    refine tk 11 rfl ?_
    try simp only [zp0, zp1, zp2, zp3, zp4]
    refine wpAnyH_ready (rs := [12, 13]) (by kernel_rfl) (by simp) ?_
    refine Reg.cons_op (i := 12) rfl (fun K hK => ?_) ?_
    ·
     skip
     go_simp
     have S5 := Lib.hid (show Sl.Sep w _ [_, _, _] from L4.push_box S4.out 110 #[.int .i64 0, .int .i64 0, .string ⟨#[]⟩] w4.heap.size rfl)
     clear S4
     obtain ⟨g1, hg⟩ : ∃ g', g' = w4.heap.size := ⟨_, rfl⟩
     rw [← hg] at S5 ⊢
     clear hg
     generalize w4.alloc (.cells #[.int .i64 0, .int .i64 0, .string ⟨#[]⟩] 110) = w5 at S5 ⊢
     refine hK.out _ _ ⟨Bag.cs4 S5.out 0 rfl, Bag.cs2 S5.out 1 rfl, HKx.out _ S5.out.old⟩ (fun hS => ?_)
     clear hK K
     try simp only [zp0, zp1, zp2, zp3, zp4]
     refine Reg.one_op (i := 13) rfl (by kernel_rfl) (fun K hK => ?_)
     go_simp
     have S6 := Lib.hid (show Sl.Sep w _ [_, _, _, _] from L4.push_box S5.out 110 #[.int .i64 0, .int .i64 0, .string ⟨#[]⟩] w5.heap.size rfl)
     clear S5
     obtain ⟨g2, hg⟩ : ∃ g', g' = w5.heap.size := ⟨_, rfl⟩
     rw [← hg] at S6 ⊢
     clear hg
     generalize w5.alloc (.cells #[.int .i64 0, .int .i64 0, .string ⟨#[]⟩] 110) = w6 at S6 ⊢
     refine hK.out _ _ ⟨Bag.cs4 S6.out 0 rfl, Bag.cs2 S6.out 1 rfl, HKx.out _ S6.out.old⟩ (fun hS => ?_)
     clear hK K
     try simp only [zp0, zp1, zp2, zp3, zp4]
     refine Reg.one_op (i := 14) rfl (by kernel_rfl) (fun K hK => ?_)
     obtain ⟨f0, f1, f2⟩ := Bag.cs3 S6.out 2 rfl
     obtain ⟨z0, z1, z2⟩ := Bag.fs3 S6.out 2 rfl
     go_simp
     clear f0 f1 f2 z0 z1 z2
     have S7 := Lib.hid (show Sl.Sep w _ [_, _, L4.boxR g1 110 #[.int .i64 KA.kind, .int .i64 KA.n, .string KA.text], L4.boxR g2 110 #[.int .i64 0, .int .i64 0, .string ⟨#[]⟩]] from L5.put_box5 (L5.put_box5 (L5.put_box5 (S6.out) 2 rfl 0 (.int .i64 KA.kind)) 2 rfl 1 (.int .i64 KA.n)) 2 rfl 2 (.string KA.text))
     clear S6
     refine hK.out _ _ ⟨Bag.cs4 S7.out 0 rfl, Bag.cs2 S7.out 1 rfl, HKx.out _ S7.out.old⟩ (fun hS => ?_)
     clear hK K
     try simp only [zp0, zp1, zp2, zp3, zp4]
     refine Reg.one_op (i := 15) rfl (by kernel_rfl) (fun K hK => ?_)
     obtain ⟨f0, f1, f2⟩ := Bag.cs3 S7.out 3 rfl
     obtain ⟨z0, z1, z2⟩ := Bag.fs3 S7.out 3 rfl
     go_simp
     clear f0 f1 f2 z0 z1 z2
     have S8 := Lib.hid (show Sl.Sep w _ [_, _, _, L4.boxR g2 110 #[.int .i64 KZ.kind, .int .i64 KZ.n, .string KZ.text]] from L5.put_box5 (L5.put_box5 (L5.put_box5 (S7.out) 3 rfl 0 (.int .i64 KZ.kind)) 3 rfl 1 (.int .i64 KZ.n)) 3 rfl 2 (.string KZ.text))
     clear S7
     refine hK.out _ _ ⟨Bag.cs4 S8.out 0 rfl, Bag.cs2 S8.out 1 rfl, HKx.out _ S8.out.old⟩ (fun hS => ?_)
     clear hK K
     try simp only [zp0, zp1, zp2, zp3, zp4]
     refine tk 16 rfl ?_
     try simp only [zp0, zp1, zp2, zp3, zp4]
     refine wpAnyH_done (by kernel_rfl) ?_ _
     obtain ⟨f0, f1, f2, f3⟩ := Bag.cs4 S8.out 0 rfl
     obtain ⟨f4, f5⟩ := Bag.cs2 S8.out 1 rfl
     obtain ⟨f6, f7, f8⟩ := Bag.cs3 S8.out 2 rfl
     obtain ⟨f9, f10, f11⟩ := Bag.cs3 S8.out 3 rfl
     obtain ⟨f12, f13, f14⟩ := HKx.out _ S8.out.old
     clear f0 f1 f2 f3 f4 f5 f6 f7 f8 f9 f10 f11 f12 f13 f14
     have S9 := Lib.hid (show Sl.Sep w _ [_, _] from Bag.take S8.out [0, 1] (by rfl) (by decide))
     clear S8
     go_wp2_with fail
     go_ret
     exact ⟨by rw [HKP.out] <;> rfl, S9.out.old⟩
    refine Reg.cons_op (i := 13) rfl (fun K hK => ?_) ?_
    ·
     skip
     go_simp
     have S5 := Lib.hid (show Sl.Sep w _ [_, _, _] from L4.push_box S4.out 110 #[.int .i64 0, .int .i64 0, .string ⟨#[]⟩] w4.heap.size rfl)
     clear S4
     obtain ⟨g1, hg⟩ : ∃ g', g' = w4.heap.size := ⟨_, rfl⟩
     rw [← hg] at S5 ⊢
     clear hg
     generalize w4.alloc (.cells #[.int .i64 0, .int .i64 0, .string ⟨#[]⟩] 110) = w5 at S5 ⊢
     refine hK.out _ _ ⟨Bag.cs4 S5.out 0 rfl, Bag.cs2 S5.out 1 rfl, HKx.out _ S5.out.old⟩ (fun hS => ?_)
     clear hK K
     try simp only [zp0, zp1, zp2, zp3, zp4]
     refine Reg.one_op (i := 12) rfl (by kernel_rfl) (fun K hK => ?_)
     go_simp
     have S6 := Lib.hid (show Sl.Sep w _ [_, _, _, _] from L4.push_box S5.out 110 #[.int .i64 0, .int .i64 0, .string ⟨#[]⟩] w5.heap.size rfl)
     clear S5
     obtain ⟨g2, hg⟩ : ∃ g', g' = w5.heap.size := ⟨_, rfl⟩
     rw [← hg] at S6 ⊢
     clear hg
     generalize w5.alloc (.cells #[.int .i64 0, .int .i64 0, .string ⟨#[]⟩] 110) = w6 at S6 ⊢
     refine hK.out _ _ ⟨Bag.cs4 S6.out 0 rfl, Bag.cs2 S6.out 1 rfl, HKx.out _ S6.out.old⟩ (fun hS => ?_)
     clear hK K
     try simp only [zp0, zp1, zp2, zp3, zp4]
     refine Reg.one_op (i := 14) rfl (by kernel_rfl) (fun K hK => ?_)
     obtain ⟨f0, f1, f2⟩ := Bag.cs3 S6.out 3 rfl
     obtain ⟨z0, z1, z2⟩ := Bag.fs3 S6.out 3 rfl
     go_simp
     clear f0 f1 f2 z0 z1 z2
     have S7 := Lib.hid (show Sl.Sep w _ [_, _, _, L4.boxR g2 110 #[.int .i64 KA.kind, .int .i64 KA.n, .string KA.text]] from L5.put_box5 (L5.put_box5 (L5.put_box5 (S6.out) 3 rfl 0 (.int .i64 KA.kind)) 3 rfl 1 (.int .i64 KA.n)) 3 rfl 2 (.string KA.text))
     clear S6
     refine hK.out _ _ ⟨Bag.cs4 S7.out 0 rfl, Bag.cs2 S7.out 1 rfl, HKx.out _ S7.out.old⟩ (fun hS => ?_)
     clear hK K
     try simp only [zp0, zp1, zp2, zp3, zp4]
     refine Reg.one_op (i := 15) rfl (by kernel_rfl) (fun K hK => ?_)
     obtain ⟨f0, f1, f2⟩ := Bag.cs3 S7.out 2 rfl
     obtain ⟨z0, z1, z2⟩ := Bag.fs3 S7.out 2 rfl
     go_simp
     clear f0 f1 f2 z0 z1 z2
     have S8 := Lib.hid (show Sl.Sep w _ [_, _, L4.boxR g1 110 #[.int .i64 KZ.kind, .int .i64 KZ.n, .string KZ.text], _] from L5.put_box5 (L5.put_box5 (L5.put_box5 (S7.out) 2 rfl 0 (.int .i64 KZ.kind)) 2 rfl 1 (.int .i64 KZ.n)) 2 rfl 2 (.string KZ.text))
     clear S7
     refine hK.out _ _ ⟨Bag.cs4 S8.out 0 rfl, Bag.cs2 S8.out 1 rfl, HKx.out _ S8.out.old⟩ (fun hS => ?_)
     clear hK K
     try simp only [zp0, zp1, zp2, zp3, zp4]
     refine tk 16 rfl ?_
     try simp only [zp0, zp1, zp2, zp3, zp4]
     refine wpAnyH_done (by kernel_rfl) ?_ _
     obtain ⟨f0, f1, f2, f3⟩ := Bag.cs4 S8.out 0 rfl
     obtain ⟨f4, f5⟩ := Bag.cs2 S8.out 1 rfl
     obtain ⟨f6, f7, f8⟩ := Bag.cs3 S8.out 2 rfl
     obtain ⟨f9, f10, f11⟩ := Bag.cs3 S8.out 3 rfl
     obtain ⟨f12, f13, f14⟩ := HKx.out _ S8.out.old
     clear f0 f1 f2 f3 f4 f5 f6 f7 f8 f9 f10 f11 f12 f13 f14
     have S9 := Lib.hid (show Sl.Sep w _ [_, _] from Bag.take S8.out [0, 1] (by rfl) (by decide))
     clear S8
     go_wp2_with fail
     go_ret
     exact ⟨by rw [HKP.out] <;> rfl, S9.out.old⟩
    exact AllReadyH.nil
   refine Reg.cons_op (i := 12) rfl (fun K hK => ?_) ?_
   ·
    skip
    go_simp
    have S4 := Lib.hid (show Sl.Sep w _ [_, _, _] from L4.push_box S3.out 110 #[.int .i64 0, .int .i64 0, .string ⟨#[]⟩] w3.heap.size rfl)
    clear S3
    obtain ⟨g1, hg⟩ : ∃ g', g' = w3.heap.size := ⟨_, rfl⟩
    rw [← hg] at S4 ⊢
    clear hg
    generalize w3.alloc (.cells #[.int .i64 0, .int .i64 0, .string ⟨#[]⟩] 110) = w4 at S4 ⊢
    refine hK.out _ _ ⟨Bag.cs4 S4.out 0 rfl, Bag.cs2 S4.out 1 rfl, HKx.out _ S4.out.old⟩ (fun hS => ?_)
    clear hK K
    try simp only [zp0, zp1, zp2, zp3, zp4]
    refine wpAnyH_ready (rs := [7, 13]) (by kernel_rfl) (by simp) ?_
    refine Reg.cons_op (i := 7) rfl (fun K hK => ?_) ?_
    ·
     skip
     go_simp
     go_at_call 140
     refine (HUF.out _ S4.out.old).mono ?_
     rintro e w5 ⟨rfl, hb⟩
     have S5 := Lib.hid (S4.out.keep hb)
     clear S4
     clear hb
     go_wp2_with fail
     refine hK.out _ _ ⟨Bag.cs4 S5.out 0 rfl, Bag.cs2 S5.out 1 rfl, HKx.out _ S5.out.old⟩ (fun hS => ?_)
     clear hK K
     try simp only [zp0, zp1, zp2, zp3, zp4]
     refine tk 8 rfl ?_
     try simp only [zp0, zp1, zp2, zp3, zp4]
     refine tk 9 rfl ?_
     try simp only [zp0, zp1, zp2, zp3, zp4]
     refine tk 10 rfl ?_
     try simp only [zp0, zp1, zp2, zp3, zp4]
     refine tk 11 rfl ?_
     try simp only [zp0, zp1, zp2, zp3, zp4]
     refine Reg.one_op (i := 13) rfl (by kernel_rfl) (fun K hK => ?_)
     go_simp
     have S6 := Lib.hid (show Sl.Sep w _ [_, _, _, _] from L4.push_box S5.out 110 #[.int .i64 0, .int .i64 0, .string ⟨#[]⟩] w5.heap.size rfl)
     clear S5
     obtain ⟨g2, hg⟩ : ∃ g', g' = w5.heap.size := ⟨_, rfl⟩
     rw [← hg] at S6 ⊢
     clear hg
     generalize w5.alloc (.cells #[.int .i64 0, .int .i64 0, .string ⟨#[]⟩] 110) = w6 at S6 ⊢
     refine hK.out _ _ ⟨Bag.cs4 S6.out 0 rfl, Bag.cs2 S6.out 1 rfl, HKx.out _ S6.out.old⟩ (fun hS => ?_)
     clear hK K
     try simp only [zp0, zp1, zp2, zp3, zp4]
     refine Reg.one_op (i := 14) rfl (by kernel_rfl) (fun K hK => ?_)
     obtain ⟨f0, f1, f2⟩ := Bag.cs3 S6.out 2 rfl
     obtain ⟨z0, z1, z2⟩ := Bag.fs3 S6.out 2 rfl
     go_simp
     clear f0 f1 f2 z0 z1 z2
     have S7 := Lib.hid (show Sl.Sep w _ [_, _, L4.boxR g1 110 #[.int .i64 KA.kind, .int .i64 KA.n, .string KA.text], L4.boxR g2 110 #[.int .i64 0, .int .i64 0, .string ⟨#[]⟩]] from L5.put_box5 (L5.put_box5 (L5.put_box5 (S6.out) 2 rfl 0 (.int .i64 KA.kind)) 2 rfl 1 (.int .i64 KA.n)) 2 rfl 2 (.string KA.text))
     clear S6
     refine hK.out _ _ ⟨Bag.cs4 S7.out 0 rfl, Bag.cs2 S7.out 1 rfl, HKx.out _ S7.out.old⟩ (fun hS => ?_)
     clear hK K
     try simp only [zp0, zp1, zp2, zp3, zp4]
     refine Reg.one_op (i := 15) rfl (by kernel_rfl) (fun K hK => ?_)
     obtain ⟨f0, f1, f2⟩ := Bag.cs3 S7.out 3 rfl
     obtain ⟨z0, z1, z2⟩ := Bag.fs3 S7.out 3 rfl
     go_simp
     clear f0 f1 f2 z0 z1 z2
     have S8 := Lib.hid (show Sl.Sep w _ [_, _, _, L4.boxR g2 110 #[.int .i64 KZ.kind, .int .i64 KZ.n, .string KZ.text]] from L5.put_box5 (L5.put_box5 (L5.put_box5 (S7.out) 3 rfl 0 (.int .i64 KZ.kind)) 3 rfl 1 (.int .i64 KZ.n)) 3 rfl 2 (.string KZ.text))
     clear S7
     refine hK.out _ _ ⟨Bag.cs4 S8.out 0 rfl, Bag.cs2 S8.out 1 rfl, HKx.out _ S8.out.old⟩ (fun hS => ?_)
     clear hK K
     try simp only [zp0, zp1, zp2, zp3, zp4]
     refine tk 16 rfl ?_
     try simp only [zp0, zp1, zp2, zp3, zp4]
     refine wpAnyH_done (by kernel_rfl) ?_ _
     obtain ⟨f0, f1, f2, f3⟩ := Bag.cs4 S8.out 0 rfl
     obtain ⟨f4, f5⟩ := Bag.cs2 S8.out 1 rfl
     obtain ⟨f6, f7, f8⟩ := Bag.cs3 S8.out 2 rfl
     obtain ⟨f9, f10, f11⟩ := Bag.cs3 S8.out 3 rfl
     obtain ⟨f12, f13, f14⟩ := HKx.out _ S8.out.old
     clear f0 f1 f2 f3 f4 f5 f6 f7 f8 f9 f10 f11 f12 f13 f14
     have S9 := Lib.hid (show Sl.Sep w _ [_, _] from Bag.take S8.out [0, 1] (by rfl) (by decide))
     clear S8
     go_wp2_with fail
     go_ret
     exact ⟨by rw [HKP.out] <;> rfl, S9.out.old⟩
    refine Reg.cons_op (i := 13) rfl (fun K hK => ?_) ?_
    ·
     skip
     go_simp
     have S5 := Lib.hid (show Sl.Sep w _ [_, _, _, _] from L4.push_box S4.out 110 #[.int .i64 0, .int .i64 0, .string ⟨#[]⟩] w4.heap.size rfl)
     clear S4
     obtain ⟨g2, hg⟩ : ∃ g', g' = w4.heap.size := ⟨_, rfl⟩
     rw [← hg] at S5 ⊢
     clear hg
     generalize w4.alloc (.cells #[.int .i64 0, .int .i64 0, .string ⟨#[]⟩] 110) = w5 at S5 ⊢
     refine hK.out _ _ ⟨Bag.cs4 S5.out 0 rfl, Bag.cs2 S5.out 1 rfl, HKx.out _ S5.out.old⟩ (fun hS => ?_)
     clear hK K
     try simp only [zp0, zp1, zp2, zp3, zp4]
     refine Reg.one_op (i := 7) rfl (by kernel_rfl) (fun K hK => ?_)
     go_simp
     go_at_call 140
     refine (HUF.out _ S5.out.old).mono ?_
     rintro e w6 ⟨rfl, hb⟩
     have S6 := Lib.hid (S5.out.keep hb)
     clear S5
     clear hb
     go_wp2_with fail
     refine hK.out _ _ ⟨Bag.cs4 S6.out 0 rfl, Bag.cs2 S6.out 1 rfl, HKx.out _ S6.out.old⟩ (fun hS => ?_)
     clear hK K
     try simp only [zp0, zp1, zp2, zp3, zp4]
     refine tk 8 rfl ?_
     try simp only [zp0, zp1, zp2, zp3, zp4]
     refine tk 9 rfl ?_
     try simp only [zp0, zp1, zp2, zp3, zp4]
     refine tk 10 rfl ?_
     try simp only [zp0, zp1, zp2, zp3, zp4]
     refine tk 11 rfl ?_
     try simp only [zp0, zp1, zp2, zp3, zp4]
     refine Reg.one_op (i := 14) rfl (by kernel_rfl) (fun K hK => ?_)
     obtain ⟨f0, f1, f2⟩ := Bag.cs3 S6.out 2 rfl
     obtain ⟨z0, z1, z2⟩ := Bag.fs3 S6.out 2 rfl
     go_simp
     clear f0 f1 f2 z0 z1 z2
     have S7 := Lib.hid (show Sl.Sep w _ [_, _, L4.boxR g1 110 #[.int .i64 KA.kind, .int .i64 KA.n, .string KA.text], L4.boxR g2 110 #[.int .i64 0, .int .i64 0, .string ⟨#[]⟩]] from L5.put_box5 (L5.put_box5 (L5.put_box5 (S6.out) 2 rfl 0 (.int .i64 KA.kind)) 2 rfl 1 (.int .i64 KA.n)) 2 rfl 2 (.string KA.text))
     clear S6
     refine hK.out _ _ ⟨Bag.cs4 S7.out 0 rfl, Bag.cs2 S7.out 1 rfl, HKx.out _ S7.out.old⟩ (fun hS => ?_)
     clear hK K
     try simp only [zp0, zp1, zp2, zp3, zp4]
     refine Reg.one_op (i := 15) rfl (by kernel_rfl) (fun K hK => ?_)
     obtain ⟨f0, f1, f2⟩ := Bag.cs3 S7.out 3 rfl
     obtain ⟨z0, z1, z2⟩ := Bag.fs3 S7.out 3 rfl
     go_simp
     clear f0 f1 f2 z0 z1 z2
     have S8 := Lib.hid (show Sl.Sep w _ [_, _, _, L4.boxR g2 110 #[.int .i64 KZ.kind, .int .i64 KZ.n, .string KZ.text]] from L5.put_box5 (L5.put_box5 (L5.put_box5 (S7.out) 3 rfl 0 (.int .i64 KZ.kind)) 3 rfl 1 (.int .i64 KZ.n)) 3 rfl 2 (.string KZ.text))
     clear S7
     refine hK.out _ _ ⟨Bag.cs4 S8.out 0 rfl, Bag.cs2 S8.out 1 rfl, HKx.out _ S8.out.old⟩ (fun hS => ?_)
     clear hK K
     try simp only [zp0, zp1, zp2, zp3, zp4]
     refine tk 16 rfl ?_
     try simp only [zp0, zp1, zp2, zp3, zp4]
     refine wpAnyH_done (by kernel_rfl) ?_ _
     obtain ⟨f0, f1, f2, f3⟩ := Bag.cs4 S8.out 0 rfl
     obtain ⟨f4, f5⟩ := Bag.cs2 S8.out 1 rfl
     obtain ⟨f6, f7, f8⟩ := Bag.cs3 S8.out 2 rfl
     obtain ⟨f9, f10, f11⟩ := Bag.cs3 S8.out 3 rfl
     obtain ⟨f12, f13, f14⟩ := HKx.out _ S8.out.old
     clear f0 f1 f2 f3 f4 f5 f6 f7 f8 f9 f10 f11 f12 f13 f14
     have S9 := Lib.hid (show Sl.Sep w _ [_, _] from Bag.take S8.out [0, 1] (by rfl) (by decide))
     clear S8
     go_wp2_with fail
     go_ret
     exact ⟨by rw [HKP.out] <;> rfl, S9.out.old⟩
    exact AllReadyH.nil
   refine Reg.cons_op (i := 13) rfl (fun K hK => ?_) ?_
   ·
    skip
    go_simp
    have S4 := Lib.hid (show Sl.Sep w _ [_, _, _] from L4.push_box S3.out 110 #[.int .i64 0, .int .i64 0, .string ⟨#[]⟩] w3.heap.size rfl)
    clear S3
    obtain ⟨g1, hg⟩ : ∃ g', g' = w3.heap.size := ⟨_, rfl⟩
    rw [← hg] at S4 ⊢
    clear hg
    generalize w3.alloc (.cells #[.int .i64 0, .int .i64 0, .string ⟨#[]⟩] 110) = w4 at S4 ⊢
    refine hK.out _ _ ⟨Bag.cs4 S4.out 0 rfl, Bag.cs2 S4.out 1 rfl, HKx.out _ S4.out.old⟩ (fun hS => ?_)
    clear hK K
    try simp only [zp0, zp1, zp2, zp3, zp4]
    refine wpAnyH_ready (rs := [7, 12]) (by kernel_rfl) (by simp) ?_
    refine Reg.cons_op (i := 7) rfl (fun K hK => ?_) ?_
    ·
     skip
     go_simp
     go_at_call 140
     refine (HUF.out _ S4.out.old).mono ?_
     rintro e w5 ⟨rfl, hb⟩
     have S5 := Lib.hid (S4.out.keep hb)
     clear S4
     clear hb
     go_wp2_with fail
     refine hK.out _ _ ⟨Bag.cs4 S5.out 0 rfl, Bag.cs2 S5.out 1 rfl, HKx.out _ S5.out.old⟩ (fun hS => ?_)
     clear hK K
     try simp only [zp0, zp1, zp2, zp3, zp4]
     refine tk 8 rfl ?_
     try simp only [zp0, zp1, zp2, zp3, zp4]
     refine tk 9 rfl ?_
     try simp only [zp0, zp1, zp2, zp3, zp4]
     refine tk 10 rfl ?_
     try simp only [zp0, zp1, zp2, zp3, zp4]
     refine tk 11 rfl ?_
     try simp only [zp0, zp1, zp2, zp3, zp4]
     refine Reg.one_op (i := 12) rfl (by kernel_rfl) (fun K hK => ?_)
     go_simp
     have S6 := Lib.hid (show Sl.Sep w _ [_, _, _, _] from L4.push_box S5.out 110 #[.int .i64 0, .int .i64 0, .string ⟨#[]⟩] w5.heap.size rfl)
     clear S5
     obtain ⟨g2, hg⟩ : ∃ g', g' = w5.heap.size := ⟨_, rfl⟩
     rw [← hg] at S6 ⊢
     clear hg
     generalize w5.alloc (.cells #[.int .i64 0, .int .i64 0, .string ⟨#[]⟩] 110) = w6 at S6 ⊢
     refine hK.out _ _ ⟨Bag.cs4 S6.out 0 rfl, Bag.cs2 S6.out 1 rfl, HKx.out _ S6.out.old⟩ (fun hS => ?_)
     clear hK K
     try simp only [zp0, zp1, zp2, zp3, zp4]
     refine Reg.one_op (i := 14) rfl (by kernel_rfl) (fun K hK => ?_)
     obtain ⟨f0, f1, f2⟩ := Bag.cs3 S6.out 3 rfl
     obtain ⟨z0, z1, z2⟩ := Bag.fs3 S6.out 3 rfl
     go_simp
     clear f0 f1 f2 z0 z1 z2
     have S7 := Lib.hid (show Sl.Sep w _ [_, _, _, L4.boxR g2 110 #[.int .i64 KA.kind, .int .i64 KA.n, .string KA.text]] from L5.put_box5 (L5.put_box5 (L5.put_box5 (S6.out) 3 rfl 0 (.int .i64 KA.kind)) 3 rfl 1 (.int .i64 KA.n)) 3 rfl 2 (.string KA.text))
     clear S6
     refine hK.out _ _ ⟨Bag.cs4 S7.out 0 rfl, Bag.cs2 S7.out 1 rfl, HKx.out _ S7.out.old⟩ (fun hS => ?_)
     clear hK K
     try simp only [zp0, zp1, zp2, zp3, zp4]
     refine Reg.one_op (i := 15) rfl (by kernel_rfl) (fun K hK => ?_)
     obtain ⟨f0, f1, f2⟩ := Bag.cs3 S7.out 2 rfl
     obtain ⟨z0, z1, z2⟩ := Bag.fs3 S7.out 2 rfl
     go_simp
     clear f0 f1 f2 z0 z1 z2
     have S8 := Lib.hid (show Sl.Sep w _ [_, _, L4.boxR g1 110 #[.int .i64 KZ.kind, .int .i64 KZ.n, .string KZ.text], _] from L5.put_box5 (L5.put_box5 (L5.put_box5 (S7.out) 2 rfl 0 (.int .i64 KZ.kind)) 2 rfl 1 (.int .i64 KZ.n)) 2 rfl 2 (.string KZ.text))
     clear S7
     refine hK.out _ _ ⟨Bag.cs4 S8.out 0 rfl, Bag.cs2 S8.out 1 rfl, HKx.out _ S8.out.old⟩ (fun hS => ?_)
     clear hK K
     try simp only [zp0, zp1, zp2, zp3, zp4]
     refine tk 16 rfl ?_
     try simp only [zp0, zp1, zp2, zp3, zp4]
     refine wpAnyH_done (by kernel_rfl) ?_ _
     obtain ⟨f0, f1, f2, f3⟩ := Bag.cs4 S8.out 0 rfl
     obtain ⟨f4, f5⟩ := Bag.cs2 S8.out 1 rfl
     obtain ⟨f6, f7, f8⟩ := Bag.cs3 S8.out 2 rfl
     obtain ⟨f9, f10, f11⟩ := Bag.cs3 S8.out 3 rfl
     obtain ⟨f12, f13, f14⟩ := HKx.out _ S8.out.old
     clear f0 f1 f2 f3 f4 f5 f6 f7 f8 f9 f10 f11 f12 f13 f14
     have S9 := Lib.hid (show Sl.Sep w _ [_, _] from Bag.take S8.out [0, 1] (by rfl) (by decide))
     clear S8
     go_wp2_with fail
     go_ret
     exact ⟨by rw [HKP.out] <;> rfl, S9.out.old⟩
    refine Reg.cons_op (i := 12) rfl (fun K hK => ?_) ?_
    ·
     skip
     go_simp
     have S5 := Lib.hid (show Sl.Sep w _ [_, _, _, _] from L4.push_box S4.out 110 #[.int .i64 0, .int .i64 0, .string ⟨#[]⟩] w4.heap.size rfl)
     clear S4
     obtain ⟨g2, hg⟩ : ∃ g', g' = w4.heap.size := ⟨_, rfl⟩
     rw [← hg] at S5 ⊢
     clear hg
     generalize w4.alloc (.cells #[.int .i64 0, .int .i64 0, .string ⟨#[]⟩] 110) = w5 at S5 ⊢
     refine hK.out _ _ ⟨Bag.cs4 S5.out 0 rfl, Bag.cs2 S5.out 1 rfl, HKx.out _ S5.out.old⟩ (fun hS => ?_)
     clear hK K
     try simp only [zp0, zp1, zp2, zp3, zp4]
     refine Reg.one_op (i := 7) rfl (by kernel_rfl) (fun K hK => ?_)
     go_simp
     go_at_call 140
     refine (HUF.out _ S5.out.old).mono ?_
     rintro e w6 ⟨rfl, hb⟩
     have S6 := Lib.hid (S5.out.keep hb)
     clear S5
     clear hb
     go_wp2_with fail
     refine hK.out _ _ ⟨Bag.cs4 S6.out 0 rfl, Bag.cs2 S6.out 1 rfl, HKx.out _ S6.out.old⟩ (fun hS => ?_)
     clear hK K
     try simp only [zp0, zp1, zp2, zp3, zp4]
     refine tk 8 rfl ?_
     try simp only [zp0, zp1, zp2, zp3, zp4]
     refine tk 9 rfl ?_
     try simp only [zp0, zp1, zp2, zp3, zp4]
     refine tk 10 rfl ?_
     try simp only [zp0, zp1, zp2, zp3, zp4]
     refine tk 11 rfl ?_
     try simp only [zp0, zp1, zp2, zp3, zp4]
     refine Reg.one_op (i := 14) rfl (by kernel_rfl) (fun K hK => ?_)
     obtain ⟨f0, f1, f2⟩ := Bag.cs3 S6.out 3 rfl
     obtain ⟨z0, z1, z2⟩ := Bag.fs3 S6.out 3 rfl
     go_simp
     clear f0 f1 f2 z0 z1 z2
     have S7 := Lib.hid (show Sl.Sep w _ [_, _, _, L4.boxR g2 110 #[.int .i64 KA.kind, .int .i64 KA.n, .string KA.text]] from L5.put_box5 (L5.put_box5 (L5.put_box5 (S6.out) 3 rfl 0 (.int .i64 KA.kind)) 3 rfl 1 (.int .i64 KA.n)) 3 rfl 2 (.string KA.text))
     clear S6
     refine hK.out _ _ ⟨Bag.cs4 S7.out 0 rfl, Bag.cs2 S7.out 1 rfl, HKx.out _ S7.out.old⟩ (fun hS => ?_)
     clear hK K
     try simp only [zp0, zp1, zp2, zp3, zp4]
     refine Reg.one_op (i := 15) rfl (by kernel_rfl) (fun K hK => ?_)
     obtain ⟨f0, f1, f2⟩ := Bag.cs3 S7.out 2 rfl
     obtain ⟨z0, z1, z2⟩ := Bag.fs3 S7.out 2 rfl
     go_simp
     clear f0 f1 f2 z0 z1 z2
     have S8 := Lib.hid (show Sl.Sep w _ [_, _, L4.boxR g1 110 #[.int .i64 KZ.kind, .int .i64 KZ.n, .string KZ.text], _] from L5.put_box5 (L5.put_box5 (L5.put_box5 (S7.out) 2 rfl 0 (.int .i64 KZ.kind)) 2 rfl 1 (.int .i64 KZ.n)) 2 rfl 2 (.string KZ.text))
     clear S7
     refine hK.out _ _ ⟨Bag.cs4 S8.out 0 rfl, Bag.cs2 S8.out 1 rfl, HKx.out _ S8.out.old⟩ (fun hS => ?_)
     clear hK K
     try simp only [zp0, zp1, zp2, zp3, zp4]
     refine tk 16 rfl ?_
     try simp only [zp0, zp1, zp2, zp3, zp4]
     refine wpAnyH_done (by kernel_rfl) ?_ _
     obtain ⟨f0, f1, f2, f3⟩ := Bag.cs4 S8.out 0 rfl
     obtain ⟨f4, f5⟩ := Bag.cs2 S8.out 1 rfl
     obtain ⟨f6, f7, f8⟩ := Bag.cs3 S8.out 2 rfl
     obtain ⟨f9, f10, f11⟩ := Bag.cs3 S8.out 3 rfl
     obtain ⟨f12, f13, f14⟩ := HKx.out _ S8.out.old
     clear f0 f1 f2 f3 f4 f5 f6 f7 f8 f9 f10 f11 f12 f13 f14
     have S9 := Lib.hid (show Sl.Sep w _ [_, _] from Bag.take S8.out [0, 1] (by rfl) (by decide))
     clear S8
     go_wp2_with fail
     go_ret
     exact ⟨by rw [HKP.out] <;> rfl, S9.out.old⟩
    exact AllReadyH.nil
   exact AllReadyH.nil
set_option maxHeartbeats 8000000 in
theorem hasValidStores_any (z : Y_Database) (hf : FitD (co_Database z)) (w : World) (hr : RowsRd w w.heap.size (rw_Database z)) :
  Calls Tryz.prog 69 #[vv_Database z] w fun e w' => e = .returned (.bool (decide ((co_Database z).f_Stores.length ≤ 4) && allTo (okSx (co_Database z).f_Stores) (co_Database z).f_Stores.length)) ∧ Below w.heap.size w w' := by
 have HR : Hid (∀ w' (h : Below w.heap.size w w'), Reads w' w.heap.size z.f_Stores_a (z.f_Stores.flatMap cl_Store)) := Lib.hid (fun w' h => (rdS hr).below h)
 have HX : Hid (∀ w' (h : Below w.heap.size w w'), RowsRd w' w'.heap.size (rws_Store z.f_Stores)) := Lib.hid (fun w' h => ((rdX hr).below h).more h.size)
 have HU : Hid (∀ w' (h : Below w.heap.size w w'), Reads w' w.heap.size z.f_Unique_a (z.f_Unique.flatMap cl_IndexDef)) := Lib.hid (fun w' h => (rdU hr).below h)
 have HFD := Lib.hid hf
 have HFDl : z.f_Stores.length ≤ 1048576 := by have h := hf.len; rwa [co_len] at h
 have HFDm : z.f_Unique.length ≤ 1048576 := hf.many
 clear hf hr
 obtain ⟨name, ver, sa, sc, ss, ua, uc, us⟩ := z
 dsimp only [co_Database] at HR HX HU HFD HFDl HFDm
 try unfold vv_Database
 try unfold co_Database
 try dsimp only
 try rw [show coS_IndexDef us = us from rfl]
 rw [show coS_IndexDef us = us from rfl] at HFD
 obtain ⟨N, hN⟩ : ∃ n, n = ss.length := ⟨_, rfl⟩
 obtain ⟨M, hM⟩ : ∃ n, n = us.length := ⟨_, rfl⟩
 rw [← hN] at HFDl ⊢
 rw [← hM] at HFDm ⊢
 have HFDl' : (N : Int) ≤ 1048576 := by omega
 have HFDm' : (M : Int) ≤ 1048576 := by omega
 have HN := Lib.hid hN
 have HM := Lib.hid hM
 clear hN hM
 have HSL := Lib.hid (show (coS_Store ss).length = N by rw [coS_len, HN.out])
 rw [HSL.out]
 obtain ⟨B, hB⟩ : ∃ b, allTo (okSx (coS_Store ss)) N = b := ⟨_, rfl⟩
 have HB := Lib.hid hB
 rw [hB]
 clear hB
 have S1 := Lib.hid (show Sl.Sep w _ [_] from L4.push_box (Sl.Sep.start w) 33 #[.string name, .int .i64 ver, .slice sa N sc, .slice ua M uc] (w.heap.size) (by simp))
 obtain ⟨wa, hwa⟩ : ∃ w_, w_ = (w.alloc (.cells #[.string name, .int .i64 ver, .slice sa N sc, .slice ua M uc] 33)) := ⟨_, rfl⟩
 rw [← hwa] at S1
 go_enter Tryz.func69, Tryz.ntmps69
 go_upto_region 1 with fail
 rw [← hwa]
 clear hwa
 obtain ⟨f0, f1, f2, f3⟩ := Bag.cs4 S1.out 0 rfl
 by_cases h4 : N ≤ 4
 rotate_left
 ·
  have h4i : (4 : Int) < (N : Int) := by omega
  have hd := decide_eq_false h4
  go_wp2_with fail
  go_ret
  exact ⟨by rw [hd] <;> rfl, S1.out.old⟩
 have h4i : ¬ (4 : Int) < (N : Int) := by omega
 have HD := Lib.hid (decide_eq_true h4)
 clear h4
 go_wp2_with fail
 clear f0 f1 f2 f3
 go_loopw [12] (fun i wr => ∃ k : Nat, k ≤ N ∧ i = .int .i64 k ∧ Hid ((∀ j, j < k → okSx (coS_Store ss) j = true) ∧ Sl.Sep w wr [L4.boxR w.heap.size 33 #[.string name, .int .i64 ver, .slice sa N sc, .slice ua M uc]])) (fun i _ => N - (intOf i).toNat)
 case atStart => exact ⟨0, Nat.zero_le _, rfl, And.intro (fun j h => absurd h (by omega)) S1.out⟩
 case round =>
  obtain ⟨k, hk, rfl, hrel⟩ := hrel
  have HA := Lib.hid hrel.out.1
  have S2 := Lib.hid hrel.out.2
  clear hrel S1
  by_cases hlt : (k : Int) < (N : Int)
  ·
   skip
   have hkl : k < ss.length := by have := HN.out; omega
   obtain ⟨x, hx⟩ : ∃ x, ss[k]? = some x := ⟨_, List.getElem?_eq_getElem hkl⟩
   obtain ⟨sad, e'⟩ := el_some cl_Store_len (by decide) (HR.out _ S2.out.old) hkl
   subst e'
   have HKx := Lib.hid (fun w' (h : Below w.heap.size w w') => el3 cl_Store_len (HR.out _ h) hx rfl)
   have HRx := Lib.hid (fun w' (h : Below w.heap.size w w') => rd_store (HX.out w' h) hx)
   have HFx := Lib.hid (fit_store HFD.out.stores hx)
   have HCx := Lib.hid (coS_at hx)
   clear hx
   obtain ⟨bk, hbk⟩ : ∃ b, isS x.con = b := ⟨_, rfl⟩
   have HIK := fun w' (h : Below w.heap.size w w') => isStore_any x HFx.out w' (HRx.out w' h)
   rw [hbk] at HIK
   dsimp only [LS.v, LS.cells] at HIK
   replace HIK := Lib.hid HIK
   have HBK := Lib.hid hbk
   clear hbk
   obtain ⟨f0, f1, f2, f3⟩ := Bag.cs4 S2.out 0 rfl
   obtain ⟨f4, f5, f6⟩ := HKx.out _ S2.out.old
   go_upto_region 6 with fail
   clear f0 f1 f2 f3 f4 f5 f6
   have S3 := Lib.hid (show Sl.Sep w _ [_, _] from L4.push_box S2.out 70 #[.string x.name, .slice x.a x.xs.length x.c, .int .i64 x.auto] wr.heap.size rfl)
   clear S2
   obtain ⟨g1, hg⟩ : ∃ g', g' = wr.heap.size := ⟨_, rfl⟩
   rw [← hg] at S3 ⊢
   clear hg
   generalize wr.alloc (.cells #[.string x.name, .slice x.a x.xs.length x.c, .int .i64 x.auto] 70) = w1 at S3 ⊢
   obtain ⟨f0, f1, f2, f3⟩ := Bag.cs4 S3.out 0 rfl
   obtain ⟨f4, f5, f6⟩ := Bag.cs3 S3.out 1 rfl
   obtain ⟨f7, f8, f9⟩ := HKx.out _ S3.out.old
   go_wp2_with fail
   go_at_call 101
   refine (HIK.out _ S3.out.old).mono ?_
   rintro e w2 ⟨rfl, hb⟩
   clear f0 f1 f2 f3 f4 f5 f6 f7 f8 f9
   have S4 := Lib.hid (S3.out.keep hb)
   clear S3
   clear hb
   obtain ⟨f0, f1, f2, f3⟩ := Bag.cs4 S4.out 0 rfl
   obtain ⟨f4, f5, f6⟩ := Bag.cs3 S4.out 1 rfl
   obtain ⟨f7, f8, f9⟩ := HKx.out _ S4.out.old
   cases bk with
   | false =>
    have HNO := Lib.hid (show B = false from by rw [← HB.out]; exact allTo_no k (by omega) (by rw [okSx_at HCx.out, HBK.out]; rfl))
    go_wp2_with fail
    go_ret
    exact ⟨by rw [HD.out, HNO.out] <;> rfl, S4.out.old⟩
   | true =>
    rcases Nat.eq_zero_or_pos k with hk0 | hk0
    ·
     have hk1 : (0 < k) = False := by simp; omega
     have HZ := Lib.hid hk0
     clear hk0
     go_upto_region 8 with fail
     clear f0 f1 f2 f3 f4 f5 f6 f7 f8 f9
     refine wp_region_held_drew (S := (fun w' => (w'.cell? ⟨w.heap.size, 0, none⟩ = some (.string name) ∧ w'.cell? ⟨w.heap.size, 1, none⟩ = some (.int .i64 ver) ∧ w'.cell? ⟨w.heap.size, 2, none⟩ = some (.slice (some sad) N sc) ∧ w'.cell? ⟨w.heap.size, 3, none⟩ = some (.slice ua M uc)) ∧ (w'.cell? ⟨g1, 0, none⟩ = some (.string x.name) ∧ w'.cell? ⟨g1, 1, none⟩ = some (.slice x.a x.xs.length x.c) ∧ w'.cell? ⟨g1, 2, none⟩ = some (.int .i64 x.auto)) ∧ (w'.cell? (sad.add (k * 3)) = some (.string x.name) ∧ w'.cell? (⟨(sad.add (k * 3)).block, (sad.add (k * 3)).off + 1, none⟩) = some (.slice x.a x.xs.length x.c) ∧ w'.cell? (⟨(sad.add (k * 3)).block, (sad.add (k * 3)).off + 2, none⟩) = some (.int .i64 x.auto)))) (by kernel_rfl) ⟨Bag.cs4 (Bag.drew1 S4.out) 0 rfl, Bag.cs3 (Bag.drew1 S4.out) 1 rfl, HKx.out _ (Bag.drew1 S4.out).old⟩ (fun hS => ?_)
     have S5 := Lib.hid (Bag.drew1 S4.out)
     clear S4
     generalize World.drew _ = w3 at hS S5 ⊢
     refine tk 0 rfl ?_
     try simp only [zp0, zp1, zp2, zp3, zp4]
     refine tk 1 rfl ?_
     try simp only [zp0, zp1, zp2, zp3, zp4]
     refine tk 2 rfl ?_
     try simp only [zp0, zp1, zp2, zp3, zp4]
     refine sk 3 rfl ?_
     try simp only [zp0, zp1, zp2, zp3, zp4]
     refine sk 4 rfl ?_
     try simp only [zp0, zp1, zp2, zp3, zp4]
     refine sk 5 rfl ?_
     try simp only [zp0, zp1, zp2, zp3, zp4]
     refine sk 6 rfl ?_
     try simp only [zp0, zp1, zp2, zp3, zp4]
     refine sk 7 rfl ?_
     try simp only [zp0, zp1, zp2, zp3, zp4]
     refine sk 8 rfl ?_
     try simp only [zp0, zp1, zp2, zp3, zp4]
     refine sk 9 rfl ?_
     try simp only [zp0, zp1, zp2, zp3, zp4]
     refine sk 10 rfl ?_
     try simp only [zp0, zp1, zp2, zp3, zp4]
     refine sk 11 rfl ?_
     try simp only [zp0, zp1, zp2, zp3, zp4]
     refine sk 12 rfl ?_
     try simp only [zp0, zp1, zp2, zp3, zp4]
     refine tk 13 rfl ?_
     try simp only [zp0, zp1, zp2, zp3, zp4]
     refine wpAnyH_done (by kernel_rfl) ?_ _
     obtain ⟨f0, f1, f2, f3⟩ := Bag.cs4 S5.out 0 rfl
     obtain ⟨f4, f5, f6⟩ := Bag.cs3 S5.out 1 rfl
     obtain ⟨f7, f8, f9⟩ := HKx.out _ S5.out.old
     clear f0 f1 f2 f3 f4 f5 f6 f7 f8 f9
     have S6 := Lib.hid (show Sl.Sep w _ [_] from Bag.take S5.out [0] (by rfl) (by decide))
     clear S5
     go_wp2_with fail
     go_roundw
     case rel => exact ⟨k + 1, by omega, by go_num, And.intro (fun j h => by
      by_cases e : j < k
      ·
       exact HA.out j e
      ·
       obtain rfl : j = k := by omega
       rw [okSx_at HCx.out, HBK.out, HZ.out]; rfl) S6.out⟩
     case measure => simp [intOf]; omega
    ·
     obtain ⟨m, hkm⟩ : ∃ m, k = m + 1 := ⟨k - 1, by omega⟩
     have hki : (k : Int) - 1 = (m : Int) := by omega
     have HKM := Lib.hid hkm
     have hm0 : m < ss.length := by omega
     have hmi : (m : Int) < (N : Int) := by omega
     have hmw : IntKind.i64.wrap (m : Int) = (m : Int) := IntWalk.i64_in _ ⟨by omega, by omega⟩
     clear hkm
     clear f0 f1 f2 f3 f4 f5 f6 f7 f8 f9
     obtain ⟨y, hy⟩ : ∃ x, ss[m]? = some x := ⟨_, List.getElem?_eq_getElem hm0⟩
     have HKy := Lib.hid (fun w' (h : Below w.heap.size w w') => el3 cl_Store_len (HR.out _ h) hy rfl)
     have HRy := Lib.hid (fun w' (h : Below w.heap.size w w') => rd_store (HX.out w' h) hy)
     have HFy := Lib.hid (fit_store HFD.out.stores hy)
     have HCy := Lib.hid (coS_at hy)
     clear hy
     have hge := string_geq
     cases hc : bytesLess y.name.toList x.name.toList with
     | false =>
      obtain ⟨f0, f1, f2, f3⟩ := Bag.cs4 S4.out 0 rfl
      obtain ⟨f4, f5, f6⟩ := Bag.cs3 S4.out 1 rfl
      obtain ⟨f7, f8, f9⟩ := HKx.out _ S4.out.old
      obtain ⟨f10, f11, f12⟩ := HKy.out _ S4.out.old
      go_upto_region 8 with fail
      clear f0 f1 f2 f3 f4 f5 f6 f7 f8 f9 f10 f11 f12
      refine wp_region_held_drew (S := (fun w' => (w'.cell? ⟨w.heap.size, 0, none⟩ = some (.string name) ∧ w'.cell? ⟨w.heap.size, 1, none⟩ = some (.int .i64 ver) ∧ w'.cell? ⟨w.heap.size, 2, none⟩ = some (.slice (some sad) N sc) ∧ w'.cell? ⟨w.heap.size, 3, none⟩ = some (.slice ua M uc)) ∧ (w'.cell? ⟨g1, 0, none⟩ = some (.string x.name) ∧ w'.cell? ⟨g1, 1, none⟩ = some (.slice x.a x.xs.length x.c) ∧ w'.cell? ⟨g1, 2, none⟩ = some (.int .i64 x.auto)) ∧ (w'.cell? (sad.add (k * 3)) = some (.string x.name) ∧ w'.cell? (⟨(sad.add (k * 3)).block, (sad.add (k * 3)).off + 1, none⟩) = some (.slice x.a x.xs.length x.c) ∧ w'.cell? (⟨(sad.add (k * 3)).block, (sad.add (k * 3)).off + 2, none⟩) = some (.int .i64 x.auto)) ∧ (w'.cell? (sad.add (m * 3)) = some (.string y.name) ∧ w'.cell? (⟨(sad.add (m * 3)).block, (sad.add (m * 3)).off + 1, none⟩) = some (.slice y.a y.xs.length y.c) ∧ w'.cell? (⟨(sad.add (m * 3)).block, (sad.add (m * 3)).off + 2, none⟩) = some (.int .i64 y.auto)))) (by kernel_rfl) ⟨Bag.cs4 (Bag.drew1 S4.out) 0 rfl, Bag.cs3 (Bag.drew1 S4.out) 1 rfl, HKx.out _ (Bag.drew1 S4.out).old, HKy.out _ (Bag.drew1 S4.out).old⟩ (fun hS => ?_)
      have S5 := Lib.hid (Bag.drew1 S4.out)
      clear S4
      generalize World.drew _ = w3 at hS S5 ⊢
      refine tk 0 rfl ?_
      try simp only [zp0, zp1, zp2, zp3, zp4]
      refine tk 1 rfl ?_
      try simp only [zp0, zp1, zp2, zp3, zp4]
      refine tk 2 rfl ?_
      try simp only [zp0, zp1, zp2, zp3, zp4]
      refine tk 3 rfl ?_
      try simp only [zp0, zp1, zp2, zp3, zp4]
      refine tk 4 rfl ?_
      try simp only [zp0, zp1, zp2, zp3, zp4]
      refine tk 5 rfl ?_
      try simp only [zp0, zp1, zp2, zp3, zp4]
      refine tk 6 rfl ?_
      try simp only [zp0, zp1, zp2, zp3, zp4]
      refine tk 7 rfl ?_
      try simp only [zp0, zp1, zp2, zp3, zp4]
      refine tk 8 rfl ?_
      try simp only [zp0, zp1, zp2, zp3, zp4]
      refine tk 9 rfl ?_
      try simp only [zp0, zp1, zp2, zp3, zp4]
      refine tk 10 rfl ?_
      try simp only [zp0, zp1, zp2, zp3, zp4]
      refine tk 11 rfl ?_
      try simp only [zp0, zp1, zp2, zp3, zp4]
      refine tk 12 rfl ?_
      try simp only [zp0, zp1, zp2, zp3, zp4]
      refine tk 13 rfl ?_
      try simp only [zp0, zp1, zp2, zp3, zp4]
      refine wpAnyH_done (by kernel_rfl) ?_ _
      obtain ⟨f0, f1, f2, f3⟩ := Bag.cs4 S5.out 0 rfl
      obtain ⟨f4, f5, f6⟩ := Bag.cs3 S5.out 1 rfl
      obtain ⟨f7, f8, f9⟩ := HKx.out _ S5.out.old
      obtain ⟨f10, f11, f12⟩ := HKy.out _ S5.out.old
      have HNO := Lib.hid (show B = false from by rw [← HB.out]; exact allTo_no k (by omega) (by rw [okSx_at HCx.out, HBK.out, HKM.out, ahead8_at HCy.out]; exact hc))
      go_wp2_with fail
      go_ret
      exact ⟨by rw [HD.out, HNO.out] <;> rfl, S5.out.old⟩
     | true =>
      obtain ⟨f0, f1, f2, f3⟩ := Bag.cs4 S4.out 0 rfl
      obtain ⟨f4, f5, f6⟩ := Bag.cs3 S4.out 1 rfl
      obtain ⟨f7, f8, f9⟩ := HKx.out _ S4.out.old
      obtain ⟨f10, f11, f12⟩ := HKy.out _ S4.out.old
      go_upto_region 8 with fail
      clear f0 f1 f2 f3 f4 f5 f6 f7 f8 f9 f10 f11 f12
      refine wp_region_held_drew (S := (fun w' => (w'.cell? ⟨w.heap.size, 0, none⟩ = some (.string name) ∧ w'.cell? ⟨w.heap.size, 1, none⟩ = some (.int .i64 ver) ∧ w'.cell? ⟨w.heap.size, 2, none⟩ = some (.slice (some sad) N sc) ∧ w'.cell? ⟨w.heap.size, 3, none⟩ = some (.slice ua M uc)) ∧ (w'.cell? ⟨g1, 0, none⟩ = some (.string x.name) ∧ w'.cell? ⟨g1, 1, none⟩ = some (.slice x.a x.xs.length x.c) ∧ w'.cell? ⟨g1, 2, none⟩ = some (.int .i64 x.auto)) ∧ (w'.cell? (sad.add (k * 3)) = some (.string x.name) ∧ w'.cell? (⟨(sad.add (k * 3)).block, (sad.add (k * 3)).off + 1, none⟩) = some (.slice x.a x.xs.length x.c) ∧ w'.cell? (⟨(sad.add (k * 3)).block, (sad.add (k * 3)).off + 2, none⟩) = some (.int .i64 x.auto)) ∧ (w'.cell? (sad.add (m * 3)) = some (.string y.name) ∧ w'.cell? (⟨(sad.add (m * 3)).block, (sad.add (m * 3)).off + 1, none⟩) = some (.slice y.a y.xs.length y.c) ∧ w'.cell? (⟨(sad.add (m * 3)).block, (sad.add (m * 3)).off + 2, none⟩) = some (.int .i64 y.auto)))) (by kernel_rfl) ⟨Bag.cs4 (Bag.drew1 S4.out) 0 rfl, Bag.cs3 (Bag.drew1 S4.out) 1 rfl, HKx.out _ (Bag.drew1 S4.out).old, HKy.out _ (Bag.drew1 S4.out).old⟩ (fun hS => ?_)
      have S5 := Lib.hid (Bag.drew1 S4.out)
      clear S4
      generalize World.drew _ = w3 at hS S5 ⊢
      refine tk 0 rfl ?_
      try simp only [zp0, zp1, zp2, zp3, zp4]
      refine tk 1 rfl ?_
      try simp only [zp0, zp1, zp2, zp3, zp4]
      refine tk 2 rfl ?_
      try simp only [zp0, zp1, zp2, zp3, zp4]
      refine tk 3 rfl ?_
      try simp only [zp0, zp1, zp2, zp3, zp4]
      refine tk 4 rfl ?_
      try simp only [zp0, zp1, zp2, zp3, zp4]
      refine tk 5 rfl ?_
      try simp only [zp0, zp1, zp2, zp3, zp4]
      refine tk 6 rfl ?_
      try simp only [zp0, zp1, zp2, zp3, zp4]
      refine tk 7 rfl ?_
      try simp only [zp0, zp1, zp2, zp3, zp4]
      refine tk 8 rfl ?_
      try simp only [zp0, zp1, zp2, zp3, zp4]
      refine tk 9 rfl ?_
      try simp only [zp0, zp1, zp2, zp3, zp4]
      refine tk 10 rfl ?_
      try simp only [zp0, zp1, zp2, zp3, zp4]
      refine tk 11 rfl ?_
      try simp only [zp0, zp1, zp2, zp3, zp4]
      refine tk 12 rfl ?_
      try simp only [zp0, zp1, zp2, zp3, zp4]
      refine tk 13 rfl ?_
      try simp only [zp0, zp1, zp2, zp3, zp4]
      refine wpAnyH_done (by kernel_rfl) ?_ _
      obtain ⟨f0, f1, f2, f3⟩ := Bag.cs4 S5.out 0 rfl
      obtain ⟨f4, f5, f6⟩ := Bag.cs3 S5.out 1 rfl
      obtain ⟨f7, f8, f9⟩ := HKx.out _ S5.out.old
      obtain ⟨f10, f11, f12⟩ := HKy.out _ S5.out.old
      clear f0 f1 f2 f3 f4 f5 f6 f7 f8 f9 f10 f11 f12
      have S6 := Lib.hid (show Sl.Sep w _ [_] from Bag.take S5.out [0] (by rfl) (by decide))
      clear S5
      go_wp2_with fail
      go_roundw
      case rel => exact ⟨k + 1, by omega, by go_num, And.intro (fun j h => by
       by_cases e : j < k
       ·
        exact HA.out j e
       ·
        obtain rfl : j = k := by omega
        rw [okSx_at HCx.out, HBK.out, HKM.out, ahead8_at HCy.out]; exact hc) S6.out⟩
      case measure => simp [intOf]; omega
  ·
   skip
   obtain rfl : k = N := by omega
   have HYES := Lib.hid (show B = true from by rw [← HB.out]; exact allTo_all HA.out)
   obtain ⟨f0, f1, f2, f3⟩ := Bag.cs4 S2.out 0 rfl
   go_wp2_with fail
   go_ret
   exact ⟨by rw [HD.out, HYES.out] <;> rfl, S2.out.old⟩
set_option maxHeartbeats 8000000 in
theorem hasValidIndexes_any (z : Y_Database) (hf : FitD (co_Database z)) (w : World) (hr : RowsRd w w.heap.size (rw_Database z)) :
  Calls Tryz.prog 70 #[vv_Database z] w fun e w' => e = .returned (.bool (decide ((co_Database z).f_Unique.length ≤ 4) && allTo (okUx (co_Database z).f_Stores (co_Database z).f_Unique) (co_Database z).f_Unique.length)) ∧ Below w.heap.size w w' := by
 have HKT := Lib.hid (fun (u : X_IndexDef) (hu : FitX u) w' (h : Below w.heap.size w w') => isKept_any z u hf hu w' ((hr.below h).more h.size))
 unfold vv_Database co_Database at HKT
 have HR : Hid (∀ w' (h : Below w.heap.size w w'), Reads w' w.heap.size z.f_Stores_a (z.f_Stores.flatMap cl_Store)) := Lib.hid (fun w' h => (rdS hr).below h)
 have HX : Hid (∀ w' (h : Below w.heap.size w w'), RowsRd w' w'.heap.size (rws_Store z.f_Stores)) := Lib.hid (fun w' h => ((rdX hr).below h).more h.size)
 have HU : Hid (∀ w' (h : Below w.heap.size w w'), Reads w' w.heap.size z.f_Unique_a (z.f_Unique.flatMap cl_IndexDef)) := Lib.hid (fun w' h => (rdU hr).below h)
 have HFD := Lib.hid hf
 have HFDl : z.f_Stores.length ≤ 1048576 := by have h := hf.len; rwa [co_len] at h
 have HFDm : z.f_Unique.length ≤ 1048576 := hf.many
 clear hf
 have HUCAP := Lib.hid (rd_head (rd_right hr)).cap
 clear hr
 obtain ⟨name, ver, sa, sc, ss, ua, uc, us⟩ := z
 dsimp only [co_Database] at HR HX HU HFD HFDl HFDm
 replace HUCAP := Lib.hid (show us.length ≤ uc from HUCAP.out)
 try unfold vv_Database
 try unfold co_Database
 try dsimp only
 try rw [show coS_IndexDef us = us from rfl]
 rw [show coS_IndexDef us = us from rfl] at HFD
 obtain ⟨N, hN⟩ : ∃ n, n = ss.length := ⟨_, rfl⟩
 obtain ⟨M, hM⟩ : ∃ n, n = us.length := ⟨_, rfl⟩
 rw [← hN] at HFDl ⊢
 rw [← hM] at HFDm ⊢
 have HFDl' : (N : Int) ≤ 1048576 := by omega
 have HFDm' : (M : Int) ≤ 1048576 := by omega
 have HN := Lib.hid hN
 have HM := Lib.hid hM
 clear hN hM
 rw [← HN.out, ← HM.out] at HKT
 try dsimp only at HKT
 have HKTL := HKT
 obtain ⟨B, hB⟩ : ∃ b, allTo (okUx (coS_Store ss) us) M = b := ⟨_, rfl⟩
 have HB := Lib.hid hB
 rw [hB]
 clear hB HKTL
 have S1 := Lib.hid (show Sl.Sep w _ [_] from L4.push_box (Sl.Sep.start w) 33 #[.string name, .int .i64 ver, .slice sa N sc, .slice ua M uc] (w.heap.size) (by simp))
 obtain ⟨wa, hwa⟩ : ∃ w_, w_ = (w.alloc (.cells #[.string name, .int .i64 ver, .slice sa N sc, .slice ua M uc] 33)) := ⟨_, rfl⟩
 rw [← hwa] at S1
 go_enter Tryz.func70, Tryz.ntmps70
 go_upto_region 1 with fail
 rw [← hwa]
 clear hwa
 obtain ⟨f0, f1, f2, f3⟩ := Bag.cs4 S1.out 0 rfl
 by_cases h4 : M ≤ 4
 rotate_left
 ·
  have h4i : (4 : Int) < (M : Int) := by omega
  have hd := decide_eq_false h4
  go_wp2_with fail
  go_ret
  exact ⟨by rw [hd] <;> rfl, S1.out.old⟩
 have h4i : ¬ (4 : Int) < (M : Int) := by omega
 have HD := Lib.hid (decide_eq_true h4)
 clear h4
 go_wp2_with fail
 clear f0 f1 f2 f3
 go_loopw [12] (fun i wr => ∃ k : Nat, k ≤ M ∧ i = .int .i64 k ∧ Hid ((∀ j, j < k → okUx (coS_Store ss) us j = true) ∧ Sl.Sep w wr [L4.boxR w.heap.size 33 #[.string name, .int .i64 ver, .slice sa N sc, .slice ua M uc]])) (fun i _ => M - (intOf i).toNat)
 case atStart => exact ⟨0, Nat.zero_le _, rfl, And.intro (fun j h => absurd h (by omega)) S1.out⟩
 case round =>
  obtain ⟨k, hk, rfl, hrel⟩ := hrel
  have HA := Lib.hid hrel.out.1
  have S2 := Lib.hid hrel.out.2
  clear hrel S1
  by_cases hlt : (k : Int) < (M : Int)
  ·
   skip
   have hkl : k < us.length := by have := HM.out; omega
   have HUC := Lib.hid (show True from trivial)
   obtain ⟨u, hu⟩ : ∃ x, us[k]? = some x := ⟨_, List.getElem?_eq_getElem hkl⟩
   obtain ⟨uad, e'⟩ := el_some cl_IndexDef_len (by decide) (HU.out _ S2.out.old) hkl
   subst e'
   have HKu := Lib.hid (fun w' (h : Below w.heap.size w w') => el2 cl_IndexDef_len (HU.out _ h) hu rfl)
   have HFu := Lib.hid (HFD.out.unique _ (List.mem_of_getElem? hu))
   have HCu := Lib.hid hu
   clear hu
   have HCT := fun w' (h : Below w.heap.size w w') => containsX_any (some uad) uc (us.take k) u (by rw [List.length_take]; omega) w' ((reads_take (HU.out _ h) k).more h.size)
   rw [V.take_len (Nat.le_of_lt hkl)] at HCT
   obtain ⟨bc, hbc⟩ : ∃ b, (fndX (us.take k) u).isSome = b := ⟨_, rfl⟩
   rw [hbc] at HCT
   have HBC := Lib.hid (show freshX us u k = !bc from by rw [fresh_eq, hbc])
   have HIK := HKT.out u HFu.out
   obtain ⟨bk, hbk⟩ : ∃ b, keptX (coS_Store ss) u = b := ⟨_, rfl⟩
   rw [hbk] at HIK
   have HBK := Lib.hid hbk
   unfold vv_IndexDef at HCT HIK
   replace HCT := Lib.hid HCT
   replace HIK := Lib.hid HIK
   clear hbk hbc
   have hkuc : (k : Int) ≤ (uc : Int) := by have := HUCAP.out; omega
   obtain ⟨f0, f1, f2, f3⟩ := Bag.cs4 S2.out 0 rfl
   obtain ⟨f4, f5⟩ := HKu.out _ S2.out.old
   go_upto_region 6 with fail
   clear f0 f1 f2 f3 f4 f5
   have S3 := Lib.hid (show Sl.Sep w _ [_, _] from L4.push_box S2.out 73 #[.string u.f_Store, .string u.f_Field] wr.heap.size rfl)
   clear S2
   obtain ⟨g1, hg⟩ : ∃ g', g' = wr.heap.size := ⟨_, rfl⟩
   rw [← hg] at S3 ⊢
   clear hg
   generalize wr.alloc (.cells #[.string u.f_Store, .string u.f_Field] 73) = w1 at S3 ⊢
   obtain ⟨f0, f1, f2, f3⟩ := Bag.cs4 S3.out 0 rfl
   obtain ⟨f4, f5⟩ := Bag.cs2 S3.out 1 rfl
   obtain ⟨f6, f7⟩ := HKu.out _ S3.out.old
   cases bc with
   | true =>
    clear f0 f1 f2 f3 f4 f5 f6 f7
    refine wp_region_held_drew (S := (fun w' => (w'.cell? ⟨w.heap.size, 0, none⟩ = some (.string name) ∧ w'.cell? ⟨w.heap.size, 1, none⟩ = some (.int .i64 ver) ∧ w'.cell? ⟨w.heap.size, 2, none⟩ = some (.slice sa N sc) ∧ w'.cell? ⟨w.heap.size, 3, none⟩ = some (.slice (some uad) M uc)) ∧ (w'.cell? ⟨g1, 0, none⟩ = some (.string u.f_Store) ∧ w'.cell? ⟨g1, 1, none⟩ = some (.string u.f_Field)) ∧ (w'.cell? (uad.add (k * 2)) = some (.string u.f_Store) ∧ w'.cell? (⟨(uad.add (k * 2)).block, (uad.add (k * 2)).off + 1, none⟩) = some (.string u.f_Field)))) (by kernel_rfl) ⟨Bag.cs4 (Bag.drew1 S3.out) 0 rfl, Bag.cs2 (Bag.drew1 S3.out) 1 rfl, HKu.out _ (Bag.drew1 S3.out).old⟩ (fun hS => ?_)
    have S4 := Lib.hid (Bag.drew1 S3.out)
    clear S3
    generalize World.drew _ = w2 at hS S4 ⊢
    refine tk 0 rfl ?_
    try simp only [zp0, zp1, zp2, zp3, zp4]
    refine tk 1 rfl ?_
    try simp only [zp0, zp1, zp2, zp3, zp4]
    refine tk 2 rfl ?_
    try simp only [zp0, zp1, zp2, zp3, zp4]
    refine tk 3 rfl ?_
    try simp only [zp0, zp1, zp2, zp3, zp4]
    refine tk 4 rfl ?_
    try simp only [zp0, zp1, zp2, zp3, zp4]
    refine Reg.one_op (i := 5) rfl (by kernel_rfl) (fun K hK => ?_)
    go_simp
    go_at_call 102
    refine (HCT.out _ S4.out.old).mono ?_
    rintro e w3 ⟨rfl, hb⟩
    have S5 := Lib.hid (S4.out.keep hb)
    clear S4
    clear hb
    go_wp2_with fail
    refine hK.out _ _ ⟨Bag.cs4 S5.out 0 rfl, Bag.cs2 S5.out 1 rfl, HKu.out _ S5.out.old⟩ (fun hS => ?_)
    clear hK K
    try simp only [zp0, zp1, zp2, zp3, zp4]
    refine tk 6 rfl ?_
    try simp only [zp0, zp1, zp2, zp3, zp4]
    refine sk 7 rfl ?_
    try simp only [zp0, zp1, zp2, zp3, zp4]
    refine sk 8 rfl ?_
    try simp only [zp0, zp1, zp2, zp3, zp4]
    refine Reg.skip_one (i := 9) rfl (by kernel_rfl) (by rfl) (by assumption) ?_
    try simp only [zp0, zp1, zp2, zp3, zp4]
    refine sk 10 rfl ?_
    try simp only [zp0, zp1, zp2, zp3, zp4]
    refine tk 11 rfl ?_
    try simp only [zp0, zp1, zp2, zp3, zp4]
    refine wpAnyH_done (by kernel_rfl) ?_ _
    obtain ⟨f0, f1, f2, f3⟩ := Bag.cs4 S5.out 0 rfl
    obtain ⟨f4, f5⟩ := Bag.cs2 S5.out 1 rfl
    obtain ⟨f6, f7⟩ := HKu.out _ S5.out.old
    have HNO := Lib.hid (show B = false from by rw [← HB.out]; exact allTo_no k (by omega) (by rw [okUx_at HCu.out, HBC.out]; cases keptX (coS_Store ss) u <;> rfl))
    go_wp2_with fail
    go_ret
    exact ⟨by rw [HD.out, HNO.out] <;> rfl, S5.out.old⟩
   | false =>
    cases bk with
    | false =>
     clear f0 f1 f2 f3 f4 f5 f6 f7
     refine wp_region_held_drew (S := (fun w' => (w'.cell? ⟨w.heap.size, 0, none⟩ = some (.string name) ∧ w'.cell? ⟨w.heap.size, 1, none⟩ = some (.int .i64 ver) ∧ w'.cell? ⟨w.heap.size, 2, none⟩ = some (.slice sa N sc) ∧ w'.cell? ⟨w.heap.size, 3, none⟩ = some (.slice (some uad) M uc)) ∧ (w'.cell? ⟨g1, 0, none⟩ = some (.string u.f_Store) ∧ w'.cell? ⟨g1, 1, none⟩ = some (.string u.f_Field)) ∧ (w'.cell? (uad.add (k * 2)) = some (.string u.f_Store) ∧ w'.cell? (⟨(uad.add (k * 2)).block, (uad.add (k * 2)).off + 1, none⟩) = some (.string u.f_Field)))) (by kernel_rfl) ⟨Bag.cs4 (Bag.drew1 S3.out) 0 rfl, Bag.cs2 (Bag.drew1 S3.out) 1 rfl, HKu.out _ (Bag.drew1 S3.out).old⟩ (fun hS => ?_)
     have S4 := Lib.hid (Bag.drew1 S3.out)
     clear S3
     generalize World.drew _ = w2 at hS S4 ⊢
     refine tk 0 rfl ?_
     try simp only [zp0, zp1, zp2, zp3, zp4]
     refine tk 1 rfl ?_
     try simp only [zp0, zp1, zp2, zp3, zp4]
     refine tk 2 rfl ?_
     try simp only [zp0, zp1, zp2, zp3, zp4]
     refine tk 3 rfl ?_
     try simp only [zp0, zp1, zp2, zp3, zp4]
     refine tk 4 rfl ?_
     try simp only [zp0, zp1, zp2, zp3, zp4]
     refine Reg.one_op (i := 5) rfl (by kernel_rfl) (fun K hK => ?_)
     go_simp
     go_at_call 102
     refine (HCT.out _ S4.out.old).mono ?_
     rintro e w3 ⟨rfl, hb⟩
     have S5 := Lib.hid (S4.out.keep hb)
     clear S4
     clear hb
     go_wp2_with fail
     refine hK.out _ _ ⟨Bag.cs4 S5.out 0 rfl, Bag.cs2 S5.out 1 rfl, HKu.out _ S5.out.old⟩ (fun hS => ?_)
     clear hK K
     try simp only [zp0, zp1, zp2, zp3, zp4]
     refine tk 6 rfl ?_
     try simp only [zp0, zp1, zp2, zp3, zp4]
     refine tk 7 rfl ?_
     try simp only [zp0, zp1, zp2, zp3, zp4]
     refine tk 8 rfl ?_
     try simp only [zp0, zp1, zp2, zp3, zp4]
     refine Reg.one_op (i := 9) rfl (by kernel_rfl) (fun K hK => ?_)
     go_simp
     go_at_call 103
     refine (HIK.out _ S5.out.old).mono ?_
     rintro e w4 ⟨rfl, hb⟩
     have S6 := Lib.hid (S5.out.keep hb)
     clear S5
     clear hb
     go_wp2_with fail
     refine hK.out _ _ ⟨Bag.cs4 S6.out 0 rfl, Bag.cs2 S6.out 1 rfl, HKu.out _ S6.out.old⟩ (fun hS => ?_)
     clear hK K
     try simp only [zp0, zp1, zp2, zp3, zp4]
     refine tk 10 rfl ?_
     try simp only [zp0, zp1, zp2, zp3, zp4]
     refine tk 11 rfl ?_
     try simp only [zp0, zp1, zp2, zp3, zp4]
     refine wpAnyH_done (by kernel_rfl) ?_ _
     obtain ⟨f0, f1, f2, f3⟩ := Bag.cs4 S6.out 0 rfl
     obtain ⟨f4, f5⟩ := Bag.cs2 S6.out 1 rfl
     obtain ⟨f6, f7⟩ := HKu.out _ S6.out.old
     have HNO := Lib.hid (show B = false from by rw [← HB.out]; exact allTo_no k (by omega) (by rw [okUx_at HCu.out, HBK.out]; rfl))
     go_wp2_with fail
     go_ret
     exact ⟨by rw [HD.out, HNO.out] <;> rfl, S6.out.old⟩
    | true =>
     clear f0 f1 f2 f3 f4 f5 f6 f7
     refine wp_region_held_drew (S := (fun w' => (w'.cell? ⟨w.heap.size, 0, none⟩ = some (.string name) ∧ w'.cell? ⟨w.heap.size, 1, none⟩ = some (.int .i64 ver) ∧ w'.cell? ⟨w.heap.size, 2, none⟩ = some (.slice sa N sc) ∧ w'.cell? ⟨w.heap.size, 3, none⟩ = some (.slice (some uad) M uc)) ∧ (w'.cell? ⟨g1, 0, none⟩ = some (.string u.f_Store) ∧ w'.cell? ⟨g1, 1, none⟩ = some (.string u.f_Field)) ∧ (w'.cell? (uad.add (k * 2)) = some (.string u.f_Store) ∧ w'.cell? (⟨(uad.add (k * 2)).block, (uad.add (k * 2)).off + 1, none⟩) = some (.string u.f_Field)))) (by kernel_rfl) ⟨Bag.cs4 (Bag.drew1 S3.out) 0 rfl, Bag.cs2 (Bag.drew1 S3.out) 1 rfl, HKu.out _ (Bag.drew1 S3.out).old⟩ (fun hS => ?_)
     have S4 := Lib.hid (Bag.drew1 S3.out)
     clear S3
     generalize World.drew _ = w2 at hS S4 ⊢
     refine tk 0 rfl ?_
     try simp only [zp0, zp1, zp2, zp3, zp4]
     refine tk 1 rfl ?_
     try simp only [zp0, zp1, zp2, zp3, zp4]
     refine tk 2 rfl ?_
     try simp only [zp0, zp1, zp2, zp3, zp4]
     refine tk 3 rfl ?_
     try simp only [zp0, zp1, zp2, zp3, zp4]
     refine tk 4 rfl ?_
     try simp only [zp0, zp1, zp2, zp3, zp4]
     refine Reg.one_op (i := 5) rfl (by kernel_rfl) (fun K hK => ?_)
     go_simp
     go_at_call 102
     refine (HCT.out _ S4.out.old).mono ?_
     rintro e w3 ⟨rfl, hb⟩
     have S5 := Lib.hid (S4.out.keep hb)
     clear S4
     clear hb
     go_wp2_with fail
     refine hK.out _ _ ⟨Bag.cs4 S5.out 0 rfl, Bag.cs2 S5.out 1 rfl, HKu.out _ S5.out.old⟩ (fun hS => ?_)
     clear hK K
     try simp only [zp0, zp1, zp2, zp3, zp4]
     refine tk 6 rfl ?_
     try simp only [zp0, zp1, zp2, zp3, zp4]
     refine tk 7 rfl ?_
     try simp only [zp0, zp1, zp2, zp3, zp4]
     refine tk 8 rfl ?_
     try simp only [zp0, zp1, zp2, zp3, zp4]
     refine Reg.one_op (i := 9) rfl (by kernel_rfl) (fun K hK => ?_)
     go_simp
     go_at_call 103
     refine (HIK.out _ S5.out.old).mono ?_
     rintro e w4 ⟨rfl, hb⟩
     have S6 := Lib.hid (S5.out.keep hb)
     clear S5
     clear hb
     go_wp2_with fail
     refine hK.out _ _ ⟨Bag.cs4 S6.out 0 rfl, Bag.cs2 S6.out 1 rfl, HKu.out _ S6.out.old⟩ (fun hS => ?_)
     clear hK K
     try simp only [zp0, zp1, zp2, zp3, zp4]
     refine tk 10 rfl ?_
     try simp only [zp0, zp1, zp2, zp3, zp4]
     refine tk 11 rfl ?_
     try simp only [zp0, zp1, zp2, zp3, zp4]
     refine wpAnyH_done (by kernel_rfl) ?_ _
     obtain ⟨f0, f1, f2, f3⟩ := Bag.cs4 S6.out 0 rfl
     obtain ⟨f4, f5⟩ := Bag.cs2 S6.out 1 rfl
     obtain ⟨f6, f7⟩ := HKu.out _ S6.out.old
     clear f0 f1 f2 f3 f4 f5 f6 f7
     have S7 := Lib.hid (show Sl.Sep w _ [L4.boxR w.heap.size 33 #[.string name, .int .i64 ver, .slice sa N sc, .slice (some uad) M uc]] from Bag.take S6.out [0] (by rfl) (by decide))
     clear S6
     go_wp2_with fail
     go_roundw
     case rel => exact ⟨k + 1, by omega, by go_num, And.intro (fun j h => by
      by_cases e : j < k
      ·
       exact HA.out j e
      ·
       obtain rfl : j = k := by omega
       rw [okUx_at HCu.out, HBK.out, HBC.out]; rfl) S7.out⟩
     case measure => simp [intOf]; omega
  ·
   skip
   obtain rfl : k = M := by omega
   have HYES := Lib.hid (show B = true from by rw [← HB.out]; exact allTo_all HA.out)
   obtain ⟨f0, f1, f2, f3⟩ := Bag.cs4 S2.out 0 rfl
   go_wp2_with fail
   go_ret
   exact ⟨by rw [HD.out, HYES.out] <;> rfl, S2.out.old⟩
set_option maxHeartbeats 4000000 in
theorem isDatabase_any (z : Y_Database) (hf : FitD (co_Database z)) (w : World) (hr : RowsRd w w.heap.size (rw_Database z)) :
  Calls Tryz.prog 37 #[vv_Database z] w fun e w' => e = .returned (.bool (isD (co_Database z))) ∧ Below w.heap.size w w' := by
 have HVS := fun w' (h : Below w.heap.size w w') => hasValidStores_any z hf w' ((hr.below h).more h.size)
 have HVI := fun w' (h : Below w.heap.size w w') => hasValidIndexes_any z hf w' ((hr.below h).more h.size)
 have HINM := Lib.hid hf.name
 have HE : isD (co_Database z) = (isN (co_Database z).f_Name.data.toList && (L1.inB (co_Database z).f_Version 0 1000 && ((decide ((co_Database z).f_Stores.length ≤ 4) && allTo (okSx (co_Database z).f_Stores) (co_Database z).f_Stores.length) && (decide ((co_Database z).f_Unique.length ≤ 4) && allTo (okUx (co_Database z).f_Stores (co_Database z).f_Unique) (co_Database z).f_Unique.length)))) := by
  unfold isD
  generalize allTo (okSx (co_Database z).f_Stores) (co_Database z).f_Stores.length = b1
  generalize allTo (okUx (co_Database z).f_Stores (co_Database z).f_Unique) (co_Database z).f_Unique.length = b2
  cases b1 <;> cases b2 <;> cases isN (co_Database z).f_Name.data.toList <;> cases L1.inB (co_Database z).f_Version 0 1000 <;> simp
 obtain ⟨vs, hvs⟩ : ∃ b, (decide ((co_Database z).f_Stores.length ≤ 4) && allTo (okSx (co_Database z).f_Stores) (co_Database z).f_Stores.length) = b := ⟨_, rfl⟩
 obtain ⟨vi, hvi⟩ : ∃ b, (decide ((co_Database z).f_Unique.length ≤ 4) && allTo (okUx (co_Database z).f_Stores (co_Database z).f_Unique) (co_Database z).f_Unique.length) = b := ⟨_, rfl⟩
 rw [hvs] at HVS HE
 rw [hvi] at HVI HE
 rw [HE]
 clear HE hvs hvi hf hr
 obtain ⟨name, ver, sa, sc, ss, ua, uc, us⟩ := z
 dsimp only [co_Database, vv_Database] at *
 obtain ⟨N, hN⟩ : ∃ n, n = ss.length := ⟨_, rfl⟩
 obtain ⟨M, hM⟩ : ∃ n, n = us.length := ⟨_, rfl⟩
 rw [← hN, ← hM] at HVS HVI ⊢
 clear hN hM
 replace HVS := Lib.hid HVS
 replace HVI := Lib.hid HVI
 obtain ⟨bn, hbn⟩ : ∃ b, isN name.data.toList = b := ⟨_, rfl⟩
 have HIN := fun w => L5.isName_any name HINM.out w
 rw [hbn] at HIN ⊢
 replace HIN := Lib.hid HIN
 obtain ⟨ba, hba⟩ : ∃ b, L1.inB ver 0 1000 = b := ⟨_, rfl⟩
 have HIA := fun w => L1.inRange_any ver 0 1000 w
 rw [hba] at HIA ⊢
 replace HIA := Lib.hid HIA
 clear hbn hba
 have S1 := Lib.hid (show Sl.Sep w _ [_] from L4.push_box (Sl.Sep.start w) 33 #[.string name, .int .i64 ver, .slice sa N sc, .slice ua M uc] (w.heap.size) (by simp))
 obtain ⟨wa, hwa⟩ : ∃ w_, w_ = (w.alloc (.cells #[.string name, .int .i64 ver, .slice sa N sc, .slice ua M uc] 33)) := ⟨_, rfl⟩
 rw [← hwa] at S1
 go_enter Tryz.func37, Tryz.ntmps37
 go_upto_region 1 with fail
 rw [← hwa]
 clear hwa
 obtain ⟨f0, f1, f2, f3⟩ := Bag.cs4 S1.out 0 rfl
 cases bn with
 | false =>
  go_wp2_with fail
  go_at_call 68
  refine (HIN.out _).mono ?_
  rintro e w1 ⟨rfl, rfl⟩
  go_wp2_with fail
  go_ret
  exact ⟨rfl, S1.out.old⟩
 | true =>
  cases ba with
  | false =>
   go_wp2_with fail
   go_at_call 68
   refine (HIN.out _).mono ?_
   rintro e w1 ⟨rfl, rfl⟩
   go_wp2_with fail
   go_at_call 46
   refine (HIA.out _).mono ?_
   rintro e w2 ⟨rfl, rfl⟩
   go_wp2_with fail
   go_ret
   exact ⟨rfl, S1.out.old⟩
  | true =>
   cases vs with
   | false =>
    go_wp2_with fail
    go_at_call 68
    refine (HIN.out _).mono ?_
    rintro e w1 ⟨rfl, rfl⟩
    go_wp2_with fail
    go_at_call 46
    refine (HIA.out _).mono ?_
    rintro e w2 ⟨rfl, rfl⟩
    go_wp2_with fail
    go_at_call 69
    refine (HVS.out _ S1.out.old).mono ?_
    rintro e w3 ⟨rfl, hb⟩
    clear f0 f1 f2 f3
    have S2 := Lib.hid (S1.out.keep hb)
    clear S1
    clear hb
    obtain ⟨f0, f1, f2, f3⟩ := Bag.cs4 S2.out 0 rfl
    go_wp2_with fail
    go_ret
    exact ⟨rfl, S2.out.old⟩
   | true =>
    go_wp2_with fail
    go_at_call 68
    refine (HIN.out _).mono ?_
    rintro e w1 ⟨rfl, rfl⟩
    go_wp2_with fail
    go_at_call 46
    refine (HIA.out _).mono ?_
    rintro e w2 ⟨rfl, rfl⟩
    go_wp2_with fail
    go_at_call 69
    refine (HVS.out _ S1.out.old).mono ?_
    rintro e w3 ⟨rfl, hb⟩
    clear f0 f1 f2 f3
    have S2 := Lib.hid (S1.out.keep hb)
    clear S1
    clear hb
    obtain ⟨f0, f1, f2, f3⟩ := Bag.cs4 S2.out 0 rfl
    go_wp2_with fail
    go_at_call 70
    refine (HVI.out _ S2.out.old).mono ?_
    rintro e w4 ⟨rfl, hb⟩
    clear f0 f1 f2 f3
    have S3 := Lib.hid (S2.out.keep hb)
    clear S2
    clear hb
    obtain ⟨f0, f1, f2, f3⟩ := Bag.cs4 S3.out 0 rfl
    go_wp2_with fail
    go_ret
    exact ⟨by simp, S3.out.old⟩
theorem copyStore_W (x : LS) (hf : FitS (co_Store x)) (w : World) (hr : RowsRd w w.heap.size (rw_Store x)) : Calls Tryz.prog 72 #[vv_Store x] w (Copied_Store w x) :=
 (copyStore_any x hf w hr).mono fun e w' ⟨y, he, hc, hb, ho⟩ => ⟨y, he, hc, hb, ho⟩
def GaveDF (w : World) (d : X_Database) (e : Ending) (w' : World) : Prop :=
 ∃ (g g2 : Nat) (ys : List LS), e = .returned (.agg #[.string d.f_Name, .int .i64 d.f_Version, .slice (some ⟨g, 0, none⟩) ys.length ys.length, .slice (some ⟨g2, 0, none⟩) d.f_Unique.length d.f_Unique.length]) ∧ coS_Store ys = d.f_Stores ∧ BagOwn w' w.heap.size ((row_Store (some ⟨g, 0, none⟩) ys.length ys :: rws_Store ys) ++ [row_IndexDef (some ⟨g2, 0, none⟩) d.f_Unique.length d.f_Unique]) ∧ Below w.heap.size w w'
set_option maxHeartbeats 8000000 in
theorem copyDatabase_full (z : Y_Database) (hf : FitD (co_Database z)) (w : World) (hr : RowsRd w w.heap.size (rw_Database z)) :
  Calls Tryz.prog 38 #[vv_Database z] w (GaveDF w (co_Database z)) := by
 obtain ⟨iX, hi1, hi2, hi3, hi4⟩ := infoL_IndexDef
 have HIX := Lib.hid (And.intro hi1 (And.intro hi2 (And.intro hi3 hi4)))
 clear hi1 hi2 hi3 hi4
 have HR : Hid (∀ w' (h : Below w.heap.size w w'), Reads w' w.heap.size z.f_Stores_a (z.f_Stores.flatMap cl_Store)) := Lib.hid (fun w' h => (rdS hr).below h)
 have HX : Hid (∀ w' (h : Below w.heap.size w w'), RowsRd w' w'.heap.size (rws_Store z.f_Stores)) := Lib.hid (fun w' h => ((rdX hr).below h).more h.size)
 have HU : Hid (∀ w' (h : Below w.heap.size w w'), Reads w' w.heap.size z.f_Unique_a (z.f_Unique.flatMap cl_IndexDef)) := Lib.hid (fun w' h => (rdU hr).below h)
 have HFD := Lib.hid hf
 have HFDl : z.f_Stores.length ≤ 1048576 := by have h := hf.len; rwa [co_len] at h
 have HFDm : z.f_Unique.length ≤ 1048576 := hf.many
 clear hf hr
 obtain ⟨name, ver, sa, sc, ss, ua, uc, us⟩ := z
 dsimp only [co_Database] at HR HX HU HFD HFDl HFDm
 try unfold vv_Database
 try unfold co_Database
 try dsimp only
 try rw [show coS_IndexDef us = us from rfl]
 rw [show coS_IndexDef us = us from rfl] at HFD
 obtain ⟨N, hN⟩ : ∃ n, n = ss.length := ⟨_, rfl⟩
 obtain ⟨M, hM⟩ : ∃ n, n = us.length := ⟨_, rfl⟩
 rw [← hN] at HFDl ⊢
 rw [← hM] at HFDm ⊢
 have HFDl' : (N : Int) ≤ 1048576 := by omega
 have HFDm' : (M : Int) ≤ 1048576 := by omega
 have HN := Lib.hid hN
 have HM := Lib.hid hM
 clear hN hM
 have HCE := Lib.hid (fun w' (h : Below w.heap.size w w') => copyEach_Store copyStore_W sa sc ss (by rw [← HN.out]; exact HFDl) (fun s hs => HFD.out.stores _ (by show _ ∈ coS_Store ss; rw [coS_Store_eq]; exact List.mem_map.2 ⟨s, hs, rfl⟩)) w' ((HR.out w' h).more h.size) (HX.out w' h))
 rw [← HN.out] at HCE
 obtain ⟨Y, hZ⟩ : ∃ Z, Z = (madeCells (Value.agg #[.string ⟨#[]⟩, .string ⟨#[]⟩]).cells (M * 2)).toList := ⟨_, rfl⟩
 have HLY := Lib.hid (show Y.length = M * 2 by rw [hZ]; simp [madeCells])
 have HDY := Lib.hid hZ
 clear hZ
 have S1 := Lib.hid (show Sl.Sep w _ [_, _] from L4.push_box (L4.push_box (Sl.Sep.start w) 33 #[.string name, .int .i64 ver, .slice sa N sc, .slice ua M uc] (w.heap.size) (by simp)) 33 #[.string ⟨#[]⟩, .int .i64 0, .slice none 0 0, .slice none 0 0] (w.heap.size + 1) (by simp))
 obtain ⟨wa, hwa⟩ : ∃ w_, w_ = ((w.alloc (.cells #[.string name, .int .i64 ver, .slice sa N sc, .slice ua M uc] 33)).alloc (.cells #[.string ⟨#[]⟩, .int .i64 0, .slice none 0 0, .slice none 0 0] 33)) := ⟨_, rfl⟩
 rw [← hwa] at S1
 go_enter Tryz.func38, Tryz.ntmps38
 go_upto_region 1 with fail
 rw [← hwa]
 clear hwa
 obtain ⟨f0, f1, f2, f3⟩ := Bag.cs4 S1.out 0 rfl
 obtain ⟨f4, f5, f6, f7⟩ := Bag.cs4 S1.out 1 rfl
 go_upto_region 2 with (at_make; refine Run.wpList_make_s S1.out rfl _ _ 31 rfl 73 iX (.agg #[.string ⟨#[]⟩, .string ⟨#[]⟩]) 2 Tryz.underlying31 HIX.out.1 HIX.out.2.1 HIX.out.2.2.1 _ _ M rfl rfl (by rw [HIX.out.2.2.2]; omega) (by unfold maxLen; omega) ?_; intro w1 S')
 clear f0 f1 f2 f3 f4 f5 f6 f7
 obtain ⟨g1, hg⟩ : ∃ g', g' = wa.heap.size := ⟨_, rfl⟩
 rw [← hg] at S' ⊢
 clear hg
 have S2 := Lib.hid (show Sl.Sep w _ [L4.boxR w.heap.size 33 #[.string name, .int .i64 ver, .slice sa N sc, .slice ua M uc], L4.boxR (w.heap.size + 1) 33 #[.string ⟨#[]⟩, .int .i64 0, .slice none 0 0, .slice none 0 0], Sv.ownV 73 2 (some ⟨g1, 0, none⟩) M M Y] from (by have h := S'; rw [← HDY.out] at h; exact h))
 clear S1
 clear S'
 have HUL := Lib.hid (show (us.flatMap cl_IndexDef).length = M * 2 by rw [flat_len cl_IndexDef_len, HM.out])
 obtain ⟨f0, f1, f2, f3⟩ := Bag.cs4 S2.out 0 rfl
 obtain ⟨f4, f5, f6, f7⟩ := Bag.cs4 S2.out 1 rfl
 have hcp := fun ty => Run.run_copy_s (P := Tryz.prog) S2.out 2 rfl 31 31 ty iX Tryz.underlying31 HIX.out.1 HIX.out.2.2.1 0 M M M uc ua (us.flatMap cl_IndexDef) (by rw [HUL.out, show Nat.min M M = M from Nat.min_self _]) w.heap.size (HU.out _ S2.out.old) (by rw [HUL.out, HLY.out]; omega) (one_flat cl_IndexDef_one _)
 obtain ⟨w2, hw⟩ : ∃ u, u = World.setCells w1 g1 0 (us.flatMap cl_IndexDef) := ⟨_, rfl⟩
 rw [← hw] at hcp
 have HW := Lib.hid hw
 clear hw
 go_upto_region 3 with fail
 clear f0 f1 f2 f3 f4 f5 f6 f7
 have S3 := Lib.hid (show Sl.Sep w _ [_, _, Sv.ownV 73 2 (some ⟨g1, 0, none⟩) M M (us.flatMap cl_IndexDef)] from (by have h := Run.put_run S2.out 2 rfl 0 (us.flatMap cl_IndexDef) (by rw [HUL.out, HLY.out]; omega); rw [← HW.out, Run.over_all _ _ (by rw [HUL.out, HLY.out])] at h; exact h))
 clear S2
 clear hcp HW
 refine wp_region_held_drew (S := (fun w' => (w'.cell? ⟨w.heap.size, 0, none⟩ = some (.string name) ∧ w'.cell? ⟨w.heap.size, 1, none⟩ = some (.int .i64 ver) ∧ w'.cell? ⟨w.heap.size, 2, none⟩ = some (.slice sa N sc) ∧ w'.cell? ⟨w.heap.size, 3, none⟩ = some (.slice ua M uc)))) (by kernel_rfl) (Bag.cs4 (Bag.drew1 S3.out) 0 rfl) (fun hS => ?_)
 have S4 := Lib.hid (Bag.drew1 S3.out)
 clear S3
 generalize World.drew _ = w3 at hS S4 ⊢
 refine tk 0 rfl ?_
 try simp only [zp0, zp1, zp2, zp3, zp4]
 refine tk 1 rfl ?_
 try simp only [zp0, zp1, zp2, zp3, zp4]
 refine tk 2 rfl ?_
 try simp only [zp0, zp1, zp2, zp3, zp4]
 refine tk 3 rfl ?_
 try simp only [zp0, zp1, zp2, zp3, zp4]
 refine tk 4 rfl ?_
 try simp only [zp0, zp1, zp2, zp3, zp4]
 refine tk 5 rfl ?_
 try simp only [zp0, zp1, zp2, zp3, zp4]
 refine tk 7 rfl ?_
 try simp only [zp0, zp1, zp2, zp3, zp4]
 refine Reg.one_op (i := 6) rfl (by kernel_rfl) (fun K hK => ?_)
 go_simp
 go_at_call 71
 refine (HCE.out _ S4.out.old).mono ?_
 rintro e w4 ⟨gS, ys, rfl, hcy, ho, hb⟩
 have S5 := Lib.hid (show Sl.Sep w _ [_, _, _, Bag.bag (rs_Store (some ⟨gS, 0, none⟩) ys.length ys)] from Bag.push_bag S4.out hb ho)
 clear S4
 clear hb ho
 have HCY := Lib.hid hcy
 clear hcy
 go_wp2_with fail
 refine hK.out _ _ (Bag.cs4 S5.out 0 rfl) (fun hS => ?_)
 clear hK K
 try simp only [zp0, zp1, zp2, zp3, zp4]
 refine tk 8 rfl ?_
 try simp only [zp0, zp1, zp2, zp3, zp4]
 refine Reg.one_op (i := 9) rfl (by kernel_rfl) (fun K hK => ?_)
 obtain ⟨f0, f1, f2, f3⟩ := Bag.cs4 S5.out 1 rfl
 obtain ⟨z0, z1, z2, z3⟩ := Bag.fs4 S5.out 1 rfl
 go_simp
 clear f0 f1 f2 f3 z0 z1 z2 z3
 have S6 := Lib.hid (show Sl.Sep w _ [_, L4.boxR (w.heap.size + 1) 33 #[.string name, .int .i64 ver, .slice (some ⟨gS, 0, none⟩) ys.length ys.length, .slice (some ⟨g1, 0, none⟩) M M], _, _] from L5.put_box5 (L5.put_box5 (L5.put_box5 (L5.put_box5 (S5.out) 1 rfl 0 (.string name)) 1 rfl 1 (.int .i64 ver)) 1 rfl 2 (.slice (some ⟨gS, 0, none⟩) ys.length ys.length)) 1 rfl 3 (.slice (some ⟨g1, 0, none⟩) M M))
 clear S5
 refine hK.out _ _ (Bag.cs4 S6.out 0 rfl) (fun hS => ?_)
 clear hK K
 try simp only [zp0, zp1, zp2, zp3, zp4]
 refine wpAnyH_done (by kernel_rfl) ?_ _
 obtain ⟨f0, f1, f2, f3⟩ := Bag.cs4 S6.out 0 rfl
 obtain ⟨f4, f5, f6, f7⟩ := Bag.cs4 S6.out 1 rfl
 go_wp2_with fail
 refine bodyPost_ret (v := .agg #[.string name, .int .i64 ver, .slice (some ⟨gS, 0, none⟩) ys.length ys.length, .slice (some ⟨g1, 0, none⟩) M M]) (by simp [results, Tryz.results38, go_sem, *]) rfl ?_
 clear f0 f1 f2 f3 f4 f5 f6 f7
 have S91 := Lib.hid (Bag.bag_of_one S6.out 2 (r := row_IndexDef (some ⟨g1, 0, none⟩) M us) (by unfold RowS.res row_IndexDef; dsimp only; rw [HM.out]; rfl))
 have S93 := Lib.hid (Bag.bag_join S91.out 3 2 (by decide) rfl rfl)
 have hb := Bag.bag_from S93.out 3 rfl
 have hm := HM.out
 subst hm
 exact ⟨gS, g1, ys, rfl, HCY.out, hb, S93.out.old⟩
end Go.Proofs.YthljdhfgphebnaaGreat.L8

namespace Go.Proofs.YthljdhfgphebnaaGreat.Eat
open Go.ChangeShapes Go.WideShapes Go.ChangeAt Go.RowKit Mem Sl Sv Bag

theorem sub_of {xs ys : List RowS} (h : ∀ r ∈ xs, ∃ s ∈ ys, s.fp = r.fp) : ∀ b ∈ (bag xs).fp, b ∈ (bag ys).fp := fun b hb => by
 obtain ⟨r, hr, hm⟩ := List.mem_flatMap.1 hb
 obtain ⟨s, hs, e⟩ := h r hr
 exact List.mem_flatMap.2 ⟨s, hs, by rw [e]; exact hm⟩
theorem row_fp {e e2 : TypeId} {k k2 : Nat} {a : Option Addr} {c c2 n n2 : Nat} {xs xs2 : List Value} : RowS.fp ⟨e, k, a, c, n, xs⟩ = RowS.fp ⟨e2, k2, a, c2, n2, xs2⟩ := by
 unfold RowS.fp
 cases a <;> rfl
section
variable {W w w' : World} {rs : List Res} {xs ys : List RowS}
theorem eat_back (h : Sep W w rs) (i : Nat) (hi : rs[i]? = some (bag xs)) (h' : Sep W w' [bag ys, Run.restL W w (bag xs).fp]) (hsub : ∀ b ∈ (bag xs).fp, b ∈ (bag ys).fp) : Sep W w' (rs.set i (bag ys)) := by
 have hil : i < rs.length := (List.getElem?_eq_some_iff.1 hi).1
 have ht := Run.restL_turned h.old h' hsub
 have rest : ∀ b, W.heap.size ≤ b → b < w.heap.size → b ∉ (bag xs).fp → w'.heap[b]? = w.heap[b]? := fun b h1 h2 h3 => (h'.is 1 _ rfl) b h2 h1 h3
 have at_ : ∀ (j : Nat) (r : Res), (rs.set i (bag ys))[j]? = some r → (j = i ∧ r = bag ys) ∨ (j ≠ i ∧ rs[j]? = some r) := fun j r hj => by
  by_cases e : j = i
  ·
   subst e
   rw [List.getElem?_set_self hil] at hj
   exact .inl ⟨rfl, (Option.some.inj hj).symm⟩
  ·
   rw [List.getElem?_set_ne (fun x => e x.symm)] at hj
   exact .inr ⟨e, hj⟩
 have far : ∀ (j : Nat) (r : Res), j ≠ i → rs[j]? = some r → ∀ b ∈ r.fp, W.heap.size ≤ b ∧ b < w.heap.size ∧ b ∉ (bag xs).fp := fun j r hne hj b hb =>
  ⟨(h.lies j r hj b hb).1, (h.lies j r hj b hb).2, fun hb2 => h.apart j i r _ hj hi hne b hb hb2⟩
 refine ⟨h'.old, fun j r hj => ?_, fun j r hj b hb => ?_, fun j q r s hj hq hne b hb hb2 => ?_⟩
 ·
  rcases at_ j r hj with ⟨rfl, rfl⟩ | ⟨hne, hj2⟩
  ·
   exact h'.is 0 _ rfl
  ·
   exact r.loc (fun b hb => rest b (far j r hne hj2 b hb).1 (far j r hne hj2 b hb).2.1 (far j r hne hj2 b hb).2.2) (h.is j r hj2)
 ·
  rcases at_ j r hj with ⟨rfl, rfl⟩ | ⟨hne, hj2⟩
  ·
   exact h'.lies 0 _ rfl b hb
  ·
   exact ⟨(far j r hne hj2 b hb).1, Nat.lt_of_lt_of_le (far j r hne hj2 b hb).2.1 ht.size⟩
 ·
  have out : ∀ (j : Nat) (r : Res), j ≠ i → rs[j]? = some r → ∀ b ∈ r.fp, b ∉ (bag ys).fp := fun j r hne hj b hb hb2 => by
   obtain ⟨h1, h2, h3⟩ := far j r hne hj b hb
   exact h'.apart 0 1 _ _ rfl rfl (by decide) b hb2 (List.mem_filter.2 ⟨List.mem_range.2 h2, by simp [h1]; exact h3⟩)
  rcases at_ j r hj with ⟨e1, rfl⟩ | ⟨e1, hj2⟩ <;> rcases at_ q s hq with ⟨e2, rfl⟩ | ⟨e2, hq2⟩
  ·
   exact hne (e1.trans e2.symm)
  ·
   exact out q s e2 hq2 b hb2 hb
  ·
   exact out j r e1 hj2 b hb hb2
  ·
   exact h.apart j q r s hj2 hq2 hne b hb hb2
end
end Go.Proofs.YthljdhfgphebnaaGreat.Eat

