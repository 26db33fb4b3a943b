import Derived.Test.YtejincmlblpaoaaFnLogsP1
import Derived.Test.YtejincmlblpaoaaClosed
import Derived.JoinedOf
import Derived.SizedLaws
import Derived.LaidLaws
import Derived.ShutString
import Derived.Stop.LaidErr
import Derived.Lib.LaidTab
import Derived.Deep.DeepCutAuto
set_option linter.unusedSimpArgs false
namespace Go.Proofs.Ytejincmlblpaoaa.lawFnLogs
open Go.ChangeShapes Go.WideShapes Go.ChangeAt Go.RowKit
open Go.ChangeMaps (open_string shut_string)
theorem own : ownKnob Try.prog.godebug = none := by kernel_rfl
theorem laidOut : laidOutB Try.prog = true := by kernel_rfl
open Mem Sl Ex Sd L2 L3 L11
def endsL (ds : List (List Int)) : List Int := (List.range (ds.length + 1)).map fun i => (((catL 0 (ds.take i)).length : Nat) : Int)
theorem endsL_len (ds : List (List Int)) : (endsL ds).length = ds.length + 1 := by unfold endsL; simp
theorem endsL_at {ds : List (List Int)} {i : Nat} (h : i < (endsL ds).length) : (endsL ds)[i] = (((catL 0 (ds.take i)).length : Nat) : Int) := by
 have hl : i < ds.length + 1 := by rw [endsL_len] at h; exact h
 have h2 : (endsL ds)[i]? = some (((catL 0 (ds.take i)).length : Nat) : Int) := by unfold endsL; rw [List.getElem?_map, List.getElem?_range hl]; rfl
 obtain ⟨_, h3⟩ := List.getElem?_eq_some_iff.1 h2
 exact h3
theorem endsL_snoc (ds : List (List Int)) (d : List Int) : endsL (ds ++ [d]) = endsL ds ++ [(((catL 0 (ds ++ [d])).length : Nat) : Int)] := by
 unfold endsL
 rw [List.length_append, List.length_singleton, List.range_succ, List.map_append]
 congr 1
 ·
  refine List.map_congr_left fun i hi => ?_
  rw [List.take_append_of_le_length (by have := List.mem_range.1 hi; omega)]
 ·
  simp only [List.map_cons, List.map_nil]
  rw [List.take_of_length_le (by simp)]
theorem catL_snoc (ds : List (List Int)) (d : List Int) : catL 0 (ds ++ [d]) = catL 0 ds ++ entL (ds.length : Nat) d := by
 rw [catL_app, Nat.zero_add]
 show _ ++ (entL _ d ++ []) = _
 rw [List.append_nil]
theorem catL_le : ∀ (ds : List (List Int)) (k : Nat), (∀ d ∈ ds, d.length ≤ 2) → (catL k ds).length ≤ 14 * ds.length
 | [], k, h => Nat.le_refl _
 | d :: ds, k, h => by
  show (entL k d ++ catL (k + 1) ds).length ≤ 14 * (ds.length + 1)
  have h1 := catL_le ds (k + 1) fun x hx => h x (List.mem_cons_of_mem _ hx)
  have h2 := h d (List.mem_cons_self ..)
  have h3 := enc_len (d.length : Int)
  have h4 := enc_len (sumI k d)
  rw [List.length_append, entL_len]
  omega
theorem readI {w : World} {B : Nat} {ad : Addr} {l : List Int} (h : Reads w B (some ad) (ints .i64 l)) {k : Nat} {v : Int} (hk : l[k]? = some v) : w.cell? (ad.add k) = some (.int .i64 v) := by
 obtain ⟨h1, h2⟩ := List.getElem?_eq_some_iff.1 hk
 obtain ⟨ad', e, -, hc⟩ := h.int k h1
 injection e with e
 subst e
 rw [hc, h2]
theorem catL_byt : ∀ (ds : List (List Int)) (k : Nat), (∀ d ∈ ds, Byt d) → ∀ x ∈ catL k ds, 0 ≤ x ∧ x ≤ 255
 | [], k, h, x, hx => by cases hx
 | d :: ds, k, h, x, hx => by
  have hx' : x ∈ entL k d ++ catL (k + 1) ds := hx
  rcases List.mem_append.1 hx' with h1 | h1
  ·
   unfold entL at h1
   rcases List.mem_append.1 h1 with h2 | h2
   ·
    rcases List.mem_append.1 h2 with h3 | h3
    ·
     exact enc_byte _ x h3
    ·
     exact h d (List.mem_cons_self ..) x h3
   ·
    exact enc_byte _ x h2
  ·
   exact catL_byt ds (k + 1) (fun d hd => h d (List.mem_cons_of_mem _ hd)) x h1
set_option maxRecDepth 100000 in
set_option maxHeartbeats 8000000 in
theorem walk (H : Type) (enc : TypeId × Value → H) (W : World) (base : Nat) (args : Array Value) (ds : List (DataW H)) (p : List MemPlace)
  (hval : ∀ (j : Nat) t v, Try.f3.params[j]? = some t → args[j]? = some v → Value.okWide Try.prog W .any base t v)
  (hA : DataW.TrodAll enc Try.prog W 0 (fun _ => true) true Try.f3.params.toList args.toList ds p)
  (hlt : ∀ x ∈ p, x.block < W.heap.size)
  (hsz : (DataW.weightsEach Try.prog (Try.f3.params.toList ++ Rows.fnLogsSpec.plain.varTypes Try.prog) (ds ++ [])).all (· ≤ reachBytes) = true) :
  Calls Try.prog 3 args W fun e w' => e = .returned (.bool true) ∧ Below W.heap.size W w' := by
 rw [Try.params3] at hA hval hsz
 obtain ⟨v0, d0, rfl, rfl, h0⟩ := trodAll_one hA
 obtain ⟨a0, l0, c0, rfl, hC0, -, hR0, hW0⟩ := Law.open_list Try.underlying22 Try.underlying5 (by kernel_rfl) (hval 0 22 v0 rfl rfl) h0 hlt
 have hby : Mem.Bytes W W.heap.size a0 l0.length := fun j hj => by
  obtain ⟨ad, he, hb, hc⟩ := hR0.int j hj
  have := Law.wf_u8 (hW0 l0[j] (List.getElem_mem hj))
  exact ⟨ad, _, he, hb, hc, this.1, this.2⟩
 obtain ⟨n0, hn0⟩ : ∃ n, n = l0.length := ⟨_, rfl⟩
 rw [← hn0] at hby hC0 ⊢
 clear hn0 hR0 hW0 hA hval hlt hsz h0
 by_cases hbig : n0 > 1048576
 ·
  have S0 := Sl.Sep.start W
  go_enter Try.func3, Try.ntmps3
  go_wp2_with (go_at_call 10; refine (big_s _ S0).mono ?_; rw [decide_eq_true hbig]; rintro e w1 ⟨rfl, S1⟩)
  go_ret
  exact ⟨rfl, S1.old⟩
 ·
  skip
  have hsm2 : n0 ≤ 1048576 := by omega
  have HAT := Lib.hid (fun (w : World) (rs : List Res) (h : Sl.Sep W w rs) (i : Int) (h0 : 0 ≤ i) (h1 : i ≤ 1000000) => at_s (W := W) c0 hsm2 hby h i h0 h1)
  clear hby
  obtain ⟨iB, hi1, hi2, hi3, hi4⟩ := L11.infoB
  have HIB := Lib.hid (And.intro hi1 (And.intro hi2 (And.intro hi3 hi4)))
  clear hi1 hi2 hi3 hi4
  obtain ⟨iI, hi1, hi2, hi3, hi4⟩ := L11.infoI
  have HII := Lib.hid (And.intro hi1 (And.intro hi2 (And.intro hi3 hi4)))
  clear hi1 hi2 hi3 hi4
  have S0 := Lib.hid (Sl.Sep.start W)
  go_enter Try.func3, Try.ntmps3
  go_wp2_with fail
  go_at_call 10
  refine (big_s _ S0.out).mono ?_
  rw [decide_eq_false hbig]
  rintro e w1 ⟨rfl, hS⟩
  have S1 := Lib.hid hS
  clear hS S0 hbig
  have S2 := Lib.hid (show Sl.Sep W (World.alloc w1 (.cells #[] 5)) [Sl.own 5 .u8 (some ⟨w1.heap.size, 0, none⟩) 0 ([])] from Sl.Sep.pushOwn S1.out ((Below.refl _ _).alloc (Nat.le_refl _) _) (show Own (World.alloc w1 (.cells #[] 5)) w1.heap.size 5 .u8 (some ⟨w1.heap.size, 0, none⟩) 0 [] from own_lit w1 5 .u8 [] (Nat.le_refl _) (by simp [maxLen])))
  clear S1
  have S3 := Lib.hid (show Sl.Sep W (World.alloc (World.alloc w1 (.cells #[] 5)) (.cells #[.int .i64 0] 3)) [Sl.own 5 .u8 (some ⟨w1.heap.size, 0, none⟩) 0 ([]), Sl.own 3 .i64 (some ⟨(World.alloc w1 (.cells #[] 5)).heap.size, 0, none⟩) 1 ([0])] from Sl.Sep.pushOwn S2.out ((Below.refl _ _).alloc (Nat.le_refl _) _) (show Own (World.alloc (World.alloc w1 (.cells #[] 5)) (.cells #[.int .i64 0] 3)) (World.alloc w1 (.cells #[] 5)).heap.size 3 .i64 (some ⟨(World.alloc w1 (.cells #[] 5)).heap.size, 0, none⟩) 1 [0] from own_lit (World.alloc w1 (.cells #[] 5)) 3 .i64 [0] (Nat.le_refl _) (by simp [maxLen])))
  clear S2
  have hz : (World.alloc w1 (.cells #[] 5)).heap.size = w1.heap.size + 1 := by simp
  have S29 := S3.out
  rw [hz] at S29
  have S28 := Lib.hid S29
  clear S29 hz S3
  go_wp2_with fail
  go_loopw [3, 4, 5] (fun x y i wr => ∃ (A E : Option Addr) (C EC : Nat) (ds : List (List Int)), x = .slice A (catL 0 ds).length C ∧ y = .slice E (ds.length + 1) EC ∧ i = .int .i64 ds.length ∧ ds.length ≤ 4 ∧ Hid ((∀ d ∈ ds, d.length ≤ 2 ∧ Byt d) ∧ Sl.Sep W wr [Sl.own 5 .u8 A C (catL 0 ds), Sl.own 3 .i64 E EC (endsL ds)])) (fun _ _ i _ => 5 - (intOf i).toNat)
  case atStart => exact ⟨_, _, _, _, [], rfl, rfl, rfl, by simp, And.intro (fun d hd => by cases hd) S28.out⟩
  case round =>
   obtain ⟨A, E, C, EC, ds, rfl, rfl, rfl, hd4, hrel⟩ := hrel
   have HD := Lib.hid hrel.out.1
   have S30 := Lib.hid hrel.out.2
   clear hrel
   obtain ⟨m, hm⟩ : ∃ m, ds.length = m := ⟨_, rfl⟩
   have HM := Lib.hid hm
   obtain ⟨X, hX⟩ : ∃ X, catL 0 ds = X := ⟨_, rfl⟩
   have HX := Lib.hid hX
   have hXl : X.length ≤ 56 := by have h := catL_le ds 0 (fun d hd => (HD.out d hd).1); rw [hX] at h; omega
   rw [hm] at hd4 ⊢
   rw [hX] at S30 ⊢
   clear hm hX
   go_wp2_with fail
   go_at_call 11
   refine (HAT.out _ _ S30.out 0 (by omega) (by omega)).mono ?_
   rintro e w4 ⟨x, rfl, ⟨hx0, hx1⟩, hS⟩
   have S31 := Lib.hid hS
   clear hS S30
   by_cases hlt : (m : Int) < 1 + x % 4
   ·
    skip
    go_wp2_with fail
    go_at_call 11
    refine (HAT.out _ _ S31.out ((m : Int) + 1) (by omega) (by omega)).mono ?_
    rintro e w5 ⟨x1, rfl, ⟨hx10, hx11⟩, hS⟩
    have S32 := Lib.hid hS
    clear hS S31
    go_wp2_with fail
    have S33 := Lib.hid (show Sl.Sep W (World.alloc w5 (.cells #[.int .u8 x1, .int .u8 (m : Int)] 5)) [Sl.own 5 .u8 A C X, Sl.own 3 .i64 E EC (endsL ds), Sl.own 5 .u8 (some ⟨w5.heap.size, 0, none⟩) 2 ([x1, (m : Int)])] from Sl.Sep.pushOwn S32.out ((Below.refl _ _).alloc (Nat.le_refl _) _) (show Own (World.alloc w5 (.cells #[.int .u8 x1, .int .u8 (m : Int)] 5)) w5.heap.size 5 .u8 (some ⟨w5.heap.size, 0, none⟩) 2 [x1, (m : Int)] from own_lit w5 5 .u8 [x1, (m : Int)] (Nat.le_refl _) (by simp [maxLen])))
    clear S32
    obtain ⟨g, hg⟩ : ∃ g', g' = w5.heap.size := ⟨_, rfl⟩
    rw [← hg] at S33 ⊢
    clear hg
    generalize World.alloc w5 (.cells #[.int .u8 x1, .int .u8 (m : Int)] 5) = w6 at S33 ⊢
    go_at_call 11
    refine (HAT.out _ _ S33.out ((m : Int) + 2) (by omega) (by omega)).mono ?_
    rintro e w7 ⟨x2, rfl, ⟨hx20, hx21⟩, hS⟩
    have S34 := Lib.hid hS
    clear hS S33
    obtain ⟨r, hr⟩ : ∃ r : Nat, x2 % 3 = (r : Int) := ⟨(x2 % 3).toNat, by omega⟩
    have hr2 : r ≤ 2 := by omega
    have hr3 : (r : Int) ≤ 2 := by omega
    have hr4 : ([x1, (m : Int)].take r).length = r := by rw [List.length_take]; simp; omega
    obtain ⟨d, hd⟩ : ∃ d, d = [x1, (m : Int)].take r := ⟨_, rfl⟩
    rw [← hd] at hr4
    have hdB : Byt d := fun y hy => by rw [hd] at hy; have h := List.mem_of_mem_take hy; simp at h; rcases h with rfl | rfl <;> omega
    have HRD := Lib.hid (show Reads w7 w7.heap.size (some ⟨g, 0, none⟩) (ints .u8 d) from by rw [hd]; exact rd_take ((Sl.Sep.own S34.out 2 rfl).reads) r)
    have HAP := implAppendLog_any A (some ⟨g, 0, none⟩) C 2 X d m w7 ((Sl.Sep.own S34.out 0 rfl).reads) ((Sl.Sep.own S34.out 0 rfl).cap) (by omega) HRD.out hdB (by omega)
    have hel : (entL (m : Int) d).length ≤ 14 := by have h3 := enc_len (d.length : Int); have h4 := enc_len (sumI (m : Int) d); rw [entL_len]; omega
    obtain ⟨Y, hY⟩ : ∃ Y, X ++ entL (m : Int) d = Y := ⟨_, rfl⟩
    have hYl : Y.length ≤ 70 := by rw [← hY, List.length_append]; omega
    have e2 : appB X m d = true := by unfold appB; rw [hY, decide_eq_false (by omega), decide_eq_true (by omega)]; rfl
    have e1 : appL X m d = Y := by unfold appL; rw [e2, hY]; rfl
    unfold GaveLB at HAP
    rw [e1, e2, hr4] at HAP
    have HYX := Lib.hid hY
    have HDD := Lib.hid (And.intro hr4 hdB)
    clear e1 e2 hY hd hdB hel
    go_wp2_with fail
    go_at_call 12
    refine HAP.mono ?_
    rintro e w8 ⟨ya, yc, rfl, ho, hb⟩
    clear HAP HRD
    have S35 := Lib.hid (show Sl.Sep W _ [Sl.own 5 .u8 A C X, Sl.own 3 .i64 E EC (endsL ds), Sl.own 5 .u8 (some ⟨g, 0, none⟩) 2 ([x1, (m : Int)]), Sl.own 5 .u8 ya yc Y] from Sl.Sep.pushOwn S34.out hb ho)
    clear S34
    clear hb ho
    have S36 := Lib.hid (show Sl.Sep W _ [_, _] from Bag.take S35.out [3, 1] (by rfl) (by decide))
    clear S35
    have S37 := Lib.hid (show Sl.Sep W (World.alloc w8 (.cells #[.int .i64 (Y.length : Nat)] 3)) [Sl.own 5 .u8 ya yc Y, Sl.own 3 .i64 E EC (endsL ds), Sl.own 3 .i64 (some ⟨w8.heap.size, 0, none⟩) 1 ([((Y.length : Nat) : Int)])] from Sl.Sep.pushOwn S36.out ((Below.refl _ _).alloc (Nat.le_refl _) _) (show Own (World.alloc w8 (.cells #[.int .i64 (Y.length : Nat)] 3)) w8.heap.size 3 .i64 (some ⟨w8.heap.size, 0, none⟩) 1 [((Y.length : Nat) : Int)] from own_lit w8 3 .i64 [((Y.length : Nat) : Int)] (Nat.le_refl _) (by simp [maxLen])))
    clear S36
    have hel2 := Lib.hid (endsL_len ds)
    go_wp2_with (at_builtin; (refine Sd.wpList_append_sep _ rfl _ _ 24 rfl 3 iI (.int .i64 0) 8 Try.underlying24 HII.out.1 HII.out.2.1 HII.out.2.2.1 HII.out.2.2.2 rfl .i64 _ (m + 1) _ (endsL ds) rfl (by rw [hel2.out, HM.out]) _ _ S37.out 1 rfl _ _ 1 _ [((Y.length : Nat) : Int)] rfl rfl (Sl.Sep.own S37.out 2 rfl).reads (by unfold maxLen; rw [hel2.out, HM.out]; simp; omega) (by rw [hel2.out, HM.out]; simp; omega) ?_; intro E2 EC2 wz hA))
    have S38 := Lib.hid (show Sl.Sep W wz [_, Sl.own 3 .i64 E2 EC2 (endsL ds ++ [((Y.length : Nat) : Int)]), Sl.own 3 .i64 (some ⟨w8.heap.size, 0, none⟩) 1 ([((Y.length : Nat) : Int)])] from hA)
    clear S37
    clear hA
    have S39 := Lib.hid (show Sl.Sep W _ [_, _] from Bag.take S38.out [0, 1] (by rfl) (by decide))
    clear S38
    have HC := Lib.hid (show catL 0 (ds ++ [d]) = Y from by rw [catL_snoc, HX.out, HM.out]; exact HYX.out)
    have HND := Lib.hid (show ∀ y ∈ ds ++ [d], y.length ≤ 2 ∧ Byt y from fun y hy => by
     rcases List.mem_append.1 hy with h | h
     ·
      exact HD.out y h
     ·
      rw [List.mem_singleton] at h; subst h; exact ⟨by rw [HDD.out.1]; omega, HDD.out.2⟩)
    go_roundw
    case rel => exact ⟨ya, E2, yc, EC2, ds ++ [d], by rw [HC.out], by rw [List.length_append, HM.out, hel2.out, HM.out]; rfl, by rw [List.length_append, HM.out]; go_num, by rw [List.length_append, HM.out]; simp; omega, And.intro HND.out (by rw [endsL_snoc, HC.out]; exact S39.out)⟩
    case measure => simp [intOf]; omega
   ·
    skip
    go_wp2_with fail
    go_at_call 11
    refine (HAT.out _ _ S31.out 7 (by omega) (by omega)).mono ?_
    rintro e w5 ⟨x7, rfl, ⟨hx70, hx71⟩, hS⟩
    have S32 := Lib.hid hS
    clear hS S31
    have hd0 : ¬ ((X.length : Int) + 1 = 0) := by omega
    obtain ⟨cut, hcut⟩ : ∃ cut : Nat, x7 % ((X.length : Int) + 1) = (cut : Int) := ⟨(x7 % ((X.length : Int) + 1)).toNat, by have := Int.emod_nonneg x7 (b := (X.length : Int) + 1) (by omega); omega⟩
    have hcl : cut ≤ X.length := by have := Int.emod_lt_of_pos x7 (b := (X.length : Int) + 1) (by omega); omega
    go_wp2_with fail
    rw [hcut]
    clear hcut
    go_loopw [9] (fun v wr => ∃ n : Nat, n ≤ m ∧ v = .int .i64 n ∧ Hid ((catL 0 (ds.take n)).length ≤ cut ∧ Sl.Sep W wr [Sl.own 5 .u8 A C X, Sl.own 3 .i64 E EC (endsL ds)])) (fun v _ => m - (intOf v).toNat)
    case atStart => exact ⟨0, Nat.zero_le _, rfl, And.intro (Nat.zero_le _) S32.out⟩
    case round =>
     obtain ⟨n, hn, rfl, hrel⟩ := hrel
     have HCU := Lib.hid hrel.out.1
     have S60 := Lib.hid hrel.out.2
     clear hrel S32
     have HEL := Lib.hid (endsL_len ds)
     by_cases hl2 : (n : Int) + 1 < (m : Int) + 1
     ·
      skip
      have hke1 : n + 1 < (endsL ds).length := by rw [HEL.out, HM.out]; omega
      obtain ⟨ad, hE, -, hce1⟩ := (Sl.Sep.own S60.out 1 rfl).reads.int (n + 1) hke1
      subst hE
      obtain ⟨e1, he1⟩ : ∃ e : Nat, (catL 0 (ds.take (n + 1))).length = e := ⟨_, rfl⟩
      rw [show (endsL ds)[n + 1] = (e1 : Int) from by rw [endsL_at, he1]] at hce1
      have HE1 := Lib.hid he1
      clear he1 hke1
      have hcf : wr.cell? ⟨ad.block, ad.off + (n + 1), none⟩ = some (.int .i64 e1) := hce1
      by_cases hle : (e1 : Int) ≤ (cut : Int)
      ·
       skip
       go_wp2_with fail
       go_roundw
       case rel => exact ⟨n + 1, by omega, by go_num, And.intro (by rw [HE1.out]; omega) S60.out⟩
       case measure => simp [intOf]; omega
      ·
       skip
       have HUP := Lib.hid (show n < m → cut < (catL 0 (ds.take (n + 1))).length from fun _ => by rw [HE1.out]; omega)
       have hd4' : ∀ d ∈ ds, d.length ≤ 4000 := fun d hd => by have := (HD.out d hd).1; omega
       have hbx : ∀ x ∈ catL 0 ds, 0 ≤ x ∧ x ≤ 255 := catL_byt ds 0 (fun d hd => (HD.out d hd).2)
       obtain ⟨n', j1, j2, j3, j4⟩ := read_cut ds cut hd4' hbx (by rw [HX.out]; exact hcl)
       obtain rfl : n' = n := cut_unique ds cut n' n hd4' j1 j3 j4 (by rw [HM.out]; exact hn) HCU.out (fun h => HUP.out (by rw [HM.out] at h; exact h))
       have j5 := rep_of ds cut n' j2 j3
       have j6 := read_all ds hd4' hbx
       have j7 := rep_all (ds.take n') (fun d hd => hd4' d (List.mem_of_mem_take hd)) (fun x hx => hbx x (by obtain ⟨t, ht⟩ := catL_split ds 0 n'; rw [ht]; exact List.mem_append_left _ hx))
       rw [HX.out] at j2 j5 j6 hbx
       obtain ⟨Z, hZ⟩ : ∃ Z, X.take cut = Z := ⟨_, rfl⟩
       rw [hZ] at j2 j5
       have hcz : crashL X (cut : Int) [] = Z := by unfold crashL; rw [List.append_nil, ← hZ]; congr 1; omega
       have hbz : ∀ x ∈ Z, 0 ≤ x ∧ x ≤ 255 := fun x hx => hbx x (by rw [← hZ] at hx; exact List.mem_of_mem_take hx)
       have hzl : Z.length ≤ 56 := by rw [← hZ, List.length_take]; omega
       have S61 := Lib.hid (show Sl.Sep W (World.alloc wr (.cells #[] 5)) [Sl.own 5 .u8 A C X, Sl.own 3 .i64 (some ad) EC (endsL ds), Sl.own 5 .u8 (some ⟨wr.heap.size, 0, none⟩) 0 ([])] from Sl.Sep.pushOwn S60.out ((Below.refl _ _).alloc (Nat.le_refl _) _) (show Own (World.alloc wr (.cells #[] 5)) wr.heap.size 5 .u8 (some ⟨wr.heap.size, 0, none⟩) 0 [] from own_lit wr 5 .u8 [] (Nat.le_refl _) (by simp [maxLen])))
       clear S60
       have HCR := implCrashLog_any A (some ⟨wr.heap.size, 0, none⟩) C 0 X [] cut _ (Sl.Sep.own S61.out 0 rfl).reads (Sl.Sep.own S61.out 0 rfl).cap (by omega) (Sl.Sep.own S61.out 2 rfl).reads (by simp)
       rw [hcz] at HCR
       go_wp2_with fail
       go_at_call 13
       refine HCR.mono ?_
       rintro e wa ⟨ca, cc, rfl, ho, hb⟩
       clear HCR
       have S62 := Lib.hid (show Sl.Sep W _ [Sl.own 5 .u8 A C X, Sl.own 3 .i64 (some ad) EC (endsL ds), Sl.own 5 .u8 (some ⟨wr.heap.size, 0, none⟩) 0 ([]), Sl.own 5 .u8 ca cc Z] from Sl.Sep.pushOwn S61.out hb ho)
       clear S61
       clear hb ho
       have S63 := Lib.hid (show Sl.Sep W _ [_, _, _] from Bag.take S62.out [0, 1, 3] (by rfl) (by decide))
       clear S62
       have HR1 := implReadLog_any ca cc Z hbz (Sl.Sep.own S63.out 2 rfl).cap (by omega) wa (Sl.Sep.own S63.out 2 rfl).reads
       rw [j2] at HR1
       go_wp2_with fail
       go_at_call 14
       refine HR1.mono ?_
       rintro e wb ⟨la, lc, ys, rfl, hys, -, hb⟩
       clear HR1
       have hyl : ys.length = n' := by have h := congrArg List.length hys; rw [List.length_map] at h; rw [h]; show (ds.take n').length = n'; rw [List.length_take, HM.out]; omega
       have S64 := Lib.hid (S63.out.keep hb)
       clear S63
       clear hb hys
       have HR2 := implReadLog_any A C X hbx (Sl.Sep.own S64.out 0 rfl).cap (by omega) wb (Sl.Sep.own S64.out 0 rfl).reads
       rw [j6] at HR2
       go_wp2_with fail
       go_at_call 14
       refine HR2.mono ?_
       rintro e wc ⟨la2, lc2, ys2, rfl, hys2, -, hb⟩
       clear HR2
       have hyl2 : ys2.length = m := by have h := congrArg List.length hys2; rw [List.length_map] at h; rw [h]; exact HM.out
       have S65 := Lib.hid (S64.out.keep hb)
       clear S64
       clear hb hys2
       obtain ⟨T, hT⟩ : ∃ T, catL 0 (ds.take n') = T := ⟨_, rfl⟩
       obtain ⟨en, hen⟩ : ∃ en, T.length = en := ⟨_, rfl⟩
       rw [hT, hen] at j2
       rw [hT] at j5 j7
       have hTX : T = X.take en := by obtain ⟨t, ht⟩ := catL_split ds 0 n'; rw [hT, HX.out] at ht; rw [ht, ← hen, List.take_left]
       have hex : en ≤ X.length := by have h := congrArg List.length hTX; rw [hen, List.length_take] at h; omega
       have hec : en ≤ C := Nat.le_trans hex (Sl.Sep.own S65.out 0 rfl).cap
       have hbT : ∀ x ∈ T, 0 ≤ x ∧ x ≤ 255 := fun x hx => hbx x (by rw [hTX] at hx; exact List.mem_of_mem_take hx)
       have hct : cntL Z = n' := by unfold cntL; rw [j2]; show (ds.take n').length = n'; rw [List.length_take, HM.out]; omega
       have hkn : (endsL ds)[n']? = some (en : Int) := by rw [List.getElem?_eq_getElem (by rw [HEL.out, HM.out]; omega), endsL_at, hT, hen]
       have HKN := Lib.hid hkn
       obtain ⟨adz, hEz, -, -⟩ := (Sl.Sep.own S65.out 1 rfl).reads.int n' (by rw [HEL.out, HM.out]; omega)
       injection hEz with hEz
       subst hEz
       try rw [hyl]
       try rw [hyl2]
       try dsimp only
       try rw [hT]
       try rw [hen]
       clear hyl hyl2 hkn j1 j3 j4 hT
       have hni : n' < m + 1 := by omega
       have hni2 : (n' : Int) < (m : Int) + 1 := by omega
       have hni4 : IntKind.wrap .i64 (m : Int) = (m : Int) := IntWalk.i64_in _ ⟨by omega, by omega⟩
       have hni3 : (en : Int) ≤ (C : Int) := by omega
       go_upto_region 20 with fail
       refine wp_region_held_drew (S := (fun w' => w'.cell? (ad.add n') = some (.int .i64 en))) (by kernel_rfl) (readI (Sl.Sep.own (Bag.drew1 S65.out) 1 rfl).reads HKN.out) (fun hS => ?_)
       have S66 := Lib.hid (Bag.drew1 S65.out)
       clear S65
       generalize World.drew _ = w1 at hS S66 ⊢
       refine tk 0 rfl ?_
       try simp only [zp0, zp1, zp2, zp3, zp4]
       refine tk 1 rfl ?_
       try simp only [zp0, zp1, zp2, zp3, zp4]
       refine tk 2 rfl ?_
       try simp only [zp0, zp1, zp2, zp3, zp4]
       refine tk 3 rfl ?_
       try simp only [zp0, zp1, zp2, zp3, zp4]
       refine tk 4 rfl ?_
       try simp only [zp0, zp1, zp2, zp3, zp4]
       refine tk 5 rfl ?_
       try simp only [zp0, zp1, zp2, zp3, zp4]
       refine tk 6 rfl ?_
       try simp only [zp0, zp1, zp2, zp3, zp4]
       refine tk 7 rfl ?_
       try simp only [zp0, zp1, zp2, zp3, zp4]
       refine tk 8 rfl ?_
       try simp only [zp0, zp1, zp2, zp3, zp4]
       refine tk 9 rfl ?_
       try simp only [zp0, zp1, zp2, zp3, zp4]
       refine tk 10 rfl ?_
       try simp only [zp0, zp1, zp2, zp3, zp4]
       refine tk 11 rfl ?_
       try simp only [zp0, zp1, zp2, zp3, zp4]
       refine tk 12 rfl ?_
       try simp only [zp0, zp1, zp2, zp3, zp4]
       refine tk 13 rfl ?_
       try simp only [zp0, zp1, zp2, zp3, zp4]
       refine tk 14 rfl ?_
       try simp only [zp0, zp1, zp2, zp3, zp4]
       refine tk 15 rfl ?_
       try simp only [zp0, zp1, zp2, zp3, zp4]
       refine tk 16 rfl ?_
       try simp only [zp0, zp1, zp2, zp3, zp4]
       refine tk 17 rfl ?_
       try simp only [zp0, zp1, zp2, zp3, zp4]
       refine tk 18 rfl ?_
       try simp only [zp0, zp1, zp2, zp3, zp4]
       refine tk 19 rfl ?_
       try simp only [zp0, zp1, zp2, zp3, zp4]
       refine tk 20 rfl ?_
       try simp only [zp0, zp1, zp2, zp3, zp4]
       refine tk 21 rfl ?_
       try simp only [zp0, zp1, zp2, zp3, zp4]
       refine tk 22 rfl ?_
       try simp only [zp0, zp1, zp2, zp3, zp4]
       refine tk 23 rfl ?_
       try simp only [zp0, zp1, zp2, zp3, zp4]
       refine tk 24 rfl ?_
       try simp only [zp0, zp1, zp2, zp3, zp4]
       refine tk 25 rfl ?_
       try simp only [zp0, zp1, zp2, zp3, zp4]
       refine tk 26 rfl ?_
       try simp only [zp0, zp1, zp2, zp3, zp4]
       refine tk 27 rfl ?_
       try simp only [zp0, zp1, zp2, zp3, zp4]
       refine tk 29 rfl ?_
       try simp only [zp0, zp1, zp2, zp3, zp4]
       refine tk 30 rfl ?_
       try simp only [zp0, zp1, zp2, zp3, zp4]
       refine tk 31 rfl ?_
       try simp only [zp0, zp1, zp2, zp3, zp4]
       refine tk 32 rfl ?_
       try simp only [zp0, zp1, zp2, zp3, zp4]
       refine tk 33 rfl ?_
       try simp only [zp0, zp1, zp2, zp3, zp4]
       refine tk 34 rfl ?_
       try simp only [zp0, zp1, zp2, zp3, zp4]
       refine Reg.one_op (i := 28) rfl (by kernel_rfl) (fun K hK => ?_)
       go_simp
       have HC := implRepairLog_any ca cc Z hbz (Sl.Sep.own S66.out 2 rfl).cap (by omega) _ (Sl.Sep.own S66.out 2 rfl).reads
       rw [j5] at HC
       try rw [hen] at HC
       go_at_call 16
       refine HC.mono ?_
       rintro e wr2 ⟨raa, rac, rfl, ho, hb⟩
       clear HC
       have S67 := Lib.hid (show Sl.Sep W _ [_, _, _, Sl.own 5 .u8 raa rac T] from Sl.Sep.pushOwn S66.out hb ho)
       clear S66
       clear hb ho
       go_wp2_with fail
       refine hK.out _ _ (readI (Sl.Sep.own S67.out 1 rfl).reads HKN.out) (fun hS => ?_)
       clear hK K
       try simp only [zp0, zp1, zp2, zp3, zp4]
       refine Reg.one_op (i := 35) rfl (by kernel_rfl) (fun K hK => ?_)
       go_simp
       go_at_call 15
       refine (sameBytes_s S67.out en en _ _ _ hen.symm (by rw [List.length_take]; omega) (Sl.Sep.own S67.out 3 rfl).reads (rd_take (l := X) (Sl.Sep.own S67.out 0 rfl).reads en) hTX (by omega)).mono ?_
       rintro e wr3 ⟨rfl, hS⟩
       have S68 := Lib.hid (show Sl.Sep W wr3 [_, _, _, _] from hS)
       clear S67
       clear hS
       go_wp2_with fail
       refine hK.out _ _ (readI (Sl.Sep.own S68.out 1 rfl).reads HKN.out) (fun hS => ?_)
       clear hK K
       try simp only [zp0, zp1, zp2, zp3, zp4]
       refine tk 36 rfl ?_
       try simp only [zp0, zp1, zp2, zp3, zp4]
       refine tk 37 rfl ?_
       try simp only [zp0, zp1, zp2, zp3, zp4]
       refine tk 38 rfl ?_
       try simp only [zp0, zp1, zp2, zp3, zp4]
       refine tk 40 rfl ?_
       try simp only [zp0, zp1, zp2, zp3, zp4]
       refine Reg.one_op (i := 39) rfl (by kernel_rfl) (fun K hK => ?_)
       go_simp
       have HC := implCountLog_any ca cc Z hbz (Sl.Sep.own S68.out 2 rfl).cap (by omega) _ (Sl.Sep.own S68.out 2 rfl).reads
       rw [hct] at HC
       go_at_call 17
       refine HC.mono ?_
       rintro e wr4 ⟨rfl, hb⟩
       clear HC
       have S69 := Lib.hid (S68.out.keep hb)
       clear S68
       clear hb
       go_wp2_with fail
       refine hK.out _ _ (readI (Sl.Sep.own S69.out 1 rfl).reads HKN.out) (fun hS => ?_)
       clear hK K
       try simp only [zp0, zp1, zp2, zp3, zp4]
       refine tk 41 rfl ?_
       try simp only [zp0, zp1, zp2, zp3, zp4]
       refine tk 42 rfl ?_
       try simp only [zp0, zp1, zp2, zp3, zp4]
       refine tk 43 rfl ?_
       try simp only [zp0, zp1, zp2, zp3, zp4]
       refine tk 44 rfl ?_
       try simp only [zp0, zp1, zp2, zp3, zp4]
       refine tk 47 rfl ?_
       try simp only [zp0, zp1, zp2, zp3, zp4]
       refine Reg.one_op (i := 45) rfl (by kernel_rfl) (fun K hK => ?_)
       go_simp
       have HC := implRepairLog_any ca cc Z hbz (Sl.Sep.own S69.out 2 rfl).cap (by omega) _ (Sl.Sep.own S69.out 2 rfl).reads
       rw [j5] at HC
       try rw [hen] at HC
       go_at_call 16
       refine HC.mono ?_
       rintro e wr5 ⟨rba, rbc, rfl, ho, hb⟩
       clear HC
       have S70 := Lib.hid (show Sl.Sep W _ [Sl.own 5 .u8 A C X, Sl.own 3 .i64 (some ad) EC (endsL ds), Sl.own 5 .u8 ca cc Z, Sl.own 5 .u8 raa rac T, Sl.own 5 .u8 rba rbc T] from Sl.Sep.pushOwn S69.out hb ho)
       clear S69
       clear hb ho
       go_wp2_with fail
       refine hK.out _ _ (readI (Sl.Sep.own S70.out 1 rfl).reads HKN.out) (fun hS => ?_)
       clear hK K
       try simp only [zp0, zp1, zp2, zp3, zp4]
       refine Reg.one_op (i := 46) rfl (by kernel_rfl) (fun K hK => ?_)
       go_simp
       have HC := implRepairLog_any rba rbc T hbT (Sl.Sep.own S70.out 4 rfl).cap (by omega) _ (Sl.Sep.own S70.out 4 rfl).reads
       rw [j7] at HC
       try rw [hen] at HC
       go_at_call 16
       refine HC.mono ?_
       rintro e wr6 ⟨rca, rcc, rfl, ho, hb⟩
       clear HC
       have S71 := Lib.hid (show Sl.Sep W _ [_, _, _, _, _, Sl.own 5 .u8 rca rcc T] from Sl.Sep.pushOwn S70.out hb ho)
       clear S70
       clear hb ho
       go_wp2_with fail
       refine hK.out _ _ (readI (Sl.Sep.own S71.out 1 rfl).reads HKN.out) (fun hS => ?_)
       clear hK K
       try simp only [zp0, zp1, zp2, zp3, zp4]
       refine Reg.one_op (i := 48) rfl (by kernel_rfl) (fun K hK => ?_)
       go_simp
       have HC := implRepairLog_any ca cc Z hbz (Sl.Sep.own S71.out 2 rfl).cap (by omega) _ (Sl.Sep.own S71.out 2 rfl).reads
       rw [j5] at HC
       try rw [hen] at HC
       go_at_call 16
       refine HC.mono ?_
       rintro e wr7 ⟨rda, rdc, rfl, ho, hb⟩
       clear HC
       have S72 := Lib.hid (show Sl.Sep W _ [_, _, _, _, _, _, Sl.own 5 .u8 rda rdc T] from Sl.Sep.pushOwn S71.out hb ho)
       clear S71
       clear hb ho
       go_wp2_with fail
       refine hK.out _ _ (readI (Sl.Sep.own S72.out 1 rfl).reads HKN.out) (fun hS => ?_)
       clear hK K
       try simp only [zp0, zp1, zp2, zp3, zp4]
       refine Reg.one_op (i := 49) rfl (by kernel_rfl) (fun K hK => ?_)
       go_simp
       go_at_call 15
       refine (sameBytes_s S72.out en en _ _ _ hen.symm hen.symm (Sl.Sep.own S72.out 5 rfl).reads (Sl.Sep.own S72.out 6 rfl).reads rfl (by omega)).mono ?_
       rintro e wr8 ⟨rfl, hS⟩
       have S73 := Lib.hid (show Sl.Sep W wr8 [_, _, _, _, _, _, _] from hS)
       clear S72
       clear hS
       go_wp2_with fail
       refine hK.out _ _ (readI (Sl.Sep.own S73.out 1 rfl).reads HKN.out) (fun hS => ?_)
       clear hK K
       try simp only [zp0, zp1, zp2, zp3, zp4]
       refine tk 50 rfl ?_
       try simp only [zp0, zp1, zp2, zp3, zp4]
       refine tk 51 rfl ?_
       try simp only [zp0, zp1, zp2, zp3, zp4]
       refine wpAnyH_done (by kernel_rfl) ?_ _
       have f0 : World.cell? _ (ad.add n') = some (.int .i64 en) := readI (Sl.Sep.own S73.out 1 rfl).reads HKN.out
       clear f0
       go_wp2_with fail
       go_ret
       exact ⟨rfl, S73.out.old⟩
     ·
      skip
      have HUP := Lib.hid (show n < m → cut < (catL 0 (ds.take (n + 1))).length from fun h => absurd h (by omega))
      have hd4' : ∀ d ∈ ds, d.length ≤ 4000 := fun d hd => by have := (HD.out d hd).1; omega
      have hbx : ∀ x ∈ catL 0 ds, 0 ≤ x ∧ x ≤ 255 := catL_byt ds 0 (fun d hd => (HD.out d hd).2)
      obtain ⟨n', j1, j2, j3, j4⟩ := read_cut ds cut hd4' hbx (by rw [HX.out]; exact hcl)
      obtain rfl : n' = n := cut_unique ds cut n' n hd4' j1 j3 j4 (by rw [HM.out]; exact hn) HCU.out (fun h => HUP.out (by rw [HM.out] at h; exact h))
      have j5 := rep_of ds cut n' j2 j3
      have j6 := read_all ds hd4' hbx
      have j7 := rep_all (ds.take n') (fun d hd => hd4' d (List.mem_of_mem_take hd)) (fun x hx => hbx x (by obtain ⟨t, ht⟩ := catL_split ds 0 n'; rw [ht]; exact List.mem_append_left _ hx))
      rw [HX.out] at j2 j5 j6 hbx
      obtain ⟨Z, hZ⟩ : ∃ Z, X.take cut = Z := ⟨_, rfl⟩
      rw [hZ] at j2 j5
      have hcz : crashL X (cut : Int) [] = Z := by unfold crashL; rw [List.append_nil, ← hZ]; congr 1; omega
      have hbz : ∀ x ∈ Z, 0 ≤ x ∧ x ≤ 255 := fun x hx => hbx x (by rw [← hZ] at hx; exact List.mem_of_mem_take hx)
      have hzl : Z.length ≤ 56 := by rw [← hZ, List.length_take]; omega
      have S61 := Lib.hid (show Sl.Sep W (World.alloc wr (.cells #[] 5)) [Sl.own 5 .u8 A C X, Sl.own 3 .i64 E EC (endsL ds), Sl.own 5 .u8 (some ⟨wr.heap.size, 0, none⟩) 0 ([])] from Sl.Sep.pushOwn S60.out ((Below.refl _ _).alloc (Nat.le_refl _) _) (show Own (World.alloc wr (.cells #[] 5)) wr.heap.size 5 .u8 (some ⟨wr.heap.size, 0, none⟩) 0 [] from own_lit wr 5 .u8 [] (Nat.le_refl _) (by simp [maxLen])))
      clear S60
      have HCR := implCrashLog_any A (some ⟨wr.heap.size, 0, none⟩) C 0 X [] cut _ (Sl.Sep.own S61.out 0 rfl).reads (Sl.Sep.own S61.out 0 rfl).cap (by omega) (Sl.Sep.own S61.out 2 rfl).reads (by simp)
      rw [hcz] at HCR
      go_wp2_with fail
      go_at_call 13
      refine HCR.mono ?_
      rintro e wa ⟨ca, cc, rfl, ho, hb⟩
      clear HCR
      have S62 := Lib.hid (show Sl.Sep W _ [Sl.own 5 .u8 A C X, Sl.own 3 .i64 E EC (endsL ds), Sl.own 5 .u8 (some ⟨wr.heap.size, 0, none⟩) 0 ([]), Sl.own 5 .u8 ca cc Z] from Sl.Sep.pushOwn S61.out hb ho)
      clear S61
      clear hb ho
      have S63 := Lib.hid (show Sl.Sep W _ [_, _, _] from Bag.take S62.out [0, 1, 3] (by rfl) (by decide))
      clear S62
      have HR1 := implReadLog_any ca cc Z hbz (Sl.Sep.own S63.out 2 rfl).cap (by omega) wa (Sl.Sep.own S63.out 2 rfl).reads
      rw [j2] at HR1
      go_wp2_with fail
      go_at_call 14
      refine HR1.mono ?_
      rintro e wb ⟨la, lc, ys, rfl, hys, -, hb⟩
      clear HR1
      have hyl : ys.length = n' := by have h := congrArg List.length hys; rw [List.length_map] at h; rw [h]; show (ds.take n').length = n'; rw [List.length_take, HM.out]; omega
      have S64 := Lib.hid (S63.out.keep hb)
      clear S63
      clear hb hys
      have HR2 := implReadLog_any A C X hbx (Sl.Sep.own S64.out 0 rfl).cap (by omega) wb (Sl.Sep.own S64.out 0 rfl).reads
      rw [j6] at HR2
      go_wp2_with fail
      go_at_call 14
      refine HR2.mono ?_
      rintro e wc ⟨la2, lc2, ys2, rfl, hys2, -, hb⟩
      clear HR2
      have hyl2 : ys2.length = m := by have h := congrArg List.length hys2; rw [List.length_map] at h; rw [h]; exact HM.out
      have S65 := Lib.hid (S64.out.keep hb)
      clear S64
      clear hb hys2
      obtain ⟨T, hT⟩ : ∃ T, catL 0 (ds.take n') = T := ⟨_, rfl⟩
      obtain ⟨en, hen⟩ : ∃ en, T.length = en := ⟨_, rfl⟩
      rw [hT, hen] at j2
      rw [hT] at j5 j7
      have hTX : T = X.take en := by obtain ⟨t, ht⟩ := catL_split ds 0 n'; rw [hT, HX.out] at ht; rw [ht, ← hen, List.take_left]
      have hex : en ≤ X.length := by have h := congrArg List.length hTX; rw [hen, List.length_take] at h; omega
      have hec : en ≤ C := Nat.le_trans hex (Sl.Sep.own S65.out 0 rfl).cap
      have hbT : ∀ x ∈ T, 0 ≤ x ∧ x ≤ 255 := fun x hx => hbx x (by rw [hTX] at hx; exact List.mem_of_mem_take hx)
      have hct : cntL Z = n' := by unfold cntL; rw [j2]; show (ds.take n').length = n'; rw [List.length_take, HM.out]; omega
      have hkn : (endsL ds)[n']? = some (en : Int) := by rw [List.getElem?_eq_getElem (by rw [HEL.out, HM.out]; omega), endsL_at, hT, hen]
      have HKN := Lib.hid hkn
      obtain ⟨adz, hEz, -, -⟩ := (Sl.Sep.own S65.out 1 rfl).reads.int n' (by rw [HEL.out, HM.out]; omega)
      subst hEz
      try rw [hyl]
      try rw [hyl2]
      try dsimp only
      try rw [hT]
      try rw [hen]
      clear hyl hyl2 hkn j1 j3 j4 hT
      have hni : n' < m + 1 := by omega
      have hni2 : (n' : Int) < (m : Int) + 1 := by omega
      have hni4 : IntKind.wrap .i64 (m : Int) = (m : Int) := IntWalk.i64_in _ ⟨by omega, by omega⟩
      have hni3 : (en : Int) ≤ (C : Int) := by omega
      go_upto_region 20 with fail
      refine wp_region_held_drew (S := (fun w' => w'.cell? (adz.add n') = some (.int .i64 en))) (by kernel_rfl) (readI (Sl.Sep.own (Bag.drew1 S65.out) 1 rfl).reads HKN.out) (fun hS => ?_)
      have S66 := Lib.hid (Bag.drew1 S65.out)
      clear S65
      generalize World.drew _ = w1 at hS S66 ⊢
      refine tk 0 rfl ?_
      try simp only [zp0, zp1, zp2, zp3, zp4]
      refine tk 1 rfl ?_
      try simp only [zp0, zp1, zp2, zp3, zp4]
      refine tk 2 rfl ?_
      try simp only [zp0, zp1, zp2, zp3, zp4]
      refine tk 3 rfl ?_
      try simp only [zp0, zp1, zp2, zp3, zp4]
      refine tk 4 rfl ?_
      try simp only [zp0, zp1, zp2, zp3, zp4]
      refine tk 5 rfl ?_
      try simp only [zp0, zp1, zp2, zp3, zp4]
      refine tk 6 rfl ?_
      try simp only [zp0, zp1, zp2, zp3, zp4]
      refine tk 7 rfl ?_
      try simp only [zp0, zp1, zp2, zp3, zp4]
      refine tk 8 rfl ?_
      try simp only [zp0, zp1, zp2, zp3, zp4]
      refine tk 9 rfl ?_
      try simp only [zp0, zp1, zp2, zp3, zp4]
      refine tk 10 rfl ?_
      try simp only [zp0, zp1, zp2, zp3, zp4]
      refine tk 11 rfl ?_
      try simp only [zp0, zp1, zp2, zp3, zp4]
      refine tk 12 rfl ?_
      try simp only [zp0, zp1, zp2, zp3, zp4]
      refine tk 13 rfl ?_
      try simp only [zp0, zp1, zp2, zp3, zp4]
      refine tk 14 rfl ?_
      try simp only [zp0, zp1, zp2, zp3, zp4]
      refine tk 15 rfl ?_
      try simp only [zp0, zp1, zp2, zp3, zp4]
      refine tk 16 rfl ?_
      try simp only [zp0, zp1, zp2, zp3, zp4]
      refine tk 17 rfl ?_
      try simp only [zp0, zp1, zp2, zp3, zp4]
      refine tk 18 rfl ?_
      try simp only [zp0, zp1, zp2, zp3, zp4]
      refine tk 19 rfl ?_
      try simp only [zp0, zp1, zp2, zp3, zp4]
      refine tk 20 rfl ?_
      try simp only [zp0, zp1, zp2, zp3, zp4]
      refine tk 21 rfl ?_
      try simp only [zp0, zp1, zp2, zp3, zp4]
      refine tk 22 rfl ?_
      try simp only [zp0, zp1, zp2, zp3, zp4]
      refine tk 23 rfl ?_
      try simp only [zp0, zp1, zp2, zp3, zp4]
      refine tk 24 rfl ?_
      try simp only [zp0, zp1, zp2, zp3, zp4]
      refine tk 25 rfl ?_
      try simp only [zp0, zp1, zp2, zp3, zp4]
      refine tk 26 rfl ?_
      try simp only [zp0, zp1, zp2, zp3, zp4]
      refine tk 27 rfl ?_
      try simp only [zp0, zp1, zp2, zp3, zp4]
      refine tk 29 rfl ?_
      try simp only [zp0, zp1, zp2, zp3, zp4]
      refine tk 30 rfl ?_
      try simp only [zp0, zp1, zp2, zp3, zp4]
      refine tk 31 rfl ?_
      try simp only [zp0, zp1, zp2, zp3, zp4]
      refine tk 32 rfl ?_
      try simp only [zp0, zp1, zp2, zp3, zp4]
      refine tk 33 rfl ?_
      try simp only [zp0, zp1, zp2, zp3, zp4]
      refine tk 34 rfl ?_
      try simp only [zp0, zp1, zp2, zp3, zp4]
      refine Reg.one_op (i := 28) rfl (by kernel_rfl) (fun K hK => ?_)
      go_simp
      have HC := implRepairLog_any ca cc Z hbz (Sl.Sep.own S66.out 2 rfl).cap (by omega) _ (Sl.Sep.own S66.out 2 rfl).reads
      rw [j5] at HC
      try rw [hen] at HC
      go_at_call 16
      refine HC.mono ?_
      rintro e wr2 ⟨raa, rac, rfl, ho, hb⟩
      clear HC
      have S67 := Lib.hid (show Sl.Sep W _ [_, _, _, Sl.own 5 .u8 raa rac T] from Sl.Sep.pushOwn S66.out hb ho)
      clear S66
      clear hb ho
      go_wp2_with fail
      refine hK.out _ _ (readI (Sl.Sep.own S67.out 1 rfl).reads HKN.out) (fun hS => ?_)
      clear hK K
      try simp only [zp0, zp1, zp2, zp3, zp4]
      refine Reg.one_op (i := 35) rfl (by kernel_rfl) (fun K hK => ?_)
      go_simp
      go_at_call 15
      refine (sameBytes_s S67.out en en _ _ _ hen.symm (by rw [List.length_take]; omega) (Sl.Sep.own S67.out 3 rfl).reads (rd_take (l := X) (Sl.Sep.own S67.out 0 rfl).reads en) hTX (by omega)).mono ?_
      rintro e wr3 ⟨rfl, hS⟩
      have S68 := Lib.hid (show Sl.Sep W wr3 [_, _, _, _] from hS)
      clear S67
      clear hS
      go_wp2_with fail
      refine hK.out _ _ (readI (Sl.Sep.own S68.out 1 rfl).reads HKN.out) (fun hS => ?_)
      clear hK K
      try simp only [zp0, zp1, zp2, zp3, zp4]
      refine tk 36 rfl ?_
      try simp only [zp0, zp1, zp2, zp3, zp4]
      refine tk 37 rfl ?_
      try simp only [zp0, zp1, zp2, zp3, zp4]
      refine tk 38 rfl ?_
      try simp only [zp0, zp1, zp2, zp3, zp4]
      refine tk 40 rfl ?_
      try simp only [zp0, zp1, zp2, zp3, zp4]
      refine Reg.one_op (i := 39) rfl (by kernel_rfl) (fun K hK => ?_)
      go_simp
      have HC := implCountLog_any ca cc Z hbz (Sl.Sep.own S68.out 2 rfl).cap (by omega) _ (Sl.Sep.own S68.out 2 rfl).reads
      rw [hct] at HC
      go_at_call 17
      refine HC.mono ?_
      rintro e wr4 ⟨rfl, hb⟩
      clear HC
      have S69 := Lib.hid (S68.out.keep hb)
      clear S68
      clear hb
      go_wp2_with fail
      refine hK.out _ _ (readI (Sl.Sep.own S69.out 1 rfl).reads HKN.out) (fun hS => ?_)
      clear hK K
      try simp only [zp0, zp1, zp2, zp3, zp4]
      refine tk 41 rfl ?_
      try simp only [zp0, zp1, zp2, zp3, zp4]
      refine tk 42 rfl ?_
      try simp only [zp0, zp1, zp2, zp3, zp4]
      refine tk 43 rfl ?_
      try simp only [zp0, zp1, zp2, zp3, zp4]
      refine tk 44 rfl ?_
      try simp only [zp0, zp1, zp2, zp3, zp4]
      refine tk 47 rfl ?_
      try simp only [zp0, zp1, zp2, zp3, zp4]
      refine Reg.one_op (i := 45) rfl (by kernel_rfl) (fun K hK => ?_)
      go_simp
      have HC := implRepairLog_any ca cc Z hbz (Sl.Sep.own S69.out 2 rfl).cap (by omega) _ (Sl.Sep.own S69.out 2 rfl).reads
      rw [j5] at HC
      try rw [hen] at HC
      go_at_call 16
      refine HC.mono ?_
      rintro e wr5 ⟨rba, rbc, rfl, ho, hb⟩
      clear HC
      have S70 := Lib.hid (show Sl.Sep W _ [Sl.own 5 .u8 A C X, Sl.own 3 .i64 (some adz) EC (endsL ds), Sl.own 5 .u8 ca cc Z, Sl.own 5 .u8 raa rac T, Sl.own 5 .u8 rba rbc T] from Sl.Sep.pushOwn S69.out hb ho)
      clear S69
      clear hb ho
      go_wp2_with fail
      refine hK.out _ _ (readI (Sl.Sep.own S70.out 1 rfl).reads HKN.out) (fun hS => ?_)
      clear hK K
      try simp only [zp0, zp1, zp2, zp3, zp4]
      refine Reg.one_op (i := 46) rfl (by kernel_rfl) (fun K hK => ?_)
      go_simp
      have HC := implRepairLog_any rba rbc T hbT (Sl.Sep.own S70.out 4 rfl).cap (by omega) _ (Sl.Sep.own S70.out 4 rfl).reads
      rw [j7] at HC
      try rw [hen] at HC
      go_at_call 16
      refine HC.mono ?_
      rintro e wr6 ⟨rca, rcc, rfl, ho, hb⟩
      clear HC
      have S71 := Lib.hid (show Sl.Sep W _ [_, _, _, _, _, Sl.own 5 .u8 rca rcc T] from Sl.Sep.pushOwn S70.out hb ho)
      clear S70
      clear hb ho
      go_wp2_with fail
      refine hK.out _ _ (readI (Sl.Sep.own S71.out 1 rfl).reads HKN.out) (fun hS => ?_)
      clear hK K
      try simp only [zp0, zp1, zp2, zp3, zp4]
      refine Reg.one_op (i := 48) rfl (by kernel_rfl) (fun K hK => ?_)
      go_simp
      have HC := implRepairLog_any ca cc Z hbz (Sl.Sep.own S71.out 2 rfl).cap (by omega) _ (Sl.Sep.own S71.out 2 rfl).reads
      rw [j5] at HC
      try rw [hen] at HC
      go_at_call 16
      refine HC.mono ?_
      rintro e wr7 ⟨rda, rdc, rfl, ho, hb⟩
      clear HC
      have S72 := Lib.hid (show Sl.Sep W _ [_, _, _, _, _, _, Sl.own 5 .u8 rda rdc T] from Sl.Sep.pushOwn S71.out hb ho)
      clear S71
      clear hb ho
      go_wp2_with fail
      refine hK.out _ _ (readI (Sl.Sep.own S72.out 1 rfl).reads HKN.out) (fun hS => ?_)
      clear hK K
      try simp only [zp0, zp1, zp2, zp3, zp4]
      refine Reg.one_op (i := 49) rfl (by kernel_rfl) (fun K hK => ?_)
      go_simp
      go_at_call 15
      refine (sameBytes_s S72.out en en _ _ _ hen.symm hen.symm (Sl.Sep.own S72.out 5 rfl).reads (Sl.Sep.own S72.out 6 rfl).reads rfl (by omega)).mono ?_
      rintro e wr8 ⟨rfl, hS⟩
      have S73 := Lib.hid (show Sl.Sep W wr8 [_, _, _, _, _, _, _] from hS)
      clear S72
      clear hS
      go_wp2_with fail
      refine hK.out _ _ (readI (Sl.Sep.own S73.out 1 rfl).reads HKN.out) (fun hS => ?_)
      clear hK K
      try simp only [zp0, zp1, zp2, zp3, zp4]
      refine tk 50 rfl ?_
      try simp only [zp0, zp1, zp2, zp3, zp4]
      refine tk 51 rfl ?_
      try simp only [zp0, zp1, zp2, zp3, zp4]
      refine wpAnyH_done (by kernel_rfl) ?_ _
      have f0 : World.cell? _ (adz.add n') = some (.int .i64 en) := readI (Sl.Sep.own S73.out 1 rfl).reads HKN.out
      clear f0
      go_wp2_with fail
      go_ret
      exact ⟨rfl, S73.out.old⟩

set_option maxRecDepth 100000 in
theorem lifted (os : Os) (started : os.Started) (H : Type) (enc : TypeId × Value → H) :
  ReturnsInHanded {} Try.checked os 3 .any (Rows.fnLogsSpec.pre6 enc Try.prog Try.f3 Rows.fnLogsRow.domain false) (Rows.fnLogsSpec.post enc Try.prog Try.f3 false true false false) := by
 refine returnsInHanded_of_change_sized (C := Try.checked) own started (by kernel_rfl) Try.func3
  (ChangeSpec.witness6 (enc := enc) (C := Try.checked) false ⟨#[], #[.slice none 0 0], []⟩ 8 (by kernel_rfl) (by kernel_rfl) (by kernel_rfl) (by kernel_rfl)) ?_
 intro W base args ds gs before hval0 hW _ hsz0 _
 have hval : ∀ (j : Nat) t v, Try.f3.params[j]? = some t → args[j]? = some v → Value.okWide Try.prog W .any base t v := hval0
 have hW' := hW
 obtain ⟨p, q, hA0, hV, rfl, _, _⟩ := hW
 have hA : DataW.TrodAll enc Try.prog W 0 (fun _ => true) true Try.f3.params.toList args.toList ds p := hA0
 obtain ⟨rfl, rfl⟩ := trodVars_none hV
 have hlt : ∀ x ∈ p, x.block < W.heap.size := fun x hx => hW'.lt x (by simpa using hx)
 simp only [List.append_nil] at hW'
 have hw := walk H enc W base args ds p hval hA hlt hsz0
 have hA1 := hA
 clear hA0 hval0 hsz0 hval hlt
 rw [Try.params3] at hA
 obtain ⟨v0, vs0, d0, ds0, p0, q0, e0, rfl, rfl, h0, hr0⟩ := trodAll_cons hA
 obtain ⟨e1, rfl, rfl⟩ := trodAll_nil hr0
 refine hw.mono fun e W' ⟨he, hb⟩ => ?_
 subst he
 exact ⟨_, rfl, Frame.law_post (tb := 4) rfl hW' hA1 rfl rfl rfl laidOut (by kernel_rfl) (by kernel_rfl) Try.underlying4 hb⟩

theorem closedFacts : joinedFacts Try.pinned.checked.prog 3 Try.f3 Rows.fnLogsSpec Rows.fnLogsRow = true := by
 have h1 : Try.pinned.checked.prog.mayEnter = true := Closed.mayIn
 have h2 : (Rows.fnLogsRow.lifted == Try.pinned.checked.prog.liftsFinal) = true := by
  rw [show Try.pinned.checked.prog.liftsFinal = false from Closed.liftsNone]; rfl
 have h3 : (Try.pinned.checked.prog.make == some Rows.fnLogsRow.make) = true := by
  rw [show Try.pinned.checked.prog.make = some .cut from Closed.makeIs]; rfl
 unfold joinedFacts
 rw [h1, h2, h3]
 change _ = true
 kernel_rfl
theorem holds : Rows.FnLogsSaid :=
 OpenClaim.holds_of_wide 3 Try.f3 rfl rfl rfl rfl rfl rfl rfl ⟨rfl, rfl, rfl, rfl, rfl⟩ rfl rfl rfl rfl rfl (by kernel_rfl) Try.func3 closedFacts
  (of_decide_eq_true (by kernel_rfl)) (by unfold Func.isWrapper; first | (rw [if_pos (by decide +kernel)]; kernel_rfl) | (rw [if_neg (by decide +kernel)]; exact ⟨rfl, rfl⟩))
  (fun os started H enc _ => lifted os started H enc)

#print axioms holds
end Go.Proofs.Ytejincmlblpaoaa.lawFnLogs
