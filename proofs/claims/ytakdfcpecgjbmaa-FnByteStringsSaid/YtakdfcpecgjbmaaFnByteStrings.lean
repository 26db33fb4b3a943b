/-
  The law FnByteStrings answers true for every argument, and leaves its arguments as they were. No condition.
  (The frame is written by my program mk_law.py.)
-/
import Derived.Test.YtakdfcpecgjbmaaFrame
import Derived.SizedLaws
import Derived.LaidLaws
import Derived.ShutString
import Derived.Stop.LaidErr
import Derived.Lib.LaidTab
import Derived.Test.YtakdfcpecgjbmaaSd2
namespace Go.Proofs.Ytakdfcpecgjbmaa.lawFnByteStrings
open Go.ChangeShapes Go.WideShapes Go.ChangeAt Go.RowKit
open Go.ChangeMaps (open_string shut_string)
set_option linter.unusedVariables false
theorem own : ownKnob Try.prog.godebug = none := by kernel_rfl
theorem laidOut : laidOutB Try.prog = true := by kernel_rfl
open Mem Sl Ex Sd L2
theorem rb_back (b m : List Int) (hm : m.length ≤ 1000) : rbB (b ++ L2.enc m.length ++ m) b.length m.length = true ∧ rbL (b ++ L2.enc m.length ++ m) b.length m.length = m ∧ rbE (b ++ L2.enc m.length ++ m) b.length m.length = (b ++ L2.enc m.length ++ m).length := by
  have h := rd_enc b m m.length (by omega) (by omega)
  rw [← List.append_assoc] at h
  have h1 := rdN_of h
  have h2 := rdE_of h
  have h3 := rdB_of h
  have hy : rbB (b ++ L2.enc m.length ++ m) b.length m.length = true := by
    unfold rbB
    rw [h1, h2, h3]
    simp
    omega
  obtain ⟨e1, e2⟩ := rb_yes hy
  refine ⟨hy, ?_, ?_⟩
  · rw [e1, h1, h2]
    have e3 : ((b.length : Int) + ((L2.enc m.length).length : Int)).toNat = (b ++ L2.enc m.length).length := by simp; omega
    rw [e3, List.drop_left]
    simp
  · rw [e2, h1, h2]
    simp
    omega
theorem rb_short (b m : List Int) (hm : m.length ≤ 1000) : rbB (b ++ L2.enc m.length ++ m) b.length ((m.length : Int) - 1) = false := by
  have h := rd_enc b m m.length (by omega) (by omega)
  rw [← List.append_assoc] at h
  unfold rbB
  rw [rdN_of h, decide_eq_false (show ¬ ((m.length : Int) ≤ (m.length : Int) - 1) by omega)]
  simp
def Fits (l : List Int) : Prop := ∀ x ∈ l, 0 ≤ x ∧ x ≤ 1000000000000
theorem Fits.snoc {l : List Int} {x : Int} (h : Fits l) (h0 : 0 ≤ x ∧ x ≤ 1000000000000) : Fits (l ++ [x]) := fun y hy => by
  rcases List.mem_append.1 hy with h2 | h2
  · exact h y h2
  · simp at h2; subst h2; exact h0
theorem dc_back : ∀ (l : List Int), Fits l → ∀ (pre : List Int), dc (pre ++ encs l) pre.length l.length = some (l, ((pre ++ encs l).length : Int)) ∧ dc (pre ++ encs l) pre.length (l.length + 1) = none
  | [], _, pre => by
    refine ⟨by simp [dc, encs], ?_⟩
    simp only [List.length_nil, dc, encs, List.flatMap_nil, List.append_nil]
    rw [rd_beyond (Int.le_refl _)]
  | x :: l, h, pre => by
    have hx := h x (by simp)
    have hr := rd_enc pre (encs l) x hx.1 hx.2
    have e0 : encs (x :: l) = L2.enc x ++ encs l := by simp [encs]
    obtain ⟨i1, i2⟩ := dc_back l (fun y hy => h y (by simp [hy])) (pre ++ L2.enc x)
    have e1 : ((pre ++ L2.enc x).length : Int) = pre.length + (L2.enc x).length := by simp
    rw [e1, List.append_assoc] at i1 i2
    rw [e0]
    constructor
    · simp only [List.length_cons, dc]
      rw [hr]
      simp only []
      rw [i1]
      rfl
    · rw [List.length_cons, dc]
      rw [hr]
      simp only []
      rw [i2]
      rfl
theorem dcs_back (l : List Int) (h : Fits l) (hl : l.length ≤ 50) : dcL (encs l) 0 l.length = l ∧ dcE (encs l) 0 l.length = (encs l).length ∧ dcB (encs l) 0 l.length = true ∧ dcB (encs l) 0 ((l.length : Int) + 1) = false := by
  obtain ⟨h1, h2⟩ := dc_back l h []
  simp only [List.nil_append, List.length_nil] at h1 h2
  have e1 : dcO (encs l) 0 l.length = some (l, ((encs l).length : Int)) := by
    unfold dcO
    rw [if_pos ⟨L1.inB_true.mpr ⟨by omega, by omega⟩, L1.inB_true.mpr ⟨by omega, by omega⟩⟩]
    simpa using h1
  have e2 : dcO (encs l) 0 ((l.length : Int) + 1) = none := by
    unfold dcO
    rw [if_pos ⟨L1.inB_true.mpr ⟨by omega, by omega⟩, L1.inB_true.mpr ⟨by omega, by omega⟩⟩]
    have : ((l.length : Int) + 1).toNat = l.length + 1 := by omega
    rw [this]
    simpa using h2
  obtain ⟨a1, a2, a3⟩ := dc_some e1
  exact ⟨a1, a2, a3, (dc_none e2).2.2⟩
theorem mul3 {x y z : Int} (hx : 0 ≤ x ∧ x ≤ 255) (hy : 0 ≤ y ∧ y ≤ 255) (hz : 0 ≤ z ∧ z ≤ 255) : 0 ≤ wrap64 (wrap64 (x * y) * z) ∧ wrap64 (wrap64 (x * y) * z) ≤ 1000000000000 := by
  have a := Int.mul_nonneg hx.1 hy.1
  have b : x * y ≤ 255 * 255 := Int.mul_le_mul hx.2 hy.2 hy.1 (by decide)
  have e1 : wrap64 (x * y) = x * y := by rw [← IntWalk.i64_left, IntWalk.i64_in _ ⟨by omega, by omega⟩]
  rw [e1]
  have c := Int.mul_nonneg a hz.1
  have d : x * y * z ≤ 65025 * 255 := Int.mul_le_mul (by omega) hz.2 hz.1 (by decide)
  rw [← IntWalk.i64_left, IntWalk.i64_in _ ⟨by omega, by omega⟩]
  omega
set_option maxRecDepth 100000 in
set_option maxHeartbeats 1000000 in
theorem walk (H : Type) (enc : TypeId × Value → H) (W : World) (base : Nat) (args : Array Value) (ds : List (DataW H)) (p : List MemPlace)
    (hval : ∀ (j : Nat) t v, Try.f4.params[j]? = some t → args[j]? = some v → Value.okWide Try.prog W .any base t v)
    (hA : DataW.TrodAll enc Try.prog W 0 (fun _ => true) true Try.f4.params.toList args.toList ds p)
    (hlt : ∀ x ∈ p, x.block < W.heap.size)
    (hsz : (DataW.weightsEach Try.prog (Try.f4.params.toList ++ Rows.fnByteStringsSpec.plain.varTypes Try.prog) (ds ++ [])).all (· ≤ reachBytes) = true) :
    Calls Try.prog 4 args W fun e w' => e = .returned (.bool true) ∧ Below W.heap.size W w' := by
  rw [Try.params4] at hA hval hsz
  obtain ⟨v0, d0, rfl, rfl, h0⟩ := trodAll_one hA
  obtain ⟨a0, l0, c0, rfl, hC0, -, hR0, hW0⟩ := Law.open_list Try.underlying22 Try.underlying5 (by kernel_rfl) (hval 0 22 v0 rfl rfl) h0 hlt
  have hby : Mem.Bytes W W.heap.size a0 l0.length := fun j hj => by
    obtain ⟨ad, he, hb, hc⟩ := hR0.int j hj
    have := Law.wf_u8 (hW0 l0[j] (List.getElem_mem hj))
    exact ⟨ad, _, he, hb, hc, this.1, this.2⟩
  obtain ⟨n0, hn0⟩ : ∃ n, n = l0.length := ⟨_, rfl⟩
  rw [← hn0] at hby hC0 ⊢
  clear hn0 hR0 hW0 hA hval hlt hsz h0
  have S0 := Sl.Sep.start W
  by_cases hbig : n0 > 1048576
  · go_enter Try.func4, Try.ntmps4
    go_wp2_with (go_at_call 13; refine (big_s _ S0).mono ?_; rw [decide_eq_true hbig]; rintro e w1 ⟨rfl, S1⟩)
    go_ret
    exact ⟨rfl, S1.old⟩
  · have hsm : n0 ≤ 4611686018427387904 := by omega
    have hsm2 : n0 ≤ 1048576 := by omega
    obtain ⟨i0, hi0, hz0, hz1, hz2⟩ := infoOf _ _ _ _ info64
    go_enter Try.func4, Try.ntmps4
    go_wp2_with fail
    go_at_call 13
    refine (big_s _ S0).mono ?_
    rw [decide_eq_false hbig]
    rintro e w1 ⟨rfl, S1⟩
    clear S0
    go_wp2_with fail
    go_at_call 20
    refine (drawAppendBytes_s _ hsm hby S1).mono ?_
    rintro e w2 ⟨a1, c1, b, a2, c2, m, rfl, ⟨hb1, hl1⟩, ⟨hb2, hl2⟩, S2⟩
    clear S1
    go_wp2_with fail
    go_at_call 21
    refine (gave S2 (implAppendBytes_any a1 a2 c1 c2 b m w2 (S2.own 0 rfl).reads (S2.own 1 rfl).reads (S2.own 0 rfl).cap (by omega) (by omega))).mono ?_
    rintro e w3 ⟨a3, c3, x, rfl, hx, S3⟩
    clear S2
    have hxl : x.length ≤ 1000 := by have := enc_len m.length; rw [hx.out]; simp; omega
    have hxb : Byts x := by
      rw [hx.out]
      intro y hy
      rcases List.mem_append.1 hy with h6 | h6
      · rcases List.mem_append.1 h6 with h7 | h7
        · exact hb1 y h7
        · exact enc_byte _ y h7
      · exact hb2 y h6
    go_wp2_with fail
    go_at_call 22
    refine (gaveT S3 (implReadBytes_any a3 c3 x b.length m.length w3 (S3.own 2 rfl).reads hxb (S3.own 2 rfl).cap (by omega) (by omega) (by omega))).mono ?_
    rintro e w4 ⟨a4, c4, y, next, ok, rfl, hy, S4⟩
    clear S3
    obtain ⟨r1, r2, r3⟩ := rb_back b m (by omega)
    have r4 := rb_short b m (by omega)
    rw [← hx.out] at r1 r2 r3 r4
    obtain ⟨q1, rfl, rfl⟩ : y = m ∧ next = (x.length : Int) ∧ ok = true := by
      obtain ⟨q1, q2, q3⟩ := hy.out
      exact ⟨q1.trans r2, q2.trans r3, q3.trans r1⟩
    have Q1 := Lib.hid q1
    have R4 := Lib.hid r4
    clear q1 r1 r2 r3 r4 hy hx
    go_wp2_with fail
    go_at_call 22
    refine (gaveT S4 (implReadBytes_any a3 c3 x b.length (m.length - 1) w4 (S4.own 2 rfl).reads hxb (S4.own 2 rfl).cap (by omega) (by omega) (by omega))).mono ?_
    rintro e w5 ⟨a5, c5, y5, next5, short, rfl, hy, S5⟩
    clear S4
    obtain rfl : short = false := hy.out.2.2.trans R4.out
    clear hy R4
    go_wp2_with fail
    go_at_call 17
    refine (sameBytes_s S5 _ _ _ _ w5.heap.size rfl rfl (S5.own 3 rfl).reads (S5.own 1 rfl).reads Q1.out (by rw [Q1.out]; omega)).mono ?_
    rintro e w6 ⟨rfl, S6⟩
    clear S5
    go_wp2_with fail
    have H6 := Lib.hid (push_made S6 3 .i64)
    clear S6
    go_loopw [12, 13] (fun s v wr => ∃ (k : Nat) (a6 : Option Addr) (c6 : Nat), k ≤ 5 ∧ v = .int .i64 k ∧ s = .slice a6 k c6 ∧ Hid (∃ l : List Int, Sl.Sep W wr [Sl.own 5 .u8 a1 c1 b, Sl.own 5 .u8 a2 c2 m, Sl.own 5 .u8 a3 c3 x, Sl.own 5 .u8 a4 c4 y, Sl.own 5 .u8 a5 c5 y5, Sl.own 3 .i64 a6 c6 l] ∧ l.length = k ∧ Fits l)) (fun _ v _ => 5 - (intOf v).toNat)
    case atStart => exact ⟨0, _, _, by omega, rfl, rfl, [], H6.out, rfl, fun x hx => by simp at hx⟩
    case round =>
      obtain ⟨k, a6, c6, hk, rfl, rfl, hrel⟩ := hrel
      obtain ⟨l, S7, hl7, hf7⟩ := hrel.out
      clear hrel H6
      have HF := Lib.hid hf7
      clear hf7
      go_wp2_with fail
      go_at_call 23
      refine (at_s _ hsm2 hby S7 _ (by omega) (by omega)).mono ?_
      rintro e w8 ⟨n8, rfl, ⟨hn80, hn81⟩, S8⟩
      clear S7
      by_cases hlt : (k : Int) < n8 % 6
      · have hk5 : k < 5 := by omega
        go_wp2_with fail
        go_at_call 23
        refine (at_s _ hsm2 hby S8 _ (by omega) (by omega)).mono ?_
        rintro e w9 ⟨n9, rfl, hn9, S9⟩
        clear S8
        go_wp2_with fail
        go_at_call 23
        refine (at_s _ hsm2 hby S9 _ (by omega) (by omega)).mono ?_
        rintro e w10 ⟨n10, rfl, hn10, S10⟩
        clear S9
        go_wp2_with fail
        go_at_call 23
        refine (at_s _ hsm2 hby S10 _ (by omega) (by omega)).mono ?_
        rintro e w11 ⟨n11, rfl, hn11, S11⟩
        clear S10
        go_wp2_with (at_builtin; refine wpList_append_sep _ rfl _ _ 35 rfl 3 i0 (.int .i64 0) 8 Try.underlying35 hi0 hz0 hz1 hz2 rfl .i64 a6 k c6 l rfl hl7.symm W _ (S11.alloc _) 5 rfl _ _ 1 1 [_] rfl rfl (reads_one _ _ _ _) (by simp [maxLen]; omega) (by simp; omega) ?_; intro a7 c7 w12 S12)
        have HH := Lib.hid (And.intro S12 (HF.out.snoc (mul3 hn9 hn10 hn11)))
        clear S12 S11
        go_roundw
        case rel => exact ⟨k + 1, a7, c7, by omega, by go_num, rfl, _, HH.out.1, by simp [hl7], HH.out.2⟩
        case measure => simp [intOf]; omega
      · subst hl7
        go_wp2_with fail
        go_at_call 24
        refine (gave S8 (implEncodeInts_any a6 c6 l _ (S8.own 5 rfl).reads (by omega))).mono ?_
        rintro e w9 ⟨a7, c7, z, rfl, hz, S9⟩
        clear S8
        have hzl : z.length ≤ 1000 := by have := encs_len l; rw [hz.out]; omega
        have hzb : Byts z := by rw [hz.out]; exact encs_byte l
        obtain ⟨g1, g2, g3, g4⟩ := dcs_back l HF.out (by omega)
        rw [← hz.out] at g1 g2 g3 g4
        have G := Lib.hid (And.intro g1 (And.intro g2 (And.intro g3 g4)))
        clear g1 g2 g3 g4 hz
        go_wp2_with fail
        go_at_call 25
        refine (gaveT S9 (implDecodeInts_any a7 c7 z 0 l.length _ (S9.own 6 rfl).reads hzb (S9.own 6 rfl).cap (by omega))).mono ?_
        rintro e w10 ⟨a8, c8, u, en, fine, rfl, hu, S10⟩
        clear S9
        obtain ⟨u1, rfl, rfl⟩ : u = l ∧ en = (z.length : Int) ∧ fine = true := by
          obtain ⟨q1, q2, q3⟩ := hu.out
          exact ⟨q1.trans G.out.1, q2.trans G.out.2.1, q3.trans G.out.2.2.1⟩
        have U1 := Lib.hid u1
        clear u1 hu
        go_wp2_with fail
        go_at_call 25
        refine (gaveT S10 (implDecodeInts_any a7 c7 z 0 (l.length + 1) _ (S10.own 6 rfl).reads hzb (S10.own 6 rfl).cap (by omega))).mono ?_
        rintro e w11 ⟨a9, c9, u2, en2, more, rfl, hu, S11⟩
        clear S10
        obtain rfl : more = false := hu.out.2.2.trans G.out.2.2.2
        clear hu
        go_wp2_with fail
        go_at_call 26
        refine (sameInts_s S11 _ _ _ _ w11.heap.size rfl rfl (S11.own 7 rfl).reads (S11.own 5 rfl).reads U1.out (by rw [U1.out]; omega)).mono ?_
        rintro e w12 ⟨rfl, S12⟩
        clear S11
        go_wp2_with fail
        go_ret
        exact ⟨rfl, S12.old⟩

set_option maxRecDepth 100000 in
theorem lifted (os : Os) (started : os.Started) (H : Type) (enc : TypeId × Value → H) :
    ReturnsInHanded {} Try.checked os 4 .any (Rows.fnByteStringsSpec.pre6 enc Try.prog Try.f4 Rows.fnByteStringsRow.domain false) (Rows.fnByteStringsSpec.post enc Try.prog Try.f4 false true false false) := by
  refine returnsInHanded_of_change_sized (C := Try.checked) own started (by kernel_rfl) Try.func4
    (ChangeSpec.witness6 (enc := enc) (C := Try.checked) false ⟨#[], #[.slice none 0 0], []⟩ 8 (by kernel_rfl) (by kernel_rfl) (by kernel_rfl) (by kernel_rfl)) ?_
  intro W base args ds gs before hval0 hW _ hsz0 _
  have hval : ∀ (j : Nat) t v, Try.f4.params[j]? = some t → args[j]? = some v → Value.okWide Try.prog W .any base t v := hval0
  have hW' := hW
  obtain ⟨p, q, hA0, hV, rfl, _, _⟩ := hW
  have hA : DataW.TrodAll enc Try.prog W 0 (fun _ => true) true Try.f4.params.toList args.toList ds p := hA0
  obtain ⟨rfl, rfl⟩ := trodVars_none hV
  have hlt : ∀ x ∈ p, x.block < W.heap.size := fun x hx => hW'.lt x (by simpa using hx)
  simp only [List.append_nil] at hW'
  have hw := walk H enc W base args ds p hval hA hlt hsz0
  have hA1 := hA
  clear hA0 hval0 hsz0 hval hlt
  rw [Try.params4] at hA
  obtain ⟨v0, vs0, d0, ds0, p0, q0, e0, rfl, rfl, h0, hr0⟩ := trodAll_cons hA
  obtain ⟨e1, rfl, rfl⟩ := trodAll_nil hr0
  refine hw.mono fun e W' ⟨he, hb⟩ => ?_
  subst he
  exact ⟨_, rfl, Frame.law_post (tb := 4) rfl hW' hA1 rfl rfl rfl laidOut (by kernel_rfl) (by kernel_rfl) Try.underlying4 hb⟩

theorem holds : Rows.FnByteStringsSaid :=
  OpenClaim.holds_of_wide 4 Try.f4 rfl rfl rfl rfl rfl rfl rfl ⟨rfl, rfl, rfl, rfl, rfl⟩ rfl rfl rfl rfl rfl (by kernel_rfl) Try.func4 (by kernel_rfl)
    (of_decide_eq_true (by kernel_rfl)) (by unfold Func.isWrapper; first | (rw [if_pos (by decide +kernel)]; kernel_rfl) | (rw [if_neg (by decide +kernel)]; exact ⟨rfl, rfl⟩))
    (fun os started H enc _ => lifted os started H enc)

#print axioms holds
end Go.Proofs.Ytakdfcpecgjbmaa.lawFnByteStrings
