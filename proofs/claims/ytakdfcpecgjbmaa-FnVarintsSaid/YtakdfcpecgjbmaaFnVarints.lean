/-
  The law FnVarints answers true for every argument, and leaves its arguments as they were. No condition.
  (The frame is written by my program mk_law.py.)
-/
import Derived.Test.YtakdfcpecgjbmaaFrame
import Derived.SizedLaws
import Derived.LaidLaws
import Derived.ShutString
import Derived.Stop.LaidErr
import Derived.Lib.LaidTab
import Derived.Test.YtakdfcpecgjbmaaSd2
import Derived.Deep.RegionHeld3
namespace Go.Proofs.Ytakdfcpecgjbmaa.lawFnVarints
open Go.ChangeShapes Go.WideShapes Go.ChangeAt Go.RowKit
open Go.ChangeMaps (open_string shut_string)
set_option linter.unusedVariables false
theorem own : ownKnob Try.prog.godebug = none := by kernel_rfl
theorem laidOut : laidOutB Try.prog = true := by kernel_rfl
open Mem Sl Ex Sd L2
theorem cont_in (l : List Int) (n : Int) (h0 : 0 ≤ n) (h1 : n ≤ 1000000000000) : rdN (l ++ enc n) l.length = n ∧ rdE (l ++ enc n) l.length = (l ++ enc n).length ∧ rdB (l ++ enc n) l.length = true := by
  have h := rd_enc l [] n h0 h1
  rw [List.append_nil] at h
  exact ⟨rdN_of h, by rw [rdE_of h]; simp, rdB_of h⟩
theorem cont_out (l : List Int) (n : Int) (h : ¬ (0 ≤ n ∧ n ≤ 1000000000000)) : l ++ enc n = l ∧ rdB (l ++ enc n) l.length = false := by
  rw [enc_out h, List.append_nil]
  refine ⟨rfl, ?_⟩
  unfold rdB
  rw [rd_beyond (Int.le_refl _)]
  rfl
/-- A reading of a list that the call owns. -/
theorem read_s {W w : World} {rs : List Res} (h : Sl.Sep W w rs) (i : Nat) {a : Option Addr} {c : Nat} {l : List Int} (hi : rs[i]? = some (Sl.own 5 .u8 a c l)) (hb : Byts l) (hl : l.length ≤ 1099511627776) (off : Int) (h0 : -9223372036854775808 ≤ off) (h1 : off ≤ 9223372036854775807) :
    Calls Try.prog 16 #[.slice a l.length c, .int .i64 off] w fun e w' => ∃ v t b, e = .returned (.tuple #[.int .i64 v, .int .i64 t, .bool b]) ∧ Hid (v = rdN l off ∧ t = rdE l off ∧ b = rdB l off) ∧ Sl.Sep W w' rs :=
  (implRead_any a c l off w w.heap.size (Nat.le_refl _) (h.own i hi).reads hb (h.own i hi).cap hl h0 h1).mono fun _ _ ⟨he, hb⟩ => ⟨_, _, _, he, ⟨rfl, rfl, rfl⟩, h.keep hb⟩
theorem sread_s {W w : World} {rs : List Res} (h : Sl.Sep W w rs) (i : Nat) {a : Option Addr} {c : Nat} {l : List Int} (hi : rs[i]? = some (Sl.own 5 .u8 a c l)) (hb : Byts l) (hl : l.length ≤ 1099511627776) (off : Int) (h0 : -9223372036854775808 ≤ off) (h1 : off ≤ 9223372036854775807) :
    Calls Try.prog 19 #[.slice a l.length c, .int .i64 off] w fun e w' => ∃ v t b, e = .returned (.tuple #[.int .i64 v, .int .i64 t, .bool b]) ∧ Hid (v = rdN l off ∧ t = rdE l off ∧ b = rdB l off) ∧ Sl.Sep W w' rs :=
  (specRead_any a c l off w w.heap.size (h.own i hi).reads hb hl h0 h1).mono fun _ _ ⟨he, hd⟩ => ⟨_, _, _, he, ⟨rfl, rfl, rfl⟩, Law.Sep.drew h hd⟩
theorem append_s {W w : World} {rs : List Res} (h : Sl.Sep W w rs) (i : Nat) {a : Option Addr} {c : Nat} {l : List Int} (hi : rs[i]? = some (Sl.own 5 .u8 a c l)) (hl : l.length ≤ 1000000) (n : Int) :
    Calls Try.prog 15 #[.slice a l.length c, .int .i64 n] w fun e w' => ∃ a' c' x, e = .returned (.slice a' x.length c') ∧ Hid (x = l ++ enc n) ∧ Sl.Sep W w' (rs ++ [Sl.own 5 .u8 a' c' x]) :=
  gave h (implAppendUvarint_any a c l n w (h.own i hi).reads (h.own i hi).cap (by omega))
theorem byts_append {l m : List Int} (h : Byts l) (k : Byts m) : Byts (l ++ m) := fun x hx => by
  rcases List.mem_append.1 hx with h1 | h1
  · exact h x h1
  · exact k x h1
set_option maxRecDepth 100000 in
set_option maxHeartbeats 1000000 in
theorem walk (H : Type) (enc : TypeId × Value → H) (W : World) (base : Nat) (args : Array Value) (ds : List (DataW H)) (p : List MemPlace)
    (hval : ∀ (j : Nat) t v, Try.f3.params[j]? = some t → args[j]? = some v → Value.okWide Try.prog W .any base t v)
    (hA : DataW.TrodAll enc Try.prog W 0 (fun _ => true) true Try.f3.params.toList args.toList ds p)
    (hlt : ∀ x ∈ p, x.block < W.heap.size)
    (hsz : (DataW.weightsEach Try.prog (Try.f3.params.toList ++ Rows.fnVarintsSpec.plain.varTypes Try.prog) (ds ++ [])).all (· ≤ reachBytes) = true) :
    Calls Try.prog 3 args W fun e w' => e = .returned (.bool true) ∧ Below W.heap.size W w' := by
  rw [Try.params3] at hA hval hsz
  obtain ⟨v0, d0, rfl, rfl, h0⟩ := trodAll_one hA
  obtain ⟨a0, l0, c0, rfl, hC0, -, hR0, hW0⟩ := Law.open_list Try.underlying22 Try.underlying5 (by kernel_rfl) (hval 0 22 v0 rfl rfl) h0 hlt
  have hby : Mem.Bytes W W.heap.size a0 l0.length := fun j hj => by
    obtain ⟨ad, he, hb, hc⟩ := hR0.int j hj
    have := Law.wf_u8 (hW0 l0[j] (List.getElem_mem hj))
    exact ⟨ad, _, he, hb, hc, this.1, this.2⟩
  obtain ⟨n0, hn0⟩ : ∃ n, n = l0.length := ⟨_, rfl⟩
  rw [← hn0] at hby hC0 ⊢
  clear hn0 hR0 hW0 hA hval hlt hsz h0
  have S0 := Sl.Sep.start W
  by_cases hbig : n0 > 1048576
  · go_enter Try.func3, Try.ntmps3
    go_wp2_with (go_at_call 13; refine (big_s _ S0).mono ?_; rw [decide_eq_true hbig]; rintro e w1 ⟨rfl, S1⟩)
    go_ret
    exact ⟨rfl, S1.old⟩
  · have hsm : n0 ≤ 4611686018427387904 := by omega
    go_enter Try.func3, Try.ntmps3
    go_wp2_with fail
    go_at_call 13
    refine (big_s _ S0).mono ?_
    rw [decide_eq_false hbig]
    rintro e w1 ⟨rfl, S1⟩
    clear S0
    go_wp2_with fail
    go_at_call 14
    refine (drawAppendUvarint_s _ hsm hby S1).mono ?_
    rintro e w2 ⟨a1, c1, l, n, rfl, ⟨hb1, hl1⟩, hn1, S2⟩
    clear S1
    go_wp2_with fail
    go_at_call 15
    refine (append_s S2 0 rfl (by omega) n).mono ?_
    rintro e w3 ⟨a2, c2, x, rfl, hx, S3⟩
    clear S2
    have hxl : x.length ≤ 1000 := by have := enc_len n; rw [hx.out]; simp; omega
    have hxb : Byts x := by rw [hx.out]; exact byts_append hb1 (enc_byte n)
    go_wp2_with fail
    go_at_call 16
    refine (read_s S3 1 rfl hxb (by omega) _ (by omega) (by omega)).mono ?_
    rintro e w4 ⟨k, next, ok, rfl, hk, S4⟩
    clear S3
    by_cases hn : 0 ≤ n ∧ n ≤ 1000000000000
    · obtain ⟨e1, e2, e3⟩ := cont_in l n hn.1 hn.2
      obtain ⟨rfl, hk2, rfl⟩ : k = n ∧ next = (x.length : Int) ∧ ok = true := by
        obtain ⟨h1, h2, h3⟩ := hk.out
        rw [hx.out] at h1 h2 h3
        rw [h1, h2, h3, e1, e2, e3, hx.out]
        exact ⟨rfl, rfl, rfl⟩
      obtain ⟨hn0, hn1⟩ := hn
      clear e1 e2 e3 hk
      subst hk2
      have S5 := S4
      clear S4
      go_wp2_with fail
      go_at_call 18
      refine (drawReadUvarint_s _ hsm hby S5).mono ?_
      rintro e w6 ⟨a3, c3, y, off, rfl, ⟨hb3, hl3⟩, ho, S6⟩
      clear S5
      go_wp2_with fail
      go_at_call 16
      refine (read_s S6 2 rfl hb3 (by omega) off (by omega) (by omega)).mono ?_
      rintro e w7 ⟨m, after, fine, rfl, hf, S7⟩
      clear S6
      obtain ⟨hf1, hf2, hf3⟩ := hf.out
      clear hf
      cases fine
      · obtain ⟨h1, h2⟩ := rd_none hf3.symm
        rw [h1] at hf1
        rw [h2] at hf2
        subst hf1
        subst hf2
        have HF := Lib.hid hf3
        clear hf3 h1 h2
        go_wp2_with fail
        go_at_call 19
        refine (sread_s S7 2 rfl hb3 (by omega) off (by omega) (by omega)).mono ?_
        rintro e w8 ⟨v, t, b, rfl, hv, S8⟩
        clear S7
        obtain rfl : b = false := by rw [hv.out.2.2, HF.out]
        go_wp2_with fail
        go_ret
        exact ⟨rfl, S8.old⟩
      · obtain ⟨h1, h2⟩ := rd_some hf3.symm
        obtain ⟨o0, o1, o2, o3, o4, o5, o6⟩ := rd_out hb3 h1
        rw [← hf1, ← hf2] at h1
        rw [← hf2] at o1 o2 o3 o6 h2
        rw [← hf1] at o4 o5 o6
        obtain ⟨s, rfl⟩ : ∃ s : Nat, off = s := ⟨off.toNat, by omega⟩
        obtain ⟨t, rfl⟩ : ∃ t : Nat, after = t := ⟨after.toNat, by omega⟩
        have hst : s < t := by omega
        have hty : t ≤ y.length := by omega
        have HE := Lib.hid (show (y.drop s).take (t - s) = L2.enc m by rw [← o6]; congr 1; omega)
        clear hf1 hf2 hf3 h1 h2 o0 o1 o2 o3 o6
        have hpl : ((y.drop s).take (t - s)).length = t - s := by simp; omega
        have HP := Lib.hid hpl
        clear hpl
        obtain ⟨ny, hny⟩ : ∃ n, n = y.length := ⟨_, rfl⟩
        have hcap := (S7.own 2 rfl).cap
        have i1 : (s : Int) < (t : Int) := by omega
        have i2 : (t : Int) ≤ (c3 : Int) := by omega
        have i3 : (0 : Int) ≤ (s : Int) := by omega
        have i4 : (t : Int) ≤ (y.length : Int) := by omega
        have i5 : (s : Int) ≤ (t : Int) := by omega
        have i6 : (0 : Int) ≤ (t : Int) := by omega
        go_wp2_with fail
        go_region_held3 (fun _ => True) (exact trivial) (first | (go_at_call 15; refine (gave (drew_s (S7.alloc _)) (implAppendUvarint_any _ 0 [] m _ Reads.nil (by simp) (by simp))).mono ?_; rintro e w8 ⟨a4, c4, z, rfl, hz, S8⟩) | (go_at_call 17; have h9 := (S8.own 2 rfl).reads.partInts s t c3 (by omega) hty (by omega); rw [if_neg (by omega)] at h9; refine (sameBytes_s S8 _ _ _ _ _ rfl HP.out.symm (S8.own 3 rfl).reads h9 (by rw [hz.out, HE.out]; rfl) (by have := L2.enc_len m; rw [hz.out]; simp; omega)).mono ?_; rintro e w9 ⟨rfl, S9⟩))
        go_wp2_with fail
        go_ret
        exact ⟨rfl, S9.old⟩
    · obtain ⟨e1, e2⟩ := cont_out l n hn
      obtain ⟨hxe, rfl⟩ : x = l ∧ ok = false := by
        obtain ⟨h1, h2, h3⟩ := hk.out
        rw [hx.out] at h3
        rw [h3, e2, hx.out, e1]
        exact ⟨rfl, rfl⟩
      have HX := Lib.hid hxe
      clear e1 e2 hk hxe hx
      rcases (show n < 0 ∨ (¬ n < 0 ∧ n > 1000000000000) by omega) with hn2 | ⟨hn2, hn3⟩
      all_goals
        go_wp2_with fail
        go_at_call 17
        refine (sameBytes_s S4 _ _ _ _ w4.heap.size rfl rfl (S4.own 1 rfl).reads (S4.own 0 rfl).reads HX.out (by omega)).mono ?_
        rintro e w5 ⟨rfl, S5⟩
        clear S4
        go_wp2_with fail
        go_at_call 18
        refine (drawReadUvarint_s _ hsm hby S5).mono ?_
        rintro e w6 ⟨a3, c3, y, off, rfl, ⟨hb3, hl3⟩, ho, S6⟩
        clear S5
        go_wp2_with fail
        go_at_call 16
        refine (read_s S6 2 rfl hb3 (by omega) off (by omega) (by omega)).mono ?_
        rintro e w7 ⟨m, after, fine, rfl, hf, S7⟩
        clear S6
        obtain ⟨hf1, hf2, hf3⟩ := hf.out
        clear hf
        cases fine
        · obtain ⟨h1, h2⟩ := rd_none hf3.symm
          rw [h1] at hf1
          rw [h2] at hf2
          subst hf1
          subst hf2
          have HF := Lib.hid hf3
          clear hf3 h1 h2
          go_wp2_with fail
          go_at_call 19
          refine (sread_s S7 2 rfl hb3 (by omega) off (by omega) (by omega)).mono ?_
          rintro e w8 ⟨v, t, b, rfl, hv, S8⟩
          clear S7
          obtain rfl : b = false := by rw [hv.out.2.2, HF.out]
          go_wp2_with fail
          go_ret
          exact ⟨rfl, S8.old⟩
        · obtain ⟨h1, h2⟩ := rd_some hf3.symm
          obtain ⟨o0, o1, o2, o3, o4, o5, o6⟩ := rd_out hb3 h1
          rw [← hf1, ← hf2] at h1
          rw [← hf2] at o1 o2 o3 o6 h2
          rw [← hf1] at o4 o5 o6
          obtain ⟨s, rfl⟩ : ∃ s : Nat, off = s := ⟨off.toNat, by omega⟩
          obtain ⟨t, rfl⟩ : ∃ t : Nat, after = t := ⟨after.toNat, by omega⟩
          have hst : s < t := by omega
          have hty : t ≤ y.length := by omega
          have HE := Lib.hid (show (y.drop s).take (t - s) = L2.enc m by rw [← o6]; congr 1; omega)
          clear hf1 hf2 hf3 h1 h2 o0 o1 o2 o3 o6
          have hpl : ((y.drop s).take (t - s)).length = t - s := by simp; omega
          have HP := Lib.hid hpl
          clear hpl
          obtain ⟨ny, hny⟩ : ∃ n, n = y.length := ⟨_, rfl⟩
          have hcap := (S7.own 2 rfl).cap
          have i1 : (s : Int) < (t : Int) := by omega
          have i2 : (t : Int) ≤ (c3 : Int) := by omega
          have i3 : (0 : Int) ≤ (s : Int) := by omega
          have i4 : (t : Int) ≤ (y.length : Int) := by omega
          have i5 : (s : Int) ≤ (t : Int) := by omega
          have i6 : (0 : Int) ≤ (t : Int) := by omega
          go_wp2_with fail
          go_region_held3 (fun _ => True) (exact trivial) (first | (go_at_call 15; refine (gave (drew_s (S7.alloc _)) (implAppendUvarint_any _ 0 [] m _ Reads.nil (by simp) (by simp))).mono ?_; rintro e w8 ⟨a4, c4, z, rfl, hz, S8⟩) | (go_at_call 17; have h9 := (S8.own 2 rfl).reads.partInts s t c3 (by omega) hty (by omega); rw [if_neg (by omega)] at h9; refine (sameBytes_s S8 _ _ _ _ _ rfl HP.out.symm (S8.own 3 rfl).reads h9 (by rw [hz.out, HE.out]; rfl) (by have := L2.enc_len m; rw [hz.out]; simp; omega)).mono ?_; rintro e w9 ⟨rfl, S9⟩))
          go_wp2_with fail
          go_ret
          exact ⟨rfl, S9.old⟩

set_option maxRecDepth 100000 in
theorem lifted (os : Os) (started : os.Started) (H : Type) (enc : TypeId × Value → H) :
    ReturnsInHanded {} Try.checked os 3 .any (Rows.fnVarintsSpec.pre6 enc Try.prog Try.f3 Rows.fnVarintsRow.domain false) (Rows.fnVarintsSpec.post enc Try.prog Try.f3 false true false false) := by
  refine returnsInHanded_of_change_sized (C := Try.checked) own started (by kernel_rfl) Try.func3
    (ChangeSpec.witness6 (enc := enc) (C := Try.checked) false ⟨#[], #[.slice none 0 0], []⟩ 8 (by kernel_rfl) (by kernel_rfl) (by kernel_rfl) (by kernel_rfl)) ?_
  intro W base args ds gs before hval0 hW _ hsz0 _
  have hval : ∀ (j : Nat) t v, Try.f3.params[j]? = some t → args[j]? = some v → Value.okWide Try.prog W .any base t v := hval0
  have hW' := hW
  obtain ⟨p, q, hA0, hV, rfl, _, _⟩ := hW
  have hA : DataW.TrodAll enc Try.prog W 0 (fun _ => true) true Try.f3.params.toList args.toList ds p := hA0
  obtain ⟨rfl, rfl⟩ := trodVars_none hV
  have hlt : ∀ x ∈ p, x.block < W.heap.size := fun x hx => hW'.lt x (by simpa using hx)
  simp only [List.append_nil] at hW'
  have hw := walk H enc W base args ds p hval hA hlt hsz0
  have hA1 := hA
  clear hA0 hval0 hsz0 hval hlt
  rw [Try.params3] at hA
  obtain ⟨v0, vs0, d0, ds0, p0, q0, e0, rfl, rfl, h0, hr0⟩ := trodAll_cons hA
  obtain ⟨e1, rfl, rfl⟩ := trodAll_nil hr0
  refine hw.mono fun e W' ⟨he, hb⟩ => ?_
  subst he
  exact ⟨_, rfl, Frame.law_post (tb := 4) rfl hW' hA1 rfl rfl rfl laidOut (by kernel_rfl) (by kernel_rfl) Try.underlying4 hb⟩

theorem holds : Rows.FnVarintsSaid :=
  OpenClaim.holds_of_wide 3 Try.f3 rfl rfl rfl rfl rfl rfl rfl ⟨rfl, rfl, rfl, rfl, rfl⟩ rfl rfl rfl rfl rfl (by kernel_rfl) Try.func3 (by kernel_rfl)
    (of_decide_eq_true (by kernel_rfl)) (by unfold Func.isWrapper; first | (rw [if_pos (by decide +kernel)]; kernel_rfl) | (rw [if_neg (by decide +kernel)]; exact ⟨rfl, rfl⟩))
    (fun os started H enc _ => lifted os started H enc)

#print axioms holds
end Go.Proofs.Ytakdfcpecgjbmaa.lawFnVarints
