/-
  The law FnCipher answers true for every argument, and leaves its arguments as they were. No condition.
  (The frame is written by my program mk_law.py.)
-/
import Derived.Test.YtkgmiaoecedjdaaFrame
import Derived.SizedLaws
import Derived.LaidLaws
import Derived.ShutString
import Derived.Stop.LaidErr
import Derived.Lib.LaidTab
import Derived.Test.YtkgmiaoecedjdaaSd3
namespace Go.Proofs.Ytkgmiaoecedjdaa.lawFnCipher
open Go.ChangeShapes Go.WideShapes Go.ChangeAt Go.RowKit
open Go.ChangeMaps (open_string shut_string)
set_option linter.unusedVariables false
theorem own : ownKnob Try.prog.godebug = none := by kernel_rfl
theorem laidOut : laidOutB Try.prog = true := by kernel_rfl
open Mem Sl Ex Sd L2
set_option maxRecDepth 100000 in
set_option maxHeartbeats 1000000 in
theorem walk (H : Type) (enc : TypeId × Value → H) (W : World) (base : Nat) (args : Array Value) (ds : List (DataW H)) (p : List MemPlace)
    (hval : ∀ (j : Nat) t v, Try.f3.params[j]? = some t → args[j]? = some v → Value.okWide Try.prog W .any base t v)
    (hA : DataW.TrodAll enc Try.prog W 0 (fun _ => true) true Try.f3.params.toList args.toList ds p)
    (hlt : ∀ x ∈ p, x.block < W.heap.size)
    (hsz : (DataW.weightsEach Try.prog (Try.f3.params.toList ++ Rows.fnCipherSpec.plain.varTypes Try.prog) (ds ++ [])).all (· ≤ reachBytes) = true) :
    Calls Try.prog 3 args W fun e w' => e = .returned (.bool true) ∧ Below W.heap.size W w' := by
  rw [Try.params3] at hA hval hsz
  obtain ⟨v0, d0, rfl, rfl, h0⟩ := trodAll_one hA
  obtain ⟨a0, l0, c0, rfl, hC0, -, hR0, hW0⟩ := Law.open_list Try.underlying22 Try.underlying5 (by kernel_rfl) (hval 0 22 v0 rfl rfl) h0 hlt
  have hby : Mem.Bytes W W.heap.size a0 l0.length := fun j hj => by
    obtain ⟨ad, he, hb, hc⟩ := hR0.int j hj
    have := Law.wf_u8 (hW0 l0[j] (List.getElem_mem hj))
    exact ⟨ad, _, he, hb, hc, this.1, this.2⟩
  obtain ⟨n0, hn0⟩ : ∃ n, n = l0.length := ⟨_, rfl⟩
  rw [← hn0] at hby hC0 ⊢
  clear hn0 hR0 hW0 hA hval hlt hsz h0
  have S0 := Sl.Sep.start W
  by_cases hbig : n0 > 1048576
  · go_enter Try.func3, Try.ntmps3
    go_wp2_with (go_at_call 13; refine (big_s _ S0).mono ?_; rw [decide_eq_true hbig]; rintro e w1 ⟨rfl, S1⟩)
    go_ret
    exact ⟨rfl, S1.old⟩
  · have hsm : n0 ≤ 4611686018427387904 := by omega
    go_enter Try.func3, Try.ntmps3
    go_wp2_with fail
    go_at_call 13
    refine (big_s _ S0).mono ?_
    rw [decide_eq_false hbig]
    rintro e w1 ⟨rfl, S1⟩
    clear S0
    go_wp2_with fail
    go_at_call 14
    refine (drawEncrypt_s _ hsm hby S1).mono ?_
    rintro e w2 ⟨k, a1, c1, b, rfl, hk, ⟨hb1, hl1⟩, S2⟩
    clear S1
    go_wp2_with fail
    go_at_call 17
    refine (gave S2 (L3.implEncrypt_any k a1 c1 b w2 (S2.own 0 rfl).reads hb1 (by omega))).mono ?_
    rintro e w3 ⟨a2, c2, x, rfl, hx, S3⟩
    clear S2
    have hxl : x.length ≤ 8 := by rw [hx.out]; simp; omega
    have hxb : Byt x := by rw [hx.out]; exact L3.encL_byte k b
    go_wp2_with fail
    go_at_call 16
    refine (gave S3 (L3.implDecrypt_any k a2 c2 x w3 (S3.own 1 rfl).reads hxb (by omega))).mono ?_
    rintro e w4 ⟨a3, c3, y, rfl, hy, S4⟩
    clear S3
    have hyb : y = b := by rw [hy.out, hx.out]; exact L3.dec_enc k b hb1
    have HYB := Lib.hid hyb
    clear hx hy hyb hxl hxb
    go_wp2_with fail
    go_at_call 15
    refine (sameBytes_s S4 _ _ _ _ w4.heap.size rfl rfl (S4.own 2 rfl).reads (S4.own 0 rfl).reads HYB.out (by rw [HYB.out]; omega)).mono ?_
    rintro e w5 ⟨rfl, S5⟩
    clear S4
    go_wp2_with fail
    go_at_call 16
    refine (gave S5 (L3.implDecrypt_any k a1 c1 b w5 (S5.own 0 rfl).reads hb1 (by omega))).mono ?_
    rintro e w6 ⟨a4, c4, z, rfl, hz, S6⟩
    clear S5
    have hzl : z.length ≤ 8 := by rw [hz.out]; simp; omega
    have hzb : Byt z := by rw [hz.out]; exact L3.decL_byte k b
    go_wp2_with fail
    go_at_call 17
    refine (gave S6 (L3.implEncrypt_any k a4 c4 z w6 (S6.own 3 rfl).reads hzb (by omega))).mono ?_
    rintro e w7 ⟨a5, c5, u, rfl, hu, S7⟩
    clear S6
    have hub : u = b := by rw [hu.out, hz.out]; exact L3.enc_dec k b hb1
    have HUB := Lib.hid hub
    clear hz hu hub hzl hzb
    go_wp2_with fail
    go_at_call 15
    refine (sameBytes_s S7 _ _ _ _ w7.heap.size rfl rfl (S7.own 4 rfl).reads (S7.own 0 rfl).reads HUB.out (by rw [HUB.out]; omega)).mono ?_
    rintro e w8 ⟨rfl, S8⟩
    clear S7
    go_wp2_with fail
    go_at_call 17
    refine (gave S8 (L3.implEncrypt_any k a1 c1 b w8 (S8.own 0 rfl).reads hb1 (by omega))).mono ?_
    rintro e w9 ⟨a6, c6, t, rfl, ht, S9⟩
    clear S8
    have htl : t.length = b.length := by rw [ht.out]; simp
    rw [htl]
    clear ht
    go_wp2_with fail
    go_ret
    exact ⟨rfl, S9.old⟩

set_option maxRecDepth 100000 in
theorem lifted (os : Os) (started : os.Started) (H : Type) (enc : TypeId × Value → H) :
    ReturnsInHanded {} Try.checked os 3 .any (Rows.fnCipherSpec.pre6 enc Try.prog Try.f3 Rows.fnCipherRow.domain false) (Rows.fnCipherSpec.post enc Try.prog Try.f3 false true false false) := by
  refine returnsInHanded_of_change_sized (C := Try.checked) own started (by kernel_rfl) Try.func3
    (ChangeSpec.witness6 (enc := enc) (C := Try.checked) false ⟨#[], #[.slice none 0 0], []⟩ 8 (by kernel_rfl) (by kernel_rfl) (by kernel_rfl) (by kernel_rfl)) ?_
  intro W base args ds gs before hval0 hW _ hsz0 _
  have hval : ∀ (j : Nat) t v, Try.f3.params[j]? = some t → args[j]? = some v → Value.okWide Try.prog W .any base t v := hval0
  have hW' := hW
  obtain ⟨p, q, hA0, hV, rfl, _, _⟩ := hW
  have hA : DataW.TrodAll enc Try.prog W 0 (fun _ => true) true Try.f3.params.toList args.toList ds p := hA0
  obtain ⟨rfl, rfl⟩ := trodVars_none hV
  have hlt : ∀ x ∈ p, x.block < W.heap.size := fun x hx => hW'.lt x (by simpa using hx)
  simp only [List.append_nil] at hW'
  have hw := walk H enc W base args ds p hval hA hlt hsz0
  have hA1 := hA
  clear hA0 hval0 hsz0 hval hlt
  rw [Try.params3] at hA
  obtain ⟨v0, vs0, d0, ds0, p0, q0, e0, rfl, rfl, h0, hr0⟩ := trodAll_cons hA
  obtain ⟨e1, rfl, rfl⟩ := trodAll_nil hr0
  refine hw.mono fun e W' ⟨he, hb⟩ => ?_
  subst he
  exact ⟨_, rfl, Frame.law_post (tb := 4) rfl hW' hA1 rfl rfl rfl laidOut (by kernel_rfl) (by kernel_rfl) Try.underlying4 hb⟩

theorem holds : Rows.FnCipherSaid :=
  OpenClaim.holds_of_wide 3 Try.f3 rfl rfl rfl rfl rfl rfl rfl ⟨rfl, rfl, rfl, rfl, rfl⟩ rfl rfl rfl rfl rfl (by kernel_rfl) Try.func3 (by kernel_rfl)
    (of_decide_eq_true (by kernel_rfl)) (by unfold Func.isWrapper; first | (rw [if_pos (by decide +kernel)]; kernel_rfl) | (rw [if_neg (by decide +kernel)]; exact ⟨rfl, rfl⟩))
    (fun os started H enc _ => lifted os started H enc)

#print axioms holds
end Go.Proofs.Ytkgmiaoecedjdaa.lawFnCipher
