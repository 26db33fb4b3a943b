/-
  The law FnIntegers answers true for every argument, and leaves its arguments as they were. Condition: the package-level variables that the row lists read as listed when the call begins; the card ties them to the program's text.
  (The frame is written by my program mk_law.py.)
-/
import Derived.Test.YtaccnbchehopjaaDoorFrame
import Derived.SizedLaws
import Derived.LaidLaws
import Derived.ShutString
import Derived.Stop.LaidErr
import Derived.Lib.LaidTab
import Derived.Test.YtaccnbchehopjaaDoorL1Impl
import Derived.Test.YtaccnbchehopjaaDoorL1Div
import Derived.Test.YtaccnbchehopjaaDoorDraw1b
import Derived.Test.YtaccnbchehopjaaDoorArgs
import Derived.Deep.DeepCutAuto
import Derived.LaidMore
import Derived.Stop.Joined
import Derived.SevenTiedAt
import Derived.Test.YtaccnbchehopjaaDoorCards
import Derived.Test.YtaccnbchehopjaaDoorTie
namespace Go.Proofs.YtaccnbchehopjaaDoor.lawFnIntegers
open Go.ChangeShapes Go.WideShapes Go.ChangeAt Go.RowKit
open Go.ChangeMaps (open_string shut_string)
set_option linter.unusedVariables false
theorem own : ownKnob Tryd.prog.godebug = none := by kernel_rfl
theorem laidOut : laidOutB Tryd.prog = true := by kernel_rfl
theorem star : "*" ++ "errors.errorString" = "*errors.errorString" := by decide
theorem rowES (u : TypeId) (h : Tryd.prog.typeName? 3 u = some "*errors.errorString") : u = 73 :=
  typeName_ptr_named (nm := "errors.errorString") (by rw [star]; kernel_rfl) (by kernel_rfl) (by decide) u (by rw [star]; exact h)
theorem tab_of (W : World) (h : laidMetH Tryd.prog Rows.fnIntegersRow.laid W) : L1.Tab W ∧ L1.Sents W := by
  rw [MakeChecks.laidMetH_plain _ _ _ (by kernel_rfl)] at h
  refine ⟨Lib.tabIs_of_head (rest := [_, _]) (g := 2) (by kernel_rfl) (by kernel_rfl) Tryd.underlying78 Tryd.underlying59 (by kernel_rfl) (by kernel_rfl) h.tail.tail, ?_, ?_⟩
  · obtain ⟨a, s, hv, -, -, -⟩ := laid_sentinel (g := 0) (tp := 73) h.tail.tail.tail.tail (by kernel_rfl) (by kernel_rfl) Tryd.underlying41 rowES Tryd.underlying73 Tryd.underlying75 rfl rfl Tryd.underlying9 (by kernel_rfl) (by kernel_rfl)
    exact ⟨_, _, hv⟩
  · obtain ⟨a, s, hv, -, -, -⟩ := laid_sentinel (g := 1) (tp := 73) h.tail.tail.tail (by kernel_rfl) (by kernel_rfl) Tryd.underlying41 rowES Tryd.underlying73 Tryd.underlying75 rfl rfl Tryd.underlying9 (by kernel_rfl) (by kernel_rfl)
    exact ⟨_, _, hv⟩

/-- The state of the law's walk: since W nothing old has turned; strconv's variables and the code stand. -/
def St (W : World) (a : Option Addr) (len : Nat) (w : World) : Prop := Below W.heap.size W w ∧ L1.Tab w ∧ L1.Sents w ∧ Mem.Bytes w W.heap.size a len
theorem St.next {W w w' : World} {a : Option Addr} {len : Nat} (h : St W a len w) (hb : Below w.heap.size w w') : St W a len w' :=
  ⟨h.1.trans (hb.mono h.1.size), h.2.1.below hb, h.2.2.1.below hb, h.2.2.2.below (hb.mono h.1.size)⟩

theorem cParse {W w : World} {a : Option Addr} {len : Nat} (s : ByteArray) (hs : s.size ≤ 30) (h : St W a len w) :
    Calls Tryd.prog 8 #[.string s] w fun e w' => ∃ n b, e = .returned (.tuple #[.int .i64 n, .bool b]) ∧ Hid (n = L1.pVal s.data.toList ∧ b = L1.pOk s.data.toList) ∧ (0 ≤ n ∧ n ≤ 1000000000000) ∧ St W a len w' :=
  (L1.implParseInt_any s (by omega) w h.2.1 h.2.2.1).mono fun _ _ ⟨he, hb⟩ => ⟨_, _, he, ⟨rfl, rfl⟩, L1.pVal_bounds _, h.next hb⟩
theorem cFormat {W w : World} {a : Option Addr} {len : Nat} (n : Int) (h0 : -9223372036854775808 ≤ n) (h1 : n ≤ 9223372036854775807) (h : St W a len w) :
    Calls Tryd.prog 10 #[.int .i64 n] w fun e w' => ∃ t, e = .returned (.string t) ∧ Hid (t.data.toList = Lib.itoa n) ∧ t.size ≤ 30 ∧ St W a len w' :=
  (L1.implFormatInt_any n h0 h1 w h.2.1).mono fun _ _ ⟨he, hb⟩ => ⟨_, he, rfl, by have := Lib.itoa_length_le n h0 h1; simp [ByteArray.size]; omega, h.next hb⟩
theorem cDrawP {W w : World} {a : Option Addr} {len : Nat} (cap : Nat) (hl : len ≤ 4611686018427387904) (h : St W a len w) :
    Calls Tryd.prog 7 #[.slice a len cap] w fun e w' => ∃ s, e = .returned (.string s) ∧ s.size ≤ 30 ∧ St W a len w' :=
  (Draw.drawParseInt_on a len cap h.1.size hl h.2.2.2).mono fun _ _ ⟨s, he, hs, hb⟩ => ⟨s, he, hs, h.next hb⟩
theorem cDrawF {W w : World} {a : Option Addr} {len : Nat} (cap : Nat) (hl : len ≤ 4611686018427387904) (h : St W a len w) :
    Calls Tryd.prog 9 #[.slice a len cap] w fun e w' => ∃ n, e = .returned (.int .i64 n) ∧ (-9223372036854775808 ≤ n ∧ n ≤ 9223372036854775807) ∧ St W a len w' :=
  (Draw.drawFormatInt_on a len cap h.1.size hl h.2.2.2).mono fun _ _ ⟨s, he, hs, hb⟩ => ⟨s, he, hs, h.next hb⟩
theorem cDrawC {W w : World} {a : Option Addr} {len : Nat} (cap : Nat) (hl : len ≤ 4611686018427387904) (h : St W a len w) :
    Calls Tryd.prog 11 #[.slice a len cap] w fun e w' => ∃ n m, e = .returned (.tuple #[.int .i64 n, .int .i64 m]) ∧ (-9223372036854775808 ≤ n ∧ n ≤ 9223372036854775807) ∧ (-9223372036854775808 ≤ m ∧ m ≤ 9223372036854775807) ∧ St W a len w' :=
  (Draw.drawCeilDiv_on a len cap h.1.size hl h.2.2.2).mono fun _ _ ⟨n, m, he, hn, hm, hb⟩ => ⟨n, m, he, hn, hm, h.next hb⟩
theorem cCeil (p q : Int) (w : World) : Calls Tryd.prog 12 #[.int .i64 p, .int .i64 q] w fun e w' => ∃ x, e = .returned (.int .i64 x) ∧ Hid (x = L1.ceilDiv p q) ∧ w = w' :=
  (L1.implCeilDiv_any p q w).mono fun _ _ ⟨he, hw⟩ => ⟨_, he, rfl, hw⟩
theorem cMod (p q : Int) (w : World) : Calls Tryd.prog 13 #[.int .i64 p, .int .i64 q] w fun e w' => ∃ x, e = .returned (.int .i64 x) ∧ Hid (x = L1.modV p q) ∧ w = w' :=
  (L1.implMod_any p q w).mono fun _ _ ⟨he, hw⟩ => ⟨_, he, rfl, hw⟩
theorem cBig {a : Option Addr} {len : Nat} (cap : Nat) (hl : len ≤ 4611686018427387904) (w : World) :
    Calls Tryd.prog 6 #[.slice a len cap] w fun e w' => e = .returned (.bool (decide (len > 1048576))) ∧ w = w' := by
  by_cases h : (len : Int) > 1048576
  · have h' : decide (len > 1048576) = true := decide_eq_true (by omega)
    rw [h']
    go_enter Tryd.func6, Tryd.ntmps6
    go_wp2
    go_ret
    exact ⟨rfl, rfl⟩
  · have h' : decide (len > 1048576) = false := decide_eq_false (by omega)
    rw [h']
    go_enter Tryd.func6, Tryd.ntmps6
    go_wp2
    go_ret
    exact ⟨rfl, rfl⟩
theorem num_itoa (m : Int) : L1.pOk (Lib.itoa m) = decide (0 ≤ m ∧ m ≤ 1000000000000) ∧ (0 ≤ m → m ≤ 1000000000000 → L1.pVal (Lib.itoa m) = m) := by
  by_cases h : 0 ≤ m ∧ m ≤ 1000000000000
  · have hn : L1.Num (Lib.itoa m) m := ⟨h.1, h.2, rfl⟩
    exact ⟨by rw [hn.ok, decide_eq_true h], fun _ _ => hn.val⟩
  · refine ⟨?_, fun h0 h1 => absurd ⟨h0, h1⟩ h⟩
    rw [decide_eq_false h]
    cases h2 : L1.pOk (Lib.itoa m) with
    | false => rfl
    | true =>
      have h3 := L1.pOk_num h2
      exfalso
      by_cases hneg : m < 0
      · have h4 := h3.digit 0 45 (by rw [L1.itoa_neg hneg]; rfl)
        revert h4; decide
      · have h4 := h3.dec
        have h6 : Lib.decFrom 0 (Lib.itoa m) = some m.toNat := by rw [L1.itoa_nonneg (by omega), L1.decFrom_dec]
        rw [h6] at h4
        injection h4 with h5
        have := h3.1
        have := h3.2.1
        omega

theorem eq_lists {s t : ByteArray} (h : t.data.toList = s.data.toList) : (t.toList == s.toList) = true := by
  rw [L1.bytes_toList, L1.bytes_toList, beq_iff_eq]; exact h

theorem mod_zero (x y : Int) (h : 1 ≤ y) : (x.tmod y - x % y).tmod y = 0 := by
  apply Int.tmod_eq_zero_of_dvd
  have h1 : y ∣ x - x % y := by
    have := Int.mul_ediv_add_emod x y
    exact ⟨x / y, by omega⟩
  have h2 : y ∣ x - x.tmod y := by
    have := Int.mul_tdiv_add_tmod x y
    exact ⟨x.tdiv y, by omega⟩
  have h3 := Int.dvd_sub h1 h2
  rwa [show x - x % y - (x - x.tmod y) = x.tmod y - x % y by omega] at h3

theorem ceil_facts (x y : Int) (h0 : 0 ≤ x) (h1 : x ≤ 1000000000000) (h2 : 1 ≤ y) (h3 : y ≤ 1000000000000) :
    x ≤ (x + y - 1) / y * y ∧ (x + y - 1) / y * y - x < y ∧ 0 ≤ (x + y - 1) / y := by
  have a := Int.mul_ediv_add_emod (x + y - 1) y
  have b := Int.emod_nonneg (x + y - 1) (show y ≠ 0 by omega)
  have c := Int.emod_lt_of_pos (x + y - 1) (show 0 < y by omega)
  have d := Int.ediv_nonneg (show 0 ≤ x + y - 1 by omega) (show 0 ≤ y by omega)
  rw [Int.mul_comm] at a
  omega
set_option maxRecDepth 100000 in
set_option maxHeartbeats 1000000 in
theorem walk (H : Type) (enc : TypeId × Value → H) (W : World) (base : Nat) (args : Array Value) (ds : List (DataW H)) (p : List MemPlace)
    (hval : ∀ (j : Nat) t v, Tryd.f3.params[j]? = some t → args[j]? = some v → Value.okWide Tryd.prog W .any base t v)
    (hA : DataW.TrodAll enc Tryd.prog W 0 (fun _ => true) true Tryd.f3.params.toList args.toList ds p)
    (hlt : ∀ x ∈ p, x.block < W.heap.size)
    (hsz : (DataW.weightsEach Tryd.prog (Tryd.f3.params.toList ++ Rows.fnIntegersSpec.plain.varTypes Tryd.prog) (ds ++ [])).all (· ≤ reachBytes) = true)
    (hL : laidMetH Tryd.prog Rows.fnIntegersRow.laid W) :
    Calls Tryd.prog 3 args W fun e w' => e = .returned (.bool true) ∧ Below W.heap.size W w' := by
  rw [Tryd.params3] at hA hval hsz
  obtain ⟨v0, d0, rfl, rfl, h0⟩ := trodAll_one hA
  obtain ⟨a, l, cap, rfl, hl, hcap, hh⟩ := Args.open_bytes Tryd.underlying22 Tryd.underlying5 (by kernel_rfl) (by kernel_rfl) (hval 0 22 v0 rfl rfl) h0 hlt (fun elems spare e => sized_slice hsz (j := 0) rfl (by rw [e]; rfl) Tryd.underlying22)
  obtain ⟨hT, hS⟩ := tab_of W hL
  obtain ⟨len, hlen⟩ : ∃ n : Nat, n = l.length := ⟨_, rfl⟩
  have hst : St W a len W := ⟨Below.refl _ _, hT, hS, by rw [hlen]; exact hh.bytes⟩
  rw [← hlen] at hl ⊢
  have hl62 : len ≤ 4611686018427387904 := by omega
  clear hL hA hval hlt hsz h0 hh hT hS hlen
  cases hbig : decide (len > 1048576)
  case true =>
    go_enter Tryd.func3, Tryd.ntmps3
    go_wp2_with (go_at_call 6; refine (cBig _ hl62 _).mono ?_; rw [hbig]; rintro e w' ⟨rfl, rfl⟩)
    go_ret
    exact ⟨rfl, Below.refl _ _⟩
  case false =>
    go_enter Tryd.func3, Tryd.ntmps3
    go_upto_region 10 with (first | (go_at_call 6; refine (cBig _ hl62 _).mono ?_; rw [hbig]; rintro e w' ⟨rfl, rfl⟩) | (go_at_call 7; refine (cDrawP _ hl62 (by assumption)).mono ?_; rintro e w1 ⟨s, rfl, hs, hst1⟩) | (go_at_call 9; refine (cDrawF _ hl62 (by assumption)).mono ?_; rintro e w1 ⟨m, rfl, ⟨hm0, hm1⟩, hst1⟩) | (go_at_call 11; refine (cDrawC _ hl62 (by assumption)).mono ?_; rintro e w1 ⟨x, y, rfl, ⟨hx0, hx1⟩, ⟨hy0, hy1⟩, hst1⟩) | (go_at_call 10; refine (cFormat _ (by assumption) (by assumption) (by assumption)).mono ?_; rintro e w1 ⟨t, rfl, ht, hts, hst1⟩) | (go_at_call_of 8 (Value.string s); refine (cParse _ (by assumption) (by assumption)).mono ?_; rintro e w1 ⟨n1, ok1, rfl, hn1, ⟨hna, hnb⟩, hst1⟩) | (go_at_call_of 8 (Value.string t); refine (cParse _ (by assumption) (by assumption)).mono ?_; rintro e w1 ⟨n2, ok2, rfl, hn2, ⟨hnc, hnd⟩, hst1⟩) | (go_at_call 12; refine (cCeil _ _ _).mono ?_; rintro e w' ⟨q, rfl, hq, rfl⟩) | (go_at_call 13; refine (cMod _ _ _).mono ?_; rintro e w' ⟨r, rfl, hr, rfl⟩))
    have hk := num_itoa m
    rw [← ht.out, ← hn2.out.1, ← hn2.out.2] at hk
    obtain ⟨hk1, hk2⟩ := hk
    have HK1 := Lib.hid hk1
    have HK2 := Lib.hid hk2
    clear hk1 hk2
    go_cut [65] (fun z wx => z = .bool false ∧ St W a len wx)
    case first =>
      have cont : ∀ (t : ByteArray), Hid (t.data.toList = Lib.itoa n1) → ok1 = true → (t.toList == s.toList) = true := fun t ht ho => eq_lists (by
        have h1 := hn1.out
        rw [ho] at h1
        rw [ht.out, h1.1]
        exact (L1.pOk_num h1.2.symm).2.2)
      have CONT := Lib.hid cont
      clear cont
      rcases (show (m < 0) ∨ (0 ≤ m ∧ m ≤ 1000000000000) ∨ (1000000000000 < m) by omega) with hm | ⟨hm, hm'⟩ | hm
      · obtain rfl : ok2 = false := by rw [HK1.out]; exact decide_eq_false (by omega)
        cases ok1
        all_goals
          go_wp2_with (go_at_call 10; refine (cFormat _ (by omega) (by omega) (by assumption)).mono ?_; rintro e w1 ⟨t1, rfl, ht1, hts1, hst2⟩; have hc := CONT.out t1 ht1 rfl)
          go_meet
          case rel => exact ⟨rfl, by assumption⟩
      · obtain rfl : ok2 = true := by rw [HK1.out]; exact decide_eq_true ⟨hm, hm'⟩
        obtain rfl : n2 = m := HK2.out hm hm'
        cases ok1
        all_goals
          go_wp2_with (go_at_call 10; refine (cFormat _ (by omega) (by omega) (by assumption)).mono ?_; rintro e w1 ⟨t1, rfl, ht1, hts1, hst2⟩; have hc := CONT.out t1 ht1 rfl)
          go_meet
          case rel => exact ⟨rfl, by assumption⟩
      · obtain rfl : ok2 = false := by rw [HK1.out]; exact decide_eq_false (by omega)
        have hm2 : 0 ≤ m := by omega
        have hm3 : ¬ m ≤ 1000000000000 := by omega
        have hm4 : decide (m ≤ 1000000000000) = false := decide_eq_false hm3
        cases ok1
        all_goals
          go_wp2_with (go_at_call 10; refine (cFormat _ (by omega) (by omega) (by assumption)).mono ?_; rintro e w1 ⟨t1, rfl, ht1, hts1, hst2⟩; have hc := CONT.out t1 ht1 rfl)
          go_meet
          case rel => exact ⟨rfl, by assumption⟩
    case rest =>
      obtain ⟨rfl, hst2⟩ := hcut
      clear HK1 HK2 hn1 hn2 ht
      have hq1 := hq.out
      have hr1 := hr.out
      unfold L1.ceilDiv at hq1
      unfold L1.modV at hr1
      cases hy : L1.inB y 1 1000000000000
      · rw [hy] at hq1 hr1
        simp at hq1 hr1
        subst hq1
        subst hr1
        have hy2 := L1.inB_false.mp hy
        clear hq hr hy
        by_cases hy3 : y < 1
        · go_wp2
          go_ret
          exact ⟨rfl, hst2.1⟩
        · have hy4 : 1000000000000 < y := by omega
          go_wp2
          go_ret
          exact ⟨rfl, hst2.1⟩
      · obtain ⟨hya, hyb⟩ := L1.inB_true.mp hy
        rw [hy] at hq1 hr1
        simp at hq1 hr1
        have hm := mod_zero x y hya
        rw [← hr1] at hm
        have hra : 0 ≤ r := by rw [hr1]; exact Int.emod_nonneg _ (by omega)
        have hrb : r < y := by rw [hr1]; exact Int.emod_lt_of_pos _ (by omega)
        have HQ := Lib.hid hq1
        clear hq hr hq1 hy
        subst hr1
        have g1 := Int.lt_tmod_of_pos x (show 0 < y by omega)
        have g2 := Int.tmod_lt_of_pos x (show 0 < y by omega)
        cases hx : L1.inB x 0 1000000000000
        · have hx2 := L1.inB_false.mp hx
          have hq2 := HQ.out
          rw [hx] at hq2
          simp at hq2
          subst hq2
          clear hx HQ
          by_cases hx3 : x < 0
          · go_wp2
            go_ret
            exact ⟨rfl, hst2.1⟩
          · have hx4 : 1000000000000 < x := by omega
            go_wp2
            go_ret
            exact ⟨rfl, hst2.1⟩
        · obtain ⟨hxa, hxb⟩ := L1.inB_true.mp hx
          have hq2 := HQ.out
          rw [hx] at hq2
          simp at hq2
          obtain ⟨k1, k2, k3⟩ := ceil_facts x y hxa hxb hya hyb
          rw [← hq2] at k1 k2 k3
          clear hx HQ hq2
          go_wp2
          go_ret
          exact ⟨rfl, hst2.1⟩

theorem door_met (os : Os) (args : Array Value) : laidMetH Tryd.prog Rows.fnIntegersRow.laid ((World.doorLaid Tryd.prog 2000 os).forCall (fun _ _ => 0) ⟨#[], args, []⟩).memory := by
  rw [MakeChecks.laidMetH_plain _ _ _ (by kernel_rfl)]
  exact laidMet_of_run' 8 (by kernel_rfl) (by kernel_rfl)
set_option maxRecDepth 100000 in
theorem lifted (os : Os) (started : os.Started) (H : Type) (enc : TypeId × Value → H) :
    ReturnsInHanded {} Tryd.checked os 3 .any (fun w args => (Rows.fnIntegersSpec.pre enc Tryd.prog Tryd.f3 Rows.fnIntegersRow.domain false w args ∧ laidMetH Tryd.prog Rows.fnIntegersRow.laid w) ∧ sizedMet enc Tryd.prog Tryd.f3 (OpenSpec.ofChange Rows.fnIntegersSpec) false w args)
      (Rows.fnIntegersSpec.post enc Tryd.prog Tryd.f3 false true false false) := by
  refine returnsInHanded_of_change_and (C := Tryd.checked) (X := fun w _ => laidMetH Tryd.prog Rows.fnIntegersRow.laid w) (fun _ _ _ hh h => h.of_heap hh) own started (by kernel_rfl) Tryd.func3
    (ChangeSpec.witness_shaped (enc := enc) (C := Tryd.checked) (os := os) (X := fun w _ => laidMetH Tryd.prog Rows.fnIntegersRow.laid w) false (World.doorLaid Tryd.prog 2000 os) #[.slice none 0 0] 8 rfl (World.shaped_of_RefB (by kernel_rfl) (by kernel_rfl)) (by kernel_rfl) (by kernel_rfl) (by kernel_rfl) (door_met os _)) ?_
  intro W base args ds gs before hval0 hW _ hsz0 hL _
  have hval : ∀ (j : Nat) t v, Tryd.f3.params[j]? = some t → args[j]? = some v → Value.okWide Tryd.prog W .any base t v := hval0
  have hW' := hW
  obtain ⟨p, q, hA0, hV, rfl, _, _⟩ := hW
  have hA : DataW.TrodAll enc Tryd.prog W 0 (fun _ => true) true Tryd.f3.params.toList args.toList ds p := hA0
  obtain ⟨rfl, rfl⟩ := trodVars_none hV
  have hlt : ∀ x ∈ p, x.block < W.heap.size := fun x hx => hW'.lt x (by simpa using hx)
  simp only [List.append_nil] at hW'
  have hw := walk H enc W base args ds p hval hA hlt hsz0 hL
  have hA1 := hA
  clear hA0 hval0 hsz0 hval hlt
  rw [Tryd.params3] at hA
  obtain ⟨v0, vs0, d0, ds0, p0, q0, e0, rfl, rfl, h0, hr0⟩ := trodAll_cons hA
  obtain ⟨e1, rfl, rfl⟩ := trodAll_nil hr0
  refine hw.mono fun e W' ⟨he, hb⟩ => ?_
  subst he
  exact ⟨_, rfl, Frame.law_post (tb := 4) rfl hW' hA1 rfl rfl rfl laidOut (by kernel_rfl) (by kernel_rfl) Tryd.underlying4 hb⟩

theorem holds : Rows.FnIntegersSaid :=
  OpenClaim.holds_of_wide 3 Tryd.f3 rfl rfl rfl rfl rfl rfl rfl ⟨rfl, rfl, rfl, rfl, rfl⟩ rfl rfl rfl rfl rfl (by kernel_rfl) Tryd.func3 (by kernel_rfl)
    (of_decide_eq_true (by kernel_rfl)) (by unfold Func.isWrapper; first | (rw [if_pos (by decide +kernel)]; kernel_rfl) | (rw [if_neg (by decide +kernel)]; exact ⟨rfl, rfl⟩))
    (fun os started H enc _ => lifted os started H enc)

theorem card : Rows.FnIntegersCardSaid :=
  Claim7.holds_tied_plain_at .later [] [.data, .data, .data, .sentinel, .sentinel] true (true, "9d887651ce183bf291910010d78be6086de3965f1997c5267e46d80125e88b7d") true
    holds (fun _ h => by cases h) (by kernel_rfl) (fun _ h => by cases h) fnIntegers_row_tie rfl ⟨rfl, rfl⟩ (by kernel_rfl) rfl
    (fun f fn hf hfn => by
      obtain rfl : f = 3 := Option.some.inj ((show Tryd.prog.funcNamed "loop.example/g00583/laws.FnIntegers" = some 3 by kernel_rfl).symm.trans hf) |>.symm
      obtain rfl : fn = Tryd.f3 := (Option.some.inj (Tryd.func3.symm.trans hfn)).symm
      exact ⟨by kernel_rfl, fun j t ht => by
        rw [Tryd.params3] at ht
        have hm : t ∈ [22] := by simpa using Array.mem_of_getElem? ht
        have hall : ([22].all fun u => !Tryd.prog.wantsStandIn u) = true := by kernel_rfl
        exact (show Tryd.prog.wantsStandIn t = false by simpa using List.all_eq_true.1 hall t hm)⟩)
    (by kernel_rfl)
#print axioms card
end Go.Proofs.YtaccnbchehopjaaDoor.lawFnIntegers
