/-
  The law FnRecords answers true for every argument, and leaves its arguments as they were. No condition.
  (The frame is written by my program mk_law.py.)
-/
import Derived.Test.YtephiilicebdcaaPa
import Derived.SizedLaws
import Derived.LaidLaws
import Derived.ShutString
import Derived.Stop.LaidErr
import Derived.Lib.LaidTab
import Derived.Test.YtephiilicebdcaaL5Ih
import Derived.Test.YtephiilicebdcaaL5Ie
import Derived.Test.YtephiilicebdcaaL5If
import Derived.Test.YtephiilicebdcaaL5Ig
import Derived.Test.YtephiilicebdcaaL5Fin
import Derived.Test.YtephiilicebdcaaSd7
namespace Go.Proofs.Ytephiilicebdcaa.lawFnRecords
open Go.ChangeShapes Go.WideShapes Go.ChangeAt Go.RowKit
open Go.ChangeMaps (open_string shut_string)
set_option linter.unusedVariables false
theorem own : ownKnob Try.prog.godebug = none := by kernel_rfl
theorem laidOut : laidOutB Try.prog = true := by kernel_rfl
open Mem Sl Ex Sd L2
theorem eqR_self (l : List L5.F) : L5.eqR l l = true := L5.eqR_iff.2 rfl
theorem reads_take {w : World} {B : Nat} {a : Option Addr} {l : List Int} (h : Reads w B a (ints .u8 l)) (n : Nat) : Reads w B a (ints .u8 (l.take n)) := fun j hj => by
  have hj' : j < n ∧ j < l.length := by simp at hj; omega
  obtain ⟨ad, e, hb, hc⟩ := h j (by simpa using hj'.2)
  exact ⟨ad, e, hb, by rw [hc]; simp [ints]⟩
theorem dec_some {l : List Int} (hl : L2.Byt l) (h : L5.decB l = true) : L5.isR (L5.decL l) = true ∧ L5.encR (L5.decL l) = l := by
  unfold L5.decB at h
  obtain ⟨fs, hfs⟩ := Option.isSome_iff_exists.1 h
  have := L5.decR_out hl hfs
  unfold L5.decL
  rw [hfs]
  exact this
theorem dec_back {l : List L5.F} (h : L5.isR l = true) : L5.decL (L5.encR l) = l ∧ L5.decB (L5.encR l) = true := by
  unfold L5.decL L5.decB
  rw [L5.decR_enc h]
  exact ⟨rfl, rfl⟩
set_option maxRecDepth 100000 in
set_option maxHeartbeats 8000000 in
theorem walk (H : Type) (enc : TypeId × Value → H) (W : World) (base : Nat) (args : Array Value) (ds : List (DataW H)) (p : List MemPlace)
    (hval : ∀ (j : Nat) t v, Try.f3.params[j]? = some t → args[j]? = some v → Value.okWide Try.prog W .any base t v)
    (hA : DataW.TrodAll enc Try.prog W 0 (fun _ => true) true Try.f3.params.toList args.toList ds p)
    (hlt : ∀ x ∈ p, x.block < W.heap.size)
    (hsz : (DataW.weightsEach Try.prog (Try.f3.params.toList ++ Rows.fnRecordsSpec.plain.varTypes Try.prog) (ds ++ [])).all (· ≤ reachBytes) = true) :
    Calls Try.prog 3 args W fun e w' => e = .returned (.bool true) ∧ Below W.heap.size W w' := by
  rw [Try.params3] at hA hval hsz
  obtain ⟨v0, d0, rfl, rfl, h0⟩ := trodAll_one hA
  obtain ⟨a0, l0, c0, rfl, hC0, -, hR0, hW0⟩ := Law.open_list Try.underlying22 Try.underlying5 (by kernel_rfl) (hval 0 22 v0 rfl rfl) h0 hlt
  have hby : Mem.Bytes W W.heap.size a0 l0.length := fun j hj => by
    obtain ⟨ad, he, hb, hc⟩ := hR0.int j hj
    have := Law.wf_u8 (hW0 l0[j] (List.getElem_mem hj))
    exact ⟨ad, _, he, hb, hc, this.1, this.2⟩
  obtain ⟨n0, hn0⟩ : ∃ n, n = l0.length := ⟨_, rfl⟩
  rw [← hn0] at hby hC0 ⊢
  clear hn0 hR0 hW0 hA hval hlt hsz h0
  have S0 := Sl.Sep.start W
  by_cases hbig : n0 > 1048576
  · go_enter Try.func3, Try.ntmps3
    go_wp2_with (go_at_call 8; refine (big_s _ S0).mono ?_; rw [decide_eq_true hbig]; rintro e w1 ⟨rfl, S1⟩)
    go_ret
    exact ⟨rfl, S1.old⟩
  · have hsm : n0 ≤ 4611686018427387904 := by omega
    go_enter Try.func3, Try.ntmps3
    go_wp2_with fail
    go_at_call 8
    refine (big_s _ S0).mono ?_
    rw [decide_eq_false hbig]
    rintro e w1 ⟨rfl, S1⟩
    clear S0 l0
    go_wp2_with fail
    go_at_call 9
    refine (L5.drawSetField_s _ hsm hby S1).mono ?_
    rintro e w2 ⟨A0, C0, l0, s, y, rfl, HT0, hss, hy, S2'⟩
    clear S1
    have S2 : Sl.Sep W w2 [Sv.ownV 64 2 A0 C0 l0.length (L5.cellsF l0)] := S2'
    clear S2'
    have HBY := Lib.hid (And.intro hsm hby)
    clear hsm hby hbig
    have S3 := Lib.hid (show Sl.Sep W _ [Sv.ownV 64 2 A0 C0 l0.length (L5.cellsF l0), L4.boxR w2.heap.size 26 #[.slice A0 l0.length C0]] from L4.push_box S2 26 #[.slice A0 l0.length C0] w2.heap.size rfl)
    clear S2
    obtain ⟨hL0, hS0⟩ := HT0
    have HT := Lib.hid (L5.Tame.set (And.intro hL0 hS0) (show s.size ≤ 281474976710656 by omega) y)
    have CSET := Lib.hid (fun w h1 => L5.setField_any A0 C0 l0 s y (by omega) hS0 (by omega) (by omega) (by omega) w h1)
    have CSPEC := Lib.hid (fun w h1 h2 h3 => L5.specSetField_any A0 C0 l0 s y (by omega) hS0 (by omega) w h1 h2 h3)
    have HSS := Lib.hid (show s.size ≤ 281474976710656 by omega)
    clear hS0 hss hy
    cases hm : L5.setB l0 s y with
    | false =>
      have e1 : L5.setL l0 s y = l0 := L5.set_no hm
      have f1 := (L5.Row.one (L4.box_at S3.out 1 rfl)).1
      go_wp2_with fail
      go_at_call 10
      have HC := CSET.out _ (Sv.own_at S3.out 0 rfl).reads
      rw [e1, hm] at HC
      refine HC.mono ?_
      rintro e w3 h
      obtain ⟨ax, cx, rfl, ho, hb⟩ := h
      clear f1
      clear HC
      have S4 := Lib.hid (show Sl.Sep W _ [Sv.ownV 64 2 A0 C0 l0.length (L5.cellsF l0), L4.boxR w2.heap.size 26 #[.slice A0 l0.length C0], Sv.ownV 64 2 ax cx l0.length (L5.cellsF l0), L4.boxR w3.heap.size 26 #[.slice ax l0.length cx]] from L4.push_box (Sv.push_own S3.out hb ho) 26 #[.slice ax l0.length cx] w3.heap.size rfl)
      clear ho hb S3
      have f1 := (L5.Row.one (L4.box_at S4.out 1 rfl)).1
      have f3 := (L5.Row.one (L4.box_at S4.out 3 rfl)).1
      go_wp2_with fail
      go_at_call 11
      have HC := CSPEC.out _ (Sv.own_at S4.out 0 rfl).reads (Sv.own_at S4.out 0 rfl).cap (Sv.own_zero (Sv.own_at S4.out 0 rfl))
      rw [e1, hm] at HC
      refine HC.mono ?_
      rintro e w4 h
      obtain ⟨az, cz, rfl, ho, hb⟩ := h
      clear f1 f3
      clear HC
      have S5 := Lib.hid (show Sl.Sep W _ [Sv.ownV 64 2 A0 C0 l0.length (L5.cellsF l0), L4.boxR w2.heap.size 26 #[.slice A0 l0.length C0], Sv.ownV 64 2 ax cx l0.length (L5.cellsF l0), L4.boxR w3.heap.size 26 #[.slice ax l0.length cx], Sv.ownV 64 2 az cz l0.length (L5.cellsF l0), L4.boxR w4.heap.size 26 #[.slice az l0.length cz]] from L4.push_box (Sv.push_own S4.out hb ho) 26 #[.slice az l0.length cz] w4.heap.size rfl)
      clear ho hb S4
      have f1 := (L5.Row.one (L4.box_at S5.out 1 rfl)).1
      have f3 := (L5.Row.one (L4.box_at S5.out 3 rfl)).1
      have f5 := (L5.Row.one (L4.box_at S5.out 5 rfl)).1
      go_wp2_with fail
      go_at_call 12
      have HC := L5.equalRecords_any ax A0 cx C0 l0 l0 (by omega) (by omega) _ (Sv.own_at S5.out 2 rfl).reads (Sv.own_at S5.out 0 rfl).reads
      rw [eqR_self] at HC
      refine HC.mono ?_
      rintro e w5 ⟨rfl, hb⟩
      clear f1 f3 f5
      clear HC
      have S6 := Lib.hid (S5.out.keep hb)
      clear hb S5
      have f1 := (L5.Row.one (L4.box_at S6.out 1 rfl)).1
      have f3 := (L5.Row.one (L4.box_at S6.out 3 rfl)).1
      have f5 := (L5.Row.one (L4.box_at S6.out 5 rfl)).1
      go_wp2_with fail
      go_ret
      exact ⟨rfl, S6.out.old⟩
    | true =>
      obtain ⟨g1, g2, g3⟩ := L5.set_facts hm
      have g4 := L5.set_found hm
      obtain ⟨g5, g6⟩ := L5.set_gone hm
      rw [← g3] at g2
      obtain ⟨X, hX⟩ : ∃ X, L5.setL l0 s y = X := ⟨_, rfl⟩
      rw [hX] at g2 g4 g5 g6 HT
      obtain ⟨d1, d2⟩ := dec_back g2
      have g7 : L5.getN X s.data.toList = y := by unfold L5.getN; rw [g4]; rfl
      have g8 : L5.getB X s.data.toList = true := by unfold L5.getB; rw [g4]; rfl
      have hXl : X.length ≤ 10 := HT.out.1
      have HR := Lib.hid (HT.out.rem s.data.toList)
      obtain ⟨R, hR⟩ : ∃ R, L5.remL X s.data.toList = R := ⟨_, rfl⟩
      rw [hR] at g6 HR
      have hRl : R.length ≤ 10 := HR.out.1
      obtain ⟨v, hv⟩ : ∃ v, L5.getN R s.data.toList = v := ⟨_, rfl⟩
      obtain ⟨E, hE⟩ : ∃ E, L5.encR X = E := ⟨_, rfl⟩
      have HE := Lib.hid (L5.encR_1000 X)
      rw [hE] at d1 d2 HE
      clear g1 g3 g4
      have HH := Lib.hid (And.intro hX (And.intro hm (And.intro g2 (And.intro g5 (And.intro g6 (And.intro d1 (And.intro d2 (And.intro g7 (And.intro g8 (And.intro hR (And.intro hv hE)))))))))))
      clear hX hm g2 g5 g6 d1 d2 g7 g8 hR hv hE
      have f1 := (L5.Row.one (L4.box_at S3.out 1 rfl)).1
      go_wp2_with fail
      go_at_call 10
      have HC := CSET.out _ (Sv.own_at S3.out 0 rfl).reads
      rw [HH.out.1, HH.out.2.1] at HC
      refine HC.mono ?_
      rintro e w3 h
      obtain ⟨ax, cx, rfl, ho, hb⟩ := h
      clear f1
      clear HC
      have S4 := Lib.hid (show Sl.Sep W _ [Sv.ownV 64 2 A0 C0 l0.length (L5.cellsF l0), L4.boxR w2.heap.size 26 #[.slice A0 l0.length C0], Sv.ownV 64 2 ax cx X.length (L5.cellsF X), L4.boxR w3.heap.size 26 #[.slice ax X.length cx]] from L4.push_box (Sv.push_own S3.out hb ho) 26 #[.slice ax X.length cx] w3.heap.size rfl)
      clear ho hb S3
      have f1 := (L5.Row.one (L4.box_at S4.out 1 rfl)).1
      have f3 := (L5.Row.one (L4.box_at S4.out 3 rfl)).1
      go_wp2_with fail
      go_at_call 11
      have HC := CSPEC.out _ (Sv.own_at S4.out 0 rfl).reads (Sv.own_at S4.out 0 rfl).cap (Sv.own_zero (Sv.own_at S4.out 0 rfl))
      rw [HH.out.1, HH.out.2.1] at HC
      refine HC.mono ?_
      rintro e w4 h
      obtain ⟨az, cz, rfl, ho, hb⟩ := h
      clear f1 f3
      clear HC
      have S5 := Lib.hid (show Sl.Sep W _ [Sv.ownV 64 2 A0 C0 l0.length (L5.cellsF l0), L4.boxR w2.heap.size 26 #[.slice A0 l0.length C0], Sv.ownV 64 2 ax cx X.length (L5.cellsF X), L4.boxR w3.heap.size 26 #[.slice ax X.length cx], Sv.ownV 64 2 az cz X.length (L5.cellsF X), L4.boxR w4.heap.size 26 #[.slice az X.length cz]] from L4.push_box (Sv.push_own S4.out hb ho) 26 #[.slice az X.length cz] w4.heap.size rfl)
      clear ho hb S4
      have f1 := (L5.Row.one (L4.box_at S5.out 1 rfl)).1
      have f3 := (L5.Row.one (L4.box_at S5.out 3 rfl)).1
      have f5 := (L5.Row.one (L4.box_at S5.out 5 rfl)).1
      go_wp2_with fail
      go_at_call 13
      have HC := L5.getField_any ax cx X s (by omega) _ (Sv.own_at S5.out 2 rfl).reads
      rw [HH.out.2.2.2.2.2.2.2.1, HH.out.2.2.2.2.2.2.2.2.1] at HC
      refine HC.mono ?_
      rintro e w5 ⟨rfl, hb⟩
      clear f1 f3 f5
      clear HC
      have S6 := Lib.hid (S5.out.keep hb)
      clear hb S5
      have f1 := (L5.Row.one (L4.box_at S6.out 1 rfl)).1
      have f3 := (L5.Row.one (L4.box_at S6.out 3 rfl)).1
      have f5 := (L5.Row.one (L4.box_at S6.out 5 rfl)).1
      go_wp2_with fail
      go_at_call 14
      have HC := L5.removeField_any ax cx X s (by omega) HT.out.2 HSS.out _ (Sv.own_at S6.out 2 rfl).reads
      rw [HH.out.2.2.2.2.2.2.2.2.2.1, HH.out.2.2.2.1] at HC
      refine HC.mono ?_
      rintro e w6 h
      obtain ⟨ar, cr, rfl, ho, hb⟩ := h
      clear f1 f3 f5
      clear HC
      have S7 := Lib.hid (show Sl.Sep W _ [Sv.ownV 64 2 A0 C0 l0.length (L5.cellsF l0), L4.boxR w2.heap.size 26 #[.slice A0 l0.length C0], Sv.ownV 64 2 ax cx X.length (L5.cellsF X), L4.boxR w3.heap.size 26 #[.slice ax X.length cx], Sv.ownV 64 2 az cz X.length (L5.cellsF X), L4.boxR w4.heap.size 26 #[.slice az X.length cz], Sv.ownV 64 2 ar cr R.length (L5.cellsF R), L4.boxR w6.heap.size 26 #[.slice ar R.length cr]] from L4.push_box (Sv.push_own S6.out hb ho) 26 #[.slice ar R.length cr] w6.heap.size rfl)
      clear ho hb S6
      have f1 := (L5.Row.one (L4.box_at S7.out 1 rfl)).1
      have f3 := (L5.Row.one (L4.box_at S7.out 3 rfl)).1
      have f5 := (L5.Row.one (L4.box_at S7.out 5 rfl)).1
      have f7 := (L5.Row.one (L4.box_at S7.out 7 rfl)).1
      go_wp2_with fail
      go_at_call 13
      have HC := L5.getField_any ar cr R s (by omega) _ (Sv.own_at S7.out 6 rfl).reads
      rw [HH.out.2.2.2.2.2.2.2.2.2.2.1, HH.out.2.2.2.2.1] at HC
      refine HC.mono ?_
      rintro e w7 ⟨rfl, hb⟩
      clear f1 f3 f5 f7
      clear HC
      have S8 := Lib.hid (S7.out.keep hb)
      clear hb S7
      have f1 := (L5.Row.one (L4.box_at S8.out 1 rfl)).1
      have f3 := (L5.Row.one (L4.box_at S8.out 3 rfl)).1
      have f5 := (L5.Row.one (L4.box_at S8.out 5 rfl)).1
      have f7 := (L5.Row.one (L4.box_at S8.out 7 rfl)).1
      go_wp2_with fail
      go_at_call 16
      have HC := L5.encodeRecord_any ax cx X (by omega) HT.out.2 _ (Sv.own_at S8.out 2 rfl).reads
      rw [HH.out.2.2.2.2.2.2.2.2.2.2.2] at HC
      refine HC.mono ?_
      rintro e w8 h
      obtain ⟨ab, cb, rfl, ho, hb⟩ := h
      clear f1 f3 f5 f7
      clear HC
      have S9 := Lib.hid (show Sl.Sep W _ [Sv.ownV 64 2 A0 C0 l0.length (L5.cellsF l0), L4.boxR w2.heap.size 26 #[.slice A0 l0.length C0], Sv.ownV 64 2 ax cx X.length (L5.cellsF X), L4.boxR w3.heap.size 26 #[.slice ax X.length cx], Sv.ownV 64 2 az cz X.length (L5.cellsF X), L4.boxR w4.heap.size 26 #[.slice az X.length cz], Sv.ownV 64 2 ar cr R.length (L5.cellsF R), L4.boxR w6.heap.size 26 #[.slice ar R.length cr], Sl.own 5 .u8 ab cb E] from Sl.Sep.pushOwn S8.out hb ho)
      clear ho hb S8
      have f1 := (L5.Row.one (L4.box_at S9.out 1 rfl)).1
      have f3 := (L5.Row.one (L4.box_at S9.out 3 rfl)).1
      have f5 := (L5.Row.one (L4.box_at S9.out 5 rfl)).1
      have f7 := (L5.Row.one (L4.box_at S9.out 7 rfl)).1
      go_wp2_with fail
      go_at_call 15
      have HC := L5.decodeRecord_any ab cb E _ (Sl.Sep.own S9.out 8 rfl).reads HE.out.2 (Sl.Sep.own S9.out 8 rfl).cap (by have := HE.out.1; omega)
      rw [HH.out.2.2.2.2.2.1, HH.out.2.2.2.2.2.2.1] at HC
      refine HC.mono ?_
      rintro e w9 h
      obtain ⟨au, cu, rfl, ho, hb⟩ := h
      clear f1 f3 f5 f7
      clear HC
      have S10 := Lib.hid (show Sl.Sep W _ [Sv.ownV 64 2 A0 C0 l0.length (L5.cellsF l0), L4.boxR w2.heap.size 26 #[.slice A0 l0.length C0], Sv.ownV 64 2 ax cx X.length (L5.cellsF X), L4.boxR w3.heap.size 26 #[.slice ax X.length cx], Sv.ownV 64 2 az cz X.length (L5.cellsF X), L4.boxR w4.heap.size 26 #[.slice az X.length cz], Sv.ownV 64 2 ar cr R.length (L5.cellsF R), L4.boxR w6.heap.size 26 #[.slice ar R.length cr], Sl.own 5 .u8 ab cb E, Sv.ownV 64 2 au cu X.length (L5.cellsF X), L4.boxR w9.heap.size 26 #[.slice au X.length cu]] from L4.push_box (Sv.push_own S9.out hb ho) 26 #[.slice au X.length cu] w9.heap.size rfl)
      clear ho hb S9
      have f1 := (L5.Row.one (L4.box_at S10.out 1 rfl)).1
      have f3 := (L5.Row.one (L4.box_at S10.out 3 rfl)).1
      have f5 := (L5.Row.one (L4.box_at S10.out 5 rfl)).1
      have f7 := (L5.Row.one (L4.box_at S10.out 7 rfl)).1
      have f10 := (L5.Row.one (L4.box_at S10.out 10 rfl)).1
      go_wp2_with fail
      go_at_call 17
      refine (L5.drawDecodeRecord_s _ HBY.out.1 HBY.out.2 S10.out).mono ?_
      rintro e w10 ⟨ad, cd, ld, nd, rfl, ⟨hnd, hbd, hld⟩, S'⟩
      clear f1 f3 f5 f7 f10
      have S11 := Lib.hid (show Sl.Sep W _ [Sv.ownV 64 2 A0 C0 l0.length (L5.cellsF l0), L4.boxR w2.heap.size 26 #[.slice A0 l0.length C0], Sv.ownV 64 2 ax cx X.length (L5.cellsF X), L4.boxR w3.heap.size 26 #[.slice ax X.length cx], Sv.ownV 64 2 az cz X.length (L5.cellsF X), L4.boxR w4.heap.size 26 #[.slice az X.length cz], Sv.ownV 64 2 ar cr R.length (L5.cellsF R), L4.boxR w6.heap.size 26 #[.slice ar R.length cr], Sl.own 5 .u8 ab cb E, Sv.ownV 64 2 au cu X.length (L5.cellsF X), L4.boxR w9.heap.size 26 #[.slice au X.length cu], Sl.own 5 .u8 ad cd ld] from S')
      clear S' S10
      obtain ⟨m, hm⟩ : ∃ m, ld.take nd = m := ⟨_, rfl⟩
      have hml : m.length = nd := by rw [← hm, List.length_take]; omega
      have HMB := Lib.hid (show Byt m from fun x hx => hbd x (List.mem_of_mem_take (hm ▸ hx)))
      have HMC := Lib.hid (show m.length ≤ cd by have := (Sl.Sep.own S11.out 11 rfl).cap; omega)
      have hmz : m.length ≤ 1001 := by omega
      subst hml
      have HRD := Lib.hid (fun (w : World) B (h : Reads w B ad (ints .u8 ld)) => (show Reads w B ad (ints .u8 m) from hm ▸ reads_take h m.length))
      clear hm hnd hbd hld
      have f1 := (L5.Row.one (L4.box_at S11.out 1 rfl)).1
      have f3 := (L5.Row.one (L4.box_at S11.out 3 rfl)).1
      have f5 := (L5.Row.one (L4.box_at S11.out 5 rfl)).1
      have f7 := (L5.Row.one (L4.box_at S11.out 7 rfl)).1
      have f10 := (L5.Row.one (L4.box_at S11.out 10 rfl)).1
      obtain ⟨G, hG⟩ : ∃ G, L5.decL m = G := ⟨_, rfl⟩
      have HG := Lib.hid hG
      clear hG
      cases hd : L5.decB m with
      | false =>
        have HD := Lib.hid hd
        clear hd
        go_wp2_with fail
        go_at_call 15
        have HC := L5.decodeRecord_any ad cd m _ (HRD.out _ _ (Sl.Sep.own S11.out 11 rfl).reads) HMB.out HMC.out (by omega)
        rw [HG.out, HD.out] at HC
        refine HC.mono ?_
        rintro e w11 h
        obtain ⟨ag, cg, rfl, ho, hb⟩ := h
        clear f1 f3 f5 f7 f10
        clear HC
        have S12 := Lib.hid (show Sl.Sep W _ [Sv.ownV 64 2 A0 C0 l0.length (L5.cellsF l0), L4.boxR w2.heap.size 26 #[.slice A0 l0.length C0], Sv.ownV 64 2 ax cx X.length (L5.cellsF X), L4.boxR w3.heap.size 26 #[.slice ax X.length cx], Sv.ownV 64 2 az cz X.length (L5.cellsF X), L4.boxR w4.heap.size 26 #[.slice az X.length cz], Sv.ownV 64 2 ar cr R.length (L5.cellsF R), L4.boxR w6.heap.size 26 #[.slice ar R.length cr], Sl.own 5 .u8 ab cb E, Sv.ownV 64 2 au cu X.length (L5.cellsF X), L4.boxR w9.heap.size 26 #[.slice au X.length cu], Sl.own 5 .u8 ad cd ld, Sv.ownV 64 2 ag cg G.length (L5.cellsF G), L4.boxR w11.heap.size 26 #[.slice ag G.length cg]] from L4.push_box (Sv.push_own S11.out hb ho) 26 #[.slice ag G.length cg] w11.heap.size rfl)
        clear ho hb S11
        have f1 := (L5.Row.one (L4.box_at S12.out 1 rfl)).1
        have f3 := (L5.Row.one (L4.box_at S12.out 3 rfl)).1
        have f5 := (L5.Row.one (L4.box_at S12.out 5 rfl)).1
        have f7 := (L5.Row.one (L4.box_at S12.out 7 rfl)).1
        have f10 := (L5.Row.one (L4.box_at S12.out 10 rfl)).1
        have f13 := (L5.Row.one (L4.box_at S12.out 13 rfl)).1
        go_wp2_with fail
        go_at_call 12
        have HC := L5.equalRecords_any au ax cu cx X X (by omega) (by omega) _ (Sv.own_at S12.out 9 rfl).reads (Sv.own_at S12.out 2 rfl).reads
        rw [eqR_self] at HC
        refine HC.mono ?_
        rintro e w12 ⟨rfl, hb⟩
        clear f1 f3 f5 f7 f10 f13
        clear HC
        have S13 := Lib.hid (S12.out.keep hb)
        clear hb S12
        have f1 := (L5.Row.one (L4.box_at S13.out 1 rfl)).1
        have f3 := (L5.Row.one (L4.box_at S13.out 3 rfl)).1
        have f5 := (L5.Row.one (L4.box_at S13.out 5 rfl)).1
        have f7 := (L5.Row.one (L4.box_at S13.out 7 rfl)).1
        have f10 := (L5.Row.one (L4.box_at S13.out 10 rfl)).1
        have f13 := (L5.Row.one (L4.box_at S13.out 13 rfl)).1
        go_wp2_with fail
        go_at_call 18
        have HC := L5.isRecord_any ax cx X (by omega) HT.out.2 _ (Sv.own_at S13.out 2 rfl).reads
        rw [HH.out.2.2.1] at HC
        refine HC.mono ?_
        rintro e w13 ⟨rfl, hb⟩
        clear f1 f3 f5 f7 f10 f13
        clear HC
        have S14 := Lib.hid (S13.out.keep hb)
        clear hb S13
        have f1 := (L5.Row.one (L4.box_at S14.out 1 rfl)).1
        have f3 := (L5.Row.one (L4.box_at S14.out 3 rfl)).1
        have f5 := (L5.Row.one (L4.box_at S14.out 5 rfl)).1
        have f7 := (L5.Row.one (L4.box_at S14.out 7 rfl)).1
        have f10 := (L5.Row.one (L4.box_at S14.out 10 rfl)).1
        have f13 := (L5.Row.one (L4.box_at S14.out 13 rfl)).1
        go_wp2_with fail
        go_ret
        exact ⟨rfl, S14.out.old⟩
      | true =>
        have HD := Lib.hid hd
        clear hd
        obtain ⟨k1, k2⟩ := dec_some HMB.out HD.out
        rw [HG.out] at k1 k2
        have HK := Lib.hid (And.intro k1 k2)
        clear k1 k2
        have hGl : G.length ≤ 6 := (L5.isR_iff.1 HK.out.1).2
        go_wp2_with fail
        go_at_call 15
        have HC := L5.decodeRecord_any ad cd m _ (HRD.out _ _ (Sl.Sep.own S11.out 11 rfl).reads) HMB.out HMC.out (by omega)
        rw [HG.out, HD.out] at HC
        refine HC.mono ?_
        rintro e w11 h
        obtain ⟨ag, cg, rfl, ho, hb⟩ := h
        clear f1 f3 f5 f7 f10
        clear HC
        have S12 := Lib.hid (show Sl.Sep W _ [Sv.ownV 64 2 A0 C0 l0.length (L5.cellsF l0), L4.boxR w2.heap.size 26 #[.slice A0 l0.length C0], Sv.ownV 64 2 ax cx X.length (L5.cellsF X), L4.boxR w3.heap.size 26 #[.slice ax X.length cx], Sv.ownV 64 2 az cz X.length (L5.cellsF X), L4.boxR w4.heap.size 26 #[.slice az X.length cz], Sv.ownV 64 2 ar cr R.length (L5.cellsF R), L4.boxR w6.heap.size 26 #[.slice ar R.length cr], Sl.own 5 .u8 ab cb E, Sv.ownV 64 2 au cu X.length (L5.cellsF X), L4.boxR w9.heap.size 26 #[.slice au X.length cu], Sl.own 5 .u8 ad cd ld, Sv.ownV 64 2 ag cg G.length (L5.cellsF G), L4.boxR w11.heap.size 26 #[.slice ag G.length cg]] from L4.push_box (Sv.push_own S11.out hb ho) 26 #[.slice ag G.length cg] w11.heap.size rfl)
        clear ho hb S11
        have f1 := (L5.Row.one (L4.box_at S12.out 1 rfl)).1
        have f3 := (L5.Row.one (L4.box_at S12.out 3 rfl)).1
        have f5 := (L5.Row.one (L4.box_at S12.out 5 rfl)).1
        have f7 := (L5.Row.one (L4.box_at S12.out 7 rfl)).1
        have f10 := (L5.Row.one (L4.box_at S12.out 10 rfl)).1
        have f13 := (L5.Row.one (L4.box_at S12.out 13 rfl)).1
        go_wp2_with fail
        go_at_call 12
        have HC := L5.equalRecords_any au ax cu cx X X (by omega) (by omega) _ (Sv.own_at S12.out 9 rfl).reads (Sv.own_at S12.out 2 rfl).reads
        rw [eqR_self] at HC
        refine HC.mono ?_
        rintro e w12 ⟨rfl, hb⟩
        clear f1 f3 f5 f7 f10 f13
        clear HC
        have S13 := Lib.hid (S12.out.keep hb)
        clear hb S12
        have f1 := (L5.Row.one (L4.box_at S13.out 1 rfl)).1
        have f3 := (L5.Row.one (L4.box_at S13.out 3 rfl)).1
        have f5 := (L5.Row.one (L4.box_at S13.out 5 rfl)).1
        have f7 := (L5.Row.one (L4.box_at S13.out 7 rfl)).1
        have f10 := (L5.Row.one (L4.box_at S13.out 10 rfl)).1
        have f13 := (L5.Row.one (L4.box_at S13.out 13 rfl)).1
        go_wp2_with fail
        go_at_call 18
        have HC := L5.isRecord_any ax cx X (by omega) HT.out.2 _ (Sv.own_at S13.out 2 rfl).reads
        rw [HH.out.2.2.1] at HC
        refine HC.mono ?_
        rintro e w13 ⟨rfl, hb⟩
        clear f1 f3 f5 f7 f10 f13
        clear HC
        have S14 := Lib.hid (S13.out.keep hb)
        clear hb S13
        have f1 := (L5.Row.one (L4.box_at S14.out 1 rfl)).1
        have f3 := (L5.Row.one (L4.box_at S14.out 3 rfl)).1
        have f5 := (L5.Row.one (L4.box_at S14.out 5 rfl)).1
        have f7 := (L5.Row.one (L4.box_at S14.out 7 rfl)).1
        have f10 := (L5.Row.one (L4.box_at S14.out 10 rfl)).1
        have f13 := (L5.Row.one (L4.box_at S14.out 13 rfl)).1
        go_wp2_with fail
        go_at_call 16
        have HC := L5.encodeRecord_any ag cg G (by omega) (L5.isR_small HK.out.1) _ (Sv.own_at S14.out 12 rfl).reads
        rw [HK.out.2] at HC
        refine HC.mono ?_
        rintro e w14 h
        obtain ⟨ae, ce, rfl, ho, hb⟩ := h
        clear f1 f3 f5 f7 f10 f13
        clear HC
        have S15 := Lib.hid (show Sl.Sep W _ [Sv.ownV 64 2 A0 C0 l0.length (L5.cellsF l0), L4.boxR w2.heap.size 26 #[.slice A0 l0.length C0], Sv.ownV 64 2 ax cx X.length (L5.cellsF X), L4.boxR w3.heap.size 26 #[.slice ax X.length cx], Sv.ownV 64 2 az cz X.length (L5.cellsF X), L4.boxR w4.heap.size 26 #[.slice az X.length cz], Sv.ownV 64 2 ar cr R.length (L5.cellsF R), L4.boxR w6.heap.size 26 #[.slice ar R.length cr], Sl.own 5 .u8 ab cb E, Sv.ownV 64 2 au cu X.length (L5.cellsF X), L4.boxR w9.heap.size 26 #[.slice au X.length cu], Sl.own 5 .u8 ad cd ld, Sv.ownV 64 2 ag cg G.length (L5.cellsF G), L4.boxR w11.heap.size 26 #[.slice ag G.length cg], Sl.own 5 .u8 ae ce m] from Sl.Sep.pushOwn S14.out hb ho)
        clear ho hb S14
        have f1 := (L5.Row.one (L4.box_at S15.out 1 rfl)).1
        have f3 := (L5.Row.one (L4.box_at S15.out 3 rfl)).1
        have f5 := (L5.Row.one (L4.box_at S15.out 5 rfl)).1
        have f7 := (L5.Row.one (L4.box_at S15.out 7 rfl)).1
        have f10 := (L5.Row.one (L4.box_at S15.out 10 rfl)).1
        have f13 := (L5.Row.one (L4.box_at S15.out 13 rfl)).1
        go_wp2_with fail
        go_at_call 19
        refine (sameBytes_s (l := m) (m := m) S15.out _ _ _ _ _ rfl rfl (Sl.Sep.own S15.out 14 rfl).reads (HRD.out _ _ (Sl.Sep.own S15.out 11 rfl).reads) rfl (by omega)).mono ?_
        rintro e w15 ⟨rfl, S'⟩
        clear f1 f3 f5 f7 f10 f13
        go_wp2_with fail
        go_ret
        exact ⟨rfl, S'.old⟩

set_option maxRecDepth 100000 in
theorem lifted (os : Os) (started : os.Started) (H : Type) (enc : TypeId × Value → H) :
    ReturnsInHanded {} Try.checked os 3 .any (Rows.fnRecordsSpec.pre6 enc Try.prog Try.f3 Rows.fnRecordsRow.domain false) (Rows.fnRecordsSpec.post enc Try.prog Try.f3 false true false false) := by
  refine returnsInHanded_of_change_sized (C := Try.checked) own started (by kernel_rfl) Try.func3
    (ChangeSpec.witness6 (enc := enc) (C := Try.checked) false ⟨#[], #[.slice none 0 0], []⟩ 8 (by kernel_rfl) (by kernel_rfl) (by kernel_rfl) (by kernel_rfl)) ?_
  intro W base args ds gs before hval0 hW _ hsz0 _
  have hval : ∀ (j : Nat) t v, Try.f3.params[j]? = some t → args[j]? = some v → Value.okWide Try.prog W .any base t v := hval0
  have hW' := hW
  obtain ⟨p, q, hA0, hV, rfl, _, _⟩ := hW
  have hA : DataW.TrodAll enc Try.prog W 0 (fun _ => true) true Try.f3.params.toList args.toList ds p := hA0
  obtain ⟨rfl, rfl⟩ := trodVars_none hV
  have hlt : ∀ x ∈ p, x.block < W.heap.size := fun x hx => hW'.lt x (by simpa using hx)
  simp only [List.append_nil] at hW'
  have hw := walk H enc W base args ds p hval hA hlt hsz0
  have hA1 := hA
  clear hA0 hval0 hsz0 hval hlt
  rw [Try.params3] at hA
  obtain ⟨v0, vs0, d0, ds0, p0, q0, e0, rfl, rfl, h0, hr0⟩ := trodAll_cons hA
  obtain ⟨e1, rfl, rfl⟩ := trodAll_nil hr0
  refine hw.mono fun e W' ⟨he, hb⟩ => ?_
  subst he
  exact ⟨_, rfl, Frame.law_post (tb := 4) rfl hW' hA1 rfl rfl rfl laidOut (by kernel_rfl) (by kernel_rfl) Try.underlying4 hb⟩

theorem holds : Rows.FnRecordsSaid :=
  OpenClaim.holds_of_wide 3 Try.f3 rfl rfl rfl rfl rfl rfl rfl ⟨rfl, rfl, rfl, rfl, rfl⟩ rfl rfl rfl rfl rfl (by kernel_rfl) Try.func3 (by kernel_rfl)
    (of_decide_eq_true (by kernel_rfl)) (by unfold Func.isWrapper; first | (rw [if_pos (by decide +kernel)]; kernel_rfl) | (rw [if_neg (by decide +kernel)]; exact ⟨rfl, rfl⟩))
    (fun os started H enc _ => lifted os started H enc)

#print axioms holds
end Go.Proofs.Ytephiilicebdcaa.lawFnRecords
