/-
  What the law FnExactDecodeOps needs, laid by my program lawpack.py, part 3: the texts L9Ia, L5Is, L5If, L4Im3, L9Ic, L5Ig, L4Im5, L9Id, one behind the other; each begins with its own words.
-/
import Derived.Test.YthiidcflpgbogaaFnExactDecodeOpsP2
set_option linter.unusedSimpArgs false
set_option linter.unusedVariables false
set_option maxRecDepth 100000
namespace Go.Proofs.Ythiidcflpgbogaa.L9
open V L6
open L4 (K isK cmpK)
open L5 (F isR isN string_geq)
open Go.Op (bytesLess)
open Go.ChangeShapes Go.WideShapes Go.ChangeAt Go.RowKit Mem Sl Ex L2 Sv Bag

def ifO (kd : Int) (v : Value) : Value := if kd = 1 then .iface 95 v else if kd = 2 then .iface 96 v else if kd = 3 then .iface 97 v else if kd = 4 then .iface 75 v else if kd = 5 then .iface 71 v else if kd = 6 then .iface 72 v else .nilIface
theorem ifO1 (v : Value) : ifO 1 v = .iface 95 v := rfl
theorem ifO2 (v : Value) : ifO 2 v = .iface 96 v := rfl
theorem ifO3 (v : Value) : ifO 3 v = .iface 97 v := rfl
theorem ifO4 (v : Value) : ifO 4 v = .iface 75 v := rfl
theorem ifO5 (v : Value) : ifO 5 v = .iface 71 v := rfl
theorem ifO6 (v : Value) : ifO 6 v = .iface 72 v := rfl
theorem ifO_no {kd : Int} (v : Value) (h : ¬ (kd = 1 ∨ kd = 2 ∨ kd = 3 ∨ kd = 4 ∨ kd = 5 ∨ kd = 6)) : ifO kd v = .nilIface := by
 unfold ifO
 rw [if_neg (by omega), if_neg (by omega), if_neg (by omega), if_neg (by omega), if_neg (by omega), if_neg (by omega)]
theorem nil_no (t : TypeId) (v : Value) (w : World) : (binOp .eql 69 (.iface t v) .nilIface).run Try.prog w = .ok (.bool false) w := by rfl
theorem nil_yes (w : World) : (binOp .eql 69 .nilIface .nilIface).run Try.prog w = .ok (.bool true) w := by rfl
theorem as_clearOp (v : Value) (w : World) : (Instr.typeAssert (.iface 71 v) 69 71 true).run Try.prog w = .ok (.tuple #[v, .bool true]) w := by rfl
theorem not_clearOp_nil (w : World) : (Instr.typeAssert .nilIface 69 71 true).run Try.prog w = .ok (.tuple #[.agg #[.int .i64 0, .string ⟨#[]⟩, .int .i64 0, .int .i64 0, .string ⟨#[]⟩, .slice none 0 0, .string ⟨#[]⟩], .bool false]) w := by kernel_rfl
theorem not_clearOp_putOp (v : Value) (w : World) : (Instr.typeAssert (.iface 95 v) 69 71 true).run Try.prog w = .ok (.tuple #[.agg #[.int .i64 0, .string ⟨#[]⟩, .int .i64 0, .int .i64 0, .string ⟨#[]⟩, .slice none 0 0, .string ⟨#[]⟩], .bool false]) w := by kernel_rfl
theorem not_clearOp_addOp (v : Value) (w : World) : (Instr.typeAssert (.iface 96 v) 69 71 true).run Try.prog w = .ok (.tuple #[.agg #[.int .i64 0, .string ⟨#[]⟩, .int .i64 0, .int .i64 0, .string ⟨#[]⟩, .slice none 0 0, .string ⟨#[]⟩], .bool false]) w := by kernel_rfl
theorem not_clearOp_deleteOp (v : Value) (w : World) : (Instr.typeAssert (.iface 97 v) 69 71 true).run Try.prog w = .ok (.tuple #[.agg #[.int .i64 0, .string ⟨#[]⟩, .int .i64 0, .int .i64 0, .string ⟨#[]⟩, .slice none 0 0, .string ⟨#[]⟩], .bool false]) w := by kernel_rfl
theorem not_clearOp_getOp (v : Value) (w : World) : (Instr.typeAssert (.iface 75 v) 69 71 true).run Try.prog w = .ok (.tuple #[.agg #[.int .i64 0, .string ⟨#[]⟩, .int .i64 0, .int .i64 0, .string ⟨#[]⟩, .slice none 0 0, .string ⟨#[]⟩], .bool false]) w := by kernel_rfl
theorem not_clearOp_incOp (v : Value) (w : World) : (Instr.typeAssert (.iface 72 v) 69 71 true).run Try.prog w = .ok (.tuple #[.agg #[.int .i64 0, .string ⟨#[]⟩, .int .i64 0, .int .i64 0, .string ⟨#[]⟩, .slice none 0 0, .string ⟨#[]⟩], .bool false]) w := by kernel_rfl
theorem as_incOp (v : Value) (w : World) : (Instr.typeAssert (.iface 72 v) 69 72 true).run Try.prog w = .ok (.tuple #[v, .bool true]) w := by rfl
theorem not_incOp_nil (w : World) : (Instr.typeAssert .nilIface 69 72 true).run Try.prog w = .ok (.tuple #[.agg #[.int .i64 0, .string ⟨#[]⟩, .int .i64 0, .int .i64 0, .string ⟨#[]⟩, .slice none 0 0, .string ⟨#[]⟩], .bool false]) w := by kernel_rfl
theorem not_incOp_putOp (v : Value) (w : World) : (Instr.typeAssert (.iface 95 v) 69 72 true).run Try.prog w = .ok (.tuple #[.agg #[.int .i64 0, .string ⟨#[]⟩, .int .i64 0, .int .i64 0, .string ⟨#[]⟩, .slice none 0 0, .string ⟨#[]⟩], .bool false]) w := by kernel_rfl
theorem not_incOp_addOp (v : Value) (w : World) : (Instr.typeAssert (.iface 96 v) 69 72 true).run Try.prog w = .ok (.tuple #[.agg #[.int .i64 0, .string ⟨#[]⟩, .int .i64 0, .int .i64 0, .string ⟨#[]⟩, .slice none 0 0, .string ⟨#[]⟩], .bool false]) w := by kernel_rfl
theorem not_incOp_deleteOp (v : Value) (w : World) : (Instr.typeAssert (.iface 97 v) 69 72 true).run Try.prog w = .ok (.tuple #[.agg #[.int .i64 0, .string ⟨#[]⟩, .int .i64 0, .int .i64 0, .string ⟨#[]⟩, .slice none 0 0, .string ⟨#[]⟩], .bool false]) w := by kernel_rfl
theorem not_incOp_getOp (v : Value) (w : World) : (Instr.typeAssert (.iface 75 v) 69 72 true).run Try.prog w = .ok (.tuple #[.agg #[.int .i64 0, .string ⟨#[]⟩, .int .i64 0, .int .i64 0, .string ⟨#[]⟩, .slice none 0 0, .string ⟨#[]⟩], .bool false]) w := by kernel_rfl
theorem not_incOp_clearOp (v : Value) (w : World) : (Instr.typeAssert (.iface 71 v) 69 72 true).run Try.prog w = .ok (.tuple #[.agg #[.int .i64 0, .string ⟨#[]⟩, .int .i64 0, .int .i64 0, .string ⟨#[]⟩, .slice none 0 0, .string ⟨#[]⟩], .bool false]) w := by kernel_rfl
set_option maxHeartbeats 4000000 in
theorem operationOf_any (o : Y_Op) (w : World) :
  Calls Try.prog 46 #[vv_Op o] w fun e w' => e = .returned (ifO o.f_Kind (vv_Op o)) ∧ Below w.heap.size w w' := by
 obtain ⟨kd, st, ⟨kk, kn, kt⟩, ⟨ra, rc, rl⟩, fd⟩ := o
 unfold vv_Op
 dsimp only
 rcases (show kd = 1 ∨ kd = 2 ∨ kd = 3 ∨ kd = 4 ∨ kd = 5 ∨ kd = 6 ∨ ¬ (kd = 1 ∨ kd = 2 ∨ kd = 3 ∨ kd = 4 ∨ kd = 5 ∨ kd = 6) by omega) with rfl | rfl | rfl | rfl | rfl | rfl | hno
 ·
  skip
  rw [ifO1]
  have S1 := Lib.hid (show Sl.Sep w _ [_] from L4.push_box (Sl.Sep.start w) 36 #[.int .i64 1, .string st, .int .i64 kk, .int .i64 kn, .string kt, .slice ra rl.length rc, .string fd] (w.heap.size) (by simp))
  obtain ⟨wa, hwa⟩ : ∃ w_, w_ = (w.alloc (.cells #[.int .i64 1, .string st, .int .i64 kk, .int .i64 kn, .string kt, .slice ra rl.length rc, .string fd] 36)) := ⟨_, rfl⟩
  rw [← hwa] at S1
  go_enter Try.func46, Try.ntmps46
  go_upto_region 1 with fail
  rw [← hwa]
  clear hwa
  obtain ⟨f0, f1, f2, f3, f4, f5, f6⟩ := Bag.cs7 S1.out 0 rfl
  go_wp2_with fail
  go_ret
  exact ⟨rfl, S1.out.old⟩
 ·
  skip
  rw [ifO2]
  have S1 := Lib.hid (show Sl.Sep w _ [_] from L4.push_box (Sl.Sep.start w) 36 #[.int .i64 2, .string st, .int .i64 kk, .int .i64 kn, .string kt, .slice ra rl.length rc, .string fd] (w.heap.size) (by simp))
  obtain ⟨wa, hwa⟩ : ∃ w_, w_ = (w.alloc (.cells #[.int .i64 2, .string st, .int .i64 kk, .int .i64 kn, .string kt, .slice ra rl.length rc, .string fd] 36)) := ⟨_, rfl⟩
  rw [← hwa] at S1
  go_enter Try.func46, Try.ntmps46
  go_upto_region 1 with fail
  rw [← hwa]
  clear hwa
  obtain ⟨f0, f1, f2, f3, f4, f5, f6⟩ := Bag.cs7 S1.out 0 rfl
  go_wp2_with fail
  go_ret
  exact ⟨rfl, S1.out.old⟩
 ·
  skip
  rw [ifO3]
  have S1 := Lib.hid (show Sl.Sep w _ [_] from L4.push_box (Sl.Sep.start w) 36 #[.int .i64 3, .string st, .int .i64 kk, .int .i64 kn, .string kt, .slice ra rl.length rc, .string fd] (w.heap.size) (by simp))
  obtain ⟨wa, hwa⟩ : ∃ w_, w_ = (w.alloc (.cells #[.int .i64 3, .string st, .int .i64 kk, .int .i64 kn, .string kt, .slice ra rl.length rc, .string fd] 36)) := ⟨_, rfl⟩
  rw [← hwa] at S1
  go_enter Try.func46, Try.ntmps46
  go_upto_region 1 with fail
  rw [← hwa]
  clear hwa
  obtain ⟨f0, f1, f2, f3, f4, f5, f6⟩ := Bag.cs7 S1.out 0 rfl
  go_wp2_with fail
  go_ret
  exact ⟨rfl, S1.out.old⟩
 ·
  skip
  rw [ifO4]
  have S1 := Lib.hid (show Sl.Sep w _ [_] from L4.push_box (Sl.Sep.start w) 36 #[.int .i64 4, .string st, .int .i64 kk, .int .i64 kn, .string kt, .slice ra rl.length rc, .string fd] (w.heap.size) (by simp))
  obtain ⟨wa, hwa⟩ : ∃ w_, w_ = (w.alloc (.cells #[.int .i64 4, .string st, .int .i64 kk, .int .i64 kn, .string kt, .slice ra rl.length rc, .string fd] 36)) := ⟨_, rfl⟩
  rw [← hwa] at S1
  go_enter Try.func46, Try.ntmps46
  go_upto_region 1 with fail
  rw [← hwa]
  clear hwa
  obtain ⟨f0, f1, f2, f3, f4, f5, f6⟩ := Bag.cs7 S1.out 0 rfl
  go_wp2_with fail
  go_ret
  exact ⟨rfl, S1.out.old⟩
 ·
  skip
  rw [ifO5]
  have S1 := Lib.hid (show Sl.Sep w _ [_] from L4.push_box (Sl.Sep.start w) 36 #[.int .i64 5, .string st, .int .i64 kk, .int .i64 kn, .string kt, .slice ra rl.length rc, .string fd] (w.heap.size) (by simp))
  obtain ⟨wa, hwa⟩ : ∃ w_, w_ = (w.alloc (.cells #[.int .i64 5, .string st, .int .i64 kk, .int .i64 kn, .string kt, .slice ra rl.length rc, .string fd] 36)) := ⟨_, rfl⟩
  rw [← hwa] at S1
  go_enter Try.func46, Try.ntmps46
  go_upto_region 1 with fail
  rw [← hwa]
  clear hwa
  obtain ⟨f0, f1, f2, f3, f4, f5, f6⟩ := Bag.cs7 S1.out 0 rfl
  go_wp2_with fail
  go_ret
  exact ⟨rfl, S1.out.old⟩
 ·
  skip
  rw [ifO6]
  have S1 := Lib.hid (show Sl.Sep w _ [_] from L4.push_box (Sl.Sep.start w) 36 #[.int .i64 6, .string st, .int .i64 kk, .int .i64 kn, .string kt, .slice ra rl.length rc, .string fd] (w.heap.size) (by simp))
  obtain ⟨wa, hwa⟩ : ∃ w_, w_ = (w.alloc (.cells #[.int .i64 6, .string st, .int .i64 kk, .int .i64 kn, .string kt, .slice ra rl.length rc, .string fd] 36)) := ⟨_, rfl⟩
  rw [← hwa] at S1
  go_enter Try.func46, Try.ntmps46
  go_upto_region 1 with fail
  rw [← hwa]
  clear hwa
  obtain ⟨f0, f1, f2, f3, f4, f5, f6⟩ := Bag.cs7 S1.out 0 rfl
  go_wp2_with fail
  go_ret
  exact ⟨rfl, S1.out.old⟩
 ·
  skip
  rw [ifO_no _ hno]
  have n1 : ¬ kd = 1 := by omega
  have n2 : ¬ kd = 2 := by omega
  have n3 : ¬ kd = 3 := by omega
  have n4 : ¬ kd = 4 := by omega
  have n5 : ¬ kd = 5 := by omega
  have n6 : ¬ kd = 6 := by omega
  clear hno
  have S1 := Lib.hid (show Sl.Sep w _ [_] from L4.push_box (Sl.Sep.start w) 36 #[.int .i64 kd, .string st, .int .i64 kk, .int .i64 kn, .string kt, .slice ra rl.length rc, .string fd] (w.heap.size) (by simp))
  obtain ⟨wa, hwa⟩ : ∃ w_, w_ = (w.alloc (.cells #[.int .i64 kd, .string st, .int .i64 kk, .int .i64 kn, .string kt, .slice ra rl.length rc, .string fd] 36)) := ⟨_, rfl⟩
  rw [← hwa] at S1
  go_enter Try.func46, Try.ntmps46
  go_upto_region 1 with fail
  rw [← hwa]
  clear hwa
  obtain ⟨f0, f1, f2, f3, f4, f5, f6⟩ := Bag.cs7 S1.out 0 rfl
  go_wp2_with fail
  go_ret
  exact ⟨rfl, S1.out.old⟩
set_option maxHeartbeats 8000000 in
theorem isOp_any (o : Y_Op) (hf : FitO (co_Op o)) (w : World) (hr : RowsRd w w.heap.size (rw_Op o)) :
  Calls Try.prog 12 #[vv_Op o] w fun e w' => e = .returned (.bool (isO (co_Op o))) ∧ Below w.heap.size w w' := by
 have HRR := Lib.hid (fun w' (h : Below w.heap.size w w') => (((rdO hr).below h).more h.size : Reads w' w'.heap.size o.f_Record.a (L5.cellsF o.f_Record.l)))
 have HFO := Lib.hid (show FitO ⟨o.f_Kind, o.f_Store, o.f_Key, o.f_Record.l, o.f_Field⟩ from hf)
 clear hf hr
 obtain ⟨kd, st, ⟨kk, kn, kt⟩, ⟨ra, rc, rl⟩, fd⟩ := o
 try unfold vv_Op
 dsimp only at HRR HFO ⊢
 obtain ⟨bn, hbn⟩ : ∃ b, isN st.data.toList = b := ⟨_, rfl⟩
 obtain ⟨bk, hbk⟩ : ∃ b, isK (⟨kk, kn, kt⟩ : K) = b := ⟨_, rfl⟩
 obtain ⟨br, hbr⟩ : ∃ b, isR rl = b := ⟨_, rfl⟩
 obtain ⟨bf, hbf⟩ : ∃ b, isN fd.data.toList = b := ⟨_, rfl⟩
 obtain ⟨c0, hc0⟩ : ∃ b, (fd.toList == []) = b := ⟨_, rfl⟩
 have HNA := fun w => L5.isName_any st HFO.out.store w
 rw [hbn] at HNA
 replace HNA := Lib.hid HNA
 have HNF := fun w => L5.isName_any fd HFO.out.field w
 rw [hbf] at HNF
 replace HNF := Lib.hid HNF
 have HKY := fun w => L4.implIsKey_any (⟨kk, kn, kt⟩ : K) (by have h : kt.size ≤ 1099511627776 := HFO.out.text; show kt.size ≤ _; omega) w
 rw [hbk] at HKY
 unfold L4.K.v at HKY
 dsimp only at HKY
 replace HKY := Lib.hid HKY
 have HRC := fun w' (h : Below w.heap.size w w') => L5.isRecord_any ra rc rl (by have h : rl.length ≤ 1048576 := HFO.out.len; omega) HFO.out.small w' (HRR.out w' h)
 rw [hbr] at HRC
 replace HRC := Lib.hid HRC
 have HB : isO (co_Op ⟨kd, st, ⟨kk, kn, kt⟩, ⟨ra, rc, rl⟩, fd⟩) = (L1.inB kd 1 6 && (bn && ((kd == 5 || bk) && (br && (if kd = 6 then bf else c0))))) := by rw [← hbn, ← hbk, ← hbr, ← hbf, ← hc0]; rfl
 clear hbn hbk hbr hbf
 have HBB := Lib.hid HB
 clear HB
 rcases (show kd = 1 ∨ kd = 2 ∨ kd = 3 ∨ kd = 4 ∨ kd = 5 ∨ kd = 6 ∨ ¬ (kd = 1 ∨ kd = 2 ∨ kd = 3 ∨ kd = 4 ∨ kd = 5 ∨ kd = 6) by omega) with rfl | rfl | rfl | rfl | rfl | rfl | hno
 ·
  skip
  have HOF := fun w => operationOf_any ⟨1, st, ⟨kk, kn, kt⟩, ⟨ra, rc, rl⟩, fd⟩ w
  unfold vv_Op at HOF
  dsimp only at HOF
  rw [ifO1] at HOF
  replace HOF := Lib.hid HOF
  have hnil := fun v w => nil_no 95 v w
  have asclearOp := not_clearOp_putOp
  have asincOp := not_incOp_putOp
  have HW : isO (co_Op ⟨1, st, ⟨kk, kn, kt⟩, ⟨ra, rc, rl⟩, fd⟩) = (bn && (bk && (br && c0))) := by rw [HBB.out]; cases bn <;> cases bk <;> cases br <;> cases bf <;> cases c0 <;> rfl
  rw [HW]
  clear HW HBB
  generalize hB : (bn && _) = B
  have HB := Lib.hid hB.symm
  clear hB
  have S1 := Lib.hid (show Sl.Sep w _ [_] from L4.push_box (Sl.Sep.start w) 36 #[.int .i64 1, .string st, .int .i64 kk, .int .i64 kn, .string kt, .slice ra rl.length rc, .string fd] (w.heap.size) (by simp))
  obtain ⟨wa, hwa⟩ : ∃ w_, w_ = (w.alloc (.cells #[.int .i64 1, .string st, .int .i64 kk, .int .i64 kn, .string kt, .slice ra rl.length rc, .string fd] 36)) := ⟨_, rfl⟩
  rw [← hwa] at S1
  go_enter Try.func12, Try.ntmps12
  go_upto_region 1 with fail
  rw [← hwa]
  clear hwa
  obtain ⟨f0, f1, f2, f3, f4, f5, f6⟩ := Bag.cs7 S1.out 0 rfl
  cases bn with
  | false =>
   go_wp2_with fail
   go_at_call 44
   refine (HNA.out _).mono ?_
   rintro e w1 ⟨rfl, rfl⟩
   go_wp2_with fail
   go_ret
   exact ⟨by rw [HB.out]; simp [*], S1.out.old⟩
  | true =>
   go_wp2_with fail
   go_at_call 44
   refine (HNA.out _).mono ?_
   rintro e w1 ⟨rfl, rfl⟩
   cases br with
   | false =>
    go_wp2_with fail
    go_at_call 45
    refine (HRC.out _ S1.out.old).mono ?_
    rintro e w2 ⟨rfl, hb⟩
    clear f0 f1 f2 f3 f4 f5 f6
    have S2 := Lib.hid (S1.out.keep hb)
    clear S1
    clear hb
    obtain ⟨f0, f1, f2, f3, f4, f5, f6⟩ := Bag.cs7 S2.out 0 rfl
    go_wp2_with fail
    go_ret
    exact ⟨by rw [HB.out]; simp [*], S2.out.old⟩
   | true =>
    go_wp2_with fail
    go_at_call 45
    refine (HRC.out _ S1.out.old).mono ?_
    rintro e w2 ⟨rfl, hb⟩
    clear f0 f1 f2 f3 f4 f5 f6
    have S2 := Lib.hid (S1.out.keep hb)
    clear S1
    clear hb
    obtain ⟨f0, f1, f2, f3, f4, f5, f6⟩ := Bag.cs7 S2.out 0 rfl
    go_wp2_with fail
    go_at_call 46
    refine (HOF.out _).mono ?_
    rintro e w3 ⟨rfl, hb⟩
    clear f0 f1 f2 f3 f4 f5 f6
    have S3 := Lib.hid (S2.out.keep hb)
    clear S2
    clear hb
    obtain ⟨f0, f1, f2, f3, f4, f5, f6⟩ := Bag.cs7 S3.out 0 rfl
    cases bk with
    | false =>
     go_wp2_with fail
     go_at_call 47
     refine (HKY.out _).mono ?_
     rintro e w4 ⟨rfl, hb⟩
     clear f0 f1 f2 f3 f4 f5 f6
     have S4 := Lib.hid (S3.out.keep hb)
     clear S3
     clear hb
     obtain ⟨f0, f1, f2, f3, f4, f5, f6⟩ := Bag.cs7 S4.out 0 rfl
     go_wp2_with fail
     go_ret
     exact ⟨by rw [HB.out]; simp [*], S4.out.old⟩
    | true =>
     go_wp2_with fail
     go_at_call 47
     refine (HKY.out _).mono ?_
     rintro e w4 ⟨rfl, hb⟩
     clear f0 f1 f2 f3 f4 f5 f6
     have S4 := Lib.hid (S3.out.keep hb)
     clear S3
     clear hb
     obtain ⟨f0, f1, f2, f3, f4, f5, f6⟩ := Bag.cs7 S4.out 0 rfl
     go_wp2_with fail
     go_ret
     exact ⟨by rw [HB.out]; simp [*], S4.out.old⟩
 ·
  skip
  have HOF := fun w => operationOf_any ⟨2, st, ⟨kk, kn, kt⟩, ⟨ra, rc, rl⟩, fd⟩ w
  unfold vv_Op at HOF
  dsimp only at HOF
  rw [ifO2] at HOF
  replace HOF := Lib.hid HOF
  have hnil := fun v w => nil_no 96 v w
  have asclearOp := not_clearOp_addOp
  have asincOp := not_incOp_addOp
  have HW : isO (co_Op ⟨2, st, ⟨kk, kn, kt⟩, ⟨ra, rc, rl⟩, fd⟩) = (bn && (bk && (br && c0))) := by rw [HBB.out]; cases bn <;> cases bk <;> cases br <;> cases bf <;> cases c0 <;> rfl
  rw [HW]
  clear HW HBB
  generalize hB : (bn && _) = B
  have HB := Lib.hid hB.symm
  clear hB
  have S1 := Lib.hid (show Sl.Sep w _ [_] from L4.push_box (Sl.Sep.start w) 36 #[.int .i64 2, .string st, .int .i64 kk, .int .i64 kn, .string kt, .slice ra rl.length rc, .string fd] (w.heap.size) (by simp))
  obtain ⟨wa, hwa⟩ : ∃ w_, w_ = (w.alloc (.cells #[.int .i64 2, .string st, .int .i64 kk, .int .i64 kn, .string kt, .slice ra rl.length rc, .string fd] 36)) := ⟨_, rfl⟩
  rw [← hwa] at S1
  go_enter Try.func12, Try.ntmps12
  go_upto_region 1 with fail
  rw [← hwa]
  clear hwa
  obtain ⟨f0, f1, f2, f3, f4, f5, f6⟩ := Bag.cs7 S1.out 0 rfl
  cases bn with
  | false =>
   go_wp2_with fail
   go_at_call 44
   refine (HNA.out _).mono ?_
   rintro e w1 ⟨rfl, rfl⟩
   go_wp2_with fail
   go_ret
   exact ⟨by rw [HB.out]; simp [*], S1.out.old⟩
  | true =>
   go_wp2_with fail
   go_at_call 44
   refine (HNA.out _).mono ?_
   rintro e w1 ⟨rfl, rfl⟩
   cases br with
   | false =>
    go_wp2_with fail
    go_at_call 45
    refine (HRC.out _ S1.out.old).mono ?_
    rintro e w2 ⟨rfl, hb⟩
    clear f0 f1 f2 f3 f4 f5 f6
    have S2 := Lib.hid (S1.out.keep hb)
    clear S1
    clear hb
    obtain ⟨f0, f1, f2, f3, f4, f5, f6⟩ := Bag.cs7 S2.out 0 rfl
    go_wp2_with fail
    go_ret
    exact ⟨by rw [HB.out]; simp [*], S2.out.old⟩
   | true =>
    go_wp2_with fail
    go_at_call 45
    refine (HRC.out _ S1.out.old).mono ?_
    rintro e w2 ⟨rfl, hb⟩
    clear f0 f1 f2 f3 f4 f5 f6
    have S2 := Lib.hid (S1.out.keep hb)
    clear S1
    clear hb
    obtain ⟨f0, f1, f2, f3, f4, f5, f6⟩ := Bag.cs7 S2.out 0 rfl
    go_wp2_with fail
    go_at_call 46
    refine (HOF.out _).mono ?_
    rintro e w3 ⟨rfl, hb⟩
    clear f0 f1 f2 f3 f4 f5 f6
    have S3 := Lib.hid (S2.out.keep hb)
    clear S2
    clear hb
    obtain ⟨f0, f1, f2, f3, f4, f5, f6⟩ := Bag.cs7 S3.out 0 rfl
    cases bk with
    | false =>
     go_wp2_with fail
     go_at_call 47
     refine (HKY.out _).mono ?_
     rintro e w4 ⟨rfl, hb⟩
     clear f0 f1 f2 f3 f4 f5 f6
     have S4 := Lib.hid (S3.out.keep hb)
     clear S3
     clear hb
     obtain ⟨f0, f1, f2, f3, f4, f5, f6⟩ := Bag.cs7 S4.out 0 rfl
     go_wp2_with fail
     go_ret
     exact ⟨by rw [HB.out]; simp [*], S4.out.old⟩
    | true =>
     go_wp2_with fail
     go_at_call 47
     refine (HKY.out _).mono ?_
     rintro e w4 ⟨rfl, hb⟩
     clear f0 f1 f2 f3 f4 f5 f6
     have S4 := Lib.hid (S3.out.keep hb)
     clear S3
     clear hb
     obtain ⟨f0, f1, f2, f3, f4, f5, f6⟩ := Bag.cs7 S4.out 0 rfl
     go_wp2_with fail
     go_ret
     exact ⟨by rw [HB.out]; simp [*], S4.out.old⟩
 ·
  skip
  have HOF := fun w => operationOf_any ⟨3, st, ⟨kk, kn, kt⟩, ⟨ra, rc, rl⟩, fd⟩ w
  unfold vv_Op at HOF
  dsimp only at HOF
  rw [ifO3] at HOF
  replace HOF := Lib.hid HOF
  have hnil := fun v w => nil_no 97 v w
  have asclearOp := not_clearOp_deleteOp
  have asincOp := not_incOp_deleteOp
  have HW : isO (co_Op ⟨3, st, ⟨kk, kn, kt⟩, ⟨ra, rc, rl⟩, fd⟩) = (bn && (bk && (br && c0))) := by rw [HBB.out]; cases bn <;> cases bk <;> cases br <;> cases bf <;> cases c0 <;> rfl
  rw [HW]
  clear HW HBB
  generalize hB : (bn && _) = B
  have HB := Lib.hid hB.symm
  clear hB
  have S1 := Lib.hid (show Sl.Sep w _ [_] from L4.push_box (Sl.Sep.start w) 36 #[.int .i64 3, .string st, .int .i64 kk, .int .i64 kn, .string kt, .slice ra rl.length rc, .string fd] (w.heap.size) (by simp))
  obtain ⟨wa, hwa⟩ : ∃ w_, w_ = (w.alloc (.cells #[.int .i64 3, .string st, .int .i64 kk, .int .i64 kn, .string kt, .slice ra rl.length rc, .string fd] 36)) := ⟨_, rfl⟩
  rw [← hwa] at S1
  go_enter Try.func12, Try.ntmps12
  go_upto_region 1 with fail
  rw [← hwa]
  clear hwa
  obtain ⟨f0, f1, f2, f3, f4, f5, f6⟩ := Bag.cs7 S1.out 0 rfl
  cases bn with
  | false =>
   go_wp2_with fail
   go_at_call 44
   refine (HNA.out _).mono ?_
   rintro e w1 ⟨rfl, rfl⟩
   go_wp2_with fail
   go_ret
   exact ⟨by rw [HB.out]; simp [*], S1.out.old⟩
  | true =>
   go_wp2_with fail
   go_at_call 44
   refine (HNA.out _).mono ?_
   rintro e w1 ⟨rfl, rfl⟩
   cases br with
   | false =>
    go_wp2_with fail
    go_at_call 45
    refine (HRC.out _ S1.out.old).mono ?_
    rintro e w2 ⟨rfl, hb⟩
    clear f0 f1 f2 f3 f4 f5 f6
    have S2 := Lib.hid (S1.out.keep hb)
    clear S1
    clear hb
    obtain ⟨f0, f1, f2, f3, f4, f5, f6⟩ := Bag.cs7 S2.out 0 rfl
    go_wp2_with fail
    go_ret
    exact ⟨by rw [HB.out]; simp [*], S2.out.old⟩
   | true =>
    go_wp2_with fail
    go_at_call 45
    refine (HRC.out _ S1.out.old).mono ?_
    rintro e w2 ⟨rfl, hb⟩
    clear f0 f1 f2 f3 f4 f5 f6
    have S2 := Lib.hid (S1.out.keep hb)
    clear S1
    clear hb
    obtain ⟨f0, f1, f2, f3, f4, f5, f6⟩ := Bag.cs7 S2.out 0 rfl
    go_wp2_with fail
    go_at_call 46
    refine (HOF.out _).mono ?_
    rintro e w3 ⟨rfl, hb⟩
    clear f0 f1 f2 f3 f4 f5 f6
    have S3 := Lib.hid (S2.out.keep hb)
    clear S2
    clear hb
    obtain ⟨f0, f1, f2, f3, f4, f5, f6⟩ := Bag.cs7 S3.out 0 rfl
    cases bk with
    | false =>
     go_wp2_with fail
     go_at_call 47
     refine (HKY.out _).mono ?_
     rintro e w4 ⟨rfl, hb⟩
     clear f0 f1 f2 f3 f4 f5 f6
     have S4 := Lib.hid (S3.out.keep hb)
     clear S3
     clear hb
     obtain ⟨f0, f1, f2, f3, f4, f5, f6⟩ := Bag.cs7 S4.out 0 rfl
     go_wp2_with fail
     go_ret
     exact ⟨by rw [HB.out]; simp [*], S4.out.old⟩
    | true =>
     go_wp2_with fail
     go_at_call 47
     refine (HKY.out _).mono ?_
     rintro e w4 ⟨rfl, hb⟩
     clear f0 f1 f2 f3 f4 f5 f6
     have S4 := Lib.hid (S3.out.keep hb)
     clear S3
     clear hb
     obtain ⟨f0, f1, f2, f3, f4, f5, f6⟩ := Bag.cs7 S4.out 0 rfl
     go_wp2_with fail
     go_ret
     exact ⟨by rw [HB.out]; simp [*], S4.out.old⟩
 ·
  skip
  have HOF := fun w => operationOf_any ⟨4, st, ⟨kk, kn, kt⟩, ⟨ra, rc, rl⟩, fd⟩ w
  unfold vv_Op at HOF
  dsimp only at HOF
  rw [ifO4] at HOF
  replace HOF := Lib.hid HOF
  have hnil := fun v w => nil_no 75 v w
  have asclearOp := not_clearOp_getOp
  have asincOp := not_incOp_getOp
  have HW : isO (co_Op ⟨4, st, ⟨kk, kn, kt⟩, ⟨ra, rc, rl⟩, fd⟩) = (bn && (bk && (br && c0))) := by rw [HBB.out]; cases bn <;> cases bk <;> cases br <;> cases bf <;> cases c0 <;> rfl
  rw [HW]
  clear HW HBB
  generalize hB : (bn && _) = B
  have HB := Lib.hid hB.symm
  clear hB
  have S1 := Lib.hid (show Sl.Sep w _ [_] from L4.push_box (Sl.Sep.start w) 36 #[.int .i64 4, .string st, .int .i64 kk, .int .i64 kn, .string kt, .slice ra rl.length rc, .string fd] (w.heap.size) (by simp))
  obtain ⟨wa, hwa⟩ : ∃ w_, w_ = (w.alloc (.cells #[.int .i64 4, .string st, .int .i64 kk, .int .i64 kn, .string kt, .slice ra rl.length rc, .string fd] 36)) := ⟨_, rfl⟩
  rw [← hwa] at S1
  go_enter Try.func12, Try.ntmps12
  go_upto_region 1 with fail
  rw [← hwa]
  clear hwa
  obtain ⟨f0, f1, f2, f3, f4, f5, f6⟩ := Bag.cs7 S1.out 0 rfl
  cases bn with
  | false =>
   go_wp2_with fail
   go_at_call 44
   refine (HNA.out _).mono ?_
   rintro e w1 ⟨rfl, rfl⟩
   go_wp2_with fail
   go_ret
   exact ⟨by rw [HB.out]; simp [*], S1.out.old⟩
  | true =>
   go_wp2_with fail
   go_at_call 44
   refine (HNA.out _).mono ?_
   rintro e w1 ⟨rfl, rfl⟩
   cases br with
   | false =>
    go_wp2_with fail
    go_at_call 45
    refine (HRC.out _ S1.out.old).mono ?_
    rintro e w2 ⟨rfl, hb⟩
    clear f0 f1 f2 f3 f4 f5 f6
    have S2 := Lib.hid (S1.out.keep hb)
    clear S1
    clear hb
    obtain ⟨f0, f1, f2, f3, f4, f5, f6⟩ := Bag.cs7 S2.out 0 rfl
    go_wp2_with fail
    go_ret
    exact ⟨by rw [HB.out]; simp [*], S2.out.old⟩
   | true =>
    go_wp2_with fail
    go_at_call 45
    refine (HRC.out _ S1.out.old).mono ?_
    rintro e w2 ⟨rfl, hb⟩
    clear f0 f1 f2 f3 f4 f5 f6
    have S2 := Lib.hid (S1.out.keep hb)
    clear S1
    clear hb
    obtain ⟨f0, f1, f2, f3, f4, f5, f6⟩ := Bag.cs7 S2.out 0 rfl
    go_wp2_with fail
    go_at_call 46
    refine (HOF.out _).mono ?_
    rintro e w3 ⟨rfl, hb⟩
    clear f0 f1 f2 f3 f4 f5 f6
    have S3 := Lib.hid (S2.out.keep hb)
    clear S2
    clear hb
    obtain ⟨f0, f1, f2, f3, f4, f5, f6⟩ := Bag.cs7 S3.out 0 rfl
    cases bk with
    | false =>
     go_wp2_with fail
     go_at_call 47
     refine (HKY.out _).mono ?_
     rintro e w4 ⟨rfl, hb⟩
     clear f0 f1 f2 f3 f4 f5 f6
     have S4 := Lib.hid (S3.out.keep hb)
     clear S3
     clear hb
     obtain ⟨f0, f1, f2, f3, f4, f5, f6⟩ := Bag.cs7 S4.out 0 rfl
     go_wp2_with fail
     go_ret
     exact ⟨by rw [HB.out]; simp [*], S4.out.old⟩
    | true =>
     go_wp2_with fail
     go_at_call 47
     refine (HKY.out _).mono ?_
     rintro e w4 ⟨rfl, hb⟩
     clear f0 f1 f2 f3 f4 f5 f6
     have S4 := Lib.hid (S3.out.keep hb)
     clear S3
     clear hb
     obtain ⟨f0, f1, f2, f3, f4, f5, f6⟩ := Bag.cs7 S4.out 0 rfl
     go_wp2_with fail
     go_ret
     exact ⟨by rw [HB.out]; simp [*], S4.out.old⟩
 ·
  skip
  have HOF := fun w => operationOf_any ⟨5, st, ⟨kk, kn, kt⟩, ⟨ra, rc, rl⟩, fd⟩ w
  unfold vv_Op at HOF
  dsimp only at HOF
  rw [ifO5] at HOF
  replace HOF := Lib.hid HOF
  have hnil := fun v w => nil_no 71 v w
  have asclearOp := as_clearOp
  have asincOp := not_incOp_clearOp
  have HW : isO (co_Op ⟨5, st, ⟨kk, kn, kt⟩, ⟨ra, rc, rl⟩, fd⟩) = (bn && (br && c0)) := by rw [HBB.out]; cases bn <;> cases bk <;> cases br <;> cases bf <;> cases c0 <;> rfl
  rw [HW]
  clear HW HBB
  generalize hB : (bn && _) = B
  have HB := Lib.hid hB.symm
  clear hB
  have S1 := Lib.hid (show Sl.Sep w _ [_] from L4.push_box (Sl.Sep.start w) 36 #[.int .i64 5, .string st, .int .i64 kk, .int .i64 kn, .string kt, .slice ra rl.length rc, .string fd] (w.heap.size) (by simp))
  obtain ⟨wa, hwa⟩ : ∃ w_, w_ = (w.alloc (.cells #[.int .i64 5, .string st, .int .i64 kk, .int .i64 kn, .string kt, .slice ra rl.length rc, .string fd] 36)) := ⟨_, rfl⟩
  rw [← hwa] at S1
  go_enter Try.func12, Try.ntmps12
  go_upto_region 1 with fail
  rw [← hwa]
  clear hwa
  obtain ⟨f0, f1, f2, f3, f4, f5, f6⟩ := Bag.cs7 S1.out 0 rfl
  cases bn with
  | false =>
   go_wp2_with fail
   go_at_call 44
   refine (HNA.out _).mono ?_
   rintro e w1 ⟨rfl, rfl⟩
   go_wp2_with fail
   go_ret
   exact ⟨by rw [HB.out]; simp [*], S1.out.old⟩
  | true =>
   go_wp2_with fail
   go_at_call 44
   refine (HNA.out _).mono ?_
   rintro e w1 ⟨rfl, rfl⟩
   cases br with
   | false =>
    go_wp2_with fail
    go_at_call 45
    refine (HRC.out _ S1.out.old).mono ?_
    rintro e w2 ⟨rfl, hb⟩
    clear f0 f1 f2 f3 f4 f5 f6
    have S2 := Lib.hid (S1.out.keep hb)
    clear S1
    clear hb
    obtain ⟨f0, f1, f2, f3, f4, f5, f6⟩ := Bag.cs7 S2.out 0 rfl
    go_wp2_with fail
    go_ret
    exact ⟨by rw [HB.out]; simp [*], S2.out.old⟩
   | true =>
    go_wp2_with fail
    go_at_call 45
    refine (HRC.out _ S1.out.old).mono ?_
    rintro e w2 ⟨rfl, hb⟩
    clear f0 f1 f2 f3 f4 f5 f6
    have S2 := Lib.hid (S1.out.keep hb)
    clear S1
    clear hb
    obtain ⟨f0, f1, f2, f3, f4, f5, f6⟩ := Bag.cs7 S2.out 0 rfl
    go_wp2_with fail
    go_at_call 46
    refine (HOF.out _).mono ?_
    rintro e w3 ⟨rfl, hb⟩
    clear f0 f1 f2 f3 f4 f5 f6
    have S3 := Lib.hid (S2.out.keep hb)
    clear S2
    clear hb
    obtain ⟨f0, f1, f2, f3, f4, f5, f6⟩ := Bag.cs7 S3.out 0 rfl
    go_wp2_with fail
    go_ret
    exact ⟨by rw [HB.out]; simp [*], S3.out.old⟩
 ·
  skip
  have HOF := fun w => operationOf_any ⟨6, st, ⟨kk, kn, kt⟩, ⟨ra, rc, rl⟩, fd⟩ w
  unfold vv_Op at HOF
  dsimp only at HOF
  rw [ifO6] at HOF
  replace HOF := Lib.hid HOF
  have hnil := fun v w => nil_no 72 v w
  have asclearOp := not_clearOp_incOp
  have asincOp := as_incOp
  have HW : isO (co_Op ⟨6, st, ⟨kk, kn, kt⟩, ⟨ra, rc, rl⟩, fd⟩) = (bn && (bk && (br && bf))) := by rw [HBB.out]; cases bn <;> cases bk <;> cases br <;> cases bf <;> cases c0 <;> rfl
  rw [HW]
  clear HW HBB
  generalize hB : (bn && _) = B
  have HB := Lib.hid hB.symm
  clear hB
  have S1 := Lib.hid (show Sl.Sep w _ [_] from L4.push_box (Sl.Sep.start w) 36 #[.int .i64 6, .string st, .int .i64 kk, .int .i64 kn, .string kt, .slice ra rl.length rc, .string fd] (w.heap.size) (by simp))
  obtain ⟨wa, hwa⟩ : ∃ w_, w_ = (w.alloc (.cells #[.int .i64 6, .string st, .int .i64 kk, .int .i64 kn, .string kt, .slice ra rl.length rc, .string fd] 36)) := ⟨_, rfl⟩
  rw [← hwa] at S1
  go_enter Try.func12, Try.ntmps12
  go_upto_region 1 with fail
  rw [← hwa]
  clear hwa
  obtain ⟨f0, f1, f2, f3, f4, f5, f6⟩ := Bag.cs7 S1.out 0 rfl
  cases bn with
  | false =>
   go_wp2_with fail
   go_at_call 44
   refine (HNA.out _).mono ?_
   rintro e w1 ⟨rfl, rfl⟩
   go_wp2_with fail
   go_ret
   exact ⟨by rw [HB.out]; simp [*], S1.out.old⟩
  | true =>
   go_wp2_with fail
   go_at_call 44
   refine (HNA.out _).mono ?_
   rintro e w1 ⟨rfl, rfl⟩
   cases br with
   | false =>
    go_wp2_with fail
    go_at_call 45
    refine (HRC.out _ S1.out.old).mono ?_
    rintro e w2 ⟨rfl, hb⟩
    clear f0 f1 f2 f3 f4 f5 f6
    have S2 := Lib.hid (S1.out.keep hb)
    clear S1
    clear hb
    obtain ⟨f0, f1, f2, f3, f4, f5, f6⟩ := Bag.cs7 S2.out 0 rfl
    go_wp2_with fail
    go_ret
    exact ⟨by rw [HB.out]; simp [*], S2.out.old⟩
   | true =>
    go_wp2_with fail
    go_at_call 45
    refine (HRC.out _ S1.out.old).mono ?_
    rintro e w2 ⟨rfl, hb⟩
    clear f0 f1 f2 f3 f4 f5 f6
    have S2 := Lib.hid (S1.out.keep hb)
    clear S1
    clear hb
    obtain ⟨f0, f1, f2, f3, f4, f5, f6⟩ := Bag.cs7 S2.out 0 rfl
    go_wp2_with fail
    go_at_call 46
    refine (HOF.out _).mono ?_
    rintro e w3 ⟨rfl, hb⟩
    clear f0 f1 f2 f3 f4 f5 f6
    have S3 := Lib.hid (S2.out.keep hb)
    clear S2
    clear hb
    obtain ⟨f0, f1, f2, f3, f4, f5, f6⟩ := Bag.cs7 S3.out 0 rfl
    cases bk with
    | false =>
     go_wp2_with fail
     go_at_call 47
     refine (HKY.out _).mono ?_
     rintro e w4 ⟨rfl, hb⟩
     clear f0 f1 f2 f3 f4 f5 f6
     have S4 := Lib.hid (S3.out.keep hb)
     clear S3
     clear hb
     obtain ⟨f0, f1, f2, f3, f4, f5, f6⟩ := Bag.cs7 S4.out 0 rfl
     go_wp2_with fail
     go_ret
     exact ⟨by rw [HB.out]; simp [*], S4.out.old⟩
    | true =>
     go_wp2_with fail
     go_at_call 47
     refine (HKY.out _).mono ?_
     rintro e w4 ⟨rfl, hb⟩
     clear f0 f1 f2 f3 f4 f5 f6
     have S4 := Lib.hid (S3.out.keep hb)
     clear S3
     clear hb
     obtain ⟨f0, f1, f2, f3, f4, f5, f6⟩ := Bag.cs7 S4.out 0 rfl
     cases bf with
     | false =>
      go_wp2_with fail
      go_at_call 44
      refine (HNF.out _).mono ?_
      rintro e w5 ⟨rfl, rfl⟩
      go_wp2_with fail
      go_ret
      exact ⟨by rw [HB.out]; simp [*], S4.out.old⟩
     | true =>
      go_wp2_with fail
      go_at_call 44
      refine (HNF.out _).mono ?_
      rintro e w5 ⟨rfl, rfl⟩
      go_wp2_with fail
      go_ret
      exact ⟨by rw [HB.out]; simp [*], S4.out.old⟩
 ·
  skip
  have HOF := fun w => operationOf_any ⟨kd, st, ⟨kk, kn, kt⟩, ⟨ra, rc, rl⟩, fd⟩ w
  unfold vv_Op at HOF
  dsimp only at HOF
  rw [ifO_no _ hno] at HOF
  replace HOF := Lib.hid HOF
  have hnil := nil_yes
  have asclearOp := not_clearOp_nil
  have asincOp := not_incOp_nil
  have HW : isO (co_Op ⟨kd, st, ⟨kk, kn, kt⟩, ⟨ra, rc, rl⟩, fd⟩) = false := by rw [HBB.out, inB_no (by omega) (by omega) (by omega) (by omega) (by omega) (by omega)]; rfl
  rw [HW]
  clear HW HBB
  have S1 := Lib.hid (show Sl.Sep w _ [_] from L4.push_box (Sl.Sep.start w) 36 #[.int .i64 kd, .string st, .int .i64 kk, .int .i64 kn, .string kt, .slice ra rl.length rc, .string fd] (w.heap.size) (by simp))
  obtain ⟨wa, hwa⟩ : ∃ w_, w_ = (w.alloc (.cells #[.int .i64 kd, .string st, .int .i64 kk, .int .i64 kn, .string kt, .slice ra rl.length rc, .string fd] 36)) := ⟨_, rfl⟩
  rw [← hwa] at S1
  go_enter Try.func12, Try.ntmps12
  go_upto_region 1 with fail
  rw [← hwa]
  clear hwa
  obtain ⟨f0, f1, f2, f3, f4, f5, f6⟩ := Bag.cs7 S1.out 0 rfl
  cases bn with
  | false =>
   go_wp2_with fail
   go_at_call 44
   refine (HNA.out _).mono ?_
   rintro e w1 ⟨rfl, rfl⟩
   go_wp2_with fail
   go_ret
   exact ⟨by rfl, S1.out.old⟩
  | true =>
   go_wp2_with fail
   go_at_call 44
   refine (HNA.out _).mono ?_
   rintro e w1 ⟨rfl, rfl⟩
   cases br with
   | false =>
    go_wp2_with fail
    go_at_call 45
    refine (HRC.out _ S1.out.old).mono ?_
    rintro e w2 ⟨rfl, hb⟩
    clear f0 f1 f2 f3 f4 f5 f6
    have S2 := Lib.hid (S1.out.keep hb)
    clear S1
    clear hb
    obtain ⟨f0, f1, f2, f3, f4, f5, f6⟩ := Bag.cs7 S2.out 0 rfl
    go_wp2_with fail
    go_ret
    exact ⟨by rfl, S2.out.old⟩
   | true =>
    go_wp2_with fail
    go_at_call 45
    refine (HRC.out _ S1.out.old).mono ?_
    rintro e w2 ⟨rfl, hb⟩
    clear f0 f1 f2 f3 f4 f5 f6
    have S2 := Lib.hid (S1.out.keep hb)
    clear S1
    clear hb
    obtain ⟨f0, f1, f2, f3, f4, f5, f6⟩ := Bag.cs7 S2.out 0 rfl
    go_wp2_with fail
    go_at_call 46
    refine (HOF.out _).mono ?_
    rintro e w3 ⟨rfl, hb⟩
    clear f0 f1 f2 f3 f4 f5 f6
    have S3 := Lib.hid (S2.out.keep hb)
    clear S2
    clear hb
    obtain ⟨f0, f1, f2, f3, f4, f5, f6⟩ := Bag.cs7 S3.out 0 rfl
    go_wp2_with fail
    go_ret
    exact ⟨by rfl, S3.out.old⟩
end Go.Proofs.Ythiidcflpgbogaa.L9

namespace Go.Proofs.Ythiidcflpgbogaa.L5
open L4 (boxR push_box box_at)
open Go.ChangeShapes Go.WideShapes Go.ChangeAt Go.RowKit Mem Sl Ex L2 Sv

theorem isR_at {l : List F} (h : isR l = true) (k : Nat) (hk : k < l.length) : isN l[k].t = true ∧ 0 ≤ l[k].n ∧ l[k].n ≤ 1000000000 := by
 have := ((isR_iff.1 h).1 k hk hk).1
 unfold okF at this
 simp only [Bool.and_eq_true, L1.inB, decide_eq_true_eq] at this
 exact ⟨this.1, this.2.1, this.2.2⟩
theorem isN_size {s : ByteArray} (h : isN s.data.toList = true) : s.size ≤ 8 := by
 unfold isN at h
 simp only [Bool.and_eq_true, decide_eq_true_eq] at h
 have e : s.data.toList.length = s.size := by rw [Array.length_toList]; rfl
 omega
theorem isR_small {l : List F} (h : isR l = true) : Small l := fun f hf => by
 obtain ⟨k, hk, rfl⟩ := List.getElem_of_mem hf
 have := isN_size (isR_at h k hk).1
 omega
end Go.Proofs.Ythiidcflpgbogaa.L5

set_option linter.unusedSimpArgs false
namespace Go.Proofs.Ythiidcflpgbogaa.L5
open L4 (boxR push_box box_at)
open Go.ChangeShapes Go.WideShapes Go.ChangeAt Go.RowKit Mem Sl Ex L2 Sv

theorem own_at0 {W w : World} {rs : List Res} {e : TypeId} {k : IntKind} {a : Option Addr} {c : Nat} {l : List Int} (h : Sep W w rs) (i : Nat) (hi : rs[i]? = some (Sl.own e k a c l)) : Own w 0 e k a c l := h.own i hi
theorem sep_ends {W w : World} {r0 r1 r2 r3 r4 : Res} (h : Sep W w [r0, r1, r2, r3, r4]) : Sep W w [r0, r4] :=
 sep_sub h (fun i => i * 4) (fun i r hr => by
  match i, hr with
  | 0, hr => exact hr
  | 1, hr => exact hr
  | i + 2, hr => simp at hr) (fun i j _ _ e => by omega)
set_option maxHeartbeats 4000000 in
theorem encodeRecord_any (a : Option Addr) (c : Nat) (l : List F) (hl : l.length ≤ 1099511627776) (hsm : Small l) (w : World) (hr : Reads w w.heap.size a (cellsF l)) :
  Calls Try.prog 82 #[.agg #[.slice a l.length c]] w (Gave w w.heap.size 5 .u8 (encR l)) := by
 have HR := Lib.hid (fun w' (h : Below w.heap.size w w') => hr.below h)
 have HS := Lib.hid (fun w' (h : Below w.heap.size w w') => isRecord_any a c l hl hsm w' ((hr.below h).more h.size))
 obtain ⟨n, hn⟩ : ∃ n, n = l.length := ⟨_, rfl⟩
 rw [← hn] at hl HS ⊢
 have HN := Lib.hid hn
 clear hn hr hsm
 have hl' : (n : Int) ≤ 1099511627776 := by omega
 obtain ⟨br, hbr⟩ : ∃ b, isR l = b := ⟨_, rfl⟩
 rw [hbr] at HS
 have HBr := Lib.hid hbr
 clear hbr
 have S1 := Lib.hid (push_box (Sep.start w) 34 #[.slice a n c] w.heap.size rfl)
 obtain ⟨W1, hW1⟩ : ∃ u, u = w.alloc (.cells #[.slice a n c] 34) := ⟨_, rfl⟩
 rw [← hW1] at S1
 go_enter Try.func82, Try.ntmps82
 go_upto_region 1 with fail
 rw [← hW1]
 clear hW1
 obtain ⟨r0, r1⟩ := Row.one (box_at S1.out 0 rfl)
 go_wp2_with fail
 go_at_call 45
 refine (HS.out _ S1.out.old).mono ?_
 rintro e w3 ⟨rfl, h3⟩
 have S2 := Lib.hid (S1.out.keep h3)
 clear h3 HS r0 r1 S1
 obtain ⟨r0, r1⟩ := Row.one (box_at S2.out 0 rfl)
 cases br with
 | false =>
  have HE := Lib.hid (show encR l = [] by unfold encR; rw [HBr.out]; rfl)
  go_wp2_with fail
  go_ret
  rw [HE.out]
  exact Gave.mk rfl (Own.empty w3 5 .u8 S2.out.old.size) (below_alloc S2.out.old _ (Nat.le_refl _))
 | true =>
  have HE := Lib.hid (show encR l = enc n ++ encB l by unfold encR; rw [HBr.out, HN.out]; rfl)
  have HI := Lib.hid (isR_iff.1 HBr.out).2
  have HNM := Lib.hid (isR_names HBr.out)
  have HLN := Lib.hid (show ∀ k, (enc n ++ encB (l.take k)).length ≤ 126 from fun k => by
   have h1 := enc_len n
   have h2 := encB_len (l.take k) (fun f hf => HNM.out f (List.mem_of_mem_take hf))
   have h3 : (l.take k).length ≤ l.length := by rw [List.length_take]; exact Nat.min_le_right _ _
   have h4 := HI.out
   rw [List.length_append]
   omega)
  have HC4 := Lib.hid (implAppendUvarint_any none 0 [] n w3 Reads.nil (by simp) (by simp))
  go_wp2_with fail
  go_at_call 58
  refine HC4.out.mono ?_
  rintro e w5 ⟨a5, c5, rfl, ho5, hb5⟩
  have S5 := Lib.hid (S2.out.pushOwn hb5 ho5)
  clear ho5 hb5 HC4 r0 r1
  obtain ⟨r0, r1⟩ := Row.one (box_at S5.out 0 rfl)
  go_wp2_with fail
  clear r0 r1
  go_loopw [3, 17] (fun s i wr => ∃ (k : Nat) (a1 : Option Addr) (c1 n1 : Nat), k ≤ n ∧ i = .int .i64 k ∧ s = .slice a1 n1 c1 ∧ Hid (Sep w wr [boxR w.heap.size 34 #[.slice a n c], own 5 .u8 a1 c1 (enc n ++ encB (l.take k))] ∧ n1 = (enc n ++ encB (l.take k)).length)) (fun _ i _ => n - (intOf i).toNat)
  case atStart => exact ⟨0, _, _, _, Nat.zero_le _, rfl, rfl, And.intro (by simpa [encB] using S5.out) (by simp [encB])⟩
  case round =>
   obtain ⟨k, a1, c1, n1, hk, rfl, rfl, hrel⟩ := hrel
   by_cases hlt : (k : Int) < (n : Int)
   ·
    have hkl : k < l.length := by have := HN.out; omega
    obtain ⟨ad, rfl, had, h1, h2⟩ := readsF (HR.out _ hrel.out.1.old) k hkl
    obtain ⟨t, ht⟩ : ∃ t, t = l[k].name := ⟨_, rfl⟩
    obtain ⟨x, hx⟩ : ∃ m, m = l[k].n := ⟨_, rfl⟩
    have HK := Lib.hid (show encB (l.take (k + 1)) = encB (l.take k) ++ ((enc (L3.strB t).length ++ L3.strB t) ++ enc x) by rw [encB_take l k hkl, ht, hx]; rfl)
    have HTL := Lib.hid (show (L3.strB t).length ≤ 8 by
     have h := HNM.out _ (List.getElem_mem hkl)
     unfold isN at h
     simp only [Bool.and_eq_true, decide_eq_true_eq] at h
     rw [ht]; unfold L3.strB; rw [List.length_map]; exact h.2.2)
    rw [← ht] at h1
    rw [← hx] at h2
    clear ht hx
    obtain ⟨fb, hfb⟩ : ∃ g, g = wr.heap.size := ⟨_, rfl⟩
    have SF := Lib.hid (push_box hrel.out.1 92 #[.string t, .int .i64 x] fb hfb)
    obtain ⟨W2, hW2⟩ : ∃ u, u = wr.alloc (.cells #[.string t, .int .i64 x] 92) := ⟨_, rfl⟩
    rw [← hW2] at SF
    go_upto_region 7 with fail
    rw [← hW2, ← hfb]
    clear hW2 hfb h1 h2 had
    obtain ⟨wd, hwd⟩ : ∃ u, u = W2.drew := ⟨_, rfl⟩
    have SD := Lib.hid (show Sep w wd [boxR w.heap.size 34 #[.slice (some ad) n c], own 5 .u8 a1 c1 (enc n ++ encB (l.take k)), boxR fb 92 #[.string t, .int .i64 x]] by rw [hwd]; exact SF.out.drews 1)
    have HC := Lib.hid (show ∀ w', Below wd.heap.size wd w' → w'.cell? ⟨fb, 0, none⟩ = some (.string t) ∧ w'.cell? ⟨fb, 1, none⟩ = some (.int .i64 x) from fun w' h => Row.two (box_at (SD.out.keep h) 2 rfl))
    have HT := Lib.hid (Lib.run_convert_string_bytes (P := Try.prog) wd 9 51 5 t Try.underlying9 Try.underlying51 Try.underlying5)
    have HT1 := Lib.hid (And.intro (L3.strB_reads wd 5 t) (L3.strB_below wd 5 t))
    obtain ⟨wb, hwb⟩ : ∃ x, x = Lib.bytesWorld wd 5 t := ⟨_, rfl⟩
    obtain ⟨cp, hcp⟩ : ∃ x, x = grownCap wd t.size 0 5 := ⟨_, rfl⟩
    obtain ⟨p, hp⟩ : ∃ p, p = t.size := ⟨_, rfl⟩
    rw [← hwb, ← hcp, ← hp] at HT
    rw [← hwb] at HT1
    have SB := Lib.hid (SD.out.keep HT1.out.2)
    obtain ⟨g, hg⟩ : ∃ g, g = wd.heap.size := ⟨_, rfl⟩
    have HTr := Lib.hid HT1.out.1
    rw [← hg] at HT HTr
    have HP := Lib.hid (show p = (L3.strB t).length by rw [hp, L3.strB_length])
    have HN1 := Lib.hid hrel.out.2
    obtain ⟨X, hX⟩ : ∃ X, X = enc n ++ encB (l.take k) ++ enc (L3.strB t).length ++ L3.strB t := ⟨_, rfl⟩
    obtain ⟨Y, hY⟩ : ∃ Y, Y = X ++ enc x := ⟨_, rfl⟩
    have HY := Lib.hid (show enc n ++ encB (l.take (k + 1)) = Y by rw [HK.out, hY, hX]; simp only [List.append_assoc])
    have HXL := Lib.hid (show X.length ≤ 1000 by
     have h3 := HLN.out k
     have h4 := HTL.out
     have h5 := enc_len (L3.strB t).length
     rw [List.length_append] at h3
     rw [hX, List.length_append, List.length_append, List.length_append]
     omega)
    have H15 := Lib.hid (show ∀ w' a8 c8, Own w' 0 5 .u8 a8 c8 X → Calls Try.prog 58 #[.slice a8 X.length c8, .int .i64 x] w' (Gave w' w'.heap.size 5 .u8 Y) from fun w' a8 c8 ho => by
     rw [hY]
     exact implAppendUvarint_any a8 c8 X x w' ho.reads ho.cap (by have := HXL.out; omega))
    have H8 := Lib.hid (show ∀ w', Reads w' w'.heap.size (some ⟨g, 0, none⟩) (ints .u8 (L3.strB t)) → w' = wb → ∀ c2, Calls Try.prog 83 #[.slice a1 n1 c1, .slice (some ⟨g, 0, none⟩) p c2] w' (Gave w' w'.heap.size 5 .u8 X) from fun w' hr he c2 => by
     subst he
     rw [hX]
     rw [HN1.out, HP.out]
     have h3 := HLN.out k
     have h4 := HTL.out
     have ho := own_at0 SB.out 1 rfl
     exact implAppendBytes_any a1 _ c1 c2 _ _ w' ho.reads hr ho.cap (by omega) (by omega))
    have hcv := HT.out
    have HWD := Lib.hid hwd
    have HGd := Lib.hid hg
    clear hwb hcp hp hg hX hY hwd
    refine wp_region_held_drew (S := (fun w' => w'.cell? ⟨fb, 0, none⟩ = some (.string t) ∧ w'.cell? ⟨fb, 1, none⟩ = some (.int .i64 x))) (by kernel_rfl) (by rw [← HWD.out]; exact HC.out _ (Below.refl _ _)) (fun hS => ?_)
    rw [← HWD.out] at hS ⊢
    refine tk 0 rfl ?_
    try simp only [zp0, zp1, zp2, zp3, zp4]
    refine tk 1 rfl ?_
    try simp only [zp0, zp1, zp2, zp3, zp4]
    refine tk 2 rfl ?_
    try simp only [zp0, zp1, zp2, zp3, zp4]
    refine tk 5 rfl ?_
    try simp only [zp0, zp1, zp2, zp3, zp4]
    refine tk 6 rfl ?_
    try simp only [zp0, zp1, zp2, zp3, zp4]
    refine Reg.one_op (i := 3) rfl (by kernel_rfl) (fun K hK => ?_)
    go_simp
    refine hK.out _ _ (HC.out _ HT1.out.2) (fun hS => ?_)
    clear hK K
    try simp only [zp0, zp1, zp2, zp3, zp4]
    refine Reg.one_op (i := 4) rfl (by kernel_rfl) (fun K hK => ?_)
    go_simp
    go_at_call 83
    refine (H8.out _ HTr.out rfl _).mono ?_
    rintro e w8 ⟨a8, c8, rfl, ho8, hb8⟩
    have HO8 := Lib.hid (And.intro ho8 (HT1.out.2.trans (hb8.mono HT1.out.2.size)))
    have S8 := Lib.hid (SB.out.pushOwn hb8 ho8)
    clear ho8 hb8
    go_wp2_with fail
    refine hK.out _ _ (HC.out _ HO8.out.2) (fun hS => ?_)
    clear hK K
    try simp only [zp0, zp1, zp2, zp3, zp4]
    refine Reg.one_op (i := 7) rfl (by kernel_rfl) (fun K hK => ?_)
    go_simp
    go_at_call 58
    refine (H15.out _ _ _ (own_at0 S8.out 3 rfl)).mono ?_
    rintro e w9 ⟨a9, c9, rfl, ho9, hb9⟩
    have HO9 := Lib.hid (HO8.out.2.trans (hb9.mono HO8.out.2.size))
    have S9 := Lib.hid (S8.out.pushOwn hb9 ho9)
    clear ho9 hb9
    go_wp2_with fail
    refine hK.out _ _ (HC.out _ HO9.out) (fun hS => ?_)
    clear hK K
    try simp only [zp0, zp1, zp2, zp3, zp4]
    refine tk 8 rfl ?_
    try simp only [zp0, zp1, zp2, zp3, zp4]
    refine wpAnyH_done (by kernel_rfl) ?_ _
    go_wp2_with fail
    go_roundw
    case rel => exact ⟨k + 1, _, _, _, by omega, by go_num, rfl, And.intro (by rw [HY.out]; exact sep_ends S9.out) (by rw [HY.out])⟩
    case measure => simp [intOf]; omega
   ·
    go_wp2_with fail
    go_ret
    obtain rfl : k = n := by omega
    have e1 : l.take k = l := by rw [HN.out, List.take_length]
    obtain ⟨ho, h3⟩ := hrel.out
    rw [e1] at ho h3
    rw [HE.out]
    exact Gave.mk h3 (ho.ownAt 1 rfl) ho.old
end Go.Proofs.Ythiidcflpgbogaa.L5

namespace Go.Proofs.Ythiidcflpgbogaa.L4
open Go.Op (bytesLess)
open Go.ChangeShapes Go.WideShapes Go.ChangeAt Go.RowKit Mem Sl Ex L2

def numCells (m : Nat) : Array Value := #[.int .u8 ((m / 1099511627776 % 256 : Nat) : Int), .int .u8 ((m / 4294967296 % 256 : Nat) : Int), .int .u8 ((m / 16777216 % 256 : Nat) : Int), .int .u8 ((m / 65536 % 256 : Nat) : Int), .int .u8 ((m / 256 % 256 : Nat) : Int), .int .u8 ((m / 1 % 256 : Nat) : Int)]

set_option maxHeartbeats 2000000 in
theorem encodeNumber_any (n : Int) (m : Nat) (hm : (m : Int) = n + 1000000000000) (h1 : n ≤ 1000000000000) (w : World) :
  Calls Try.prog 106 #[.int .i64 n] w fun e w' => e = .returned (.agg (numCells m)) ∧ Below w.heap.size w w' := by
 obtain ⟨M, hM⟩ : ∃ M : Int, M = n + 1000000000000 := ⟨_, rfl⟩
 have hM0 : 0 ≤ M := by omega
 have hM1 : M ≤ 2000000000000 := by omega
 go_enter Try.func106, Try.ntmps106
 go_wp2
 refine wp_loop_rounds 7 ?_
 iterate 7 (rw [rounds_succ]; go_wp2)
 refine bodyPost_ret (v := .agg _) (by simp [results, Try.results106, go_sem]; rfl) rfl ?_
 refine ⟨?_, below_alloc (below_alloc (Below.refl _ _) _ (Nat.le_refl _)) _ (Nat.le_refl _)⟩
 have e0 : (n + 1000000000000) / 256 / 256 / 256 / 256 / 256 = ((m / 1099511627776 % 256 : Nat) : Int) := by omega
 have e1 : (n + 1000000000000) / 256 / 256 / 256 / 256 % 256 = ((m / 4294967296 % 256 : Nat) : Int) := by omega
 have e2 : (n + 1000000000000) / 256 / 256 / 256 % 256 = ((m / 16777216 % 256 : Nat) : Int) := by omega
 have e3 : (n + 1000000000000) / 256 / 256 % 256 = ((m / 65536 % 256 : Nat) : Int) := by omega
 have e4 : (n + 1000000000000) / 256 % 256 = ((m / 256 % 256 : Nat) : Int) := by omega
 have e5 : (n + 1000000000000) % 256 = ((m / 1 % 256 : Nat) : Int) := by omega
 rw [e0, e1, e2, e3, e4, e5]
 rfl

theorem numCells_form (m : Nat) : ∃ x0 x1 x2 x3 x4 x5 : Int, numCells m = #[.int .u8 x0, .int .u8 x1, .int .u8 x2, .int .u8 x3, .int .u8 x4, .int .u8 x5] ∧ toI (be 6 m) = [x0, x1, x2, x3, x4, x5] := by
 refine ⟨_, _, _, _, _, _, rfl, ?_⟩
 simp only [be, toI, List.map_cons, List.map_nil, UInt8.toNat_ofNat', show (256 ^ 5 : Nat) = 1099511627776 from rfl, show (256 ^ 4 : Nat) = 4294967296 from rfl, show (256 ^ 3 : Nat) = 16777216 from rfl, show (256 ^ 2 : Nat) = 65536 from rfl, show (256 ^ 1 : Nat) = 256 from rfl, show (256 ^ 0 : Nat) = 1 from rfl, Nat.mod_mod]
theorem reads_row {w : World} {g : Nat} {t : TypeId} {k : IntKind} {l : List Int} (h : Row w g t (ints k l).toArray) : Reads w w.heap.size (some ⟨g, 0, none⟩) (ints k l) := fun j hj => by
 refine ⟨_, rfl, by simpa [add_block] using h.inside, ?_⟩
 rw [Addr.add_lit, h.cell]
 simp [List.getElem?_eq_getElem hj]

section
variable {P : Program} (w : World)
theorem wpList_append_str {ops : Array Oper} {rest : List Oper} {o : Oper} {act : Act} {Q : Exit → Act → World → Prop} (hgd : o.guard = none) (sl x : Operand) (t u : TypeId)
  (ho : o.op = .call { callee := .builtin .append, args := #[sl, x], argTypes := #[t, u] })
  (B : Nat) (e : TypeId) (i : TypeInfo) (ht : P.underlying t = some (.slice e)) (hu : P.underlying u = some .string) (hi : P.info? e = some i) (hz : i.zero = some (.int .u8 0))
  (hsize : i.size = 1) (hby : i.bytes = 1) (a : Option Addr) (n c : Nat) (l : List Int) (hs : act.eval sl = .slice a n c) (hn : n = l.length) (hown : Own w B e .u8 a c l) (s : ByteArray) (hx : act.eval x = .string s)
  (h63 : l.length + s.size ≤ maxLen) (hbytes : l.length + s.size ≤ 140737488355328) (hbase : B ≤ w.heap.size)
  (h : ∀ a1 c1 w', Own w' B e .u8 a1 c1 (l ++ L3.strB s) → w.grownBy w' (Value.slice a l.length c).ownBlock → wpList P ops Q rest (act.put o.dst (.slice a1 (l.length + s.size) c1)) w') : wpList P ops Q (o :: rest) act w := by
 subst hn
 have hsc : ints .u8 l ++ Lib.strCells s = ints .u8 (l ++ L3.strB s) := by
  rw [ints_append]
  congr 1
  unfold Lib.strCells ints L3.strB
  rw [List.map_map]
  rfl
 refine Lib.wpList_append_own_string w hgd sl x t u ho B e i ht hu hi hz hsize hby _ l.length (ints .u8 l) hs hown s hx h63 hbytes hbase ?_
 intro v' w' h2 h3 _
 rw [hsc] at h2
 rcases h2.2 with ⟨rfl, hn⟩ | ⟨g, cap, cur, rfl, _⟩
 ·
  have h0 : Own w' B e .u8 none 0 (l ++ L3.strB s) := by
   unfold Own
   rw [List.length_append, L3.strB_length, hn]
   rw [hn] at h2
   exact h2
  have := h none 0 w' h0 h3
  rw [hn] at this
  exact this
 ·
  refine h _ cap w' ?_ h3
  unfold Own
  rw [List.length_append, L3.strB_length]
  exact h2
end

set_option maxHeartbeats 2000000 in
theorem implEncodeKey_any (k : K) (hs : k.text.size ≤ 1099511627776) (w : World) :
  Calls Try.prog 81 #[k.v] w (Gave w w.heap.size 5 .u8 (toI (encU k))) := by
 obtain ⟨i0, hi, hz0, hz1, hz2⟩ := infoOf _ _ _ _ info8
 obtain ⟨w2, hw2⟩ : ∃ w2, w2 = w.alloc (.cells k.cells 31) := ⟨_, rfl⟩
 have ba : Box w2 w.heap.size 31 k := by rw [hw2]; exact Box.made w _ k
 have hbl : Below w.heap.size w w2 := by rw [hw2]; exact below_alloc (Below.refl _ _) _ (Nat.le_refl _)
 have H1 := Lib.hid (fun w => implIsKey_any k (by omega) w)
 obtain ⟨ia, hia⟩ : ∃ x, isK k = x := ⟨_, rfl⟩
 rw [hia] at H1
 obtain ⟨kd, n, s⟩ := k
 simp only [K.v, K.cells] at H1 hw2 hs ⊢
 go_enter Try.func81, Try.ntmps81
 go_wp2_with fail
 go_at_call 47
 rw [← hw2]
 refine (H1.out w2).mono ?_
 rintro e w3 ⟨rfl, h3⟩
 have BA := Lib.hid (And.intro (ba.below h3) (hbl.trans (h3.mono hbl.size)))
 have hsz : w.heap.size + 1 ≤ w3.heap.size := by have := h3.size; rw [hw2] at this; simpa using this
 clear hw2 ba hbl h3 H1
 cases ia with
 | false =>
  have HE := Lib.hid (show toI (encU ⟨kd, n, s⟩) = [] by unfold encU; rw [hia]; rfl)
  go_wp2_with fail
  go_ret
  rw [HE.out]
  exact Gave.mk rfl (Own.empty w3 5 .u8 BA.out.2.size) (below_alloc BA.out.2 _ (Nat.le_refl _))
 | true =>
  have g := isK_iff.1 hia
  have k0 : 1 ≤ kd := g.k0
  have k1 : kd ≤ 3 := g.k1
  have n0 : -1000000000000 ≤ n := g.n0
  have n1 : n ≤ 1000000000000 := g.n1
  obtain ⟨b0, b1, b2⟩ := BA.out.1.facts
  obtain ⟨d0, d1, d2⟩ := (BA.out.1.more (.cells #[.int .u8 kd] 5)).facts
  have H3 := Lib.hid (And.intro (L3.own_lit w3 5 .u8 [kd] hsz (by simp [maxLen])) (below_alloc (Below.refl (w.heap.size + 1) w3) (.cells #[.int .u8 kd] 5) hsz))
  obtain ⟨m, hm⟩ : ∃ m : Nat, (m : Int) = n + 1000000000000 := ⟨(n + 1000000000000).toNat, by omega⟩
  have HM := Lib.hid hm
  clear hm
  by_cases hk : kd = 2
  ·
   subst hk
   have HE := Lib.hid (show toI (encU ⟨2, n, s⟩) = [2] ++ L3.strB s by rw [encU_good hia]; rfl)
   go_wp2_with (at_builtin; refine wpList_append_str _ rfl _ _ 51 9 rfl (w.heap.size + 1) 5 i0 Try.underlying51 Try.underlying9 hi hz0 hz1 hz2 _ _ _ ([2]) rfl rfl H3.out.1 s rfl (by unfold maxLen; simp; omega) (by simp; omega) (Nat.le_trans hsz (by simp)) ?_; intro a9 c9 w9 ho9 hg9)
   go_ret
   rw [HE.out]
   refine Gave.mk (by simp [L3.strB_length]; omega) (ho9.base (Nat.le_succ _)) ?_
   have q2 := BA.out.2.trans (H3.out.2.mono (Nat.le_succ _))
   exact q2.trans ((below_own H3.out.1 hg9 (Nat.le_trans hsz H3.out.2.size)).mono (Nat.le_succ _))
  ·
   have HE := Lib.hid (show toI (encU ⟨kd, n, s⟩) = (kd :: toI (be 6 m)) ++ L3.strB s by
    rw [encU_good hia]
    have e1 : num6 ⟨kd, n, s⟩ = be 6 m := by unfold num6; rw [if_neg hk, ← HM.out]; rfl
    rw [e1]
    simp only [toI, List.map_cons, List.map_append, UInt8.toNat_ofNat', List.cons_append]
    congr 1
    show (((kd.toNat % 2 ^ 8 : Nat)) : Int) = kd
    omega)
   obtain ⟨w4, hw4⟩ : ∃ x, x = w3.alloc (.cells #[.int .u8 kd] 5) := ⟨_, rfl⟩
   have o4 : Own w4 (w.heap.size + 1) 5 .u8 (some ⟨w3.heap.size, 0, none⟩) 1 [kd] := by rw [hw4]; exact H3.out.1
   have b4 : Below (w.heap.size + 1) w3 w4 := by rw [hw4]; exact H3.out.2
   have bx4 : Box w4 w.heap.size 31 ⟨kd, n, s⟩ := by rw [hw4]; exact BA.out.1.more _
   have HN := Lib.hid (encodeNumber_any n m HM.out n1)
   go_wp2_with fail
   go_at_call 106
   rw [← hw4]
   clear hw4 b0 b1 b2 d0 d1 d2
   refine (HN.out w4).mono ?_
   rintro e w5 ⟨rfl, h5⟩
   obtain ⟨x0, x1, x2, x3, x4, x5, hnc, hnl⟩ := numCells_form m
   rw [hnc]
   have hsz4 : w.heap.size + 1 ≤ w4.heap.size := Nat.le_trans hsz b4.size
   have q5 := b4.trans (h5.mono hsz4)
   have R6 : Row (w5.alloc (.cells #[.int .u8 x0, .int .u8 x1, .int .u8 x2, .int .u8 x3, .int .u8 x4, .int .u8 x5] 128)) w5.heap.size 128 (ints .u8 (toI (be 6 m))).toArray := by
    rw [hnl]
    exact Row.made w5 _ _
   have r6 := reads_row R6
   have bx6 := (bx4.below h5).more (.cells #[.int .u8 x0, .int .u8 x1, .int .u8 x2, .int .u8 x3, .int .u8 x4, .int .u8 x5] 128)
   have o6 := own_alloc (o4.below h5) (.cells #[.int .u8 x0, .int .u8 x1, .int .u8 x2, .int .u8 x3, .int .u8 x4, .int .u8 x5] 128)
   have hsz5 : w.heap.size + 1 ≤ w5.heap.size := Nat.le_trans hsz4 h5.size
   have q6 := below_alloc q5 (.cells #[.int .u8 x0, .int .u8 x1, .int .u8 x2, .int .u8 x3, .int .u8 x4, .int .u8 x5] 128) hsz
   have hsz6 : w.heap.size + 1 ≤ (w5.alloc (.cells #[.int .u8 x0, .int .u8 x1, .int .u8 x2, .int .u8 x3, .int .u8 x4, .int .u8 x5] 128)).heap.size := Nat.le_trans hsz5 (by simp)
   have S := Lib.hid (And.intro r6 (And.intro bx6 (And.intro o6 (And.intro hsz6 q6))))
   clear R6 r6 bx6 o6 hsz6 q6 q5 h5 o4 b4 bx4 hnc hnl H3 hsz4 hsz5
   have hszw := hsz
   go_wp2_with (first
    | (at_builtin; refine wpList_append_src _ rfl _ _ 51 rfl (w.heap.size + 1) 5 i0 (.int .u8 0) 1 Try.underlying51 hi hz0 hz1 hz2 rfl .u8 _ _ _ ([kd]) rfl rfl S.out.2.2.1 _ _ _ _ (toI (be 6 m)) rfl (by simp) S.out.1 (by simp [maxLen]) (by simp) S.out.2.2.2.1 ?_; intro a7 c7 w7 ho7 hg7; have q7 := S.out.2.2.2.2.trans (below_own S.out.2.2.1 hg7 S.out.2.2.2.1); have bx7 := Row.below S.out.2.1 (below_own S.out.2.2.1 hg7 S.out.2.2.2.1) (Nat.lt_succ_self _); obtain ⟨b0, b1, b2⟩ := Box.facts bx7)
    | (at_builtin; refine wpList_append_str _ rfl _ _ 51 9 rfl (w.heap.size + 1) 5 i0 Try.underlying51 Try.underlying9 hi hz0 hz1 hz2 _ 7 _ (kd :: toI (be 6 m)) rfl (by simp) ho7 s rfl (by unfold maxLen; simp; omega) (by simp; omega) (Nat.le_trans hszw q7.size) ?_; intro a9 c9 w9 ho9 hg9))
   go_ret
   rw [HE.out]
   refine Gave.mk (by simp [L3.strB_length]; omega) (ho9.base (Nat.le_succ _)) ?_
   have q2 := BA.out.2.trans (q7.mono (Nat.le_succ _))
   exact q2.trans ((below_own ho7 hg9 (Nat.le_trans hszw q7.size)).mono (Nat.le_succ _))
end Go.Proofs.Ythiidcflpgbogaa.L4

set_option linter.unusedSimpArgs false
namespace Go.Proofs.Ythiidcflpgbogaa.L9
open V L6
open L4 (K isK cmpK)
open L5 (F isR isN string_geq)
open Go.Op (bytesLess)
open Go.ChangeShapes Go.WideShapes Go.ChangeAt Go.RowKit Mem Sl Ex L2 Sv Bag
open L2 Ex
open L4 (encU toI toU)
open L5 (encR)

set_option maxHeartbeats 8000000 in
theorem appendOp_any (a : Option Addr) (c : Nat) (l : List Int) (o : Y_Op) (hf : FitO (co_Op o)) (ho : isO (co_Op o) = true) (hl : l.length ≤ 500000000) (hc : l.length ≤ c) (w : World) (hrl : Reads w w.heap.size a (ints .u8 l)) (hr : RowsRd w w.heap.size (rw_Op o)) :
  Calls Try.prog 59 #[.slice a l.length c, vv_Op o] w (Gave w w.heap.size 5 .u8 (l ++ encO (co_Op o))) := by
 have HRL := Lib.hid (fun w' (h : Below w.heap.size w w') => ((hrl.below h).more h.size : Reads w' w'.heap.size a (ints .u8 l)))
 have hxb := hl
 have HV := Lib.hid ho
 clear hrl ho
 have HRR := Lib.hid (fun w' (h : Below w.heap.size w w') => (((rdO hr).below h).more h.size : Reads w' w'.heap.size o.f_Record.a (L5.cellsF o.f_Record.l)))
 have HFO := Lib.hid (show FitO ⟨o.f_Kind, o.f_Store, o.f_Key, o.f_Record.l, o.f_Field⟩ from hf)
 clear hf hr
 obtain ⟨kd, st, ⟨kk, kn, kt⟩, ⟨ra, rc, rl⟩, fd⟩ := o
 try unfold vv_Op
 dsimp only at HRR HFO ⊢
 replace HV := Lib.hid (show isO (⟨kd, st, ⟨kk, kn, kt⟩, rl, fd⟩ : X_Op) = true from HV.out)
 show Calls _ _ _ _ (Gave _ _ _ _ (l ++ encO (⟨kd, st, ⟨kk, kn, kt⟩, rl, fd⟩ : X_Op)))
 have HEK := fun w => L4.implEncodeKey_any (⟨kk, kn, kt⟩ : K) (by have h : kt.size ≤ 1099511627776 := HFO.out.text; show kt.size ≤ _; omega) w
 skip
 unfold L4.K.v at HEK
 dsimp only at HEK
 have HER := fun w' (h : Below w.heap.size w w') => L5.encodeRecord_any ra rc rl (by have h : rl.length ≤ 1048576 := HFO.out.len; omega) HFO.out.small w' (HRR.out w' h)
 have hpt := isO_parts HV.out
 have HPS := Lib.hid (show (L3.strB st).length ≤ 8 from hpt.store)
 have HPF := Lib.hid (show (L3.strB fd).length ≤ 8 from hpt.field)
 have hpk : (toI (encU (⟨kk, kn, kt⟩ : K))).length ≤ 50 := hpt.key
 have hpr : (encR rl).length ≤ 160 := hpt.record
 obtain ⟨KB, hKB⟩ : ∃ x, toI (encU (⟨kk, kn, kt⟩ : K)) = x := ⟨_, rfl⟩
 obtain ⟨RB, hRB⟩ : ∃ x, encR rl = x := ⟨_, rfl⟩
 rw [hKB] at hpk
 rw [hRB] at hpr
 have HPK := Lib.hid hpk
 have HPR := Lib.hid hpr
 clear hpt hpk hpr
 obtain ⟨X1, hX1⟩ : ∃ x, l ++ enc kd = x := ⟨_, rfl⟩
 have hl1 : X1.length ≤ 500000300 := by rw [← hX1, List.length_append]; have h1 := enc_len kd; omega
 obtain ⟨X2, hX2⟩ : ∃ x, X1 ++ bsB (L3.strB st) = x := ⟨_, rfl⟩
 have hl2 : X2.length ≤ 500000600 := by rw [← hX2, List.length_append]; have h1 := bsB_len (L3.strB st); have h2 := HPS.out; omega
 obtain ⟨X3, hX3⟩ : ∃ x, X2 ++ bsB KB = x := ⟨_, rfl⟩
 have hl3 : X3.length ≤ 500000900 := by rw [← hX3, List.length_append]; have h1 := bsB_len (KB); have h2 := HPK.out; omega
 obtain ⟨X4, hX4⟩ : ∃ x, X3 ++ bsB RB = x := ⟨_, rfl⟩
 have hl4 : X4.length ≤ 500001200 := by rw [← hX4, List.length_append]; have h1 := bsB_len (RB); have h2 := HPR.out; omega
 obtain ⟨X5, hX5⟩ : ∃ x, X4 ++ bsB (L3.strB fd) = x := ⟨_, rfl⟩
 have hl5 : X5.length ≤ 500001500 := by rw [← hX5, List.length_append]; have h1 := bsB_len (L3.strB fd); have h2 := HPF.out; omega
 have HNX := Lib.hid (show l ++ encO (⟨kd, st, ⟨kk, kn, kt⟩, rl, fd⟩ : X_Op) = X5 from by rw [← hX5, ← hX4, ← hX3, ← hX2, ← hX1, ← hKB, ← hRB]; unfold encO; simp only [List.append_assoc])
 have HXX := Lib.hid (And.intro hX1 (And.intro hX2 (And.intro hX3 (And.intro hX4 hX5))))
 clear hX1 hX2 hX3 hX4 hX5
 have HLL := Lib.hid (And.intro hl1 (And.intro hl2 (And.intro hl3 (And.intro hl4 hl5))))
 clear hl1 hl2 hl3 hl4 hl5
 rw [hKB] at HEK
 rw [hRB] at HER
 replace HEK := Lib.hid HEK
 replace HER := Lib.hid HER
 clear hKB hRB
 rw [HNX.out]
 clear HNX
 have HXB := Lib.hid hxb
 have HCP := Lib.hid hc
 clear hxb hl hc HV
 obtain ⟨L, hL⟩ : ∃ n, n = l.length := ⟨_, rfl⟩
 have HLN := Lib.hid hL
 rw [← hL]
 clear hL
 have S1 := Lib.hid (show Sl.Sep w _ [_] from L4.push_box (Sl.Sep.start w) 36 #[.int .i64 kd, .string st, .int .i64 kk, .int .i64 kn, .string kt, .slice ra rl.length rc, .string fd] (w.heap.size) (by simp))
 obtain ⟨wa, hwa⟩ : ∃ w_, w_ = (w.alloc (.cells #[.int .i64 kd, .string st, .int .i64 kk, .int .i64 kn, .string kt, .slice ra rl.length rc, .string fd] 36)) := ⟨_, rfl⟩
 rw [← hwa] at S1
 go_enter Try.func59, Try.ntmps59
 go_upto_region 1 with fail
 rw [← hwa]
 clear hwa
 obtain ⟨f0, f1, f2, f3, f4, f5, f6⟩ := Bag.cs7 S1.out 0 rfl
 go_wp2_with fail
 go_at_call 58
 refine (impl_num S1.out (kd) X1 (HRL.out _ S1.out.old) HCP.out HLN.out (by have := HXB.out; omega) HXX.out.1).mono ?_
 rintro e w1 ⟨b1a, b1c, rfl, ho, hb⟩
 clear f0 f1 f2 f3 f4 f5 f6
 have S2 := Lib.hid (show Sl.Sep w _ [_, Sl.own 5 .u8 b1a b1c X1] from Sl.Sep.pushOwn S1.out hb ho)
 clear S1
 clear hb ho
 obtain ⟨f0, f1, f2, f3, f4, f5, f6⟩ := Bag.cs7 S2.out 0 rfl
 go_upto_region 2 with fail
 go_cut [23, 24] (fun z y wx => ∃ (gs : Nat) (ka1 : Option Addr) (kc1 : Nat) (ra1 : Option Addr) (rc1 : Nat) (gf ss sf : Nat), z = .agg #[.slice (some ⟨gs, 0, none⟩) st.size ss, .slice ka1 KB.length kc1, .slice ra1 RB.length rc1, .slice (some ⟨gf, 0, none⟩) fd.size sf] ∧ y = .int .i64 0 ∧ Hid (Sl.Sep w wx [Sl.own 5 .u8 b1a b1c X1, conv gs (L3.strB st), Sl.own 5 .u8 ka1 kc1 KB, Sl.own 5 .u8 ra1 rc1 RB, conv gf (L3.strB fd)]))
 case first =>
  clear f0 f1 f2 f3 f4 f5 f6
  obtain ⟨f0, f1, f2, f3, f4, f5, f6⟩ := Bag.cs7 S2.out 0 rfl
  clear f0 f1 f2 f3 f4 f5 f6
  refine wp_region_held_drew (S := (fun w' => (w'.cell? ⟨w.heap.size, 0, none⟩ = some (.int .i64 kd) ∧ w'.cell? ⟨w.heap.size, 1, none⟩ = some (.string st) ∧ w'.cell? ⟨w.heap.size, 2, none⟩ = some (.int .i64 kk) ∧ w'.cell? ⟨w.heap.size, 3, none⟩ = some (.int .i64 kn) ∧ w'.cell? ⟨w.heap.size, 4, none⟩ = some (.string kt) ∧ w'.cell? ⟨w.heap.size, 5, none⟩ = some (.slice ra rl.length rc) ∧ w'.cell? ⟨w.heap.size, 6, none⟩ = some (.string fd)))) (by kernel_rfl) (Bag.cs7 (Bag.drew1 S2.out) 0 rfl) (fun hS => ?_)
  have S3 := Lib.hid (Bag.drew1 S2.out)
  clear S2
  generalize World.drew _ = w2 at hS S3 ⊢
  refine tk 0 rfl ?_
  try simp only [zp0, zp1, zp2, zp3, zp4]
  refine tk 1 rfl ?_
  try simp only [zp0, zp1, zp2, zp3, zp4]
  refine tk 3 rfl ?_
  try simp only [zp0, zp1, zp2, zp3, zp4]
  refine tk 4 rfl ?_
  try simp only [zp0, zp1, zp2, zp3, zp4]
  refine tk 6 rfl ?_
  try simp only [zp0, zp1, zp2, zp3, zp4]
  refine tk 7 rfl ?_
  try simp only [zp0, zp1, zp2, zp3, zp4]
  refine tk 9 rfl ?_
  try simp only [zp0, zp1, zp2, zp3, zp4]
  refine tk 10 rfl ?_
  try simp only [zp0, zp1, zp2, zp3, zp4]
  refine tk 13 rfl ?_
  try simp only [zp0, zp1, zp2, zp3, zp4]
  refine wpAnyH_ready (rs := [2, 5, 11]) (by kernel_rfl) (by simp) ?_
  refine Reg.cons_op (i := 2) rfl (fun K hK => ?_) ?_
  ·
   skip
   have hcv := Lib.run_convert_string_bytes (P := Try.prog) w2 9 51 5 st Try.underlying9 Try.underlying51 Try.underlying5
   go_simp
   have S4 := Lib.hid (show Sl.Sep w _ [_, _, conv w2.heap.size (L3.strB st)] from push_conv S3.out st)
   clear S3
   clear hcv
   obtain ⟨g1, hg⟩ : ∃ g', g' = w2.heap.size := ⟨_, rfl⟩
   rw [← hg] at S4 ⊢
   clear hg
   generalize Lib.bytesWorld w2 5 st = w3 at S4 ⊢
   refine hK.out _ _ (Bag.cs7 S4.out 0 rfl) (fun hS => ?_)
   clear hK K
   try simp only [zp0, zp1, zp2, zp3, zp4]
   refine wpAnyH_ready (rs := [5, 11]) (by kernel_rfl) (by simp) ?_
   refine Reg.cons_op (i := 5) rfl (fun K hK => ?_) ?_
   ·
    skip
    go_simp
    go_at_call 81
    refine (HEK.out _).mono ?_
    rintro e w4 ⟨ka, kc, rfl, ho, hb⟩
    have S5 := Lib.hid (show Sl.Sep w _ [_, _, conv g1 (L3.strB st), Sl.own 5 .u8 ka kc KB] from Sl.Sep.pushOwn S4.out hb ho)
    clear S4
    clear hb ho
    go_wp2_with fail
    refine hK.out _ _ (Bag.cs7 S5.out 0 rfl) (fun hS => ?_)
    clear hK K
    try simp only [zp0, zp1, zp2, zp3, zp4]
    refine wpAnyH_ready (rs := [8, 11]) (by kernel_rfl) (by simp) ?_
    refine Reg.cons_op (i := 8) rfl (fun K hK => ?_) ?_
    ·
     skip
     go_simp
     go_at_call 82
     refine (HER.out _ S5.out.old).mono ?_
     rintro e w5 ⟨rea, rec_, rfl, ho, hb⟩
     have S6 := Lib.hid (show Sl.Sep w _ [_, _, _, _, Sl.own 5 .u8 rea rec_ RB] from Sl.Sep.pushOwn S5.out hb ho)
     clear S5
     clear hb ho
     go_wp2_with fail
     refine hK.out _ _ (Bag.cs7 S6.out 0 rfl) (fun hS => ?_)
     clear hK K
     try simp only [zp0, zp1, zp2, zp3, zp4]
     refine Reg.one_op (i := 11) rfl (by kernel_rfl) (fun K hK => ?_)
     have hcv := Lib.run_convert_string_bytes (P := Try.prog) w5 9 51 5 fd Try.underlying9 Try.underlying51 Try.underlying5
     go_simp
     have S7 := Lib.hid (show Sl.Sep w _ [_, _, _, _, _, conv w5.heap.size (L3.strB fd)] from push_conv S6.out fd)
     clear S6
     clear hcv
     obtain ⟨g2, hg⟩ : ∃ g', g' = w5.heap.size := ⟨_, rfl⟩
     rw [← hg] at S7 ⊢
     clear hg
     generalize Lib.bytesWorld w5 5 fd = w6 at S7 ⊢
     refine hK.out _ _ (Bag.cs7 S7.out 0 rfl) (fun hS => ?_)
     clear hK K
     try simp only [zp0, zp1, zp2, zp3, zp4]
     refine tk 12 rfl ?_
     try simp only [zp0, zp1, zp2, zp3, zp4]
     refine wpAnyH_done (by kernel_rfl) ?_ _
     obtain ⟨f0, f1, f2, f3, f4, f5, f6⟩ := Bag.cs7 S7.out 0 rfl
     clear f0 f1 f2 f3 f4 f5 f6
     have S8 := Lib.hid (show Sl.Sep w _ [_, _, _, _, conv g2 (L3.strB fd)] from Bag.take S7.out [1, 2, 3, 4, 5] (by rfl) (by decide))
     clear S7
     go_wp2_with fail
     go_meet
     case rel => exact ⟨g1, ka, kc, rea, rec_, g2, _, _, rfl, rfl, S8.out⟩
    refine Reg.cons_op (i := 11) rfl (fun K hK => ?_) ?_
    ·
     skip
     have hcv := Lib.run_convert_string_bytes (P := Try.prog) w4 9 51 5 fd Try.underlying9 Try.underlying51 Try.underlying5
     go_simp
     have S6 := Lib.hid (show Sl.Sep w _ [_, _, _, _, conv w4.heap.size (L3.strB fd)] from push_conv S5.out fd)
     clear S5
     clear hcv
     obtain ⟨g2, hg⟩ : ∃ g', g' = w4.heap.size := ⟨_, rfl⟩
     rw [← hg] at S6 ⊢
     clear hg
     generalize Lib.bytesWorld w4 5 fd = w5 at S6 ⊢
     refine hK.out _ _ (Bag.cs7 S6.out 0 rfl) (fun hS => ?_)
     clear hK K
     try simp only [zp0, zp1, zp2, zp3, zp4]
     refine Reg.one_op (i := 8) rfl (by kernel_rfl) (fun K hK => ?_)
     go_simp
     go_at_call 82
     refine (HER.out _ S6.out.old).mono ?_
     rintro e w6 ⟨rea, rec_, rfl, ho, hb⟩
     have S7 := Lib.hid (show Sl.Sep w _ [_, _, _, _, conv g2 (L3.strB fd), Sl.own 5 .u8 rea rec_ RB] from Sl.Sep.pushOwn S6.out hb ho)
     clear S6
     clear hb ho
     go_wp2_with fail
     refine hK.out _ _ (Bag.cs7 S7.out 0 rfl) (fun hS => ?_)
     clear hK K
     try simp only [zp0, zp1, zp2, zp3, zp4]
     refine tk 12 rfl ?_
     try simp only [zp0, zp1, zp2, zp3, zp4]
     refine wpAnyH_done (by kernel_rfl) ?_ _
     obtain ⟨f0, f1, f2, f3, f4, f5, f6⟩ := Bag.cs7 S7.out 0 rfl
     clear f0 f1 f2 f3 f4 f5 f6
     have S8 := Lib.hid (show Sl.Sep w _ [_, _, _, _, _] from Bag.take S7.out [1, 2, 3, 5, 4] (by rfl) (by decide))
     clear S7
     go_wp2_with fail
     go_meet
     case rel => exact ⟨g1, ka, kc, rea, rec_, g2, _, _, rfl, rfl, S8.out⟩
    exact AllReadyH.nil
   refine Reg.cons_op (i := 11) rfl (fun K hK => ?_) ?_
   ·
    skip
    have hcv := Lib.run_convert_string_bytes (P := Try.prog) w3 9 51 5 fd Try.underlying9 Try.underlying51 Try.underlying5
    go_simp
    have S5 := Lib.hid (show Sl.Sep w _ [_, _, conv g1 (L3.strB st), conv w3.heap.size (L3.strB fd)] from push_conv S4.out fd)
    clear S4
    clear hcv
    obtain ⟨g2, hg⟩ : ∃ g', g' = w3.heap.size := ⟨_, rfl⟩
    rw [← hg] at S5 ⊢
    clear hg
    generalize Lib.bytesWorld w3 5 fd = w4 at S5 ⊢
    refine hK.out _ _ (Bag.cs7 S5.out 0 rfl) (fun hS => ?_)
    clear hK K
    try simp only [zp0, zp1, zp2, zp3, zp4]
    refine Reg.one_op (i := 5) rfl (by kernel_rfl) (fun K hK => ?_)
    go_simp
    go_at_call 81
    refine (HEK.out _).mono ?_
    rintro e w5 ⟨ka, kc, rfl, ho, hb⟩
    have S6 := Lib.hid (show Sl.Sep w _ [_, _, _, conv g2 (L3.strB fd), Sl.own 5 .u8 ka kc KB] from Sl.Sep.pushOwn S5.out hb ho)
    clear S5
    clear hb ho
    go_wp2_with fail
    refine hK.out _ _ (Bag.cs7 S6.out 0 rfl) (fun hS => ?_)
    clear hK K
    try simp only [zp0, zp1, zp2, zp3, zp4]
    refine Reg.one_op (i := 8) rfl (by kernel_rfl) (fun K hK => ?_)
    go_simp
    go_at_call 82
    refine (HER.out _ S6.out.old).mono ?_
    rintro e w6 ⟨rea, rec_, rfl, ho, hb⟩
    have S7 := Lib.hid (show Sl.Sep w _ [_, _, _, _, _, Sl.own 5 .u8 rea rec_ RB] from Sl.Sep.pushOwn S6.out hb ho)
    clear S6
    clear hb ho
    go_wp2_with fail
    refine hK.out _ _ (Bag.cs7 S7.out 0 rfl) (fun hS => ?_)
    clear hK K
    try simp only [zp0, zp1, zp2, zp3, zp4]
    refine tk 12 rfl ?_
    try simp only [zp0, zp1, zp2, zp3, zp4]
    refine wpAnyH_done (by kernel_rfl) ?_ _
    obtain ⟨f0, f1, f2, f3, f4, f5, f6⟩ := Bag.cs7 S7.out 0 rfl
    clear f0 f1 f2 f3 f4 f5 f6
    have S8 := Lib.hid (show Sl.Sep w _ [_, _, _, _, _] from Bag.take S7.out [1, 2, 4, 5, 3] (by rfl) (by decide))
    clear S7
    go_wp2_with fail
    go_meet
    case rel => exact ⟨g1, ka, kc, rea, rec_, g2, _, _, rfl, rfl, S8.out⟩
   exact AllReadyH.nil
  refine Reg.cons_op (i := 5) rfl (fun K hK => ?_) ?_
  ·
   skip
   go_simp
   go_at_call 81
   refine (HEK.out _).mono ?_
   rintro e w3 ⟨ka, kc, rfl, ho, hb⟩
   have S4 := Lib.hid (show Sl.Sep w _ [_, _, Sl.own 5 .u8 ka kc KB] from Sl.Sep.pushOwn S3.out hb ho)
   clear S3
   clear hb ho
   go_wp2_with fail
   refine hK.out _ _ (Bag.cs7 S4.out 0 rfl) (fun hS => ?_)
   clear hK K
   try simp only [zp0, zp1, zp2, zp3, zp4]
   refine wpAnyH_ready (rs := [2, 8, 11]) (by kernel_rfl) (by simp) ?_
   refine Reg.cons_op (i := 2) rfl (fun K hK => ?_) ?_
   ·
    skip
    have hcv := Lib.run_convert_string_bytes (P := Try.prog) w3 9 51 5 st Try.underlying9 Try.underlying51 Try.underlying5
    go_simp
    have S5 := Lib.hid (show Sl.Sep w _ [_, _, _, conv w3.heap.size (L3.strB st)] from push_conv S4.out st)
    clear S4
    clear hcv
    obtain ⟨g1, hg⟩ : ∃ g', g' = w3.heap.size := ⟨_, rfl⟩
    rw [← hg] at S5 ⊢
    clear hg
    generalize Lib.bytesWorld w3 5 st = w4 at S5 ⊢
    refine hK.out _ _ (Bag.cs7 S5.out 0 rfl) (fun hS => ?_)
    clear hK K
    try simp only [zp0, zp1, zp2, zp3, zp4]
    refine wpAnyH_ready (rs := [8, 11]) (by kernel_rfl) (by simp) ?_
    refine Reg.cons_op (i := 8) rfl (fun K hK => ?_) ?_
    ·
     skip
     go_simp
     go_at_call 82
     refine (HER.out _ S5.out.old).mono ?_
     rintro e w5 ⟨rea, rec_, rfl, ho, hb⟩
     have S6 := Lib.hid (show Sl.Sep w _ [_, _, _, conv g1 (L3.strB st), Sl.own 5 .u8 rea rec_ RB] from Sl.Sep.pushOwn S5.out hb ho)
     clear S5
     clear hb ho
     go_wp2_with fail
     refine hK.out _ _ (Bag.cs7 S6.out 0 rfl) (fun hS => ?_)
     clear hK K
     try simp only [zp0, zp1, zp2, zp3, zp4]
     refine Reg.one_op (i := 11) rfl (by kernel_rfl) (fun K hK => ?_)
     have hcv := Lib.run_convert_string_bytes (P := Try.prog) w5 9 51 5 fd Try.underlying9 Try.underlying51 Try.underlying5
     go_simp
     have S7 := Lib.hid (show Sl.Sep w _ [_, _, _, _, _, conv w5.heap.size (L3.strB fd)] from push_conv S6.out fd)
     clear S6
     clear hcv
     obtain ⟨g2, hg⟩ : ∃ g', g' = w5.heap.size := ⟨_, rfl⟩
     rw [← hg] at S7 ⊢
     clear hg
     generalize Lib.bytesWorld w5 5 fd = w6 at S7 ⊢
     refine hK.out _ _ (Bag.cs7 S7.out 0 rfl) (fun hS => ?_)
     clear hK K
     try simp only [zp0, zp1, zp2, zp3, zp4]
     refine tk 12 rfl ?_
     try simp only [zp0, zp1, zp2, zp3, zp4]
     refine wpAnyH_done (by kernel_rfl) ?_ _
     obtain ⟨f0, f1, f2, f3, f4, f5, f6⟩ := Bag.cs7 S7.out 0 rfl
     clear f0 f1 f2 f3 f4 f5 f6
     have S8 := Lib.hid (show Sl.Sep w _ [_, _, _, _, conv g2 (L3.strB fd)] from Bag.take S7.out [1, 3, 2, 4, 5] (by rfl) (by decide))
     clear S7
     go_wp2_with fail
     go_meet
     case rel => exact ⟨g1, ka, kc, rea, rec_, g2, _, _, rfl, rfl, S8.out⟩
    refine Reg.cons_op (i := 11) rfl (fun K hK => ?_) ?_
    ·
     skip
     have hcv := Lib.run_convert_string_bytes (P := Try.prog) w4 9 51 5 fd Try.underlying9 Try.underlying51 Try.underlying5
     go_simp
     have S6 := Lib.hid (show Sl.Sep w _ [_, _, _, conv g1 (L3.strB st), conv w4.heap.size (L3.strB fd)] from push_conv S5.out fd)
     clear S5
     clear hcv
     obtain ⟨g2, hg⟩ : ∃ g', g' = w4.heap.size := ⟨_, rfl⟩
     rw [← hg] at S6 ⊢
     clear hg
     generalize Lib.bytesWorld w4 5 fd = w5 at S6 ⊢
     refine hK.out _ _ (Bag.cs7 S6.out 0 rfl) (fun hS => ?_)
     clear hK K
     try simp only [zp0, zp1, zp2, zp3, zp4]
     refine Reg.one_op (i := 8) rfl (by kernel_rfl) (fun K hK => ?_)
     go_simp
     go_at_call 82
     refine (HER.out _ S6.out.old).mono ?_
     rintro e w6 ⟨rea, rec_, rfl, ho, hb⟩
     have S7 := Lib.hid (show Sl.Sep w _ [_, _, _, _, conv g2 (L3.strB fd), Sl.own 5 .u8 rea rec_ RB] from Sl.Sep.pushOwn S6.out hb ho)
     clear S6
     clear hb ho
     go_wp2_with fail
     refine hK.out _ _ (Bag.cs7 S7.out 0 rfl) (fun hS => ?_)
     clear hK K
     try simp only [zp0, zp1, zp2, zp3, zp4]
     refine tk 12 rfl ?_
     try simp only [zp0, zp1, zp2, zp3, zp4]
     refine wpAnyH_done (by kernel_rfl) ?_ _
     obtain ⟨f0, f1, f2, f3, f4, f5, f6⟩ := Bag.cs7 S7.out 0 rfl
     clear f0 f1 f2 f3 f4 f5 f6
     have S8 := Lib.hid (show Sl.Sep w _ [_, _, _, _, _] from Bag.take S7.out [1, 3, 2, 5, 4] (by rfl) (by decide))
     clear S7
     go_wp2_with fail
     go_meet
     case rel => exact ⟨g1, ka, kc, rea, rec_, g2, _, _, rfl, rfl, S8.out⟩
    exact AllReadyH.nil
   refine Reg.cons_op (i := 8) rfl (fun K hK => ?_) ?_
   ·
    skip
    go_simp
    go_at_call 82
    refine (HER.out _ S4.out.old).mono ?_
    rintro e w4 ⟨rea, rec_, rfl, ho, hb⟩
    have S5 := Lib.hid (show Sl.Sep w _ [_, _, _, Sl.own 5 .u8 rea rec_ RB] from Sl.Sep.pushOwn S4.out hb ho)
    clear S4
    clear hb ho
    go_wp2_with fail
    refine hK.out _ _ (Bag.cs7 S5.out 0 rfl) (fun hS => ?_)
    clear hK K
    try simp only [zp0, zp1, zp2, zp3, zp4]
    refine wpAnyH_ready (rs := [2, 11]) (by kernel_rfl) (by simp) ?_
    refine Reg.cons_op (i := 2) rfl (fun K hK => ?_) ?_
    ·
     skip
     have hcv := Lib.run_convert_string_bytes (P := Try.prog) w4 9 51 5 st Try.underlying9 Try.underlying51 Try.underlying5
     go_simp
     have S6 := Lib.hid (show Sl.Sep w _ [_, _, _, _, conv w4.heap.size (L3.strB st)] from push_conv S5.out st)
     clear S5
     clear hcv
     obtain ⟨g1, hg⟩ : ∃ g', g' = w4.heap.size := ⟨_, rfl⟩
     rw [← hg] at S6 ⊢
     clear hg
     generalize Lib.bytesWorld w4 5 st = w5 at S6 ⊢
     refine hK.out _ _ (Bag.cs7 S6.out 0 rfl) (fun hS => ?_)
     clear hK K
     try simp only [zp0, zp1, zp2, zp3, zp4]
     refine Reg.one_op (i := 11) rfl (by kernel_rfl) (fun K hK => ?_)
     have hcv := Lib.run_convert_string_bytes (P := Try.prog) w5 9 51 5 fd Try.underlying9 Try.underlying51 Try.underlying5
     go_simp
     have S7 := Lib.hid (show Sl.Sep w _ [_, _, _, _, conv g1 (L3.strB st), conv w5.heap.size (L3.strB fd)] from push_conv S6.out fd)
     clear S6
     clear hcv
     obtain ⟨g2, hg⟩ : ∃ g', g' = w5.heap.size := ⟨_, rfl⟩
     rw [← hg] at S7 ⊢
     clear hg
     generalize Lib.bytesWorld w5 5 fd = w6 at S7 ⊢
     refine hK.out _ _ (Bag.cs7 S7.out 0 rfl) (fun hS => ?_)
     clear hK K
     try simp only [zp0, zp1, zp2, zp3, zp4]
     refine tk 12 rfl ?_
     try simp only [zp0, zp1, zp2, zp3, zp4]
     refine wpAnyH_done (by kernel_rfl) ?_ _
     obtain ⟨f0, f1, f2, f3, f4, f5, f6⟩ := Bag.cs7 S7.out 0 rfl
     clear f0 f1 f2 f3 f4 f5 f6
     have S8 := Lib.hid (show Sl.Sep w _ [_, _, _, _, conv g2 (L3.strB fd)] from Bag.take S7.out [1, 4, 2, 3, 5] (by rfl) (by decide))
     clear S7
     go_wp2_with fail
     go_meet
     case rel => exact ⟨g1, ka, kc, rea, rec_, g2, _, _, rfl, rfl, S8.out⟩
    refine Reg.cons_op (i := 11) rfl (fun K hK => ?_) ?_
    ·
     skip
     have hcv := Lib.run_convert_string_bytes (P := Try.prog) w4 9 51 5 fd Try.underlying9 Try.underlying51 Try.underlying5
     go_simp
     have S6 := Lib.hid (show Sl.Sep w _ [_, _, _, _, conv w4.heap.size (L3.strB fd)] from push_conv S5.out fd)
     clear S5
     clear hcv
     obtain ⟨g1, hg⟩ : ∃ g', g' = w4.heap.size := ⟨_, rfl⟩
     rw [← hg] at S6 ⊢
     clear hg
     generalize Lib.bytesWorld w4 5 fd = w5 at S6 ⊢
     refine hK.out _ _ (Bag.cs7 S6.out 0 rfl) (fun hS => ?_)
     clear hK K
     try simp only [zp0, zp1, zp2, zp3, zp4]
     refine Reg.one_op (i := 2) rfl (by kernel_rfl) (fun K hK => ?_)
     have hcv := Lib.run_convert_string_bytes (P := Try.prog) w5 9 51 5 st Try.underlying9 Try.underlying51 Try.underlying5
     go_simp
     have S7 := Lib.hid (show Sl.Sep w _ [_, _, _, _, conv g1 (L3.strB fd), conv w5.heap.size (L3.strB st)] from push_conv S6.out st)
     clear S6
     clear hcv
     obtain ⟨g2, hg⟩ : ∃ g', g' = w5.heap.size := ⟨_, rfl⟩
     rw [← hg] at S7 ⊢
     clear hg
     generalize Lib.bytesWorld w5 5 st = w6 at S7 ⊢
     refine hK.out _ _ (Bag.cs7 S7.out 0 rfl) (fun hS => ?_)
     clear hK K
     try simp only [zp0, zp1, zp2, zp3, zp4]
     refine tk 12 rfl ?_
     try simp only [zp0, zp1, zp2, zp3, zp4]
     refine wpAnyH_done (by kernel_rfl) ?_ _
     obtain ⟨f0, f1, f2, f3, f4, f5, f6⟩ := Bag.cs7 S7.out 0 rfl
     clear f0 f1 f2 f3 f4 f5 f6
     have S8 := Lib.hid (show Sl.Sep w _ [_, conv g2 (L3.strB st), _, _, _] from Bag.take S7.out [1, 5, 2, 3, 4] (by rfl) (by decide))
     clear S7
     go_wp2_with fail
     go_meet
     case rel => exact ⟨g2, ka, kc, rea, rec_, g1, _, _, rfl, rfl, S8.out⟩
    exact AllReadyH.nil
   refine Reg.cons_op (i := 11) rfl (fun K hK => ?_) ?_
   ·
    skip
    have hcv := Lib.run_convert_string_bytes (P := Try.prog) w3 9 51 5 fd Try.underlying9 Try.underlying51 Try.underlying5
    go_simp
    have S5 := Lib.hid (show Sl.Sep w _ [_, _, _, conv w3.heap.size (L3.strB fd)] from push_conv S4.out fd)
    clear S4
    clear hcv
    obtain ⟨g1, hg⟩ : ∃ g', g' = w3.heap.size := ⟨_, rfl⟩
    rw [← hg] at S5 ⊢
    clear hg
    generalize Lib.bytesWorld w3 5 fd = w4 at S5 ⊢
    refine hK.out _ _ (Bag.cs7 S5.out 0 rfl) (fun hS => ?_)
    clear hK K
    try simp only [zp0, zp1, zp2, zp3, zp4]
    refine wpAnyH_ready (rs := [2, 8]) (by kernel_rfl) (by simp) ?_
    refine Reg.cons_op (i := 2) rfl (fun K hK => ?_) ?_
    ·
     skip
     have hcv := Lib.run_convert_string_bytes (P := Try.prog) w4 9 51 5 st Try.underlying9 Try.underlying51 Try.underlying5
     go_simp
     have S6 := Lib.hid (show Sl.Sep w _ [_, _, _, conv g1 (L3.strB fd), conv w4.heap.size (L3.strB st)] from push_conv S5.out st)
     clear S5
     clear hcv
     obtain ⟨g2, hg⟩ : ∃ g', g' = w4.heap.size := ⟨_, rfl⟩
     rw [← hg] at S6 ⊢
     clear hg
     generalize Lib.bytesWorld w4 5 st = w5 at S6 ⊢
     refine hK.out _ _ (Bag.cs7 S6.out 0 rfl) (fun hS => ?_)
     clear hK K
     try simp only [zp0, zp1, zp2, zp3, zp4]
     refine Reg.one_op (i := 8) rfl (by kernel_rfl) (fun K hK => ?_)
     go_simp
     go_at_call 82
     refine (HER.out _ S6.out.old).mono ?_
     rintro e w6 ⟨rea, rec_, rfl, ho, hb⟩
     have S7 := Lib.hid (show Sl.Sep w _ [_, _, _, _, conv g2 (L3.strB st), Sl.own 5 .u8 rea rec_ RB] from Sl.Sep.pushOwn S6.out hb ho)
     clear S6
     clear hb ho
     go_wp2_with fail
     refine hK.out _ _ (Bag.cs7 S7.out 0 rfl) (fun hS => ?_)
     clear hK K
     try simp only [zp0, zp1, zp2, zp3, zp4]
     refine tk 12 rfl ?_
     try simp only [zp0, zp1, zp2, zp3, zp4]
     refine wpAnyH_done (by kernel_rfl) ?_ _
     obtain ⟨f0, f1, f2, f3, f4, f5, f6⟩ := Bag.cs7 S7.out 0 rfl
     clear f0 f1 f2 f3 f4 f5 f6
     have S8 := Lib.hid (show Sl.Sep w _ [_, _, _, _, _] from Bag.take S7.out [1, 4, 2, 5, 3] (by rfl) (by decide))
     clear S7
     go_wp2_with fail
     go_meet
     case rel => exact ⟨g2, ka, kc, rea, rec_, g1, _, _, rfl, rfl, S8.out⟩
    refine Reg.cons_op (i := 8) rfl (fun K hK => ?_) ?_
    ·
     skip
     go_simp
     go_at_call 82
     refine (HER.out _ S5.out.old).mono ?_
     rintro e w5 ⟨rea, rec_, rfl, ho, hb⟩
     have S6 := Lib.hid (show Sl.Sep w _ [_, _, _, conv g1 (L3.strB fd), Sl.own 5 .u8 rea rec_ RB] from Sl.Sep.pushOwn S5.out hb ho)
     clear S5
     clear hb ho
     go_wp2_with fail
     refine hK.out _ _ (Bag.cs7 S6.out 0 rfl) (fun hS => ?_)
     clear hK K
     try simp only [zp0, zp1, zp2, zp3, zp4]
     refine Reg.one_op (i := 2) rfl (by kernel_rfl) (fun K hK => ?_)
     have hcv := Lib.run_convert_string_bytes (P := Try.prog) w5 9 51 5 st Try.underlying9 Try.underlying51 Try.underlying5
     go_simp
     have S7 := Lib.hid (show Sl.Sep w _ [_, _, _, _, _, conv w5.heap.size (L3.strB st)] from push_conv S6.out st)
     clear S6
     clear hcv
     obtain ⟨g2, hg⟩ : ∃ g', g' = w5.heap.size := ⟨_, rfl⟩
     rw [← hg] at S7 ⊢
     clear hg
     generalize Lib.bytesWorld w5 5 st = w6 at S7 ⊢
     refine hK.out _ _ (Bag.cs7 S7.out 0 rfl) (fun hS => ?_)
     clear hK K
     try simp only [zp0, zp1, zp2, zp3, zp4]
     refine tk 12 rfl ?_
     try simp only [zp0, zp1, zp2, zp3, zp4]
     refine wpAnyH_done (by kernel_rfl) ?_ _
     obtain ⟨f0, f1, f2, f3, f4, f5, f6⟩ := Bag.cs7 S7.out 0 rfl
     clear f0 f1 f2 f3 f4 f5 f6
     have S8 := Lib.hid (show Sl.Sep w _ [_, conv g2 (L3.strB st), _, _, _] from Bag.take S7.out [1, 5, 2, 4, 3] (by rfl) (by decide))
     clear S7
     go_wp2_with fail
     go_meet
     case rel => exact ⟨g2, ka, kc, rea, rec_, g1, _, _, rfl, rfl, S8.out⟩
    exact AllReadyH.nil
   exact AllReadyH.nil
  refine Reg.cons_op (i := 11) rfl (fun K hK => ?_) ?_
  ·
   skip
   have hcv := Lib.run_convert_string_bytes (P := Try.prog) w2 9 51 5 fd Try.underlying9 Try.underlying51 Try.underlying5
   go_simp
   have S4 := Lib.hid (show Sl.Sep w _ [_, _, conv w2.heap.size (L3.strB fd)] from push_conv S3.out fd)
   clear S3
   clear hcv
   obtain ⟨g1, hg⟩ : ∃ g', g' = w2.heap.size := ⟨_, rfl⟩
   rw [← hg] at S4 ⊢
   clear hg
   generalize Lib.bytesWorld w2 5 fd = w3 at S4 ⊢
   refine hK.out _ _ (Bag.cs7 S4.out 0 rfl) (fun hS => ?_)
   clear hK K
   try simp only [zp0, zp1, zp2, zp3, zp4]
   refine wpAnyH_ready (rs := [2, 5]) (by kernel_rfl) (by simp) ?_
   refine Reg.cons_op (i := 2) rfl (fun K hK => ?_) ?_
   ·
    skip
    have hcv := Lib.run_convert_string_bytes (P := Try.prog) w3 9 51 5 st Try.underlying9 Try.underlying51 Try.underlying5
    go_simp
    have S5 := Lib.hid (show Sl.Sep w _ [_, _, conv g1 (L3.strB fd), conv w3.heap.size (L3.strB st)] from push_conv S4.out st)
    clear S4
    clear hcv
    obtain ⟨g2, hg⟩ : ∃ g', g' = w3.heap.size := ⟨_, rfl⟩
    rw [← hg] at S5 ⊢
    clear hg
    generalize Lib.bytesWorld w3 5 st = w4 at S5 ⊢
    refine hK.out _ _ (Bag.cs7 S5.out 0 rfl) (fun hS => ?_)
    clear hK K
    try simp only [zp0, zp1, zp2, zp3, zp4]
    refine Reg.one_op (i := 5) rfl (by kernel_rfl) (fun K hK => ?_)
    go_simp
    go_at_call 81
    refine (HEK.out _).mono ?_
    rintro e w5 ⟨ka, kc, rfl, ho, hb⟩
    have S6 := Lib.hid (show Sl.Sep w _ [_, _, _, conv g2 (L3.strB st), Sl.own 5 .u8 ka kc KB] from Sl.Sep.pushOwn S5.out hb ho)
    clear S5
    clear hb ho
    go_wp2_with fail
    refine hK.out _ _ (Bag.cs7 S6.out 0 rfl) (fun hS => ?_)
    clear hK K
    try simp only [zp0, zp1, zp2, zp3, zp4]
    refine Reg.one_op (i := 8) rfl (by kernel_rfl) (fun K hK => ?_)
    go_simp
    go_at_call 82
    refine (HER.out _ S6.out.old).mono ?_
    rintro e w6 ⟨rea, rec_, rfl, ho, hb⟩
    have S7 := Lib.hid (show Sl.Sep w _ [_, _, _, _, _, Sl.own 5 .u8 rea rec_ RB] from Sl.Sep.pushOwn S6.out hb ho)
    clear S6
    clear hb ho
    go_wp2_with fail
    refine hK.out _ _ (Bag.cs7 S7.out 0 rfl) (fun hS => ?_)
    clear hK K
    try simp only [zp0, zp1, zp2, zp3, zp4]
    refine tk 12 rfl ?_
    try simp only [zp0, zp1, zp2, zp3, zp4]
    refine wpAnyH_done (by kernel_rfl) ?_ _
    obtain ⟨f0, f1, f2, f3, f4, f5, f6⟩ := Bag.cs7 S7.out 0 rfl
    clear f0 f1 f2 f3 f4 f5 f6
    have S8 := Lib.hid (show Sl.Sep w _ [_, _, _, _, _] from Bag.take S7.out [1, 3, 4, 5, 2] (by rfl) (by decide))
    clear S7
    go_wp2_with fail
    go_meet
    case rel => exact ⟨g2, ka, kc, rea, rec_, g1, _, _, rfl, rfl, S8.out⟩
   refine Reg.cons_op (i := 5) rfl (fun K hK => ?_) ?_
   ·
    skip
    go_simp
    go_at_call 81
    refine (HEK.out _).mono ?_
    rintro e w4 ⟨ka, kc, rfl, ho, hb⟩
    have S5 := Lib.hid (show Sl.Sep w _ [_, _, conv g1 (L3.strB fd), Sl.own 5 .u8 ka kc KB] from Sl.Sep.pushOwn S4.out hb ho)
    clear S4
    clear hb ho
    go_wp2_with fail
    refine hK.out _ _ (Bag.cs7 S5.out 0 rfl) (fun hS => ?_)
    clear hK K
    try simp only [zp0, zp1, zp2, zp3, zp4]
    refine wpAnyH_ready (rs := [2, 8]) (by kernel_rfl) (by simp) ?_
    refine Reg.cons_op (i := 2) rfl (fun K hK => ?_) ?_
    ·
     skip
     have hcv := Lib.run_convert_string_bytes (P := Try.prog) w4 9 51 5 st Try.underlying9 Try.underlying51 Try.underlying5
     go_simp
     have S6 := Lib.hid (show Sl.Sep w _ [_, _, _, _, conv w4.heap.size (L3.strB st)] from push_conv S5.out st)
     clear S5
     clear hcv
     obtain ⟨g2, hg⟩ : ∃ g', g' = w4.heap.size := ⟨_, rfl⟩
     rw [← hg] at S6 ⊢
     clear hg
     generalize Lib.bytesWorld w4 5 st = w5 at S6 ⊢
     refine hK.out _ _ (Bag.cs7 S6.out 0 rfl) (fun hS => ?_)
     clear hK K
     try simp only [zp0, zp1, zp2, zp3, zp4]
     refine Reg.one_op (i := 8) rfl (by kernel_rfl) (fun K hK => ?_)
     go_simp
     go_at_call 82
     refine (HER.out _ S6.out.old).mono ?_
     rintro e w6 ⟨rea, rec_, rfl, ho, hb⟩
     have S7 := Lib.hid (show Sl.Sep w _ [_, _, _, _, conv g2 (L3.strB st), Sl.own 5 .u8 rea rec_ RB] from Sl.Sep.pushOwn S6.out hb ho)
     clear S6
     clear hb ho
     go_wp2_with fail
     refine hK.out _ _ (Bag.cs7 S7.out 0 rfl) (fun hS => ?_)
     clear hK K
     try simp only [zp0, zp1, zp2, zp3, zp4]
     refine tk 12 rfl ?_
     try simp only [zp0, zp1, zp2, zp3, zp4]
     refine wpAnyH_done (by kernel_rfl) ?_ _
     obtain ⟨f0, f1, f2, f3, f4, f5, f6⟩ := Bag.cs7 S7.out 0 rfl
     clear f0 f1 f2 f3 f4 f5 f6
     have S8 := Lib.hid (show Sl.Sep w _ [_, _, _, _, _] from Bag.take S7.out [1, 4, 3, 5, 2] (by rfl) (by decide))
     clear S7
     go_wp2_with fail
     go_meet
     case rel => exact ⟨g2, ka, kc, rea, rec_, g1, _, _, rfl, rfl, S8.out⟩
    refine Reg.cons_op (i := 8) rfl (fun K hK => ?_) ?_
    ·
     skip
     go_simp
     go_at_call 82
     refine (HER.out _ S5.out.old).mono ?_
     rintro e w5 ⟨rea, rec_, rfl, ho, hb⟩
     have S6 := Lib.hid (show Sl.Sep w _ [_, _, _, _, Sl.own 5 .u8 rea rec_ RB] from Sl.Sep.pushOwn S5.out hb ho)
     clear S5
     clear hb ho
     go_wp2_with fail
     refine hK.out _ _ (Bag.cs7 S6.out 0 rfl) (fun hS => ?_)
     clear hK K
     try simp only [zp0, zp1, zp2, zp3, zp4]
     refine Reg.one_op (i := 2) rfl (by kernel_rfl) (fun K hK => ?_)
     have hcv := Lib.run_convert_string_bytes (P := Try.prog) w5 9 51 5 st Try.underlying9 Try.underlying51 Try.underlying5
     go_simp
     have S7 := Lib.hid (show Sl.Sep w _ [_, _, _, _, _, conv w5.heap.size (L3.strB st)] from push_conv S6.out st)
     clear S6
     clear hcv
     obtain ⟨g2, hg⟩ : ∃ g', g' = w5.heap.size := ⟨_, rfl⟩
     rw [← hg] at S7 ⊢
     clear hg
     generalize Lib.bytesWorld w5 5 st = w6 at S7 ⊢
     refine hK.out _ _ (Bag.cs7 S7.out 0 rfl) (fun hS => ?_)
     clear hK K
     try simp only [zp0, zp1, zp2, zp3, zp4]
     refine tk 12 rfl ?_
     try simp only [zp0, zp1, zp2, zp3, zp4]
     refine wpAnyH_done (by kernel_rfl) ?_ _
     obtain ⟨f0, f1, f2, f3, f4, f5, f6⟩ := Bag.cs7 S7.out 0 rfl
     clear f0 f1 f2 f3 f4 f5 f6
     have S8 := Lib.hid (show Sl.Sep w _ [_, conv g2 (L3.strB st), _, _, _] from Bag.take S7.out [1, 5, 3, 4, 2] (by rfl) (by decide))
     clear S7
     go_wp2_with fail
     go_meet
     case rel => exact ⟨g2, ka, kc, rea, rec_, g1, _, _, rfl, rfl, S8.out⟩
    exact AllReadyH.nil
   exact AllReadyH.nil
  exact AllReadyH.nil
 case rest =>
  obtain ⟨gs, ka1, kc1, ra1, rc1, gf, ss, sf, rfl, rfl, hq⟩ := hcut
  obtain ⟨ww, hww, hSS⟩ : ∃ u, u = _ ∧ Sl.Sep w u [Sl.own 5 .u8 b1a b1c X1, conv gs (L3.strB st), Sl.own 5 .u8 ka1 kc1 KB, Sl.own 5 .u8 ra1 rc1 RB, conv gf (L3.strB fd)] := ⟨_, rfl, hq.out⟩
  subst hww
  have S52 := Lib.hid hSS
  clear hSS hq S2
  have ix0 : ∀ w, (Instr.index 104 (.agg #[.slice (some ⟨gs, 0, none⟩) st.size ss, .slice ka1 KB.length kc1, .slice ra1 RB.length rc1, .slice (some ⟨gf, 0, none⟩) fd.size sf]) (.int .i64 0)).run Try.prog w = .ok (.slice (some ⟨gs, 0, none⟩) st.size ss) w := fun w => by
   simp [Instr.index, asIntOf, run_underlying Try.underlying104, go_sem]
  have ix1 : ∀ w, (Instr.index 104 (.agg #[.slice (some ⟨gs, 0, none⟩) st.size ss, .slice ka1 KB.length kc1, .slice ra1 RB.length rc1, .slice (some ⟨gf, 0, none⟩) fd.size sf]) (.int .i64 1)).run Try.prog w = .ok (.slice ka1 KB.length kc1) w := fun w => by
   simp [Instr.index, asIntOf, run_underlying Try.underlying104, go_sem]
  have ix2 : ∀ w, (Instr.index 104 (.agg #[.slice (some ⟨gs, 0, none⟩) st.size ss, .slice ka1 KB.length kc1, .slice ra1 RB.length rc1, .slice (some ⟨gf, 0, none⟩) fd.size sf]) (.int .i64 2)).run Try.prog w = .ok (.slice ra1 RB.length rc1) w := fun w => by
   simp [Instr.index, asIntOf, run_underlying Try.underlying104, go_sem]
  have ix3 : ∀ w, (Instr.index 104 (.agg #[.slice (some ⟨gs, 0, none⟩) st.size ss, .slice ka1 KB.length kc1, .slice ra1 RB.length rc1, .slice (some ⟨gf, 0, none⟩) fd.size sf]) (.int .i64 3)).run Try.prog w = .ok (.slice (some ⟨gf, 0, none⟩) fd.size sf) w := fun w => by
   simp [Instr.index, asIntOf, run_underlying Try.underlying104, go_sem]
  go_wp2_with fail
  refine wp_loop_rounds 5 ?_
  rw [rounds_succ]
  go_wp2_with fail
  go_at_call 83
  refine (impl_bytes S52.out 0 X2 rfl (conv_rd S52.out 1 rfl) rfl ((L3.strB_length st).symm) (by have h := HLL.out.1; omega) (by have := HPS.out; omega) HXX.out.2.1).mono ?_
  rintro e w2 ⟨b2a, b2c, rfl, ho, hb⟩
  have S53 := Lib.hid (show Sl.Sep w _ [Sl.own 5 .u8 b1a b1c X1, conv gs (L3.strB st), Sl.own 5 .u8 ka1 kc1 KB, Sl.own 5 .u8 ra1 rc1 RB, conv gf (L3.strB fd), Sl.own 5 .u8 b2a b2c X2] from Sl.Sep.pushOwn S52.out hb ho)
  clear S52
  clear hb ho
  go_wp2_with fail
  rw [rounds_succ]
  go_wp2_with fail
  go_at_call 83
  refine (impl_bytes S53.out 5 X3 rfl ((Sl.Sep.own S53.out 2 rfl).reads) rfl (rfl) (by have h := HLL.out.2.1; omega) (by have := HPK.out; omega) HXX.out.2.2.1).mono ?_
  rintro e w3 ⟨b3a, b3c, rfl, ho, hb⟩
  have S54 := Lib.hid (show Sl.Sep w _ [_, _, _, _, _, _, Sl.own 5 .u8 b3a b3c X3] from Sl.Sep.pushOwn S53.out hb ho)
  clear S53
  clear hb ho
  go_wp2_with fail
  rw [rounds_succ]
  go_wp2_with fail
  go_at_call 83
  refine (impl_bytes S54.out 6 X4 rfl ((Sl.Sep.own S54.out 3 rfl).reads) rfl (rfl) (by have h := HLL.out.2.2.1; omega) (by have := HPR.out; omega) HXX.out.2.2.2.1).mono ?_
  rintro e w4 ⟨b4a, b4c, rfl, ho, hb⟩
  have S55 := Lib.hid (show Sl.Sep w _ [_, _, _, _, _, _, _, Sl.own 5 .u8 b4a b4c X4] from Sl.Sep.pushOwn S54.out hb ho)
  clear S54
  clear hb ho
  go_wp2_with fail
  rw [rounds_succ]
  go_wp2_with fail
  go_at_call 83
  refine (impl_bytes S55.out 7 X5 rfl (conv_rd S55.out 4 rfl) rfl ((L3.strB_length fd).symm) (by have h := HLL.out.2.2.2.1; omega) (by have := HPF.out; omega) HXX.out.2.2.2.2).mono ?_
  rintro e w5 ⟨b5a, b5c, rfl, ho, hb⟩
  have S56 := Lib.hid (show Sl.Sep w _ [_, _, _, _, _, _, _, _, Sl.own 5 .u8 b5a b5c X5] from Sl.Sep.pushOwn S55.out hb ho)
  clear S55
  clear hb ho
  go_wp2_with fail
  rw [rounds_succ]
  go_wp2_with fail
  go_ret
  exact Gave.mk rfl (Sl.Sep.ownAt S56.out 8 rfl) S56.out.old
set_option maxHeartbeats 8000000 in
theorem encodeOps_any (a : Option Addr) (c : Nat) (os : List Y_Op) (hl : os.length ≤ 1048576) (hf : ∀ o ∈ coS_Op os, FitO o) (w : World) (hr : Reads w w.heap.size a (os.flatMap cl_Op)) (hx : RowsRd w w.heap.size (rws_Op os)) :
  Calls Try.prog 26 #[.slice a os.length c] w (Gave w w.heap.size 5 .u8 (encL (coS_Op os))) := by
 have HR := Lib.hid (fun w' (h : Below w.heap.size w w') => hr.below h)
 have HX := Lib.hid (fun w' (h : Below w.heap.size w w') => (hx.below h).more h.size)
 have HF := Lib.hid hf
 obtain ⟨N, hN⟩ : ∃ n, n = os.length := ⟨_, rfl⟩
 rw [← hN] at hl ⊢
 have hl' : (N : Int) ≤ 1048576 := by omega
 have HN := Lib.hid hN
 clear hN hr hx hf
 have HSL := Lib.hid (show (coS_Op os).length = N from by rw [coS_len, HN.out])
 obtain ⟨R, hR0⟩ : ∃ x, encL (coS_Op os) = x := ⟨_, rfl⟩
 rw [hR0]
 have HR0 := Lib.hid hR0
 clear hR0
 obtain ⟨X0, hX0⟩ : ∃ x, enc (N : Int) = x := ⟨_, rfl⟩
 have HX0 := Lib.hid hX0
 clear hX0
 have S1 := Lib.hid (show Sl.Sep w w [] from Sl.Sep.start w)
 have hz0 : ([] : List Int).length ≤ 1000000000 := by decide
 go_enter Try.func26, Try.ntmps26
 by_cases h6 : (6 : Int) < (N : Int)
 ·
  skip
  go_wp2_with fail
  go_ret
  rw [show R = [] from by rw [← HR0.out]; exact okL_many (by rw [HSL.out]; omega)]
  exact Gave.mk rfl (Own.empty _ 5 .u8 S1.out.old.size) (below_alloc S1.out.old _ (Nat.le_refl _))
 ·
  skip
  go_wp2_with fail
  go_at_call 58
  refine (impl_num S1.out ((N : Int)) X0 (Reads.nil) (Nat.le_refl _) rfl (hz0) (by rw [List.nil_append]; exact HX0.out)).mono ?_
  rintro e w1 ⟨b0a, b0c, rfl, ho, hb⟩
  have S2 := Lib.hid (show Sl.Sep w _ [Sl.own 5 .u8 b0a b0c X0] from Sl.Sep.pushOwn S1.out hb ho)
  clear S1
  clear hb ho
  go_wp2_with fail
  go_loopw [3, 15] (fun s i wr => ∃ (k : Nat) (A : Option Addr) (C : Nat) (X : List Int), k ≤ N ∧ i = .int .i64 k ∧ s = .slice A X.length C ∧ Hid ((X = X0 ++ encOs ((coS_Op os).take k) ∧ ∀ j (hj : j < (coS_Op os).length), j < k → isO (coS_Op os)[j] = true) ∧ Sl.Sep w wr [Sl.own 5 .u8 A C X])) (fun _ i _ => N - (intOf i).toNat)
  case atStart => exact ⟨0, _, _, X0, Nat.zero_le _, rfl, rfl, And.intro ⟨by simp [encOs], fun j hj h => absurd h (by omega)⟩ S2.out⟩
  case round =>
   obtain ⟨k, A, C, X, hk, rfl, rfl, hrel⟩ := hrel
   have HI := Lib.hid hrel.out.1
   have S9 := Lib.hid hrel.out.2
   clear hrel S2
   by_cases hlt : (k : Int) < (N : Int)
   ·
    skip
    have hkl : k < os.length := by have := HN.out; omega
    obtain ⟨x, hx⟩ : ∃ x, os[k]? = some x := ⟨_, List.getElem?_eq_getElem hkl⟩
    obtain ⟨oad, e'⟩ := el_some cl_Op_len (by decide) (HR.out _ S9.out.old) hkl
    subst e'
    have hro := fun w' (h : Below w.heap.size w w') => rdOs (HX.out w' h) hx
    have hrr := fun w' (h : Below w.heap.size w w') => rdO (rdOs (HX.out w' h) hx)
    obtain ⟨kd, st, ⟨kk, kn, kt⟩, ⟨ra, rc, rl⟩, fd⟩ := x
    have HK := Lib.hid (fun w' (h : Below w.heap.size w w') => el7 cl_Op_len (HR.out _ h) hx rfl)
    dsimp only at HK hrr
    have HRO := Lib.hid hro
    have HRR := Lib.hid hrr
    have HC := Lib.hid (show (coS_Op os)[k]? = some (⟨kd, st, ⟨kk, kn, kt⟩, rl, fd⟩ : X_Op) from coS_at hx)
    have HFO := Lib.hid (HF.out _ (List.mem_of_getElem? HC.out))
    clear hx hrr hro
    obtain ⟨bo, hbo⟩ : ∃ b, isO (⟨kd, st, ⟨kk, kn, kt⟩, rl, fd⟩ : X_Op) = b := ⟨_, rfl⟩
    have HIO := fun w' (h : Below w.heap.size w w') => (isOp_any ⟨kd, st, ⟨kk, kn, kt⟩, ⟨ra, rc, rl⟩, fd⟩ HFO.out w' (HRO.out w' h)).mono (R' := fun e w2 => e = .returned (.bool bo) ∧ Below w'.heap.size w' w2) (fun e w2 hh => ⟨by rw [← hbo]; exact hh.1, hh.2⟩)
    unfold vv_Op at HIO
    dsimp only at HIO
    replace HIO := Lib.hid HIO
    have HBO := Lib.hid hbo
    clear hbo
    obtain ⟨f0, f1, f2, f3, f4, f5, f6⟩ := HK.out _ S9.out.old
    go_upto_region 7 with fail
    clear f0 f1 f2 f3 f4 f5 f6
    have S10 := Lib.hid (show Sl.Sep w _ [_, _] from L4.push_box S9.out 36 #[.int .i64 kd, .string st, .int .i64 kk, .int .i64 kn, .string kt, .slice ra rl.length rc, .string fd] wr.heap.size rfl)
    clear S9
    obtain ⟨g1, hg⟩ : ∃ g', g' = wr.heap.size := ⟨_, rfl⟩
    rw [← hg] at S10 ⊢
    clear hg
    generalize wr.alloc (.cells #[.int .i64 kd, .string st, .int .i64 kk, .int .i64 kn, .string kt, .slice ra rl.length rc, .string fd] 36) = w2 at S10 ⊢
    obtain ⟨f0, f1, f2, f3, f4, f5, f6⟩ := Bag.cs7 S10.out 1 rfl
    obtain ⟨f7, f8, f9, f10, f11, f12, f13⟩ := HK.out _ S10.out.old
    go_wp2_with fail
    go_at_call 12
    refine (HIO.out _ S10.out.old).mono ?_
    rintro e w3 ⟨rfl, hb⟩
    clear f0 f1 f2 f3 f4 f5 f6 f7 f8 f9 f10 f11 f12 f13
    have S11 := Lib.hid (S10.out.keep hb)
    clear S10
    clear hb
    obtain ⟨f0, f1, f2, f3, f4, f5, f6⟩ := Bag.cs7 S11.out 1 rfl
    obtain ⟨f7, f8, f9, f10, f11, f12, f13⟩ := HK.out _ S11.out.old
    cases bo with
    | false =>
     go_wp2_with fail
     go_ret
     rw [show R = [] from by rw [← HR0.out]; exact okL_no HC.out HBO.out]
     exact Gave.mk rfl (Own.empty _ 5 .u8 S11.out.old.size) (below_alloc S11.out.old _ (Nat.le_refl _))
    | true =>
     have HXB := Lib.hid (show X.length ≤ 300000000 from by
      rw [HI.out.1, List.length_append, ← HX0.out]
      have h1 := enc_len (N : Int)
      have h2 := encOs_len (l := (coS_Op os).take k) (fun o ho => by obtain ⟨j, hj, e⟩ := List.getElem_of_mem ho; rw [List.length_take] at hj; rw [← e, List.getElem_take]; exact HI.out.2 j (by omega) (by omega))
      have h3 : ((coS_Op os).take k).length ≤ k := by rw [List.length_take]; exact Nat.min_le_left _ _
      omega)
     obtain ⟨X5, hX5⟩ : ∃ x, X ++ encO (⟨kd, st, ⟨kk, kn, kt⟩, rl, fd⟩ : X_Op) = x := ⟨_, rfl⟩
     have HAP := fun w' (h : Below w.heap.size w w') (hr : Reads w' w'.heap.size A (ints .u8 X)) (hc : X.length ≤ C) => appendOp_any A C X ⟨kd, st, ⟨kk, kn, kt⟩, ⟨ra, rc, rl⟩, fd⟩ HFO.out HBO.out (by have := HXB.out; omega) hc w' hr (HRO.out w' h)
     replace HAP := fun w' h hr hc => show Calls _ _ _ _ (Gave _ _ _ _ X5) from hX5 ▸ HAP w' h hr hc
     unfold vv_Op at HAP
     dsimp only at HAP
     replace HAP := Lib.hid HAP
     have HNX := Lib.hid hX5
     clear hX5
     go_wp2_with fail
     go_at_call 59
     refine (HAP.out _ S11.out.old (Sl.Sep.own S11.out 0 rfl).reads (Sl.Sep.own S11.out 0 rfl).cap).mono ?_
     rintro e w4 ⟨b5a, b5c, rfl, ho, hb⟩
     clear f0 f1 f2 f3 f4 f5 f6 f7 f8 f9 f10 f11 f12 f13
     have S12 := Lib.hid (show Sl.Sep w _ [Sl.own 5 .u8 A C X, L4.boxR g1 36 #[.int .i64 kd, .string st, .int .i64 kk, .int .i64 kn, .string kt, .slice ra rl.length rc, .string fd], Sl.own 5 .u8 b5a b5c X5] from Sl.Sep.pushOwn S11.out hb ho)
     clear S11
     clear hb ho
     have S13 := Lib.hid (show Sl.Sep w _ [_] from Bag.take S12.out [2] (by rfl) (by decide))
     clear S12
     go_wp2_with fail
     go_roundw
     case rel => exact ⟨k + 1, b5a, b5c, X5, by omega, by go_num, rfl, And.intro ⟨by rw [encOs_take HC.out, ← List.append_assoc, ← HI.out.1]; exact HNX.out.symm, fun j hj h => by
      by_cases e : j < k
      ·
       exact HI.out.2 j hj e
      ·
       obtain rfl : j = k := by omega
       rw [val_of HC.out]; exact HBO.out⟩ S13.out⟩
     case measure => simp [intOf]; omega
   ·
    skip
    obtain rfl : k = N := by omega
    have HE := Lib.hid (show (coS_Op os).take k = coS_Op os from List.take_of_length_le (by rw [HSL.out]; exact Nat.le_refl _))
    have HRX := Lib.hid (show R = X from by rw [← HR0.out, HI.out.1, HE.out, ← HX0.out, okL_yes (by rw [HSL.out]; omega) (fun j hj => HI.out.2 j hj (by rw [HSL.out] at hj; omega)), HSL.out])
    go_wp2_with fail
    go_ret
    rw [HRX.out]
    exact Gave.mk rfl (Sl.Sep.ownAt S9.out 0 rfl) S9.out.old
end Go.Proofs.Ythiidcflpgbogaa.L9

namespace Go.Proofs.Ythiidcflpgbogaa.L5
open L4 (boxR push_box box_at)
open Go.ChangeShapes Go.WideShapes Go.ChangeAt Go.RowKit Mem Sl Ex L2 Sv

def GaveF (l : List Int) (off : Int) (w : World) (e : Ending) (w' : World) : Prop := Below w.heap.size w w' ∧
  ((rdF l off = none ∧ e = .returned (.tuple #[.agg #[.string ⟨#[]⟩, .int .i64 0], .int .i64 0, .bool false])) ∨
   ∃ t x p, rdF l off = some (⟨t, x⟩, p) ∧ e = .returned (.tuple #[.agg #[.string t, .int .i64 x], .int .i64 p, .bool true]) ∧ 0 ≤ p ∧ p ≤ l.length ∧ t.size ≤ 281474976710656)
theorem put_two {W w : World} {rs : List Res} {g : Nat} {t : TypeId} {x y x' y' : Value} (h : Sep W w rs) (i : Nat) (hi : rs[i]? = some (boxR g t #[x, y])) : Sep W ((w.setCell ⟨g, 0, none⟩ x').setCell ⟨g, 1, none⟩ y') (rs.set i (boxR g t #[x', y'])) := by
  have h1 := put_box5 h i hi 0 x'
  have h2 := put_box5 h1 i (by rw [List.getElem?_set_self (List.getElem?_eq_some_iff.1 hi).1]) 1 y'
  rw [List.set_set] at h2
  exact h2
set_option maxHeartbeats 4000000 in
theorem readField_any (a : Option Addr) (c : Nat) (l : List Int) (off : Int) (w : World) (hr : Reads w w.heap.size a (ints .u8 l)) (hb : Byt l) (hc : l.length ≤ c) (hl : l.length ≤ 1099511627776) (h0 : 0 ≤ off) (h1 : off ≤ l.length) :
    Calls Try.prog 121 #[.slice a l.length c, .int .i64 off] w (GaveF l off w) := by
  have HRD := Lib.hid (fun (o : Int) (h0 : 0 ≤ o) (h1 : o ≤ l.length) (w1 : World) (h : Below w.heap.size w w1) => show Calls Try.prog 87 #[.slice a l.length c, .int .i64 o] w1 (fun e w' => e = .returned (.tuple #[.int .i64 (rdN l o), .int .i64 (rdE l o), .bool (rdB l o)]) ∧ Below w1.heap.size w1 w') from implReadB_any a c l o w1 w.heap.size h.size (hr.below h) hb hc hl (by omega) (by omega))
  have HRB := Lib.hid (fun (o : Int) (h0 : 0 ≤ o) (h1 : o ≤ l.length) (w1 : World) (h : Below w.heap.size w w1) => implReadBytes_any a c l o 8 w1 ((hr.below h).more h.size) hb hc hl (by omega) (by omega))
  have HBD := Lib.hid (fun o => rd_bounds hb o)
  have HBE := Lib.hid (fun o => rbE_bounds hb o)
  obtain ⟨N, hN⟩ : ∃ n, n = l.length := ⟨_, rfl⟩
  rw [← hN] at HRD HRB hl h1 HBD HBE ⊢
  have HN := Lib.hid hN
  clear hN hr hb hc
  have hl' : (N : Int) ≤ 1099511627776 := by omega
  have S1 := Lib.hid (push_box (Sep.start w) 92 #[.string ⟨#[]⟩, .int .i64 0] w.heap.size rfl)
  obtain ⟨W1, hW1⟩ : ∃ u, u = w.alloc (.cells #[.string ⟨#[]⟩, .int .i64 0] 92) := ⟨_, rfl⟩
  rw [← hW1] at S1
  have HB := Lib.hid (HRB.out off h0 h1 W1 S1.out.old)
  have HP := Lib.hid (HBE.out off)
  obtain ⟨L1, hL1⟩ : ∃ v, v = rbL l off 8 := ⟨_, rfl⟩
  obtain ⟨p1, hp1⟩ : ∃ v, v = rbE l off 8 := ⟨_, rfl⟩
  obtain ⟨f1, hf1⟩ : ∃ v, v = rbB l off 8 := ⟨_, rfl⟩
  rw [← hL1, ← hp1, ← hf1] at HB
  rw [← hp1] at HP
  have HLL := Lib.hid (show L1.length ≤ N by rw [hL1, HN.out]; exact rbL_len l off)
  have HV1 := Lib.hid (And.intro hL1 (And.intro hp1 hf1))
  obtain ⟨hp2, hp3⟩ := HP.out
  clear hL1 hp1 hf1 HP
  go_enter Try.func121, Try.ntmps121
  go_upto_region 1 with fail
  rw [← hW1]
  clear hW1
  go_wp2_with fail
  go_at_call 109
  refine HB.out.mono ?_
  rintro e w5 ⟨a5, c5, rfl, ho5, hb5⟩
  have S5 := Lib.hid (Sep.pushOwn S1.out hb5 ho5)
  clear ho5 hb5 HB
  obtain ⟨z0, z1⟩ := Row.two (box_at S5.out 0 rfl)
  have z2 := (box_at S5.out 0 rfl).free 0
  have z3 := (box_at S5.out 0 rfl).free 1
  cases f1 with
  | false =>
    have S6 := Lib.hid (put_two (x' := .string ⟨#[]⟩) (y' := .int .i64 0) S5.out 0 rfl)
    go_wp2_with fail
    refine bodyPost_ret (v := .tuple #[.agg #[.string ⟨#[]⟩, .int .i64 0], .int .i64 0, .bool false]) (by simp [results, Try.results121, go_sem, z0, z1]) rfl ?_
    exact ⟨S6.out.old, .inl ⟨rdF_no HV1.out.2.2.symm, rfl⟩⟩
  | true =>
    have HQ := Lib.hid (HRD.out p1 hp2 hp3 w5 S5.out.old)
    have HB2 := Lib.hid (HBD.out p1)
    obtain ⟨v2, hv2'⟩ : ∃ v, v = rdN l p1 := ⟨_, rfl⟩
    obtain ⟨e2, he2'⟩ : ∃ v, v = rdE l p1 := ⟨_, rfl⟩
    obtain ⟨f2, hf2⟩ : ∃ v, v = rdB l p1 := ⟨_, rfl⟩
    rw [← hv2', ← he2', ← hf2] at HQ
    rw [← hv2', ← he2'] at HB2
    have HV2 := Lib.hid (And.intro hv2' (And.intro he2' hf2))
    clear hv2' he2' hf2
    go_wp2_with fail
    go_at_call 87
    refine HQ.out.mono ?_
    rintro e w6 ⟨rfl, hb6⟩
    have S6 := Lib.hid (S5.out.keep hb6)
    clear hb6 HQ z0 z1 z2 z3
    obtain ⟨z0, z1⟩ := Row.two (box_at S6.out 0 rfl)
    have z2 := (box_at S6.out 0 rfl).free 0
    have z3 := (box_at S6.out 0 rfl).free 1
    cases f2 with
    | false =>
      have S7 := Lib.hid (put_two (x' := .string ⟨#[]⟩) (y' := .int .i64 0) S6.out 0 rfl)
      go_wp2_with fail
      refine bodyPost_ret (v := .tuple #[.agg #[.string ⟨#[]⟩, .int .i64 0], .int .i64 0, .bool false]) (by simp [results, Try.results121, go_sem, z0, z1]) rfl ?_
      exact ⟨S7.out.old, .inl ⟨rdF_no2 (by rw [← HV1.out.2.1]; exact HV2.out.2.2.symm), rfl⟩⟩
    | true =>
      have HF := Lib.hid (show rdF l off = some (⟨strOfNums L1, v2⟩, e2) by rw [rdF_yes HV1.out.2.2.symm (by rw [← HV1.out.2.1]; exact HV2.out.2.2.symm), name_str, ← HV1.out.1, ← HV1.out.2.1, ← HV2.out.1, ← HV2.out.2.1])
      have HCV := Lib.hid (run_bytes_string (P := Try.prog) 51 5 9 Try.underlying51 Try.underlying5 Try.underlying9 a5 c5 L1 w6 _ (S6.out.own 1 rfl).reads)
      have HSZ := Lib.hid (show (strOfNums L1).size ≤ 281474976710656 by
        have h := strOfNums_size L1
        have := HLL.out
        omega)
      obtain ⟨t, ht⟩ : ∃ t, t = strOfNums L1 := ⟨_, rfl⟩
      rw [← ht] at HF HCV HSZ
      clear ht
      have hcv := HCV.out
      have S7 := Lib.hid (put_two (x' := .string t) (y' := .int .i64 v2) S6.out 0 rfl)
      obtain ⟨_, _, k0, k1⟩ := HB2.out
      go_wp2_with fail
      refine bodyPost_ret (v := .tuple #[.agg #[.string t, .int .i64 v2], .int .i64 e2, .bool true]) (by simp [results, Try.results121, go_sem, z0, z1]) rfl ?_
      exact ⟨S7.out.old, .inr ⟨t, v2, e2, HF.out, rfl, k0, by rw [← HN.out]; exact k1, HSZ.out⟩⟩
set_option maxHeartbeats 4000000 in
theorem decodeRecord_any (a : Option Addr) (c : Nat) (l : List Int) (w : World) (hr : Reads w w.heap.size a (ints .u8 l)) (hb : Byt l) (hc : l.length ≤ c) (hl : l.length ≤ 1099511627776) :
    Calls Try.prog 111 #[.slice a l.length c] w (GaveRB w (decL l) (decB l)) := by
  obtain ⟨i0, hi, hz0, hz1, hz2⟩ := fieldInfo
  have HI := Lib.hid (And.intro hi (And.intro hz0 (And.intro hz1 hz2)))
  have HRF0 := Lib.hid (fun (o : Int) (h0 : 0 ≤ o) (h1 : o ≤ l.length) (w1 : World) (h : Below w.heap.size w w1) => readField_any a c l o w1 ((hr.below h).more h.size) hb hc hl h0 h1)
  have HRD := Lib.hid (fun (w1 : World) (h : Below w.heap.size w w1) => show Calls Try.prog 87 #[.slice a l.length c, .int .i64 0] w1 (fun e w' => e = .returned (.tuple #[.int .i64 (rdN l 0), .int .i64 (rdE l 0), .bool (rdB l 0)]) ∧ Below w1.heap.size w1 w') from implReadB_any a c l 0 w1 w.heap.size h.size (hr.below h) hb hc hl (by omega) (by omega))
  have HN0 := Lib.hid (rd_bounds hb 0)
  have HDR := Lib.hid (decR_rr l)
  obtain ⟨N, hN⟩ : ∃ n, n = l.length := ⟨_, rfl⟩
  rw [← hN] at HRD HRF0 HN0 hl HDR ⊢
  have HN := Lib.hid hN
  clear hN hr hb hc
  have hl' : (N : Int) ≤ 1099511627776 := by omega
  obtain ⟨v0, hv0⟩ : ∃ v, v = rdN l 0 := ⟨_, rfl⟩
  obtain ⟨e0, he0⟩ : ∃ v, v = rdE l 0 := ⟨_, rfl⟩
  obtain ⟨b0, hb0⟩ : ∃ v, v = rdB l 0 := ⟨_, rfl⟩
  rw [← hv0, ← he0, ← hb0] at HRD
  rw [← hv0, ← he0] at HN0
  obtain ⟨hv1, hv2, he1, he2⟩ := HN0.out
  have HV := Lib.hid (And.intro hv0 (And.intro he0 hb0))
  clear hv0 he0 hb0 HN0
  have S1 := Lib.hid (push_box (Sep.start w) 34 #[.slice none 0 0] w.heap.size rfl)
  obtain ⟨W1, hW1⟩ : ∃ u, u = w.alloc (.cells #[.slice none 0 0] 34) := ⟨_, rfl⟩
  rw [← hW1] at S1
  have HNO := Lib.hid (show rrO l 0 = none → ∀ w' cs, Sep w w' (boxR w.heap.size 34 #[.slice none 0 0] :: cs) → GaveRB w (decL l) (decB l) (.returned (.tuple #[.agg #[.slice none 0 0], .bool false])) w' from fun h w' cs hS => by
    obtain ⟨a1, a2, a3⟩ := rr_none h
    have h2 := HDR.out
    rw [a3, Bool.false_and] at h2
    unfold GaveRB decL decB
    rw [h2]
    exact ⟨none, 0, rfl, OwnV.nil _ _ _ _, hS.old⟩)
  go_enter Try.func111, Try.ntmps111
  go_upto_region 1 with fail
  rw [← hW1]
  clear hW1
  go_wp2_with fail
  go_at_call 87
  refine (HRD.out _ S1.out.old).mono ?_
  rintro e w2 ⟨rfl, h2⟩
  have H2 := Lib.hid (S1.out.keep h2)
  clear h2 S1 HRD
  obtain ⟨z0, z1⟩ := Row.one (box_at H2.out 0 rfl)
  cases b0 with
  | false =>
    have HE := Lib.hid (show rrO l 0 = none by unfold rrO; rw [← HV.out.2.2]; rfl)
    have S3 := Lib.hid (put_box5 H2.out 0 rfl 0 (.slice none 0 0))
    go_wp2_with fail
    refine bodyPost_ret (v := .tuple #[.agg #[.slice none 0 0], .bool false]) (by simp [results, Try.results111, go_sem, z0]) rfl ?_
    exact HNO.out HE.out _ _ S3.out
  | true =>
    by_cases h6 : v0 ≤ 6
    rotate_left
    · have HE := Lib.hid (show rrO l 0 = none by unfold rrO; rw [← HV.out.2.2, ← HV.out.1, decide_eq_false h6]; rfl)
      have S3 := Lib.hid (put_box5 H2.out 0 rfl 0 (.slice none 0 0))
      have h6' : 6 < v0 := by omega
      go_wp2_with fail
      refine bodyPost_ret (v := .tuple #[.agg #[.slice none 0 0], .bool false]) (by simp [results, Try.results111, go_sem, z0]) rfl ?_
      exact HNO.out HE.out _ _ S3.out
    obtain ⟨n, hn0⟩ : ∃ k : Nat, v0 = k := ⟨v0.toNat, by omega⟩
    subst hn0
    have HRF := Lib.hid (show rrO l 0 = rdFs l e0 n by
      unfold rrO
      rw [← HV.out.2.2, ← HV.out.1, decide_eq_true h6, ← HV.out.2.1, Int.toNat_natCast]
      rfl)
    obtain ⟨G, hG⟩ : ∃ g, g = w2.heap.size := ⟨_, rfl⟩
    obtain ⟨w3, hw3⟩ : ∃ u, u = w2.alloc (.cells #[.slice none 0 0] 34) := ⟨_, rfl⟩
    have S3 := push_box H2.out 34 #[.slice none 0 0] G hG
    rw [← hw3] at S3
    have S4 := Lib.hid (push_own S3 (Below.refl _ _) (OwnV.nil w3 _ 92 2))
    clear S3
    go_upto_region 5 with fail
    rw [← hw3, ← hG]
    clear hw3 hG z0 z1 HV
    go_wp2
    go_loopw [5, 26] (fun o i wr => ∃ (k : Nat) (o1 : Int) (a1 : Option Addr) (c1 : Nat) (acc : List F), k ≤ n ∧ i = .int .i64 k ∧ o = .int .i64 o1 ∧ 0 ≤ o1 ∧ o1 ≤ N ∧ Hid (Sep w wr [boxR w.heap.size 34 #[.slice none 0 0], boxR G 34 #[.slice a1 k c1], ownV 92 2 a1 c1 k (cellsF acc)] ∧ RfMid l e0 n k acc o1 ∧ Small acc)) (fun _ i _ => n - (intOf i).toNat)
    case atStart => exact ⟨0, e0, none, 0, [], Nat.zero_le _, rfl, rfl, he1, he2, S4.out, RfMid.start _ _ _, fun f hf => by cases hf⟩
    case round =>
      obtain ⟨k, o1, a1, c1, acc, hk, rfl, rfl, ho0, ho1, hrel⟩ := hrel
      by_cases hlt : (k : Int) < (n : Int)
      · have HB := Lib.hid (HRF0.out o1 ho0 ho1 wr hrel.out.1.old)
        go_wp2_with fail
        go_at_call 121
        refine HB.out.mono ?_
        rintro e w5 ⟨hb5, hcase⟩
        have S5 := Lib.hid (hrel.out.1.keep hb5)
        have HCs := Lib.hid hcase
        clear hb5 hcase HB
        obtain ⟨z0, z1⟩ := Row.one (box_at S5.out 0 rfl)
        rcases HCs.out with ⟨hno, rfl⟩ | ⟨t, x, p, hyes, rfl, hp0, hp1, hts⟩
        · have HE := Lib.hid (show rrO l 0 = none by rw [HRF.out]; exact RfMid.none hrel.out.2.1 (by omega) hno)
          have S6 := Lib.hid (S5.out.alloc (.cells #[.string ⟨#[]⟩, .int .i64 0] 92))
          obtain ⟨w6, hw6⟩ : ∃ u, u = w5.alloc (.cells #[.string ⟨#[]⟩, .int .i64 0] 92) := ⟨_, rfl⟩
          rw [← hw6] at S6
          clear hno HCs z0 z1
          go_upto_region 8 with fail
          rw [← hw6]
          clear hw6
          obtain ⟨z0, z1⟩ := Row.one (box_at S6.out 0 rfl)
          have S7 := Lib.hid (put_box5 S6.out 0 rfl 0 (.slice none 0 0))
          go_wp2_with fail
          refine bodyPost_ret (v := .tuple #[.agg #[.slice none 0 0], .bool false]) (by simp [results, Try.results111, go_sem, z0]) rfl ?_
          exact HNO.out HE.out _ _ S7.out
        · have HF := Lib.hid hyes
          have HTS := Lib.hid hts
          rw [← HN.out] at hp1
          have S6 := Lib.hid (push_box S5.out 92 #[.string t, .int .i64 x] w5.heap.size rfl)
          obtain ⟨w6, hw6⟩ : ∃ u, u = w5.alloc (.cells #[.string t, .int .i64 x] 92) := ⟨_, rfl⟩
          rw [← hw6] at S6
          obtain ⟨g5, hg5⟩ : ∃ g, g = w5.heap.size := ⟨_, rfl⟩
          rw [← hg5] at S6
          clear hyes hts z0 z1 HCs
          go_upto_region 8 with fail
          rw [← hw6, ← hg5]
          clear hw6 hg5
          obtain ⟨f0, f1⟩ := Row.two (box_at S6.out 3 rfl)
          obtain ⟨r0, r1⟩ := Row.one (box_at S6.out 1 rfl)
          have S7 := Lib.hid (S6.out.alloc (.cells #[.string t, .int .i64 x] 92))
          have R2 := Lib.hid (reads_two w6 t x _ rfl 92)
          go_wp2_with (at_builtin; refine wpList_append_v S7.out 2 rfl rfl _ _ 32 (by rfl) i0 (.agg #[.string ⟨#[]⟩, .int .i64 0]) 24 Try.underlying32 HI.out.1 HI.out.2.1 HI.out.2.2.1 HI.out.2.2.2 rfl (by omega) _ (by rfl) rfl _ _ 1 _ _ (cellsF [⟨t, x⟩]) (by rfl) rfl R2.out rfl (cellsF_one _) (by unfold maxLen; omega) (by omega) ?_; intro a9 c9 w9 S9'; have S9 := Lib.hid S9'; clear S9'; obtain ⟨q0, q1⟩ := Row.one (box_at S9.out 1 rfl))
          have S10 := Lib.hid (sep_three (put_box5 S9.out 1 rfl 0 (.slice a9 (k + 1) c9)))
          clear q0 q1 r0 r1 f0 f1 S9
          go_roundw
          case rel => exact ⟨k + 1, p, a9, c9, acc ++ [⟨t, x⟩], by omega, by go_num, rfl, hp0, hp1, And.intro (by rw [cellsF_append]; exact S10.out) (And.intro (RfMid.next hrel.out.2.1 (by omega) HF.out) (fun f hf => by
            rcases List.mem_append.1 hf with h | h
            · exact hrel.out.2.2 f h
            · rw [List.mem_singleton.1 h]; exact HTS.out))⟩
          case measure => simp [intOf]; omega
      · obtain rfl : k = n := by omega
        have HD := Lib.hid (show rrO l 0 = some (acc, o1) by rw [HRF.out]; exact RfMid.done hrel.out.2.1)
        have HAL := Lib.hid hrel.out.2.1.1
        have S5 := Lib.hid hrel.out.1
        obtain ⟨br, hbr⟩ : ∃ b, isR acc = b := ⟨_, rfl⟩
        have hIS := isRecord_any a1 c1 acc (by rw [HAL.out]; omega) hrel.out.2.2 wr (own_at S5.out 2 rfl).reads
        rw [HAL.out, hbr] at hIS
        have HIS := Lib.hid hIS
        have HDec := Lib.hid (show decR l = if br && decide (o1 = (N : Int)) then some acc else none by
          obtain ⟨d1, d2, d3⟩ := rr_some HD.out
          have h := HDR.out
          rw [d1, d2, d3, hbr] at h
          exact h)
        clear hIS hbr
        obtain ⟨z0, z1⟩ := Row.one (box_at S5.out 0 rfl)
        obtain ⟨r0, r1⟩ := Row.one (box_at S5.out 1 rfl)
        by_cases hoN : o1 = (N : Int)
        · subst hoN
          cases br with
          | true =>
            go_wp2_with (go_at_call 45; refine HIS.out.mono ?_; rintro e w7 ⟨rfl, h7⟩; have S7 := Lib.hid (S5.out.keep h7); clear h7 z0 z1 r0 r1; obtain ⟨z0, z1⟩ := Row.one (box_at S7.out 0 rfl); obtain ⟨r0, r1⟩ := Row.one (box_at S7.out 1 rfl))
            have HE := Lib.hid (show decL l = acc ∧ decB l = true by unfold decL decB; rw [HDec.out]; simp)
            have S8 := Lib.hid (put_box5 S7.out 0 rfl 0 (.slice a1 k c1))
            go_wp2_with fail
            refine bodyPost_ret (v := .tuple #[.agg #[.slice a1 k c1], .bool true]) (by simp [results, Try.results111, go_sem, z0]) rfl ?_
            unfold GaveRB
            rw [HE.out.1, HE.out.2, HAL.out]
            exact ⟨a1, c1, rfl, own_from S8.out 2 rfl, S8.out.old⟩
          | false =>
            go_wp2_with (go_at_call 45; refine HIS.out.mono ?_; rintro e w7 ⟨rfl, h7⟩; have S7 := Lib.hid (S5.out.keep h7); clear h7 z0 z1 r0 r1; obtain ⟨z0, z1⟩ := Row.one (box_at S7.out 0 rfl); obtain ⟨r0, r1⟩ := Row.one (box_at S7.out 1 rfl))
            have HE := Lib.hid (show decL l = [] ∧ decB l = false by unfold decL decB; rw [HDec.out]; simp)
            have S8 := Lib.hid (put_box5 S7.out 0 rfl 0 (.slice none 0 0))
            go_wp2_with fail
            refine bodyPost_ret (v := .tuple #[.agg #[.slice none 0 0], .bool false]) (by simp [results, Try.results111, go_sem, z0]) rfl ?_
            unfold GaveRB
            rw [HE.out.1, HE.out.2]
            exact ⟨none, 0, rfl, OwnV.nil _ _ _ _, S8.out.old⟩
        · have HE := Lib.hid (show decL l = [] ∧ decB l = false by unfold decL decB; rw [HDec.out, decide_eq_false hoN, Bool.and_false]; exact ⟨rfl, rfl⟩)
          have S8 := Lib.hid (put_box5 S5.out 0 rfl 0 (.slice none 0 0))
          go_wp2_with fail
          refine bodyPost_ret (v := .tuple #[.agg #[.slice none 0 0], .bool false]) (by simp [results, Try.results111, go_sem, z0]) rfl ?_
          unfold GaveRB
          rw [HE.out.1, HE.out.2]
          exact ⟨none, 0, rfl, OwnV.nil _ _ _ _, S8.out.old⟩
end Go.Proofs.Ythiidcflpgbogaa.L5

namespace Go.Proofs.Ythiidcflpgbogaa.L4
open Go.Op (bytesLess)
open Go.ChangeShapes Go.WideShapes Go.ChangeAt Go.RowKit Mem Sl Ex L2

theorem or_int (n x : Int) (hn : 0 ≤ n) (h0 : 0 ≤ x) (h1 : x ≤ 255) (hm : n ≤ 1099511627776) : bits .or .i64 (n * 256) x = n * 256 + x := by
 obtain ⟨m, rfl⟩ : ∃ m : Nat, n = m := ⟨n.toNat, by omega⟩
 exact or_byte m x h0 h1 hm
theorem six_cons : ∀ (r : List Int), 6 ≤ r.length → ∃ x0 x1 x2 x3 x4 x5 q, r = x0 :: x1 :: x2 :: x3 :: x4 :: x5 :: q
 | x0 :: x1 :: x2 :: x3 :: x4 :: x5 :: q, _ => ⟨x0, x1, x2, x3, x4, x5, q, rfl⟩
 | [], h => absurd h (by simp)
 | [_], h => absurd h (by simp)
 | [_, _], h => absurd h (by simp)
 | [_, _, _], h => absurd h (by simp)
 | [_, _, _, _], h => absurd h (by simp)
 | [_, _, _, _, _], h => absurd h (by simp)
theorem six_val (x0 x1 x2 x3 x4 x5 : Int) (q : List Int) (h : Byt (x0 :: x1 :: x2 :: x3 :: x4 :: x5 :: q)) : (val ((toU (x0 :: x1 :: x2 :: x3 :: x4 :: x5 :: q)).take 6) : Int) = ((((x0 * 256 + x1) * 256 + x2) * 256 + x3) * 256 + x4) * 256 + x5 := by
 have b0 := h x0 (by simp)
 have b1 := h x1 (by simp)
 have b2 := h x2 (by simp)
 have b3 := h x3 (by simp)
 have b4 := h x4 (by simp)
 have b5 := h x5 (by simp)
 simp only [toU, List.map_cons, List.take_succ_cons, List.take_zero, val, List.foldl_cons, List.foldl_nil, UInt8.toNat_ofNat']
 omega
set_option maxHeartbeats 2000000 in
theorem decodeNumber_any (x0 x1 x2 x3 x4 x5 V : Int) (a0 : 0 ≤ x0 ∧ x0 ≤ 255) (a1 : 0 ≤ x1 ∧ x1 ≤ 255) (a2 : 0 ≤ x2 ∧ x2 ≤ 255) (a3 : 0 ≤ x3 ∧ x3 ≤ 255) (a4 : 0 ≤ x4 ∧ x4 ≤ 255) (a5 : 0 ≤ x5 ∧ x5 ≤ 255)
  (hV : V = ((((x0 * 256 + x1) * 256 + x2) * 256 + x3) * 256 + x4) * 256 + x5) (w : World) :
  Calls Try.prog 120 #[.agg #[.int .u8 x0, .int .u8 x1, .int .u8 x2, .int .u8 x3, .int .u8 x4, .int .u8 x5]] w fun e w' => e = .returned (.int .i64 (V - 1000000000000)) ∧ Below w.heap.size w w' := by
 have g0 : bits .or .i64 0 x0 = x0 := by have := or_int 0 x0 (by omega) a0.1 a0.2 (by omega); simpa using this
 have g1 := or_int x0 x1 a0.1 a1.1 a1.2 (by omega)
 obtain ⟨n1, hn1⟩ : ∃ n, n = x0 * 256 + x1 := ⟨_, rfl⟩
 have b1 : 0 ≤ n1 ∧ n1 ≤ 65535 := by omega
 rw [← hn1] at g1 hV
 have g2 := or_int n1 x2 b1.1 a2.1 a2.2 (by omega)
 obtain ⟨n2, hn2⟩ : ∃ n, n = n1 * 256 + x2 := ⟨_, rfl⟩
 have b2 : 0 ≤ n2 ∧ n2 ≤ 16777215 := by omega
 rw [← hn2] at g2 hV
 have g3 := or_int n2 x3 b2.1 a3.1 a3.2 (by omega)
 obtain ⟨n3, hn3⟩ : ∃ n, n = n2 * 256 + x3 := ⟨_, rfl⟩
 have b3 : 0 ≤ n3 ∧ n3 ≤ 4294967295 := by omega
 rw [← hn3] at g3 hV
 have g4 := or_int n3 x4 b3.1 a4.1 a4.2 (by omega)
 obtain ⟨n4, hn4⟩ : ∃ n, n = n3 * 256 + x4 := ⟨_, rfl⟩
 have b4 : 0 ≤ n4 ∧ n4 ≤ 1099511627775 := by omega
 rw [← hn4] at g4 hV
 have g5 := or_int n4 x5 b4.1 a5.1 a5.2 (by omega)
 rw [← hV] at g5
 have b5 : 0 ≤ V ∧ V ≤ 281474976710655 := by omega
 clear hn1 hn2 hn3 hn4 hV
 obtain ⟨a00, a01⟩ := a0
 obtain ⟨a10, a11⟩ := a1
 obtain ⟨a20, a21⟩ := a2
 obtain ⟨a30, a31⟩ := a3
 obtain ⟨a40, a41⟩ := a4
 obtain ⟨a50, a51⟩ := a5
 obtain ⟨b10, b11⟩ := b1
 obtain ⟨b20, b21⟩ := b2
 obtain ⟨b30, b31⟩ := b3
 obtain ⟨b40, b41⟩ := b4
 obtain ⟨b50, b51⟩ := b5
 have i0 : ∀ w, (Instr.index 128 (.agg #[.int .u8 x0, .int .u8 x1, .int .u8 x2, .int .u8 x3, .int .u8 x4, .int .u8 x5]) (.int .i64 0)).run Try.prog w = .ok (.int .u8 x0) w := fun w => by
  simp [Instr.index, asIntOf, run_underlying Try.underlying128, go_sem]
 have i1 : ∀ w, (Instr.index 128 (.agg #[.int .u8 x0, .int .u8 x1, .int .u8 x2, .int .u8 x3, .int .u8 x4, .int .u8 x5]) (.int .i64 1)).run Try.prog w = .ok (.int .u8 x1) w := fun w => by
  simp [Instr.index, asIntOf, run_underlying Try.underlying128, go_sem]
 have i2 : ∀ w, (Instr.index 128 (.agg #[.int .u8 x0, .int .u8 x1, .int .u8 x2, .int .u8 x3, .int .u8 x4, .int .u8 x5]) (.int .i64 2)).run Try.prog w = .ok (.int .u8 x2) w := fun w => by
  simp [Instr.index, asIntOf, run_underlying Try.underlying128, go_sem]
 have i3 : ∀ w, (Instr.index 128 (.agg #[.int .u8 x0, .int .u8 x1, .int .u8 x2, .int .u8 x3, .int .u8 x4, .int .u8 x5]) (.int .i64 3)).run Try.prog w = .ok (.int .u8 x3) w := fun w => by
  simp [Instr.index, asIntOf, run_underlying Try.underlying128, go_sem]
 have i4 : ∀ w, (Instr.index 128 (.agg #[.int .u8 x0, .int .u8 x1, .int .u8 x2, .int .u8 x3, .int .u8 x4, .int .u8 x5]) (.int .i64 4)).run Try.prog w = .ok (.int .u8 x4) w := fun w => by
  simp [Instr.index, asIntOf, run_underlying Try.underlying128, go_sem]
 have i5 : ∀ w, (Instr.index 128 (.agg #[.int .u8 x0, .int .u8 x1, .int .u8 x2, .int .u8 x3, .int .u8 x4, .int .u8 x5]) (.int .i64 5)).run Try.prog w = .ok (.int .u8 x5) w := fun w => by
  simp [Instr.index, asIntOf, run_underlying Try.underlying128, go_sem]
 go_enter Try.func120, Try.ntmps120
 go_wp2
 refine wp_loop_rounds 7 ?_
 iterate 7 (rw [rounds_succ]; go_wp2)
 go_ret
 exact ⟨rfl, below_alloc (Below.refl _ _) _ (Nat.le_refl _)⟩
set_option maxHeartbeats 2000000 in
theorem implDecodeKey_any (a : Option Addr) (c : Nat) (l : List Int) (w : World) (hr : Reads w w.heap.size a (ints .u8 l)) (hy : Byt l) (hc : l.length ≤ c) (hl : l.length ≤ 1099511627776) :
  Calls Try.prog 110 #[.slice a l.length c] w fun e w' => e = DkE l ∧ Below w.heap.size w w' := by
 have HB := Lib.hid (fun (w1 : World) (h : Below w.heap.size w w1) o => below_alloc h o (Nat.le_refl _))
 rcases l with _ | ⟨x, r⟩
 ·
  have HD := Lib.hid (dec_no (l := []) rfl)
  clear hr hy hc hl
  go_enter Try.func110, Try.ntmps110
  go_wp2
  refine bodyPost_ret (v := .tuple #[K.zero.v, .bool false]) (by simp [results, Try.results110, go_sem, K.v, K.zero]) rfl ?_
  exact ⟨by unfold DkE; rw [HD.out.1, HD.out.2], HB.out w (Below.refl _ _) _⟩
 ·
  obtain ⟨hx0, hx1⟩ := hy x (by simp)
  obtain ⟨ad, rfl, hab, hcell⟩ := hr.int 0 (by simp)
  have hcell0 : w.cell? (ad.add 0) = some (.int .u8 x) := hcell
  rw [show ad.add 0 = ad by simp [Addr.add]] at hcell0
  by_cases h2 : x = 2
  ·
   subst h2
   have hcn : r.length + 1 ≤ c := by simpa using hc
   have hln : (r.length : Int) ≤ 1099511627776 := by simp at hl; omega
   have hrr : Reads w w.heap.size (some (ad.add 1)) (ints .u8 r) := fun j hj => by
    obtain ⟨ad', he, hb, hcl⟩ := hr (j + 1) (by simp at hj ⊢; omega)
    injection he with he
    subst he
    refine ⟨_, rfl, by rw [add_block]; exact hb, ?_⟩
    rw [add_add, Nat.add_comm 1 j, hcl]
    simp [ints]
   have hcv := fun (w1 : World) (h : Below w.heap.size w w1) (cp : Nat) => run_bytes_string 51 5 9 Try.underlying51 Try.underlying5 Try.underlying9 (some (ad.add 1)) cp r w1 _ (hrr.below h)
   have HE := dec_is (cand_text (r := r))
   obtain ⟨S, hS⟩ : ∃ s, strOfNums r = s := ⟨_, rfl⟩
   rw [hS] at HE
   obtain ⟨ik, hik⟩ : ∃ b, isK ⟨2, 0, S⟩ = b := ⟨_, rfl⟩
   have HK := Lib.hid (fun w => implIsKey_any ⟨2, 0, S⟩ (by rw [← hS]; show (strOfNums r).data.size ≤ _; rw [← Array.length_toList, strOfNums_data]; simp; omega) w)
   rw [hik] at HK HE
   rw [hS] at hcv
   have hcl : c = 1 ∨ ¬ c = 1 := by omega
   have t0 := Two.made w 31 ⟨2, 0, S⟩
   have hcw := hcv ((w.alloc (.cells #[.int .i64 0, .int .i64 0, .string ⟨#[]⟩] 31)).alloc (.cells #[.int .i64 2, .int .i64 0, .string ⟨#[]⟩] 31)) (below_alloc (below_alloc (Below.refl _ _) _ (Nat.le_refl _)) _ (Nat.le_refl _)) (c - 1)
   rw [show ad.add 1 = ⟨ad.block, ad.off + 1, none⟩ from rfl] at hcw
   obtain ⟨w2, hw2⟩ : ∃ x, x = (w.alloc (.cells #[.int .i64 0, .int .i64 0, .string ⟨#[]⟩] 31)).alloc (.cells #[.int .i64 2, .int .i64 0, .string S] 31) := ⟨_, rfl⟩
   have t0' : Two w w2 31 ⟨2, 0, S⟩ := by rw [hw2]; exact t0
   have T0 := Lib.hid t0'
   clear t0 t0' hcv hrr hr hy hc hl hcell hik
   have hc0 : (0 : Int) < (c : Int) := by omega
   have hc1 : (1 : Int) ≤ (c : Int) := by omega
   have HE := Lib.hid HE
   rcases hcl with rfl | hcl
   ·
    obtain rfl : r = [] := List.eq_nil_of_length_eq_zero (by omega)
    have hcw0 := run_bytes_string 51 5 9 Try.underlying51 Try.underlying5 Try.underlying9 (some ad) 0 [] ((w.alloc (.cells #[.int .i64 0, .int .i64 0, .string ⟨#[]⟩] 31)).alloc (.cells #[.int .i64 2, .int .i64 0, .string ⟨#[]⟩] 31)) w.heap.size Reads.nil
    rw [hS, List.length_nil] at hcw0
    clear hS
    go_enter Try.func110, Try.ntmps110
    go_wp2_with fail
    go_at_call 47
    rw [← hw2]
    clear hw2 hcw hcw0
    refine (HK.out w2).mono ?_
    rintro e w3 ⟨rfl, h3⟩
    have T3 := Lib.hid (T0.out.next h3)
    clear h3
    obtain ⟨z0, z1, z2, f0, f1, f2⟩ := Row.facts3 T3.out.z
    obtain ⟨y0, y1, y2, -, -, -⟩ := Row.facts3 (show Row w3 (w.heap.size + 1) 31 #[.int .i64 2, .int .i64 0, .string S] from T3.out.k)
    have HB3 := Lib.hid (fun (x y z : Value) => ((T3.out.b.setCell (p := ⟨w.heap.size, 0, none⟩) (Nat.le_refl _) x).setCell (p := ⟨w.heap.size, 1, none⟩) (Nat.le_refl _) y).setCell (p := ⟨w.heap.size, 2, none⟩) (Nat.le_refl _) z)
    cases ik with
    | false =>
     have HD := Lib.hid (dec_no (HE.out.trans rfl))
     go_wp2_with fail
     refine bodyPost_ret (v := .tuple #[K.zero.v, .bool false]) (by simp [results, Try.results110, go_sem, K.v, K.zero, z0, z1, z2]) rfl ?_
     exact ⟨by unfold DkE; rw [HD.out.1, HD.out.2], HB3.out _ _ _⟩
    | true =>
     have HD := Lib.hid (dec_yes (HE.out.trans rfl))
     go_wp2_with fail
     refine bodyPost_ret (v := .tuple #[K.v ⟨2, 0, S⟩, .bool true]) (by simp [results, Try.results110, go_sem, K.v, z0, z1, z2]) rfl ?_
     exact ⟨by unfold DkE; rw [HD.out.1, HD.out.2], HB3.out _ _ _⟩
   ·
    rw [show ((2 : Int) :: r).length = r.length + 1 from rfl]
    clear hS
    go_enter Try.func110, Try.ntmps110
    go_wp2_with fail
    go_at_call 47
    rw [← hw2]
    clear hw2 hcw
    refine (HK.out w2).mono ?_
    rintro e w3 ⟨rfl, h3⟩
    have T3 := Lib.hid (T0.out.next h3)
    clear h3
    obtain ⟨z0, z1, z2, f0, f1, f2⟩ := Row.facts3 T3.out.z
    obtain ⟨y0, y1, y2, -, -, -⟩ := Row.facts3 (show Row w3 (w.heap.size + 1) 31 #[.int .i64 2, .int .i64 0, .string S] from T3.out.k)
    have HB3 := Lib.hid (fun (x y z : Value) => ((T3.out.b.setCell (p := ⟨w.heap.size, 0, none⟩) (Nat.le_refl _) x).setCell (p := ⟨w.heap.size, 1, none⟩) (Nat.le_refl _) y).setCell (p := ⟨w.heap.size, 2, none⟩) (Nat.le_refl _) z)
    cases ik with
    | false =>
     have HD := Lib.hid (dec_no (HE.out.trans rfl))
     go_wp2_with fail
     refine bodyPost_ret (v := .tuple #[K.zero.v, .bool false]) (by simp [results, Try.results110, go_sem, K.v, K.zero, z0, z1, z2]) rfl ?_
     exact ⟨by unfold DkE; rw [HD.out.1, HD.out.2], HB3.out _ _ _⟩
    | true =>
     have HD := Lib.hid (dec_yes (HE.out.trans rfl))
     go_wp2_with fail
     refine bodyPost_ret (v := .tuple #[K.v ⟨2, 0, S⟩, .bool true]) (by simp [results, Try.results110, go_sem, K.v, z0, z1, z2]) rfl ?_
     exact ⟨by unfold DkE; rw [HD.out.1, HD.out.2], HB3.out _ _ _⟩
  ·
   have h2' : (x == 2) = false := by simpa using h2
   have hc0 : (0 : Int) < (c : Int) := by simp at hc; omega
   by_cases hs : r.length < 6
   ·
    have HD := Lib.hid (dec_no (l := x :: r) (by unfold decO; rw [cand_short ⟨hx0, hx1⟩ h2 hs]; rfl))
    have hs' : (r.length : Int) < 6 := by omega
    have hcl : c = 1 ∨ ¬ c = 1 := by omega
    have hc1 : (1 : Int) ≤ (c : Int) := by omega
    rw [show (x :: r).length = r.length + 1 from rfl]
    have hcn : r.length + 1 ≤ c := by simpa using hc
    clear hr hy hc hl hcell h2' hs
    rcases hcl with rfl | hcl
    ·
     obtain rfl : r = [] := List.eq_nil_of_length_eq_zero (by omega)
     go_enter Try.func110, Try.ntmps110
     go_wp2
     refine bodyPost_ret (v := .tuple #[K.zero.v, .bool false]) (by simp [results, Try.results110, go_sem, K.v, K.zero]) rfl ?_
     exact ⟨by unfold DkE; rw [HD.out.1, HD.out.2], HB.out _ (HB.out w (Below.refl _ _) _) _⟩
    ·
     go_enter Try.func110, Try.ntmps110
     go_wp2
     refine bodyPost_ret (v := .tuple #[K.zero.v, .bool false]) (by simp [results, Try.results110, go_sem, K.v, K.zero]) rfl ?_
     exact ⟨by unfold DkE; rw [HD.out.1, HD.out.2], HB.out _ (HB.out w (Below.refl _ _) _) _⟩
   ·
    have hcn : r.length + 1 ≤ c := by simpa using hc
    have hln : (r.length : Int) ≤ 1099511627776 := by simp at hl; omega
    have hrr : Reads w w.heap.size (some (ad.add 7)) (ints .u8 (r.drop 6)) := fun j hj => by
     have hj2 : j + 6 < r.length := by simp at hj; omega
     obtain ⟨ad', he, hb, hcl⟩ := hr.int (j + 7) (by simp; omega)
     injection he with he
     subst he
     refine ⟨_, rfl, by rw [add_block]; exact hab, ?_⟩
     rw [add_add, Nat.add_comm 7 j, hcl]
     simp [ints, Nat.add_comm]
    have hcv := fun (w1 : World) (h : Below w.heap.size w w1) (cp : Nat) => run_bytes_string 51 5 9 Try.underlying51 Try.underlying5 Try.underlying9 (some (ad.add 7)) cp (r.drop 6) w1 _ (hrr.below h)
    have HE0 := dec_is (cand_num (x := x) (r := r) ⟨hx0, hx1⟩ h2 (by omega))
    obtain ⟨x0, x1, x2, x3, x4, x5, q, rfl⟩ : ∃ x0 x1 x2 x3 x4 x5 q, r = x0 :: x1 :: x2 :: x3 :: x4 :: x5 :: q := by
     exact six_cons r (by omega)
    have HC : ∀ (w1 : World), Below w.heap.size w w1 → (w1.cell? ⟨ad.block, ad.off + 1, none⟩ = some (.int .u8 x0) ∧ w1.cell? ⟨ad.block, ad.off + 1 + 1, none⟩ = some (.int .u8 x1) ∧ w1.cell? ⟨ad.block, ad.off + 1 + 2, none⟩ = some (.int .u8 x2) ∧ w1.cell? ⟨ad.block, ad.off + 1 + 3, none⟩ = some (.int .u8 x3) ∧ w1.cell? ⟨ad.block, ad.off + 1 + 4, none⟩ = some (.int .u8 x4) ∧ w1.cell? ⟨ad.block, ad.off + 1 + 5, none⟩ = some (.int .u8 x5)) := fun w1 hb => by
     have f := fun (j : Nat) (hj : j < (x :: x0 :: x1 :: x2 :: x3 :: x4 :: x5 :: q).length) => show w1.cell? (ad.add j) = some (.int .u8 (x :: x0 :: x1 :: x2 :: x3 :: x4 :: x5 :: q)[j]) from by
      obtain ⟨ad', he, hb', hcl⟩ := hr.int j hj
      injection he with he
      subst he
      exact (hb.cell (p := ad.add j) (by rw [add_block]; exact hab)).trans hcl
     have f1 := f 1 (by simp)
     have f2 := f 2 (by simp)
     have f3 := f 3 (by simp)
     have f4 := f 4 (by simp)
     have f5 := f 5 (by simp)
     have f6 := f 6 (by simp)
     exact ⟨f1, f2, f3, f4, f5, f6⟩
    have HY := And.intro (hy x0 (by simp)) (And.intro (hy x1 (by simp)) (And.intro (hy x2 (by simp)) (And.intro (hy x3 (by simp)) (And.intro (hy x4 (by simp)) (hy x5 (by simp))))))
    have hV := six_val x0 x1 x2 x3 x4 x5 q (fun y hy' => hy y (by simp at hy' ⊢; right; exact hy'))
    have e6 : List.drop 6 (x0 :: x1 :: x2 :: x3 :: x4 :: x5 :: q) = q := rfl
    rw [e6] at hcv HE0
    obtain ⟨V, hVV⟩ : ∃ v : Int, (val ((toU (x0 :: x1 :: x2 :: x3 :: x4 :: x5 :: q)).take 6) : Int) = v := ⟨_, rfl⟩
    rw [hVV] at HE0 hV
    obtain ⟨S, hS⟩ : ∃ s, strOfNums q = s := ⟨_, rfl⟩
    rw [hS] at HE0 hcv
    have HN := Lib.hid (fun w => decodeNumber_any x0 x1 x2 x3 x4 x5 V HY.1 HY.2.1 HY.2.2.1 HY.2.2.2.1 HY.2.2.2.2.1 HY.2.2.2.2.2 hV w)
    obtain ⟨N, hN⟩ : ∃ N, V - 1000000000000 = N := ⟨_, rfl⟩
    rw [hN] at HE0 HN
    obtain ⟨ik, hik⟩ : ∃ b, isK ⟨x, N, S⟩ = b := ⟨_, rfl⟩
    have HK := Lib.hid (fun w => implIsKey_any ⟨x, N, S⟩ (by rw [← hS]; show (strOfNums q).data.size ≤ _; rw [← Array.length_toList, strOfNums_data]; simp at hln ⊢; omega) w)
    rw [hik] at HK HE0
    have HE := Lib.hid HE0
    have ql0 : (0 : Int) ≤ (q.length : Int) := by omega
    obtain ⟨C, hC⟩ : ∃ C, c = C + 7 := ⟨c - 7, by simp at hcn; omega⟩
    subst hC
    have hqC : q.length ≤ C := by simp at hcn; omega
    have HT := Lib.hid (Two.made w 31 ⟨x, 0, ⟨#[]⟩⟩)
    have HCC := Lib.hid HC
    have HCV := Lib.hid hcv
    obtain ⟨y0, y1, y2, y3, y4, y5⟩ := HC ((w.alloc (.cells #[.int .i64 0, .int .i64 0, .string ⟨#[]⟩] 31)).alloc (.cells #[.int .i64 x, .int .i64 0, .string ⟨#[]⟩] 31)) (below_alloc (below_alloc (Below.refl _ _) _ (Nat.le_refl _)) _ (Nat.le_refl _))
    have HQ := Lib.hid hqC
    obtain ⟨L, hL⟩ : ∃ L, L = q.length := ⟨_, rfl⟩
    have L1 : (L : Int) ≤ (C : Int) := by omega
    have L0 : (0 : Int) ≤ (L : Int) := by omega
    have L2 : (L : Int) ≤ 1099511627776 := by simp at hln; omega
    rw [show (x :: x0 :: x1 :: x2 :: x3 :: x4 :: x5 :: q).length = L + 7 by rw [hL]; rfl]
    have HL := Lib.hid hL
    have hAA : ∀ w, (Instr.arrayAt 128 (.slice (some ⟨ad.block, ad.off + 1, none⟩) (L + 6) (C + 6))).run Try.prog w = .ok (.pointer (some ⟨ad.block, ad.off + 1, none⟩)) w := fun w => by
     have h9 : ¬ L + 6 < 6 := by omega
     simp [Instr.arrayAt, run_underlying Try.underlying128, h9, go_sem]
    clear hL hcv HC hV HE0 hVV hrr hr hy hc hl hcell hik hcn hln hs HY hqC ql0
    go_enter Try.func110, Try.ntmps110
    go_wp2_with fail
    go_at_call 120
    refine (HN.out _).mono ?_
    rintro e w2 ⟨rfl, hb2⟩
    have T2 := Lib.hid (HT.out.next hb2)
    clear hb2 y0 y1 y2 y3 y4 y5 hAA hcell0
    obtain ⟨z0, z1, z2, f0, f1, f2⟩ := Row.facts3 T2.out.z
    obtain ⟨k0, k1, k2, g0, g1, g2⟩ := Row.facts3 (show Row w2 (w.heap.size + 1) 31 #[.int .i64 x, .int .i64 0, .string ⟨#[]⟩] from T2.out.k)
    have hgz : w.heap.size ≠ w.heap.size + 1 := by omega
    have T3 := Lib.hid (show Two w ((w2.setCell ⟨w.heap.size + 1, 1, none⟩ (.int .i64 N)).setCell ⟨w.heap.size + 1, 2, none⟩ (.string S)) 31 ⟨x, N, S⟩ from ⟨Row.apart (Row.apart T2.out.z 1 _ hgz) 2 _ hgz, Row.put (Row.put T2.out.k 1 (.int .i64 N)) 2 (.string S), (T2.out.b.setCell (p := ⟨w.heap.size + 1, 1, none⟩) (Nat.le_succ _) _).setCell (p := ⟨w.heap.size + 1, 2, none⟩) (Nat.le_succ _) _⟩)
    obtain ⟨r0, r1, r2, -, -, -⟩ := Row.facts3 (show Row ((w2.setCell ⟨w.heap.size + 1, 1, none⟩ (.int .i64 N)).setCell ⟨w.heap.size + 1, 2, none⟩ (.string S)) (w.heap.size + 1) 31 #[.int .i64 x, .int .i64 N, .string S] from T3.out.k)
    by_cases hC0 : C = 0
    ·
     subst hC0
     obtain rfl : L = 0 := by omega
     have q0 : q = [] := List.eq_nil_of_length_eq_zero HL.out.symm
     have hcv1 := run_bytes_string 51 5 9 Try.underlying51 Try.underlying5 Try.underlying9 (some ⟨ad.block, ad.off + 1, none⟩) 0 [] (w2.setCell ⟨w.heap.size + 1, 1, none⟩ (.int .i64 N)) w.heap.size Reads.nil
     rw [show strOfNums [] = S by rw [← hS, q0], List.length_nil] at hcv1
     clear hS q0
     go_wp2_with fail
     go_at_call 47
     refine (HK.out _).mono ?_
     rintro e w3 ⟨rfl, h3⟩
     have T4 := Lib.hid (T3.out.next h3)
     clear h3 z0 z1 z2 f0 f1 f2 k0 k1 k2 g0 g1 g2 hcv1 r0 r1 r2
     obtain ⟨z0, z1, z2, f0, f1, f2⟩ := Row.facts3 T4.out.z
     obtain ⟨k0, k1, k2, g0, g1, g2⟩ := Row.facts3 (show Row w3 (w.heap.size + 1) 31 #[.int .i64 x, .int .i64 N, .string S] from T4.out.k)
     have HB3 := Lib.hid (fun (x y z : Value) => ((T4.out.b.setCell (p := ⟨w.heap.size, 0, none⟩) (Nat.le_refl _) x).setCell (p := ⟨w.heap.size, 1, none⟩) (Nat.le_refl _) y).setCell (p := ⟨w.heap.size, 2, none⟩) (Nat.le_refl _) z)
     cases ik with
     | false =>
      have HD := Lib.hid (dec_no (HE.out.trans rfl))
      go_wp2_with fail
      refine bodyPost_ret (v := .tuple #[K.zero.v, .bool false]) (by simp [results, Try.results110, go_sem, K.v, K.zero, z0, z1, z2]) rfl ?_
      exact ⟨by unfold DkE; rw [HD.out.1, HD.out.2], HB3.out _ _ _⟩
     | true =>
      have HD := Lib.hid (dec_yes (HE.out.trans rfl))
      go_wp2_with fail
      refine bodyPost_ret (v := .tuple #[K.v ⟨x, N, S⟩, .bool true]) (by simp [results, Try.results110, go_sem, K.v, z0, z1, z2]) rfl ?_
      exact ⟨by unfold DkE; rw [HD.out.1, HD.out.2], HB3.out _ _ _⟩
    ·
     have hC1 : ¬ C = 0 := hC0
     have hcv1 := HCV.out (w2.setCell ⟨w.heap.size + 1, 1, none⟩ (.int .i64 N)) (T2.out.b.setCell (p := ⟨w.heap.size + 1, 1, none⟩) (Nat.le_succ _) _) C
     rw [← HL.out, show ad.add 7 = ⟨ad.block, ad.off + 1 + 6, none⟩ from rfl] at hcv1
     clear hS
     go_wp2_with fail
     go_at_call 47
     refine (HK.out _).mono ?_
     rintro e w3 ⟨rfl, h3⟩
     have T4 := Lib.hid (T3.out.next h3)
     clear h3 z0 z1 z2 f0 f1 f2 k0 k1 k2 g0 g1 g2 hcv1 r0 r1 r2
     obtain ⟨z0, z1, z2, f0, f1, f2⟩ := Row.facts3 T4.out.z
     obtain ⟨k0, k1, k2, g0, g1, g2⟩ := Row.facts3 (show Row w3 (w.heap.size + 1) 31 #[.int .i64 x, .int .i64 N, .string S] from T4.out.k)
     have HB3 := Lib.hid (fun (x y z : Value) => ((T4.out.b.setCell (p := ⟨w.heap.size, 0, none⟩) (Nat.le_refl _) x).setCell (p := ⟨w.heap.size, 1, none⟩) (Nat.le_refl _) y).setCell (p := ⟨w.heap.size, 2, none⟩) (Nat.le_refl _) z)
     cases ik with
     | false =>
      have HD := Lib.hid (dec_no (HE.out.trans rfl))
      go_wp2_with fail
      refine bodyPost_ret (v := .tuple #[K.zero.v, .bool false]) (by simp [results, Try.results110, go_sem, K.v, K.zero, z0, z1, z2]) rfl ?_
      exact ⟨by unfold DkE; rw [HD.out.1, HD.out.2], HB3.out _ _ _⟩
     | true =>
      have HD := Lib.hid (dec_yes (HE.out.trans rfl))
      go_wp2_with fail
      refine bodyPost_ret (v := .tuple #[K.v ⟨x, N, S⟩, .bool true]) (by simp [results, Try.results110, go_sem, K.v, z0, z1, z2]) rfl ?_
      exact ⟨by unfold DkE; rw [HD.out.1, HD.out.2], HB3.out _ _ _⟩
end Go.Proofs.Ythiidcflpgbogaa.L4

namespace Go.Proofs.Ythiidcflpgbogaa.L9
open V L6
open L4 (K isK cmpK)
open L5 (F isR isN string_geq)
open Go.Op (bytesLess)
open Go.ChangeShapes Go.WideShapes Go.ChangeAt Go.RowKit Mem Sl Ex L2 Sv Bag
open L2 Ex
open L4 (encU toI toU decK)
open L5 (encR decL)

set_option maxHeartbeats 8000000 in
theorem readOp_any (a : Option Addr) (c : Nat) (l : List Int) (hb : Byt l) (hc : l.length ≤ c) (hl : l.length ≤ 1099511627776) (off : Int) (h0 : 0 ≤ off) (h1 : off ≤ l.length) (w : World) (hr : Reads w w.heap.size a (ints .u8 l)) :
  Calls Try.prog 88 #[.slice a l.length c, .int .i64 off] w (GaveO w (roX (limI l) l off) (roE (limI l) l off) (opB_ (limI l) l off)) := by
 have HLI : limI l = ⟨l.length, l.length, l.length, l.length⟩ := rfl
 have HRD := fun (o : Int) (h0 : 0 ≤ o) (h1 : o ≤ l.length) (w1 : World) (h : Below w.heap.size w w1) => implReadB_any a c l o w1 _ (Nat.le_refl _) ((hr.below h).more h.size) hb hc hl (by omega) (by omega)
 have HRB := fun (o most : Int) (h0 : 0 ≤ o) (h1 : o ≤ l.length) (w1 : World) (h : Below w.heap.size w w1) => implReadBytes_any a c l o most w1 ((hr.below h).more h.size) hb hc hl (by omega) (by omega)
 obtain ⟨kd, hkd⟩ : ∃ x, rdN l off = x := ⟨_, rfl⟩
 obtain ⟨q1, hq1⟩ : ∃ x, rdE l off = x := ⟨_, rfl⟩
 obtain ⟨b0, hb0⟩ : ∃ x, rdB l off = x := ⟨_, rfl⟩
 obtain ⟨J1, hJ1⟩ : ∃ x, rbL l q1 (l.length : Int) = x := ⟨_, rfl⟩
 obtain ⟨q2, hq2⟩ : ∃ x, rbE l q1 (l.length : Int) = x := ⟨_, rfl⟩
 obtain ⟨b1, hb1⟩ : ∃ x, rbB l q1 (l.length : Int) = x := ⟨_, rfl⟩
 obtain ⟨J2, hJ2⟩ : ∃ x, rbL l q2 (l.length : Int) = x := ⟨_, rfl⟩
 obtain ⟨q3, hq3⟩ : ∃ x, rbE l q2 (l.length : Int) = x := ⟨_, rfl⟩
 obtain ⟨b2, hb2⟩ : ∃ x, rbB l q2 (l.length : Int) = x := ⟨_, rfl⟩
 obtain ⟨J3, hJ3⟩ : ∃ x, rbL l q3 (l.length : Int) = x := ⟨_, rfl⟩
 obtain ⟨q4, hq4⟩ : ∃ x, rbE l q3 (l.length : Int) = x := ⟨_, rfl⟩
 obtain ⟨b3, hb3⟩ : ∃ x, rbB l q3 (l.length : Int) = x := ⟨_, rfl⟩
 obtain ⟨J4, hJ4⟩ : ∃ x, rbL l q4 (l.length : Int) = x := ⟨_, rfl⟩
 obtain ⟨q5, hq5⟩ : ∃ x, rbE l q4 (l.length : Int) = x := ⟨_, rfl⟩
 obtain ⟨b4, hb4⟩ : ∃ x, rbB l q4 (l.length : Int) = x := ⟨_, rfl⟩
 obtain ⟨e1, e2, e3⟩ := ro_parts hkd hq1 hb0 hJ1 hq2 hb1 hJ2 hq3 hb2 hJ3 hq4 hb3 hJ4 hq5 hb4
 have HP1 : 0 ≤ q1 ∧ q1 ≤ l.length := by have h := rd_bounds hb off; rw [hq1] at h; exact h.2.2
 have HP2 : 0 ≤ q2 ∧ q2 ≤ l.length := by have h := rb_place hb q1 (l.length : Int); rw [hq2] at h; exact h
 have HP3 : 0 ≤ q3 ∧ q3 ≤ l.length := by have h := rb_place hb q2 (l.length : Int); rw [hq3] at h; exact h
 have HP4 : 0 ≤ q4 ∧ q4 ≤ l.length := by have h := rb_place hb q3 (l.length : Int); rw [hq4] at h; exact h
 have HP5 : 0 ≤ q5 ∧ q5 ≤ l.length := by have h := rb_place hb q4 (l.length : Int); rw [hq5] at h; exact h
 have H0 := fun w1 h => HRD off h0 h1 w1 h
 unfold RdE at H0
 rw [hkd, hq1, hb0] at H0
 replace H0 := Lib.hid H0
 have H1 := fun w1 h => HRB q1 (l.length : Int) HP1.1 HP1.2 w1 h
 unfold GaveT at H1
 rw [hJ1, hq2, hb1] at H1
 replace H1 := Lib.hid H1
 have H2 := fun w1 h => HRB q2 (l.length : Int) HP2.1 HP2.2 w1 h
 unfold GaveT at H2
 rw [hJ2, hq3, hb2] at H2
 replace H2 := Lib.hid H2
 have H3 := fun w1 h => HRB q3 (l.length : Int) HP3.1 HP3.2 w1 h
 unfold GaveT at H3
 rw [hJ3, hq4, hb3] at H3
 replace H3 := Lib.hid H3
 have H4 := fun w1 h => HRB q4 (l.length : Int) HP4.1 HP4.2 w1 h
 unfold GaveT at H4
 rw [hJ4, hq5, hb4] at H4
 replace H4 := Lib.hid H4
 have HZ1 := Lib.hid (show J1.length ≤ 1099511627776 ∧ Byt J1 from ⟨by have h := rb_size l q1 (l.length : Int); rw [hJ1] at h; omega, by rw [← hJ1]; exact rb_byt hb _ _⟩)
 have HZ2 := Lib.hid (show J2.length ≤ 1099511627776 ∧ Byt J2 from ⟨by have h := rb_size l q2 (l.length : Int); rw [hJ2] at h; omega, by rw [← hJ2]; exact rb_byt hb _ _⟩)
 have HZ3 := Lib.hid (show J3.length ≤ 1099511627776 ∧ Byt J3 from ⟨by have h := rb_size l q3 (l.length : Int); rw [hJ3] at h; omega, by rw [← hJ3]; exact rb_byt hb _ _⟩)
 have HZ4 := Lib.hid (show J4.length ≤ 1099511627776 ∧ Byt J4 from ⟨by have h := rb_size l q4 (l.length : Int); rw [hJ4] at h; omega, by rw [← hJ4]; exact rb_byt hb _ _⟩)
 obtain ⟨RX, hRX⟩ : ∃ x, roX (limI l) l off = x := ⟨_, rfl⟩
 obtain ⟨RE, hRE⟩ : ∃ x, roE (limI l) l off = x := ⟨_, rfl⟩
 obtain ⟨RB, hRB⟩ : ∃ x, opB_ (limI l) l off = x := ⟨_, rfl⟩
 rw [hRX, hRE, hRB]
 have HNO := Lib.hid (fun (h : (b0 && (b1 && (b2 && (b3 && b4)))) = false) => show RX = zO ∧ RE = 0 ∧ RB = false from by have hn := ro_no (m := (limI l)) (l := l) (off := off) (e1.trans h); rw [← hRX, ← hRE, ← hRB]; exact ⟨hn.1, hn.2.1, e1.trans h⟩)
 have HYES := Lib.hid (fun (h : (b0 && (b1 && (b2 && (b3 && b4)))) = true) => show RX = ⟨kd, strOfNums J1, decK J2, decL J3, strOfNums J4⟩ ∧ RE = q5 ∧ RB = true from by have hn := ro_yes (m := (limI l)) (l := l) (off := off) (e1.trans h); rw [← hRX, ← hRE, ← hRB, ← strU_nums, ← strU_nums]; exact ⟨hn.1.trans e2, hn.2.1.trans e3, e1.trans h⟩)
 clear HLI
 clear HRD HRB hr e1 e2 e3 hRX hRE hRB hkd hq1 hb0 hJ1 hq2 hb1 hJ2 hq3 hb2 hJ3 hq4 hb3 hJ4 hq5 hb4 HP1 HP2 HP3 HP4 HP5
 obtain ⟨L, hL⟩ : ∃ n, n = l.length := ⟨_, rfl⟩
 rw [← hL] at H0 H1 H2 H3 H4 ⊢
 clear hL h1
 have S1 := Lib.hid (show Sl.Sep w _ [_] from L4.push_box (Sl.Sep.start w) 36 #[.int .i64 0, .string ⟨#[]⟩, .int .i64 0, .int .i64 0, .string ⟨#[]⟩, .slice none 0 0, .string ⟨#[]⟩] (w.heap.size) (by simp))
 obtain ⟨wa, hwa⟩ : ∃ w_, w_ = (w.alloc (.cells #[.int .i64 0, .string ⟨#[]⟩, .int .i64 0, .int .i64 0, .string ⟨#[]⟩, .slice none 0 0, .string ⟨#[]⟩] 36)) := ⟨_, rfl⟩
 rw [← hwa] at S1
 go_enter Try.func88, Try.ntmps88
 go_upto_region 1 with fail
 rw [← hwa]
 clear hwa
 obtain ⟨f0, f1, f2, f3, f4, f5, f6⟩ := Bag.cs7 S1.out 0 rfl
 go_wp2_with fail
 go_at_call 87
 refine (H0.out _ S1.out.old).mono ?_
 rintro e w1 ⟨rfl, hb⟩
 clear f0 f1 f2 f3 f4 f5 f6
 have S2 := Lib.hid (S1.out.keep hb)
 clear S1
 clear hb
 obtain ⟨f0, f1, f2, f3, f4, f5, f6⟩ := Bag.cs7 S2.out 0 rfl
 cases b0 with
 | false =>
  clear f0 f1 f2 f3 f4 f5 f6
  obtain ⟨f0, f1, f2, f3, f4, f5, f6⟩ := Bag.cs7 S2.out 0 rfl
  obtain ⟨z0, z1, z2, z3, z4, z5, z6⟩ := Bag.fs7 S2.out 0 rfl
  go_wp2_with fail
  clear f0 f1 f2 f3 f4 f5 f6 z0 z1 z2 z3 z4 z5 z6
  have S3 := Lib.hid (show Sl.Sep w _ [L4.boxR w.heap.size 36 #[.int .i64 0, .string ⟨#[]⟩, .int .i64 0, .int .i64 0, .string ⟨#[]⟩, .slice none 0 0, .string ⟨#[]⟩]] from L5.put_box5 (L5.put_box5 (L5.put_box5 (L5.put_box5 (S2.out) 0 rfl 0 (.int .i64 0)) 0 rfl 1 (.string ⟨#[]⟩)) 0 rfl 2 (.int .i64 0)) 0 rfl 3 (.int .i64 0))
  clear S2
  have S4 := Lib.hid (show Sl.Sep w _ [_] from L5.put_box5 (L5.put_box5 (L5.put_box5 (S3.out) 0 rfl 4 (.string ⟨#[]⟩)) 0 rfl 5 (.slice none 0 0)) 0 rfl 6 (.string ⟨#[]⟩))
  clear S3
  obtain ⟨f0, f1, f2, f3, f4, f5, f6⟩ := Bag.cs7 S4.out 0 rfl
  refine bodyPost_ret (v := .tuple #[.agg #[.int .i64 0, .string ⟨#[]⟩, .int .i64 0, .int .i64 0, .string ⟨#[]⟩, .slice none 0 0, .string ⟨#[]⟩], .int .i64 0, .bool false]) (by simp [results, Try.results88, go_sem, *]) rfl ?_
  clear f0 f1 f2 f3 f4 f5 f6
  obtain ⟨e1, e2, e3⟩ := HNO.out (rfl)
  rw [e1, e2, e3]
  exact ⟨⟨0, ⟨#[]⟩, K.zero, ⟨none, 0, []⟩, ⟨#[]⟩⟩, rfl, rfl, BagOwn.one (OwnV.nil _ _ _ _), S4.out.old⟩
 | true =>
  go_upto_region 5 with fail
  clear f0 f1 f2 f3 f4 f5 f6
  have S3 := Lib.hid (show Sl.Sep w _ [_, _] from L4.push_box S2.out 104 #[.slice none 0 0, .slice none 0 0, .slice none 0 0, .slice none 0 0] w1.heap.size rfl)
  clear S2
  obtain ⟨g1, hg⟩ : ∃ g', g' = w1.heap.size := ⟨_, rfl⟩
  rw [← hg] at S3 ⊢
  clear hg
  generalize w1.alloc (.cells #[.slice none 0 0, .slice none 0 0, .slice none 0 0, .slice none 0 0] 104) = w2 at S3 ⊢
  obtain ⟨f0, f1, f2, f3, f4, f5, f6⟩ := Bag.cs7 S3.out 0 rfl
  obtain ⟨f7, f8, f9, f10⟩ := Bag.cs4 S3.out 1 rfl
  go_wp2_with fail
  refine wp_loop_rounds 5 ?_
  rw [rounds_succ]
  go_wp2_with fail
  go_at_call 109
  refine (H1.out _ S3.out.old).mono ?_
  rintro e w3 ⟨a1, c1, rfl, ho, hb⟩
  clear f0 f1 f2 f3 f4 f5 f6 f7 f8 f9 f10
  have S4 := Lib.hid (show Sl.Sep w _ [_, L4.boxR g1 104 #[.slice none 0 0, .slice none 0 0, .slice none 0 0, .slice none 0 0], Sl.own 5 .u8 a1 c1 J1] from Sl.Sep.pushOwn S3.out hb ho)
  clear S3
  clear hb ho
  cases b1 with
  | false =>
   obtain ⟨f0, f1, f2, f3, f4, f5, f6⟩ := Bag.cs7 S4.out 0 rfl
   obtain ⟨f7, f8, f9, f10⟩ := Bag.cs4 S4.out 1 rfl
   obtain ⟨z0, z1, z2, z3, z4, z5, z6⟩ := Bag.fs7 S4.out 0 rfl
   go_wp2_with fail
   clear f0 f1 f2 f3 f4 f5 f6 f7 f8 f9 f10 z0 z1 z2 z3 z4 z5 z6
   have S5 := Lib.hid (show Sl.Sep w _ [_, _, _] from L5.put_box5 (L5.put_box5 (L5.put_box5 (L5.put_box5 (S4.out) 0 rfl 0 (.int .i64 0)) 0 rfl 1 (.string ⟨#[]⟩)) 0 rfl 2 (.int .i64 0)) 0 rfl 3 (.int .i64 0))
   clear S4
   have S6 := Lib.hid (show Sl.Sep w _ [_, _, _] from L5.put_box5 (L5.put_box5 (L5.put_box5 (S5.out) 0 rfl 4 (.string ⟨#[]⟩)) 0 rfl 5 (.slice none 0 0)) 0 rfl 6 (.string ⟨#[]⟩))
   clear S5
   obtain ⟨f0, f1, f2, f3, f4, f5, f6⟩ := Bag.cs7 S6.out 0 rfl
   refine bodyPost_ret (v := .tuple #[.agg #[.int .i64 0, .string ⟨#[]⟩, .int .i64 0, .int .i64 0, .string ⟨#[]⟩, .slice none 0 0, .string ⟨#[]⟩], .int .i64 0, .bool false]) (by simp [results, Try.results88, go_sem, *]) rfl ?_
   clear f0 f1 f2 f3 f4 f5 f6
   obtain ⟨e1, e2, e3⟩ := HNO.out (by first | rfl | simp)
   rw [e1, e2, e3]
   exact ⟨⟨0, ⟨#[]⟩, K.zero, ⟨none, 0, []⟩, ⟨#[]⟩⟩, rfl, rfl, BagOwn.one (OwnV.nil _ _ _ _), S6.out.old⟩
  | true =>
   obtain ⟨f0, f1, f2, f3, f4, f5, f6⟩ := Bag.cs7 S4.out 0 rfl
   obtain ⟨f7, f8, f9, f10⟩ := Bag.cs4 S4.out 1 rfl
   obtain ⟨z0, z1, z2, z3⟩ := Bag.fs4 S4.out 1 rfl
   go_upto_region 12 with fail
   clear f0 f1 f2 f3 f4 f5 f6 f7 f8 f9 f10 z0 z1 z2 z3
   have S5 := Lib.hid (show Sl.Sep w _ [_, L4.boxR g1 104 #[.slice a1 J1.length c1, .slice none 0 0, .slice none 0 0, .slice none 0 0], _] from L5.put_box5 (S4.out) 1 rfl 0 (.slice a1 J1.length c1))
   clear S4
   obtain ⟨f0, f1, f2, f3, f4, f5, f6⟩ := Bag.cs7 S5.out 0 rfl
   obtain ⟨f7, f8, f9, f10⟩ := Bag.cs4 S5.out 1 rfl
   go_wp2_with fail
   rw [rounds_succ]
   go_wp2_with fail
   go_at_call 109
   refine (H2.out _ S5.out.old).mono ?_
   rintro e w4 ⟨a2, c2, rfl, ho, hb⟩
   clear f0 f1 f2 f3 f4 f5 f6 f7 f8 f9 f10
   have S6 := Lib.hid (show Sl.Sep w _ [_, _, _, Sl.own 5 .u8 a2 c2 J2] from Sl.Sep.pushOwn S5.out hb ho)
   clear S5
   clear hb ho
   cases b2 with
   | false =>
    obtain ⟨f0, f1, f2, f3, f4, f5, f6⟩ := Bag.cs7 S6.out 0 rfl
    obtain ⟨f7, f8, f9, f10⟩ := Bag.cs4 S6.out 1 rfl
    obtain ⟨z0, z1, z2, z3, z4, z5, z6⟩ := Bag.fs7 S6.out 0 rfl
    go_wp2_with fail
    clear f0 f1 f2 f3 f4 f5 f6 f7 f8 f9 f10 z0 z1 z2 z3 z4 z5 z6
    have S7 := Lib.hid (show Sl.Sep w _ [_, _, _, _] from L5.put_box5 (L5.put_box5 (L5.put_box5 (L5.put_box5 (S6.out) 0 rfl 0 (.int .i64 0)) 0 rfl 1 (.string ⟨#[]⟩)) 0 rfl 2 (.int .i64 0)) 0 rfl 3 (.int .i64 0))
    clear S6
    have S8 := Lib.hid (show Sl.Sep w _ [_, _, _, _] from L5.put_box5 (L5.put_box5 (L5.put_box5 (S7.out) 0 rfl 4 (.string ⟨#[]⟩)) 0 rfl 5 (.slice none 0 0)) 0 rfl 6 (.string ⟨#[]⟩))
    clear S7
    obtain ⟨f0, f1, f2, f3, f4, f5, f6⟩ := Bag.cs7 S8.out 0 rfl
    refine bodyPost_ret (v := .tuple #[.agg #[.int .i64 0, .string ⟨#[]⟩, .int .i64 0, .int .i64 0, .string ⟨#[]⟩, .slice none 0 0, .string ⟨#[]⟩], .int .i64 0, .bool false]) (by simp [results, Try.results88, go_sem, *]) rfl ?_
    clear f0 f1 f2 f3 f4 f5 f6
    obtain ⟨e1, e2, e3⟩ := HNO.out (by first | rfl | simp)
    rw [e1, e2, e3]
    exact ⟨⟨0, ⟨#[]⟩, K.zero, ⟨none, 0, []⟩, ⟨#[]⟩⟩, rfl, rfl, BagOwn.one (OwnV.nil _ _ _ _), S8.out.old⟩
   | true =>
    obtain ⟨f0, f1, f2, f3, f4, f5, f6⟩ := Bag.cs7 S6.out 0 rfl
    obtain ⟨f7, f8, f9, f10⟩ := Bag.cs4 S6.out 1 rfl
    obtain ⟨z0, z1, z2, z3⟩ := Bag.fs4 S6.out 1 rfl
    go_upto_region 12 with fail
    clear f0 f1 f2 f3 f4 f5 f6 f7 f8 f9 f10 z0 z1 z2 z3
    have S7 := Lib.hid (show Sl.Sep w _ [_, L4.boxR g1 104 #[.slice a1 J1.length c1, .slice a2 J2.length c2, .slice none 0 0, .slice none 0 0], _, _] from L5.put_box5 (S6.out) 1 rfl 1 (.slice a2 J2.length c2))
    clear S6
    obtain ⟨f0, f1, f2, f3, f4, f5, f6⟩ := Bag.cs7 S7.out 0 rfl
    obtain ⟨f7, f8, f9, f10⟩ := Bag.cs4 S7.out 1 rfl
    go_wp2_with fail
    rw [rounds_succ]
    go_wp2_with fail
    go_at_call 109
    refine (H3.out _ S7.out.old).mono ?_
    rintro e w5 ⟨a3, c3, rfl, ho, hb⟩
    clear f0 f1 f2 f3 f4 f5 f6 f7 f8 f9 f10
    have S8 := Lib.hid (show Sl.Sep w _ [_, _, _, _, Sl.own 5 .u8 a3 c3 J3] from Sl.Sep.pushOwn S7.out hb ho)
    clear S7
    clear hb ho
    cases b3 with
    | false =>
     obtain ⟨f0, f1, f2, f3, f4, f5, f6⟩ := Bag.cs7 S8.out 0 rfl
     obtain ⟨f7, f8, f9, f10⟩ := Bag.cs4 S8.out 1 rfl
     obtain ⟨z0, z1, z2, z3, z4, z5, z6⟩ := Bag.fs7 S8.out 0 rfl
     go_wp2_with fail
     clear f0 f1 f2 f3 f4 f5 f6 f7 f8 f9 f10 z0 z1 z2 z3 z4 z5 z6
     have S9 := Lib.hid (show Sl.Sep w _ [_, _, _, _, _] from L5.put_box5 (L5.put_box5 (L5.put_box5 (L5.put_box5 (S8.out) 0 rfl 0 (.int .i64 0)) 0 rfl 1 (.string ⟨#[]⟩)) 0 rfl 2 (.int .i64 0)) 0 rfl 3 (.int .i64 0))
     clear S8
     have S10 := Lib.hid (show Sl.Sep w _ [_, _, _, _, _] from L5.put_box5 (L5.put_box5 (L5.put_box5 (S9.out) 0 rfl 4 (.string ⟨#[]⟩)) 0 rfl 5 (.slice none 0 0)) 0 rfl 6 (.string ⟨#[]⟩))
     clear S9
     obtain ⟨f0, f1, f2, f3, f4, f5, f6⟩ := Bag.cs7 S10.out 0 rfl
     refine bodyPost_ret (v := .tuple #[.agg #[.int .i64 0, .string ⟨#[]⟩, .int .i64 0, .int .i64 0, .string ⟨#[]⟩, .slice none 0 0, .string ⟨#[]⟩], .int .i64 0, .bool false]) (by simp [results, Try.results88, go_sem, *]) rfl ?_
     clear f0 f1 f2 f3 f4 f5 f6
     obtain ⟨e1, e2, e3⟩ := HNO.out (by first | rfl | simp)
     rw [e1, e2, e3]
     exact ⟨⟨0, ⟨#[]⟩, K.zero, ⟨none, 0, []⟩, ⟨#[]⟩⟩, rfl, rfl, BagOwn.one (OwnV.nil _ _ _ _), S10.out.old⟩
    | true =>
     obtain ⟨f0, f1, f2, f3, f4, f5, f6⟩ := Bag.cs7 S8.out 0 rfl
     obtain ⟨f7, f8, f9, f10⟩ := Bag.cs4 S8.out 1 rfl
     obtain ⟨z0, z1, z2, z3⟩ := Bag.fs4 S8.out 1 rfl
     go_upto_region 12 with fail
     clear f0 f1 f2 f3 f4 f5 f6 f7 f8 f9 f10 z0 z1 z2 z3
     have S9 := Lib.hid (show Sl.Sep w _ [_, L4.boxR g1 104 #[.slice a1 J1.length c1, .slice a2 J2.length c2, .slice a3 J3.length c3, .slice none 0 0], _, _, _] from L5.put_box5 (S8.out) 1 rfl 2 (.slice a3 J3.length c3))
     clear S8
     obtain ⟨f0, f1, f2, f3, f4, f5, f6⟩ := Bag.cs7 S9.out 0 rfl
     obtain ⟨f7, f8, f9, f10⟩ := Bag.cs4 S9.out 1 rfl
     go_wp2_with fail
     rw [rounds_succ]
     go_wp2_with fail
     go_at_call 109
     refine (H4.out _ S9.out.old).mono ?_
     rintro e w6 ⟨a4, c4, rfl, ho, hb⟩
     clear f0 f1 f2 f3 f4 f5 f6 f7 f8 f9 f10
     have S10 := Lib.hid (show Sl.Sep w _ [_, _, _, _, _, Sl.own 5 .u8 a4 c4 J4] from Sl.Sep.pushOwn S9.out hb ho)
     clear S9
     clear hb ho
     cases b4 with
     | false =>
      obtain ⟨f0, f1, f2, f3, f4, f5, f6⟩ := Bag.cs7 S10.out 0 rfl
      obtain ⟨f7, f8, f9, f10⟩ := Bag.cs4 S10.out 1 rfl
      obtain ⟨z0, z1, z2, z3, z4, z5, z6⟩ := Bag.fs7 S10.out 0 rfl
      go_wp2_with fail
      clear f0 f1 f2 f3 f4 f5 f6 f7 f8 f9 f10 z0 z1 z2 z3 z4 z5 z6
      have S11 := Lib.hid (show Sl.Sep w _ [_, _, _, _, _, _] from L5.put_box5 (L5.put_box5 (L5.put_box5 (L5.put_box5 (S10.out) 0 rfl 0 (.int .i64 0)) 0 rfl 1 (.string ⟨#[]⟩)) 0 rfl 2 (.int .i64 0)) 0 rfl 3 (.int .i64 0))
      clear S10
      have S12 := Lib.hid (show Sl.Sep w _ [_, _, _, _, _, _] from L5.put_box5 (L5.put_box5 (L5.put_box5 (S11.out) 0 rfl 4 (.string ⟨#[]⟩)) 0 rfl 5 (.slice none 0 0)) 0 rfl 6 (.string ⟨#[]⟩))
      clear S11
      obtain ⟨f0, f1, f2, f3, f4, f5, f6⟩ := Bag.cs7 S12.out 0 rfl
      refine bodyPost_ret (v := .tuple #[.agg #[.int .i64 0, .string ⟨#[]⟩, .int .i64 0, .int .i64 0, .string ⟨#[]⟩, .slice none 0 0, .string ⟨#[]⟩], .int .i64 0, .bool false]) (by simp [results, Try.results88, go_sem, *]) rfl ?_
      clear f0 f1 f2 f3 f4 f5 f6
      obtain ⟨e1, e2, e3⟩ := HNO.out (by first | rfl | simp)
      rw [e1, e2, e3]
      exact ⟨⟨0, ⟨#[]⟩, K.zero, ⟨none, 0, []⟩, ⟨#[]⟩⟩, rfl, rfl, BagOwn.one (OwnV.nil _ _ _ _), S12.out.old⟩
     | true =>
      obtain ⟨f0, f1, f2, f3, f4, f5, f6⟩ := Bag.cs7 S10.out 0 rfl
      obtain ⟨f7, f8, f9, f10⟩ := Bag.cs4 S10.out 1 rfl
      obtain ⟨z0, z1, z2, z3⟩ := Bag.fs4 S10.out 1 rfl
      go_upto_region 12 with fail
      clear f0 f1 f2 f3 f4 f5 f6 f7 f8 f9 f10 z0 z1 z2 z3
      have S11 := Lib.hid (show Sl.Sep w _ [_, L4.boxR g1 104 #[.slice a1 J1.length c1, .slice a2 J2.length c2, .slice a3 J3.length c3, .slice a4 J4.length c4], _, _, _, _] from L5.put_box5 (S10.out) 1 rfl 3 (.slice a4 J4.length c4))
      clear S10
      obtain ⟨f0, f1, f2, f3, f4, f5, f6⟩ := Bag.cs7 S11.out 0 rfl
      obtain ⟨f7, f8, f9, f10⟩ := Bag.cs4 S11.out 1 rfl
      go_wp2_with fail
      rw [rounds_succ]
      obtain ⟨K2, hK2⟩ : ∃ k, decK J2 = k := ⟨_, rfl⟩
      obtain ⟨bk, hbk⟩ : ∃ k, L4.decB J2 = k := ⟨_, rfl⟩
      have HDK := fun w1 (hr1 : Reads w1 w1.heap.size a2 (ints .u8 J2)) => L4.implDecodeKey_any a2 c2 J2 w1 hr1 HZ2.out.2 (Sl.Sep.own S11.out 3 rfl).cap HZ2.out.1
      unfold L4.DkE at HDK
      rw [hK2, hbk] at HDK
      rw [hK2] at HYES
      clear hK2 hbk
      obtain ⟨kk, kn, kt⟩ := K2
      unfold L4.K.v at HDK
      dsimp only at HDK
      replace HDK := Lib.hid HDK
      go_wp2_with fail
      go_at_call 110
      refine (HDK.out _ (Sl.Sep.own S11.out 3 rfl).reads).mono ?_
      rintro e w7 ⟨rfl, hb⟩
      clear f0 f1 f2 f3 f4 f5 f6 f7 f8 f9 f10
      have S12 := Lib.hid (S11.out.keep hb)
      clear S11
      clear hb
      obtain ⟨f0, f1, f2, f3, f4, f5, f6⟩ := Bag.cs7 S12.out 0 rfl
      obtain ⟨f7, f8, f9, f10⟩ := Bag.cs4 S12.out 1 rfl
      go_upto_region 15 with fail
      clear f0 f1 f2 f3 f4 f5 f6 f7 f8 f9 f10
      have S13 := Lib.hid (show Sl.Sep w _ [_, _, _, _, _, _, _] from L4.push_box S12.out 31 #[.int .i64 kk, .int .i64 kn, .string kt] w7.heap.size rfl)
      clear S12
      obtain ⟨g2, hg⟩ : ∃ g', g' = w7.heap.size := ⟨_, rfl⟩
      rw [← hg] at S13 ⊢
      clear hg
      generalize w7.alloc (.cells #[.int .i64 kk, .int .i64 kn, .string kt] 31) = w8 at S13 ⊢
      obtain ⟨rl, hrl⟩ : ∃ k, decL J3 = k := ⟨_, rfl⟩
      obtain ⟨br, hbr⟩ : ∃ k, L5.decB J3 = k := ⟨_, rfl⟩
      have HDR := fun w1 (hr1 : Reads w1 w1.heap.size a3 (ints .u8 J3)) => L5.decodeRecord_any a3 c3 J3 w1 hr1 HZ3.out.2 (Sl.Sep.own S13.out 4 rfl).cap HZ3.out.1
      rw [hrl, hbr] at HDR
      rw [hrl] at HYES
      clear hrl hbr
      replace HDR := Lib.hid HDR
      obtain ⟨f0, f1, f2, f3, f4, f5, f6⟩ := Bag.cs7 S13.out 0 rfl
      obtain ⟨f7, f8, f9, f10⟩ := Bag.cs4 S13.out 1 rfl
      obtain ⟨f11, f12, f13⟩ := Bag.cs3 S13.out 6 rfl
      go_wp2_with fail
      go_at_call 111
      refine (HDR.out _ (Sl.Sep.own S13.out 4 rfl).reads).mono ?_
      rintro e w9 ⟨ra, rc, rfl, ho, hb⟩
      clear f0 f1 f2 f3 f4 f5 f6 f7 f8 f9 f10 f11 f12 f13
      have S14 := Lib.hid (show Sl.Sep w _ [_, _, _, _, _, _, L4.boxR g2 31 #[.int .i64 kk, .int .i64 kn, .string kt], Sv.ownV 92 2 ra rc rl.length (L5.cellsF rl)] from Sv.push_own S13.out hb ho)
      clear S13
      clear hb ho
      go_upto_region 16 with fail
      have S15 := Lib.hid (show Sl.Sep w _ [_, _, _, _, _, _, _, _, _] from L4.push_box S14.out 34 #[.slice ra rl.length rc] w9.heap.size rfl)
      clear S14
      obtain ⟨g3, hg⟩ : ∃ g', g' = w9.heap.size := ⟨_, rfl⟩
      rw [← hg] at S15 ⊢
      clear hg
      generalize w9.alloc (.cells #[.slice ra rl.length rc] 34) = w10 at S15 ⊢
      have hv1 := run_bytes_string (P := Try.prog) 51 5 9 Try.underlying51 Try.underlying5 Try.underlying9 a1 c1 J1 w10 _ (Sl.Sep.own S15.out 2 rfl).reads
      obtain ⟨s1, hs1⟩ : ∃ x, strOfNums J1 = x := ⟨_, rfl⟩
      rw [hs1] at hv1 HYES
      clear hs1
      have hv4 := run_bytes_string (P := Try.prog) 51 5 9 Try.underlying51 Try.underlying5 Try.underlying9 a4 c4 J4 w10 _ (Sl.Sep.own S15.out 5 rfl).reads
      obtain ⟨s4, hs4⟩ : ∃ x, strOfNums J4 = x := ⟨_, rfl⟩
      rw [hs4] at hv4 HYES
      clear hs4
      obtain ⟨f0, f1, f2, f3, f4, f5, f6⟩ := Bag.cs7 S15.out 0 rfl
      obtain ⟨f7, f8, f9, f10⟩ := Bag.cs4 S15.out 1 rfl
      obtain ⟨f11, f12, f13⟩ := Bag.cs3 S15.out 6 rfl
      have f14 := Bag.cs1 S15.out 8 rfl
      obtain ⟨z0, z1, z2, z3, z4, z5, z6⟩ := Bag.fs7 S15.out 0 rfl
      go_wp2_with fail
      clear f0 f1 f2 f3 f4 f5 f6 f7 f8 f9 f10 f11 f12 f13 f14 z0 z1 z2 z3 z4 z5 z6
      have S16 := Lib.hid (show Sl.Sep w _ [L4.boxR w.heap.size 36 #[.int .i64 kd, .string s1, .int .i64 kk, .int .i64 kn, .string ⟨#[]⟩, .slice none 0 0, .string ⟨#[]⟩], _, _, _, _, _, _, _, L4.boxR g3 34 #[.slice ra rl.length rc]] from L5.put_box5 (L5.put_box5 (L5.put_box5 (L5.put_box5 (S15.out) 0 rfl 0 (.int .i64 kd)) 0 rfl 1 (.string s1)) 0 rfl 2 (.int .i64 kk)) 0 rfl 3 (.int .i64 kn))
      clear S15
      have S17 := Lib.hid (show Sl.Sep w _ [L4.boxR w.heap.size 36 #[.int .i64 kd, .string s1, .int .i64 kk, .int .i64 kn, .string kt, .slice ra rl.length rc, .string s4], _, _, _, _, _, _, _, _] from L5.put_box5 (L5.put_box5 (L5.put_box5 (S16.out) 0 rfl 4 (.string kt)) 0 rfl 5 (.slice ra rl.length rc)) 0 rfl 6 (.string s4))
      clear S16
      obtain ⟨f0, f1, f2, f3, f4, f5, f6⟩ := Bag.cs7 S17.out 0 rfl
      refine bodyPost_ret (v := .tuple #[.agg #[.int .i64 kd, .string s1, .int .i64 kk, .int .i64 kn, .string kt, .slice ra rl.length rc, .string s4], .int .i64 q5, .bool true]) (by simp [results, Try.results88, go_sem, *]) rfl ?_
      clear f0 f1 f2 f3 f4 f5 f6
      obtain ⟨e1, e2, e3⟩ := HYES.out rfl
      rw [e1, e2, e3]
      exact ⟨⟨kd, s1, ⟨kk, kn, kt⟩, ⟨ra, rc, rl⟩, s4⟩, rfl, rfl, Bag.bag_from (Bag.bag_of_one S17.out 7 (r := row_Field ra rc rl) rfl) 7 rfl, S17.out.old⟩
set_option maxHeartbeats 8000000 in
theorem readOps_any (a : Option Addr) (c : Nat) (l : List Int) (hb : Byt l) (hc : l.length ≤ c) (hl : l.length ≤ 1099511627776) (w : World) (hr : Reads w w.heap.size a (ints .u8 l)) :
  Calls Try.prog 63 #[.slice a l.length c] w (GaveOs w ((rdL (limI l) l).getD []) (rdL (limI l) l).isSome) := by
 have HRD := fun (w1 : World) (h : Below w.heap.size w w1) => implReadB_any a c l 0 w1 _ (Nat.le_refl _) ((hr.below h).more h.size) hb hc hl (by omega) (by omega)
 have HRO := fun (o : Int) (h0 : 0 ≤ o) (h1 : o ≤ l.length) (w1 : World) (h : Below w.heap.size w w1) => readOp_any a c l hb hc hl o h0 h1 w1 ((hr.below h).more h.size)
 have HPL := fun o => roE_place hb (limI l) o
 have HFT := Lib.hid (fun o => roX_fit hb hl (limI l) o)
 have hbd := rd_bounds hb 0
 have HLB := Lib.hid (And.intro hb (And.intro hc hl))
 obtain ⟨n0, hn0⟩ : ∃ x, rdN l 0 = x := ⟨_, rfl⟩
 obtain ⟨q0, hq0⟩ : ∃ x, rdE l 0 = x := ⟨_, rfl⟩
 obtain ⟨b0, hb0⟩ : ∃ x, rdB l 0 = x := ⟨_, rfl⟩
 unfold RdE at HRD
 rw [hn0, hq0, hb0] at HRD
 rw [hn0, hq0] at hbd
 replace HRD := Lib.hid HRD
 obtain ⟨LI, hLI⟩ : ∃ x, limI l = x := ⟨_, rfl⟩
 rw [hLI] at HRO HPL HFT ⊢
 clear hLI
 obtain ⟨RL, hRL⟩ : ∃ x, (rdL LI l).getD [] = x := ⟨_, rfl⟩
 obtain ⟨RO, hRO⟩ : ∃ x, (rdL LI l).isSome = x := ⟨_, rfl⟩
 rw [hRL, hRO]
 have HN := Lib.hid (fun (h : rdL LI l = none) => show RL = [] ∧ RO = false from by rw [← hRL, ← hRO, h]; exact ⟨rfl, rfl⟩)
 have HYE := Lib.hid (fun os (h : rdL LI l = some os) => show RL = os ∧ RO = true from by rw [← hRL, ← hRO, h]; exact ⟨rfl, rfl⟩)
 have HQ0 := Lib.hid (And.intro hn0 (And.intro hq0 hb0))
 clear hRL hRO hn0 hq0 hb0 hr hb hc hl
 obtain ⟨L, hL⟩ : ∃ n, n = l.length := ⟨_, rfl⟩
 rw [← hL] at HRD HRO HPL hbd ⊢
 replace HRO := Lib.hid HRO
 replace HPL := Lib.hid HPL
 have HLE := Lib.hid hL
 clear hL
 have S1 := Lib.hid (show Sl.Sep w w [] from Sl.Sep.start w)
 obtain ⟨iO, hi1, hi2, hi3, hi4⟩ := infoO
 have HIO := Lib.hid (And.intro hi1 (And.intro hi2 (And.intro hi3 hi4)))
 clear hi1 hi2 hi3 hi4
 go_enter Try.func63, Try.ntmps63
 go_wp2_with fail
 go_at_call 87
 refine (HRD.out _ S1.out.old).mono ?_
 rintro e w1 ⟨rfl, hb⟩
 have S2 := Lib.hid (S1.out.keep hb)
 clear S1
 clear hb
 cases b0 with
 | false =>
  go_wp2_with fail
  have S3 := Lib.hid (show Sl.Sep w _ [Sv.ownV 36 7 (some ⟨w1.heap.size, 0, none⟩) 0 0 (([] : List Y_Op).flatMap cl_Op)] from Sv.push_own S2.out ((Below.refl _ _).alloc (Nat.le_refl _) _) (OwnV.madeAt w1 36 7 0 w1.heap.size #[] rfl (Nat.le_refl _) rfl (by decide)))
  clear S2
  go_ret2
  obtain ⟨e1, e2⟩ := HN.out (rdL_no (by rw [HQ0.out.2.2]; rfl))
  rw [e1, e2]
  exact ⟨_, 0, [], rfl, rfl, Bag.bag_from (Bag.bag_of_one S3.out 0 (r := row_Op (some ⟨w1.heap.size, 0, none⟩) 0 []) rfl) 0 rfl, S3.out.old⟩
 | true =>
  by_cases h6 : (6 : Int) < n0
  ·
   skip
   go_wp2_with fail
   have S3 := Lib.hid (show Sl.Sep w _ [Sv.ownV 36 7 (some ⟨w1.heap.size, 0, none⟩) 0 0 (([] : List Y_Op).flatMap cl_Op)] from Sv.push_own S2.out ((Below.refl _ _).alloc (Nat.le_refl _) _) (OwnV.madeAt w1 36 7 0 w1.heap.size #[] rfl (Nat.le_refl _) rfl (by decide)))
   clear S2
   go_ret2
   obtain ⟨e1, e2⟩ := HN.out (rdL_no (by rw [HQ0.out.1, HQ0.out.2.2, decide_eq_false (by omega)]; rfl))
   rw [e1, e2]
   exact ⟨_, 0, [], rfl, rfl, Bag.bag_from (Bag.bag_of_one S3.out 0 (r := row_Op (some ⟨w1.heap.size, 0, none⟩) 0 []) rfl) 0 rfl, S3.out.old⟩
  ·
   skip
   obtain ⟨K0, hK0⟩ : ∃ k : Nat, n0 = (k : Int) := ⟨n0.toNat, by omega⟩
   subst hK0
   have hK6 : K0 ≤ 6 := by omega
   have H06 := Lib.hid (show (rdB l 0 && decide (rdN l 0 ≤ 6)) = true from by rw [HQ0.out.1, HQ0.out.2.2, decide_eq_true (by omega)]; rfl)
   go_wp2_with fail
   have S3 := Lib.hid (show Sl.Sep w _ [Sv.ownV 36 7 (some ⟨w1.heap.size, 0, none⟩) 0 0 (([] : List Y_Op).flatMap cl_Op)] from Sv.push_own S2.out ((Below.refl _ _).alloc (Nat.le_refl _) _) (OwnV.madeAt w1 36 7 0 w1.heap.size #[] rfl (Nat.le_refl _) rfl (by decide)))
   clear S2
   have S4 := Lib.hid (show Sl.Sep w _ [_, Bag.bag (rws_Op [])] from Bag.push_bag S3.out (Below.refl _ _) (Bag.BagOwn.nil _ _))
   clear S3
   go_loopw [5, 7, 26] (fun o s i wr => ∃ (k : Nat) (A : Option Addr) (C : Nat) (ys : List Y_Op) (q : Int), k ≤ K0 ∧ i = .int .i64 k ∧ o = .int .i64 q ∧ s = .slice A k C ∧ 0 ≤ q ∧ q ≤ L ∧ Hid (((∀ o ∈ coS_Op ys, FitO o) ∧ RaMid LI l q0 K0 k (coS_Op ys) q) ∧ Sl.Sep w wr [Sv.ownV 36 7 A C k (ys.flatMap cl_Op), Bag.bag (rws_Op ys)])) (fun _ _ i _ => K0 - (intOf i).toNat)
   case atStart => exact ⟨0, _, _, [], q0, Nat.zero_le _, rfl, rfl, rfl, by omega, by omega, And.intro ⟨fun o ho => (by cases ho), RaMid.start _ _ _ _⟩ S4.out⟩
   case round =>
    obtain ⟨k, A, C, ys, q, hk, rfl, rfl, rfl, hq1, hq2, hrel⟩ := hrel
    have HI := Lib.hid hrel.out.1
    have S9 := Lib.hid hrel.out.2
    clear hrel S4
    by_cases hlt : (k : Int) < (K0 : Int)
    ·
     skip
     obtain ⟨RX, hRX⟩ : ∃ x, roX LI l q = x := ⟨_, rfl⟩
     obtain ⟨RE, hRE⟩ : ∃ x, roE LI l q = x := ⟨_, rfl⟩
     obtain ⟨RB, hRB⟩ : ∃ x, opB_ LI l q = x := ⟨_, rfl⟩
     have HR1 := fun w1 h => HRO.out q hq1 hq2 w1 h
     rw [hRX, hRE, hRB] at HR1
     replace HR1 := Lib.hid HR1
     have hp := HPL.out q
     have hft := HFT.out q
     rw [hRE] at hp
     rw [hRX] at hft
     have HNX := Lib.hid (fun (h : RB = true) => show rdOp LI l q = some (RX, RE) from by rw [← hRX, ← hRE]; exact (ro_yes (hRB.trans h)).2.2)
     have HNF := Lib.hid (fun (h : RB = false) => show rdOp LI l q = none from (ro_no (hRB.trans h)).2.2)
     have HFX := Lib.hid hft
     clear hRX hRE hRB hft
     go_wp2_with fail
     go_at_call 88
     refine (HR1.out _ S9.out.old).mono ?_
     rintro e w2 ⟨y, rfl, hco, ho, hb⟩
     have S10 := Lib.hid (show Sl.Sep w _ [Sv.ownV 36 7 A C k (ys.flatMap cl_Op), Bag.bag (rws_Op ys), Bag.bag (rw_Op y)] from Bag.push_bag S9.out hb ho)
     clear S9
     clear hb ho
     have HCO := Lib.hid hco
     clear hco
     unfold vv_Op
     go_upto_region 8 with fail
     have S11 := Lib.hid (show Sl.Sep w _ [_, _, _, _] from L4.push_box S10.out 36 #[.int .i64 y.f_Kind, .string y.f_Store, .int .i64 y.f_Key.kind, .int .i64 y.f_Key.n, .string y.f_Key.text, .slice y.f_Record.a y.f_Record.l.length y.f_Record.c, .string y.f_Field] w2.heap.size rfl)
     clear S10
     obtain ⟨g1, hg⟩ : ∃ g', g' = w2.heap.size := ⟨_, rfl⟩
     rw [← hg] at S11 ⊢
     clear hg
     generalize w2.alloc (.cells #[.int .i64 y.f_Kind, .string y.f_Store, .int .i64 y.f_Key.kind, .int .i64 y.f_Key.n, .string y.f_Key.text, .slice y.f_Record.a y.f_Record.l.length y.f_Record.c, .string y.f_Field] 36) = w3 at S11 ⊢
     cases RB with
     | false =>
      obtain ⟨f0, f1, f2, f3, f4, f5, f6⟩ := Bag.cs7 S11.out 3 rfl
      go_wp2_with fail
      have S12 := Lib.hid (show Sl.Sep w _ [_, _, _, L4.boxR g1 36 #[.int .i64 y.f_Kind, .string y.f_Store, .int .i64 y.f_Key.kind, .int .i64 y.f_Key.n, .string y.f_Key.text, .slice y.f_Record.a y.f_Record.l.length y.f_Record.c, .string y.f_Field], Sv.ownV 36 7 (some ⟨w3.heap.size, 0, none⟩) 0 0 (([] : List Y_Op).flatMap cl_Op)] from Sv.push_own S11.out ((Below.refl _ _).alloc (Nat.le_refl _) _) (OwnV.madeAt w3 36 7 0 w3.heap.size #[] rfl (Nat.le_refl _) rfl (by decide)))
      clear S11
      go_ret2
      obtain ⟨e1, e2⟩ := HN.out (rdL_none (by rw [HQ0.out.1, HQ0.out.2.1, Int.toNat_natCast]; exact RaMid.fail HI.out.2 (by omega) (HNF.out (by simp))))
      rw [e1, e2]
      exact ⟨_, 0, [], rfl, rfl, Bag.bag_from (Bag.bag_of_one S12.out 4 (r := row_Op (some ⟨w3.heap.size, 0, none⟩) 0 []) rfl) 4 rfl, S12.out.old⟩
     | true =>
      obtain ⟨f0, f1, f2, f3, f4, f5, f6⟩ := Bag.cs7 S11.out 3 rfl
      have S12 := Lib.hid (show Sl.Sep w _ [_, _, _, L4.boxR g1 36 #[.int .i64 y.f_Kind, .string y.f_Store, .int .i64 y.f_Key.kind, .int .i64 y.f_Key.n, .string y.f_Key.text, .slice y.f_Record.a y.f_Record.l.length y.f_Record.c, .string y.f_Field], Sv.ownV 36 7 (some ⟨w3.heap.size, 0, none⟩) 1 1 ([y].flatMap cl_Op)] from Sv.push_own S11.out ((Below.refl _ _).alloc (Nat.le_refl _) _) (OwnV.madeAt w3 36 7 1 w3.heap.size #[.int .i64 y.f_Kind, .string y.f_Store, .int .i64 y.f_Key.kind, .int .i64 y.f_Key.n, .string y.f_Key.text, .slice y.f_Record.a y.f_Record.l.length y.f_Record.c, .string y.f_Field] rfl (Nat.le_refl _) rfl (by decide)))
      clear S11
      go_wp2_with (at_builtin; refine L5.wpList_append_v S12.out 0 rfl rfl _ _ 44 (by rfl) iO (.agg #[.int .i64 0, .string ⟨#[]⟩, .int .i64 0, .int .i64 0, .string ⟨#[]⟩, .slice none 0 0, .string ⟨#[]⟩]) 96 Try.underlying44 HIO.out.1 HIO.out.2.1 HIO.out.2.2.1 HIO.out.2.2.2 rfl (by omega) _ (by rfl) rfl _ _ 1 _ _ ([y].flatMap cl_Op) (by rfl) rfl (Sv.own_at S12.out 4 rfl).reads rfl (one_flat cl_Op_one _) (by unfold maxLen; omega) (by omega) ?_; intro a2' c2' w4 hA)
      have S13 := Lib.hid (show Sl.Sep w _ [Sv.ownV 36 7 a2' c2' (k + 1) (ys.flatMap cl_Op ++ ([y].flatMap cl_Op)), _, _, _, _] from hA)
      clear S12
      clear hA
      clear f0 f1 f2 f3 f4 f5 f6
      have S14 := Lib.hid (show Sl.Sep w _ [_, _, _] from Bag.take S13.out [0, 1, 2] (by rfl) (by decide))
      clear S13
      have S15 := Lib.hid (show Sl.Sep w _ [_, Bag.bag (rws_Op ys ++ (rw_Op y)), Bag.bag ([])] from Bag.bag_join S14.out 1 2 (by decide) rfl rfl)
      clear S14
      have S16 := Lib.hid (show Sl.Sep w _ [_, _] from Bag.take S15.out [0, 1] (by rfl) (by decide))
      clear S15
      go_wp2_with fail
      go_roundw
      case rel =>
       refine ⟨k + 1, a2', c2', ys ++ [y], RE, by omega, by go_num, rfl, by first | rfl | go_num, hp.1, hp.2, And.intro ⟨?_, ?_⟩ ?_⟩
       ·
        intro o ho
        rw [coS_Op_eq, List.map_append] at ho
        rcases List.mem_append.1 ho with h | h
        ·
         exact HI.out.1 o h
        ·
         rw [List.map_cons, List.map_nil, List.mem_singleton] at h; rw [h, HCO.out]; exact HFX.out
       ·
        rw [coS_Op_eq, List.map_append, List.map_cons, List.map_nil, HCO.out]; exact RaMid.next HI.out.2 (by omega) (HNX.out (by simp))
       ·
        rw [List.flatMap_append, rws_Op_app, show rws_Op [y] = rw_Op y from by rw [rws_Op_eq]; simp]; exact S16.out
      case measure => simp [intOf]; omega
    ·
     skip
     obtain rfl : k = K0 := by omega
     have HRL := Lib.hid (show rdL LI l = some (coS_Op ys) from rdL_some H06.out (by rw [HQ0.out.1, HQ0.out.2.1, Int.toNat_natCast]; exact HI.out.2.done))
     have HYL := Lib.hid (show ys.length = k from by have h := HI.out.2.1; rwa [coS_len] at h)
     go_wp2_with fail
     go_ret2
     obtain ⟨e1, e2⟩ := HYE.out _ HRL.out
     rw [e1, e2]
     have S90 := Lib.hid (Bag.bag_of_one S9.out 0 (r := row_Op A C ys) (by unfold RowS.res row_Op; dsimp only; rw [HYL.out]; rfl))
     have S91 := Lib.hid (Bag.bag_join S90.out 0 1 (by decide) rfl rfl)
     exact ⟨A, C, ys, by rw [HYL.out]; rfl, rfl, Bag.bag_from S91.out 0 rfl, S9.out.old⟩
theorem rdAll_fit {m : Lim} {l : List Int} (hb : Byt l) (hl : l.length ≤ 1099511627776) : ∀ (n : Nat) (off : Int) (os : List X_Op) (e : Int), rdAll m l off n = some (os, e) → os.length = n ∧ ∀ o ∈ os, FitO o
 | 0, off, os, e, h => by
  simp only [rdAll, Option.some.injEq, Prod.mk.injEq] at h
  rw [← h.1]
  exact ⟨rfl, fun o ho => by cases ho⟩
 | n + 1, off, os, e, h => by
  rw [rdAll] at h
  cases h1 : rdOp m l off with
  | none => rw [h1] at h; cases h
  | some p =>
   rw [h1] at h
   dsimp only at h
   cases h2 : rdAll m l p.2 n with
   | none => rw [h2] at h; cases h
   | some q =>
    rw [h2] at h
    simp only [Option.some.injEq, Prod.mk.injEq] at h
    obtain ⟨g1, g2⟩ := rdAll_fit hb hl n p.2 q.1 q.2 h2
    rw [← h.1]
    refine ⟨by rw [List.length_cons, g1], fun o ho => ?_⟩
    rcases List.mem_cons.1 ho with rfl | ho
    ·
     have hx := roX_fit hb hl m off
     cases hB : opB_ m l off with
     | false => rw [(ro_no hB).2.2] at h1; cases h1
     | true => rw [(ro_yes hB).2.2] at h1; cases h1; exact hx
    ·
     exact g2 o ho
theorem rdL_fit {m : Lim} {l : List Int} {os : List X_Op} (hb : Byt l) (hl : l.length ≤ 1099511627776) (h : rdL m l = some os) : os.length ≤ 6 ∧ ∀ o ∈ os, FitO o := by
 unfold rdL at h
 split at h
 ·
  rename_i h0
  rw [Bool.and_eq_true, decide_eq_true_eq] at h0
  cases h1 : rdAll m l (rdE l 0) (rdN l 0).toNat with
  | none => rw [h1] at h; cases h
  | some q =>
   rw [h1] at h
   cases h
   obtain ⟨g1, g2⟩ := rdAll_fit hb hl _ _ q.1 q.2 h1
   exact ⟨(show q.1.length ≤ 6 by omega), g2⟩
 ·
  cases h
set_option maxHeartbeats 8000000 in
theorem decodeOps_any (a : Option Addr) (c : Nat) (l : List Int) (hb : Byt l) (hc : l.length ≤ c) (hl : l.length ≤ 1099511627776) (w : World) (hr : Reads w w.heap.size a (ints .u8 l)) :
  Calls Try.prog 32 #[.slice a l.length c] w (GaveOs w (dcL (limI l) l) (dcB (limI l) l)) := by
 have HRE := Lib.hid (fun w1 (h : Below w.heap.size w w1) => ((hr.below h).more h.size : Reads w1 w1.heap.size a (ints .u8 l)))
 have HRS := fun w1 (h : Below w.heap.size w w1) => readOps_any a c l hb hc hl w1 ((hr.below h).more h.size)
 have HLB := Lib.hid (And.intro hb (And.intro hc hl))
 have HFL := Lib.hid (fun os (h : rdL (limI l) l = some os) => rdL_fit hb hl h)
 obtain ⟨LI, hLI⟩ : ∃ x, limI l = x := ⟨_, rfl⟩
 rw [hLI] at HRS HFL ⊢
 clear hLI
 obtain ⟨L, hL⟩ : ∃ n, n = l.length := ⟨_, rfl⟩
 rw [← hL] at HRS ⊢
 have HLE := Lib.hid hL
 clear hL
 obtain ⟨RL, hRL⟩ : ∃ x, dcL LI l = x := ⟨_, rfl⟩
 obtain ⟨RO, hRO⟩ : ∃ x, dcB LI l = x := ⟨_, rfl⟩
 rw [hRL, hRO]
 have HN := Lib.hid (fun (h : rdL LI l = none) => show RL = [] ∧ RO = false from by rw [← hRL, ← hRO]; exact dc_no (dcO_none h))
 have HNE := Lib.hid (fun os (h : rdL LI l = some os) (h2 : eqB (encL os) l = false) => show RL = [] ∧ RO = false from by rw [← hRL, ← hRO]; exact dc_no (by rw [dcO_eq h, h2]; rfl))
 have HYE := Lib.hid (fun os (h : rdL LI l = some os) (h2 : eqB (encL os) l = true) => show RL = os ∧ RO = true from by rw [← hRL, ← hRO]; exact dc_yes (by rw [dcO_eq h, h2]; rfl))
 clear hRL hRO hr hb hc hl
 have S1 := Lib.hid (show Sl.Sep w w [] from Sl.Sep.start w)
 cases hro : rdL LI l with
 | none =>
  rw [hro] at HRS
  dsimp only [Option.getD, Option.isSome] at HRS
  replace HRS := Lib.hid HRS
  have HRL := Lib.hid hro
  clear hro
  go_enter Try.func32, Try.ntmps32
  go_wp2_with fail
  go_at_call 63
  refine (HRS.out _ S1.out.old).mono ?_
  rintro e w1 ⟨A, C, ys, rfl, hco, ho, hb⟩
  have S2 := Lib.hid (show Sl.Sep w _ [Bag.bag (rs_Op A C ys)] from Bag.push_bag S1.out hb ho)
  clear S1
  clear hb ho
  clear hco
  go_wp2_with fail
  have S3 := Lib.hid (show Sl.Sep w _ [_, Sv.ownV 36 7 (some ⟨w1.heap.size, 0, none⟩) 0 0 (([] : List Y_Op).flatMap cl_Op)] from Sv.push_own S2.out ((Below.refl _ _).alloc (Nat.le_refl _) _) (OwnV.madeAt w1 36 7 0 w1.heap.size #[] rfl (Nat.le_refl _) rfl (by decide)))
  clear S2
  go_ret2
  obtain ⟨e1, e2⟩ := HN.out HRL.out
  rw [e1, e2]
  exact ⟨_, 0, [], rfl, rfl, Bag.bag_from (Bag.bag_of_one S3.out 1 (r := row_Op (some ⟨w1.heap.size, 0, none⟩) 0 []) rfl) 1 rfl, S3.out.old⟩
 | some os =>
  rw [hro] at HRS
  dsimp only [Option.getD, Option.isSome] at HRS
  replace HRS := Lib.hid HRS
  have hrl := hro
  clear hro
  go_enter Try.func32, Try.ntmps32
  go_wp2_with fail
  go_at_call 63
  refine (HRS.out _ S1.out.old).mono ?_
  rintro e w1 ⟨A, C, ys, rfl, hco, ho, hb⟩
  have S2 := Lib.hid (show Sl.Sep w _ [Bag.bag (rs_Op A C ys)] from Bag.push_bag S1.out hb ho)
  clear S1
  clear hb ho
  subst hco
  have HRL := Lib.hid hrl
  clear hrl
  obtain ⟨k, hyl⟩ : ∃ k, ys.length = k := ⟨_, rfl⟩
  have HI := Lib.hid (And.intro (HFL.out _ HRL.out).2 trivial)
  have hk6 : k ≤ 6 := by have h := (HFL.out _ HRL.out).1; rw [coS_len, hyl] at h; exact h
  rw [hyl]
  have HYL := Lib.hid hyl
  clear hyl
  have S3 := Lib.hid (show Sl.Sep w _ [Bag.bag ([row_Op A C ys]), Bag.bag (rws_Op ys)] from Bag.bag_split (xs := [row_Op A C ys]) (ys := rws_Op ys) S2.out 0 rfl)
  clear S2
  have S4 := Lib.hid (show Sl.Sep w _ [Sv.ownV 36 7 A C k (ys.flatMap cl_Op), _] from (by have h := Bag.one_of_bag S3.out 0 (r := row_Op A C ys) rfl; unfold RowS.res row_Op at h; dsimp only at h; rw [HYL.out] at h; exact h))
  clear S3
  obtain ⟨XE, hXE⟩ : ∃ x, encL (coS_Op ys) = x := ⟨_, rfl⟩
  obtain ⟨be, hbe⟩ : ∃ x, eqB XE l = x := ⟨_, rfl⟩
  have HEN := fun w1 (h1 : Reads w1 w1.heap.size A (ys.flatMap cl_Op)) (h2 : RowsRd w1 w1.heap.size (rws_Op ys)) => encodeOps_any A C ys (by have := HYL.out; omega) HI.out.1 w1 h1 h2
  rw [hXE, HYL.out] at HEN
  replace HEN := Lib.hid HEN
  have HXB := Lib.hid (show Byt XE from by rw [← hXE]; exact encL_byt _)
  have HEB := fun (B : Nat) w1 (a2 : Option Addr) (c2 : Nat) (h1 : Reads w1 B a2 (ints .u8 XE)) (h2 : Reads w1 B a (ints .u8 l)) => (implEqualBytes_any a2 a c2 c XE l w1 B h1 h2 HXB.out HLB.out.1).mono (R' := fun e w2 => e = .returned (.bool be) ∧ Below w1.heap.size w1 w2) (fun e w2 hh => ⟨by rw [← hbe]; exact hh.1, hh.2.below _⟩)
  rw [← HLE.out] at HEB
  replace HEB := Lib.hid HEB
  have HBE := Lib.hid (show eqB (encL (coS_Op ys)) l = be from by rw [hXE]; exact hbe)
  clear hXE hbe
  go_wp2_with fail
  go_at_call 26
  refine (HEN.out _ (Sv.own_at S4.out 0 rfl).reads (Bag.bag_rd S4.out 1 rfl)).mono ?_
  rintro e w2 ⟨ea, ec, rfl, ho, hb⟩
  have S5 := Lib.hid (show Sl.Sep w _ [_, _, Sl.own 5 .u8 ea ec XE] from Sl.Sep.pushOwn S4.out hb ho)
  clear S4
  clear hb ho
  go_wp2_with fail
  go_at_call 64
  refine (HEB.out _ _ ea ec (Sl.Sep.own S5.out 2 rfl).reads (HRE.out _ S5.out.old)).mono ?_
  rintro e w3 ⟨rfl, hb⟩
  have S6 := Lib.hid (S5.out.keep hb)
  clear S5
  clear hb
  cases be with
  | false =>
   go_wp2_with fail
   have S7 := Lib.hid (show Sl.Sep w _ [Sv.ownV 36 7 A C k (ys.flatMap cl_Op), Bag.bag (rws_Op ys), Sl.own 5 .u8 ea ec XE, Sv.ownV 36 7 (some ⟨w3.heap.size, 0, none⟩) 0 0 (([] : List Y_Op).flatMap cl_Op)] from Sv.push_own S6.out ((Below.refl _ _).alloc (Nat.le_refl _) _) (OwnV.madeAt w3 36 7 0 w3.heap.size #[] rfl (Nat.le_refl _) rfl (by decide)))
   clear S6
   go_ret2
   obtain ⟨e1, e2⟩ := HNE.out _ HRL.out HBE.out
   rw [e1, e2]
   exact ⟨_, 0, [], rfl, rfl, Bag.bag_from (Bag.bag_of_one S7.out 3 (r := row_Op (some ⟨w3.heap.size, 0, none⟩) 0 []) rfl) 3 rfl, S7.out.old⟩
  | true =>
   go_wp2_with fail
   go_ret2
   obtain ⟨e1, e2⟩ := HYE.out _ HRL.out HBE.out
   rw [e1, e2]
   have S90 := Lib.hid (Bag.bag_of_one S6.out 0 (r := row_Op A C ys) (by unfold RowS.res row_Op; dsimp only; rw [HYL.out]; rfl))
   have S91 := Lib.hid (Bag.bag_join S90.out 0 1 (by decide) rfl rfl)
   exact ⟨A, C, ys, by rw [HYL.out]; rfl, rfl, Bag.bag_from S91.out 0 rfl, S6.out.old⟩
theorem decodeOps_S (a : Option Addr) (c : Nat) (l : List Int) (hb : Byt l) (hc : l.length ≤ c) (hl : l.length ≤ 1099511627776) (w : World) (hr : Reads w w.heap.size a (ints .u8 l)) :
  Calls Try.prog 32 #[.slice a l.length c] w (GaveOs w (dcL limS l) (dcB limS l)) := by
 have h := decodeOps_any a c l hb hc hl w hr
 unfold dcL dcB at h ⊢
 rw [← dc_lims] at h
 exact h
end Go.Proofs.Ythiidcflpgbogaa.L9

