/-
  What the law FnExactNewTx needs, laid by my program lawpack.py, part 4: the texts L5Ib, L9Ia, L9Ar, L10Id, one behind the other; each begins with its own words.
-/
import Derived.Test.YtojcdmgcbgpdmaaFnExactNewTxP3
set_option linter.unusedSimpArgs false
set_option linter.unusedVariables false
set_option maxRecDepth 100000
set_option linter.unusedSimpArgs false
namespace Go.Proofs.Ytojcdmgcbgpdmaa.L5
open Go.Op (bytesLess)
open L4 (boxR push_box box_at)
open Go.ChangeShapes Go.WideShapes Go.ChangeAt Go.RowKit Mem Sl Ex L2 Sv

theorem isR_long {l : List F} (h : ¬ l.length ≤ 6) : isR l = false := by
 unfold isR
 rw [Bool.and_eq_false_iff]
 exact .inr (decide_eq_false h)
theorem Row.two {w : World} {g : Nat} {t : TypeId} {x y : Value} (h : Row w g t #[x, y]) : w.cell? ⟨g, 0, none⟩ = some x ∧ w.cell? ⟨g, 1, none⟩ = some y := ⟨by rw [h.cell]; rfl, by rw [h.cell]; rfl⟩
set_option maxHeartbeats 4000000 in
theorem isRecord_any (a : Option Addr) (c : Nat) (l : List F) (hl : l.length ≤ 1099511627776) (hsm : Small l) (w : World) (hr : Reads w w.heap.size a (cellsF l)) :
  Calls Try.prog 100 #[.agg #[.slice a l.length c]] w fun e w' => e = .returned (.bool (isR l)) ∧ Below w.heap.size w w' := by
 have HR := Lib.hid (fun w' (h : Below w.heap.size w w') => hr.below h)
 obtain ⟨n, hn⟩ : ∃ n, n = l.length := ⟨_, rfl⟩
 rw [← hn]
 rw [← hn] at hl
 have HN := Lib.hid hn
 have HS := Lib.hid hsm
 clear hn hr hsm
 have hl' : (n : Int) ≤ 1099511627776 := by omega
 have S1 := Lib.hid (push_box (Sep.start w) 31 #[.slice a n c] w.heap.size rfl)
 obtain ⟨W1, hW1⟩ : ∃ u, u = w.alloc (.cells #[.slice a n c] 31) := ⟨_, rfl⟩
 rw [← hW1] at S1
 go_enter Try.func100, Try.ntmps100
 go_upto_region 1 with fail
 rw [← hW1]
 clear hW1
 obtain ⟨r0, r1⟩ := Row.one (box_at S1.out 0 rfl)
 by_cases h6 : (n : Int) ≤ 6
 rotate_left
 ·
  have HX := Lib.hid (isR_long (l := l) (by have := HN.out; omega))
  have h6' : (6 : Int) < (n : Int) := by omega
  go_wp2_with fail
  go_ret
  exact ⟨by rw [HX.out]; rfl, S1.out.old⟩
 go_wp2_with fail
 go_loopw [12] (fun i wr => ∃ k : Nat, k ≤ n ∧ i = .int .i64 k ∧ Hid (okTo l k ∧ Sep w wr [boxR w.heap.size 31 #[.slice a n c]])) (fun i _ => n - (intOf i).toNat)
 case atStart => exact ⟨0, Nat.zero_le _, rfl, fun j hj h => by omega, S1.out⟩
 case round =>
  obtain ⟨k, hk, rfl, hrel⟩ := hrel
  clear r0 r1
  by_cases hlt : (k : Int) < (n : Int)
  ·
   have hkl : k < l.length := by have := HN.out; omega
   have HRr := Lib.hid (HR.out _ hrel.out.2.old)
   obtain ⟨ad, rfl, had, h1, h2⟩ := readsF HRr.out k hkl
   have HNm := Lib.hid (fun w => isName_any l[k].name (HS.out _ (List.getElem_mem hkl)) w)
   have HI := Lib.hid (fun w => L1.inRange_any l[k].n 0 1000000000 w)
   obtain ⟨bn, hbn⟩ : ∃ b, isN l[k].name.data.toList = b := ⟨_, rfl⟩
   obtain ⟨bi, hbi⟩ : ∃ b, L1.inB l[k].n 0 1000000000 = b := ⟨_, rfl⟩
   have HO := Lib.hid (show okF l[k] = (bn && bi) by unfold okF; rw [hbi]; unfold F.t; rw [hbn])
   rw [hbn] at HNm
   rw [hbi] at HI
   obtain ⟨t, ht⟩ : ∃ t, t = l[k].name := ⟨_, rfl⟩
   obtain ⟨m, hm⟩ : ∃ m, m = l[k].n := ⟨_, rfl⟩
   rw [← ht] at h1 HNm
   rw [← hm] at h2 HI
   clear hbn hbi hm
   have HT := Lib.hid ht
   clear ht
   have S2 := Lib.hid (push_box hrel.out.2 128 #[.string t, .int .i64 m] wr.heap.size rfl)
   obtain ⟨W2, hW2⟩ : ∃ u, u = wr.alloc (.cells #[.string t, .int .i64 m] 128) := ⟨_, rfl⟩
   rw [← hW2] at S2
   have S3 := Lib.hid (S2.out.drews 1)
   have S4 := Lib.hid (sep_sub S3.out (ts := [boxR w.heap.size 31 #[.slice (some ad) n c]]) id (fun i r h => by match i, h with | 0, h => exact h) (fun i j _ _ h => h))
   rcases Nat.eq_zero_or_pos k with rfl | hk0
   ·
    rw [Nat.zero_mul, show ad.add 0 = ad by simp [Addr.add]] at h1 h2
    go_upto_region 6 with fail
    rw [← hW2]
    clear hW2
    obtain ⟨r0, r1⟩ := Row.one (box_at S2.out 0 rfl)
    obtain ⟨q0, q1⟩ := Row.two (box_at S2.out 1 rfl)
    by_cases hb : (bn && bi) = true
    ·
     simp only [Bool.and_eq_true] at hb
     obtain ⟨rfl, rfl⟩ := hb
     have HOt := Lib.hid (show okF l[0] = true from HO.out)
     clear HO
     go_upto_region 8 with (first | (go_at_call 97; refine (HNm.out _).mono ?_; rintro e w1 ⟨rfl, rfl⟩) | (go_at_call 98; refine (HI.out _).mono ?_; rintro e w1 ⟨rfl, rfl⟩))
     refine wp_region_held_drew (S := (fun w' => w'.cell? ⟨w.heap.size, 0, none⟩ = some (.slice (some ad) n c) ∧ w'.cell? ⟨wr.heap.size, 0, none⟩ = some (.string t))) (by kernel_rfl) ⟨r0, q0⟩ (fun hS => ?_)
     refine tk 0 rfl ?_
     try simp only [zp0, zp1, zp2, zp3, zp4]
     refine tk 1 rfl ?_
     try simp only [zp0, zp1, zp2, zp3, zp4]
     refine tk 2 rfl ?_
     try simp only [zp0, zp1, zp2, zp3, zp4]
     refine sk 3 rfl ?_
     try simp only [zp0, zp1, zp2, zp3, zp4]
     refine sk 4 rfl ?_
     try simp only [zp0, zp1, zp2, zp3, zp4]
     refine sk 5 rfl ?_
     try simp only [zp0, zp1, zp2, zp3, zp4]
     refine sk 6 rfl ?_
     try simp only [zp0, zp1, zp2, zp3, zp4]
     refine sk 7 rfl ?_
     try simp only [zp0, zp1, zp2, zp3, zp4]
     refine sk 8 rfl ?_
     try simp only [zp0, zp1, zp2, zp3, zp4]
     refine sk 9 rfl ?_
     try simp only [zp0, zp1, zp2, zp3, zp4]
     refine sk 10 rfl ?_
     try simp only [zp0, zp1, zp2, zp3, zp4]
     refine sk 11 rfl ?_
     try simp only [zp0, zp1, zp2, zp3, zp4]
     refine sk 12 rfl ?_
     try simp only [zp0, zp1, zp2, zp3, zp4]
     refine tk 13 rfl ?_
     try simp only [zp0, zp1, zp2, zp3, zp4]
     refine wpAnyH_done (by kernel_rfl) ?_ _
     go_wp2_with fail
     go_roundw
     case rel => exact ⟨1, by omega, by go_num, fun j hj h => by
       obtain rfl : j = 0 := by omega
       exact ⟨HOt.out, fun h0 => by omega⟩, S4.out⟩
     case measure => simp [intOf]; omega
    ·
     have HX := Lib.hid (isR_no 0 hkl (.inl (by rw [HO.out]; simpa using hb)))
     rcases (show bn = false ∨ (bn = true ∧ bi = false) by cases bn <;> simp_all) with rfl | ⟨rfl, rfl⟩
     all_goals
      clear hb HO
      go_wp2_with (first | (go_at_call 97; refine (HNm.out _).mono ?_; rintro e w1 ⟨rfl, rfl⟩) | (go_at_call 98; refine (HI.out _).mono ?_; rintro e w1 ⟨rfl, rfl⟩))
      go_ret
      exact ⟨by rw [HX.out]; rfl, S2.out.old⟩
   ·
    obtain ⟨j, rfl⟩ : ∃ j, k = j + 1 := ⟨k - 1, by omega⟩
    go_upto_region 6 with fail
    rw [← hW2]
    clear hW2
    obtain ⟨r0, r1⟩ := Row.one (box_at S2.out 0 rfl)
    obtain ⟨q0, q1⟩ := Row.two (box_at S2.out 1 rfl)
    by_cases hb : (bn && bi) = true
    ·
     simp only [Bool.and_eq_true] at hb
     obtain ⟨rfl, rfl⟩ := hb
     have HOt := Lib.hid (show okF l[j + 1] = true from HO.out)
     clear HO
     obtain ⟨ad', e', -, h3, -⟩ := readsF (HR.out _ S2.out.old) j (by omega)
     injection e' with e'
     subst e'
     obtain ⟨p, hp⟩ : ∃ p, p = (l[j]'(by omega)).name := ⟨_, rfl⟩
     rw [← hp] at h3
     have hwj : IntKind.i64.wrap (j : Int) = (j : Int) := IntWalk.i64_in _ ⟨by omega, by omega⟩
     have k1 : (0 : Int) ≤ (j : Int) + 1 := by omega
     have k2 : (j : Int) + 1 < (n : Int) := by omega
     have k3 : (0 : Int) ≤ (j : Int) := by omega
     have k4 : (j : Int) < (n : Int) := by omega
     have hge := string_geq
     obtain ⟨bo, hbo⟩ : ∃ b, bytesLess p.toList t.toList = b := ⟨_, rfl⟩
     have HB := Lib.hid (show bytesLess (l[j]'(by omega)).t l[j + 1].t = bo by unfold F.t; rw [← hp, ← HT.out, ← hbo, ByteArray.toList_eq, ByteArray.toList_eq])
     clear hp
     cases bo with
     | false =>
      have HX := Lib.hid (isR_no (j + 1) hkl (.inr ⟨Nat.succ_pos j, HB.out⟩))
      go_upto_region 8 with (first | (go_at_call 97; refine (HNm.out _).mono ?_; rintro e w1 ⟨rfl, rfl⟩) | (go_at_call 98; refine (HI.out _).mono ?_; rintro e w1 ⟨rfl, rfl⟩))
      refine wp_region_held_drew (S := (fun w' => w'.cell? ⟨w.heap.size, 0, none⟩ = some (.slice (some ad) n c) ∧ w'.cell? ⟨wr.heap.size, 0, none⟩ = some (.string t) ∧ w'.cell? (ad.add (j * 2)) = some (.string p))) (by kernel_rfl) ⟨r0, q0, h3⟩ (fun hS => ?_)
      refine tk 0 rfl ?_
      try simp only [zp0, zp1, zp2, zp3, zp4]
      refine tk 1 rfl ?_
      try simp only [zp0, zp1, zp2, zp3, zp4]
      refine tk 2 rfl ?_
      try simp only [zp0, zp1, zp2, zp3, zp4]
      refine tk 3 rfl ?_
      try simp only [zp0, zp1, zp2, zp3, zp4]
      refine tk 4 rfl ?_
      try simp only [zp0, zp1, zp2, zp3, zp4]
      refine tk 5 rfl ?_
      try simp only [zp0, zp1, zp2, zp3, zp4]
      refine tk 6 rfl ?_
      try simp only [zp0, zp1, zp2, zp3, zp4]
      refine tk 7 rfl ?_
      try simp only [zp0, zp1, zp2, zp3, zp4]
      refine tk 8 rfl ?_
      try simp only [zp0, zp1, zp2, zp3, zp4]
      refine tk 9 rfl ?_
      try simp only [zp0, zp1, zp2, zp3, zp4]
      refine tk 10 rfl ?_
      try simp only [zp0, zp1, zp2, zp3, zp4]
      refine tk 11 rfl ?_
      try simp only [zp0, zp1, zp2, zp3, zp4]
      refine tk 12 rfl ?_
      try simp only [zp0, zp1, zp2, zp3, zp4]
      refine tk 13 rfl ?_
      try simp only [zp0, zp1, zp2, zp3, zp4]
      refine wpAnyH_done (by kernel_rfl) ?_ _
      go_wp2_with fail
      go_ret
      exact ⟨by rw [HX.out]; rfl, S4.out.old⟩
     | true =>
      go_upto_region 8 with (first | (go_at_call 97; refine (HNm.out _).mono ?_; rintro e w1 ⟨rfl, rfl⟩) | (go_at_call 98; refine (HI.out _).mono ?_; rintro e w1 ⟨rfl, rfl⟩))
      refine wp_region_held_drew (S := (fun w' => w'.cell? ⟨w.heap.size, 0, none⟩ = some (.slice (some ad) n c) ∧ w'.cell? ⟨wr.heap.size, 0, none⟩ = some (.string t) ∧ w'.cell? (ad.add (j * 2)) = some (.string p))) (by kernel_rfl) ⟨r0, q0, h3⟩ (fun hS => ?_)
      refine tk 0 rfl ?_
      try simp only [zp0, zp1, zp2, zp3, zp4]
      refine tk 1 rfl ?_
      try simp only [zp0, zp1, zp2, zp3, zp4]
      refine tk 2 rfl ?_
      try simp only [zp0, zp1, zp2, zp3, zp4]
      refine tk 3 rfl ?_
      try simp only [zp0, zp1, zp2, zp3, zp4]
      refine tk 4 rfl ?_
      try simp only [zp0, zp1, zp2, zp3, zp4]
      refine tk 5 rfl ?_
      try simp only [zp0, zp1, zp2, zp3, zp4]
      refine tk 6 rfl ?_
      try simp only [zp0, zp1, zp2, zp3, zp4]
      refine tk 7 rfl ?_
      try simp only [zp0, zp1, zp2, zp3, zp4]
      refine tk 8 rfl ?_
      try simp only [zp0, zp1, zp2, zp3, zp4]
      refine tk 9 rfl ?_
      try simp only [zp0, zp1, zp2, zp3, zp4]
      refine tk 10 rfl ?_
      try simp only [zp0, zp1, zp2, zp3, zp4]
      refine tk 11 rfl ?_
      try simp only [zp0, zp1, zp2, zp3, zp4]
      refine tk 12 rfl ?_
      try simp only [zp0, zp1, zp2, zp3, zp4]
      refine tk 13 rfl ?_
      try simp only [zp0, zp1, zp2, zp3, zp4]
      refine wpAnyH_done (by kernel_rfl) ?_ _
      go_wp2_with fail
      go_roundw
      case rel => exact ⟨j + 1 + 1, by omega, by go_num, fun q hq h => by
       by_cases e : q < j + 1
       ·
        exact hrel.out.1 q hq e
       ·
        obtain rfl : q = j + 1 := by omega
        exact ⟨HOt.out, fun _ => HB.out⟩, S4.out⟩
      case measure => simp [intOf]; omega
    ·
     have HX := Lib.hid (isR_no (j + 1) hkl (.inl (by rw [HO.out]; simpa using hb)))
     rcases (show bn = false ∨ (bn = true ∧ bi = false) by cases bn <;> simp_all) with rfl | ⟨rfl, rfl⟩
     all_goals
      clear hb HO
      go_wp2_with (first | (go_at_call 97; refine (HNm.out _).mono ?_; rintro e w1 ⟨rfl, rfl⟩) | (go_at_call 98; refine (HI.out _).mono ?_; rintro e w1 ⟨rfl, rfl⟩))
      go_ret
      exact ⟨by rw [HX.out]; rfl, S2.out.old⟩
  ·
   go_wp2_with fail
   go_ret
   exact ⟨by rw [isR_iff.2 ⟨fun j hj _ => hrel.out.1 j hj (by have := HN.out; omega), by have := HN.out; omega⟩]; rfl, hrel.out.2.old⟩
end Go.Proofs.Ytojcdmgcbgpdmaa.L5

namespace Go.Proofs.Ytojcdmgcbgpdmaa.L9
open V L6
open L4 (K isK cmpK)
open L5 (F isR isN string_geq)
open Go.Op (bytesLess)
open Go.ChangeShapes Go.WideShapes Go.ChangeAt Go.RowKit Mem Sl Ex L2 Sv Bag

def ifO (kd : Int) (v : Value) : Value := if kd = 1 then .iface 245 v else if kd = 2 then .iface 246 v else if kd = 3 then .iface 247 v else if kd = 4 then .iface 221 v else if kd = 5 then .iface 239 v else if kd = 6 then .iface 240 v else .nilIface
theorem ifO1 (v : Value) : ifO 1 v = .iface 245 v := rfl
theorem ifO2 (v : Value) : ifO 2 v = .iface 246 v := rfl
theorem ifO3 (v : Value) : ifO 3 v = .iface 247 v := rfl
theorem ifO4 (v : Value) : ifO 4 v = .iface 221 v := rfl
theorem ifO5 (v : Value) : ifO 5 v = .iface 239 v := rfl
theorem ifO6 (v : Value) : ifO 6 v = .iface 240 v := rfl
theorem ifO_no {kd : Int} (v : Value) (h : ¬ (kd = 1 ∨ kd = 2 ∨ kd = 3 ∨ kd = 4 ∨ kd = 5 ∨ kd = 6)) : ifO kd v = .nilIface := by
 unfold ifO
 rw [if_neg (by omega), if_neg (by omega), if_neg (by omega), if_neg (by omega), if_neg (by omega), if_neg (by omega)]
theorem nil_no (t : TypeId) (v : Value) (w : World) : (binOp .eql 219 (.iface t v) .nilIface).run Try.prog w = .ok (.bool false) w := by rfl
theorem nil_yes (w : World) : (binOp .eql 219 .nilIface .nilIface).run Try.prog w = .ok (.bool true) w := by rfl
theorem as_clearOp (v : Value) (w : World) : (Instr.typeAssert (.iface 239 v) 219 239 true).run Try.prog w = .ok (.tuple #[v, .bool true]) w := by rfl
theorem not_clearOp_nil (w : World) : (Instr.typeAssert .nilIface 219 239 true).run Try.prog w = .ok (.tuple #[.agg #[.int .i64 0, .string ⟨#[]⟩, .int .i64 0, .int .i64 0, .string ⟨#[]⟩, .slice none 0 0, .string ⟨#[]⟩], .bool false]) w := by kernel_rfl
theorem not_clearOp_putOp (v : Value) (w : World) : (Instr.typeAssert (.iface 245 v) 219 239 true).run Try.prog w = .ok (.tuple #[.agg #[.int .i64 0, .string ⟨#[]⟩, .int .i64 0, .int .i64 0, .string ⟨#[]⟩, .slice none 0 0, .string ⟨#[]⟩], .bool false]) w := by kernel_rfl
theorem not_clearOp_addOp (v : Value) (w : World) : (Instr.typeAssert (.iface 246 v) 219 239 true).run Try.prog w = .ok (.tuple #[.agg #[.int .i64 0, .string ⟨#[]⟩, .int .i64 0, .int .i64 0, .string ⟨#[]⟩, .slice none 0 0, .string ⟨#[]⟩], .bool false]) w := by kernel_rfl
theorem not_clearOp_deleteOp (v : Value) (w : World) : (Instr.typeAssert (.iface 247 v) 219 239 true).run Try.prog w = .ok (.tuple #[.agg #[.int .i64 0, .string ⟨#[]⟩, .int .i64 0, .int .i64 0, .string ⟨#[]⟩, .slice none 0 0, .string ⟨#[]⟩], .bool false]) w := by kernel_rfl
theorem not_clearOp_getOp (v : Value) (w : World) : (Instr.typeAssert (.iface 221 v) 219 239 true).run Try.prog w = .ok (.tuple #[.agg #[.int .i64 0, .string ⟨#[]⟩, .int .i64 0, .int .i64 0, .string ⟨#[]⟩, .slice none 0 0, .string ⟨#[]⟩], .bool false]) w := by kernel_rfl
theorem not_clearOp_incOp (v : Value) (w : World) : (Instr.typeAssert (.iface 240 v) 219 239 true).run Try.prog w = .ok (.tuple #[.agg #[.int .i64 0, .string ⟨#[]⟩, .int .i64 0, .int .i64 0, .string ⟨#[]⟩, .slice none 0 0, .string ⟨#[]⟩], .bool false]) w := by kernel_rfl
theorem as_incOp (v : Value) (w : World) : (Instr.typeAssert (.iface 240 v) 219 240 true).run Try.prog w = .ok (.tuple #[v, .bool true]) w := by rfl
theorem not_incOp_nil (w : World) : (Instr.typeAssert .nilIface 219 240 true).run Try.prog w = .ok (.tuple #[.agg #[.int .i64 0, .string ⟨#[]⟩, .int .i64 0, .int .i64 0, .string ⟨#[]⟩, .slice none 0 0, .string ⟨#[]⟩], .bool false]) w := by kernel_rfl
theorem not_incOp_putOp (v : Value) (w : World) : (Instr.typeAssert (.iface 245 v) 219 240 true).run Try.prog w = .ok (.tuple #[.agg #[.int .i64 0, .string ⟨#[]⟩, .int .i64 0, .int .i64 0, .string ⟨#[]⟩, .slice none 0 0, .string ⟨#[]⟩], .bool false]) w := by kernel_rfl
theorem not_incOp_addOp (v : Value) (w : World) : (Instr.typeAssert (.iface 246 v) 219 240 true).run Try.prog w = .ok (.tuple #[.agg #[.int .i64 0, .string ⟨#[]⟩, .int .i64 0, .int .i64 0, .string ⟨#[]⟩, .slice none 0 0, .string ⟨#[]⟩], .bool false]) w := by kernel_rfl
theorem not_incOp_deleteOp (v : Value) (w : World) : (Instr.typeAssert (.iface 247 v) 219 240 true).run Try.prog w = .ok (.tuple #[.agg #[.int .i64 0, .string ⟨#[]⟩, .int .i64 0, .int .i64 0, .string ⟨#[]⟩, .slice none 0 0, .string ⟨#[]⟩], .bool false]) w := by kernel_rfl
theorem not_incOp_getOp (v : Value) (w : World) : (Instr.typeAssert (.iface 221 v) 219 240 true).run Try.prog w = .ok (.tuple #[.agg #[.int .i64 0, .string ⟨#[]⟩, .int .i64 0, .int .i64 0, .string ⟨#[]⟩, .slice none 0 0, .string ⟨#[]⟩], .bool false]) w := by kernel_rfl
theorem not_incOp_clearOp (v : Value) (w : World) : (Instr.typeAssert (.iface 239 v) 219 240 true).run Try.prog w = .ok (.tuple #[.agg #[.int .i64 0, .string ⟨#[]⟩, .int .i64 0, .int .i64 0, .string ⟨#[]⟩, .slice none 0 0, .string ⟨#[]⟩], .bool false]) w := by kernel_rfl
set_option maxHeartbeats 4000000 in
theorem operationOf_any (o : Y_Op) (w : World) :
  Calls Try.prog 202 #[vv_Op o] w fun e w' => e = .returned (ifO o.f_Kind (vv_Op o)) ∧ Below w.heap.size w w' := by
 obtain ⟨kd, st, ⟨kk, kn, kt⟩, ⟨ra, rc, rl⟩, fd⟩ := o
 unfold vv_Op
 dsimp only
 rcases (show kd = 1 ∨ kd = 2 ∨ kd = 3 ∨ kd = 4 ∨ kd = 5 ∨ kd = 6 ∨ ¬ (kd = 1 ∨ kd = 2 ∨ kd = 3 ∨ kd = 4 ∨ kd = 5 ∨ kd = 6) by omega) with rfl | rfl | rfl | rfl | rfl | rfl | hno
 ·
  skip
  rw [ifO1]
  have S1 := Lib.hid (show Sl.Sep w _ [_] from L4.push_box (Sl.Sep.start w) 148 #[.int .i64 1, .string st, .int .i64 kk, .int .i64 kn, .string kt, .slice ra rl.length rc, .string fd] (w.heap.size) (by simp))
  obtain ⟨wa, hwa⟩ : ∃ w_, w_ = (w.alloc (.cells #[.int .i64 1, .string st, .int .i64 kk, .int .i64 kn, .string kt, .slice ra rl.length rc, .string fd] 148)) := ⟨_, rfl⟩
  rw [← hwa] at S1
  go_enter Try.func202, Try.ntmps202
  go_upto_region 1 with fail
  rw [← hwa]
  clear hwa
  obtain ⟨f0, f1, f2, f3, f4, f5, f6⟩ := Bag.cs7 S1.out 0 rfl
  go_wp2_with fail
  go_ret
  exact ⟨rfl, S1.out.old⟩
 ·
  skip
  rw [ifO2]
  have S1 := Lib.hid (show Sl.Sep w _ [_] from L4.push_box (Sl.Sep.start w) 148 #[.int .i64 2, .string st, .int .i64 kk, .int .i64 kn, .string kt, .slice ra rl.length rc, .string fd] (w.heap.size) (by simp))
  obtain ⟨wa, hwa⟩ : ∃ w_, w_ = (w.alloc (.cells #[.int .i64 2, .string st, .int .i64 kk, .int .i64 kn, .string kt, .slice ra rl.length rc, .string fd] 148)) := ⟨_, rfl⟩
  rw [← hwa] at S1
  go_enter Try.func202, Try.ntmps202
  go_upto_region 1 with fail
  rw [← hwa]
  clear hwa
  obtain ⟨f0, f1, f2, f3, f4, f5, f6⟩ := Bag.cs7 S1.out 0 rfl
  go_wp2_with fail
  go_ret
  exact ⟨rfl, S1.out.old⟩
 ·
  skip
  rw [ifO3]
  have S1 := Lib.hid (show Sl.Sep w _ [_] from L4.push_box (Sl.Sep.start w) 148 #[.int .i64 3, .string st, .int .i64 kk, .int .i64 kn, .string kt, .slice ra rl.length rc, .string fd] (w.heap.size) (by simp))
  obtain ⟨wa, hwa⟩ : ∃ w_, w_ = (w.alloc (.cells #[.int .i64 3, .string st, .int .i64 kk, .int .i64 kn, .string kt, .slice ra rl.length rc, .string fd] 148)) := ⟨_, rfl⟩
  rw [← hwa] at S1
  go_enter Try.func202, Try.ntmps202
  go_upto_region 1 with fail
  rw [← hwa]
  clear hwa
  obtain ⟨f0, f1, f2, f3, f4, f5, f6⟩ := Bag.cs7 S1.out 0 rfl
  go_wp2_with fail
  go_ret
  exact ⟨rfl, S1.out.old⟩
 ·
  skip
  rw [ifO4]
  have S1 := Lib.hid (show Sl.Sep w _ [_] from L4.push_box (Sl.Sep.start w) 148 #[.int .i64 4, .string st, .int .i64 kk, .int .i64 kn, .string kt, .slice ra rl.length rc, .string fd] (w.heap.size) (by simp))
  obtain ⟨wa, hwa⟩ : ∃ w_, w_ = (w.alloc (.cells #[.int .i64 4, .string st, .int .i64 kk, .int .i64 kn, .string kt, .slice ra rl.length rc, .string fd] 148)) := ⟨_, rfl⟩
  rw [← hwa] at S1
  go_enter Try.func202, Try.ntmps202
  go_upto_region 1 with fail
  rw [← hwa]
  clear hwa
  obtain ⟨f0, f1, f2, f3, f4, f5, f6⟩ := Bag.cs7 S1.out 0 rfl
  go_wp2_with fail
  go_ret
  exact ⟨rfl, S1.out.old⟩
 ·
  skip
  rw [ifO5]
  have S1 := Lib.hid (show Sl.Sep w _ [_] from L4.push_box (Sl.Sep.start w) 148 #[.int .i64 5, .string st, .int .i64 kk, .int .i64 kn, .string kt, .slice ra rl.length rc, .string fd] (w.heap.size) (by simp))
  obtain ⟨wa, hwa⟩ : ∃ w_, w_ = (w.alloc (.cells #[.int .i64 5, .string st, .int .i64 kk, .int .i64 kn, .string kt, .slice ra rl.length rc, .string fd] 148)) := ⟨_, rfl⟩
  rw [← hwa] at S1
  go_enter Try.func202, Try.ntmps202
  go_upto_region 1 with fail
  rw [← hwa]
  clear hwa
  obtain ⟨f0, f1, f2, f3, f4, f5, f6⟩ := Bag.cs7 S1.out 0 rfl
  go_wp2_with fail
  go_ret
  exact ⟨rfl, S1.out.old⟩
 ·
  skip
  rw [ifO6]
  have S1 := Lib.hid (show Sl.Sep w _ [_] from L4.push_box (Sl.Sep.start w) 148 #[.int .i64 6, .string st, .int .i64 kk, .int .i64 kn, .string kt, .slice ra rl.length rc, .string fd] (w.heap.size) (by simp))
  obtain ⟨wa, hwa⟩ : ∃ w_, w_ = (w.alloc (.cells #[.int .i64 6, .string st, .int .i64 kk, .int .i64 kn, .string kt, .slice ra rl.length rc, .string fd] 148)) := ⟨_, rfl⟩
  rw [← hwa] at S1
  go_enter Try.func202, Try.ntmps202
  go_upto_region 1 with fail
  rw [← hwa]
  clear hwa
  obtain ⟨f0, f1, f2, f3, f4, f5, f6⟩ := Bag.cs7 S1.out 0 rfl
  go_wp2_with fail
  go_ret
  exact ⟨rfl, S1.out.old⟩
 ·
  skip
  rw [ifO_no _ hno]
  have n1 : ¬ kd = 1 := by omega
  have n2 : ¬ kd = 2 := by omega
  have n3 : ¬ kd = 3 := by omega
  have n4 : ¬ kd = 4 := by omega
  have n5 : ¬ kd = 5 := by omega
  have n6 : ¬ kd = 6 := by omega
  clear hno
  have S1 := Lib.hid (show Sl.Sep w _ [_] from L4.push_box (Sl.Sep.start w) 148 #[.int .i64 kd, .string st, .int .i64 kk, .int .i64 kn, .string kt, .slice ra rl.length rc, .string fd] (w.heap.size) (by simp))
  obtain ⟨wa, hwa⟩ : ∃ w_, w_ = (w.alloc (.cells #[.int .i64 kd, .string st, .int .i64 kk, .int .i64 kn, .string kt, .slice ra rl.length rc, .string fd] 148)) := ⟨_, rfl⟩
  rw [← hwa] at S1
  go_enter Try.func202, Try.ntmps202
  go_upto_region 1 with fail
  rw [← hwa]
  clear hwa
  obtain ⟨f0, f1, f2, f3, f4, f5, f6⟩ := Bag.cs7 S1.out 0 rfl
  go_wp2_with fail
  go_ret
  exact ⟨rfl, S1.out.old⟩
set_option maxHeartbeats 8000000 in
theorem isOp_any (o : Y_Op) (hf : FitO (co_Op o)) (w : World) (hr : RowsRd w w.heap.size (rw_Op o)) :
  Calls Try.prog 189 #[vv_Op o] w fun e w' => e = .returned (.bool (isO (co_Op o))) ∧ Below w.heap.size w w' := by
 have HRR := Lib.hid (fun w' (h : Below w.heap.size w w') => (((rdO hr).below h).more h.size : Reads w' w'.heap.size o.f_Record.a (L5.cellsF o.f_Record.l)))
 have HFO := Lib.hid (show FitO ⟨o.f_Kind, o.f_Store, o.f_Key, o.f_Record.l, o.f_Field⟩ from hf)
 clear hf hr
 obtain ⟨kd, st, ⟨kk, kn, kt⟩, ⟨ra, rc, rl⟩, fd⟩ := o
 try unfold vv_Op
 dsimp only at HRR HFO ⊢
 obtain ⟨bn, hbn⟩ : ∃ b, isN st.data.toList = b := ⟨_, rfl⟩
 obtain ⟨bk, hbk⟩ : ∃ b, isK (⟨kk, kn, kt⟩ : K) = b := ⟨_, rfl⟩
 obtain ⟨br, hbr⟩ : ∃ b, isR rl = b := ⟨_, rfl⟩
 obtain ⟨bf, hbf⟩ : ∃ b, isN fd.data.toList = b := ⟨_, rfl⟩
 obtain ⟨c0, hc0⟩ : ∃ b, (fd.toList == []) = b := ⟨_, rfl⟩
 have HNA := fun w => L5.isName_any st HFO.out.store w
 rw [hbn] at HNA
 replace HNA := Lib.hid HNA
 have HNF := fun w => L5.isName_any fd HFO.out.field w
 rw [hbf] at HNF
 replace HNF := Lib.hid HNF
 have HKY := fun w => L4.implIsKey_any (⟨kk, kn, kt⟩ : K) (by have h : kt.size ≤ 1099511627776 := HFO.out.text; show kt.size ≤ _; omega) w
 rw [hbk] at HKY
 unfold L4.K.v at HKY
 dsimp only at HKY
 replace HKY := Lib.hid HKY
 have HRC := fun w' (h : Below w.heap.size w w') => L5.isRecord_any ra rc rl (by have h : rl.length ≤ 1048576 := HFO.out.len; omega) HFO.out.small w' (HRR.out w' h)
 rw [hbr] at HRC
 replace HRC := Lib.hid HRC
 have HB : isO (co_Op ⟨kd, st, ⟨kk, kn, kt⟩, ⟨ra, rc, rl⟩, fd⟩) = (L1.inB kd 1 6 && (bn && ((kd == 5 || bk) && (br && (if kd = 6 then bf else c0))))) := by rw [← hbn, ← hbk, ← hbr, ← hbf, ← hc0]; rfl
 clear hbn hbk hbr hbf
 have HBB := Lib.hid HB
 clear HB
 rcases (show kd = 1 ∨ kd = 2 ∨ kd = 3 ∨ kd = 4 ∨ kd = 5 ∨ kd = 6 ∨ ¬ (kd = 1 ∨ kd = 2 ∨ kd = 3 ∨ kd = 4 ∨ kd = 5 ∨ kd = 6) by omega) with rfl | rfl | rfl | rfl | rfl | rfl | hno
 ·
  skip
  have HOF := fun w => operationOf_any ⟨1, st, ⟨kk, kn, kt⟩, ⟨ra, rc, rl⟩, fd⟩ w
  unfold vv_Op at HOF
  dsimp only at HOF
  rw [ifO1] at HOF
  replace HOF := Lib.hid HOF
  have hnil := fun v w => nil_no 245 v w
  have asclearOp := not_clearOp_putOp
  have asincOp := not_incOp_putOp
  have HW : isO (co_Op ⟨1, st, ⟨kk, kn, kt⟩, ⟨ra, rc, rl⟩, fd⟩) = (bn && (bk && (br && c0))) := by rw [HBB.out]; cases bn <;> cases bk <;> cases br <;> cases bf <;> cases c0 <;> rfl
  rw [HW]
  clear HW HBB
  generalize hB : (bn && _) = B
  have HB := Lib.hid hB.symm
  clear hB
  have S1 := Lib.hid (show Sl.Sep w _ [_] from L4.push_box (Sl.Sep.start w) 148 #[.int .i64 1, .string st, .int .i64 kk, .int .i64 kn, .string kt, .slice ra rl.length rc, .string fd] (w.heap.size) (by simp))
  obtain ⟨wa, hwa⟩ : ∃ w_, w_ = (w.alloc (.cells #[.int .i64 1, .string st, .int .i64 kk, .int .i64 kn, .string kt, .slice ra rl.length rc, .string fd] 148)) := ⟨_, rfl⟩
  rw [← hwa] at S1
  go_enter Try.func189, Try.ntmps189
  go_upto_region 1 with fail
  rw [← hwa]
  clear hwa
  obtain ⟨f0, f1, f2, f3, f4, f5, f6⟩ := Bag.cs7 S1.out 0 rfl
  cases bn with
  | false =>
   go_wp2_with fail
   go_at_call 97
   refine (HNA.out _).mono ?_
   rintro e w1 ⟨rfl, rfl⟩
   go_wp2_with fail
   go_ret
   exact ⟨by rw [HB.out]; simp [*], S1.out.old⟩
  | true =>
   go_wp2_with fail
   go_at_call 97
   refine (HNA.out _).mono ?_
   rintro e w1 ⟨rfl, rfl⟩
   cases br with
   | false =>
    go_wp2_with fail
    go_at_call 100
    refine (HRC.out _ S1.out.old).mono ?_
    rintro e w2 ⟨rfl, hb⟩
    clear f0 f1 f2 f3 f4 f5 f6
    have S2 := Lib.hid (S1.out.keep hb)
    clear S1
    clear hb
    obtain ⟨f0, f1, f2, f3, f4, f5, f6⟩ := Bag.cs7 S2.out 0 rfl
    go_wp2_with fail
    go_ret
    exact ⟨by rw [HB.out]; simp [*], S2.out.old⟩
   | true =>
    go_wp2_with fail
    go_at_call 100
    refine (HRC.out _ S1.out.old).mono ?_
    rintro e w2 ⟨rfl, hb⟩
    clear f0 f1 f2 f3 f4 f5 f6
    have S2 := Lib.hid (S1.out.keep hb)
    clear S1
    clear hb
    obtain ⟨f0, f1, f2, f3, f4, f5, f6⟩ := Bag.cs7 S2.out 0 rfl
    go_wp2_with fail
    go_at_call 202
    refine (HOF.out _).mono ?_
    rintro e w3 ⟨rfl, hb⟩
    clear f0 f1 f2 f3 f4 f5 f6
    have S3 := Lib.hid (S2.out.keep hb)
    clear S2
    clear hb
    obtain ⟨f0, f1, f2, f3, f4, f5, f6⟩ := Bag.cs7 S3.out 0 rfl
    cases bk with
    | false =>
     go_wp2_with fail
     go_at_call 99
     refine (HKY.out _).mono ?_
     rintro e w4 ⟨rfl, hb⟩
     clear f0 f1 f2 f3 f4 f5 f6
     have S4 := Lib.hid (S3.out.keep hb)
     clear S3
     clear hb
     obtain ⟨f0, f1, f2, f3, f4, f5, f6⟩ := Bag.cs7 S4.out 0 rfl
     go_wp2_with fail
     go_ret
     exact ⟨by rw [HB.out]; simp [*], S4.out.old⟩
    | true =>
     go_wp2_with fail
     go_at_call 99
     refine (HKY.out _).mono ?_
     rintro e w4 ⟨rfl, hb⟩
     clear f0 f1 f2 f3 f4 f5 f6
     have S4 := Lib.hid (S3.out.keep hb)
     clear S3
     clear hb
     obtain ⟨f0, f1, f2, f3, f4, f5, f6⟩ := Bag.cs7 S4.out 0 rfl
     go_wp2_with fail
     go_ret
     exact ⟨by rw [HB.out]; simp [*], S4.out.old⟩
 ·
  skip
  have HOF := fun w => operationOf_any ⟨2, st, ⟨kk, kn, kt⟩, ⟨ra, rc, rl⟩, fd⟩ w
  unfold vv_Op at HOF
  dsimp only at HOF
  rw [ifO2] at HOF
  replace HOF := Lib.hid HOF
  have hnil := fun v w => nil_no 246 v w
  have asclearOp := not_clearOp_addOp
  have asincOp := not_incOp_addOp
  have HW : isO (co_Op ⟨2, st, ⟨kk, kn, kt⟩, ⟨ra, rc, rl⟩, fd⟩) = (bn && (bk && (br && c0))) := by rw [HBB.out]; cases bn <;> cases bk <;> cases br <;> cases bf <;> cases c0 <;> rfl
  rw [HW]
  clear HW HBB
  generalize hB : (bn && _) = B
  have HB := Lib.hid hB.symm
  clear hB
  have S1 := Lib.hid (show Sl.Sep w _ [_] from L4.push_box (Sl.Sep.start w) 148 #[.int .i64 2, .string st, .int .i64 kk, .int .i64 kn, .string kt, .slice ra rl.length rc, .string fd] (w.heap.size) (by simp))
  obtain ⟨wa, hwa⟩ : ∃ w_, w_ = (w.alloc (.cells #[.int .i64 2, .string st, .int .i64 kk, .int .i64 kn, .string kt, .slice ra rl.length rc, .string fd] 148)) := ⟨_, rfl⟩
  rw [← hwa] at S1
  go_enter Try.func189, Try.ntmps189
  go_upto_region 1 with fail
  rw [← hwa]
  clear hwa
  obtain ⟨f0, f1, f2, f3, f4, f5, f6⟩ := Bag.cs7 S1.out 0 rfl
  cases bn with
  | false =>
   go_wp2_with fail
   go_at_call 97
   refine (HNA.out _).mono ?_
   rintro e w1 ⟨rfl, rfl⟩
   go_wp2_with fail
   go_ret
   exact ⟨by rw [HB.out]; simp [*], S1.out.old⟩
  | true =>
   go_wp2_with fail
   go_at_call 97
   refine (HNA.out _).mono ?_
   rintro e w1 ⟨rfl, rfl⟩
   cases br with
   | false =>
    go_wp2_with fail
    go_at_call 100
    refine (HRC.out _ S1.out.old).mono ?_
    rintro e w2 ⟨rfl, hb⟩
    clear f0 f1 f2 f3 f4 f5 f6
    have S2 := Lib.hid (S1.out.keep hb)
    clear S1
    clear hb
    obtain ⟨f0, f1, f2, f3, f4, f5, f6⟩ := Bag.cs7 S2.out 0 rfl
    go_wp2_with fail
    go_ret
    exact ⟨by rw [HB.out]; simp [*], S2.out.old⟩
   | true =>
    go_wp2_with fail
    go_at_call 100
    refine (HRC.out _ S1.out.old).mono ?_
    rintro e w2 ⟨rfl, hb⟩
    clear f0 f1 f2 f3 f4 f5 f6
    have S2 := Lib.hid (S1.out.keep hb)
    clear S1
    clear hb
    obtain ⟨f0, f1, f2, f3, f4, f5, f6⟩ := Bag.cs7 S2.out 0 rfl
    go_wp2_with fail
    go_at_call 202
    refine (HOF.out _).mono ?_
    rintro e w3 ⟨rfl, hb⟩
    clear f0 f1 f2 f3 f4 f5 f6
    have S3 := Lib.hid (S2.out.keep hb)
    clear S2
    clear hb
    obtain ⟨f0, f1, f2, f3, f4, f5, f6⟩ := Bag.cs7 S3.out 0 rfl
    cases bk with
    | false =>
     go_wp2_with fail
     go_at_call 99
     refine (HKY.out _).mono ?_
     rintro e w4 ⟨rfl, hb⟩
     clear f0 f1 f2 f3 f4 f5 f6
     have S4 := Lib.hid (S3.out.keep hb)
     clear S3
     clear hb
     obtain ⟨f0, f1, f2, f3, f4, f5, f6⟩ := Bag.cs7 S4.out 0 rfl
     go_wp2_with fail
     go_ret
     exact ⟨by rw [HB.out]; simp [*], S4.out.old⟩
    | true =>
     go_wp2_with fail
     go_at_call 99
     refine (HKY.out _).mono ?_
     rintro e w4 ⟨rfl, hb⟩
     clear f0 f1 f2 f3 f4 f5 f6
     have S4 := Lib.hid (S3.out.keep hb)
     clear S3
     clear hb
     obtain ⟨f0, f1, f2, f3, f4, f5, f6⟩ := Bag.cs7 S4.out 0 rfl
     go_wp2_with fail
     go_ret
     exact ⟨by rw [HB.out]; simp [*], S4.out.old⟩
 ·
  skip
  have HOF := fun w => operationOf_any ⟨3, st, ⟨kk, kn, kt⟩, ⟨ra, rc, rl⟩, fd⟩ w
  unfold vv_Op at HOF
  dsimp only at HOF
  rw [ifO3] at HOF
  replace HOF := Lib.hid HOF
  have hnil := fun v w => nil_no 247 v w
  have asclearOp := not_clearOp_deleteOp
  have asincOp := not_incOp_deleteOp
  have HW : isO (co_Op ⟨3, st, ⟨kk, kn, kt⟩, ⟨ra, rc, rl⟩, fd⟩) = (bn && (bk && (br && c0))) := by rw [HBB.out]; cases bn <;> cases bk <;> cases br <;> cases bf <;> cases c0 <;> rfl
  rw [HW]
  clear HW HBB
  generalize hB : (bn && _) = B
  have HB := Lib.hid hB.symm
  clear hB
  have S1 := Lib.hid (show Sl.Sep w _ [_] from L4.push_box (Sl.Sep.start w) 148 #[.int .i64 3, .string st, .int .i64 kk, .int .i64 kn, .string kt, .slice ra rl.length rc, .string fd] (w.heap.size) (by simp))
  obtain ⟨wa, hwa⟩ : ∃ w_, w_ = (w.alloc (.cells #[.int .i64 3, .string st, .int .i64 kk, .int .i64 kn, .string kt, .slice ra rl.length rc, .string fd] 148)) := ⟨_, rfl⟩
  rw [← hwa] at S1
  go_enter Try.func189, Try.ntmps189
  go_upto_region 1 with fail
  rw [← hwa]
  clear hwa
  obtain ⟨f0, f1, f2, f3, f4, f5, f6⟩ := Bag.cs7 S1.out 0 rfl
  cases bn with
  | false =>
   go_wp2_with fail
   go_at_call 97
   refine (HNA.out _).mono ?_
   rintro e w1 ⟨rfl, rfl⟩
   go_wp2_with fail
   go_ret
   exact ⟨by rw [HB.out]; simp [*], S1.out.old⟩
  | true =>
   go_wp2_with fail
   go_at_call 97
   refine (HNA.out _).mono ?_
   rintro e w1 ⟨rfl, rfl⟩
   cases br with
   | false =>
    go_wp2_with fail
    go_at_call 100
    refine (HRC.out _ S1.out.old).mono ?_
    rintro e w2 ⟨rfl, hb⟩
    clear f0 f1 f2 f3 f4 f5 f6
    have S2 := Lib.hid (S1.out.keep hb)
    clear S1
    clear hb
    obtain ⟨f0, f1, f2, f3, f4, f5, f6⟩ := Bag.cs7 S2.out 0 rfl
    go_wp2_with fail
    go_ret
    exact ⟨by rw [HB.out]; simp [*], S2.out.old⟩
   | true =>
    go_wp2_with fail
    go_at_call 100
    refine (HRC.out _ S1.out.old).mono ?_
    rintro e w2 ⟨rfl, hb⟩
    clear f0 f1 f2 f3 f4 f5 f6
    have S2 := Lib.hid (S1.out.keep hb)
    clear S1
    clear hb
    obtain ⟨f0, f1, f2, f3, f4, f5, f6⟩ := Bag.cs7 S2.out 0 rfl
    go_wp2_with fail
    go_at_call 202
    refine (HOF.out _).mono ?_
    rintro e w3 ⟨rfl, hb⟩
    clear f0 f1 f2 f3 f4 f5 f6
    have S3 := Lib.hid (S2.out.keep hb)
    clear S2
    clear hb
    obtain ⟨f0, f1, f2, f3, f4, f5, f6⟩ := Bag.cs7 S3.out 0 rfl
    cases bk with
    | false =>
     go_wp2_with fail
     go_at_call 99
     refine (HKY.out _).mono ?_
     rintro e w4 ⟨rfl, hb⟩
     clear f0 f1 f2 f3 f4 f5 f6
     have S4 := Lib.hid (S3.out.keep hb)
     clear S3
     clear hb
     obtain ⟨f0, f1, f2, f3, f4, f5, f6⟩ := Bag.cs7 S4.out 0 rfl
     go_wp2_with fail
     go_ret
     exact ⟨by rw [HB.out]; simp [*], S4.out.old⟩
    | true =>
     go_wp2_with fail
     go_at_call 99
     refine (HKY.out _).mono ?_
     rintro e w4 ⟨rfl, hb⟩
     clear f0 f1 f2 f3 f4 f5 f6
     have S4 := Lib.hid (S3.out.keep hb)
     clear S3
     clear hb
     obtain ⟨f0, f1, f2, f3, f4, f5, f6⟩ := Bag.cs7 S4.out 0 rfl
     go_wp2_with fail
     go_ret
     exact ⟨by rw [HB.out]; simp [*], S4.out.old⟩
 ·
  skip
  have HOF := fun w => operationOf_any ⟨4, st, ⟨kk, kn, kt⟩, ⟨ra, rc, rl⟩, fd⟩ w
  unfold vv_Op at HOF
  dsimp only at HOF
  rw [ifO4] at HOF
  replace HOF := Lib.hid HOF
  have hnil := fun v w => nil_no 221 v w
  have asclearOp := not_clearOp_getOp
  have asincOp := not_incOp_getOp
  have HW : isO (co_Op ⟨4, st, ⟨kk, kn, kt⟩, ⟨ra, rc, rl⟩, fd⟩) = (bn && (bk && (br && c0))) := by rw [HBB.out]; cases bn <;> cases bk <;> cases br <;> cases bf <;> cases c0 <;> rfl
  rw [HW]
  clear HW HBB
  generalize hB : (bn && _) = B
  have HB := Lib.hid hB.symm
  clear hB
  have S1 := Lib.hid (show Sl.Sep w _ [_] from L4.push_box (Sl.Sep.start w) 148 #[.int .i64 4, .string st, .int .i64 kk, .int .i64 kn, .string kt, .slice ra rl.length rc, .string fd] (w.heap.size) (by simp))
  obtain ⟨wa, hwa⟩ : ∃ w_, w_ = (w.alloc (.cells #[.int .i64 4, .string st, .int .i64 kk, .int .i64 kn, .string kt, .slice ra rl.length rc, .string fd] 148)) := ⟨_, rfl⟩
  rw [← hwa] at S1
  go_enter Try.func189, Try.ntmps189
  go_upto_region 1 with fail
  rw [← hwa]
  clear hwa
  obtain ⟨f0, f1, f2, f3, f4, f5, f6⟩ := Bag.cs7 S1.out 0 rfl
  cases bn with
  | false =>
   go_wp2_with fail
   go_at_call 97
   refine (HNA.out _).mono ?_
   rintro e w1 ⟨rfl, rfl⟩
   go_wp2_with fail
   go_ret
   exact ⟨by rw [HB.out]; simp [*], S1.out.old⟩
  | true =>
   go_wp2_with fail
   go_at_call 97
   refine (HNA.out _).mono ?_
   rintro e w1 ⟨rfl, rfl⟩
   cases br with
   | false =>
    go_wp2_with fail
    go_at_call 100
    refine (HRC.out _ S1.out.old).mono ?_
    rintro e w2 ⟨rfl, hb⟩
    clear f0 f1 f2 f3 f4 f5 f6
    have S2 := Lib.hid (S1.out.keep hb)
    clear S1
    clear hb
    obtain ⟨f0, f1, f2, f3, f4, f5, f6⟩ := Bag.cs7 S2.out 0 rfl
    go_wp2_with fail
    go_ret
    exact ⟨by rw [HB.out]; simp [*], S2.out.old⟩
   | true =>
    go_wp2_with fail
    go_at_call 100
    refine (HRC.out _ S1.out.old).mono ?_
    rintro e w2 ⟨rfl, hb⟩
    clear f0 f1 f2 f3 f4 f5 f6
    have S2 := Lib.hid (S1.out.keep hb)
    clear S1
    clear hb
    obtain ⟨f0, f1, f2, f3, f4, f5, f6⟩ := Bag.cs7 S2.out 0 rfl
    go_wp2_with fail
    go_at_call 202
    refine (HOF.out _).mono ?_
    rintro e w3 ⟨rfl, hb⟩
    clear f0 f1 f2 f3 f4 f5 f6
    have S3 := Lib.hid (S2.out.keep hb)
    clear S2
    clear hb
    obtain ⟨f0, f1, f2, f3, f4, f5, f6⟩ := Bag.cs7 S3.out 0 rfl
    cases bk with
    | false =>
     go_wp2_with fail
     go_at_call 99
     refine (HKY.out _).mono ?_
     rintro e w4 ⟨rfl, hb⟩
     clear f0 f1 f2 f3 f4 f5 f6
     have S4 := Lib.hid (S3.out.keep hb)
     clear S3
     clear hb
     obtain ⟨f0, f1, f2, f3, f4, f5, f6⟩ := Bag.cs7 S4.out 0 rfl
     go_wp2_with fail
     go_ret
     exact ⟨by rw [HB.out]; simp [*], S4.out.old⟩
    | true =>
     go_wp2_with fail
     go_at_call 99
     refine (HKY.out _).mono ?_
     rintro e w4 ⟨rfl, hb⟩
     clear f0 f1 f2 f3 f4 f5 f6
     have S4 := Lib.hid (S3.out.keep hb)
     clear S3
     clear hb
     obtain ⟨f0, f1, f2, f3, f4, f5, f6⟩ := Bag.cs7 S4.out 0 rfl
     go_wp2_with fail
     go_ret
     exact ⟨by rw [HB.out]; simp [*], S4.out.old⟩
 ·
  skip
  have HOF := fun w => operationOf_any ⟨5, st, ⟨kk, kn, kt⟩, ⟨ra, rc, rl⟩, fd⟩ w
  unfold vv_Op at HOF
  dsimp only at HOF
  rw [ifO5] at HOF
  replace HOF := Lib.hid HOF
  have hnil := fun v w => nil_no 239 v w
  have asclearOp := as_clearOp
  have asincOp := not_incOp_clearOp
  have HW : isO (co_Op ⟨5, st, ⟨kk, kn, kt⟩, ⟨ra, rc, rl⟩, fd⟩) = (bn && (br && c0)) := by rw [HBB.out]; cases bn <;> cases bk <;> cases br <;> cases bf <;> cases c0 <;> rfl
  rw [HW]
  clear HW HBB
  generalize hB : (bn && _) = B
  have HB := Lib.hid hB.symm
  clear hB
  have S1 := Lib.hid (show Sl.Sep w _ [_] from L4.push_box (Sl.Sep.start w) 148 #[.int .i64 5, .string st, .int .i64 kk, .int .i64 kn, .string kt, .slice ra rl.length rc, .string fd] (w.heap.size) (by simp))
  obtain ⟨wa, hwa⟩ : ∃ w_, w_ = (w.alloc (.cells #[.int .i64 5, .string st, .int .i64 kk, .int .i64 kn, .string kt, .slice ra rl.length rc, .string fd] 148)) := ⟨_, rfl⟩
  rw [← hwa] at S1
  go_enter Try.func189, Try.ntmps189
  go_upto_region 1 with fail
  rw [← hwa]
  clear hwa
  obtain ⟨f0, f1, f2, f3, f4, f5, f6⟩ := Bag.cs7 S1.out 0 rfl
  cases bn with
  | false =>
   go_wp2_with fail
   go_at_call 97
   refine (HNA.out _).mono ?_
   rintro e w1 ⟨rfl, rfl⟩
   go_wp2_with fail
   go_ret
   exact ⟨by rw [HB.out]; simp [*], S1.out.old⟩
  | true =>
   go_wp2_with fail
   go_at_call 97
   refine (HNA.out _).mono ?_
   rintro e w1 ⟨rfl, rfl⟩
   cases br with
   | false =>
    go_wp2_with fail
    go_at_call 100
    refine (HRC.out _ S1.out.old).mono ?_
    rintro e w2 ⟨rfl, hb⟩
    clear f0 f1 f2 f3 f4 f5 f6
    have S2 := Lib.hid (S1.out.keep hb)
    clear S1
    clear hb
    obtain ⟨f0, f1, f2, f3, f4, f5, f6⟩ := Bag.cs7 S2.out 0 rfl
    go_wp2_with fail
    go_ret
    exact ⟨by rw [HB.out]; simp [*], S2.out.old⟩
   | true =>
    go_wp2_with fail
    go_at_call 100
    refine (HRC.out _ S1.out.old).mono ?_
    rintro e w2 ⟨rfl, hb⟩
    clear f0 f1 f2 f3 f4 f5 f6
    have S2 := Lib.hid (S1.out.keep hb)
    clear S1
    clear hb
    obtain ⟨f0, f1, f2, f3, f4, f5, f6⟩ := Bag.cs7 S2.out 0 rfl
    go_wp2_with fail
    go_at_call 202
    refine (HOF.out _).mono ?_
    rintro e w3 ⟨rfl, hb⟩
    clear f0 f1 f2 f3 f4 f5 f6
    have S3 := Lib.hid (S2.out.keep hb)
    clear S2
    clear hb
    obtain ⟨f0, f1, f2, f3, f4, f5, f6⟩ := Bag.cs7 S3.out 0 rfl
    go_wp2_with fail
    go_ret
    exact ⟨by rw [HB.out]; simp [*], S3.out.old⟩
 ·
  skip
  have HOF := fun w => operationOf_any ⟨6, st, ⟨kk, kn, kt⟩, ⟨ra, rc, rl⟩, fd⟩ w
  unfold vv_Op at HOF
  dsimp only at HOF
  rw [ifO6] at HOF
  replace HOF := Lib.hid HOF
  have hnil := fun v w => nil_no 240 v w
  have asclearOp := not_clearOp_incOp
  have asincOp := as_incOp
  have HW : isO (co_Op ⟨6, st, ⟨kk, kn, kt⟩, ⟨ra, rc, rl⟩, fd⟩) = (bn && (bk && (br && bf))) := by rw [HBB.out]; cases bn <;> cases bk <;> cases br <;> cases bf <;> cases c0 <;> rfl
  rw [HW]
  clear HW HBB
  generalize hB : (bn && _) = B
  have HB := Lib.hid hB.symm
  clear hB
  have S1 := Lib.hid (show Sl.Sep w _ [_] from L4.push_box (Sl.Sep.start w) 148 #[.int .i64 6, .string st, .int .i64 kk, .int .i64 kn, .string kt, .slice ra rl.length rc, .string fd] (w.heap.size) (by simp))
  obtain ⟨wa, hwa⟩ : ∃ w_, w_ = (w.alloc (.cells #[.int .i64 6, .string st, .int .i64 kk, .int .i64 kn, .string kt, .slice ra rl.length rc, .string fd] 148)) := ⟨_, rfl⟩
  rw [← hwa] at S1
  go_enter Try.func189, Try.ntmps189
  go_upto_region 1 with fail
  rw [← hwa]
  clear hwa
  obtain ⟨f0, f1, f2, f3, f4, f5, f6⟩ := Bag.cs7 S1.out 0 rfl
  cases bn with
  | false =>
   go_wp2_with fail
   go_at_call 97
   refine (HNA.out _).mono ?_
   rintro e w1 ⟨rfl, rfl⟩
   go_wp2_with fail
   go_ret
   exact ⟨by rw [HB.out]; simp [*], S1.out.old⟩
  | true =>
   go_wp2_with fail
   go_at_call 97
   refine (HNA.out _).mono ?_
   rintro e w1 ⟨rfl, rfl⟩
   cases br with
   | false =>
    go_wp2_with fail
    go_at_call 100
    refine (HRC.out _ S1.out.old).mono ?_
    rintro e w2 ⟨rfl, hb⟩
    clear f0 f1 f2 f3 f4 f5 f6
    have S2 := Lib.hid (S1.out.keep hb)
    clear S1
    clear hb
    obtain ⟨f0, f1, f2, f3, f4, f5, f6⟩ := Bag.cs7 S2.out 0 rfl
    go_wp2_with fail
    go_ret
    exact ⟨by rw [HB.out]; simp [*], S2.out.old⟩
   | true =>
    go_wp2_with fail
    go_at_call 100
    refine (HRC.out _ S1.out.old).mono ?_
    rintro e w2 ⟨rfl, hb⟩
    clear f0 f1 f2 f3 f4 f5 f6
    have S2 := Lib.hid (S1.out.keep hb)
    clear S1
    clear hb
    obtain ⟨f0, f1, f2, f3, f4, f5, f6⟩ := Bag.cs7 S2.out 0 rfl
    go_wp2_with fail
    go_at_call 202
    refine (HOF.out _).mono ?_
    rintro e w3 ⟨rfl, hb⟩
    clear f0 f1 f2 f3 f4 f5 f6
    have S3 := Lib.hid (S2.out.keep hb)
    clear S2
    clear hb
    obtain ⟨f0, f1, f2, f3, f4, f5, f6⟩ := Bag.cs7 S3.out 0 rfl
    cases bk with
    | false =>
     go_wp2_with fail
     go_at_call 99
     refine (HKY.out _).mono ?_
     rintro e w4 ⟨rfl, hb⟩
     clear f0 f1 f2 f3 f4 f5 f6
     have S4 := Lib.hid (S3.out.keep hb)
     clear S3
     clear hb
     obtain ⟨f0, f1, f2, f3, f4, f5, f6⟩ := Bag.cs7 S4.out 0 rfl
     go_wp2_with fail
     go_ret
     exact ⟨by rw [HB.out]; simp [*], S4.out.old⟩
    | true =>
     go_wp2_with fail
     go_at_call 99
     refine (HKY.out _).mono ?_
     rintro e w4 ⟨rfl, hb⟩
     clear f0 f1 f2 f3 f4 f5 f6
     have S4 := Lib.hid (S3.out.keep hb)
     clear S3
     clear hb
     obtain ⟨f0, f1, f2, f3, f4, f5, f6⟩ := Bag.cs7 S4.out 0 rfl
     cases bf with
     | false =>
      go_wp2_with fail
      go_at_call 97
      refine (HNF.out _).mono ?_
      rintro e w5 ⟨rfl, rfl⟩
      go_wp2_with fail
      go_ret
      exact ⟨by rw [HB.out]; simp [*], S4.out.old⟩
     | true =>
      go_wp2_with fail
      go_at_call 97
      refine (HNF.out _).mono ?_
      rintro e w5 ⟨rfl, rfl⟩
      go_wp2_with fail
      go_ret
      exact ⟨by rw [HB.out]; simp [*], S4.out.old⟩
 ·
  skip
  have HOF := fun w => operationOf_any ⟨kd, st, ⟨kk, kn, kt⟩, ⟨ra, rc, rl⟩, fd⟩ w
  unfold vv_Op at HOF
  dsimp only at HOF
  rw [ifO_no _ hno] at HOF
  replace HOF := Lib.hid HOF
  have hnil := nil_yes
  have asclearOp := not_clearOp_nil
  have asincOp := not_incOp_nil
  have HW : isO (co_Op ⟨kd, st, ⟨kk, kn, kt⟩, ⟨ra, rc, rl⟩, fd⟩) = false := by rw [HBB.out, inB_no (by omega) (by omega) (by omega) (by omega) (by omega) (by omega)]; rfl
  rw [HW]
  clear HW HBB
  have S1 := Lib.hid (show Sl.Sep w _ [_] from L4.push_box (Sl.Sep.start w) 148 #[.int .i64 kd, .string st, .int .i64 kk, .int .i64 kn, .string kt, .slice ra rl.length rc, .string fd] (w.heap.size) (by simp))
  obtain ⟨wa, hwa⟩ : ∃ w_, w_ = (w.alloc (.cells #[.int .i64 kd, .string st, .int .i64 kk, .int .i64 kn, .string kt, .slice ra rl.length rc, .string fd] 148)) := ⟨_, rfl⟩
  rw [← hwa] at S1
  go_enter Try.func189, Try.ntmps189
  go_upto_region 1 with fail
  rw [← hwa]
  clear hwa
  obtain ⟨f0, f1, f2, f3, f4, f5, f6⟩ := Bag.cs7 S1.out 0 rfl
  cases bn with
  | false =>
   go_wp2_with fail
   go_at_call 97
   refine (HNA.out _).mono ?_
   rintro e w1 ⟨rfl, rfl⟩
   go_wp2_with fail
   go_ret
   exact ⟨by rfl, S1.out.old⟩
  | true =>
   go_wp2_with fail
   go_at_call 97
   refine (HNA.out _).mono ?_
   rintro e w1 ⟨rfl, rfl⟩
   cases br with
   | false =>
    go_wp2_with fail
    go_at_call 100
    refine (HRC.out _ S1.out.old).mono ?_
    rintro e w2 ⟨rfl, hb⟩
    clear f0 f1 f2 f3 f4 f5 f6
    have S2 := Lib.hid (S1.out.keep hb)
    clear S1
    clear hb
    obtain ⟨f0, f1, f2, f3, f4, f5, f6⟩ := Bag.cs7 S2.out 0 rfl
    go_wp2_with fail
    go_ret
    exact ⟨by rfl, S2.out.old⟩
   | true =>
    go_wp2_with fail
    go_at_call 100
    refine (HRC.out _ S1.out.old).mono ?_
    rintro e w2 ⟨rfl, hb⟩
    clear f0 f1 f2 f3 f4 f5 f6
    have S2 := Lib.hid (S1.out.keep hb)
    clear S1
    clear hb
    obtain ⟨f0, f1, f2, f3, f4, f5, f6⟩ := Bag.cs7 S2.out 0 rfl
    go_wp2_with fail
    go_at_call 202
    refine (HOF.out _).mono ?_
    rintro e w3 ⟨rfl, hb⟩
    clear f0 f1 f2 f3 f4 f5 f6
    have S3 := Lib.hid (S2.out.keep hb)
    clear S2
    clear hb
    obtain ⟨f0, f1, f2, f3, f4, f5, f6⟩ := Bag.cs7 S3.out 0 rfl
    go_wp2_with fail
    go_ret
    exact ⟨by rfl, S3.out.old⟩
end Go.Proofs.Ytojcdmgcbgpdmaa.L9

namespace Go.Proofs.Ytojcdmgcbgpdmaa.L9
open V L6
open L4 (K isK cmpK)
open L5 (F isR isN string_geq)
open Go.Op (bytesLess)
open Go.ChangeShapes Go.WideShapes Go.ChangeAt Go.RowKit Mem Sl Ex L2 Sv Bag

set_option maxHeartbeats 2000000 in
theorem areOps1_any (x : Y_Op) (hf : FitO (co_Op x)) (w : World) (hr : RowsRd w w.heap.size (rw_Op x)) :
  Calls Try.prog 188 #[vv_Op x] w fun e w' => e = .returned (.bool (!isO (co_Op x))) ∧ Below w.heap.size w w' := by
 have HIO := Lib.hid (fun w' (h : Below w.heap.size w w') => isOp_any x hf w' ((hr.below h).more h.size))
 obtain ⟨b, hb⟩ : ∃ b, isO (co_Op x) = b := ⟨_, rfl⟩
 rw [hb] at HIO ⊢
 clear hb hr hf
 unfold vv_Op at HIO ⊢
 have S1 := Lib.hid (show Sl.Sep w _ [_] from L4.push_box (Sl.Sep.start w) 148 #[.int .i64 x.f_Kind, .string x.f_Store, .int .i64 x.f_Key.kind, .int .i64 x.f_Key.n, .string x.f_Key.text, .slice x.f_Record.a x.f_Record.l.length x.f_Record.c, .string x.f_Field] (w.heap.size) (by simp))
 obtain ⟨wa, hwa⟩ : ∃ w_, w_ = (w.alloc (.cells #[.int .i64 x.f_Kind, .string x.f_Store, .int .i64 x.f_Key.kind, .int .i64 x.f_Key.n, .string x.f_Key.text, .slice x.f_Record.a x.f_Record.l.length x.f_Record.c, .string x.f_Field] 148)) := ⟨_, rfl⟩
 rw [← hwa] at S1
 go_enter Try.func188, Try.ntmps188
 go_upto_region 1 with fail
 rw [← hwa]
 clear hwa
 obtain ⟨f0, f1, f2, f3, f4, f5, f6⟩ := Bag.cs7 S1.out 0 rfl
 go_wp2_with fail
 go_at_call 189
 refine (HIO.out _ S1.out.old).mono ?_
 rintro e w1 ⟨rfl, hb⟩
 clear f0 f1 f2 f3 f4 f5 f6
 have S2 := Lib.hid (S1.out.keep hb)
 clear S1
 clear hb
 obtain ⟨f0, f1, f2, f3, f4, f5, f6⟩ := Bag.cs7 S2.out 0 rfl
 cases b with
 | true =>
  go_wp2_with fail
  go_ret
  exact ⟨rfl, S2.out.old⟩
 | false =>
  go_wp2_with fail
  go_ret
  exact ⟨rfl, S2.out.old⟩
set_option maxHeartbeats 2000000 in
theorem indexFunc_ar (f : Y_Op → Bool) (a : Option Addr) (c : Nat) (xs : List Y_Op) (hl : xs.length ≤ 1048576) (w : World) (hr : Reads w w.heap.size a (xs.flatMap cl_Op)) (hp : ∀ x ∈ xs, ∀ w', Below w.heap.size w w' → Calls Try.prog 188 #[vv_Op x] w' fun e w'' => e = .returned (.bool (f x)) ∧ Below w'.heap.size w' w'') :
  Calls Try.prog 201 #[.slice a xs.length c, .func (.func 188) #[] #[]] w fun e w' => ∃ z : Int, e = .returned (.int .i64 z) ∧ xs.any f = decide (0 ≤ z) ∧ Below w.heap.size w w' := by
 have HR := Lib.hid (fun w' (h : Below w.heap.size w w') => hr.below h)
 have HP := Lib.hid hp
 obtain ⟨N, hN⟩ : ∃ n, n = xs.length := ⟨_, rfl⟩
 rw [← hN] at hl ⊢
 have hl' : (N : Int) ≤ 1048576 := by omega
 have HN := Lib.hid hN
 obtain ⟨B, hB⟩ : ∃ b, xs.any f = b := ⟨_, rfl⟩
 rw [hB]
 have HB := Lib.hid hB
 clear hN hr hp hB
 have S1 := Lib.hid (show Sl.Sep w w [] from Sl.Sep.start w)
 go_enter Try.func201, Try.ntmps201
 go_wp2_with fail
 go_loopw [8] (fun i wr => ∃ k : Nat, k ≤ N ∧ i = .int .i64 k ∧ Hid ((∀ j (hj : j < xs.length), j < k → f xs[j] = false) ∧ Sl.Sep w wr [])) (fun i _ => N - (intOf i).toNat)
 case atStart => exact ⟨0, Nat.zero_le _, rfl, And.intro (fun j hj h => absurd h (by omega)) S1.out⟩
 case round =>
  obtain ⟨k, hk, rfl, hrel⟩ := hrel
  have HA := Lib.hid hrel.out.1
  have S2 := Lib.hid hrel.out.2
  clear hrel S1
  by_cases hlt : (k : Int) < (N : Int)
  ·
   skip
   have hkl : k < xs.length := by have := HN.out; omega
   obtain ⟨x, hx⟩ : ∃ x, xs[k]? = some x := ⟨_, List.getElem?_eq_getElem hkl⟩
   obtain ⟨ad, e'⟩ := el_some cl_Op_len (by decide) (HR.out _ S2.out.old) hkl
   subst e'
   have HPX := Lib.hid (fun w' (h : Below w.heap.size w w') => HP.out x (List.mem_of_getElem? hx) w' h)
   have HK := Lib.hid (fun w' (h : Below w.heap.size w w') => el7 cl_Op_len (HR.out _ h) hx rfl)
   have HC := Lib.hid hx
   clear hx
   obtain ⟨b, hb⟩ : ∃ b, f x = b := ⟨_, rfl⟩
   rw [hb] at HPX
   have HBX := Lib.hid hb
   clear hb
   dsimp only [vv_Op] at HPX
   obtain ⟨f0, f1, f2, f3, f4, f5, f6⟩ := HK.out _ S2.out.old
   go_wp2_with fail
   go_at_call 188
   refine (HPX.out _ S2.out.old).mono ?_
   rintro e w3 ⟨rfl, hb⟩
   clear f0 f1 f2 f3 f4 f5 f6
   have S3 := Lib.hid (S2.out.keep hb)
   clear S2
   clear hb
   cases b with
   | true =>
    go_wp2_with fail
    go_ret
    exact ⟨(k : Int), rfl, by rw [← HB.out, L10.any_yes HC.out HBX.out]; exact (decide_eq_true (Int.natCast_nonneg k)).symm, S3.out.old⟩
   | false =>
    go_wp2_with fail
    go_roundw
    case rel => exact ⟨k + 1, by omega, by go_num, And.intro (fun j hj h => by
     by_cases e : j < k
     ·
      exact HA.out j hj e
     ·
      obtain rfl : j = k := by omega
      rw [(List.getElem?_eq_some_iff.1 HC.out).2]; exact HBX.out) S3.out⟩
    case measure => simp [intOf]; omega
  ·
   skip
   go_wp2_with fail
   go_ret
   exact ⟨-1, rfl, by rw [← HB.out, L10.any_no (fun j hj => HA.out j hj (by have := HN.out; omega))]; rfl, S2.out.old⟩
set_option maxHeartbeats 2000000 in
theorem containsFunc_ar (f : Y_Op → Bool) (a : Option Addr) (c : Nat) (xs : List Y_Op) (hl : xs.length ≤ 1048576) (w : World) (hr : Reads w w.heap.size a (xs.flatMap cl_Op)) (hp : ∀ x ∈ xs, ∀ w', Below w.heap.size w w' → Calls Try.prog 188 #[vv_Op x] w' fun e w'' => e = .returned (.bool (f x)) ∧ Below w'.heap.size w' w'') :
  Calls Try.prog 145 #[.slice a xs.length c, .func (.func 188) #[] #[]] w fun e w' => e = .returned (.bool (xs.any f)) ∧ Below w.heap.size w w' := by
 have HIX := Lib.hid (indexFunc_ar f a c xs hl w hr hp)
 obtain ⟨N, hN⟩ : ∃ n, n = xs.length := ⟨_, rfl⟩
 rw [← hN] at HIX ⊢
 obtain ⟨B, hB⟩ : ∃ b, xs.any f = b := ⟨_, rfl⟩
 rw [hB] at HIX ⊢
 clear hN hr hp hl hB
 go_enter Try.func145, Try.ntmps145
 go_wp2_with fail
 go_at_call 201
 refine HIX.out.mono ?_
 rintro e w3 ⟨z, rfl, hz, hb⟩
 by_cases h0 : (0 : Int) ≤ z
 ·
  rw [decide_eq_true h0] at hz
  subst hz
  go_wp2_with fail
  go_ret
  exact ⟨by first | rfl | simp [h0], hb⟩
 ·
  rw [decide_eq_false h0] at hz
  subst hz
  go_wp2_with fail
  go_ret
  exact ⟨by first | rfl | simp [h0], hb⟩
set_option maxHeartbeats 2000000 in
theorem areOps_any (a : Option Addr) (c : Nat) (os : List Y_Op) (hl : os.length ≤ 1048576) (hf : ∀ o ∈ coS_Op os, FitO o) (w : World) (hr : Reads w w.heap.size a (os.flatMap cl_Op)) (hx : RowsRd w w.heap.size (rws_Op os)) :
  Calls Try.prog 131 #[.slice a os.length c] w fun e w' => e = .returned (.bool (okL (coS_Op os))) ∧ Below w.heap.size w w' := by
 have HCF := containsFunc_ar (fun x => !isO (co_Op x)) a c os hl w hr (fun x hm w2 h2 => areOps1_any x (hf _ (by rw [coS_Op_eq]; exact List.mem_map.2 ⟨x, hm, rfl⟩)) w2 (by obtain ⟨j, hj, rfl⟩ := List.mem_iff_getElem.1 hm; exact (((rdOs hx (List.getElem?_eq_getElem hj)).below h2).more h2.size)))
 have HOK := Lib.hid (show okL (coS_Op os) = (decide (os.length ≤ 6) && !(os.any fun x => !isO (co_Op x))) from by unfold okL; rw [coS_len, coS_Op_eq, List.all_map, List.not_any_eq_all_not]; simp [Function.comp_def])
 obtain ⟨B, hB⟩ : ∃ b, (os.any fun x => !isO (co_Op x)) = b := ⟨_, rfl⟩
 rw [hB] at HCF HOK
 obtain ⟨R, hR⟩ : ∃ b, okL (coS_Op os) = b := ⟨_, rfl⟩
 rw [hR] at HOK ⊢
 obtain ⟨N, hN⟩ : ∃ n, n = os.length := ⟨_, rfl⟩
 rw [← hN] at HCF HOK ⊢
 clear hB hR hN hr hx hf hl
 replace HCF := Lib.hid HCF
 have S1 := Lib.hid (show Sl.Sep w w [] from Sl.Sep.start w)
 go_enter Try.func131, Try.ntmps131
 by_cases h6 : N ≤ 6
 rotate_left
 ·
  have h6i : ¬ (N : Int) ≤ 6 := by omega
  have HR := Lib.hid (show R = false from by rw [HOK.out, decide_eq_false h6]; rfl)
  go_wp2_with fail
  go_ret
  exact ⟨by rw [HR.out] <;> rfl, Below.refl _ _⟩
 have h6i : (N : Int) ≤ 6 := by omega
 have HR := Lib.hid (show R = !B from by rw [HOK.out, decide_eq_true h6]; rfl)
 go_wp2_with fail
 go_at_call 145
 refine HCF.out.mono ?_
 rintro e w3 ⟨rfl, hb⟩
 cases B with
 | true =>
  go_wp2_with fail
  go_ret
  exact ⟨by rw [HR.out] <;> rfl, hb⟩
 | false =>
  go_wp2_with fail
  go_ret
  exact ⟨by rw [HR.out] <;> rfl, hb⟩
end Go.Proofs.Ytojcdmgcbgpdmaa.L9

set_option linter.unusedSimpArgs false
namespace Go.Proofs.Ytojcdmgcbgpdmaa.L10
open V L6 L9
open L4 (K isK cmpK)
open L5 (F isR isN string_geq)
open Go.Op (bytesLess)
open Go.ChangeShapes Go.WideShapes Go.ChangeAt Go.RowKit Mem Sl Ex L2 Sv Bag

theorem infoL10Id_Tx : ∃ i, Try.prog.info? 161 = some i ∧ i.zero = some (.agg #[.int .i64 0, .slice none 0 0, .int .i64 0, .int .i64 0, .slice none 0 0]) ∧ i.size = 5 ∧ i.bytes = 72 := Ex.infoOf _ _ _ _ (by kernel_rfl)
set_option maxHeartbeats 8000000 in
theorem newTx_any (a : Option Addr) (c : Nat) (ts : List Y_Tx) (hl : ts.length ≤ 1048576) (hf : ∀ t ∈ coS_Tx ts, FitT t) (a2 : Option Addr) (c2 : Nat) (os2 : List Y_Op) (hl2 : os2.length ≤ 1048576) (hf2 : ∀ o ∈ coS_Op os2, FitO o) (w : World) (hr : Reads w w.heap.size a (ts.flatMap cl_Tx)) (hx : RowsRd w w.heap.size (rws_Tx ts)) (hr2 : Reads w w.heap.size a2 (os2.flatMap cl_Op)) (hx2 : RowsRd w w.heap.size (rws_Op os2)) :
  Calls Try.prog 67 #[.agg #[.slice a ts.length c], .slice a2 os2.length c2] w (GaveQNB w (newX (coS_Tx ts) (coS_Op os2)) (newN (coS_Tx ts) (coS_Op os2)) (newB (coS_Tx ts) (coS_Op os2))) := by
 have HCQ := Lib.hid (fun w' (h : Below w.heap.size w w') => copyQueue_full a c ts hl hf w' ((hr.below h).more h.size) ((hx.below h).more h.size))
 have HCE := Lib.hid (fun w' (h : Below w.heap.size w w') => copyEach_Op copyOp_V a2 c2 os2 hl2 (fun o ho => hf2 _ (by rw [coS_Op_eq]; exact List.mem_map.2 ⟨o, ho, rfl⟩)) w' ((hr2.below h).more h.size) ((hx2.below h).more h.size))
 have HAO := (fun w' (h : Below w.heap.size w w') => areOps_any a2 c2 os2 hl2 hf2 w' ((hr2.below h).more h.size) ((hx2.below h).more h.size))
 obtain ⟨bk, hbk⟩ : ∃ b, okL (coS_Op os2) = b := ⟨_, rfl⟩
 rw [hbk] at HAO
 have HBK := Lib.hid hbk
 clear hbk
 replace HAO := Lib.hid HAO
 have HR := Lib.hid (fun w' (h : Below w.heap.size w w') => hr.below h)
 have HX := Lib.hid (fun w' (h : Below w.heap.size w w') => (hx.below h).more h.size)
 have HF := Lib.hid hf
 obtain ⟨N, hN⟩ : ∃ n, n = ts.length := ⟨_, rfl⟩
 rw [← hN] at hl ⊢
 have hl' : (N : Int) ≤ 1048576 := by omega
 have HN := Lib.hid hN
 clear hN hr hx hf
 have HR2 := Lib.hid (fun w' (h : Below w.heap.size w w') => hr2.below h)
 have HX2 := Lib.hid (fun w' (h : Below w.heap.size w w') => (hx2.below h).more h.size)
 have HF2 := Lib.hid hf2
 obtain ⟨N2, hN2⟩ : ∃ n, n = os2.length := ⟨_, rfl⟩
 rw [← hN2] at hl2 ⊢
 have hl2' : (N2 : Int) ≤ 1048576 := by omega
 have HN2 := Lib.hid hN2
 clear hN2 hr2 hx2 hf2
 obtain ⟨iX9, hi1, hi2, hi3, hi4⟩ := infoL10Id_Tx
 have HIX9 := Lib.hid (And.intro hi1 (And.intro hi2 (And.intro hi3 hi4)))
 clear hi1 hi2 hi3 hi4
 rw [← HN.out] at HCQ
 rw [← HN2.out] at HCE HAO
 have HSL := Lib.hid (show (coS_Tx ts).length = N ∧ (coS_Op os2).length = N2 from by rw [coT_len, coS_len, HN.out, HN2.out]; exact ⟨rfl, rfl⟩)
 obtain ⟨RX, hRX⟩ : ∃ x, newX (coS_Tx ts) (coS_Op os2) = x := ⟨_, rfl⟩
 rw [hRX]
 obtain ⟨RN, hRN⟩ : ∃ x, newN (coS_Tx ts) (coS_Op os2) = x := ⟨_, rfl⟩
 rw [hRN]
 obtain ⟨RB, hRB⟩ : ∃ x, newB (coS_Tx ts) (coS_Op os2) = x := ⟨_, rfl⟩
 rw [hRB]
 have HRR := Lib.hid (And.intro hRX (And.intro hRN hRB))
 clear hRX hRN hRB
 have S1 := Lib.hid (show Sl.Sep w _ [_, _] from L4.push_box (L4.push_box (Sl.Sep.start w) 98 #[.slice a N c] (w.heap.size) (by simp)) 98 #[.slice none 0 0] (w.heap.size + 1) (by simp))
 obtain ⟨wa, hwa⟩ : ∃ w_, w_ = ((w.alloc (.cells #[.slice a N c] 98)).alloc (.cells #[.slice none 0 0] 98)) := ⟨_, rfl⟩
 rw [← hwa] at S1
 go_enter Try.func67, Try.ntmps67
 go_upto_region 1 with fail
 rw [← hwa]
 clear hwa
 have f0 := Bag.cs1 S1.out 0 rfl
 have f1 := Bag.cs1 S1.out 1 rfl
 go_wp2_with fail
 go_at_call 138
 refine (HCQ.out _ S1.out.old).mono ?_
 rintro e w1 ⟨g0, ys, rfl, hcy, ho, hb⟩
 clear f0 f1
 have S2 := Lib.hid (show Sl.Sep w _ [_, _, Bag.bag (rs_Tx (some ⟨g0, 0, none⟩) ys.length ys)] from Bag.push_bag S1.out hb ho)
 clear S1
 clear hb ho
 have hyl : ys.length = N := by have h := congrArg List.length hcy; rw [coT_len, coT_len] at h; rw [h, HN.out]
 have HYL := Lib.hid hyl
 have hyb : ys.length ≤ 1048576 := by omega
 clear hyl
 have HCY := Lib.hid hcy
 clear hcy
 have HFLY := Lib.hid (show (ys.flatMap cl_Tx).length = ys.length * 5 from V.flat_len cl_Tx_len _)
 have f0 := Bag.cs1 S2.out 0 rfl
 go_upto_region 2 with fail
 clear f0
 have S3 := Lib.hid (show Sl.Sep w _ [_, _, _, _] from L4.push_box S2.out 98 #[.slice (some ⟨g0, 0, none⟩) ys.length ys.length] w1.heap.size rfl)
 clear S2
 obtain ⟨g1, hg⟩ : ∃ g', g' = w1.heap.size := ⟨_, rfl⟩
 rw [← hg] at S3 ⊢
 clear hg
 generalize w1.alloc (.cells #[.slice (some ⟨g0, 0, none⟩) ys.length ys.length] 98) = w2 at S3 ⊢
 have S4 := Lib.hid (show Sl.Sep w _ [_, _, Bag.bag ([row_Tx (some ⟨g0, 0, none⟩) ys.length ys] ++ rws_Tx ys), L4.boxR g1 98 #[.slice (some ⟨g0, 0, none⟩) ys.length ys.length]] from S3.out)
 clear S3
 have S5 := Lib.hid (show Sl.Sep w _ [_, _, Bag.bag ([row_Tx (some ⟨g0, 0, none⟩) ys.length ys]), _, Bag.bag (rws_Tx ys)] from Bag.bag_split S4.out 2 rfl)
 clear S4
 have S6 := Lib.hid (show Sl.Sep w _ [_, _, Sv.ownV 161 5 (some ⟨g0, 0, none⟩) ys.length ys.length (ys.flatMap cl_Tx), _, _] from Bag.one_of_bag S5.out 2 (r := row_Tx (some ⟨g0, 0, none⟩) ys.length ys) rfl)
 clear S5
 by_cases h6 : (6 : Int) ≤ (N : Int)
 ·
  skip
  have f0 := Bag.cs1 S6.out 0 rfl
  have f1 := Bag.cs1 S6.out 1 rfl
  have f2 := Bag.cs1 S6.out 3 rfl
  have z0 := Bag.free_at S6.out 1 rfl 0
  go_wp2_with fail
  clear f0 f1 f2 z0
  have S7 := Lib.hid (show Sl.Sep w _ [_, L4.boxR (w.heap.size + 1) 98 #[.slice (some ⟨g0, 0, none⟩) ys.length ys.length], _, _, _] from L5.put_box5 (S6.out) 1 rfl 0 (.slice (some ⟨g0, 0, none⟩) ys.length ys.length))
  clear S6
  have f0 := Bag.cs1 S7.out 1 rfl
  refine bodyPost_ret (v := .tuple #[.agg #[.slice (some ⟨g0, 0, none⟩) ys.length ys.length], .int .i64 0, .bool false]) (by simp [results, Try.results67, go_sem, *]) rfl ?_
  clear f0
  obtain ⟨e1, e2, e3⟩ := new_no (q := coS_Tx ts) (ops := coS_Op os2) (by unfold newB; rw [decide_eq_false (by rw [HSL.out.1]; omega)]; rfl)
  rw [HRR.out.1] at e1
  rw [HRR.out.2.1] at e2
  rw [HRR.out.2.2] at e3
  have S90 := Lib.hid (Bag.bag_of_one S7.out 2 (r := row_Tx (some ⟨g0, 0, none⟩) ys.length ys) rfl)
  have S91 := Lib.hid (Bag.bag_join S90.out 2 4 (by decide) rfl rfl)
  exact ⟨(some ⟨g0, 0, none⟩), ys.length, ys, by rw [e2, e3], by rw [HCY.out, e1], Bag.bag_from S91.out 2 rfl, S91.out.old⟩
 ·
  skip
  have h6' : (N : Int) < 6 := by omega
  have f0 := Bag.cs1 S6.out 0 rfl
  go_wp2_with fail
  go_at_call 131
  refine (HAO.out _ S6.out.old).mono ?_
  rintro e w3 ⟨rfl, hb⟩
  clear f0
  have S7 := Lib.hid (S6.out.keep hb)
  clear S6
  clear hb
  cases bk with
  | false =>
   have f0 := Bag.cs1 S7.out 0 rfl
   have f1 := Bag.cs1 S7.out 1 rfl
   have f2 := Bag.cs1 S7.out 3 rfl
   have z0 := Bag.free_at S7.out 1 rfl 0
   go_wp2_with fail
   clear f0 f1 f2 z0
   have S8 := Lib.hid (show Sl.Sep w _ [_, _, _, _, _] from L5.put_box5 (S7.out) 1 rfl 0 (.slice (some ⟨g0, 0, none⟩) ys.length ys.length))
   clear S7
   have f0 := Bag.cs1 S8.out 1 rfl
   refine bodyPost_ret (v := .tuple #[.agg #[.slice (some ⟨g0, 0, none⟩) ys.length ys.length], .int .i64 0, .bool false]) (by simp [results, Try.results67, go_sem, *]) rfl ?_
   clear f0
   obtain ⟨e1, e2, e3⟩ := new_no (q := coS_Tx ts) (ops := coS_Op os2) (new_bad HBK.out)
   rw [HRR.out.1] at e1
   rw [HRR.out.2.1] at e2
   rw [HRR.out.2.2] at e3
   have S90 := Lib.hid (Bag.bag_of_one S8.out 2 (r := row_Tx (some ⟨g0, 0, none⟩) ys.length ys) rfl)
   have S91 := Lib.hid (Bag.bag_join S90.out 2 4 (by decide) rfl rfl)
   exact ⟨(some ⟨g0, 0, none⟩), ys.length, ys, by rw [e2, e3], by rw [HCY.out, e1], Bag.bag_from S91.out 2 rfl, S91.out.old⟩
  | true =>
   have HOK := HBK
   by_cases h0 : (0 : Int) < (N : Int)
   rotate_left
   ·
    skip
    skip
    have HID := Lib.hid (show idQ (coS_Tx ts) = 1 from idQ_none (by rw [HSL.out.1]; omega))
    have f0 := Bag.cs1 S7.out 0 rfl
    have f1 := Bag.cs1 S7.out 1 rfl
    have f2 := Bag.cs1 S7.out 3 rfl
    go_upto_region 7 with fail
    clear f0 f1 f2
    refine Reg.wp_region_late (fun w' => (w'.cell? ⟨w.heap.size + 1, 0, none⟩ = some (.slice none 0 0))) (fun w' => (w'.cell? ⟨g1, 0, none⟩ = some (.slice (some ⟨g0, 0, none⟩) ys.length ys.length))) 9 (by kernel_rfl) (Bag.cs1 (Bag.drew1 S7.out) 1 rfl) (Bag.cs1 (Bag.drew1 S7.out) 3 rfl) (fun hS hL => ?_)
    have S8 := Lib.hid (Bag.drew1 S7.out)
    clear S7
    generalize World.drew _ = w4 at hS hL S8 ⊢
    refine Reg.early_op (i := 0) (v := ?_) rfl (by kernel_rfl) (by kernel_rfl) (by kernel_rfl) rfl (by kernel_rfl) (by kernel_rfl) (fun _ _ _ h => h) (by rfl) ?_ hS hL ?_
    rotate_left
    ·
     (intro w hSw hSv; (try dsimp only at hSw); (try dsimp only at hSv); go_simp; try with_reducible rfl)
    try simp only [zp0, zp1, zp2, zp3, zp4]
    refine Reg.early_op (i := 1) (v := ?_) rfl (by kernel_rfl) (by kernel_rfl) (by kernel_rfl) rfl (by kernel_rfl) (by kernel_rfl) (fun _ _ _ h => h) (by rfl) ?_ hS hL ?_
    rotate_left
    ·
     (intro w hSw hSv; (try dsimp only at hSw); (try dsimp only at hSv); go_simp; try with_reducible rfl)
    try simp only [zp0, zp1, zp2, zp3, zp4]
    refine Reg.early_op (i := 2) (v := ?_) rfl (by kernel_rfl) (by kernel_rfl) (by kernel_rfl) rfl (by kernel_rfl) (by kernel_rfl) (fun _ _ _ h => h) (by rfl) ?_ hS hL ?_
    rotate_left
    ·
     (intro w hSw hSv; (try dsimp only at hSw); (try dsimp only at hSv); go_simp; try with_reducible rfl)
    try simp only [zp0, zp1, zp2, zp3, zp4]
    refine Reg.early_op (i := 3) (v := ?_) rfl (by kernel_rfl) (by kernel_rfl) (by kernel_rfl) rfl (by kernel_rfl) (by kernel_rfl) (fun _ _ _ h => h) (by rfl) ?_ hS hL ?_
    rotate_left
    ·
     (intro w hSw hSv; (try dsimp only at hSw); (try dsimp only at hSv); go_simp; try with_reducible rfl)
    try simp only [zp0, zp1, zp2, zp3, zp4]
    refine Reg.only_op (i := 4) rfl (by kernel_rfl) (fun K hK => ?_)
    go_simp
    go_at_call 139
    refine (HCE.out _ S8.out.old).mono ?_
    rintro e w5 ⟨g5, zs, rfl, hcz, ho, hb⟩
    have S9 := Lib.hid (show Sl.Sep w _ [_, _, _, _, _, Bag.bag (rs_Op (some ⟨g5, 0, none⟩) zs.length zs)] from Bag.push_bag S8.out hb ho)
    clear S8
    clear hb ho
    have HCZ := Lib.hid hcz
    clear hcz
    go_wp2_with fail
    clear hL
    refine hK.out _ _ (Bag.cs1 S9.out 1 rfl) (Bag.cs1 S9.out 3 rfl) (fun hS hL => ?_)
    clear hK K
    try simp only [zp0, zp1, zp2, zp3, zp4]
    refine Reg.early_op (i := 5) (v := ?_) rfl (by kernel_rfl) (by kernel_rfl) (by kernel_rfl) rfl (by kernel_rfl) (by kernel_rfl) (fun _ _ _ h => h) (by rfl) ?_ hS hL ?_
    rotate_left
    ·
     (intro w hSw hSv; (try dsimp only at hSw); (try dsimp only at hSv); go_simp; try with_reducible rfl)
    try simp only [zp0, zp1, zp2, zp3, zp4]
    refine Reg.only_op (i := 6) rfl (by kernel_rfl) (fun K hK => ?_)
    go_simp
    have S10 := Lib.hid (show Sl.Sep w _ [_, _, _, _, _, _, Sv.ownV 161 5 (some ⟨w5.heap.size, 0, none⟩) 1 1 ([(⟨1, (some ⟨g5, 0, none⟩), zs.length, zs, 0, 0, none, 0, []⟩ : Y_Tx)].flatMap cl_Tx)] from Sv.push_own S9.out ((Below.refl _ _).alloc (Nat.le_refl _) _) (OwnV.madeAt w5 161 5 1 w5.heap.size #[.int .i64 1, .slice (some ⟨g5, 0, none⟩) zs.length zs.length, .int .i64 0, .int .i64 0, .slice none 0 0] rfl (Nat.le_refl _) rfl (by decide)))
    clear S9
    obtain ⟨g2, hg⟩ : ∃ g', g' = w5.heap.size := ⟨_, rfl⟩
    rw [← hg] at S10 ⊢
    clear hg
    generalize w5.alloc (.cells #[.int .i64 1, .slice (some ⟨g5, 0, none⟩) zs.length zs.length, .int .i64 0, .int .i64 0, .slice none 0 0] 161) = w6 at S10 ⊢
    clear hL
    refine hK.out _ _ (Bag.cs1 S10.out 1 rfl) (Bag.cs1 S10.out 3 rfl) (fun hS hL => ?_)
    clear hK K
    try simp only [zp0, zp1, zp2, zp3, zp4]
    refine Reg.only_op (i := 7) rfl (by kernel_rfl) (fun K hK => ?_)
    refine Sv.step_append_s S10.out 2 rfl rfl _ _ 96 (by rfl) iX9 (.agg #[.int .i64 0, .slice none 0 0, .int .i64 0, .int .i64 0, .slice none 0 0]) 72 Try.underlying96 HIX9.out.1 HIX9.out.2.1 HIX9.out.2.2.1 HIX9.out.2.2.2 rfl (by omega) _ (by rfl) rfl _ _ 1 _ _ ([(⟨1, (some ⟨g5, 0, none⟩), zs.length, zs, 0, 0, none, 0, []⟩ : Y_Tx)].flatMap cl_Tx) (by rfl) rfl ((Sv.own_at S10.out 6 rfl).reads) rfl (V.one_flat cl_Tx_one _) (by unfold maxLen; omega) (by omega) ?_
    intro a3' c3' w7 hA
    have S11 := Lib.hid (show Sl.Sep w _ [_, _, Sv.ownV 161 5 a3' c3' (ys.length + 1) (ys.flatMap cl_Tx ++ ([(⟨1, (some ⟨g5, 0, none⟩), zs.length, zs, 0, 0, none, 0, []⟩ : Y_Tx)].flatMap cl_Tx)), _, _, _, Sv.ownV 161 5 (some ⟨g2, 0, none⟩) 1 1 ([(⟨1, (some ⟨g5, 0, none⟩), zs.length, zs, 0, 0, none, 0, []⟩ : Y_Tx)].flatMap cl_Tx)] from hA)
    clear S10
    clear hA
    clear hL
    refine hK.out _ _ (Bag.cs1 S11.out 1 rfl) (Bag.cs1 S11.out 3 rfl) (fun hS hL => ?_)
    clear hK K
    try simp only [zp0, zp1, zp2, zp3, zp4]
    refine Reg.early_op (i := 8) (v := ?_) rfl (by kernel_rfl) (by kernel_rfl) (by kernel_rfl) rfl (by kernel_rfl) (by kernel_rfl) (fun _ _ _ h => h) (by rfl) ?_ hS hL ?_
    rotate_left
    ·
     (intro w hSw hSv; (try dsimp only at hSw); (try dsimp only at hSv); go_simp; try with_reducible rfl)
    try simp only [zp0, zp1, zp2, zp3, zp4]
    refine Reg.late_op (i := 9) rfl (by kernel_rfl) rfl (fun K hK => ?_)
    have f0 := Bag.cs1 S11.out 3 rfl
    have z0 := Bag.free_at S11.out 3 rfl 0
    go_simp
    clear f0 z0
    have S12 := Lib.hid (show Sl.Sep w _ [_, _, _, L4.boxR g1 98 #[.slice a3' (ys.length + 1) c3'], _, _, _] from L5.put_box5 (S11.out) 3 rfl 0 (.slice a3' (ys.length + 1) c3'))
    clear S11
    refine hK.out _ _ (Bag.cs1 S12.out 1 rfl) (fun hS => ?_)
    clear hL
    clear hK K
    try simp only [zp0, zp1, zp2, zp3, zp4]
    refine Reg.anyL_done (by kernel_rfl) ?_ _
    have f0 := Bag.cs1 S12.out 0 rfl
    have f1 := Bag.cs1 S12.out 1 rfl
    have f2 := Bag.cs1 S12.out 3 rfl
    clear f0 f1 f2
    have f0 := Bag.cs1 S12.out 1 rfl
    have f1 := Bag.cs1 S12.out 3 rfl
    have z0 := Bag.free_at S12.out 1 rfl 0
    go_wp2_with fail
    clear f0 f1 z0
    have S13 := Lib.hid (show Sl.Sep w _ [_, L4.boxR (w.heap.size + 1) 98 #[.slice a3' (ys.length + 1) c3'], _, _, _, _, _] from L5.put_box5 (S12.out) 1 rfl 0 (.slice a3' (ys.length + 1) c3'))
    clear S12
    have f0 := Bag.cs1 S13.out 1 rfl
    refine bodyPost_ret (v := .tuple #[.agg #[.slice a3' (ys.length + 1) c3'], .int .i64 1, .bool true]) (by simp [results, Try.results67, go_sem, *]) rfl ?_
    clear f0
    have S14 := Lib.hid (show Sl.Sep w _ [_, _, _] from Bag.take S13.out [2, 4, 5] (by rfl) (by decide))
    clear S13
    have S15 := Lib.hid (show Sl.Sep w _ [_, _, _, Sv.ownV 26 3 none 0 0 (([] : List LS).flatMap cl_Store)] from Sv.push_own S14.out (Below.refl _ _) (OwnV.nil _ _ _ _))
    clear S14
    have S16 := Lib.hid (show Sl.Sep w _ [_, _, _, Bag.bag ([row_Store none 0 []])] from Bag.bag_of_one S15.out 3 (r := row_Store none 0 []) rfl)
    clear S15
    have S17 := Lib.hid (show Sl.Sep w _ [_, _, Bag.bag ((rs_Op (some ⟨g5, 0, none⟩) zs.length zs) ++ ([row_Store none 0 []])), Bag.bag ([])] from Bag.bag_join S16.out 2 3 (by decide) rfl rfl)
    clear S16
    have S18 := Lib.hid (show Sl.Sep w _ [_, _, _] from Bag.take S17.out [0, 1, 2] (by rfl) (by decide))
    clear S17
    have S19 := Lib.hid (show Sl.Sep w _ [_, Bag.bag (rws_Tx ys ++ ((rs_Op (some ⟨g5, 0, none⟩) zs.length zs) ++ ([row_Store none 0 []]))), Bag.bag ([])] from Bag.bag_join S18.out 1 2 (by decide) rfl rfl)
    clear S18
    have S20 := Lib.hid (show Sl.Sep w _ [_, _] from Bag.take S19.out [0, 1] (by rfl) (by decide))
    clear S19
    obtain ⟨e1, e2, e3⟩ := new_yes (q := coS_Tx ts) (ops := coS_Op os2) (by unfold newB; rw [decide_eq_true (by rw [HSL.out.1]; omega), HOK.out]; rfl)
    rw [HRR.out.1, HID.out] at e1
    rw [HRR.out.2.1, HID.out] at e2
    rw [HRR.out.2.2] at e3
    have S90 := Lib.hid (Bag.bag_of_one S20.out 0 (r := row_Tx a3' c3' (ys ++ [(⟨1, (some ⟨g5, 0, none⟩), zs.length, zs, 0, 0, none, 0, []⟩ : Y_Tx)])) (by unfold RowS.res row_Tx; dsimp only; rw [List.length_append, List.flatMap_append]; rfl))
    have S91 := Lib.hid (Bag.bag_join S90.out 0 1 (by decide) rfl rfl)
    refine ⟨a3', c3', ys ++ [(⟨1, (some ⟨g5, 0, none⟩), zs.length, zs, 0, 0, none, 0, []⟩ : Y_Tx)], by rw [e2, e3, List.length_append]; rfl, ?_, ?_, S91.out.old⟩
    ·
     rw [e1, coS_Tx_eq, List.map_append, ← coS_Tx_eq, HCY.out]; exact congrArg (fun u => _ ++ [u]) (by unfold co_Tx; dsimp only; rw [HCZ.out]; rfl)
    ·
     have h := Bag.bag_from S91.out 0 rfl
     unfold rs_Tx
     rw [rws_Tx_app, show rws_Tx [(⟨1, (some ⟨g5, 0, none⟩), zs.length, zs, 0, 0, none, 0, []⟩ : Y_Tx)] = rs_Op (some ⟨g5, 0, none⟩) zs.length zs ++ [row_Store none 0 []] from by rw [rws_Tx_eq]; simp; rfl]
     exact h
   obtain ⟨m, hm⟩ : ∃ m, N = m + 1 := ⟨N - 1, by omega⟩
   have hki : (N : Int) - 1 = (m : Int) := by omega
   have hmw : IntKind.i64.wrap (m : Int) = (m : Int) := IntWalk.i64_in _ ⟨by omega, by omega⟩
   have hmi : (m : Int) < (N : Int) := by omega
   have hml : m < ts.length := by have := HN.out; omega
   have HM := Lib.hid hm
   clear hm
   obtain ⟨x, hx⟩ : ∃ x, ts[m]? = some x := ⟨_, List.getElem?_eq_getElem hml⟩
   obtain ⟨tad, e'⟩ := el_some cl_Tx_len (by decide) (HR.out _ S7.out.old) hml
   subst e'
   have HKx := Lib.hid (fun w' (h : Below w.heap.size w w') => el5 cl_Tx_len (HR.out _ h) hx rfl)
   have HRx := Lib.hid (fun w' (h : Below w.heap.size w w') => rdTs (HX.out w' h) hx)
   have HCx := Lib.hid (coT_at hx)
   have HFx := Lib.hid (HF.out _ (List.mem_of_getElem? HCx.out))
   clear hx
   obtain ⟨ID, hID⟩ : ∃ u : Int, IntKind.i64.wrap (x.f_Id + 1) = u := ⟨_, rfl⟩
   have HID := Lib.hid (show idQ (coS_Tx ts) = ID from by rw [idQ_last HCx.out (by rw [HSL.out.1, HM.out])]; exact hID)
   have f0 := Bag.cs1 S7.out 0 rfl
   have f1 := Bag.cs1 S7.out 1 rfl
   have f2 := Bag.cs1 S7.out 3 rfl
   obtain ⟨f3, f4, f5, f6, f7⟩ := HKx.out _ S7.out.old
   go_upto_region 7 with fail
   clear f0 f1 f2 f3 f4 f5 f6 f7
   clear hID hki hmw hmi
   refine Reg.wp_region_late (fun w' => (w'.cell? ⟨w.heap.size + 1, 0, none⟩ = some (.slice none 0 0))) (fun w' => (w'.cell? ⟨g1, 0, none⟩ = some (.slice (some ⟨g0, 0, none⟩) ys.length ys.length))) 9 (by kernel_rfl) (Bag.cs1 (Bag.drew1 S7.out) 1 rfl) (Bag.cs1 (Bag.drew1 S7.out) 3 rfl) (fun hS hL => ?_)
   have S8 := Lib.hid (Bag.drew1 S7.out)
   clear S7
   generalize World.drew _ = w4 at hS hL S8 ⊢
   refine Reg.early_op (i := 0) (v := ?_) rfl (by kernel_rfl) (by kernel_rfl) (by kernel_rfl) rfl (by kernel_rfl) (by kernel_rfl) (fun _ _ _ h => h) (by rfl) ?_ hS hL ?_
   rotate_left
   ·
    (intro w hSw hSv; (try dsimp only at hSw); (try dsimp only at hSv); go_simp; try with_reducible rfl)
   try simp only [zp0, zp1, zp2, zp3, zp4]
   refine Reg.early_op (i := 1) (v := ?_) rfl (by kernel_rfl) (by kernel_rfl) (by kernel_rfl) rfl (by kernel_rfl) (by kernel_rfl) (fun _ _ _ h => h) (by rfl) ?_ hS hL ?_
   rotate_left
   ·
    (intro w hSw hSv; (try dsimp only at hSw); (try dsimp only at hSv); go_simp; try with_reducible rfl)
   try simp only [zp0, zp1, zp2, zp3, zp4]
   refine Reg.early_op (i := 2) (v := ?_) rfl (by kernel_rfl) (by kernel_rfl) (by kernel_rfl) rfl (by kernel_rfl) (by kernel_rfl) (fun _ _ _ h => h) (by rfl) ?_ hS hL ?_
   rotate_left
   ·
    (intro w hSw hSv; (try dsimp only at hSw); (try dsimp only at hSv); go_simp; try with_reducible rfl)
   try simp only [zp0, zp1, zp2, zp3, zp4]
   refine Reg.early_op (i := 3) (v := ?_) rfl (by kernel_rfl) (by kernel_rfl) (by kernel_rfl) rfl (by kernel_rfl) (by kernel_rfl) (fun _ _ _ h => h) (by rfl) ?_ hS hL ?_
   rotate_left
   ·
    (intro w hSw hSv; (try dsimp only at hSw); (try dsimp only at hSv); go_simp; try with_reducible rfl)
   try simp only [zp0, zp1, zp2, zp3, zp4]
   refine Reg.only_op (i := 4) rfl (by kernel_rfl) (fun K hK => ?_)
   go_simp
   go_at_call 139
   refine (HCE.out _ S8.out.old).mono ?_
   rintro e w5 ⟨g5, zs, rfl, hcz, ho, hb⟩
   have S9 := Lib.hid (show Sl.Sep w _ [_, _, _, _, _, Bag.bag (rs_Op (some ⟨g5, 0, none⟩) zs.length zs)] from Bag.push_bag S8.out hb ho)
   clear S8
   clear hb ho
   have HCZ := Lib.hid hcz
   clear hcz
   go_wp2_with fail
   clear hL
   refine hK.out _ _ (Bag.cs1 S9.out 1 rfl) (Bag.cs1 S9.out 3 rfl) (fun hS hL => ?_)
   clear hK K
   try simp only [zp0, zp1, zp2, zp3, zp4]
   refine Reg.early_op (i := 5) (v := ?_) rfl (by kernel_rfl) (by kernel_rfl) (by kernel_rfl) rfl (by kernel_rfl) (by kernel_rfl) (fun _ _ _ h => h) (by rfl) ?_ hS hL ?_
   rotate_left
   ·
    (intro w hSw hSv; (try dsimp only at hSw); (try dsimp only at hSv); go_simp; try with_reducible rfl)
   try simp only [zp0, zp1, zp2, zp3, zp4]
   refine Reg.only_op (i := 6) rfl (by kernel_rfl) (fun K hK => ?_)
   go_simp
   have S10 := Lib.hid (show Sl.Sep w _ [_, _, _, _, _, _, Sv.ownV 161 5 (some ⟨w5.heap.size, 0, none⟩) 1 1 ([(⟨ID, (some ⟨g5, 0, none⟩), zs.length, zs, 0, 0, none, 0, []⟩ : Y_Tx)].flatMap cl_Tx)] from Sv.push_own S9.out ((Below.refl _ _).alloc (Nat.le_refl _) _) (OwnV.madeAt w5 161 5 1 w5.heap.size #[.int .i64 ID, .slice (some ⟨g5, 0, none⟩) zs.length zs.length, .int .i64 0, .int .i64 0, .slice none 0 0] rfl (Nat.le_refl _) rfl (by decide)))
   clear S9
   obtain ⟨g2, hg⟩ : ∃ g', g' = w5.heap.size := ⟨_, rfl⟩
   rw [← hg] at S10 ⊢
   clear hg
   generalize w5.alloc (.cells #[.int .i64 ID, .slice (some ⟨g5, 0, none⟩) zs.length zs.length, .int .i64 0, .int .i64 0, .slice none 0 0] 161) = w6 at S10 ⊢
   clear hL
   refine hK.out _ _ (Bag.cs1 S10.out 1 rfl) (Bag.cs1 S10.out 3 rfl) (fun hS hL => ?_)
   clear hK K
   try simp only [zp0, zp1, zp2, zp3, zp4]
   refine Reg.only_op (i := 7) rfl (by kernel_rfl) (fun K hK => ?_)
   refine Sv.step_append_s S10.out 2 rfl rfl _ _ 96 (by rfl) iX9 (.agg #[.int .i64 0, .slice none 0 0, .int .i64 0, .int .i64 0, .slice none 0 0]) 72 Try.underlying96 HIX9.out.1 HIX9.out.2.1 HIX9.out.2.2.1 HIX9.out.2.2.2 rfl (by omega) _ (by rfl) rfl _ _ 1 _ _ ([(⟨ID, (some ⟨g5, 0, none⟩), zs.length, zs, 0, 0, none, 0, []⟩ : Y_Tx)].flatMap cl_Tx) (by rfl) rfl ((Sv.own_at S10.out 6 rfl).reads) rfl (V.one_flat cl_Tx_one _) (by unfold maxLen; omega) (by omega) ?_
   intro a3' c3' w7 hA
   have S11 := Lib.hid (show Sl.Sep w _ [_, _, Sv.ownV 161 5 a3' c3' (ys.length + 1) (ys.flatMap cl_Tx ++ ([(⟨ID, (some ⟨g5, 0, none⟩), zs.length, zs, 0, 0, none, 0, []⟩ : Y_Tx)].flatMap cl_Tx)), _, _, _, Sv.ownV 161 5 (some ⟨g2, 0, none⟩) 1 1 ([(⟨ID, (some ⟨g5, 0, none⟩), zs.length, zs, 0, 0, none, 0, []⟩ : Y_Tx)].flatMap cl_Tx)] from hA)
   clear S10
   clear hA
   clear hL
   refine hK.out _ _ (Bag.cs1 S11.out 1 rfl) (Bag.cs1 S11.out 3 rfl) (fun hS hL => ?_)
   clear hK K
   try simp only [zp0, zp1, zp2, zp3, zp4]
   refine Reg.early_op (i := 8) (v := ?_) rfl (by kernel_rfl) (by kernel_rfl) (by kernel_rfl) rfl (by kernel_rfl) (by kernel_rfl) (fun _ _ _ h => h) (by rfl) ?_ hS hL ?_
   rotate_left
   ·
    (intro w hSw hSv; (try dsimp only at hSw); (try dsimp only at hSv); go_simp; try with_reducible rfl)
   try simp only [zp0, zp1, zp2, zp3, zp4]
   refine Reg.late_op (i := 9) rfl (by kernel_rfl) rfl (fun K hK => ?_)
   have f0 := Bag.cs1 S11.out 3 rfl
   have z0 := Bag.free_at S11.out 3 rfl 0
   go_simp
   clear f0 z0
   have S12 := Lib.hid (show Sl.Sep w _ [_, _, _, L4.boxR g1 98 #[.slice a3' (ys.length + 1) c3'], _, _, _] from L5.put_box5 (S11.out) 3 rfl 0 (.slice a3' (ys.length + 1) c3'))
   clear S11
   refine hK.out _ _ (Bag.cs1 S12.out 1 rfl) (fun hS => ?_)
   clear hL
   clear hK K
   try simp only [zp0, zp1, zp2, zp3, zp4]
   refine Reg.anyL_done (by kernel_rfl) ?_ _
   have f0 := Bag.cs1 S12.out 0 rfl
   have f1 := Bag.cs1 S12.out 1 rfl
   have f2 := Bag.cs1 S12.out 3 rfl
   clear f0 f1 f2
   have f0 := Bag.cs1 S12.out 1 rfl
   have f1 := Bag.cs1 S12.out 3 rfl
   have z0 := Bag.free_at S12.out 1 rfl 0
   go_wp2_with fail
   clear f0 f1 z0
   have S13 := Lib.hid (show Sl.Sep w _ [_, L4.boxR (w.heap.size + 1) 98 #[.slice a3' (ys.length + 1) c3'], _, _, _, _, _] from L5.put_box5 (S12.out) 1 rfl 0 (.slice a3' (ys.length + 1) c3'))
   clear S12
   have f0 := Bag.cs1 S13.out 1 rfl
   refine bodyPost_ret (v := .tuple #[.agg #[.slice a3' (ys.length + 1) c3'], .int .i64 ID, .bool true]) (by simp [results, Try.results67, go_sem, *]) rfl ?_
   clear f0
   have S14 := Lib.hid (show Sl.Sep w _ [_, _, _] from Bag.take S13.out [2, 4, 5] (by rfl) (by decide))
   clear S13
   have S15 := Lib.hid (show Sl.Sep w _ [_, _, _, Sv.ownV 26 3 none 0 0 (([] : List LS).flatMap cl_Store)] from Sv.push_own S14.out (Below.refl _ _) (OwnV.nil _ _ _ _))
   clear S14
   have S16 := Lib.hid (show Sl.Sep w _ [_, _, _, Bag.bag ([row_Store none 0 []])] from Bag.bag_of_one S15.out 3 (r := row_Store none 0 []) rfl)
   clear S15
   have S17 := Lib.hid (show Sl.Sep w _ [_, _, Bag.bag ((rs_Op (some ⟨g5, 0, none⟩) zs.length zs) ++ ([row_Store none 0 []])), Bag.bag ([])] from Bag.bag_join S16.out 2 3 (by decide) rfl rfl)
   clear S16
   have S18 := Lib.hid (show Sl.Sep w _ [_, _, _] from Bag.take S17.out [0, 1, 2] (by rfl) (by decide))
   clear S17
   have S19 := Lib.hid (show Sl.Sep w _ [_, Bag.bag (rws_Tx ys ++ ((rs_Op (some ⟨g5, 0, none⟩) zs.length zs) ++ ([row_Store none 0 []]))), Bag.bag ([])] from Bag.bag_join S18.out 1 2 (by decide) rfl rfl)
   clear S18
   have S20 := Lib.hid (show Sl.Sep w _ [_, _] from Bag.take S19.out [0, 1] (by rfl) (by decide))
   clear S19
   obtain ⟨e1, e2, e3⟩ := new_yes (q := coS_Tx ts) (ops := coS_Op os2) (by unfold newB; rw [decide_eq_true (by rw [HSL.out.1]; omega), HOK.out]; rfl)
   rw [HRR.out.1, HID.out] at e1
   rw [HRR.out.2.1, HID.out] at e2
   rw [HRR.out.2.2] at e3
   have S90 := Lib.hid (Bag.bag_of_one S20.out 0 (r := row_Tx a3' c3' (ys ++ [(⟨ID, (some ⟨g5, 0, none⟩), zs.length, zs, 0, 0, none, 0, []⟩ : Y_Tx)])) (by unfold RowS.res row_Tx; dsimp only; rw [List.length_append, List.flatMap_append]; rfl))
   have S91 := Lib.hid (Bag.bag_join S90.out 0 1 (by decide) rfl rfl)
   refine ⟨a3', c3', ys ++ [(⟨ID, (some ⟨g5, 0, none⟩), zs.length, zs, 0, 0, none, 0, []⟩ : Y_Tx)], by rw [e2, e3, List.length_append]; rfl, ?_, ?_, S91.out.old⟩
   ·
    rw [e1, coS_Tx_eq, List.map_append, ← coS_Tx_eq, HCY.out]; exact congrArg (fun u => _ ++ [u]) (by unfold co_Tx; dsimp only; rw [HCZ.out]; rfl)
   ·
    have h := Bag.bag_from S91.out 0 rfl
    unfold rs_Tx
    rw [rws_Tx_app, show rws_Tx [(⟨ID, (some ⟨g5, 0, none⟩), zs.length, zs, 0, 0, none, 0, []⟩ : Y_Tx)] = rs_Op (some ⟨g5, 0, none⟩) zs.length zs ++ [row_Store none 0 []] from by rw [rws_Tx_eq]; simp; rfl]
    exact h
end Go.Proofs.Ytojcdmgcbgpdmaa.L10

