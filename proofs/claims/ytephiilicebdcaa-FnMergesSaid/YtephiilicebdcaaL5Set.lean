/-
  The contract of chapter 5's SetField of the specification. Conditions: names of at most 2^48 bytes, a record of at most 2^40 fields. (The region that draws its order is written by my program gen_l5set.py.)
-/
import Derived.Test.YtephiilicebdcaaPc
import Derived.Test.YtephiilicebdcaaPb
namespace Go.Proofs.Ytephiilicebdcaa.L5
set_option maxRecDepth 100000
open Go.Op (bytesLess)
open L4 (boxR push_box box_at)
open Go.ChangeShapes Go.WideShapes Go.ChangeAt Go.RowKit Mem Sl Ex L2 Sv
set_option linter.unusedVariables false
set_option linter.unusedSimpArgs false

theorem put_box5 {W w : World} {rs : List Res} {g : Nat} {t : TypeId} {cs : Array Value} (h : Sep W w rs) (i : Nat) (hi : rs[i]? = some (boxR g t cs)) (j : Nat) (v : Value) : Sep W (w.setCell ⟨g, j, none⟩ v) (rs.set i (boxR g t (cs.setIfInBounds j v))) :=
  h.put i hi (Turned.of_grown (grownBy_put w g j v)) ((box_at h i hi).put j v) (fun b hb => hb)
def posF (l : List F) (s : ByteArray) : Nat := (l.takeWhile fun f => bytesLess f.t s.data.toList).length
/-- The fields with the field set. -/
def putF (l : List F) (s : ByteArray) (x : Int) : List F :=
  match l[posF l s]? with
  | some f => if f.t = s.data.toList then l.set (posF l s) ⟨f.name, x⟩ else l.take (posF l s) ++ ⟨s, x⟩ :: l.drop (posF l s)
  | none => l ++ [⟨s, x⟩]
def setL (l : List F) (s : ByteArray) (x : Int) : List F := if isR l && isR (putF l s x) then putF l s x else l
def setB (l : List F) (s : ByteArray) (x : Int) : Bool := isR l && isR (putF l s x)
theorem posF_at {l : List F} {s : ByteArray} (k : Nat) (hk : k ≤ l.length) (h : ∀ j (hj : j < l.length), j < k → bytesLess l[j].t s.data.toList = true) (h2 : ∀ hj : k < l.length, bytesLess l[k].t s.data.toList = false) : posF l s = k := by
  unfold posF
  have e : l = l.take k ++ l.drop k := (List.take_append_drop k l).symm
  rw [e, List.takeWhile_append_of_pos (by
    intro f hf
    obtain ⟨i, hi, rfl⟩ := List.getElem_of_mem hf
    rw [List.getElem_take]
    simp at hi
    exact h i (by omega) (by omega))]
  by_cases hlt : k < l.length
  · have := List.drop_eq_getElem_cons hlt
    rw [this, List.takeWhile_cons, h2 hlt]
    simp
    omega
  · rw [List.drop_of_length_le (by omega)]
    simp
    omega
theorem cellsF_set : ∀ (l : List F) (k : Nat) (h : k < l.length) (x : Int), (cellsF l).set (k * 2 + 1) (.int .i64 x) = cellsF (l.set k ⟨l[k].name, x⟩)
  | f :: l, 0, _, x => rfl
  | f :: l, k + 1, h, x => by
    have := cellsF_set l k (by simpa using h) x
    rw [cellsF_cons, show (k + 1) * 2 + 1 = k * 2 + 1 + 1 + 1 by omega, List.set_cons_succ, List.set_cons_succ, this]
    rfl
theorem reads_prefix {w : World} {B : Nat} {a : Option Addr} {l : List F} (h : Reads w B a (cellsF l)) (k : Nat) : Reads w B a (cellsF (l.take k)) := fun j hj => by
  have e : cellsF l = cellsF (l.take k) ++ cellsF (l.drop k) := by rw [← cellsF_append, List.take_append_drop]
  obtain ⟨ad, e1, hb, hc⟩ := h j (by rw [e, List.length_append]; omega)
  refine ⟨ad, e1, hb, hc.trans ?_⟩
  congr 1
  simp only [e]
  exact List.getElem_append_left hj
theorem reads_suffix {w : World} {B : Nat} {ad : Addr} {l : List F} (h : Reads w B (some ad) (cellsF l)) (k : Nat) : Reads w B (some (ad.add (k * 2))) (cellsF (l.drop k)) := fun j hj => by
  by_cases hk : k ≤ l.length
  · have e : cellsF l = cellsF (l.take k) ++ cellsF (l.drop k) := by rw [← cellsF_append, List.take_append_drop]
    have e2 : (cellsF (l.take k)).length = k * 2 := by rw [cellsF_length, List.length_take, Nat.min_eq_left hk]
    obtain ⟨ad', e1, hb, hc⟩ := h (k * 2 + j) (by rw [e, List.length_append, e2]; omega)
    injection e1 with e1
    subst e1
    refine ⟨_, rfl, by rw [add_block]; exact hb, ?_⟩
    rw [add_add, hc]
    congr 1
    simp only [e]
    rw [List.getElem_append_right (by omega)]
    congr 1
    omega
  · rw [List.drop_of_length_le (by omega)] at hj
    simp [cellsF_nil] at hj
set_option maxHeartbeats 3000000 in
theorem specSetField_any (a : Option Addr) (c : Nat) (l : List F) (s : ByteArray) (x : Int) (hl : l.length < 1099511627776) (hsm : Small l) (hss : s.size ≤ 281474976710656) (w : World) (hr : Reads w w.heap.size a (cellsF l)) (hc : l.length ≤ c) (hz : a = none → c = 0) :
    Calls Try.prog 11 #[.agg #[.slice a l.length c], .string s, .int .i64 x] w (GaveRB w (setL l s x) (setB l s x)) := by
  obtain ⟨i0, hi, hz0, hz1, hz2⟩ := fieldInfo
  have HI := Lib.hid (And.intro hi (And.intro hz0 (And.intro hz1 hz2)))
  have HR := Lib.hid (fun w' (h : Below w.heap.size w w') => hr.below h)
  have HS := Lib.hid (fun w' (h : Below w.heap.size w w') => specIsRecord_any a c l (Nat.le_of_lt hl) hsm w' ((hr.below h).more h.size))
  have HL := Lib.hid (fun w' (h : Below w.heap.size w w') => l5Copy_any a c l (Nat.le_of_lt hl) w' ((hr.below h).more h.size))
  have HSM := Lib.hid (show Small (putF l s x) by
    unfold putF
    split
    · rename_i f hf
      have hfm := List.mem_of_getElem? hf
      split
      · intro g hg
        rcases List.mem_or_eq_of_mem_set hg with h | rfl
        · exact hsm g h
        · exact hsm f hfm
      · intro g hg
        simp only [List.mem_append, List.mem_cons] at hg
        rcases hg with h | rfl | h
        · exact hsm g (List.mem_of_mem_take h)
        · exact hss
        · exact hsm g (List.mem_of_mem_drop h)
    · intro g hg
      simp only [List.mem_append, List.mem_singleton] at hg
      rcases hg with h | rfl
      · exact hsm g h
      · exact hss)
  obtain ⟨n, hn⟩ : ∃ n, n = l.length := ⟨_, rfl⟩
  rw [← hn] at hl HS HL hc ⊢
  have HN := Lib.hid hn
  have hl' : (n : Int) < 1099511627776 := by omega
  have hc' : (n : Int) ≤ (c : Int) := by omega
  clear hn hr hsm
  obtain ⟨br, hbr⟩ : ∃ b, isR l = b := ⟨_, rfl⟩
  rw [hbr] at HS
  have S0 := Sep.start w
  have S1 := push_box S0 26 #[.slice a n c] w.heap.size rfl
  have S2 := push_box S1 26 #[.slice none 0 0] (w.heap.size + 1) (by simp)
  clear S0 S1
  go_enter Try.func11, Try.ntmps11
  go_wp2_with fail
  go_at_call 36
  refine (HL.out _ S2.old).mono ?_
  rintro e w3 ⟨a4, c4, rfl, ho3, hb3⟩
  have S3 := push_own S2 hb3 ho3
  clear hb3 ho3 S2
  obtain ⟨G, hG⟩ : ∃ g, g = w3.heap.size := ⟨_, rfl⟩
  obtain ⟨w4, hw4⟩ : ∃ u, u = w3.alloc (.cells #[.slice a4 n c4] 26) := ⟨_, rfl⟩
  have S4 := push_box S3 26 #[.slice a4 n c4] G hG
  rw [← hw4] at S4
  go_upto_region 2 with fail
  rw [← hw4, ← hG]
  clear hw4 hG S3
  have H4 := Lib.hid S4
  obtain ⟨r0, r1⟩ := Row.one (box_at S4 0 rfl)
  obtain ⟨o0, o1⟩ := Row.one (box_at S4 3 rfl)
  clear S4
  go_wp2
  go_loop [9] (fun i => ∃ k : Nat, k ≤ n ∧ i = .int .i64 k ∧ Hid (∀ j (hj : j < l.length), j < k → bytesLess l[j].t s.data.toList = true)) (fun i => n - (intOf i).toNat)
  case atStart => exact ⟨0, Nat.zero_le _, rfl, fun j hj h => by omega⟩
  case round =>
    obtain ⟨k, hk, rfl, hrel⟩ := hrel
    by_cases hlt : (k : Int) < (n : Int)
    · have hkl : k < l.length := by have := HN.out; omega
      obtain ⟨ad, rfl, had, h1, h2⟩ := readsF (HR.out _ H4.out.old) k hkl
      obtain ⟨t, ht⟩ : ∃ t, t = l[k].name := ⟨_, rfl⟩
      have HKT := Lib.hid (show l[k].t = t.data.toList by unfold F.t; rw [ht])
      rw [← ht] at h1
      obtain ⟨bo, hbo⟩ : ∃ b, bytesLess t.toList s.toList = b := ⟨_, rfl⟩
      have HB := Lib.hid (show bytesLess l[k].t s.data.toList = bo by rw [HKT.out, ← hbo, ByteArray.toList_eq, ByteArray.toList_eq])
      have HT := Lib.hid ht
      clear ht
      cases bo with
      | true =>
        go_wp2_with fail
        go_round
        case rel => exact ⟨k + 1, by omega, by go_num, fun j hj h => by
          by_cases e : j < k
          · exact hrel.out j hj e
          · obtain rfl : j = k := by omega
            exact HB.out⟩
        case measure => simp [intOf]; omega
      | false =>
        have HPO := Lib.hid (posF_at k (by omega) hrel.out (fun _ => HB.out))
        by_cases he : t.data.toList = s.data.toList
        · have heq : (t.toList == s.toList) = true := by rw [ByteArray.toList_eq, ByteArray.toList_eq, he, beq_self_eq_true]
          have HPU := Lib.hid (show putF l s x = l.set k ⟨l[k].name, x⟩ by
            unfold putF
            rw [HPO.out, List.getElem?_eq_getElem hkl]
            simp only [HKT.out, he, if_true])
          have HU := Lib.hid (show (putF l s x).length = n by rw [HPU.out, List.length_set, HN.out])
          rcases (own_at H4.out 2 rfl).form with ⟨_, h9, _⟩ | ⟨g4, rfl, _, _, _⟩
          · omega
          have SX5 := set_own H4.out 2 rfl (k * 2 + 1) (by rw [cellsF_length]; omega) (.int .i64 x)
          have hcx := (own_at H4.out 2 rfl).cell (k * 2 + 1) (by rw [cellsF_length]; omega)
          have hfx := (own_at H4.out 2 rfl).free (k * 2 + 1)
          have HQ := Lib.hid (show Sep w (w4.setCell ⟨g4, k * 2 + 1, none⟩ (.int .i64 x)) [boxR w.heap.size 26 #[.slice (some ad) n c], boxR (w.heap.size + 1) 26 #[.slice none 0 0], boxR G 26 #[.slice (some ⟨g4, 0, none⟩) n c4], ownV 64 2 (some ⟨g4, 0, none⟩) c4 n (cellsF (putF l s x))] from by
            have h9 := sep_pick SX5 [0, 1, 3, 2] rfl (by decide) rfl rfl rfl rfl
            rw [cellsF_set l k hkl x, ← HPU.out] at h9
            exact h9)
          obtain ⟨q0, q1⟩ := Row.one (box_at HQ.out 0 rfl)
          clear SX5
          clear q0 q1 r0 r1 o0 o1
          have r0 := (Row.one (box_at H4.out 0 rfl)).1
          have o0 := (Row.one (box_at H4.out 3 rfl)).1
          go_upto_region 8 with fail
          clear r0 o0 hcx hfx
          have SQ := HQ.out
          obtain ⟨r0, r1⟩ := Row.one (box_at SQ 0 rfl)
          obtain ⟨o0, o1⟩ := Row.one (box_at SQ 2 rfl)
          go_wp2_with fail
          go_at_call 37
          refine (HS.out _ SQ.old).mono ?_
          rintro e w7 ⟨rfl, h7⟩
          have S7 := SQ.keep h7
          clear h7 SQ HQ r0 r1 o0 o1
          obtain ⟨r0, r1⟩ := Row.one (box_at S7 0 rfl)
          obtain ⟨z0, z1⟩ := Row.one (box_at S7 1 rfl)
          obtain ⟨o0, o1⟩ := Row.one (box_at S7 2 rfl)
          cases br with
          | false =>
            have HE := Lib.hid (show setL l s x = l ∧ setB l s x = false by unfold setL setB; rw [hbr]; exact ⟨rfl, rfl⟩)
            go_wp2_with fail
            go_at_call 36
            refine (HL.out _ S7.old).mono ?_
            rintro e w8 ⟨a8, c8, rfl, ho8, hb8⟩
            have S8 := push_own S7 hb8 ho8
            clear hb8 ho8 S7 r0 r1 z0 z1 o0 o1
            obtain ⟨z0, z1⟩ := Row.one (box_at S8 1 rfl)
            have S9 := Lib.hid (put_box5 S8 1 rfl 0 (.slice a8 n c8))
            go_wp2_with fail
            refine bodyPost_ret (v := .tuple #[.agg #[.slice a8 n c8], .bool false]) (by simp [results, Try.results11, go_sem, z0]) rfl ?_
            unfold GaveRB
            rw [HE.out.1, HE.out.2, ← HN.out]
            exact ⟨a8, c8, rfl, own_from S9.out 4 rfl, S9.out.old⟩
          | true =>
            have HO := Lib.hid (specIsRecord_any (some ⟨g4, 0, none⟩) c4 (putF l s x) (by rw [HU.out]; omega) HSM.out w7 (own_at S7 3 rfl).reads)
            rw [HU.out] at HO
            obtain ⟨bo, hbo⟩ : ∃ b, isR (putF l s x) = b := ⟨_, rfl⟩
            rw [hbo] at HO
            go_wp2_with fail
            go_at_call 37
            refine HO.out.mono ?_
            rintro e w8 ⟨rfl, h8⟩
            have S8 := S7.keep h8
            clear h8 S7 r0 r1 z0 z1 o0 o1
            obtain ⟨r0, r1⟩ := Row.one (box_at S8 0 rfl)
            obtain ⟨z0, z1⟩ := Row.one (box_at S8 1 rfl)
            obtain ⟨o0, o1⟩ := Row.one (box_at S8 2 rfl)
            cases bo with
            | false =>
              have HE := Lib.hid (show setL l s x = l ∧ setB l s x = false by unfold setL setB; rw [hbr, hbo]; exact ⟨rfl, rfl⟩)
              go_wp2_with fail
              go_at_call 36
              refine (HL.out _ S8.old).mono ?_
              rintro e w9 ⟨a8, c8, rfl, ho8, hb8⟩
              have S9 := push_own S8 hb8 ho8
              clear hb8 ho8 S8 r0 r1 z0 z1 o0 o1
              obtain ⟨z0, z1⟩ := Row.one (box_at S9 1 rfl)
              have SX := Lib.hid (put_box5 S9 1 rfl 0 (.slice a8 n c8))
              go_wp2_with fail
              refine bodyPost_ret (v := .tuple #[.agg #[.slice a8 n c8], .bool false]) (by simp [results, Try.results11, go_sem, z0]) rfl ?_
              unfold GaveRB
              rw [HE.out.1, HE.out.2, ← HN.out]
              exact ⟨a8, c8, rfl, own_from SX.out 4 rfl, SX.out.old⟩
            | true =>
              have HE := Lib.hid (show setL l s x = putF l s x ∧ setB l s x = true by unfold setL setB; rw [hbr, hbo]; exact ⟨rfl, rfl⟩)
              have SX := Lib.hid (put_box5 S8 1 rfl 0 (.slice (some ⟨g4, 0, none⟩) n c4))
              go_wp2_with fail
              refine bodyPost_ret (v := .tuple #[.agg #[.slice (some ⟨g4, 0, none⟩) n c4], .bool true]) (by simp [results, Try.results11, go_sem, z0]) rfl ?_
              unfold GaveRB
              rw [HE.out.1, HE.out.2, HU.out]
              exact ⟨some ⟨g4, 0, none⟩, c4, rfl, own_from SX.out 3 rfl, SX.out.old⟩
        · have heq : (t.toList == s.toList) = false := by rw [ByteArray.toList_eq, ByteArray.toList_eq, beq_eq_false_iff_ne]; exact he
          have HPU := Lib.hid (show putF l s x = l.take k ++ ⟨s, x⟩ :: l.drop k by
            unfold putF
            rw [HPO.out, List.getElem?_eq_getElem hkl]
            simp only [HKT.out, he, if_false])
          have HU := Lib.hid (show (putF l s x).length = n + 1 by rw [HPU.out, List.length_append, List.length_cons, List.length_take, List.length_drop, ← HN.out]; omega)
          have HXS := Lib.hid (show cellsF (putF l s x) = cellsF (l.take k) ++ cellsF [⟨s, x⟩] ++ cellsF (l.drop k) by rw [HPU.out, cellsF_append, cellsF_cons, List.append_assoc]; rfl)
          have HK := Lib.hid (show (cellsF (l.take k)).length = k * 2 ∧ (cellsF (l.drop k)).length = (n - k) * 2 ∧ k + 1 + (n - k) = n + 1 by
            have e := HN.out
            refine ⟨by rw [cellsF_length, List.length_take, ← e, Nat.min_eq_left (by omega)], by rw [cellsF_length, List.length_drop, ← e], by omega⟩)
          have HRd := Lib.hid (fun w' (h : Below w.heap.size w w') (q : Nat) => reads_prefix (HR.out w' h) q)
          obtain ⟨m, hmn⟩ : ∃ m, m = n + 1 := ⟨_, rfl⟩
          rw [← hmn] at HU HK
          have hm' : (m : Int) ≤ 1099511627776 := by omega
          clear hmn
          have hck : ¬ c = k := by omega
          have hkc : k ≤ c := by omega
          have HRt := Lib.hid (show ∀ w' ad2, some ad = some ad2 → Below w.heap.size w w' → Reads w' w.heap.size (some (ad2.add (k * 2))) (cellsF (l.drop k)) from fun w' ad2 ha h => reads_suffix (by rw [← ha]; exact HR.out w' h) k)
          go_upto_region 7 with fail
          go_cut [9] (fun y wx => y = .int .i64 k ∧ ∃ A C, Hid (Sep w wx [boxR w.heap.size 26 #[.slice (some ad) n c], boxR (w.heap.size + 1) 26 #[.slice none 0 0], boxR G 26 #[.slice A m C], ownV 64 2 A C m (cellsF (putF l s x))]))
          case first =>
            refine wp_region_held_drew (S := fun w' => w'.cell? ⟨w.heap.size, 0, none⟩ = some (.slice (some ad) n c)) (by kernel_rfl) r0 (fun hS => ?_)
            have S6 : Sep w w4.drew _ := H4.out.drews 1
            clear r0 r1 o0 o1
            generalize w4.drew = wd at hS S6 ⊢
            refine Reg.take_op (i := 1) (v := ?_) rfl (by kernel_rfl) (by kernel_rfl) (by kernel_rfl) (fun _ _ _ h => h) (by rfl) ?_ (by assumption) ?_
            rotate_left
            · (intro w hSw; (try dsimp only at hSw); go_simp; try with_reducible rfl)
            try simp only [Act.put, List.setIfInBounds_toArray, List.set_cons_zero, List.set_cons_succ]
            refine Reg.take_op (i := 2) (v := ?_) rfl (by kernel_rfl) (by kernel_rfl) (by kernel_rfl) (fun _ _ _ h => h) (by rfl) ?_ (by assumption) ?_
            rotate_left
            · (intro w hSw; (try dsimp only at hSw); go_simp; try with_reducible rfl)
            try simp only [Act.put, List.setIfInBounds_toArray, List.set_cons_zero, List.set_cons_succ]
            refine Reg.take_op (i := 3) (v := ?_) rfl (by kernel_rfl) (by kernel_rfl) (by kernel_rfl) (fun _ _ _ h => h) (by rfl) ?_ (by assumption) ?_
            rotate_left
            · (intro w hSw; (try dsimp only at hSw); go_simp; try with_reducible rfl)
            try simp only [Act.put, List.setIfInBounds_toArray, List.set_cons_zero, List.set_cons_succ]
            refine Reg.take_op (i := 4) (v := ?_) rfl (by kernel_rfl) (by kernel_rfl) (by kernel_rfl) (fun _ _ _ h => h) (by rfl) ?_ (by assumption) ?_
            rotate_left
            · (intro w hSw; (try dsimp only at hSw); go_simp; try with_reducible rfl)
            try simp only [Act.put, List.setIfInBounds_toArray, List.set_cons_zero, List.set_cons_succ]
            refine Reg.take_op (i := 6) (v := ?_) rfl (by kernel_rfl) (by kernel_rfl) (by kernel_rfl) (fun _ _ _ h => h) (by rfl) ?_ (by assumption) ?_
            rotate_left
            · (intro w hSw; (try dsimp only at hSw); go_simp; try with_reducible rfl)
            try simp only [Act.put, List.setIfInBounds_toArray, List.set_cons_zero, List.set_cons_succ]
            refine Reg.take_op (i := 7) (v := ?_) rfl (by kernel_rfl) (by kernel_rfl) (by kernel_rfl) (fun _ _ _ h => h) (by rfl) ?_ (by assumption) ?_
            rotate_left
            · (intro w hSw; (try dsimp only at hSw); go_simp; try with_reducible rfl)
            try simp only [Act.put, List.setIfInBounds_toArray, List.set_cons_zero, List.set_cons_succ]
            refine Reg.take_op (i := 8) (v := ?_) rfl (by kernel_rfl) (by kernel_rfl) (by kernel_rfl) (fun _ _ _ h => h) (by rfl) ?_ (by assumption) ?_
            rotate_left
            · (intro w hSw; (try dsimp only at hSw); go_simp; try with_reducible rfl)
            try simp only [Act.put, List.setIfInBounds_toArray, List.set_cons_zero, List.set_cons_succ]
            refine Reg.take_op (i := 11) (v := ?_) rfl (by kernel_rfl) (by kernel_rfl) (by kernel_rfl) (fun _ _ _ h => h) (by rfl) ?_ (by assumption) ?_
            rotate_left
            · (intro w hSw; (try dsimp only at hSw); go_simp; try with_reducible rfl)
            try simp only [Act.put, List.setIfInBounds_toArray, List.set_cons_zero, List.set_cons_succ]
            refine Reg.take_op (i := 12) (v := ?_) rfl (by kernel_rfl) (by kernel_rfl) (by kernel_rfl) (fun _ _ _ h => h) (by rfl) ?_ (by assumption) ?_
            rotate_left
            · (intro w hSw; (try dsimp only at hSw); go_simp; try with_reducible rfl)
            try simp only [Act.put, List.setIfInBounds_toArray, List.set_cons_zero, List.set_cons_succ]
            refine Reg.take_op (i := 13) (v := ?_) rfl (by kernel_rfl) (by kernel_rfl) (by kernel_rfl) (fun _ _ _ h => h) (by rfl) ?_ (by assumption) ?_
            rotate_left
            · (intro w hSw; (try dsimp only at hSw); go_simp; try with_reducible rfl)
            try simp only [Act.put, List.setIfInBounds_toArray, List.set_cons_zero, List.set_cons_succ]
            refine Reg.take_op (i := 14) (v := ?_) rfl (by kernel_rfl) (by kernel_rfl) (by kernel_rfl) (fun _ _ _ h => h) (by rfl) ?_ (by assumption) ?_
            rotate_left
            · (intro w hSw; (try dsimp only at hSw); go_simp; try with_reducible rfl)
            try simp only [Act.put, List.setIfInBounds_toArray, List.set_cons_zero, List.set_cons_succ]
            refine wpAnyH_ready (rs := [0, 9]) (by kernel_rfl) (by simp) ?_
            refine Reg.cons_op (i := 0) rfl (fun K hK => ?_) ?_
            · have S1y := push_own S6 ((Below.refl _ _).alloc (Nat.le_refl _) _) (OwnV.emptyAt wd 64 2 wd.heap.size rfl (Nat.le_refl _))
              go_simp
              refine hK.out _ _ (Row.one (box_at S1y 0 rfl)).1 (fun hS => ?_)
              clear hK K
              try simp only [Act.put, List.setIfInBounds_toArray, List.set_cons_zero, List.set_cons_succ]
              obtain ⟨b1, hb1⟩ : ∃ b, b = wd.heap.size := ⟨_, rfl⟩
              rw [← hb1] at S1y ⊢
              generalize wd.alloc (.cells #[] 64) = w1y at hS S1y ⊢
              clear hb1
              refine wpAnyH_ready (rs := [5, 9]) (by kernel_rfl) (by simp) ?_
              refine Reg.cons_op (i := 5) rfl (fun K hK => ?_) ?_
              · refine step_append_s S1y 4 rfl rfl _ _ 24 (by rfl) i0 (.agg #[.string ⟨#[]⟩, .int .i64 0]) 24 Try.underlying24 HI.out.1 HI.out.2.1 HI.out.2.2.1 HI.out.2.2.2 rfl (by omega) _ (by rfl) rfl _ _ k _ _ (cellsF (l.take k)) (by rfl) rfl (HRd.out _ S1y.old k) HK.out.1 (cellsF_one _) (by unfold maxLen; omega) (by omega) ?_
                intro a2y c2y w2y S2y
                try simp only [List.set_cons_zero, List.set_cons_succ, List.set_nil, List.append_nil, List.nil_append, List.cons_append] at S2y
                simp only [Nat.zero_add] at S2y ⊢
                refine hK.out _ _ (Row.one (box_at S2y 0 rfl)).1 (fun hS => ?_)
                clear hK K
                try simp only [Act.put, List.setIfInBounds_toArray, List.set_cons_zero, List.set_cons_succ]
                refine wpAnyH_ready (rs := [9]) (by kernel_rfl) (by simp) ?_
                refine Reg.cons_op (i := 9) rfl (fun K hK => ?_) ?_
                · have S3y := push_own S2y ((Below.refl _ _).alloc (Nat.le_refl _) _) (OwnV.madeAt w2y 64 2 1 w2y.heap.size #[.string s, .int .i64 x] rfl (Nat.le_refl _) rfl (by decide))
                  go_simp
                  refine hK.out _ _ (Row.one (box_at S3y 0 rfl)).1 (fun hS => ?_)
                  clear hK K
                  try simp only [Act.put, List.setIfInBounds_toArray, List.set_cons_zero, List.set_cons_succ]
                  obtain ⟨b3, hb3⟩ : ∃ b, b = w2y.heap.size := ⟨_, rfl⟩
                  rw [← hb3] at S3y ⊢
                  generalize w2y.alloc (.cells #[.string s, .int .i64 x] 64) = w3y at hS S3y ⊢
                  clear hb3
                  refine wpAnyH_ready (rs := [10]) (by kernel_rfl) (by simp) ?_
                  refine Reg.cons_op (i := 10) rfl (fun K hK => ?_) ?_
                  · refine step_append_s S3y 4 rfl rfl _ _ 24 (by rfl) i0 (.agg #[.string ⟨#[]⟩, .int .i64 0]) 24 Try.underlying24 HI.out.1 HI.out.2.1 HI.out.2.2.1 HI.out.2.2.2 rfl (by omega) _ (by rfl) (by omega) _ _ 1 _ _ (cellsF [⟨s, x⟩]) (by rfl) rfl (own_at S3y 5 rfl).reads rfl (cellsF_one _) (by unfold maxLen; omega) (by omega) ?_
                    intro a4y c4y w4y S4y
                    try simp only [List.set_cons_zero, List.set_cons_succ, List.set_nil, List.append_nil, List.nil_append, List.cons_append] at S4y
                    refine hK.out _ _ (Row.one (box_at S4y 0 rfl)).1 (fun hS => ?_)
                    clear hK K
                    try simp only [Act.put, List.setIfInBounds_toArray, List.set_cons_zero, List.set_cons_succ]
                    refine wpAnyH_ready (rs := [15]) (by kernel_rfl) (by simp) ?_
                    refine Reg.cons_op (i := 15) rfl (fun K hK => ?_) ?_
                    · refine step_append_s S4y 4 rfl rfl _ _ 24 (by rfl) i0 (.agg #[.string ⟨#[]⟩, .int .i64 0]) 24 Try.underlying24 HI.out.1 HI.out.2.1 HI.out.2.2.1 HI.out.2.2.2 rfl (by omega) _ (by rfl) (by omega) _ _ (n - k) _ _ (cellsF (l.drop k)) (by rfl) rfl (HRt.out _ _ rfl S4y.old) HK.out.2.1 (cellsF_one _) (by unfold maxLen; omega) (by omega) ?_
                      intro a5y c5y w5y S5y
                      try simp only [List.set_cons_zero, List.set_cons_succ, List.set_nil, List.append_nil, List.nil_append, List.cons_append] at S5y
                      refine hK.out _ _ (Row.one (box_at S5y 0 rfl)).1 (fun hS => ?_)
                      clear hK K
                      try simp only [Act.put, List.setIfInBounds_toArray, List.set_cons_zero, List.set_cons_succ]
                      refine Reg.take_op (i := 16) (v := ?_) rfl (by kernel_rfl) (by kernel_rfl) (by kernel_rfl) (fun _ _ _ h => h) (by rfl) ?_ (by assumption) ?_
                      rotate_left
                      · (intro w hSw; (try dsimp only at hSw); go_simp; try with_reducible rfl)
                      try simp only [Act.put, List.setIfInBounds_toArray, List.set_cons_zero, List.set_cons_succ]
                      refine wpAnyH_ready (rs := [17]) (by kernel_rfl) (by simp) ?_
                      refine Reg.cons_op (i := 17) rfl (fun K hK => ?_) ?_
                      · have S6y := put_box5 S5y 3 rfl 0 (.slice a5y (k + 1 + (n - k)) c5y)
                        obtain ⟨g0, g1⟩ := Row.one (box_at S5y 3 rfl)
                        go_simp
                        refine hK.out _ _ (Row.one (box_at S6y 0 rfl)).1 (fun hS => ?_)
                        clear hK K
                        try simp only [Act.put, List.setIfInBounds_toArray, List.set_cons_zero, List.set_cons_succ]
                        clear g0 g1
                        refine wpAnyH_done (by kernel_rfl) ?_ _
                        go_wp2_with fail
                        go_meet
                        case rel => exact ⟨rfl, a5y, c5y, by have h9 := sep_pick S6y [0, 1, 3, 4] rfl (by decide) rfl rfl rfl rfl; rw [HK.out.2.2] at h9; (try rw [HK.out.2.2]); rw [HXS.out]; exact h9⟩
                      exact AllReadyH.nil
                    exact AllReadyH.nil
                  exact AllReadyH.nil
                exact AllReadyH.nil
              refine Reg.cons_op (i := 9) rfl (fun K hK => ?_) ?_
              · have S7y := push_own S1y ((Below.refl _ _).alloc (Nat.le_refl _) _) (OwnV.madeAt w1y 64 2 1 w1y.heap.size #[.string s, .int .i64 x] rfl (Nat.le_refl _) rfl (by decide))
                go_simp
                refine hK.out _ _ (Row.one (box_at S7y 0 rfl)).1 (fun hS => ?_)
                clear hK K
                try simp only [Act.put, List.setIfInBounds_toArray, List.set_cons_zero, List.set_cons_succ]
                obtain ⟨b7, hb7⟩ : ∃ b, b = w1y.heap.size := ⟨_, rfl⟩
                rw [← hb7] at S7y ⊢
                generalize w1y.alloc (.cells #[.string s, .int .i64 x] 64) = w7y at hS S7y ⊢
                clear hb7
                refine wpAnyH_ready (rs := [5]) (by kernel_rfl) (by simp) ?_
                refine Reg.cons_op (i := 5) rfl (fun K hK => ?_) ?_
                · refine step_append_s S7y 4 rfl rfl _ _ 24 (by rfl) i0 (.agg #[.string ⟨#[]⟩, .int .i64 0]) 24 Try.underlying24 HI.out.1 HI.out.2.1 HI.out.2.2.1 HI.out.2.2.2 rfl (by omega) _ (by rfl) rfl _ _ k _ _ (cellsF (l.take k)) (by rfl) rfl (HRd.out _ S7y.old k) HK.out.1 (cellsF_one _) (by unfold maxLen; omega) (by omega) ?_
                  intro a8y c8y w8y S8y
                  try simp only [List.set_cons_zero, List.set_cons_succ, List.set_nil, List.append_nil, List.nil_append, List.cons_append] at S8y
                  simp only [Nat.zero_add] at S8y ⊢
                  refine hK.out _ _ (Row.one (box_at S8y 0 rfl)).1 (fun hS => ?_)
                  clear hK K
                  try simp only [Act.put, List.setIfInBounds_toArray, List.set_cons_zero, List.set_cons_succ]
                  refine wpAnyH_ready (rs := [10]) (by kernel_rfl) (by simp) ?_
                  refine Reg.cons_op (i := 10) rfl (fun K hK => ?_) ?_
                  · refine step_append_s S8y 4 rfl rfl _ _ 24 (by rfl) i0 (.agg #[.string ⟨#[]⟩, .int .i64 0]) 24 Try.underlying24 HI.out.1 HI.out.2.1 HI.out.2.2.1 HI.out.2.2.2 rfl (by omega) _ (by rfl) (by omega) _ _ 1 _ _ (cellsF [⟨s, x⟩]) (by rfl) rfl (own_at S8y 5 rfl).reads rfl (cellsF_one _) (by unfold maxLen; omega) (by omega) ?_
                    intro a9y c9y w9y S9y
                    try simp only [List.set_cons_zero, List.set_cons_succ, List.set_nil, List.append_nil, List.nil_append, List.cons_append] at S9y
                    refine hK.out _ _ (Row.one (box_at S9y 0 rfl)).1 (fun hS => ?_)
                    clear hK K
                    try simp only [Act.put, List.setIfInBounds_toArray, List.set_cons_zero, List.set_cons_succ]
                    refine wpAnyH_ready (rs := [15]) (by kernel_rfl) (by simp) ?_
                    refine Reg.cons_op (i := 15) rfl (fun K hK => ?_) ?_
                    · refine step_append_s S9y 4 rfl rfl _ _ 24 (by rfl) i0 (.agg #[.string ⟨#[]⟩, .int .i64 0]) 24 Try.underlying24 HI.out.1 HI.out.2.1 HI.out.2.2.1 HI.out.2.2.2 rfl (by omega) _ (by rfl) (by omega) _ _ (n - k) _ _ (cellsF (l.drop k)) (by rfl) rfl (HRt.out _ _ rfl S9y.old) HK.out.2.1 (cellsF_one _) (by unfold maxLen; omega) (by omega) ?_
                      intro a10y c10y w10y S10y
                      try simp only [List.set_cons_zero, List.set_cons_succ, List.set_nil, List.append_nil, List.nil_append, List.cons_append] at S10y
                      refine hK.out _ _ (Row.one (box_at S10y 0 rfl)).1 (fun hS => ?_)
                      clear hK K
                      try simp only [Act.put, List.setIfInBounds_toArray, List.set_cons_zero, List.set_cons_succ]
                      refine Reg.take_op (i := 16) (v := ?_) rfl (by kernel_rfl) (by kernel_rfl) (by kernel_rfl) (fun _ _ _ h => h) (by rfl) ?_ (by assumption) ?_
                      rotate_left
                      · (intro w hSw; (try dsimp only at hSw); go_simp; try with_reducible rfl)
                      try simp only [Act.put, List.setIfInBounds_toArray, List.set_cons_zero, List.set_cons_succ]
                      refine wpAnyH_ready (rs := [17]) (by kernel_rfl) (by simp) ?_
                      refine Reg.cons_op (i := 17) rfl (fun K hK => ?_) ?_
                      · have S11y := put_box5 S10y 3 rfl 0 (.slice a10y (k + 1 + (n - k)) c10y)
                        obtain ⟨g0, g1⟩ := Row.one (box_at S10y 3 rfl)
                        go_simp
                        refine hK.out _ _ (Row.one (box_at S11y 0 rfl)).1 (fun hS => ?_)
                        clear hK K
                        try simp only [Act.put, List.setIfInBounds_toArray, List.set_cons_zero, List.set_cons_succ]
                        clear g0 g1
                        refine wpAnyH_done (by kernel_rfl) ?_ _
                        go_wp2_with fail
                        go_meet
                        case rel => exact ⟨rfl, a10y, c10y, by have h9 := sep_pick S11y [0, 1, 3, 4] rfl (by decide) rfl rfl rfl rfl; rw [HK.out.2.2] at h9; (try rw [HK.out.2.2]); rw [HXS.out]; exact h9⟩
                      exact AllReadyH.nil
                    exact AllReadyH.nil
                  exact AllReadyH.nil
                exact AllReadyH.nil
              exact AllReadyH.nil
            refine Reg.cons_op (i := 9) rfl (fun K hK => ?_) ?_
            · have S12y := push_own S6 ((Below.refl _ _).alloc (Nat.le_refl _) _) (OwnV.madeAt wd 64 2 1 wd.heap.size #[.string s, .int .i64 x] rfl (Nat.le_refl _) rfl (by decide))
              go_simp
              refine hK.out _ _ (Row.one (box_at S12y 0 rfl)).1 (fun hS => ?_)
              clear hK K
              try simp only [Act.put, List.setIfInBounds_toArray, List.set_cons_zero, List.set_cons_succ]
              obtain ⟨b12, hb12⟩ : ∃ b, b = wd.heap.size := ⟨_, rfl⟩
              rw [← hb12] at S12y ⊢
              generalize wd.alloc (.cells #[.string s, .int .i64 x] 64) = w12y at hS S12y ⊢
              clear hb12
              refine wpAnyH_ready (rs := [0]) (by kernel_rfl) (by simp) ?_
              refine Reg.cons_op (i := 0) rfl (fun K hK => ?_) ?_
              · have S13y := push_own S12y ((Below.refl _ _).alloc (Nat.le_refl _) _) (OwnV.emptyAt w12y 64 2 w12y.heap.size rfl (Nat.le_refl _))
                go_simp
                refine hK.out _ _ (Row.one (box_at S13y 0 rfl)).1 (fun hS => ?_)
                clear hK K
                try simp only [Act.put, List.setIfInBounds_toArray, List.set_cons_zero, List.set_cons_succ]
                obtain ⟨b13, hb13⟩ : ∃ b, b = w12y.heap.size := ⟨_, rfl⟩
                rw [← hb13] at S13y ⊢
                generalize w12y.alloc (.cells #[] 64) = w13y at hS S13y ⊢
                clear hb13
                refine wpAnyH_ready (rs := [5]) (by kernel_rfl) (by simp) ?_
                refine Reg.cons_op (i := 5) rfl (fun K hK => ?_) ?_
                · refine step_append_s S13y 5 rfl rfl _ _ 24 (by rfl) i0 (.agg #[.string ⟨#[]⟩, .int .i64 0]) 24 Try.underlying24 HI.out.1 HI.out.2.1 HI.out.2.2.1 HI.out.2.2.2 rfl (by omega) _ (by rfl) rfl _ _ k _ _ (cellsF (l.take k)) (by rfl) rfl (HRd.out _ S13y.old k) HK.out.1 (cellsF_one _) (by unfold maxLen; omega) (by omega) ?_
                  intro a14y c14y w14y S14y
                  try simp only [List.set_cons_zero, List.set_cons_succ, List.set_nil, List.append_nil, List.nil_append, List.cons_append] at S14y
                  simp only [Nat.zero_add] at S14y ⊢
                  refine hK.out _ _ (Row.one (box_at S14y 0 rfl)).1 (fun hS => ?_)
                  clear hK K
                  try simp only [Act.put, List.setIfInBounds_toArray, List.set_cons_zero, List.set_cons_succ]
                  refine wpAnyH_ready (rs := [10]) (by kernel_rfl) (by simp) ?_
                  refine Reg.cons_op (i := 10) rfl (fun K hK => ?_) ?_
                  · refine step_append_s S14y 5 rfl rfl _ _ 24 (by rfl) i0 (.agg #[.string ⟨#[]⟩, .int .i64 0]) 24 Try.underlying24 HI.out.1 HI.out.2.1 HI.out.2.2.1 HI.out.2.2.2 rfl (by omega) _ (by rfl) (by omega) _ _ 1 _ _ (cellsF [⟨s, x⟩]) (by rfl) rfl (own_at S14y 4 rfl).reads rfl (cellsF_one _) (by unfold maxLen; omega) (by omega) ?_
                    intro a15y c15y w15y S15y
                    try simp only [List.set_cons_zero, List.set_cons_succ, List.set_nil, List.append_nil, List.nil_append, List.cons_append] at S15y
                    refine hK.out _ _ (Row.one (box_at S15y 0 rfl)).1 (fun hS => ?_)
                    clear hK K
                    try simp only [Act.put, List.setIfInBounds_toArray, List.set_cons_zero, List.set_cons_succ]
                    refine wpAnyH_ready (rs := [15]) (by kernel_rfl) (by simp) ?_
                    refine Reg.cons_op (i := 15) rfl (fun K hK => ?_) ?_
                    · refine step_append_s S15y 5 rfl rfl _ _ 24 (by rfl) i0 (.agg #[.string ⟨#[]⟩, .int .i64 0]) 24 Try.underlying24 HI.out.1 HI.out.2.1 HI.out.2.2.1 HI.out.2.2.2 rfl (by omega) _ (by rfl) (by omega) _ _ (n - k) _ _ (cellsF (l.drop k)) (by rfl) rfl (HRt.out _ _ rfl S15y.old) HK.out.2.1 (cellsF_one _) (by unfold maxLen; omega) (by omega) ?_
                      intro a16y c16y w16y S16y
                      try simp only [List.set_cons_zero, List.set_cons_succ, List.set_nil, List.append_nil, List.nil_append, List.cons_append] at S16y
                      refine hK.out _ _ (Row.one (box_at S16y 0 rfl)).1 (fun hS => ?_)
                      clear hK K
                      try simp only [Act.put, List.setIfInBounds_toArray, List.set_cons_zero, List.set_cons_succ]
                      refine Reg.take_op (i := 16) (v := ?_) rfl (by kernel_rfl) (by kernel_rfl) (by kernel_rfl) (fun _ _ _ h => h) (by rfl) ?_ (by assumption) ?_
                      rotate_left
                      · (intro w hSw; (try dsimp only at hSw); go_simp; try with_reducible rfl)
                      try simp only [Act.put, List.setIfInBounds_toArray, List.set_cons_zero, List.set_cons_succ]
                      refine wpAnyH_ready (rs := [17]) (by kernel_rfl) (by simp) ?_
                      refine Reg.cons_op (i := 17) rfl (fun K hK => ?_) ?_
                      · have S17y := put_box5 S16y 3 rfl 0 (.slice a16y (k + 1 + (n - k)) c16y)
                        obtain ⟨g0, g1⟩ := Row.one (box_at S16y 3 rfl)
                        go_simp
                        refine hK.out _ _ (Row.one (box_at S17y 0 rfl)).1 (fun hS => ?_)
                        clear hK K
                        try simp only [Act.put, List.setIfInBounds_toArray, List.set_cons_zero, List.set_cons_succ]
                        clear g0 g1
                        refine wpAnyH_done (by kernel_rfl) ?_ _
                        go_wp2_with fail
                        go_meet
                        case rel => exact ⟨rfl, a16y, c16y, by have h9 := sep_pick S17y [0, 1, 3, 5] rfl (by decide) rfl rfl rfl rfl; rw [HK.out.2.2] at h9; (try rw [HK.out.2.2]); rw [HXS.out]; exact h9⟩
                      exact AllReadyH.nil
                    exact AllReadyH.nil
                  exact AllReadyH.nil
                exact AllReadyH.nil
              exact AllReadyH.nil
            exact AllReadyH.nil
          case rest =>
            obtain ⟨rfl, A, C, HQ⟩ := hcut
            clear r0 r1 o0 o1
            have SQ := HQ.out
            obtain ⟨r0, r1⟩ := Row.one (box_at SQ 0 rfl)
            obtain ⟨o0, o1⟩ := Row.one (box_at SQ 2 rfl)
            go_wp2_with fail
            go_at_call 37
            refine (HS.out _ SQ.old).mono ?_
            rintro e w7 ⟨rfl, h7⟩
            have S7 := SQ.keep h7
            clear h7 SQ HQ r0 r1 o0 o1
            obtain ⟨r0, r1⟩ := Row.one (box_at S7 0 rfl)
            obtain ⟨z0, z1⟩ := Row.one (box_at S7 1 rfl)
            obtain ⟨o0, o1⟩ := Row.one (box_at S7 2 rfl)
            cases br with
            | false =>
              have HE := Lib.hid (show setL l s x = l ∧ setB l s x = false by unfold setL setB; rw [hbr]; exact ⟨rfl, rfl⟩)
              go_wp2_with fail
              go_at_call 36
              refine (HL.out _ S7.old).mono ?_
              rintro e w8 ⟨a8, c8, rfl, ho8, hb8⟩
              have S8 := push_own S7 hb8 ho8
              clear hb8 ho8 S7 r0 r1 z0 z1 o0 o1
              obtain ⟨z0, z1⟩ := Row.one (box_at S8 1 rfl)
              have S9 := Lib.hid (put_box5 S8 1 rfl 0 (.slice a8 n c8))
              go_wp2_with fail
              refine bodyPost_ret (v := .tuple #[.agg #[.slice a8 n c8], .bool false]) (by simp [results, Try.results11, go_sem, z0]) rfl ?_
              unfold GaveRB
              rw [HE.out.1, HE.out.2, ← HN.out]
              exact ⟨a8, c8, rfl, own_from S9.out 4 rfl, S9.out.old⟩
            | true =>
              have HO := Lib.hid (specIsRecord_any A C (putF l s x) (by rw [HU.out]; omega) HSM.out w7 (own_at S7 3 rfl).reads)
              rw [HU.out] at HO
              obtain ⟨bo, hbo⟩ : ∃ b, isR (putF l s x) = b := ⟨_, rfl⟩
              rw [hbo] at HO
              go_wp2_with fail
              go_at_call 37
              refine HO.out.mono ?_
              rintro e w8 ⟨rfl, h8⟩
              have S8 := S7.keep h8
              clear h8 S7 r0 r1 z0 z1 o0 o1
              obtain ⟨r0, r1⟩ := Row.one (box_at S8 0 rfl)
              obtain ⟨z0, z1⟩ := Row.one (box_at S8 1 rfl)
              obtain ⟨o0, o1⟩ := Row.one (box_at S8 2 rfl)
              cases bo with
              | false =>
                have HE := Lib.hid (show setL l s x = l ∧ setB l s x = false by unfold setL setB; rw [hbr, hbo]; exact ⟨rfl, rfl⟩)
                go_wp2_with fail
                go_at_call 36
                refine (HL.out _ S8.old).mono ?_
                rintro e w9 ⟨a8, c8, rfl, ho8, hb8⟩
                have S9 := push_own S8 hb8 ho8
                clear hb8 ho8 S8 r0 r1 z0 z1 o0 o1
                obtain ⟨z0, z1⟩ := Row.one (box_at S9 1 rfl)
                have SX := Lib.hid (put_box5 S9 1 rfl 0 (.slice a8 n c8))
                go_wp2_with fail
                refine bodyPost_ret (v := .tuple #[.agg #[.slice a8 n c8], .bool false]) (by simp [results, Try.results11, go_sem, z0]) rfl ?_
                unfold GaveRB
                rw [HE.out.1, HE.out.2, ← HN.out]
                exact ⟨a8, c8, rfl, own_from SX.out 4 rfl, SX.out.old⟩
              | true =>
                have HE := Lib.hid (show setL l s x = putF l s x ∧ setB l s x = true by unfold setL setB; rw [hbr, hbo]; exact ⟨rfl, rfl⟩)
                have SX := Lib.hid (put_box5 S8 1 rfl 0 (.slice A m C))
                go_wp2_with fail
                refine bodyPost_ret (v := .tuple #[.agg #[.slice A m C], .bool true]) (by simp [results, Try.results11, go_sem, z0]) rfl ?_
                unfold GaveRB
                rw [HE.out.1, HE.out.2, HU.out]
                exact ⟨A, C, rfl, own_from SX.out 3 rfl, SX.out.old⟩
    · have HKN := Lib.hid (show n ≤ k by omega)
      have HPO := Lib.hid (posF_at k (by rw [← HN.out]; exact hk) hrel.out (fun hj => by have := HN.out; have := HKN.out; omega))
      have HPU := Lib.hid (show putF l s x = l.take k ++ ⟨s, x⟩ :: l.drop k by
        unfold putF
        rw [HPO.out, List.getElem?_eq_none (by rw [← HN.out]; exact HKN.out), List.take_of_length_le (by rw [← HN.out]; exact HKN.out), List.drop_of_length_le (by rw [← HN.out]; exact HKN.out)])
      have HU := Lib.hid (show (putF l s x).length = n + 1 by rw [HPU.out, List.length_append, List.length_cons, List.length_take, List.length_drop, ← HN.out]; omega)
      have HXS := Lib.hid (show cellsF (putF l s x) = cellsF (l.take k) ++ cellsF [⟨s, x⟩] ++ cellsF (l.drop k) by rw [HPU.out, cellsF_append, cellsF_cons, List.append_assoc]; rfl)
      have HK := Lib.hid (show (cellsF (l.take k)).length = k * 2 ∧ (cellsF (l.drop k)).length = (n - k) * 2 ∧ k + 1 + (n - k) = n + 1 by
        have e := HN.out
        refine ⟨by rw [cellsF_length, List.length_take, ← e, Nat.min_eq_left (by omega)], by rw [cellsF_length, List.length_drop, ← e], by omega⟩)
      have HRd := Lib.hid (fun w' (h : Below w.heap.size w w') (q : Nat) => reads_prefix (HR.out w' h) q)
      obtain ⟨m, hmn⟩ : ∃ m, m = n + 1 := ⟨_, rfl⟩
      rw [← hmn] at HU HK
      have hm' : (m : Int) ≤ 1099511627776 := by omega
      clear hmn
      by_cases hck : c = k
      · have HRt := Lib.hid (show ∀ w' (A : Option Addr), Below w.heap.size w w' → Reads w' w.heap.size A (cellsF (l.drop k)) from fun w' A h => by rw [List.drop_of_length_le (by have := HN.out; omega), cellsF_nil]; exact Reads.nil)
        have HK1 := Lib.hid (show k + 1 = m by have := HK.out.2.2; have := HKN.out; omega)
        obtain rfl : k = c := hck.symm
        go_upto_region 7 with fail
        go_cut [9] (fun y wx => y = .int .i64 k ∧ ∃ A C, Hid (Sep w wx [boxR w.heap.size 26 #[.slice a n k], boxR (w.heap.size + 1) 26 #[.slice none 0 0], boxR G 26 #[.slice A m C], ownV 64 2 A C m (cellsF (putF l s x))]))
        case first =>
          refine wp_region_held_drew (S := fun w' => w'.cell? ⟨w.heap.size, 0, none⟩ = some (.slice a n k)) (by kernel_rfl) r0 (fun hS => ?_)
          have S6 : Sep w w4.drew _ := H4.out.drews 1
          clear r0 r1 o0 o1
          generalize w4.drew = wd at hS S6 ⊢
          refine Reg.take_op (i := 1) (v := ?_) rfl (by kernel_rfl) (by kernel_rfl) (by kernel_rfl) (fun _ _ _ h => h) (by rfl) ?_ (by assumption) ?_
          rotate_left
          · (intro w hSw; (try dsimp only at hSw); go_simp; try with_reducible rfl)
          try simp only [Act.put, List.setIfInBounds_toArray, List.set_cons_zero, List.set_cons_succ]
          refine Reg.take_op (i := 2) (v := ?_) rfl (by kernel_rfl) (by kernel_rfl) (by kernel_rfl) (fun _ _ _ h => h) (by rfl) ?_ (by assumption) ?_
          rotate_left
          · (intro w hSw; (try dsimp only at hSw); go_simp; try with_reducible rfl)
          try simp only [Act.put, List.setIfInBounds_toArray, List.set_cons_zero, List.set_cons_succ]
          refine Reg.take_op (i := 3) (v := ?_) rfl (by kernel_rfl) (by kernel_rfl) (by kernel_rfl) (fun _ _ _ h => h) (by rfl) ?_ (by assumption) ?_
          rotate_left
          · (intro w hSw; (try dsimp only at hSw); go_simp; try with_reducible rfl)
          try simp only [Act.put, List.setIfInBounds_toArray, List.set_cons_zero, List.set_cons_succ]
          refine Reg.take_op (i := 4) (v := ?_) rfl (by kernel_rfl) (by kernel_rfl) (by kernel_rfl) (fun _ _ _ h => h) (by rfl) ?_ (by assumption) ?_
          rotate_left
          · (intro w hSw; (try dsimp only at hSw); go_simp; try with_reducible rfl)
          try simp only [Act.put, List.setIfInBounds_toArray, List.set_cons_zero, List.set_cons_succ]
          refine Reg.take_op (i := 6) (v := ?_) rfl (by kernel_rfl) (by kernel_rfl) (by kernel_rfl) (fun _ _ _ h => h) (by rfl) ?_ (by assumption) ?_
          rotate_left
          · (intro w hSw; (try dsimp only at hSw); go_simp; try with_reducible rfl)
          try simp only [Act.put, List.setIfInBounds_toArray, List.set_cons_zero, List.set_cons_succ]
          refine Reg.take_op (i := 7) (v := ?_) rfl (by kernel_rfl) (by kernel_rfl) (by kernel_rfl) (fun _ _ _ h => h) (by rfl) ?_ (by assumption) ?_
          rotate_left
          · (intro w hSw; (try dsimp only at hSw); go_simp; try with_reducible rfl)
          try simp only [Act.put, List.setIfInBounds_toArray, List.set_cons_zero, List.set_cons_succ]
          refine Reg.take_op (i := 8) (v := ?_) rfl (by kernel_rfl) (by kernel_rfl) (by kernel_rfl) (fun _ _ _ h => h) (by rfl) ?_ (by assumption) ?_
          rotate_left
          · (intro w hSw; (try dsimp only at hSw); go_simp; try with_reducible rfl)
          try simp only [Act.put, List.setIfInBounds_toArray, List.set_cons_zero, List.set_cons_succ]
          refine Reg.take_op (i := 11) (v := ?_) rfl (by kernel_rfl) (by kernel_rfl) (by kernel_rfl) (fun _ _ _ h => h) (by rfl) ?_ (by assumption) ?_
          rotate_left
          · (intro w hSw; (try dsimp only at hSw); go_simp; try with_reducible rfl)
          try simp only [Act.put, List.setIfInBounds_toArray, List.set_cons_zero, List.set_cons_succ]
          refine Reg.take_op (i := 12) (v := ?_) rfl (by kernel_rfl) (by kernel_rfl) (by kernel_rfl) (fun _ _ _ h => h) (by rfl) ?_ (by assumption) ?_
          rotate_left
          · (intro w hSw; (try dsimp only at hSw); go_simp; try with_reducible rfl)
          try simp only [Act.put, List.setIfInBounds_toArray, List.set_cons_zero, List.set_cons_succ]
          refine Reg.take_op (i := 13) (v := ?_) rfl (by kernel_rfl) (by kernel_rfl) (by kernel_rfl) (fun _ _ _ h => h) (by rfl) ?_ (by assumption) ?_
          rotate_left
          · (intro w hSw; (try dsimp only at hSw); go_simp; try with_reducible rfl)
          try simp only [Act.put, List.setIfInBounds_toArray, List.set_cons_zero, List.set_cons_succ]
          refine Reg.take_op (i := 14) (v := ?_) rfl (by kernel_rfl) (by kernel_rfl) (by kernel_rfl) (fun _ _ _ h => h) (by rfl) ?_ (by assumption) ?_
          rotate_left
          · (intro w hSw; (try dsimp only at hSw); go_simp; try with_reducible rfl)
          try simp only [Act.put, List.setIfInBounds_toArray, List.set_cons_zero, List.set_cons_succ]
          refine wpAnyH_ready (rs := [0, 9]) (by kernel_rfl) (by simp) ?_
          refine Reg.cons_op (i := 0) rfl (fun K hK => ?_) ?_
          · have S18y := push_own S6 ((Below.refl _ _).alloc (Nat.le_refl _) _) (OwnV.emptyAt wd 64 2 wd.heap.size rfl (Nat.le_refl _))
            go_simp
            refine hK.out _ _ (Row.one (box_at S18y 0 rfl)).1 (fun hS => ?_)
            clear hK K
            try simp only [Act.put, List.setIfInBounds_toArray, List.set_cons_zero, List.set_cons_succ]
            obtain ⟨b18, hb18⟩ : ∃ b, b = wd.heap.size := ⟨_, rfl⟩
            rw [← hb18] at S18y ⊢
            generalize wd.alloc (.cells #[] 64) = w18y at hS S18y ⊢
            clear hb18
            refine wpAnyH_ready (rs := [5, 9]) (by kernel_rfl) (by simp) ?_
            refine Reg.cons_op (i := 5) rfl (fun K hK => ?_) ?_
            · refine step_append_s S18y 4 rfl rfl _ _ 24 (by rfl) i0 (.agg #[.string ⟨#[]⟩, .int .i64 0]) 24 Try.underlying24 HI.out.1 HI.out.2.1 HI.out.2.2.1 HI.out.2.2.2 rfl (by omega) _ (by rfl) rfl _ _ k _ _ (cellsF (l.take k)) (by rfl) rfl (HRd.out _ S18y.old k) HK.out.1 (cellsF_one _) (by unfold maxLen; omega) (by omega) ?_
              intro a19y c19y w19y S19y
              try simp only [List.set_cons_zero, List.set_cons_succ, List.set_nil, List.append_nil, List.nil_append, List.cons_append] at S19y
              simp only [Nat.zero_add] at S19y ⊢
              refine hK.out _ _ (Row.one (box_at S19y 0 rfl)).1 (fun hS => ?_)
              clear hK K
              try simp only [Act.put, List.setIfInBounds_toArray, List.set_cons_zero, List.set_cons_succ]
              refine wpAnyH_ready (rs := [9]) (by kernel_rfl) (by simp) ?_
              refine Reg.cons_op (i := 9) rfl (fun K hK => ?_) ?_
              · have S20y := push_own S19y ((Below.refl _ _).alloc (Nat.le_refl _) _) (OwnV.madeAt w19y 64 2 1 w19y.heap.size #[.string s, .int .i64 x] rfl (Nat.le_refl _) rfl (by decide))
                go_simp
                refine hK.out _ _ (Row.one (box_at S20y 0 rfl)).1 (fun hS => ?_)
                clear hK K
                try simp only [Act.put, List.setIfInBounds_toArray, List.set_cons_zero, List.set_cons_succ]
                obtain ⟨b20, hb20⟩ : ∃ b, b = w19y.heap.size := ⟨_, rfl⟩
                rw [← hb20] at S20y ⊢
                generalize w19y.alloc (.cells #[.string s, .int .i64 x] 64) = w20y at hS S20y ⊢
                clear hb20
                refine wpAnyH_ready (rs := [10]) (by kernel_rfl) (by simp) ?_
                refine Reg.cons_op (i := 10) rfl (fun K hK => ?_) ?_
                · refine step_append_s S20y 4 rfl rfl _ _ 24 (by rfl) i0 (.agg #[.string ⟨#[]⟩, .int .i64 0]) 24 Try.underlying24 HI.out.1 HI.out.2.1 HI.out.2.2.1 HI.out.2.2.2 rfl (by omega) _ (by rfl) (by omega) _ _ 1 _ _ (cellsF [⟨s, x⟩]) (by rfl) rfl (own_at S20y 5 rfl).reads rfl (cellsF_one _) (by unfold maxLen; omega) (by omega) ?_
                  intro a21y c21y w21y S21y
                  try simp only [List.set_cons_zero, List.set_cons_succ, List.set_nil, List.append_nil, List.nil_append, List.cons_append] at S21y
                  refine hK.out _ _ (Row.one (box_at S21y 0 rfl)).1 (fun hS => ?_)
                  clear hK K
                  try simp only [Act.put, List.setIfInBounds_toArray, List.set_cons_zero, List.set_cons_succ]
                  refine wpAnyH_ready (rs := [15]) (by kernel_rfl) (by simp) ?_
                  refine Reg.cons_op (i := 15) rfl (fun K hK => ?_) ?_
                  · refine step_append_s S21y 4 rfl rfl _ _ 24 (by rfl) i0 (.agg #[.string ⟨#[]⟩, .int .i64 0]) 24 Try.underlying24 HI.out.1 HI.out.2.1 HI.out.2.2.1 HI.out.2.2.2 rfl (by omega) _ (by rfl) (by omega) _ _ (n - k) _ _ (cellsF (l.drop k)) (by rfl) (by omega) (HRt.out _ _ S21y.old) HK.out.2.1 (cellsF_one _) (by unfold maxLen; omega) (by omega) ?_
                    intro a22y c22y w22y S22y
                    try simp only [List.set_cons_zero, List.set_cons_succ, List.set_nil, List.append_nil, List.nil_append, List.cons_append] at S22y
                    refine hK.out _ _ (Row.one (box_at S22y 0 rfl)).1 (fun hS => ?_)
                    clear hK K
                    try simp only [Act.put, List.setIfInBounds_toArray, List.set_cons_zero, List.set_cons_succ]
                    refine Reg.take_op (i := 16) (v := ?_) rfl (by kernel_rfl) (by kernel_rfl) (by kernel_rfl) (fun _ _ _ h => h) (by rfl) ?_ (by assumption) ?_
                    rotate_left
                    · (intro w hSw; (try dsimp only at hSw); go_simp; try with_reducible rfl)
                    try simp only [Act.put, List.setIfInBounds_toArray, List.set_cons_zero, List.set_cons_succ]
                    refine wpAnyH_ready (rs := [17]) (by kernel_rfl) (by simp) ?_
                    refine Reg.cons_op (i := 17) rfl (fun K hK => ?_) ?_
                    · have S23y := put_box5 S22y 3 rfl 0 (.slice a22y (k + 1) c22y)
                      obtain ⟨g0, g1⟩ := Row.one (box_at S22y 3 rfl)
                      go_simp
                      refine hK.out _ _ (Row.one (box_at S23y 0 rfl)).1 (fun hS => ?_)
                      clear hK K
                      try simp only [Act.put, List.setIfInBounds_toArray, List.set_cons_zero, List.set_cons_succ]
                      clear g0 g1
                      refine wpAnyH_done (by kernel_rfl) ?_ _
                      go_wp2_with fail
                      go_meet
                      case rel => exact ⟨rfl, a22y, c22y, by have h9 := sep_pick S23y [0, 1, 3, 4] rfl (by decide) rfl rfl rfl rfl; rw [HK.out.2.2] at h9; (try rw [HK.out.2.2]); rw [HK1.out] at h9 ⊢; rw [HXS.out]; exact h9⟩
                    exact AllReadyH.nil
                  exact AllReadyH.nil
                exact AllReadyH.nil
              exact AllReadyH.nil
            refine Reg.cons_op (i := 9) rfl (fun K hK => ?_) ?_
            · have S24y := push_own S18y ((Below.refl _ _).alloc (Nat.le_refl _) _) (OwnV.madeAt w18y 64 2 1 w18y.heap.size #[.string s, .int .i64 x] rfl (Nat.le_refl _) rfl (by decide))
              go_simp
              refine hK.out _ _ (Row.one (box_at S24y 0 rfl)).1 (fun hS => ?_)
              clear hK K
              try simp only [Act.put, List.setIfInBounds_toArray, List.set_cons_zero, List.set_cons_succ]
              obtain ⟨b24, hb24⟩ : ∃ b, b = w18y.heap.size := ⟨_, rfl⟩
              rw [← hb24] at S24y ⊢
              generalize w18y.alloc (.cells #[.string s, .int .i64 x] 64) = w24y at hS S24y ⊢
              clear hb24
              refine wpAnyH_ready (rs := [5]) (by kernel_rfl) (by simp) ?_
              refine Reg.cons_op (i := 5) rfl (fun K hK => ?_) ?_
              · refine step_append_s S24y 4 rfl rfl _ _ 24 (by rfl) i0 (.agg #[.string ⟨#[]⟩, .int .i64 0]) 24 Try.underlying24 HI.out.1 HI.out.2.1 HI.out.2.2.1 HI.out.2.2.2 rfl (by omega) _ (by rfl) rfl _ _ k _ _ (cellsF (l.take k)) (by rfl) rfl (HRd.out _ S24y.old k) HK.out.1 (cellsF_one _) (by unfold maxLen; omega) (by omega) ?_
                intro a25y c25y w25y S25y
                try simp only [List.set_cons_zero, List.set_cons_succ, List.set_nil, List.append_nil, List.nil_append, List.cons_append] at S25y
                simp only [Nat.zero_add] at S25y ⊢
                refine hK.out _ _ (Row.one (box_at S25y 0 rfl)).1 (fun hS => ?_)
                clear hK K
                try simp only [Act.put, List.setIfInBounds_toArray, List.set_cons_zero, List.set_cons_succ]
                refine wpAnyH_ready (rs := [10]) (by kernel_rfl) (by simp) ?_
                refine Reg.cons_op (i := 10) rfl (fun K hK => ?_) ?_
                · refine step_append_s S25y 4 rfl rfl _ _ 24 (by rfl) i0 (.agg #[.string ⟨#[]⟩, .int .i64 0]) 24 Try.underlying24 HI.out.1 HI.out.2.1 HI.out.2.2.1 HI.out.2.2.2 rfl (by omega) _ (by rfl) (by omega) _ _ 1 _ _ (cellsF [⟨s, x⟩]) (by rfl) rfl (own_at S25y 5 rfl).reads rfl (cellsF_one _) (by unfold maxLen; omega) (by omega) ?_
                  intro a26y c26y w26y S26y
                  try simp only [List.set_cons_zero, List.set_cons_succ, List.set_nil, List.append_nil, List.nil_append, List.cons_append] at S26y
                  refine hK.out _ _ (Row.one (box_at S26y 0 rfl)).1 (fun hS => ?_)
                  clear hK K
                  try simp only [Act.put, List.setIfInBounds_toArray, List.set_cons_zero, List.set_cons_succ]
                  refine wpAnyH_ready (rs := [15]) (by kernel_rfl) (by simp) ?_
                  refine Reg.cons_op (i := 15) rfl (fun K hK => ?_) ?_
                  · refine step_append_s S26y 4 rfl rfl _ _ 24 (by rfl) i0 (.agg #[.string ⟨#[]⟩, .int .i64 0]) 24 Try.underlying24 HI.out.1 HI.out.2.1 HI.out.2.2.1 HI.out.2.2.2 rfl (by omega) _ (by rfl) (by omega) _ _ (n - k) _ _ (cellsF (l.drop k)) (by rfl) (by omega) (HRt.out _ _ S26y.old) HK.out.2.1 (cellsF_one _) (by unfold maxLen; omega) (by omega) ?_
                    intro a27y c27y w27y S27y
                    try simp only [List.set_cons_zero, List.set_cons_succ, List.set_nil, List.append_nil, List.nil_append, List.cons_append] at S27y
                    refine hK.out _ _ (Row.one (box_at S27y 0 rfl)).1 (fun hS => ?_)
                    clear hK K
                    try simp only [Act.put, List.setIfInBounds_toArray, List.set_cons_zero, List.set_cons_succ]
                    refine Reg.take_op (i := 16) (v := ?_) rfl (by kernel_rfl) (by kernel_rfl) (by kernel_rfl) (fun _ _ _ h => h) (by rfl) ?_ (by assumption) ?_
                    rotate_left
                    · (intro w hSw; (try dsimp only at hSw); go_simp; try with_reducible rfl)
                    try simp only [Act.put, List.setIfInBounds_toArray, List.set_cons_zero, List.set_cons_succ]
                    refine wpAnyH_ready (rs := [17]) (by kernel_rfl) (by simp) ?_
                    refine Reg.cons_op (i := 17) rfl (fun K hK => ?_) ?_
                    · have S28y := put_box5 S27y 3 rfl 0 (.slice a27y (k + 1) c27y)
                      obtain ⟨g0, g1⟩ := Row.one (box_at S27y 3 rfl)
                      go_simp
                      refine hK.out _ _ (Row.one (box_at S28y 0 rfl)).1 (fun hS => ?_)
                      clear hK K
                      try simp only [Act.put, List.setIfInBounds_toArray, List.set_cons_zero, List.set_cons_succ]
                      clear g0 g1
                      refine wpAnyH_done (by kernel_rfl) ?_ _
                      go_wp2_with fail
                      go_meet
                      case rel => exact ⟨rfl, a27y, c27y, by have h9 := sep_pick S28y [0, 1, 3, 4] rfl (by decide) rfl rfl rfl rfl; rw [HK.out.2.2] at h9; (try rw [HK.out.2.2]); rw [HK1.out] at h9 ⊢; rw [HXS.out]; exact h9⟩
                    exact AllReadyH.nil
                  exact AllReadyH.nil
                exact AllReadyH.nil
              exact AllReadyH.nil
            exact AllReadyH.nil
          refine Reg.cons_op (i := 9) rfl (fun K hK => ?_) ?_
          · have S29y := push_own S6 ((Below.refl _ _).alloc (Nat.le_refl _) _) (OwnV.madeAt wd 64 2 1 wd.heap.size #[.string s, .int .i64 x] rfl (Nat.le_refl _) rfl (by decide))
            go_simp
            refine hK.out _ _ (Row.one (box_at S29y 0 rfl)).1 (fun hS => ?_)
            clear hK K
            try simp only [Act.put, List.setIfInBounds_toArray, List.set_cons_zero, List.set_cons_succ]
            obtain ⟨b29, hb29⟩ : ∃ b, b = wd.heap.size := ⟨_, rfl⟩
            rw [← hb29] at S29y ⊢
            generalize wd.alloc (.cells #[.string s, .int .i64 x] 64) = w29y at hS S29y ⊢
            clear hb29
            refine wpAnyH_ready (rs := [0]) (by kernel_rfl) (by simp) ?_
            refine Reg.cons_op (i := 0) rfl (fun K hK => ?_) ?_
            · have S30y := push_own S29y ((Below.refl _ _).alloc (Nat.le_refl _) _) (OwnV.emptyAt w29y 64 2 w29y.heap.size rfl (Nat.le_refl _))
              go_simp
              refine hK.out _ _ (Row.one (box_at S30y 0 rfl)).1 (fun hS => ?_)
              clear hK K
              try simp only [Act.put, List.setIfInBounds_toArray, List.set_cons_zero, List.set_cons_succ]
              obtain ⟨b30, hb30⟩ : ∃ b, b = w29y.heap.size := ⟨_, rfl⟩
              rw [← hb30] at S30y ⊢
              generalize w29y.alloc (.cells #[] 64) = w30y at hS S30y ⊢
              clear hb30
              refine wpAnyH_ready (rs := [5]) (by kernel_rfl) (by simp) ?_
              refine Reg.cons_op (i := 5) rfl (fun K hK => ?_) ?_
              · refine step_append_s S30y 5 rfl rfl _ _ 24 (by rfl) i0 (.agg #[.string ⟨#[]⟩, .int .i64 0]) 24 Try.underlying24 HI.out.1 HI.out.2.1 HI.out.2.2.1 HI.out.2.2.2 rfl (by omega) _ (by rfl) rfl _ _ k _ _ (cellsF (l.take k)) (by rfl) rfl (HRd.out _ S30y.old k) HK.out.1 (cellsF_one _) (by unfold maxLen; omega) (by omega) ?_
                intro a31y c31y w31y S31y
                try simp only [List.set_cons_zero, List.set_cons_succ, List.set_nil, List.append_nil, List.nil_append, List.cons_append] at S31y
                simp only [Nat.zero_add] at S31y ⊢
                refine hK.out _ _ (Row.one (box_at S31y 0 rfl)).1 (fun hS => ?_)
                clear hK K
                try simp only [Act.put, List.setIfInBounds_toArray, List.set_cons_zero, List.set_cons_succ]
                refine wpAnyH_ready (rs := [10]) (by kernel_rfl) (by simp) ?_
                refine Reg.cons_op (i := 10) rfl (fun K hK => ?_) ?_
                · refine step_append_s S31y 5 rfl rfl _ _ 24 (by rfl) i0 (.agg #[.string ⟨#[]⟩, .int .i64 0]) 24 Try.underlying24 HI.out.1 HI.out.2.1 HI.out.2.2.1 HI.out.2.2.2 rfl (by omega) _ (by rfl) (by omega) _ _ 1 _ _ (cellsF [⟨s, x⟩]) (by rfl) rfl (own_at S31y 4 rfl).reads rfl (cellsF_one _) (by unfold maxLen; omega) (by omega) ?_
                  intro a32y c32y w32y S32y
                  try simp only [List.set_cons_zero, List.set_cons_succ, List.set_nil, List.append_nil, List.nil_append, List.cons_append] at S32y
                  refine hK.out _ _ (Row.one (box_at S32y 0 rfl)).1 (fun hS => ?_)
                  clear hK K
                  try simp only [Act.put, List.setIfInBounds_toArray, List.set_cons_zero, List.set_cons_succ]
                  refine wpAnyH_ready (rs := [15]) (by kernel_rfl) (by simp) ?_
                  refine Reg.cons_op (i := 15) rfl (fun K hK => ?_) ?_
                  · refine step_append_s S32y 5 rfl rfl _ _ 24 (by rfl) i0 (.agg #[.string ⟨#[]⟩, .int .i64 0]) 24 Try.underlying24 HI.out.1 HI.out.2.1 HI.out.2.2.1 HI.out.2.2.2 rfl (by omega) _ (by rfl) (by omega) _ _ (n - k) _ _ (cellsF (l.drop k)) (by rfl) (by omega) (HRt.out _ _ S32y.old) HK.out.2.1 (cellsF_one _) (by unfold maxLen; omega) (by omega) ?_
                    intro a33y c33y w33y S33y
                    try simp only [List.set_cons_zero, List.set_cons_succ, List.set_nil, List.append_nil, List.nil_append, List.cons_append] at S33y
                    refine hK.out _ _ (Row.one (box_at S33y 0 rfl)).1 (fun hS => ?_)
                    clear hK K
                    try simp only [Act.put, List.setIfInBounds_toArray, List.set_cons_zero, List.set_cons_succ]
                    refine Reg.take_op (i := 16) (v := ?_) rfl (by kernel_rfl) (by kernel_rfl) (by kernel_rfl) (fun _ _ _ h => h) (by rfl) ?_ (by assumption) ?_
                    rotate_left
                    · (intro w hSw; (try dsimp only at hSw); go_simp; try with_reducible rfl)
                    try simp only [Act.put, List.setIfInBounds_toArray, List.set_cons_zero, List.set_cons_succ]
                    refine wpAnyH_ready (rs := [17]) (by kernel_rfl) (by simp) ?_
                    refine Reg.cons_op (i := 17) rfl (fun K hK => ?_) ?_
                    · have S34y := put_box5 S33y 3 rfl 0 (.slice a33y (k + 1) c33y)
                      obtain ⟨g0, g1⟩ := Row.one (box_at S33y 3 rfl)
                      go_simp
                      refine hK.out _ _ (Row.one (box_at S34y 0 rfl)).1 (fun hS => ?_)
                      clear hK K
                      try simp only [Act.put, List.setIfInBounds_toArray, List.set_cons_zero, List.set_cons_succ]
                      clear g0 g1
                      refine wpAnyH_done (by kernel_rfl) ?_ _
                      go_wp2_with fail
                      go_meet
                      case rel => exact ⟨rfl, a33y, c33y, by have h9 := sep_pick S34y [0, 1, 3, 5] rfl (by decide) rfl rfl rfl rfl; rw [HK.out.2.2] at h9; (try rw [HK.out.2.2]); rw [HK1.out] at h9 ⊢; rw [HXS.out]; exact h9⟩
                    exact AllReadyH.nil
                  exact AllReadyH.nil
                exact AllReadyH.nil
              exact AllReadyH.nil
            exact AllReadyH.nil
          exact AllReadyH.nil
        case rest =>
          obtain ⟨rfl, A, C, HQ⟩ := hcut
          clear r0 r1 o0 o1
          have SQ := HQ.out
          obtain ⟨r0, r1⟩ := Row.one (box_at SQ 0 rfl)
          obtain ⟨o0, o1⟩ := Row.one (box_at SQ 2 rfl)
          go_wp2_with fail
          go_at_call 37
          refine (HS.out _ SQ.old).mono ?_
          rintro e w7 ⟨rfl, h7⟩
          have S7 := SQ.keep h7
          clear h7 SQ HQ r0 r1 o0 o1
          obtain ⟨r0, r1⟩ := Row.one (box_at S7 0 rfl)
          obtain ⟨z0, z1⟩ := Row.one (box_at S7 1 rfl)
          obtain ⟨o0, o1⟩ := Row.one (box_at S7 2 rfl)
          cases br with
          | false =>
            have HE := Lib.hid (show setL l s x = l ∧ setB l s x = false by unfold setL setB; rw [hbr]; exact ⟨rfl, rfl⟩)
            go_wp2_with fail
            go_at_call 36
            refine (HL.out _ S7.old).mono ?_
            rintro e w8 ⟨a8, c8, rfl, ho8, hb8⟩
            have S8 := push_own S7 hb8 ho8
            clear hb8 ho8 S7 r0 r1 z0 z1 o0 o1
            obtain ⟨z0, z1⟩ := Row.one (box_at S8 1 rfl)
            have S9 := Lib.hid (put_box5 S8 1 rfl 0 (.slice a8 n c8))
            go_wp2_with fail
            refine bodyPost_ret (v := .tuple #[.agg #[.slice a8 n c8], .bool false]) (by simp [results, Try.results11, go_sem, z0]) rfl ?_
            unfold GaveRB
            rw [HE.out.1, HE.out.2, ← HN.out]
            exact ⟨a8, c8, rfl, own_from S9.out 4 rfl, S9.out.old⟩
          | true =>
            have HO := Lib.hid (specIsRecord_any A C (putF l s x) (by rw [HU.out]; omega) HSM.out w7 (own_at S7 3 rfl).reads)
            rw [HU.out] at HO
            obtain ⟨bo, hbo⟩ : ∃ b, isR (putF l s x) = b := ⟨_, rfl⟩
            rw [hbo] at HO
            go_wp2_with fail
            go_at_call 37
            refine HO.out.mono ?_
            rintro e w8 ⟨rfl, h8⟩
            have S8 := S7.keep h8
            clear h8 S7 r0 r1 z0 z1 o0 o1
            obtain ⟨r0, r1⟩ := Row.one (box_at S8 0 rfl)
            obtain ⟨z0, z1⟩ := Row.one (box_at S8 1 rfl)
            obtain ⟨o0, o1⟩ := Row.one (box_at S8 2 rfl)
            cases bo with
            | false =>
              have HE := Lib.hid (show setL l s x = l ∧ setB l s x = false by unfold setL setB; rw [hbr, hbo]; exact ⟨rfl, rfl⟩)
              go_wp2_with fail
              go_at_call 36
              refine (HL.out _ S8.old).mono ?_
              rintro e w9 ⟨a8, c8, rfl, ho8, hb8⟩
              have S9 := push_own S8 hb8 ho8
              clear hb8 ho8 S8 r0 r1 z0 z1 o0 o1
              obtain ⟨z0, z1⟩ := Row.one (box_at S9 1 rfl)
              have SX := Lib.hid (put_box5 S9 1 rfl 0 (.slice a8 n c8))
              go_wp2_with fail
              refine bodyPost_ret (v := .tuple #[.agg #[.slice a8 n c8], .bool false]) (by simp [results, Try.results11, go_sem, z0]) rfl ?_
              unfold GaveRB
              rw [HE.out.1, HE.out.2, ← HN.out]
              exact ⟨a8, c8, rfl, own_from SX.out 4 rfl, SX.out.old⟩
            | true =>
              have HE := Lib.hid (show setL l s x = putF l s x ∧ setB l s x = true by unfold setL setB; rw [hbr, hbo]; exact ⟨rfl, rfl⟩)
              have SX := Lib.hid (put_box5 S8 1 rfl 0 (.slice A m C))
              go_wp2_with fail
              refine bodyPost_ret (v := .tuple #[.agg #[.slice A m C], .bool true]) (by simp [results, Try.results11, go_sem, z0]) rfl ?_
              unfold GaveRB
              rw [HE.out.1, HE.out.2, HU.out]
              exact ⟨A, C, rfl, own_from SX.out 3 rfl, SX.out.old⟩
      · obtain ⟨ad, rfl⟩ : ∃ ad, a = some ad := by
          cases a with
          | none => exact absurd (hz rfl) (by omega)
          | some ad => exact ⟨ad, rfl⟩
        have hkc : k ≤ c := by omega
        have HRt := Lib.hid (show ∀ w' ad2, some ad = some ad2 → Below w.heap.size w w' → Reads w' w.heap.size (some (ad2.add (k * 2))) (cellsF (l.drop k)) from fun w' ad2 ha h => reads_suffix (by rw [← ha]; exact HR.out w' h) k)
        go_upto_region 7 with fail
        go_cut [9] (fun y wx => y = .int .i64 k ∧ ∃ A C, Hid (Sep w wx [boxR w.heap.size 26 #[.slice (some ad) n c], boxR (w.heap.size + 1) 26 #[.slice none 0 0], boxR G 26 #[.slice A m C], ownV 64 2 A C m (cellsF (putF l s x))]))
        case first =>
          refine wp_region_held_drew (S := fun w' => w'.cell? ⟨w.heap.size, 0, none⟩ = some (.slice (some ad) n c)) (by kernel_rfl) r0 (fun hS => ?_)
          have S6 : Sep w w4.drew _ := H4.out.drews 1
          clear r0 r1 o0 o1
          generalize w4.drew = wd at hS S6 ⊢
          refine Reg.take_op (i := 1) (v := ?_) rfl (by kernel_rfl) (by kernel_rfl) (by kernel_rfl) (fun _ _ _ h => h) (by rfl) ?_ (by assumption) ?_
          rotate_left
          · (intro w hSw; (try dsimp only at hSw); go_simp; try with_reducible rfl)
          try simp only [Act.put, List.setIfInBounds_toArray, List.set_cons_zero, List.set_cons_succ]
          refine Reg.take_op (i := 2) (v := ?_) rfl (by kernel_rfl) (by kernel_rfl) (by kernel_rfl) (fun _ _ _ h => h) (by rfl) ?_ (by assumption) ?_
          rotate_left
          · (intro w hSw; (try dsimp only at hSw); go_simp; try with_reducible rfl)
          try simp only [Act.put, List.setIfInBounds_toArray, List.set_cons_zero, List.set_cons_succ]
          refine Reg.take_op (i := 3) (v := ?_) rfl (by kernel_rfl) (by kernel_rfl) (by kernel_rfl) (fun _ _ _ h => h) (by rfl) ?_ (by assumption) ?_
          rotate_left
          · (intro w hSw; (try dsimp only at hSw); go_simp; try with_reducible rfl)
          try simp only [Act.put, List.setIfInBounds_toArray, List.set_cons_zero, List.set_cons_succ]
          refine Reg.take_op (i := 4) (v := ?_) rfl (by kernel_rfl) (by kernel_rfl) (by kernel_rfl) (fun _ _ _ h => h) (by rfl) ?_ (by assumption) ?_
          rotate_left
          · (intro w hSw; (try dsimp only at hSw); go_simp; try with_reducible rfl)
          try simp only [Act.put, List.setIfInBounds_toArray, List.set_cons_zero, List.set_cons_succ]
          refine Reg.take_op (i := 6) (v := ?_) rfl (by kernel_rfl) (by kernel_rfl) (by kernel_rfl) (fun _ _ _ h => h) (by rfl) ?_ (by assumption) ?_
          rotate_left
          · (intro w hSw; (try dsimp only at hSw); go_simp; try with_reducible rfl)
          try simp only [Act.put, List.setIfInBounds_toArray, List.set_cons_zero, List.set_cons_succ]
          refine Reg.take_op (i := 7) (v := ?_) rfl (by kernel_rfl) (by kernel_rfl) (by kernel_rfl) (fun _ _ _ h => h) (by rfl) ?_ (by assumption) ?_
          rotate_left
          · (intro w hSw; (try dsimp only at hSw); go_simp; try with_reducible rfl)
          try simp only [Act.put, List.setIfInBounds_toArray, List.set_cons_zero, List.set_cons_succ]
          refine Reg.take_op (i := 8) (v := ?_) rfl (by kernel_rfl) (by kernel_rfl) (by kernel_rfl) (fun _ _ _ h => h) (by rfl) ?_ (by assumption) ?_
          rotate_left
          · (intro w hSw; (try dsimp only at hSw); go_simp; try with_reducible rfl)
          try simp only [Act.put, List.setIfInBounds_toArray, List.set_cons_zero, List.set_cons_succ]
          refine Reg.take_op (i := 11) (v := ?_) rfl (by kernel_rfl) (by kernel_rfl) (by kernel_rfl) (fun _ _ _ h => h) (by rfl) ?_ (by assumption) ?_
          rotate_left
          · (intro w hSw; (try dsimp only at hSw); go_simp; try with_reducible rfl)
          try simp only [Act.put, List.setIfInBounds_toArray, List.set_cons_zero, List.set_cons_succ]
          refine Reg.take_op (i := 12) (v := ?_) rfl (by kernel_rfl) (by kernel_rfl) (by kernel_rfl) (fun _ _ _ h => h) (by rfl) ?_ (by assumption) ?_
          rotate_left
          · (intro w hSw; (try dsimp only at hSw); go_simp; try with_reducible rfl)
          try simp only [Act.put, List.setIfInBounds_toArray, List.set_cons_zero, List.set_cons_succ]
          refine Reg.take_op (i := 13) (v := ?_) rfl (by kernel_rfl) (by kernel_rfl) (by kernel_rfl) (fun _ _ _ h => h) (by rfl) ?_ (by assumption) ?_
          rotate_left
          · (intro w hSw; (try dsimp only at hSw); go_simp; try with_reducible rfl)
          try simp only [Act.put, List.setIfInBounds_toArray, List.set_cons_zero, List.set_cons_succ]
          refine Reg.take_op (i := 14) (v := ?_) rfl (by kernel_rfl) (by kernel_rfl) (by kernel_rfl) (fun _ _ _ h => h) (by rfl) ?_ (by assumption) ?_
          rotate_left
          · (intro w hSw; (try dsimp only at hSw); go_simp; try with_reducible rfl)
          try simp only [Act.put, List.setIfInBounds_toArray, List.set_cons_zero, List.set_cons_succ]
          refine wpAnyH_ready (rs := [0, 9]) (by kernel_rfl) (by simp) ?_
          refine Reg.cons_op (i := 0) rfl (fun K hK => ?_) ?_
          · have S35y := push_own S6 ((Below.refl _ _).alloc (Nat.le_refl _) _) (OwnV.emptyAt wd 64 2 wd.heap.size rfl (Nat.le_refl _))
            go_simp
            refine hK.out _ _ (Row.one (box_at S35y 0 rfl)).1 (fun hS => ?_)
            clear hK K
            try simp only [Act.put, List.setIfInBounds_toArray, List.set_cons_zero, List.set_cons_succ]
            obtain ⟨b35, hb35⟩ : ∃ b, b = wd.heap.size := ⟨_, rfl⟩
            rw [← hb35] at S35y ⊢
            generalize wd.alloc (.cells #[] 64) = w35y at hS S35y ⊢
            clear hb35
            refine wpAnyH_ready (rs := [5, 9]) (by kernel_rfl) (by simp) ?_
            refine Reg.cons_op (i := 5) rfl (fun K hK => ?_) ?_
            · refine step_append_s S35y 4 rfl rfl _ _ 24 (by rfl) i0 (.agg #[.string ⟨#[]⟩, .int .i64 0]) 24 Try.underlying24 HI.out.1 HI.out.2.1 HI.out.2.2.1 HI.out.2.2.2 rfl (by omega) _ (by rfl) rfl _ _ k _ _ (cellsF (l.take k)) (by rfl) rfl (HRd.out _ S35y.old k) HK.out.1 (cellsF_one _) (by unfold maxLen; omega) (by omega) ?_
              intro a36y c36y w36y S36y
              try simp only [List.set_cons_zero, List.set_cons_succ, List.set_nil, List.append_nil, List.nil_append, List.cons_append] at S36y
              simp only [Nat.zero_add] at S36y ⊢
              refine hK.out _ _ (Row.one (box_at S36y 0 rfl)).1 (fun hS => ?_)
              clear hK K
              try simp only [Act.put, List.setIfInBounds_toArray, List.set_cons_zero, List.set_cons_succ]
              refine wpAnyH_ready (rs := [9]) (by kernel_rfl) (by simp) ?_
              refine Reg.cons_op (i := 9) rfl (fun K hK => ?_) ?_
              · have S37y := push_own S36y ((Below.refl _ _).alloc (Nat.le_refl _) _) (OwnV.madeAt w36y 64 2 1 w36y.heap.size #[.string s, .int .i64 x] rfl (Nat.le_refl _) rfl (by decide))
                go_simp
                refine hK.out _ _ (Row.one (box_at S37y 0 rfl)).1 (fun hS => ?_)
                clear hK K
                try simp only [Act.put, List.setIfInBounds_toArray, List.set_cons_zero, List.set_cons_succ]
                obtain ⟨b37, hb37⟩ : ∃ b, b = w36y.heap.size := ⟨_, rfl⟩
                rw [← hb37] at S37y ⊢
                generalize w36y.alloc (.cells #[.string s, .int .i64 x] 64) = w37y at hS S37y ⊢
                clear hb37
                refine wpAnyH_ready (rs := [10]) (by kernel_rfl) (by simp) ?_
                refine Reg.cons_op (i := 10) rfl (fun K hK => ?_) ?_
                · refine step_append_s S37y 4 rfl rfl _ _ 24 (by rfl) i0 (.agg #[.string ⟨#[]⟩, .int .i64 0]) 24 Try.underlying24 HI.out.1 HI.out.2.1 HI.out.2.2.1 HI.out.2.2.2 rfl (by omega) _ (by rfl) (by omega) _ _ 1 _ _ (cellsF [⟨s, x⟩]) (by rfl) rfl (own_at S37y 5 rfl).reads rfl (cellsF_one _) (by unfold maxLen; omega) (by omega) ?_
                  intro a38y c38y w38y S38y
                  try simp only [List.set_cons_zero, List.set_cons_succ, List.set_nil, List.append_nil, List.nil_append, List.cons_append] at S38y
                  refine hK.out _ _ (Row.one (box_at S38y 0 rfl)).1 (fun hS => ?_)
                  clear hK K
                  try simp only [Act.put, List.setIfInBounds_toArray, List.set_cons_zero, List.set_cons_succ]
                  refine wpAnyH_ready (rs := [15]) (by kernel_rfl) (by simp) ?_
                  refine Reg.cons_op (i := 15) rfl (fun K hK => ?_) ?_
                  · refine step_append_s S38y 4 rfl rfl _ _ 24 (by rfl) i0 (.agg #[.string ⟨#[]⟩, .int .i64 0]) 24 Try.underlying24 HI.out.1 HI.out.2.1 HI.out.2.2.1 HI.out.2.2.2 rfl (by omega) _ (by rfl) (by omega) _ _ (n - k) _ _ (cellsF (l.drop k)) (by rfl) rfl (HRt.out _ _ rfl S38y.old) HK.out.2.1 (cellsF_one _) (by unfold maxLen; omega) (by omega) ?_
                    intro a39y c39y w39y S39y
                    try simp only [List.set_cons_zero, List.set_cons_succ, List.set_nil, List.append_nil, List.nil_append, List.cons_append] at S39y
                    refine hK.out _ _ (Row.one (box_at S39y 0 rfl)).1 (fun hS => ?_)
                    clear hK K
                    try simp only [Act.put, List.setIfInBounds_toArray, List.set_cons_zero, List.set_cons_succ]
                    refine Reg.take_op (i := 16) (v := ?_) rfl (by kernel_rfl) (by kernel_rfl) (by kernel_rfl) (fun _ _ _ h => h) (by rfl) ?_ (by assumption) ?_
                    rotate_left
                    · (intro w hSw; (try dsimp only at hSw); go_simp; try with_reducible rfl)
                    try simp only [Act.put, List.setIfInBounds_toArray, List.set_cons_zero, List.set_cons_succ]
                    refine wpAnyH_ready (rs := [17]) (by kernel_rfl) (by simp) ?_
                    refine Reg.cons_op (i := 17) rfl (fun K hK => ?_) ?_
                    · have S40y := put_box5 S39y 3 rfl 0 (.slice a39y (k + 1 + (n - k)) c39y)
                      obtain ⟨g0, g1⟩ := Row.one (box_at S39y 3 rfl)
                      go_simp
                      refine hK.out _ _ (Row.one (box_at S40y 0 rfl)).1 (fun hS => ?_)
                      clear hK K
                      try simp only [Act.put, List.setIfInBounds_toArray, List.set_cons_zero, List.set_cons_succ]
                      clear g0 g1
                      refine wpAnyH_done (by kernel_rfl) ?_ _
                      go_wp2_with fail
                      go_meet
                      case rel => exact ⟨rfl, a39y, c39y, by have h9 := sep_pick S40y [0, 1, 3, 4] rfl (by decide) rfl rfl rfl rfl; rw [HK.out.2.2] at h9; (try rw [HK.out.2.2]); rw [HXS.out]; exact h9⟩
                    exact AllReadyH.nil
                  exact AllReadyH.nil
                exact AllReadyH.nil
              exact AllReadyH.nil
            refine Reg.cons_op (i := 9) rfl (fun K hK => ?_) ?_
            · have S41y := push_own S35y ((Below.refl _ _).alloc (Nat.le_refl _) _) (OwnV.madeAt w35y 64 2 1 w35y.heap.size #[.string s, .int .i64 x] rfl (Nat.le_refl _) rfl (by decide))
              go_simp
              refine hK.out _ _ (Row.one (box_at S41y 0 rfl)).1 (fun hS => ?_)
              clear hK K
              try simp only [Act.put, List.setIfInBounds_toArray, List.set_cons_zero, List.set_cons_succ]
              obtain ⟨b41, hb41⟩ : ∃ b, b = w35y.heap.size := ⟨_, rfl⟩
              rw [← hb41] at S41y ⊢
              generalize w35y.alloc (.cells #[.string s, .int .i64 x] 64) = w41y at hS S41y ⊢
              clear hb41
              refine wpAnyH_ready (rs := [5]) (by kernel_rfl) (by simp) ?_
              refine Reg.cons_op (i := 5) rfl (fun K hK => ?_) ?_
              · refine step_append_s S41y 4 rfl rfl _ _ 24 (by rfl) i0 (.agg #[.string ⟨#[]⟩, .int .i64 0]) 24 Try.underlying24 HI.out.1 HI.out.2.1 HI.out.2.2.1 HI.out.2.2.2 rfl (by omega) _ (by rfl) rfl _ _ k _ _ (cellsF (l.take k)) (by rfl) rfl (HRd.out _ S41y.old k) HK.out.1 (cellsF_one _) (by unfold maxLen; omega) (by omega) ?_
                intro a42y c42y w42y S42y
                try simp only [List.set_cons_zero, List.set_cons_succ, List.set_nil, List.append_nil, List.nil_append, List.cons_append] at S42y
                simp only [Nat.zero_add] at S42y ⊢
                refine hK.out _ _ (Row.one (box_at S42y 0 rfl)).1 (fun hS => ?_)
                clear hK K
                try simp only [Act.put, List.setIfInBounds_toArray, List.set_cons_zero, List.set_cons_succ]
                refine wpAnyH_ready (rs := [10]) (by kernel_rfl) (by simp) ?_
                refine Reg.cons_op (i := 10) rfl (fun K hK => ?_) ?_
                · refine step_append_s S42y 4 rfl rfl _ _ 24 (by rfl) i0 (.agg #[.string ⟨#[]⟩, .int .i64 0]) 24 Try.underlying24 HI.out.1 HI.out.2.1 HI.out.2.2.1 HI.out.2.2.2 rfl (by omega) _ (by rfl) (by omega) _ _ 1 _ _ (cellsF [⟨s, x⟩]) (by rfl) rfl (own_at S42y 5 rfl).reads rfl (cellsF_one _) (by unfold maxLen; omega) (by omega) ?_
                  intro a43y c43y w43y S43y
                  try simp only [List.set_cons_zero, List.set_cons_succ, List.set_nil, List.append_nil, List.nil_append, List.cons_append] at S43y
                  refine hK.out _ _ (Row.one (box_at S43y 0 rfl)).1 (fun hS => ?_)
                  clear hK K
                  try simp only [Act.put, List.setIfInBounds_toArray, List.set_cons_zero, List.set_cons_succ]
                  refine wpAnyH_ready (rs := [15]) (by kernel_rfl) (by simp) ?_
                  refine Reg.cons_op (i := 15) rfl (fun K hK => ?_) ?_
                  · refine step_append_s S43y 4 rfl rfl _ _ 24 (by rfl) i0 (.agg #[.string ⟨#[]⟩, .int .i64 0]) 24 Try.underlying24 HI.out.1 HI.out.2.1 HI.out.2.2.1 HI.out.2.2.2 rfl (by omega) _ (by rfl) (by omega) _ _ (n - k) _ _ (cellsF (l.drop k)) (by rfl) rfl (HRt.out _ _ rfl S43y.old) HK.out.2.1 (cellsF_one _) (by unfold maxLen; omega) (by omega) ?_
                    intro a44y c44y w44y S44y
                    try simp only [List.set_cons_zero, List.set_cons_succ, List.set_nil, List.append_nil, List.nil_append, List.cons_append] at S44y
                    refine hK.out _ _ (Row.one (box_at S44y 0 rfl)).1 (fun hS => ?_)
                    clear hK K
                    try simp only [Act.put, List.setIfInBounds_toArray, List.set_cons_zero, List.set_cons_succ]
                    refine Reg.take_op (i := 16) (v := ?_) rfl (by kernel_rfl) (by kernel_rfl) (by kernel_rfl) (fun _ _ _ h => h) (by rfl) ?_ (by assumption) ?_
                    rotate_left
                    · (intro w hSw; (try dsimp only at hSw); go_simp; try with_reducible rfl)
                    try simp only [Act.put, List.setIfInBounds_toArray, List.set_cons_zero, List.set_cons_succ]
                    refine wpAnyH_ready (rs := [17]) (by kernel_rfl) (by simp) ?_
                    refine Reg.cons_op (i := 17) rfl (fun K hK => ?_) ?_
                    · have S45y := put_box5 S44y 3 rfl 0 (.slice a44y (k + 1 + (n - k)) c44y)
                      obtain ⟨g0, g1⟩ := Row.one (box_at S44y 3 rfl)
                      go_simp
                      refine hK.out _ _ (Row.one (box_at S45y 0 rfl)).1 (fun hS => ?_)
                      clear hK K
                      try simp only [Act.put, List.setIfInBounds_toArray, List.set_cons_zero, List.set_cons_succ]
                      clear g0 g1
                      refine wpAnyH_done (by kernel_rfl) ?_ _
                      go_wp2_with fail
                      go_meet
                      case rel => exact ⟨rfl, a44y, c44y, by have h9 := sep_pick S45y [0, 1, 3, 4] rfl (by decide) rfl rfl rfl rfl; rw [HK.out.2.2] at h9; (try rw [HK.out.2.2]); rw [HXS.out]; exact h9⟩
                    exact AllReadyH.nil
                  exact AllReadyH.nil
                exact AllReadyH.nil
              exact AllReadyH.nil
            exact AllReadyH.nil
          refine Reg.cons_op (i := 9) rfl (fun K hK => ?_) ?_
          · have S46y := push_own S6 ((Below.refl _ _).alloc (Nat.le_refl _) _) (OwnV.madeAt wd 64 2 1 wd.heap.size #[.string s, .int .i64 x] rfl (Nat.le_refl _) rfl (by decide))
            go_simp
            refine hK.out _ _ (Row.one (box_at S46y 0 rfl)).1 (fun hS => ?_)
            clear hK K
            try simp only [Act.put, List.setIfInBounds_toArray, List.set_cons_zero, List.set_cons_succ]
            obtain ⟨b46, hb46⟩ : ∃ b, b = wd.heap.size := ⟨_, rfl⟩
            rw [← hb46] at S46y ⊢
            generalize wd.alloc (.cells #[.string s, .int .i64 x] 64) = w46y at hS S46y ⊢
            clear hb46
            refine wpAnyH_ready (rs := [0]) (by kernel_rfl) (by simp) ?_
            refine Reg.cons_op (i := 0) rfl (fun K hK => ?_) ?_
            · have S47y := push_own S46y ((Below.refl _ _).alloc (Nat.le_refl _) _) (OwnV.emptyAt w46y 64 2 w46y.heap.size rfl (Nat.le_refl _))
              go_simp
              refine hK.out _ _ (Row.one (box_at S47y 0 rfl)).1 (fun hS => ?_)
              clear hK K
              try simp only [Act.put, List.setIfInBounds_toArray, List.set_cons_zero, List.set_cons_succ]
              obtain ⟨b47, hb47⟩ : ∃ b, b = w46y.heap.size := ⟨_, rfl⟩
              rw [← hb47] at S47y ⊢
              generalize w46y.alloc (.cells #[] 64) = w47y at hS S47y ⊢
              clear hb47
              refine wpAnyH_ready (rs := [5]) (by kernel_rfl) (by simp) ?_
              refine Reg.cons_op (i := 5) rfl (fun K hK => ?_) ?_
              · refine step_append_s S47y 5 rfl rfl _ _ 24 (by rfl) i0 (.agg #[.string ⟨#[]⟩, .int .i64 0]) 24 Try.underlying24 HI.out.1 HI.out.2.1 HI.out.2.2.1 HI.out.2.2.2 rfl (by omega) _ (by rfl) rfl _ _ k _ _ (cellsF (l.take k)) (by rfl) rfl (HRd.out _ S47y.old k) HK.out.1 (cellsF_one _) (by unfold maxLen; omega) (by omega) ?_
                intro a48y c48y w48y S48y
                try simp only [List.set_cons_zero, List.set_cons_succ, List.set_nil, List.append_nil, List.nil_append, List.cons_append] at S48y
                simp only [Nat.zero_add] at S48y ⊢
                refine hK.out _ _ (Row.one (box_at S48y 0 rfl)).1 (fun hS => ?_)
                clear hK K
                try simp only [Act.put, List.setIfInBounds_toArray, List.set_cons_zero, List.set_cons_succ]
                refine wpAnyH_ready (rs := [10]) (by kernel_rfl) (by simp) ?_
                refine Reg.cons_op (i := 10) rfl (fun K hK => ?_) ?_
                · refine step_append_s S48y 5 rfl rfl _ _ 24 (by rfl) i0 (.agg #[.string ⟨#[]⟩, .int .i64 0]) 24 Try.underlying24 HI.out.1 HI.out.2.1 HI.out.2.2.1 HI.out.2.2.2 rfl (by omega) _ (by rfl) (by omega) _ _ 1 _ _ (cellsF [⟨s, x⟩]) (by rfl) rfl (own_at S48y 4 rfl).reads rfl (cellsF_one _) (by unfold maxLen; omega) (by omega) ?_
                  intro a49y c49y w49y S49y
                  try simp only [List.set_cons_zero, List.set_cons_succ, List.set_nil, List.append_nil, List.nil_append, List.cons_append] at S49y
                  refine hK.out _ _ (Row.one (box_at S49y 0 rfl)).1 (fun hS => ?_)
                  clear hK K
                  try simp only [Act.put, List.setIfInBounds_toArray, List.set_cons_zero, List.set_cons_succ]
                  refine wpAnyH_ready (rs := [15]) (by kernel_rfl) (by simp) ?_
                  refine Reg.cons_op (i := 15) rfl (fun K hK => ?_) ?_
                  · refine step_append_s S49y 5 rfl rfl _ _ 24 (by rfl) i0 (.agg #[.string ⟨#[]⟩, .int .i64 0]) 24 Try.underlying24 HI.out.1 HI.out.2.1 HI.out.2.2.1 HI.out.2.2.2 rfl (by omega) _ (by rfl) (by omega) _ _ (n - k) _ _ (cellsF (l.drop k)) (by rfl) rfl (HRt.out _ _ rfl S49y.old) HK.out.2.1 (cellsF_one _) (by unfold maxLen; omega) (by omega) ?_
                    intro a50y c50y w50y S50y
                    try simp only [List.set_cons_zero, List.set_cons_succ, List.set_nil, List.append_nil, List.nil_append, List.cons_append] at S50y
                    refine hK.out _ _ (Row.one (box_at S50y 0 rfl)).1 (fun hS => ?_)
                    clear hK K
                    try simp only [Act.put, List.setIfInBounds_toArray, List.set_cons_zero, List.set_cons_succ]
                    refine Reg.take_op (i := 16) (v := ?_) rfl (by kernel_rfl) (by kernel_rfl) (by kernel_rfl) (fun _ _ _ h => h) (by rfl) ?_ (by assumption) ?_
                    rotate_left
                    · (intro w hSw; (try dsimp only at hSw); go_simp; try with_reducible rfl)
                    try simp only [Act.put, List.setIfInBounds_toArray, List.set_cons_zero, List.set_cons_succ]
                    refine wpAnyH_ready (rs := [17]) (by kernel_rfl) (by simp) ?_
                    refine Reg.cons_op (i := 17) rfl (fun K hK => ?_) ?_
                    · have S51y := put_box5 S50y 3 rfl 0 (.slice a50y (k + 1 + (n - k)) c50y)
                      obtain ⟨g0, g1⟩ := Row.one (box_at S50y 3 rfl)
                      go_simp
                      refine hK.out _ _ (Row.one (box_at S51y 0 rfl)).1 (fun hS => ?_)
                      clear hK K
                      try simp only [Act.put, List.setIfInBounds_toArray, List.set_cons_zero, List.set_cons_succ]
                      clear g0 g1
                      refine wpAnyH_done (by kernel_rfl) ?_ _
                      go_wp2_with fail
                      go_meet
                      case rel => exact ⟨rfl, a50y, c50y, by have h9 := sep_pick S51y [0, 1, 3, 5] rfl (by decide) rfl rfl rfl rfl; rw [HK.out.2.2] at h9; (try rw [HK.out.2.2]); rw [HXS.out]; exact h9⟩
                    exact AllReadyH.nil
                  exact AllReadyH.nil
                exact AllReadyH.nil
              exact AllReadyH.nil
            exact AllReadyH.nil
          exact AllReadyH.nil
        case rest =>
          obtain ⟨rfl, A, C, HQ⟩ := hcut
          clear r0 r1 o0 o1
          have SQ := HQ.out
          obtain ⟨r0, r1⟩ := Row.one (box_at SQ 0 rfl)
          obtain ⟨o0, o1⟩ := Row.one (box_at SQ 2 rfl)
          go_wp2_with fail
          go_at_call 37
          refine (HS.out _ SQ.old).mono ?_
          rintro e w7 ⟨rfl, h7⟩
          have S7 := SQ.keep h7
          clear h7 SQ HQ r0 r1 o0 o1
          obtain ⟨r0, r1⟩ := Row.one (box_at S7 0 rfl)
          obtain ⟨z0, z1⟩ := Row.one (box_at S7 1 rfl)
          obtain ⟨o0, o1⟩ := Row.one (box_at S7 2 rfl)
          cases br with
          | false =>
            have HE := Lib.hid (show setL l s x = l ∧ setB l s x = false by unfold setL setB; rw [hbr]; exact ⟨rfl, rfl⟩)
            go_wp2_with fail
            go_at_call 36
            refine (HL.out _ S7.old).mono ?_
            rintro e w8 ⟨a8, c8, rfl, ho8, hb8⟩
            have S8 := push_own S7 hb8 ho8
            clear hb8 ho8 S7 r0 r1 z0 z1 o0 o1
            obtain ⟨z0, z1⟩ := Row.one (box_at S8 1 rfl)
            have S9 := Lib.hid (put_box5 S8 1 rfl 0 (.slice a8 n c8))
            go_wp2_with fail
            refine bodyPost_ret (v := .tuple #[.agg #[.slice a8 n c8], .bool false]) (by simp [results, Try.results11, go_sem, z0]) rfl ?_
            unfold GaveRB
            rw [HE.out.1, HE.out.2, ← HN.out]
            exact ⟨a8, c8, rfl, own_from S9.out 4 rfl, S9.out.old⟩
          | true =>
            have HO := Lib.hid (specIsRecord_any A C (putF l s x) (by rw [HU.out]; omega) HSM.out w7 (own_at S7 3 rfl).reads)
            rw [HU.out] at HO
            obtain ⟨bo, hbo⟩ : ∃ b, isR (putF l s x) = b := ⟨_, rfl⟩
            rw [hbo] at HO
            go_wp2_with fail
            go_at_call 37
            refine HO.out.mono ?_
            rintro e w8 ⟨rfl, h8⟩
            have S8 := S7.keep h8
            clear h8 S7 r0 r1 z0 z1 o0 o1
            obtain ⟨r0, r1⟩ := Row.one (box_at S8 0 rfl)
            obtain ⟨z0, z1⟩ := Row.one (box_at S8 1 rfl)
            obtain ⟨o0, o1⟩ := Row.one (box_at S8 2 rfl)
            cases bo with
            | false =>
              have HE := Lib.hid (show setL l s x = l ∧ setB l s x = false by unfold setL setB; rw [hbr, hbo]; exact ⟨rfl, rfl⟩)
              go_wp2_with fail
              go_at_call 36
              refine (HL.out _ S8.old).mono ?_
              rintro e w9 ⟨a8, c8, rfl, ho8, hb8⟩
              have S9 := push_own S8 hb8 ho8
              clear hb8 ho8 S8 r0 r1 z0 z1 o0 o1
              obtain ⟨z0, z1⟩ := Row.one (box_at S9 1 rfl)
              have SX := Lib.hid (put_box5 S9 1 rfl 0 (.slice a8 n c8))
              go_wp2_with fail
              refine bodyPost_ret (v := .tuple #[.agg #[.slice a8 n c8], .bool false]) (by simp [results, Try.results11, go_sem, z0]) rfl ?_
              unfold GaveRB
              rw [HE.out.1, HE.out.2, ← HN.out]
              exact ⟨a8, c8, rfl, own_from SX.out 4 rfl, SX.out.old⟩
            | true =>
              have HE := Lib.hid (show setL l s x = putF l s x ∧ setB l s x = true by unfold setL setB; rw [hbr, hbo]; exact ⟨rfl, rfl⟩)
              have SX := Lib.hid (put_box5 S8 1 rfl 0 (.slice A m C))
              go_wp2_with fail
              refine bodyPost_ret (v := .tuple #[.agg #[.slice A m C], .bool true]) (by simp [results, Try.results11, go_sem, z0]) rfl ?_
              unfold GaveRB
              rw [HE.out.1, HE.out.2, HU.out]
              exact ⟨A, C, rfl, own_from SX.out 3 rfl, SX.out.old⟩
end Go.Proofs.Ytephiilicebdcaa.L5
