/-
  What the law FnDeletions needs, laid by my program lawpack.py, part 2: the texts L5Set, RegL, L6Sa, L6Sb, L5Dm, L5Rd, L6Se, L6Sf, L6Sg, L6Sx, L6Fin, Run, one behind the other; each begins with its own words.
-/
import Derived.Test.YtojcdmgcbgpdmaaFnDeletionsP1
set_option linter.unusedSimpArgs false
set_option linter.unusedVariables false
set_option maxRecDepth 100000
set_option linter.unusedSimpArgs false
namespace Go.Proofs.Ytojcdmgcbgpdmaa.L5
open Go.Op (bytesLess)
open L4 (boxR push_box box_at)
open Go.ChangeShapes Go.WideShapes Go.ChangeAt Go.RowKit Mem Sl Ex L2 Sv

theorem put_box5 {W w : World} {rs : List Res} {g : Nat} {t : TypeId} {cs : Array Value} (h : Sep W w rs) (i : Nat) (hi : rs[i]? = some (boxR g t cs)) (j : Nat) (v : Value) : Sep W (w.setCell ⟨g, j, none⟩ v) (rs.set i (boxR g t (cs.setIfInBounds j v))) :=
 h.put i hi (Turned.of_grown (grownBy_put w g j v)) ((box_at h i hi).put j v) (fun b hb => hb)
def posF (l : List F) (s : ByteArray) : Nat := (l.takeWhile fun f => bytesLess f.t s.data.toList).length
def putF (l : List F) (s : ByteArray) (x : Int) : List F :=
 match l[posF l s]? with
 | some f => if f.t = s.data.toList then l.set (posF l s) ⟨f.name, x⟩ else l.take (posF l s) ++ ⟨s, x⟩ :: l.drop (posF l s)
 | none => l ++ [⟨s, x⟩]
def setL (l : List F) (s : ByteArray) (x : Int) : List F := if isR l && isR (putF l s x) then putF l s x else l
def setB (l : List F) (s : ByteArray) (x : Int) : Bool := isR l && isR (putF l s x)
theorem posF_at {l : List F} {s : ByteArray} (k : Nat) (hk : k ≤ l.length) (h : ∀ j (hj : j < l.length), j < k → bytesLess l[j].t s.data.toList = true) (h2 : ∀ hj : k < l.length, bytesLess l[k].t s.data.toList = false) : posF l s = k := by
 unfold posF
 have e : l = l.take k ++ l.drop k := (List.take_append_drop k l).symm
 rw [e, List.takeWhile_append_of_pos (by
  intro f hf
  obtain ⟨i, hi, rfl⟩ := List.getElem_of_mem hf
  rw [List.getElem_take]
  simp at hi
  exact h i (by omega) (by omega))]
 by_cases hlt : k < l.length
 ·
  have := List.drop_eq_getElem_cons hlt
  rw [this, List.takeWhile_cons, h2 hlt]
  simp
  omega
 ·
  rw [List.drop_of_length_le (by omega)]
  simp
  omega
theorem cellsF_set : ∀ (l : List F) (k : Nat) (h : k < l.length) (x : Int), (cellsF l).set (k * 2 + 1) (.int .i64 x) = cellsF (l.set k ⟨l[k].name, x⟩)
 | f :: l, 0, _, x => rfl
 | f :: l, k + 1, h, x => by
  have := cellsF_set l k (by simpa using h) x
  rw [cellsF_cons, show (k + 1) * 2 + 1 = k * 2 + 1 + 1 + 1 by omega, List.set_cons_succ, List.set_cons_succ, this]
  rfl
theorem reads_prefix {w : World} {B : Nat} {a : Option Addr} {l : List F} (h : Reads w B a (cellsF l)) (k : Nat) : Reads w B a (cellsF (l.take k)) := fun j hj => by
 have e : cellsF l = cellsF (l.take k) ++ cellsF (l.drop k) := by rw [← cellsF_append, List.take_append_drop]
 obtain ⟨ad, e1, hb, hc⟩ := h j (by rw [e, List.length_append]; omega)
 refine ⟨ad, e1, hb, hc.trans ?_⟩
 congr 1
 simp only [e]
 exact List.getElem_append_left hj
theorem reads_suffix {w : World} {B : Nat} {ad : Addr} {l : List F} (h : Reads w B (some ad) (cellsF l)) (k : Nat) : Reads w B (some (ad.add (k * 2))) (cellsF (l.drop k)) := fun j hj => by
 by_cases hk : k ≤ l.length
 ·
  have e : cellsF l = cellsF (l.take k) ++ cellsF (l.drop k) := by rw [← cellsF_append, List.take_append_drop]
  have e2 : (cellsF (l.take k)).length = k * 2 := by rw [cellsF_length, List.length_take, Nat.min_eq_left hk]
  obtain ⟨ad', e1, hb, hc⟩ := h (k * 2 + j) (by rw [e, List.length_append, e2]; omega)
  injection e1 with e1
  subst e1
  refine ⟨_, rfl, by rw [add_block]; exact hb, ?_⟩
  rw [add_add, hc]
  congr 1
  simp only [e]
  rw [List.getElem_append_right (by omega)]
  congr 1
  omega
 ·
  rw [List.drop_of_length_le (by omega)] at hj
  simp [cellsF_nil] at hj
set_option maxHeartbeats 3000000 in
theorem specSetField_any (a : Option Addr) (c : Nat) (l : List F) (s : ByteArray) (x : Int) (hl : l.length < 1099511627776) (hsm : Small l) (hss : s.size ≤ 281474976710656) (w : World) (hr : Reads w w.heap.size a (cellsF l)) (hc : l.length ≤ c) (hz : a = none → c = 0) :
  Calls Try.prog 163 #[.agg #[.slice a l.length c], .string s, .int .i64 x] w (GaveRB w (setL l s x) (setB l s x)) := by
 obtain ⟨i0, hi, hz0, hz1, hz2⟩ := fieldInfo
 have HI := Lib.hid (And.intro hi (And.intro hz0 (And.intro hz1 hz2)))
 have HR := Lib.hid (fun w' (h : Below w.heap.size w w') => hr.below h)
 have HS := Lib.hid (fun w' (h : Below w.heap.size w w') => specIsRecord_any a c l (Nat.le_of_lt hl) hsm w' ((hr.below h).more h.size))
 have HL := Lib.hid (fun w' (h : Below w.heap.size w w') => l5Copy_any a c l (Nat.le_of_lt hl) w' ((hr.below h).more h.size))
 have HSM := Lib.hid (show Small (putF l s x) by
  unfold putF
  split
  ·
   rename_i f hf
   have hfm := List.mem_of_getElem? hf
   split
   ·
    intro g hg
    rcases List.mem_or_eq_of_mem_set hg with h | rfl
    ·
     exact hsm g h
    ·
     exact hsm f hfm
   ·
    intro g hg
    simp only [List.mem_append, List.mem_cons] at hg
    rcases hg with h | rfl | h
    ·
     exact hsm g (List.mem_of_mem_take h)
    ·
     exact hss
    ·
     exact hsm g (List.mem_of_mem_drop h)
  ·
   intro g hg
   simp only [List.mem_append, List.mem_singleton] at hg
   rcases hg with h | rfl
   ·
    exact hsm g h
   ·
    exact hss)
 obtain ⟨n, hn⟩ : ∃ n, n = l.length := ⟨_, rfl⟩
 rw [← hn] at hl HS HL hc ⊢
 have HN := Lib.hid hn
 have hl' : (n : Int) < 1099511627776 := by omega
 have hc' : (n : Int) ≤ (c : Int) := by omega
 clear hn hr hsm
 obtain ⟨br, hbr⟩ : ∃ b, isR l = b := ⟨_, rfl⟩
 rw [hbr] at HS
 have S0 := Sep.start w
 have S1 := push_box S0 31 #[.slice a n c] w.heap.size rfl
 have S2 := push_box S1 31 #[.slice none 0 0] (w.heap.size + 1) (by simp)
 clear S0 S1
 go_enter Try.func163, Try.ntmps163
 go_wp2_with fail
 go_at_call 89
 refine (HL.out _ S2.old).mono ?_
 rintro e w3 ⟨a4, c4, rfl, ho3, hb3⟩
 have S3 := push_own S2 hb3 ho3
 clear hb3 ho3 S2
 obtain ⟨G, hG⟩ : ∃ g, g = w3.heap.size := ⟨_, rfl⟩
 obtain ⟨w4, hw4⟩ : ∃ u, u = w3.alloc (.cells #[.slice a4 n c4] 31) := ⟨_, rfl⟩
 have S4 := push_box S3 31 #[.slice a4 n c4] G hG
 rw [← hw4] at S4
 go_upto_region 2 with fail
 rw [← hw4, ← hG]
 clear hw4 hG S3
 have H4 := Lib.hid S4
 obtain ⟨r0, r1⟩ := Row.one (box_at S4 0 rfl)
 obtain ⟨o0, o1⟩ := Row.one (box_at S4 3 rfl)
 clear S4
 go_wp2
 go_loop [9] (fun i => ∃ k : Nat, k ≤ n ∧ i = .int .i64 k ∧ Hid (∀ j (hj : j < l.length), j < k → bytesLess l[j].t s.data.toList = true)) (fun i => n - (intOf i).toNat)
 case atStart => exact ⟨0, Nat.zero_le _, rfl, fun j hj h => by omega⟩
 case round =>
  obtain ⟨k, hk, rfl, hrel⟩ := hrel
  by_cases hlt : (k : Int) < (n : Int)
  ·
   have hkl : k < l.length := by have := HN.out; omega
   obtain ⟨ad, rfl, had, h1, h2⟩ := readsF (HR.out _ H4.out.old) k hkl
   obtain ⟨t, ht⟩ : ∃ t, t = l[k].name := ⟨_, rfl⟩
   have HKT := Lib.hid (show l[k].t = t.data.toList by unfold F.t; rw [ht])
   rw [← ht] at h1
   obtain ⟨bo, hbo⟩ : ∃ b, bytesLess t.toList s.toList = b := ⟨_, rfl⟩
   have HB := Lib.hid (show bytesLess l[k].t s.data.toList = bo by rw [HKT.out, ← hbo, ByteArray.toList_eq, ByteArray.toList_eq])
   have HT := Lib.hid ht
   clear ht
   cases bo with
   | true =>
    go_wp2_with fail
    go_round
    case rel => exact ⟨k + 1, by omega, by go_num, fun j hj h => by
     by_cases e : j < k
     ·
      exact hrel.out j hj e
     ·
      obtain rfl : j = k := by omega
      exact HB.out⟩
    case measure => simp [intOf]; omega
   | false =>
    have HPO := Lib.hid (posF_at k (by omega) hrel.out (fun _ => HB.out))
    by_cases he : t.data.toList = s.data.toList
    ·
     have heq : (t.toList == s.toList) = true := by rw [ByteArray.toList_eq, ByteArray.toList_eq, he, beq_self_eq_true]
     have HPU := Lib.hid (show putF l s x = l.set k ⟨l[k].name, x⟩ by
      unfold putF
      rw [HPO.out, List.getElem?_eq_getElem hkl]
      simp only [HKT.out, he, if_true])
     have HU := Lib.hid (show (putF l s x).length = n by rw [HPU.out, List.length_set, HN.out])
     rcases (own_at H4.out 2 rfl).form with ⟨_, h9, _⟩ | ⟨g4, rfl, _, _, _⟩
     ·
      omega
     have SX5 := set_own H4.out 2 rfl (k * 2 + 1) (by rw [cellsF_length]; omega) (.int .i64 x)
     have hcx := (own_at H4.out 2 rfl).cell (k * 2 + 1) (by rw [cellsF_length]; omega)
     have hfx := (own_at H4.out 2 rfl).free (k * 2 + 1)
     have HQ := Lib.hid (show Sep w (w4.setCell ⟨g4, k * 2 + 1, none⟩ (.int .i64 x)) [boxR w.heap.size 31 #[.slice (some ad) n c], boxR (w.heap.size + 1) 31 #[.slice none 0 0], boxR G 31 #[.slice (some ⟨g4, 0, none⟩) n c4], ownV 128 2 (some ⟨g4, 0, none⟩) c4 n (cellsF (putF l s x))] from by
      have h9 := sep_pick SX5 [0, 1, 3, 2] rfl (by decide) rfl rfl rfl rfl
      rw [cellsF_set l k hkl x, ← HPU.out] at h9
      exact h9)
     obtain ⟨q0, q1⟩ := Row.one (box_at HQ.out 0 rfl)
     clear SX5
     clear q0 q1 r0 r1 o0 o1
     have r0 := (Row.one (box_at H4.out 0 rfl)).1
     have o0 := (Row.one (box_at H4.out 3 rfl)).1
     go_upto_region 8 with fail
     clear r0 o0 hcx hfx
     have SQ := HQ.out
     obtain ⟨r0, r1⟩ := Row.one (box_at SQ 0 rfl)
     obtain ⟨o0, o1⟩ := Row.one (box_at SQ 2 rfl)
     go_wp2_with fail
     go_at_call 86
     refine (HS.out _ SQ.old).mono ?_
     rintro e w7 ⟨rfl, h7⟩
     have S7 := SQ.keep h7
     clear h7 SQ HQ r0 r1 o0 o1
     obtain ⟨r0, r1⟩ := Row.one (box_at S7 0 rfl)
     obtain ⟨z0, z1⟩ := Row.one (box_at S7 1 rfl)
     obtain ⟨o0, o1⟩ := Row.one (box_at S7 2 rfl)
     cases br with
     | false =>
      have HE := Lib.hid (show setL l s x = l ∧ setB l s x = false by unfold setL setB; rw [hbr]; exact ⟨rfl, rfl⟩)
      go_wp2_with fail
      go_at_call 89
      refine (HL.out _ S7.old).mono ?_
      rintro e w8 ⟨a8, c8, rfl, ho8, hb8⟩
      have S8 := push_own S7 hb8 ho8
      clear hb8 ho8 S7 r0 r1 z0 z1 o0 o1
      obtain ⟨z0, z1⟩ := Row.one (box_at S8 1 rfl)
      have S9 := Lib.hid (put_box5 S8 1 rfl 0 (.slice a8 n c8))
      go_wp2_with fail
      refine bodyPost_ret (v := .tuple #[.agg #[.slice a8 n c8], .bool false]) (by simp [results, Try.results163, go_sem, z0]) rfl ?_
      unfold GaveRB
      rw [HE.out.1, HE.out.2, ← HN.out]
      exact ⟨a8, c8, rfl, own_from S9.out 4 rfl, S9.out.old⟩
     | true =>
      have HO := Lib.hid (specIsRecord_any (some ⟨g4, 0, none⟩) c4 (putF l s x) (by rw [HU.out]; omega) HSM.out w7 (own_at S7 3 rfl).reads)
      rw [HU.out] at HO
      obtain ⟨bo, hbo⟩ : ∃ b, isR (putF l s x) = b := ⟨_, rfl⟩
      rw [hbo] at HO
      go_wp2_with fail
      go_at_call 86
      refine HO.out.mono ?_
      rintro e w8 ⟨rfl, h8⟩
      have S8 := S7.keep h8
      clear h8 S7 r0 r1 z0 z1 o0 o1
      obtain ⟨r0, r1⟩ := Row.one (box_at S8 0 rfl)
      obtain ⟨z0, z1⟩ := Row.one (box_at S8 1 rfl)
      obtain ⟨o0, o1⟩ := Row.one (box_at S8 2 rfl)
      cases bo with
      | false =>
       have HE := Lib.hid (show setL l s x = l ∧ setB l s x = false by unfold setL setB; rw [hbr, hbo]; exact ⟨rfl, rfl⟩)
       go_wp2_with fail
       go_at_call 89
       refine (HL.out _ S8.old).mono ?_
       rintro e w9 ⟨a8, c8, rfl, ho8, hb8⟩
       have S9 := push_own S8 hb8 ho8
       clear hb8 ho8 S8 r0 r1 z0 z1 o0 o1
       obtain ⟨z0, z1⟩ := Row.one (box_at S9 1 rfl)
       have SX := Lib.hid (put_box5 S9 1 rfl 0 (.slice a8 n c8))
       go_wp2_with fail
       refine bodyPost_ret (v := .tuple #[.agg #[.slice a8 n c8], .bool false]) (by simp [results, Try.results163, go_sem, z0]) rfl ?_
       unfold GaveRB
       rw [HE.out.1, HE.out.2, ← HN.out]
       exact ⟨a8, c8, rfl, own_from SX.out 4 rfl, SX.out.old⟩
      | true =>
       have HE := Lib.hid (show setL l s x = putF l s x ∧ setB l s x = true by unfold setL setB; rw [hbr, hbo]; exact ⟨rfl, rfl⟩)
       have SX := Lib.hid (put_box5 S8 1 rfl 0 (.slice (some ⟨g4, 0, none⟩) n c4))
       go_wp2_with fail
       refine bodyPost_ret (v := .tuple #[.agg #[.slice (some ⟨g4, 0, none⟩) n c4], .bool true]) (by simp [results, Try.results163, go_sem, z0]) rfl ?_
       unfold GaveRB
       rw [HE.out.1, HE.out.2, HU.out]
       exact ⟨some ⟨g4, 0, none⟩, c4, rfl, own_from SX.out 3 rfl, SX.out.old⟩
    ·
     have heq : (t.toList == s.toList) = false := by rw [ByteArray.toList_eq, ByteArray.toList_eq, beq_eq_false_iff_ne]; exact he
     have HPU := Lib.hid (show putF l s x = l.take k ++ ⟨s, x⟩ :: l.drop k by
      unfold putF
      rw [HPO.out, List.getElem?_eq_getElem hkl]
      simp only [HKT.out, he, if_false])
     have HU := Lib.hid (show (putF l s x).length = n + 1 by rw [HPU.out, List.length_append, List.length_cons, List.length_take, List.length_drop, ← HN.out]; omega)
     have HXS := Lib.hid (show cellsF (putF l s x) = cellsF (l.take k) ++ cellsF [⟨s, x⟩] ++ cellsF (l.drop k) by rw [HPU.out, cellsF_append, cellsF_cons, List.append_assoc]; rfl)
     have HK := Lib.hid (show (cellsF (l.take k)).length = k * 2 ∧ (cellsF (l.drop k)).length = (n - k) * 2 ∧ k + 1 + (n - k) = n + 1 by
      have e := HN.out
      refine ⟨by rw [cellsF_length, List.length_take, ← e, Nat.min_eq_left (by omega)], by rw [cellsF_length, List.length_drop, ← e], by omega⟩)
     have HRd := Lib.hid (fun w' (h : Below w.heap.size w w') (q : Nat) => reads_prefix (HR.out w' h) q)
     obtain ⟨m, hmn⟩ : ∃ m, m = n + 1 := ⟨_, rfl⟩
     rw [← hmn] at HU HK
     have hm' : (m : Int) ≤ 1099511627776 := by omega
     clear hmn
     have hck : ¬ c = k := by omega
     have hkc : k ≤ c := by omega
     have HRt := Lib.hid (show ∀ w' ad2, some ad = some ad2 → Below w.heap.size w w' → Reads w' w.heap.size (some (ad2.add (k * 2))) (cellsF (l.drop k)) from fun w' ad2 ha h => reads_suffix (by rw [← ha]; exact HR.out w' h) k)
     go_upto_region 7 with fail
     go_cut [9] (fun y wx => y = .int .i64 k ∧ ∃ A C, Hid (Sep w wx [boxR w.heap.size 31 #[.slice (some ad) n c], boxR (w.heap.size + 1) 31 #[.slice none 0 0], boxR G 31 #[.slice A m C], ownV 128 2 A C m (cellsF (putF l s x))]))
     case first =>
      refine wp_region_held_drew (S := fun w' => w'.cell? ⟨w.heap.size, 0, none⟩ = some (.slice (some ad) n c)) (by kernel_rfl) r0 (fun hS => ?_)
      have S6 : Sep w w4.drew _ := H4.out.drews 1
      clear r0 r1 o0 o1
      generalize w4.drew = wd at hS S6 ⊢
      refine tk 1 rfl ?_
      try simp only [zp0, zp1, zp2, zp3, zp4]
      refine tk 2 rfl ?_
      try simp only [zp0, zp1, zp2, zp3, zp4]
      refine tk 3 rfl ?_
      try simp only [zp0, zp1, zp2, zp3, zp4]
      refine tk 4 rfl ?_
      try simp only [zp0, zp1, zp2, zp3, zp4]
      refine tk 6 rfl ?_
      try simp only [zp0, zp1, zp2, zp3, zp4]
      refine tk 7 rfl ?_
      try simp only [zp0, zp1, zp2, zp3, zp4]
      refine tk 8 rfl ?_
      try simp only [zp0, zp1, zp2, zp3, zp4]
      refine tk 11 rfl ?_
      try simp only [zp0, zp1, zp2, zp3, zp4]
      refine tk 12 rfl ?_
      try simp only [zp0, zp1, zp2, zp3, zp4]
      refine tk 13 rfl ?_
      try simp only [zp0, zp1, zp2, zp3, zp4]
      refine tk 14 rfl ?_
      try simp only [zp0, zp1, zp2, zp3, zp4]
      refine wpAnyH_ready (rs := [0, 9]) (by kernel_rfl) (by simp) ?_
      refine Reg.cons_op (i := 0) rfl (fun K hK => ?_) ?_
      ·
       have S1y := push_own S6 ((Below.refl _ _).alloc (Nat.le_refl _) _) (OwnV.emptyAt wd 128 2 wd.heap.size rfl (Nat.le_refl _))
       go_simp
       refine hK.out _ _ (Row.one (box_at S1y 0 rfl)).1 (fun hS => ?_)
       clear hK K
       try simp only [zp0, zp1, zp2, zp3, zp4]
       obtain ⟨b1, hb1⟩ : ∃ b, b = wd.heap.size := ⟨_, rfl⟩
       rw [← hb1] at S1y ⊢
       generalize wd.alloc (.cells #[] 128) = w1y at hS S1y ⊢
       clear hb1
       refine wpAnyH_ready (rs := [5, 9]) (by kernel_rfl) (by simp) ?_
       refine Reg.cons_op (i := 5) rfl (fun K hK => ?_) ?_
       ·
        refine step_append_s S1y 4 rfl rfl _ _ 29 (by rfl) i0 (.agg #[.string ⟨#[]⟩, .int .i64 0]) 24 Try.underlying29 HI.out.1 HI.out.2.1 HI.out.2.2.1 HI.out.2.2.2 rfl (by omega) _ (by rfl) rfl _ _ k _ _ (cellsF (l.take k)) (by rfl) rfl (HRd.out _ S1y.old k) HK.out.1 (cellsF_one _) (by unfold maxLen; omega) (by omega) ?_
        intro a2y c2y w2y S2y
        try simp only [List.set_cons_zero, List.set_cons_succ, List.set_nil, List.append_nil, List.nil_append, List.cons_append] at S2y
        simp only [Nat.zero_add] at S2y ⊢
        refine hK.out _ _ (Row.one (box_at S2y 0 rfl)).1 (fun hS => ?_)
        clear hK K
        try simp only [zp0, zp1, zp2, zp3, zp4]
        refine wpAnyH_ready (rs := [9]) (by kernel_rfl) (by simp) ?_
        refine Reg.cons_op (i := 9) rfl (fun K hK => ?_) ?_
        ·
         have S3y := push_own S2y ((Below.refl _ _).alloc (Nat.le_refl _) _) (OwnV.madeAt w2y 128 2 1 w2y.heap.size #[.string s, .int .i64 x] rfl (Nat.le_refl _) rfl (by decide))
         go_simp
         refine hK.out _ _ (Row.one (box_at S3y 0 rfl)).1 (fun hS => ?_)
         clear hK K
         try simp only [zp0, zp1, zp2, zp3, zp4]
         obtain ⟨b3, hb3⟩ : ∃ b, b = w2y.heap.size := ⟨_, rfl⟩
         rw [← hb3] at S3y ⊢
         generalize w2y.alloc (.cells #[.string s, .int .i64 x] 128) = w3y at hS S3y ⊢
         clear hb3
         refine wpAnyH_ready (rs := [10]) (by kernel_rfl) (by simp) ?_
         refine Reg.cons_op (i := 10) rfl (fun K hK => ?_) ?_
         ·
          refine step_append_s S3y 4 rfl rfl _ _ 29 (by rfl) i0 (.agg #[.string ⟨#[]⟩, .int .i64 0]) 24 Try.underlying29 HI.out.1 HI.out.2.1 HI.out.2.2.1 HI.out.2.2.2 rfl (by omega) _ (by rfl) (by omega) _ _ 1 _ _ (cellsF [⟨s, x⟩]) (by rfl) rfl (own_at S3y 5 rfl).reads rfl (cellsF_one _) (by unfold maxLen; omega) (by omega) ?_
          intro a4y c4y w4y S4y
          try simp only [List.set_cons_zero, List.set_cons_succ, List.set_nil, List.append_nil, List.nil_append, List.cons_append] at S4y
          refine hK.out _ _ (Row.one (box_at S4y 0 rfl)).1 (fun hS => ?_)
          clear hK K
          try simp only [zp0, zp1, zp2, zp3, zp4]
          refine wpAnyH_ready (rs := [15]) (by kernel_rfl) (by simp) ?_
          refine Reg.cons_op (i := 15) rfl (fun K hK => ?_) ?_
          ·
           refine step_append_s S4y 4 rfl rfl _ _ 29 (by rfl) i0 (.agg #[.string ⟨#[]⟩, .int .i64 0]) 24 Try.underlying29 HI.out.1 HI.out.2.1 HI.out.2.2.1 HI.out.2.2.2 rfl (by omega) _ (by rfl) (by omega) _ _ (n - k) _ _ (cellsF (l.drop k)) (by rfl) rfl (HRt.out _ _ rfl S4y.old) HK.out.2.1 (cellsF_one _) (by unfold maxLen; omega) (by omega) ?_
           intro a5y c5y w5y S5y
           try simp only [List.set_cons_zero, List.set_cons_succ, List.set_nil, List.append_nil, List.nil_append, List.cons_append] at S5y
           refine hK.out _ _ (Row.one (box_at S5y 0 rfl)).1 (fun hS => ?_)
           clear hK K
           try simp only [zp0, zp1, zp2, zp3, zp4]
           refine tk 16 rfl ?_
           try simp only [zp0, zp1, zp2, zp3, zp4]
           refine wpAnyH_ready (rs := [17]) (by kernel_rfl) (by simp) ?_
           refine Reg.cons_op (i := 17) rfl (fun K hK => ?_) ?_
           ·
            have S6y := put_box5 S5y 3 rfl 0 (.slice a5y (k + 1 + (n - k)) c5y)
            obtain ⟨g0, g1⟩ := Row.one (box_at S5y 3 rfl)
            go_simp
            refine hK.out _ _ (Row.one (box_at S6y 0 rfl)).1 (fun hS => ?_)
            clear hK K
            try simp only [zp0, zp1, zp2, zp3, zp4]
            clear g0 g1
            refine wpAnyH_done (by kernel_rfl) ?_ _
            go_wp2_with fail
            go_meet
            case rel => exact ⟨rfl, a5y, c5y, by have h9 := sep_pick S6y [0, 1, 3, 4] rfl (by decide) rfl rfl rfl rfl; rw [HK.out.2.2] at h9; (try rw [HK.out.2.2]); rw [HXS.out]; exact h9⟩
           exact AllReadyH.nil
          exact AllReadyH.nil
         exact AllReadyH.nil
        exact AllReadyH.nil
       refine Reg.cons_op (i := 9) rfl (fun K hK => ?_) ?_
       ·
        have S7y := push_own S1y ((Below.refl _ _).alloc (Nat.le_refl _) _) (OwnV.madeAt w1y 128 2 1 w1y.heap.size #[.string s, .int .i64 x] rfl (Nat.le_refl _) rfl (by decide))
        go_simp
        refine hK.out _ _ (Row.one (box_at S7y 0 rfl)).1 (fun hS => ?_)
        clear hK K
        try simp only [zp0, zp1, zp2, zp3, zp4]
        obtain ⟨b7, hb7⟩ : ∃ b, b = w1y.heap.size := ⟨_, rfl⟩
        rw [← hb7] at S7y ⊢
        generalize w1y.alloc (.cells #[.string s, .int .i64 x] 128) = w7y at hS S7y ⊢
        clear hb7
        refine wpAnyH_ready (rs := [5]) (by kernel_rfl) (by simp) ?_
        refine Reg.cons_op (i := 5) rfl (fun K hK => ?_) ?_
        ·
         refine step_append_s S7y 4 rfl rfl _ _ 29 (by rfl) i0 (.agg #[.string ⟨#[]⟩, .int .i64 0]) 24 Try.underlying29 HI.out.1 HI.out.2.1 HI.out.2.2.1 HI.out.2.2.2 rfl (by omega) _ (by rfl) rfl _ _ k _ _ (cellsF (l.take k)) (by rfl) rfl (HRd.out _ S7y.old k) HK.out.1 (cellsF_one _) (by unfold maxLen; omega) (by omega) ?_
         intro a8y c8y w8y S8y
         try simp only [List.set_cons_zero, List.set_cons_succ, List.set_nil, List.append_nil, List.nil_append, List.cons_append] at S8y
         simp only [Nat.zero_add] at S8y ⊢
         refine hK.out _ _ (Row.one (box_at S8y 0 rfl)).1 (fun hS => ?_)
         clear hK K
         try simp only [zp0, zp1, zp2, zp3, zp4]
         refine wpAnyH_ready (rs := [10]) (by kernel_rfl) (by simp) ?_
         refine Reg.cons_op (i := 10) rfl (fun K hK => ?_) ?_
         ·
          refine step_append_s S8y 4 rfl rfl _ _ 29 (by rfl) i0 (.agg #[.string ⟨#[]⟩, .int .i64 0]) 24 Try.underlying29 HI.out.1 HI.out.2.1 HI.out.2.2.1 HI.out.2.2.2 rfl (by omega) _ (by rfl) (by omega) _ _ 1 _ _ (cellsF [⟨s, x⟩]) (by rfl) rfl (own_at S8y 5 rfl).reads rfl (cellsF_one _) (by unfold maxLen; omega) (by omega) ?_
          intro a9y c9y w9y S9y
          try simp only [List.set_cons_zero, List.set_cons_succ, List.set_nil, List.append_nil, List.nil_append, List.cons_append] at S9y
          refine hK.out _ _ (Row.one (box_at S9y 0 rfl)).1 (fun hS => ?_)
          clear hK K
          try simp only [zp0, zp1, zp2, zp3, zp4]
          refine wpAnyH_ready (rs := [15]) (by kernel_rfl) (by simp) ?_
          refine Reg.cons_op (i := 15) rfl (fun K hK => ?_) ?_
          ·
           refine step_append_s S9y 4 rfl rfl _ _ 29 (by rfl) i0 (.agg #[.string ⟨#[]⟩, .int .i64 0]) 24 Try.underlying29 HI.out.1 HI.out.2.1 HI.out.2.2.1 HI.out.2.2.2 rfl (by omega) _ (by rfl) (by omega) _ _ (n - k) _ _ (cellsF (l.drop k)) (by rfl) rfl (HRt.out _ _ rfl S9y.old) HK.out.2.1 (cellsF_one _) (by unfold maxLen; omega) (by omega) ?_
           intro a10y c10y w10y S10y
           try simp only [List.set_cons_zero, List.set_cons_succ, List.set_nil, List.append_nil, List.nil_append, List.cons_append] at S10y
           refine hK.out _ _ (Row.one (box_at S10y 0 rfl)).1 (fun hS => ?_)
           clear hK K
           try simp only [zp0, zp1, zp2, zp3, zp4]
           refine tk 16 rfl ?_
           try simp only [zp0, zp1, zp2, zp3, zp4]
           refine wpAnyH_ready (rs := [17]) (by kernel_rfl) (by simp) ?_
           refine Reg.cons_op (i := 17) rfl (fun K hK => ?_) ?_
           ·
            have S11y := put_box5 S10y 3 rfl 0 (.slice a10y (k + 1 + (n - k)) c10y)
            obtain ⟨g0, g1⟩ := Row.one (box_at S10y 3 rfl)
            go_simp
            refine hK.out _ _ (Row.one (box_at S11y 0 rfl)).1 (fun hS => ?_)
            clear hK K
            try simp only [zp0, zp1, zp2, zp3, zp4]
            clear g0 g1
            refine wpAnyH_done (by kernel_rfl) ?_ _
            go_wp2_with fail
            go_meet
            case rel => exact ⟨rfl, a10y, c10y, by have h9 := sep_pick S11y [0, 1, 3, 4] rfl (by decide) rfl rfl rfl rfl; rw [HK.out.2.2] at h9; (try rw [HK.out.2.2]); rw [HXS.out]; exact h9⟩
           exact AllReadyH.nil
          exact AllReadyH.nil
         exact AllReadyH.nil
        exact AllReadyH.nil
       exact AllReadyH.nil
      refine Reg.cons_op (i := 9) rfl (fun K hK => ?_) ?_
      ·
       have S12y := push_own S6 ((Below.refl _ _).alloc (Nat.le_refl _) _) (OwnV.madeAt wd 128 2 1 wd.heap.size #[.string s, .int .i64 x] rfl (Nat.le_refl _) rfl (by decide))
       go_simp
       refine hK.out _ _ (Row.one (box_at S12y 0 rfl)).1 (fun hS => ?_)
       clear hK K
       try simp only [zp0, zp1, zp2, zp3, zp4]
       obtain ⟨b12, hb12⟩ : ∃ b, b = wd.heap.size := ⟨_, rfl⟩
       rw [← hb12] at S12y ⊢
       generalize wd.alloc (.cells #[.string s, .int .i64 x] 128) = w12y at hS S12y ⊢
       clear hb12
       refine wpAnyH_ready (rs := [0]) (by kernel_rfl) (by simp) ?_
       refine Reg.cons_op (i := 0) rfl (fun K hK => ?_) ?_
       ·
        have S13y := push_own S12y ((Below.refl _ _).alloc (Nat.le_refl _) _) (OwnV.emptyAt w12y 128 2 w12y.heap.size rfl (Nat.le_refl _))
        go_simp
        refine hK.out _ _ (Row.one (box_at S13y 0 rfl)).1 (fun hS => ?_)
        clear hK K
        try simp only [zp0, zp1, zp2, zp3, zp4]
        obtain ⟨b13, hb13⟩ : ∃ b, b = w12y.heap.size := ⟨_, rfl⟩
        rw [← hb13] at S13y ⊢
        generalize w12y.alloc (.cells #[] 128) = w13y at hS S13y ⊢
        clear hb13
        refine wpAnyH_ready (rs := [5]) (by kernel_rfl) (by simp) ?_
        refine Reg.cons_op (i := 5) rfl (fun K hK => ?_) ?_
        ·
         refine step_append_s S13y 5 rfl rfl _ _ 29 (by rfl) i0 (.agg #[.string ⟨#[]⟩, .int .i64 0]) 24 Try.underlying29 HI.out.1 HI.out.2.1 HI.out.2.2.1 HI.out.2.2.2 rfl (by omega) _ (by rfl) rfl _ _ k _ _ (cellsF (l.take k)) (by rfl) rfl (HRd.out _ S13y.old k) HK.out.1 (cellsF_one _) (by unfold maxLen; omega) (by omega) ?_
         intro a14y c14y w14y S14y
         try simp only [List.set_cons_zero, List.set_cons_succ, List.set_nil, List.append_nil, List.nil_append, List.cons_append] at S14y
         simp only [Nat.zero_add] at S14y ⊢
         refine hK.out _ _ (Row.one (box_at S14y 0 rfl)).1 (fun hS => ?_)
         clear hK K
         try simp only [zp0, zp1, zp2, zp3, zp4]
         refine wpAnyH_ready (rs := [10]) (by kernel_rfl) (by simp) ?_
         refine Reg.cons_op (i := 10) rfl (fun K hK => ?_) ?_
         ·
          refine step_append_s S14y 5 rfl rfl _ _ 29 (by rfl) i0 (.agg #[.string ⟨#[]⟩, .int .i64 0]) 24 Try.underlying29 HI.out.1 HI.out.2.1 HI.out.2.2.1 HI.out.2.2.2 rfl (by omega) _ (by rfl) (by omega) _ _ 1 _ _ (cellsF [⟨s, x⟩]) (by rfl) rfl (own_at S14y 4 rfl).reads rfl (cellsF_one _) (by unfold maxLen; omega) (by omega) ?_
          intro a15y c15y w15y S15y
          try simp only [List.set_cons_zero, List.set_cons_succ, List.set_nil, List.append_nil, List.nil_append, List.cons_append] at S15y
          refine hK.out _ _ (Row.one (box_at S15y 0 rfl)).1 (fun hS => ?_)
          clear hK K
          try simp only [zp0, zp1, zp2, zp3, zp4]
          refine wpAnyH_ready (rs := [15]) (by kernel_rfl) (by simp) ?_
          refine Reg.cons_op (i := 15) rfl (fun K hK => ?_) ?_
          ·
           refine step_append_s S15y 5 rfl rfl _ _ 29 (by rfl) i0 (.agg #[.string ⟨#[]⟩, .int .i64 0]) 24 Try.underlying29 HI.out.1 HI.out.2.1 HI.out.2.2.1 HI.out.2.2.2 rfl (by omega) _ (by rfl) (by omega) _ _ (n - k) _ _ (cellsF (l.drop k)) (by rfl) rfl (HRt.out _ _ rfl S15y.old) HK.out.2.1 (cellsF_one _) (by unfold maxLen; omega) (by omega) ?_
           intro a16y c16y w16y S16y
           try simp only [List.set_cons_zero, List.set_cons_succ, List.set_nil, List.append_nil, List.nil_append, List.cons_append] at S16y
           refine hK.out _ _ (Row.one (box_at S16y 0 rfl)).1 (fun hS => ?_)
           clear hK K
           try simp only [zp0, zp1, zp2, zp3, zp4]
           refine tk 16 rfl ?_
           try simp only [zp0, zp1, zp2, zp3, zp4]
           refine wpAnyH_ready (rs := [17]) (by kernel_rfl) (by simp) ?_
           refine Reg.cons_op (i := 17) rfl (fun K hK => ?_) ?_
           ·
            have S17y := put_box5 S16y 3 rfl 0 (.slice a16y (k + 1 + (n - k)) c16y)
            obtain ⟨g0, g1⟩ := Row.one (box_at S16y 3 rfl)
            go_simp
            refine hK.out _ _ (Row.one (box_at S17y 0 rfl)).1 (fun hS => ?_)
            clear hK K
            try simp only [zp0, zp1, zp2, zp3, zp4]
            clear g0 g1
            refine wpAnyH_done (by kernel_rfl) ?_ _
            go_wp2_with fail
            go_meet
            case rel => exact ⟨rfl, a16y, c16y, by have h9 := sep_pick S17y [0, 1, 3, 5] rfl (by decide) rfl rfl rfl rfl; rw [HK.out.2.2] at h9; (try rw [HK.out.2.2]); rw [HXS.out]; exact h9⟩
           exact AllReadyH.nil
          exact AllReadyH.nil
         exact AllReadyH.nil
        exact AllReadyH.nil
       exact AllReadyH.nil
      exact AllReadyH.nil
     case rest =>
      obtain ⟨rfl, A, C, HQ⟩ := hcut
      clear r0 r1 o0 o1
      have SQ := HQ.out
      obtain ⟨r0, r1⟩ := Row.one (box_at SQ 0 rfl)
      obtain ⟨o0, o1⟩ := Row.one (box_at SQ 2 rfl)
      go_wp2_with fail
      go_at_call 86
      refine (HS.out _ SQ.old).mono ?_
      rintro e w7 ⟨rfl, h7⟩
      have S7 := SQ.keep h7
      clear h7 SQ HQ r0 r1 o0 o1
      obtain ⟨r0, r1⟩ := Row.one (box_at S7 0 rfl)
      obtain ⟨z0, z1⟩ := Row.one (box_at S7 1 rfl)
      obtain ⟨o0, o1⟩ := Row.one (box_at S7 2 rfl)
      cases br with
      | false =>
       have HE := Lib.hid (show setL l s x = l ∧ setB l s x = false by unfold setL setB; rw [hbr]; exact ⟨rfl, rfl⟩)
       go_wp2_with fail
       go_at_call 89
       refine (HL.out _ S7.old).mono ?_
       rintro e w8 ⟨a8, c8, rfl, ho8, hb8⟩
       have S8 := push_own S7 hb8 ho8
       clear hb8 ho8 S7 r0 r1 z0 z1 o0 o1
       obtain ⟨z0, z1⟩ := Row.one (box_at S8 1 rfl)
       have S9 := Lib.hid (put_box5 S8 1 rfl 0 (.slice a8 n c8))
       go_wp2_with fail
       refine bodyPost_ret (v := .tuple #[.agg #[.slice a8 n c8], .bool false]) (by simp [results, Try.results163, go_sem, z0]) rfl ?_
       unfold GaveRB
       rw [HE.out.1, HE.out.2, ← HN.out]
       exact ⟨a8, c8, rfl, own_from S9.out 4 rfl, S9.out.old⟩
      | true =>
       have HO := Lib.hid (specIsRecord_any A C (putF l s x) (by rw [HU.out]; omega) HSM.out w7 (own_at S7 3 rfl).reads)
       rw [HU.out] at HO
       obtain ⟨bo, hbo⟩ : ∃ b, isR (putF l s x) = b := ⟨_, rfl⟩
       rw [hbo] at HO
       go_wp2_with fail
       go_at_call 86
       refine HO.out.mono ?_
       rintro e w8 ⟨rfl, h8⟩
       have S8 := S7.keep h8
       clear h8 S7 r0 r1 z0 z1 o0 o1
       obtain ⟨r0, r1⟩ := Row.one (box_at S8 0 rfl)
       obtain ⟨z0, z1⟩ := Row.one (box_at S8 1 rfl)
       obtain ⟨o0, o1⟩ := Row.one (box_at S8 2 rfl)
       cases bo with
       | false =>
        have HE := Lib.hid (show setL l s x = l ∧ setB l s x = false by unfold setL setB; rw [hbr, hbo]; exact ⟨rfl, rfl⟩)
        go_wp2_with fail
        go_at_call 89
        refine (HL.out _ S8.old).mono ?_
        rintro e w9 ⟨a8, c8, rfl, ho8, hb8⟩
        have S9 := push_own S8 hb8 ho8
        clear hb8 ho8 S8 r0 r1 z0 z1 o0 o1
        obtain ⟨z0, z1⟩ := Row.one (box_at S9 1 rfl)
        have SX := Lib.hid (put_box5 S9 1 rfl 0 (.slice a8 n c8))
        go_wp2_with fail
        refine bodyPost_ret (v := .tuple #[.agg #[.slice a8 n c8], .bool false]) (by simp [results, Try.results163, go_sem, z0]) rfl ?_
        unfold GaveRB
        rw [HE.out.1, HE.out.2, ← HN.out]
        exact ⟨a8, c8, rfl, own_from SX.out 4 rfl, SX.out.old⟩
       | true =>
        have HE := Lib.hid (show setL l s x = putF l s x ∧ setB l s x = true by unfold setL setB; rw [hbr, hbo]; exact ⟨rfl, rfl⟩)
        have SX := Lib.hid (put_box5 S8 1 rfl 0 (.slice A m C))
        go_wp2_with fail
        refine bodyPost_ret (v := .tuple #[.agg #[.slice A m C], .bool true]) (by simp [results, Try.results163, go_sem, z0]) rfl ?_
        unfold GaveRB
        rw [HE.out.1, HE.out.2, HU.out]
        exact ⟨A, C, rfl, own_from SX.out 3 rfl, SX.out.old⟩
  ·
   have HKN := Lib.hid (show n ≤ k by omega)
   have HPO := Lib.hid (posF_at k (by rw [← HN.out]; exact hk) hrel.out (fun hj => by have := HN.out; have := HKN.out; omega))
   have HPU := Lib.hid (show putF l s x = l.take k ++ ⟨s, x⟩ :: l.drop k by
    unfold putF
    rw [HPO.out, List.getElem?_eq_none (by rw [← HN.out]; exact HKN.out), List.take_of_length_le (by rw [← HN.out]; exact HKN.out), List.drop_of_length_le (by rw [← HN.out]; exact HKN.out)])
   have HU := Lib.hid (show (putF l s x).length = n + 1 by rw [HPU.out, List.length_append, List.length_cons, List.length_take, List.length_drop, ← HN.out]; omega)
   have HXS := Lib.hid (show cellsF (putF l s x) = cellsF (l.take k) ++ cellsF [⟨s, x⟩] ++ cellsF (l.drop k) by rw [HPU.out, cellsF_append, cellsF_cons, List.append_assoc]; rfl)
   have HK := Lib.hid (show (cellsF (l.take k)).length = k * 2 ∧ (cellsF (l.drop k)).length = (n - k) * 2 ∧ k + 1 + (n - k) = n + 1 by
    have e := HN.out
    refine ⟨by rw [cellsF_length, List.length_take, ← e, Nat.min_eq_left (by omega)], by rw [cellsF_length, List.length_drop, ← e], by omega⟩)
   have HRd := Lib.hid (fun w' (h : Below w.heap.size w w') (q : Nat) => reads_prefix (HR.out w' h) q)
   obtain ⟨m, hmn⟩ : ∃ m, m = n + 1 := ⟨_, rfl⟩
   rw [← hmn] at HU HK
   have hm' : (m : Int) ≤ 1099511627776 := by omega
   clear hmn
   by_cases hck : c = k
   ·
    have HRt := Lib.hid (show ∀ w' (A : Option Addr), Below w.heap.size w w' → Reads w' w.heap.size A (cellsF (l.drop k)) from fun w' A h => by rw [List.drop_of_length_le (by have := HN.out; omega), cellsF_nil]; exact Reads.nil)
    have HK1 := Lib.hid (show k + 1 = m by have := HK.out.2.2; have := HKN.out; omega)
    obtain rfl : k = c := hck.symm
    go_upto_region 7 with fail
    go_cut [9] (fun y wx => y = .int .i64 k ∧ ∃ A C, Hid (Sep w wx [boxR w.heap.size 31 #[.slice a n k], boxR (w.heap.size + 1) 31 #[.slice none 0 0], boxR G 31 #[.slice A m C], ownV 128 2 A C m (cellsF (putF l s x))]))
    case first =>
     refine wp_region_held_drew (S := fun w' => w'.cell? ⟨w.heap.size, 0, none⟩ = some (.slice a n k)) (by kernel_rfl) r0 (fun hS => ?_)
     have S6 : Sep w w4.drew _ := H4.out.drews 1
     clear r0 r1 o0 o1
     generalize w4.drew = wd at hS S6 ⊢
     refine tk 1 rfl ?_
     try simp only [zp0, zp1, zp2, zp3, zp4]
     refine tk 2 rfl ?_
     try simp only [zp0, zp1, zp2, zp3, zp4]
     refine tk 3 rfl ?_
     try simp only [zp0, zp1, zp2, zp3, zp4]
     refine tk 4 rfl ?_
     try simp only [zp0, zp1, zp2, zp3, zp4]
     refine tk 6 rfl ?_
     try simp only [zp0, zp1, zp2, zp3, zp4]
     refine tk 7 rfl ?_
     try simp only [zp0, zp1, zp2, zp3, zp4]
     refine tk 8 rfl ?_
     try simp only [zp0, zp1, zp2, zp3, zp4]
     refine tk 11 rfl ?_
     try simp only [zp0, zp1, zp2, zp3, zp4]
     refine tk 12 rfl ?_
     try simp only [zp0, zp1, zp2, zp3, zp4]
     refine tk 13 rfl ?_
     try simp only [zp0, zp1, zp2, zp3, zp4]
     refine tk 14 rfl ?_
     try simp only [zp0, zp1, zp2, zp3, zp4]
     refine wpAnyH_ready (rs := [0, 9]) (by kernel_rfl) (by simp) ?_
     refine Reg.cons_op (i := 0) rfl (fun K hK => ?_) ?_
     ·
      have S18y := push_own S6 ((Below.refl _ _).alloc (Nat.le_refl _) _) (OwnV.emptyAt wd 128 2 wd.heap.size rfl (Nat.le_refl _))
      go_simp
      refine hK.out _ _ (Row.one (box_at S18y 0 rfl)).1 (fun hS => ?_)
      clear hK K
      try simp only [zp0, zp1, zp2, zp3, zp4]
      obtain ⟨b18, hb18⟩ : ∃ b, b = wd.heap.size := ⟨_, rfl⟩
      rw [← hb18] at S18y ⊢
      generalize wd.alloc (.cells #[] 128) = w18y at hS S18y ⊢
      clear hb18
      refine wpAnyH_ready (rs := [5, 9]) (by kernel_rfl) (by simp) ?_
      refine Reg.cons_op (i := 5) rfl (fun K hK => ?_) ?_
      ·
       refine step_append_s S18y 4 rfl rfl _ _ 29 (by rfl) i0 (.agg #[.string ⟨#[]⟩, .int .i64 0]) 24 Try.underlying29 HI.out.1 HI.out.2.1 HI.out.2.2.1 HI.out.2.2.2 rfl (by omega) _ (by rfl) rfl _ _ k _ _ (cellsF (l.take k)) (by rfl) rfl (HRd.out _ S18y.old k) HK.out.1 (cellsF_one _) (by unfold maxLen; omega) (by omega) ?_
       intro a19y c19y w19y S19y
       try simp only [List.set_cons_zero, List.set_cons_succ, List.set_nil, List.append_nil, List.nil_append, List.cons_append] at S19y
       simp only [Nat.zero_add] at S19y ⊢
       refine hK.out _ _ (Row.one (box_at S19y 0 rfl)).1 (fun hS => ?_)
       clear hK K
       try simp only [zp0, zp1, zp2, zp3, zp4]
       refine wpAnyH_ready (rs := [9]) (by kernel_rfl) (by simp) ?_
       refine Reg.cons_op (i := 9) rfl (fun K hK => ?_) ?_
       ·
        have S20y := push_own S19y ((Below.refl _ _).alloc (Nat.le_refl _) _) (OwnV.madeAt w19y 128 2 1 w19y.heap.size #[.string s, .int .i64 x] rfl (Nat.le_refl _) rfl (by decide))
        go_simp
        refine hK.out _ _ (Row.one (box_at S20y 0 rfl)).1 (fun hS => ?_)
        clear hK K
        try simp only [zp0, zp1, zp2, zp3, zp4]
        obtain ⟨b20, hb20⟩ : ∃ b, b = w19y.heap.size := ⟨_, rfl⟩
        rw [← hb20] at S20y ⊢
        generalize w19y.alloc (.cells #[.string s, .int .i64 x] 128) = w20y at hS S20y ⊢
        clear hb20
        refine wpAnyH_ready (rs := [10]) (by kernel_rfl) (by simp) ?_
        refine Reg.cons_op (i := 10) rfl (fun K hK => ?_) ?_
        ·
         refine step_append_s S20y 4 rfl rfl _ _ 29 (by rfl) i0 (.agg #[.string ⟨#[]⟩, .int .i64 0]) 24 Try.underlying29 HI.out.1 HI.out.2.1 HI.out.2.2.1 HI.out.2.2.2 rfl (by omega) _ (by rfl) (by omega) _ _ 1 _ _ (cellsF [⟨s, x⟩]) (by rfl) rfl (own_at S20y 5 rfl).reads rfl (cellsF_one _) (by unfold maxLen; omega) (by omega) ?_
         intro a21y c21y w21y S21y
         try simp only [List.set_cons_zero, List.set_cons_succ, List.set_nil, List.append_nil, List.nil_append, List.cons_append] at S21y
         refine hK.out _ _ (Row.one (box_at S21y 0 rfl)).1 (fun hS => ?_)
         clear hK K
         try simp only [zp0, zp1, zp2, zp3, zp4]
         refine wpAnyH_ready (rs := [15]) (by kernel_rfl) (by simp) ?_
         refine Reg.cons_op (i := 15) rfl (fun K hK => ?_) ?_
         ·
          refine step_append_s S21y 4 rfl rfl _ _ 29 (by rfl) i0 (.agg #[.string ⟨#[]⟩, .int .i64 0]) 24 Try.underlying29 HI.out.1 HI.out.2.1 HI.out.2.2.1 HI.out.2.2.2 rfl (by omega) _ (by rfl) (by omega) _ _ (n - k) _ _ (cellsF (l.drop k)) (by rfl) (by omega) (HRt.out _ _ S21y.old) HK.out.2.1 (cellsF_one _) (by unfold maxLen; omega) (by omega) ?_
          intro a22y c22y w22y S22y
          try simp only [List.set_cons_zero, List.set_cons_succ, List.set_nil, List.append_nil, List.nil_append, List.cons_append] at S22y
          refine hK.out _ _ (Row.one (box_at S22y 0 rfl)).1 (fun hS => ?_)
          clear hK K
          try simp only [zp0, zp1, zp2, zp3, zp4]
          refine tk 16 rfl ?_
          try simp only [zp0, zp1, zp2, zp3, zp4]
          refine wpAnyH_ready (rs := [17]) (by kernel_rfl) (by simp) ?_
          refine Reg.cons_op (i := 17) rfl (fun K hK => ?_) ?_
          ·
           have S23y := put_box5 S22y 3 rfl 0 (.slice a22y (k + 1) c22y)
           obtain ⟨g0, g1⟩ := Row.one (box_at S22y 3 rfl)
           go_simp
           refine hK.out _ _ (Row.one (box_at S23y 0 rfl)).1 (fun hS => ?_)
           clear hK K
           try simp only [zp0, zp1, zp2, zp3, zp4]
           clear g0 g1
           refine wpAnyH_done (by kernel_rfl) ?_ _
           go_wp2_with fail
           go_meet
           case rel => exact ⟨rfl, a22y, c22y, by have h9 := sep_pick S23y [0, 1, 3, 4] rfl (by decide) rfl rfl rfl rfl; rw [HK.out.2.2] at h9; (try rw [HK.out.2.2]); rw [HK1.out] at h9 ⊢; rw [HXS.out]; exact h9⟩
          exact AllReadyH.nil
         exact AllReadyH.nil
        exact AllReadyH.nil
       exact AllReadyH.nil
      refine Reg.cons_op (i := 9) rfl (fun K hK => ?_) ?_
      ·
       have S24y := push_own S18y ((Below.refl _ _).alloc (Nat.le_refl _) _) (OwnV.madeAt w18y 128 2 1 w18y.heap.size #[.string s, .int .i64 x] rfl (Nat.le_refl _) rfl (by decide))
       go_simp
       refine hK.out _ _ (Row.one (box_at S24y 0 rfl)).1 (fun hS => ?_)
       clear hK K
       try simp only [zp0, zp1, zp2, zp3, zp4]
       obtain ⟨b24, hb24⟩ : ∃ b, b = w18y.heap.size := ⟨_, rfl⟩
       rw [← hb24] at S24y ⊢
       generalize w18y.alloc (.cells #[.string s, .int .i64 x] 128) = w24y at hS S24y ⊢
       clear hb24
       refine wpAnyH_ready (rs := [5]) (by kernel_rfl) (by simp) ?_
       refine Reg.cons_op (i := 5) rfl (fun K hK => ?_) ?_
       ·
        refine step_append_s S24y 4 rfl rfl _ _ 29 (by rfl) i0 (.agg #[.string ⟨#[]⟩, .int .i64 0]) 24 Try.underlying29 HI.out.1 HI.out.2.1 HI.out.2.2.1 HI.out.2.2.2 rfl (by omega) _ (by rfl) rfl _ _ k _ _ (cellsF (l.take k)) (by rfl) rfl (HRd.out _ S24y.old k) HK.out.1 (cellsF_one _) (by unfold maxLen; omega) (by omega) ?_
        intro a25y c25y w25y S25y
        try simp only [List.set_cons_zero, List.set_cons_succ, List.set_nil, List.append_nil, List.nil_append, List.cons_append] at S25y
        simp only [Nat.zero_add] at S25y ⊢
        refine hK.out _ _ (Row.one (box_at S25y 0 rfl)).1 (fun hS => ?_)
        clear hK K
        try simp only [zp0, zp1, zp2, zp3, zp4]
        refine wpAnyH_ready (rs := [10]) (by kernel_rfl) (by simp) ?_
        refine Reg.cons_op (i := 10) rfl (fun K hK => ?_) ?_
        ·
         refine step_append_s S25y 4 rfl rfl _ _ 29 (by rfl) i0 (.agg #[.string ⟨#[]⟩, .int .i64 0]) 24 Try.underlying29 HI.out.1 HI.out.2.1 HI.out.2.2.1 HI.out.2.2.2 rfl (by omega) _ (by rfl) (by omega) _ _ 1 _ _ (cellsF [⟨s, x⟩]) (by rfl) rfl (own_at S25y 5 rfl).reads rfl (cellsF_one _) (by unfold maxLen; omega) (by omega) ?_
         intro a26y c26y w26y S26y
         try simp only [List.set_cons_zero, List.set_cons_succ, List.set_nil, List.append_nil, List.nil_append, List.cons_append] at S26y
         refine hK.out _ _ (Row.one (box_at S26y 0 rfl)).1 (fun hS => ?_)
         clear hK K
         try simp only [zp0, zp1, zp2, zp3, zp4]
         refine wpAnyH_ready (rs := [15]) (by kernel_rfl) (by simp) ?_
         refine Reg.cons_op (i := 15) rfl (fun K hK => ?_) ?_
         ·
          refine step_append_s S26y 4 rfl rfl _ _ 29 (by rfl) i0 (.agg #[.string ⟨#[]⟩, .int .i64 0]) 24 Try.underlying29 HI.out.1 HI.out.2.1 HI.out.2.2.1 HI.out.2.2.2 rfl (by omega) _ (by rfl) (by omega) _ _ (n - k) _ _ (cellsF (l.drop k)) (by rfl) (by omega) (HRt.out _ _ S26y.old) HK.out.2.1 (cellsF_one _) (by unfold maxLen; omega) (by omega) ?_
          intro a27y c27y w27y S27y
          try simp only [List.set_cons_zero, List.set_cons_succ, List.set_nil, List.append_nil, List.nil_append, List.cons_append] at S27y
          refine hK.out _ _ (Row.one (box_at S27y 0 rfl)).1 (fun hS => ?_)
          clear hK K
          try simp only [zp0, zp1, zp2, zp3, zp4]
          refine tk 16 rfl ?_
          try simp only [zp0, zp1, zp2, zp3, zp4]
          refine wpAnyH_ready (rs := [17]) (by kernel_rfl) (by simp) ?_
          refine Reg.cons_op (i := 17) rfl (fun K hK => ?_) ?_
          ·
           have S28y := put_box5 S27y 3 rfl 0 (.slice a27y (k + 1) c27y)
           obtain ⟨g0, g1⟩ := Row.one (box_at S27y 3 rfl)
           go_simp
           refine hK.out _ _ (Row.one (box_at S28y 0 rfl)).1 (fun hS => ?_)
           clear hK K
           try simp only [zp0, zp1, zp2, zp3, zp4]
           clear g0 g1
           refine wpAnyH_done (by kernel_rfl) ?_ _
           go_wp2_with fail
           go_meet
           case rel => exact ⟨rfl, a27y, c27y, by have h9 := sep_pick S28y [0, 1, 3, 4] rfl (by decide) rfl rfl rfl rfl; rw [HK.out.2.2] at h9; (try rw [HK.out.2.2]); rw [HK1.out] at h9 ⊢; rw [HXS.out]; exact h9⟩
          exact AllReadyH.nil
         exact AllReadyH.nil
        exact AllReadyH.nil
       exact AllReadyH.nil
      exact AllReadyH.nil
     refine Reg.cons_op (i := 9) rfl (fun K hK => ?_) ?_
     ·
      have S29y := push_own S6 ((Below.refl _ _).alloc (Nat.le_refl _) _) (OwnV.madeAt wd 128 2 1 wd.heap.size #[.string s, .int .i64 x] rfl (Nat.le_refl _) rfl (by decide))
      go_simp
      refine hK.out _ _ (Row.one (box_at S29y 0 rfl)).1 (fun hS => ?_)
      clear hK K
      try simp only [zp0, zp1, zp2, zp3, zp4]
      obtain ⟨b29, hb29⟩ : ∃ b, b = wd.heap.size := ⟨_, rfl⟩
      rw [← hb29] at S29y ⊢
      generalize wd.alloc (.cells #[.string s, .int .i64 x] 128) = w29y at hS S29y ⊢
      clear hb29
      refine wpAnyH_ready (rs := [0]) (by kernel_rfl) (by simp) ?_
      refine Reg.cons_op (i := 0) rfl (fun K hK => ?_) ?_
      ·
       have S30y := push_own S29y ((Below.refl _ _).alloc (Nat.le_refl _) _) (OwnV.emptyAt w29y 128 2 w29y.heap.size rfl (Nat.le_refl _))
       go_simp
       refine hK.out _ _ (Row.one (box_at S30y 0 rfl)).1 (fun hS => ?_)
       clear hK K
       try simp only [zp0, zp1, zp2, zp3, zp4]
       obtain ⟨b30, hb30⟩ : ∃ b, b = w29y.heap.size := ⟨_, rfl⟩
       rw [← hb30] at S30y ⊢
       generalize w29y.alloc (.cells #[] 128) = w30y at hS S30y ⊢
       clear hb30
       refine wpAnyH_ready (rs := [5]) (by kernel_rfl) (by simp) ?_
       refine Reg.cons_op (i := 5) rfl (fun K hK => ?_) ?_
       ·
        refine step_append_s S30y 5 rfl rfl _ _ 29 (by rfl) i0 (.agg #[.string ⟨#[]⟩, .int .i64 0]) 24 Try.underlying29 HI.out.1 HI.out.2.1 HI.out.2.2.1 HI.out.2.2.2 rfl (by omega) _ (by rfl) rfl _ _ k _ _ (cellsF (l.take k)) (by rfl) rfl (HRd.out _ S30y.old k) HK.out.1 (cellsF_one _) (by unfold maxLen; omega) (by omega) ?_
        intro a31y c31y w31y S31y
        try simp only [List.set_cons_zero, List.set_cons_succ, List.set_nil, List.append_nil, List.nil_append, List.cons_append] at S31y
        simp only [Nat.zero_add] at S31y ⊢
        refine hK.out _ _ (Row.one (box_at S31y 0 rfl)).1 (fun hS => ?_)
        clear hK K
        try simp only [zp0, zp1, zp2, zp3, zp4]
        refine wpAnyH_ready (rs := [10]) (by kernel_rfl) (by simp) ?_
        refine Reg.cons_op (i := 10) rfl (fun K hK => ?_) ?_
        ·
         refine step_append_s S31y 5 rfl rfl _ _ 29 (by rfl) i0 (.agg #[.string ⟨#[]⟩, .int .i64 0]) 24 Try.underlying29 HI.out.1 HI.out.2.1 HI.out.2.2.1 HI.out.2.2.2 rfl (by omega) _ (by rfl) (by omega) _ _ 1 _ _ (cellsF [⟨s, x⟩]) (by rfl) rfl (own_at S31y 4 rfl).reads rfl (cellsF_one _) (by unfold maxLen; omega) (by omega) ?_
         intro a32y c32y w32y S32y
         try simp only [List.set_cons_zero, List.set_cons_succ, List.set_nil, List.append_nil, List.nil_append, List.cons_append] at S32y
         refine hK.out _ _ (Row.one (box_at S32y 0 rfl)).1 (fun hS => ?_)
         clear hK K
         try simp only [zp0, zp1, zp2, zp3, zp4]
         refine wpAnyH_ready (rs := [15]) (by kernel_rfl) (by simp) ?_
         refine Reg.cons_op (i := 15) rfl (fun K hK => ?_) ?_
         ·
          refine step_append_s S32y 5 rfl rfl _ _ 29 (by rfl) i0 (.agg #[.string ⟨#[]⟩, .int .i64 0]) 24 Try.underlying29 HI.out.1 HI.out.2.1 HI.out.2.2.1 HI.out.2.2.2 rfl (by omega) _ (by rfl) (by omega) _ _ (n - k) _ _ (cellsF (l.drop k)) (by rfl) (by omega) (HRt.out _ _ S32y.old) HK.out.2.1 (cellsF_one _) (by unfold maxLen; omega) (by omega) ?_
          intro a33y c33y w33y S33y
          try simp only [List.set_cons_zero, List.set_cons_succ, List.set_nil, List.append_nil, List.nil_append, List.cons_append] at S33y
          refine hK.out _ _ (Row.one (box_at S33y 0 rfl)).1 (fun hS => ?_)
          clear hK K
          try simp only [zp0, zp1, zp2, zp3, zp4]
          refine tk 16 rfl ?_
          try simp only [zp0, zp1, zp2, zp3, zp4]
          refine wpAnyH_ready (rs := [17]) (by kernel_rfl) (by simp) ?_
          refine Reg.cons_op (i := 17) rfl (fun K hK => ?_) ?_
          ·
           have S34y := put_box5 S33y 3 rfl 0 (.slice a33y (k + 1) c33y)
           obtain ⟨g0, g1⟩ := Row.one (box_at S33y 3 rfl)
           go_simp
           refine hK.out _ _ (Row.one (box_at S34y 0 rfl)).1 (fun hS => ?_)
           clear hK K
           try simp only [zp0, zp1, zp2, zp3, zp4]
           clear g0 g1
           refine wpAnyH_done (by kernel_rfl) ?_ _
           go_wp2_with fail
           go_meet
           case rel => exact ⟨rfl, a33y, c33y, by have h9 := sep_pick S34y [0, 1, 3, 5] rfl (by decide) rfl rfl rfl rfl; rw [HK.out.2.2] at h9; (try rw [HK.out.2.2]); rw [HK1.out] at h9 ⊢; rw [HXS.out]; exact h9⟩
          exact AllReadyH.nil
         exact AllReadyH.nil
        exact AllReadyH.nil
       exact AllReadyH.nil
      exact AllReadyH.nil
     exact AllReadyH.nil
    case rest =>
     obtain ⟨rfl, A, C, HQ⟩ := hcut
     clear r0 r1 o0 o1
     have SQ := HQ.out
     obtain ⟨r0, r1⟩ := Row.one (box_at SQ 0 rfl)
     obtain ⟨o0, o1⟩ := Row.one (box_at SQ 2 rfl)
     go_wp2_with fail
     go_at_call 86
     refine (HS.out _ SQ.old).mono ?_
     rintro e w7 ⟨rfl, h7⟩
     have S7 := SQ.keep h7
     clear h7 SQ HQ r0 r1 o0 o1
     obtain ⟨r0, r1⟩ := Row.one (box_at S7 0 rfl)
     obtain ⟨z0, z1⟩ := Row.one (box_at S7 1 rfl)
     obtain ⟨o0, o1⟩ := Row.one (box_at S7 2 rfl)
     cases br with
     | false =>
      have HE := Lib.hid (show setL l s x = l ∧ setB l s x = false by unfold setL setB; rw [hbr]; exact ⟨rfl, rfl⟩)
      go_wp2_with fail
      go_at_call 89
      refine (HL.out _ S7.old).mono ?_
      rintro e w8 ⟨a8, c8, rfl, ho8, hb8⟩
      have S8 := push_own S7 hb8 ho8
      clear hb8 ho8 S7 r0 r1 z0 z1 o0 o1
      obtain ⟨z0, z1⟩ := Row.one (box_at S8 1 rfl)
      have S9 := Lib.hid (put_box5 S8 1 rfl 0 (.slice a8 n c8))
      go_wp2_with fail
      refine bodyPost_ret (v := .tuple #[.agg #[.slice a8 n c8], .bool false]) (by simp [results, Try.results163, go_sem, z0]) rfl ?_
      unfold GaveRB
      rw [HE.out.1, HE.out.2, ← HN.out]
      exact ⟨a8, c8, rfl, own_from S9.out 4 rfl, S9.out.old⟩
     | true =>
      have HO := Lib.hid (specIsRecord_any A C (putF l s x) (by rw [HU.out]; omega) HSM.out w7 (own_at S7 3 rfl).reads)
      rw [HU.out] at HO
      obtain ⟨bo, hbo⟩ : ∃ b, isR (putF l s x) = b := ⟨_, rfl⟩
      rw [hbo] at HO
      go_wp2_with fail
      go_at_call 86
      refine HO.out.mono ?_
      rintro e w8 ⟨rfl, h8⟩
      have S8 := S7.keep h8
      clear h8 S7 r0 r1 z0 z1 o0 o1
      obtain ⟨r0, r1⟩ := Row.one (box_at S8 0 rfl)
      obtain ⟨z0, z1⟩ := Row.one (box_at S8 1 rfl)
      obtain ⟨o0, o1⟩ := Row.one (box_at S8 2 rfl)
      cases bo with
      | false =>
       have HE := Lib.hid (show setL l s x = l ∧ setB l s x = false by unfold setL setB; rw [hbr, hbo]; exact ⟨rfl, rfl⟩)
       go_wp2_with fail
       go_at_call 89
       refine (HL.out _ S8.old).mono ?_
       rintro e w9 ⟨a8, c8, rfl, ho8, hb8⟩
       have S9 := push_own S8 hb8 ho8
       clear hb8 ho8 S8 r0 r1 z0 z1 o0 o1
       obtain ⟨z0, z1⟩ := Row.one (box_at S9 1 rfl)
       have SX := Lib.hid (put_box5 S9 1 rfl 0 (.slice a8 n c8))
       go_wp2_with fail
       refine bodyPost_ret (v := .tuple #[.agg #[.slice a8 n c8], .bool false]) (by simp [results, Try.results163, go_sem, z0]) rfl ?_
       unfold GaveRB
       rw [HE.out.1, HE.out.2, ← HN.out]
       exact ⟨a8, c8, rfl, own_from SX.out 4 rfl, SX.out.old⟩
      | true =>
       have HE := Lib.hid (show setL l s x = putF l s x ∧ setB l s x = true by unfold setL setB; rw [hbr, hbo]; exact ⟨rfl, rfl⟩)
       have SX := Lib.hid (put_box5 S8 1 rfl 0 (.slice A m C))
       go_wp2_with fail
       refine bodyPost_ret (v := .tuple #[.agg #[.slice A m C], .bool true]) (by simp [results, Try.results163, go_sem, z0]) rfl ?_
       unfold GaveRB
       rw [HE.out.1, HE.out.2, HU.out]
       exact ⟨A, C, rfl, own_from SX.out 3 rfl, SX.out.old⟩
   ·
    obtain ⟨ad, rfl⟩ : ∃ ad, a = some ad := by
     cases a with
     | none => exact absurd (hz rfl) (by omega)
     | some ad => exact ⟨ad, rfl⟩
    have hkc : k ≤ c := by omega
    have HRt := Lib.hid (show ∀ w' ad2, some ad = some ad2 → Below w.heap.size w w' → Reads w' w.heap.size (some (ad2.add (k * 2))) (cellsF (l.drop k)) from fun w' ad2 ha h => reads_suffix (by rw [← ha]; exact HR.out w' h) k)
    go_upto_region 7 with fail
    go_cut [9] (fun y wx => y = .int .i64 k ∧ ∃ A C, Hid (Sep w wx [boxR w.heap.size 31 #[.slice (some ad) n c], boxR (w.heap.size + 1) 31 #[.slice none 0 0], boxR G 31 #[.slice A m C], ownV 128 2 A C m (cellsF (putF l s x))]))
    case first =>
     refine wp_region_held_drew (S := fun w' => w'.cell? ⟨w.heap.size, 0, none⟩ = some (.slice (some ad) n c)) (by kernel_rfl) r0 (fun hS => ?_)
     have S6 : Sep w w4.drew _ := H4.out.drews 1
     clear r0 r1 o0 o1
     generalize w4.drew = wd at hS S6 ⊢
     refine tk 1 rfl ?_
     try simp only [zp0, zp1, zp2, zp3, zp4]
     refine tk 2 rfl ?_
     try simp only [zp0, zp1, zp2, zp3, zp4]
     refine tk 3 rfl ?_
     try simp only [zp0, zp1, zp2, zp3, zp4]
     refine tk 4 rfl ?_
     try simp only [zp0, zp1, zp2, zp3, zp4]
     refine tk 6 rfl ?_
     try simp only [zp0, zp1, zp2, zp3, zp4]
     refine tk 7 rfl ?_
     try simp only [zp0, zp1, zp2, zp3, zp4]
     refine tk 8 rfl ?_
     try simp only [zp0, zp1, zp2, zp3, zp4]
     refine tk 11 rfl ?_
     try simp only [zp0, zp1, zp2, zp3, zp4]
     refine tk 12 rfl ?_
     try simp only [zp0, zp1, zp2, zp3, zp4]
     refine tk 13 rfl ?_
     try simp only [zp0, zp1, zp2, zp3, zp4]
     refine tk 14 rfl ?_
     try simp only [zp0, zp1, zp2, zp3, zp4]
     refine wpAnyH_ready (rs := [0, 9]) (by kernel_rfl) (by simp) ?_
     refine Reg.cons_op (i := 0) rfl (fun K hK => ?_) ?_
     ·
      have S35y := push_own S6 ((Below.refl _ _).alloc (Nat.le_refl _) _) (OwnV.emptyAt wd 128 2 wd.heap.size rfl (Nat.le_refl _))
      go_simp
      refine hK.out _ _ (Row.one (box_at S35y 0 rfl)).1 (fun hS => ?_)
      clear hK K
      try simp only [zp0, zp1, zp2, zp3, zp4]
      obtain ⟨b35, hb35⟩ : ∃ b, b = wd.heap.size := ⟨_, rfl⟩
      rw [← hb35] at S35y ⊢
      generalize wd.alloc (.cells #[] 128) = w35y at hS S35y ⊢
      clear hb35
      refine wpAnyH_ready (rs := [5, 9]) (by kernel_rfl) (by simp) ?_
      refine Reg.cons_op (i := 5) rfl (fun K hK => ?_) ?_
      ·
       refine step_append_s S35y 4 rfl rfl _ _ 29 (by rfl) i0 (.agg #[.string ⟨#[]⟩, .int .i64 0]) 24 Try.underlying29 HI.out.1 HI.out.2.1 HI.out.2.2.1 HI.out.2.2.2 rfl (by omega) _ (by rfl) rfl _ _ k _ _ (cellsF (l.take k)) (by rfl) rfl (HRd.out _ S35y.old k) HK.out.1 (cellsF_one _) (by unfold maxLen; omega) (by omega) ?_
       intro a36y c36y w36y S36y
       try simp only [List.set_cons_zero, List.set_cons_succ, List.set_nil, List.append_nil, List.nil_append, List.cons_append] at S36y
       simp only [Nat.zero_add] at S36y ⊢
       refine hK.out _ _ (Row.one (box_at S36y 0 rfl)).1 (fun hS => ?_)
       clear hK K
       try simp only [zp0, zp1, zp2, zp3, zp4]
       refine wpAnyH_ready (rs := [9]) (by kernel_rfl) (by simp) ?_
       refine Reg.cons_op (i := 9) rfl (fun K hK => ?_) ?_
       ·
        have S37y := push_own S36y ((Below.refl _ _).alloc (Nat.le_refl _) _) (OwnV.madeAt w36y 128 2 1 w36y.heap.size #[.string s, .int .i64 x] rfl (Nat.le_refl _) rfl (by decide))
        go_simp
        refine hK.out _ _ (Row.one (box_at S37y 0 rfl)).1 (fun hS => ?_)
        clear hK K
        try simp only [zp0, zp1, zp2, zp3, zp4]
        obtain ⟨b37, hb37⟩ : ∃ b, b = w36y.heap.size := ⟨_, rfl⟩
        rw [← hb37] at S37y ⊢
        generalize w36y.alloc (.cells #[.string s, .int .i64 x] 128) = w37y at hS S37y ⊢
        clear hb37
        refine wpAnyH_ready (rs := [10]) (by kernel_rfl) (by simp) ?_
        refine Reg.cons_op (i := 10) rfl (fun K hK => ?_) ?_
        ·
         refine step_append_s S37y 4 rfl rfl _ _ 29 (by rfl) i0 (.agg #[.string ⟨#[]⟩, .int .i64 0]) 24 Try.underlying29 HI.out.1 HI.out.2.1 HI.out.2.2.1 HI.out.2.2.2 rfl (by omega) _ (by rfl) (by omega) _ _ 1 _ _ (cellsF [⟨s, x⟩]) (by rfl) rfl (own_at S37y 5 rfl).reads rfl (cellsF_one _) (by unfold maxLen; omega) (by omega) ?_
         intro a38y c38y w38y S38y
         try simp only [List.set_cons_zero, List.set_cons_succ, List.set_nil, List.append_nil, List.nil_append, List.cons_append] at S38y
         refine hK.out _ _ (Row.one (box_at S38y 0 rfl)).1 (fun hS => ?_)
         clear hK K
         try simp only [zp0, zp1, zp2, zp3, zp4]
         refine wpAnyH_ready (rs := [15]) (by kernel_rfl) (by simp) ?_
         refine Reg.cons_op (i := 15) rfl (fun K hK => ?_) ?_
         ·
          refine step_append_s S38y 4 rfl rfl _ _ 29 (by rfl) i0 (.agg #[.string ⟨#[]⟩, .int .i64 0]) 24 Try.underlying29 HI.out.1 HI.out.2.1 HI.out.2.2.1 HI.out.2.2.2 rfl (by omega) _ (by rfl) (by omega) _ _ (n - k) _ _ (cellsF (l.drop k)) (by rfl) rfl (HRt.out _ _ rfl S38y.old) HK.out.2.1 (cellsF_one _) (by unfold maxLen; omega) (by omega) ?_
          intro a39y c39y w39y S39y
          try simp only [List.set_cons_zero, List.set_cons_succ, List.set_nil, List.append_nil, List.nil_append, List.cons_append] at S39y
          refine hK.out _ _ (Row.one (box_at S39y 0 rfl)).1 (fun hS => ?_)
          clear hK K
          try simp only [zp0, zp1, zp2, zp3, zp4]
          refine tk 16 rfl ?_
          try simp only [zp0, zp1, zp2, zp3, zp4]
          refine wpAnyH_ready (rs := [17]) (by kernel_rfl) (by simp) ?_
          refine Reg.cons_op (i := 17) rfl (fun K hK => ?_) ?_
          ·
           have S40y := put_box5 S39y 3 rfl 0 (.slice a39y (k + 1 + (n - k)) c39y)
           obtain ⟨g0, g1⟩ := Row.one (box_at S39y 3 rfl)
           go_simp
           refine hK.out _ _ (Row.one (box_at S40y 0 rfl)).1 (fun hS => ?_)
           clear hK K
           try simp only [zp0, zp1, zp2, zp3, zp4]
           clear g0 g1
           refine wpAnyH_done (by kernel_rfl) ?_ _
           go_wp2_with fail
           go_meet
           case rel => exact ⟨rfl, a39y, c39y, by have h9 := sep_pick S40y [0, 1, 3, 4] rfl (by decide) rfl rfl rfl rfl; rw [HK.out.2.2] at h9; (try rw [HK.out.2.2]); rw [HXS.out]; exact h9⟩
          exact AllReadyH.nil
         exact AllReadyH.nil
        exact AllReadyH.nil
       exact AllReadyH.nil
      refine Reg.cons_op (i := 9) rfl (fun K hK => ?_) ?_
      ·
       have S41y := push_own S35y ((Below.refl _ _).alloc (Nat.le_refl _) _) (OwnV.madeAt w35y 128 2 1 w35y.heap.size #[.string s, .int .i64 x] rfl (Nat.le_refl _) rfl (by decide))
       go_simp
       refine hK.out _ _ (Row.one (box_at S41y 0 rfl)).1 (fun hS => ?_)
       clear hK K
       try simp only [zp0, zp1, zp2, zp3, zp4]
       obtain ⟨b41, hb41⟩ : ∃ b, b = w35y.heap.size := ⟨_, rfl⟩
       rw [← hb41] at S41y ⊢
       generalize w35y.alloc (.cells #[.string s, .int .i64 x] 128) = w41y at hS S41y ⊢
       clear hb41
       refine wpAnyH_ready (rs := [5]) (by kernel_rfl) (by simp) ?_
       refine Reg.cons_op (i := 5) rfl (fun K hK => ?_) ?_
       ·
        refine step_append_s S41y 4 rfl rfl _ _ 29 (by rfl) i0 (.agg #[.string ⟨#[]⟩, .int .i64 0]) 24 Try.underlying29 HI.out.1 HI.out.2.1 HI.out.2.2.1 HI.out.2.2.2 rfl (by omega) _ (by rfl) rfl _ _ k _ _ (cellsF (l.take k)) (by rfl) rfl (HRd.out _ S41y.old k) HK.out.1 (cellsF_one _) (by unfold maxLen; omega) (by omega) ?_
        intro a42y c42y w42y S42y
        try simp only [List.set_cons_zero, List.set_cons_succ, List.set_nil, List.append_nil, List.nil_append, List.cons_append] at S42y
        simp only [Nat.zero_add] at S42y ⊢
        refine hK.out _ _ (Row.one (box_at S42y 0 rfl)).1 (fun hS => ?_)
        clear hK K
        try simp only [zp0, zp1, zp2, zp3, zp4]
        refine wpAnyH_ready (rs := [10]) (by kernel_rfl) (by simp) ?_
        refine Reg.cons_op (i := 10) rfl (fun K hK => ?_) ?_
        ·
         refine step_append_s S42y 4 rfl rfl _ _ 29 (by rfl) i0 (.agg #[.string ⟨#[]⟩, .int .i64 0]) 24 Try.underlying29 HI.out.1 HI.out.2.1 HI.out.2.2.1 HI.out.2.2.2 rfl (by omega) _ (by rfl) (by omega) _ _ 1 _ _ (cellsF [⟨s, x⟩]) (by rfl) rfl (own_at S42y 5 rfl).reads rfl (cellsF_one _) (by unfold maxLen; omega) (by omega) ?_
         intro a43y c43y w43y S43y
         try simp only [List.set_cons_zero, List.set_cons_succ, List.set_nil, List.append_nil, List.nil_append, List.cons_append] at S43y
         refine hK.out _ _ (Row.one (box_at S43y 0 rfl)).1 (fun hS => ?_)
         clear hK K
         try simp only [zp0, zp1, zp2, zp3, zp4]
         refine wpAnyH_ready (rs := [15]) (by kernel_rfl) (by simp) ?_
         refine Reg.cons_op (i := 15) rfl (fun K hK => ?_) ?_
         ·
          refine step_append_s S43y 4 rfl rfl _ _ 29 (by rfl) i0 (.agg #[.string ⟨#[]⟩, .int .i64 0]) 24 Try.underlying29 HI.out.1 HI.out.2.1 HI.out.2.2.1 HI.out.2.2.2 rfl (by omega) _ (by rfl) (by omega) _ _ (n - k) _ _ (cellsF (l.drop k)) (by rfl) rfl (HRt.out _ _ rfl S43y.old) HK.out.2.1 (cellsF_one _) (by unfold maxLen; omega) (by omega) ?_
          intro a44y c44y w44y S44y
          try simp only [List.set_cons_zero, List.set_cons_succ, List.set_nil, List.append_nil, List.nil_append, List.cons_append] at S44y
          refine hK.out _ _ (Row.one (box_at S44y 0 rfl)).1 (fun hS => ?_)
          clear hK K
          try simp only [zp0, zp1, zp2, zp3, zp4]
          refine tk 16 rfl ?_
          try simp only [zp0, zp1, zp2, zp3, zp4]
          refine wpAnyH_ready (rs := [17]) (by kernel_rfl) (by simp) ?_
          refine Reg.cons_op (i := 17) rfl (fun K hK => ?_) ?_
          ·
           have S45y := put_box5 S44y 3 rfl 0 (.slice a44y (k + 1 + (n - k)) c44y)
           obtain ⟨g0, g1⟩ := Row.one (box_at S44y 3 rfl)
           go_simp
           refine hK.out _ _ (Row.one (box_at S45y 0 rfl)).1 (fun hS => ?_)
           clear hK K
           try simp only [zp0, zp1, zp2, zp3, zp4]
           clear g0 g1
           refine wpAnyH_done (by kernel_rfl) ?_ _
           go_wp2_with fail
           go_meet
           case rel => exact ⟨rfl, a44y, c44y, by have h9 := sep_pick S45y [0, 1, 3, 4] rfl (by decide) rfl rfl rfl rfl; rw [HK.out.2.2] at h9; (try rw [HK.out.2.2]); rw [HXS.out]; exact h9⟩
          exact AllReadyH.nil
         exact AllReadyH.nil
        exact AllReadyH.nil
       exact AllReadyH.nil
      exact AllReadyH.nil
     refine Reg.cons_op (i := 9) rfl (fun K hK => ?_) ?_
     ·
      have S46y := push_own S6 ((Below.refl _ _).alloc (Nat.le_refl _) _) (OwnV.madeAt wd 128 2 1 wd.heap.size #[.string s, .int .i64 x] rfl (Nat.le_refl _) rfl (by decide))
      go_simp
      refine hK.out _ _ (Row.one (box_at S46y 0 rfl)).1 (fun hS => ?_)
      clear hK K
      try simp only [zp0, zp1, zp2, zp3, zp4]
      obtain ⟨b46, hb46⟩ : ∃ b, b = wd.heap.size := ⟨_, rfl⟩
      rw [← hb46] at S46y ⊢
      generalize wd.alloc (.cells #[.string s, .int .i64 x] 128) = w46y at hS S46y ⊢
      clear hb46
      refine wpAnyH_ready (rs := [0]) (by kernel_rfl) (by simp) ?_
      refine Reg.cons_op (i := 0) rfl (fun K hK => ?_) ?_
      ·
       have S47y := push_own S46y ((Below.refl _ _).alloc (Nat.le_refl _) _) (OwnV.emptyAt w46y 128 2 w46y.heap.size rfl (Nat.le_refl _))
       go_simp
       refine hK.out _ _ (Row.one (box_at S47y 0 rfl)).1 (fun hS => ?_)
       clear hK K
       try simp only [zp0, zp1, zp2, zp3, zp4]
       obtain ⟨b47, hb47⟩ : ∃ b, b = w46y.heap.size := ⟨_, rfl⟩
       rw [← hb47] at S47y ⊢
       generalize w46y.alloc (.cells #[] 128) = w47y at hS S47y ⊢
       clear hb47
       refine wpAnyH_ready (rs := [5]) (by kernel_rfl) (by simp) ?_
       refine Reg.cons_op (i := 5) rfl (fun K hK => ?_) ?_
       ·
        refine step_append_s S47y 5 rfl rfl _ _ 29 (by rfl) i0 (.agg #[.string ⟨#[]⟩, .int .i64 0]) 24 Try.underlying29 HI.out.1 HI.out.2.1 HI.out.2.2.1 HI.out.2.2.2 rfl (by omega) _ (by rfl) rfl _ _ k _ _ (cellsF (l.take k)) (by rfl) rfl (HRd.out _ S47y.old k) HK.out.1 (cellsF_one _) (by unfold maxLen; omega) (by omega) ?_
        intro a48y c48y w48y S48y
        try simp only [List.set_cons_zero, List.set_cons_succ, List.set_nil, List.append_nil, List.nil_append, List.cons_append] at S48y
        simp only [Nat.zero_add] at S48y ⊢
        refine hK.out _ _ (Row.one (box_at S48y 0 rfl)).1 (fun hS => ?_)
        clear hK K
        try simp only [zp0, zp1, zp2, zp3, zp4]
        refine wpAnyH_ready (rs := [10]) (by kernel_rfl) (by simp) ?_
        refine Reg.cons_op (i := 10) rfl (fun K hK => ?_) ?_
        ·
         refine step_append_s S48y 5 rfl rfl _ _ 29 (by rfl) i0 (.agg #[.string ⟨#[]⟩, .int .i64 0]) 24 Try.underlying29 HI.out.1 HI.out.2.1 HI.out.2.2.1 HI.out.2.2.2 rfl (by omega) _ (by rfl) (by omega) _ _ 1 _ _ (cellsF [⟨s, x⟩]) (by rfl) rfl (own_at S48y 4 rfl).reads rfl (cellsF_one _) (by unfold maxLen; omega) (by omega) ?_
         intro a49y c49y w49y S49y
         try simp only [List.set_cons_zero, List.set_cons_succ, List.set_nil, List.append_nil, List.nil_append, List.cons_append] at S49y
         refine hK.out _ _ (Row.one (box_at S49y 0 rfl)).1 (fun hS => ?_)
         clear hK K
         try simp only [zp0, zp1, zp2, zp3, zp4]
         refine wpAnyH_ready (rs := [15]) (by kernel_rfl) (by simp) ?_
         refine Reg.cons_op (i := 15) rfl (fun K hK => ?_) ?_
         ·
          refine step_append_s S49y 5 rfl rfl _ _ 29 (by rfl) i0 (.agg #[.string ⟨#[]⟩, .int .i64 0]) 24 Try.underlying29 HI.out.1 HI.out.2.1 HI.out.2.2.1 HI.out.2.2.2 rfl (by omega) _ (by rfl) (by omega) _ _ (n - k) _ _ (cellsF (l.drop k)) (by rfl) rfl (HRt.out _ _ rfl S49y.old) HK.out.2.1 (cellsF_one _) (by unfold maxLen; omega) (by omega) ?_
          intro a50y c50y w50y S50y
          try simp only [List.set_cons_zero, List.set_cons_succ, List.set_nil, List.append_nil, List.nil_append, List.cons_append] at S50y
          refine hK.out _ _ (Row.one (box_at S50y 0 rfl)).1 (fun hS => ?_)
          clear hK K
          try simp only [zp0, zp1, zp2, zp3, zp4]
          refine tk 16 rfl ?_
          try simp only [zp0, zp1, zp2, zp3, zp4]
          refine wpAnyH_ready (rs := [17]) (by kernel_rfl) (by simp) ?_
          refine Reg.cons_op (i := 17) rfl (fun K hK => ?_) ?_
          ·
           have S51y := put_box5 S50y 3 rfl 0 (.slice a50y (k + 1 + (n - k)) c50y)
           obtain ⟨g0, g1⟩ := Row.one (box_at S50y 3 rfl)
           go_simp
           refine hK.out _ _ (Row.one (box_at S51y 0 rfl)).1 (fun hS => ?_)
           clear hK K
           try simp only [zp0, zp1, zp2, zp3, zp4]
           clear g0 g1
           refine wpAnyH_done (by kernel_rfl) ?_ _
           go_wp2_with fail
           go_meet
           case rel => exact ⟨rfl, a50y, c50y, by have h9 := sep_pick S51y [0, 1, 3, 5] rfl (by decide) rfl rfl rfl rfl; rw [HK.out.2.2] at h9; (try rw [HK.out.2.2]); rw [HXS.out]; exact h9⟩
          exact AllReadyH.nil
         exact AllReadyH.nil
        exact AllReadyH.nil
       exact AllReadyH.nil
      exact AllReadyH.nil
     exact AllReadyH.nil
    case rest =>
     obtain ⟨rfl, A, C, HQ⟩ := hcut
     clear r0 r1 o0 o1
     have SQ := HQ.out
     obtain ⟨r0, r1⟩ := Row.one (box_at SQ 0 rfl)
     obtain ⟨o0, o1⟩ := Row.one (box_at SQ 2 rfl)
     go_wp2_with fail
     go_at_call 86
     refine (HS.out _ SQ.old).mono ?_
     rintro e w7 ⟨rfl, h7⟩
     have S7 := SQ.keep h7
     clear h7 SQ HQ r0 r1 o0 o1
     obtain ⟨r0, r1⟩ := Row.one (box_at S7 0 rfl)
     obtain ⟨z0, z1⟩ := Row.one (box_at S7 1 rfl)
     obtain ⟨o0, o1⟩ := Row.one (box_at S7 2 rfl)
     cases br with
     | false =>
      have HE := Lib.hid (show setL l s x = l ∧ setB l s x = false by unfold setL setB; rw [hbr]; exact ⟨rfl, rfl⟩)
      go_wp2_with fail
      go_at_call 89
      refine (HL.out _ S7.old).mono ?_
      rintro e w8 ⟨a8, c8, rfl, ho8, hb8⟩
      have S8 := push_own S7 hb8 ho8
      clear hb8 ho8 S7 r0 r1 z0 z1 o0 o1
      obtain ⟨z0, z1⟩ := Row.one (box_at S8 1 rfl)
      have S9 := Lib.hid (put_box5 S8 1 rfl 0 (.slice a8 n c8))
      go_wp2_with fail
      refine bodyPost_ret (v := .tuple #[.agg #[.slice a8 n c8], .bool false]) (by simp [results, Try.results163, go_sem, z0]) rfl ?_
      unfold GaveRB
      rw [HE.out.1, HE.out.2, ← HN.out]
      exact ⟨a8, c8, rfl, own_from S9.out 4 rfl, S9.out.old⟩
     | true =>
      have HO := Lib.hid (specIsRecord_any A C (putF l s x) (by rw [HU.out]; omega) HSM.out w7 (own_at S7 3 rfl).reads)
      rw [HU.out] at HO
      obtain ⟨bo, hbo⟩ : ∃ b, isR (putF l s x) = b := ⟨_, rfl⟩
      rw [hbo] at HO
      go_wp2_with fail
      go_at_call 86
      refine HO.out.mono ?_
      rintro e w8 ⟨rfl, h8⟩
      have S8 := S7.keep h8
      clear h8 S7 r0 r1 z0 z1 o0 o1
      obtain ⟨r0, r1⟩ := Row.one (box_at S8 0 rfl)
      obtain ⟨z0, z1⟩ := Row.one (box_at S8 1 rfl)
      obtain ⟨o0, o1⟩ := Row.one (box_at S8 2 rfl)
      cases bo with
      | false =>
       have HE := Lib.hid (show setL l s x = l ∧ setB l s x = false by unfold setL setB; rw [hbr, hbo]; exact ⟨rfl, rfl⟩)
       go_wp2_with fail
       go_at_call 89
       refine (HL.out _ S8.old).mono ?_
       rintro e w9 ⟨a8, c8, rfl, ho8, hb8⟩
       have S9 := push_own S8 hb8 ho8
       clear hb8 ho8 S8 r0 r1 z0 z1 o0 o1
       obtain ⟨z0, z1⟩ := Row.one (box_at S9 1 rfl)
       have SX := Lib.hid (put_box5 S9 1 rfl 0 (.slice a8 n c8))
       go_wp2_with fail
       refine bodyPost_ret (v := .tuple #[.agg #[.slice a8 n c8], .bool false]) (by simp [results, Try.results163, go_sem, z0]) rfl ?_
       unfold GaveRB
       rw [HE.out.1, HE.out.2, ← HN.out]
       exact ⟨a8, c8, rfl, own_from SX.out 4 rfl, SX.out.old⟩
      | true =>
       have HE := Lib.hid (show setL l s x = putF l s x ∧ setB l s x = true by unfold setL setB; rw [hbr, hbo]; exact ⟨rfl, rfl⟩)
       have SX := Lib.hid (put_box5 S8 1 rfl 0 (.slice A m C))
       go_wp2_with fail
       refine bodyPost_ret (v := .tuple #[.agg #[.slice A m C], .bool true]) (by simp [results, Try.results163, go_sem, z0]) rfl ?_
       unfold GaveRB
       rw [HE.out.1, HE.out.2, HU.out]
       exact ⟨A, C, rfl, own_from SX.out 3 rfl, SX.out.old⟩
end Go.Proofs.Ytojcdmgcbgpdmaa.L5

namespace Go.Proofs.Ytojcdmgcbgpdmaa.Reg
section
variable {P : Program} {ops : Array Oper} {Q : Exit → Act → World → Prop} {md : Region.Mode} {S0 S1 : World → Prop} {q : Nat}
def Tier (S0 S1 : World → Prop) (q : Nat) (listed : Array Bool) (i : Nat) (w : World) : Prop := S0 w ∧ (i ≠ q → listed.getD q true = false → S1 w)
def anyL (P : Program) (md : Region.Mode) (ops : Array Oper) (Q : Exit → Act → World → Prop) (S0 S1 : World → Prop) (q : Nat) : Nat → Array Bool → Act → World → Prop
 | 0, L, a, w => Region.ready md ops L = [] ∧ Q .normal a w
 | n + 1, L, a, w => (Region.ready md ops L = [] → Q .normal a w) ∧ ∀ i, i ∈ Region.ready md ops L → wpOp P ops Q i (fun a' w' => Tier S0 S1 q L i w' ∧ anyL P md ops Q S0 S1 q n (L.setIfInBounds i true) a' w') a w
theorem anyL_plain : ∀ (n : Nat) (L : Array Bool) (a : Act) (w : World), anyL P md ops Q S0 S1 q n L a w → wpAny P md ops Q n L a w
 | 0, _, _, _, h => h
 | n + 1, _, _, _, h => ⟨h.1, fun i hi => wpOp_mono (fun a' w' h' => anyL_plain n _ a' w' h'.2) (h.2 i hi)⟩
theorem anyL_first {i : Nat} {oi : Oper} {v : Value} {T : World → Prop} (hi : ops[i]? = some oi) (hsel : ∀ (j : Nat) (o : Oper) cs b, ops[j]? = some o → o.op ≠ .select cs b) (hQ : ∀ c a w, Q (.panic c) (a.put oi.dst v) w → Q (.panic c) a w)
  (hiq : i ≠ q)
  (hT : (∀ w, S0 w → T w) ∨ ((∀ w, S0 w → S1 w → T w) ∧ ∃ oq, ops[q]? = some oq ∧ ∃ e ∈ oq.after, Region.binds md e = true ∧ e.on = i)) :
  ∀ (n : Nat) (L : Array Bool) (a : Act) (w : World), ((∀ w, S0 w → T w) ∨ L.getD q true = false) →
   (∀ j oj, ops[j]? = some oj → j ≠ i → L.getD j true = false → (∀ e ∈ oj.after, Region.binds md e = true → e.on ≠ i) → oi.apart ops oj = true) →
   i ∈ Region.ready md ops L → YieldsIf P ops T oi v a → (S0 w ∧ (L.getD q true = false → S1 w)) →
   anyL P md ops Q S0 S1 q n (L.setIfInBounds i true) (a.put oi.dst v) w → anyL P md ops Q S0 S1 q (n + 1) L a w := by
 have hTw : ∀ (L : Array Bool) (w : World), ((∀ w, S0 w → T w) ∨ L.getD q true = false) → S0 w → (L.getD q true = false → S1 w) → T w := fun L w hL h0 h1 => by
  rcases hT with h | ⟨h, _⟩
  ·
   exact h w h0
  ·
   rcases hL with h2 | h2
   ·
    exact h2 w h0
   ·
    exact h w h0 (h1 h2)
 intro n
 induction n with
 | zero =>
  intro L a w hL hfree hr hy hS H
  refine ⟨fun h => (by rw [h] at hr; cases hr), fun j hj => ?_⟩
  by_cases hji : j = i
  ·
   subst hji
   exact hy.wpOp hi (hTw L w hL hS.1 hS.2) ⟨⟨hS.1, fun _ => hS.2⟩, H⟩
  ·
   have := ready_mono hj hji
   rw [H.1] at this
   cases this
 | succ n ih =>
  intro L a w hL hfree hr hy hS H
  refine ⟨fun h => (by rw [h] at hr; cases hr), fun j hj => ?_⟩
  by_cases hji : j = i
  ·
   subst hji
   exact hy.wpOp hi (hTw L w hL hS.1 hS.2) ⟨⟨hS.1, fun _ => hS.2⟩, H⟩
  ·
   have h1 := H.2 j (ready_mono hj hji)
   obtain ⟨hjun, oj, hoj, hall⟩ := mem_ready.1 hj
   have hnot : ∀ e ∈ oj.after, Region.binds md e = true → e.on ≠ i := fun e he hb heq => by
    have g1 := hall e he hb
    have g0 := (mem_ready.1 hr).1
    rw [heq] at g1
    rcases Nat.lt_or_ge i L.size with h' | h'
    ·
     simp [h'] at g0 g1; rw [g0] at g1; cases g1
    ·
     simp [Array.getElem?_eq_none h'] at g1
   have h2 := wpOp_putIf hoj (hfree j oj hoj hji hjun hnot) (fun cs b => hsel i oi cs b hi) (fun cs b => hsel j oj cs b hoj) hQ hy h1
   have hfree' : ∀ k ok, ops[k]? = some ok → k ≠ i → (L.setIfInBounds j true).getD k true = false → (∀ e ∈ ok.after, Region.binds md e = true → e.on ≠ i) → oi.apart ops ok = true := fun k ok hk hki hun hno => by
    refine hfree k ok hk hki ?_ hno
    by_cases hjk : j = k
    ·
     subst hjk; exact hjun
    ·
     rw [getD_set_ne true hjk] at hun; exact hun
   -- the late one is not j, where it waits for i
   have hL' : (∀ w, S0 w → T w) ∨ (L.setIfInBounds j true).getD q true = false := by
    rcases hT with h | ⟨_, oq, hoq, e, he, hb, hei⟩
    ·
     exact .inl h
    ·
     rcases hL with h | h
     ·
      exact .inl h
     ·
      by_cases hjq : j = q
      ·
       subst hjq
       rw [hoj] at hoq
       injection hoq with hoq
       subst hoq
       exact absurd hei (hnot e he hb)
      ·
       exact .inr (by rw [getD_set_ne true hjq]; exact h)
   refine wpOp_mono (fun a' w' h3 => ?_) h2
   obtain ⟨hy', ⟨t0, t1⟩, hrest⟩ := h3
   have hS' : S0 w' ∧ ((L.setIfInBounds j true).getD q true = false → S1 w') := ⟨t0, fun hq => by
    by_cases hjq : j = q
    ·
     subst hjq
     rcases Nat.lt_or_ge j L.size with h' | h'
     ·
      simp [h'] at hq
     ·
      simp at hq
    ·
     rw [getD_set_ne true hjq] at hq
     exact t1 hjq (by rw [getD_set_ne true hiq]; exact hq)⟩
   refine ⟨⟨t0, fun hjq hq => ?_⟩, ih (L.setIfInBounds j true) a' w' hL' hfree' (ready_mono hr (Ne.symm hji)) hy' hS' ?_⟩
   ·
    exact hS'.2 (by rw [getD_set_ne true hjq]; exact hq)
   ·
    rw [Array.setIfInBounds_comm _ _ hji]
    exact hrest
theorem wp_region_late {id : Nat} {a : Act} {w : World} (S0 S1 : World → Prop) (q : Nat) (hm : P.follows .mixedOrders = true) (h0 : S0 w.drew) (h1 : S1 w.drew)
  (h : S0 w.drew → S1 w.drew → anyL P .any ops Q S0 S1 q ops.size (Array.replicate ops.size false) a w.drew) : (Code.region id ops true).wp P Q a w :=
 wp_region_any hm (anyL_plain _ _ _ _ (h h0 h1))
end
section
variable {P : Program} {l : List Oper} {Q : Exit → Act → World → Prop} {md : Region.Mode} {S0 S1 : World → Prop} {q fuel i : Nat} {oi : Oper} {v : Value} {listed : Array Bool} {a : Act} {w : World}
def waits (md : Region.Mode) (l : List Oper) (q i : Nat) : Bool := match nthO q l with
 | none => false
 | some o => o.after.any fun e => Region.binds md e && e.on == i
theorem early_op (hi : nthO i l = some oi) (hs : Region.noSelect l.toArray = true) (hf : Region.free md l.toArray listed i = true) (hr : (Region.ready md l.toArray listed).contains i = true) (hiq : (i == q) = false) (hq : waits md l q i = true) (hl : listed.getD q true = false)
  (hQ : ∀ c a w, Q (.panic c) (a.put oi.dst v) w → Q (.panic c) a w) (hw : Region.wanted oi (yielded l.toArray a.tmps) = true) (hy : ∀ w, S0 w → S1 w → (execOp a.eval oi).run P w = .ok (.value v) w) (h0 : S0 w) (h1 : S1 w)
  (h : anyL P md l.toArray Q S0 S1 q fuel (listed.setIfInBounds i true) (a.put oi.dst v) w) : anyL P md l.toArray Q S0 S1 q (fuel + 1) listed a w := by
 refine anyL_first (T := fun w => S0 w ∧ S1 w) (by rw [nthO_eq]; exact hi) (Region.noSelect_spec hs) hQ (by simpa using hiq) (.inr ⟨fun w a b => ⟨a, b⟩, ?_⟩) fuel listed a w (.inr hl) (Region.free_spec (by rw [nthO_eq]; exact hi) hf) (by simpa using hr) (.inl ⟨hw, fun w hh => hy w hh.1 hh.2⟩) ⟨h0, fun _ => h1⟩ h
 unfold waits at hq
 cases ho : nthO q l with
 | none => rw [ho] at hq; cases hq
 | some o =>
  rw [ho] at hq
  simp only [Array.any_eq_true, Bool.and_eq_true, beq_iff_eq] at hq
  obtain ⟨j, hj, h2, h3⟩ := hq
  exact ⟨o, by rw [nthO_eq]; exact ho, _, Array.getElem_mem hj, h2, h3⟩
theorem plain_op (hi : nthO i l = some oi) (hs : Region.noSelect l.toArray = true) (hf : Region.free md l.toArray listed i = true) (hr : (Region.ready md l.toArray listed).contains i = true) (hiq : (i == q) = false)
  (hQ : ∀ c a w, Q (.panic c) (a.put oi.dst v) w → Q (.panic c) a w) (hw : Region.wanted oi (yielded l.toArray a.tmps) = true) (hy : ∀ w, S0 w → (execOp a.eval oi).run P w = .ok (.value v) w) (h0 : S0 w) (h1 : listed.getD q true = false → S1 w)
  (h : anyL P md l.toArray Q S0 S1 q fuel (listed.setIfInBounds i true) (a.put oi.dst v) w) : anyL P md l.toArray Q S0 S1 q (fuel + 1) listed a w :=
 anyL_first (T := S0) (by rw [nthO_eq]; exact hi) (Region.noSelect_spec hs) hQ (by simpa using hiq) (.inl fun _ h => h) fuel listed a w (.inl fun _ h => h) (Region.free_spec (by rw [nthO_eq]; exact hi) hf) (by simpa using hr) (.inl ⟨hw, hy⟩) ⟨h0, h1⟩ h
theorem only_op (hi : nthO i l = some oi) (hr : Region.ready md l.toArray listed = [i])
  (h : ∀ K' : Act → World → Prop, Shut (∀ a w, S0 w → S1 w → (S0 w → S1 w → anyL P md l.toArray Q S0 S1 q fuel (listed.setIfInBounds i true) a w) → K' a w) → if Region.wanted oi (yielded l.toArray a.tmps) = true then Oper.wp P oi a w K' Q else K' (a.put oi.dst undef) w) :
  anyL P md l.toArray Q S0 S1 q (fuel + 1) listed a w := by
 refine ⟨fun h0 => (by rw [hr] at h0; cases h0), fun j hj => ?_⟩
 rw [hr] at hj
 obtain rfl := List.mem_singleton.1 hj
 exact wpOp_step (by rw [nthO_eq]; exact hi) (fun K' hK => h K' (fun a w h0 h1 hW => hK a w ⟨⟨h0, fun _ _ => h1⟩, hW h0 h1⟩))
theorem late_op (hi : nthO i l = some oi) (hr : Region.ready md l.toArray listed = [i]) (hiq : (i == q) = true)
  (h : ∀ K' : Act → World → Prop, Shut (∀ a w, S0 w → (S0 w → anyL P md l.toArray Q S0 S1 q fuel (listed.setIfInBounds i true) a w) → K' a w) → if Region.wanted oi (yielded l.toArray a.tmps) = true then Oper.wp P oi a w K' Q else K' (a.put oi.dst undef) w) :
  anyL P md l.toArray Q S0 S1 q (fuel + 1) listed a w := by
 refine ⟨fun h0 => (by rw [hr] at h0; cases h0), fun j hj => ?_⟩
 rw [hr] at hj
 obtain rfl := List.mem_singleton.1 hj
 exact wpOp_step (by rw [nthO_eq]; exact hi) (fun K' hK => h K' (fun a w h0 hW => hK a w ⟨⟨h0, fun hn => absurd (by simpa using hiq) hn⟩, hW h0⟩))
theorem anyL_done {l : Array Oper} {listed : Array Bool} {a : Act} {w : World} (hr : Region.ready md l listed = []) (h : Q .normal a w) : ∀ fuel, anyL P md l Q S0 S1 q fuel listed a w
 | 0 => ⟨hr, h⟩
 | _ + 1 => ⟨fun _ => h, by rw [hr]; simp⟩
end
end Go.Proofs.Ytojcdmgcbgpdmaa.Reg

set_option linter.unusedSimpArgs false
namespace Go.Proofs.Ytojcdmgcbgpdmaa.L6
open L4 (K isK cmpK R inR encU)
open L5 (F isR isN cellsF encR eqR Small)
open Go.ChangeShapes Go.WideShapes Go.ChangeAt Go.RowKit Mem Sl Ex L2 Sv Bag

set_option maxHeartbeats 2000000 in
theorem l6Item_any (kd n : Int) (s : ByteArray) (a : Option Addr) (c : Nat) (l : List F) (hl : l.length ≤ 1048576) (w : World) (hr : Reads w w.heap.size a (cellsF l)) :
  Calls Try.prog 123 #[.agg #[.int .i64 kd, .int .i64 n, .string s, .slice a l.length c]] w (GaveI w ⟨⟨kd, n, s⟩, l⟩) := by
 have HC := Lib.hid (fun w' (h : Below w.heap.size w w') => L5.l5Copy_any a c l (by have := hl; omega) w' ((hr.below h).more h.size))
 obtain ⟨N, hN⟩ : ∃ n, n = l.length := ⟨_, rfl⟩
 rw [← hN] at HC ⊢
 have HN := Lib.hid hN
 clear hN hr hl
 have S1 := Lib.hid (show Sl.Sep w _ [_, _] from L4.push_box (L4.push_box (Sl.Sep.start w) 40 #[.int .i64 kd, .int .i64 n, .string s, .slice a N c] (w.heap.size) (by simp)) 40 #[.int .i64 0, .int .i64 0, .string ⟨#[]⟩, .slice none 0 0] (w.heap.size + 1) (by simp))
 obtain ⟨wa, hwa⟩ : ∃ u, u = ((w.alloc (.cells #[.int .i64 kd, .int .i64 n, .string s, .slice a N c] 40)).alloc (.cells #[.int .i64 0, .int .i64 0, .string ⟨#[]⟩, .slice none 0 0] 40)) := ⟨_, rfl⟩
 rw [← hwa] at S1
 go_enter Try.func123, Try.ntmps123
 go_upto_region 1 with fail
 rw [← hwa]
 clear hwa
 go_upto_region 1 with fail
 refine wp_region_held_drew (S := (fun w' => (w'.cell? ⟨w.heap.size, 0, none⟩ = some (.int .i64 kd) ∧ w'.cell? ⟨w.heap.size, 1, none⟩ = some (.int .i64 n) ∧ w'.cell? ⟨w.heap.size, 2, none⟩ = some (.string s) ∧ w'.cell? ⟨w.heap.size, 3, none⟩ = some (.slice a N c)))) (by kernel_rfl) (Bag.cs4 (Bag.drew1 S1.out) 0 rfl) (fun hS => ?_)
 have S2 := Lib.hid (Bag.drew1 S1.out)
 clear S1
 generalize World.drew _ = w1 at hS S2 ⊢
 refine tk 0 rfl ?_
 try simp only [zp0, zp1, zp2, zp3, zp4]
 refine tk 1 rfl ?_
 try simp only [zp0, zp1, zp2, zp3, zp4]
 refine tk 2 rfl ?_
 try simp only [zp0, zp1, zp2, zp3, zp4]
 refine tk 3 rfl ?_
 try simp only [zp0, zp1, zp2, zp3, zp4]
 refine Reg.one_op (i := 4) rfl (by kernel_rfl) (fun K hK => ?_)
 go_simp
 go_at_call 89
 refine (HC.out _ S2.out.old).mono ?_
 rintro e w2 ⟨a1, c1, rfl, ho, hb⟩
 have S3 := Lib.hid (show Sl.Sep w _ [_, _, Sv.ownV 128 2 a1 c1 N (cellsF l)] from Sv.push_own S2.out hb ho)
 clear S2
 clear hb ho
 go_wp2_with fail
 refine hK.out _ _ (Bag.cs4 S3.out 0 rfl) (fun hS => ?_)
 clear hK K
 try simp only [zp0, zp1, zp2, zp3, zp4]
 refine tk 5 rfl ?_
 try simp only [zp0, zp1, zp2, zp3, zp4]
 refine Reg.one_op (i := 6) rfl (by kernel_rfl) (fun K hK => ?_)
 obtain ⟨f0, f1, f2, f3⟩ := Bag.cs4 S3.out 1 rfl
 obtain ⟨z0, z1, z2, z3⟩ := Bag.fs4 S3.out 1 rfl
 go_simp
 clear f0 f1 f2 f3 z0 z1 z2 z3
 have S4 := Lib.hid (show Sl.Sep w _ [_, L4.boxR (w.heap.size + 1) 40 #[.int .i64 kd, .int .i64 n, .string s, .slice a1 N c1], _] from L5.put_box5 (L5.put_box5 (L5.put_box5 (L5.put_box5 (S3.out) 1 rfl 0 (.int .i64 kd)) 1 rfl 1 (.int .i64 n)) 1 rfl 2 (.string s)) 1 rfl 3 (.slice a1 N c1))
 clear S3
 refine hK.out _ _ (Bag.cs4 S4.out 0 rfl) (fun hS => ?_)
 clear hK K
 try simp only [zp0, zp1, zp2, zp3, zp4]
 refine wpAnyH_done (by kernel_rfl) ?_ _
 obtain ⟨f0, f1, f2, f3⟩ := Bag.cs4 S4.out 0 rfl
 obtain ⟨f4, f5, f6, f7⟩ := Bag.cs4 S4.out 1 rfl
 go_wp2_with fail
 refine bodyPost_ret (v := .agg #[.int .i64 kd, .int .i64 n, .string s, .slice a1 N c1]) (by simp [results, Try.results123, go_sem, *]) rfl ?_
 have hb := Bag.bag_from (Bag.bag_of_one S4.out 2 (r := (LI.mk ⟨kd, n, s⟩ a1 c1 l).row) (by show some _ = some _; rw [HN.out]; rfl)) 2 rfl
 exact ⟨a1, c1, by rw [HN.out], hb, S4.out.old⟩
theorem infoItem : (Try.prog.info? 40).map (fun i => (i.zero, i.size, i.bytes)) = some (some (.agg #[.int .i64 0, .int .i64 0, .string ⟨#[]⟩, .slice none 0 0]), 4, 56) := by kernel_rfl
theorem itemInfo : ∃ i, Try.prog.info? 40 = some i ∧ i.zero = some (.agg #[.int .i64 0, .int .i64 0, .string ⟨#[]⟩, .slice none 0 0]) ∧ i.size = 4 ∧ i.bytes = 56 := by
 have h := infoItem
 rw [Option.map_eq_some_iff] at h
 obtain ⟨i, h1, h2⟩ := h
 simp only [Prod.mk.injEq] at h2
 exact ⟨i, h1, h2⟩
theorem readsI_at {w : World} {B : Nat} {ad : Addr} {xs : List LI} (h : Reads w B (some ad) (cellsI xs)) (j : Nat) (x : LI) (hx : xs[j]? = some x) :
  w.cell? (ad.add (j * 4)) = some (.int .i64 x.k.kind) ∧ w.cell? ⟨(ad.add (j * 4)).block, (ad.add (j * 4)).off + 1, none⟩ = some (.int .i64 x.k.n) ∧ w.cell? ⟨(ad.add (j * 4)).block, (ad.add (j * 4)).off + 2, none⟩ = some (.string x.k.text) ∧ w.cell? ⟨(ad.add (j * 4)).block, (ad.add (j * 4)).off + 3, none⟩ = some (.slice x.a x.l.length x.c) := by
 obtain ⟨hj, rfl⟩ := List.getElem?_eq_some_iff.1 hx
 obtain ⟨ad', e, _, h1⟩ := readsI h j hj
 injection e with e
 subst e
 exact h1
theorem readsI_some {w : World} {B : Nat} {a : Option Addr} {xs : List LI} (h : Reads w B a (cellsI xs)) (j : Nat) (hj : j < xs.length) : ∃ ad x, a = some ad ∧ xs[j]? = some x := by
 obtain ⟨ad, e, _⟩ := readsI h j hj
 exact ⟨ad, _, e, List.getElem?_eq_getElem hj⟩
theorem conI_take {xs : List LI} {j : Nat} {x : LI} (hx : xs[j]? = some x) : (conI xs).take (j + 1) = (conI xs).take j ++ [x.con] := by
 obtain ⟨hj, rfl⟩ := List.getElem?_eq_some_iff.1 hx
 rw [List.take_succ_eq_append_getElem (by simpa using hj), conI_get _ _ hj]
theorem rowsI_mem {xs : List LI} {j : Nat} {x : LI} (hx : xs[j]? = some x) : x.row ∈ rowsI xs := by
 obtain ⟨hj, rfl⟩ := List.getElem?_eq_some_iff.1 hx
 exact rowsI_at xs j hj
theorem fit_at {xs : List LI} {j : Nat} {x : LI} (h : ∀ y ∈ conI xs, FitI y) (hx : xs[j]? = some x) : FitI x.con := by
 obtain ⟨hj, rfl⟩ := List.getElem?_eq_some_iff.1 hx
 exact h _ (List.mem_map.2 ⟨_, List.getElem_mem hj, rfl⟩)
set_option maxHeartbeats 4000000 in
theorem l6Copy_any (y : LS) (hf : FitS y.con) (w : World) (hr : RowsRd w w.heap.size y.rows) :
  Calls Try.prog 87 #[y.v] w (GaveS w y.con) := by
 obtain ⟨i0, hi1, hi2, hi3, hi4⟩ := itemInfo
 have HI := Lib.hid (And.intro hi1 (And.intro hi2 (And.intro hi3 hi4)))
 clear hi1 hi2 hi3 hi4
 obtain ⟨name, a, c, xs, auto⟩ := y
 have HR := Lib.hid (fun w' (h : Below w.heap.size w w') => LS.outer (hr.below h))
 have HX := Lib.hid (fun w' (h : Below w.heap.size w w') => (LS.inner (hr.below h)).more h.size)
 have HF := Lib.hid hf.items
 have hl := hf.len
 simp only [LS.con, conI_length] at hl
 unfold LS.v LS.cells LS.con
 dsimp only at HR HX HF hl ⊢
 obtain ⟨N, hN⟩ : ∃ n, n = xs.length := ⟨_, rfl⟩
 rw [← hN] at hl ⊢
 have hl' : (N : Int) ≤ 1048576 := by omega
 have HN := Lib.hid hN
 clear hN hr hf
 have S1 := Lib.hid (show Sl.Sep w _ [_, _] from L4.push_box (L4.push_box (Sl.Sep.start w) 26 #[.string name, .slice a N c, .int .i64 auto] (w.heap.size) (by simp)) 26 #[.string ⟨#[]⟩, .slice none 0 0, .int .i64 0] (w.heap.size + 1) (by simp))
 obtain ⟨wa, hwa⟩ : ∃ u, u = ((w.alloc (.cells #[.string name, .slice a N c, .int .i64 auto] 26)).alloc (.cells #[.string ⟨#[]⟩, .slice none 0 0, .int .i64 0] 26)) := ⟨_, rfl⟩
 rw [← hwa] at S1
 go_enter Try.func87, Try.ntmps87
 go_upto_region 1 with fail
 rw [← hwa]
 clear hwa
 obtain ⟨f0, f1, f2⟩ := Bag.cs3 S1.out 0 rfl
 obtain ⟨f3, f4, f5⟩ := Bag.cs3 S1.out 1 rfl
 go_upto_region 2 with fail
 clear f0 f1 f2 f3 f4 f5
 have S2 := Lib.hid (show Sl.Sep w _ [_, _, _] from L4.push_box S1.out 26 #[.string name, .slice none 0 0, .int .i64 auto] wa.heap.size rfl)
 clear S1
 obtain ⟨g1, hg⟩ : ∃ g', g' = wa.heap.size := ⟨_, rfl⟩
 rw [← hg] at S2 ⊢
 clear hg
 generalize wa.alloc (.cells #[.string name, .slice none 0 0, .int .i64 auto] 26) = w1 at S2 ⊢
 have S3 := Lib.hid (show Sl.Sep w _ [_, _, L4.boxR g1 26 #[.string name, .slice none 0 0, .int .i64 auto], Sv.ownV 40 4 none 0 0 (cellsI [])] from Sv.push_own S2.out (Below.refl _ _) (OwnV.nil _ _ _ _))
 clear S2
 have S4 := Lib.hid (show Sl.Sep w _ [_, _, _, _, Bag.bag (rowsI [])] from Bag.push_bag S3.out (Below.refl _ _) (Bag.BagOwn.nil _ _))
 clear S3
 go_wp2_with fail
 go_loopw [4] (fun i wr => ∃ (k : Nat) (A : Option Addr) (C : Nat) (ys : List LI), k ≤ N ∧ i = .int .i64 k ∧ Hid (conI ys = (conI xs).take k ∧ Sl.Sep w wr [L4.boxR w.heap.size 26 #[.string name, .slice a N c, .int .i64 auto], L4.boxR (w.heap.size + 1) 26 #[.string ⟨#[]⟩, .slice none 0 0, .int .i64 0], L4.boxR g1 26 #[.string name, .slice A k C, .int .i64 auto], Sv.ownV 40 4 A C k (cellsI ys), Bag.bag (rowsI ys)])) (fun i _ => N - (intOf i).toNat)
 case atStart => exact ⟨0, none, 0, [], Nat.zero_le _, rfl, rfl, S4.out⟩
 case round =>
  obtain ⟨k, A, C, ys, hk, rfl, hrel⟩ := hrel
  have HC := Lib.hid hrel.out.1
  have S5 := Lib.hid hrel.out.2
  clear hrel S4
  by_cases hlt : (k : Int) < (N : Int)
  ·
   skip
   have hkl : k < xs.length := by have := HN.out; omega
   obtain ⟨ad, x, rfl, hx⟩ := readsI_some (HR.out _ S5.out.old) k hkl
   obtain ⟨⟨kd, n, t⟩, ia, ic, l⟩ := x
   have HK := Lib.hid (fun w' (h : Below w.heap.size w w') => readsI_at (HR.out _ h) k _ hx)
   try dsimp only at HK
   have HCI := Lib.hid (fun w' (h : Below w.heap.size w w') => l6Item_any kd n t ia ic l (fit_at HF.out hx).len w' (((HX.out _ h).at_ (rowsI_mem hx)).reads))
   try dsimp only at HCI
   have HT := Lib.hid (conI_take hx)
   clear hx
   obtain ⟨f0, f1, f2⟩ := Bag.cs3 S5.out 0 rfl
   obtain ⟨f3, f4, f5⟩ := Bag.cs3 S5.out 1 rfl
   obtain ⟨f6, f7, f8⟩ := Bag.cs3 S5.out 2 rfl
   obtain ⟨f9, f10, f11, f12⟩ := HK.out _ S5.out.old
   go_upto_region 5 with fail
   clear f0 f1 f2 f3 f4 f5 f6 f7 f8 f9 f10 f11 f12
   refine Reg.wp_region_late (fun w' => (w'.cell? ⟨w.heap.size, 0, none⟩ = some (.string name) ∧ w'.cell? ⟨w.heap.size, 1, none⟩ = some (.slice (some ad) N c) ∧ w'.cell? ⟨w.heap.size, 2, none⟩ = some (.int .i64 auto)) ∧ (w'.cell? (ad.add (k * 4)) = some (.int .i64 kd) ∧ w'.cell? (⟨(ad.add (k * 4)).block, (ad.add (k * 4)).off + 1, none⟩) = some (.int .i64 n) ∧ w'.cell? (⟨(ad.add (k * 4)).block, (ad.add (k * 4)).off + 2, none⟩) = some (.string t) ∧ w'.cell? (⟨(ad.add (k * 4)).block, (ad.add (k * 4)).off + 3, none⟩) = some (.slice ia l.length ic))) (fun w' => (w'.cell? ⟨g1, 0, none⟩ = some (.string name) ∧ w'.cell? ⟨g1, 1, none⟩ = some (.slice A k C) ∧ w'.cell? ⟨g1, 2, none⟩ = some (.int .i64 auto))) 11 (by kernel_rfl) ⟨Bag.cs3 (Bag.drew1 S5.out) 0 rfl, HK.out _ (Bag.drew1 S5.out).old⟩ (Bag.cs3 (Bag.drew1 S5.out) 2 rfl) (fun hS hL => ?_)
   have S6 := Lib.hid (Bag.drew1 S5.out)
   clear S5
   generalize World.drew _ = w2 at hS hL S6 ⊢
   refine Reg.early_op (i := 0) (v := ?_) rfl (by kernel_rfl) (by kernel_rfl) (by kernel_rfl) rfl (by kernel_rfl) (by kernel_rfl) (fun _ _ _ h => h) (by rfl) ?_ hS hL ?_
   rotate_left
   ·
    (intro w hSw hSv; (try dsimp only at hSw); (try dsimp only at hSv); go_simp; try with_reducible rfl)
   try simp only [zp0, zp1, zp2, zp3, zp4]
   refine Reg.early_op (i := 1) (v := ?_) rfl (by kernel_rfl) (by kernel_rfl) (by kernel_rfl) rfl (by kernel_rfl) (by kernel_rfl) (fun _ _ _ h => h) (by rfl) ?_ hS hL ?_
   rotate_left
   ·
    (intro w hSw hSv; (try dsimp only at hSw); (try dsimp only at hSv); go_simp; try with_reducible rfl)
   try simp only [zp0, zp1, zp2, zp3, zp4]
   refine Reg.early_op (i := 2) (v := ?_) rfl (by kernel_rfl) (by kernel_rfl) (by kernel_rfl) rfl (by kernel_rfl) (by kernel_rfl) (fun _ _ _ h => h) (by rfl) ?_ hS hL ?_
   rotate_left
   ·
    (intro w hSw hSv; (try dsimp only at hSw); (try dsimp only at hSv); go_simp; try with_reducible rfl)
   try simp only [zp0, zp1, zp2, zp3, zp4]
   refine Reg.early_op (i := 3) (v := ?_) rfl (by kernel_rfl) (by kernel_rfl) (by kernel_rfl) rfl (by kernel_rfl) (by kernel_rfl) (fun _ _ _ h => h) (by rfl) ?_ hS hL ?_
   rotate_left
   ·
    (intro w hSw hSv; (try dsimp only at hSw); (try dsimp only at hSv); go_simp; try with_reducible rfl)
   try simp only [zp0, zp1, zp2, zp3, zp4]
   refine Reg.early_op (i := 4) (v := ?_) rfl (by kernel_rfl) (by kernel_rfl) (by kernel_rfl) rfl (by kernel_rfl) (by kernel_rfl) (fun _ _ _ h => h) (by rfl) ?_ hS hL ?_
   rotate_left
   ·
    (intro w hSw hSv; (try dsimp only at hSw); (try dsimp only at hSv); go_simp; try with_reducible rfl)
   try simp only [zp0, zp1, zp2, zp3, zp4]
   refine Reg.early_op (i := 5) (v := ?_) rfl (by kernel_rfl) (by kernel_rfl) (by kernel_rfl) rfl (by kernel_rfl) (by kernel_rfl) (fun _ _ _ h => h) (by rfl) ?_ hS hL ?_
   rotate_left
   ·
    (intro w hSw hSv; (try dsimp only at hSw); (try dsimp only at hSv); go_simp; try with_reducible rfl)
   try simp only [zp0, zp1, zp2, zp3, zp4]
   refine Reg.early_op (i := 6) (v := ?_) rfl (by kernel_rfl) (by kernel_rfl) (by kernel_rfl) rfl (by kernel_rfl) (by kernel_rfl) (fun _ _ _ h => h) (by rfl) ?_ hS hL ?_
   rotate_left
   ·
    (intro w hSw hSv; (try dsimp only at hSw); (try dsimp only at hSv); go_simp; try with_reducible rfl)
   try simp only [zp0, zp1, zp2, zp3, zp4]
   refine Reg.only_op (i := 7) rfl (by kernel_rfl) (fun K hK => ?_)
   go_simp
   go_at_call 123
   refine (HCI.out _ S6.out.old).mono ?_
   rintro e w3 ⟨a1, c1, rfl, ho, hb⟩
   have S7 := Lib.hid (show Sl.Sep w _ [_, _, _, _, _, Bag.bag ([(LI.mk ⟨kd, n, t⟩ a1 c1 l).row])] from Bag.push_bag S6.out hb ho)
   clear S6
   clear hb ho
   go_wp2_with fail
   clear hL
   refine hK.out _ _ ⟨Bag.cs3 S7.out 0 rfl, HK.out _ S7.out.old⟩ (Bag.cs3 S7.out 2 rfl) (fun hS hL => ?_)
   clear hK K
   try simp only [zp0, zp1, zp2, zp3, zp4]
   refine Reg.only_op (i := 8) rfl (by kernel_rfl) (fun K hK => ?_)
   go_simp
   have S8 := Lib.hid (show Sl.Sep w _ [_, _, _, _, _, _, Sv.ownV 40 4 (some ⟨w3.heap.size, 0, none⟩) 1 1 (cellsI [⟨⟨kd, n, t⟩, a1, c1, l⟩])] from Sv.push_own S7.out ((Below.refl _ _).alloc (Nat.le_refl _) _) (OwnV.madeAt w3 40 4 1 w3.heap.size #[.int .i64 kd, .int .i64 n, .string t, .slice a1 l.length c1] rfl (Nat.le_refl _) rfl (by decide)))
   clear S7
   obtain ⟨g2, hg⟩ : ∃ g', g' = w3.heap.size := ⟨_, rfl⟩
   rw [← hg] at S8 ⊢
   clear hg
   generalize w3.alloc (.cells #[.int .i64 kd, .int .i64 n, .string t, .slice a1 l.length c1] 40) = w4 at S8 ⊢
   clear hL
   refine hK.out _ _ ⟨Bag.cs3 S8.out 0 rfl, HK.out _ S8.out.old⟩ (Bag.cs3 S8.out 2 rfl) (fun hS hL => ?_)
   clear hK K
   try simp only [zp0, zp1, zp2, zp3, zp4]
   refine Reg.only_op (i := 9) rfl (by kernel_rfl) (fun K hK => ?_)
   refine Sv.step_append_s S8.out 3 rfl rfl _ _ 24 (by rfl) i0 (.agg #[.int .i64 0, .int .i64 0, .string ⟨#[]⟩, .slice none 0 0]) 56 Try.underlying24 HI.out.1 HI.out.2.1 HI.out.2.2.1 HI.out.2.2.2 rfl (by omega) _ (by rfl) rfl _ _ 1 _ _ (cellsI [⟨⟨kd, n, t⟩, a1, c1, l⟩]) (by rfl) rfl ((Sv.own_at S8.out 6 rfl).reads) rfl (cellsI_one _) (by unfold maxLen; omega) (by omega) ?_
   intro a3' c3' w5 hA
   have S9 := Lib.hid (show Sl.Sep w _ [_, _, _, Sv.ownV 40 4 a3' c3' (k + 1) (cellsI ys ++ (cellsI [⟨⟨kd, n, t⟩, a1, c1, l⟩])), _, _, Sv.ownV 40 4 (some ⟨g2, 0, none⟩) 1 1 (cellsI [⟨⟨kd, n, t⟩, a1, c1, l⟩])] from hA)
   clear S8
   clear hA
   clear hL
   refine hK.out _ _ ⟨Bag.cs3 S9.out 0 rfl, HK.out _ S9.out.old⟩ (Bag.cs3 S9.out 2 rfl) (fun hS hL => ?_)
   clear hK K
   try simp only [zp0, zp1, zp2, zp3, zp4]
   refine Reg.early_op (i := 10) (v := ?_) rfl (by kernel_rfl) (by kernel_rfl) (by kernel_rfl) rfl (by kernel_rfl) (by kernel_rfl) (fun _ _ _ h => h) (by rfl) ?_ hS hL ?_
   rotate_left
   ·
    (intro w hSw hSv; (try dsimp only at hSw); (try dsimp only at hSv); go_simp; try with_reducible rfl)
   try simp only [zp0, zp1, zp2, zp3, zp4]
   refine Reg.late_op (i := 11) rfl (by kernel_rfl) rfl (fun K hK => ?_)
   obtain ⟨f0, f1, f2⟩ := Bag.cs3 S9.out 2 rfl
   obtain ⟨z0, z1, z2⟩ := Bag.fs3 S9.out 2 rfl
   go_simp
   clear f0 f1 f2 z0 z1 z2
   have S10 := Lib.hid (show Sl.Sep w _ [_, _, L4.boxR g1 26 #[.string name, .slice a3' (k + 1) c3', .int .i64 auto], _, _, _, _] from L5.put_box5 (S9.out) 2 rfl 1 (.slice a3' (k + 1) c3'))
   clear S9
   refine hK.out _ _ ⟨Bag.cs3 S10.out 0 rfl, HK.out _ S10.out.old⟩ (fun hS => ?_)
   clear hL
   clear hK K
   try simp only [zp0, zp1, zp2, zp3, zp4]
   refine Reg.anyL_done (by kernel_rfl) ?_ _
   obtain ⟨f0, f1, f2⟩ := Bag.cs3 S10.out 0 rfl
   obtain ⟨f3, f4, f5⟩ := Bag.cs3 S10.out 1 rfl
   obtain ⟨f6, f7, f8⟩ := Bag.cs3 S10.out 2 rfl
   obtain ⟨f9, f10, f11, f12⟩ := HK.out _ S10.out.old
   clear f0 f1 f2 f3 f4 f5 f6 f7 f8 f9 f10 f11 f12
   have S11 := Lib.hid (show Sl.Sep w _ [_, _, _, _, Bag.bag (rowsI ys ++ ([(LI.mk ⟨kd, n, t⟩ a1 c1 l).row])), Bag.bag ([]), _] from Bag.bag_join S10.out 4 5 (by decide) rfl rfl)
   clear S10
   have S12 := Lib.hid (show Sl.Sep w _ [_, _, _, _, _] from Bag.take S11.out [0, 1, 2, 3, 4] (by rfl) (by decide))
   clear S11
   obtain ⟨f0, f1, f2⟩ := Bag.cs3 S12.out 0 rfl
   obtain ⟨f3, f4, f5⟩ := Bag.cs3 S12.out 1 rfl
   obtain ⟨f6, f7, f8⟩ := Bag.cs3 S12.out 2 rfl
   obtain ⟨f9, f10, f11, f12⟩ := HK.out _ S12.out.old
   go_wp2_with fail
   go_roundw
   case rel =>
    refine ⟨k + 1, a3', c3', ys ++ [⟨⟨kd, n, t⟩, a1, c1, l⟩], by omega, by go_num, And.intro ?_ ?_⟩
    ·
     rw [HT.out, ← HC.out]; exact List.map_append
    ·
     rw [cellsI_append, rowsI_append]; exact S12.out
   case measure => simp [intOf]; omega
  ·
   skip
   obtain ⟨f0, f1, f2⟩ := Bag.cs3 S5.out 0 rfl
   obtain ⟨f3, f4, f5⟩ := Bag.cs3 S5.out 1 rfl
   obtain ⟨f6, f7, f8⟩ := Bag.cs3 S5.out 2 rfl
   obtain ⟨z0, z1, z2⟩ := Bag.fs3 S5.out 1 rfl
   go_wp2_with fail
   clear f0 f1 f2 f3 f4 f5 f6 f7 f8 z0 z1 z2
   have S6 := Lib.hid (show Sl.Sep w _ [L4.boxR w.heap.size 26 #[.string name, .slice a N c, .int .i64 auto], L4.boxR (w.heap.size + 1) 26 #[.string name, .slice A k C, .int .i64 auto], L4.boxR g1 26 #[.string name, .slice A k C, .int .i64 auto], Sv.ownV 40 4 A C k (cellsI ys), Bag.bag (rowsI ys)] from L5.put_box5 (L5.put_box5 (L5.put_box5 (S5.out) 1 rfl 0 (.string name)) 1 rfl 1 (.slice A k C)) 1 rfl 2 (.int .i64 auto))
   clear S5
   obtain ⟨f0, f1, f2⟩ := Bag.cs3 S6.out 1 rfl
   obtain rfl : k = N := by omega
   refine bodyPost_ret (v := .agg #[.string name, .slice A k C, .int .i64 auto]) (by simp [results, Try.results87, go_sem, *]) rfl ?_
   have hlen : k = ys.length := by have h1 := congrArg List.length HC.out; have := HN.out; simp at h1; omega
   have hcon : conI ys = conI xs := by rw [HC.out, List.take_of_length_le (by have := HN.out; simp; omega)]
   subst hlen
   have S90 := Lib.hid (Bag.bag_of_one S6.out 3 (r := rowI A C ys) rfl)
   have S91 := Lib.hid (Bag.bag_join S90.out 3 4 (by decide) rfl rfl)
   exact ⟨⟨name, A, C, ys, auto⟩, rfl, by unfold LS.con; rw [hcon], Bag.bag_from S91.out 3 rfl, S91.out.old⟩
end Go.Proofs.Ytojcdmgcbgpdmaa.L6

set_option linter.unusedSimpArgs false
namespace Go.Proofs.Ytojcdmgcbgpdmaa.L6
open L4 (K isK cmpK R inR encU)
open L5 (F isR isN cellsF encR eqR Small)
open Go.ChangeShapes Go.WideShapes Go.ChangeAt Go.RowKit Mem Sl Ex L2 Sv Bag

theorem key_eq (kd n : Int) (s : ByteArray) (kd2 n2 : Int) (s2 : ByteArray) (w : World) :
  (Op.equalIn 10000 28 (.agg #[.int .i64 kd, .int .i64 n, .string s]) (.agg #[.int .i64 kd2, .int .i64 n2, .string s2])).run Try.prog w = .ok (eqK ⟨kd, n, s⟩ ⟨kd2, n2, s2⟩) w := by
 unfold eqK K.t
 rw [← ByteArray.toList_eq, ← ByteArray.toList_eq]
 cases h1 : kd == kd2 <;> cases h2 : n == n2 <;> cases h3 : s.toList == s2.toList <;> simp [go_sem, h1, h2, h3]
set_option maxHeartbeats 2000000 in
theorem specFindItem_any (y : LS) (k0 : K) (hf : FitS y.con) (w : World) (hr : RowsRd w w.heap.size y.rows) :
  Calls Try.prog 88 #[y.v, k0.v] w fun e w' => e = .returned (.int .i64 (fndI y.con.items k0)) ∧ Below w.heap.size w w' := by
 obtain ⟨name, a, c, xs, auto⟩ := y
 have HR := Lib.hid (fun w' (h : Below w.heap.size w w') => LS.outer (hr.below h))
 have HX := Lib.hid (fun w' (h : Below w.heap.size w w') => (LS.inner (hr.below h)).more h.size)
 have HF := Lib.hid hf.items
 have HNM := Lib.hid hf.name
 have hl := hf.len
 simp only [LS.con, conI_length] at hl
 dsimp only [LS.con] at HR HX HF HNM
 try unfold LS.v LS.cells LS.con
 try dsimp only
 obtain ⟨N, hN⟩ : ∃ n, n = xs.length := ⟨_, rfl⟩
 rw [← hN] at hl ⊢
 have hl' : (N : Int) ≤ 1048576 := by omega
 have HN := Lib.hid hN
 clear hN hr hf
 obtain ⟨kd2, n2, t2⟩ := k0
 unfold L4.K.v
 have S1 := Lib.hid (show Sl.Sep w _ [_, _] from L4.push_box (L4.push_box (Sl.Sep.start w) 26 #[.string name, .slice a N c, .int .i64 auto] (w.heap.size) (by simp)) 28 #[.int .i64 kd2, .int .i64 n2, .string t2] (w.heap.size + 1) (by simp))
 obtain ⟨wa, hwa⟩ : ∃ u, u = ((w.alloc (.cells #[.string name, .slice a N c, .int .i64 auto] 26)).alloc (.cells #[.int .i64 kd2, .int .i64 n2, .string t2] 28)) := ⟨_, rfl⟩
 rw [← hwa] at S1
 go_enter Try.func88, Try.ntmps88
 go_upto_region 1 with fail
 rw [← hwa]
 clear hwa
 go_wp2_with fail
 go_loopw [5] (fun i wr => ∃ k : Nat, k ≤ N ∧ i = .int .i64 k ∧ Hid ((∀ j (hj : j < (conI xs).length), j < k → eqK (conI xs)[j].k ⟨kd2, n2, t2⟩ = false) ∧ Sl.Sep w wr [L4.boxR w.heap.size 26 #[.string name, .slice a N c, .int .i64 auto], L4.boxR (w.heap.size + 1) 28 #[.int .i64 kd2, .int .i64 n2, .string t2]])) (fun i _ => N - (intOf i).toNat)
 case atStart => exact ⟨0, Nat.zero_le _, rfl, And.intro (fun j hj h => absurd h (by omega)) S1.out⟩
 case round =>
  obtain ⟨k, hk, rfl, hrel⟩ := hrel
  have HA := Lib.hid hrel.out.1
  have S2 := Lib.hid hrel.out.2
  clear hrel S1
  by_cases hlt : (k : Int) < (N : Int)
  ·
   skip
   have hkl : k < xs.length := by have := HN.out; omega
   obtain ⟨ad, x, rfl, hx⟩ := readsI_some (HR.out _ S2.out.old) k hkl
   obtain ⟨⟨kd, n, t⟩, ia, ic, l⟩ := x
   have HK := Lib.hid (fun w' (h : Below w.heap.size w w') => readsI_at (HR.out _ h) k _ hx)
   try dsimp only at HK
   have HFI := Lib.hid (fit_at HF.out hx)
   try dsimp only [LI.con] at HFI
   have hci : k < (conI xs).length := by rw [conI_length]; exact hkl
   have HC := Lib.hid (show (conI xs)[k] = ⟨⟨kd, n, t⟩, l⟩ by rw [conI_get xs k hkl]; rw [List.getElem?_eq_getElem hkl] at hx; rw [Option.some.inj hx]; rfl)
   clear hx
   obtain ⟨b, hb⟩ : ∃ b, eqK ⟨kd, n, t⟩ ⟨kd2, n2, t2⟩ = b := ⟨_, rfl⟩
   have HE := fun w => key_eq kd n t kd2 n2 t2 w
   rw [hb] at HE
   have HB := Lib.hid hb
   clear hb
   obtain ⟨f0, f1, f2⟩ := Bag.cs3 S2.out 0 rfl
   obtain ⟨f3, f4, f5⟩ := Bag.cs3 S2.out 1 rfl
   obtain ⟨f6, f7, f8, f9⟩ := HK.out _ S2.out.old
   cases b with
   | true =>
    go_upto_region 4 with fail
    clear f0 f1 f2 f3 f4 f5 f6 f7 f8 f9
    refine wp_region_held_drew (S := (fun w' => (w'.cell? ⟨w.heap.size, 0, none⟩ = some (.string name) ∧ w'.cell? ⟨w.heap.size, 1, none⟩ = some (.slice (some ad) N c) ∧ w'.cell? ⟨w.heap.size, 2, none⟩ = some (.int .i64 auto)) ∧ (w'.cell? ⟨w.heap.size + 1, 0, none⟩ = some (.int .i64 kd2) ∧ w'.cell? ⟨w.heap.size + 1, 1, none⟩ = some (.int .i64 n2) ∧ w'.cell? ⟨w.heap.size + 1, 2, none⟩ = some (.string t2)) ∧ (w'.cell? (ad.add (k * 4)) = some (.int .i64 kd) ∧ w'.cell? (⟨(ad.add (k * 4)).block, (ad.add (k * 4)).off + 1, none⟩) = some (.int .i64 n) ∧ w'.cell? (⟨(ad.add (k * 4)).block, (ad.add (k * 4)).off + 2, none⟩) = some (.string t) ∧ w'.cell? (⟨(ad.add (k * 4)).block, (ad.add (k * 4)).off + 3, none⟩) = some (.slice ia l.length ic)))) (by kernel_rfl) ⟨Bag.cs3 (Bag.drew1 S2.out) 0 rfl, Bag.cs3 (Bag.drew1 S2.out) 1 rfl, HK.out _ (Bag.drew1 S2.out).old⟩ (fun hS => ?_)
    have S3 := Lib.hid (Bag.drew1 S2.out)
    clear S2
    generalize World.drew _ = w1 at hS S3 ⊢
    refine tk 0 rfl ?_
    try simp only [zp0, zp1, zp2, zp3, zp4]
    refine tk 1 rfl ?_
    try simp only [zp0, zp1, zp2, zp3, zp4]
    refine tk 2 rfl ?_
    try simp only [zp0, zp1, zp2, zp3, zp4]
    refine tk 3 rfl ?_
    try simp only [zp0, zp1, zp2, zp3, zp4]
    refine tk 4 rfl ?_
    try simp only [zp0, zp1, zp2, zp3, zp4]
    refine tk 5 rfl ?_
    try simp only [zp0, zp1, zp2, zp3, zp4]
    refine tk 6 rfl ?_
    try simp only [zp0, zp1, zp2, zp3, zp4]
    refine tk 7 rfl ?_
    try simp only [zp0, zp1, zp2, zp3, zp4]
    refine wpAnyH_done (by kernel_rfl) ?_ _
    obtain ⟨f0, f1, f2⟩ := Bag.cs3 S3.out 0 rfl
    obtain ⟨f3, f4, f5⟩ := Bag.cs3 S3.out 1 rfl
    obtain ⟨f6, f7, f8, f9⟩ := HK.out _ S3.out.old
    go_wp2_with fail
    go_ret
    exact ⟨by unfold fndI; rw [fndO_at k hci (by rw [HC.out]; exact HB.out) HA.out]; rfl, S3.out.old⟩
   | false =>
    go_upto_region 4 with fail
    clear f0 f1 f2 f3 f4 f5 f6 f7 f8 f9
    refine wp_region_held_drew (S := (fun w' => (w'.cell? ⟨w.heap.size, 0, none⟩ = some (.string name) ∧ w'.cell? ⟨w.heap.size, 1, none⟩ = some (.slice (some ad) N c) ∧ w'.cell? ⟨w.heap.size, 2, none⟩ = some (.int .i64 auto)) ∧ (w'.cell? ⟨w.heap.size + 1, 0, none⟩ = some (.int .i64 kd2) ∧ w'.cell? ⟨w.heap.size + 1, 1, none⟩ = some (.int .i64 n2) ∧ w'.cell? ⟨w.heap.size + 1, 2, none⟩ = some (.string t2)) ∧ (w'.cell? (ad.add (k * 4)) = some (.int .i64 kd) ∧ w'.cell? (⟨(ad.add (k * 4)).block, (ad.add (k * 4)).off + 1, none⟩) = some (.int .i64 n) ∧ w'.cell? (⟨(ad.add (k * 4)).block, (ad.add (k * 4)).off + 2, none⟩) = some (.string t) ∧ w'.cell? (⟨(ad.add (k * 4)).block, (ad.add (k * 4)).off + 3, none⟩) = some (.slice ia l.length ic)))) (by kernel_rfl) ⟨Bag.cs3 (Bag.drew1 S2.out) 0 rfl, Bag.cs3 (Bag.drew1 S2.out) 1 rfl, HK.out _ (Bag.drew1 S2.out).old⟩ (fun hS => ?_)
    have S3 := Lib.hid (Bag.drew1 S2.out)
    clear S2
    generalize World.drew _ = w1 at hS S3 ⊢
    refine tk 0 rfl ?_
    try simp only [zp0, zp1, zp2, zp3, zp4]
    refine tk 1 rfl ?_
    try simp only [zp0, zp1, zp2, zp3, zp4]
    refine tk 2 rfl ?_
    try simp only [zp0, zp1, zp2, zp3, zp4]
    refine tk 3 rfl ?_
    try simp only [zp0, zp1, zp2, zp3, zp4]
    refine tk 4 rfl ?_
    try simp only [zp0, zp1, zp2, zp3, zp4]
    refine tk 5 rfl ?_
    try simp only [zp0, zp1, zp2, zp3, zp4]
    refine tk 6 rfl ?_
    try simp only [zp0, zp1, zp2, zp3, zp4]
    refine tk 7 rfl ?_
    try simp only [zp0, zp1, zp2, zp3, zp4]
    refine wpAnyH_done (by kernel_rfl) ?_ _
    obtain ⟨f0, f1, f2⟩ := Bag.cs3 S3.out 0 rfl
    obtain ⟨f3, f4, f5⟩ := Bag.cs3 S3.out 1 rfl
    obtain ⟨f6, f7, f8, f9⟩ := HK.out _ S3.out.old
    go_wp2_with fail
    go_roundw
    case rel => exact ⟨k + 1, by omega, by go_num, And.intro (fun j hj h => by
     by_cases e : j < k
     ·
      exact HA.out j hj e
     ·
      obtain rfl : j = k := by omega
      rw [HC.out]; exact HB.out) S3.out⟩
    case measure => simp [intOf]; omega
  ·
   skip
   obtain ⟨f0, f1, f2⟩ := Bag.cs3 S2.out 0 rfl
   obtain ⟨f3, f4, f5⟩ := Bag.cs3 S2.out 1 rfl
   go_wp2_with fail
   go_ret
   obtain rfl : k = N := by omega
   exact ⟨by unfold fndI; rw [fndO_none (fun j hj => HA.out j hj (by have := HN.out; rw [conI_length] at hj; omega))]; rfl, S2.out.old⟩
theorem con_of {xs : List LI} {k : Nat} {x : LI} (hx : xs[k]? = some x) : (conI xs)[k]? = some x.con := by unfold conI; rw [List.getElem?_map, hx]; rfl
set_option maxHeartbeats 8000000 in
theorem specIsStore_any (y : LS) (hf : FitS y.con) (w : World) (hr : RowsRd w w.heap.size y.rows) :
  Calls Try.prog 29 #[y.v] w fun e w' => e = .returned (.bool (isS y.con)) ∧ Below w.heap.size w w' := by
 obtain ⟨name, a, c, xs, auto⟩ := y
 have HR := Lib.hid (fun w' (h : Below w.heap.size w w') => LS.outer (hr.below h))
 have HX := Lib.hid (fun w' (h : Below w.heap.size w w') => (LS.inner (hr.below h)).more h.size)
 have HF := Lib.hid hf.items
 have HNM := Lib.hid hf.name
 have hl := hf.len
 simp only [LS.con, conI_length] at hl
 dsimp only [LS.con] at HR HX HF HNM
 try unfold LS.v LS.cells LS.con
 try dsimp only
 obtain ⟨N, hN⟩ : ∃ n, n = xs.length := ⟨_, rfl⟩
 rw [← hN] at hl ⊢
 have hl' : (N : Int) ≤ 1048576 := by omega
 have HN := Lib.hid hN
 clear hN hr hf
 have S1 := Lib.hid (show Sl.Sep w _ [_] from L4.push_box (Sl.Sep.start w) 26 #[.string name, .slice a N c, .int .i64 auto] (w.heap.size) (by simp))
 obtain ⟨wa, hwa⟩ : ∃ u, u = (w.alloc (.cells #[.string name, .slice a N c, .int .i64 auto] 26)) := ⟨_, rfl⟩
 rw [← hwa] at S1
 go_enter Try.func29, Try.ntmps29
 go_upto_region 1 with fail
 rw [← hwa]
 clear hwa
 go_wp2_with fail
 go_loopw [3] (fun i wr => ∃ k : Nat, k ≤ N ∧ i = .int .i64 k ∧ Hid ((∀ j, j < k → okIx (conI xs) j = true) ∧ Sl.Sep w wr [L4.boxR w.heap.size 26 #[.string name, .slice a N c, .int .i64 auto]])) (fun i _ => N - (intOf i).toNat)
 case atStart => exact ⟨0, Nat.zero_le _, rfl, And.intro (fun j h => absurd h (by omega)) S1.out⟩
 case round =>
  obtain ⟨k, hk, rfl, hrel⟩ := hrel
  have HA := Lib.hid hrel.out.1
  have S2 := Lib.hid hrel.out.2
  clear hrel S1
  by_cases hlt : (k : Int) < (N : Int)
  ·
   skip
   have hkl : k < xs.length := by have := HN.out; omega
   obtain ⟨ad, x, rfl, hx⟩ := readsI_some (HR.out _ S2.out.old) k hkl
   obtain ⟨⟨kd, n, t⟩, ia, ic, l⟩ := x
   have HK := Lib.hid (fun w' (h : Below w.heap.size w w') => readsI_at (HR.out _ h) k _ hx)
   try dsimp only at HK
   have HFI := Lib.hid (fit_at HF.out hx)
   try dsimp only [LI.con] at HFI
   have hci : k < (conI xs).length := by rw [conI_length]; exact hkl
   have HC := Lib.hid (show (conI xs)[k]? = some (⟨⟨kd, n, t⟩, l⟩ : It) from con_of hx)
   obtain ⟨bk, hbk⟩ : ∃ b, isK ⟨kd, n, t⟩ = b := ⟨_, rfl⟩
   have HIK := fun w => L4.specIsKey_any ⟨kd, n, t⟩ (by have : t.size ≤ 1099511627776 := HFI.out.text; show t.size ≤ _; omega) w
   rw [hbk] at HIK
   replace HIK := Lib.hid HIK
   have HBK := Lib.hid hbk
   obtain ⟨br, hbr⟩ : ∃ b, isR l = b := ⟨_, rfl⟩
   have HIR := fun w' (h : Below w.heap.size w w') => L5.specIsRecord_any ia ic l (by have : l.length ≤ 1048576 := HFI.out.len; omega) HFI.out.small w' (((HX.out _ h).at_ (rowsI_mem hx)).reads)
   rw [hbr] at HIR
   replace HIR := Lib.hid HIR
   have HBR := Lib.hid hbr
   clear hbk hbr
   obtain ⟨f0, f1, f2⟩ := Bag.cs3 S2.out 0 rfl
   obtain ⟨f3, f4, f5, f6⟩ := HK.out _ S2.out.old
   cases bk with
   | false =>
    go_upto_region 4 with fail
    clear f0 f1 f2 f3 f4 f5 f6
    refine wp_region_held_drew (S := (fun w' => (w'.cell? ⟨w.heap.size, 0, none⟩ = some (.string name) ∧ w'.cell? ⟨w.heap.size, 1, none⟩ = some (.slice (some ad) N c) ∧ w'.cell? ⟨w.heap.size, 2, none⟩ = some (.int .i64 auto)) ∧ (w'.cell? (ad.add (k * 4)) = some (.int .i64 kd) ∧ w'.cell? (⟨(ad.add (k * 4)).block, (ad.add (k * 4)).off + 1, none⟩) = some (.int .i64 n) ∧ w'.cell? (⟨(ad.add (k * 4)).block, (ad.add (k * 4)).off + 2, none⟩) = some (.string t) ∧ w'.cell? (⟨(ad.add (k * 4)).block, (ad.add (k * 4)).off + 3, none⟩) = some (.slice ia l.length ic)))) (by kernel_rfl) ⟨Bag.cs3 (Bag.drew1 S2.out) 0 rfl, HK.out _ (Bag.drew1 S2.out).old⟩ (fun hS => ?_)
    have S3 := Lib.hid (Bag.drew1 S2.out)
    clear S2
    generalize World.drew _ = w1 at hS S3 ⊢
    refine tk 0 rfl ?_
    try simp only [zp0, zp1, zp2, zp3, zp4]
    refine tk 1 rfl ?_
    try simp only [zp0, zp1, zp2, zp3, zp4]
    refine tk 2 rfl ?_
    try simp only [zp0, zp1, zp2, zp3, zp4]
    refine tk 3 rfl ?_
    try simp only [zp0, zp1, zp2, zp3, zp4]
    refine tk 4 rfl ?_
    try simp only [zp0, zp1, zp2, zp3, zp4]
    refine tk 5 rfl ?_
    try simp only [zp0, zp1, zp2, zp3, zp4]
    refine Reg.one_op (i := 6) rfl (by kernel_rfl) (fun K hK => ?_)
    go_simp
    go_at_call 85
    refine (HIK.out _).mono ?_
    rintro e w2 ⟨rfl, hb⟩
    have S4 := Lib.hid (S3.out.keep hb)
    clear S3
    clear hb
    go_wp2_with fail
    refine hK.out _ _ ⟨Bag.cs3 S4.out 0 rfl, HK.out _ S4.out.old⟩ (fun hS => ?_)
    clear hK K
    try simp only [zp0, zp1, zp2, zp3, zp4]
    refine tk 7 rfl ?_
    try simp only [zp0, zp1, zp2, zp3, zp4]
    refine tk 8 rfl ?_
    try simp only [zp0, zp1, zp2, zp3, zp4]
    refine sk 9 rfl ?_
    try simp only [zp0, zp1, zp2, zp3, zp4]
    refine sk 10 rfl ?_
    try simp only [zp0, zp1, zp2, zp3, zp4]
    refine sk 11 rfl ?_
    try simp only [zp0, zp1, zp2, zp3, zp4]
    refine sk 12 rfl ?_
    try simp only [zp0, zp1, zp2, zp3, zp4]
    refine sk 13 rfl ?_
    try simp only [zp0, zp1, zp2, zp3, zp4]
    refine sk 14 rfl ?_
    try simp only [zp0, zp1, zp2, zp3, zp4]
    refine Reg.skip_one (i := 15) rfl (by kernel_rfl) (by rfl) (by assumption) ?_
    try simp only [zp0, zp1, zp2, zp3, zp4]
    refine sk 16 rfl ?_
    try simp only [zp0, zp1, zp2, zp3, zp4]
    refine tk 17 rfl ?_
    try simp only [zp0, zp1, zp2, zp3, zp4]
    refine tk 18 rfl ?_
    try simp only [zp0, zp1, zp2, zp3, zp4]
    refine sk 19 rfl ?_
    try simp only [zp0, zp1, zp2, zp3, zp4]
    refine sk 20 rfl ?_
    try simp only [zp0, zp1, zp2, zp3, zp4]
    refine sk 21 rfl ?_
    try simp only [zp0, zp1, zp2, zp3, zp4]
    refine sk 22 rfl ?_
    try simp only [zp0, zp1, zp2, zp3, zp4]
    refine sk 23 rfl ?_
    try simp only [zp0, zp1, zp2, zp3, zp4]
    refine sk 24 rfl ?_
    try simp only [zp0, zp1, zp2, zp3, zp4]
    refine sk 25 rfl ?_
    try simp only [zp0, zp1, zp2, zp3, zp4]
    refine sk 26 rfl ?_
    try simp only [zp0, zp1, zp2, zp3, zp4]
    refine sk 27 rfl ?_
    try simp only [zp0, zp1, zp2, zp3, zp4]
    refine sk 28 rfl ?_
    try simp only [zp0, zp1, zp2, zp3, zp4]
    refine sk 29 rfl ?_
    try simp only [zp0, zp1, zp2, zp3, zp4]
    refine sk 30 rfl ?_
    try simp only [zp0, zp1, zp2, zp3, zp4]
    refine sk 31 rfl ?_
    try simp only [zp0, zp1, zp2, zp3, zp4]
    refine sk 32 rfl ?_
    try simp only [zp0, zp1, zp2, zp3, zp4]
    refine sk 33 rfl ?_
    try simp only [zp0, zp1, zp2, zp3, zp4]
    refine sk 34 rfl ?_
    try simp only [zp0, zp1, zp2, zp3, zp4]
    refine Reg.skip_one (i := 35) rfl (by kernel_rfl) (by rfl) (by assumption) ?_
    try simp only [zp0, zp1, zp2, zp3, zp4]
    refine sk 36 rfl ?_
    try simp only [zp0, zp1, zp2, zp3, zp4]
    refine sk 37 rfl ?_
    try simp only [zp0, zp1, zp2, zp3, zp4]
    refine tk 38 rfl ?_
    try simp only [zp0, zp1, zp2, zp3, zp4]
    refine wpAnyH_done (by kernel_rfl) ?_ _
    obtain ⟨f0, f1, f2⟩ := Bag.cs3 S4.out 0 rfl
    obtain ⟨f3, f4, f5, f6⟩ := HK.out _ S4.out.old
    have HNO := Lib.hid (show isI (conI xs) = false from isI_no k hci (by rw [okIx_at HC.out]; dsimp only; rw [HBK.out]; rfl))
    go_wp2_with fail
    go_ret
    exact ⟨by unfold isS; rw [HNO.out]; rfl, S4.out.old⟩
   | true =>
    cases br with
    | false =>
     go_upto_region 4 with fail
     clear f0 f1 f2 f3 f4 f5 f6
     refine wp_region_held_drew (S := (fun w' => (w'.cell? ⟨w.heap.size, 0, none⟩ = some (.string name) ∧ w'.cell? ⟨w.heap.size, 1, none⟩ = some (.slice (some ad) N c) ∧ w'.cell? ⟨w.heap.size, 2, none⟩ = some (.int .i64 auto)) ∧ (w'.cell? (ad.add (k * 4)) = some (.int .i64 kd) ∧ w'.cell? (⟨(ad.add (k * 4)).block, (ad.add (k * 4)).off + 1, none⟩) = some (.int .i64 n) ∧ w'.cell? (⟨(ad.add (k * 4)).block, (ad.add (k * 4)).off + 2, none⟩) = some (.string t) ∧ w'.cell? (⟨(ad.add (k * 4)).block, (ad.add (k * 4)).off + 3, none⟩) = some (.slice ia l.length ic)))) (by kernel_rfl) ⟨Bag.cs3 (Bag.drew1 S2.out) 0 rfl, HK.out _ (Bag.drew1 S2.out).old⟩ (fun hS => ?_)
     have S3 := Lib.hid (Bag.drew1 S2.out)
     clear S2
     generalize World.drew _ = w1 at hS S3 ⊢
     refine tk 0 rfl ?_
     try simp only [zp0, zp1, zp2, zp3, zp4]
     refine tk 1 rfl ?_
     try simp only [zp0, zp1, zp2, zp3, zp4]
     refine tk 2 rfl ?_
     try simp only [zp0, zp1, zp2, zp3, zp4]
     refine tk 3 rfl ?_
     try simp only [zp0, zp1, zp2, zp3, zp4]
     refine tk 4 rfl ?_
     try simp only [zp0, zp1, zp2, zp3, zp4]
     refine tk 5 rfl ?_
     try simp only [zp0, zp1, zp2, zp3, zp4]
     refine Reg.one_op (i := 6) rfl (by kernel_rfl) (fun K hK => ?_)
     go_simp
     go_at_call 85
     refine (HIK.out _).mono ?_
     rintro e w2 ⟨rfl, hb⟩
     have S4 := Lib.hid (S3.out.keep hb)
     clear S3
     clear hb
     go_wp2_with fail
     refine hK.out _ _ ⟨Bag.cs3 S4.out 0 rfl, HK.out _ S4.out.old⟩ (fun hS => ?_)
     clear hK K
     try simp only [zp0, zp1, zp2, zp3, zp4]
     refine tk 7 rfl ?_
     try simp only [zp0, zp1, zp2, zp3, zp4]
     refine tk 8 rfl ?_
     try simp only [zp0, zp1, zp2, zp3, zp4]
     refine tk 9 rfl ?_
     try simp only [zp0, zp1, zp2, zp3, zp4]
     refine tk 10 rfl ?_
     try simp only [zp0, zp1, zp2, zp3, zp4]
     refine tk 11 rfl ?_
     try simp only [zp0, zp1, zp2, zp3, zp4]
     refine tk 12 rfl ?_
     try simp only [zp0, zp1, zp2, zp3, zp4]
     refine tk 13 rfl ?_
     try simp only [zp0, zp1, zp2, zp3, zp4]
     refine tk 14 rfl ?_
     try simp only [zp0, zp1, zp2, zp3, zp4]
     refine Reg.one_op (i := 15) rfl (by kernel_rfl) (fun K hK => ?_)
     go_simp
     go_at_call 86
     refine (HIR.out _ S4.out.old).mono ?_
     rintro e w3 ⟨rfl, hb⟩
     have S5 := Lib.hid (S4.out.keep hb)
     clear S4
     clear hb
     go_wp2_with fail
     refine hK.out _ _ ⟨Bag.cs3 S5.out 0 rfl, HK.out _ S5.out.old⟩ (fun hS => ?_)
     clear hK K
     try simp only [zp0, zp1, zp2, zp3, zp4]
     refine tk 16 rfl ?_
     try simp only [zp0, zp1, zp2, zp3, zp4]
     refine tk 17 rfl ?_
     try simp only [zp0, zp1, zp2, zp3, zp4]
     refine tk 18 rfl ?_
     try simp only [zp0, zp1, zp2, zp3, zp4]
     refine sk 19 rfl ?_
     try simp only [zp0, zp1, zp2, zp3, zp4]
     refine sk 20 rfl ?_
     try simp only [zp0, zp1, zp2, zp3, zp4]
     refine sk 21 rfl ?_
     try simp only [zp0, zp1, zp2, zp3, zp4]
     refine sk 22 rfl ?_
     try simp only [zp0, zp1, zp2, zp3, zp4]
     refine sk 23 rfl ?_
     try simp only [zp0, zp1, zp2, zp3, zp4]
     refine sk 24 rfl ?_
     try simp only [zp0, zp1, zp2, zp3, zp4]
     refine sk 25 rfl ?_
     try simp only [zp0, zp1, zp2, zp3, zp4]
     refine sk 26 rfl ?_
     try simp only [zp0, zp1, zp2, zp3, zp4]
     refine sk 27 rfl ?_
     try simp only [zp0, zp1, zp2, zp3, zp4]
     refine sk 28 rfl ?_
     try simp only [zp0, zp1, zp2, zp3, zp4]
     refine sk 29 rfl ?_
     try simp only [zp0, zp1, zp2, zp3, zp4]
     refine sk 30 rfl ?_
     try simp only [zp0, zp1, zp2, zp3, zp4]
     refine sk 31 rfl ?_
     try simp only [zp0, zp1, zp2, zp3, zp4]
     refine sk 32 rfl ?_
     try simp only [zp0, zp1, zp2, zp3, zp4]
     refine sk 33 rfl ?_
     try simp only [zp0, zp1, zp2, zp3, zp4]
     refine sk 34 rfl ?_
     try simp only [zp0, zp1, zp2, zp3, zp4]
     refine Reg.skip_one (i := 35) rfl (by kernel_rfl) (by rfl) (by assumption) ?_
     try simp only [zp0, zp1, zp2, zp3, zp4]
     refine sk 36 rfl ?_
     try simp only [zp0, zp1, zp2, zp3, zp4]
     refine sk 37 rfl ?_
     try simp only [zp0, zp1, zp2, zp3, zp4]
     refine tk 38 rfl ?_
     try simp only [zp0, zp1, zp2, zp3, zp4]
     refine wpAnyH_done (by kernel_rfl) ?_ _
     obtain ⟨f0, f1, f2⟩ := Bag.cs3 S5.out 0 rfl
     obtain ⟨f3, f4, f5, f6⟩ := HK.out _ S5.out.old
     have HNO := Lib.hid (show isI (conI xs) = false from isI_no k hci (by rw [okIx_at HC.out]; dsimp only; rw [HBK.out, HBR.out]; rfl))
     go_wp2_with fail
     go_ret
     exact ⟨by unfold isS; rw [HNO.out]; rfl, S5.out.old⟩
    | true =>
     rcases Nat.eq_zero_or_pos k with hk0 | hk0
     ·
      have hk1 : (0 < k) = False := by simp; omega
      have HZ := Lib.hid hk0
      clear hk0
      go_upto_region 4 with fail
      clear f0 f1 f2 f3 f4 f5 f6
      refine wp_region_held_drew (S := (fun w' => (w'.cell? ⟨w.heap.size, 0, none⟩ = some (.string name) ∧ w'.cell? ⟨w.heap.size, 1, none⟩ = some (.slice (some ad) N c) ∧ w'.cell? ⟨w.heap.size, 2, none⟩ = some (.int .i64 auto)) ∧ (w'.cell? (ad.add (k * 4)) = some (.int .i64 kd) ∧ w'.cell? (⟨(ad.add (k * 4)).block, (ad.add (k * 4)).off + 1, none⟩) = some (.int .i64 n) ∧ w'.cell? (⟨(ad.add (k * 4)).block, (ad.add (k * 4)).off + 2, none⟩) = some (.string t) ∧ w'.cell? (⟨(ad.add (k * 4)).block, (ad.add (k * 4)).off + 3, none⟩) = some (.slice ia l.length ic)))) (by kernel_rfl) ⟨Bag.cs3 (Bag.drew1 S2.out) 0 rfl, HK.out _ (Bag.drew1 S2.out).old⟩ (fun hS => ?_)
      have S3 := Lib.hid (Bag.drew1 S2.out)
      clear S2
      generalize World.drew _ = w1 at hS S3 ⊢
      refine tk 0 rfl ?_
      try simp only [zp0, zp1, zp2, zp3, zp4]
      refine tk 1 rfl ?_
      try simp only [zp0, zp1, zp2, zp3, zp4]
      refine tk 2 rfl ?_
      try simp only [zp0, zp1, zp2, zp3, zp4]
      refine tk 3 rfl ?_
      try simp only [zp0, zp1, zp2, zp3, zp4]
      refine tk 4 rfl ?_
      try simp only [zp0, zp1, zp2, zp3, zp4]
      refine tk 5 rfl ?_
      try simp only [zp0, zp1, zp2, zp3, zp4]
      refine Reg.one_op (i := 6) rfl (by kernel_rfl) (fun K hK => ?_)
      go_simp
      go_at_call 85
      refine (HIK.out _).mono ?_
      rintro e w2 ⟨rfl, hb⟩
      have S4 := Lib.hid (S3.out.keep hb)
      clear S3
      clear hb
      go_wp2_with fail
      refine hK.out _ _ ⟨Bag.cs3 S4.out 0 rfl, HK.out _ S4.out.old⟩ (fun hS => ?_)
      clear hK K
      try simp only [zp0, zp1, zp2, zp3, zp4]
      refine tk 7 rfl ?_
      try simp only [zp0, zp1, zp2, zp3, zp4]
      refine tk 8 rfl ?_
      try simp only [zp0, zp1, zp2, zp3, zp4]
      refine tk 9 rfl ?_
      try simp only [zp0, zp1, zp2, zp3, zp4]
      refine tk 10 rfl ?_
      try simp only [zp0, zp1, zp2, zp3, zp4]
      refine tk 11 rfl ?_
      try simp only [zp0, zp1, zp2, zp3, zp4]
      refine tk 12 rfl ?_
      try simp only [zp0, zp1, zp2, zp3, zp4]
      refine tk 13 rfl ?_
      try simp only [zp0, zp1, zp2, zp3, zp4]
      refine tk 14 rfl ?_
      try simp only [zp0, zp1, zp2, zp3, zp4]
      refine Reg.one_op (i := 15) rfl (by kernel_rfl) (fun K hK => ?_)
      go_simp
      go_at_call 86
      refine (HIR.out _ S4.out.old).mono ?_
      rintro e w3 ⟨rfl, hb⟩
      have S5 := Lib.hid (S4.out.keep hb)
      clear S4
      clear hb
      go_wp2_with fail
      refine hK.out _ _ ⟨Bag.cs3 S5.out 0 rfl, HK.out _ S5.out.old⟩ (fun hS => ?_)
      clear hK K
      try simp only [zp0, zp1, zp2, zp3, zp4]
      refine tk 16 rfl ?_
      try simp only [zp0, zp1, zp2, zp3, zp4]
      refine tk 17 rfl ?_
      try simp only [zp0, zp1, zp2, zp3, zp4]
      refine tk 18 rfl ?_
      try simp only [zp0, zp1, zp2, zp3, zp4]
      refine tk 19 rfl ?_
      try simp only [zp0, zp1, zp2, zp3, zp4]
      refine tk 20 rfl ?_
      try simp only [zp0, zp1, zp2, zp3, zp4]
      refine tk 21 rfl ?_
      try simp only [zp0, zp1, zp2, zp3, zp4]
      refine sk 22 rfl ?_
      try simp only [zp0, zp1, zp2, zp3, zp4]
      refine sk 23 rfl ?_
      try simp only [zp0, zp1, zp2, zp3, zp4]
      refine sk 24 rfl ?_
      try simp only [zp0, zp1, zp2, zp3, zp4]
      refine sk 25 rfl ?_
      try simp only [zp0, zp1, zp2, zp3, zp4]
      refine sk 26 rfl ?_
      try simp only [zp0, zp1, zp2, zp3, zp4]
      refine sk 27 rfl ?_
      try simp only [zp0, zp1, zp2, zp3, zp4]
      refine sk 28 rfl ?_
      try simp only [zp0, zp1, zp2, zp3, zp4]
      refine sk 29 rfl ?_
      try simp only [zp0, zp1, zp2, zp3, zp4]
      refine sk 30 rfl ?_
      try simp only [zp0, zp1, zp2, zp3, zp4]
      refine sk 31 rfl ?_
      try simp only [zp0, zp1, zp2, zp3, zp4]
      refine sk 32 rfl ?_
      try simp only [zp0, zp1, zp2, zp3, zp4]
      refine sk 33 rfl ?_
      try simp only [zp0, zp1, zp2, zp3, zp4]
      refine sk 34 rfl ?_
      try simp only [zp0, zp1, zp2, zp3, zp4]
      refine Reg.skip_one (i := 35) rfl (by kernel_rfl) (by rfl) (by assumption) ?_
      try simp only [zp0, zp1, zp2, zp3, zp4]
      refine sk 36 rfl ?_
      try simp only [zp0, zp1, zp2, zp3, zp4]
      refine tk 37 rfl ?_
      try simp only [zp0, zp1, zp2, zp3, zp4]
      refine tk 38 rfl ?_
      try simp only [zp0, zp1, zp2, zp3, zp4]
      refine wpAnyH_done (by kernel_rfl) ?_ _
      obtain ⟨f0, f1, f2⟩ := Bag.cs3 S5.out 0 rfl
      obtain ⟨f3, f4, f5, f6⟩ := HK.out _ S5.out.old
      go_wp2_with fail
      go_roundw
      case rel => exact ⟨k + 1, by omega, by go_num, And.intro (fun j h => by
       by_cases e : j < k
       ·
        exact HA.out j e
       ·
        obtain rfl : j = k := by omega
        exact by rw [okIx_at HC.out]; dsimp only; rw [HBK.out, HBR.out, HZ.out]; rfl) S5.out⟩
      case measure => simp [intOf]; omega
     ·
      obtain ⟨m, hkm⟩ : ∃ m, k = m + 1 := ⟨k - 1, by omega⟩
      have hki : (k : Int) - 1 = (m : Int) := by omega
      have HKM := Lib.hid hkm
      have hm0 : m < xs.length := by omega
      have hmi : (m : Int) < (N : Int) := by omega
      have hmw : IntKind.i64.wrap (m : Int) = (m : Int) := IntWalk.i64_in _ ⟨by omega, by omega⟩
      clear hkm
      clear f0 f1 f2 f3 f4 f5 f6
      obtain ⟨ad_, x2, e_, hx2⟩ := readsI_some (HR.out _ S2.out.old) m hm0
      clear e_ ad_
      obtain ⟨⟨kd2, n2, t2⟩, ia2, ic2, l2⟩ := x2
      have HK2 := Lib.hid (fun w' (h : Below w.heap.size w w') => readsI_at (HR.out _ h) m _ hx2)
      try dsimp only at HK2
      have HC2 := Lib.hid (show (conI xs)[m]? = some (⟨⟨kd2, n2, t2⟩, l2⟩ : It) from con_of hx2)
      have HFI2 := Lib.hid (fit_at HF.out hx2)
      clear hx2
      obtain ⟨cv, hcv⟩ : ∃ b, cmpK ⟨kd2, n2, t2⟩ ⟨kd, n, t⟩ = b := ⟨_, rfl⟩
      have HCMP := fun w => L4.specCompareKeys_any ⟨kd2, n2, t2⟩ ⟨kd, n, t⟩ (by have : t2.size ≤ 1099511627776 := HFI2.out.text; show t2.size ≤ _; omega) (by have : t.size ≤ 1099511627776 := HFI.out.text; show t.size ≤ _; omega) w
      rw [hcv] at HCMP
      replace HCMP := Lib.hid HCMP
      have HCV := Lib.hid hcv
      clear hcv
      obtain ⟨f0, f1, f2⟩ := Bag.cs3 S2.out 0 rfl
      obtain ⟨f3, f4, f5, f6⟩ := HK.out _ S2.out.old
      obtain ⟨f7, f8, f9, f10⟩ := HK2.out _ S2.out.old
      by_cases hc : cv < 0
      ·
       have hc2 : ¬ 0 ≤ cv := by omega
       go_upto_region 4 with fail
       clear f0 f1 f2 f3 f4 f5 f6 f7 f8 f9 f10
       refine wp_region_held_drew (S := (fun w' => (w'.cell? ⟨w.heap.size, 0, none⟩ = some (.string name) ∧ w'.cell? ⟨w.heap.size, 1, none⟩ = some (.slice (some ad) N c) ∧ w'.cell? ⟨w.heap.size, 2, none⟩ = some (.int .i64 auto)) ∧ (w'.cell? (ad.add (k * 4)) = some (.int .i64 kd) ∧ w'.cell? (⟨(ad.add (k * 4)).block, (ad.add (k * 4)).off + 1, none⟩) = some (.int .i64 n) ∧ w'.cell? (⟨(ad.add (k * 4)).block, (ad.add (k * 4)).off + 2, none⟩) = some (.string t) ∧ w'.cell? (⟨(ad.add (k * 4)).block, (ad.add (k * 4)).off + 3, none⟩) = some (.slice ia l.length ic)) ∧ (w'.cell? (ad.add (m * 4)) = some (.int .i64 kd2) ∧ w'.cell? (⟨(ad.add (m * 4)).block, (ad.add (m * 4)).off + 1, none⟩) = some (.int .i64 n2) ∧ w'.cell? (⟨(ad.add (m * 4)).block, (ad.add (m * 4)).off + 2, none⟩) = some (.string t2) ∧ w'.cell? (⟨(ad.add (m * 4)).block, (ad.add (m * 4)).off + 3, none⟩) = some (.slice ia2 l2.length ic2)))) (by kernel_rfl) ⟨Bag.cs3 (Bag.drew1 S2.out) 0 rfl, HK.out _ (Bag.drew1 S2.out).old, HK2.out _ (Bag.drew1 S2.out).old⟩ (fun hS => ?_)
       have S3 := Lib.hid (Bag.drew1 S2.out)
       clear S2
       generalize World.drew _ = w1 at hS S3 ⊢
       refine tk 0 rfl ?_
       try simp only [zp0, zp1, zp2, zp3, zp4]
       refine tk 1 rfl ?_
       try simp only [zp0, zp1, zp2, zp3, zp4]
       refine tk 2 rfl ?_
       try simp only [zp0, zp1, zp2, zp3, zp4]
       refine tk 3 rfl ?_
       try simp only [zp0, zp1, zp2, zp3, zp4]
       refine tk 4 rfl ?_
       try simp only [zp0, zp1, zp2, zp3, zp4]
       refine tk 5 rfl ?_
       try simp only [zp0, zp1, zp2, zp3, zp4]
       refine Reg.one_op (i := 6) rfl (by kernel_rfl) (fun K hK => ?_)
       go_simp
       go_at_call 85
       refine (HIK.out _).mono ?_
       rintro e w2 ⟨rfl, hb⟩
       have S4 := Lib.hid (S3.out.keep hb)
       clear S3
       clear hb
       go_wp2_with fail
       refine hK.out _ _ ⟨Bag.cs3 S4.out 0 rfl, HK.out _ S4.out.old, HK2.out _ S4.out.old⟩ (fun hS => ?_)
       clear hK K
       try simp only [zp0, zp1, zp2, zp3, zp4]
       refine tk 7 rfl ?_
       try simp only [zp0, zp1, zp2, zp3, zp4]
       refine tk 8 rfl ?_
       try simp only [zp0, zp1, zp2, zp3, zp4]
       refine tk 9 rfl ?_
       try simp only [zp0, zp1, zp2, zp3, zp4]
       refine tk 10 rfl ?_
       try simp only [zp0, zp1, zp2, zp3, zp4]
       refine tk 11 rfl ?_
       try simp only [zp0, zp1, zp2, zp3, zp4]
       refine tk 12 rfl ?_
       try simp only [zp0, zp1, zp2, zp3, zp4]
       refine tk 13 rfl ?_
       try simp only [zp0, zp1, zp2, zp3, zp4]
       refine tk 14 rfl ?_
       try simp only [zp0, zp1, zp2, zp3, zp4]
       refine Reg.one_op (i := 15) rfl (by kernel_rfl) (fun K hK => ?_)
       go_simp
       go_at_call 86
       refine (HIR.out _ S4.out.old).mono ?_
       rintro e w3 ⟨rfl, hb⟩
       have S5 := Lib.hid (S4.out.keep hb)
       clear S4
       clear hb
       go_wp2_with fail
       refine hK.out _ _ ⟨Bag.cs3 S5.out 0 rfl, HK.out _ S5.out.old, HK2.out _ S5.out.old⟩ (fun hS => ?_)
       clear hK K
       try simp only [zp0, zp1, zp2, zp3, zp4]
       refine tk 16 rfl ?_
       try simp only [zp0, zp1, zp2, zp3, zp4]
       refine tk 17 rfl ?_
       try simp only [zp0, zp1, zp2, zp3, zp4]
       refine tk 18 rfl ?_
       try simp only [zp0, zp1, zp2, zp3, zp4]
       refine tk 19 rfl ?_
       try simp only [zp0, zp1, zp2, zp3, zp4]
       refine tk 20 rfl ?_
       try simp only [zp0, zp1, zp2, zp3, zp4]
       refine tk 21 rfl ?_
       try simp only [zp0, zp1, zp2, zp3, zp4]
       refine tk 22 rfl ?_
       try simp only [zp0, zp1, zp2, zp3, zp4]
       refine tk 23 rfl ?_
       try simp only [zp0, zp1, zp2, zp3, zp4]
       refine tk 24 rfl ?_
       try simp only [zp0, zp1, zp2, zp3, zp4]
       refine tk 25 rfl ?_
       try simp only [zp0, zp1, zp2, zp3, zp4]
       refine tk 26 rfl ?_
       try simp only [zp0, zp1, zp2, zp3, zp4]
       refine tk 27 rfl ?_
       try simp only [zp0, zp1, zp2, zp3, zp4]
       refine tk 28 rfl ?_
       try simp only [zp0, zp1, zp2, zp3, zp4]
       refine tk 29 rfl ?_
       try simp only [zp0, zp1, zp2, zp3, zp4]
       refine tk 30 rfl ?_
       try simp only [zp0, zp1, zp2, zp3, zp4]
       refine tk 31 rfl ?_
       try simp only [zp0, zp1, zp2, zp3, zp4]
       refine tk 32 rfl ?_
       try simp only [zp0, zp1, zp2, zp3, zp4]
       refine tk 33 rfl ?_
       try simp only [zp0, zp1, zp2, zp3, zp4]
       refine tk 34 rfl ?_
       try simp only [zp0, zp1, zp2, zp3, zp4]
       refine Reg.one_op (i := 35) rfl (by kernel_rfl) (fun K hK => ?_)
       go_simp
       go_at_call 90
       refine (HCMP.out _).mono ?_
       rintro e w4 ⟨rfl, hb⟩
       have S6 := Lib.hid (S5.out.keep hb)
       clear S5
       clear hb
       go_wp2_with fail
       refine hK.out _ _ ⟨Bag.cs3 S6.out 0 rfl, HK.out _ S6.out.old, HK2.out _ S6.out.old⟩ (fun hS => ?_)
       clear hK K
       try simp only [zp0, zp1, zp2, zp3, zp4]
       refine tk 36 rfl ?_
       try simp only [zp0, zp1, zp2, zp3, zp4]
       refine tk 37 rfl ?_
       try simp only [zp0, zp1, zp2, zp3, zp4]
       refine tk 38 rfl ?_
       try simp only [zp0, zp1, zp2, zp3, zp4]
       refine wpAnyH_done (by kernel_rfl) ?_ _
       obtain ⟨f0, f1, f2⟩ := Bag.cs3 S6.out 0 rfl
       obtain ⟨f3, f4, f5, f6⟩ := HK.out _ S6.out.old
       obtain ⟨f7, f8, f9, f10⟩ := HK2.out _ S6.out.old
       go_wp2_with fail
       go_roundw
       case rel => exact ⟨k + 1, by omega, by go_num, And.intro (fun j h => by
        by_cases e : j < k
        ·
         exact HA.out j e
        ·
         obtain rfl : j = k := by omega
         rw [okIx_at HC.out, HKM.out, behind_at HC2.out]; dsimp only; rw [HBK.out, HBR.out, HCV.out]; simpa using hc) S6.out⟩
       case measure => simp [intOf]; omega
      ·
       have hc2 : 0 ≤ cv := by omega
       go_upto_region 4 with fail
       clear f0 f1 f2 f3 f4 f5 f6 f7 f8 f9 f10
       refine wp_region_held_drew (S := (fun w' => (w'.cell? ⟨w.heap.size, 0, none⟩ = some (.string name) ∧ w'.cell? ⟨w.heap.size, 1, none⟩ = some (.slice (some ad) N c) ∧ w'.cell? ⟨w.heap.size, 2, none⟩ = some (.int .i64 auto)) ∧ (w'.cell? (ad.add (k * 4)) = some (.int .i64 kd) ∧ w'.cell? (⟨(ad.add (k * 4)).block, (ad.add (k * 4)).off + 1, none⟩) = some (.int .i64 n) ∧ w'.cell? (⟨(ad.add (k * 4)).block, (ad.add (k * 4)).off + 2, none⟩) = some (.string t) ∧ w'.cell? (⟨(ad.add (k * 4)).block, (ad.add (k * 4)).off + 3, none⟩) = some (.slice ia l.length ic)) ∧ (w'.cell? (ad.add (m * 4)) = some (.int .i64 kd2) ∧ w'.cell? (⟨(ad.add (m * 4)).block, (ad.add (m * 4)).off + 1, none⟩) = some (.int .i64 n2) ∧ w'.cell? (⟨(ad.add (m * 4)).block, (ad.add (m * 4)).off + 2, none⟩) = some (.string t2) ∧ w'.cell? (⟨(ad.add (m * 4)).block, (ad.add (m * 4)).off + 3, none⟩) = some (.slice ia2 l2.length ic2)))) (by kernel_rfl) ⟨Bag.cs3 (Bag.drew1 S2.out) 0 rfl, HK.out _ (Bag.drew1 S2.out).old, HK2.out _ (Bag.drew1 S2.out).old⟩ (fun hS => ?_)
       have S3 := Lib.hid (Bag.drew1 S2.out)
       clear S2
       generalize World.drew _ = w1 at hS S3 ⊢
       refine tk 0 rfl ?_
       try simp only [zp0, zp1, zp2, zp3, zp4]
       refine tk 1 rfl ?_
       try simp only [zp0, zp1, zp2, zp3, zp4]
       refine tk 2 rfl ?_
       try simp only [zp0, zp1, zp2, zp3, zp4]
       refine tk 3 rfl ?_
       try simp only [zp0, zp1, zp2, zp3, zp4]
       refine tk 4 rfl ?_
       try simp only [zp0, zp1, zp2, zp3, zp4]
       refine tk 5 rfl ?_
       try simp only [zp0, zp1, zp2, zp3, zp4]
       refine Reg.one_op (i := 6) rfl (by kernel_rfl) (fun K hK => ?_)
       go_simp
       go_at_call 85
       refine (HIK.out _).mono ?_
       rintro e w2 ⟨rfl, hb⟩
       have S4 := Lib.hid (S3.out.keep hb)
       clear S3
       clear hb
       go_wp2_with fail
       refine hK.out _ _ ⟨Bag.cs3 S4.out 0 rfl, HK.out _ S4.out.old, HK2.out _ S4.out.old⟩ (fun hS => ?_)
       clear hK K
       try simp only [zp0, zp1, zp2, zp3, zp4]
       refine tk 7 rfl ?_
       try simp only [zp0, zp1, zp2, zp3, zp4]
       refine tk 8 rfl ?_
       try simp only [zp0, zp1, zp2, zp3, zp4]
       refine tk 9 rfl ?_
       try simp only [zp0, zp1, zp2, zp3, zp4]
       refine tk 10 rfl ?_
       try simp only [zp0, zp1, zp2, zp3, zp4]
       refine tk 11 rfl ?_
       try simp only [zp0, zp1, zp2, zp3, zp4]
       refine tk 12 rfl ?_
       try simp only [zp0, zp1, zp2, zp3, zp4]
       refine tk 13 rfl ?_
       try simp only [zp0, zp1, zp2, zp3, zp4]
       refine tk 14 rfl ?_
       try simp only [zp0, zp1, zp2, zp3, zp4]
       refine Reg.one_op (i := 15) rfl (by kernel_rfl) (fun K hK => ?_)
       go_simp
       go_at_call 86
       refine (HIR.out _ S4.out.old).mono ?_
       rintro e w3 ⟨rfl, hb⟩
       have S5 := Lib.hid (S4.out.keep hb)
       clear S4
       clear hb
       go_wp2_with fail
       refine hK.out _ _ ⟨Bag.cs3 S5.out 0 rfl, HK.out _ S5.out.old, HK2.out _ S5.out.old⟩ (fun hS => ?_)
       clear hK K
       try simp only [zp0, zp1, zp2, zp3, zp4]
       refine tk 16 rfl ?_
       try simp only [zp0, zp1, zp2, zp3, zp4]
       refine tk 17 rfl ?_
       try simp only [zp0, zp1, zp2, zp3, zp4]
       refine tk 18 rfl ?_
       try simp only [zp0, zp1, zp2, zp3, zp4]
       refine tk 19 rfl ?_
       try simp only [zp0, zp1, zp2, zp3, zp4]
       refine tk 20 rfl ?_
       try simp only [zp0, zp1, zp2, zp3, zp4]
       refine tk 21 rfl ?_
       try simp only [zp0, zp1, zp2, zp3, zp4]
       refine tk 22 rfl ?_
       try simp only [zp0, zp1, zp2, zp3, zp4]
       refine tk 23 rfl ?_
       try simp only [zp0, zp1, zp2, zp3, zp4]
       refine tk 24 rfl ?_
       try simp only [zp0, zp1, zp2, zp3, zp4]
       refine tk 25 rfl ?_
       try simp only [zp0, zp1, zp2, zp3, zp4]
       refine tk 26 rfl ?_
       try simp only [zp0, zp1, zp2, zp3, zp4]
       refine tk 27 rfl ?_
       try simp only [zp0, zp1, zp2, zp3, zp4]
       refine tk 28 rfl ?_
       try simp only [zp0, zp1, zp2, zp3, zp4]
       refine tk 29 rfl ?_
       try simp only [zp0, zp1, zp2, zp3, zp4]
       refine tk 30 rfl ?_
       try simp only [zp0, zp1, zp2, zp3, zp4]
       refine tk 31 rfl ?_
       try simp only [zp0, zp1, zp2, zp3, zp4]
       refine tk 32 rfl ?_
       try simp only [zp0, zp1, zp2, zp3, zp4]
       refine tk 33 rfl ?_
       try simp only [zp0, zp1, zp2, zp3, zp4]
       refine tk 34 rfl ?_
       try simp only [zp0, zp1, zp2, zp3, zp4]
       refine Reg.one_op (i := 35) rfl (by kernel_rfl) (fun K hK => ?_)
       go_simp
       go_at_call 90
       refine (HCMP.out _).mono ?_
       rintro e w4 ⟨rfl, hb⟩
       have S6 := Lib.hid (S5.out.keep hb)
       clear S5
       clear hb
       go_wp2_with fail
       refine hK.out _ _ ⟨Bag.cs3 S6.out 0 rfl, HK.out _ S6.out.old, HK2.out _ S6.out.old⟩ (fun hS => ?_)
       clear hK K
       try simp only [zp0, zp1, zp2, zp3, zp4]
       refine tk 36 rfl ?_
       try simp only [zp0, zp1, zp2, zp3, zp4]
       refine tk 37 rfl ?_
       try simp only [zp0, zp1, zp2, zp3, zp4]
       refine tk 38 rfl ?_
       try simp only [zp0, zp1, zp2, zp3, zp4]
       refine wpAnyH_done (by kernel_rfl) ?_ _
       obtain ⟨f0, f1, f2⟩ := Bag.cs3 S6.out 0 rfl
       obtain ⟨f3, f4, f5, f6⟩ := HK.out _ S6.out.old
       obtain ⟨f7, f8, f9, f10⟩ := HK2.out _ S6.out.old
       have HNO := Lib.hid (show isI (conI xs) = false from isI_no k hci (by rw [okIx_at HC.out, HKM.out, behind_at HC2.out]; dsimp only; rw [HBK.out, HBR.out, HCV.out]; simpa using hc2))
       go_wp2_with fail
       go_ret
       exact ⟨by unfold isS; rw [HNO.out]; rfl, S6.out.old⟩
  ·
   skip
   obtain rfl : k = N := by omega
   have HI := Lib.hid (isI_all (xs := conI xs) (fun i hi => HA.out i (by rw [conI_length] at hi; have := HN.out; omega)))
   obtain ⟨bn, hbn⟩ : ∃ b, isN name.data.toList = b := ⟨_, rfl⟩
   have HIN := fun w => L5.specIsName_any name HNM.out w
   rw [hbn] at HIN
   replace HIN := Lib.hid HIN
   obtain ⟨ba, hba⟩ : ∃ b, L1.inB auto 0 1000000 = b := ⟨_, rfl⟩
   have HIA := fun w => L1.l1In_any auto 0 1000000 w
   rw [hba] at HIA
   replace HIA := Lib.hid HIA
   have HE := Lib.hid (show isS ⟨name, conI xs, auto⟩ = (bn && (decide (k ≤ 16) && ba)) from by unfold isS; rw [HI.out, hbn, hba, conI_length, ← HN.out]; rfl)
   clear hbn hba
   obtain ⟨f0, f1, f2⟩ := Bag.cs3 S2.out 0 rfl
   cases bn with
   | false =>
    go_wp2_with fail
    go_at_call 109
    refine (HIN.out _).mono ?_
    rintro e w1 ⟨rfl, rfl⟩
    go_wp2_with fail
    go_ret
    exact ⟨by rw [HE.out]; rfl, S2.out.old⟩
   | true =>
    go_wp2_with fail
    go_at_call 109
    refine (HIN.out _).mono ?_
    rintro e w1 ⟨rfl, rfl⟩
    by_cases h16 : (k : Int) ≤ 16
    ·
     have h16' : k ≤ 16 := by omega
     go_wp2_with fail
     go_at_call 91
     refine (HIA.out _).mono ?_
     rintro e w2 ⟨rfl, rfl⟩
     go_wp2_with fail
     go_ret
     exact ⟨by rw [HE.out, decide_eq_true h16']; rfl, S2.out.old⟩
    ·
     have h16' : ¬ k ≤ 16 := by omega
     go_wp2_with fail
     go_ret
     exact ⟨by rw [HE.out, decide_eq_false h16']; rfl, S2.out.old⟩
end Go.Proofs.Ytojcdmgcbgpdmaa.L6

namespace Go.Proofs.Ytojcdmgcbgpdmaa.L5
open L2
open L4 (toU toI toI_toU)

def rdF (l : List Int) (off : Int) : Option (F × Int) :=
 if rbB l off 8 && rdB l (rbE l off 8) then some (⟨⟨(toU (rbL l off 8)).toArray⟩, rdN l (rbE l off 8)⟩, rdE l (rbE l off 8)) else none
def rdFs (l : List Int) : Int → Nat → Option (List F × Int)
 | off, 0 => some ([], off)
 | off, k + 1 => match rdF l off with
  | none => none
  | some (f, e) => match rdFs l e k with
   | none => none
   | some (fs, e2) => some (f :: fs, e2)
def decR (l : List Int) : Option (List F) :=
 if rdB l 0 && decide (rdN l 0 ≤ 6) then
  match rdFs l (rdE l 0) (rdN l 0).toNat with
  | none => none
  | some (fs, e) => if isR fs && decide (e = l.length) then some fs else none
 else none
def RfMid (l : List Int) (off : Int) (n k : Nat) (acc : List F) (o : Int) : Prop := acc.length = k ∧ rdFs l off n = (rdFs l o (n - k)).map fun p => (acc ++ p.1, p.2)
theorem RfMid.start (l : List Int) (off : Int) (n : Nat) : RfMid l off n 0 [] off := ⟨rfl, by simp⟩
theorem RfMid.none {l : List Int} {off : Int} {n k : Nat} {acc : List F} {o : Int} (h : RfMid l off n k acc o) (hk : k < n) (hr : rdF l o = Option.none) : rdFs l off n = Option.none := by
 rw [h.2, show n - k = (n - (k + 1)) + 1 by omega, rdFs, hr]
 rfl
theorem RfMid.next {l : List Int} {off : Int} {n k : Nat} {acc : List F} {o e : Int} {f : F} (h : RfMid l off n k acc o) (hk : k < n) (hr : rdF l o = some (f, e)) : RfMid l off n (k + 1) (acc ++ [f]) e := by
 refine ⟨by simp [h.1], ?_⟩
 rw [h.2, show n - k = (n - (k + 1)) + 1 by omega, rdFs, hr]
 simp only
 cases rdFs l e (n - (k + 1)) with
 | none => rfl
 | some p => simp
end Go.Proofs.Ytojcdmgcbgpdmaa.L5

namespace Go.Proofs.Ytojcdmgcbgpdmaa.L5
open L4 (boxR push_box box_at)
open Go.ChangeShapes Go.WideShapes Go.ChangeAt Go.RowKit Mem Sl Ex L2 Sv

theorem wpList_append_v {P : Program} {W w : World} {rs : List Res} {e : TypeId} {k : Nat} {a : Option Addr} {c n : Nat} {xs : List Value} (S : Sep W w rs) (j : Nat) (hj : rs[j]? = some (ownV e k a c n xs))
  {ops : Array Oper} {rest : List Oper} {o : Oper} {act : Act} {Q : Exit → Act → World → Prop} (hgd : o.guard = none) (s x : Operand) (t : TypeId)
  (ho : o.op = .call { callee := .builtin .append, args := #[s, x], argTypes := #[t, t] })
  (i : TypeInfo) (z : Value) (bytes : Nat) (ht : P.underlying t = some (.slice e)) (hi : P.info? e = some i) (hz : i.zero = some z)
  (hsize : i.size = k) (hby : i.bytes = bytes) (hzs : z.cells.size = k) (hk : 0 < k) (n1 : Nat) (hs : act.eval s = .slice a n1 c) (hn : n1 = n)
  (B' : Nat) (A : Option Addr) (m m1 c' : Nat) (ys : List Value) (hx : act.eval x = .slice A m1 c') (hm : m1 = m) (hr : Reads w B' A ys) (hy : ys.length = m * k) (hone : ∀ u ∈ ys, u.oneCell' = true)
  (h63 : n + m ≤ maxLen) (hbytes : (n + m) * bytes ≤ 140737488355328)
  (h : ∀ a1 c1 w', Sep W w' (rs.set j (ownV e k a1 c1 (n + m) (xs ++ ys))) → wpList P ops Q rest (act.put o.dst (.slice a1 (n + m) c1)) w') : wpList P ops Q (o :: rest) act w := by
 subst hn
 subst hm
 refine wpList_plain hgd fun K hK => ?_
 obtain ⟨a1, c1, w', hrun, h2, h3, h4⟩ := run_append_rows (P := P) w 0 t o.type e i z k bytes ht hi hz hsize hby hzs hk a c n1 xs (own_at S j hj) B' A c' m1 ys hr hy hone h63 hbytes (Nat.zero_le _)
 unfold Oper.wp execOp
 simp only [ho, resolve, invoke, builtin, Sem.run_bind, Sem.run_pure, Result.andThen_ok, List.map_toArray, List.map_cons, List.map_nil, hs, hx, hrun]
 refine hK _ _ (h a1 c1 w' (Sd.put_new S j hj (Turned.of_grown h3) h2 fun b hb => ?_))
 have hb' : (Value.slice a1 (n1 + m1) c1).ownBlock = some b := by simpa [ownV] using hb
 rcases h4 b hb' with h5 | rfl
 ·
  exact .inl (by simp [ownV, h5])
 ·
  have := World.ownsRow.lt h2 _ hb'
  exact .inr ⟨Nat.le_refl _, this.2⟩
end Go.Proofs.Ytojcdmgcbgpdmaa.L5

set_option linter.unusedSimpArgs false
namespace Go.Proofs.Ytojcdmgcbgpdmaa.L6
open L4 (K isK cmpK R inR encU)
open L5 (F isR isN cellsF encR eqR Small)
open Go.ChangeShapes Go.WideShapes Go.ChangeAt Go.RowKit Mem Sl Ex L2 Sv Bag

theorem cellsI_set3 : ∀ (xs : List LI) (i : Nat) (hi : i < xs.length) (a : Option Addr) (c : Nat) (l : List F), (cellsI xs).set (i * 4 + 3) (.slice a l.length c) = cellsI (xs.set i ⟨xs[i].k, a, c, l⟩)
 | x :: xs, 0, _, a, c, l => rfl
 | x :: xs, i + 1, h, a, c, l => by
  rw [List.set_cons_succ, cellsI_cons, cellsI_cons, List.getElem_cons_succ, ← cellsI_set3 xs i (by simpa using h) a c l, show (i + 1) * 4 + 3 = i * 4 + 3 + 1 + 1 + 1 + 1 by omega]
  rfl
theorem cellsI_set3m (xs : List LI) (i : Nat) (hi : i < xs.length) (a : Option Addr) (c : Nat) (l : List F) (M : Nat) (hM : M = l.length) : (cellsI xs).set (i * 4 + 3) (.slice a M c) = cellsI (xs.set i ⟨xs[i].k, a, c, l⟩) := by
 subst hM
 exact cellsI_set3 xs i hi a c l
theorem bag_swap {W w : World} {rs : List Res} {xs : List RowS} {z : RowS} (h : Sep W w rs) (j : Nat) (hj : rs[j]? = some (bag (xs ++ [z]))) (i : Nat) (hi : i < xs.length) : Sep W w (rs.set j (bag (xs.set i z))) := by
 have e1 : xs.set i z = xs.take i ++ z :: xs.drop (i + 1) := List.set_eq_take_append_cons_drop ▸ by rw [if_pos hi]
 have e2 : xs.eraseIdx i = xs.take i ++ xs.drop (i + 1) := List.eraseIdx_eq_take_drop_succ ..
 have hp : (xs.eraseIdx i ++ [z]).Perm (xs.set i z) := by
  rw [e1, e2, List.append_assoc]
  refine List.Perm.append_left _ ?_
  exact List.perm_append_comm
 have hs : (xs.eraseIdx i ++ [z]).Sublist (xs ++ [z]) := (List.eraseIdx_sublist xs i).append (List.Sublist.refl _)
 refine turn h j hj (fun ho => (BagOwn.sub ho hs).perm hp) (fun b hb => ?_)
 obtain ⟨r, hr, hm⟩ := List.mem_flatMap.1 hb
 exact List.mem_flatMap.2 ⟨r, hs.subset (hp.mem_iff.2 hr), hm⟩
theorem rowsI_ins (ys : List LI) (k : Nat) (z : LI) : (rowsI ys ++ [z.row]).Perm (rowsI (ys.take k ++ z :: ys.drop k)) := by
 have e : rowsI ys = rowsI (ys.take k) ++ rowsI (ys.drop k) := by rw [← rowsI_append, List.take_append_drop]
 rw [e, rowsI_append, List.append_assoc]
 exact List.Perm.append_left _ List.perm_append_comm
theorem cellsI_take : ∀ (ys : List LI) (k : Nat), (cellsI ys).take (k * 4) = cellsI (ys.take k)
 | [], k => by simp [cellsI]
 | y :: ys, 0 => by simp [cellsI]
 | y :: ys, k + 1 => by
  rw [List.take_succ_cons, cellsI_cons, cellsI_cons, ← cellsI_take ys k, show (k + 1) * 4 = k * 4 + 1 + 1 + 1 + 1 by omega]
  rfl
theorem cellsI_drop : ∀ (ys : List LI) (k : Nat), (cellsI ys).drop (k * 4) = cellsI (ys.drop k)
 | [], k => by simp [cellsI]
 | y :: ys, 0 => by simp
 | y :: ys, k + 1 => by
  rw [List.drop_succ_cons, cellsI_cons, ← cellsI_drop ys k, show (k + 1) * 4 = k * 4 + 1 + 1 + 1 + 1 by omega]
  rfl
theorem reads_head {w : World} {B : Nat} {a : Option Addr} {ys : List LI} (h : Reads w B a (cellsI ys)) (k : Nat) : Reads w B a (cellsI (ys.take k)) := fun j hj => by
 have hk : cellsI (ys.take k) = (cellsI ys).take (k * 4) := (cellsI_take ys k).symm
 have h2 : (cellsI (ys.take k))[j] = ((cellsI ys).take (k * 4))[j]'(by rw [← hk]; exact hj) := by simp only [hk]
 have h3 : j < (cellsI ys).length := by rw [hk, List.length_take] at hj; omega
 obtain ⟨ad, e, hb, hc⟩ := h j h3
 exact ⟨ad, e, hb, by rw [hc, h2, List.getElem_take]⟩
theorem reads_tail {w : World} {B : Nat} {ad : Addr} {ys : List LI} (h : Reads w B (some ad) (cellsI ys)) (k : Nat) : Reads w B (some (ad.add (k * 4))) (cellsI (ys.drop k)) := fun j hj => by
 have hk : cellsI (ys.drop k) = (cellsI ys).drop (k * 4) := (cellsI_drop ys k).symm
 have h2 : (cellsI (ys.drop k))[j] = ((cellsI ys).drop (k * 4))[j]'(by rw [← hk]; exact hj) := by simp only [hk]
 have h3 : k * 4 + j < (cellsI ys).length := by rw [hk, List.length_drop] at hj; omega
 obtain ⟨ad', e, hb, hc⟩ := h (k * 4 + j) h3
 injection e with e
 subst e
 exact ⟨ad.add (k * 4), rfl, by rw [add_block]; exact hb, by rw [add_add, hc, h2, List.getElem_drop]⟩
theorem reads_rest2 {w : World} {B g : Nat} {ys : List LI} (h : Reads w B (some ⟨g, 0, none⟩) (cellsI ys)) (k : Nat) : Reads w B (some ⟨g, k * 4, none⟩) (cellsI (ys.drop k)) := by
 have := reads_tail h k
 rwa [Addr.add_lit, Nat.zero_add] at this
theorem rowsI_set (xs : List LI) (i : Nat) (z : LI) : rowsI (xs.set i z) = (rowsI xs).set i z.row := List.map_set
theorem conI_ins (ys : List LI) (k : Nat) (z : LI) : conI (ys.take k ++ z :: ys.drop k) = (conI ys).take k ++ z.con :: (conI ys).drop k := by
 unfold conI
 rw [List.map_append, List.map_cons, List.map_take, List.map_drop]
theorem conI_set (xs : List LI) (i : Nat) (z : LI) : conI (xs.set i z) = (conI xs).set i z.con := List.map_set

set_option maxHeartbeats 16000000 in
theorem specPutItem_any (y : LS) (k0 : K) (ra : Option Addr) (rc : Nat) (rl : List F) (hf : FitS y.con) (hkt : k0.text.size ≤ 1099511627776) (hrl : rl.length ≤ 1048576) (hrs : Small rl) (w : World) (hr : RowsRd w w.heap.size y.rows) (hrr : Reads w w.heap.size ra (cellsF rl)) :
  Calls Try.prog 19 #[y.v, k0.v, .agg #[.slice ra rl.length rc]] w (GaveSB w (putI y.con k0 rl).1 (putI y.con k0 rl).2) := by
 obtain ⟨i0, hi1, hi2, hi3, hi4⟩ := itemInfo
 have HI := Lib.hid (And.intro hi1 (And.intro hi2 (And.intro hi3 hi4)))
 clear hi1 hi2 hi3 hi4
 obtain ⟨pk, pn, pt⟩ := k0
 unfold L4.K.v
 try dsimp only at hkt ⊢
 have HIS := Lib.hid (fun w' (h : Below w.heap.size w w') => specIsStore_any y hf w' ((hr.below h).more h.size))
 have HCP := Lib.hid (fun w' (h : Below w.heap.size w w') => l6Copy_any y hf w' ((hr.below h).more h.size))
 have HFD := Lib.hid (fun w' (h : Below w.heap.size w w') => specFindItem_any y ⟨pk, pn, pt⟩ hf w' ((hr.below h).more h.size))
 have HRC := Lib.hid (fun w' (h : Below w.heap.size w w') => L5.l5Copy_any ra rc rl (by omega) w' ((hrr.below h).more h.size))
 have HIR := Lib.hid (fun w' (h : Below w.heap.size w w') => L5.specIsRecord_any ra rc rl (by omega) hrs w' ((hrr.below h).more h.size))
 have HIK := Lib.hid (fun w' => L4.specIsKey_any ⟨pk, pn, pt⟩ (by show pt.size ≤ _; omega) w')
 obtain ⟨name, a, c, xs, auto⟩ := y
 have HR := Lib.hid (fun w' (h : Below w.heap.size w w') => LS.outer (hr.below h))
 have HX := Lib.hid (fun w' (h : Below w.heap.size w w') => (LS.inner (hr.below h)).more h.size)
 have HF := Lib.hid hf.items
 have HNM := Lib.hid hf.name
 have hl := hf.len
 simp only [LS.con, conI_length] at hl
 dsimp only [LS.con] at HR HX HF HNM
 try unfold LS.v LS.cells LS.con
 try dsimp only
 obtain ⟨N, hN⟩ : ∃ n, n = xs.length := ⟨_, rfl⟩
 rw [← hN] at hl ⊢
 have hl' : (N : Int) ≤ 1048576 := by omega
 have HN := Lib.hid hN
 clear hN hr hf
 dsimp only [LS.v, LS.cells, LS.con] at HIS HCP HFD
 rw [← HN.out] at HIS HCP HFD
 obtain ⟨M, hM⟩ : ∃ M, M = rl.length := ⟨_, rfl⟩
 rw [← hM] at HRC HIR ⊢
 have HM := Lib.hid hM
 clear hM hrr
 obtain ⟨bs, hbs⟩ : ∃ b, isS ⟨name, conI xs, auto⟩ = b := ⟨_, rfl⟩
 obtain ⟨bk, hbk⟩ : ∃ b, isK ⟨pk, pn, pt⟩ = b := ⟨_, rfl⟩
 obtain ⟨br, hbr⟩ : ∃ b, isR rl = b := ⟨_, rfl⟩
 rw [hbs] at HIS
 rw [hbk] at HIK
 rw [hbr] at HIR
 obtain ⟨res, hres⟩ : ∃ r, putI ⟨name, conI xs, auto⟩ ⟨pk, pn, pt⟩ rl = r := ⟨_, rfl⟩
 rw [hres]
 have HBS := Lib.hid hbs
 have HP := Lib.hid (show res = if bs && (bk && br) then (match fndO (conI xs) ⟨pk, pn, pt⟩ with | some i => (⟨name, (conI xs).set i ⟨⟨pk, pn, pt⟩, rl⟩, auto⟩, true) | none => if 16 ≤ (conI xs).length then (⟨name, conI xs, auto⟩, false) else (⟨name, (conI xs).take (posI (conI xs) ⟨pk, pn, pt⟩) ++ ⟨⟨pk, pn, pt⟩, rl⟩ :: (conI xs).drop (posI (conI xs) ⟨pk, pn, pt⟩), nextAuto auto ⟨pk, pn, pt⟩⟩, true)) else (⟨name, conI xs, auto⟩, false) from by rw [← hres]; unfold putI; rw [hbs, hbk, hbr]; rfl)
 clear hres hbs hbk hbr
 have S1 := Lib.hid (show Sl.Sep w _ [_, _, _, _] from L4.push_box (L4.push_box (L4.push_box (L4.push_box (Sl.Sep.start w) 26 #[.string name, .slice a N c, .int .i64 auto] (w.heap.size) (by simp)) 28 #[.int .i64 pk, .int .i64 pn, .string pt] (w.heap.size + 1) (by simp)) 31 #[.slice ra M rc] (w.heap.size + 1 + 1) (by simp)) 26 #[.string ⟨#[]⟩, .slice none 0 0, .int .i64 0] (w.heap.size + 1 + 1 + 1) (by simp))
 obtain ⟨wa, hwa⟩ : ∃ u, u = ((((w.alloc (.cells #[.string name, .slice a N c, .int .i64 auto] 26)).alloc (.cells #[.int .i64 pk, .int .i64 pn, .string pt] 28)).alloc (.cells #[.slice ra M rc] 31)).alloc (.cells #[.string ⟨#[]⟩, .slice none 0 0, .int .i64 0] 26)) := ⟨_, rfl⟩
 rw [← hwa] at S1
 go_enter Try.func19, Try.ntmps19
 go_upto_region 1 with fail
 rw [← hwa]
 clear hwa
 obtain ⟨f0, f1, f2⟩ := Bag.cs3 S1.out 0 rfl
 obtain ⟨f3, f4, f5⟩ := Bag.cs3 S1.out 1 rfl
 have f6 := Bag.cs1 S1.out 2 rfl
 obtain ⟨f7, f8, f9⟩ := Bag.cs3 S1.out 3 rfl
 go_wp2_with fail
 go_at_call 29
 refine (HIS.out _ S1.out.old).mono ?_
 rintro e w1 ⟨rfl, hb⟩
 clear f0 f1 f2 f3 f4 f5 f6 f7 f8 f9
 have S2 := Lib.hid (S1.out.keep hb)
 clear S1
 clear hb
 obtain ⟨f0, f1, f2⟩ := Bag.cs3 S2.out 0 rfl
 obtain ⟨f3, f4, f5⟩ := Bag.cs3 S2.out 1 rfl
 have f6 := Bag.cs1 S2.out 2 rfl
 obtain ⟨f7, f8, f9⟩ := Bag.cs3 S2.out 3 rfl
 cases bs with
 | false =>
  go_wp2_with fail
  go_at_call 87
  refine (HCP.out _ S2.out.old).mono ?_
  rintro e w2 ⟨⟨nm3, a3, c3, ys, au3⟩, rfl, hcon, ho, hb⟩
  clear f0 f1 f2 f3 f4 f5 f6 f7 f8 f9
  have S3 := Lib.hid (show Sl.Sep w _ [L4.boxR w.heap.size 26 #[.string name, .slice a N c, .int .i64 auto], L4.boxR (w.heap.size + 1) 28 #[.int .i64 pk, .int .i64 pn, .string pt], L4.boxR (w.heap.size + 1 + 1) 31 #[.slice ra M rc], L4.boxR (w.heap.size + 1 + 1 + 1) 26 #[.string ⟨#[]⟩, .slice none 0 0, .int .i64 0], Bag.bag ((LS.mk nm3 a3 c3 ys au3).rows)] from Bag.push_bag S2.out hb ho)
  clear S2
  clear hb ho
  have HCON := Lib.hid hcon
  clear hcon
  simp only [LS.v, LS.cells]
  obtain ⟨f0, f1, f2⟩ := Bag.cs3 S3.out 3 rfl
  obtain ⟨z0, z1, z2⟩ := Bag.fs3 S3.out 3 rfl
  go_wp2_with fail
  clear f0 f1 f2 z0 z1 z2
  have S4 := Lib.hid (show Sl.Sep w _ [_, _, _, L4.boxR (w.heap.size + 1 + 1 + 1) 26 #[.string nm3, .slice a3 ys.length c3, .int .i64 au3], _] from L5.put_box5 (L5.put_box5 (L5.put_box5 (S3.out) 3 rfl 0 (.string nm3)) 3 rfl 1 (.slice a3 ys.length c3)) 3 rfl 2 (.int .i64 au3))
  clear S3
  obtain ⟨f0, f1, f2⟩ := Bag.cs3 S4.out 3 rfl
  refine bodyPost_ret (v := .tuple #[.agg #[.string nm3, .slice a3 ys.length c3, .int .i64 au3], .bool false]) (by simp [results, Try.results19, go_sem, *]) rfl ?_
  have HE := Lib.hid (show res = (⟨name, conI xs, auto⟩, false) from by rw [HP.out]; rfl)
  exact ⟨⟨nm3, a3, c3, ys, au3⟩, by rw [HE.out]; rfl, by rw [HE.out]; exact HCON.out, Bag.bag_from S4.out 4 rfl, S4.out.old⟩
 | true =>
  go_wp2_with fail
  go_at_call 85
  refine (HIK.out _).mono ?_
  rintro e w2 ⟨rfl, hb⟩
  clear f0 f1 f2 f3 f4 f5 f6 f7 f8 f9
  have S3 := Lib.hid (S2.out.keep hb)
  clear S2
  clear hb
  obtain ⟨f0, f1, f2⟩ := Bag.cs3 S3.out 0 rfl
  obtain ⟨f3, f4, f5⟩ := Bag.cs3 S3.out 1 rfl
  have f6 := Bag.cs1 S3.out 2 rfl
  obtain ⟨f7, f8, f9⟩ := Bag.cs3 S3.out 3 rfl
  cases bk with
  | false =>
   go_wp2_with fail
   go_at_call 87
   refine (HCP.out _ S3.out.old).mono ?_
   rintro e w3 ⟨⟨nm3, a3, c3, ys, au3⟩, rfl, hcon, ho, hb⟩
   clear f0 f1 f2 f3 f4 f5 f6 f7 f8 f9
   have S4 := Lib.hid (show Sl.Sep w _ [_, _, _, _, _] from Bag.push_bag S3.out hb ho)
   clear S3
   clear hb ho
   have HCON := Lib.hid hcon
   clear hcon
   simp only [LS.v, LS.cells]
   obtain ⟨f0, f1, f2⟩ := Bag.cs3 S4.out 3 rfl
   obtain ⟨z0, z1, z2⟩ := Bag.fs3 S4.out 3 rfl
   go_wp2_with fail
   clear f0 f1 f2 z0 z1 z2
   have S5 := Lib.hid (show Sl.Sep w _ [_, _, _, L4.boxR (w.heap.size + 1 + 1 + 1) 26 #[.string nm3, .slice a3 ys.length c3, .int .i64 au3], _] from L5.put_box5 (L5.put_box5 (L5.put_box5 (S4.out) 3 rfl 0 (.string nm3)) 3 rfl 1 (.slice a3 ys.length c3)) 3 rfl 2 (.int .i64 au3))
   clear S4
   obtain ⟨f0, f1, f2⟩ := Bag.cs3 S5.out 3 rfl
   refine bodyPost_ret (v := .tuple #[.agg #[.string nm3, .slice a3 ys.length c3, .int .i64 au3], .bool false]) (by simp [results, Try.results19, go_sem, *]) rfl ?_
   have HE := Lib.hid (show res = (⟨name, conI xs, auto⟩, false) from by rw [HP.out]; rfl)
   exact ⟨⟨nm3, a3, c3, ys, au3⟩, by rw [HE.out]; rfl, by rw [HE.out]; exact HCON.out, Bag.bag_from S5.out 4 rfl, S5.out.old⟩
  | true =>
   go_wp2_with fail
   go_at_call 86
   refine (HIR.out _ S3.out.old).mono ?_
   rintro e w3 ⟨rfl, hb⟩
   clear f0 f1 f2 f3 f4 f5 f6 f7 f8 f9
   have S4 := Lib.hid (S3.out.keep hb)
   clear S3
   clear hb
   obtain ⟨f0, f1, f2⟩ := Bag.cs3 S4.out 0 rfl
   obtain ⟨f3, f4, f5⟩ := Bag.cs3 S4.out 1 rfl
   have f6 := Bag.cs1 S4.out 2 rfl
   obtain ⟨f7, f8, f9⟩ := Bag.cs3 S4.out 3 rfl
   cases br with
   | false =>
    go_wp2_with fail
    go_at_call 87
    refine (HCP.out _ S4.out.old).mono ?_
    rintro e w4 ⟨⟨nm3, a3, c3, ys, au3⟩, rfl, hcon, ho, hb⟩
    clear f0 f1 f2 f3 f4 f5 f6 f7 f8 f9
    have S5 := Lib.hid (show Sl.Sep w _ [_, _, _, _, _] from Bag.push_bag S4.out hb ho)
    clear S4
    clear hb ho
    have HCON := Lib.hid hcon
    clear hcon
    simp only [LS.v, LS.cells]
    obtain ⟨f0, f1, f2⟩ := Bag.cs3 S5.out 3 rfl
    obtain ⟨z0, z1, z2⟩ := Bag.fs3 S5.out 3 rfl
    go_wp2_with fail
    clear f0 f1 f2 z0 z1 z2
    have S6 := Lib.hid (show Sl.Sep w _ [_, _, _, L4.boxR (w.heap.size + 1 + 1 + 1) 26 #[.string nm3, .slice a3 ys.length c3, .int .i64 au3], _] from L5.put_box5 (L5.put_box5 (L5.put_box5 (S5.out) 3 rfl 0 (.string nm3)) 3 rfl 1 (.slice a3 ys.length c3)) 3 rfl 2 (.int .i64 au3))
    clear S5
    obtain ⟨f0, f1, f2⟩ := Bag.cs3 S6.out 3 rfl
    refine bodyPost_ret (v := .tuple #[.agg #[.string nm3, .slice a3 ys.length c3, .int .i64 au3], .bool false]) (by simp [results, Try.results19, go_sem, *]) rfl ?_
    have HE := Lib.hid (show res = (⟨name, conI xs, auto⟩, false) from by rw [HP.out]; rfl)
    exact ⟨⟨nm3, a3, c3, ys, au3⟩, by rw [HE.out]; rfl, by rw [HE.out]; exact HCON.out, Bag.bag_from S6.out 4 rfl, S6.out.old⟩
   | true =>
    replace HP := Lib.hid (show res = _ from HP.out)
    simp only [Bool.and_self, if_true] at HP
    go_wp2_with fail
    go_at_call 87
    refine (HCP.out _ S4.out.old).mono ?_
    rintro e w4 ⟨⟨nm3, a3, c3, ys, au3⟩, rfl, hcon, ho, hb⟩
    clear f0 f1 f2 f3 f4 f5 f6 f7 f8 f9
    have S5 := Lib.hid (show Sl.Sep w _ [_, _, _, _, _] from Bag.push_bag S4.out hb ho)
    clear S4
    clear hb ho
    have HCON := Lib.hid hcon
    clear hcon
    simp only [LS.v, LS.cells]
    obtain ⟨e1, e2, e3⟩ : nm3 = name ∧ conI ys = conI xs ∧ au3 = auto := by have h := HCON.out; unfold LS.con at h; simp only [S6.mk.injEq] at h; exact h
    subst e1
    subst e3
    have HCE := Lib.hid e2
    have hyl : ys.length = N := by have h := congrArg List.length e2; simp only [conI_length] at h; rw [h]; exact HN.out.symm
    clear e2 HCON
    obtain ⟨f0, f1, f2⟩ := Bag.cs3 S5.out 0 rfl
    obtain ⟨f3, f4, f5⟩ := Bag.cs3 S5.out 1 rfl
    have f6 := Bag.cs1 S5.out 2 rfl
    obtain ⟨f7, f8, f9⟩ := Bag.cs3 S5.out 3 rfl
    rw [hyl]
    go_upto_region 4 with fail
    clear f0 f1 f2 f3 f4 f5 f6 f7 f8 f9
    have S6 := Lib.hid (show Sl.Sep w _ [_, _, _, _, _, _] from L4.push_box S5.out 26 #[.string nm3, .slice a3 N c3, .int .i64 au3] w4.heap.size rfl)
    clear S5
    obtain ⟨g1, hg⟩ : ∃ g', g' = w4.heap.size := ⟨_, rfl⟩
    rw [← hg] at S6 ⊢
    clear hg
    generalize w4.alloc (.cells #[.string nm3, .slice a3 N c3, .int .i64 au3] 26) = w5 at S6 ⊢
    obtain ⟨f0, f1, f2⟩ := Bag.cs3 S6.out 0 rfl
    obtain ⟨f3, f4, f5⟩ := Bag.cs3 S6.out 1 rfl
    have f6 := Bag.cs1 S6.out 2 rfl
    obtain ⟨f7, f8, f9⟩ := Bag.cs3 S6.out 3 rfl
    obtain ⟨f10, f11, f12⟩ := Bag.cs3 S6.out 5 rfl
    obtain ⟨fi, hfi⟩ : ∃ i, fndI (conI xs) ⟨pk, pn, pt⟩ = i := ⟨_, rfl⟩
    rw [hfi] at HFD
    have HFI := Lib.hid hfi
    clear hfi
    go_wp2_with fail
    go_at_call 88
    refine (HFD.out _ S6.out.old).mono ?_
    rintro e w6 ⟨rfl, hb⟩
    clear f0 f1 f2 f3 f4 f5 f6 f7 f8 f9 f10 f11 f12
    have S7 := Lib.hid (S6.out.keep hb)
    clear S6
    clear hb
    obtain ⟨f0, f1, f2⟩ := Bag.cs3 S7.out 0 rfl
    obtain ⟨f3, f4, f5⟩ := Bag.cs3 S7.out 1 rfl
    have f6 := Bag.cs1 S7.out 2 rfl
    obtain ⟨f7, f8, f9⟩ := Bag.cs3 S7.out 3 rfl
    obtain ⟨f10, f11, f12⟩ := Bag.cs3 S7.out 5 rfl
    cases hfo : fndO (conI xs) ⟨pk, pn, pt⟩ with
    | some i =>
     have hfi2 : fi = (i : Int) := by have h := HFI.out; unfold fndI at h; rw [hfo] at h; exact h.symm
     obtain ⟨hi, hki⟩ := fndO_some hfo
     subst hfi2
     have hiN : i < N := by rw [conI_length] at hi; have := HN.out; omega
     have hiy : i < ys.length := by omega
     have HE := Lib.hid (show res = (⟨nm3, (conI xs).set i ⟨⟨pk, pn, pt⟩, rl⟩, au3⟩, true) from by rw [HP.out, hfo])
     have HKI := Lib.hid (show ys[i].k = ⟨pk, pn, pt⟩ from by have h1 := con_of (List.getElem?_eq_getElem hiy); rw [HCE.out, List.getElem?_eq_getElem hi] at h1; have h2 := Option.some.inj h1; rw [h2] at hki; exact hki)
     clear hfo hki hi
     have hii : ((i : Nat) : Int) < (N : Int) := by omega
     clear f0 f1 f2 f3 f4 f5 f6 f7 f8 f9 f10 f11 f12
     have S8 := Lib.hid (show Sl.Sep w _ [L4.boxR w.heap.size 26 #[.string nm3, .slice a N c, .int .i64 au3], L4.boxR (w.heap.size + 1) 28 #[.int .i64 pk, .int .i64 pn, .string pt], L4.boxR (w.heap.size + 1 + 1) 31 #[.slice ra M rc], L4.boxR (w.heap.size + 1 + 1 + 1) 26 #[.string ⟨#[]⟩, .slice none 0 0, .int .i64 0], Bag.bag ([rowI a3 c3 ys] ++ rowsI ys), L4.boxR g1 26 #[.string nm3, .slice a3 N c3, .int .i64 au3]] from S7.out)
     clear S7
     have S9 := Lib.hid (show Sl.Sep w _ [_, _, _, _, Bag.bag ([rowI a3 c3 ys]), _, Bag.bag (rowsI ys)] from Bag.bag_split S8.out 4 rfl)
     clear S8
     have S10 := Lib.hid (show Sl.Sep w _ [_, _, _, _, Sv.ownV 40 4 a3 c3 N (cellsI ys), _, _] from (by have h := Bag.one_of_bag S9.out 4 (r := rowI a3 c3 ys) rfl; unfold RowS.res rowI at h; dsimp only at h; rw [hyl] at h; exact h))
     clear S9
     obtain ⟨g3, rfl⟩ : ∃ g, a3 = some ⟨g, 0, none⟩ := by
      rcases (Sv.own_at S10.out 4 rfl).form with ⟨_, h0, _⟩ | ⟨g, e, _⟩
      ·
       omega
      ·
       exact ⟨g, e⟩
     obtain ⟨f0, f1, f2⟩ := Bag.cs3 S10.out 0 rfl
     obtain ⟨f3, f4, f5⟩ := Bag.cs3 S10.out 1 rfl
     have f6 := Bag.cs1 S10.out 2 rfl
     obtain ⟨f7, f8, f9⟩ := Bag.cs3 S10.out 3 rfl
     obtain ⟨f10, f11, f12⟩ := Bag.cs3 S10.out 5 rfl
     go_upto_region 6 with fail
     clear f0 f1 f2 f3 f4 f5 f6 f7 f8 f9 f10 f11 f12
     refine wp_region_held_drew (S := (fun w' => (w'.cell? ⟨w.heap.size + 1 + 1, 0, none⟩ = some (.slice ra M rc)) ∧ (w'.cell? ⟨g1, 0, none⟩ = some (.string nm3) ∧ w'.cell? ⟨g1, 1, none⟩ = some (.slice (some ⟨g3, 0, none⟩) N c3) ∧ w'.cell? ⟨g1, 2, none⟩ = some (.int .i64 au3)))) (by kernel_rfl) ⟨Bag.cs1 (Bag.drew1 S10.out) 2 rfl, Bag.cs3 (Bag.drew1 S10.out) 5 rfl⟩ (fun hS => ?_)
     have S11 := Lib.hid (Bag.drew1 S10.out)
     clear S10
     generalize World.drew _ = w7 at hS S11 ⊢
     refine tk 0 rfl ?_
     try simp only [zp0, zp1, zp2, zp3, zp4]
     refine tk 1 rfl ?_
     try simp only [zp0, zp1, zp2, zp3, zp4]
     refine tk 2 rfl ?_
     try simp only [zp0, zp1, zp2, zp3, zp4]
     refine tk 3 rfl ?_
     try simp only [zp0, zp1, zp2, zp3, zp4]
     refine Reg.one_op (i := 4) rfl (by kernel_rfl) (fun K hK => ?_)
     go_simp
     go_at_call 89
     refine (HRC.out _ S11.out.old).mono ?_
     rintro e w8 ⟨a1, c1, rfl, ho, hb⟩
     have S12 := Lib.hid (show Sl.Sep w _ [_, _, _, _, _, _, _, Sv.ownV 128 2 a1 c1 M (cellsF rl)] from Sv.push_own S11.out hb ho)
     clear S11
     clear hb ho
     go_wp2_with fail
     refine hK.out _ _ ⟨Bag.cs1 S12.out 2 rfl, Bag.cs3 S12.out 5 rfl⟩ (fun hS => ?_)
     clear hK K
     try simp only [zp0, zp1, zp2, zp3, zp4]
     refine tk 5 rfl ?_
     try simp only [zp0, zp1, zp2, zp3, zp4]
     refine tk 6 rfl ?_
     try simp only [zp0, zp1, zp2, zp3, zp4]
     refine Reg.one_op (i := 7) rfl (by kernel_rfl) (fun K hK => ?_)
     have q0 := (Sv.own_at S12.out 4 rfl).cell (i * 4 + 3) (by rw [cellsI_length]; omega)
     have q1 := (Sv.own_at S12.out 4 rfl).free (i * 4 + 3)
     go_simp
     clear q0 q1
     have S13 := Lib.hid (show Sl.Sep w (w8.setCell ⟨g3, i * 4 + 3, none⟩ (.slice a1 M c1)) [_, _, _, _, Sv.ownV 40 4 (some ⟨g3, 0, none⟩) c3 N (cellsI (ys.set i ⟨ys[i].k, a1, c1, rl⟩)), _, _, _] from (by have h := Sv.set_own S12.out 4 rfl (i * 4 + 3) (by rw [cellsI_length]; omega) (.slice a1 M c1); rw [cellsI_set3m ys i hiy a1 c1 rl M HM.out] at h; exact h))
     clear S12
     refine hK.out _ _ ⟨Bag.cs1 S13.out 2 rfl, Bag.cs3 S13.out 5 rfl⟩ (fun hS => ?_)
     clear hK K
     try simp only [zp0, zp1, zp2, zp3, zp4]
     refine wpAnyH_done (by kernel_rfl) ?_ _
     obtain ⟨f0, f1, f2⟩ := Bag.cs3 S13.out 0 rfl
     obtain ⟨f3, f4, f5⟩ := Bag.cs3 S13.out 1 rfl
     have f6 := Bag.cs1 S13.out 2 rfl
     obtain ⟨f7, f8, f9⟩ := Bag.cs3 S13.out 3 rfl
     obtain ⟨f10, f11, f12⟩ := Bag.cs3 S13.out 5 rfl
     clear f0 f1 f2 f3 f4 f5 f6 f7 f8 f9 f10 f11 f12
     obtain ⟨f0, f1, f2⟩ := Bag.cs3 S13.out 3 rfl
     obtain ⟨f3, f4, f5⟩ := Bag.cs3 S13.out 5 rfl
     obtain ⟨z0, z1, z2⟩ := Bag.fs3 S13.out 3 rfl
     go_wp2_with fail
     clear f0 f1 f2 f3 f4 f5 z0 z1 z2
     have S14 := Lib.hid (show Sl.Sep w _ [_, _, _, L4.boxR (w.heap.size + 1 + 1 + 1) 26 #[.string nm3, .slice (some ⟨g3, 0, none⟩) N c3, .int .i64 au3], _, _, _, _] from L5.put_box5 (L5.put_box5 (L5.put_box5 (S13.out) 3 rfl 0 (.string nm3)) 3 rfl 1 (.slice (some ⟨g3, 0, none⟩) N c3)) 3 rfl 2 (.int .i64 au3))
     clear S13
     obtain ⟨f0, f1, f2⟩ := Bag.cs3 S14.out 3 rfl
     refine bodyPost_ret (v := .tuple #[.agg #[.string nm3, .slice (some ⟨g3, 0, none⟩) N c3, .int .i64 au3], .bool true]) (by simp [results, Try.results19, go_sem, *]) rfl ?_
     clear f0 f1 f2
     have hM := HM.out
     subst hM
     have S90 := Lib.hid (Bag.bag_of_one S14.out 7 (r := (LI.mk ys[i].k a1 c1 rl).row) rfl)
     have S91 := Lib.hid (Bag.bag_join S90.out 6 7 (by decide) rfl rfl)
     have S92 := Lib.hid (bag_swap S91.out 6 rfl i (by unfold rowsI; rw [List.length_map]; exact hiy))
     have S93 := Lib.hid (Bag.bag_of_one S92.out 4 (r := rowI (some ⟨g3, 0, none⟩) c3 (ys.set i ⟨ys[i].k, a1, c1, rl⟩)) (by unfold RowS.res rowI; dsimp only; rw [List.length_set, hyl]; rfl))
     have S94 := Lib.hid (Bag.bag_join S93.out 4 6 (by decide) rfl rfl)
     refine ⟨⟨nm3, some ⟨g3, 0, none⟩, c3, ys.set i ⟨ys[i].k, a1, c1, rl⟩, au3⟩, ?_, ?_, ?_, S94.out.old⟩
     ·
      rw [HE.out]; unfold LS.v LS.cells; dsimp only; rw [List.length_set, hyl]
     ·
      rw [HE.out]; unfold LS.con; dsimp only; rw [conI_set, HCE.out]; unfold LI.con; dsimp only; rw [HKI.out]
     ·
      have h := Bag.bag_from S94.out 4 rfl
      unfold LS.rows; rw [rowsI_set]; exact h
    | none =>
     have hfi2 : fi = -1 := by have h := HFI.out; unfold fndI at h; rw [hfo] at h; exact h.symm
     subst hfi2
     by_cases h16 : (16 : Int) ≤ (N : Int)
     ·
      have HE := Lib.hid (show res = (⟨nm3, conI xs, au3⟩, false) from by rw [HP.out, hfo]; dsimp only; rw [if_pos (by rw [conI_length, ← HN.out]; omega)])
      clear hfo
      go_upto_region 9 with fail
      clear f0 f1 f2 f3 f4 f5 f6 f7 f8 f9 f10 f11 f12
      obtain ⟨f0, f1, f2⟩ := Bag.cs3 S7.out 3 rfl
      obtain ⟨f3, f4, f5⟩ := Bag.cs3 S7.out 5 rfl
      obtain ⟨z0, z1, z2⟩ := Bag.fs3 S7.out 3 rfl
      go_wp2_with fail
      clear f0 f1 f2 f3 f4 f5 z0 z1 z2
      have S8 := Lib.hid (show Sl.Sep w _ [L4.boxR w.heap.size 26 #[.string nm3, .slice a N c, .int .i64 au3], L4.boxR (w.heap.size + 1) 28 #[.int .i64 pk, .int .i64 pn, .string pt], L4.boxR (w.heap.size + 1 + 1) 31 #[.slice ra M rc], L4.boxR (w.heap.size + 1 + 1 + 1) 26 #[.string nm3, .slice a3 N c3, .int .i64 au3], Bag.bag ((LS.mk nm3 a3 c3 ys au3).rows), L4.boxR g1 26 #[.string nm3, .slice a3 N c3, .int .i64 au3]] from L5.put_box5 (L5.put_box5 (L5.put_box5 (S7.out) 3 rfl 0 (.string nm3)) 3 rfl 1 (.slice a3 N c3)) 3 rfl 2 (.int .i64 au3))
      clear S7
      obtain ⟨f0, f1, f2⟩ := Bag.cs3 S8.out 3 rfl
      refine bodyPost_ret (v := .tuple #[.agg #[.string nm3, .slice a3 N c3, .int .i64 au3], .bool false]) (by simp [results, Try.results19, go_sem, *]) rfl ?_
      clear f0 f1 f2
      exact ⟨⟨nm3, a3, c3, ys, au3⟩, by rw [HE.out]; unfold LS.v LS.cells; dsimp only; rw [hyl], by rw [HE.out]; unfold LS.con; dsimp only; rw [HCE.out], Bag.bag_from S8.out 4 rfl, S8.out.old⟩
     ·
      skip
      have HE := Lib.hid (show res = (⟨nm3, (conI xs).take (posI (conI xs) ⟨pk, pn, pt⟩) ++ ⟨⟨pk, pn, pt⟩, rl⟩ :: (conI xs).drop (posI (conI xs) ⟨pk, pn, pt⟩), nextAuto au3 ⟨pk, pn, pt⟩⟩, true) from by rw [HP.out, hfo]; dsimp only; rw [if_neg (by rw [conI_length, ← HN.out]; omega)])
      clear hfo
      have HAU := Lib.hid (show 0 ≤ au3 ∧ au3 ≤ 1000000 from by have h := HBS.out; unfold isS at h; simp only [Bool.and_eq_true] at h; exact L1.inB_true.1 h.2.2.2)
      clear f0 f1 f2 f3 f4 f5 f6 f7 f8 f9 f10 f11 f12
      have S8 := Lib.hid (show Sl.Sep w _ [L4.boxR w.heap.size 26 #[.string nm3, .slice a N c, .int .i64 au3], L4.boxR (w.heap.size + 1) 28 #[.int .i64 pk, .int .i64 pn, .string pt], L4.boxR (w.heap.size + 1 + 1) 31 #[.slice ra M rc], L4.boxR (w.heap.size + 1 + 1 + 1) 26 #[.string ⟨#[]⟩, .slice none 0 0, .int .i64 0], Bag.bag ([rowI a3 c3 ys] ++ rowsI ys), L4.boxR g1 26 #[.string nm3, .slice a3 N c3, .int .i64 au3]] from S7.out)
      clear S7
      have S9 := Lib.hid (show Sl.Sep w _ [_, _, _, _, Bag.bag ([rowI a3 c3 ys]), _, Bag.bag (rowsI ys)] from Bag.bag_split S8.out 4 rfl)
      clear S8
      have S10 := Lib.hid (show Sl.Sep w _ [_, _, _, _, Sv.ownV 40 4 a3 c3 N (cellsI ys), _, _] from (by have h := Bag.one_of_bag S9.out 4 (r := rowI a3 c3 ys) rfl; unfold RowS.res rowI at h; dsimp only at h; rw [hyl] at h; exact h))
      clear S9
      obtain ⟨f0, f1, f2⟩ := Bag.cs3 S10.out 0 rfl
      obtain ⟨f3, f4, f5⟩ := Bag.cs3 S10.out 1 rfl
      have f6 := Bag.cs1 S10.out 2 rfl
      obtain ⟨f7, f8, f9⟩ := Bag.cs3 S10.out 3 rfl
      obtain ⟨f10, f11, f12⟩ := Bag.cs3 S10.out 5 rfl
      go_wp2_with fail
      go_loopw [10] (fun i wr => ∃ k : Nat, k ≤ N ∧ i = .int .i64 k ∧ Hid ((∀ j (hj : j < (conI xs).length), j < k → cmpK (conI xs)[j].k ⟨pk, pn, pt⟩ < 0) ∧ Sl.Sep w wr [L4.boxR w.heap.size 26 #[.string nm3, .slice a N c, .int .i64 au3], L4.boxR (w.heap.size + 1) 28 #[.int .i64 pk, .int .i64 pn, .string pt], L4.boxR (w.heap.size + 1 + 1) 31 #[.slice ra M rc], L4.boxR (w.heap.size + 1 + 1 + 1) 26 #[.string ⟨#[]⟩, .slice none 0 0, .int .i64 0], Sv.ownV 40 4 a3 c3 N (cellsI ys), L4.boxR g1 26 #[.string nm3, .slice a3 N c3, .int .i64 au3], Bag.bag (rowsI ys)])) (fun i _ => N - (intOf i).toNat)
      case atStart => exact ⟨0, Nat.zero_le _, rfl, And.intro (fun j hj h => absurd h (by omega)) S10.out⟩
      case round =>
       clear f0 f1 f2 f3 f4 f5 f6 f7 f8 f9 f10 f11 f12
       obtain ⟨k, hk, rfl, hrel⟩ := hrel
       have HA := Lib.hid hrel.out.1
       have S11 := Lib.hid hrel.out.2
       clear hrel S10
       by_cases hlt : (k : Int) < (N : Int)
       ·
        skip
        have hkl : k < xs.length := by have := HN.out; omega
        obtain ⟨ad, x, rfl, hx⟩ := readsI_some (HR.out _ S11.out.old) k hkl
        obtain ⟨⟨kd, n, t⟩, ia, ic, l⟩ := x
        have HK := Lib.hid (fun w' (h : Below w.heap.size w w') => readsI_at (HR.out _ h) k _ hx)
        try dsimp only at HK
        have HFI := Lib.hid (fit_at HF.out hx)
        try dsimp only [LI.con] at HFI
        have hci : k < (conI xs).length := by rw [conI_length]; exact hkl
        have HC := Lib.hid (show (conI xs)[k]? = some (⟨⟨kd, n, t⟩, l⟩ : It) from con_of hx)
        clear hx
        obtain ⟨cv, hcv⟩ : ∃ b, cmpK ⟨kd, n, t⟩ ⟨pk, pn, pt⟩ = b := ⟨_, rfl⟩
        have HCMP := fun w => L4.specCompareKeys_any ⟨kd, n, t⟩ ⟨pk, pn, pt⟩ (by have : t.size ≤ 1099511627776 := HFI.out.text; show t.size ≤ _; omega) (by show pt.size ≤ _; omega) w
        rw [hcv] at HCMP
        replace HCMP := Lib.hid HCMP
        have HCV := Lib.hid hcv
        clear hcv
        obtain ⟨f0, f1, f2⟩ := Bag.cs3 S11.out 0 rfl
        obtain ⟨f3, f4, f5⟩ := Bag.cs3 S11.out 1 rfl
        have f6 := Bag.cs1 S11.out 2 rfl
        obtain ⟨f7, f8, f9⟩ := Bag.cs3 S11.out 3 rfl
        obtain ⟨f10, f11, f12⟩ := Bag.cs3 S11.out 5 rfl
        obtain ⟨f13, f14, f15, f16⟩ := HK.out _ S11.out.old
        by_cases hc : cv < 0
        ·
         skip
         go_upto_region 11 with fail
         clear f0 f1 f2 f3 f4 f5 f6 f7 f8 f9 f10 f11 f12 f13 f14 f15 f16
         refine wp_region_held_drew (S := (fun w' => (w'.cell? ⟨w.heap.size, 0, none⟩ = some (.string nm3) ∧ w'.cell? ⟨w.heap.size, 1, none⟩ = some (.slice (some ad) N c) ∧ w'.cell? ⟨w.heap.size, 2, none⟩ = some (.int .i64 au3)) ∧ (w'.cell? ⟨w.heap.size + 1, 0, none⟩ = some (.int .i64 pk) ∧ w'.cell? ⟨w.heap.size + 1, 1, none⟩ = some (.int .i64 pn) ∧ w'.cell? ⟨w.heap.size + 1, 2, none⟩ = some (.string pt)) ∧ (w'.cell? (ad.add (k * 4)) = some (.int .i64 kd) ∧ w'.cell? (⟨(ad.add (k * 4)).block, (ad.add (k * 4)).off + 1, none⟩) = some (.int .i64 n) ∧ w'.cell? (⟨(ad.add (k * 4)).block, (ad.add (k * 4)).off + 2, none⟩) = some (.string t) ∧ w'.cell? (⟨(ad.add (k * 4)).block, (ad.add (k * 4)).off + 3, none⟩) = some (.slice ia l.length ic)))) (by kernel_rfl) ⟨Bag.cs3 (Bag.drew1 S11.out) 0 rfl, Bag.cs3 (Bag.drew1 S11.out) 1 rfl, HK.out _ (Bag.drew1 S11.out).old⟩ (fun hS => ?_)
         have S12 := Lib.hid (Bag.drew1 S11.out)
         clear S11
         generalize World.drew _ = w7 at hS S12 ⊢
         refine tk 0 rfl ?_
         try simp only [zp0, zp1, zp2, zp3, zp4]
         refine tk 1 rfl ?_
         try simp only [zp0, zp1, zp2, zp3, zp4]
         refine tk 2 rfl ?_
         try simp only [zp0, zp1, zp2, zp3, zp4]
         refine tk 3 rfl ?_
         try simp only [zp0, zp1, zp2, zp3, zp4]
         refine tk 4 rfl ?_
         try simp only [zp0, zp1, zp2, zp3, zp4]
         refine tk 5 rfl ?_
         try simp only [zp0, zp1, zp2, zp3, zp4]
         refine tk 6 rfl ?_
         try simp only [zp0, zp1, zp2, zp3, zp4]
         refine tk 7 rfl ?_
         try simp only [zp0, zp1, zp2, zp3, zp4]
         refine tk 8 rfl ?_
         try simp only [zp0, zp1, zp2, zp3, zp4]
         refine tk 9 rfl ?_
         try simp only [zp0, zp1, zp2, zp3, zp4]
         refine tk 10 rfl ?_
         try simp only [zp0, zp1, zp2, zp3, zp4]
         refine tk 11 rfl ?_
         try simp only [zp0, zp1, zp2, zp3, zp4]
         refine tk 12 rfl ?_
         try simp only [zp0, zp1, zp2, zp3, zp4]
         refine Reg.one_op (i := 13) rfl (by kernel_rfl) (fun K hK => ?_)
         go_simp
         go_at_call 90
         refine (HCMP.out _).mono ?_
         rintro e w8 ⟨rfl, hb⟩
         have S13 := Lib.hid (S12.out.keep hb)
         clear S12
         clear hb
         go_wp2_with fail
         refine hK.out _ _ ⟨Bag.cs3 S13.out 0 rfl, Bag.cs3 S13.out 1 rfl, HK.out _ S13.out.old⟩ (fun hS => ?_)
         clear hK K
         try simp only [zp0, zp1, zp2, zp3, zp4]
         refine tk 14 rfl ?_
         try simp only [zp0, zp1, zp2, zp3, zp4]
         refine tk 15 rfl ?_
         try simp only [zp0, zp1, zp2, zp3, zp4]
         refine wpAnyH_done (by kernel_rfl) ?_ _
         obtain ⟨f0, f1, f2⟩ := Bag.cs3 S13.out 0 rfl
         obtain ⟨f3, f4, f5⟩ := Bag.cs3 S13.out 1 rfl
         have f6 := Bag.cs1 S13.out 2 rfl
         obtain ⟨f7, f8, f9⟩ := Bag.cs3 S13.out 3 rfl
         obtain ⟨f10, f11, f12⟩ := Bag.cs3 S13.out 5 rfl
         obtain ⟨f13, f14, f15, f16⟩ := HK.out _ S13.out.old
         go_wp2_with fail
         go_roundw
         case rel => exact ⟨k + 1, by omega, by go_num, And.intro (fun j hj h => by
          by_cases e : j < k
          ·
           exact HA.out j hj e
          ·
           obtain rfl : j = k := by omega
           rw [(List.getElem?_eq_some_iff.1 HC.out).2, HCV.out]; exact hc) S13.out⟩
         case measure => simp [intOf]; omega
        ·
         have hc2 : 0 ≤ cv := by omega
         go_upto_region 11 with fail
         clear f0 f1 f2 f3 f4 f5 f6 f7 f8 f9 f10 f11 f12 f13 f14 f15 f16
         refine wp_region_held_drew (S := (fun w' => (w'.cell? ⟨w.heap.size, 0, none⟩ = some (.string nm3) ∧ w'.cell? ⟨w.heap.size, 1, none⟩ = some (.slice (some ad) N c) ∧ w'.cell? ⟨w.heap.size, 2, none⟩ = some (.int .i64 au3)) ∧ (w'.cell? ⟨w.heap.size + 1, 0, none⟩ = some (.int .i64 pk) ∧ w'.cell? ⟨w.heap.size + 1, 1, none⟩ = some (.int .i64 pn) ∧ w'.cell? ⟨w.heap.size + 1, 2, none⟩ = some (.string pt)) ∧ (w'.cell? (ad.add (k * 4)) = some (.int .i64 kd) ∧ w'.cell? (⟨(ad.add (k * 4)).block, (ad.add (k * 4)).off + 1, none⟩) = some (.int .i64 n) ∧ w'.cell? (⟨(ad.add (k * 4)).block, (ad.add (k * 4)).off + 2, none⟩) = some (.string t) ∧ w'.cell? (⟨(ad.add (k * 4)).block, (ad.add (k * 4)).off + 3, none⟩) = some (.slice ia l.length ic)))) (by kernel_rfl) ⟨Bag.cs3 (Bag.drew1 S11.out) 0 rfl, Bag.cs3 (Bag.drew1 S11.out) 1 rfl, HK.out _ (Bag.drew1 S11.out).old⟩ (fun hS => ?_)
         have S12 := Lib.hid (Bag.drew1 S11.out)
         clear S11
         generalize World.drew _ = w7 at hS S12 ⊢
         refine tk 0 rfl ?_
         try simp only [zp0, zp1, zp2, zp3, zp4]
         refine tk 1 rfl ?_
         try simp only [zp0, zp1, zp2, zp3, zp4]
         refine tk 2 rfl ?_
         try simp only [zp0, zp1, zp2, zp3, zp4]
         refine tk 3 rfl ?_
         try simp only [zp0, zp1, zp2, zp3, zp4]
         refine tk 4 rfl ?_
         try simp only [zp0, zp1, zp2, zp3, zp4]
         refine tk 5 rfl ?_
         try simp only [zp0, zp1, zp2, zp3, zp4]
         refine tk 6 rfl ?_
         try simp only [zp0, zp1, zp2, zp3, zp4]
         refine tk 7 rfl ?_
         try simp only [zp0, zp1, zp2, zp3, zp4]
         refine tk 8 rfl ?_
         try simp only [zp0, zp1, zp2, zp3, zp4]
         refine tk 9 rfl ?_
         try simp only [zp0, zp1, zp2, zp3, zp4]
         refine tk 10 rfl ?_
         try simp only [zp0, zp1, zp2, zp3, zp4]
         refine tk 11 rfl ?_
         try simp only [zp0, zp1, zp2, zp3, zp4]
         refine tk 12 rfl ?_
         try simp only [zp0, zp1, zp2, zp3, zp4]
         refine Reg.one_op (i := 13) rfl (by kernel_rfl) (fun K hK => ?_)
         go_simp
         go_at_call 90
         refine (HCMP.out _).mono ?_
         rintro e w8 ⟨rfl, hb⟩
         have S13 := Lib.hid (S12.out.keep hb)
         clear S12
         clear hb
         go_wp2_with fail
         refine hK.out _ _ ⟨Bag.cs3 S13.out 0 rfl, Bag.cs3 S13.out 1 rfl, HK.out _ S13.out.old⟩ (fun hS => ?_)
         clear hK K
         try simp only [zp0, zp1, zp2, zp3, zp4]
         refine tk 14 rfl ?_
         try simp only [zp0, zp1, zp2, zp3, zp4]
         refine tk 15 rfl ?_
         try simp only [zp0, zp1, zp2, zp3, zp4]
         refine wpAnyH_done (by kernel_rfl) ?_ _
         obtain ⟨f0, f1, f2⟩ := Bag.cs3 S13.out 0 rfl
         obtain ⟨f3, f4, f5⟩ := Bag.cs3 S13.out 1 rfl
         have f6 := Bag.cs1 S13.out 2 rfl
         obtain ⟨f7, f8, f9⟩ := Bag.cs3 S13.out 3 rfl
         obtain ⟨f10, f11, f12⟩ := Bag.cs3 S13.out 5 rfl
         obtain ⟨f13, f14, f15, f16⟩ := HK.out _ S13.out.old
         have HPOS := Lib.hid (posI_at (xs := conI xs) (k := ⟨pk, pn, pt⟩) k (by omega) HA.out (fun h => by rw [(List.getElem?_eq_some_iff.1 HC.out).2, HCV.out]; omega))
         clear f0 f1 f2 f3 f4 f5 f6 f7 f8 f9 f10 f11 f12 f13 f14 f15 f16
         obtain ⟨g9, rfl⟩ : ∃ g, a3 = some ⟨g, 0, none⟩ := by
          rcases (Sv.own_at S13.out 4 rfl).form with ⟨_, h0, _⟩ | ⟨g, e, _⟩
          ·
           omega
          ·
           exact ⟨g, e⟩
         have hky : k ≤ ys.length := by omega
         have hck : (k : Int) ≤ (c3 : Int) := by have := (Sv.own_at S13.out 4 rfl).cap; omega
         have S14 := Lib.hid (show Sl.Sep w _ [L4.boxR w.heap.size 26 #[.string nm3, .slice (some ad) N c, .int .i64 au3], _, _, _, Sv.ownV 40 4 (some ⟨g9, 0, none⟩) c3 N (cellsI ys), L4.boxR g1 26 #[.string nm3, .slice (some ⟨g9, 0, none⟩) N c3, .int .i64 au3], _, Sv.ownV 40 4 (some ⟨w8.heap.size, 0, none⟩) 0 0 (cellsI [])] from Sv.push_own S13.out ((Below.refl _ _).alloc (Nat.le_refl _) _) (OwnV.madeAt w8 40 4 0 w8.heap.size #[] rfl (Nat.le_refl _) rfl (by decide)))
         clear S13
         obtain ⟨f0, f1, f2⟩ := Bag.cs3 S14.out 5 rfl
         obtain ⟨f3, f4, f5, f6⟩ := HK.out _ S14.out.old
         go_wp2_with (at_builtin; refine L5.wpList_append_v S14.out 7 rfl rfl _ _ 24 (by rfl) i0 (.agg #[.int .i64 0, .int .i64 0, .string ⟨#[]⟩, .slice none 0 0]) 56 Try.underlying24 HI.out.1 HI.out.2.1 HI.out.2.2.1 HI.out.2.2.2 rfl (by omega) _ (by rfl) rfl _ _ k _ _ (cellsI (ys.take k)) (by rfl) rfl (reads_head (Sv.own_at S14.out 4 rfl).reads k) (by rw [cellsI_length, List.length_take, Nat.min_eq_left hky]) (cellsI_one _) (by unfold maxLen; omega) (by omega) ?_; intro a2' c2' w9 hA)
         clear f0 f1 f2 f3 f4 f5 f6
         have S15 := Lib.hid (show Sl.Sep w w9 [L4.boxR w.heap.size 26 #[.string nm3, .slice (some ad) N c, .int .i64 au3], L4.boxR (w.heap.size + 1) 28 #[.int .i64 pk, .int .i64 pn, .string pt], L4.boxR (w.heap.size + 1 + 1) 31 #[.slice ra M rc], L4.boxR (w.heap.size + 1 + 1 + 1) 26 #[.string ⟨#[]⟩, .slice none 0 0, .int .i64 0], Sv.ownV 40 4 (some ⟨g9, 0, none⟩) c3 N (cellsI ys), L4.boxR g1 26 #[.string nm3, .slice (some ⟨g9, 0, none⟩) N c3, .int .i64 au3], Bag.bag (rowsI ys), Sv.ownV 40 4 a2' c2' k (cellsI (ys.take k))] from (by have h := hA; rw [Nat.zero_add] at h; exact h))
         clear S14
         clear hA
         obtain ⟨f0, f1, f2⟩ := Bag.cs3 S15.out 0 rfl
         obtain ⟨f3, f4, f5⟩ := Bag.cs3 S15.out 1 rfl
         have f6 := Bag.cs1 S15.out 2 rfl
         obtain ⟨f7, f8, f9⟩ := Bag.cs3 S15.out 3 rfl
         obtain ⟨f10, f11, f12⟩ := Bag.cs3 S15.out 5 rfl
         obtain ⟨f13, f14, f15, f16⟩ := HK.out _ S15.out.old
         go_upto_region 14 with fail
         clear f0 f1 f2 f3 f4 f5 f6 f7 f8 f9 f10 f11 f12 f13 f14 f15 f16
         refine wp_region_held_drew (S := (fun w' => (w'.cell? ⟨w.heap.size + 1, 0, none⟩ = some (.int .i64 pk) ∧ w'.cell? ⟨w.heap.size + 1, 1, none⟩ = some (.int .i64 pn) ∧ w'.cell? ⟨w.heap.size + 1, 2, none⟩ = some (.string pt)) ∧ (w'.cell? ⟨w.heap.size + 1 + 1, 0, none⟩ = some (.slice ra M rc)) ∧ (w'.cell? (ad.add (k * 4)) = some (.int .i64 kd) ∧ w'.cell? (⟨(ad.add (k * 4)).block, (ad.add (k * 4)).off + 1, none⟩) = some (.int .i64 n) ∧ w'.cell? (⟨(ad.add (k * 4)).block, (ad.add (k * 4)).off + 2, none⟩) = some (.string t) ∧ w'.cell? (⟨(ad.add (k * 4)).block, (ad.add (k * 4)).off + 3, none⟩) = some (.slice ia l.length ic)))) (by kernel_rfl) ⟨Bag.cs3 (Bag.drew1 S15.out) 1 rfl, Bag.cs1 (Bag.drew1 S15.out) 2 rfl, HK.out _ (Bag.drew1 S15.out).old⟩ (fun hS => ?_)
         have S16 := Lib.hid (Bag.drew1 S15.out)
         clear S15
         generalize World.drew _ = w10 at hS S16 ⊢
         refine tk 0 rfl ?_
         try simp only [zp0, zp1, zp2, zp3, zp4]
         refine tk 1 rfl ?_
         try simp only [zp0, zp1, zp2, zp3, zp4]
         refine tk 2 rfl ?_
         try simp only [zp0, zp1, zp2, zp3, zp4]
         refine Reg.one_op (i := 3) rfl (by kernel_rfl) (fun K hK => ?_)
         go_simp
         go_at_call 89
         refine (HRC.out _ S16.out.old).mono ?_
         rintro e w11 ⟨a1, c1, rfl, ho, hb⟩
         have S17 := Lib.hid (show Sl.Sep w _ [_, _, _, _, _, _, _, _, Sv.ownV 128 2 a1 c1 M (cellsF rl)] from Sv.push_own S16.out hb ho)
         clear S16
         clear hb ho
         go_wp2_with fail
         refine hK.out _ _ ⟨Bag.cs3 S17.out 1 rfl, Bag.cs1 S17.out 2 rfl, HK.out _ S17.out.old⟩ (fun hS => ?_)
         clear hK K
         try simp only [zp0, zp1, zp2, zp3, zp4]
         refine tk 4 rfl ?_
         try simp only [zp0, zp1, zp2, zp3, zp4]
         refine Reg.one_op (i := 5) rfl (by kernel_rfl) (fun K hK => ?_)
         go_simp
         have S18 := Lib.hid (show Sl.Sep w _ [_, _, _, _, _, _, _, _, _, Sv.ownV 40 4 (some ⟨w11.heap.size, 0, none⟩) 1 1 ([.int .i64 pk, .int .i64 pn, .string pt, .slice a1 M c1])] from Sv.push_own S17.out ((Below.refl _ _).alloc (Nat.le_refl _) _) (OwnV.madeAt w11 40 4 1 w11.heap.size #[.int .i64 pk, .int .i64 pn, .string pt, .slice a1 M c1] rfl (Nat.le_refl _) rfl (by decide)))
         clear S17
         obtain ⟨g3, hg⟩ : ∃ g', g' = w11.heap.size := ⟨_, rfl⟩
         rw [← hg] at S18 ⊢
         clear hg
         generalize w11.alloc (.cells #[.int .i64 pk, .int .i64 pn, .string pt, .slice a1 M c1] 40) = w12 at S18 ⊢
         refine hK.out _ _ ⟨Bag.cs3 S18.out 1 rfl, Bag.cs1 S18.out 2 rfl, HK.out _ S18.out.old⟩ (fun hS => ?_)
         clear hK K
         try simp only [zp0, zp1, zp2, zp3, zp4]
         refine Reg.one_op (i := 6) rfl (by kernel_rfl) (fun K hK => ?_)
         refine Sv.step_append_s S18.out 7 rfl rfl _ _ 24 (by rfl) i0 (.agg #[.int .i64 0, .int .i64 0, .string ⟨#[]⟩, .slice none 0 0]) 56 Try.underlying24 HI.out.1 HI.out.2.1 HI.out.2.2.1 HI.out.2.2.2 rfl (by omega) _ (by rfl) rfl _ _ 1 _ _ ([.int .i64 pk, .int .i64 pn, .string pt, .slice a1 M c1]) (by rfl) rfl ((Sv.own_at S18.out 9 rfl).reads) rfl (by intro u hu; simp at hu; rcases hu with rfl | rfl | rfl | rfl <;> rfl) (by unfold maxLen; omega) (by omega) ?_
         intro a4' c4' w13 hA
         have S19 := Lib.hid (show Sl.Sep w _ [_, _, _, _, _, _, _, Sv.ownV 40 4 a4' c4' (k + 1) (cellsI (ys.take k) ++ ([.int .i64 pk, .int .i64 pn, .string pt, .slice a1 M c1])), _, Sv.ownV 40 4 (some ⟨g3, 0, none⟩) 1 1 ([.int .i64 pk, .int .i64 pn, .string pt, .slice a1 M c1])] from hA)
         clear S18
         clear hA
         refine hK.out _ _ ⟨Bag.cs3 S19.out 1 rfl, Bag.cs1 S19.out 2 rfl, HK.out _ S19.out.old⟩ (fun hS => ?_)
         clear hK K
         try simp only [zp0, zp1, zp2, zp3, zp4]
         refine tk 7 rfl ?_
         try simp only [zp0, zp1, zp2, zp3, zp4]
         refine wpAnyH_done (by kernel_rfl) ?_ _
         obtain ⟨f0, f1, f2⟩ := Bag.cs3 S19.out 0 rfl
         obtain ⟨f3, f4, f5⟩ := Bag.cs3 S19.out 1 rfl
         have f6 := Bag.cs1 S19.out 2 rfl
         obtain ⟨f7, f8, f9⟩ := Bag.cs3 S19.out 3 rfl
         obtain ⟨f10, f11, f12⟩ := Bag.cs3 S19.out 5 rfl
         obtain ⟨f13, f14, f15, f16⟩ := HK.out _ S19.out.old
         clear f0 f1 f2 f3 f4 f5 f6 f7 f8 f9 f10 f11 f12 f13 f14 f15 f16
         obtain ⟨f0, f1, f2⟩ := Bag.cs3 S19.out 5 rfl
         obtain ⟨f3, f4, f5, f6⟩ := HK.out _ S19.out.old
         have hcl := (Sv.own_at S19.out 4 rfl).cap
         have hnl : ys.length ≤ c3 := by omega
         have HNL := Lib.hid hnl
         clear hnl hcl
         have hkN : (k : Int) ≤ (N : Int) := by omega
         have hNc : (N : Int) ≤ (c3 : Int) := by have := HNL.out; omega
         go_upto_region 16 with (at_builtin; refine L5.wpList_append_v S19.out 7 rfl rfl _ _ 24 (by rfl) i0 (.agg #[.int .i64 0, .int .i64 0, .string ⟨#[]⟩, .slice none 0 0]) 56 Try.underlying24 HI.out.1 HI.out.2.1 HI.out.2.2.1 HI.out.2.2.2 rfl (by omega) _ (by rfl) rfl _ _ (N - k) _ _ (cellsI (ys.drop k)) (by rfl) rfl (reads_rest2 (Sv.own_at S19.out 4 rfl).reads k) (by rw [cellsI_length, List.length_drop, hyl]) (cellsI_one _) (by unfold maxLen; omega) (by omega) ?_; intro a5' c5' w14 hA; have SA := Lib.hid (show Sl.Sep w w14 [L4.boxR w.heap.size 26 #[.string nm3, .slice (some ad) N c, .int .i64 au3], L4.boxR (w.heap.size + 1) 28 #[.int .i64 pk, .int .i64 pn, .string pt], L4.boxR (w.heap.size + 1 + 1) 31 #[.slice ra M rc], L4.boxR (w.heap.size + 1 + 1 + 1) 26 #[.string ⟨#[]⟩, .slice none 0 0, .int .i64 0], Sv.ownV 40 4 (some ⟨g9, 0, none⟩) c3 N (cellsI ys), L4.boxR g1 26 #[.string nm3, .slice (some ⟨g9, 0, none⟩) N c3, .int .i64 au3], Bag.bag (rowsI ys), Sv.ownV 40 4 (a5') (c5') (k + 1 + (N - k)) ((cellsI (ys.take k) ++ ([.int .i64 pk, .int .i64 pn, .string pt, .slice a1 M c1])) ++ cellsI (ys.drop k)), Sv.ownV 128 2 a1 c1 M (cellsF rl), Sv.ownV 40 4 (some ⟨g3, 0, none⟩) 1 1 ([.int .i64 pk, .int .i64 pn, .string pt, .slice a1 M c1])] from hA); clear hA; have f0 : World.cell? _ ⟨g1, 1, none⟩ = some (.slice (some ⟨g9, 0, none⟩) N c3) := Bag.cell_at SA.out 5 rfl 1 rfl; have z1 := Bag.free_at SA.out 5 rfl 1)
         have S20 := SA
         clear SA S19 f0 z1
         have S21 := Lib.hid (show Sl.Sep w _ [L4.boxR w.heap.size 26 #[.string nm3, .slice (some ad) N c, .int .i64 au3], L4.boxR (w.heap.size + 1) 28 #[.int .i64 pk, .int .i64 pn, .string pt], L4.boxR (w.heap.size + 1 + 1) 31 #[.slice ra M rc], L4.boxR (w.heap.size + 1 + 1 + 1) 26 #[.string ⟨#[]⟩, .slice none 0 0, .int .i64 0], Sv.ownV 40 4 (some ⟨g9, 0, none⟩) c3 N (cellsI ys), L4.boxR g1 26 #[.string nm3, .slice a5' (k + 1 + (N - k)) c5', .int .i64 au3], Bag.bag (rowsI ys), Sv.ownV 40 4 a5' c5' (k + 1 + (N - k)) ((cellsI (ys.take k) ++ ([.int .i64 pk, .int .i64 pn, .string pt, .slice a1 M c1])) ++ cellsI (ys.drop k)), Sv.ownV 128 2 a1 c1 M (cellsF rl), Sv.ownV 40 4 (some ⟨g3, 0, none⟩) 1 1 ([.int .i64 pk, .int .i64 pn, .string pt, .slice a1 M c1])] from L5.put_box5 (S20.out) 5 rfl 1 (.slice a5' (k + 1 + (N - k)) c5'))
         clear S20
         have S22 := Lib.hid (show Sl.Sep w _ [_, _, _, _, _, _, _, _] from Bag.take S21.out [0, 1, 2, 3, 5, 6, 7, 8] (by rfl) (by decide))
         clear S21
         obtain ⟨ba, hba⟩ : ∃ b, L1.inB pn (au3 + 1) 1000000 = b := ⟨_, rfl⟩
         have HIA := fun w => L1.l1In_any pn (au3 + 1) 1000000 w
         rw [hba] at HIA
         replace HIA := Lib.hid HIA
         have hau0 : 0 ≤ au3 := HAU.out.1
         have hau1 : au3 ≤ 1000000 := HAU.out.2
         have HBA := Lib.hid hba
         clear hba
         obtain ⟨f0, f1, f2⟩ := Bag.cs3 S22.out 0 rfl
         obtain ⟨f3, f4, f5⟩ := Bag.cs3 S22.out 1 rfl
         have f6 := Bag.cs1 S22.out 2 rfl
         obtain ⟨f7, f8, f9⟩ := Bag.cs3 S22.out 3 rfl
         obtain ⟨f10, f11, f12⟩ := Bag.cs3 S22.out 4 rfl
         obtain ⟨f13, f14, f15, f16⟩ := HK.out _ S22.out.old
         by_cases hk1 : pk = 1
         ·
          subst hk1
          cases ba with
          | false =>
           go_wp2_with fail
           go_at_call 91
           refine (HIA.out _).mono ?_
           rintro e w15 ⟨rfl, rfl⟩
           clear f0 f1 f2 f3 f4 f5 f6 f7 f8 f9 f10 f11 f12 f13 f14 f15 f16
           obtain ⟨f0, f1, f2⟩ := Bag.cs3 S22.out 0 rfl
           obtain ⟨f3, f4, f5⟩ := Bag.cs3 S22.out 1 rfl
           have f6 := Bag.cs1 S22.out 2 rfl
           obtain ⟨f7, f8, f9⟩ := Bag.cs3 S22.out 3 rfl
           obtain ⟨f10, f11, f12⟩ := Bag.cs3 S22.out 4 rfl
           obtain ⟨f13, f14, f15, f16⟩ := HK.out _ S22.out.old
           obtain ⟨z0, z1, z2⟩ := Bag.fs3 S22.out 3 rfl
           go_wp2_with fail
           clear f0 f1 f2 f3 f4 f5 f6 f7 f8 f9 f10 f11 f12 f13 f14 f15 f16 z0 z1 z2
           have S23 := Lib.hid (show Sl.Sep w _ [_, L4.boxR (w.heap.size + 1) 28 #[.int .i64 1, .int .i64 pn, .string pt], _, L4.boxR (w.heap.size + 1 + 1 + 1) 26 #[.string nm3, .slice a5' (k + 1 + (N - k)) c5', .int .i64 au3], _, _, Sv.ownV 40 4 a5' c5' (k + 1 + (N - k)) ((cellsI (ys.take k) ++ ([.int .i64 1, .int .i64 pn, .string pt, .slice a1 M c1])) ++ cellsI (ys.drop k)), _] from L5.put_box5 (L5.put_box5 (L5.put_box5 (S22.out) 3 rfl 0 (.string nm3)) 3 rfl 1 (.slice a5' (k + 1 + (N - k)) c5')) 3 rfl 2 (.int .i64 au3))
           clear S22
           obtain ⟨f0, f1, f2⟩ := Bag.cs3 S23.out 3 rfl
           obtain ⟨f3, f4, f5, f6⟩ := HK.out _ S23.out.old
           refine bodyPost_ret (v := .tuple #[.agg #[.string nm3, .slice a5' (k + 1 + (N - k)) c5', .int .i64 au3], .bool true]) (by simp [results, Try.results19, go_sem, *]) rfl ?_
           clear f0 f1 f2 f3 f4 f5 f6
           have HX9 := Lib.hid (show nextAuto au3 ⟨1, pn, pt⟩ = au3 from by unfold nextAuto; dsimp only; rw [HBA.out, Bool.and_false]; rfl)
           have hM := HM.out
           subst hM
           have S90 := Lib.hid (Bag.bag_of_one S23.out 7 (r := (LI.mk ⟨1, pn, pt⟩ a1 c1 rl).row) rfl)
           have S91 := Lib.hid (Bag.bag_join S90.out 5 7 (by decide) rfl rfl)
           have S92 := Lib.hid (Bag.bag_perm S91.out 5 rfl (rowsI_ins ys k ⟨⟨1, pn, pt⟩, a1, c1, rl⟩))
           have hlz : (ys.take k ++ ⟨⟨1, pn, pt⟩, a1, c1, rl⟩ :: ys.drop k).length = k + 1 + (N - k) := by rw [List.length_append, List.length_cons, List.length_take, List.length_drop]; omega
           have hcz : cellsI (ys.take k ++ ⟨⟨1, pn, pt⟩, a1, c1, rl⟩ :: ys.drop k) = (cellsI (ys.take k) ++ ([.int .i64 1, .int .i64 pn, .string pt, .slice a1 rl.length c1])) ++ cellsI (ys.drop k) := by rw [cellsI_append, cellsI_cons]; simp
           have S93 := Lib.hid (Bag.bag_of_one S92.out 6 (r := rowI a5' c5' (ys.take k ++ ⟨⟨1, pn, pt⟩, a1, c1, rl⟩ :: ys.drop k)) (by unfold RowS.res rowI; dsimp only; rw [hlz, hcz]; rfl))
           have S94 := Lib.hid (Bag.bag_join S93.out 6 5 (by decide) rfl rfl)
           refine ⟨⟨nm3, a5', c5', ys.take k ++ ⟨⟨1, pn, pt⟩, a1, c1, rl⟩ :: ys.drop k, au3⟩, ?_, ?_, ?_, S94.out.old⟩
           ·
            rw [HE.out]; unfold LS.v LS.cells; dsimp only; rw [hlz]
           ·
            rw [HE.out, HX9.out, HPOS.out]; unfold LS.con; dsimp only; rw [conI_ins, HCE.out]; rfl
           ·
            have h := Bag.bag_from S94.out 6 rfl
            unfold LS.rows; exact h
          | true =>
           go_wp2_with fail
           go_at_call 91
           refine (HIA.out _).mono ?_
           rintro e w15 ⟨rfl, rfl⟩
           clear f0 f1 f2 f3 f4 f5 f6 f7 f8 f9 f10 f11 f12 f13 f14 f15 f16
           obtain ⟨f0, f1, f2⟩ := Bag.cs3 S22.out 0 rfl
           obtain ⟨f3, f4, f5⟩ := Bag.cs3 S22.out 1 rfl
           have f6 := Bag.cs1 S22.out 2 rfl
           obtain ⟨f7, f8, f9⟩ := Bag.cs3 S22.out 3 rfl
           obtain ⟨f10, f11, f12⟩ := Bag.cs3 S22.out 4 rfl
           obtain ⟨f13, f14, f15, f16⟩ := HK.out _ S22.out.old
           obtain ⟨z0, z1, z2⟩ := Bag.fs3 S22.out 4 rfl
           go_upto_region 18 with fail
           clear f0 f1 f2 f3 f4 f5 f6 f7 f8 f9 f10 f11 f12 f13 f14 f15 f16 z0 z1 z2
           have S23 := Lib.hid (show Sl.Sep w _ [_, L4.boxR (w.heap.size + 1) 28 #[.int .i64 1, .int .i64 pn, .string pt], _, _, L4.boxR g1 26 #[.string nm3, .slice a5' (k + 1 + (N - k)) c5', .int .i64 pn], _, Sv.ownV 40 4 a5' c5' (k + 1 + (N - k)) ((cellsI (ys.take k) ++ ([.int .i64 1, .int .i64 pn, .string pt, .slice a1 M c1])) ++ cellsI (ys.drop k)), _] from L5.put_box5 (S22.out) 4 rfl 2 (.int .i64 pn))
           clear S22
           obtain ⟨f0, f1, f2⟩ := Bag.cs3 S23.out 0 rfl
           obtain ⟨f3, f4, f5⟩ := Bag.cs3 S23.out 1 rfl
           have f6 := Bag.cs1 S23.out 2 rfl
           obtain ⟨f7, f8, f9⟩ := Bag.cs3 S23.out 3 rfl
           obtain ⟨f10, f11, f12⟩ := Bag.cs3 S23.out 4 rfl
           obtain ⟨f13, f14, f15, f16⟩ := HK.out _ S23.out.old
           obtain ⟨z0, z1, z2⟩ := Bag.fs3 S23.out 3 rfl
           go_wp2_with fail
           clear f0 f1 f2 f3 f4 f5 f6 f7 f8 f9 f10 f11 f12 f13 f14 f15 f16 z0 z1 z2
           have S24 := Lib.hid (show Sl.Sep w _ [_, _, _, L4.boxR (w.heap.size + 1 + 1 + 1) 26 #[.string nm3, .slice a5' (k + 1 + (N - k)) c5', .int .i64 pn], _, _, _, _] from L5.put_box5 (L5.put_box5 (L5.put_box5 (S23.out) 3 rfl 0 (.string nm3)) 3 rfl 1 (.slice a5' (k + 1 + (N - k)) c5')) 3 rfl 2 (.int .i64 pn))
           clear S23
           obtain ⟨f0, f1, f2⟩ := Bag.cs3 S24.out 3 rfl
           obtain ⟨f3, f4, f5, f6⟩ := HK.out _ S24.out.old
           refine bodyPost_ret (v := .tuple #[.agg #[.string nm3, .slice a5' (k + 1 + (N - k)) c5', .int .i64 pn], .bool true]) (by simp [results, Try.results19, go_sem, *]) rfl ?_
           clear f0 f1 f2 f3 f4 f5 f6
           have HX9 := Lib.hid (show nextAuto au3 ⟨1, pn, pt⟩ = pn from by unfold nextAuto; dsimp only; rw [HBA.out]; rfl)
           have hM := HM.out
           subst hM
           have S90 := Lib.hid (Bag.bag_of_one S24.out 7 (r := (LI.mk ⟨1, pn, pt⟩ a1 c1 rl).row) rfl)
           have S91 := Lib.hid (Bag.bag_join S90.out 5 7 (by decide) rfl rfl)
           have S92 := Lib.hid (Bag.bag_perm S91.out 5 rfl (rowsI_ins ys k ⟨⟨1, pn, pt⟩, a1, c1, rl⟩))
           have hlz : (ys.take k ++ ⟨⟨1, pn, pt⟩, a1, c1, rl⟩ :: ys.drop k).length = k + 1 + (N - k) := by rw [List.length_append, List.length_cons, List.length_take, List.length_drop]; omega
           have hcz : cellsI (ys.take k ++ ⟨⟨1, pn, pt⟩, a1, c1, rl⟩ :: ys.drop k) = (cellsI (ys.take k) ++ ([.int .i64 1, .int .i64 pn, .string pt, .slice a1 rl.length c1])) ++ cellsI (ys.drop k) := by rw [cellsI_append, cellsI_cons]; simp
           have S93 := Lib.hid (Bag.bag_of_one S92.out 6 (r := rowI a5' c5' (ys.take k ++ ⟨⟨1, pn, pt⟩, a1, c1, rl⟩ :: ys.drop k)) (by unfold RowS.res rowI; dsimp only; rw [hlz, hcz]; rfl))
           have S94 := Lib.hid (Bag.bag_join S93.out 6 5 (by decide) rfl rfl)
           refine ⟨⟨nm3, a5', c5', ys.take k ++ ⟨⟨1, pn, pt⟩, a1, c1, rl⟩ :: ys.drop k, pn⟩, ?_, ?_, ?_, S94.out.old⟩
           ·
            rw [HE.out]; unfold LS.v LS.cells; dsimp only; rw [hlz]
           ·
            rw [HE.out, HX9.out, HPOS.out]; unfold LS.con; dsimp only; rw [conI_ins, HCE.out]; rfl
           ·
            have h := Bag.bag_from S94.out 6 rfl
            unfold LS.rows; exact h
         ·
          have hk2 : (pk == 1) = false := by simpa using hk1
          clear f0 f1 f2 f3 f4 f5 f6 f7 f8 f9 f10 f11 f12 f13 f14 f15 f16
          obtain ⟨f0, f1, f2⟩ := Bag.cs3 S22.out 0 rfl
          obtain ⟨f3, f4, f5⟩ := Bag.cs3 S22.out 1 rfl
          have f6 := Bag.cs1 S22.out 2 rfl
          obtain ⟨f7, f8, f9⟩ := Bag.cs3 S22.out 3 rfl
          obtain ⟨f10, f11, f12⟩ := Bag.cs3 S22.out 4 rfl
          obtain ⟨f13, f14, f15, f16⟩ := HK.out _ S22.out.old
          obtain ⟨z0, z1, z2⟩ := Bag.fs3 S22.out 3 rfl
          go_wp2_with fail
          clear f0 f1 f2 f3 f4 f5 f6 f7 f8 f9 f10 f11 f12 f13 f14 f15 f16 z0 z1 z2
          have S23 := Lib.hid (show Sl.Sep w _ [_, _, _, L4.boxR (w.heap.size + 1 + 1 + 1) 26 #[.string nm3, .slice a5' (k + 1 + (N - k)) c5', .int .i64 au3], _, _, _, _] from L5.put_box5 (L5.put_box5 (L5.put_box5 (S22.out) 3 rfl 0 (.string nm3)) 3 rfl 1 (.slice a5' (k + 1 + (N - k)) c5')) 3 rfl 2 (.int .i64 au3))
          clear S22
          obtain ⟨f0, f1, f2⟩ := Bag.cs3 S23.out 3 rfl
          obtain ⟨f3, f4, f5, f6⟩ := HK.out _ S23.out.old
          refine bodyPost_ret (v := .tuple #[.agg #[.string nm3, .slice a5' (k + 1 + (N - k)) c5', .int .i64 au3], .bool true]) (by simp [results, Try.results19, go_sem, *]) rfl ?_
          clear f0 f1 f2 f3 f4 f5 f6
          have HX9 := Lib.hid (show nextAuto au3 ⟨pk, pn, pt⟩ = au3 from by unfold nextAuto; dsimp only; rw [hk2]; rfl)
          have hM := HM.out
          subst hM
          have S90 := Lib.hid (Bag.bag_of_one S23.out 7 (r := (LI.mk ⟨pk, pn, pt⟩ a1 c1 rl).row) rfl)
          have S91 := Lib.hid (Bag.bag_join S90.out 5 7 (by decide) rfl rfl)
          have S92 := Lib.hid (Bag.bag_perm S91.out 5 rfl (rowsI_ins ys k ⟨⟨pk, pn, pt⟩, a1, c1, rl⟩))
          have hlz : (ys.take k ++ ⟨⟨pk, pn, pt⟩, a1, c1, rl⟩ :: ys.drop k).length = k + 1 + (N - k) := by rw [List.length_append, List.length_cons, List.length_take, List.length_drop]; omega
          have hcz : cellsI (ys.take k ++ ⟨⟨pk, pn, pt⟩, a1, c1, rl⟩ :: ys.drop k) = (cellsI (ys.take k) ++ ([.int .i64 pk, .int .i64 pn, .string pt, .slice a1 rl.length c1])) ++ cellsI (ys.drop k) := by rw [cellsI_append, cellsI_cons]; simp
          have S93 := Lib.hid (Bag.bag_of_one S92.out 6 (r := rowI a5' c5' (ys.take k ++ ⟨⟨pk, pn, pt⟩, a1, c1, rl⟩ :: ys.drop k)) (by unfold RowS.res rowI; dsimp only; rw [hlz, hcz]; rfl))
          have S94 := Lib.hid (Bag.bag_join S93.out 6 5 (by decide) rfl rfl)
          refine ⟨⟨nm3, a5', c5', ys.take k ++ ⟨⟨pk, pn, pt⟩, a1, c1, rl⟩ :: ys.drop k, au3⟩, ?_, ?_, ?_, S94.out.old⟩
          ·
           rw [HE.out]; unfold LS.v LS.cells; dsimp only; rw [hlz]
          ·
           rw [HE.out, HX9.out, HPOS.out]; unfold LS.con; dsimp only; rw [conI_ins, HCE.out]; rfl
          ·
           have h := Bag.bag_from S94.out 6 rfl
           unfold LS.rows; exact h
       ·
        skip
        have hge : ¬ (k : Int) < (N : Int) := hlt
        obtain rfl : k = N := by omega
        have HPOS := Lib.hid (posI_at (xs := conI xs) (k := ⟨pk, pn, pt⟩) k (by rw [conI_length]; have := HN.out; omega) HA.out (fun h => absurd h (by rw [conI_length]; have := HN.out; omega)))
        obtain ⟨f0, f1, f2⟩ := Bag.cs3 S11.out 0 rfl
        obtain ⟨f3, f4, f5⟩ := Bag.cs3 S11.out 1 rfl
        have f6 := Bag.cs1 S11.out 2 rfl
        obtain ⟨f7, f8, f9⟩ := Bag.cs3 S11.out 3 rfl
        obtain ⟨f10, f11, f12⟩ := Bag.cs3 S11.out 5 rfl
        go_upto_region 11 with fail
        clear f0 f1 f2 f3 f4 f5 f6 f7 f8 f9 f10 f11 f12
        refine wp_region_held_drew (S := (fun w' => (w'.cell? ⟨w.heap.size, 0, none⟩ = some (.string nm3) ∧ w'.cell? ⟨w.heap.size, 1, none⟩ = some (.slice a k c) ∧ w'.cell? ⟨w.heap.size, 2, none⟩ = some (.int .i64 au3)) ∧ (w'.cell? ⟨w.heap.size + 1, 0, none⟩ = some (.int .i64 pk) ∧ w'.cell? ⟨w.heap.size + 1, 1, none⟩ = some (.int .i64 pn) ∧ w'.cell? ⟨w.heap.size + 1, 2, none⟩ = some (.string pt)))) (by kernel_rfl) ⟨Bag.cs3 (Bag.drew1 S11.out) 0 rfl, Bag.cs3 (Bag.drew1 S11.out) 1 rfl⟩ (fun hS => ?_)
        have S12 := Lib.hid (Bag.drew1 S11.out)
        clear S11
        generalize World.drew _ = w7 at hS S12 ⊢
        refine tk 0 rfl ?_
        try simp only [zp0, zp1, zp2, zp3, zp4]
        refine tk 1 rfl ?_
        try simp only [zp0, zp1, zp2, zp3, zp4]
        refine tk 2 rfl ?_
        try simp only [zp0, zp1, zp2, zp3, zp4]
        refine tk 3 rfl ?_
        try simp only [zp0, zp1, zp2, zp3, zp4]
        refine tk 4 rfl ?_
        try simp only [zp0, zp1, zp2, zp3, zp4]
        refine tk 5 rfl ?_
        try simp only [zp0, zp1, zp2, zp3, zp4]
        refine sk 6 rfl ?_
        try simp only [zp0, zp1, zp2, zp3, zp4]
        refine sk 7 rfl ?_
        try simp only [zp0, zp1, zp2, zp3, zp4]
        refine sk 8 rfl ?_
        try simp only [zp0, zp1, zp2, zp3, zp4]
        refine sk 9 rfl ?_
        try simp only [zp0, zp1, zp2, zp3, zp4]
        refine sk 10 rfl ?_
        try simp only [zp0, zp1, zp2, zp3, zp4]
        refine sk 11 rfl ?_
        try simp only [zp0, zp1, zp2, zp3, zp4]
        refine sk 12 rfl ?_
        try simp only [zp0, zp1, zp2, zp3, zp4]
        refine Reg.skip_one (i := 13) rfl (by kernel_rfl) (by rfl) (by assumption) ?_
        try simp only [zp0, zp1, zp2, zp3, zp4]
        refine sk 14 rfl ?_
        try simp only [zp0, zp1, zp2, zp3, zp4]
        refine tk 15 rfl ?_
        try simp only [zp0, zp1, zp2, zp3, zp4]
        refine wpAnyH_done (by kernel_rfl) ?_ _
        obtain ⟨f0, f1, f2⟩ := Bag.cs3 S12.out 0 rfl
        obtain ⟨f3, f4, f5⟩ := Bag.cs3 S12.out 1 rfl
        have f6 := Bag.cs1 S12.out 2 rfl
        obtain ⟨f7, f8, f9⟩ := Bag.cs3 S12.out 3 rfl
        obtain ⟨f10, f11, f12⟩ := Bag.cs3 S12.out 5 rfl
        clear f0 f1 f2 f3 f4 f5 f6 f7 f8 f9 f10 f11 f12
        have hky : k ≤ ys.length := by omega
        have hck : (k : Int) ≤ (c3 : Int) := by have := (Sv.own_at S12.out 4 rfl).cap; omega
        have S13 := Lib.hid (show Sl.Sep w _ [_, _, _, _, _, _, _, Sv.ownV 40 4 (some ⟨w7.heap.size, 0, none⟩) 0 0 (cellsI [])] from Sv.push_own S12.out ((Below.refl _ _).alloc (Nat.le_refl _) _) (OwnV.madeAt w7 40 4 0 w7.heap.size #[] rfl (Nat.le_refl _) rfl (by decide)))
        clear S12
        obtain ⟨f0, f1, f2⟩ := Bag.cs3 S13.out 5 rfl
        go_wp2_with (at_builtin; refine L5.wpList_append_v S13.out 7 rfl rfl _ _ 24 (by rfl) i0 (.agg #[.int .i64 0, .int .i64 0, .string ⟨#[]⟩, .slice none 0 0]) 56 Try.underlying24 HI.out.1 HI.out.2.1 HI.out.2.2.1 HI.out.2.2.2 rfl (by omega) _ (by rfl) rfl _ _ k _ _ (cellsI (ys.take k)) (by rfl) rfl (reads_head (Sv.own_at S13.out 4 rfl).reads k) (by rw [cellsI_length, List.length_take, Nat.min_eq_left hky]) (cellsI_one _) (by unfold maxLen; omega) (by omega) ?_; intro a2' c2' w8 hA)
        clear f0 f1 f2
        have S14 := Lib.hid (show Sl.Sep w w8 [L4.boxR w.heap.size 26 #[.string nm3, .slice a k c, .int .i64 au3], L4.boxR (w.heap.size + 1) 28 #[.int .i64 pk, .int .i64 pn, .string pt], L4.boxR (w.heap.size + 1 + 1) 31 #[.slice ra M rc], L4.boxR (w.heap.size + 1 + 1 + 1) 26 #[.string ⟨#[]⟩, .slice none 0 0, .int .i64 0], Sv.ownV 40 4 a3 c3 k (cellsI ys), L4.boxR g1 26 #[.string nm3, .slice a3 k c3, .int .i64 au3], Bag.bag (rowsI ys), Sv.ownV 40 4 a2' c2' k (cellsI (ys.take k))] from (by have h := hA; rw [Nat.zero_add] at h; exact h))
        clear S13
        clear hA
        obtain ⟨f0, f1, f2⟩ := Bag.cs3 S14.out 0 rfl
        obtain ⟨f3, f4, f5⟩ := Bag.cs3 S14.out 1 rfl
        have f6 := Bag.cs1 S14.out 2 rfl
        obtain ⟨f7, f8, f9⟩ := Bag.cs3 S14.out 3 rfl
        obtain ⟨f10, f11, f12⟩ := Bag.cs3 S14.out 5 rfl
        go_upto_region 14 with fail
        clear f0 f1 f2 f3 f4 f5 f6 f7 f8 f9 f10 f11 f12
        refine wp_region_held_drew (S := (fun w' => (w'.cell? ⟨w.heap.size + 1, 0, none⟩ = some (.int .i64 pk) ∧ w'.cell? ⟨w.heap.size + 1, 1, none⟩ = some (.int .i64 pn) ∧ w'.cell? ⟨w.heap.size + 1, 2, none⟩ = some (.string pt)) ∧ (w'.cell? ⟨w.heap.size + 1 + 1, 0, none⟩ = some (.slice ra M rc)))) (by kernel_rfl) ⟨Bag.cs3 (Bag.drew1 S14.out) 1 rfl, Bag.cs1 (Bag.drew1 S14.out) 2 rfl⟩ (fun hS => ?_)
        have S15 := Lib.hid (Bag.drew1 S14.out)
        clear S14
        generalize World.drew _ = w9 at hS S15 ⊢
        refine tk 0 rfl ?_
        try simp only [zp0, zp1, zp2, zp3, zp4]
        refine tk 1 rfl ?_
        try simp only [zp0, zp1, zp2, zp3, zp4]
        refine tk 2 rfl ?_
        try simp only [zp0, zp1, zp2, zp3, zp4]
        refine Reg.one_op (i := 3) rfl (by kernel_rfl) (fun K hK => ?_)
        go_simp
        go_at_call 89
        refine (HRC.out _ S15.out.old).mono ?_
        rintro e w10 ⟨a1, c1, rfl, ho, hb⟩
        have S16 := Lib.hid (show Sl.Sep w _ [_, _, _, _, _, _, _, _, Sv.ownV 128 2 a1 c1 M (cellsF rl)] from Sv.push_own S15.out hb ho)
        clear S15
        clear hb ho
        go_wp2_with fail
        refine hK.out _ _ ⟨Bag.cs3 S16.out 1 rfl, Bag.cs1 S16.out 2 rfl⟩ (fun hS => ?_)
        clear hK K
        try simp only [zp0, zp1, zp2, zp3, zp4]
        refine tk 4 rfl ?_
        try simp only [zp0, zp1, zp2, zp3, zp4]
        refine Reg.one_op (i := 5) rfl (by kernel_rfl) (fun K hK => ?_)
        go_simp
        have S17 := Lib.hid (show Sl.Sep w _ [_, _, _, _, _, _, _, _, _, Sv.ownV 40 4 (some ⟨w10.heap.size, 0, none⟩) 1 1 ([.int .i64 pk, .int .i64 pn, .string pt, .slice a1 M c1])] from Sv.push_own S16.out ((Below.refl _ _).alloc (Nat.le_refl _) _) (OwnV.madeAt w10 40 4 1 w10.heap.size #[.int .i64 pk, .int .i64 pn, .string pt, .slice a1 M c1] rfl (Nat.le_refl _) rfl (by decide)))
        clear S16
        obtain ⟨g3, hg⟩ : ∃ g', g' = w10.heap.size := ⟨_, rfl⟩
        rw [← hg] at S17 ⊢
        clear hg
        generalize w10.alloc (.cells #[.int .i64 pk, .int .i64 pn, .string pt, .slice a1 M c1] 40) = w11 at S17 ⊢
        refine hK.out _ _ ⟨Bag.cs3 S17.out 1 rfl, Bag.cs1 S17.out 2 rfl⟩ (fun hS => ?_)
        clear hK K
        try simp only [zp0, zp1, zp2, zp3, zp4]
        refine Reg.one_op (i := 6) rfl (by kernel_rfl) (fun K hK => ?_)
        refine Sv.step_append_s S17.out 7 rfl rfl _ _ 24 (by rfl) i0 (.agg #[.int .i64 0, .int .i64 0, .string ⟨#[]⟩, .slice none 0 0]) 56 Try.underlying24 HI.out.1 HI.out.2.1 HI.out.2.2.1 HI.out.2.2.2 rfl (by omega) _ (by rfl) rfl _ _ 1 _ _ ([.int .i64 pk, .int .i64 pn, .string pt, .slice a1 M c1]) (by rfl) rfl ((Sv.own_at S17.out 9 rfl).reads) rfl (by intro u hu; simp at hu; rcases hu with rfl | rfl | rfl | rfl <;> rfl) (by unfold maxLen; omega) (by omega) ?_
        intro a4' c4' w12 hA
        have S18 := Lib.hid (show Sl.Sep w _ [_, _, _, _, _, _, _, Sv.ownV 40 4 a4' c4' (k + 1) (cellsI (ys.take k) ++ ([.int .i64 pk, .int .i64 pn, .string pt, .slice a1 M c1])), _, Sv.ownV 40 4 (some ⟨g3, 0, none⟩) 1 1 ([.int .i64 pk, .int .i64 pn, .string pt, .slice a1 M c1])] from hA)
        clear S17
        clear hA
        refine hK.out _ _ ⟨Bag.cs3 S18.out 1 rfl, Bag.cs1 S18.out 2 rfl⟩ (fun hS => ?_)
        clear hK K
        try simp only [zp0, zp1, zp2, zp3, zp4]
        refine tk 7 rfl ?_
        try simp only [zp0, zp1, zp2, zp3, zp4]
        refine wpAnyH_done (by kernel_rfl) ?_ _
        obtain ⟨f0, f1, f2⟩ := Bag.cs3 S18.out 0 rfl
        obtain ⟨f3, f4, f5⟩ := Bag.cs3 S18.out 1 rfl
        have f6 := Bag.cs1 S18.out 2 rfl
        obtain ⟨f7, f8, f9⟩ := Bag.cs3 S18.out 3 rfl
        obtain ⟨f10, f11, f12⟩ := Bag.cs3 S18.out 5 rfl
        clear f0 f1 f2 f3 f4 f5 f6 f7 f8 f9 f10 f11 f12
        obtain ⟨f0, f1, f2⟩ := Bag.cs3 S18.out 5 rfl
        have hcl := (Sv.own_at S18.out 4 rfl).cap
        have hnl : ys.length ≤ c3 := by omega
        have HNL := Lib.hid hnl
        clear hnl hcl
        have hkN : (k : Int) ≤ (k : Int) := by omega
        have hNc : (k : Int) ≤ (c3 : Int) := by have := HNL.out; omega
        by_cases h9 : c3 = k
        ·
         have h8 : (c3 = k) = True := eq_true h9
         clear h9
         go_upto_region 16 with (at_builtin; refine L5.wpList_append_v S18.out 7 rfl rfl _ _ 24 (by rfl) i0 (.agg #[.int .i64 0, .int .i64 0, .string ⟨#[]⟩, .slice none 0 0]) 56 Try.underlying24 HI.out.1 HI.out.2.1 HI.out.2.2.1 HI.out.2.2.2 rfl (by omega) _ (by rfl) rfl _ _ 0 _ _ (cellsI []) (by rfl) rfl (Sl.Reads.nil (B := 0)) rfl (cellsI_one _) (by unfold maxLen; omega) (by omega) ?_; intro a5' c5' w13 hA; have SA := Lib.hid (show Sl.Sep w w13 [L4.boxR w.heap.size 26 #[.string nm3, .slice a k c, .int .i64 au3], L4.boxR (w.heap.size + 1) 28 #[.int .i64 pk, .int .i64 pn, .string pt], L4.boxR (w.heap.size + 1 + 1) 31 #[.slice ra M rc], L4.boxR (w.heap.size + 1 + 1 + 1) 26 #[.string ⟨#[]⟩, .slice none 0 0, .int .i64 0], Sv.ownV 40 4 a3 c3 k (cellsI ys), L4.boxR g1 26 #[.string nm3, .slice a3 k c3, .int .i64 au3], Bag.bag (rowsI ys), Sv.ownV 40 4 (a5') (c5') (k + 1) ((cellsI (ys.take k) ++ ([.int .i64 pk, .int .i64 pn, .string pt, .slice a1 M c1])) ++ cellsI []), Sv.ownV 128 2 a1 c1 M (cellsF rl), Sv.ownV 40 4 (some ⟨g3, 0, none⟩) 1 1 ([.int .i64 pk, .int .i64 pn, .string pt, .slice a1 M c1])] from hA); clear hA; have f0 : World.cell? _ ⟨g1, 1, none⟩ = some (.slice a3 k c3) := Bag.cell_at SA.out 5 rfl 1 rfl; have z1 := Bag.free_at SA.out 5 rfl 1)
         have S19 := SA
         clear SA S18 f0 z1
         have S20 := Lib.hid (show Sl.Sep w _ [L4.boxR w.heap.size 26 #[.string nm3, .slice a k c, .int .i64 au3], _, _, _, Sv.ownV 40 4 a3 c3 k (cellsI ys), L4.boxR g1 26 #[.string nm3, .slice a5' (k + 1) c5', .int .i64 au3], _, Sv.ownV 40 4 a5' c5' (k + 1) ((cellsI (ys.take k) ++ ([.int .i64 pk, .int .i64 pn, .string pt, .slice a1 M c1])) ++ cellsI []), _, _] from L5.put_box5 (S19.out) 5 rfl 1 (.slice a5' (k + 1) c5'))
         clear S19
         have S21 := Lib.hid (show Sl.Sep w _ [_, _, _, _, _, _, _, _] from Bag.take S20.out [0, 1, 2, 3, 5, 6, 7, 8] (by rfl) (by decide))
         clear S20
         obtain ⟨ba, hba⟩ : ∃ b, L1.inB pn (au3 + 1) 1000000 = b := ⟨_, rfl⟩
         have HIA := fun w => L1.l1In_any pn (au3 + 1) 1000000 w
         rw [hba] at HIA
         replace HIA := Lib.hid HIA
         have hau0 : 0 ≤ au3 := HAU.out.1
         have hau1 : au3 ≤ 1000000 := HAU.out.2
         have HBA := Lib.hid hba
         clear hba
         obtain ⟨f0, f1, f2⟩ := Bag.cs3 S21.out 0 rfl
         obtain ⟨f3, f4, f5⟩ := Bag.cs3 S21.out 1 rfl
         have f6 := Bag.cs1 S21.out 2 rfl
         obtain ⟨f7, f8, f9⟩ := Bag.cs3 S21.out 3 rfl
         obtain ⟨f10, f11, f12⟩ := Bag.cs3 S21.out 4 rfl
         by_cases hk1 : pk = 1
         ·
          subst hk1
          cases ba with
          | false =>
           go_wp2_with fail
           go_at_call 91
           refine (HIA.out _).mono ?_
           rintro e w14 ⟨rfl, rfl⟩
           clear f0 f1 f2 f3 f4 f5 f6 f7 f8 f9 f10 f11 f12
           obtain ⟨f0, f1, f2⟩ := Bag.cs3 S21.out 0 rfl
           obtain ⟨f3, f4, f5⟩ := Bag.cs3 S21.out 1 rfl
           have f6 := Bag.cs1 S21.out 2 rfl
           obtain ⟨f7, f8, f9⟩ := Bag.cs3 S21.out 3 rfl
           obtain ⟨f10, f11, f12⟩ := Bag.cs3 S21.out 4 rfl
           obtain ⟨z0, z1, z2⟩ := Bag.fs3 S21.out 3 rfl
           go_wp2_with fail
           clear f0 f1 f2 f3 f4 f5 f6 f7 f8 f9 f10 f11 f12 z0 z1 z2
           have S22 := Lib.hid (show Sl.Sep w _ [_, L4.boxR (w.heap.size + 1) 28 #[.int .i64 1, .int .i64 pn, .string pt], _, L4.boxR (w.heap.size + 1 + 1 + 1) 26 #[.string nm3, .slice a5' (k + 1) c5', .int .i64 au3], _, _, Sv.ownV 40 4 a5' c5' (k + 1) ((cellsI (ys.take k) ++ ([.int .i64 1, .int .i64 pn, .string pt, .slice a1 M c1])) ++ cellsI []), _] from L5.put_box5 (L5.put_box5 (L5.put_box5 (S21.out) 3 rfl 0 (.string nm3)) 3 rfl 1 (.slice a5' (k + 1) c5')) 3 rfl 2 (.int .i64 au3))
           clear S21
           obtain ⟨f0, f1, f2⟩ := Bag.cs3 S22.out 3 rfl
           refine bodyPost_ret (v := .tuple #[.agg #[.string nm3, .slice a5' (k + 1) c5', .int .i64 au3], .bool true]) (by simp [results, Try.results19, go_sem, *]) rfl ?_
           clear f0 f1 f2
           have HX9 := Lib.hid (show nextAuto au3 ⟨1, pn, pt⟩ = au3 from by unfold nextAuto; dsimp only; rw [HBA.out, Bool.and_false]; rfl)
           have hM := HM.out
           subst hM
           have S90 := Lib.hid (Bag.bag_of_one S22.out 7 (r := (LI.mk ⟨1, pn, pt⟩ a1 c1 rl).row) rfl)
           have S91 := Lib.hid (Bag.bag_join S90.out 5 7 (by decide) rfl rfl)
           have S92 := Lib.hid (Bag.bag_perm S91.out 5 rfl (rowsI_ins ys k ⟨⟨1, pn, pt⟩, a1, c1, rl⟩))
           have hlz : (ys.take k ++ ⟨⟨1, pn, pt⟩, a1, c1, rl⟩ :: ys.drop k).length = k + 1 := by rw [List.length_append, List.length_cons, List.length_take, List.length_drop]; omega
           have hcz : cellsI (ys.take k ++ ⟨⟨1, pn, pt⟩, a1, c1, rl⟩ :: ys.drop k) = (cellsI (ys.take k) ++ ([.int .i64 1, .int .i64 pn, .string pt, .slice a1 rl.length c1])) ++ cellsI [] := by rw [cellsI_append, cellsI_cons]; rw [List.drop_of_length_le (show ys.length ≤ k by omega)]; simp [cellsI]
           have S93 := Lib.hid (Bag.bag_of_one S92.out 6 (r := rowI a5' c5' (ys.take k ++ ⟨⟨1, pn, pt⟩, a1, c1, rl⟩ :: ys.drop k)) (by unfold RowS.res rowI; dsimp only; rw [hlz, hcz]; rfl))
           have S94 := Lib.hid (Bag.bag_join S93.out 6 5 (by decide) rfl rfl)
           refine ⟨⟨nm3, a5', c5', ys.take k ++ ⟨⟨1, pn, pt⟩, a1, c1, rl⟩ :: ys.drop k, au3⟩, ?_, ?_, ?_, S94.out.old⟩
           ·
            rw [HE.out]; unfold LS.v LS.cells; dsimp only; rw [hlz]
           ·
            rw [HE.out, HX9.out, HPOS.out]; unfold LS.con; dsimp only; rw [conI_ins, HCE.out]; rfl
           ·
            have h := Bag.bag_from S94.out 6 rfl
            unfold LS.rows; exact h
          | true =>
           go_wp2_with fail
           go_at_call 91
           refine (HIA.out _).mono ?_
           rintro e w14 ⟨rfl, rfl⟩
           clear f0 f1 f2 f3 f4 f5 f6 f7 f8 f9 f10 f11 f12
           obtain ⟨f0, f1, f2⟩ := Bag.cs3 S21.out 0 rfl
           obtain ⟨f3, f4, f5⟩ := Bag.cs3 S21.out 1 rfl
           have f6 := Bag.cs1 S21.out 2 rfl
           obtain ⟨f7, f8, f9⟩ := Bag.cs3 S21.out 3 rfl
           obtain ⟨f10, f11, f12⟩ := Bag.cs3 S21.out 4 rfl
           obtain ⟨z0, z1, z2⟩ := Bag.fs3 S21.out 4 rfl
           go_upto_region 18 with fail
           clear f0 f1 f2 f3 f4 f5 f6 f7 f8 f9 f10 f11 f12 z0 z1 z2
           have S22 := Lib.hid (show Sl.Sep w _ [_, L4.boxR (w.heap.size + 1) 28 #[.int .i64 1, .int .i64 pn, .string pt], _, _, L4.boxR g1 26 #[.string nm3, .slice a5' (k + 1) c5', .int .i64 pn], _, Sv.ownV 40 4 a5' c5' (k + 1) ((cellsI (ys.take k) ++ ([.int .i64 1, .int .i64 pn, .string pt, .slice a1 M c1])) ++ cellsI []), _] from L5.put_box5 (S21.out) 4 rfl 2 (.int .i64 pn))
           clear S21
           obtain ⟨f0, f1, f2⟩ := Bag.cs3 S22.out 0 rfl
           obtain ⟨f3, f4, f5⟩ := Bag.cs3 S22.out 1 rfl
           have f6 := Bag.cs1 S22.out 2 rfl
           obtain ⟨f7, f8, f9⟩ := Bag.cs3 S22.out 3 rfl
           obtain ⟨f10, f11, f12⟩ := Bag.cs3 S22.out 4 rfl
           obtain ⟨z0, z1, z2⟩ := Bag.fs3 S22.out 3 rfl
           go_wp2_with fail
           clear f0 f1 f2 f3 f4 f5 f6 f7 f8 f9 f10 f11 f12 z0 z1 z2
           have S23 := Lib.hid (show Sl.Sep w _ [_, _, _, L4.boxR (w.heap.size + 1 + 1 + 1) 26 #[.string nm3, .slice a5' (k + 1) c5', .int .i64 pn], _, _, _, _] from L5.put_box5 (L5.put_box5 (L5.put_box5 (S22.out) 3 rfl 0 (.string nm3)) 3 rfl 1 (.slice a5' (k + 1) c5')) 3 rfl 2 (.int .i64 pn))
           clear S22
           obtain ⟨f0, f1, f2⟩ := Bag.cs3 S23.out 3 rfl
           refine bodyPost_ret (v := .tuple #[.agg #[.string nm3, .slice a5' (k + 1) c5', .int .i64 pn], .bool true]) (by simp [results, Try.results19, go_sem, *]) rfl ?_
           clear f0 f1 f2
           have HX9 := Lib.hid (show nextAuto au3 ⟨1, pn, pt⟩ = pn from by unfold nextAuto; dsimp only; rw [HBA.out]; rfl)
           have hM := HM.out
           subst hM
           have S90 := Lib.hid (Bag.bag_of_one S23.out 7 (r := (LI.mk ⟨1, pn, pt⟩ a1 c1 rl).row) rfl)
           have S91 := Lib.hid (Bag.bag_join S90.out 5 7 (by decide) rfl rfl)
           have S92 := Lib.hid (Bag.bag_perm S91.out 5 rfl (rowsI_ins ys k ⟨⟨1, pn, pt⟩, a1, c1, rl⟩))
           have hlz : (ys.take k ++ ⟨⟨1, pn, pt⟩, a1, c1, rl⟩ :: ys.drop k).length = k + 1 := by rw [List.length_append, List.length_cons, List.length_take, List.length_drop]; omega
           have hcz : cellsI (ys.take k ++ ⟨⟨1, pn, pt⟩, a1, c1, rl⟩ :: ys.drop k) = (cellsI (ys.take k) ++ ([.int .i64 1, .int .i64 pn, .string pt, .slice a1 rl.length c1])) ++ cellsI [] := by rw [cellsI_append, cellsI_cons]; rw [List.drop_of_length_le (show ys.length ≤ k by omega)]; simp [cellsI]
           have S93 := Lib.hid (Bag.bag_of_one S92.out 6 (r := rowI a5' c5' (ys.take k ++ ⟨⟨1, pn, pt⟩, a1, c1, rl⟩ :: ys.drop k)) (by unfold RowS.res rowI; dsimp only; rw [hlz, hcz]; rfl))
           have S94 := Lib.hid (Bag.bag_join S93.out 6 5 (by decide) rfl rfl)
           refine ⟨⟨nm3, a5', c5', ys.take k ++ ⟨⟨1, pn, pt⟩, a1, c1, rl⟩ :: ys.drop k, pn⟩, ?_, ?_, ?_, S94.out.old⟩
           ·
            rw [HE.out]; unfold LS.v LS.cells; dsimp only; rw [hlz]
           ·
            rw [HE.out, HX9.out, HPOS.out]; unfold LS.con; dsimp only; rw [conI_ins, HCE.out]; rfl
           ·
            have h := Bag.bag_from S94.out 6 rfl
            unfold LS.rows; exact h
         ·
          have hk2 : (pk == 1) = false := by simpa using hk1
          clear f0 f1 f2 f3 f4 f5 f6 f7 f8 f9 f10 f11 f12
          obtain ⟨f0, f1, f2⟩ := Bag.cs3 S21.out 0 rfl
          obtain ⟨f3, f4, f5⟩ := Bag.cs3 S21.out 1 rfl
          have f6 := Bag.cs1 S21.out 2 rfl
          obtain ⟨f7, f8, f9⟩ := Bag.cs3 S21.out 3 rfl
          obtain ⟨f10, f11, f12⟩ := Bag.cs3 S21.out 4 rfl
          obtain ⟨z0, z1, z2⟩ := Bag.fs3 S21.out 3 rfl
          go_wp2_with fail
          clear f0 f1 f2 f3 f4 f5 f6 f7 f8 f9 f10 f11 f12 z0 z1 z2
          have S22 := Lib.hid (show Sl.Sep w _ [_, _, _, L4.boxR (w.heap.size + 1 + 1 + 1) 26 #[.string nm3, .slice a5' (k + 1) c5', .int .i64 au3], _, _, _, _] from L5.put_box5 (L5.put_box5 (L5.put_box5 (S21.out) 3 rfl 0 (.string nm3)) 3 rfl 1 (.slice a5' (k + 1) c5')) 3 rfl 2 (.int .i64 au3))
          clear S21
          obtain ⟨f0, f1, f2⟩ := Bag.cs3 S22.out 3 rfl
          refine bodyPost_ret (v := .tuple #[.agg #[.string nm3, .slice a5' (k + 1) c5', .int .i64 au3], .bool true]) (by simp [results, Try.results19, go_sem, *]) rfl ?_
          clear f0 f1 f2
          have HX9 := Lib.hid (show nextAuto au3 ⟨pk, pn, pt⟩ = au3 from by unfold nextAuto; dsimp only; rw [hk2]; rfl)
          have hM := HM.out
          subst hM
          have S90 := Lib.hid (Bag.bag_of_one S22.out 7 (r := (LI.mk ⟨pk, pn, pt⟩ a1 c1 rl).row) rfl)
          have S91 := Lib.hid (Bag.bag_join S90.out 5 7 (by decide) rfl rfl)
          have S92 := Lib.hid (Bag.bag_perm S91.out 5 rfl (rowsI_ins ys k ⟨⟨pk, pn, pt⟩, a1, c1, rl⟩))
          have hlz : (ys.take k ++ ⟨⟨pk, pn, pt⟩, a1, c1, rl⟩ :: ys.drop k).length = k + 1 := by rw [List.length_append, List.length_cons, List.length_take, List.length_drop]; omega
          have hcz : cellsI (ys.take k ++ ⟨⟨pk, pn, pt⟩, a1, c1, rl⟩ :: ys.drop k) = (cellsI (ys.take k) ++ ([.int .i64 pk, .int .i64 pn, .string pt, .slice a1 rl.length c1])) ++ cellsI [] := by rw [cellsI_append, cellsI_cons]; rw [List.drop_of_length_le (show ys.length ≤ k by omega)]; simp [cellsI]
          have S93 := Lib.hid (Bag.bag_of_one S92.out 6 (r := rowI a5' c5' (ys.take k ++ ⟨⟨pk, pn, pt⟩, a1, c1, rl⟩ :: ys.drop k)) (by unfold RowS.res rowI; dsimp only; rw [hlz, hcz]; rfl))
          have S94 := Lib.hid (Bag.bag_join S93.out 6 5 (by decide) rfl rfl)
          refine ⟨⟨nm3, a5', c5', ys.take k ++ ⟨⟨pk, pn, pt⟩, a1, c1, rl⟩ :: ys.drop k, au3⟩, ?_, ?_, ?_, S94.out.old⟩
          ·
           rw [HE.out]; unfold LS.v LS.cells; dsimp only; rw [hlz]
          ·
           rw [HE.out, HX9.out, HPOS.out]; unfold LS.con; dsimp only; rw [conI_ins, HCE.out]; rfl
          ·
           have h := Bag.bag_from S94.out 6 rfl
           unfold LS.rows; exact h
        ·
         have h8 : (c3 = k) = False := eq_false h9
         clear h9
         go_upto_region 16 with (at_builtin; refine L5.wpList_append_v S18.out 7 rfl rfl _ _ 24 (by rfl) i0 (.agg #[.int .i64 0, .int .i64 0, .string ⟨#[]⟩, .slice none 0 0]) 56 Try.underlying24 HI.out.1 HI.out.2.1 HI.out.2.2.1 HI.out.2.2.2 rfl (by omega) _ (by rfl) rfl _ _ 0 _ _ (cellsI []) (by rfl) rfl (Sl.Reads.nil (B := 0)) rfl (cellsI_one _) (by unfold maxLen; omega) (by omega) ?_; intro a5' c5' w13 hA; have SA := Lib.hid (show Sl.Sep w w13 [L4.boxR w.heap.size 26 #[.string nm3, .slice a k c, .int .i64 au3], L4.boxR (w.heap.size + 1) 28 #[.int .i64 pk, .int .i64 pn, .string pt], L4.boxR (w.heap.size + 1 + 1) 31 #[.slice ra M rc], L4.boxR (w.heap.size + 1 + 1 + 1) 26 #[.string ⟨#[]⟩, .slice none 0 0, .int .i64 0], Sv.ownV 40 4 a3 c3 k (cellsI ys), L4.boxR g1 26 #[.string nm3, .slice a3 k c3, .int .i64 au3], Bag.bag (rowsI ys), Sv.ownV 40 4 (a5') (c5') (k + 1) ((cellsI (ys.take k) ++ ([.int .i64 pk, .int .i64 pn, .string pt, .slice a1 M c1])) ++ cellsI []), Sv.ownV 128 2 a1 c1 M (cellsF rl), Sv.ownV 40 4 (some ⟨g3, 0, none⟩) 1 1 ([.int .i64 pk, .int .i64 pn, .string pt, .slice a1 M c1])] from hA); clear hA; have f0 : World.cell? _ ⟨g1, 1, none⟩ = some (.slice a3 k c3) := Bag.cell_at SA.out 5 rfl 1 rfl; have z1 := Bag.free_at SA.out 5 rfl 1)
         have S19 := SA
         clear SA S18 f0 z1
         have S20 := Lib.hid (show Sl.Sep w _ [L4.boxR w.heap.size 26 #[.string nm3, .slice a k c, .int .i64 au3], _, _, _, Sv.ownV 40 4 a3 c3 k (cellsI ys), L4.boxR g1 26 #[.string nm3, .slice a5' (k + 1) c5', .int .i64 au3], _, Sv.ownV 40 4 a5' c5' (k + 1) ((cellsI (ys.take k) ++ ([.int .i64 pk, .int .i64 pn, .string pt, .slice a1 M c1])) ++ cellsI []), _, _] from L5.put_box5 (S19.out) 5 rfl 1 (.slice a5' (k + 1) c5'))
         clear S19
         have S21 := Lib.hid (show Sl.Sep w _ [_, _, _, _, _, _, _, _] from Bag.take S20.out [0, 1, 2, 3, 5, 6, 7, 8] (by rfl) (by decide))
         clear S20
         obtain ⟨ba, hba⟩ : ∃ b, L1.inB pn (au3 + 1) 1000000 = b := ⟨_, rfl⟩
         have HIA := fun w => L1.l1In_any pn (au3 + 1) 1000000 w
         rw [hba] at HIA
         replace HIA := Lib.hid HIA
         have hau0 : 0 ≤ au3 := HAU.out.1
         have hau1 : au3 ≤ 1000000 := HAU.out.2
         have HBA := Lib.hid hba
         clear hba
         obtain ⟨f0, f1, f2⟩ := Bag.cs3 S21.out 0 rfl
         obtain ⟨f3, f4, f5⟩ := Bag.cs3 S21.out 1 rfl
         have f6 := Bag.cs1 S21.out 2 rfl
         obtain ⟨f7, f8, f9⟩ := Bag.cs3 S21.out 3 rfl
         obtain ⟨f10, f11, f12⟩ := Bag.cs3 S21.out 4 rfl
         by_cases hk1 : pk = 1
         ·
          subst hk1
          cases ba with
          | false =>
           go_wp2_with fail
           go_at_call 91
           refine (HIA.out _).mono ?_
           rintro e w14 ⟨rfl, rfl⟩
           clear f0 f1 f2 f3 f4 f5 f6 f7 f8 f9 f10 f11 f12
           obtain ⟨f0, f1, f2⟩ := Bag.cs3 S21.out 0 rfl
           obtain ⟨f3, f4, f5⟩ := Bag.cs3 S21.out 1 rfl
           have f6 := Bag.cs1 S21.out 2 rfl
           obtain ⟨f7, f8, f9⟩ := Bag.cs3 S21.out 3 rfl
           obtain ⟨f10, f11, f12⟩ := Bag.cs3 S21.out 4 rfl
           obtain ⟨z0, z1, z2⟩ := Bag.fs3 S21.out 3 rfl
           go_wp2_with fail
           clear f0 f1 f2 f3 f4 f5 f6 f7 f8 f9 f10 f11 f12 z0 z1 z2
           have S22 := Lib.hid (show Sl.Sep w _ [_, L4.boxR (w.heap.size + 1) 28 #[.int .i64 1, .int .i64 pn, .string pt], _, L4.boxR (w.heap.size + 1 + 1 + 1) 26 #[.string nm3, .slice a5' (k + 1) c5', .int .i64 au3], _, _, Sv.ownV 40 4 a5' c5' (k + 1) ((cellsI (ys.take k) ++ ([.int .i64 1, .int .i64 pn, .string pt, .slice a1 M c1])) ++ cellsI []), _] from L5.put_box5 (L5.put_box5 (L5.put_box5 (S21.out) 3 rfl 0 (.string nm3)) 3 rfl 1 (.slice a5' (k + 1) c5')) 3 rfl 2 (.int .i64 au3))
           clear S21
           obtain ⟨f0, f1, f2⟩ := Bag.cs3 S22.out 3 rfl
           refine bodyPost_ret (v := .tuple #[.agg #[.string nm3, .slice a5' (k + 1) c5', .int .i64 au3], .bool true]) (by simp [results, Try.results19, go_sem, *]) rfl ?_
           clear f0 f1 f2
           have HX9 := Lib.hid (show nextAuto au3 ⟨1, pn, pt⟩ = au3 from by unfold nextAuto; dsimp only; rw [HBA.out, Bool.and_false]; rfl)
           have hM := HM.out
           subst hM
           have S90 := Lib.hid (Bag.bag_of_one S22.out 7 (r := (LI.mk ⟨1, pn, pt⟩ a1 c1 rl).row) rfl)
           have S91 := Lib.hid (Bag.bag_join S90.out 5 7 (by decide) rfl rfl)
           have S92 := Lib.hid (Bag.bag_perm S91.out 5 rfl (rowsI_ins ys k ⟨⟨1, pn, pt⟩, a1, c1, rl⟩))
           have hlz : (ys.take k ++ ⟨⟨1, pn, pt⟩, a1, c1, rl⟩ :: ys.drop k).length = k + 1 := by rw [List.length_append, List.length_cons, List.length_take, List.length_drop]; omega
           have hcz : cellsI (ys.take k ++ ⟨⟨1, pn, pt⟩, a1, c1, rl⟩ :: ys.drop k) = (cellsI (ys.take k) ++ ([.int .i64 1, .int .i64 pn, .string pt, .slice a1 rl.length c1])) ++ cellsI [] := by rw [cellsI_append, cellsI_cons]; rw [List.drop_of_length_le (show ys.length ≤ k by omega)]; simp [cellsI]
           have S93 := Lib.hid (Bag.bag_of_one S92.out 6 (r := rowI a5' c5' (ys.take k ++ ⟨⟨1, pn, pt⟩, a1, c1, rl⟩ :: ys.drop k)) (by unfold RowS.res rowI; dsimp only; rw [hlz, hcz]; rfl))
           have S94 := Lib.hid (Bag.bag_join S93.out 6 5 (by decide) rfl rfl)
           refine ⟨⟨nm3, a5', c5', ys.take k ++ ⟨⟨1, pn, pt⟩, a1, c1, rl⟩ :: ys.drop k, au3⟩, ?_, ?_, ?_, S94.out.old⟩
           ·
            rw [HE.out]; unfold LS.v LS.cells; dsimp only; rw [hlz]
           ·
            rw [HE.out, HX9.out, HPOS.out]; unfold LS.con; dsimp only; rw [conI_ins, HCE.out]; rfl
           ·
            have h := Bag.bag_from S94.out 6 rfl
            unfold LS.rows; exact h
          | true =>
           go_wp2_with fail
           go_at_call 91
           refine (HIA.out _).mono ?_
           rintro e w14 ⟨rfl, rfl⟩
           clear f0 f1 f2 f3 f4 f5 f6 f7 f8 f9 f10 f11 f12
           obtain ⟨f0, f1, f2⟩ := Bag.cs3 S21.out 0 rfl
           obtain ⟨f3, f4, f5⟩ := Bag.cs3 S21.out 1 rfl
           have f6 := Bag.cs1 S21.out 2 rfl
           obtain ⟨f7, f8, f9⟩ := Bag.cs3 S21.out 3 rfl
           obtain ⟨f10, f11, f12⟩ := Bag.cs3 S21.out 4 rfl
           obtain ⟨z0, z1, z2⟩ := Bag.fs3 S21.out 4 rfl
           go_upto_region 18 with fail
           clear f0 f1 f2 f3 f4 f5 f6 f7 f8 f9 f10 f11 f12 z0 z1 z2
           have S22 := Lib.hid (show Sl.Sep w _ [_, L4.boxR (w.heap.size + 1) 28 #[.int .i64 1, .int .i64 pn, .string pt], _, _, L4.boxR g1 26 #[.string nm3, .slice a5' (k + 1) c5', .int .i64 pn], _, Sv.ownV 40 4 a5' c5' (k + 1) ((cellsI (ys.take k) ++ ([.int .i64 1, .int .i64 pn, .string pt, .slice a1 M c1])) ++ cellsI []), _] from L5.put_box5 (S21.out) 4 rfl 2 (.int .i64 pn))
           clear S21
           obtain ⟨f0, f1, f2⟩ := Bag.cs3 S22.out 0 rfl
           obtain ⟨f3, f4, f5⟩ := Bag.cs3 S22.out 1 rfl
           have f6 := Bag.cs1 S22.out 2 rfl
           obtain ⟨f7, f8, f9⟩ := Bag.cs3 S22.out 3 rfl
           obtain ⟨f10, f11, f12⟩ := Bag.cs3 S22.out 4 rfl
           obtain ⟨z0, z1, z2⟩ := Bag.fs3 S22.out 3 rfl
           go_wp2_with fail
           clear f0 f1 f2 f3 f4 f5 f6 f7 f8 f9 f10 f11 f12 z0 z1 z2
           have S23 := Lib.hid (show Sl.Sep w _ [_, _, _, L4.boxR (w.heap.size + 1 + 1 + 1) 26 #[.string nm3, .slice a5' (k + 1) c5', .int .i64 pn], _, _, _, _] from L5.put_box5 (L5.put_box5 (L5.put_box5 (S22.out) 3 rfl 0 (.string nm3)) 3 rfl 1 (.slice a5' (k + 1) c5')) 3 rfl 2 (.int .i64 pn))
           clear S22
           obtain ⟨f0, f1, f2⟩ := Bag.cs3 S23.out 3 rfl
           refine bodyPost_ret (v := .tuple #[.agg #[.string nm3, .slice a5' (k + 1) c5', .int .i64 pn], .bool true]) (by simp [results, Try.results19, go_sem, *]) rfl ?_
           clear f0 f1 f2
           have HX9 := Lib.hid (show nextAuto au3 ⟨1, pn, pt⟩ = pn from by unfold nextAuto; dsimp only; rw [HBA.out]; rfl)
           have hM := HM.out
           subst hM
           have S90 := Lib.hid (Bag.bag_of_one S23.out 7 (r := (LI.mk ⟨1, pn, pt⟩ a1 c1 rl).row) rfl)
           have S91 := Lib.hid (Bag.bag_join S90.out 5 7 (by decide) rfl rfl)
           have S92 := Lib.hid (Bag.bag_perm S91.out 5 rfl (rowsI_ins ys k ⟨⟨1, pn, pt⟩, a1, c1, rl⟩))
           have hlz : (ys.take k ++ ⟨⟨1, pn, pt⟩, a1, c1, rl⟩ :: ys.drop k).length = k + 1 := by rw [List.length_append, List.length_cons, List.length_take, List.length_drop]; omega
           have hcz : cellsI (ys.take k ++ ⟨⟨1, pn, pt⟩, a1, c1, rl⟩ :: ys.drop k) = (cellsI (ys.take k) ++ ([.int .i64 1, .int .i64 pn, .string pt, .slice a1 rl.length c1])) ++ cellsI [] := by rw [cellsI_append, cellsI_cons]; rw [List.drop_of_length_le (show ys.length ≤ k by omega)]; simp [cellsI]
           have S93 := Lib.hid (Bag.bag_of_one S92.out 6 (r := rowI a5' c5' (ys.take k ++ ⟨⟨1, pn, pt⟩, a1, c1, rl⟩ :: ys.drop k)) (by unfold RowS.res rowI; dsimp only; rw [hlz, hcz]; rfl))
           have S94 := Lib.hid (Bag.bag_join S93.out 6 5 (by decide) rfl rfl)
           refine ⟨⟨nm3, a5', c5', ys.take k ++ ⟨⟨1, pn, pt⟩, a1, c1, rl⟩ :: ys.drop k, pn⟩, ?_, ?_, ?_, S94.out.old⟩
           ·
            rw [HE.out]; unfold LS.v LS.cells; dsimp only; rw [hlz]
           ·
            rw [HE.out, HX9.out, HPOS.out]; unfold LS.con; dsimp only; rw [conI_ins, HCE.out]; rfl
           ·
            have h := Bag.bag_from S94.out 6 rfl
            unfold LS.rows; exact h
         ·
          have hk2 : (pk == 1) = false := by simpa using hk1
          clear f0 f1 f2 f3 f4 f5 f6 f7 f8 f9 f10 f11 f12
          obtain ⟨f0, f1, f2⟩ := Bag.cs3 S21.out 0 rfl
          obtain ⟨f3, f4, f5⟩ := Bag.cs3 S21.out 1 rfl
          have f6 := Bag.cs1 S21.out 2 rfl
          obtain ⟨f7, f8, f9⟩ := Bag.cs3 S21.out 3 rfl
          obtain ⟨f10, f11, f12⟩ := Bag.cs3 S21.out 4 rfl
          obtain ⟨z0, z1, z2⟩ := Bag.fs3 S21.out 3 rfl
          go_wp2_with fail
          clear f0 f1 f2 f3 f4 f5 f6 f7 f8 f9 f10 f11 f12 z0 z1 z2
          have S22 := Lib.hid (show Sl.Sep w _ [_, _, _, L4.boxR (w.heap.size + 1 + 1 + 1) 26 #[.string nm3, .slice a5' (k + 1) c5', .int .i64 au3], _, _, _, _] from L5.put_box5 (L5.put_box5 (L5.put_box5 (S21.out) 3 rfl 0 (.string nm3)) 3 rfl 1 (.slice a5' (k + 1) c5')) 3 rfl 2 (.int .i64 au3))
          clear S21
          obtain ⟨f0, f1, f2⟩ := Bag.cs3 S22.out 3 rfl
          refine bodyPost_ret (v := .tuple #[.agg #[.string nm3, .slice a5' (k + 1) c5', .int .i64 au3], .bool true]) (by simp [results, Try.results19, go_sem, *]) rfl ?_
          clear f0 f1 f2
          have HX9 := Lib.hid (show nextAuto au3 ⟨pk, pn, pt⟩ = au3 from by unfold nextAuto; dsimp only; rw [hk2]; rfl)
          have hM := HM.out
          subst hM
          have S90 := Lib.hid (Bag.bag_of_one S22.out 7 (r := (LI.mk ⟨pk, pn, pt⟩ a1 c1 rl).row) rfl)
          have S91 := Lib.hid (Bag.bag_join S90.out 5 7 (by decide) rfl rfl)
          have S92 := Lib.hid (Bag.bag_perm S91.out 5 rfl (rowsI_ins ys k ⟨⟨pk, pn, pt⟩, a1, c1, rl⟩))
          have hlz : (ys.take k ++ ⟨⟨pk, pn, pt⟩, a1, c1, rl⟩ :: ys.drop k).length = k + 1 := by rw [List.length_append, List.length_cons, List.length_take, List.length_drop]; omega
          have hcz : cellsI (ys.take k ++ ⟨⟨pk, pn, pt⟩, a1, c1, rl⟩ :: ys.drop k) = (cellsI (ys.take k) ++ ([.int .i64 pk, .int .i64 pn, .string pt, .slice a1 rl.length c1])) ++ cellsI [] := by rw [cellsI_append, cellsI_cons]; rw [List.drop_of_length_le (show ys.length ≤ k by omega)]; simp [cellsI]
          have S93 := Lib.hid (Bag.bag_of_one S92.out 6 (r := rowI a5' c5' (ys.take k ++ ⟨⟨pk, pn, pt⟩, a1, c1, rl⟩ :: ys.drop k)) (by unfold RowS.res rowI; dsimp only; rw [hlz, hcz]; rfl))
          have S94 := Lib.hid (Bag.bag_join S93.out 6 5 (by decide) rfl rfl)
          refine ⟨⟨nm3, a5', c5', ys.take k ++ ⟨⟨pk, pn, pt⟩, a1, c1, rl⟩ :: ys.drop k, au3⟩, ?_, ?_, ?_, S94.out.old⟩
          ·
           rw [HE.out]; unfold LS.v LS.cells; dsimp only; rw [hlz]
          ·
           rw [HE.out, HX9.out, HPOS.out]; unfold LS.con; dsimp only; rw [conI_ins, HCE.out]; rfl
          ·
           have h := Bag.bag_from S94.out 6 rfl
           unfold LS.rows; exact h
end Go.Proofs.Ytojcdmgcbgpdmaa.L6

namespace Go.Proofs.Ytojcdmgcbgpdmaa.L6
open L4 (K isK cmpK R inR encU)
open L5 (F isR isN cellsF encR eqR Small)
open Go.ChangeShapes Go.WideShapes Go.ChangeAt Go.RowKit Mem Sl Ex L2 Sv Bag

set_option maxHeartbeats 8000000 in
theorem specAddItem_any (y : LS) (k0 : K) (ra : Option Addr) (rc : Nat) (rl : List F) (hf : FitS y.con) (hkt : k0.text.size ≤ 1099511627776) (hrl : rl.length ≤ 1048576) (hrs : Small rl) (w : World) (hr : RowsRd w w.heap.size y.rows) (hrr : Reads w w.heap.size ra (cellsF rl)) :
  Calls Try.prog 45 #[y.v, k0.v, .agg #[.slice ra rl.length rc]] w (GaveSB w (addI y.con k0 rl).1 (addI y.con k0 rl).2) := by
 obtain ⟨pk, pn, pt⟩ := k0
 unfold L4.K.v
 try dsimp only at hkt ⊢
 have HCP := Lib.hid (fun w' (h : Below w.heap.size w w') => l6Copy_any y hf w' ((hr.below h).more h.size))
 have HFD := Lib.hid (fun w' (h : Below w.heap.size w w') => specFindItem_any y ⟨pk, pn, pt⟩ hf w' ((hr.below h).more h.size))
 have HPT := Lib.hid (fun w' (h : Below w.heap.size w w') => specPutItem_any y ⟨pk, pn, pt⟩ ra rc rl hf hkt hrl hrs w' ((hr.below h).more h.size) ((hrr.below h).more h.size))
 have HR0 := Lib.hid (fndI_range y.con.items ⟨pk, pn, pt⟩)
 obtain ⟨name, a, c, xs, auto⟩ := y
 have HR := Lib.hid (fun w' (h : Below w.heap.size w w') => LS.outer (hr.below h))
 have HX := Lib.hid (fun w' (h : Below w.heap.size w w') => (LS.inner (hr.below h)).more h.size)
 have HF := Lib.hid hf.items
 have HNM := Lib.hid hf.name
 have hl := hf.len
 simp only [LS.con, conI_length] at hl
 dsimp only [LS.con] at HR HX HF HNM
 try unfold LS.v LS.cells LS.con
 try dsimp only
 obtain ⟨N, hN⟩ : ∃ n, n = xs.length := ⟨_, rfl⟩
 rw [← hN] at hl ⊢
 have hl' : (N : Int) ≤ 1048576 := by omega
 have HN := Lib.hid hN
 clear hN hr hf
 dsimp only [LS.v, LS.cells, LS.con] at HCP HFD HPT HR0
 rw [← HN.out] at HCP HFD HPT
 obtain ⟨M, hM⟩ : ∃ M, M = rl.length := ⟨_, rfl⟩
 rw [← hM] at HPT ⊢
 clear hM hrr hrl
 obtain ⟨res, hres⟩ : ∃ r, addI ⟨name, conI xs, auto⟩ ⟨pk, pn, pt⟩ rl = r := ⟨_, rfl⟩
 rw [hres]
 obtain ⟨pu, hpu⟩ : ∃ r, putI ⟨name, conI xs, auto⟩ ⟨pk, pn, pt⟩ rl = r := ⟨_, rfl⟩
 rw [hpu] at HPT
 obtain ⟨fi, hfi⟩ : ∃ i, fndI (conI xs) ⟨pk, pn, pt⟩ = i := ⟨_, rfl⟩
 rw [hfi] at HFD HR0
 have HP := Lib.hid (show res = if 0 ≤ fi then (⟨name, conI xs, auto⟩, false) else pu from by rw [← hres, ← hpu, ← hfi]; rfl)
 clear hres hpu hfi
 have S1 := Lib.hid (show Sl.Sep w _ [_, _, _, _] from L4.push_box (L4.push_box (L4.push_box (L4.push_box (Sl.Sep.start w) 26 #[.string name, .slice a N c, .int .i64 auto] (w.heap.size) (by simp)) 28 #[.int .i64 pk, .int .i64 pn, .string pt] (w.heap.size + 1) (by simp)) 31 #[.slice ra M rc] (w.heap.size + 1 + 1) (by simp)) 26 #[.string ⟨#[]⟩, .slice none 0 0, .int .i64 0] (w.heap.size + 1 + 1 + 1) (by simp))
 obtain ⟨wa, hwa⟩ : ∃ u, u = ((((w.alloc (.cells #[.string name, .slice a N c, .int .i64 auto] 26)).alloc (.cells #[.int .i64 pk, .int .i64 pn, .string pt] 28)).alloc (.cells #[.slice ra M rc] 31)).alloc (.cells #[.string ⟨#[]⟩, .slice none 0 0, .int .i64 0] 26)) := ⟨_, rfl⟩
 rw [← hwa] at S1
 go_enter Try.func45, Try.ntmps45
 go_upto_region 1 with fail
 rw [← hwa]
 clear hwa
 obtain ⟨f0, f1, f2⟩ := Bag.cs3 S1.out 0 rfl
 obtain ⟨f3, f4, f5⟩ := Bag.cs3 S1.out 1 rfl
 have f6 := Bag.cs1 S1.out 2 rfl
 obtain ⟨f7, f8, f9⟩ := Bag.cs3 S1.out 3 rfl
 go_wp2_with fail
 go_at_call 88
 refine (HFD.out _ S1.out.old).mono ?_
 rintro e w1 ⟨rfl, hb⟩
 clear f0 f1 f2 f3 f4 f5 f6 f7 f8 f9
 have S2 := Lib.hid (S1.out.keep hb)
 clear S1
 clear hb
 obtain ⟨f0, f1, f2⟩ := Bag.cs3 S2.out 0 rfl
 obtain ⟨f3, f4, f5⟩ := Bag.cs3 S2.out 1 rfl
 have f6 := Bag.cs1 S2.out 2 rfl
 obtain ⟨f7, f8, f9⟩ := Bag.cs3 S2.out 3 rfl
 by_cases h0 : 0 ≤ fi
 ·
  have HE := Lib.hid (show res = (⟨name, conI xs, auto⟩, false) from by rw [HP.out, if_pos h0])
  go_wp2_with fail
  go_at_call 87
  refine (HCP.out _ S2.out.old).mono ?_
  rintro e w2 ⟨⟨nm3, a3, c3, ys, au3⟩, rfl, hcon, ho, hb⟩
  clear f0 f1 f2 f3 f4 f5 f6 f7 f8 f9
  have S3 := Lib.hid (show Sl.Sep w _ [L4.boxR w.heap.size 26 #[.string name, .slice a N c, .int .i64 auto], L4.boxR (w.heap.size + 1) 28 #[.int .i64 pk, .int .i64 pn, .string pt], L4.boxR (w.heap.size + 1 + 1) 31 #[.slice ra M rc], L4.boxR (w.heap.size + 1 + 1 + 1) 26 #[.string ⟨#[]⟩, .slice none 0 0, .int .i64 0], Bag.bag ((LS.mk nm3 a3 c3 ys au3).rows)] from Bag.push_bag S2.out hb ho)
  clear S2
  clear hb ho
  have HCON := Lib.hid hcon
  clear hcon
  simp only [LS.v, LS.cells]
  obtain ⟨f0, f1, f2⟩ := Bag.cs3 S3.out 3 rfl
  obtain ⟨z0, z1, z2⟩ := Bag.fs3 S3.out 3 rfl
  go_wp2_with fail
  clear f0 f1 f2 z0 z1 z2
  have S4 := Lib.hid (show Sl.Sep w _ [_, _, _, L4.boxR (w.heap.size + 1 + 1 + 1) 26 #[.string nm3, .slice a3 ys.length c3, .int .i64 au3], _] from L5.put_box5 (L5.put_box5 (L5.put_box5 (S3.out) 3 rfl 0 (.string nm3)) 3 rfl 1 (.slice a3 ys.length c3)) 3 rfl 2 (.int .i64 au3))
  clear S3
  obtain ⟨f0, f1, f2⟩ := Bag.cs3 S4.out 3 rfl
  refine bodyPost_ret (v := .tuple #[.agg #[.string nm3, .slice a3 ys.length c3, .int .i64 au3], .bool false]) (by simp [results, Try.results45, go_sem, *]) rfl ?_
  exact ⟨⟨nm3, a3, c3, ys, au3⟩, by rw [HE.out]; rfl, by rw [HE.out]; exact HCON.out, Bag.bag_from S4.out 4 rfl, S4.out.old⟩
 ·
  have HE := Lib.hid (show res = pu from by rw [HP.out, if_neg h0])
  have h1 : fi < 0 := by omega
  go_wp2_with fail
  go_at_call 19
  refine (HPT.out _ S2.out.old).mono ?_
  rintro e w2 ⟨⟨nm3, a3, c3, ys, au3⟩, rfl, hcon, ho, hb⟩
  clear f0 f1 f2 f3 f4 f5 f6 f7 f8 f9
  have S3 := Lib.hid (show Sl.Sep w _ [L4.boxR w.heap.size 26 #[.string name, .slice a N c, .int .i64 auto], L4.boxR (w.heap.size + 1) 28 #[.int .i64 pk, .int .i64 pn, .string pt], L4.boxR (w.heap.size + 1 + 1) 31 #[.slice ra M rc], L4.boxR (w.heap.size + 1 + 1 + 1) 26 #[.string ⟨#[]⟩, .slice none 0 0, .int .i64 0], Bag.bag ((LS.mk nm3 a3 c3 ys au3).rows)] from Bag.push_bag S2.out hb ho)
  clear S2
  clear hb ho
  have HCON := Lib.hid hcon
  clear hcon
  simp only [LS.v, LS.cells]
  obtain ⟨pb, hpb⟩ : ∃ b, pu.2 = b := ⟨_, rfl⟩
  rw [hpb]
  have HPB := Lib.hid hpb
  clear hpb
  obtain ⟨f0, f1, f2⟩ := Bag.cs3 S3.out 3 rfl
  obtain ⟨z0, z1, z2⟩ := Bag.fs3 S3.out 3 rfl
  go_wp2_with fail
  clear f0 f1 f2 z0 z1 z2
  have S4 := Lib.hid (show Sl.Sep w _ [_, _, _, L4.boxR (w.heap.size + 1 + 1 + 1) 26 #[.string nm3, .slice a3 ys.length c3, .int .i64 au3], _] from L5.put_box5 (L5.put_box5 (L5.put_box5 (S3.out) 3 rfl 0 (.string nm3)) 3 rfl 1 (.slice a3 ys.length c3)) 3 rfl 2 (.int .i64 au3))
  clear S3
  obtain ⟨f0, f1, f2⟩ := Bag.cs3 S4.out 3 rfl
  refine bodyPost_ret (v := .tuple #[.agg #[.string nm3, .slice a3 ys.length c3, .int .i64 au3], .bool pb]) (by simp [results, Try.results45, go_sem, *]) rfl ?_
  exact ⟨⟨nm3, a3, c3, ys, au3⟩, by rw [HE.out, HPB.out]; rfl, by rw [HE.out]; exact HCON.out, Bag.bag_from S4.out 4 rfl, S4.out.old⟩
end Go.Proofs.Ytojcdmgcbgpdmaa.L6

set_option linter.unusedSimpArgs false
namespace Go.Proofs.Ytojcdmgcbgpdmaa.L6
open L4 (K isK cmpK R inR encU)
open L5 (F isR isN cellsF encR eqR Small)
open Go.ChangeShapes Go.WideShapes Go.ChangeAt Go.RowKit Mem Sl Ex L2 Sv Bag

theorem putI_false {s : S6} {k : K} {l : List F} (h : (putI s k l).2 = false) : (putI s k l).1 = s := by
 unfold putI at h ⊢
 split at h
 ·
  split at h
  ·
   cases h
  ·
   split at h
   ·
    rename_i h1 _ h2 h3
    rw [if_pos h1, if_pos h3]
   ·
    cases h
 ·
  rename_i h1
  rw [if_neg h1]
theorem addI_false {s : S6} {k : K} {l : List F} (h : (addI s k l).2 = false) : (addI s k l).1 = s := by
 unfold addI at h ⊢
 split at h
 ·
  rename_i h1
  rw [if_pos h1]
 ·
  rename_i h1
  rw [if_neg h1]
  exact putI_false h
theorem auto_parts (s : S6) (l : List F) : (1000000 ≤ s.auto → autoS s l = s ∧ autoR s l = zK ∧ autoB s l = false) ∧
  (¬ 1000000 ≤ s.auto → (addI s (autoK s) l).2 = false → autoS s l = s ∧ autoR s l = zK ∧ autoB s l = false) ∧
  (¬ 1000000 ≤ s.auto → (addI s (autoK s) l).2 = true → autoS s l = (addI s (autoK s) l).1 ∧ autoR s l = autoK s ∧ autoB s l = true) := by
 refine ⟨fun h => ?_, fun h h2 => ?_, fun h h2 => ?_⟩ <;> unfold autoS autoR autoB <;> simp [h, *]

set_option maxHeartbeats 8000000 in
theorem specAutoItem_any (y : LS) (ra : Option Addr) (rc : Nat) (rl : List F) (hf : FitS y.con) (hau : -9223372036854775808 ≤ y.auto) (hrl : rl.length ≤ 1048576) (hrs : Small rl) (w : World) (hr : RowsRd w w.heap.size y.rows) (hrr : Reads w w.heap.size ra (cellsF rl)) :
  Calls Try.prog 25 #[y.v, .agg #[.slice ra rl.length rc]] w (GaveSKB w (autoS y.con rl) (autoR y.con rl) (autoB y.con rl)) := by
 have HCP := Lib.hid (fun w' (h : Below w.heap.size w w') => l6Copy_any y hf w' ((hr.below h).more h.size))
 have HAD := Lib.hid (fun w' (h : Below w.heap.size w w') => specAddItem_any y ⟨1, y.auto + 1, ⟨#[]⟩⟩ ra rc rl hf (by show (0 : Nat) ≤ _; omega) hrl hrs w' ((hr.below h).more h.size) ((hrr.below h).more h.size))
 obtain ⟨name, a, c, xs, auto⟩ := y
 have HR := Lib.hid (fun w' (h : Below w.heap.size w w') => LS.outer (hr.below h))
 have HX := Lib.hid (fun w' (h : Below w.heap.size w w') => (LS.inner (hr.below h)).more h.size)
 have HF := Lib.hid hf.items
 have HNM := Lib.hid hf.name
 have hl := hf.len
 simp only [LS.con, conI_length] at hl
 dsimp only [LS.con] at HR HX HF HNM
 try unfold LS.v LS.cells LS.con
 try dsimp only
 obtain ⟨N, hN⟩ : ∃ n, n = xs.length := ⟨_, rfl⟩
 rw [← hN] at hl ⊢
 have hl' : (N : Int) ≤ 1048576 := by omega
 have HN := Lib.hid hN
 clear hN hr hf
 dsimp only [LS.v, LS.cells, LS.con, L4.K.v] at HCP HAD hau ⊢
 rw [← HN.out] at HCP HAD
 obtain ⟨M, hM⟩ : ∃ M, M = rl.length := ⟨_, rfl⟩
 rw [← hM] at HAD ⊢
 clear hM hrr hrl
 have HP := Lib.hid (auto_parts ⟨name, conI xs, auto⟩ rl)
 dsimp only [autoK] at HP
 obtain ⟨ad, had⟩ : ∃ r, addI ⟨name, conI xs, auto⟩ ⟨1, auto + 1, ⟨#[]⟩⟩ rl = r := ⟨_, rfl⟩
 rw [had] at HAD HP
 have HF2 := Lib.hid (show ad.2 = false → ad.1 = ⟨name, conI xs, auto⟩ from by rw [← had]; exact addI_false)
 clear had
 obtain ⟨rs, has⟩ : ∃ r, autoS ⟨name, conI xs, auto⟩ rl = r := ⟨_, rfl⟩
 obtain ⟨rk, hak⟩ : ∃ r, autoR ⟨name, conI xs, auto⟩ rl = r := ⟨_, rfl⟩
 obtain ⟨rb, hab⟩ : ∃ r, autoB ⟨name, conI xs, auto⟩ rl = r := ⟨_, rfl⟩
 rw [has, hak, hab] at HP ⊢
 clear has hak hab
 have S1 := Lib.hid (show Sl.Sep w _ [_, _, _, _] from L4.push_box (L4.push_box (L4.push_box (L4.push_box (Sl.Sep.start w) 26 #[.string name, .slice a N c, .int .i64 auto] (w.heap.size) (by simp)) 31 #[.slice ra M rc] (w.heap.size + 1) (by simp)) 26 #[.string ⟨#[]⟩, .slice none 0 0, .int .i64 0] (w.heap.size + 1 + 1) (by simp)) 28 #[.int .i64 0, .int .i64 0, .string ⟨#[]⟩] (w.heap.size + 1 + 1 + 1) (by simp))
 obtain ⟨wa, hwa⟩ : ∃ u, u = ((((w.alloc (.cells #[.string name, .slice a N c, .int .i64 auto] 26)).alloc (.cells #[.slice ra M rc] 31)).alloc (.cells #[.string ⟨#[]⟩, .slice none 0 0, .int .i64 0] 26)).alloc (.cells #[.int .i64 0, .int .i64 0, .string ⟨#[]⟩] 28)) := ⟨_, rfl⟩
 rw [← hwa] at S1
 go_enter Try.func25, Try.ntmps25
 go_upto_region 1 with fail
 rw [← hwa]
 clear hwa
 obtain ⟨f0, f1, f2⟩ := Bag.cs3 S1.out 0 rfl
 have f3 := Bag.cs1 S1.out 1 rfl
 obtain ⟨f4, f5, f6⟩ := Bag.cs3 S1.out 2 rfl
 obtain ⟨f7, f8, f9⟩ := Bag.cs3 S1.out 3 rfl
 by_cases h0 : 1000000 ≤ auto
 ·
  have HE := Lib.hid (HP.out.1 h0)
  go_wp2_with fail
  go_at_call 87
  refine (HCP.out _ S1.out.old).mono ?_
  rintro e w1 ⟨⟨nm3, a3, c3, ys, au3⟩, rfl, hcon, ho, hb⟩
  clear f0 f1 f2 f3 f4 f5 f6 f7 f8 f9
  have S2 := Lib.hid (show Sl.Sep w _ [_, _, _, _, Bag.bag ((LS.mk nm3 a3 c3 ys au3).rows)] from Bag.push_bag S1.out hb ho)
  clear S1
  clear hb ho
  have HCON := Lib.hid hcon
  clear hcon
  simp only [LS.v, LS.cells]
  obtain ⟨f0, f1, f2⟩ := Bag.cs3 S2.out 2 rfl
  obtain ⟨f3, f4, f5⟩ := Bag.cs3 S2.out 3 rfl
  obtain ⟨z0, z1, z2⟩ := Bag.fs3 S2.out 2 rfl
  have y0 := Bag.free_at S2.out 3 rfl 0
  have y1 := Bag.free_at S2.out 3 rfl 1
  have y2 := Bag.free_at S2.out 3 rfl 2
  go_wp2_with fail
  clear f0 f1 f2 f3 f4 f5 z0 z1 z2 y0 y1 y2
  have S3 := Lib.hid (show Sl.Sep w _ [_, _, L4.boxR (w.heap.size + 1 + 1) 26 #[.string nm3, .slice a3 ys.length c3, .int .i64 au3], _, _] from L5.put_box5 (L5.put_box5 (L5.put_box5 (S2.out) 2 rfl 0 (.string nm3)) 2 rfl 1 (.slice a3 ys.length c3)) 2 rfl 2 (.int .i64 au3))
  clear S2
  have S4 := Lib.hid (show Sl.Sep w _ [_, _, _, _, _] from L5.put_box5 (L5.put_box5 (L5.put_box5 (S3.out) 3 rfl 0 (.int .i64 0)) 3 rfl 1 (.int .i64 0)) 3 rfl 2 (.string ⟨#[]⟩))
  clear S3
  obtain ⟨f0, f1, f2⟩ := Bag.cs3 S4.out 2 rfl
  obtain ⟨f3, f4, f5⟩ := Bag.cs3 S4.out 3 rfl
  refine bodyPost_ret (v := .tuple #[.agg #[.string nm3, .slice a3 ys.length c3, .int .i64 au3], .agg #[.int .i64 0, .int .i64 0, .string ⟨#[]⟩], .bool false]) (by simp [results, Try.results25, go_sem, *]) rfl ?_
  exact ⟨⟨nm3, a3, c3, ys, au3⟩, by rw [HE.out.2.1, HE.out.2.2]; rfl, by rw [HE.out.1]; exact HCON.out, Bag.bag_from S4.out 4 rfl, S4.out.old⟩
 ·
  have hlt : auto < 1000000 := by omega
  have hw1 : IntKind.i64.wrap (auto + 1) = auto + 1 := IntWalk.i64_in _ ⟨by omega, by omega⟩
  go_upto_region 4 with fail
  clear f0 f1 f2 f3 f4 f5 f6 f7 f8 f9
  have S2 := Lib.hid (show Sl.Sep w _ [_, _, _, _, _] from L4.push_box S1.out 28 #[.int .i64 1, .int .i64 (auto + 1), .string ⟨#[]⟩] wa.heap.size rfl)
  clear S1
  obtain ⟨g1, hg⟩ : ∃ g', g' = wa.heap.size := ⟨_, rfl⟩
  rw [← hg] at S2 ⊢
  clear hg
  generalize wa.alloc (.cells #[.int .i64 1, .int .i64 (auto + 1), .string ⟨#[]⟩] 28) = w1 at S2 ⊢
  obtain ⟨f0, f1, f2⟩ := Bag.cs3 S2.out 0 rfl
  have f3 := Bag.cs1 S2.out 1 rfl
  obtain ⟨f4, f5, f6⟩ := Bag.cs3 S2.out 2 rfl
  obtain ⟨f7, f8, f9⟩ := Bag.cs3 S2.out 3 rfl
  obtain ⟨f10, f11, f12⟩ := Bag.cs3 S2.out 4 rfl
  go_wp2_with fail
  go_at_call 45
  refine (HAD.out _ S2.out.old).mono ?_
  rintro e w2 ⟨⟨nm3, a3, c3, ys, au3⟩, rfl, hcon, ho, hb⟩
  clear f0 f1 f2 f3 f4 f5 f6 f7 f8 f9 f10 f11 f12
  have S3 := Lib.hid (show Sl.Sep w _ [_, _, _, _, L4.boxR g1 28 #[.int .i64 1, .int .i64 (auto + 1), .string ⟨#[]⟩], Bag.bag ((LS.mk nm3 a3 c3 ys au3).rows)] from Bag.push_bag S2.out hb ho)
  clear S2
  clear hb ho
  have HC3 := Lib.hid hcon
  clear hcon
  simp only [LS.v, LS.cells]
  obtain ⟨pb, hpb⟩ : ∃ b, ad.2 = b := ⟨_, rfl⟩
  rw [hpb]
  have HPB := Lib.hid hpb
  clear hpb
  go_upto_region 5 with fail
  have S4 := Lib.hid (show Sl.Sep w _ [_, _, _, _, _, _, _] from L4.push_box S3.out 26 #[.string nm3, .slice a3 ys.length c3, .int .i64 au3] w2.heap.size rfl)
  clear S3
  obtain ⟨g2, hg⟩ : ∃ g', g' = w2.heap.size := ⟨_, rfl⟩
  rw [← hg] at S4 ⊢
  clear hg
  generalize w2.alloc (.cells #[.string nm3, .slice a3 ys.length c3, .int .i64 au3] 26) = w3 at S4 ⊢
  obtain ⟨f0, f1, f2⟩ := Bag.cs3 S4.out 0 rfl
  have f3 := Bag.cs1 S4.out 1 rfl
  obtain ⟨f4, f5, f6⟩ := Bag.cs3 S4.out 2 rfl
  obtain ⟨f7, f8, f9⟩ := Bag.cs3 S4.out 3 rfl
  obtain ⟨f10, f11, f12⟩ := Bag.cs3 S4.out 4 rfl
  obtain ⟨f13, f14, f15⟩ := Bag.cs3 S4.out 6 rfl
  cases pb with
  | false =>
   have HE := Lib.hid (HP.out.2.1 h0 HPB.out)
   clear HC3
   go_wp2_with fail
   go_at_call 87
   refine (HCP.out _ S4.out.old).mono ?_
   rintro e w4 ⟨⟨nm4, a4, c4, ys4, au4⟩, rfl, hcon, ho, hb⟩
   clear f0 f1 f2 f3 f4 f5 f6 f7 f8 f9 f10 f11 f12 f13 f14 f15
   have S5 := Lib.hid (show Sl.Sep w _ [_, _, _, _, _, _, L4.boxR g2 26 #[.string nm3, .slice a3 ys.length c3, .int .i64 au3], Bag.bag ((LS.mk nm4 a4 c4 ys4 au4).rows)] from Bag.push_bag S4.out hb ho)
   clear S4
   clear hb ho
   have HCON := Lib.hid hcon
   clear hcon
   simp only [LS.v, LS.cells]
   obtain ⟨f0, f1, f2⟩ := Bag.cs3 S5.out 2 rfl
   obtain ⟨f3, f4, f5⟩ := Bag.cs3 S5.out 3 rfl
   obtain ⟨z0, z1, z2⟩ := Bag.fs3 S5.out 2 rfl
   have y0 := Bag.free_at S5.out 3 rfl 0
   have y1 := Bag.free_at S5.out 3 rfl 1
   have y2 := Bag.free_at S5.out 3 rfl 2
   go_wp2_with fail
   clear f0 f1 f2 f3 f4 f5 z0 z1 z2 y0 y1 y2
   have S6 := Lib.hid (show Sl.Sep w _ [_, _, L4.boxR (w.heap.size + 1 + 1) 26 #[.string nm4, .slice a4 ys4.length c4, .int .i64 au4], _, _, _, _, _] from L5.put_box5 (L5.put_box5 (L5.put_box5 (S5.out) 2 rfl 0 (.string nm4)) 2 rfl 1 (.slice a4 ys4.length c4)) 2 rfl 2 (.int .i64 au4))
   clear S5
   have S7 := Lib.hid (show Sl.Sep w _ [_, _, _, _, _, _, _, _] from L5.put_box5 (L5.put_box5 (L5.put_box5 (S6.out) 3 rfl 0 (.int .i64 0)) 3 rfl 1 (.int .i64 0)) 3 rfl 2 (.string ⟨#[]⟩))
   clear S6
   obtain ⟨f0, f1, f2⟩ := Bag.cs3 S7.out 2 rfl
   obtain ⟨f3, f4, f5⟩ := Bag.cs3 S7.out 3 rfl
   refine bodyPost_ret (v := .tuple #[.agg #[.string nm4, .slice a4 ys4.length c4, .int .i64 au4], .agg #[.int .i64 0, .int .i64 0, .string ⟨#[]⟩], .bool false]) (by simp [results, Try.results25, go_sem, *]) rfl ?_
   exact ⟨⟨nm4, a4, c4, ys4, au4⟩, by rw [HE.out.2.1, HE.out.2.2]; rfl, by rw [HE.out.1]; exact HCON.out, Bag.bag_from S7.out 7 rfl, S7.out.old⟩
  | true =>
   have HE := Lib.hid (HP.out.2.2 h0 HPB.out)
   have HCON := HC3
   go_upto_region 7 with fail
   clear f0 f1 f2 f3 f4 f5 f6 f7 f8 f9 f10 f11 f12 f13 f14 f15
   refine wp_region_held_drew (S := (fun w' => (w'.cell? ⟨g1, 0, none⟩ = some (.int .i64 1) ∧ w'.cell? ⟨g1, 1, none⟩ = some (.int .i64 (auto + 1)) ∧ w'.cell? ⟨g1, 2, none⟩ = some (.string ⟨#[]⟩)) ∧ (w'.cell? ⟨g2, 0, none⟩ = some (.string nm3) ∧ w'.cell? ⟨g2, 1, none⟩ = some (.slice a3 ys.length c3) ∧ w'.cell? ⟨g2, 2, none⟩ = some (.int .i64 au3)))) (by kernel_rfl) ⟨Bag.cs3 (Bag.drew1 S4.out) 4 rfl, Bag.cs3 (Bag.drew1 S4.out) 6 rfl⟩ (fun hS => ?_)
   have S5 := Lib.hid (Bag.drew1 S4.out)
   clear S4
   generalize World.drew _ = w4 at hS S5 ⊢
   refine tk 0 rfl ?_
   try simp only [zp0, zp1, zp2, zp3, zp4]
   refine tk 1 rfl ?_
   try simp only [zp0, zp1, zp2, zp3, zp4]
   refine Reg.one_op (i := 2) rfl (by kernel_rfl) (fun K hK => ?_)
   obtain ⟨f0, f1, f2⟩ := Bag.cs3 S5.out 2 rfl
   obtain ⟨z0, z1, z2⟩ := Bag.fs3 S5.out 2 rfl
   go_simp
   clear f0 f1 f2 z0 z1 z2
   have S6 := Lib.hid (show Sl.Sep w _ [_, _, L4.boxR (w.heap.size + 1 + 1) 26 #[.string nm3, .slice a3 ys.length c3, .int .i64 au3], _, _, _, _] from L5.put_box5 (L5.put_box5 (L5.put_box5 (S5.out) 2 rfl 0 (.string nm3)) 2 rfl 1 (.slice a3 ys.length c3)) 2 rfl 2 (.int .i64 au3))
   clear S5
   refine hK.out _ _ ⟨Bag.cs3 S6.out 4 rfl, Bag.cs3 S6.out 6 rfl⟩ (fun hS => ?_)
   clear hK K
   try simp only [zp0, zp1, zp2, zp3, zp4]
   refine Reg.one_op (i := 3) rfl (by kernel_rfl) (fun K hK => ?_)
   obtain ⟨f0, f1, f2⟩ := Bag.cs3 S6.out 3 rfl
   obtain ⟨z0, z1, z2⟩ := Bag.fs3 S6.out 3 rfl
   go_simp
   clear f0 f1 f2 z0 z1 z2
   have S7 := Lib.hid (show Sl.Sep w _ [_, _, _, L4.boxR (w.heap.size + 1 + 1 + 1) 28 #[.int .i64 1, .int .i64 (auto + 1), .string ⟨#[]⟩], _, _, _] from L5.put_box5 (L5.put_box5 (L5.put_box5 (S6.out) 3 rfl 0 (.int .i64 1)) 3 rfl 1 (.int .i64 (auto + 1))) 3 rfl 2 (.string ⟨#[]⟩))
   clear S6
   refine hK.out _ _ ⟨Bag.cs3 S7.out 4 rfl, Bag.cs3 S7.out 6 rfl⟩ (fun hS => ?_)
   clear hK K
   try simp only [zp0, zp1, zp2, zp3, zp4]
   refine tk 4 rfl ?_
   try simp only [zp0, zp1, zp2, zp3, zp4]
   refine wpAnyH_done (by kernel_rfl) ?_ _
   obtain ⟨f0, f1, f2⟩ := Bag.cs3 S7.out 0 rfl
   have f3 := Bag.cs1 S7.out 1 rfl
   obtain ⟨f4, f5, f6⟩ := Bag.cs3 S7.out 2 rfl
   obtain ⟨f7, f8, f9⟩ := Bag.cs3 S7.out 3 rfl
   obtain ⟨f10, f11, f12⟩ := Bag.cs3 S7.out 4 rfl
   obtain ⟨f13, f14, f15⟩ := Bag.cs3 S7.out 6 rfl
   go_wp2_with fail
   refine bodyPost_ret (v := .tuple #[.agg #[.string nm3, .slice a3 ys.length c3, .int .i64 au3], .agg #[.int .i64 1, .int .i64 (auto + 1), .string ⟨#[]⟩], .bool true]) (by simp [results, Try.results25, go_sem, *]) rfl ?_
   exact ⟨⟨nm3, a3, c3, ys, au3⟩, by rw [HE.out.2.1, HE.out.2.2]; rfl, by rw [HE.out.1]; exact HCON.out, Bag.bag_from S7.out 5 rfl, S7.out.old⟩
end Go.Proofs.Ytojcdmgcbgpdmaa.L6

namespace Go.Proofs.Ytojcdmgcbgpdmaa.L6
open L4 (K isK cmpK R inR encU)
open L5 (F isR isN cellsF encR eqR Small)
open Go.ChangeShapes Go.WideShapes Go.ChangeAt Go.RowKit Mem Sl Ex L2 Sv Bag

theorem encU_small (k : K) : (encU k).length ≤ 50 := by
 unfold encU
 split
 ·
  rename_i h
  have h2 := h
  unfold isK at h2
  simp only [Bool.and_eq_true] at h2
  have h3 : k.t.length ≤ 12 := by
   have h4 := h2.1.2
   unfold L4.isT at h4
   simp only [Bool.and_eq_true, decide_eq_true_eq] at h4
   omega
  simp only [List.length_cons, List.length_append]
  have h5 : (L4.num6 k).length ≤ 6 := by unfold L4.num6; split <;> simp
  omega
 ·
  simp
theorem encR_small (l : List F) : (encR l).length ≤ 1000 := by
 unfold encR
 split
 ·
  rename_i h
  have h1 := L5.encB_len l (L5.isR_names h)
  have h2 := (L5.isR_iff.1 h).2
  have h3 := L2.enc_len (l.length : Int)
  rw [List.length_append]
  omega
 ·
  simp
theorem szI_take {xs : List It} {k : Nat} {x : It} (h : xs[k]? = some x) : szI (xs.take (k + 1)) = szI (xs.take k) + ((encU x.k).length + (encR x.l).length) := by
 obtain ⟨hk, rfl⟩ := List.getElem?_eq_some_iff.1 h
 unfold szI
 rw [List.take_succ_eq_append_getElem hk, List.map_append, List.sum_append]
 simp
theorem conI_snoc (ys : List LI) (x : LI) : conI (ys ++ [x]) = conI ys ++ [x.con] := List.map_append
end Go.Proofs.Ytojcdmgcbgpdmaa.L6

namespace Go.Proofs.Ytojcdmgcbgpdmaa.L6
open L4 (K isK cmpK R inR encU)
open L5 (F isR isN cellsF encR eqR Small)

theorem fndI_lt {xs : List It} {k : K} : fndI xs k < 0 ↔ fndO xs k = none := by
 unfold fndI
 split
 ·
  rename_i i h
  constructor
  ·
   intro h1; omega
  ·
   intro h1; rw [h] at h1; cases h1
 ·
  rename_i h
  exact ⟨fun _ => h, fun _ => by omega⟩
theorem fndO_eqK {xs : List It} {k : K} : fndO xs k = none ↔ ∀ x ∈ xs, eqK x.k k = false := by
 unfold fndO
 rw [List.findIdx?_eq_none_iff]
theorem del_off {s : S6} {r : R} (h : isS s = false) : delN s r = 0 ∧ delS s r = s := by
 unfold delN delS
 rw [h]
 exact ⟨rfl, rfl⟩
theorem part_len (xs : List It) (r : R) : (outI xs r).length + (inI xs r).length = xs.length := by
 unfold outI inI
 induction xs with
 | nil => rfl
 | cons x xs ih =>
  simp only [List.filter_cons]
  cases inR x.k r <;> simp <;> omega
theorem part_sz (xs : List It) (r : R) : szI (outI xs r) + szI (inI xs r) = szI xs := by
 unfold outI inI szI
 induction xs with
 | nil => rfl
 | cons x xs ih =>
  simp only [List.filter_cons, List.map_cons, List.sum_cons]
  cases inR x.k r <;> simp <;> omega
theorem in_out (xs : List It) (r : R) : inI (outI xs r) r = [] := by
 unfold outI inI
 rw [List.filter_filter, List.filter_eq_nil_iff]
 intro x _
 cases inR x.k r <;> simp
theorem del_on {s : S6} {r : R} (h : isS s = true) : delN s r = (inI s.items r).length ∧ (delS s r).items = outI s.items r := by
 have := part_len s.items r
 unfold delN delS
 rw [h]
 refine ⟨?_, rfl⟩
 show (s.items.length : Int) - _ = _
 omega
theorem in_at {xs : List It} {r : R} {x : It} (h : x ∈ inI xs r) : inR x.k r = true := (List.mem_filter.1 h).2
theorem out_none {xs : List It} {r : R} {k : K} (h : inR k r = true) : fndI (outI xs r) k < 0 := by
 rw [fndI_lt, fndO_eqK]
 intro x hx
 cases e : eqK x.k k with
 | false => rfl
 | true =>
  have := (List.mem_filter.1 hx).2
  rw [eqK_iff.1 e, h] at this
  cases this
theorem out_neg {xs : List It} {r : R} {k : K} (h : inR k r = true) : fndI (outI xs r) k = -1 := by
 have := out_none (xs := xs) h
 have := (fndI_range (outI xs r) k).1
 omega
theorem szI_bound {xs : List It} (h : xs.length ≤ 1048576) : szI xs ≤ 1048576 * 1100 := by
 have key : ∀ l : List It, szI l ≤ l.length * 1100 := by
  intro l
  induction l with
  | nil => exact Nat.le_refl _
  | cons x l ih =>
   have h1 := encU_small x.k
   have h2 := encR_small x.l
   unfold szI at ih ⊢
   rw [List.map_cons, List.sum_cons, List.length_cons]
   omega
 have := key xs
 omega
theorem eqS_self (s : S6) : eqS s s = true := eqS_iff.2 rfl
end Go.Proofs.Ytojcdmgcbgpdmaa.L6

namespace Go.Proofs.Ytojcdmgcbgpdmaa.Run
open Go.ChangeShapes Go.WideShapes Go.ChangeAt Go.RowKit Mem Sl Sv Bag

def over (xs : List Value) (o : Nat) (vs : List Value) : List Value := xs.take o ++ (vs ++ xs.drop (o + vs.length))
theorem over_nil (xs : List Value) (o : Nat) : over xs o [] = xs := by simp [over]
theorem over_all (xs vs : List Value) (h : xs.length = vs.length) : over xs 0 vs = vs := by simp [over, ← h]
theorem over_at (A Z : List Value) (o : Nat) (vs : List Value) (ho : A.length = o) (hv : vs.length ≤ Z.length) : over (A ++ Z) o vs = A ++ (vs ++ Z.drop vs.length) := by
 subst ho
 simp [over, List.take_left', List.drop_append]
theorem over_cons (xs : List Value) (o : Nat) (v : Value) (vs : List Value) (h : o < xs.length) : over (xs.set o v) (o + 1) vs = over xs o (v :: vs) := by
 unfold over
 rw [List.drop_set_of_lt (by omega), List.take_add_one, List.take_set_of_le (Nat.le_refl o)]
 simp [h, Nat.add_comm]
 congr 1
 omega
section
variable {w w' : World} {B : Nat} {e : TypeId} {k c n g : Nat} {a : Option Addr} {xs : List Value}
theorem own_run (vs : List Value) : ∀ {w : World} {xs : List Value} (o : Nat), OwnV w B e k (some ⟨g, 0, none⟩) c n xs → o + vs.length ≤ xs.length → OwnV (w.setCells g o vs) B e k (some ⟨g, 0, none⟩) c n (over xs o vs) := by
 induction vs with
 | nil => intro w xs o h _; rw [over_nil]; exact h
 | cons v vs ih =>
  intro w xs o h hl
  simp only [List.length_cons] at hl
  have h1 := ih (o + 1) (h.set o (by omega) v) (by rw [List.length_set]; omega)
  rw [over_cons xs o v vs (by omega)] at h1
  exact h1
theorem turned_run (vs : List Value) : ∀ (w : World) (o : Nat), Turned [g] w (w.setCells g o vs) := by
 induction vs with
 | nil => intro w o; exact Turned.refl _ _
 | cons v vs ih => intro w o; exact (Turned.of_grown (grownBy_put w g o v)).trans (ih _ _)
theorem own_shorter (h : OwnV w B e k a c n xs) (m : Nat) (hm : m ≤ n) : OwnV w B e k a c m (xs.take (m * k)) := by
 have hmk : m * k ≤ n * k := Nat.mul_le_mul_right _ hm
 refine ⟨by rw [List.length_take, h.1]; omega, ?_⟩
 rcases h.2 with ⟨hv, hn⟩ | ⟨g, cap, cur, hv, hB, hg, h1, h2, h3, h4⟩
 ·
  injection hv with e1 e2 e3
  subst e1
  subst e3
  exact .inl ⟨by rw [show m = 0 by omega], by omega⟩
 ·
  injection hv with e1 e2 e3
  subst e1
  subst e3
  exact .inr ⟨g, c, cur, rfl, hB, hg, by omega, h2, h3, by rw [← h4, List.take_take, Nat.min_eq_left hmk]⟩
end
section
variable {W w w' : World} {rs : List Res} {e : TypeId} {k c n g : Nat} {a : Option Addr} {xs : List Value}
theorem put_run (h : Sep W w rs) (i : Nat) (hi : rs[i]? = some (ownV e k (some ⟨g, 0, none⟩) c n xs)) (o : Nat) (vs : List Value) (ho : o + vs.length ≤ xs.length) : Sep W (w.setCells g o vs) (rs.set i (ownV e k (some ⟨g, 0, none⟩) c n (over xs o vs))) :=
 h.put i hi (turned_run vs w o) (own_run vs o (own_at h i hi) ho) (fun b hb => hb)
theorem shorter (h : Sep W w rs) (i : Nat) (hi : rs[i]? = some (ownV e k a c n xs)) (m : Nat) (hm : m ≤ n) : Sep W w (rs.set i (ownV e k a c m (xs.take (m * k)))) :=
 turn h i hi (fun ho => own_shorter (w := w) (B := 0) ho m hm) (fun b hb => by
  cases a with
  | none => simp [ownV, Value.ownBlock] at hb
  | some ad => simpa [ownV, Value.ownBlock] using hb)
end
section
variable {P : Program}
theorem run_copy_src (w : World) (dT sT ty e : TypeId) (i : TypeInfo) (k g q dl dc sl sc : Nat) (A : Option Addr) (cs : List Value) (hu : P.underlying dT = some (.slice e)) (hi : P.info? e = some i) (hs : i.size = k) (hn : cs.length = Nat.min sl dl * k)
  (B : Nat) (hr : Reads w B A cs) (hc : ∀ j, j < cs.length → (w.cell? ⟨g, q + j, none⟩).isSome = true) (hf : ∀ j, j < cs.length → w.frozen? ⟨g, q + j, none⟩ = false) (h1 : ∀ v ∈ cs, v.oneCell' = true) :
  (Builtin.copy_ #[dT, sT] ty #[.slice (some ⟨g, q, none⟩) dl dc, .slice A sl sc]).run P w = .ok (goInt (Nat.min sl dl)) (w.setCells g q cs) := by
 have hst := run_storeCells_cells (P := P) g q cs 0 w (by simpa using hc) (by simpa using hf) h1
 cases A with
 | none =>
  have hcs : cs = [] := by
   rcases cs with _ | ⟨x, xs⟩
   ·
    rfl
   ·
    obtain ⟨ad, h, _⟩ := hr 0 (by simp)
    cases h
  subst hcs
  simp [Builtin.copy_, run_underlying hu, Builtin.lenOf, Builtin.firstCells, sizeOf, typeInfo, hi, storeCells, World.setCells]
 | some ad =>
  have hl := run_loadCells_list (P := P) w ad cs (fun j v hj => by
   obtain ⟨hjl, rfl⟩ := List.getElem?_eq_some_iff.1 hj
   obtain ⟨ad', h, _, h2⟩ := hr j hjl
   injection h with h
   subst h
   exact h2)
  simp [Builtin.copy_, run_underlying hu, Builtin.lenOf, Builtin.firstCells, sizeOf, typeInfo, hi, hs, ← hn, hl, hst]
theorem run_clear_rows (w : World) (t e ty : TypeId) (i : TypeInfo) (z : Value) (g o n c : Nat) (ht : P.underlying t = some (.slice e)) (hi : P.info? e = some i) (hz : i.zero = some z)
  (hc : ∀ j, j < n * z.cells.size → (w.cell? ⟨g, o + j, none⟩).isSome = true) (hf : ∀ j, j < n * z.cells.size → w.frozen? ⟨g, o + j, none⟩ = false) (h1 : ∀ v ∈ (Builtin.zeroCells z.cells n).toList, v.oneCell' = true) :
  (Builtin.clear_ #[t] ty #[.slice (some ⟨g, o, none⟩) n c]).run P w = .ok (.tuple #[]) (w.setCells g o (Builtin.zeroCells z.cells n).toList) := by
 have hlen : (Builtin.zeroCells z.cells n).toList.length = n * z.cells.size := by rw [Array.length_toList, size_zeroCells]
 have hst := run_storeCells_cells (P := P) g o (Builtin.zeroCells z.cells n).toList 0 w (by rw [hlen]; simpa using hc) (by rw [hlen]; simpa using hf) h1
 simp only [Nat.add_zero] at hst
 rcases n with _ | m
 ·
  simp [Builtin.clear_, run_underlying ht, Builtin.zeroCells, World.setCells]
 ·
  simp [Builtin.clear_, run_underlying ht, zeroValue, typeInfo, hi, hz, hst]
end
section
variable {P : Program} {W w : World} {rs : List Res} {e : TypeId} {k g c n : Nat} {xs : List Value}
theorem run_copy_s (S : Sep W w rs) (j : Nat) (hj : rs[j]? = some (ownV e k (some ⟨g, 0, none⟩) c n xs)) (dT sT ty : TypeId) (i : TypeInfo) (hu : P.underlying dT = some (.slice e)) (hi : P.info? e = some i) (hs : i.size = k)
  (q dl dc sl sc : Nat) (A : Option Addr) (cs : List Value) (hn : cs.length = Nat.min sl dl * k) (B : Nat) (hr : Reads w B A cs) (hq : q + cs.length ≤ xs.length) (h1 : ∀ v ∈ cs, v.oneCell' = true) :
  (Builtin.copy_ #[dT, sT] ty #[.slice (some ⟨g, q, none⟩) dl dc, .slice A sl sc]).run P w = .ok (goInt (Nat.min sl dl)) (w.setCells g q cs) :=
 run_copy_src w dT sT ty e i k g q dl dc sl sc A cs hu hi hs hn B hr (fun m hm => by rw [(own_at S j hj).cell (q + m) (by omega)]; rfl) (fun m hm => (own_at S j hj).free (q + m)) h1
theorem wpList_make_s (S : Sep W w rs) {ops : Array Oper} {rest : List Oper} {o : Oper} {act : Act} {Q : Exit → Act → World → Prop} (hg : o.guard = none) (l cc : Operand) (t : TypeId) (hop : o.op = Op.makeSlice t l cc)
  (e : TypeId) (i : TypeInfo) (z : Value) (k : Nat) (h1 : P.underlying t = some (.slice e)) (h2 : P.info? e = some i) (h3 : i.zero = some z) (h4 : i.size = k)
  (kl kc : IntKind) (n : Nat) (hl : act.eval l = .int kl n) (hc : act.eval cc = .int kc n) (b2 : i.bytes * n ≤ 281474976710656) (b3 : n ≤ maxLen)
  (hK : ∀ w', Sep W w' (rs ++ [ownV e k (some ⟨w.heap.size, 0, none⟩) n n (madeCells z.cells (n * k)).toList]) → wpList P ops Q rest (act.put o.dst (.slice (some ⟨w.heap.size, 0, none⟩) n n)) w') : wpList P ops Q (o :: rest) act w :=
 wpList_make_full w hg l cc t hop w.heap.size e i z k h1 h2 h3 h4 kl kc n n n hl hc rfl rfl b2 b3 (Nat.le_refl _) fun w' h5 h6 =>
  hK w' (push_own S (by
   have := Turned.of_grown h6
   exact this.below (Nat.le_refl _) (fun b hb => by simp at hb)) h5)
end
end Go.Proofs.Ytojcdmgcbgpdmaa.Run

