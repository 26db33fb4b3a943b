/-
  What the law FnExactApplyUpgrade needs, laid by my program lawpack.py, part 6: the texts L8Ib, L8Ic, L8Id, one behind the other; each begins with its own words.
-/
import Derived.Test.YthljdhfgphebnaaGreatFnExactApplyUpgradeP5
set_option linter.unusedSimpArgs false
set_option linter.unusedVariables false
set_option maxRecDepth 100000
namespace Go.Proofs.YthljdhfgphebnaaGreat.L8
open V L6 L7
open L4 (K isK cmpK)
open L5 (F isR isN string_geq)
open Go.Op (bytesLess)
open Go.ChangeShapes Go.WideShapes Go.ChangeAt Go.RowKit Mem Sl Ex L2 Sv Bag

def GavePlace (w : World) (k : Nat) (e : Ending) (w' : World) : Prop := ∃ b, e = .returned (.tuple #[.int .i64 k, .bool b]) ∧ Below w.heap.size w w'
def Ate (W w : World) (xs : List RowS) (mk : Y_Database → Ending) (d : X_Database) (e : Ending) (w' : World) : Prop :=
 ∃ (y : Y_Database) (gar : List RowS), e = mk y ∧ co_Database y = d ∧ (∀ b ∈ (bag xs).fp, b ∈ (bag (rw_Database y ++ gar)).fp) ∧ Sl.Sep W w' [bag (rw_Database y ++ gar), Run.restL W w (bag xs).fp]
def AteAt (W : World) (rs : List Res) (i : Nat) (mk : Y_Database → Ending) (d : X_Database) (e : Ending) (w' : World) : Prop :=
 ∃ (y : Y_Database) (gar : List RowS), e = mk y ∧ co_Database y = d ∧ (∀ b ∈ (rs.getD i (bag [])).fp, b ∈ (bag (rw_Database y ++ gar)).fp) ∧ Sl.Sep W w' (rs.set i (bag (rw_Database y ++ gar)))
theorem Ate.at_ {W w : World} {rs : List Res} (h : Sl.Sep W w rs) (i : Nat) {xs : List RowS} (hi : rs[i]? = some (bag xs)) {mk : Y_Database → Ending} {d : X_Database} {e : Ending} {w' : World} (ha : Ate W w xs mk d e w') : AteAt W rs i mk d e w' := by
 obtain ⟨y, gar, he, hc, hs, hS⟩ := ha
 exact ⟨y, gar, he, hc, by rw [List.getD_eq_getElem?_getD, hi]; exact hs, Eat.eat_back h i hi hS hs⟩
def fullD (name : ByteArray) (ver : Int) (g : Nat) (ys : List LS) (g2 : Nat) (us : List X_IndexDef) : Y_Database := ⟨name, ver, some ⟨g, 0, none⟩, ys.length, ys, some ⟨g2, 0, none⟩, us.length, us⟩

set_option maxHeartbeats 2000000 in
theorem createStore1_any (x : LS) (n : ByteArray) (w : World) :
  Calls Tryz.prog 107 #[vv_Store x, .string n] w fun e w' => e = .returned (.int .i64 (L4.cmpL x.name.data.toList n.data.toList)) ∧ Below w.heap.size w w' := by
 unfold vv_Store
 have HCP := Lib.hid (fun w => L4.stringsCompare_any x.name n w)
 obtain ⟨v, hv⟩ : ∃ v, L4.cmpL x.name.data.toList n.data.toList = v := ⟨_, rfl⟩
 rw [hv] at HCP ⊢
 clear hv
 have S1 := Lib.hid (show Sl.Sep w _ [_] from L4.push_box (Sl.Sep.start w) 70 #[.string x.name, .slice x.a x.xs.length x.c, .int .i64 x.auto] (w.heap.size) (by simp))
 obtain ⟨wa, hwa⟩ : ∃ w_, w_ = (w.alloc (.cells #[.string x.name, .slice x.a x.xs.length x.c, .int .i64 x.auto] 70)) := ⟨_, rfl⟩
 rw [← hwa] at S1
 go_enter Tryz.func107, Tryz.ntmps107
 go_upto_region 1 with fail
 rw [← hwa]
 clear hwa
 obtain ⟨f0, f1, f2⟩ := Bag.cs3 S1.out 0 rfl
 go_wp2_with fail
 go_at_call 108
 refine (HCP.out _).mono ?_
 rintro e w1 ⟨rfl, rfl⟩
 go_wp2_with fail
 go_ret
 exact ⟨rfl, S1.out.old⟩
set_option maxHeartbeats 4000000 in
theorem bsearchS_any (a : Option Addr) (c : Nat) (ss : List LS) (n : ByteArray) (hl : ss.length ≤ 1048576) (ho : allTo (okSx (coS_Store ss)) (coS_Store ss).length = true) (w : World) (hr : Reads w w.heap.size a (ss.flatMap cl_Store)) :
  Calls Tryz.prog 106 #[.slice a ss.length c, .string n, .func (.func 107) #[] #[]] w (GavePlace w (posS (coS_Store ss) n)) := by
 have HR := Lib.hid (fun w' (h : Below w.heap.size w w') => hr.below h)
 have HO := Lib.hid (inorder ho)
 obtain ⟨N, hN⟩ : ∃ n, n = ss.length := ⟨_, rfl⟩
 rw [← hN] at hl ⊢
 have hl' : (N : Int) ≤ 1048576 := by omega
 have HN := Lib.hid hN
 clear hN hr ho
 have S1 := Lib.hid (show Sl.Sep w w [] from Sl.Sep.start w)
 go_enter Tryz.func106, Tryz.ntmps106
 go_wp2_with fail
 go_loopw [9, 10] (fun u v wr => ∃ (i j : Nat), u = .int .i64 i ∧ v = .int .i64 j ∧ i ≤ j ∧ j ≤ N ∧ Hid (((∀ q (hq : q < (coS_Store ss).length), q < i → bytesLess (coS_Store ss)[q].name.toList n.toList = true) ∧ (∀ q (hq : q < (coS_Store ss).length), j ≤ q → bytesLess (coS_Store ss)[q].name.toList n.toList = false)) ∧ Sl.Sep w wr [])) (fun u v _ => (intOf v).toNat - (intOf u).toNat)
 case atStart => exact ⟨0, N, rfl, rfl, Nat.zero_le _, Nat.le_refl _, And.intro ⟨fun q hq h => absurd h (by omega), fun q hq h => absurd hq (by rw [coS_len, ← HN.out]; omega)⟩ S1.out⟩
 case round =>
  obtain ⟨i, j, rfl, rfl, hij, hj, hrel⟩ := hrel
  have HA := Lib.hid hrel.out.1
  have S2 := Lib.hid hrel.out.2
  clear hrel S1
  by_cases hlt : (i : Int) < (j : Int)
  ·
   skip
   obtain ⟨h, hh⟩ : ∃ h, h = (i + j) / 2 := ⟨_, rfl⟩
   have hi1 : i ≤ h := by omega
   have hj1 : h < j := by omega
   have hhk : h < ss.length := by have := HN.out; omega
   have hmid : ((i : Int) + (j : Int)) / 2 = (h : Int) := by omega
   have hmid3 : ((i : Int) + (j : Int)).toNat = i + j := by omega
   have hmid4 : (((i : Int) + (j : Int)).toNat >>> 1 : Nat) = h := by rw [hmid3, Nat.shiftRight_eq_div_pow]; omega
   have hhN : (h : Int) < (N : Int) := by omega
   have hh0 : (0 : Int) ≤ (i : Int) + (j : Int) := by omega
   have HH := Lib.hid hh
   clear hh
   obtain ⟨x, hx⟩ : ∃ x, ss[h]? = some x := ⟨_, List.getElem?_eq_getElem hhk⟩
   obtain ⟨sad, e'⟩ := el_some cl_Store_len (by decide) (HR.out _ S2.out.old) hhk
   subst e'
   have HKx := Lib.hid (fun w' (h : Below w.heap.size w w') => el3 cl_Store_len (HR.out _ h) hx rfl)
   have HCx := Lib.hid (coS_at hx)
   clear hx
   have hci : h < (coS_Store ss).length := by rw [coS_len]; exact hhk
   have HC := Lib.hid (show (coS_Store ss)[h] = x.con from (List.getElem?_eq_some_iff.1 HCx.out).2)
   obtain ⟨cv, hcv⟩ : ∃ v, L4.cmpL x.name.data.toList n.data.toList = v := ⟨_, rfl⟩
   have HC1 := fun w => createStore1_any x n w
   rw [hcv] at HC1
   dsimp only [vv_Store] at HC1
   replace HC1 := Lib.hid HC1
   have HCV := Lib.hid (show (cv < 0 ∧ bytesLess (coS_Store ss)[h].name.toList n.toList = true) ∨ (¬ cv < 0 ∧ bytesLess (coS_Store ss)[h].name.toList n.toList = false) from by
    rw [HC.out, ← hcv]
    show (_ ∧ bytesLess x.name.toList n.toList = true) ∨ (_ ∧ bytesLess x.name.toList n.toList = false)
    rw [ByteArray.toList_eq, ByteArray.toList_eq]
    rcases L4.cmpL_cases x.name.data.toList n.data.toList with ⟨h1, e⟩ | ⟨h1, e⟩ | ⟨h1, e⟩
    ·
     exact .inl ⟨by omega, h1⟩
    ·
     exact .inr ⟨by omega, by rw [h1]; exact L4.less_irrefl _⟩
    ·
     exact .inr ⟨by omega, L4.less_asymm _ _ h1⟩)
   clear hcv
   obtain ⟨f0, f1, f2⟩ := HKx.out _ S2.out.old
   go_wp2_with fail
   go_at_call 107
   refine (HC1.out _).mono ?_
   rintro e w3 ⟨rfl, hb⟩
   clear f0 f1 f2
   have S3 := Lib.hid (S2.out.keep hb)
   clear S2
   clear hb
   rcases HCV.out with ⟨hc, hl2⟩ | ⟨hc, hl2⟩
   ·
    have HL2 := Lib.hid hl2
    clear hl2
    go_wp2_with fail
    go_roundw
    case rel => exact ⟨h + 1, j, by go_num, rfl, by omega, hj, And.intro ⟨fun q hq hqi => by
     by_cases e : q = h
     ·
      subst e; exact HL2.out
     ·
      have h1 := HO.out h q hci (by omega)
      exact L4.less_trans _ _ _ h1 HL2.out, HA.out.2⟩ S3.out⟩
    case measure => simp [intOf]; omega
   ·
    have HL2 := Lib.hid hl2
    clear hl2
    go_wp2_with fail
    go_roundw
    case rel => exact ⟨i, h, rfl, by first | rfl | go_num, by omega, by omega, And.intro ⟨HA.out.1, fun q hq hhq => by
     by_cases e : q = h
     ·
      subst e; exact HL2.out
     ·
      have h1 := HO.out q h hq (by omega)
      cases h2 : bytesLess (coS_Store ss)[q].name.toList n.toList with
      | false => rfl
      | true => rw [L4.less_trans _ _ _ h1 h2] at HL2; exact absurd HL2.out (by simp)⟩ S3.out⟩
    case measure => simp [intOf]; omega
  ·
   skip
   obtain rfl : i = j := by omega
   have HPOS := Lib.hid (show posS (coS_Store ss) n = i from posS_at i (by rw [coS_len, ← HN.out]; exact hj) HA.out.1 (fun hi => HA.out.2 i hi (Nat.le_refl _)))
   by_cases hiN : (i : Int) < (N : Int)
   ·
    skip
    have hik : i < ss.length := by have := HN.out; omega
    obtain ⟨x, hx⟩ : ∃ x, ss[i]? = some x := ⟨_, List.getElem?_eq_getElem hik⟩
    obtain ⟨sad, e'⟩ := el_some cl_Store_len (by decide) (HR.out _ S2.out.old) hik
    subst e'
    have HKx := Lib.hid (fun w' (h : Below w.heap.size w w') => el3 cl_Store_len (HR.out _ h) hx rfl)
    clear hx
    have HC1 := fun w => createStore1_any x n w
    obtain ⟨cv, hcv⟩ : ∃ v, L4.cmpL x.name.data.toList n.data.toList = v := ⟨_, rfl⟩
    rw [hcv] at HC1
    dsimp only [vv_Store] at HC1
    replace HC1 := Lib.hid HC1
    clear hcv
    obtain ⟨f0, f1, f2⟩ := HKx.out _ S2.out.old
    go_wp2_with fail
    go_at_call 107
    refine (HC1.out _).mono ?_
    rintro e w3 ⟨rfl, hb⟩
    clear f0 f1 f2
    have S3 := Lib.hid (S2.out.keep hb)
    clear S2
    clear hb
    go_wp2_with fail
    go_ret2
    exact ⟨_, by rw [HPOS.out] <;> rfl, S3.out.old⟩
   ·
    skip
    go_wp2_with fail
    go_ret2
    exact ⟨_, by rw [HPOS.out] <;> rfl, S2.out.old⟩
theorem rows_insS {ys : List LS} {z : LS} {k : Nat} : (rws_Store ys ++ rw_Store z).Perm (rws_Store (ys.take k ++ z :: ys.drop k)) := by
 rw [rws_Store_eq, rws_Store_eq, List.flatMap_append, List.flatMap_cons]
 have e : ys.flatMap rw_Store = (ys.take k).flatMap rw_Store ++ (ys.drop k).flatMap rw_Store := by rw [← List.flatMap_append, List.take_append_drop]
 rw [e, List.append_assoc]
 exact List.Perm.append_left _ List.perm_append_comm
theorem rows_delS {ys : List LS} {k : Nat} {x : LS} (hx : ys[k]? = some x) : (rws_Store ys).Perm (rws_Store (ys.eraseIdx k) ++ rw_Store x) := by
 rw [rws_Store_eq, rws_Store_eq, List.eraseIdx_eq_take_drop_succ, List.flatMap_append]
 conv => lhs; rw [split_next hx, List.flatMap_append, List.flatMap_cons]
 rw [List.append_assoc]
 exact List.Perm.append_left _ List.perm_append_comm
theorem coS_ins {ys : List LS} {n : ByteArray} {k : Nat} : coS_Store (ys.take k ++ ⟨n, none, 0, [], 0⟩ :: ys.drop k) = (coS_Store ys).take k ++ zS n :: (coS_Store ys).drop k := by
 rw [coS_Store_eq, coS_Store_eq, List.map_append, List.map_cons, List.map_take, List.map_drop]
 rfl
theorem coS_erase {ys : List LS} {k : Nat} : coS_Store (ys.eraseIdx k) = (coS_Store ys).eraseIdx k := by
 rw [coS_Store_eq, coS_Store_eq, List.eraseIdx_eq_take_drop_succ, List.eraseIdx_eq_take_drop_succ, List.map_append, List.map_take, List.map_drop]
set_option maxHeartbeats 8000000 in
theorem createStore_sep (name : ByteArray) (ver : Int) (g : Nat) (ys : List LS) (g2 : Nat) (us : List X_IndexDef) (n : ByteArray) (hf : FitD (co_Database (fullD name ver g ys g2 us))) (hv : isD (co_Database (fullD name ver g ys g2 us)) = true) (W w : World) (S : Sl.Sep W w [bag (rw_Database (fullD name ver g ys g2 us)), Run.restL W w (bag (rw_Database (fullD name ver g ys g2 us))).fp]) :
  Calls Tryz.prog 73 #[vv_Database (fullD name ver g ys g2 us), .string n] w (Ate W w (rw_Database (fullD name ver g ys g2 us)) (fun y => .returned (vv_Database y)) { co_Database (fullD name ver g ys g2 us) with f_Stores := insS (co_Database (fullD name ver g ys g2 us)).f_Stores n }) := by
 obtain ⟨iS, hi1, hi2, hi3, hi4⟩ := infoL_Store
 have HIS := Lib.hid (And.intro hi1 (And.intro hi2 (And.intro hi3 hi4)))
 clear hi1 hi2 hi3 hi4
 have HORD := Lib.hid (isD_parts hv).1
 dsimp only [co_Database, fullD] at HORD
 clear hv
 obtain ⟨N, hN⟩ : ∃ n, n = ys.length := ⟨_, rfl⟩
 obtain ⟨M, hM⟩ : ∃ n, n = us.length := ⟨_, rfl⟩
 have hlN : N ≤ 1048576 := by have h := hf.len; rw [co_len] at h; rw [hN]; exact h
 have hlM : M ≤ 1048576 := by have h := hf.many; rw [hM]; exact h
 have hlN' : (N : Int) ≤ 1048576 := by omega
 have hlM' : (M : Int) ≤ 1048576 := by omega
 have HF := Lib.hid hf
 obtain ⟨Q, hQ⟩ : ∃ Q, Q = Ate W w (rw_Database (fullD name ver g ys g2 us)) (fun y => .returned (vv_Database y)) { co_Database (fullD name ver g ys g2 us) with f_Stores := insS (co_Database (fullD name ver g ys g2 us)).f_Stores n } := ⟨_, rfl⟩
 rw [← hQ]
 have HQ := Lib.hid hQ
 clear hQ
 obtain ⟨fps, hfps⟩ : ∃ f, f = (bag (rw_Database (fullD name ver g ys g2 us))).fp := ⟨_, rfl⟩
 rw [← hfps] at S
 have HFPS := Lib.hid hfps
 unfold vv_Database fullD
 dsimp only
 rw [← hN, ← hM]
 have HN := Lib.hid hN
 have HM := Lib.hid hM
 have S1 := Lib.hid S
 clear hf hfps S hN hM
 have S2 := Lib.hid (show Sl.Sep W _ [Bag.bag (([row_Store (some ⟨g, 0, none⟩) ys.length ys] ++ rws_Store ys) ++ [row_IndexDef (some ⟨g2, 0, none⟩) us.length us]), Run.restL W w fps] from S1.out)
 clear S1
 have S3 := Lib.hid (show Sl.Sep W _ [Bag.bag ([row_Store (some ⟨g, 0, none⟩) ys.length ys] ++ rws_Store ys), _, Bag.bag ([row_IndexDef (some ⟨g2, 0, none⟩) us.length us])] from Bag.bag_split S2.out 0 rfl)
 clear S2
 have S4 := Lib.hid (show Sl.Sep W _ [Bag.bag ([row_Store (some ⟨g, 0, none⟩) ys.length ys]), _, _, Bag.bag (rws_Store ys)] from Bag.bag_split S3.out 0 rfl)
 clear S3
 have S5 := Lib.hid (show Sl.Sep W _ [Sv.ownV 70 3 (some ⟨g, 0, none⟩) N N (ys.flatMap cl_Store), _, _, _] from (by have h := Bag.one_of_bag S4.out 0 (r := row_Store (some ⟨g, 0, none⟩) ys.length ys) rfl; unfold RowS.res row_Store at h; dsimp only at h; rw [← HN.out] at h; exact h))
 clear S4
 have S6 := Lib.hid (show Sl.Sep W _ [_, _, Sv.ownV 73 2 (some ⟨g2, 0, none⟩) M M (us.flatMap cl_IndexDef), _] from (by have h := Bag.one_of_bag S5.out 2 (r := row_IndexDef (some ⟨g2, 0, none⟩) us.length us) rfl; unfold RowS.res row_IndexDef at h; dsimp only at h; rw [← HM.out] at h; exact h))
 clear S5
 have S7 := Lib.hid (show Sl.Sep W _ [_, _, _, _] from Bag.take S6.out [0, 3, 2, 1] (by rfl) (by decide))
 clear S6
 have S8 := Lib.hid (show Sl.Sep W _ [_, _, _, _, _, _] from L4.push_box (L4.push_box (S7.out) 33 #[.string name, .int .i64 ver, .slice (some ⟨g, 0, none⟩) N N, .slice (some ⟨g2, 0, none⟩) M M] (w.heap.size) (by simp)) 33 #[.string ⟨#[]⟩, .int .i64 0, .slice none 0 0, .slice none 0 0] (w.heap.size + 1) (by simp))
 clear S7
 obtain ⟨wa, hwa⟩ : ∃ w_, w_ = ((w.alloc (.cells #[.string name, .int .i64 ver, .slice (some ⟨g, 0, none⟩) N N, .slice (some ⟨g2, 0, none⟩) M M] 33)).alloc (.cells #[.string ⟨#[]⟩, .int .i64 0, .slice none 0 0, .slice none 0 0] 33)) := ⟨_, rfl⟩
 rw [← hwa] at S8
 go_enter Tryz.func73, Tryz.ntmps73
 go_upto_region 1 with fail
 rw [← hwa]
 clear hwa
 have HBS := fun w' (h : Reads w' w'.heap.size (some ⟨g, 0, none⟩) (ys.flatMap cl_Store)) => bsearchS_any (some ⟨g, 0, none⟩) N ys n (by have := HN.out; omega) HORD.out w' h
 rw [← HN.out] at HBS
 replace HBS := Lib.hid HBS
 obtain ⟨pp, hpp⟩ : ∃ q, posS (coS_Store ys) n = q := ⟨_, rfl⟩
 have hppN : pp ≤ N := by have h := posS_le (coS_Store ys) n; rw [hpp, coS_len] at h; have := HN.out; omega
 rw [hpp] at HBS
 have HPP := Lib.hid hpp
 clear hpp
 have HINS := fun (gv : Nat) (w' : World) (hr : Reads w' w'.heap.size (some ⟨g, 0, none⟩) (ys.flatMap cl_Store)) (hv : Reads w' w'.heap.size (some ⟨gv, 0, none⟩) ([(⟨n, none, 0, [], 0⟩ : LS)].flatMap cl_Store)) => insert_Store g gv pp ys ⟨n, none, 0, [], 0⟩ (by have := HN.out; omega) (by have := HN.out; omega) w' hr hv
 rw [← HN.out] at HINS
 replace HINS := Lib.hid HINS
 obtain ⟨f0, f1, f2, f3⟩ := Bag.cs4 S8.out 4 rfl
 go_wp2_with fail
 go_at_call 106
 refine (HBS.out _ (Sv.own_at S8.out 0 rfl).reads).mono ?_
 rintro e w3 ⟨fb, rfl, hb⟩
 clear f0 f1 f2 f3
 have S9 := Lib.hid (S8.out.keep hb)
 clear S8
 clear hb
 obtain ⟨f0, f1, f2, f3⟩ := Bag.cs4 S9.out 4 rfl
 obtain ⟨z0, z1, z2, z3⟩ := Bag.fs4 S9.out 4 rfl
 go_upto_region 2 with fail
 have S10 := Lib.hid (show Sl.Sep W _ [Sv.ownV 70 3 (some ⟨g, 0, none⟩) N N (ys.flatMap cl_Store), Bag.bag (rws_Store ys), Sv.ownV 73 2 (some ⟨g2, 0, none⟩) M M (us.flatMap cl_IndexDef), Run.restL W w fps, L4.boxR w.heap.size 33 #[.string name, .int .i64 ver, .slice (some ⟨g, 0, none⟩) N N, .slice (some ⟨g2, 0, none⟩) M M], L4.boxR (w.heap.size + 1) 33 #[.string ⟨#[]⟩, .int .i64 0, .slice none 0 0, .slice none 0 0], Sv.ownV 70 3 (some ⟨w3.heap.size, 0, none⟩) 1 1 ([(⟨n, none, 0, [], 0⟩ : LS)].flatMap cl_Store)] from Sv.push_own S9.out ((Below.refl _ _).alloc (Nat.le_refl _) _) (OwnV.madeAt w3 70 3 1 w3.heap.size #[.string n, .slice none 0 0, .int .i64 0] rfl (Nat.le_refl _) rfl (by decide)))
 clear S9
 have HRV := Lib.hid (HINS.out w3.heap.size _ (Sv.own_at S10.out 0 rfl).reads (Sv.own_at S10.out 6 rfl).reads)
 go_wp2_with fail
 go_at_call 109
 refine HRV.out.mono ?_
 rintro e w5 ⟨a5, c5, rfl, ho, hb⟩
 clear f0 f1 f2 f3 z0 z1 z2 z3
 have S11 := Lib.hid (show Sl.Sep W _ [_, _, _, _, _, _, _, Sv.ownV 70 3 a5 c5 (N + 1) ((ys.take pp ++ (⟨n, none, 0, [], 0⟩ : LS) :: ys.drop pp).flatMap cl_Store)] from Sv.push_own S10.out hb ho)
 clear S10
 clear ho hb HRV
 obtain ⟨f0, f1, f2, f3⟩ := Bag.cs4 S11.out 4 rfl
 obtain ⟨z0, z1, z2, z3⟩ := Bag.fs4 S11.out 4 rfl
 go_upto_region 3 with fail
 clear f0 f1 f2 f3 z0 z1 z2 z3
 have S12 := Lib.hid (show Sl.Sep W _ [_, _, _, _, L4.boxR w.heap.size 33 #[.string name, .int .i64 ver, .slice a5 (N + 1) c5, .slice (some ⟨g2, 0, none⟩) M M], _, _, _] from L5.put_box5 (S11.out) 4 rfl 2 (.slice a5 (N + 1) c5))
 clear S11
 obtain ⟨f0, f1, f2, f3⟩ := Bag.cs4 S12.out 4 rfl
 obtain ⟨f4, f5, f6, f7⟩ := Bag.cs4 S12.out 5 rfl
 obtain ⟨z0, z1, z2, z3⟩ := Bag.fs4 S12.out 5 rfl
 go_wp2_with fail
 clear f0 f1 f2 f3 f4 f5 f6 f7 z0 z1 z2 z3
 have S13 := Lib.hid (show Sl.Sep W _ [_, _, _, _, _, L4.boxR (w.heap.size + 1) 33 #[.string name, .int .i64 ver, .slice a5 (N + 1) c5, .slice (some ⟨g2, 0, none⟩) M M], _, _] from L5.put_box5 (L5.put_box5 (L5.put_box5 (L5.put_box5 (S12.out) 5 rfl 0 (.string name)) 5 rfl 1 (.int .i64 ver)) 5 rfl 2 (.slice a5 (N + 1) c5)) 5 rfl 3 (.slice (some ⟨g2, 0, none⟩) M M))
 clear S12
 obtain ⟨f0, f1, f2, f3⟩ := Bag.cs4 S13.out 5 rfl
 refine bodyPost_ret (v := .agg #[.string name, .int .i64 ver, .slice a5 (N + 1) c5, .slice (some ⟨g2, 0, none⟩) M M]) (by simp [results, Tryz.results73, go_sem, *]) rfl ?_
 clear f0 f1 f2 f3
 have S14 := Lib.hid (show Sl.Sep W _ [_, _, _, _, _] from Bag.take S13.out [7, 1, 2, 0, 3] (by rfl) (by decide))
 clear S13
 have hlz : (ys.take pp ++ (⟨n, none, 0, [], 0⟩ : LS) :: ys.drop pp).length = N + 1 := by rw [List.length_append, List.length_cons, List.length_take, List.length_drop]; have := HN.out; omega
 have S15 := Lib.hid (show Sl.Sep W _ [Bag.bag ([row_Store a5 c5 (ys.take pp ++ (⟨n, none, 0, [], 0⟩ : LS) :: ys.drop pp)]), _, _, _, _] from Bag.bag_of_one S14.out 0 (r := row_Store a5 c5 (ys.take pp ++ (⟨n, none, 0, [], 0⟩ : LS) :: ys.drop pp)) (by unfold RowS.res row_Store; dsimp only; rw [hlz]; rfl))
 clear S14
 have S16 := Lib.hid (show Sl.Sep W _ [_, _, Bag.bag ([row_IndexDef (some ⟨g2, 0, none⟩) M us]), _, _] from Bag.bag_of_one S15.out 2 (r := row_IndexDef (some ⟨g2, 0, none⟩) M us) (by unfold RowS.res row_IndexDef; dsimp only; rw [HM.out]; rfl))
 clear S15
 have S17 := Lib.hid (show Sl.Sep W _ [_, _, _, Bag.bag ([row_Store (some ⟨g, 0, none⟩) N ys]), _] from Bag.bag_of_one S16.out 3 (r := row_Store (some ⟨g, 0, none⟩) N ys) (by unfold RowS.res row_Store; dsimp only; rw [HN.out]; rfl))
 clear S16
 have S18 := Lib.hid (show Sl.Sep W _ [_, _, _, _, _, Bag.bag ([row_Item none 0 []])] from Bag.push_bag S17.out (Below.refl _ _) (Bag.BagOwn.one (OwnV.nil _ _ _ _)))
 clear S17
 have S19 := Lib.hid (show Sl.Sep W _ [_, Bag.bag (rws_Store ys ++ ([row_Item none 0 []])), _, _, _, Bag.bag ([])] from Bag.bag_join S18.out 1 5 (by decide) rfl rfl)
 clear S18
 have S20 := Lib.hid (show Sl.Sep W _ [Bag.bag ([row_Store a5 c5 (ys.take pp ++ (⟨n, none, 0, [], 0⟩ : LS) :: ys.drop pp)]), Bag.bag (rws_Store (ys.take pp ++ (⟨n, none, 0, [], 0⟩ : LS) :: ys.drop pp)), Bag.bag ([row_IndexDef (some ⟨g2, 0, none⟩) M us]), Bag.bag ([row_Store (some ⟨g, 0, none⟩) N ys]), Run.restL W w fps, Bag.bag ([])] from Bag.bag_perm S19.out 1 rfl (rows_insS (ys := ys) (z := (⟨n, none, 0, [], 0⟩ : LS)) (k := pp)))
 clear S19
 have S21 := Lib.hid (show Sl.Sep W _ [Bag.bag ([row_Store a5 c5 (ys.take pp ++ (⟨n, none, 0, [], 0⟩ : LS) :: ys.drop pp)] ++ (rws_Store (ys.take pp ++ (⟨n, none, 0, [], 0⟩ : LS) :: ys.drop pp))), Bag.bag ([]), _, _, _, Bag.bag ([])] from Bag.bag_join S20.out 0 1 (by decide) rfl rfl)
 clear S20
 have S22 := Lib.hid (show Sl.Sep W _ [Bag.bag ([row_Store a5 c5 (ys.take pp ++ (⟨n, none, 0, [], 0⟩ : LS) :: ys.drop pp)] ++ (rws_Store (ys.take pp ++ (⟨n, none, 0, [], 0⟩ : LS) :: ys.drop pp)) ++ ([row_IndexDef (some ⟨g2, 0, none⟩) M us])), Bag.bag ([]), Bag.bag ([]), _, _, Bag.bag ([])] from Bag.bag_join S21.out 0 2 (by decide) rfl rfl)
 clear S21
 have S23 := Lib.hid (show Sl.Sep W _ [Bag.bag ([row_Store a5 c5 (ys.take pp ++ (⟨n, none, 0, [], 0⟩ : LS) :: ys.drop pp)] ++ (rws_Store (ys.take pp ++ (⟨n, none, 0, [], 0⟩ : LS) :: ys.drop pp)) ++ ([row_IndexDef (some ⟨g2, 0, none⟩) M us]) ++ ([row_Store (some ⟨g, 0, none⟩) N ys])), Bag.bag ([]), Bag.bag ([]), Bag.bag ([]), _, Bag.bag ([])] from Bag.bag_join S22.out 0 3 (by decide) rfl rfl)
 clear S22
 have S24 := Lib.hid (show Sl.Sep W _ [_, _] from Bag.take S23.out [0, 4] (by rfl) (by decide))
 clear S23
 rw [HQ.out]
 refine ⟨(⟨name, ver, a5, c5, (ys.take pp ++ (⟨n, none, 0, [], 0⟩ : LS) :: ys.drop pp), some ⟨g2, 0, none⟩, M, us⟩ : Y_Database), [row_Store (some ⟨g, 0, none⟩) N ys], ?_, ?_, ?_, ?_⟩
 ·
  dsimp only; unfold vv_Database; dsimp only; rw [hlz, HM.out]
 ·
  unfold co_Database fullD; dsimp only; rw [coS_ins]; unfold insS; rw [show posS (coS_Store ys) n = pp from HPP.out]
 ·
  rw [HN.out, HM.out]
  refine Eat.sub_of fun r hr => ?_
  have hr' : r ∈ ((row_Store (some ⟨g, 0, none⟩) ys.length ys :: rws_Store ys) ++ [row_IndexDef (some ⟨g2, 0, none⟩) us.length us]) := hr
  refine ⟨r, ?_, rfl⟩
  show r ∈ ((row_Store a5 c5 (ys.take pp ++ (⟨n, none, 0, [], 0⟩ : LS) :: ys.drop pp) :: rws_Store (ys.take pp ++ (⟨n, none, 0, [], 0⟩ : LS) :: ys.drop pp)) ++ [row_IndexDef (some ⟨g2, 0, none⟩) us.length us]) ++ [row_Store (some ⟨g, 0, none⟩) ys.length ys]
  have hp := (rows_insS (ys := ys) (z := (⟨n, none, 0, [], 0⟩ : LS)) (k := pp)).mem_iff (a := r)
  simp only [List.mem_append, List.mem_cons, List.mem_singleton, List.not_mem_nil, or_false] at hr' hp ⊢
  rcases hr' with (h | h) | h
  ·
   exact .inr h
  ·
   exact .inl (.inl (.inr (hp.1 (.inl h))))
  ·
   exact .inl (.inr h)
 ·
  rw [← HFPS.out]; exact S24.out
end Go.Proofs.YthljdhfgphebnaaGreat.L8

namespace Go.Proofs.YthljdhfgphebnaaGreat.L8
open V L6 L7
open L4 (K isK cmpK)
open L5 (F isR isN string_geq)
open Go.Op (bytesLess)
open Go.ChangeShapes Go.WideShapes Go.ChangeAt Go.RowKit Mem Sl Ex L2 Sv Bag

def drpD (d : X_Database) (n : ByteArray) : X_Database := match fndS d.f_Stores n with
 | some i => ⟨d.f_Name, d.f_Version, d.f_Stores.eraseIdx i, d.f_Unique.filter fun v => !(v.f_Store.toList == n.toList)⟩
 | none => d
def drpB (d : X_Database) (n : ByteArray) : Bool := (fndS d.f_Stores n).isSome
def dixD (d : X_Database) (u : X_IndexDef) : X_Database := match fndX d.f_Unique u with
 | some i => ⟨d.f_Name, d.f_Version, d.f_Stores, d.f_Unique.eraseIdx i⟩
 | none => d
def dixB (d : X_Database) (u : X_IndexDef) : Bool := (fndX d.f_Unique u).isSome
theorem drp_some {d : X_Database} {n : ByteArray} {k : Nat} (h : fndS d.f_Stores n = some k) : drpB d n = true ∧ drpD d n = ⟨d.f_Name, d.f_Version, d.f_Stores.eraseIdx k, d.f_Unique.filter fun v => !(v.f_Store.toList == n.toList)⟩ := by unfold drpB drpD; rw [h]; exact ⟨rfl, rfl⟩
theorem drp_none {d : X_Database} {n : ByteArray} (h : fndS d.f_Stores n = none) : drpB d n = false ∧ drpD d n = d := by unfold drpB drpD; rw [h]; exact ⟨rfl, rfl⟩
theorem dix_some {d : X_Database} {u : X_IndexDef} {k : Nat} (h : fndX d.f_Unique u = some k) : dixB d u = true ∧ dixD d u = ⟨d.f_Name, d.f_Version, d.f_Stores, d.f_Unique.eraseIdx k⟩ := by unfold dixB dixD; rw [h]; exact ⟨rfl, rfl⟩
theorem dix_none {d : X_Database} {u : X_IndexDef} (h : fndX d.f_Unique u = none) : dixB d u = false ∧ dixD d u = d := by unfold dixB dixD; rw [h]; exact ⟨rfl, rfl⟩

set_option maxHeartbeats 2000000 in
theorem dropStore1_any (v : X_IndexDef) (n : ByteArray) (g : Nat) (w : World) (hg : g < w.heap.size) (h0 : w.cell? ⟨g, 0, none⟩ = some (.string n)) :
  Calls Tryz.prog 113 #[vv_IndexDef v, .pointer (some ⟨g, 0, none⟩)] w fun e w' => e = .returned (.bool (v.f_Store.toList == n.toList)) ∧ Below w.heap.size w w' := by
 have HK := Lib.hid (fun w' (h : Below w.heap.size w w') => (⟨(h.cell (p := ⟨g, 0, none⟩) hg).trans h0, trivial⟩ : w'.cell? ⟨g, 0, none⟩ = some (.string n) ∧ True).1)
 clear h0
 unfold vv_IndexDef
 have S1 := Lib.hid (show Sl.Sep w _ [_] from L4.push_box (Sl.Sep.start w) 73 #[.string v.f_Store, .string v.f_Field] (w.heap.size) (by simp))
 obtain ⟨wa, hwa⟩ : ∃ w_, w_ = (w.alloc (.cells #[.string v.f_Store, .string v.f_Field] 73)) := ⟨_, rfl⟩
 rw [← hwa] at S1
 go_enter Tryz.func113, Tryz.ntmps113
 go_upto_region 1 with fail
 rw [← hwa]
 clear hwa
 obtain ⟨f0, f1⟩ := Bag.cs2 S1.out 0 rfl
 have fk := HK.out _ S1.out.old
 go_wp2_with fail
 go_ret
 exact ⟨rfl, S1.out.old⟩
set_option maxHeartbeats 8000000 in
theorem dropStore_sep (name : ByteArray) (ver : Int) (g : Nat) (ys : List LS) (g2 : Nat) (us : List X_IndexDef) (n : ByteArray) (hf : FitD (co_Database (fullD name ver g ys g2 us))) (W w : World) (S : Sl.Sep W w [bag (rw_Database (fullD name ver g ys g2 us)), Run.restL W w (bag (rw_Database (fullD name ver g ys g2 us))).fp]) :
  Calls Tryz.prog 74 #[vv_Database (fullD name ver g ys g2 us), .string n] w (Ate W w (rw_Database (fullD name ver g ys g2 us)) (fun y => .returned (.tuple #[vv_Database y, .bool (drpB (co_Database (fullD name ver g ys g2 us)) n)])) (drpD (co_Database (fullD name ver g ys g2 us)) n)) := by
 have HFS := fun w' (hr : RowsRd w' w'.heap.size (rw_Database (fullD name ver g ys g2 us))) => findStore_any (fullD name ver g ys g2 us) n hf w' hr
 change ∀ w' _, Calls _ _ _ _ (fun e w'' => e = .returned (.int .i64 (numO (fndS (coS_Store ys) n))) ∧ Below _ _ w'') at HFS
 have HVF := Lib.hid (show vv_Database (fullD name ver g ys g2 us) = .agg #[.string name, .int .i64 ver, .slice (some ⟨g, 0, none⟩) ys.length ys.length, .slice (some ⟨g2, 0, none⟩) us.length us.length] from rfl)
 obtain ⟨N, hN⟩ : ∃ n, n = ys.length := ⟨_, rfl⟩
 obtain ⟨M, hM⟩ : ∃ n, n = us.length := ⟨_, rfl⟩
 have hlN : N ≤ 1048576 := by have h := hf.len; rw [co_len] at h; rw [hN]; exact h
 have hlM : M ≤ 1048576 := by have h := hf.many; rw [hM]; exact h
 have hlN' : (N : Int) ≤ 1048576 := by omega
 have hlM' : (M : Int) ≤ 1048576 := by omega
 have HF := Lib.hid hf
 obtain ⟨Q, hQ⟩ : ∃ Q, Q = Ate W w (rw_Database (fullD name ver g ys g2 us)) (fun y => .returned (.tuple #[vv_Database y, .bool (drpB (co_Database (fullD name ver g ys g2 us)) n)])) (drpD (co_Database (fullD name ver g ys g2 us)) n) := ⟨_, rfl⟩
 rw [← hQ]
 have HQ := Lib.hid hQ
 clear hQ
 obtain ⟨fps, hfps⟩ : ∃ f, f = (bag (rw_Database (fullD name ver g ys g2 us))).fp := ⟨_, rfl⟩
 rw [← hfps] at S
 have HFPS := Lib.hid hfps
 unfold vv_Database fullD
 dsimp only
 rw [← hN, ← hM]
 have HN := Lib.hid hN
 have HM := Lib.hid hM
 have S1 := Lib.hid S
 clear hf hfps S hN hM
 have S2 := Lib.hid (show Sl.Sep W _ [Bag.bag (([row_Store (some ⟨g, 0, none⟩) ys.length ys] ++ rws_Store ys) ++ [row_IndexDef (some ⟨g2, 0, none⟩) us.length us]), Run.restL W w fps] from S1.out)
 clear S1
 have S3 := Lib.hid (show Sl.Sep W _ [Bag.bag ([row_Store (some ⟨g, 0, none⟩) ys.length ys] ++ rws_Store ys), _, Bag.bag ([row_IndexDef (some ⟨g2, 0, none⟩) us.length us])] from Bag.bag_split S2.out 0 rfl)
 clear S2
 have S4 := Lib.hid (show Sl.Sep W _ [Bag.bag ([row_Store (some ⟨g, 0, none⟩) ys.length ys]), _, _, Bag.bag (rws_Store ys)] from Bag.bag_split S3.out 0 rfl)
 clear S3
 have S5 := Lib.hid (show Sl.Sep W _ [Sv.ownV 70 3 (some ⟨g, 0, none⟩) N N (ys.flatMap cl_Store), _, _, _] from (by have h := Bag.one_of_bag S4.out 0 (r := row_Store (some ⟨g, 0, none⟩) ys.length ys) rfl; unfold RowS.res row_Store at h; dsimp only at h; rw [← HN.out] at h; exact h))
 clear S4
 have S6 := Lib.hid (show Sl.Sep W _ [_, _, Sv.ownV 73 2 (some ⟨g2, 0, none⟩) M M (us.flatMap cl_IndexDef), _] from (by have h := Bag.one_of_bag S5.out 2 (r := row_IndexDef (some ⟨g2, 0, none⟩) us.length us) rfl; unfold RowS.res row_IndexDef at h; dsimp only at h; rw [← HM.out] at h; exact h))
 clear S5
 have S7 := Lib.hid (show Sl.Sep W _ [_, _, _, _] from Bag.take S6.out [0, 3, 2, 1] (by rfl) (by decide))
 clear S6
 have S8 := Lib.hid (show Sl.Sep W _ [_, _, _, _, _, _, _] from L4.push_box (L4.push_box (L4.push_box (S7.out) 33 #[.string name, .int .i64 ver, .slice (some ⟨g, 0, none⟩) N N, .slice (some ⟨g2, 0, none⟩) M M] (w.heap.size) (by simp)) 9 #[.string n] (w.heap.size + 1) (by simp)) 33 #[.string ⟨#[]⟩, .int .i64 0, .slice none 0 0, .slice none 0 0] (w.heap.size + 1 + 1) (by simp))
 clear S7
 obtain ⟨wa, hwa⟩ : ∃ w_, w_ = (((w.alloc (.cells #[.string name, .int .i64 ver, .slice (some ⟨g, 0, none⟩) N N, .slice (some ⟨g2, 0, none⟩) M M] 33)).alloc (.cells #[.string n] 9)).alloc (.cells #[.string ⟨#[]⟩, .int .i64 0, .slice none 0 0, .slice none 0 0] 33)) := ⟨_, rfl⟩
 rw [← hwa] at S8
 go_enter Tryz.func74, Tryz.ntmps74
 go_upto_region 1 with fail
 rw [← hwa]
 clear hwa
 rw [← HN.out, ← HM.out] at HVF
 rw [HVF.out] at HFS
 have hmf : ∀ (fn : Fn) (first cap : Array Value) (w : World), (Instr.makeFunc fn first cap).run Tryz.prog w = .ok (.func fn first cap) w := fun _ _ _ _ => rfl
 have HRW : RowsRd wa wa.heap.size (rw_Database (fullD name ver g ys g2 us)) := rd_app (rd_cons (RowS.Own.rd (r := row_Store (some ⟨g, 0, none⟩) ys.length ys) (by have h := Sv.own_at S8.out 0 rfl; rw [HN.out] at h; exact h)) (Bag.bag_rd S8.out 1 rfl)) (rd_cons (RowS.Own.rd (r := row_IndexDef (some ⟨g2, 0, none⟩) us.length us) (by have h := Sv.own_at S8.out 2 rfl; rw [HM.out] at h; exact h)) (rd_nil _ _))
 have HFI := HFS wa HRW
 clear HRW HFS
 cases hfo : fndS (coS_Store ys) n with
 | none =>
  rw [hfo] at HFI
  dsimp only [numO] at HFI
  have HFO := Lib.hid hfo
  clear hfo
  obtain ⟨f0, f1, f2, f3⟩ := Bag.cs4 S8.out 4 rfl
  have f4 := Bag.cs1 S8.out 5 rfl
  go_wp2_with fail
  go_at_call 110
  refine HFI.mono ?_
  rintro e w3 ⟨rfl, hb⟩
  clear HFI
  clear f0 f1 f2 f3 f4
  have S9 := Lib.hid (S8.out.keep hb)
  clear S8
  clear hb
  obtain ⟨f0, f1, f2, f3⟩ := Bag.cs4 S9.out 4 rfl
  obtain ⟨f4, f5, f6, f7⟩ := Bag.cs4 S9.out 6 rfl
  obtain ⟨z0, z1, z2, z3⟩ := Bag.fs4 S9.out 6 rfl
  go_wp2_with fail
  clear f0 f1 f2 f3 f4 f5 f6 f7 z0 z1 z2 z3
  have S10 := Lib.hid (show Sl.Sep W _ [Sv.ownV 70 3 (some ⟨g, 0, none⟩) N N (ys.flatMap cl_Store), Bag.bag (rws_Store ys), Sv.ownV 73 2 (some ⟨g2, 0, none⟩) M M (us.flatMap cl_IndexDef), Run.restL W w fps, L4.boxR w.heap.size 33 #[.string name, .int .i64 ver, .slice (some ⟨g, 0, none⟩) N N, .slice (some ⟨g2, 0, none⟩) M M], L4.boxR (w.heap.size + 1) 9 #[.string n], L4.boxR (w.heap.size + 1 + 1) 33 #[.string name, .int .i64 ver, .slice (some ⟨g, 0, none⟩) N N, .slice (some ⟨g2, 0, none⟩) M M]] from L5.put_box5 (L5.put_box5 (L5.put_box5 (L5.put_box5 (S9.out) 6 rfl 0 (.string name)) 6 rfl 1 (.int .i64 ver)) 6 rfl 2 (.slice (some ⟨g, 0, none⟩) N N)) 6 rfl 3 (.slice (some ⟨g2, 0, none⟩) M M))
  clear S9
  obtain ⟨f0, f1, f2, f3⟩ := Bag.cs4 S10.out 6 rfl
  refine bodyPost_ret (v := .tuple #[.agg #[.string name, .int .i64 ver, .slice (some ⟨g, 0, none⟩) N N, .slice (some ⟨g2, 0, none⟩) M M], .bool false]) (by simp [results, Tryz.results74, go_sem, *]) rfl ?_
  clear f0 f1 f2 f3
  have S11 := Lib.hid (show Sl.Sep W _ [Bag.bag ([row_Store (some ⟨g, 0, none⟩) ys.length ys]), _, _, _, _, _, _] from Bag.bag_of_one S10.out 0 (r := row_Store (some ⟨g, 0, none⟩) ys.length ys) (by unfold RowS.res row_Store; dsimp only; rw [HN.out]; rfl))
  clear S10
  have S12 := Lib.hid (show Sl.Sep W _ [_, _, Bag.bag ([row_IndexDef (some ⟨g2, 0, none⟩) us.length us]), _, _, _, _] from Bag.bag_of_one S11.out 2 (r := row_IndexDef (some ⟨g2, 0, none⟩) us.length us) (by unfold RowS.res row_IndexDef; dsimp only; rw [HM.out]; rfl))
  clear S11
  have S13 := Lib.hid (show Sl.Sep W _ [Bag.bag ([row_Store (some ⟨g, 0, none⟩) ys.length ys] ++ (rws_Store ys)), Bag.bag ([]), _, _, _, _, _] from Bag.bag_join S12.out 0 1 (by decide) rfl rfl)
  clear S12
  have S14 := Lib.hid (show Sl.Sep W _ [Bag.bag ([row_Store (some ⟨g, 0, none⟩) ys.length ys] ++ (rws_Store ys) ++ ([row_IndexDef (some ⟨g2, 0, none⟩) us.length us])), Bag.bag ([]), Bag.bag ([]), _, _, _, _] from Bag.bag_join S13.out 0 2 (by decide) rfl rfl)
  clear S13
  have S15 := Lib.hid (show Sl.Sep W _ [_, _] from Bag.take S14.out [0, 3] (by rfl) (by decide))
  clear S14
  obtain ⟨e1, e2⟩ := drp_none (d := co_Database (fullD name ver g ys g2 us)) (n := n) HFO.out
  rw [HQ.out, e1, e2]
  refine ⟨(fullD name ver g ys g2 us), [], ?_, rfl, ?_, ?_⟩
  ·
   dsimp only; unfold vv_Database fullD; dsimp only; rw [HN.out, HM.out]
  ·
   rw [List.append_nil]; exact fun b hb => hb
  ·
   rw [← HFPS.out, List.append_nil]; exact S15.out
 | some k =>
  rw [hfo] at HFI
  dsimp only [numO] at HFI
  have hkl : k < ys.length := by obtain ⟨h1, _⟩ := idx_some hfo; rw [coS_len] at h1; exact h1
  have HFO := Lib.hid hfo
  have HKL := Lib.hid hkl
  have hkN : k < N := by have := HN.out; omega
  clear hfo hkl
  have hk0 : ¬ (k : Int) < 0 := by omega
  have hwk : IntKind.i64.wrap ((k : Int) + 1) = (k : Int) + 1 := IntWalk.i64_in _ ⟨by omega, by omega⟩
  obtain ⟨f0, f1, f2, f3⟩ := Bag.cs4 S8.out 4 rfl
  have f4 := Bag.cs1 S8.out 5 rfl
  go_wp2_with fail
  go_at_call 110
  refine HFI.mono ?_
  rintro e w3 ⟨rfl, hb⟩
  clear HFI
  clear f0 f1 f2 f3 f4
  have S9 := Lib.hid (S8.out.keep hb)
  clear S8
  clear hb
  obtain ⟨f0, f1, f2, f3⟩ := Bag.cs4 S9.out 4 rfl
  obtain ⟨z0, z1, z2, z3⟩ := Bag.fs4 S9.out 4 rfl
  have hDL := delete_Store S9.out 0 (g := g) (c := N) (ys := ys) (by rw [← HN.out]; rfl) k HKL.out (by have := HN.out; omega)
  rw [← HN.out] at hDL
  go_wp2_with fail
  go_at_call 111
  refine hDL.mono ?_
  rintro e w4 ⟨rfl, hS⟩
  clear f0 f1 f2 f3 z0 z1 z2 z3
  have S10 := Lib.hid (show Sl.Sep W _ [Sv.ownV 70 3 (some ⟨g, 0, none⟩) N (N - 1) ((ys.eraseIdx k).flatMap cl_Store), Bag.bag (rws_Store ys), Sv.ownV 73 2 (some ⟨g2, 0, none⟩) M M (us.flatMap cl_IndexDef), Run.restL W w fps, L4.boxR w.heap.size 33 #[.string name, .int .i64 ver, .slice (some ⟨g, 0, none⟩) N N, .slice (some ⟨g2, 0, none⟩) M M], L4.boxR (w.heap.size + 1) 9 #[.string n], L4.boxR (w.heap.size + 1 + 1) 33 #[.string ⟨#[]⟩, .int .i64 0, .slice none 0 0, .slice none 0 0]] from hS)
  clear S9
  clear hS hDL
  obtain ⟨f0, f1, f2, f3⟩ := Bag.cs4 S10.out 4 rfl
  obtain ⟨z0, z1, z2, z3⟩ := Bag.fs4 S10.out 4 rfl
  go_upto_region 5 with fail
  clear f0 f1 f2 f3 z0 z1 z2 z3
  have S11 := Lib.hid (show Sl.Sep W _ [_, _, _, _, L4.boxR w.heap.size 33 #[.string name, .int .i64 ver, .slice (some ⟨g, 0, none⟩) (N - 1) N, .slice (some ⟨g2, 0, none⟩) M M], _, _] from L5.put_box5 (S10.out) 4 rfl 2 (.slice (some ⟨g, 0, none⟩) (N - 1) N))
  clear S10
  have hgc := (S11.out.lies 5 _ rfl (w.heap.size + 1) (by simp [L4.boxR])).2
  have hne : w.heap.size + 1 ≠ g2 := fun e => S11.out.apart 5 2 _ _ rfl rfl (by decide) g2 (by rw [← e]; simp [L4.boxR]) (by simp [Sv.ownV, Value.ownBlock])
  have hrow : Row _ (w.heap.size + 1) 9 #[.string n] := S11.out.is 5 _ rfl
  have hDF := deleteFunc_IndexDef S11.out 2 (g := g2) (c := M) (ys := us) (by rw [← HM.out]; rfl) (w.heap.size + 1) (fun v => v.f_Store.toList == n.toList) (by have := HM.out; omega) hgc hne (fun v hv w' hsz hb => dropStore1_any v n (w.heap.size + 1) w' (Nat.lt_of_lt_of_le hgc hsz) (by have h := (L4.boxR (w.heap.size + 1) 9 #[.string n]).loc (w' := w') (fun b hb2 => by simp [L4.boxR] at hb2; subst hb2; exact hb) hrow; exact Row.cell h 0))
  rw [← HM.out] at hDF
  replace hDF := Lib.hid hDF
  clear hgc hne hrow
  obtain ⟨f0, f1, f2, f3⟩ := Bag.cs4 S11.out 4 rfl
  have f4 := Bag.cs1 S11.out 5 rfl
  obtain ⟨z0, z1, z2, z3⟩ := Bag.fs4 S11.out 4 rfl
  go_wp2_with fail
  go_at_call 112
  refine hDF.out.mono ?_
  rintro e w5 ⟨rfl, hS⟩
  clear f0 f1 f2 f3 f4 z0 z1 z2 z3
  have S12 := Lib.hid (show Sl.Sep W _ [_, _, Sv.ownV 73 2 (some ⟨g2, 0, none⟩) M ((stays (fun v => v.f_Store.toList == n.toList) us).length) ((stays (fun v => v.f_Store.toList == n.toList) us).flatMap cl_IndexDef), _, _, _, _] from hS)
  clear S11
  clear hS hDF
  obtain ⟨L, hL⟩ : ∃ L, (stays (fun v => v.f_Store.toList == n.toList) us) = L := ⟨_, rfl⟩
  rw [hL] at S12 ⊢
  have HL := Lib.hid hL
  clear hL
  obtain ⟨f0, f1, f2, f3⟩ := Bag.cs4 S12.out 4 rfl
  obtain ⟨z0, z1, z2, z3⟩ := Bag.fs4 S12.out 4 rfl
  go_upto_region 6 with fail
  clear f0 f1 f2 f3 z0 z1 z2 z3
  have S13 := Lib.hid (show Sl.Sep W _ [_, _, Sv.ownV 73 2 (some ⟨g2, 0, none⟩) M L.length (L.flatMap cl_IndexDef), _, L4.boxR w.heap.size 33 #[.string name, .int .i64 ver, .slice (some ⟨g, 0, none⟩) (N - 1) N, .slice (some ⟨g2, 0, none⟩) L.length M], _, _] from L5.put_box5 (S12.out) 4 rfl 3 (.slice (some ⟨g2, 0, none⟩) L.length M))
  clear S12
  obtain ⟨f0, f1, f2, f3⟩ := Bag.cs4 S13.out 4 rfl
  obtain ⟨f4, f5, f6, f7⟩ := Bag.cs4 S13.out 6 rfl
  obtain ⟨z0, z1, z2, z3⟩ := Bag.fs4 S13.out 6 rfl
  go_wp2_with fail
  clear f0 f1 f2 f3 f4 f5 f6 f7 z0 z1 z2 z3
  have S14 := Lib.hid (show Sl.Sep W _ [_, _, _, _, _, _, L4.boxR (w.heap.size + 1 + 1) 33 #[.string name, .int .i64 ver, .slice (some ⟨g, 0, none⟩) (N - 1) N, .slice (some ⟨g2, 0, none⟩) L.length M]] from L5.put_box5 (L5.put_box5 (L5.put_box5 (L5.put_box5 (S13.out) 6 rfl 0 (.string name)) 6 rfl 1 (.int .i64 ver)) 6 rfl 2 (.slice (some ⟨g, 0, none⟩) (N - 1) N)) 6 rfl 3 (.slice (some ⟨g2, 0, none⟩) L.length M))
  clear S13
  obtain ⟨f0, f1, f2, f3⟩ := Bag.cs4 S14.out 6 rfl
  refine bodyPost_ret (v := .tuple #[.agg #[.string name, .int .i64 ver, .slice (some ⟨g, 0, none⟩) (N - 1) N, .slice (some ⟨g2, 0, none⟩) L.length M], .bool true]) (by simp [results, Tryz.results74, go_sem, *]) rfl ?_
  clear f0 f1 f2 f3
  obtain ⟨x, hx⟩ : ∃ x, ys[k]? = some x := ⟨_, List.getElem?_eq_getElem HKL.out⟩
  have hle : (ys.eraseIdx k).length = N - 1 := by rw [List.length_eraseIdx, if_pos HKL.out, HN.out]
  have S15 := Lib.hid (show Sl.Sep W _ [Bag.bag ([row_Store (some ⟨g, 0, none⟩) N (ys.eraseIdx k)]), _, _, _, _, _, _] from Bag.bag_of_one S14.out 0 (r := row_Store (some ⟨g, 0, none⟩) N (ys.eraseIdx k)) (by unfold RowS.res row_Store; dsimp only; rw [hle]; rfl))
  clear S14
  have S16 := Lib.hid (show Sl.Sep W _ [_, _, Bag.bag ([row_IndexDef (some ⟨g2, 0, none⟩) M L]), _, _, _, _] from Bag.bag_of_one S15.out 2 (r := row_IndexDef (some ⟨g2, 0, none⟩) M L) (by unfold RowS.res row_IndexDef; dsimp only; rfl))
  clear S15
  have S17 := Lib.hid (show Sl.Sep W _ [Bag.bag ([row_Store (some ⟨g, 0, none⟩) N (ys.eraseIdx k)]), Bag.bag (rws_Store (ys.eraseIdx k) ++ rw_Store x), Bag.bag ([row_IndexDef (some ⟨g2, 0, none⟩) M L]), Run.restL W w fps, L4.boxR w.heap.size 33 #[.string name, .int .i64 ver, .slice (some ⟨g, 0, none⟩) (N - 1) N, .slice (some ⟨g2, 0, none⟩) L.length M], L4.boxR (w.heap.size + 1) 9 #[.string n], L4.boxR (w.heap.size + 1 + 1) 33 #[.string name, .int .i64 ver, .slice (some ⟨g, 0, none⟩) (N - 1) N, .slice (some ⟨g2, 0, none⟩) L.length M]] from Bag.bag_perm S16.out 1 rfl (rows_delS hx))
  clear S16
  have S18 := Lib.hid (show Sl.Sep W _ [_, Bag.bag (rws_Store (ys.eraseIdx k)), _, _, _, _, _, Bag.bag (rw_Store x)] from Bag.bag_split S17.out 1 rfl)
  clear S17
  have S19 := Lib.hid (show Sl.Sep W _ [Bag.bag ([row_Store (some ⟨g, 0, none⟩) N (ys.eraseIdx k)] ++ (rws_Store (ys.eraseIdx k))), Bag.bag ([]), _, _, _, _, _, _] from Bag.bag_join S18.out 0 1 (by decide) rfl rfl)
  clear S18
  have S20 := Lib.hid (show Sl.Sep W _ [Bag.bag ([row_Store (some ⟨g, 0, none⟩) N (ys.eraseIdx k)] ++ (rws_Store (ys.eraseIdx k)) ++ ([row_IndexDef (some ⟨g2, 0, none⟩) M L])), Bag.bag ([]), Bag.bag ([]), _, _, _, _, _] from Bag.bag_join S19.out 0 2 (by decide) rfl rfl)
  clear S19
  have S21 := Lib.hid (show Sl.Sep W _ [Bag.bag ([row_Store (some ⟨g, 0, none⟩) N (ys.eraseIdx k)] ++ (rws_Store (ys.eraseIdx k)) ++ ([row_IndexDef (some ⟨g2, 0, none⟩) M L]) ++ (rw_Store x)), Bag.bag ([]), Bag.bag ([]), _, _, _, _, Bag.bag ([])] from Bag.bag_join S20.out 0 7 (by decide) rfl rfl)
  clear S20
  have S22 := Lib.hid (show Sl.Sep W _ [_, _] from Bag.take S21.out [0, 3] (by rfl) (by decide))
  clear S21
  obtain ⟨e1, e2⟩ := drp_some (d := co_Database (fullD name ver g ys g2 us)) (n := n) HFO.out
  rw [HQ.out, e1, e2]
  refine ⟨(⟨name, ver, some ⟨g, 0, none⟩, N, ys.eraseIdx k, some ⟨g2, 0, none⟩, M, L⟩ : Y_Database), rw_Store x, ?_, ?_, ?_, ?_⟩
  ·
   dsimp only; unfold vv_Database; dsimp only; rw [hle]
  ·
   unfold co_Database fullD; dsimp only; rw [coS_erase, ← HL.out]; rfl
  ·
   refine Eat.sub_of fun r hr => ?_
   have hr' : r ∈ (([row_Store (some ⟨g, 0, none⟩) ys.length ys] ++ rws_Store ys) ++ [row_IndexDef (some ⟨g2, 0, none⟩) us.length us]) := hr
   have hp := (rows_delS hx).mem_iff (a := r)
   simp only [List.mem_append, List.mem_singleton] at hr' hp
   rcases hr' with (h | h) | h
   ·
    subst h; exact ⟨row_Store (some ⟨g, 0, none⟩) N (ys.eraseIdx k), List.mem_append_left _ (List.mem_append_left _ (List.mem_cons_self ..)), Eat.row_fp⟩
   ·
    refine ⟨r, ?_, rfl⟩
    rcases hp.1 h with h1 | h1
    ·
     exact List.mem_append_left _ (List.mem_append_left _ (List.mem_cons_of_mem _ h1))
    ·
     exact List.mem_append_right _ h1
   ·
    subst h; exact ⟨row_IndexDef (some ⟨g2, 0, none⟩) M L, List.mem_append_left _ (List.mem_append_right _ (List.mem_cons_self ..)), Eat.row_fp⟩
  ·
   rw [← HFPS.out]; exact S22.out
set_option maxHeartbeats 8000000 in
theorem dropIndex_sep (name : ByteArray) (ver : Int) (g : Nat) (ys : List LS) (g2 : Nat) (us : List X_IndexDef) (u : X_IndexDef) (hf : FitD (co_Database (fullD name ver g ys g2 us))) (W w : World) (S : Sl.Sep W w [bag (rw_Database (fullD name ver g ys g2 us)), Run.restL W w (bag (rw_Database (fullD name ver g ys g2 us))).fp]) :
  Calls Tryz.prog 75 #[vv_Database (fullD name ver g ys g2 us), vv_IndexDef u] w (Ate W w (rw_Database (fullD name ver g ys g2 us)) (fun y => .returned (.tuple #[vv_Database y, .bool (dixB (co_Database (fullD name ver g ys g2 us)) u)])) (dixD (co_Database (fullD name ver g ys g2 us)) u)) := by
 unfold vv_IndexDef
 obtain ⟨N, hN⟩ : ∃ n, n = ys.length := ⟨_, rfl⟩
 obtain ⟨M, hM⟩ : ∃ n, n = us.length := ⟨_, rfl⟩
 have hlN : N ≤ 1048576 := by have h := hf.len; rw [co_len] at h; rw [hN]; exact h
 have hlM : M ≤ 1048576 := by have h := hf.many; rw [hM]; exact h
 have hlN' : (N : Int) ≤ 1048576 := by omega
 have hlM' : (M : Int) ≤ 1048576 := by omega
 have HF := Lib.hid hf
 obtain ⟨Q, hQ⟩ : ∃ Q, Q = Ate W w (rw_Database (fullD name ver g ys g2 us)) (fun y => .returned (.tuple #[vv_Database y, .bool (dixB (co_Database (fullD name ver g ys g2 us)) u)])) (dixD (co_Database (fullD name ver g ys g2 us)) u) := ⟨_, rfl⟩
 rw [← hQ]
 have HQ := Lib.hid hQ
 clear hQ
 obtain ⟨fps, hfps⟩ : ∃ f, f = (bag (rw_Database (fullD name ver g ys g2 us))).fp := ⟨_, rfl⟩
 rw [← hfps] at S
 have HFPS := Lib.hid hfps
 unfold vv_Database fullD
 dsimp only
 rw [← hN, ← hM]
 have HN := Lib.hid hN
 have HM := Lib.hid hM
 have S1 := Lib.hid S
 clear hf hfps S hN hM
 have S2 := Lib.hid (show Sl.Sep W _ [Bag.bag (([row_Store (some ⟨g, 0, none⟩) ys.length ys] ++ rws_Store ys) ++ [row_IndexDef (some ⟨g2, 0, none⟩) us.length us]), Run.restL W w fps] from S1.out)
 clear S1
 have S3 := Lib.hid (show Sl.Sep W _ [Bag.bag ([row_Store (some ⟨g, 0, none⟩) ys.length ys] ++ rws_Store ys), _, Bag.bag ([row_IndexDef (some ⟨g2, 0, none⟩) us.length us])] from Bag.bag_split S2.out 0 rfl)
 clear S2
 have S4 := Lib.hid (show Sl.Sep W _ [Bag.bag ([row_Store (some ⟨g, 0, none⟩) ys.length ys]), _, _, Bag.bag (rws_Store ys)] from Bag.bag_split S3.out 0 rfl)
 clear S3
 have S5 := Lib.hid (show Sl.Sep W _ [Sv.ownV 70 3 (some ⟨g, 0, none⟩) N N (ys.flatMap cl_Store), _, _, _] from (by have h := Bag.one_of_bag S4.out 0 (r := row_Store (some ⟨g, 0, none⟩) ys.length ys) rfl; unfold RowS.res row_Store at h; dsimp only at h; rw [← HN.out] at h; exact h))
 clear S4
 have S6 := Lib.hid (show Sl.Sep W _ [_, _, Sv.ownV 73 2 (some ⟨g2, 0, none⟩) M M (us.flatMap cl_IndexDef), _] from (by have h := Bag.one_of_bag S5.out 2 (r := row_IndexDef (some ⟨g2, 0, none⟩) us.length us) rfl; unfold RowS.res row_IndexDef at h; dsimp only at h; rw [← HM.out] at h; exact h))
 clear S5
 have S7 := Lib.hid (show Sl.Sep W _ [_, _, _, _] from Bag.take S6.out [0, 3, 2, 1] (by rfl) (by decide))
 clear S6
 have S8 := Lib.hid (show Sl.Sep W _ [_, _, _, _, _, _, _] from L4.push_box (L4.push_box (L4.push_box (S7.out) 33 #[.string name, .int .i64 ver, .slice (some ⟨g, 0, none⟩) N N, .slice (some ⟨g2, 0, none⟩) M M] (w.heap.size) (by simp)) 73 #[.string u.f_Store, .string u.f_Field] (w.heap.size + 1) (by simp)) 33 #[.string ⟨#[]⟩, .int .i64 0, .slice none 0 0, .slice none 0 0] (w.heap.size + 1 + 1) (by simp))
 clear S7
 obtain ⟨wa, hwa⟩ : ∃ w_, w_ = (((w.alloc (.cells #[.string name, .int .i64 ver, .slice (some ⟨g, 0, none⟩) N N, .slice (some ⟨g2, 0, none⟩) M M] 33)).alloc (.cells #[.string u.f_Store, .string u.f_Field] 73)).alloc (.cells #[.string ⟨#[]⟩, .int .i64 0, .slice none 0 0, .slice none 0 0] 33)) := ⟨_, rfl⟩
 rw [← hwa] at S8
 go_enter Tryz.func75, Tryz.ntmps75
 go_upto_region 1 with fail
 rw [← hwa]
 clear hwa
 have HIX := fun w' (hr : Reads w' w'.heap.size (some ⟨g2, 0, none⟩) (us.flatMap cl_IndexDef)) => indexX_any (some ⟨g2, 0, none⟩) M us u (by have := HM.out; omega) w' hr
 rw [← HM.out] at HIX
 unfold vv_IndexDef at HIX
 have HFI := HIX wa (Sv.own_at S8.out 2 rfl).reads
 clear HIX
 cases hfo : fndX us u with
 | none =>
  rw [hfo] at HFI
  dsimp only [numO] at HFI
  have HFO := Lib.hid hfo
  clear hfo
  obtain ⟨f0, f1, f2, f3⟩ := Bag.cs4 S8.out 4 rfl
  obtain ⟨f4, f5⟩ := Bag.cs2 S8.out 5 rfl
  go_wp2_with fail
  go_at_call 114
  refine HFI.mono ?_
  rintro e w3 ⟨rfl, hb⟩
  clear HFI
  clear f0 f1 f2 f3 f4 f5
  have S9 := Lib.hid (S8.out.keep hb)
  clear S8
  clear hb
  obtain ⟨f0, f1, f2, f3⟩ := Bag.cs4 S9.out 4 rfl
  obtain ⟨f4, f5, f6, f7⟩ := Bag.cs4 S9.out 6 rfl
  obtain ⟨z0, z1, z2, z3⟩ := Bag.fs4 S9.out 6 rfl
  go_wp2_with fail
  clear f0 f1 f2 f3 f4 f5 f6 f7 z0 z1 z2 z3
  have S10 := Lib.hid (show Sl.Sep W _ [Sv.ownV 70 3 (some ⟨g, 0, none⟩) N N (ys.flatMap cl_Store), Bag.bag (rws_Store ys), Sv.ownV 73 2 (some ⟨g2, 0, none⟩) M M (us.flatMap cl_IndexDef), Run.restL W w fps, L4.boxR w.heap.size 33 #[.string name, .int .i64 ver, .slice (some ⟨g, 0, none⟩) N N, .slice (some ⟨g2, 0, none⟩) M M], L4.boxR (w.heap.size + 1) 73 #[.string u.f_Store, .string u.f_Field], L4.boxR (w.heap.size + 1 + 1) 33 #[.string name, .int .i64 ver, .slice (some ⟨g, 0, none⟩) N N, .slice (some ⟨g2, 0, none⟩) M M]] from L5.put_box5 (L5.put_box5 (L5.put_box5 (L5.put_box5 (S9.out) 6 rfl 0 (.string name)) 6 rfl 1 (.int .i64 ver)) 6 rfl 2 (.slice (some ⟨g, 0, none⟩) N N)) 6 rfl 3 (.slice (some ⟨g2, 0, none⟩) M M))
  clear S9
  obtain ⟨f0, f1, f2, f3⟩ := Bag.cs4 S10.out 6 rfl
  refine bodyPost_ret (v := .tuple #[.agg #[.string name, .int .i64 ver, .slice (some ⟨g, 0, none⟩) N N, .slice (some ⟨g2, 0, none⟩) M M], .bool false]) (by simp [results, Tryz.results75, go_sem, *]) rfl ?_
  clear f0 f1 f2 f3
  have S11 := Lib.hid (show Sl.Sep W _ [Bag.bag ([row_Store (some ⟨g, 0, none⟩) ys.length ys]), _, _, _, _, _, _] from Bag.bag_of_one S10.out 0 (r := row_Store (some ⟨g, 0, none⟩) ys.length ys) (by unfold RowS.res row_Store; dsimp only; rw [HN.out]; rfl))
  clear S10
  have S12 := Lib.hid (show Sl.Sep W _ [_, _, Bag.bag ([row_IndexDef (some ⟨g2, 0, none⟩) us.length us]), _, _, _, _] from Bag.bag_of_one S11.out 2 (r := row_IndexDef (some ⟨g2, 0, none⟩) us.length us) (by unfold RowS.res row_IndexDef; dsimp only; rw [HM.out]; rfl))
  clear S11
  have S13 := Lib.hid (show Sl.Sep W _ [Bag.bag ([row_Store (some ⟨g, 0, none⟩) ys.length ys] ++ (rws_Store ys)), Bag.bag ([]), _, _, _, _, _] from Bag.bag_join S12.out 0 1 (by decide) rfl rfl)
  clear S12
  have S14 := Lib.hid (show Sl.Sep W _ [Bag.bag ([row_Store (some ⟨g, 0, none⟩) ys.length ys] ++ (rws_Store ys) ++ ([row_IndexDef (some ⟨g2, 0, none⟩) us.length us])), Bag.bag ([]), Bag.bag ([]), _, _, _, _] from Bag.bag_join S13.out 0 2 (by decide) rfl rfl)
  clear S13
  have S15 := Lib.hid (show Sl.Sep W _ [_, _] from Bag.take S14.out [0, 3] (by rfl) (by decide))
  clear S14
  obtain ⟨e1, e2⟩ := dix_none (d := co_Database (fullD name ver g ys g2 us)) (u := u) HFO.out
  rw [HQ.out, e1, e2]
  refine ⟨(fullD name ver g ys g2 us), [], ?_, rfl, ?_, ?_⟩
  ·
   dsimp only; unfold vv_Database fullD; dsimp only; rw [HN.out, HM.out]
  ·
   rw [List.append_nil]; exact fun b hb => hb
  ·
   rw [← HFPS.out, List.append_nil]; exact S15.out
 | some k =>
  rw [hfo] at HFI
  dsimp only [numO] at HFI
  have hkl : k < us.length := (idx_some hfo).1
  have HFO := Lib.hid hfo
  have HKL := Lib.hid hkl
  have hkN : k < M := by have := HM.out; omega
  clear hfo hkl
  have hk0 : ¬ (k : Int) < 0 := by omega
  have hwk : IntKind.i64.wrap ((k : Int) + 1) = (k : Int) + 1 := IntWalk.i64_in _ ⟨by omega, by omega⟩
  obtain ⟨f0, f1, f2, f3⟩ := Bag.cs4 S8.out 4 rfl
  obtain ⟨f4, f5⟩ := Bag.cs2 S8.out 5 rfl
  go_wp2_with fail
  go_at_call 114
  refine HFI.mono ?_
  rintro e w3 ⟨rfl, hb⟩
  clear HFI
  clear f0 f1 f2 f3 f4 f5
  have S9 := Lib.hid (S8.out.keep hb)
  clear S8
  clear hb
  obtain ⟨f0, f1, f2, f3⟩ := Bag.cs4 S9.out 4 rfl
  obtain ⟨z0, z1, z2, z3⟩ := Bag.fs4 S9.out 4 rfl
  have hDL := delete_IndexDef S9.out 2 (g := g2) (c := M) (ys := us) (by rw [← HM.out]; rfl) k HKL.out (by have := HM.out; omega)
  rw [← HM.out] at hDL
  go_wp2_with fail
  go_at_call 115
  refine hDL.mono ?_
  rintro e w4 ⟨rfl, hS⟩
  clear f0 f1 f2 f3 z0 z1 z2 z3
  have S10 := Lib.hid (show Sl.Sep W _ [Sv.ownV 70 3 (some ⟨g, 0, none⟩) N N (ys.flatMap cl_Store), Bag.bag (rws_Store ys), Sv.ownV 73 2 (some ⟨g2, 0, none⟩) M (M - 1) ((us.eraseIdx k).flatMap cl_IndexDef), Run.restL W w fps, L4.boxR w.heap.size 33 #[.string name, .int .i64 ver, .slice (some ⟨g, 0, none⟩) N N, .slice (some ⟨g2, 0, none⟩) M M], L4.boxR (w.heap.size + 1) 73 #[.string u.f_Store, .string u.f_Field], L4.boxR (w.heap.size + 1 + 1) 33 #[.string ⟨#[]⟩, .int .i64 0, .slice none 0 0, .slice none 0 0]] from hS)
  clear S9
  clear hS hDL
  obtain ⟨f0, f1, f2, f3⟩ := Bag.cs4 S10.out 4 rfl
  obtain ⟨z0, z1, z2, z3⟩ := Bag.fs4 S10.out 4 rfl
  go_upto_region 5 with fail
  clear f0 f1 f2 f3 z0 z1 z2 z3
  have S11 := Lib.hid (show Sl.Sep W _ [_, _, _, _, L4.boxR w.heap.size 33 #[.string name, .int .i64 ver, .slice (some ⟨g, 0, none⟩) N N, .slice (some ⟨g2, 0, none⟩) (M - 1) M], _, _] from L5.put_box5 (S10.out) 4 rfl 3 (.slice (some ⟨g2, 0, none⟩) (M - 1) M))
  clear S10
  obtain ⟨f0, f1, f2, f3⟩ := Bag.cs4 S11.out 4 rfl
  obtain ⟨f4, f5, f6, f7⟩ := Bag.cs4 S11.out 6 rfl
  obtain ⟨z0, z1, z2, z3⟩ := Bag.fs4 S11.out 6 rfl
  go_wp2_with fail
  clear f0 f1 f2 f3 f4 f5 f6 f7 z0 z1 z2 z3
  have S12 := Lib.hid (show Sl.Sep W _ [_, _, _, _, _, _, L4.boxR (w.heap.size + 1 + 1) 33 #[.string name, .int .i64 ver, .slice (some ⟨g, 0, none⟩) N N, .slice (some ⟨g2, 0, none⟩) (M - 1) M]] from L5.put_box5 (L5.put_box5 (L5.put_box5 (L5.put_box5 (S11.out) 6 rfl 0 (.string name)) 6 rfl 1 (.int .i64 ver)) 6 rfl 2 (.slice (some ⟨g, 0, none⟩) N N)) 6 rfl 3 (.slice (some ⟨g2, 0, none⟩) (M - 1) M))
  clear S11
  obtain ⟨f0, f1, f2, f3⟩ := Bag.cs4 S12.out 6 rfl
  refine bodyPost_ret (v := .tuple #[.agg #[.string name, .int .i64 ver, .slice (some ⟨g, 0, none⟩) N N, .slice (some ⟨g2, 0, none⟩) (M - 1) M], .bool true]) (by simp [results, Tryz.results75, go_sem, *]) rfl ?_
  clear f0 f1 f2 f3
  have hle : (us.eraseIdx k).length = M - 1 := by rw [List.length_eraseIdx, if_pos HKL.out, HM.out]
  have S13 := Lib.hid (show Sl.Sep W _ [Bag.bag ([row_Store (some ⟨g, 0, none⟩) N ys]), _, _, _, _, _, _] from Bag.bag_of_one S12.out 0 (r := row_Store (some ⟨g, 0, none⟩) N ys) (by unfold RowS.res row_Store; dsimp only; rw [← HN.out]; rfl))
  clear S12
  have S14 := Lib.hid (show Sl.Sep W _ [_, _, Bag.bag ([row_IndexDef (some ⟨g2, 0, none⟩) M (us.eraseIdx k)]), _, _, _, _] from Bag.bag_of_one S13.out 2 (r := row_IndexDef (some ⟨g2, 0, none⟩) M (us.eraseIdx k)) (by unfold RowS.res row_IndexDef; dsimp only; rw [hle]; rfl))
  clear S13
  have S15 := Lib.hid (show Sl.Sep W _ [Bag.bag ([row_Store (some ⟨g, 0, none⟩) N ys] ++ (rws_Store ys)), Bag.bag ([]), _, _, _, _, _] from Bag.bag_join S14.out 0 1 (by decide) rfl rfl)
  clear S14
  have S16 := Lib.hid (show Sl.Sep W _ [Bag.bag ([row_Store (some ⟨g, 0, none⟩) N ys] ++ (rws_Store ys) ++ ([row_IndexDef (some ⟨g2, 0, none⟩) M (us.eraseIdx k)])), Bag.bag ([]), Bag.bag ([]), _, _, _, _] from Bag.bag_join S15.out 0 2 (by decide) rfl rfl)
  clear S15
  have S17 := Lib.hid (show Sl.Sep W _ [_, _] from Bag.take S16.out [0, 3] (by rfl) (by decide))
  clear S16
  obtain ⟨e1, e2⟩ := dix_some (d := co_Database (fullD name ver g ys g2 us)) (u := u) HFO.out
  rw [HQ.out, e1, e2]
  refine ⟨(⟨name, ver, some ⟨g, 0, none⟩, N, ys, some ⟨g2, 0, none⟩, M, us.eraseIdx k⟩ : Y_Database), [], ?_, ?_, ?_, ?_⟩
  ·
   dsimp only; unfold vv_Database; dsimp only; rw [hle, ← HN.out]
  ·
   rfl
  ·
   rw [List.append_nil]
   refine Eat.sub_of fun r hr => ?_
   have hr' : r ∈ (([row_Store (some ⟨g, 0, none⟩) ys.length ys] ++ rws_Store ys) ++ [row_IndexDef (some ⟨g2, 0, none⟩) us.length us]) := hr
   simp only [List.mem_append, List.mem_singleton] at hr'
   rcases hr' with (h | h) | h
   ·
    subst h; exact ⟨row_Store (some ⟨g, 0, none⟩) N ys, List.mem_append_left _ (List.mem_cons_self ..), Eat.row_fp⟩
   ·
    exact ⟨r, List.mem_append_left _ (List.mem_cons_of_mem _ h), rfl⟩
   ·
    subst h; exact ⟨row_IndexDef (some ⟨g2, 0, none⟩) M (us.eraseIdx k), List.mem_append_right _ (List.mem_cons_self ..), Eat.row_fp⟩
  ·
   rw [← HFPS.out, List.append_nil]; exact S17.out
def chB (d : X_Database) (u : X_Upgrade) : Bool := (chgD d u).isSome
def chD (d : X_Database) (u : X_Upgrade) : X_Database := (chgD d u).getD d
theorem ch_one {d : X_Database} {u : X_Upgrade} (h : u.f_Kind = 1) : chB d u = true ∧ chD d u = { d with f_Stores := insS d.f_Stores u.f_Store } := by unfold chB chD chgD; rw [if_pos h]; exact ⟨rfl, rfl⟩
theorem ch_two {d : X_Database} {u : X_Upgrade} (h : u.f_Kind = 2) : chB d u = drpB d u.f_Store ∧ chD d u = drpD d u.f_Store := by
 unfold chB chD chgD drpB drpD
 rw [if_neg (by omega), if_pos h]
 cases fndS d.f_Stores u.f_Store <;> exact ⟨rfl, rfl⟩
theorem ch_three {d : X_Database} {u : X_Upgrade} (h : u.f_Kind = 3) : chB d u = true ∧ chD d u = { d with f_Unique := d.f_Unique ++ [ixOf u] } := by unfold chB chD chgD; rw [if_neg (by omega), if_neg (by omega), if_pos h]; exact ⟨rfl, rfl⟩
theorem ch_four {d : X_Database} {u : X_Upgrade} (h : u.f_Kind = 4) : chB d u = dixB d (ixOf u) ∧ chD d u = dixD d (ixOf u) := by
 unfold chB chD chgD dixB dixD
 rw [if_neg (by omega), if_neg (by omega), if_neg (by omega), if_pos h]
 cases fndX d.f_Unique (ixOf u) <;> exact ⟨rfl, rfl⟩
theorem ch_other {d : X_Database} {u : X_Upgrade} (h1 : u.f_Kind ≠ 1) (h2 : u.f_Kind ≠ 2) (h3 : u.f_Kind ≠ 3) (h4 : u.f_Kind ≠ 4) : chB d u = false ∧ chD d u = d := by unfold chB chD chgD; rw [if_neg h1, if_neg h2, if_neg h3, if_neg h4]; exact ⟨rfl, rfl⟩

set_option maxHeartbeats 8000000 in
theorem changeStructure_sep (name : ByteArray) (ver : Int) (g : Nat) (ys : List LS) (g2 : Nat) (us : List X_IndexDef) (uk : Int) (un uf : ByteArray) (hf : FitD (co_Database (fullD name ver g ys g2 us))) (hv : isD (co_Database (fullD name ver g ys g2 us)) = true) (W w : World) (S : Sl.Sep W w [bag (rw_Database (fullD name ver g ys g2 us)), Run.restL W w (bag (rw_Database (fullD name ver g ys g2 us))).fp]) :
  Calls Tryz.prog 39 #[vv_Database (fullD name ver g ys g2 us), vv_Upgrade (⟨uk, un, uf⟩ : X_Upgrade)] w (Ate W w (rw_Database (fullD name ver g ys g2 us)) (fun y => .returned (.tuple #[vv_Database y, .bool (chB (co_Database (fullD name ver g ys g2 us)) (⟨uk, un, uf⟩ : X_Upgrade))])) (chD (co_Database (fullD name ver g ys g2 us)) (⟨uk, un, uf⟩ : X_Upgrade))) := by
 obtain ⟨iX, hi1, hi2, hi3, hi4⟩ := infoL_IndexDef
 have HIX := Lib.hid (And.intro hi1 (And.intro hi2 (And.intro hi3 hi4)))
 clear hi1 hi2 hi3 hi4
 have HVV := Lib.hid hv
 have HFF := Lib.hid hf
 have HVF := Lib.hid (show vv_Database (fullD name ver g ys g2 us) = .agg #[.string name, .int .i64 ver, .slice (some ⟨g, 0, none⟩) ys.length ys.length, .slice (some ⟨g2, 0, none⟩) us.length us.length] from rfl)
 clear hv
 unfold vv_Upgrade
 dsimp only
 obtain ⟨N, hN⟩ : ∃ n, n = ys.length := ⟨_, rfl⟩
 obtain ⟨M, hM⟩ : ∃ n, n = us.length := ⟨_, rfl⟩
 have hlN : N ≤ 1048576 := by have h := hf.len; rw [co_len] at h; rw [hN]; exact h
 have hlM : M ≤ 1048576 := by have h := hf.many; rw [hM]; exact h
 have hlN' : (N : Int) ≤ 1048576 := by omega
 have hlM' : (M : Int) ≤ 1048576 := by omega
 have HF := Lib.hid hf
 obtain ⟨Q, hQ⟩ : ∃ Q, Q = Ate W w (rw_Database (fullD name ver g ys g2 us)) (fun y => .returned (.tuple #[vv_Database y, .bool (chB (co_Database (fullD name ver g ys g2 us)) (⟨uk, un, uf⟩ : X_Upgrade))])) (chD (co_Database (fullD name ver g ys g2 us)) (⟨uk, un, uf⟩ : X_Upgrade)) := ⟨_, rfl⟩
 rw [← hQ]
 have HQ := Lib.hid hQ
 clear hQ
 obtain ⟨fps, hfps⟩ : ∃ f, f = (bag (rw_Database (fullD name ver g ys g2 us))).fp := ⟨_, rfl⟩
 rw [← hfps] at S
 have HFPS := Lib.hid hfps
 unfold vv_Database fullD
 dsimp only
 rw [← hN, ← hM]
 have HN := Lib.hid hN
 have HM := Lib.hid hM
 have S1 := Lib.hid S
 clear hf hfps S hN hM
 have S2 := Lib.hid (show Sl.Sep W _ [Bag.bag (([row_Store (some ⟨g, 0, none⟩) ys.length ys] ++ rws_Store ys) ++ [row_IndexDef (some ⟨g2, 0, none⟩) us.length us]), Run.restL W w fps] from S1.out)
 clear S1
 have S3 := Lib.hid (show Sl.Sep W _ [Bag.bag ([row_Store (some ⟨g, 0, none⟩) ys.length ys] ++ rws_Store ys), _, Bag.bag ([row_IndexDef (some ⟨g2, 0, none⟩) us.length us])] from Bag.bag_split S2.out 0 rfl)
 clear S2
 have S4 := Lib.hid (show Sl.Sep W _ [Bag.bag ([row_Store (some ⟨g, 0, none⟩) ys.length ys]), _, _, Bag.bag (rws_Store ys)] from Bag.bag_split S3.out 0 rfl)
 clear S3
 have S5 := Lib.hid (show Sl.Sep W _ [Sv.ownV 70 3 (some ⟨g, 0, none⟩) N N (ys.flatMap cl_Store), _, _, _] from (by have h := Bag.one_of_bag S4.out 0 (r := row_Store (some ⟨g, 0, none⟩) ys.length ys) rfl; unfold RowS.res row_Store at h; dsimp only at h; rw [← HN.out] at h; exact h))
 clear S4
 have S6 := Lib.hid (show Sl.Sep W _ [_, _, Sv.ownV 73 2 (some ⟨g2, 0, none⟩) M M (us.flatMap cl_IndexDef), _] from (by have h := Bag.one_of_bag S5.out 2 (r := row_IndexDef (some ⟨g2, 0, none⟩) us.length us) rfl; unfold RowS.res row_IndexDef at h; dsimp only at h; rw [← HM.out] at h; exact h))
 clear S5
 have S7 := Lib.hid (show Sl.Sep W _ [_, _, _, _] from Bag.take S6.out [0, 3, 2, 1] (by rfl) (by decide))
 clear S6
 have S8 := Lib.hid (show Sl.Sep W _ [_, _, _, _, _, _, _] from L4.push_box (L4.push_box (L4.push_box (S7.out) 33 #[.string name, .int .i64 ver, .slice (some ⟨g, 0, none⟩) N N, .slice (some ⟨g2, 0, none⟩) M M] (w.heap.size) (by simp)) 37 #[.int .i64 uk, .string un, .string uf] (w.heap.size + 1) (by simp)) 33 #[.string ⟨#[]⟩, .int .i64 0, .slice none 0 0, .slice none 0 0] (w.heap.size + 1 + 1) (by simp))
 clear S7
 obtain ⟨wa, hwa⟩ : ∃ w_, w_ = (((w.alloc (.cells #[.string name, .int .i64 ver, .slice (some ⟨g, 0, none⟩) N N, .slice (some ⟨g2, 0, none⟩) M M] 33)).alloc (.cells #[.int .i64 uk, .string un, .string uf] 37)).alloc (.cells #[.string ⟨#[]⟩, .int .i64 0, .slice none 0 0, .slice none 0 0] 33)) := ⟨_, rfl⟩
 rw [← hwa] at S8
 go_enter Tryz.func39, Tryz.ntmps39
 go_upto_region 1 with fail
 rw [← hwa]
 clear hwa
 rw [← HN.out, ← HM.out] at HVF
 obtain ⟨f0, f1, f2, f3⟩ := Bag.cs4 S8.out 4 rfl
 obtain ⟨f4, f5, f6⟩ := Bag.cs3 S8.out 5 rfl
 go_upto_region 2 with fail
 clear f0 f1 f2 f3 f4 f5 f6
 have S9 := Lib.hid (show Sl.Sep W _ [_, _, _, _, _, _, _, _] from L4.push_box S8.out 73 #[.string un, .string uf] wa.heap.size rfl)
 clear S8
 obtain ⟨g1, hg⟩ : ∃ g', g' = wa.heap.size := ⟨_, rfl⟩
 rw [← hg] at S9 ⊢
 clear hg
 generalize wa.alloc (.cells #[.string un, .string uf] 73) = w1 at S9 ⊢
 obtain ⟨f0, f1, f2, f3⟩ := Bag.cs4 S9.out 4 rfl
 obtain ⟨f4, f5, f6⟩ := Bag.cs3 S9.out 5 rfl
 obtain ⟨f7, f8⟩ := Bag.cs2 S9.out 7 rfl
 by_cases hk1 : uk = 1
 ·
  subst hk1
  clear f0 f1 f2 f3 f4 f5 f6 f7 f8
  have S10 := Lib.hid (show Sl.Sep W _ [Bag.bag ([row_Store (some ⟨g, 0, none⟩) ys.length ys]), _, _, _, _, L4.boxR (w.heap.size + 1) 37 #[.int .i64 1, .string un, .string uf], _, L4.boxR g1 73 #[.string un, .string uf]] from Bag.bag_of_one S9.out 0 (r := row_Store (some ⟨g, 0, none⟩) ys.length ys) (by unfold RowS.res row_Store; dsimp only; rw [HN.out]; rfl))
  clear S9
  have S11 := Lib.hid (show Sl.Sep W _ [_, _, Bag.bag ([row_IndexDef (some ⟨g2, 0, none⟩) us.length us]), _, _, _, _, _] from Bag.bag_of_one S10.out 2 (r := row_IndexDef (some ⟨g2, 0, none⟩) us.length us) (by unfold RowS.res row_IndexDef; dsimp only; rw [HM.out]; rfl))
  clear S10
  have S12 := Lib.hid (show Sl.Sep W _ [Bag.bag ([row_Store (some ⟨g, 0, none⟩) ys.length ys] ++ (rws_Store ys)), Bag.bag ([]), _, _, _, _, _, _] from Bag.bag_join S11.out 0 1 (by decide) rfl rfl)
  clear S11
  have S13 := Lib.hid (show Sl.Sep W _ [Bag.bag ([row_Store (some ⟨g, 0, none⟩) ys.length ys] ++ (rws_Store ys) ++ ([row_IndexDef (some ⟨g2, 0, none⟩) us.length us])), Bag.bag ([]), Bag.bag ([]), _, _, _, _, _] from Bag.bag_join S12.out 0 2 (by decide) rfl rfl)
  clear S12
  have S14 := Lib.hid (show Sl.Sep W _ [_, _, _, _, _, _] from Bag.take S13.out [0, 3, 4, 5, 6, 7] (by rfl) (by decide))
  clear S13
  have S15 := Lib.hid (show Sl.Sep W _ [Bag.bag (rw_Database (fullD name ver g ys g2 us)), _, _, _, _, _] from S14.out)
  clear S14
  have hEA := (createStore_sep name ver g ys g2 us un HFF.out HVV.out W w1 (Run.restL_start S15.out 0 rfl)).mono (fun e w' h => Ate.at_ S15.out 0 rfl h)
  rw [HVF.out] at hEA
  replace hEA := Lib.hid hEA
  obtain ⟨f0, f1, f2, f3⟩ := Bag.cs4 S15.out 2 rfl
  obtain ⟨f4, f5, f6⟩ := Bag.cs3 S15.out 3 rfl
  obtain ⟨f7, f8⟩ := Bag.cs2 S15.out 5 rfl
  go_wp2_with fail
  go_at_call 73
  refine hEA.out.mono ?_
  rintro e w9 ⟨y, gar, rfl, hcy, hsub, hS⟩
  clear f0 f1 f2 f3 f4 f5 f6 f7 f8
  have S16 := Lib.hid (show Sl.Sep W _ [Bag.bag (rw_Database y ++ gar), _, _, _, _, _] from hS)
  clear S15
  clear hS hEA
  have HCY := Lib.hid hcy
  have HSUB := Lib.hid hsub
  clear hcy hsub
  dsimp only [vv_Database]
  obtain ⟨f0, f1, f2, f3⟩ := Bag.cs4 S16.out 4 rfl
  obtain ⟨z0, z1, z2, z3⟩ := Bag.fs4 S16.out 4 rfl
  go_wp2_with fail
  clear f0 f1 f2 f3 z0 z1 z2 z3
  have S17 := Lib.hid (show Sl.Sep W _ [_, _, _, _, L4.boxR (w.heap.size + 1 + 1) 33 #[.string y.f_Name, .int .i64 y.f_Version, .slice y.f_Stores_a y.f_Stores.length y.f_Stores_c, .slice y.f_Unique_a y.f_Unique.length y.f_Unique_c], _] from L5.put_box5 (L5.put_box5 (L5.put_box5 (L5.put_box5 (S16.out) 4 rfl 0 (.string y.f_Name)) 4 rfl 1 (.int .i64 y.f_Version)) 4 rfl 2 (.slice y.f_Stores_a y.f_Stores.length y.f_Stores_c)) 4 rfl 3 (.slice y.f_Unique_a y.f_Unique.length y.f_Unique_c))
  clear S16
  obtain ⟨f0, f1, f2, f3⟩ := Bag.cs4 S17.out 4 rfl
  refine bodyPost_ret (v := .tuple #[.agg #[.string y.f_Name, .int .i64 y.f_Version, .slice y.f_Stores_a y.f_Stores.length y.f_Stores_c, .slice y.f_Unique_a y.f_Unique.length y.f_Unique_c], .bool true]) (by simp [results, Tryz.results39, go_sem, *]) rfl ?_
  clear f0 f1 f2 f3
  have S18 := Lib.hid (show Sl.Sep W _ [_, _] from Bag.take S17.out [0, 1] (by rfl) (by decide))
  clear S17
  obtain ⟨e1, e2⟩ := ch_one (d := co_Database (fullD name ver g ys g2 us)) (u := ⟨1, un, uf⟩) rfl
  rw [HQ.out, e1, e2]
  exact ⟨y, gar, rfl, HCY.out, HSUB.out, by rw [← HFPS.out]; exact S18.out⟩
 have hb1 : (uk == 1) = false := by simpa using hk1
 by_cases hk2 : uk = 2
 ·
  subst hk2
  clear f0 f1 f2 f3 f4 f5 f6 f7 f8
  have S10 := Lib.hid (show Sl.Sep W _ [Bag.bag ([row_Store (some ⟨g, 0, none⟩) ys.length ys]), _, _, _, _, L4.boxR (w.heap.size + 1) 37 #[.int .i64 2, .string un, .string uf], _, L4.boxR g1 73 #[.string un, .string uf]] from Bag.bag_of_one S9.out 0 (r := row_Store (some ⟨g, 0, none⟩) ys.length ys) (by unfold RowS.res row_Store; dsimp only; rw [HN.out]; rfl))
  clear S9
  have S11 := Lib.hid (show Sl.Sep W _ [_, _, Bag.bag ([row_IndexDef (some ⟨g2, 0, none⟩) us.length us]), _, _, _, _, _] from Bag.bag_of_one S10.out 2 (r := row_IndexDef (some ⟨g2, 0, none⟩) us.length us) (by unfold RowS.res row_IndexDef; dsimp only; rw [HM.out]; rfl))
  clear S10
  have S12 := Lib.hid (show Sl.Sep W _ [Bag.bag ([row_Store (some ⟨g, 0, none⟩) ys.length ys] ++ (rws_Store ys)), Bag.bag ([]), _, _, _, _, _, _] from Bag.bag_join S11.out 0 1 (by decide) rfl rfl)
  clear S11
  have S13 := Lib.hid (show Sl.Sep W _ [Bag.bag ([row_Store (some ⟨g, 0, none⟩) ys.length ys] ++ (rws_Store ys) ++ ([row_IndexDef (some ⟨g2, 0, none⟩) us.length us])), Bag.bag ([]), Bag.bag ([]), _, _, _, _, _] from Bag.bag_join S12.out 0 2 (by decide) rfl rfl)
  clear S12
  have S14 := Lib.hid (show Sl.Sep W _ [_, _, _, _, _, _] from Bag.take S13.out [0, 3, 4, 5, 6, 7] (by rfl) (by decide))
  clear S13
  have S15 := Lib.hid (show Sl.Sep W _ [Bag.bag (rw_Database (fullD name ver g ys g2 us)), _, _, _, _, _] from S14.out)
  clear S14
  have hEA := (dropStore_sep name ver g ys g2 us un HFF.out W w1 (Run.restL_start S15.out 0 rfl)).mono (fun e w' h => Ate.at_ S15.out 0 rfl h)
  rw [HVF.out] at hEA
  replace hEA := Lib.hid hEA
  obtain ⟨f0, f1, f2, f3⟩ := Bag.cs4 S15.out 2 rfl
  obtain ⟨f4, f5, f6⟩ := Bag.cs3 S15.out 3 rfl
  obtain ⟨f7, f8⟩ := Bag.cs2 S15.out 5 rfl
  go_wp2_with fail
  go_at_call 74
  refine hEA.out.mono ?_
  rintro e w9 ⟨y, gar, rfl, hcy, hsub, hS⟩
  clear f0 f1 f2 f3 f4 f5 f6 f7 f8
  have S16 := Lib.hid (show Sl.Sep W _ [Bag.bag (rw_Database y ++ gar), _, _, _, _, _] from hS)
  clear S15
  clear hS hEA
  have HCY := Lib.hid hcy
  have HSUB := Lib.hid hsub
  clear hcy hsub
  dsimp only [vv_Database]
  obtain ⟨f0, f1, f2, f3⟩ := Bag.cs4 S16.out 4 rfl
  obtain ⟨z0, z1, z2, z3⟩ := Bag.fs4 S16.out 4 rfl
  go_wp2_with fail
  clear f0 f1 f2 f3 z0 z1 z2 z3
  have S17 := Lib.hid (show Sl.Sep W _ [_, _, _, _, L4.boxR (w.heap.size + 1 + 1) 33 #[.string y.f_Name, .int .i64 y.f_Version, .slice y.f_Stores_a y.f_Stores.length y.f_Stores_c, .slice y.f_Unique_a y.f_Unique.length y.f_Unique_c], _] from L5.put_box5 (L5.put_box5 (L5.put_box5 (L5.put_box5 (S16.out) 4 rfl 0 (.string y.f_Name)) 4 rfl 1 (.int .i64 y.f_Version)) 4 rfl 2 (.slice y.f_Stores_a y.f_Stores.length y.f_Stores_c)) 4 rfl 3 (.slice y.f_Unique_a y.f_Unique.length y.f_Unique_c))
  clear S16
  obtain ⟨f0, f1, f2, f3⟩ := Bag.cs4 S17.out 4 rfl
  refine bodyPost_ret (v := .tuple #[.agg #[.string y.f_Name, .int .i64 y.f_Version, .slice y.f_Stores_a y.f_Stores.length y.f_Stores_c, .slice y.f_Unique_a y.f_Unique.length y.f_Unique_c], .bool (drpB (co_Database (fullD name ver g ys g2 us)) un)]) (by simp [results, Tryz.results39, go_sem, *]) rfl ?_
  clear f0 f1 f2 f3
  have S18 := Lib.hid (show Sl.Sep W _ [_, _] from Bag.take S17.out [0, 1] (by rfl) (by decide))
  clear S17
  obtain ⟨e1, e2⟩ := ch_two (d := co_Database (fullD name ver g ys g2 us)) (u := ⟨2, un, uf⟩) rfl
  rw [HQ.out, e1, e2]
  exact ⟨y, gar, rfl, HCY.out, HSUB.out, by rw [← HFPS.out]; exact S18.out⟩
 have hb2 : (uk == 2) = false := by simpa using hk2
 by_cases hk3 : uk = 3
 ·
  subst hk3
  obtain ⟨z0, z1, z2, z3⟩ := Bag.fs4 S9.out 4 rfl
  go_upto_region 8 with fail
  have S10 := Lib.hid (show Sl.Sep W _ [_, _, _, _, _, L4.boxR (w.heap.size + 1) 37 #[.int .i64 3, .string un, .string uf], _, L4.boxR g1 73 #[.string un, .string uf], Sv.ownV 73 2 (some ⟨w1.heap.size, 0, none⟩) 1 1 ([(⟨un, uf⟩ : X_IndexDef)].flatMap cl_IndexDef)] from Sv.push_own S9.out ((Below.refl _ _).alloc (Nat.le_refl _) _) (OwnV.madeAt w1 73 2 1 w1.heap.size #[.string un, .string uf] rfl (Nat.le_refl _) rfl (by decide)))
  clear S9
  have HUL := Lib.hid (show (us.flatMap cl_IndexDef).length = M * 2 by rw [flat_len cl_IndexDef_len, HM.out])
  go_upto_region 9 with (at_builtin; refine Run.wpList_grow_s S10.out rfl _ _ 31 rfl 73 iX (.agg #[.string ⟨#[]⟩, .string ⟨#[]⟩]) 2 32 Tryz.underlying31 HIX.out.1 HIX.out.2.1 HIX.out.2.2.1 HIX.out.2.2.2 rfl ⟨g2, 0, none⟩ M M (by rfl) _ (us.flatMap cl_IndexDef) (Sv.own_at S10.out 2 rfl).reads HUL.out ⟨w1.heap.size, 0, none⟩ 1 1 (by rfl) _ ([(⟨un, uf⟩ : X_IndexDef)].flatMap cl_IndexDef) (Sv.own_at S10.out 8 rfl).reads (by rw [flat_len cl_IndexDef_len]; rfl) (one_flat cl_IndexDef_one _) (by omega) (by unfold maxLen; omega) (by omega) ?_; intro w6 C hC S'; have y3 := Bag.cell_at S' 4 rfl 3 rfl; have x3 := Bag.free_at S' 4 rfl 3)
  clear f0 f1 f2 f3 f4 f5 f6 f7 f8 z0 z1 z2 z3
  clear y3 x3
  obtain ⟨g7, hg7⟩ : ∃ g', g' = w1.heap.size + 1 := ⟨_, rfl⟩
  rw [show (World.alloc w1 (.cells #[.string un, .string uf] 73)).heap.size = g7 from by rw [hg7]; simp] at S'
  rw [← hg7]
  clear hg7 hC
  have S11 := Lib.hid (show Sl.Sep W _ [Sv.ownV 70 3 (some ⟨g, 0, none⟩) N N (ys.flatMap cl_Store), Bag.bag (rws_Store ys), Sv.ownV 73 2 (some ⟨g2, 0, none⟩) M M (us.flatMap cl_IndexDef), Run.restL W w fps, L4.boxR w.heap.size 33 #[.string name, .int .i64 ver, .slice (some ⟨g, 0, none⟩) N N, .slice (some ⟨g2, 0, none⟩) M M], L4.boxR (w.heap.size + 1) 37 #[.int .i64 3, .string un, .string uf], L4.boxR (w.heap.size + 1 + 1) 33 #[.string ⟨#[]⟩, .int .i64 0, .slice none 0 0, .slice none 0 0], L4.boxR g1 73 #[.string un, .string uf], Sv.ownV 73 2 (some ⟨w1.heap.size, 0, none⟩) 1 1 ([(⟨un, uf⟩ : X_IndexDef)].flatMap cl_IndexDef), Sv.ownV 73 2 (some ⟨g7, 0, none⟩) C (M + 1) (us.flatMap cl_IndexDef ++ [(⟨un, uf⟩ : X_IndexDef)].flatMap cl_IndexDef)] from S')
  clear S10
  clear S'
  have S12 := Lib.hid (show Sl.Sep W _ [_, _, _, _, L4.boxR w.heap.size 33 #[.string name, .int .i64 ver, .slice (some ⟨g, 0, none⟩) N N, .slice (some ⟨g7, 0, none⟩) (M + 1) C], _, _, _, _, _] from L5.put_box5 (S11.out) 4 rfl 3 (.slice (some ⟨g7, 0, none⟩) (M + 1) C))
  clear S11
  obtain ⟨f0, f1, f2, f3⟩ := Bag.cs4 S12.out 4 rfl
  obtain ⟨f4, f5, f6, f7⟩ := Bag.cs4 S12.out 6 rfl
  obtain ⟨z0, z1, z2, z3⟩ := Bag.fs4 S12.out 6 rfl
  go_wp2_with fail
  clear f0 f1 f2 f3 f4 f5 f6 f7 z0 z1 z2 z3
  have S13 := Lib.hid (show Sl.Sep W _ [_, _, _, _, _, _, L4.boxR (w.heap.size + 1 + 1) 33 #[.string name, .int .i64 ver, .slice (some ⟨g, 0, none⟩) N N, .slice (some ⟨g7, 0, none⟩) (M + 1) C], _, _, _] from L5.put_box5 (L5.put_box5 (L5.put_box5 (L5.put_box5 (S12.out) 6 rfl 0 (.string name)) 6 rfl 1 (.int .i64 ver)) 6 rfl 2 (.slice (some ⟨g, 0, none⟩) N N)) 6 rfl 3 (.slice (some ⟨g7, 0, none⟩) (M + 1) C))
  clear S12
  obtain ⟨f0, f1, f2, f3⟩ := Bag.cs4 S13.out 6 rfl
  refine bodyPost_ret (v := .tuple #[.agg #[.string name, .int .i64 ver, .slice (some ⟨g, 0, none⟩) N N, .slice (some ⟨g7, 0, none⟩) (M + 1) C], .bool true]) (by simp [results, Tryz.results39, go_sem, *]) rfl ?_
  clear f0 f1 f2 f3
  have hl3 : (us ++ [(⟨un, uf⟩ : X_IndexDef)]).length = M + 1 := by rw [List.length_append, HM.out]; rfl
  have S14 := Lib.hid (show Sl.Sep W _ [_, _, _, _, _] from Bag.take S13.out [0, 1, 9, 3, 2] (by rfl) (by decide))
  clear S13
  have S15 := Lib.hid (show Sl.Sep W _ [Bag.bag ([row_Store (some ⟨g, 0, none⟩) ys.length ys]), _, _, _, _] from Bag.bag_of_one S14.out 0 (r := row_Store (some ⟨g, 0, none⟩) ys.length ys) (by unfold RowS.res row_Store; dsimp only; rw [HN.out]; rfl))
  clear S14
  have S16 := Lib.hid (show Sl.Sep W _ [_, _, Bag.bag ([row_IndexDef (some ⟨g7, 0, none⟩) C (us ++ [(⟨un, uf⟩ : X_IndexDef)])]), _, _] from Bag.bag_of_one S15.out 2 (r := row_IndexDef (some ⟨g7, 0, none⟩) C (us ++ [(⟨un, uf⟩ : X_IndexDef)])) (by unfold RowS.res row_IndexDef; dsimp only; rw [hl3, List.flatMap_append]; rfl))
  clear S15
  have S17 := Lib.hid (show Sl.Sep W _ [_, _, _, _, Bag.bag ([row_IndexDef (some ⟨g2, 0, none⟩) us.length us])] from Bag.bag_of_one S16.out 4 (r := row_IndexDef (some ⟨g2, 0, none⟩) us.length us) (by unfold RowS.res row_IndexDef; dsimp only; rw [HM.out]; rfl))
  clear S16
  have S18 := Lib.hid (show Sl.Sep W _ [Bag.bag ([row_Store (some ⟨g, 0, none⟩) ys.length ys] ++ (rws_Store ys)), Bag.bag ([]), _, _, _] from Bag.bag_join S17.out 0 1 (by decide) rfl rfl)
  clear S17
  have S19 := Lib.hid (show Sl.Sep W _ [Bag.bag ([row_Store (some ⟨g, 0, none⟩) ys.length ys] ++ (rws_Store ys) ++ ([row_IndexDef (some ⟨g7, 0, none⟩) C (us ++ [(⟨un, uf⟩ : X_IndexDef)])])), Bag.bag ([]), Bag.bag ([]), _, _] from Bag.bag_join S18.out 0 2 (by decide) rfl rfl)
  clear S18
  have S20 := Lib.hid (show Sl.Sep W _ [Bag.bag ([row_Store (some ⟨g, 0, none⟩) ys.length ys] ++ (rws_Store ys) ++ ([row_IndexDef (some ⟨g7, 0, none⟩) C (us ++ [(⟨un, uf⟩ : X_IndexDef)])]) ++ ([row_IndexDef (some ⟨g2, 0, none⟩) us.length us])), Bag.bag ([]), Bag.bag ([]), _, Bag.bag ([])] from Bag.bag_join S19.out 0 4 (by decide) rfl rfl)
  clear S19
  have S21 := Lib.hid (show Sl.Sep W _ [_, _] from Bag.take S20.out [0, 3] (by rfl) (by decide))
  clear S20
  obtain ⟨e1, e2⟩ := ch_three (d := co_Database (fullD name ver g ys g2 us)) (u := ⟨3, un, uf⟩) rfl
  rw [HQ.out, e1, e2]
  refine ⟨(⟨name, ver, some ⟨g, 0, none⟩, ys.length, ys, some ⟨g7, 0, none⟩, C, (us ++ [(⟨un, uf⟩ : X_IndexDef)])⟩ : Y_Database), [row_IndexDef (some ⟨g2, 0, none⟩) us.length us], ?_, ?_, ?_, ?_⟩
  ·
   dsimp only; unfold vv_Database; dsimp only; rw [hl3, HN.out]
  ·
   rfl
  ·
   refine Eat.sub_of fun r hr => ⟨r, ?_, rfl⟩
   have hr' : r ∈ (([row_Store (some ⟨g, 0, none⟩) ys.length ys] ++ rws_Store ys) ++ [row_IndexDef (some ⟨g2, 0, none⟩) us.length us]) := hr
   show r ∈ (([row_Store (some ⟨g, 0, none⟩) ys.length ys] ++ rws_Store ys) ++ [row_IndexDef (some ⟨g7, 0, none⟩) C (us ++ [(⟨un, uf⟩ : X_IndexDef)])]) ++ [row_IndexDef (some ⟨g2, 0, none⟩) us.length us]
   simp only [List.mem_append] at hr' ⊢
   rcases hr' with (h | h) | h
   ·
    exact .inl (.inl (.inl h))
   ·
    exact .inl (.inl (.inr h))
   ·
    exact .inr h
  ·
   rw [← HFPS.out]; exact S21.out
 have hb3 : (uk == 3) = false := by simpa using hk3
 by_cases hk4 : uk = 4
 ·
  subst hk4
  clear f0 f1 f2 f3 f4 f5 f6 f7 f8
  have S10 := Lib.hid (show Sl.Sep W _ [Bag.bag ([row_Store (some ⟨g, 0, none⟩) ys.length ys]), _, _, _, _, L4.boxR (w.heap.size + 1) 37 #[.int .i64 4, .string un, .string uf], _, L4.boxR g1 73 #[.string un, .string uf]] from Bag.bag_of_one S9.out 0 (r := row_Store (some ⟨g, 0, none⟩) ys.length ys) (by unfold RowS.res row_Store; dsimp only; rw [HN.out]; rfl))
  clear S9
  have S11 := Lib.hid (show Sl.Sep W _ [_, _, Bag.bag ([row_IndexDef (some ⟨g2, 0, none⟩) us.length us]), _, _, _, _, _] from Bag.bag_of_one S10.out 2 (r := row_IndexDef (some ⟨g2, 0, none⟩) us.length us) (by unfold RowS.res row_IndexDef; dsimp only; rw [HM.out]; rfl))
  clear S10
  have S12 := Lib.hid (show Sl.Sep W _ [Bag.bag ([row_Store (some ⟨g, 0, none⟩) ys.length ys] ++ (rws_Store ys)), Bag.bag ([]), _, _, _, _, _, _] from Bag.bag_join S11.out 0 1 (by decide) rfl rfl)
  clear S11
  have S13 := Lib.hid (show Sl.Sep W _ [Bag.bag ([row_Store (some ⟨g, 0, none⟩) ys.length ys] ++ (rws_Store ys) ++ ([row_IndexDef (some ⟨g2, 0, none⟩) us.length us])), Bag.bag ([]), Bag.bag ([]), _, _, _, _, _] from Bag.bag_join S12.out 0 2 (by decide) rfl rfl)
  clear S12
  have S14 := Lib.hid (show Sl.Sep W _ [_, _, _, _, _, _] from Bag.take S13.out [0, 3, 4, 5, 6, 7] (by rfl) (by decide))
  clear S13
  have S15 := Lib.hid (show Sl.Sep W _ [Bag.bag (rw_Database (fullD name ver g ys g2 us)), _, _, _, _, _] from S14.out)
  clear S14
  have hEA := (dropIndex_sep name ver g ys g2 us ⟨un, uf⟩ HFF.out W w1 (Run.restL_start S15.out 0 rfl)).mono (fun e w' h => Ate.at_ S15.out 0 rfl h)
  rw [HVF.out] at hEA
  unfold vv_IndexDef at hEA
  replace hEA := Lib.hid hEA
  obtain ⟨f0, f1, f2, f3⟩ := Bag.cs4 S15.out 2 rfl
  obtain ⟨f4, f5, f6⟩ := Bag.cs3 S15.out 3 rfl
  obtain ⟨f7, f8⟩ := Bag.cs2 S15.out 5 rfl
  go_wp2_with fail
  go_at_call 75
  refine hEA.out.mono ?_
  rintro e w9 ⟨y, gar, rfl, hcy, hsub, hS⟩
  clear f0 f1 f2 f3 f4 f5 f6 f7 f8
  have S16 := Lib.hid (show Sl.Sep W _ [Bag.bag (rw_Database y ++ gar), _, _, _, _, _] from hS)
  clear S15
  clear hS hEA
  have HCY := Lib.hid hcy
  have HSUB := Lib.hid hsub
  clear hcy hsub
  dsimp only [vv_Database]
  obtain ⟨f0, f1, f2, f3⟩ := Bag.cs4 S16.out 4 rfl
  obtain ⟨z0, z1, z2, z3⟩ := Bag.fs4 S16.out 4 rfl
  go_wp2_with fail
  clear f0 f1 f2 f3 z0 z1 z2 z3
  have S17 := Lib.hid (show Sl.Sep W _ [_, _, _, _, L4.boxR (w.heap.size + 1 + 1) 33 #[.string y.f_Name, .int .i64 y.f_Version, .slice y.f_Stores_a y.f_Stores.length y.f_Stores_c, .slice y.f_Unique_a y.f_Unique.length y.f_Unique_c], _] from L5.put_box5 (L5.put_box5 (L5.put_box5 (L5.put_box5 (S16.out) 4 rfl 0 (.string y.f_Name)) 4 rfl 1 (.int .i64 y.f_Version)) 4 rfl 2 (.slice y.f_Stores_a y.f_Stores.length y.f_Stores_c)) 4 rfl 3 (.slice y.f_Unique_a y.f_Unique.length y.f_Unique_c))
  clear S16
  obtain ⟨f0, f1, f2, f3⟩ := Bag.cs4 S17.out 4 rfl
  refine bodyPost_ret (v := .tuple #[.agg #[.string y.f_Name, .int .i64 y.f_Version, .slice y.f_Stores_a y.f_Stores.length y.f_Stores_c, .slice y.f_Unique_a y.f_Unique.length y.f_Unique_c], .bool (dixB (co_Database (fullD name ver g ys g2 us)) ⟨un, uf⟩)]) (by simp [results, Tryz.results39, go_sem, *]) rfl ?_
  clear f0 f1 f2 f3
  have S18 := Lib.hid (show Sl.Sep W _ [_, _] from Bag.take S17.out [0, 1] (by rfl) (by decide))
  clear S17
  obtain ⟨e1, e2⟩ := ch_four (d := co_Database (fullD name ver g ys g2 us)) (u := ⟨4, un, uf⟩) rfl
  rw [HQ.out, e1, e2]
  exact ⟨y, gar, rfl, HCY.out, HSUB.out, by rw [← HFPS.out]; exact S18.out⟩
 have hb4 : (uk == 4) = false := by simpa using hk4
 have HKK := Lib.hid (And.intro hk1 (And.intro hk2 (And.intro hk3 hk4)))
 clear hk1 hk2 hk3 hk4
 clear f0 f1 f2 f3 f4 f5 f6 f7 f8
 obtain ⟨f0, f1, f2, f3⟩ := Bag.cs4 S9.out 4 rfl
 obtain ⟨f4, f5, f6⟩ := Bag.cs3 S9.out 5 rfl
 obtain ⟨f7, f8, f9, f10⟩ := Bag.cs4 S9.out 6 rfl
 obtain ⟨f11, f12⟩ := Bag.cs2 S9.out 7 rfl
 obtain ⟨z0, z1, z2, z3⟩ := Bag.fs4 S9.out 6 rfl
 go_wp2_with fail
 clear f0 f1 f2 f3 f4 f5 f6 f7 f8 f9 f10 f11 f12 z0 z1 z2 z3
 have S10 := Lib.hid (show Sl.Sep W _ [_, _, _, _, _, _, L4.boxR (w.heap.size + 1 + 1) 33 #[.string name, .int .i64 ver, .slice (some ⟨g, 0, none⟩) N N, .slice (some ⟨g2, 0, none⟩) M M], L4.boxR g1 73 #[.string un, .string uf]] from L5.put_box5 (L5.put_box5 (L5.put_box5 (L5.put_box5 (S9.out) 6 rfl 0 (.string name)) 6 rfl 1 (.int .i64 ver)) 6 rfl 2 (.slice (some ⟨g, 0, none⟩) N N)) 6 rfl 3 (.slice (some ⟨g2, 0, none⟩) M M))
 clear S9
 obtain ⟨f0, f1, f2, f3⟩ := Bag.cs4 S10.out 6 rfl
 refine bodyPost_ret (v := .tuple #[.agg #[.string name, .int .i64 ver, .slice (some ⟨g, 0, none⟩) N N, .slice (some ⟨g2, 0, none⟩) M M], .bool false]) (by simp [results, Tryz.results39, go_sem, *]) rfl ?_
 clear f0 f1 f2 f3
 have S11 := Lib.hid (show Sl.Sep W _ [Bag.bag ([row_Store (some ⟨g, 0, none⟩) ys.length ys]), _, _, _, _, _, _, _] from Bag.bag_of_one S10.out 0 (r := row_Store (some ⟨g, 0, none⟩) ys.length ys) (by unfold RowS.res row_Store; dsimp only; rw [HN.out]; rfl))
 clear S10
 have S12 := Lib.hid (show Sl.Sep W _ [_, _, Bag.bag ([row_IndexDef (some ⟨g2, 0, none⟩) us.length us]), _, _, _, _, _] from Bag.bag_of_one S11.out 2 (r := row_IndexDef (some ⟨g2, 0, none⟩) us.length us) (by unfold RowS.res row_IndexDef; dsimp only; rw [HM.out]; rfl))
 clear S11
 have S13 := Lib.hid (show Sl.Sep W _ [Bag.bag ([row_Store (some ⟨g, 0, none⟩) ys.length ys] ++ (rws_Store ys)), Bag.bag ([]), _, _, _, _, _, _] from Bag.bag_join S12.out 0 1 (by decide) rfl rfl)
 clear S12
 have S14 := Lib.hid (show Sl.Sep W _ [Bag.bag ([row_Store (some ⟨g, 0, none⟩) ys.length ys] ++ (rws_Store ys) ++ ([row_IndexDef (some ⟨g2, 0, none⟩) us.length us])), Bag.bag ([]), Bag.bag ([]), _, _, _, _, _] from Bag.bag_join S13.out 0 2 (by decide) rfl rfl)
 clear S13
 have S15 := Lib.hid (show Sl.Sep W _ [_, _] from Bag.take S14.out [0, 3] (by rfl) (by decide))
 clear S14
 obtain ⟨e1, e2⟩ := ch_other (d := co_Database (fullD name ver g ys g2 us)) (u := (⟨uk, un, uf⟩ : X_Upgrade)) HKK.out.1 HKK.out.2.1 HKK.out.2.2.1 HKK.out.2.2.2
 rw [HQ.out, e1, e2]
 refine ⟨(fullD name ver g ys g2 us), [], ?_, rfl, ?_, ?_⟩
 ·
  dsimp only; unfold vv_Database fullD; dsimp only; rw [HN.out, HM.out]
 ·
  rw [List.append_nil]; exact fun b hb => hb
 ·
  rw [← HFPS.out, List.append_nil]; exact S15.out
end Go.Proofs.YthljdhfgphebnaaGreat.L8

set_option linter.unusedSimpArgs false
namespace Go.Proofs.YthljdhfgphebnaaGreat.L8
open V L6 L7
open L4 (K isK cmpK)
open L5 (F isR isN string_geq)
open Go.Op (bytesLess)
open Go.ChangeShapes Go.WideShapes Go.ChangeAt Go.RowKit Mem Sl Ex L2 Sv Bag

theorem up_ch {d : X_Database} (u : X_Upgrade) (hd : isD d = true) : upB d u = (chB d u && isD (chD d u)) ∧ upD d u = if chB d u && isD (chD d u) then chD d u else d := by
 have h := up_chg u hd
 unfold chB chD
 cases hc : chgD d u with
 | none => rw [hc] at h; injection h with h1 h2; rw [h1, h2]; exact ⟨rfl, rfl⟩
 | some o =>
  rw [hc] at h
  simp only [Option.isSome_some, Option.getD_some, Bool.true_and]
  cases ho : isD o with
  | true => simp only [ho, ↓reduceIte, Prod.mk.injEq] at h; rw [h.1, h.2]; exact ⟨rfl, rfl⟩
  | false => simp only [ho, Bool.false_eq_true, ↓reduceIte, Prod.mk.injEq] at h; rw [h.1, h.2]; exact ⟨rfl, rfl⟩
theorem FitD.ch {d : X_Database} {u : X_Upgrade} (hf : FitD d) (hd : isD d = true) (hn : u.f_Store.size ≤ 281474976710656) (hx : u.f_Field.size ≤ 281474976710656) : FitD (chD d u) := by
 obtain ⟨_, _, _, _, h5, h6⟩ := isD_parts hd
 by_cases k1 : u.f_Kind = 1
 ·
  rw [(ch_one k1).2]
  refine ⟨hf.name, by show (insS d.f_Stores u.f_Store).length ≤ _; rw [ins_len]; omega, fun s hs => ?_, hf.many, hf.unique⟩
  rcases List.mem_append.1 (show s ∈ d.f_Stores.take (posS d.f_Stores u.f_Store) ++ zS u.f_Store :: d.f_Stores.drop (posS d.f_Stores u.f_Store) from hs) with h1 | h1
  ·
   exact hf.stores s (List.mem_of_mem_take h1)
  ·
   rcases List.mem_cons.1 h1 with rfl | h1
   ·
    exact FitS.empty hn
   ·
    exact hf.stores s (List.mem_of_mem_drop h1)
 by_cases k2 : u.f_Kind = 2
 ·
  rw [(ch_two k2).2]
  unfold drpD
  cases fndS d.f_Stores u.f_Store with
  | none => exact hf
  | some i =>
   have hl := List.length_eraseIdx_le d.f_Stores i
   have hm := List.length_filter_le (fun v : X_IndexDef => !(v.f_Store.toList == u.f_Store.toList)) d.f_Unique
   exact ⟨hf.name, by show (d.f_Stores.eraseIdx i).length ≤ _; omega, fun s hs => hf.stores s (List.mem_of_mem_eraseIdx hs), by show (d.f_Unique.filter _).length ≤ _; omega, fun v hv => hf.unique v (List.mem_filter.1 hv).1⟩
 by_cases k3 : u.f_Kind = 3
 ·
  rw [(ch_three k3).2]
  refine ⟨hf.name, hf.len, hf.stores, by show (d.f_Unique ++ [ixOf u]).length ≤ _; rw [List.length_append]; simp; omega, fun v hv => ?_⟩
  rcases List.mem_append.1 (show v ∈ d.f_Unique ++ [ixOf u] from hv) with h1 | h1
  ·
   exact hf.unique v h1
  ·
   rw [List.mem_singleton] at h1; subst h1; exact ⟨hn, hx⟩
 by_cases k4 : u.f_Kind = 4
 ·
  rw [(ch_four k4).2]
  unfold dixD
  cases fndX d.f_Unique (ixOf u) with
  | none => exact hf
  | some i =>
   have hl := List.length_eraseIdx_le d.f_Unique i
   exact ⟨hf.name, hf.len, hf.stores, by show (d.f_Unique.eraseIdx i).length ≤ _; omega, fun v hv => hf.unique v (List.mem_of_mem_eraseIdx hv)⟩
 ·
  rw [(ch_other k1 k2 k3 k4).2]; exact hf

set_option maxHeartbeats 8000000 in
theorem applyUpgrade_flat (z : Y_Database) (uk : Int) (un uf : ByteArray) (hf : FitD (co_Database z)) (hn : un.size ≤ 281474976710656) (hx : uf.size ≤ 281474976710656) (w : World) (hr : RowsRd w w.heap.size (rw_Database z)) :
  Calls Tryz.prog 11 #[vv_Database z, vv_Upgrade (⟨uk, un, uf⟩ : X_Upgrade)] w (GaveDB w (upD (co_Database z) (⟨uk, un, uf⟩ : X_Upgrade)) (upB (co_Database z) (⟨uk, un, uf⟩ : X_Upgrade))) := by
 have HIS := fun w' (h : Below w.heap.size w w') => isDatabase_any z hf w' ((hr.below h).more h.size)
 have HCP := fun w' (h : Below w.heap.size w w') => copyDatabase_full z hf w' ((hr.below h).more h.size)
 obtain ⟨D, hD⟩ : ∃ D, co_Database z = D := ⟨_, rfl⟩
 rw [hD] at HIS HCP hf ⊢
 have HFD := Lib.hid hf
 have HD := Lib.hid (show D.f_Name = z.f_Name ∧ D.f_Version = z.f_Version ∧ D.f_Unique.length = z.f_Unique.length from by rw [← hD]; exact ⟨rfl, rfl, rfl⟩)
 clear hD hf hr
 obtain ⟨B, hB⟩ : ∃ B, isD D = B := ⟨_, rfl⟩
 rw [hB] at HIS
 have HB := Lib.hid hB
 clear hB
 unfold vv_Database at HIS HCP ⊢
 obtain ⟨N, hN⟩ : ∃ N, N = z.f_Stores.length := ⟨_, rfl⟩
 obtain ⟨M, hM⟩ : ∃ M, M = z.f_Unique.length := ⟨_, rfl⟩
 rw [← hN, ← hM] at HIS HCP ⊢
 have HM := Lib.hid hM
 clear hN hM
 replace HIS := Lib.hid HIS
 replace HCP := Lib.hid HCP
 have HUN := Lib.hid (And.intro hn hx)
 clear hn hx
 unfold vv_Upgrade
 dsimp only at HUN ⊢
 have S1 := Lib.hid (show Sl.Sep w _ [_, _, _] from L4.push_box (L4.push_box (L4.push_box (Sl.Sep.start w) 33 #[.string z.f_Name, .int .i64 z.f_Version, .slice z.f_Stores_a N z.f_Stores_c, .slice z.f_Unique_a M z.f_Unique_c] (w.heap.size) (by simp)) 37 #[.int .i64 uk, .string un, .string uf] (w.heap.size + 1) (by simp)) 33 #[.string ⟨#[]⟩, .int .i64 0, .slice none 0 0, .slice none 0 0] (w.heap.size + 1 + 1) (by simp))
 obtain ⟨wa, hwa⟩ : ∃ w_, w_ = (((w.alloc (.cells #[.string z.f_Name, .int .i64 z.f_Version, .slice z.f_Stores_a N z.f_Stores_c, .slice z.f_Unique_a M z.f_Unique_c] 33)).alloc (.cells #[.int .i64 uk, .string un, .string uf] 37)).alloc (.cells #[.string ⟨#[]⟩, .int .i64 0, .slice none 0 0, .slice none 0 0] 33)) := ⟨_, rfl⟩
 rw [← hwa] at S1
 go_enter Tryz.func11, Tryz.ntmps11
 go_upto_region 1 with fail
 rw [← hwa]
 clear hwa
 obtain ⟨f0, f1, f2, f3⟩ := Bag.cs4 S1.out 0 rfl
 obtain ⟨f4, f5, f6⟩ := Bag.cs3 S1.out 1 rfl
 go_wp2_with fail
 go_at_call 37
 refine (HIS.out _ S1.out.old).mono ?_
 rintro e w1 ⟨rfl, hb⟩
 clear f0 f1 f2 f3 f4 f5 f6
 have S2 := Lib.hid (S1.out.keep hb)
 clear S1
 clear hb
 obtain ⟨f0, f1, f2, f3⟩ := Bag.cs4 S2.out 0 rfl
 obtain ⟨f4, f5, f6⟩ := Bag.cs3 S2.out 1 rfl
 cases B with
 | false =>
  go_wp2_with fail
  go_at_call 38
  refine (HCP.out _ S2.out.old).mono ?_
  rintro e w2 ⟨cg9, cu9, cy9, rfl, hcy, ho, hb⟩
  clear f0 f1 f2 f3 f4 f5 f6
  have S3 := Lib.hid (show Sl.Sep w _ [L4.boxR w.heap.size 33 #[.string z.f_Name, .int .i64 z.f_Version, .slice z.f_Stores_a N z.f_Stores_c, .slice z.f_Unique_a M z.f_Unique_c], L4.boxR (w.heap.size + 1) 37 #[.int .i64 uk, .string un, .string uf], L4.boxR (w.heap.size + 1 + 1) 33 #[.string ⟨#[]⟩, .int .i64 0, .slice none 0 0, .slice none 0 0], Bag.bag ((row_Store (some ⟨cg9, 0, none⟩) cy9.length cy9 :: rws_Store cy9) ++ [row_IndexDef (some ⟨cu9, 0, none⟩) D.f_Unique.length D.f_Unique])] from Bag.push_bag S2.out hb ho)
  clear S2
  clear hb ho
  have HCY9 := Lib.hid hcy
  clear hcy
  obtain ⟨f0, f1, f2, f3⟩ := Bag.cs4 S3.out 2 rfl
  obtain ⟨z0, z1, z2, z3⟩ := Bag.fs4 S3.out 2 rfl
  go_wp2_with fail
  clear f0 f1 f2 f3 z0 z1 z2 z3
  have S4 := Lib.hid (show Sl.Sep w _ [_, _, L4.boxR (w.heap.size + 1 + 1) 33 #[.string D.f_Name, .int .i64 D.f_Version, .slice (some ⟨cg9, 0, none⟩) cy9.length cy9.length, .slice (some ⟨cu9, 0, none⟩) D.f_Unique.length D.f_Unique.length], _] from L5.put_box5 (L5.put_box5 (L5.put_box5 (L5.put_box5 (S3.out) 2 rfl 0 (.string D.f_Name)) 2 rfl 1 (.int .i64 D.f_Version)) 2 rfl 2 (.slice (some ⟨cg9, 0, none⟩) cy9.length cy9.length)) 2 rfl 3 (.slice (some ⟨cu9, 0, none⟩) D.f_Unique.length D.f_Unique.length))
  clear S3
  obtain ⟨f0, f1, f2, f3⟩ := Bag.cs4 S4.out 2 rfl
  refine bodyPost_ret (v := .tuple #[.agg #[.string D.f_Name, .int .i64 D.f_Version, .slice (some ⟨cg9, 0, none⟩) cy9.length cy9.length, .slice (some ⟨cu9, 0, none⟩) D.f_Unique.length D.f_Unique.length], .bool false]) (by simp [results, Tryz.results11, go_sem, *]) rfl ?_
  clear f0 f1 f2 f3
  obtain ⟨e1, e2⟩ := (show upD D (⟨uk, un, uf⟩ : X_Upgrade) = D ∧ upB D (⟨uk, un, uf⟩ : X_Upgrade) = false from up_no (⟨uk, un, uf⟩ : X_Upgrade) HB.out)
  rw [e1, e2]
  exact ⟨(⟨D.f_Name, D.f_Version, some ⟨cg9, 0, none⟩, cy9.length, cy9, some ⟨cu9, 0, none⟩, D.f_Unique.length, D.f_Unique⟩ : Y_Database), rfl, by unfold co_Database; dsimp only; rw [HCY9.out]; rfl, Bag.bag_from S4.out 3 rfl, S4.out.old⟩
 | true =>
  obtain ⟨cb, hcb⟩ : ∃ b, chB D (⟨uk, un, uf⟩ : X_Upgrade) = b := ⟨_, rfl⟩
  obtain ⟨CD, hCD⟩ : ∃ d, chD D (⟨uk, un, uf⟩ : X_Upgrade) = d := ⟨_, rfl⟩
  have HFC := Lib.hid (show FitD CD from by rw [← hCD]; exact FitD.ch HFD.out HB.out HUN.out.1 HUN.out.2)
  have HUP := Lib.hid (show upB D (⟨uk, un, uf⟩ : X_Upgrade) = (cb && isD CD) ∧ upD D (⟨uk, un, uf⟩ : X_Upgrade) = if cb && isD CD then CD else D from by rw [← hcb, ← hCD]; exact up_ch (⟨uk, un, uf⟩ : X_Upgrade) HB.out)
  have HCH := Lib.hid (And.intro hcb hCD)
  clear hcb hCD
  go_upto_region 3 with fail
  clear f0 f1 f2 f3 f4 f5 f6
  go_cut [6, 7] (fun z6 z7 wx => ∃ (g6 : Nat) (y : Y_Database), z6 = .pointer (some ⟨g6, 0, none⟩) ∧ z7 = .bool cb ∧ Hid (co_Database y = CD ∧ Sl.Sep w wx [L4.boxR w.heap.size 33 #[.string z.f_Name, .int .i64 z.f_Version, .slice z.f_Stores_a N z.f_Stores_c, .slice z.f_Unique_a M z.f_Unique_c], L4.boxR (w.heap.size + 1) 37 #[.int .i64 uk, .string un, .string uf], L4.boxR (w.heap.size + 1 + 1) 33 #[.string ⟨#[]⟩, .int .i64 0, .slice none 0 0, .slice none 0 0], Bag.bag (rw_Database y), L4.boxR g6 33 #[.string y.f_Name, .int .i64 y.f_Version, .slice y.f_Stores_a y.f_Stores.length y.f_Stores_c, .slice y.f_Unique_a y.f_Unique.length y.f_Unique_c]]))
  case first =>
   refine wp_region_held_drew (S := (fun w' => (w'.cell? ⟨w.heap.size, 0, none⟩ = some (.string z.f_Name) ∧ w'.cell? ⟨w.heap.size, 1, none⟩ = some (.int .i64 z.f_Version) ∧ w'.cell? ⟨w.heap.size, 2, none⟩ = some (.slice z.f_Stores_a N z.f_Stores_c) ∧ w'.cell? ⟨w.heap.size, 3, none⟩ = some (.slice z.f_Unique_a M z.f_Unique_c)) ∧ (w'.cell? ⟨w.heap.size + 1, 0, none⟩ = some (.int .i64 uk) ∧ w'.cell? ⟨w.heap.size + 1, 1, none⟩ = some (.string un) ∧ w'.cell? ⟨w.heap.size + 1, 2, none⟩ = some (.string uf)))) (by kernel_rfl) ⟨Bag.cs4 (Bag.drew1 S2.out) 0 rfl, Bag.cs3 (Bag.drew1 S2.out) 1 rfl⟩ (fun hS => ?_)
   have S3 := Lib.hid (Bag.drew1 S2.out)
   clear S2
   generalize World.drew _ = w2 at hS S3 ⊢
   refine tk 0 rfl ?_
   try simp only [zp0, zp1, zp2, zp3, zp4]
   refine tk 2 rfl ?_
   try simp only [zp0, zp1, zp2, zp3, zp4]
   refine wpAnyH_ready (rs := [1, 7]) (by kernel_rfl) (by simp) ?_
   refine Reg.cons_op (i := 1) rfl (fun K hK => ?_) ?_
   ·
    skip
    go_simp
    go_at_call 38
    refine (HCP.out _ S3.out.old).mono ?_
    rintro e w3 ⟨cg3, cu3, cy3, rfl, hcy, ho, hb⟩
    have S4 := Lib.hid (show Sl.Sep w _ [_, _, _, Bag.bag ((row_Store (some ⟨cg3, 0, none⟩) cy3.length cy3 :: rws_Store cy3) ++ [row_IndexDef (some ⟨cu3, 0, none⟩) D.f_Unique.length D.f_Unique])] from Bag.push_bag S3.out hb ho)
    clear S3
    clear hb ho
    have HCY3 := Lib.hid hcy
    clear hcy
    go_wp2_with fail
    refine hK.out _ _ ⟨Bag.cs4 S4.out 0 rfl, Bag.cs3 S4.out 1 rfl⟩ (fun hS => ?_)
    clear hK K
    try simp only [zp0, zp1, zp2, zp3, zp4]
    refine wpAnyH_ready (rs := [3, 7]) (by kernel_rfl) (by simp) ?_
    refine Reg.cons_op (i := 3) rfl (fun K hK => ?_) ?_
    ·
     skip
     go_simp
     have hFC : co_Database (fullD D.f_Name D.f_Version cg3 cy3 cu3 D.f_Unique) = D := by unfold co_Database fullD; dsimp only; rw [HCY3.out]; rfl
     have hEA := (changeStructure_sep D.f_Name D.f_Version cg3 cy3 cu3 D.f_Unique uk un uf (by rw [hFC]; exact HFD.out) (by rw [hFC]; exact HB.out) w w3 (Run.restL_start S4.out 3 rfl)).mono (fun e w' h => Ate.at_ S4.out 3 rfl h)
     rw [hFC] at hEA
     rw [HCH.out.1, HCH.out.2] at hEA
     clear hFC
     unfold vv_Database fullD vv_Upgrade at hEA
     dsimp only at hEA
     go_at_call 39
     refine hEA.mono ?_
     rintro e w9 ⟨y, gar, rfl, hcy, -, hS⟩
     clear hEA
     have S5 := Lib.hid (show Sl.Sep w _ [_, _, _, Bag.bag (rw_Database y ++ gar)] from hS)
     clear S4
     clear hS
     have HCY := Lib.hid hcy
     clear hcy
     have S6 := Lib.hid (show Sl.Sep w _ [_, _, _, Bag.bag (rw_Database y), Bag.bag gar] from Bag.bag_split S5.out 3 rfl)
     clear S5
     go_wp2_with fail
     refine hK.out _ _ ⟨Bag.cs4 S6.out 0 rfl, Bag.cs3 S6.out 1 rfl⟩ (fun hS => ?_)
     clear hK K
     try simp only [zp0, zp1, zp2, zp3, zp4]
     refine tk 4 rfl ?_
     try simp only [zp0, zp1, zp2, zp3, zp4]
     refine tk 5 rfl ?_
     try simp only [zp0, zp1, zp2, zp3, zp4]
     refine tk 6 rfl ?_
     try simp only [zp0, zp1, zp2, zp3, zp4]
     refine Reg.one_op (i := 7) rfl (by kernel_rfl) (fun K hK => ?_)
     go_simp
     have S7 := Lib.hid (show Sl.Sep w _ [_, _, _, _, _, _] from L4.push_box S6.out 33 #[.string ⟨#[]⟩, .int .i64 0, .slice none 0 0, .slice none 0 0] w9.heap.size rfl)
     clear S6
     obtain ⟨g1, hg⟩ : ∃ g', g' = w9.heap.size := ⟨_, rfl⟩
     rw [← hg] at S7 ⊢
     clear hg
     generalize w9.alloc (.cells #[.string ⟨#[]⟩, .int .i64 0, .slice none 0 0, .slice none 0 0] 33) = w4 at S7 ⊢
     refine hK.out _ _ ⟨Bag.cs4 S7.out 0 rfl, Bag.cs3 S7.out 1 rfl⟩ (fun hS => ?_)
     clear hK K
     try simp only [zp0, zp1, zp2, zp3, zp4]
     refine Reg.one_op (i := 8) rfl (by kernel_rfl) (fun K hK => ?_)
     obtain ⟨f0, f1, f2, f3⟩ := Bag.cs4 S7.out 5 rfl
     obtain ⟨z0, z1, z2, z3⟩ := Bag.fs4 S7.out 5 rfl
     go_simp
     clear f0 f1 f2 f3 z0 z1 z2 z3
     have S8 := Lib.hid (show Sl.Sep w _ [_, _, _, _, Bag.bag gar, L4.boxR g1 33 #[.string y.f_Name, .int .i64 y.f_Version, .slice y.f_Stores_a y.f_Stores.length y.f_Stores_c, .slice y.f_Unique_a y.f_Unique.length y.f_Unique_c]] from L5.put_box5 (L5.put_box5 (L5.put_box5 (L5.put_box5 (S7.out) 5 rfl 0 (.string y.f_Name)) 5 rfl 1 (.int .i64 y.f_Version)) 5 rfl 2 (.slice y.f_Stores_a y.f_Stores.length y.f_Stores_c)) 5 rfl 3 (.slice y.f_Unique_a y.f_Unique.length y.f_Unique_c))
     clear S7
     refine hK.out _ _ ⟨Bag.cs4 S8.out 0 rfl, Bag.cs3 S8.out 1 rfl⟩ (fun hS => ?_)
     clear hK K
     try simp only [zp0, zp1, zp2, zp3, zp4]
     refine tk 9 rfl ?_
     try simp only [zp0, zp1, zp2, zp3, zp4]
     refine wpAnyH_done (by kernel_rfl) ?_ _
     obtain ⟨f0, f1, f2, f3⟩ := Bag.cs4 S8.out 0 rfl
     obtain ⟨f4, f5, f6⟩ := Bag.cs3 S8.out 1 rfl
     obtain ⟨f7, f8, f9, f10⟩ := Bag.cs4 S8.out 2 rfl
     obtain ⟨f11, f12, f13, f14⟩ := Bag.cs4 S8.out 5 rfl
     clear f0 f1 f2 f3 f4 f5 f6 f7 f8 f9 f10 f11 f12 f13 f14
     have S9 := Lib.hid (show Sl.Sep w _ [_, _, _, _, _] from Bag.take S8.out [0, 1, 2, 3, 5] (by rfl) (by decide))
     clear S8
     go_wp2_with fail
     go_meet
     case rel => exact ⟨g1, y, rfl, rfl, And.intro HCY.out S9.out⟩
    refine Reg.cons_op (i := 7) rfl (fun K hK => ?_) ?_
    ·
     skip
     go_simp
     have S5 := Lib.hid (show Sl.Sep w _ [_, _, _, _, _] from L4.push_box S4.out 33 #[.string ⟨#[]⟩, .int .i64 0, .slice none 0 0, .slice none 0 0] w3.heap.size rfl)
     clear S4
     obtain ⟨g1, hg⟩ : ∃ g', g' = w3.heap.size := ⟨_, rfl⟩
     rw [← hg] at S5 ⊢
     clear hg
     generalize w3.alloc (.cells #[.string ⟨#[]⟩, .int .i64 0, .slice none 0 0, .slice none 0 0] 33) = w4 at S5 ⊢
     refine hK.out _ _ ⟨Bag.cs4 S5.out 0 rfl, Bag.cs3 S5.out 1 rfl⟩ (fun hS => ?_)
     clear hK K
     try simp only [zp0, zp1, zp2, zp3, zp4]
     refine Reg.one_op (i := 3) rfl (by kernel_rfl) (fun K hK => ?_)
     go_simp
     have hFC : co_Database (fullD D.f_Name D.f_Version cg3 cy3 cu3 D.f_Unique) = D := by unfold co_Database fullD; dsimp only; rw [HCY3.out]; rfl
     have hEA := (changeStructure_sep D.f_Name D.f_Version cg3 cy3 cu3 D.f_Unique uk un uf (by rw [hFC]; exact HFD.out) (by rw [hFC]; exact HB.out) w w4 (Run.restL_start S5.out 3 rfl)).mono (fun e w' h => Ate.at_ S5.out 3 rfl h)
     rw [hFC] at hEA
     rw [HCH.out.1, HCH.out.2] at hEA
     clear hFC
     unfold vv_Database fullD vv_Upgrade at hEA
     dsimp only at hEA
     go_at_call 39
     refine hEA.mono ?_
     rintro e w9 ⟨y, gar, rfl, hcy, -, hS⟩
     clear hEA
     have S6 := Lib.hid (show Sl.Sep w _ [_, _, _, Bag.bag (rw_Database y ++ gar), L4.boxR g1 33 #[.string ⟨#[]⟩, .int .i64 0, .slice none 0 0, .slice none 0 0]] from hS)
     clear S5
     clear hS
     have HCY := Lib.hid hcy
     clear hcy
     have S7 := Lib.hid (show Sl.Sep w _ [_, _, _, Bag.bag (rw_Database y), _, Bag.bag gar] from Bag.bag_split S6.out 3 rfl)
     clear S6
     go_wp2_with fail
     refine hK.out _ _ ⟨Bag.cs4 S7.out 0 rfl, Bag.cs3 S7.out 1 rfl⟩ (fun hS => ?_)
     clear hK K
     try simp only [zp0, zp1, zp2, zp3, zp4]
     refine tk 4 rfl ?_
     try simp only [zp0, zp1, zp2, zp3, zp4]
     refine tk 5 rfl ?_
     try simp only [zp0, zp1, zp2, zp3, zp4]
     refine tk 6 rfl ?_
     try simp only [zp0, zp1, zp2, zp3, zp4]
     refine Reg.one_op (i := 8) rfl (by kernel_rfl) (fun K hK => ?_)
     obtain ⟨f0, f1, f2, f3⟩ := Bag.cs4 S7.out 4 rfl
     obtain ⟨z0, z1, z2, z3⟩ := Bag.fs4 S7.out 4 rfl
     go_simp
     clear f0 f1 f2 f3 z0 z1 z2 z3
     have S8 := Lib.hid (show Sl.Sep w _ [_, _, _, _, L4.boxR g1 33 #[.string y.f_Name, .int .i64 y.f_Version, .slice y.f_Stores_a y.f_Stores.length y.f_Stores_c, .slice y.f_Unique_a y.f_Unique.length y.f_Unique_c], Bag.bag gar] from L5.put_box5 (L5.put_box5 (L5.put_box5 (L5.put_box5 (S7.out) 4 rfl 0 (.string y.f_Name)) 4 rfl 1 (.int .i64 y.f_Version)) 4 rfl 2 (.slice y.f_Stores_a y.f_Stores.length y.f_Stores_c)) 4 rfl 3 (.slice y.f_Unique_a y.f_Unique.length y.f_Unique_c))
     clear S7
     refine hK.out _ _ ⟨Bag.cs4 S8.out 0 rfl, Bag.cs3 S8.out 1 rfl⟩ (fun hS => ?_)
     clear hK K
     try simp only [zp0, zp1, zp2, zp3, zp4]
     refine tk 9 rfl ?_
     try simp only [zp0, zp1, zp2, zp3, zp4]
     refine wpAnyH_done (by kernel_rfl) ?_ _
     obtain ⟨f0, f1, f2, f3⟩ := Bag.cs4 S8.out 0 rfl
     obtain ⟨f4, f5, f6⟩ := Bag.cs3 S8.out 1 rfl
     obtain ⟨f7, f8, f9, f10⟩ := Bag.cs4 S8.out 2 rfl
     obtain ⟨f11, f12, f13, f14⟩ := Bag.cs4 S8.out 4 rfl
     clear f0 f1 f2 f3 f4 f5 f6 f7 f8 f9 f10 f11 f12 f13 f14
     have S9 := Lib.hid (show Sl.Sep w _ [_, _, _, _, _] from Bag.take S8.out [0, 1, 2, 3, 4] (by rfl) (by decide))
     clear S8
     go_wp2_with fail
     go_meet
     case rel => exact ⟨g1, y, rfl, rfl, And.intro HCY.out S9.out⟩
    exact AllReadyH.nil
   refine Reg.cons_op (i := 7) rfl (fun K hK => ?_) ?_
   ·
    skip
    go_simp
    have S4 := Lib.hid (show Sl.Sep w _ [_, _, _, _] from L4.push_box S3.out 33 #[.string ⟨#[]⟩, .int .i64 0, .slice none 0 0, .slice none 0 0] w2.heap.size rfl)
    clear S3
    obtain ⟨g1, hg⟩ : ∃ g', g' = w2.heap.size := ⟨_, rfl⟩
    rw [← hg] at S4 ⊢
    clear hg
    generalize w2.alloc (.cells #[.string ⟨#[]⟩, .int .i64 0, .slice none 0 0, .slice none 0 0] 33) = w3 at S4 ⊢
    refine hK.out _ _ ⟨Bag.cs4 S4.out 0 rfl, Bag.cs3 S4.out 1 rfl⟩ (fun hS => ?_)
    clear hK K
    try simp only [zp0, zp1, zp2, zp3, zp4]
    refine Reg.one_op (i := 1) rfl (by kernel_rfl) (fun K hK => ?_)
    go_simp
    go_at_call 38
    refine (HCP.out _ S4.out.old).mono ?_
    rintro e w4 ⟨cg3, cu3, cy3, rfl, hcy, ho, hb⟩
    have S5 := Lib.hid (show Sl.Sep w _ [_, _, _, L4.boxR g1 33 #[.string ⟨#[]⟩, .int .i64 0, .slice none 0 0, .slice none 0 0], Bag.bag ((row_Store (some ⟨cg3, 0, none⟩) cy3.length cy3 :: rws_Store cy3) ++ [row_IndexDef (some ⟨cu3, 0, none⟩) D.f_Unique.length D.f_Unique])] from Bag.push_bag S4.out hb ho)
    clear S4
    clear hb ho
    have HCY3 := Lib.hid hcy
    clear hcy
    go_wp2_with fail
    refine hK.out _ _ ⟨Bag.cs4 S5.out 0 rfl, Bag.cs3 S5.out 1 rfl⟩ (fun hS => ?_)
    clear hK K
    try simp only [zp0, zp1, zp2, zp3, zp4]
    refine Reg.one_op (i := 3) rfl (by kernel_rfl) (fun K hK => ?_)
    go_simp
    have hFC : co_Database (fullD D.f_Name D.f_Version cg3 cy3 cu3 D.f_Unique) = D := by unfold co_Database fullD; dsimp only; rw [HCY3.out]; rfl
    have hEA := (changeStructure_sep D.f_Name D.f_Version cg3 cy3 cu3 D.f_Unique uk un uf (by rw [hFC]; exact HFD.out) (by rw [hFC]; exact HB.out) w w4 (Run.restL_start S5.out 4 rfl)).mono (fun e w' h => Ate.at_ S5.out 4 rfl h)
    rw [hFC] at hEA
    rw [HCH.out.1, HCH.out.2] at hEA
    clear hFC
    unfold vv_Database fullD vv_Upgrade at hEA
    dsimp only at hEA
    go_at_call 39
    refine hEA.mono ?_
    rintro e w9 ⟨y, gar, rfl, hcy, -, hS⟩
    clear hEA
    have S6 := Lib.hid (show Sl.Sep w _ [_, _, _, _, Bag.bag (rw_Database y ++ gar)] from hS)
    clear S5
    clear hS
    have HCY := Lib.hid hcy
    clear hcy
    have S7 := Lib.hid (show Sl.Sep w _ [_, _, _, _, Bag.bag (rw_Database y), Bag.bag gar] from Bag.bag_split S6.out 4 rfl)
    clear S6
    go_wp2_with fail
    refine hK.out _ _ ⟨Bag.cs4 S7.out 0 rfl, Bag.cs3 S7.out 1 rfl⟩ (fun hS => ?_)
    clear hK K
    try simp only [zp0, zp1, zp2, zp3, zp4]
    refine tk 4 rfl ?_
    try simp only [zp0, zp1, zp2, zp3, zp4]
    refine tk 5 rfl ?_
    try simp only [zp0, zp1, zp2, zp3, zp4]
    refine tk 6 rfl ?_
    try simp only [zp0, zp1, zp2, zp3, zp4]
    refine Reg.one_op (i := 8) rfl (by kernel_rfl) (fun K hK => ?_)
    obtain ⟨f0, f1, f2, f3⟩ := Bag.cs4 S7.out 3 rfl
    obtain ⟨z0, z1, z2, z3⟩ := Bag.fs4 S7.out 3 rfl
    go_simp
    clear f0 f1 f2 f3 z0 z1 z2 z3
    have S8 := Lib.hid (show Sl.Sep w _ [_, _, _, L4.boxR g1 33 #[.string y.f_Name, .int .i64 y.f_Version, .slice y.f_Stores_a y.f_Stores.length y.f_Stores_c, .slice y.f_Unique_a y.f_Unique.length y.f_Unique_c], _, Bag.bag gar] from L5.put_box5 (L5.put_box5 (L5.put_box5 (L5.put_box5 (S7.out) 3 rfl 0 (.string y.f_Name)) 3 rfl 1 (.int .i64 y.f_Version)) 3 rfl 2 (.slice y.f_Stores_a y.f_Stores.length y.f_Stores_c)) 3 rfl 3 (.slice y.f_Unique_a y.f_Unique.length y.f_Unique_c))
    clear S7
    refine hK.out _ _ ⟨Bag.cs4 S8.out 0 rfl, Bag.cs3 S8.out 1 rfl⟩ (fun hS => ?_)
    clear hK K
    try simp only [zp0, zp1, zp2, zp3, zp4]
    refine tk 9 rfl ?_
    try simp only [zp0, zp1, zp2, zp3, zp4]
    refine wpAnyH_done (by kernel_rfl) ?_ _
    obtain ⟨f0, f1, f2, f3⟩ := Bag.cs4 S8.out 0 rfl
    obtain ⟨f4, f5, f6⟩ := Bag.cs3 S8.out 1 rfl
    obtain ⟨f7, f8, f9, f10⟩ := Bag.cs4 S8.out 2 rfl
    obtain ⟨f11, f12, f13, f14⟩ := Bag.cs4 S8.out 3 rfl
    clear f0 f1 f2 f3 f4 f5 f6 f7 f8 f9 f10 f11 f12 f13 f14
    have S9 := Lib.hid (show Sl.Sep w _ [_, _, _, _, _] from Bag.take S8.out [0, 1, 2, 4, 3] (by rfl) (by decide))
    clear S8
    go_wp2_with fail
    go_meet
    case rel => exact ⟨g1, y, rfl, rfl, And.intro HCY.out S9.out⟩
   exact AllReadyH.nil
  case rest =>
   obtain ⟨g6, y, rfl, rfl, hq⟩ := hcut
   have HCY := Lib.hid hq.out.1
   obtain ⟨ww, hww, hSS⟩ : ∃ u, u = _ ∧ Sl.Sep w u [L4.boxR w.heap.size 33 #[.string z.f_Name, .int .i64 z.f_Version, .slice z.f_Stores_a N z.f_Stores_c, .slice z.f_Unique_a M z.f_Unique_c], L4.boxR (w.heap.size + 1) 37 #[.int .i64 uk, .string un, .string uf], L4.boxR (w.heap.size + 1 + 1) 33 #[.string ⟨#[]⟩, .int .i64 0, .slice none 0 0, .slice none 0 0], Bag.bag (rw_Database y), L4.boxR g6 33 #[.string y.f_Name, .int .i64 y.f_Version, .slice y.f_Stores_a y.f_Stores.length y.f_Stores_c, .slice y.f_Unique_a y.f_Unique.length y.f_Unique_c]] := ⟨_, rfl, hq.out.2⟩
   subst hww
   have S62 := Lib.hid hSS
   clear hSS hq S2
   obtain ⟨f0, f1, f2, f3⟩ := Bag.cs4 S62.out 0 rfl
   obtain ⟨f4, f5, f6, f7⟩ := Bag.cs4 S62.out 4 rfl
   cases cb with
   | false =>
    go_wp2_with fail
    go_at_call 38
    refine (HCP.out _ S62.out.old).mono ?_
    rintro e w2 ⟨cg9, cu9, cy9, rfl, hcy, ho, hb⟩
    clear f0 f1 f2 f3 f4 f5 f6 f7
    have S63 := Lib.hid (show Sl.Sep w _ [L4.boxR w.heap.size 33 #[.string z.f_Name, .int .i64 z.f_Version, .slice z.f_Stores_a N z.f_Stores_c, .slice z.f_Unique_a M z.f_Unique_c], L4.boxR (w.heap.size + 1) 37 #[.int .i64 uk, .string un, .string uf], L4.boxR (w.heap.size + 1 + 1) 33 #[.string ⟨#[]⟩, .int .i64 0, .slice none 0 0, .slice none 0 0], Bag.bag (rw_Database y), L4.boxR g6 33 #[.string y.f_Name, .int .i64 y.f_Version, .slice y.f_Stores_a y.f_Stores.length y.f_Stores_c, .slice y.f_Unique_a y.f_Unique.length y.f_Unique_c], Bag.bag ((row_Store (some ⟨cg9, 0, none⟩) cy9.length cy9 :: rws_Store cy9) ++ [row_IndexDef (some ⟨cu9, 0, none⟩) D.f_Unique.length D.f_Unique])] from Bag.push_bag S62.out hb ho)
    clear S62
    clear hb ho
    have HCY9 := Lib.hid hcy
    clear hcy
    obtain ⟨f0, f1, f2, f3⟩ := Bag.cs4 S63.out 2 rfl
    obtain ⟨z0, z1, z2, z3⟩ := Bag.fs4 S63.out 2 rfl
    go_wp2_with fail
    clear f0 f1 f2 f3 z0 z1 z2 z3
    have S64 := Lib.hid (show Sl.Sep w _ [_, _, L4.boxR (w.heap.size + 1 + 1) 33 #[.string D.f_Name, .int .i64 D.f_Version, .slice (some ⟨cg9, 0, none⟩) cy9.length cy9.length, .slice (some ⟨cu9, 0, none⟩) D.f_Unique.length D.f_Unique.length], _, _, _] from L5.put_box5 (L5.put_box5 (L5.put_box5 (L5.put_box5 (S63.out) 2 rfl 0 (.string D.f_Name)) 2 rfl 1 (.int .i64 D.f_Version)) 2 rfl 2 (.slice (some ⟨cg9, 0, none⟩) cy9.length cy9.length)) 2 rfl 3 (.slice (some ⟨cu9, 0, none⟩) D.f_Unique.length D.f_Unique.length))
    clear S63
    obtain ⟨f0, f1, f2, f3⟩ := Bag.cs4 S64.out 2 rfl
    refine bodyPost_ret (v := .tuple #[.agg #[.string D.f_Name, .int .i64 D.f_Version, .slice (some ⟨cg9, 0, none⟩) cy9.length cy9.length, .slice (some ⟨cu9, 0, none⟩) D.f_Unique.length D.f_Unique.length], .bool false]) (by simp [results, Tryz.results11, go_sem, *]) rfl ?_
    clear f0 f1 f2 f3
    obtain ⟨e1, e2⟩ := (show upD D (⟨uk, un, uf⟩ : X_Upgrade) = D ∧ upB D (⟨uk, un, uf⟩ : X_Upgrade) = false from ⟨HUP.out.2, HUP.out.1⟩)
    rw [e1, e2]
    exact ⟨(⟨D.f_Name, D.f_Version, some ⟨cg9, 0, none⟩, cy9.length, cy9, some ⟨cu9, 0, none⟩, D.f_Unique.length, D.f_Unique⟩ : Y_Database), rfl, by unfold co_Database; dsimp only; rw [HCY9.out]; rfl, Bag.bag_from S64.out 5 rfl, S64.out.old⟩
   | true =>
    obtain ⟨B2, hB2⟩ : ∃ b, isD CD = b := ⟨_, rfl⟩
    have HIY := fun w' (hr : RowsRd w' w'.heap.size (rw_Database y)) => isDatabase_any y (by rw [HCY.out]; exact HFC.out) w' hr
    rw [HCY.out, hB2] at HIY
    unfold vv_Database at HIY
    replace HIY := Lib.hid HIY
    have HB2 := Lib.hid hB2
    clear hB2
    go_wp2_with fail
    go_at_call 37
    refine (HIY.out _ (Bag.bag_rd S62.out 3 rfl)).mono ?_
    rintro e w2 ⟨rfl, hb⟩
    clear f0 f1 f2 f3 f4 f5 f6 f7
    have S63 := Lib.hid (S62.out.keep hb)
    clear S62
    clear hb
    obtain ⟨f0, f1, f2, f3⟩ := Bag.cs4 S63.out 0 rfl
    obtain ⟨f4, f5, f6, f7⟩ := Bag.cs4 S63.out 4 rfl
    cases B2 with
    | false =>
     go_wp2_with fail
     go_at_call 38
     refine (HCP.out _ S63.out.old).mono ?_
     rintro e w3 ⟨cg9, cu9, cy9, rfl, hcy, ho, hb⟩
     clear f0 f1 f2 f3 f4 f5 f6 f7
     have S64 := Lib.hid (show Sl.Sep w _ [_, _, _, _, _, _] from Bag.push_bag S63.out hb ho)
     clear S63
     clear hb ho
     have HCY9 := Lib.hid hcy
     clear hcy
     obtain ⟨f0, f1, f2, f3⟩ := Bag.cs4 S64.out 2 rfl
     obtain ⟨z0, z1, z2, z3⟩ := Bag.fs4 S64.out 2 rfl
     go_wp2_with fail
     clear f0 f1 f2 f3 z0 z1 z2 z3
     have S65 := Lib.hid (show Sl.Sep w _ [_, _, L4.boxR (w.heap.size + 1 + 1) 33 #[.string D.f_Name, .int .i64 D.f_Version, .slice (some ⟨cg9, 0, none⟩) cy9.length cy9.length, .slice (some ⟨cu9, 0, none⟩) D.f_Unique.length D.f_Unique.length], _, _, _] from L5.put_box5 (L5.put_box5 (L5.put_box5 (L5.put_box5 (S64.out) 2 rfl 0 (.string D.f_Name)) 2 rfl 1 (.int .i64 D.f_Version)) 2 rfl 2 (.slice (some ⟨cg9, 0, none⟩) cy9.length cy9.length)) 2 rfl 3 (.slice (some ⟨cu9, 0, none⟩) D.f_Unique.length D.f_Unique.length))
     clear S64
     obtain ⟨f0, f1, f2, f3⟩ := Bag.cs4 S65.out 2 rfl
     refine bodyPost_ret (v := .tuple #[.agg #[.string D.f_Name, .int .i64 D.f_Version, .slice (some ⟨cg9, 0, none⟩) cy9.length cy9.length, .slice (some ⟨cu9, 0, none⟩) D.f_Unique.length D.f_Unique.length], .bool false]) (by simp [results, Tryz.results11, go_sem, *]) rfl ?_
     clear f0 f1 f2 f3
     obtain ⟨e1, e2⟩ := (show upD D (⟨uk, un, uf⟩ : X_Upgrade) = D ∧ upB D (⟨uk, un, uf⟩ : X_Upgrade) = false from by obtain ⟨h1, h2⟩ := HUP.out; rw [h1, h2, HB2.out]; exact ⟨rfl, rfl⟩)
     rw [e1, e2]
     exact ⟨(⟨D.f_Name, D.f_Version, some ⟨cg9, 0, none⟩, cy9.length, cy9, some ⟨cu9, 0, none⟩, D.f_Unique.length, D.f_Unique⟩ : Y_Database), rfl, by unfold co_Database; dsimp only; rw [HCY9.out]; rfl, Bag.bag_from S65.out 5 rfl, S65.out.old⟩
    | true =>
     clear f0 f1 f2 f3 f4 f5 f6 f7
     obtain ⟨f0, f1, f2, f3⟩ := Bag.cs4 S63.out 2 rfl
     obtain ⟨f4, f5, f6, f7⟩ := Bag.cs4 S63.out 4 rfl
     obtain ⟨z0, z1, z2, z3⟩ := Bag.fs4 S63.out 2 rfl
     go_wp2_with fail
     clear f0 f1 f2 f3 f4 f5 f6 f7 z0 z1 z2 z3
     have S64 := Lib.hid (show Sl.Sep w _ [_, _, L4.boxR (w.heap.size + 1 + 1) 33 #[.string y.f_Name, .int .i64 y.f_Version, .slice y.f_Stores_a y.f_Stores.length y.f_Stores_c, .slice y.f_Unique_a y.f_Unique.length y.f_Unique_c], _, _] from L5.put_box5 (L5.put_box5 (L5.put_box5 (L5.put_box5 (S63.out) 2 rfl 0 (.string y.f_Name)) 2 rfl 1 (.int .i64 y.f_Version)) 2 rfl 2 (.slice y.f_Stores_a y.f_Stores.length y.f_Stores_c)) 2 rfl 3 (.slice y.f_Unique_a y.f_Unique.length y.f_Unique_c))
     clear S63
     obtain ⟨f0, f1, f2, f3⟩ := Bag.cs4 S64.out 2 rfl
     refine bodyPost_ret (v := .tuple #[.agg #[.string y.f_Name, .int .i64 y.f_Version, .slice y.f_Stores_a y.f_Stores.length y.f_Stores_c, .slice y.f_Unique_a y.f_Unique.length y.f_Unique_c], .bool true]) (by simp [results, Tryz.results11, go_sem, *]) rfl ?_
     clear f0 f1 f2 f3
     obtain ⟨e1, e2⟩ := HUP.out
     rw [e1, e2, HB2.out]
     exact ⟨y, rfl, HCY.out, Bag.bag_from S64.out 3 rfl, S64.out.old⟩
theorem applyUpgrade_any (z : Y_Database) (u : X_Upgrade) (hf : FitD (co_Database z)) (hn : u.f_Store.size ≤ 281474976710656) (hx : u.f_Field.size ≤ 281474976710656) (w : World) (hr : RowsRd w w.heap.size (rw_Database z)) :
  Calls Tryz.prog 11 #[vv_Database z, vv_Upgrade u] w (GaveDB w (upD (co_Database z) u) (upB (co_Database z) u)) := applyUpgrade_flat z u.f_Kind u.f_Store u.f_Field hf hn hx w hr
end Go.Proofs.YthljdhfgphebnaaGreat.L8

