/-
  The contracts of the library's Cut at the separator ' and of Clone, and of the program's FormatKey and ParseKey. Conditions: strconv's table of powers of ten reads as laid, its two sentinels hold some error; a string of at most 2^32 bytes.
-/
import Derived.Test.YtenmdecooamaaaaDoorL4Pk
import Derived.Test.YtenmdecooamaaaaDoorL4Im1
import Derived.Test.YtenmdecooamaaaaDoorL1Impl
import Derived.Test.YtenmdecooamaaaaDoorL4Open
import Derived.Deep.RegionHeld3
import Derived.Deep.DeepCutAuto
import Derived.BigQuiet
namespace Go.Proofs.YtenmdecooamaaaaDoor.L4
open L1 (Tab Sents)
open Go.ChangeShapes Go.WideShapes Go.ChangeAt Go.RowKit Mem Sl Ex L2
set_option maxRecDepth 100000
set_option linter.unusedVariables false

theorem clone_any (s : ByteArray) (hs : s.size ≤ 281474976710656) (w : World) :
    Calls Tryd.prog 29 #[.string s] w fun e w' => e = .returned (.string s) ∧ Below w.heap.size w w' := by
  have H := Lib.hid (fun w => Tryd.stringslite_Clone s w hs)
  go_enter Tryd.func29, Tryd.ntmps29
  go_wp2_with (go_at_call 46; with_reducible refine (H.out _).mono ?_; rintro e w1 ⟨rfl, hb⟩)
  go_ret
  exact ⟨rfl, hb⟩

theorem indexB_no : ∀ (l : List UInt8), (39 : UInt8) ∉ l → Lib.indexByte l 39 = -1
  | [], _ => rfl
  | b :: l, h => by
    have h1 : b ≠ 39 := fun e => h (by rw [e]; simp)
    have h2 := indexB_no l (fun hm => h (List.mem_cons_of_mem _ hm))
    unfold Lib.indexByte
    rw [h2]
    simp [h1]
theorem indexB_app : ∀ (p q : List UInt8), (39 : UInt8) ∉ p → Lib.indexByte (p ++ 39 :: q) 39 = p.length
  | [], q, _ => by simp [Lib.indexByte]
  | b :: p, q, h => by
    have h1 : b ≠ 39 := fun e => h (by rw [e]; simp)
    have h2 := indexB_app p q (fun hm => h (List.mem_cons_of_mem _ hm))
    rw [List.cons_append]
    unfold Lib.indexByte
    rw [h2]
    have h3 : ¬ ((p.length : Int) = -1) := by omega
    simp [h1, h3]
theorem first_split : ∀ (l : List UInt8), (39 : UInt8) ∈ l → ∃ p q, l = p ++ 39 :: q ∧ (39 : UInt8) ∉ p
  | [], h => absurd h (by simp)
  | b :: l, h => by
    by_cases e : b = 39
    · subst e
      exact ⟨[], l, rfl, by simp⟩
    · obtain ⟨p, q, e1, e2⟩ := first_split l ((List.mem_cons.1 h).resolve_left (fun h1 => e h1.symm))
      exact ⟨b :: p, q, by rw [e1, List.cons_append], fun hm => (List.mem_cons.1 hm).elim (fun h1 => e h1.symm) e2⟩
theorem cut_form (u : List UInt8) : (tl u = [] ∧ hd u = u ∧ (39 : UInt8) ∉ u) ∨ ∃ p q, u = p ++ 39 :: q ∧ (39 : UInt8) ∉ p ∧ hd u = p ∧ tl u = 39 :: q := by
  by_cases h : (39 : UInt8) ∈ u
  · obtain ⟨p, q, e, hp⟩ := first_split u h
    exact .inr ⟨p, q, e, hp, by rw [e]; exact hd_app p q hp, by rw [e]; exact tl_app p q hp⟩
  · exact .inl ⟨tl_all u h, hd_all u h, h⟩
theorem index_any (s : ByteArray) (hs : s.size ≤ 4294967280) (w : World) :
    Calls Tryd.prog 58 #[.string s, .string ⟨#[39]⟩] w fun e w' => e = .returned (.int .i64 (Lib.indexByte s.data.toList 39)) ∧ w = w' := by
  have H := Lib.hid (fun w => Tryd.stringslite_IndexByte s 39 w)
  have h39 : (⟨#[39]⟩ : ByteArray).toList = [39] := by rw [ByteArray.toList_eq]
  obtain ⟨v, hv⟩ : ∃ v, Lib.indexByte s.data.toList 39 = v := ⟨_, rfl⟩
  obtain ⟨b, hb⟩ : ∃ b, ([39] == s.toList) = b := ⟨_, rfl⟩
  rw [show (39 : Int).toNat.toUInt8 = 39 from rfl, hv] at H
  rw [hv]
  cases b
  · go_enter Tryd.func58, Tryd.ntmps58
    go_wp2_with (go_at_call 65; refine (H.out _).mono ?_; rintro e w1 ⟨rfl, rfl⟩)
    go_ret
    exact ⟨rfl, rfl⟩
  · have h0 : v = 0 := by
      rw [ByteArray.toList_eq, beq_iff_eq] at hb
      rw [← hv, ← hb]
      rfl
    go_enter Tryd.func58, Tryd.ntmps58
    go_wp2_with (go_at_call 65; refine (H.out _).mono ?_; rintro e w1 ⟨rfl, rfl⟩)
    go_ret
    exact ⟨by rw [h0]; rfl, rfl⟩
theorem cut_no (s : ByteArray) (hs : s.size ≤ 4294967280) (h : (39 : UInt8) ∉ s.data.toList) (w : World) :
    Calls Tryd.prog 45 #[.string s, .string ⟨#[39]⟩] w fun e w' => e = .returned (.tuple #[.string s, .string ⟨#[]⟩, .bool false]) ∧ Below w.heap.size w w' := by
  have H := Lib.hid (fun w => index_any s hs w)
  rw [indexB_no _ h] at H
  go_enter Tryd.func45, Tryd.ntmps45
  go_wp2_with (go_at_call 58; with_reducible refine (H.out _).mono ?_; rintro e w1 ⟨rfl, rfl⟩)
  go_ret3
  exact ⟨rfl, Below.refl _ _⟩
theorem cut_yes (s P T : ByteArray) (hs : s.size ≤ 4294967280) (h : (39 : UInt8) ∉ P.data.toList) (he : s.data.toList = P.data.toList ++ 39 :: T.data.toList) (w : World) :
    Calls Tryd.prog 45 #[.string s, .string ⟨#[39]⟩] w fun e w' => e = .returned (.tuple #[.string P, .string T, .bool true]) ∧ Below w.heap.size w w' := by
  have H := Lib.hid (fun w => index_any s hs w)
  have hl : P.data.toList.length = P.size := by rw [Array.length_toList]; rfl
  have hl2 : s.size = P.size + 1 + T.size := by
    have : s.data.toList.length = s.size := by rw [Array.length_toList]; rfl
    have h3 : T.data.toList.length = T.size := by rw [Array.length_toList]; rfl
    rw [← this, he, List.length_append, List.length_cons, hl, h3]
    omega
  rw [he, indexB_app _ _ h, hl] at H
  have e1 : s.extract 0 P.size = P := ba_ext (by rw [ext_data, he, List.drop_zero, Nat.sub_zero, List.take_left' hl])
  have e2 : s.extract (P.size + 1) s.size = T := ba_ext (by
    rw [ext_data, he, hl2]
    have : P.size + 1 + T.size - (P.size + 1) = T.size := by omega
    rw [this, show P.data.toList ++ 39 :: T.data.toList = (P.data.toList ++ [39]) ++ T.data.toList by simp, List.drop_left' (by simp [hl]), List.take_of_length_le (by rw [Array.length_toList]; exact Nat.le_refl _)])
  have b0 : (0 : Int) ≤ (P.size : Int) := by omega
  have b1 : (P.size : Int) ≤ (s.size : Int) := by omega
  have b2 : (P.size : Int) + 1 ≤ (s.size : Int) := by omega
  have b3 : (s.size : Int) ≤ 4294967280 := by omega
  have b4 : (0 : Int) ≤ (P.size : Int) + 1 := by omega
  have hw : IntKind.i64.wrap ((P.size : Int) + 1) = (P.size : Int) + 1 := IntWalk.i64_in _ ⟨by omega, by omega⟩
  clear he hl hl2 h hs
  go_enter Tryd.func45, Tryd.ntmps45
  go_wp2_with (go_at_call 58; with_reducible refine (H.out _).mono ?_; rintro e w1 ⟨rfl, rfl⟩)
  go_region_held3 (fun _ => True) (exact trivial) ((fail))
  go_wp2
  go_ret3
  exact ⟨rfl, (Below.refl _ _).drew⟩
theorem scut_no (s : ByteArray) (hs : s.size ≤ 4294967280) (h : (39 : UInt8) ∉ s.data.toList) (w : World) :
    Calls Tryd.prog 28 #[.string s, .string ⟨#[39]⟩] w fun e w' => e = .returned (.tuple #[.string s, .string ⟨#[]⟩, .bool false]) ∧ Below w.heap.size w w' := by
  have H := Lib.hid (fun w => cut_no s hs h w)
  clear h
  go_enter Tryd.func28, Tryd.ntmps28
  go_wp2_with (go_at_call 45; refine (H.out _).mono ?_; rintro e w1 ⟨rfl, hb⟩)
  go_ret3
  exact ⟨rfl, hb⟩
theorem scut_yes (s P T : ByteArray) (hs : s.size ≤ 4294967280) (h : (39 : UInt8) ∉ P.data.toList) (he : s.data.toList = P.data.toList ++ 39 :: T.data.toList) (w : World) :
    Calls Tryd.prog 28 #[.string s, .string ⟨#[39]⟩] w fun e w' => e = .returned (.tuple #[.string P, .string T, .bool true]) ∧ Below w.heap.size w w' := by
  have H := Lib.hid (fun w => cut_yes s P T hs h he w)
  clear h he
  go_enter Tryd.func28, Tryd.ntmps28
  go_wp2_with (go_at_call 45; refine (H.out _).mono ?_; rintro e w1 ⟨rfl, hb⟩)
  go_ret3
  exact ⟨rfl, hb⟩
set_option maxHeartbeats 1000000 in
theorem implFormatKey_any (k : K) (hs : k.text.size ≤ 1099511627776) (w : World) (ht : Tab w) :
    Calls Tryd.prog 13 #[k.v] w fun e w' => e = .returned (.string (strU (fmtU k))) ∧ Below w.heap.size w w' := by
  obtain ⟨w2, hw2⟩ : ∃ w2, w2 = w.alloc (.cells k.cells 25) := ⟨_, rfl⟩
  have ba : Box w2 w.heap.size 25 k := by rw [hw2]; exact Box.made w _ k
  have hbl : Below w.heap.size w w2 := by rw [hw2]; exact below_alloc (Below.refl _ _) _ (Nat.le_refl _)
  have H1 := Lib.hid (fun w => implIsKey_any k (by omega) w)
  obtain ⟨ia, hia⟩ : ∃ x, isK k = x := ⟨_, rfl⟩
  rw [hia] at H1
  obtain ⟨kd, n, s⟩ := k
  simp only [K.v, K.cells] at H1 hw2 ⊢
  have hs' : (s.size : Int) ≤ 1099511627776 := by have : s.size ≤ 1099511627776 := hs; omega
  clear hs
  go_enter Tryd.func13, Tryd.ntmps13
  go_wp2_with fail
  go_at_call 16
  rw [← hw2]
  refine (H1.out w2).mono ?_
  rintro e w3 ⟨rfl, h3⟩
  have BA := Lib.hid (And.intro (ba.below h3) (hbl.trans (h3.mono hbl.size)))
  clear hw2 ba hbl h3 H1
  cases ia with
  | false =>
    have HE := Lib.hid (show strU (fmtU ⟨kd, n, s⟩) = ⟨#[]⟩ by unfold fmtU; rw [hia]; rfl)
    go_wp2_with fail
    go_ret
    rw [HE.out]
    exact ⟨rfl, BA.out.2⟩
  | true =>
    have g := isK_iff.1 hia
    have k0 : 1 ≤ kd := g.k0
    have k1 : kd ≤ 3 := g.k1
    have n0 : -1000000000000 ≤ n := g.n0
    have n1 : n ≤ 1000000000000 := g.n1
    obtain ⟨b0, b1, b2⟩ := BA.out.1.facts
    obtain ⟨T, hT⟩ : ∃ T : ByteArray, T = ⟨(Lib.itoa n).toArray⟩ := ⟨_, rfl⟩
    have hTd : T.data.toList = Lib.itoa n := by rw [hT]
    have hTs : (T.size : Int) ≤ 30 := by
      have := Lib.itoa_length_le n (by omega) (by omega)
      rw [ba_size, hTd]
      omega
    have HF := Lib.hid (fun w ht => L1.implFormatInt_any n (by omega) (by omega) w ht)
    have HT := Lib.hid (ht.below BA.out.2)
    rw [← hT] at HF
    clear hT
    rcases (show kd = 1 ∨ kd = 2 ∨ (¬ kd = 1 ∧ ¬ kd = 2) by omega) with rfl | rfl | ⟨hk1, hk2⟩
    · have HE := Lib.hid (fmt_1 hia hTd)
      clear hTd
      go_wp2_with fail
      go_at_call 31
      refine (HF.out w3 HT.out).mono ?_
      rintro e w4 ⟨rfl, h4⟩
      have BA4 := Lib.hid (And.intro (BA.out.1.below h4) (BA.out.2.trans (h4.mono BA.out.2.size)))
      clear h4 b0 b1 b2
      obtain ⟨b0, b1, b2⟩ := BA4.out.1.facts
      go_wp2_with fail
      go_ret
      exact ⟨by rw [← HE.out]; rfl, BA4.out.2⟩
    · have HE := Lib.hid (fmt_2 hia)
      clear hTd
      go_wp2_with fail
      go_ret
      exact ⟨by rw [← HE.out]; rfl, BA.out.2⟩
    · have HE := Lib.hid (fmt_3 hia hk1 hk2 hTd)
      clear hTd
      have c1 : ¬ 9223372036854775807 < T.size + 1 := by omega
      have c2 : ¬ 9223372036854775807 < T.size + 1 + s.size := by omega
      go_wp2_with fail
      go_region_held3 (fun w' => w'.cell? ⟨w.heap.size, 1, none⟩ = some (.int .i64 n) ∧ w'.cell? ⟨w.heap.size, 2, none⟩ = some (.string s)) (first | exact ⟨b1, b2⟩ | go_keep)
        ((go_at_call 31; refine (HF.out w3.drew HT.out).mono ?_; rintro e w4 ⟨rfl, h4⟩; have BA4 := Lib.hid (And.intro (Row.below (w := w3.drew) BA.out.1 h4 (Row.inside BA.out.1)) (BA.out.2.drew.trans (h4.mono BA.out.2.size))); clear h4 b0 b1 b2; obtain ⟨b0, b1, b2⟩ := Box.facts BA4.out.1))
      all_goals
        go_wp2_with fail
        go_ret
        exact ⟨by rw [← HE.out]; rfl, BA4.out.2⟩
end Go.Proofs.YtenmdecooamaaaaDoor.L4
