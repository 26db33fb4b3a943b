/-
  The contract of the program's ParseKey. Conditions: strconv's table of powers of ten reads as laid, its two sentinels hold some error; a string of less than 2^32 bytes.
-/
import Derived.Test.YtenmdecooamaaaaDoorL4Ix
import Derived.Test.YtenmdecooamaaaaDoorSd4
namespace Go.Proofs.YtenmdecooamaaaaDoor.L4
open L1 (Tab Sents)
open Go.ChangeShapes Go.WideShapes Go.ChangeAt Go.RowKit Mem Sl Ex L2
set_option maxRecDepth 100000
set_option linter.unusedVariables false

theorem atoi_itoa {n : Int} (h0 : -1000000000000 ≤ n) (h1 : n ≤ 1000000000000) : Lib.atoiAll (Lib.itoa n) = .ok n := by
  by_cases hn : n < 0
  · have hm := num_dec (u := n.natAbs) (by omega)
    have hl := hm.length
    have hd := hm.dec
    rw [itoa_neg' hn, Lib.atoiAll_short _ (by rw [List.length_cons]; omega)]
    have ha : Lib.atoi (45 :: Lib.decDigits n.natAbs) = some n := by
      have hne : (Lib.decDigits n.natAbs).isEmpty = false := by
        cases h : Lib.decDigits n.natAbs with
        | nil => exact absurd h (dec_ne _)
        | cons a b => rfl
      simp only [Lib.atoi, Lib.decNat, hne, Bool.false_eq_true, if_false, hd, Option.map_some, beq_self_eq_true, if_true]
      congr 1
      omega
    rw [ha]
    rfl
  · have hm := num_dec (u := n.toNat) (by omega)
    rw [L1.itoa_nonneg (by omega)]
    have := hm.atoi
    rw [this]
    congr 1
    omega
/-- The program's candidate. -/
def candI (u : List UInt8) : Option K :=
  if tl u = [] then (match Lib.atoiAll u with | .ok v => some ⟨1, v, ⟨#[]⟩⟩ | _ => none)
  else if hd u = [] then some ⟨2, 0, ⟨(tl u).tail.toArray⟩⟩
  else (match Lib.atoiAll (hd u) with | .ok v => some ⟨3, v, ⟨(tl u).tail.toArray⟩⟩ | _ => none)
theorem candI_fmt {k : K} (h : isK k = true) : candI (fmtU k) = some k := by
  have g := isK_iff.1 h
  have k0 := g.k0; have k1 := g.k1; have n0 := g.n0; have n1 := g.n1
  have hno := itoa_no39 k.n
  rw [fmtU_good h]
  rcases (show k.kind = 1 ∨ k.kind = 2 ∨ k.kind = 3 by omega) with e | e | e
  · rw [if_neg (by omega), if_pos e, List.append_nil]
    unfold candI
    rw [if_pos (tl_all _ hno), atoi_itoa n0 n1]
    exact congrArg some (K.ext' e.symm rfl (g.t1 e).symm)
  · rw [if_pos e, if_neg (by omega), List.nil_append]
    have e1 := tl_app [] k.t (by simp)
    have e2 := hd_app [] k.t (by simp)
    rw [List.nil_append] at e1 e2
    unfold candI
    rw [e1, e2, if_neg (by simp), if_pos rfl]
    exact congrArg some (K.ext' e.symm (g.n2 e).symm (by simp [K.t]))
  · rw [if_neg (by omega), if_neg (by omega)]
    unfold candI
    rw [tl_app _ _ hno, hd_app _ _ hno, if_neg (by simp), if_neg (itoa_ne _), atoi_itoa n0 n1]
    exact congrArg some (K.ext' e.symm rfl (by simp [K.t]))
theorem parI (u : List UInt8) : parO u = (candI u).filter fun k => isK k && (fmtU k == u) := by
  refine (par_unique (fun k hk => ?_) (fun h k hk e => ?_)).symm
  · rw [Option.filter_eq_some_iff] at hk
    simpa using hk.2
  · have := candI_fmt hk
    rw [e] at this
    rw [this, Option.filter_some, hk, e] at h
    simp at h
theorem parI_no {u : List UInt8} (h : candI u = none) : parO u = none := by rw [parI, h]; rfl
theorem parI_is {u : List UInt8} {k : K} (h : candI u = some k) : parO u = if isK k && (fmtU k == u) then some k else none := by rw [parI, h, Option.filter_some]

theorem atoi_ok (s : ByteArray) (hs : s.size ≤ 281474976710656) (v : Int) (h : Lib.atoiAll s.data.toList = .ok v) (w : World) :
    Calls Tryd.prog 30 #[.string s] w fun e w' => e = .returned (.tuple #[.int .i64 v, .nilIface]) ∧ Below w.heap.size w w' :=
  (Tryd.strconv_Atoi_ok s (by omega) v h w).mono fun _ _ ⟨he, hw⟩ => ⟨he, L1.below_bytes hw⟩
theorem atoi_no (s : ByteArray) (hs : s.size ≤ 281474976710656) (h : ∀ v, Lib.atoiAll s.data.toList ≠ .ok v) (w : World) (hse : Sents w) :
    Calls Tryd.prog 30 #[.string s] w fun e w' => ∃ n t p, e = .returned (.tuple #[.int .i64 n, .iface t p]) ∧ Below w.heap.size w w' := by
  obtain ⟨⟨tp, p, hS⟩, tp', p', hR⟩ := hse
  rcases L1.atoi_ends s.data.toList with ⟨v, ha⟩ | ha | ha
  · exact absurd ha (h v)
  · exact (Tryd.strconv_Atoi_range_var s hs ha tp' p' w hR).mono fun _ _ ⟨N, he, _, _, hb⟩ => ⟨_, _, _, he, hb⟩
  · exact (Tryd.strconv_Atoi_syntax_var s hs ha tp p w hS).mono fun _ _ ⟨N, he, _, _, hb⟩ => ⟨_, _, _, he, hb⟩
set_option maxHeartbeats 4000000 in
theorem implParseKey_any (s : ByteArray) (hs : s.size ≤ 4294967280) (w : World) (ht : Tab w) (hse : Sents w) :
    Calls Tryd.prog 12 #[.string s] w fun e w' => e = PkE s ∧ Below w.heap.size w w' := by
  have HT := Lib.hid (And.intro ht hse)
  clear ht hse
  have S0 := Sep.start w
  have S1 := push_box S0 25 #[.int .i64 0, .int .i64 0, .string ⟨#[]⟩] w.heap.size rfl
  clear S0
  rcases cut_form s.data.toList with ⟨c1, c2, c3⟩ | ⟨p, q, c1, c2, c3, c4⟩
  · have HC := Lib.hid (fun w => scut_no s hs c3 w)
    have HL := Lib.hid (fun w => clone_any ⟨#[]⟩ (by show (0 : Nat) ≤ _; omega) w)
    have HCI := Lib.hid (show ∀ v, Lib.atoiAll s.data.toList = .ok v → candI s.data.toList = some ⟨1, v, ⟨#[]⟩⟩ from fun v hv => by unfold candI; rw [if_pos c1, hv])
    have HCN := Lib.hid (show (∀ v, Lib.atoiAll s.data.toList ≠ .ok v) → candI s.data.toList = none from fun hv => by
      unfold candI
      rw [if_pos c1]
      rcases L1.atoi_ends s.data.toList with ⟨v, ha⟩ | ha | ha
      · exact absurd ha (hv v)
      · rw [ha]
      · rw [ha]; rfl)
    clear c1 c2 c3
    have hx : (⟨#[]⟩ : ByteArray).size = 0 := rfl
    go_enter Tryd.func12, Tryd.ntmps12
    go_wp2_with fail
    go_at_call 28
    refine (HC.out _).mono ?_
    rintro e wB ⟨rfl, hb⟩
    have SB := Sep.keep S1 hb
    clear hb S1
    go_wp2_with fail
    go_at_call 29
    refine (HL.out _).mono ?_
    rintro e wC ⟨rfl, hb⟩
    have SC := Sep.keep SB hb
    clear hb SB
    obtain ⟨g, hg⟩ : ∃ g, g = wC.heap.size := ⟨_, rfl⟩
    have SD := push_box SC 25 #[.int .i64 1, .int .i64 0, .string ⟨#[]⟩] g hg
    subst hg
    by_cases hok : ∃ v, Lib.atoiAll (s).data.toList = .ok v
    · obtain ⟨v, hv⟩ := hok
      have HCa := Lib.hid (HCI.out v hv)
      obtain ⟨vb0, vb1⟩ := Lib.atoiAll_bounds hv
      have HA := Lib.hid (fun w => atoi_ok s (by omega) v hv w)
      clear hv
      go_wp2_with fail
      go_at_call 30
      refine (HA.out _).mono ?_
      rintro e w6 ⟨rfl, hb⟩
      have S6 := Sep.keep SD hb
      clear hb SD
      have S7 := Sd.put_box S6 1 rfl 1 (.int .i64 v)
      obtain ⟨z0, z1, z2, f0, f1, f2⟩ := Row.facts3 (box_at S6 0 rfl)
      obtain ⟨y0, y1, y2, g0, g1, g2⟩ := Row.facts3 (show Row _ wC.heap.size 25 #[.int .i64 1, .int .i64 0, .string ⟨#[]⟩] from box_at S6 1 rfl)
      obtain ⟨k0, k1, k2, -, -, -⟩ := Row.facts3 (show Row _ wC.heap.size 25 #[.int .i64 1, .int .i64 v, .string ⟨#[]⟩] from box_at S7 1 rfl)
      have HP := Lib.hid (parI_is HCa.out)
      have HK := Lib.hid (fun w => implIsKey_any ⟨1, v, ⟨#[]⟩⟩ (by show ByteArray.size ⟨#[]⟩ ≤ _; omega) w)
      have HF := Lib.hid (fun w ht => implFormatKey_any ⟨1, v, ⟨#[]⟩⟩ (by show ByteArray.size ⟨#[]⟩ ≤ _; omega) w ht)
      obtain ⟨ik, hik⟩ : ∃ b, isK ⟨1, v, ⟨#[]⟩⟩ = b := ⟨_, rfl⟩
      obtain ⟨F, hF⟩ : ∃ F : ByteArray, F = strU (fmtU ⟨1, v, ⟨#[]⟩⟩) := ⟨_, rfl⟩
      obtain ⟨q, hq⟩ : ∃ b, (F.toList == s.toList) = b := ⟨_, rfl⟩
      have hq2 : (fmtU ⟨1, v, ⟨#[]⟩⟩ == s.data.toList) = q := by rw [← hq, hF, ByteArray.toList_eq, ByteArray.toList_eq, strU_data]
      rw [hik] at HK
      rw [← hF] at HF
      rw [hik, hq2] at HP
      simp only [K.v] at HK HF
      clear hik hF hq2
      go_wp2_with fail
      go_at_call 16
      with_reducible refine (HK.out _).mono ?_
      rintro e w8 ⟨rfl, hb⟩
      have S8 := Sep.keep S7 hb
      clear hb
      clear z0 z1 z2 f0 f1 f2 y0 y1 y2 g0 g1 g2 k0 k1 k2
      obtain ⟨z0, z1, z2, f0, f1, f2⟩ := Row.facts3 (box_at S8 0 rfl)
      obtain ⟨y0, y1, y2, g0, g1, g2⟩ := Row.facts3 (show Row _ wC.heap.size 25 #[.int .i64 1, .int .i64 v, .string ⟨#[]⟩] from box_at S8 1 rfl)
      cases ik with
      | false =>
        have HD := Lib.hid (par_no (HP.out.trans rfl))
        go_wp2_with fail
        refine bodyPost_ret (v := .tuple #[K.zero.v, .bool false]) (by simp [results, Tryd.results12, go_sem, K.v, K.zero, z0, z1, z2]) rfl ?_
        exact ⟨by unfold PkE; rw [HD.out.1, HD.out.2], ((S8.old.setCell (p := ⟨w.heap.size, 0, none⟩) (Nat.le_refl _) _).setCell (p := ⟨w.heap.size, 1, none⟩) (Nat.le_refl _) _).setCell (p := ⟨w.heap.size, 2, none⟩) (Nat.le_refl _) _⟩
      | true =>
        go_wp2_with fail
        go_at_call 13
        with_reducible refine (HF.out _ (HT.out.1.below S8.old)).mono ?_
        rintro e w9 ⟨rfl, hb⟩
        have S9 := Sep.keep S8 hb
        clear hb
        clear z0 z1 z2 f0 f1 f2 y0 y1 y2 g0 g1 g2
        obtain ⟨z0, z1, z2, f0, f1, f2⟩ := Row.facts3 (box_at S9 0 rfl)
        obtain ⟨y0, y1, y2, g0, g1, g2⟩ := Row.facts3 (show Row _ wC.heap.size 25 #[.int .i64 1, .int .i64 v, .string ⟨#[]⟩] from box_at S9 1 rfl)
        cases q with
        | false =>
          have HD := Lib.hid (par_no (HP.out.trans rfl))
          go_wp2_with fail
          refine bodyPost_ret (v := .tuple #[K.zero.v, .bool false]) (by simp [results, Tryd.results12, go_sem, K.v, K.zero, z0, z1, z2]) rfl ?_
          exact ⟨by unfold PkE; rw [HD.out.1, HD.out.2], ((S9.old.setCell (p := ⟨w.heap.size, 0, none⟩) (Nat.le_refl _) _).setCell (p := ⟨w.heap.size, 1, none⟩) (Nat.le_refl _) _).setCell (p := ⟨w.heap.size, 2, none⟩) (Nat.le_refl _) _⟩
        | true =>
          have HD := Lib.hid (par_yes (HP.out.trans rfl))
          go_wp2_with fail
          refine bodyPost_ret (v := .tuple #[K.v ⟨1, v, ⟨#[]⟩⟩, .bool true]) (by simp [results, Tryd.results12, go_sem, K.v, z0, z1, z2]) rfl ?_
          exact ⟨by unfold PkE; rw [HD.out.1, HD.out.2], ((S9.old.setCell (p := ⟨w.heap.size, 0, none⟩) (Nat.le_refl _) _).setCell (p := ⟨w.heap.size, 1, none⟩) (Nat.le_refl _) _).setCell (p := ⟨w.heap.size, 2, none⟩) (Nat.le_refl _) _⟩
    · have HD := Lib.hid (par_no (parI_no (HCN.out (fun v hv => hok ⟨v, hv⟩))))
      have HA := Lib.hid (fun w hse => atoi_no s (by omega) (fun v hv => hok ⟨v, hv⟩) w hse)
      go_wp2_with fail
      go_at_call 30
      refine (HA.out _ (HT.out.2.below SD.old)).mono ?_
      rintro e w6 ⟨en, et, ep, rfl, hb⟩
      have S6 := Sep.keep SD hb
      clear hb SD
      obtain ⟨z0, z1, z2, f0, f1, f2⟩ := Row.facts3 (box_at S6 0 rfl)
      obtain ⟨y0, y1, y2, g0, g1, g2⟩ := Row.facts3 (show Row _ wC.heap.size 25 #[.int .i64 1, .int .i64 0, .string ⟨#[]⟩] from box_at S6 1 rfl)
      go_wp2_with fail
      refine bodyPost_ret (v := .tuple #[K.zero.v, .bool false]) (by simp [results, Tryd.results12, go_sem, K.v, K.zero, z0, z1, z2]) rfl ?_
      exact ⟨by unfold PkE; rw [HD.out.1, HD.out.2], ((S6.old.setCell (p := ⟨w.heap.size, 0, none⟩) (Nat.le_refl _) _).setCell (p := ⟨w.heap.size, 1, none⟩) (Nat.le_refl _) _).setCell (p := ⟨w.heap.size, 2, none⟩) (Nat.le_refl _) _⟩
  · have hP : (strU p).data.toList = p := strU_data p
    have hT : (strU q).data.toList = q := strU_data q
    have hsz : s.size = (strU p).size + 1 + (strU q).size := by
      rw [ba_size, ba_size, ba_size, hP, hT, c1, List.length_append, List.length_cons]
      omega
    have HC := Lib.hid (fun w => scut_yes s (strU p) (strU q) hs (by rw [hP]; exact c2) (by rw [hP, hT]; exact c1) w)
    have HL := Lib.hid (fun w => clone_any (strU q) (by omega) w)
    have hCT := show p = [] → candI s.data.toList = some ⟨2, 0, strU q⟩ from fun hp => by
      unfold candI
      rw [c4, c3, hp, if_neg (by simp), if_pos rfl]
      rfl
    have HCI := Lib.hid (show p ≠ [] → ∀ v, Lib.atoiAll (strU p).data.toList = .ok v → candI s.data.toList = some ⟨3, v, strU q⟩ from fun hp v hv => by
      rw [hP] at hv
      unfold candI
      rw [c4, c3, if_neg (by simp), if_neg hp, hv]
      rfl)
    have HCN := Lib.hid (show p ≠ [] → (∀ v, Lib.atoiAll (strU p).data.toList ≠ .ok v) → candI s.data.toList = none from fun hp hv => by
      rw [hP] at hv
      unfold candI
      rw [c4, c3, if_neg (by simp), if_neg hp]
      rcases L1.atoi_ends p with ⟨v, ha⟩ | ha | ha
      · exact absurd ha (hv v)
      · rw [ha]
      · rw [ha]; rfl)
    obtain ⟨P, hPe⟩ : ∃ P, strU p = P := ⟨_, rfl⟩
    obtain ⟨T, hTe⟩ : ∃ T, strU q = T := ⟨_, rfl⟩
    rw [hPe] at HC HCI HCN hP hsz
    rw [hTe] at HC HL hCT HCI hsz
    have hPl : P.toList = p := by rw [ByteArray.toList_eq]; exact hP
    clear c1 c2 c3 c4 hT hPe hTe hP
    by_cases hp : p = []
    · have HCa := Lib.hid (hCT hp)
      have hPb : (P.toList == []) = true := by rw [hPl, hp]; rfl
      clear HCI HCN hCT hPl hp
      go_enter Tryd.func12, Tryd.ntmps12
      go_wp2_with fail
      go_at_call 28
      refine (HC.out _).mono ?_
      rintro e wB ⟨rfl, hb⟩
      have SB := Sep.keep S1 hb
      clear hb S1
      go_wp2_with fail
      go_at_call 29
      refine (HL.out _).mono ?_
      rintro e wC ⟨rfl, hb⟩
      have SC := Sep.keep SB hb
      clear hb SB
      obtain ⟨g, hg⟩ : ∃ g, g = wC.heap.size := ⟨_, rfl⟩
      have SD := push_box SC 25 #[.int .i64 2, .int .i64 0, .string T] g hg
      subst hg
      have HP := Lib.hid (parI_is HCa.out)
      have HK := Lib.hid (fun w => implIsKey_any ⟨2, 0, T⟩ (by show ByteArray.size T ≤ _; omega) w)
      have HF := Lib.hid (fun w ht => implFormatKey_any ⟨2, 0, T⟩ (by show ByteArray.size T ≤ _; omega) w ht)
      obtain ⟨ik, hik⟩ : ∃ b, isK ⟨2, 0, T⟩ = b := ⟨_, rfl⟩
      obtain ⟨F, hF⟩ : ∃ F : ByteArray, F = strU (fmtU ⟨2, 0, T⟩) := ⟨_, rfl⟩
      obtain ⟨q, hq⟩ : ∃ b, (F.toList == s.toList) = b := ⟨_, rfl⟩
      have hq2 : (fmtU ⟨2, 0, T⟩ == s.data.toList) = q := by rw [← hq, hF, ByteArray.toList_eq, ByteArray.toList_eq, strU_data]
      rw [hik] at HK
      rw [← hF] at HF
      rw [hik, hq2] at HP
      simp only [K.v] at HK HF
      clear hik hF hq2
      go_wp2_with fail
      go_at_call 16
      with_reducible refine (HK.out _).mono ?_
      rintro e w8 ⟨rfl, hb⟩
      have S8 := Sep.keep SD hb
      clear hb
      obtain ⟨z0, z1, z2, f0, f1, f2⟩ := Row.facts3 (box_at S8 0 rfl)
      obtain ⟨y0, y1, y2, g0, g1, g2⟩ := Row.facts3 (show Row _ wC.heap.size 25 #[.int .i64 2, .int .i64 0, .string T] from box_at S8 1 rfl)
      cases ik with
      | false =>
        have HD := Lib.hid (par_no (HP.out.trans rfl))
        go_wp2_with fail
        refine bodyPost_ret (v := .tuple #[K.zero.v, .bool false]) (by simp [results, Tryd.results12, go_sem, K.v, K.zero, z0, z1, z2]) rfl ?_
        exact ⟨by unfold PkE; rw [HD.out.1, HD.out.2], ((S8.old.setCell (p := ⟨w.heap.size, 0, none⟩) (Nat.le_refl _) _).setCell (p := ⟨w.heap.size, 1, none⟩) (Nat.le_refl _) _).setCell (p := ⟨w.heap.size, 2, none⟩) (Nat.le_refl _) _⟩
      | true =>
        go_wp2_with fail
        go_at_call 13
        with_reducible refine (HF.out _ (HT.out.1.below S8.old)).mono ?_
        rintro e w9 ⟨rfl, hb⟩
        have S9 := Sep.keep S8 hb
        clear hb
        clear z0 z1 z2 f0 f1 f2 y0 y1 y2 g0 g1 g2
        obtain ⟨z0, z1, z2, f0, f1, f2⟩ := Row.facts3 (box_at S9 0 rfl)
        obtain ⟨y0, y1, y2, g0, g1, g2⟩ := Row.facts3 (show Row _ wC.heap.size 25 #[.int .i64 2, .int .i64 0, .string T] from box_at S9 1 rfl)
        cases q with
        | false =>
          have HD := Lib.hid (par_no (HP.out.trans rfl))
          go_wp2_with fail
          refine bodyPost_ret (v := .tuple #[K.zero.v, .bool false]) (by simp [results, Tryd.results12, go_sem, K.v, K.zero, z0, z1, z2]) rfl ?_
          exact ⟨by unfold PkE; rw [HD.out.1, HD.out.2], ((S9.old.setCell (p := ⟨w.heap.size, 0, none⟩) (Nat.le_refl _) _).setCell (p := ⟨w.heap.size, 1, none⟩) (Nat.le_refl _) _).setCell (p := ⟨w.heap.size, 2, none⟩) (Nat.le_refl _) _⟩
        | true =>
          have HD := Lib.hid (par_yes (HP.out.trans rfl))
          go_wp2_with fail
          refine bodyPost_ret (v := .tuple #[K.v ⟨2, 0, T⟩, .bool true]) (by simp [results, Tryd.results12, go_sem, K.v, z0, z1, z2]) rfl ?_
          exact ⟨by unfold PkE; rw [HD.out.1, HD.out.2], ((S9.old.setCell (p := ⟨w.heap.size, 0, none⟩) (Nat.le_refl _) _).setCell (p := ⟨w.heap.size, 1, none⟩) (Nat.le_refl _) _).setCell (p := ⟨w.heap.size, 2, none⟩) (Nat.le_refl _) _⟩
    · have hPb : (P.toList == []) = false := by
        rw [beq_eq_false_iff_ne, hPl]
        exact hp
      replace HCI := Lib.hid (HCI.out hp)
      replace HCN := Lib.hid (HCN.out hp)
      clear hCT hPl hp
      go_enter Tryd.func12, Tryd.ntmps12
      go_wp2_with fail
      go_at_call 28
      refine (HC.out _).mono ?_
      rintro e wB ⟨rfl, hb⟩
      have SB := Sep.keep S1 hb
      clear hb S1
      go_wp2_with fail
      go_at_call 29
      refine (HL.out _).mono ?_
      rintro e wC ⟨rfl, hb⟩
      have SC := Sep.keep SB hb
      clear hb SB
      obtain ⟨g, hg⟩ : ∃ g, g = wC.heap.size := ⟨_, rfl⟩
      have SD := push_box SC 25 #[.int .i64 3, .int .i64 0, .string T] g hg
      subst hg
      by_cases hok : ∃ v, Lib.atoiAll (P).data.toList = .ok v
      · obtain ⟨v, hv⟩ := hok
        have HCa := Lib.hid (HCI.out v hv)
        obtain ⟨vb0, vb1⟩ := Lib.atoiAll_bounds hv
        have HA := Lib.hid (fun w => atoi_ok P (by omega) v hv w)
        clear hv
        go_wp2_with fail
        go_at_call 30
        refine (HA.out _).mono ?_
        rintro e w6 ⟨rfl, hb⟩
        have S6 := Sep.keep SD hb
        clear hb SD
        have S7 := Sd.put_box S6 1 rfl 1 (.int .i64 v)
        obtain ⟨z0, z1, z2, f0, f1, f2⟩ := Row.facts3 (box_at S6 0 rfl)
        obtain ⟨y0, y1, y2, g0, g1, g2⟩ := Row.facts3 (show Row _ wC.heap.size 25 #[.int .i64 3, .int .i64 0, .string T] from box_at S6 1 rfl)
        obtain ⟨k0, k1, k2, -, -, -⟩ := Row.facts3 (show Row _ wC.heap.size 25 #[.int .i64 3, .int .i64 v, .string T] from box_at S7 1 rfl)
        have HP := Lib.hid (parI_is HCa.out)
        have HK := Lib.hid (fun w => implIsKey_any ⟨3, v, T⟩ (by show ByteArray.size T ≤ _; omega) w)
        have HF := Lib.hid (fun w ht => implFormatKey_any ⟨3, v, T⟩ (by show ByteArray.size T ≤ _; omega) w ht)
        obtain ⟨ik, hik⟩ : ∃ b, isK ⟨3, v, T⟩ = b := ⟨_, rfl⟩
        obtain ⟨F, hF⟩ : ∃ F : ByteArray, F = strU (fmtU ⟨3, v, T⟩) := ⟨_, rfl⟩
        obtain ⟨q, hq⟩ : ∃ b, (F.toList == s.toList) = b := ⟨_, rfl⟩
        have hq2 : (fmtU ⟨3, v, T⟩ == s.data.toList) = q := by rw [← hq, hF, ByteArray.toList_eq, ByteArray.toList_eq, strU_data]
        rw [hik] at HK
        rw [← hF] at HF
        rw [hik, hq2] at HP
        simp only [K.v] at HK HF
        clear hik hF hq2
        go_wp2_with fail
        go_at_call 16
        with_reducible refine (HK.out _).mono ?_
        rintro e w8 ⟨rfl, hb⟩
        have S8 := Sep.keep S7 hb
        clear hb
        clear z0 z1 z2 f0 f1 f2 y0 y1 y2 g0 g1 g2 k0 k1 k2
        obtain ⟨z0, z1, z2, f0, f1, f2⟩ := Row.facts3 (box_at S8 0 rfl)
        obtain ⟨y0, y1, y2, g0, g1, g2⟩ := Row.facts3 (show Row _ wC.heap.size 25 #[.int .i64 3, .int .i64 v, .string T] from box_at S8 1 rfl)
        cases ik with
        | false =>
          have HD := Lib.hid (par_no (HP.out.trans rfl))
          go_wp2_with fail
          refine bodyPost_ret (v := .tuple #[K.zero.v, .bool false]) (by simp [results, Tryd.results12, go_sem, K.v, K.zero, z0, z1, z2]) rfl ?_
          exact ⟨by unfold PkE; rw [HD.out.1, HD.out.2], ((S8.old.setCell (p := ⟨w.heap.size, 0, none⟩) (Nat.le_refl _) _).setCell (p := ⟨w.heap.size, 1, none⟩) (Nat.le_refl _) _).setCell (p := ⟨w.heap.size, 2, none⟩) (Nat.le_refl _) _⟩
        | true =>
          go_wp2_with fail
          go_at_call 13
          with_reducible refine (HF.out _ (HT.out.1.below S8.old)).mono ?_
          rintro e w9 ⟨rfl, hb⟩
          have S9 := Sep.keep S8 hb
          clear hb
          clear z0 z1 z2 f0 f1 f2 y0 y1 y2 g0 g1 g2
          obtain ⟨z0, z1, z2, f0, f1, f2⟩ := Row.facts3 (box_at S9 0 rfl)
          obtain ⟨y0, y1, y2, g0, g1, g2⟩ := Row.facts3 (show Row _ wC.heap.size 25 #[.int .i64 3, .int .i64 v, .string T] from box_at S9 1 rfl)
          cases q with
          | false =>
            have HD := Lib.hid (par_no (HP.out.trans rfl))
            go_wp2_with fail
            refine bodyPost_ret (v := .tuple #[K.zero.v, .bool false]) (by simp [results, Tryd.results12, go_sem, K.v, K.zero, z0, z1, z2]) rfl ?_
            exact ⟨by unfold PkE; rw [HD.out.1, HD.out.2], ((S9.old.setCell (p := ⟨w.heap.size, 0, none⟩) (Nat.le_refl _) _).setCell (p := ⟨w.heap.size, 1, none⟩) (Nat.le_refl _) _).setCell (p := ⟨w.heap.size, 2, none⟩) (Nat.le_refl _) _⟩
          | true =>
            have HD := Lib.hid (par_yes (HP.out.trans rfl))
            go_wp2_with fail
            refine bodyPost_ret (v := .tuple #[K.v ⟨3, v, T⟩, .bool true]) (by simp [results, Tryd.results12, go_sem, K.v, z0, z1, z2]) rfl ?_
            exact ⟨by unfold PkE; rw [HD.out.1, HD.out.2], ((S9.old.setCell (p := ⟨w.heap.size, 0, none⟩) (Nat.le_refl _) _).setCell (p := ⟨w.heap.size, 1, none⟩) (Nat.le_refl _) _).setCell (p := ⟨w.heap.size, 2, none⟩) (Nat.le_refl _) _⟩
      · have HD := Lib.hid (par_no (parI_no (HCN.out (fun v hv => hok ⟨v, hv⟩))))
        have HA := Lib.hid (fun w hse => atoi_no P (by omega) (fun v hv => hok ⟨v, hv⟩) w hse)
        go_wp2_with fail
        go_at_call 30
        refine (HA.out _ (HT.out.2.below SD.old)).mono ?_
        rintro e w6 ⟨en, et, ep, rfl, hb⟩
        have S6 := Sep.keep SD hb
        clear hb SD
        obtain ⟨z0, z1, z2, f0, f1, f2⟩ := Row.facts3 (box_at S6 0 rfl)
        obtain ⟨y0, y1, y2, g0, g1, g2⟩ := Row.facts3 (show Row _ wC.heap.size 25 #[.int .i64 3, .int .i64 0, .string T] from box_at S6 1 rfl)
        go_wp2_with fail
        refine bodyPost_ret (v := .tuple #[K.zero.v, .bool false]) (by simp [results, Tryd.results12, go_sem, K.v, K.zero, z0, z1, z2]) rfl ?_
        exact ⟨by unfold PkE; rw [HD.out.1, HD.out.2], ((S6.old.setCell (p := ⟨w.heap.size, 0, none⟩) (Nat.le_refl _) _).setCell (p := ⟨w.heap.size, 1, none⟩) (Nat.le_refl _) _).setCell (p := ⟨w.heap.size, 2, none⟩) (Nat.le_refl _) _⟩
end Go.Proofs.YtenmdecooamaaaaDoor.L4
