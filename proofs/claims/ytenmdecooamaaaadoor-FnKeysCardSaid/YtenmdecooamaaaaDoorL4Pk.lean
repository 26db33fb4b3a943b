/-
  The contract of chapter 4's ParseKey of the specification. Condition: a string of at most 2^40 bytes.
-/
import Derived.Test.YtenmdecooamaaaaDoorL4Fk
import Derived.Test.YtenmdecooamaaaaDoorL4Dec
import Derived.Test.YtenmdecooamaaaaDoorL1Parse
namespace Go.Proofs.YtenmdecooamaaaaDoor.L4
open L1 (pOk pVal)
open Go.ChangeShapes Go.WideShapes Go.ChangeAt Go.RowKit Mem Sl Ex L2
set_option linter.unusedVariables false

def parK (s : ByteArray) : K := oK (parO s.data.toList)
def parB (s : ByteArray) : Bool := (parO s.data.toList).isSome
theorem par_no {s : ByteArray} (h : parO s.data.toList = none) : parK s = K.zero ∧ parB s = false := by unfold parK parB oK; rw [h]; exact ⟨rfl, rfl⟩
theorem par_yes {s : ByteArray} {k : K} (h : parO s.data.toList = some k) : parK s = k ∧ parB s = true := by unfold parK parB oK; rw [h]; exact ⟨rfl, rfl⟩
def PkE (s : ByteArray) : Ending := .returned (.tuple #[(parK s).v, .bool (parB s)])
theorem par_is {u : List UInt8} {k : K} (h : candT u = some k) : parO u = if isK k && (fmtU k == u) then some k else none := by
  unfold parO
  rw [h, Option.filter_some]
theorem split_at (u : List UInt8) (k : Nat) (h : ∀ j (hj : j < u.length), j < k → u[j] ≠ 39) (h2 : ∀ hj : k < u.length, u[k] = 39) (hk : k ≤ u.length) : hd u = u.take k ∧ tl u = u.drop k := by
  have hn : (39 : UInt8) ∉ u.take k := fun hm => by
    obtain ⟨j, hj, e⟩ := List.getElem_of_mem hm
    rw [List.getElem_take] at e
    rw [List.length_take] at hj
    exact h j (by omega) (by omega) e
  by_cases hlt : k < u.length
  · have e : u = u.take k ++ 39 :: u.drop (k + 1) := by
      have := List.drop_eq_getElem_cons hlt
      rw [h2 hlt] at this
      rw [← this, List.take_append_drop]
    have e1 := hd_app (u.take k) (u.drop (k + 1)) hn
    have e2 := tl_app (u.take k) (u.drop (k + 1)) hn
    rw [← e] at e1 e2
    have := List.drop_eq_getElem_cons hlt
    rw [h2 hlt] at this
    exact ⟨e1, e2.trans this.symm⟩
  · have e : u.take k = u := List.take_of_length_le (by omega)
    rw [e] at hn ⊢
    exact ⟨hd_all u hn, (tl_all u hn).trans (List.drop_of_length_le (by omega)).symm⟩

theorem cand_e : candT [] = some ⟨1, 0, ⟨#[]⟩⟩ := by
  unfold candT
  rw [show hd [] = [] from rfl, if_pos rfl]
  rfl
theorem cand_t {u : List UInt8} (h1 : hd u = []) (h2 : tl u ≠ []) {tx : ByteArray} (h3 : tx.data.toList = (tl u).tail) : candT u = some ⟨2, 0, tx⟩ := by
  unfold candT
  rw [if_pos h1, if_neg h2]
  congr 1
  exact K.ext' rfl rfl (by simp only [K.t]; exact h3.symm)
theorem cand_n {u p : List UInt8} (h1 : hd u = p) (hp : p ≠ []) : candT u = (rdn p).map fun n => ⟨if tl u = [] then 1 else 3, n, ⟨(tl u).tail.toArray⟩⟩ := by
  unfold candT
  rw [h1, if_neg hp]
theorem cand_no {u p : List UInt8} (h1 : hd u = p) (hp : p ≠ []) (h : rdn p = none) : parO u = none := by
  unfold parO
  rw [cand_n h1 hp, h]
  rfl
theorem cand_y1 {u p : List UInt8} {n : Int} (h1 : hd u = p) (hp : p ≠ []) (h : rdn p = some n) (ht : tl u = []) : candT u = some ⟨1, n, ⟨#[]⟩⟩ := by
  rw [cand_n h1 hp, h, ht]
  rfl
theorem cand_y3 {u p : List UInt8} {n : Int} (h1 : hd u = p) (hp : p ≠ []) (h : rdn p = some n) (ht : tl u ≠ []) {tx : ByteArray} (h3 : tx.data.toList = (tl u).tail) : candT u = some ⟨3, n, tx⟩ := by
  rw [cand_n h1 hp, h]
  simp only [Option.map_some, if_neg ht]
  congr 1
  exact K.ext' rfl rfl (by simp only [K.t]; exact h3.symm)
theorem rdn_neg (q : List UInt8) : rdn (45 :: q) = if pOk q then some (-(pVal q)) else none := rfl
theorem rdn_pos {p : List UInt8} (h : ∀ q, p ≠ 45 :: q) : rdn p = if pOk p then some (pVal p) else none := by
  unfold rdn
  split
  · rename_i q
    exact absurd rfl (h q)
  · rfl
theorem ext_data (s : ByteArray) (i j : Nat) : (s.extract i j).data.toList = (s.data.toList.drop i).take (j - i) := by
  rw [ByteArray.data_extract]
  simp [Array.toList_extract, List.extract_eq_take_drop]
theorem Two.put {w wr : World} {t : TypeId} {k : K} (h : Two w wr t k) (i : Nat) (v : Value) {k' : K} (hk : k.cells.setIfInBounds i v = k'.cells) : Two w (wr.setCell ⟨w.heap.size + 1, i, none⟩ v) t k' :=
  ⟨Row.apart h.z i v (by omega), by rw [← hk]; exact h.k.put i v, h.b.setCell (by show w.heap.size ≤ w.heap.size + 1; omega) v⟩

theorem minus_is {p r : ByteArray} (hp : 0 < p.size) (hm : (((p[0]'hp).toNat : Int) == 45) = true) (hr : p.extract 1 p.size = r) : p.data.toList = 45 :: r.data.toList := by
  have h45 : (p[0]'hp) = 45 := by
    have h : (((p[0]'hp).toNat : Int)) = 45 := by simpa using hm
    exact UInt8.toNat_inj.1 (by show _ = 45; omega)
  have hl : p.data.toList.length = p.size := Array.length_toList
  rw [← hr, ext_data, List.take_of_length_le (by rw [List.length_drop]; omega)]
  have h0 : 0 < p.data.toList.length := by omega
  have := List.drop_eq_getElem_cons h0
  rw [List.drop_zero] at this
  rw [this]
  congr 1
theorem minus_not {p : ByteArray} (hp : 0 < p.size) (hm : ¬ (((p[0]'hp).toNat : Int) == 45) = true) : ∀ q, p.data.toList ≠ 45 :: q := by
  intro q h
  apply hm
  have h0 : 0 < p.data.toList.length := by rw [h]; simp
  have : (p[0]'hp) = p.data.toList[0] := rfl
  rw [this]
  simp [h]
set_option maxHeartbeats 4000000 in
theorem specParseKey_any (s : ByteArray) (hs : s.size ≤ 1099511627776) (w : World) :
    Calls Tryd.prog 15 #[.string s] w fun e w' => e = PkE s ∧ Below w.heap.size w w' := by
  have hsz : s.data.toList.length = s.size := by rw [Array.length_toList]; rfl
  have HZ := Lib.hid hsz
  have hs' : (s.size : Int) ≤ 1099511627776 := by omega
  clear hsz hs
  go_enter Tryd.func15, Tryd.ntmps15
  go_wp2
  go_loop [4, 5] (fun a i => ∃ (k j : Nat) (v : Int), k ≤ s.size ∧ j ≤ k ∧ v = (j : Int) - 1 ∧ i = .int .i64 v ∧ a = .int .i64 k ∧ Hid ((∀ hj : k < s.data.toList.length, s.data.toList[k] = 39) ∧ ∀ q (hq : q < s.data.toList.length), j ≤ q → q < k → s.data.toList[q] ≠ 39)) (fun _ i => (intOf i + 1).toNat)
  case atStart => exact ⟨s.size, s.size, _, Nat.le_refl _, Nat.le_refl _, rfl, rfl, rfl, fun hj => by have := HZ.out; omega, fun q hq h1 h2 => by omega⟩
  case round =>
    obtain ⟨k, j, v, hk, hj, hv, rfl, rfl, hrel⟩ := hrel
    by_cases hj0 : j = 0
    · subst hj0
      obtain rfl : v = -1 := by omega
      obtain ⟨e1, e2⟩ := split_at s.data.toList k (fun q hq hqk => hrel.out.2 q hq (Nat.zero_le _) hqk) hrel.out.1 (by rw [HZ.out]; exact hk)
      have E1 := Lib.hid e1
      have E2 := Lib.hid e2
      clear e1 e2 hrel hv hj
      rcases Nat.eq_zero_or_pos k with rfl | hk0
      · by_cases hs0 : s.size = 0
        · have HCa := Lib.hid (show candT s.data.toList = some ⟨1, 0, ⟨#[]⟩⟩ by rw [List.eq_nil_of_length_eq_zero (HZ.out.trans hs0)]; exact cand_e)
          obtain ⟨wA, hwA⟩ : ∃ u, u = (w.alloc (.cells #[.int .i64 0, .int .i64 0, .string ⟨#[]⟩] 25)).alloc (.cells #[.int .i64 1, .int .i64 0, .string ⟨#[]⟩] 25) := ⟨_, rfl⟩
          have TA0 : Two w wA 25 ⟨1, 0, ⟨#[]⟩⟩ := by rw [hwA]; exact Two.made w _ ⟨1, 0, ⟨#[]⟩⟩
          have TA := Lib.hid TA0
          clear TA0 E1 E2
          go_wp2_with fail
          go_at_call 36
          rw [← hwA]
          clear hwA
          have hx : (⟨#[]⟩ : ByteArray).size = 0 := rfl
          have HP := Lib.hid (par_is HCa.out)
          have HK := Lib.hid (fun w => specIsKey_any ⟨1, 0, ⟨#[]⟩⟩ (by show ByteArray.size ⟨#[]⟩ ≤ _; omega) w)
          have HF := Lib.hid (fun w => specFormatKey_any ⟨1, 0, ⟨#[]⟩⟩ (by show ByteArray.size ⟨#[]⟩ ≤ _; omega) w)
          obtain ⟨ik, hik⟩ : ∃ b, isK ⟨1, 0, ⟨#[]⟩⟩ = b := ⟨_, rfl⟩
          obtain ⟨F, hF⟩ : ∃ F : ByteArray, F = strU (fmtU ⟨1, 0, ⟨#[]⟩⟩) := ⟨_, rfl⟩
          obtain ⟨q, hq⟩ : ∃ b, (F.toList == s.toList) = b := ⟨_, rfl⟩
          have hq2 : (fmtU ⟨1, 0, ⟨#[]⟩⟩ == s.data.toList) = q := by rw [← hq, hF, ByteArray.toList_eq, ByteArray.toList_eq, strU_data]
          rw [hik] at HK
          rw [← hF] at HF
          rw [hik, hq2] at HP
          simp only [K.v] at HK HF
          clear hik hF hq2
          with_reducible refine (HK.out wA).mono ?_
          rintro e w4 ⟨rfl, h4⟩
          have T4 := Lib.hid (TA.out.next h4)
          clear h4
          obtain ⟨z0, z1, z2, f0, f1, f2⟩ := Row.facts3 T4.out.z
          obtain ⟨y0, y1, y2, g0, g1, g2⟩ := Row.facts3 (show Row w4 (w.heap.size + 1) 25 #[.int .i64 1, .int .i64 0, .string ⟨#[]⟩] from T4.out.k)
          cases ik with
          | false =>
            have HD := Lib.hid (par_no (HP.out.trans rfl))
            go_wp2_with fail
            refine bodyPost_ret (v := .tuple #[K.zero.v, .bool false]) (by simp [results, Tryd.results15, go_sem, K.v, K.zero, z0, z1, z2]) rfl ?_
            exact ⟨by unfold PkE; rw [HD.out.1, HD.out.2], (((T4.out.b.setCell (p := ⟨w.heap.size, 0, none⟩) (Nat.le_refl _) _).setCell (p := ⟨w.heap.size, 1, none⟩) (Nat.le_refl _) _).setCell (p := ⟨w.heap.size, 2, none⟩) (Nat.le_refl _) _)⟩
          | true =>
            go_wp2_with fail
            go_at_call 18
            with_reducible refine (HF.out w4).mono ?_
            rintro e w5 ⟨rfl, h5⟩
            have T5 := Lib.hid (T4.out.next h5)
            clear h5 z0 z1 z2 f0 f1 f2 y0 y1 y2 g0 g1 g2
            obtain ⟨z0, z1, z2, f0, f1, f2⟩ := Row.facts3 T5.out.z
            obtain ⟨y0, y1, y2, g0, g1, g2⟩ := Row.facts3 (show Row w5 (w.heap.size + 1) 25 #[.int .i64 1, .int .i64 0, .string ⟨#[]⟩] from T5.out.k)
            cases q with
            | false =>
              have HD := Lib.hid (par_no (HP.out.trans rfl))
              go_wp2_with fail
              refine bodyPost_ret (v := .tuple #[K.zero.v, .bool false]) (by simp [results, Tryd.results15, go_sem, K.v, K.zero, z0, z1, z2]) rfl ?_
              exact ⟨by unfold PkE; rw [HD.out.1, HD.out.2], (((T5.out.b.setCell (p := ⟨w.heap.size, 0, none⟩) (Nat.le_refl _) _).setCell (p := ⟨w.heap.size, 1, none⟩) (Nat.le_refl _) _).setCell (p := ⟨w.heap.size, 2, none⟩) (Nat.le_refl _) _)⟩
            | true =>
              have HD := Lib.hid (par_yes (HP.out.trans rfl))
              go_wp2_with fail
              refine bodyPost_ret (v := .tuple #[K.v ⟨1, 0, ⟨#[]⟩⟩, .bool true]) (by simp [results, Tryd.results15, go_sem, K.v, z0, z1, z2]) rfl ?_
              exact ⟨by unfold PkE; rw [HD.out.1, HD.out.2], (((T5.out.b.setCell (p := ⟨w.heap.size, 0, none⟩) (Nat.le_refl _) _).setCell (p := ⟨w.heap.size, 1, none⟩) (Nat.le_refl _) _).setCell (p := ⟨w.heap.size, 2, none⟩) (Nat.le_refl _) _)⟩
        · have hX : (s.extract (0 + 1) s.size).size ≤ s.size := by simp
          have HX := Lib.hid (show candT s.data.toList = some ⟨2, 0, s.extract (0 + 1) s.size⟩ by
            have h2 := E2.out
            rw [List.drop_zero] at h2
            exact cand_t (by rw [E1.out]; rfl) (by rw [h2]; intro h; rw [h] at HZ; exact hs0 HZ.out.symm) (by rw [ext_data, h2, ← HZ.out]; simp [List.take_of_length_le]))
          have hlt0 : (0 : Int) < (s.size : Int) := by omega
          obtain ⟨X, hXe⟩ : ∃ X, X = s.extract (0 + 1) s.size := ⟨_, rfl⟩
          rw [← hXe] at hX HX
          have HCa := HX
          have hXe' : s.extract 1 s.size = X := hXe.symm
          obtain ⟨wA, hwA⟩ : ∃ u, u = (w.alloc (.cells #[.int .i64 0, .int .i64 0, .string ⟨#[]⟩] 25)).alloc (.cells #[.int .i64 2, .int .i64 0, .string X] 25) := ⟨_, rfl⟩
          have TA0 : Two w wA 25 ⟨2, 0, X⟩ := by rw [hwA]; exact Two.made w _ ⟨2, 0, X⟩
          have TA := Lib.hid TA0
          clear TA0 E1 E2 HX hXe
          go_wp2_with fail
          go_at_call 36
          rw [← hwA]
          clear hwA
          have HP := Lib.hid (par_is HCa.out)
          have HK := Lib.hid (fun w => specIsKey_any ⟨2, 0, X⟩ (by show ByteArray.size X ≤ _; omega) w)
          have HF := Lib.hid (fun w => specFormatKey_any ⟨2, 0, X⟩ (by show ByteArray.size X ≤ _; omega) w)
          obtain ⟨ik, hik⟩ : ∃ b, isK ⟨2, 0, X⟩ = b := ⟨_, rfl⟩
          obtain ⟨F, hF⟩ : ∃ F : ByteArray, F = strU (fmtU ⟨2, 0, X⟩) := ⟨_, rfl⟩
          obtain ⟨q, hq⟩ : ∃ b, (F.toList == s.toList) = b := ⟨_, rfl⟩
          have hq2 : (fmtU ⟨2, 0, X⟩ == s.data.toList) = q := by rw [← hq, hF, ByteArray.toList_eq, ByteArray.toList_eq, strU_data]
          rw [hik] at HK
          rw [← hF] at HF
          rw [hik, hq2] at HP
          simp only [K.v] at HK HF
          clear hik hF hq2
          with_reducible refine (HK.out wA).mono ?_
          rintro e w4 ⟨rfl, h4⟩
          have T4 := Lib.hid (TA.out.next h4)
          clear h4
          obtain ⟨z0, z1, z2, f0, f1, f2⟩ := Row.facts3 T4.out.z
          obtain ⟨y0, y1, y2, g0, g1, g2⟩ := Row.facts3 (show Row w4 (w.heap.size + 1) 25 #[.int .i64 2, .int .i64 0, .string X] from T4.out.k)
          cases ik with
          | false =>
            have HD := Lib.hid (par_no (HP.out.trans rfl))
            go_wp2_with fail
            refine bodyPost_ret (v := .tuple #[K.zero.v, .bool false]) (by simp [results, Tryd.results15, go_sem, K.v, K.zero, z0, z1, z2]) rfl ?_
            exact ⟨by unfold PkE; rw [HD.out.1, HD.out.2], (((T4.out.b.setCell (p := ⟨w.heap.size, 0, none⟩) (Nat.le_refl _) _).setCell (p := ⟨w.heap.size, 1, none⟩) (Nat.le_refl _) _).setCell (p := ⟨w.heap.size, 2, none⟩) (Nat.le_refl _) _)⟩
          | true =>
            go_wp2_with fail
            go_at_call 18
            with_reducible refine (HF.out w4).mono ?_
            rintro e w5 ⟨rfl, h5⟩
            have T5 := Lib.hid (T4.out.next h5)
            clear h5 z0 z1 z2 f0 f1 f2 y0 y1 y2 g0 g1 g2
            obtain ⟨z0, z1, z2, f0, f1, f2⟩ := Row.facts3 T5.out.z
            obtain ⟨y0, y1, y2, g0, g1, g2⟩ := Row.facts3 (show Row w5 (w.heap.size + 1) 25 #[.int .i64 2, .int .i64 0, .string X] from T5.out.k)
            cases q with
            | false =>
              have HD := Lib.hid (par_no (HP.out.trans rfl))
              go_wp2_with fail
              refine bodyPost_ret (v := .tuple #[K.zero.v, .bool false]) (by simp [results, Tryd.results15, go_sem, K.v, K.zero, z0, z1, z2]) rfl ?_
              exact ⟨by unfold PkE; rw [HD.out.1, HD.out.2], (((T5.out.b.setCell (p := ⟨w.heap.size, 0, none⟩) (Nat.le_refl _) _).setCell (p := ⟨w.heap.size, 1, none⟩) (Nat.le_refl _) _).setCell (p := ⟨w.heap.size, 2, none⟩) (Nat.le_refl _) _)⟩
            | true =>
              have HD := Lib.hid (par_yes (HP.out.trans rfl))
              go_wp2_with fail
              refine bodyPost_ret (v := .tuple #[K.v ⟨2, 0, X⟩, .bool true]) (by simp [results, Tryd.results15, go_sem, K.v, z0, z1, z2]) rfl ?_
              exact ⟨by unfold PkE; rw [HD.out.1, HD.out.2], (((T5.out.b.setCell (p := ⟨w.heap.size, 0, none⟩) (Nat.le_refl _) _).setCell (p := ⟨w.heap.size, 1, none⟩) (Nat.le_refl _) _).setCell (p := ⟨w.heap.size, 2, none⟩) (Nat.le_refl _) _)⟩
      · have hkZ : (0 : Int) < (k : Int) := by omega
        obtain ⟨p, hp⟩ : ∃ p, s.extract 0 k = p := ⟨_, rfl⟩
        have hpd : p.data.toList = s.data.toList.take k := by rw [← hp, ext_data]; simp
        have hpz : p.size = k := by rw [← hp]; simp; omega
        have hpn : 0 < p.size := by omega
        have hp0 : (0 : Int) < (p.size : Int) := by omega
        have hps : p.size ≤ s.size := by omega
        have hpne := Lib.hid (show p.data.toList ≠ [] by intro h; have h2 : p.data.toList.length = p.size := Array.length_toList; rw [h] at h2; simp at h2; omega)
        replace E1 := Lib.hid (E1.out.trans hpd.symm)
        clear hpd hpz
        by_cases hkl : k < s.size
        · have hlt : (k : Int) < (s.size : Int) := by omega
          have hX : (s.extract (k + 1) s.size).size ≤ s.size := by simp
          have HT := Lib.hid (show tl s.data.toList ≠ [] ∧ (s.extract (k + 1) s.size).data.toList = (tl s.data.toList).tail by
            have h2 := E2.out
            rw [h2]
            exact ⟨fun h => by have h3 := congrArg List.length h; rw [List.length_drop, HZ.out] at h3; simp at h3; omega, by rw [ext_data, ← HZ.out]; simp [List.take_of_length_le]⟩)
          obtain ⟨X, hXe⟩ : ∃ X, s.extract (k + 1) s.size = X := ⟨_, rfl⟩
          rw [hXe] at hX HT
          clear E2
          by_cases hm : (((p[0]'hpn).toNat : Int) == 45) = true
          · obtain ⟨r, hr⟩ : ∃ r, p.extract 1 p.size = r := ⟨_, rfl⟩
            have hrd := minus_is hpn hm hr
            have hrz : r.size ≤ s.size := by rw [← hr]; simp; omega
            obtain ⟨N, hN⟩ : ∃ N, pVal r.data.toList = N := ⟨_, rfl⟩
            obtain ⟨ok, hok⟩ : ∃ b, pOk r.data.toList = b := ⟨_, rfl⟩
            have HPI := Lib.hid (fun w => L1.specParseInt_any r (by show r.size ≤ _; unfold maxLen; omega) w)
            rw [hN, hok] at HPI
            have hR := Lib.hid (show rdn p.data.toList = if ok then some (-N) else none by rw [hrd, rdn_neg, hok, hN])
            have hNb : 0 ≤ N ∧ N ≤ 1000000000000 := by rw [← hN]; exact L1.pVal_bounds _
            obtain ⟨hN0, hN1⟩ := hNb
            clear hrd hN hok
            obtain ⟨wA, hwA⟩ : ∃ u, u = (w.alloc (.cells #[.int .i64 0, .int .i64 0, .string ⟨#[]⟩] 25)).alloc (.cells #[.int .i64 2, .int .i64 0, .string X] 25) := ⟨_, rfl⟩
            have TA0 : Two w wA 25 ⟨2, 0, X⟩ := by rw [hwA]; exact Two.made w _ ⟨2, 0, X⟩
            have TA := Lib.hid TA0
            clear TA0
            go_wp2_with fail
            go_at_call 35
            rw [← hwA]
            clear hwA
            with_reducible refine (HPI.out wA).mono ?_
            rintro e w3 ⟨rfl, h3⟩
            have T3 := Lib.hid (TA.out.next h3)
            clear h3
            obtain ⟨z0, z1, z2, f0, f1, f2⟩ := Row.facts3 T3.out.z
            obtain ⟨y0, y1, y2, g0, g1, g2⟩ := Row.facts3 (show Row w3 (w.heap.size + 1) 25 #[.int .i64 2, .int .i64 0, .string X] from T3.out.k)
            cases ok with
            | false =>
              have HD := Lib.hid (par_no (cand_no E1.out hpne.out (hR.out.trans rfl)))
              go_wp2_with fail
              refine bodyPost_ret (v := .tuple #[K.zero.v, .bool false]) (by simp [results, Tryd.results15, go_sem, K.v, K.zero, z0, z1, z2]) rfl ?_
              exact ⟨by unfold PkE; rw [HD.out.1, HD.out.2], (((T3.out.b.setCell (p := ⟨w.heap.size, 0, none⟩) (Nat.le_refl _) _).setCell (p := ⟨w.heap.size, 1, none⟩) (Nat.le_refl _) _).setCell (p := ⟨w.heap.size, 2, none⟩) (Nat.le_refl _) _)⟩
            | true =>
              have HCa := Lib.hid (show candT s.data.toList = some ⟨3, -N, X⟩ from cand_y3 E1.out hpne.out (hR.out.trans rfl) HT.out.1 HT.out.2)
              obtain ⟨wB, hwB⟩ : ∃ u, u = ((w3.setCell ⟨w.heap.size + 1, 1, none⟩ (.int .i64 (-N))).setCell ⟨w.heap.size + 1, 0, none⟩ (.int .i64 3)) := ⟨_, rfl⟩
              have TB0 : Two w wB 25 ⟨3, -N, X⟩ := by rw [hwB]; exact ((T3.out.put 1 (.int .i64 (-N)) (k' := ⟨2, -N, X⟩) rfl).put 0 (.int .i64 3) (k' := ⟨3, -N, X⟩) rfl)
              have TB := Lib.hid TB0
              clear TB0
              go_wp2_with fail
              go_at_call 36
              rw [← hwB]
              clear hwB
              clear z0 z1 z2 f0 f1 f2 y0 y1 y2 g0 g1 g2
              have HP := Lib.hid (par_is HCa.out)
              have HK := Lib.hid (fun w => specIsKey_any ⟨3, -N, X⟩ (by show ByteArray.size X ≤ _; omega) w)
              have HF := Lib.hid (fun w => specFormatKey_any ⟨3, -N, X⟩ (by show ByteArray.size X ≤ _; omega) w)
              obtain ⟨ik, hik⟩ : ∃ b, isK ⟨3, -N, X⟩ = b := ⟨_, rfl⟩
              obtain ⟨F, hF⟩ : ∃ F : ByteArray, F = strU (fmtU ⟨3, -N, X⟩) := ⟨_, rfl⟩
              obtain ⟨q, hq⟩ : ∃ b, (F.toList == s.toList) = b := ⟨_, rfl⟩
              have hq2 : (fmtU ⟨3, -N, X⟩ == s.data.toList) = q := by rw [← hq, hF, ByteArray.toList_eq, ByteArray.toList_eq, strU_data]
              rw [hik] at HK
              rw [← hF] at HF
              rw [hik, hq2] at HP
              simp only [K.v] at HK HF
              clear hik hF hq2
              with_reducible refine (HK.out wB).mono ?_
              rintro e w4 ⟨rfl, h4⟩
              have T4 := Lib.hid (TB.out.next h4)
              clear h4
              obtain ⟨z0, z1, z2, f0, f1, f2⟩ := Row.facts3 T4.out.z
              obtain ⟨y0, y1, y2, g0, g1, g2⟩ := Row.facts3 (show Row w4 (w.heap.size + 1) 25 #[.int .i64 3, .int .i64 (-N), .string X] from T4.out.k)
              cases ik with
              | false =>
                have HD := Lib.hid (par_no (HP.out.trans rfl))
                go_wp2_with fail
                refine bodyPost_ret (v := .tuple #[K.zero.v, .bool false]) (by simp [results, Tryd.results15, go_sem, K.v, K.zero, z0, z1, z2]) rfl ?_
                exact ⟨by unfold PkE; rw [HD.out.1, HD.out.2], (((T4.out.b.setCell (p := ⟨w.heap.size, 0, none⟩) (Nat.le_refl _) _).setCell (p := ⟨w.heap.size, 1, none⟩) (Nat.le_refl _) _).setCell (p := ⟨w.heap.size, 2, none⟩) (Nat.le_refl _) _)⟩
              | true =>
                go_wp2_with fail
                go_at_call 18
                with_reducible refine (HF.out w4).mono ?_
                rintro e w5 ⟨rfl, h5⟩
                have T5 := Lib.hid (T4.out.next h5)
                clear h5 z0 z1 z2 f0 f1 f2 y0 y1 y2 g0 g1 g2
                obtain ⟨z0, z1, z2, f0, f1, f2⟩ := Row.facts3 T5.out.z
                obtain ⟨y0, y1, y2, g0, g1, g2⟩ := Row.facts3 (show Row w5 (w.heap.size + 1) 25 #[.int .i64 3, .int .i64 (-N), .string X] from T5.out.k)
                cases q with
                | false =>
                  have HD := Lib.hid (par_no (HP.out.trans rfl))
                  go_wp2_with fail
                  refine bodyPost_ret (v := .tuple #[K.zero.v, .bool false]) (by simp [results, Tryd.results15, go_sem, K.v, K.zero, z0, z1, z2]) rfl ?_
                  exact ⟨by unfold PkE; rw [HD.out.1, HD.out.2], (((T5.out.b.setCell (p := ⟨w.heap.size, 0, none⟩) (Nat.le_refl _) _).setCell (p := ⟨w.heap.size, 1, none⟩) (Nat.le_refl _) _).setCell (p := ⟨w.heap.size, 2, none⟩) (Nat.le_refl _) _)⟩
                | true =>
                  have HD := Lib.hid (par_yes (HP.out.trans rfl))
                  go_wp2_with fail
                  refine bodyPost_ret (v := .tuple #[K.v ⟨3, -N, X⟩, .bool true]) (by simp [results, Tryd.results15, go_sem, K.v, z0, z1, z2]) rfl ?_
                  exact ⟨by unfold PkE; rw [HD.out.1, HD.out.2], (((T5.out.b.setCell (p := ⟨w.heap.size, 0, none⟩) (Nat.le_refl _) _).setCell (p := ⟨w.heap.size, 1, none⟩) (Nat.le_refl _) _).setCell (p := ⟨w.heap.size, 2, none⟩) (Nat.le_refl _) _)⟩
          · have hrd := minus_not hpn hm
            have hm' := eq_false_of_ne_true hm
            clear hm
            obtain ⟨N, hN⟩ : ∃ N, pVal p.data.toList = N := ⟨_, rfl⟩
            obtain ⟨ok, hok⟩ : ∃ b, pOk p.data.toList = b := ⟨_, rfl⟩
            have HPI := Lib.hid (fun w => L1.specParseInt_any p (by show p.size ≤ _; unfold maxLen; omega) w)
            rw [hN, hok] at HPI
            have hR := Lib.hid (show rdn p.data.toList = if ok then some N else none by rw [rdn_pos hrd, hok, hN])
            have hNb : 0 ≤ N ∧ N ≤ 1000000000000 := by rw [← hN]; exact L1.pVal_bounds _
            obtain ⟨hN0, hN1⟩ := hNb
            clear hrd hN hok
            obtain ⟨wA, hwA⟩ : ∃ u, u = (w.alloc (.cells #[.int .i64 0, .int .i64 0, .string ⟨#[]⟩] 25)).alloc (.cells #[.int .i64 2, .int .i64 0, .string X] 25) := ⟨_, rfl⟩
            have TA0 : Two w wA 25 ⟨2, 0, X⟩ := by rw [hwA]; exact Two.made w _ ⟨2, 0, X⟩
            have TA := Lib.hid TA0
            clear TA0
            go_wp2_with fail
            go_at_call 35
            rw [← hwA]
            clear hwA
            with_reducible refine (HPI.out wA).mono ?_
            rintro e w3 ⟨rfl, h3⟩
            have T3 := Lib.hid (TA.out.next h3)
            clear h3
            obtain ⟨z0, z1, z2, f0, f1, f2⟩ := Row.facts3 T3.out.z
            obtain ⟨y0, y1, y2, g0, g1, g2⟩ := Row.facts3 (show Row w3 (w.heap.size + 1) 25 #[.int .i64 2, .int .i64 0, .string X] from T3.out.k)
            cases ok with
            | false =>
              have HD := Lib.hid (par_no (cand_no E1.out hpne.out (hR.out.trans rfl)))
              go_wp2_with fail
              refine bodyPost_ret (v := .tuple #[K.zero.v, .bool false]) (by simp [results, Tryd.results15, go_sem, K.v, K.zero, z0, z1, z2]) rfl ?_
              exact ⟨by unfold PkE; rw [HD.out.1, HD.out.2], (((T3.out.b.setCell (p := ⟨w.heap.size, 0, none⟩) (Nat.le_refl _) _).setCell (p := ⟨w.heap.size, 1, none⟩) (Nat.le_refl _) _).setCell (p := ⟨w.heap.size, 2, none⟩) (Nat.le_refl _) _)⟩
            | true =>
              have HCa := Lib.hid (show candT s.data.toList = some ⟨3, N, X⟩ from cand_y3 E1.out hpne.out (hR.out.trans rfl) HT.out.1 HT.out.2)
              obtain ⟨wB, hwB⟩ : ∃ u, u = ((w3.setCell ⟨w.heap.size + 1, 1, none⟩ (.int .i64 N)).setCell ⟨w.heap.size + 1, 0, none⟩ (.int .i64 3)) := ⟨_, rfl⟩
              have TB0 : Two w wB 25 ⟨3, N, X⟩ := by rw [hwB]; exact ((T3.out.put 1 (.int .i64 N) (k' := ⟨2, N, X⟩) rfl).put 0 (.int .i64 3) (k' := ⟨3, N, X⟩) rfl)
              have TB := Lib.hid TB0
              clear TB0
              go_wp2_with fail
              go_at_call 36
              rw [← hwB]
              clear hwB
              clear z0 z1 z2 f0 f1 f2 y0 y1 y2 g0 g1 g2
              have HP := Lib.hid (par_is HCa.out)
              have HK := Lib.hid (fun w => specIsKey_any ⟨3, N, X⟩ (by show ByteArray.size X ≤ _; omega) w)
              have HF := Lib.hid (fun w => specFormatKey_any ⟨3, N, X⟩ (by show ByteArray.size X ≤ _; omega) w)
              obtain ⟨ik, hik⟩ : ∃ b, isK ⟨3, N, X⟩ = b := ⟨_, rfl⟩
              obtain ⟨F, hF⟩ : ∃ F : ByteArray, F = strU (fmtU ⟨3, N, X⟩) := ⟨_, rfl⟩
              obtain ⟨q, hq⟩ : ∃ b, (F.toList == s.toList) = b := ⟨_, rfl⟩
              have hq2 : (fmtU ⟨3, N, X⟩ == s.data.toList) = q := by rw [← hq, hF, ByteArray.toList_eq, ByteArray.toList_eq, strU_data]
              rw [hik] at HK
              rw [← hF] at HF
              rw [hik, hq2] at HP
              simp only [K.v] at HK HF
              clear hik hF hq2
              with_reducible refine (HK.out wB).mono ?_
              rintro e w4 ⟨rfl, h4⟩
              have T4 := Lib.hid (TB.out.next h4)
              clear h4
              obtain ⟨z0, z1, z2, f0, f1, f2⟩ := Row.facts3 T4.out.z
              obtain ⟨y0, y1, y2, g0, g1, g2⟩ := Row.facts3 (show Row w4 (w.heap.size + 1) 25 #[.int .i64 3, .int .i64 N, .string X] from T4.out.k)
              cases ik with
              | false =>
                have HD := Lib.hid (par_no (HP.out.trans rfl))
                go_wp2_with fail
                refine bodyPost_ret (v := .tuple #[K.zero.v, .bool false]) (by simp [results, Tryd.results15, go_sem, K.v, K.zero, z0, z1, z2]) rfl ?_
                exact ⟨by unfold PkE; rw [HD.out.1, HD.out.2], (((T4.out.b.setCell (p := ⟨w.heap.size, 0, none⟩) (Nat.le_refl _) _).setCell (p := ⟨w.heap.size, 1, none⟩) (Nat.le_refl _) _).setCell (p := ⟨w.heap.size, 2, none⟩) (Nat.le_refl _) _)⟩
              | true =>
                go_wp2_with fail
                go_at_call 18
                with_reducible refine (HF.out w4).mono ?_
                rintro e w5 ⟨rfl, h5⟩
                have T5 := Lib.hid (T4.out.next h5)
                clear h5 z0 z1 z2 f0 f1 f2 y0 y1 y2 g0 g1 g2
                obtain ⟨z0, z1, z2, f0, f1, f2⟩ := Row.facts3 T5.out.z
                obtain ⟨y0, y1, y2, g0, g1, g2⟩ := Row.facts3 (show Row w5 (w.heap.size + 1) 25 #[.int .i64 3, .int .i64 N, .string X] from T5.out.k)
                cases q with
                | false =>
                  have HD := Lib.hid (par_no (HP.out.trans rfl))
                  go_wp2_with fail
                  refine bodyPost_ret (v := .tuple #[K.zero.v, .bool false]) (by simp [results, Tryd.results15, go_sem, K.v, K.zero, z0, z1, z2]) rfl ?_
                  exact ⟨by unfold PkE; rw [HD.out.1, HD.out.2], (((T5.out.b.setCell (p := ⟨w.heap.size, 0, none⟩) (Nat.le_refl _) _).setCell (p := ⟨w.heap.size, 1, none⟩) (Nat.le_refl _) _).setCell (p := ⟨w.heap.size, 2, none⟩) (Nat.le_refl _) _)⟩
                | true =>
                  have HD := Lib.hid (par_yes (HP.out.trans rfl))
                  go_wp2_with fail
                  refine bodyPost_ret (v := .tuple #[K.v ⟨3, N, X⟩, .bool true]) (by simp [results, Tryd.results15, go_sem, K.v, z0, z1, z2]) rfl ?_
                  exact ⟨by unfold PkE; rw [HD.out.1, HD.out.2], (((T5.out.b.setCell (p := ⟨w.heap.size, 0, none⟩) (Nat.le_refl _) _).setCell (p := ⟨w.heap.size, 1, none⟩) (Nat.le_refl _) _).setCell (p := ⟨w.heap.size, 2, none⟩) (Nat.le_refl _) _)⟩
        · have hge : ¬ (k : Int) < (s.size : Int) := by omega
          have HT := Lib.hid (show tl s.data.toList = [] by rw [E2.out]; exact List.drop_of_length_le (by rw [HZ.out]; omega))
          have hx : (⟨#[]⟩ : ByteArray).size = 0 := rfl
          clear E2
          by_cases hm : (((p[0]'hpn).toNat : Int) == 45) = true
          · obtain ⟨r, hr⟩ : ∃ r, p.extract 1 p.size = r := ⟨_, rfl⟩
            have hrd := minus_is hpn hm hr
            have hrz : r.size ≤ s.size := by rw [← hr]; simp; omega
            obtain ⟨N, hN⟩ : ∃ N, pVal r.data.toList = N := ⟨_, rfl⟩
            obtain ⟨ok, hok⟩ : ∃ b, pOk r.data.toList = b := ⟨_, rfl⟩
            have HPI := Lib.hid (fun w => L1.specParseInt_any r (by show r.size ≤ _; unfold maxLen; omega) w)
            rw [hN, hok] at HPI
            have hR := Lib.hid (show rdn p.data.toList = if ok then some (-N) else none by rw [hrd, rdn_neg, hok, hN])
            have hNb : 0 ≤ N ∧ N ≤ 1000000000000 := by rw [← hN]; exact L1.pVal_bounds _
            obtain ⟨hN0, hN1⟩ := hNb
            clear hrd hN hok
            obtain ⟨wA, hwA⟩ : ∃ u, u = (w.alloc (.cells #[.int .i64 0, .int .i64 0, .string ⟨#[]⟩] 25)).alloc (.cells #[.int .i64 1, .int .i64 0, .string ⟨#[]⟩] 25) := ⟨_, rfl⟩
            have TA0 : Two w wA 25 ⟨1, 0, ⟨#[]⟩⟩ := by rw [hwA]; exact Two.made w _ ⟨1, 0, ⟨#[]⟩⟩
            have TA := Lib.hid TA0
            clear TA0
            go_wp2_with fail
            go_at_call 35
            rw [← hwA]
            clear hwA
            with_reducible refine (HPI.out wA).mono ?_
            rintro e w3 ⟨rfl, h3⟩
            have T3 := Lib.hid (TA.out.next h3)
            clear h3
            obtain ⟨z0, z1, z2, f0, f1, f2⟩ := Row.facts3 T3.out.z
            obtain ⟨y0, y1, y2, g0, g1, g2⟩ := Row.facts3 (show Row w3 (w.heap.size + 1) 25 #[.int .i64 1, .int .i64 0, .string ⟨#[]⟩] from T3.out.k)
            cases ok with
            | false =>
              have HD := Lib.hid (par_no (cand_no E1.out hpne.out (hR.out.trans rfl)))
              go_wp2_with fail
              refine bodyPost_ret (v := .tuple #[K.zero.v, .bool false]) (by simp [results, Tryd.results15, go_sem, K.v, K.zero, z0, z1, z2]) rfl ?_
              exact ⟨by unfold PkE; rw [HD.out.1, HD.out.2], (((T3.out.b.setCell (p := ⟨w.heap.size, 0, none⟩) (Nat.le_refl _) _).setCell (p := ⟨w.heap.size, 1, none⟩) (Nat.le_refl _) _).setCell (p := ⟨w.heap.size, 2, none⟩) (Nat.le_refl _) _)⟩
            | true =>
              have HCa := Lib.hid (show candT s.data.toList = some ⟨1, -N, ⟨#[]⟩⟩ from cand_y1 E1.out hpne.out (hR.out.trans rfl) HT.out)
              obtain ⟨wB, hwB⟩ : ∃ u, u = (w3.setCell ⟨w.heap.size + 1, 1, none⟩ (.int .i64 (-N))) := ⟨_, rfl⟩
              have TB0 : Two w wB 25 ⟨1, -N, ⟨#[]⟩⟩ := by rw [hwB]; exact (T3.out.put 1 (.int .i64 (-N)) (k' := ⟨1, -N, ⟨#[]⟩⟩) rfl)
              have TB := Lib.hid TB0
              clear TB0
              go_wp2_with fail
              go_at_call 36
              rw [← hwB]
              clear hwB
              clear z0 z1 z2 f0 f1 f2 y0 y1 y2 g0 g1 g2
              have HP := Lib.hid (par_is HCa.out)
              have HK := Lib.hid (fun w => specIsKey_any ⟨1, -N, ⟨#[]⟩⟩ (by show ByteArray.size ⟨#[]⟩ ≤ _; omega) w)
              have HF := Lib.hid (fun w => specFormatKey_any ⟨1, -N, ⟨#[]⟩⟩ (by show ByteArray.size ⟨#[]⟩ ≤ _; omega) w)
              obtain ⟨ik, hik⟩ : ∃ b, isK ⟨1, -N, ⟨#[]⟩⟩ = b := ⟨_, rfl⟩
              obtain ⟨F, hF⟩ : ∃ F : ByteArray, F = strU (fmtU ⟨1, -N, ⟨#[]⟩⟩) := ⟨_, rfl⟩
              obtain ⟨q, hq⟩ : ∃ b, (F.toList == s.toList) = b := ⟨_, rfl⟩
              have hq2 : (fmtU ⟨1, -N, ⟨#[]⟩⟩ == s.data.toList) = q := by rw [← hq, hF, ByteArray.toList_eq, ByteArray.toList_eq, strU_data]
              rw [hik] at HK
              rw [← hF] at HF
              rw [hik, hq2] at HP
              simp only [K.v] at HK HF
              clear hik hF hq2
              with_reducible refine (HK.out wB).mono ?_
              rintro e w4 ⟨rfl, h4⟩
              have T4 := Lib.hid (TB.out.next h4)
              clear h4
              obtain ⟨z0, z1, z2, f0, f1, f2⟩ := Row.facts3 T4.out.z
              obtain ⟨y0, y1, y2, g0, g1, g2⟩ := Row.facts3 (show Row w4 (w.heap.size + 1) 25 #[.int .i64 1, .int .i64 (-N), .string ⟨#[]⟩] from T4.out.k)
              cases ik with
              | false =>
                have HD := Lib.hid (par_no (HP.out.trans rfl))
                go_wp2_with fail
                refine bodyPost_ret (v := .tuple #[K.zero.v, .bool false]) (by simp [results, Tryd.results15, go_sem, K.v, K.zero, z0, z1, z2]) rfl ?_
                exact ⟨by unfold PkE; rw [HD.out.1, HD.out.2], (((T4.out.b.setCell (p := ⟨w.heap.size, 0, none⟩) (Nat.le_refl _) _).setCell (p := ⟨w.heap.size, 1, none⟩) (Nat.le_refl _) _).setCell (p := ⟨w.heap.size, 2, none⟩) (Nat.le_refl _) _)⟩
              | true =>
                go_wp2_with fail
                go_at_call 18
                with_reducible refine (HF.out w4).mono ?_
                rintro e w5 ⟨rfl, h5⟩
                have T5 := Lib.hid (T4.out.next h5)
                clear h5 z0 z1 z2 f0 f1 f2 y0 y1 y2 g0 g1 g2
                obtain ⟨z0, z1, z2, f0, f1, f2⟩ := Row.facts3 T5.out.z
                obtain ⟨y0, y1, y2, g0, g1, g2⟩ := Row.facts3 (show Row w5 (w.heap.size + 1) 25 #[.int .i64 1, .int .i64 (-N), .string ⟨#[]⟩] from T5.out.k)
                cases q with
                | false =>
                  have HD := Lib.hid (par_no (HP.out.trans rfl))
                  go_wp2_with fail
                  refine bodyPost_ret (v := .tuple #[K.zero.v, .bool false]) (by simp [results, Tryd.results15, go_sem, K.v, K.zero, z0, z1, z2]) rfl ?_
                  exact ⟨by unfold PkE; rw [HD.out.1, HD.out.2], (((T5.out.b.setCell (p := ⟨w.heap.size, 0, none⟩) (Nat.le_refl _) _).setCell (p := ⟨w.heap.size, 1, none⟩) (Nat.le_refl _) _).setCell (p := ⟨w.heap.size, 2, none⟩) (Nat.le_refl _) _)⟩
                | true =>
                  have HD := Lib.hid (par_yes (HP.out.trans rfl))
                  go_wp2_with fail
                  refine bodyPost_ret (v := .tuple #[K.v ⟨1, -N, ⟨#[]⟩⟩, .bool true]) (by simp [results, Tryd.results15, go_sem, K.v, z0, z1, z2]) rfl ?_
                  exact ⟨by unfold PkE; rw [HD.out.1, HD.out.2], (((T5.out.b.setCell (p := ⟨w.heap.size, 0, none⟩) (Nat.le_refl _) _).setCell (p := ⟨w.heap.size, 1, none⟩) (Nat.le_refl _) _).setCell (p := ⟨w.heap.size, 2, none⟩) (Nat.le_refl _) _)⟩
          · have hrd := minus_not hpn hm
            have hm' := eq_false_of_ne_true hm
            clear hm
            obtain ⟨N, hN⟩ : ∃ N, pVal p.data.toList = N := ⟨_, rfl⟩
            obtain ⟨ok, hok⟩ : ∃ b, pOk p.data.toList = b := ⟨_, rfl⟩
            have HPI := Lib.hid (fun w => L1.specParseInt_any p (by show p.size ≤ _; unfold maxLen; omega) w)
            rw [hN, hok] at HPI
            have hR := Lib.hid (show rdn p.data.toList = if ok then some N else none by rw [rdn_pos hrd, hok, hN])
            have hNb : 0 ≤ N ∧ N ≤ 1000000000000 := by rw [← hN]; exact L1.pVal_bounds _
            obtain ⟨hN0, hN1⟩ := hNb
            clear hrd hN hok
            obtain ⟨wA, hwA⟩ : ∃ u, u = (w.alloc (.cells #[.int .i64 0, .int .i64 0, .string ⟨#[]⟩] 25)).alloc (.cells #[.int .i64 1, .int .i64 0, .string ⟨#[]⟩] 25) := ⟨_, rfl⟩
            have TA0 : Two w wA 25 ⟨1, 0, ⟨#[]⟩⟩ := by rw [hwA]; exact Two.made w _ ⟨1, 0, ⟨#[]⟩⟩
            have TA := Lib.hid TA0
            clear TA0
            go_wp2_with fail
            go_at_call 35
            rw [← hwA]
            clear hwA
            with_reducible refine (HPI.out wA).mono ?_
            rintro e w3 ⟨rfl, h3⟩
            have T3 := Lib.hid (TA.out.next h3)
            clear h3
            obtain ⟨z0, z1, z2, f0, f1, f2⟩ := Row.facts3 T3.out.z
            obtain ⟨y0, y1, y2, g0, g1, g2⟩ := Row.facts3 (show Row w3 (w.heap.size + 1) 25 #[.int .i64 1, .int .i64 0, .string ⟨#[]⟩] from T3.out.k)
            cases ok with
            | false =>
              have HD := Lib.hid (par_no (cand_no E1.out hpne.out (hR.out.trans rfl)))
              go_wp2_with fail
              refine bodyPost_ret (v := .tuple #[K.zero.v, .bool false]) (by simp [results, Tryd.results15, go_sem, K.v, K.zero, z0, z1, z2]) rfl ?_
              exact ⟨by unfold PkE; rw [HD.out.1, HD.out.2], (((T3.out.b.setCell (p := ⟨w.heap.size, 0, none⟩) (Nat.le_refl _) _).setCell (p := ⟨w.heap.size, 1, none⟩) (Nat.le_refl _) _).setCell (p := ⟨w.heap.size, 2, none⟩) (Nat.le_refl _) _)⟩
            | true =>
              have HCa := Lib.hid (show candT s.data.toList = some ⟨1, N, ⟨#[]⟩⟩ from cand_y1 E1.out hpne.out (hR.out.trans rfl) HT.out)
              obtain ⟨wB, hwB⟩ : ∃ u, u = (w3.setCell ⟨w.heap.size + 1, 1, none⟩ (.int .i64 N)) := ⟨_, rfl⟩
              have TB0 : Two w wB 25 ⟨1, N, ⟨#[]⟩⟩ := by rw [hwB]; exact (T3.out.put 1 (.int .i64 N) (k' := ⟨1, N, ⟨#[]⟩⟩) rfl)
              have TB := Lib.hid TB0
              clear TB0
              go_wp2_with fail
              go_at_call 36
              rw [← hwB]
              clear hwB
              clear z0 z1 z2 f0 f1 f2 y0 y1 y2 g0 g1 g2
              have HP := Lib.hid (par_is HCa.out)
              have HK := Lib.hid (fun w => specIsKey_any ⟨1, N, ⟨#[]⟩⟩ (by show ByteArray.size ⟨#[]⟩ ≤ _; omega) w)
              have HF := Lib.hid (fun w => specFormatKey_any ⟨1, N, ⟨#[]⟩⟩ (by show ByteArray.size ⟨#[]⟩ ≤ _; omega) w)
              obtain ⟨ik, hik⟩ : ∃ b, isK ⟨1, N, ⟨#[]⟩⟩ = b := ⟨_, rfl⟩
              obtain ⟨F, hF⟩ : ∃ F : ByteArray, F = strU (fmtU ⟨1, N, ⟨#[]⟩⟩) := ⟨_, rfl⟩
              obtain ⟨q, hq⟩ : ∃ b, (F.toList == s.toList) = b := ⟨_, rfl⟩
              have hq2 : (fmtU ⟨1, N, ⟨#[]⟩⟩ == s.data.toList) = q := by rw [← hq, hF, ByteArray.toList_eq, ByteArray.toList_eq, strU_data]
              rw [hik] at HK
              rw [← hF] at HF
              rw [hik, hq2] at HP
              simp only [K.v] at HK HF
              clear hik hF hq2
              with_reducible refine (HK.out wB).mono ?_
              rintro e w4 ⟨rfl, h4⟩
              have T4 := Lib.hid (TB.out.next h4)
              clear h4
              obtain ⟨z0, z1, z2, f0, f1, f2⟩ := Row.facts3 T4.out.z
              obtain ⟨y0, y1, y2, g0, g1, g2⟩ := Row.facts3 (show Row w4 (w.heap.size + 1) 25 #[.int .i64 1, .int .i64 N, .string ⟨#[]⟩] from T4.out.k)
              cases ik with
              | false =>
                have HD := Lib.hid (par_no (HP.out.trans rfl))
                go_wp2_with fail
                refine bodyPost_ret (v := .tuple #[K.zero.v, .bool false]) (by simp [results, Tryd.results15, go_sem, K.v, K.zero, z0, z1, z2]) rfl ?_
                exact ⟨by unfold PkE; rw [HD.out.1, HD.out.2], (((T4.out.b.setCell (p := ⟨w.heap.size, 0, none⟩) (Nat.le_refl _) _).setCell (p := ⟨w.heap.size, 1, none⟩) (Nat.le_refl _) _).setCell (p := ⟨w.heap.size, 2, none⟩) (Nat.le_refl _) _)⟩
              | true =>
                go_wp2_with fail
                go_at_call 18
                with_reducible refine (HF.out w4).mono ?_
                rintro e w5 ⟨rfl, h5⟩
                have T5 := Lib.hid (T4.out.next h5)
                clear h5 z0 z1 z2 f0 f1 f2 y0 y1 y2 g0 g1 g2
                obtain ⟨z0, z1, z2, f0, f1, f2⟩ := Row.facts3 T5.out.z
                obtain ⟨y0, y1, y2, g0, g1, g2⟩ := Row.facts3 (show Row w5 (w.heap.size + 1) 25 #[.int .i64 1, .int .i64 N, .string ⟨#[]⟩] from T5.out.k)
                cases q with
                | false =>
                  have HD := Lib.hid (par_no (HP.out.trans rfl))
                  go_wp2_with fail
                  refine bodyPost_ret (v := .tuple #[K.zero.v, .bool false]) (by simp [results, Tryd.results15, go_sem, K.v, K.zero, z0, z1, z2]) rfl ?_
                  exact ⟨by unfold PkE; rw [HD.out.1, HD.out.2], (((T5.out.b.setCell (p := ⟨w.heap.size, 0, none⟩) (Nat.le_refl _) _).setCell (p := ⟨w.heap.size, 1, none⟩) (Nat.le_refl _) _).setCell (p := ⟨w.heap.size, 2, none⟩) (Nat.le_refl _) _)⟩
                | true =>
                  have HD := Lib.hid (par_yes (HP.out.trans rfl))
                  go_wp2_with fail
                  refine bodyPost_ret (v := .tuple #[K.v ⟨1, N, ⟨#[]⟩⟩, .bool true]) (by simp [results, Tryd.results15, go_sem, K.v, z0, z1, z2]) rfl ?_
                  exact ⟨by unfold PkE; rw [HD.out.1, HD.out.2], (((T5.out.b.setCell (p := ⟨w.heap.size, 0, none⟩) (Nat.le_refl _) _).setCell (p := ⟨w.heap.size, 1, none⟩) (Nat.le_refl _) _).setCell (p := ⟨w.heap.size, 2, none⟩) (Nat.le_refl _) _)⟩
    · obtain ⟨i, rfl⟩ : ∃ i, j = i + 1 := ⟨j - 1, by omega⟩
      obtain rfl : v = (i : Int) := by omega
      have hi : i < s.size := by omega
      have hlt : (i : Int) < (s.size : Int) := by omega
      have h0 : (0 : Int) ≤ (i : Int) := by omega
      clear hv hj0
      obtain ⟨y, hy⟩ : ∃ y, s[i] = y := ⟨_, rfl⟩
      have HY := Lib.hid (show ∀ h : i < s.data.toList.length, s.data.toList[i] = y from fun h => hy)
      by_cases hc : y = 39
      · subst hc
        go_wp2
        go_round
        case rel => exact ⟨i, i, _, by omega, by omega, by go_num, rfl, rfl, fun h => HY.out h, fun q hq h1 h2 => by omega⟩
        case measure => simp [intOf]
      · have hc' : ((y.toNat : Int) == 39) = false := by
          have h : y.toNat ≠ 39 := fun h => hc (UInt8.toNat_inj.1 h)
          simp; omega
        have HC := Lib.hid hc
        clear hc
        go_wp2
        go_round
        case rel => exact ⟨k, i, _, by omega, by omega, by go_num, rfl, rfl, hrel.out.1, fun q hq h1 h2 => by
          by_cases e : q = i
          · subst e; rw [HY.out hq]; exact HC.out
          · exact hrel.out.2 q hq (by omega) h2⟩
        case measure => simp [intOf]
end Go.Proofs.YtenmdecooamaaaaDoor.L4
