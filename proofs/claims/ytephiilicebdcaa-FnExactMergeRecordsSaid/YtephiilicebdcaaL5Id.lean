/-
  The contract of chapter 5's recordOr of the program: the record of a map, or a copy of the other one. Conditions: names of at most 2^48 bytes, at most 2^40 fields.
-/
import Derived.Test.YtephiilicebdcaaL5Ic
namespace Go.Proofs.Ytephiilicebdcaa.L5
set_option maxRecDepth 100000
open L4 (boxR push_box box_at)
open Go.ChangeShapes Go.WideShapes Go.ChangeAt Go.RowKit Mem Sl Ex L2 Sv
set_option linter.unusedVariables false
set_option linter.unusedSimpArgs false

theorem cells_recOf_take (g : List UInt8 → Option Int) (ks : List (List UInt8)) (k : Nat) (hk : k < ks.length) : cellsF ((recOf g ks).take (k + 1)) = cellsF ((recOf g ks).take k) ++ cellsF [⟨⟨ks[k].toArray⟩, (g ks[k]).getD 0⟩] := by
  rw [← cellsF_append, List.take_succ_eq_append_getElem (by simpa [recOf] using hk)]
  congr 2
  simp [recOf]
theorem sep_four {W w : World} {r0 r1 r2 r3 : Res} {ts : List Res} (h : Sep W w (r0 :: r1 :: r2 :: r3 :: ts)) : Sep W w [r0, r1, r2, r3] :=
  sep_sub h (fun i => i) (fun i r hr => by
    match i, hr with
    | 0, hr => exact hr
    | 1, hr => exact hr
    | 2, hr => exact hr
    | 3, hr => exact hr
    | i + 4, hr => simp at hr) (fun i j _ _ e => e)
/-- The one record if it is valid, else the other. -/
def orR (m l : List F) : List F := if isR m then m else l
set_option maxHeartbeats 4000000 in
theorem recordOr_any (b N : Nat) (m : List F) (a : Option Addr) (c : Nat) (l : List F) (hasc : asc m = true) (hN : N ≤ 1099511627776) (hsm : Small m) (hl : l.length ≤ 1099511627776) (w : World) (hM : MapIs w b N (getO m)) (hr : Reads w w.heap.size a (cellsF l)) :
    Calls Try.prog 35 #[.map (some b), .agg #[.slice a l.length c]] w (GaveRB w (orR m l) (isR m)) := by
  obtain ⟨i0, hi, hz0, hz1, hz2⟩ := fieldInfo
  have HI := Lib.hid (And.intro hi (And.intro hz0 (And.intro hz1 hz2)))
  have HMp := Lib.hid (fun w' (h : Below w.heap.size w w') => hM.at_ (w' := w') (h.block b hM.lt))
  have HSm := Lib.hid hsm
  have HS := Lib.hid (fun (a1 : Option Addr) (c1 : Nat) (hl : m.length ≤ 1099511627776) w' (hr : Reads w' w'.heap.size a1 (cellsF m)) => isRecord_any a1 c1 m hl HSm.out w' hr)
  have HL := Lib.hid (fun w' (h : Below w.heap.size w w') => copyRecord_any a c l hl w' ((hr.below h).more h.size))
  have HAs := Lib.hid hasc
  obtain ⟨g, hg⟩ : ∃ g, g = getO m := ⟨_, rfl⟩
  rw [← hg] at HMp
  have HG := Lib.hid hg
  clear hg hM hsm hasc hr
  obtain ⟨n, hn⟩ : ∃ n, n = l.length := ⟨_, rfl⟩
  rw [← hn] at hl HL ⊢
  have HN := Lib.hid hn
  clear hn
  have S0 := Sep.start w
  have S1 := push_box S0 26 #[.slice a n c] w.heap.size rfl
  have S2 := push_box S1 26 #[.slice none 0 0] (w.heap.size + 1) (by simp)
  have S3 := Lib.hid (push_box S2 26 #[.slice none 0 0] (w.heap.size + 1 + 1) (by simp))
  clear S0 S1 S2
  obtain ⟨W1, hW1⟩ : ∃ u, u = ((w.alloc (.cells #[.slice a n c] 26)).alloc (.cells #[.slice none 0 0] 26)).alloc (.cells #[.slice none 0 0] 26) := ⟨_, rfl⟩
  rw [← hW1] at S3
  go_enter Try.func35, Try.ntmps35
  go_upto_region 2 with fail
  rw [← hW1]
  clear hW1
  have HSo := Lib.hid (sorted_any b N g W1 (HMp.out _ S3.out.old) hN)
  go_wp2_with (first
    | (go_at_call 61; refine (mapsKeys_any _ _).mono ?_; rintro e w1 ⟨rfl, rfl⟩)
    | (go_at_call 60; refine HSo.out.mono ?_; rintro e w2 ⟨ak, ck, ks, rfl, hks, hlen, how, hb2⟩; have HB2 := Lib.hid hb2; have HOW := Lib.hid how; have HKS := Lib.hid hks; clear hb2 how hks; obtain ⟨K, hK⟩ : ∃ K, K = ks.length := ⟨_, rfl⟩; rw [← hK] at HOW hlen ⊢; have HK := Lib.hid hK; clear hK))
  have hK' : (K : Int) ≤ 1099511627776 := by omega
  have HB1 := Lib.hid (show Below W1.heap.size W1 w2 from ((Below.refl _ _).alloc (Nat.le_refl _) _).trans (HB2.out.mono (by omega)))
  have S4 := Lib.hid (push_own (push_own S3.out (Below.refl _ _) (OwnV.nil W1 W1.heap.size 64 2)) HB1.out (HOW.out.base (by omega)))
  clear HOW HB1 HB2 S3 HSo
  go_loopw [14] (fun i wr => ∃ k : Nat, k ≤ K ∧ i = .int .i64 k ∧ Hid (∃ a1 c1, Sep w wr [boxR w.heap.size 26 #[.slice a n c], boxR (w.heap.size + 1) 26 #[.slice none 0 0], boxR (w.heap.size + 1 + 1) 26 #[.slice a1 k c1], ownV 64 2 a1 c1 k (cellsF ((recOf g ks).take k)), ownV 9 1 ak ck K (ks.map encStr)])) (fun i _ => K - (intOf i).toNat)
  case atStart => exact ⟨0, Nat.zero_le _, rfl, none, 0, S4.out⟩
  case round =>
    obtain ⟨k, hk, rfl, hrel⟩ := hrel
    obtain ⟨a1, c1, S⟩ := hrel.out
    have S5 := Lib.hid S
    clear S hrel S4
    obtain ⟨o0, o1⟩ := Row.one (box_at S5.out 2 rfl)
    by_cases hlt : (k : Int) < (K : Int)
    · have hkl : k < ks.length := by have := HK.out; omega
      have HC := Lib.hid (cells_recOf_take g ks k hkl)
      obtain ⟨ad, rfl, had, h1⟩ := (own_at S5.out 4 rfl).reads.at_ k (by simpa using hkl)
      have HZ := Lib.hid (show (⟨ks[k].toArray⟩ : ByteArray).size ≤ 281474976710656 from by
        have e := recOf_eq HKS.out HAs.out HG.out.symm
        have hm : (⟨⟨ks[k].toArray⟩, (g ks[k]).getD 0⟩ : F) ∈ m := by rw [← e]; exact List.mem_map.2 ⟨_, List.getElem_mem hkl, rfl⟩
        exact HSm.out _ hm)
      rw [List.getElem_map] at h1
      obtain ⟨t, ht⟩ : ∃ t : ByteArray, t = ⟨ks[k].toArray⟩ := ⟨_, rfl⟩
      replace h1 : wr.cell? (ad.add k) = some (.string t) := by rw [ht]; exact h1
      rw [← ht] at HZ HC
      have hq : (g ks[k]).getD 0 = (g t.data.toList).getD 0 := by rw [ht]
      rw [hq] at HC
      clear hq ht
      obtain ⟨y, hy⟩ : ∃ y, (g t.data.toList).getD 0 = y := ⟨_, rfl⟩
      rw [hy] at HC
      have HY := Lib.hid hy
      clear hy
      have S6 := Lib.hid (S5.out.alloc (.cells #[.string t, .int .i64 y] 64))
      have R2 := Lib.hid (reads_two wr t y _ rfl 64)
      go_wp2_with (first
        | (at_lookup; refine wpList_lookup_s (HMp.out _ S5.out.old) rfl _ _ rfl rfl t rfl (by have := HZ.out; unfold maxLen; omega) y HY.out ?_)
        | (at_builtin; refine wpList_append_v S6.out 3 rfl rfl _ _ 24 (by rfl) i0 (.agg #[.string ⟨#[]⟩, .int .i64 0]) 24 Try.underlying24 HI.out.1 HI.out.2.1 HI.out.2.2.1 HI.out.2.2.2 rfl (by omega) k (by rfl) rfl (wr.heap.size + 1) (some ⟨wr.heap.size, 0, none⟩) 1 1 1 (cellsF [⟨t, y⟩]) (by rfl) rfl R2.out (by simp) (cellsF_one _) (by unfold maxLen; omega) (by omega) ?_; intro a2 c2 w3 S7'; have S7 := Lib.hid S7'; clear S7'; obtain ⟨p0, p1⟩ := Row.one (box_at S7.out 2 rfl)))
      have S8 := Lib.hid (put_box5 S7.out 2 rfl 0 (.slice a2 (k + 1) c2))
      clear p0 p1
      go_roundw
      case rel => exact ⟨k + 1, by omega, by go_num, a2, c2, by rw [HC.out]; exact S8.out⟩
      case measure => simp [intOf]; omega
    · obtain rfl : k = K := by omega
      have HE := Lib.hid (recOf_eq HKS.out HAs.out HG.out.symm)
      have HKm := Lib.hid (show k = m.length by rw [← HE.out]; simp [recOf]; exact HK.out)
      have S6 := Lib.hid (show Sep w wr [boxR w.heap.size 26 #[.slice a n c], boxR (w.heap.size + 1) 26 #[.slice none 0 0], boxR (w.heap.size + 1 + 1) 26 #[.slice a1 k c1], ownV 64 2 a1 c1 k (cellsF m)] from by
        have h := S5.out
        rw [HE.out, List.take_of_length_le (by rw [HKm.out]; exact Nat.le_refl _)] at h
        exact sep_four h)
      clear S5
      have HS' := Lib.hid (HS.out a1 c1 (by rw [← HKm.out]; omega) wr (own_at S6.out 3 rfl).reads)
      rw [← HKm.out] at HS'
      obtain ⟨br, hbr⟩ : ∃ b, isR m = b := ⟨_, rfl⟩
      rw [hbr] at HS'
      have HBr := Lib.hid hbr
      go_wp2_with fail
      go_at_call 18
      refine HS'.out.mono ?_
      rintro e w3 ⟨rfl, h3⟩
      have S7 := Lib.hid (S6.out.keep h3)
      clear h3 o0 o1 S6
      obtain ⟨o0, o1⟩ := Row.one (box_at S7.out 2 rfl)
      obtain ⟨z0, z1⟩ := Row.one (box_at S7.out 1 rfl)
      obtain ⟨r0, r1⟩ := Row.one (box_at S7.out 0 rfl)
      cases br with
      | true =>
        have HO := Lib.hid (show orR m l = m by unfold orR; rw [hbr, if_pos rfl])
        clear hbr
        have S8 := Lib.hid (put_box5 S7.out 1 rfl 0 (.slice a1 k c1))
        go_wp2_with fail
        refine bodyPost_ret (v := .tuple #[.agg #[.slice a1 k c1], .bool true]) (by simp [results, Try.results35, go_sem, z0]) rfl ?_
        unfold GaveRB
        rw [HO.out, ← HKm.out]
        exact ⟨a1, c1, by rw [HBr.out], (own_from S8.out 3 rfl), S8.out.old⟩
      | false =>
        have HO := Lib.hid (show orR m l = l by unfold orR; rw [hbr]; rfl)
        clear hbr
        go_wp2_with fail
        go_at_call 33
        refine (HL.out _ S7.out.old).mono ?_
        rintro e w4 ⟨a4, c4, rfl, ho4, hb4⟩
        have S8 := Lib.hid (push_own S7.out hb4 ho4)
        clear ho4 hb4 r0 r1 z0 z1 o0 o1
        obtain ⟨z0, z1⟩ := Row.one (box_at S8.out 1 rfl)
        have S9 := Lib.hid (put_box5 S8.out 1 rfl 0 (.slice a4 n c4))
        go_wp2_with fail
        refine bodyPost_ret (v := .tuple #[.agg #[.slice a4 n c4], .bool false]) (by simp [results, Try.results35, go_sem, z0]) rfl ?_
        unfold GaveRB
        rw [HO.out, ← HN.out]
        exact ⟨a4, c4, by rw [HBr.out], (own_from S9.out 4 rfl), S9.out.old⟩
end Go.Proofs.Ytephiilicebdcaa.L5
