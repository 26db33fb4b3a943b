/-
  The contracts of chapter 3's cipher: Encrypt and Decrypt, of the program (by its key stream, a closure) and of the specification. Conditions: the slice reads as a list of at most 10^9 bytes.
-/
import Derived.Test.YtkgmiaoecedjdaaL3Fn
import Derived.Deep.RegionHeld3
import Derived.Deep.AppendLies
namespace Go.Proofs.Ytkgmiaoecedjdaa.L3
open Go.ChangeShapes Go.WideShapes Go.ChangeAt Go.RowKit Mem Sl Ex L2
set_option linter.unusedVariables false

theorem keyStream_any (k : Int) (w : World) :
    Calls Try.prog 48 #[.int .i64 k] w fun e w' => e = .returned (.func (.func 60) #[] #[.pointer (some ⟨w.heap.size, 0, none⟩)]) ∧ w.alloc (.cells #[.int .i64 k] 3) = w' := by
  have hmf : ∀ (fn : Fn) (first cap : Array Value) (w : World), (Instr.makeFunc fn first cap).run Try.prog w = .ok (.func fn first cap) w := fun _ _ _ _ => rfl
  go_enter Try.func48, Try.ntmps48
  go_wp2
  go_ret
  exact ⟨rfl, rfl⟩
theorem stream_any (k i : Int) (g : Nat) (w : World) (hc : w.cell? ⟨g, 0, none⟩ = some (.int .i64 k)) :
    Calls Try.prog 60 #[.int .i64 i, .pointer (some ⟨g, 0, none⟩)] w fun e w' => e = .returned (.int .u8 (kh k [i] % 256)) ∧ Below w.heap.size w w' := by
  obtain ⟨x, hx⟩ : ∃ x, kh k [i] = x := ⟨_, rfl⟩
  obtain ⟨hx0, hx1⟩ : 0 ≤ x ∧ x < 2147483647 := by rw [← hx]; exact kh_range k [i]
  have hk : Calls Try.prog 19 #[.int .i64 k, .slice (some ⟨w.heap.size, 0, none⟩) 1 1] (w.alloc (.cells #[.int .i64 i] 3)) fun e w' => e = .returned (.int .i64 x) ∧ Below (w.alloc (.cells #[.int .i64 i] 3)).heap.size (w.alloc (.cells #[.int .i64 i] 3)) w' := by
    rw [← hx]
    exact implKeyedHash_any k _ 1 [i] _ _ (reads_one w .i64 i 3) (by simp) (by simp)
  have HK := Lib.hid hk
  have HB := Lib.hid (below_alloc (Below.refl w.heap.size w) (.cells #[.int .i64 i] 3) (Nat.le_refl _))
  rw [hx]
  clear hx hk
  go_enter Try.func60, Try.ntmps60
  go_wp2_with fail
  go_at_call 19
  refine HK.out.mono ?_
  rintro e w1 ⟨rfl, hb⟩
  go_wp2_with fail
  go_ret
  exact ⟨rfl, HB.out.trans (hb.mono HB.out.size)⟩

theorem own_keep {w w' : World} {B n : Nat} {e : TypeId} {v : Value} {xs : List Value} (h : w.ownsRow B e 1 v n xs) (hb : Below w.heap.size w w') : w'.ownsRow B e 1 v n xs := by
  refine ⟨h.1, ?_⟩
  rcases h.2 with hv | ⟨g, cap, cur, hv, hB, hg, r⟩
  · exact .inl hv
  · exact .inr ⟨g, cap, cur, hv, hB, (hb.block g (Array.getElem?_eq_some_iff.1 hg).1).trans hg, r⟩

theorem lt_of_cell {w : World} {p : Addr} {v : Value} (h : w.cell? p = some v) : p.block < w.heap.size := by
  by_cases hlt : p.block < w.heap.size
  · exact hlt
  · unfold World.cell? at h
    rw [Array.getElem?_eq_none (by omega)] at h
    simp at h
theorem Own.base_row {w : World} {B B' n : Nat} {e : TypeId} {v : Value} {xs : List Value} (h : w.ownsRow B e 1 v n xs) (hB : B' ≤ B) : w.ownsRow B' e 1 v n xs := by
  refine ⟨h.1, ?_⟩
  rcases h.2 with hv | ⟨g, cap, cur, hv, hb, r⟩
  · exact .inl hv
  · exact .inr ⟨g, cap, cur, hv, by omega, r⟩

set_option maxHeartbeats 400000 in
theorem implEncrypt_any (key : Int) (a : Option Addr) (c : Nat) (l : List Int) (w : World) (hr : Reads w w.heap.size a (ints .u8 l)) (hy : Byt l) (hl : l.length ≤ 1000000000) :
    Calls Try.prog 17 #[.int .i64 key, .slice a l.length c] w (Gave w w.heap.size 5 .u8 (encL key l)) := by
  obtain ⟨i0, hi, hz0, hz1, hz2⟩ := infoOf _ _ _ _ info8
  obtain ⟨n, hn⟩ : ∃ n, n = l.length := ⟨_, rfl⟩
  have hl' : n ≤ 1000000000 := by omega
  rw [← hn]
  have HN := Lib.hid hn
  have H := Lib.hid (And.intro hr hy)
  have HS := Lib.hid (keyStream_any key w)
  have HB := Lib.hid (below_alloc (Below.refl w.heap.size w) (.cells #[.int .i64 key] 3) (Nat.le_refl _))
  have hc0 : (w.alloc (.cells #[.int .i64 key] 3)).cell? ⟨w.heap.size, 0, none⟩ = some (.int .i64 key) := by simp [go_sem]
  have HC := Lib.hid hc0
  clear hn hr hy hl hc0
  go_enter Try.func17, Try.ntmps17
  go_wp2_with fail
  go_at_call 48
  refine HS.out.mono ?_
  rintro e w1 ⟨rfl, rfl⟩
  go_wp2_with (at_make; refine wpList_make_full _ rfl _ _ 22 rfl (w.heap.size + 1) 5 i0 (.int .u8 0) 1 Try.underlying22 hi hz0 hz1 _ _ _ _ n rfl rfl rfl rfl (by rw [hz2]; omega) (by unfold maxLen; omega) (by simp) ?_; intro w1 hown hgrow)
  rw [show (Value.int .u8 0).cells = #[.int .u8 0] from rfl, Nat.mul_one, toList_madeCells_one, show (w.alloc (.cells #[.int .i64 key] 3)).heap.size = w.heap.size + 1 by simp] at hown
  have hb1 := HB.out.grown hgrow (by simp) (by simp)
  have hk1 : w1.cell? ⟨w.heap.size, 0, none⟩ = some (.int .i64 key) := (World.cell?_of_block (hgrow.block w.heap.size (by simp) (by simp))).trans HC.out
  have H0 := Lib.hid (And.intro hown (And.intro hb1 hk1))
  clear hown hgrow hb1 hk1 HS HB HC
  go_loopw [16] (fun i wr => ∃ k : Nat, k ≤ n ∧ i = .int .i64 k ∧ Hid (wr.ownsRow (w.heap.size + 1) 5 1 (.slice (some ⟨w.heap.size + 1, 0, none⟩) n n) n (ints .u8 (encL key (l.take k)) ++ List.replicate (n - k) (.int .u8 0)) ∧ Below w.heap.size w wr ∧ wr.cell? ⟨w.heap.size, 0, none⟩ = some (.int .i64 key))) (fun i _ => n - (intOf i).toNat)
  case atStart => exact ⟨0, Nat.zero_le _, rfl, And.intro (by simpa [ints, encL] using H0.out.1) H0.out.2⟩
  case round =>
    obtain ⟨k, hk, rfl, hrel⟩ := hrel
    by_cases hlt : k < n
    · obtain ⟨ad, rfl, -, hcell⟩ := (H.out.1.below hrel.out.2.1).int k (by have := HN.out; omega)
      obtain ⟨x, hx⟩ : ∃ x, x = l[k]'(by have := HN.out; omega) := ⟨_, rfl⟩
      obtain ⟨hx0, hx1⟩ : 0 ≤ x ∧ x ≤ 255 := by rw [hx]; exact H.out.2 _ (List.getElem_mem _)
      rw [← hx] at hcell
      have HE := Lib.hid (show encL key (l.take (k + 1)) = encL key (l.take k) ++ [encB key k x] by rw [hx]; exact encL_take key l k (by have := HN.out; omega))
      obtain ⟨s, hs⟩ : ∃ s, kh key [(k : Int)] % 256 = s := ⟨_, rfl⟩
      have hs0 : 0 ≤ s ∧ s ≤ 255 := by omega
      obtain ⟨hs0, hs1⟩ := hs0
      have HC := Lib.hid (stream_any key k w.heap.size wr hrel.out.2.2)
      rw [hs] at HC
      have HV := Lib.hid (show encB key k x = (x + s) % 256 by unfold encB; rw [hs])
      clear hx hs
      go_wp2_with fail
      go_at_call 60
      refine HC.out.mono ?_
      rintro e w2 ⟨rfl, hb⟩
      have hown := own_keep hrel.out.1 hb
      have hc0 := hown.cellAt k (by omega)
      have hf0 := hown.frozenAt k
      have hst := hown.stored k (.int .u8 ((x + s) % 256))
      have hlen : (ints .u8 (encL key (l.take k))).length = k := by have := HN.out; simp; omega
      rw [List.getElem?_append_right (by omega), hlen, Nat.sub_self, List.getElem?_replicate, if_pos (by omega)] at hc0
      rw [replicate_cons _ _ _ hlt, set_step _ _ _ _ _ hlen] at hst
      have hk2 : w2.cell? ⟨w.heap.size, 0, none⟩ = some (.int .i64 key) := (hb.cell (p := ⟨w.heap.size, 0, none⟩) (by have := hrel.out.2.1.size; have h9 := hrel.out.2.2; show w.heap.size < wr.heap.size; exact (lt_of_cell h9))).trans hrel.out.2.2
      have HST := Lib.hid (And.intro hst (And.intro (hrel.out.2.1.trans (hb.mono hrel.out.2.1.size)) hk2))
      clear hst hlen hown hrel hk2 hb
      go_wp2
      go_roundw
      case rel =>
        obtain ⟨⟨h1, h2⟩, h3, h4⟩ := HST.out
        refine ⟨k + 1, by omega, by go_num, And.intro ?_ (And.intro ?_ ?_)⟩
        · rw [HE.out, HV.out, ints_append]
          exact h1
        · exact h3.grown h2 h3.size (fun b hb => by cases hb; omega)
        · exact (World.cell?_of_block (h2.block w.heap.size (lt_of_cell h4) (by simp))).trans h4
      case measure => simp [intOf]; omega
    · go_wp2
      go_ret
      obtain rfl : k = n := by omega
      obtain ⟨hown, hB, -⟩ := hrel.out
      have hl0 := HN.out
      have e1 : l.take k = l := by rw [hl0, List.take_length]
      rw [e1, Nat.sub_self, List.replicate_zero, List.append_nil] at hown
      have e2 : k = (encL key l).length := by simp [hl0]
      refine Gave.mk e2 (c := k) (a := some ⟨w.heap.size + 1, 0, none⟩) ?_ hB
      unfold Own
      rw [← e2]
      exact Own.base_row hown (by omega)
set_option maxHeartbeats 400000 in
theorem implDecrypt_any (key : Int) (a : Option Addr) (c : Nat) (l : List Int) (w : World) (hr : Reads w w.heap.size a (ints .u8 l)) (hy : Byt l) (hl : l.length ≤ 1000000000) :
    Calls Try.prog 16 #[.int .i64 key, .slice a l.length c] w (Gave w w.heap.size 5 .u8 (decL key l)) := by
  obtain ⟨i0, hi, hz0, hz1, hz2⟩ := infoOf _ _ _ _ info8
  obtain ⟨n, hn⟩ : ∃ n, n = l.length := ⟨_, rfl⟩
  have hl' : n ≤ 1000000000 := by omega
  rw [← hn]
  have HN := Lib.hid hn
  have H := Lib.hid (And.intro hr hy)
  have HS := Lib.hid (keyStream_any key w)
  have HB := Lib.hid (below_alloc (Below.refl w.heap.size w) (.cells #[.int .i64 key] 3) (Nat.le_refl _))
  have hc0 : (w.alloc (.cells #[.int .i64 key] 3)).cell? ⟨w.heap.size, 0, none⟩ = some (.int .i64 key) := by simp [go_sem]
  have HC := Lib.hid hc0
  clear hn hr hy hl hc0
  go_enter Try.func16, Try.ntmps16
  go_wp2_with fail
  go_at_call 48
  refine HS.out.mono ?_
  rintro e w1 ⟨rfl, rfl⟩
  go_wp2_with (at_make; refine wpList_make_full _ rfl _ _ 22 rfl (w.heap.size + 1) 5 i0 (.int .u8 0) 1 Try.underlying22 hi hz0 hz1 _ _ _ _ n rfl rfl rfl rfl (by rw [hz2]; omega) (by unfold maxLen; omega) (by simp) ?_; intro w1 hown hgrow)
  rw [show (Value.int .u8 0).cells = #[.int .u8 0] from rfl, Nat.mul_one, toList_madeCells_one, show (w.alloc (.cells #[.int .i64 key] 3)).heap.size = w.heap.size + 1 by simp] at hown
  have hb1 := HB.out.grown hgrow (by simp) (by simp)
  have hk1 : w1.cell? ⟨w.heap.size, 0, none⟩ = some (.int .i64 key) := (World.cell?_of_block (hgrow.block w.heap.size (by simp) (by simp))).trans HC.out
  have H0 := Lib.hid (And.intro hown (And.intro hb1 hk1))
  clear hown hgrow hb1 hk1 HS HB HC
  go_loopw [16] (fun i wr => ∃ k : Nat, k ≤ n ∧ i = .int .i64 k ∧ Hid (wr.ownsRow (w.heap.size + 1) 5 1 (.slice (some ⟨w.heap.size + 1, 0, none⟩) n n) n (ints .u8 (decL key (l.take k)) ++ List.replicate (n - k) (.int .u8 0)) ∧ Below w.heap.size w wr ∧ wr.cell? ⟨w.heap.size, 0, none⟩ = some (.int .i64 key))) (fun i _ => n - (intOf i).toNat)
  case atStart => exact ⟨0, Nat.zero_le _, rfl, And.intro (by simpa [ints, decL] using H0.out.1) H0.out.2⟩
  case round =>
    obtain ⟨k, hk, rfl, hrel⟩ := hrel
    by_cases hlt : k < n
    · obtain ⟨ad, rfl, -, hcell⟩ := (H.out.1.below hrel.out.2.1).int k (by have := HN.out; omega)
      obtain ⟨x, hx⟩ : ∃ x, x = l[k]'(by have := HN.out; omega) := ⟨_, rfl⟩
      obtain ⟨hx0, hx1⟩ : 0 ≤ x ∧ x ≤ 255 := by rw [hx]; exact H.out.2 _ (List.getElem_mem _)
      rw [← hx] at hcell
      have HE := Lib.hid (show decL key (l.take (k + 1)) = decL key (l.take k) ++ [decB key k x] by rw [hx]; exact decL_take key l k (by have := HN.out; omega))
      obtain ⟨s, hs⟩ : ∃ s, kh key [(k : Int)] % 256 = s := ⟨_, rfl⟩
      have hs0 : 0 ≤ s ∧ s ≤ 255 := by omega
      obtain ⟨hs0, hs1⟩ := hs0
      have HC := Lib.hid (stream_any key k w.heap.size wr hrel.out.2.2)
      rw [hs] at HC
      have HV := Lib.hid (show decB key k x = (x - s) % 256 by unfold decB; rw [hs])
      clear hx hs
      go_wp2_with fail
      go_at_call 60
      refine HC.out.mono ?_
      rintro e w2 ⟨rfl, hb⟩
      have hown := own_keep hrel.out.1 hb
      have hc0 := hown.cellAt k (by omega)
      have hf0 := hown.frozenAt k
      have hst := hown.stored k (.int .u8 ((x - s) % 256))
      have hlen : (ints .u8 (decL key (l.take k))).length = k := by have := HN.out; simp; omega
      rw [List.getElem?_append_right (by omega), hlen, Nat.sub_self, List.getElem?_replicate, if_pos (by omega)] at hc0
      rw [replicate_cons _ _ _ hlt, set_step _ _ _ _ _ hlen] at hst
      have hk2 : w2.cell? ⟨w.heap.size, 0, none⟩ = some (.int .i64 key) := (hb.cell (p := ⟨w.heap.size, 0, none⟩) (by have := hrel.out.2.1.size; have h9 := hrel.out.2.2; show w.heap.size < wr.heap.size; exact (lt_of_cell h9))).trans hrel.out.2.2
      have HST := Lib.hid (And.intro hst (And.intro (hrel.out.2.1.trans (hb.mono hrel.out.2.1.size)) hk2))
      clear hst hlen hown hrel hk2 hb
      go_wp2
      go_roundw
      case rel =>
        obtain ⟨⟨h1, h2⟩, h3, h4⟩ := HST.out
        refine ⟨k + 1, by omega, by go_num, And.intro ?_ (And.intro ?_ ?_)⟩
        · rw [HE.out, HV.out, ints_append]
          exact h1
        · exact h3.grown h2 h3.size (fun b hb => by cases hb; omega)
        · exact (World.cell?_of_block (h2.block w.heap.size (lt_of_cell h4) (by simp))).trans h4
      case measure => simp [intOf]; omega
    · go_wp2
      go_ret
      obtain rfl : k = n := by omega
      obtain ⟨hown, hB, -⟩ := hrel.out
      have hl0 := HN.out
      have e1 : l.take k = l := by rw [hl0, List.take_length]
      rw [e1, Nat.sub_self, List.replicate_zero, List.append_nil] at hown
      have e2 : k = (decL key l).length := by simp [hl0]
      refine Gave.mk e2 (c := k) (a := some ⟨w.heap.size + 1, 0, none⟩) ?_ hB
      unfold Own
      rw [← e2]
      exact Own.base_row hown (by omega)

theorem app_below {w w' : World} {B n : Nat} {e : TypeId} {v : Value} {xs : List Value} (h : w.ownsRow B e 1 v n xs) (hg : w.grownBy w' v.ownBlock) (hB : B ≤ w.heap.size) : Below B w w' := (Below.refl _ _).grown hg hB (fun k hk => (h.lt k hk).1)
theorem enc_go (key x y : Int) (k : Nat) (hx : 0 ≤ x ∧ x ≤ 255) (hy : 0 ≤ y ∧ y < 2147483647) (e : kh key [(k : Int)] = y) :
    IntKind.u8.wrap ((IntKind.i64.wrap (IntKind.i64.wrap x + y.tmod 256)).tmod 256) = encB key k x := by
  unfold encB
  rw [e, IntWalk.i64_in x (by omega), IntWalk.rem_in y 256 (by omega), IntWalk.i64_in _ (by omega), IntWalk.rem_in _ 256 (by omega), IntWalk.u8_in _ (by omega)]
theorem dec_go (key x y : Int) (k : Nat) (hx : 0 ≤ x ∧ x ≤ 255) (hy : 0 ≤ y ∧ y < 2147483647) (e : kh key [(k : Int)] = y) :
    L1.modV (IntKind.i64.wrap (IntKind.i64.wrap x - y.tmod 256)) 256 = decB key k x := by
  unfold decB L1.modV
  rw [if_pos (L1.inB_true.mpr ⟨by omega, by omega⟩), e, IntWalk.i64_in x (by omega), IntWalk.rem_in y 256 (by omega), IntWalk.i64_in _ (by omega)]
theorem specKH_at (key i x : Int) (g : Nat) (w : World) (hg : w.cell? ⟨g, 0, none⟩ = some (.int .i64 i)) (hx : kh key [i] = x) :
    Calls Try.prog 29 #[.int .i64 key, .slice (some ⟨g, 0, none⟩) 1 1] w fun e w' => e = .returned (.int .i64 x) ∧ Below w.heap.size w w' := by
  rw [← hx]
  refine specKeyedHash_any key _ 1 [i] w w.heap.size (fun j hj => ?_) (Nat.le_refl _) (by simp)
  simp [ints] at hj
  subst hj
  refine ⟨_, rfl, lt_of_cell hg, ?_⟩
  rw [Addr.add_lit]
  exact hg
set_option maxHeartbeats 1000000 in
theorem specEncrypt_any (key : Int) (a : Option Addr) (c : Nat) (l : List Int) (w : World) (hr : Reads w w.heap.size a (ints .u8 l)) (hy : Byt l) (hl : l.length ≤ 1000000000) :
    Calls Try.prog 38 #[.int .i64 key, .slice a l.length c] w (Gave w w.heap.size 5 .u8 (encL key l)) := by
  obtain ⟨i0, hi, hz0, hz1, hz2⟩ := infoOf _ _ _ _ info8
  obtain ⟨n, hn⟩ : ∃ n, n = l.length := ⟨_, rfl⟩
  have hl' : n ≤ 1000000000 := by omega
  rw [← hn]
  have HN := Lib.hid hn
  have H := Lib.hid (And.intro hr hy)
  have H0 := Lib.hid (And.intro (Own.empty w 5 .u8 (Nat.le_refl w.heap.size)) (below_alloc (Below.refl w.heap.size w) (.cells #[] 5) (Nat.le_refl _)))
  clear hn hr hy hl
  go_enter Try.func38, Try.ntmps38
  go_wp2
  go_loopw [5, 6] (fun s i wr => ∃ (k : Nat) (a1 : Option Addr) (c1 : Nat), k ≤ n ∧ i = .int .i64 k ∧ s = .slice a1 k c1 ∧ Hid (Own wr w.heap.size 5 .u8 a1 c1 (encL key (l.take k)) ∧ Below w.heap.size w wr)) (fun _ i _ => n - (intOf i).toNat)
  case atStart => exact ⟨0, _, _, Nat.zero_le _, rfl, rfl, H0.out⟩
  case round =>
    obtain ⟨k, a1, c1, hk, rfl, rfl, hrel⟩ := hrel
    by_cases hlt : k < n
    · obtain ⟨ad, rfl, hbl, hcell⟩ := (H.out.1.below hrel.out.2).int k (by have := HN.out; omega)
      obtain ⟨x, hx⟩ : ∃ x, x = l[k]'(by have := HN.out; omega) := ⟨_, rfl⟩
      obtain ⟨hx0, hx1⟩ : 0 ≤ x ∧ x ≤ 255 := by rw [hx]; exact H.out.2 _ (List.getElem_mem _)
      rw [← hx] at hcell
      have HE := Lib.hid (show encL key (l.take (k + 1)) = encL key (l.take k) ++ [encB key k x] by rw [hx]; exact encL_take key l k (by have := HN.out; omega))
      obtain ⟨y, hyy⟩ : ∃ y, kh key [(k : Int)] = y := ⟨_, rfl⟩
      obtain ⟨hy0, hy1⟩ : 0 ≤ y ∧ y < 2147483647 := by rw [← hyy]; exact kh_range key [(k : Int)]
      have HY := Lib.hid hyy
      have HLT := Lib.hid (show ad.block < wr.heap.size by have := hrel.out.2.size; omega)
      have HO := Lib.hid (show wr.ownsRow w.heap.size 5 1 (.slice a1 k c1) k (ints .u8 (encL key (l.take k))) by have h1 := hrel.out.1; unfold Own at h1; rw [show (encL key (l.take k)).length = k by have := HN.out; simp; omega] at h1; exact h1)
      have HB := Lib.hid hrel.out.2
      have HV := Lib.hid (enc_go key x y k ⟨hx0, hx1⟩ ⟨hy0, hy1⟩ hyy)
      have HL0 := Lib.hid (And.intro hbl ((hrel.out.2.cell (p := ad.add k) (by rw [add_block]; exact hbl)).symm.trans hcell))
      have HD := Lib.hid ((below_alloc (Below.refl wr.heap.size wr) (.cells #[.int .i64 (k : Int)] 3) (Nat.le_refl _)).drew)
      clear hx hyy hbl
      have k0 : (0 : Int) ≤ (k : Int) := by omega
      have k1 : (k : Int) < (n : Int) := by omega
      go_wp2_with fail
      go_region_held3 (fun w' => w'.cell? (ad.add k) = some (.int .u8 x)) (first | assumption | go_keep)
        (first
          | (go_at_call 29; refine (specKH_at key k y _ _ (by simp [go_sem]) HY.out).mono ?_; rintro e w2 ⟨rfl, hb⟩; have hb2 := HD.out.trans (hb.mono HD.out.size); have hc2 := (hb2.cell (by rw [add_block]; exact HLT.out)).trans hcell)
          | (refine step_append_lies _ (by rfl) _ _ _ (by rfl) w.heap.size 5 i0 _ 1 1 Try.underlying22 hi hz0 hz1 hz2 rfl (by omega) (.slice a1 k c1) k (ints .u8 (encL key (l.take k))) (by rfl) (own_keep (own_keep HO.out hb2) ((Below.refl _ _).alloc (Nat.le_refl _) _)) ⟨w2.heap.size, 0, none⟩ 1 1 [_] (by rfl) (by rfl) (World.news_of_block (cs := #[_]) (t := 5) (fr := (0, 0)) (heap_alloc_new w2 _)) (by simp [Value.oneCell']) (by omega) (by unfold maxLen; omega) (by omega) (Nat.le_trans hrel.out.2.size (Nat.le_trans hb2.size (by simp))) (w2.heap.size + 1) (by simp) ?_; intro g cap w3 ho3 hg3 hat hlt3; have hb3 := (HB.out.trans (hb2.mono HB.out.size)).alloc (Nat.le_trans HB.out.size hb2.size) (.cells #[.int .u8 (IntKind.u8.wrap ((IntKind.i64.wrap (IntKind.i64.wrap x + y.tmod 256)).tmod 256))] 5); have hb4 := hb3.trans (app_below (own_keep (own_keep HO.out hb2) ((Below.refl _ _).alloc (Nat.le_refl _) _)) hg3 hb3.size); have hc4 := (hb4.cell (by rw [add_block]; exact HL0.out.1)).trans HL0.out.2))
      have HH := Lib.hid (And.intro ho3 hb4)
      clear ho3 hb4 hb3 hc4 hg3 hat hlt3 hb hb2 hc2 hrel
      go_wp2
      go_roundw
      case rel =>
        obtain ⟨h1, h2⟩ := HH.out
        refine ⟨k + 1, some ⟨g, 0, none⟩, cap, by omega, by go_num, rfl, And.intro ?_ h2⟩
        have e1 : (encL key (l.take (k + 1))).length = k + 1 := by have := HN.out; simp; omega
        rw [HV.out] at h1
        unfold Own
        rw [e1, HE.out, ints_append]
        exact h1
      case measure => simp [intOf]; omega
    · go_wp2
      go_ret
      obtain rfl : k = n := by omega
      obtain ⟨ho, hb⟩ := hrel.out
      have e1 : l.take k = l := by rw [HN.out, List.take_length]
      rw [e1] at ho
      exact Gave.mk (by rw [HN.out]; simp) ho hb
set_option maxHeartbeats 1000000 in
theorem specDecrypt_any (key : Int) (a : Option Addr) (c : Nat) (l : List Int) (w : World) (hr : Reads w w.heap.size a (ints .u8 l)) (hy : Byt l) (hl : l.length ≤ 1000000000) :
    Calls Try.prog 40 #[.int .i64 key, .slice a l.length c] w (Gave w w.heap.size 5 .u8 (decL key l)) := by
  obtain ⟨i0, hi, hz0, hz1, hz2⟩ := infoOf _ _ _ _ info8
  obtain ⟨n, hn⟩ : ∃ n, n = l.length := ⟨_, rfl⟩
  have hl' : n ≤ 1000000000 := by omega
  rw [← hn]
  have HN := Lib.hid hn
  have H := Lib.hid (And.intro hr hy)
  have H0 := Lib.hid (And.intro (Own.empty w 5 .u8 (Nat.le_refl w.heap.size)) (below_alloc (Below.refl w.heap.size w) (.cells #[] 5) (Nat.le_refl _)))
  clear hn hr hy hl
  go_enter Try.func40, Try.ntmps40
  go_wp2
  go_loopw [5, 6] (fun s i wr => ∃ (k : Nat) (a1 : Option Addr) (c1 : Nat), k ≤ n ∧ i = .int .i64 k ∧ s = .slice a1 k c1 ∧ Hid (Own wr w.heap.size 5 .u8 a1 c1 (decL key (l.take k)) ∧ Below w.heap.size w wr)) (fun _ i _ => n - (intOf i).toNat)
  case atStart => exact ⟨0, _, _, Nat.zero_le _, rfl, rfl, H0.out⟩
  case round =>
    obtain ⟨k, a1, c1, hk, rfl, rfl, hrel⟩ := hrel
    by_cases hlt : k < n
    · obtain ⟨ad, rfl, hbl, hcell⟩ := (H.out.1.below hrel.out.2).int k (by have := HN.out; omega)
      obtain ⟨x, hx⟩ : ∃ x, x = l[k]'(by have := HN.out; omega) := ⟨_, rfl⟩
      obtain ⟨hx0, hx1⟩ : 0 ≤ x ∧ x ≤ 255 := by rw [hx]; exact H.out.2 _ (List.getElem_mem _)
      rw [← hx] at hcell
      have HE := Lib.hid (show decL key (l.take (k + 1)) = decL key (l.take k) ++ [decB key k x] by rw [hx]; exact decL_take key l k (by have := HN.out; omega))
      obtain ⟨y, hyy⟩ : ∃ y, kh key [(k : Int)] = y := ⟨_, rfl⟩
      obtain ⟨hy0, hy1⟩ : 0 ≤ y ∧ y < 2147483647 := by rw [← hyy]; exact kh_range key [(k : Int)]
      have HY := Lib.hid hyy
      have HLT := Lib.hid (show ad.block < wr.heap.size by have := hrel.out.2.size; omega)
      have HO := Lib.hid (show wr.ownsRow w.heap.size 5 1 (.slice a1 k c1) k (ints .u8 (decL key (l.take k))) by have h1 := hrel.out.1; unfold Own at h1; rw [show (decL key (l.take k)).length = k by have := HN.out; simp; omega] at h1; exact h1)
      have HB := Lib.hid hrel.out.2
      obtain ⟨v, hv⟩ : ∃ v, v = decB key k x := ⟨_, rfl⟩
      have HV := Lib.hid (show IntKind.u8.wrap v = decB key k x by rw [hv]; exact IntWalk.u8_in _ (decB_range key k x))
      have HM := Lib.hid (fun w => L1.specMod_any (IntKind.i64.wrap (IntKind.i64.wrap x - y.tmod 256)) 256 w)
      rw [dec_go key x y k ⟨hx0, hx1⟩ ⟨hy0, hy1⟩ hyy, ← hv] at HM
      clear hv
      have HL0 := Lib.hid (And.intro hbl ((hrel.out.2.cell (p := ad.add k) (by rw [add_block]; exact hbl)).symm.trans hcell))
      have HD := Lib.hid ((below_alloc (Below.refl wr.heap.size wr) (.cells #[.int .i64 (k : Int)] 3) (Nat.le_refl _)).drew)
      clear hx hyy hbl
      have k0 : (0 : Int) ≤ (k : Int) := by omega
      have k1 : (k : Int) < (n : Int) := by omega
      go_wp2_with fail
      go_region_held3 (fun w' => w'.cell? (ad.add k) = some (.int .u8 x)) (first | assumption | go_keep)
        (first
          | (go_at_call 29; refine (specKH_at key k y _ _ (by simp [go_sem]) HY.out).mono ?_; rintro e w2 ⟨rfl, hb⟩; have hb2 := HD.out.trans (hb.mono HD.out.size); have hc2 := (hb2.cell (by rw [add_block]; exact HLT.out)).trans hcell)
          | (go_at_call 22; refine (HM.out _).mono ?_; rintro e w3 ⟨rfl, rfl⟩)
          | (refine step_append_lies _ (by rfl) _ _ _ (by rfl) w.heap.size 5 i0 _ 1 1 Try.underlying22 hi hz0 hz1 hz2 rfl (by omega) (.slice a1 k c1) k (ints .u8 (decL key (l.take k))) (by rfl) (own_keep (own_keep HO.out hb2) ((Below.refl _ _).alloc (Nat.le_refl _) _)) ⟨w2.heap.size, 0, none⟩ 1 1 [_] (by rfl) (by rfl) (World.news_of_block (cs := #[_]) (t := 5) (fr := (0, 0)) (heap_alloc_new w2 _)) (by simp [Value.oneCell']) (by omega) (by unfold maxLen; omega) (by omega) (Nat.le_trans hrel.out.2.size (Nat.le_trans hb2.size (by simp))) (w2.heap.size + 1) (by simp) ?_; intro g cap w3 ho3 hg3 hat hlt3; have hb3 := (HB.out.trans (hb2.mono HB.out.size)).alloc (Nat.le_trans HB.out.size hb2.size) (.cells #[.int .u8 (IntKind.u8.wrap v)] 5); have hb4 := hb3.trans (app_below (own_keep (own_keep HO.out hb2) ((Below.refl _ _).alloc (Nat.le_refl _) _)) hg3 hb3.size); have hc4 := (hb4.cell (by rw [add_block]; exact HL0.out.1)).trans HL0.out.2))
      have HH := Lib.hid (And.intro ho3 hb4)
      clear ho3 hb4 hb3 hc4 hg3 hat hlt3 hb hb2 hc2 hrel
      go_wp2
      go_roundw
      case rel =>
        obtain ⟨h1, h2⟩ := HH.out
        refine ⟨k + 1, some ⟨g, 0, none⟩, cap, by omega, by go_num, rfl, And.intro ?_ h2⟩
        have e1 : (decL key (l.take (k + 1))).length = k + 1 := by have := HN.out; simp; omega
        rw [HV.out] at h1
        unfold Own
        rw [e1, HE.out, ints_append]
        exact h1
      case measure => simp [intOf]; omega
    · go_wp2
      go_ret
      obtain rfl : k = n := by omega
      obtain ⟨ho, hb⟩ := hrel.out
      have e1 : l.take k = l := by rw [HN.out, List.take_length]
      rw [e1] at ho
      exact Gave.mk (by rw [HN.out]; simp) ho hb
end Go.Proofs.Ytkgmiaoecedjdaa.L3
