/-
  The contracts of chapter 2's readers: ReadUvarint of the specification and of the program. Conditions: the bytes read as a list of numbers from 0 to 255, of at most 2^40.
-/
import Derived.Test.YtpapncecfleejaaL2App
import Derived.Test.YtpapncecfleejaaL1Min
namespace Go.Proofs.Ytpapncecfleejaa.L2
set_option maxRecDepth 100000
open Go.ChangeShapes Go.WideShapes Go.ChangeAt Go.RowKit Mem Sl Ex
set_option linter.unusedVariables false

def Byt (l : List Int) : Prop := ∀ x ∈ l, 0 ≤ x ∧ x ≤ 255
theorem Byt.get {l : List Int} (h : Byt l) (k : Nat) (hk : k < l.length) : 0 ≤ l[k] ∧ l[k] ≤ 255 := h _ (List.getElem_mem hk)

/-- The tuple that a reading gives. -/
def RdE (l : List Int) (off : Int) : Ending := .returned (.tuple #[.int .i64 (rdN l off), .int .i64 (rdE l off), .bool (rdB l off)])
theorem RdE.none {l : List Int} {off : Int} (h : rd l off = none) : RdE l off = .returned (.tuple #[.int .i64 0, .int .i64 0, .bool false]) := by
  unfold RdE rdN rdE rdB
  rw [h]; rfl
theorem RdE.some {l : List Int} {off v e : Int} {m : Nat} (h : rd l off = some (v, m)) (he : off + m = e) : RdE l off = .returned (.tuple #[.int .i64 v, .int .i64 e, .bool true]) := by
  unfold RdE
  rw [rdN_of h, rdE_of h, rdB_of h, he]
theorem rd_neg {l : List Int} {off : Int} (h : off < 0) : rd l off = none := by unfold rd; rw [if_neg (by omega)]
theorem rd_beyond {l : List Int} {off : Int} (h : (l.length : Int) ≤ off) : rd l off = none := by
  unfold rd
  rw [if_pos (by omega), List.drop_eq_nil_of_le (by omega)]
  rfl

/-- A reading that has come k bytes far. -/
def Mid (l : List Int) (o k : Nat) (v : Int) : Prop := 0 ≤ v ∧ v < 128 ^ k ∧ rd l o = rdAux k v (l.drop (o + k))
theorem Mid.start (l : List Int) (o : Nat) : Mid l o 0 0 := ⟨by omega, by decide, by
  unfold rd
  rw [if_pos (by omega)]
  simp⟩
theorem Mid.ends {l : List Int} {o k : Nat} {v : Int} (h : Mid l o k v) (hk : l.length ≤ o + k) : rd l o = none := by
  rw [h.2.2, List.drop_eq_nil_of_le hk]; rfl
theorem Mid.six {l : List Int} {o : Nat} {v : Int} (h : Mid l o 6 v) : rd l o = none := by
  rw [h.2.2]
  cases l.drop (o + 6) with
  | nil => rfl
  | cons c s => simp [rdAux]
theorem Mid.cons {l : List Int} {o k : Nat} {v : Int} (h : Mid l o k v) (hk : o + k < l.length) (h6 : k < 6) :
    rd l o = if l[o + k] < 128 then (if (l[o + k] = 0 ∧ 0 < k) ∨ 1000000000000 < v + l[o + k] % 128 * 128 ^ k then none else some (v + l[o + k] % 128 * 128 ^ k, k + 1)) else rdAux (k + 1) (v + l[o + k] % 128 * 128 ^ k) (l.drop (o + (k + 1))) := by
  rw [h.2.2, List.drop_eq_getElem_cons hk, rdAux, if_neg (by omega)]
  rfl
theorem Mid.next {l : List Int} {o k : Nat} {v : Int} (h : Mid l o k v) (hk : o + k < l.length) (h6 : k < 6) (hc : ¬ l[o + k] < 128) : Mid l o (k + 1) (v + l[o + k] % 128 * 128 ^ k) := by
  have hp : (0 : Int) < 128 ^ k := Int.pow_pos (by decide)
  have h1 := Int.mul_nonneg (show 0 ≤ l[o + k] % 128 by omega) (Int.le_of_lt hp)
  have h2 : l[o + k] % 128 * 128 ^ k ≤ 127 * 128 ^ k := Int.mul_le_mul_of_nonneg_right (by omega) (Int.le_of_lt hp)
  obtain ⟨h3, h4, _⟩ := h
  refine ⟨by omega, ?_, ?_⟩
  · rw [Int.pow_succ]
    generalize (128 : Int) ^ k = p at *
    omega
  · rw [Mid.cons ⟨h3, h4, by assumption⟩ hk h6, if_neg hc]

theorem pow7 (k : Nat) : (2 : Int) ^ (7 * k) = 128 ^ k := by rw [Int.pow_mul]; rfl
theorem pow7n (k : Nat) : (2 : Nat) ^ (7 * k) = 128 ^ k := by rw [Nat.pow_mul]
theorem pow_6 (k : Nat) (h : k < 6) : (128 : Nat) ^ k ≤ 34359738368 := by
  have := Nat.pow_le_pow_right (show 0 < 128 by decide) (show k ≤ 5 by omega)
  have e : (128 : Nat) ^ 5 = 34359738368 := by decide
  omega
theorem or_i64 (a b : Nat) (ha : a < 4611686018427387904) (hb : b < 4611686018427387904) : bits .or .i64 (a : Int) (b : Int) = ((a ||| b : Nat) : Int) := by
  show IntKind.i64.wrap ((BitVec.ofInt 64 (a : Int) ||| BitVec.ofInt 64 (b : Int)).toNat : Nat) = _
  have h := Nat.or_lt_two_pow (x := a) (y := b) (n := 62) (by omega) (by omega)
  rw [BitVec.ofInt_natCast, BitVec.ofInt_natCast, BitVec.toNat_or, BitVec.toNat_ofNat, BitVec.toNat_ofNat, Nat.mod_eq_of_lt (by omega), Nat.mod_eq_of_lt (by omega), IntKind.wrap_i64]
  omega
/-- One group more. -/
theorem group_in (x y : Int) (k : Nat) (hk : k < 6) (h0 : 0 ≤ x) (h1 : x < 128 ^ k) (h2 : 0 ≤ y) (h3 : y ≤ 255) :
    bits .or .i64 x (wrap64 (bits .and .i64 y 127 * 2 ^ (7 * k))) = x + y % 128 * 128 ^ k := by
  obtain ⟨X, rfl⟩ : ∃ n : Nat, x = n := ⟨x.toNat, by omega⟩
  obtain ⟨Y, rfl⟩ : ∃ n : Nat, y = n := ⟨y.toNat, by omega⟩
  have hp := pow_6 k hk
  have hX : X < 128 ^ k := by
    have e : ((128 ^ k : Nat) : Int) = 128 ^ k := Int.natCast_pow 128 k
    omega
  rw [and_127 Y (by omega), pow7]
  have e1 : ((Y % 128 : Nat) : Int) * 128 ^ k = ((Y % 128 * 128 ^ k : Nat) : Int) := by rw [Int.natCast_mul, Int.natCast_pow]; rfl
  have hb : Y % 128 * 128 ^ k ≤ 127 * 34359738368 := Nat.mul_le_mul (by omega) hp
  rw [e1, IntWalk.wrap64_in _ ⟨by omega, by omega⟩, or_i64 _ _ (by omega) (by omega), Nat.or_comm, nat_join (7 * k) _ X (by rw [pow7n]; exact Nat.mul_mod_left ..) (by rw [pow7n]; exact hX),
    show (Y : Int) % 128 = ((Y % 128 : Nat) : Int) by omega, e1]
  omega

theorem specRead_any (a : Option Addr) (c : Nat) (l : List Int) (off : Int) (w : World) (B : Nat) (hr : Reads w B a (ints .u8 l)) (hb : Byt l) (hl : l.length ≤ 1099511627776) (ho1 : -9223372036854775808 ≤ off) (ho2 : off ≤ 9223372036854775807) :
    Calls Try.prog 93 #[.slice a l.length c, .int .i64 off] w fun e w' => e = RdE l off ∧ Drew w w' := by
  obtain ⟨n, hn⟩ : ∃ n, n = l.length := ⟨_, rfl⟩
  have hl' : n ≤ 1099511627776 := by omega
  rw [← hn]
  have HN := Lib.hid hn
  have H := Lib.hid (And.intro hr hb)
  clear hr hb hl hn
  by_cases h0 : off < 0
  · have HR := Lib.hid (rd_neg (l := l) h0)
    go_enter Try.func93, Try.ntmps93
    go_wp2
    refine wp_loop_rounds 1 ?_
    rw [rounds_succ]
    go_wp2
    go_ret3
    exact ⟨(RdE.none HR.out).symm, Drew.refl w⟩
  · by_cases h1 : (n : Int) ≤ off
    · have HR := Lib.hid (rd_beyond (l := l) (by rw [← HN.out]; exact h1))
      go_enter Try.func93, Try.ntmps93
      go_wp2
      refine wp_loop_rounds 1 ?_
      rw [rounds_succ]
      go_wp2
      go_ret3
      exact ⟨(RdE.none HR.out).symm, Drew.refl w⟩
    · obtain ⟨o, rfl⟩ : ∃ o : Nat, off = o := ⟨off.toNat, by omega⟩
      go_enter Try.func93, Try.ntmps93
      go_wp2
      go_loop [7, 8] (fun v i => ∃ (k : Nat) (x : Int), k ≤ 6 ∧ i = .int .i64 k ∧ v = .int .i64 x ∧ Hid (Mid l o k x)) (fun _ i => 6 - (intOf i).toNat)
      case atStart => exact ⟨0, 0, by omega, rfl, rfl, Mid.start l o⟩
      case round =>
        obtain ⟨k, x, hk, rfl, rfl, hrel⟩ := hrel
        by_cases hk6 : k = 6
        · subst hk6
          go_wp2
          go_ret3
          exact ⟨(RdE.none hrel.out.six).symm, Drew.refl w⟩
        · by_cases hlt : o + k < n
          · obtain ⟨ad, rfl, -, hcell⟩ := H.out.1.int (o + k) (by have := HN.out; omega)
            have hby := H.out.2.get (o + k) (by have := HN.out; omega)
            obtain ⟨y, hy⟩ : ∃ y, y = l[o + k]'(by have := HN.out; omega) := ⟨_, rfl⟩
            rw [← hy] at hcell hby
            have HY := Lib.hid hy
            clear hy
            obtain ⟨hy0, hy1⟩ := hby
            have hk5 : k < 6 := by omega
            have HM := Lib.hid (hrel.out.cons (by have := HN.out; omega) hk5)
            have HG := Lib.hid (group_in x y k hk5 hrel.out.1 hrel.out.2.1 hy0 hy1)
            obtain ⟨z, hz⟩ : ∃ z, z = x + y % 128 * 128 ^ k := ⟨_, rfl⟩
            have HZ := Lib.hid hz
            clear hz
            have hzn : 0 ≤ z := by
              have := Int.mul_nonneg (show 0 ≤ y % 128 by omega) (Int.le_of_lt (Int.pow_pos (show (0 : Int) < 128 by decide) : 0 < (128 : Int) ^ k))
              have := HZ.out
              have := hrel.out.1
              omega
            by_cases hy2 : y < 128
            · by_cases hy3 : y = 0
              · by_cases hk0 : k = 0
                · subst hk0
                  subst hy3
                  have hx0 : x = 0 := by have := hrel.out.1; have := hrel.out.2.1; simp at this; omega
                  subst hx0
                  have hg : bits .or .i64 0 (wrap64 (bits .and .i64 0 127)) = 0 := by decide +kernel
                  simp only [Nat.add_zero] at hcell
                  go_wp2
                  go_ret3
                  refine ⟨(RdE.some (m := 1) ?_ (by omega)).symm, Drew.refl w⟩
                  rw [HM.out, ← HY.out]
                  simp
                · have hkp : (0 : Int) < k := by omega
                  subst hy3
                  have hkn : k ≠ 0 := hk0
                  go_wp2
                  go_ret3
                  refine ⟨(RdE.none ?_).symm, Drew.refl w⟩
                  rw [HM.out, ← HY.out, if_pos (by omega), if_pos (.inl ⟨rfl, by omega⟩)]
              · have hg := HG.out
                rw [← HZ.out] at hg
                have hne : (y == 0) = false := by simpa using hy3
                by_cases hzm : z ≤ 1000000000000
                · go_wp2
                  go_ret3
                  refine ⟨(RdE.some (m := k + 1) ?_ (by omega)).symm, Drew.refl w⟩
                  rw [HM.out, ← HY.out, if_pos hy2, if_neg (by rw [← HZ.out]; omega), ← HZ.out]
                · have hzm' : 1000000000000 < z := by omega
                  go_wp2
                  go_ret3
                  refine ⟨(RdE.none ?_).symm, Drew.refl w⟩
                  rw [HM.out, ← HY.out, if_pos hy2, if_pos (.inr (by rw [← HZ.out]; omega))]
            · have hg := HG.out
              rw [← HZ.out] at hg
              have HX := Lib.hid (hrel.out.next (by have := HN.out; omega) hk5 (by rw [← HY.out]; exact hy2))
              go_wp2
              go_round
              case rel => exact ⟨k + 1, z, by omega, by go_num, rfl, by rw [HZ.out, HY.out]; exact HX.out⟩
              case measure => simp [intOf]; omega
          · go_wp2
            go_ret3
            exact ⟨(RdE.none (hrel.out.ends (by have := HN.out; omega))).symm, Drew.refl w⟩

theorem and_u8 (y : Int) (h2 : 0 ≤ y) (h3 : y ≤ 255) : bits .and .u8 y 127 = bits .and .i64 y 127 := by
  obtain ⟨Y, rfl⟩ : ∃ n : Nat, y = n := ⟨y.toNat, by omega⟩
  rw [and_127 Y (by omega), show (127 : Int) = ((127 : Nat) : Int) from rfl, u8_and_nat Y 127 (by omega) (by omega), nat_mask7]
theorem group_in8 (x y : Int) (k : Nat) (hk : k < 6) (h0 : 0 ≤ x) (h1 : x < 128 ^ k) (h2 : 0 ≤ y) (h3 : y ≤ 255) :
    bits .or .i64 x (wrap64 (wrap64 (bits .and .u8 y 127) * 2 ^ (7 * k))) = x + y % 128 * 128 ^ k := by
  have e : wrap64 (bits .and .u8 y 127) = bits .and .u8 y 127 := by
    obtain ⟨Y, rfl⟩ : ∃ n : Nat, y = n := ⟨y.toNat, by omega⟩
    rw [and_u8 _ h2 h3, and_127 Y (by omega)]
    exact IntWalk.wrap64_in _ ⟨by omega, by omega⟩
  rw [e, and_u8 y h2 h3]; exact group_in x y k hk h0 h1 h2 h3

theorem minB_any (a b : Int) (w : World) :
    Calls Try.prog 81 #[.int .i64 a, .int .i64 b] w fun e w' => e = .returned (.int .i64 (min a b)) ∧ Below w.heap.size w w' := by
  have hc : (w.alloc (.cells #[.int .i64 b] 3)).cell? ⟨w.heap.size, 0, none⟩ = some (.int .i64 b) := by simp [go_sem]
  go_enter Try.func81, Try.ntmps81
  go_wp2_with (go_at_call 98; refine (L1.extremes_one _ _ _ _ hc).mono ?_; rintro e w' ⟨rfl, rfl⟩)
  go_ret
  exact ⟨rfl, by repeat (first | exact Below.refl _ _ | apply Below.drew | (refine Below.alloc ?_ (by simp) _))⟩
set_option maxHeartbeats 600000 in
theorem implRead_any (a : Option Addr) (c : Nat) (l : List Int) (off : Int) (w : World) (B : Nat) (hB : B ≤ w.heap.size) (hr : Reads w B a (ints .u8 l)) (hb : Byt l) (hc : l.length ≤ c) (hl : l.length ≤ 1099511627776) (ho1 : -9223372036854775808 ≤ off) (ho2 : off ≤ 9223372036854775807) :
    Calls Try.prog 55 #[.slice a l.length c, .int .i64 off] w fun e w' => e = RdE l off ∧ Below w.heap.size w w' := by
  obtain ⟨n, hn⟩ : ∃ n, n = l.length := ⟨_, rfl⟩
  have hl' : n ≤ 1099511627776 := by omega
  rw [← hn]
  have hc' : n ≤ c := by omega
  have HN := Lib.hid hn
  by_cases h0 : off < 0 ∨ (n : Int) < off
  · have hin : L1.inB off 0 n = false := L1.inB_false.mpr (by omega)
    have HR := Lib.hid (show rd l off = none by rcases h0 with h | h; exact rd_neg h; exact rd_beyond (by omega))
    clear hr hb hl hn hc h0
    go_enter Try.func55, Try.ntmps55
    go_wp2_with (go_at_call 62; refine (L1.inRange_any _ _ _ _).mono ?_; rw [hin]; rintro e w' ⟨rfl, rfl⟩)
    go_ret3
    exact ⟨(RdE.none HR.out).symm, Below.refl _ _⟩
  · obtain ⟨o, rfl⟩ : ∃ o : Nat, off = o := ⟨off.toNat, by omega⟩
    have hon : o ≤ n := by omega
    have hin : L1.inB (o : Int) 0 n = true := L1.inB_true.mpr (by omega)
    obtain ⟨t, ht⟩ : ∃ t : Nat, t = min (o + 6) n := ⟨_, rfl⟩
    have hmin : min ((o : Int) + 6) n = (t : Int) := by omega
    have hto : o ≤ t := by omega
    have htn : t ≤ n := by omega
    have hp := hr.partInts o t c hto (by omega) (by omega)
    obtain ⟨A, hA⟩ : ∃ A, (if c = o then a else a.map (·.add o)) = A := ⟨_, rfl⟩
    obtain ⟨p, hpl⟩ : ∃ p, p = (l.drop o).take (t - o) := ⟨_, rfl⟩
    rw [hA, ← hpl] at hp
    obtain ⟨m, hm⟩ : ∃ m, t - o = m := ⟨_, rfl⟩
    have hplen : p.length = m := by rw [hpl, ← hm]; simp; omega
    have HP := Lib.hid (And.intro hp (And.intro hplen hpl))
    have HT := Lib.hid ht
    have HM0 := Lib.hid hm
    have H := Lib.hid (And.intro hr hb)
    clear hr hb hl hn hc h0 hpl hplen hp ht
    go_enter Try.func55, Try.ntmps55
    go_wp2_with (first | (go_at_call 62; refine (L1.inRange_any _ _ _ _).mono ?_; rw [hin]; rintro e w' ⟨rfl, rfl⟩) | (go_at_call 81; refine (minB_any _ _ _).mono ?_; rw [hmin]; rintro e w1 ⟨rfl, hb1⟩))
    have HP1 := Lib.hid (HP.out.1.below (hb1.mono hB))
    have HB1 := Lib.hid hb1
    clear hb1 hmin hin
    go_loop [7, 25] (fun v i => ∃ (k : Nat) (x : Int), k ≤ m ∧ i = .int .i64 k ∧ v = .int .i64 x ∧ Hid (Mid l o k x)) (fun _ i => m - (intOf i).toNat)
    case atStart => exact ⟨0, 0, by omega, rfl, rfl, Mid.start l o⟩
    case round =>
      obtain ⟨k, x, hk, rfl, rfl, hrel⟩ := hrel
      by_cases hlt : k < m
      · have hk5 : k < 6 := by have := HT.out; have := HM0.out; omega
        have hol : o + k < l.length := by have := HT.out; have := HM0.out; have := HN.out; omega
        have HOL := Lib.hid hol
        obtain ⟨ad, rfl, -, hcell⟩ := HP1.out.int k (by rw [HP.out.2.1]; exact hlt)
        have hpk : p[k]'(by rw [HP.out.2.1]; exact hlt) = l[o + k]'hol := by
          have e : ∀ (q : List Int) (h : k < q.length), q = (l.drop o).take (t - o) → q[k]'h = l[o + k]'hol := by
            rintro q h rfl
            rw [List.getElem_take, List.getElem_drop]
          exact e p _ HP.out.2.2
        rw [hpk] at hcell
        have hby := H.out.2.get (o + k) hol
        have HM := Lib.hid (hrel.out.cons hol hk5)
        obtain ⟨y, hy⟩ : ∃ y, y = l[o + k]'hol := ⟨_, rfl⟩
        rw [← hy] at hcell hby HM
        have HY := Lib.hid hy
        clear hy hpk
        obtain ⟨hy0, hy1⟩ := hby
        have HG := Lib.hid (group_in8 x y k hk5 hrel.out.1 hrel.out.2.1 hy0 hy1)
        obtain ⟨z, hz⟩ : ∃ z, z = x + y % 128 * 128 ^ k := ⟨_, rfl⟩
        have HZ := Lib.hid hz
        clear hz
        have hzn : 0 ≤ z := by
          have := Int.mul_nonneg (show 0 ≤ y % 128 by omega) (Int.le_of_lt (Int.pow_pos (show (0 : Int) < 128 by decide) : 0 < (128 : Int) ^ k))
          have := HZ.out
          have := hrel.out.1
          omega
        by_cases hy2 : y < 128
        · by_cases hk0 : k = 0
          · subst hk0
            have hx0 : x = 0 := by have := hrel.out.1; have := hrel.out.2.1; simp at this; omega
            subst hx0
            have hz1 : z = y := by
              rw [HZ.out, Int.pow_zero, Int.mul_one, Int.zero_add]
              omega
            subst hz1
            have hn128 : ¬ (128 ≤ z) := by omega
            have hzm : ¬ (1000000000000 < z) := by omega
            have hg := HG.out
            rw [← HZ.out, Nat.mul_zero, Int.pow_zero, Int.mul_one] at hg
            have hcell0 : w1.cell? ad = some (.int .u8 z) := by simpa [Addr.add] using hcell
            go_wp2
            clear hg
            go_ret3
            refine ⟨(RdE.some (m := 1) ?_ (by omega)).symm, HB1.out⟩
            rw [HM.out, if_pos (by omega), if_neg (by rw [← HZ.out]; omega), ← HZ.out]
          · have hkp : ((k : Int) == 0) = false := by simp; omega
            have hkn : (k == 0) = false := by simp; omega
            by_cases hy3 : y = 0
            · subst hy3
              go_wp2
              go_ret3
              refine ⟨(RdE.none ?_).symm, HB1.out⟩
              rw [HM.out, if_pos (by omega), if_pos (Or.inl (And.intro (by simp) (by omega)))]
            · have hg := HG.out
              rw [← HZ.out] at hg
              have hne : (y == 0) = false := by simpa using hy3
              have hne' : (y != 0) = true := by simpa using hy3
              have hn128 : ¬ (128 ≤ y) := by omega
              by_cases hzm : z ≤ 1000000000000
              · go_wp2
                clear hg
                go_ret3
                refine ⟨(RdE.some (m := k + 1) ?_ (by omega)).symm, HB1.out⟩
                rw [HM.out, if_pos hy2, if_neg (by rw [← HZ.out]; omega), ← HZ.out]
              · have hzm' : 1000000000000 < z := by omega
                go_wp2
                go_ret3
                refine ⟨(RdE.none ?_).symm, HB1.out⟩
                rw [HM.out, if_pos hy2, if_pos (.inr (by rw [← HZ.out]; omega))]
        · have hg := HG.out
          rw [← HZ.out] at hg
          have hn128 : 128 ≤ y := by omega
          have HX := Lib.hid (hrel.out.next HOL.out hk5 (by rw [← HY.out]; exact hy2))
          go_wp2
          go_round
          case rel => exact ⟨k + 1, z, by omega, by go_num, rfl, by rw [HZ.out, HY.out]; exact HX.out⟩
          case measure => simp [intOf]; omega
      · go_wp2
        go_ret3
        refine ⟨(RdE.none ?_).symm, HB1.out⟩
        have h1 := HT.out
        have h2 := HM0.out
        by_cases h6 : k = 6
        · subst h6
          exact hrel.out.six
        · exact hrel.out.ends (by have := HN.out; omega)
end Go.Proofs.Ytpapncecfleejaa.L2
