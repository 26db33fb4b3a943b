/-
  Plain mathematics of chapter 4: keys, their order, their bytes, their texts: the bytes are ordered like the keys, and a key is told by its bytes and by its text. No condition.
-/
import Derived.Test.YtpapncecfleejaaL1Base
import Derived.Lib.AtoiAllCases
import GoSem.Op.String
namespace Go.Proofs.Ytpapncecfleejaa.L4
set_option maxRecDepth 100000
open Go.Op (bytesLess)

/-! ### byte strings in order -/
theorem less_irrefl : ∀ (a : List UInt8), bytesLess a a = false
  | [] => rfl
  | x :: r => by simp [bytesLess, less_irrefl r]
theorem less_total : ∀ (a b : List UInt8), a ≠ b → bytesLess a b = false → bytesLess b a = true
  | [], [], h, _ => absurd rfl h
  | _ :: _, [], _, _ => rfl
  | [], _ :: _, _, h => by simp [bytesLess] at h
  | a :: x, b :: y, hne, h => by
    simp only [bytesLess, Bool.or_eq_false_iff, decide_eq_false_iff_not, UInt8.not_lt] at h
    obtain ⟨h1, h2⟩ := h
    by_cases e : a = b
    · subst e
      simp at h2
      have := less_total x y (fun e2 => hne (by rw [e2])) h2
      simp [bytesLess, this]
    · have : b < a := by
        rcases UInt8.lt_or_eq_of_le h1 with h3 | h3
        · exact h3
        · exact absurd h3.symm e
      simp [bytesLess, this]
theorem less_asymm : ∀ (a b : List UInt8), bytesLess a b = true → bytesLess b a = false
  | [], [], h => by simp [bytesLess] at h
  | _ :: _, [], h => by simp [bytesLess] at h
  | [], _ :: _, _ => rfl
  | a :: x, b :: y, h => by
    simp only [bytesLess, Bool.or_eq_true, decide_eq_true_eq, Bool.and_eq_true, beq_iff_eq] at h
    simp only [bytesLess, Bool.or_eq_false_iff, decide_eq_false_iff_not, UInt8.not_lt, Bool.and_eq_false_imp, beq_iff_eq]
    rcases h with h | ⟨rfl, h⟩
    · exact ⟨UInt8.le_of_lt h, fun e => by subst e; exact absurd h (UInt8.lt_irrefl _)⟩
    · exact ⟨UInt8.le_refl _, fun _ => less_asymm x y h⟩
theorem less_trans : ∀ (a b c : List UInt8), bytesLess a b = true → bytesLess b c = true → bytesLess a c = true
  | [], [], _, h1, _ => by simp [bytesLess] at h1
  | _ :: _, [], _, h1, _ => by simp [bytesLess] at h1
  | _, _ :: _, [], _, h2 => by simp [bytesLess] at h2
  | [], _ :: _, _ :: _, _, _ => by simp [bytesLess]
  | a :: x, b :: y, c :: z, h1, h2 => by
    simp only [bytesLess, Bool.or_eq_true, decide_eq_true_eq, Bool.and_eq_true, beq_iff_eq] at h1 h2 ⊢
    rcases h1 with h1 | ⟨rfl, h1⟩ <;> rcases h2 with h2 | ⟨rfl, h2⟩
    · exact .inl (UInt8.lt_trans h1 h2)
    · exact .inl h1
    · exact .inl h2
    · exact .inr ⟨rfl, less_trans x y z h1 h2⟩
theorem less_append : ∀ (x y u v : List UInt8), x.length = y.length → bytesLess (x ++ u) (y ++ v) = (bytesLess x y || (x == y && bytesLess u v))
  | [], [], u, v, _ => by simp [bytesLess]
  | _ :: _, [], _, _, h => by simp at h
  | [], _ :: _, _, _, h => by simp at h
  | a :: x, b :: y, u, v, h => by
    have ih := less_append x y u v (by simpa using h)
    simp only [List.cons_append, bytesLess, ih, List.cons_beq_cons]
    cases decide (a < b) <;> cases hab : (a == b) <;> simp

def sgn (a b : Bool) : Int := if a then -1 else if b then 1 else 0
def cmpL (x y : List UInt8) : Int := sgn (bytesLess x y) (!(bytesLess x y || x == y))
theorem cmpL_less {x y : List UInt8} (h : bytesLess x y = true) : cmpL x y = -1 := by simp [cmpL, sgn, h]
theorem cmpL_refl (x : List UInt8) : cmpL x x = 0 := by simp [cmpL, sgn, less_irrefl]
theorem cmpL_more {x y : List UInt8} (h : bytesLess y x = true) : cmpL x y = 1 := by
  have h1 := less_asymm y x h
  have h2 : x ≠ y := fun e => by subst e; rw [less_irrefl] at h; cases h
  simp [cmpL, sgn, h1, h2]
theorem cmpL_cases (x y : List UInt8) : (bytesLess x y = true ∧ cmpL x y = -1) ∨ (x = y ∧ cmpL x y = 0) ∨ (bytesLess y x = true ∧ cmpL x y = 1) := by
  cases h : bytesLess x y with
  | true => exact .inl ⟨rfl, cmpL_less h⟩
  | false =>
    by_cases e : x = y
    · subst e; exact .inr (.inl ⟨rfl, cmpL_refl x⟩)
    · have := less_total x y e h
      exact .inr (.inr ⟨this, cmpL_more this⟩)
theorem cmpL_swap (x y : List UInt8) : cmpL y x = -cmpL x y := by
  rcases cmpL_cases x y with ⟨h, e⟩ | ⟨rfl, e⟩ | ⟨h, e⟩
  · rw [e, cmpL_more h]; rfl
  · rw [e]; rfl
  · rw [e, cmpL_less h]
theorem cmpL_zero {x y : List UInt8} : cmpL x y = 0 ↔ x = y := by
  rcases cmpL_cases x y with ⟨h, e⟩ | ⟨rfl, e⟩ | ⟨h, e⟩
  · rw [e]; exact ⟨fun h => by omega, fun e => by subst e; rw [less_irrefl] at h; cases h⟩
  · exact ⟨fun _ => rfl, fun _ => e⟩
  · rw [e]; exact ⟨fun h => by omega, fun e => by subst e; rw [less_irrefl] at h; cases h⟩
theorem cmpL_trans {x y z : List UInt8} (h1 : cmpL x y ≤ 0) (h2 : cmpL y z ≤ 0) : cmpL x z ≤ 0 := by
  rcases cmpL_cases x y with ⟨h, e⟩ | ⟨rfl, e⟩ | ⟨h, e⟩
  · rcases cmpL_cases y z with ⟨h', e'⟩ | ⟨rfl, e'⟩ | ⟨h', e'⟩
    · rw [cmpL_less (less_trans _ _ _ h h')]; omega
    · exact h1
    · omega
  · exact h2
  · omega
theorem cmpL_range (x y : List UInt8) : -1 ≤ cmpL x y ∧ cmpL x y ≤ 1 := by
  rcases cmpL_cases x y with ⟨_, e⟩ | ⟨_, e⟩ | ⟨_, e⟩ <;> omega
theorem cmpL_append (x y u v : List UInt8) (h : x.length = y.length) : cmpL (x ++ u) (y ++ v) = if x = y then cmpL u v else cmpL x y := by
  by_cases e : x = y
  · subst e
    rw [if_pos rfl]
    have e2 : (x ++ u == x ++ v) = (u == v) := by rw [Bool.eq_iff_iff, beq_iff_eq, beq_iff_eq, List.append_cancel_left_eq]
    simp [cmpL, less_append, less_irrefl, e2]
  · rw [if_neg e]
    have e2 : (x ++ u == y ++ v) = false := by
      rw [beq_eq_false_iff_ne]
      exact fun h2 => e (List.append_inj h2 h).1
    have e3 : (x == y) = false := by simpa using e
    simp only [cmpL, less_append x y u v h, e2, e3, Bool.false_and, Bool.or_false]

/-! ### a number's bytes, the greatest first -/
def be : Nat → Nat → List UInt8
  | 0, _ => []
  | k + 1, m => UInt8.ofNat (m / 256 ^ k % 256) :: be k m
@[simp] theorem be_length : ∀ (k m : Nat), (be k m).length = k
  | 0, _ => rfl
  | k + 1, m => by simp [be, be_length k m]
theorem be_mod : ∀ (k m : Nat), be k m = be k (m % 256 ^ k)
  | 0, _ => rfl
  | k + 1, m => by
    have e1 : m % 256 ^ (k + 1) / 256 ^ k % 256 = m / 256 ^ k % 256 := by
      rw [Nat.pow_succ, Nat.mod_mul_right_div_self, Nat.mod_mod]
    have e2 : m % 256 ^ (k + 1) % 256 ^ k = m % 256 ^ k := Nat.mod_mod_of_dvd m ⟨256, by rw [Nat.pow_succ]⟩
    simp only [be, e1]
    rw [be_mod k m, be_mod k (m % 256 ^ (k + 1)), e2]
theorem ofNat_lt {a b : Nat} (ha : a < 256) (hb : b < 256) : (UInt8.ofNat a < UInt8.ofNat b) ↔ a < b := by
  rw [UInt8.lt_iff_toNat_lt, UInt8.toNat_ofNat', UInt8.toNat_ofNat', Nat.mod_eq_of_lt ha, Nat.mod_eq_of_lt hb]
theorem ofNat_inj {a b : Nat} (ha : a < 256) (hb : b < 256) (h : UInt8.ofNat a = UInt8.ofNat b) : a = b := by
  have := congrArg UInt8.toNat h
  rwa [UInt8.toNat_ofNat', UInt8.toNat_ofNat', Nat.mod_eq_of_lt ha, Nat.mod_eq_of_lt hb] at this
theorem be_less : ∀ (k m n : Nat), m < 256 ^ k → n < 256 ^ k → bytesLess (be k m) (be k n) = decide (m < n)
  | 0, m, n, hm, hn => by
    simp at hm hn
    subst hm; subst hn
    rfl
  | k + 1, m, n, hm, hn => by
    have hp : 0 < 256 ^ k := Nat.pow_pos (by decide)
    have qm : m / 256 ^ k < 256 := Nat.div_lt_of_lt_mul (by rw [Nat.pow_succ] at hm; exact hm)
    have qn : n / 256 ^ k < 256 := Nat.div_lt_of_lt_mul (by rw [Nat.pow_succ] at hn; exact hn)
    have ih := be_less k (m % 256 ^ k) (n % 256 ^ k) (Nat.mod_lt _ hp) (Nat.mod_lt _ hp)
    rw [← be_mod, ← be_mod] at ih
    simp only [be, bytesLess, ih, Nat.mod_eq_of_lt qm, Nat.mod_eq_of_lt qn]
    have dm := Nat.div_add_mod m (256 ^ k)
    have dn := Nat.div_add_mod n (256 ^ k)
    rcases Nat.lt_trichotomy (m / 256 ^ k) (n / 256 ^ k) with h | h | h
    · rw [decide_eq_true ((ofNat_lt qm qn).2 h), Bool.true_or]
      symm
      rw [decide_eq_true_iff]
      exact Nat.lt_of_div_lt_div h
    · have e1 : (UInt8.ofNat (m / 256 ^ k) < UInt8.ofNat (n / 256 ^ k)) = False := by rw [h]; simp [UInt8.lt_irrefl]
      have e2 : (UInt8.ofNat (m / 256 ^ k) == UInt8.ofNat (n / 256 ^ k)) = true := by rw [h]; simp
      rw [decide_eq_false (by rw [e1]; exact id), e2, Bool.false_or, Bool.true_and]
      rw [h] at dm
      rw [decide_eq_decide]
      omega
    · rw [decide_eq_false (fun h2 => by rw [ofNat_lt qm qn] at h2; omega)]
      have e2 : (UInt8.ofNat (m / 256 ^ k) == UInt8.ofNat (n / 256 ^ k)) = false := by
        rw [beq_eq_false_iff_ne]
        exact fun e => by have := ofNat_inj qm qn e; omega
      rw [e2, Bool.false_and, Bool.or_false]
      symm
      rw [decide_eq_false_iff_not]
      have := Nat.lt_of_div_lt_div h
      omega
theorem be_inj (k m n : Nat) (hm : m < 256 ^ k) (hn : n < 256 ^ k) (h : be k m = be k n) : m = n := by
  have h1 := be_less k m n hm hn
  have h2 := be_less k n m hn hm
  rw [h, less_irrefl] at h1
  rw [h, less_irrefl] at h2
  have a := of_decide_eq_false h1.symm
  have b := of_decide_eq_false h2.symm
  omega

/-! ### keys -/
structure K where
  kind : Int
  n : Int
  text : ByteArray
def K.t (k : K) : List UInt8 := k.text.data.toList
theorem K.ext' {a b : K} (h1 : a.kind = b.kind) (h2 : a.n = b.n) (h3 : a.t = b.t) : a = b := by
  obtain ⟨k1, n1, ⟨⟨t1⟩⟩⟩ := a
  obtain ⟨k2, n2, ⟨⟨t2⟩⟩⟩ := b
  simp only [K.t] at h1 h2 h3
  subst h1; subst h2; subst h3
  rfl
def K.zero : K := ⟨0, 0, ⟨#[]⟩⟩
def chr (b : UInt8) : Bool := (decide (97 ≤ b.toNat) && decide (b.toNat ≤ 122)) || (decide (48 ≤ b.toNat) && decide (b.toNat ≤ 57))
def isT (l : List UInt8) : Bool := l.all chr && decide (l.length ≤ 12)
def isK (k : K) : Bool := L1.inB k.kind 1 3 && L1.inB k.n (-1000000000000) 1000000000000 && (k.kind != 2 || k.n == 0) && isT k.t && (k.kind != 1 || k.t == [])
structure Good (k : K) : Prop where
  k0 : 1 ≤ k.kind
  k1 : k.kind ≤ 3
  n0 : -1000000000000 ≤ k.n
  n1 : k.n ≤ 1000000000000
  n2 : k.kind = 2 → k.n = 0
  t : isT k.t = true
  t1 : k.kind = 1 → k.t = []
theorem isK_iff {k : K} : isK k = true ↔ Good k := by
  unfold isK
  simp only [Bool.and_eq_true, Bool.or_eq_true, bne_iff_ne, beq_iff_eq, L1.inB_true]
  constructor
  · rintro ⟨⟨⟨⟨⟨a, b⟩, c, d⟩, e⟩, f⟩, g⟩
    exact ⟨a, b, c, d, fun h => e.resolve_left (fun h2 => h2 h), f, fun h => g.resolve_left (fun h2 => h2 h)⟩
  · rintro ⟨a, b, c, d, e, f, g⟩
    refine ⟨⟨⟨⟨⟨a, b⟩, c, d⟩, ?_⟩, f⟩, ?_⟩
    · by_cases h : k.kind = 2
      · exact .inr (e h)
      · exact .inl h
    · by_cases h : k.kind = 1
      · exact .inr (g h)
      · exact .inl h
def cmpK (a b : K) : Int :=
  if !(isK a) || !(isK b) then 0 else if a.kind ≠ b.kind then sgn (decide (a.kind < b.kind)) true else if a.n ≠ b.n then sgn (decide (a.n < b.n)) true else cmpL a.t b.t
def num6 (k : K) : List UInt8 := if k.kind = 2 then [] else be 6 (k.n + 1000000000000).toNat
def encU (k : K) : List UInt8 := if isK k then UInt8.ofNat k.kind.toNat :: (num6 k ++ k.t) else []
theorem encU_good {k : K} (h : isK k = true) : encU k = UInt8.ofNat k.kind.toNat :: (num6 k ++ k.t) := by unfold encU; rw [if_pos h]
theorem cmpL_cons (a b : UInt8) (x y : List UInt8) : cmpL (a :: x) (b :: y) = if a = b then cmpL x y else cmpL [a] [b] := by
  have := cmpL_append [a] [b] x y rfl
  simpa using this
theorem cmpL_one {a b : Nat} (ha : a < 256) (hb : b < 256) (h : a ≠ b) : cmpL [UInt8.ofNat a] [UInt8.ofNat b] = sgn (decide (a < b)) true := by
  rcases Nat.lt_or_gt_of_ne h with h | h
  · rw [cmpL_less (by simp [bytesLess, ofNat_lt ha hb, h])]
    simp [sgn, h]
  · rw [cmpL_more (by simp [bytesLess, ofNat_lt hb ha, h])]
    have : ¬ a < b := by omega
    simp [sgn, this]
/-- The bytes are ordered like the keys. -/
theorem cmp_enc {a b : K} (ha : isK a = true) (hb : isK b = true) : cmpL (encU a) (encU b) = cmpK a b := by
  have ga := isK_iff.1 ha
  have gb := isK_iff.1 hb
  have k1 := ga.k0; have k2 := ga.k1; have k3 := gb.k0; have k4 := gb.k1
  rw [encU_good ha, encU_good hb, cmpL_cons]
  unfold cmpK
  rw [ha, hb]
  simp only [Bool.not_true, Bool.or_self, Bool.false_eq_true, if_false]
  by_cases hk : a.kind = b.kind
  · rw [if_pos (by rw [hk]), if_neg (fun h => h hk)]
    by_cases h2 : a.kind = 2
    · have e1 : num6 a = [] := by unfold num6; rw [if_pos h2]
      have e2 : num6 b = [] := by unfold num6; rw [if_pos (by omega)]
      rw [e1, e2, if_neg (fun h => h (by rw [ga.n2 h2, gb.n2 (by omega)]))]
      rfl
    · have e1 : num6 a = be 6 (a.n + 1000000000000).toNat := by unfold num6; rw [if_neg h2]
      have e2 : num6 b = be 6 (b.n + 1000000000000).toNat := by unfold num6; rw [if_neg (by omega)]
      have a0 := ga.n0; have a1 := ga.n1; have b0 := gb.n0; have b1 := gb.n1
      have p6 : (256 : Nat) ^ 6 = 281474976710656 := by decide
      rw [e1, e2, cmpL_append _ _ _ _ (by simp)]
      by_cases hn : a.n = b.n
      · rw [if_pos (by rw [hn]), if_neg (fun h => h hn)]
      · have hne : (a.n + 1000000000000).toNat ≠ (b.n + 1000000000000).toNat := by omega
        have hbn : be 6 (a.n + 1000000000000).toNat ≠ be 6 (b.n + 1000000000000).toNat := fun h => hne (be_inj 6 _ _ (by rw [p6]; omega) (by rw [p6]; omega) h)
        rw [if_neg hbn, if_pos hn]
        have e3 : (be 6 (a.n + 1000000000000).toNat == be 6 (b.n + 1000000000000).toNat) = false := by simpa using hbn
        unfold cmpL
        rw [e3, be_less 6 _ _ (by rw [p6]; omega) (by rw [p6]; omega), Bool.or_false]
        rw [show decide ((a.n + 1000000000000).toNat < (b.n + 1000000000000).toNat) = decide (a.n < b.n) by rw [decide_eq_decide]; omega]
        cases decide (a.n < b.n) <;> rfl
  · have hne : a.kind.toNat ≠ b.kind.toNat := by omega
    have hbn : UInt8.ofNat a.kind.toNat ≠ UInt8.ofNat b.kind.toNat := fun h => hne (ofNat_inj (by omega) (by omega) h)
    rw [if_neg hbn, if_pos hk, cmpL_one (by omega) (by omega) hne]
    rw [show decide (a.kind.toNat < b.kind.toNat) = decide (a.kind < b.kind) by rw [decide_eq_decide]; omega]
/-- A key is told by its bytes. -/
theorem enc_inj {a b : K} (ha : isK a = true) (hb : isK b = true) (h : encU a = encU b) : a = b := by
  have ga := isK_iff.1 ha
  have gb := isK_iff.1 hb
  have k1 := ga.k0; have k2 := ga.k1; have k3 := gb.k0; have k4 := gb.k1
  have hc := cmp_enc ha hb
  rw [h, cmpL_refl] at hc
  unfold cmpK at hc
  rw [ha, hb] at hc
  simp only [Bool.not_true, Bool.or_self, Bool.false_eq_true, if_false] at hc
  by_cases hk : a.kind = b.kind
  · rw [if_neg (fun h => h hk)] at hc
    by_cases hn : a.n = b.n
    · rw [if_neg (fun h => h hn)] at hc
      exact K.ext' hk hn (cmpL_zero.1 hc.symm)
    · rw [if_pos hn] at hc
      unfold sgn at hc
      split at hc <;> simp at hc
  · rw [if_pos hk] at hc
    unfold sgn at hc
    split at hc <;> simp at hc
theorem cmpK_zero {a b : K} (ha : isK a = true) (hb : isK b = true) : cmpK a b = 0 ↔ a = b := by
  rw [← cmp_enc ha hb, cmpL_zero]
  exact ⟨enc_inj ha hb, fun h => by rw [h]⟩
theorem cmpK_swap (a b : K) : cmpK b a = -cmpK a b := by
  cases ha : isK a with
  | false => simp [cmpK, ha]
  | true => cases hb : isK b with
    | false => simp [cmpK, hb]
    | true => rw [← cmp_enc ha hb, ← cmp_enc hb ha, cmpL_swap]
theorem cmpK_trans {a b c : K} (ha : isK a = true) (hb : isK b = true) (hc : isK c = true) (h1 : cmpK a b ≤ 0) (h2 : cmpK b c ≤ 0) : cmpK a c ≤ 0 := by
  rw [← cmp_enc ha hb] at h1
  rw [← cmp_enc hb hc] at h2
  rw [← cmp_enc ha hc]
  exact cmpL_trans h1 h2
theorem cmpK_range (a b : K) : -1 ≤ cmpK a b ∧ cmpK a b ≤ 1 := by
  cases ha : isK a with
  | false => simp [cmpK, ha]
  | true => cases hb : isK b with
    | false => simp [cmpK, hb]
    | true => rw [← cmp_enc ha hb]; exact cmpL_range _ _
end Go.Proofs.Ytpapncecfleejaa.L4
