/-
  Plain mathematics of chapter 4, on: a key is read back from its bytes and from its text, and only a key's bytes and text are read. No condition.
-/
import Derived.Test.YtpapncecfleejaaL4Num
import Derived.Test.YtpapncecfleejaaL1Num
namespace Go.Proofs.Ytpapncecfleejaa.L4
set_option maxRecDepth 100000
open L1

/-! ### bytes -/
def val (l : List UInt8) : Nat := l.foldl (fun n b => n * 256 + b.toNat) 0
theorem val_snoc (l : List UInt8) (b : UInt8) : val (l ++ [b]) = val l * 256 + b.toNat := by unfold val; rw [List.foldl_append]; rfl
theorem val_take (l : List UInt8) (k : Nat) (h : k < l.length) : val (l.take (k + 1)) = val (l.take k) * 256 + l[k].toNat := by rw [List.take_succ_eq_append_getElem h, val_snoc]
theorem foldl_val : ∀ (l : List UInt8) (a : Nat), l.foldl (fun n b => n * 256 + b.toNat) a = a * 256 ^ l.length + val l
  | [], a => by simp [val]
  | b :: l, a => by
    unfold val
    simp only [List.foldl_cons]
    rw [foldl_val l (a * 256 + b.toNat), foldl_val l (0 * 256 + b.toNat), List.length_cons, Nat.pow_succ, Nat.add_mul, Nat.zero_mul, Nat.zero_add, Nat.mul_assoc, Nat.mul_comm (256 ^ l.length) 256]
    omega
theorem val_cons (b : UInt8) (l : List UInt8) : val (b :: l) = b.toNat * 256 ^ l.length + val l := by
  have := foldl_val l b.toNat
  unfold val at this ⊢
  simp only [List.foldl_cons, Nat.zero_mul, Nat.zero_add]
  exact this
theorem val_lt : ∀ (l : List UInt8), val l < 256 ^ l.length
  | [] => by simp [val]
  | b :: l => by
    have := val_lt l
    have hb : b.toNat < 256 := b.toNat_lt
    rw [val_cons, List.length_cons, Nat.pow_succ]
    have : (b.toNat + 1) * 256 ^ l.length ≤ 256 * 256 ^ l.length := Nat.mul_le_mul_right _ (by omega)
    rw [Nat.add_mul, Nat.one_mul] at this
    rw [Nat.mul_comm _ 256]
    omega
theorem val_be : ∀ (k m : Nat), m < 256 ^ k → val (be k m) = m
  | 0, m, h => by simp at h; subst h; rfl
  | k + 1, m, h => by
    have hp : 0 < 256 ^ k := Nat.pow_pos (by decide)
    have q : m / 256 ^ k < 256 := Nat.div_lt_of_lt_mul (by rw [Nat.pow_succ] at h; exact h)
    rw [be, val_cons, be_length, UInt8.toNat_ofNat', Nat.mod_eq_of_lt q, Nat.mod_eq_of_lt (by omega), be_mod, val_be k (m % 256 ^ k) (Nat.mod_lt _ hp), Nat.mul_comm]
    exact Nat.div_add_mod m (256 ^ k)
theorem be_val (l : List UInt8) : be l.length (val l) = l := by
  induction l with
  | nil => rfl
  | cons b l ih =>
    have hp : 0 < 256 ^ l.length := Nat.pow_pos (by decide)
    have hl := val_lt l
    have hb : b.toNat < 256 := b.toNat_lt
    rw [List.length_cons, be, val_cons, Nat.mul_comm, Nat.mul_add_div hp, Nat.div_eq_of_lt hl, Nat.add_zero, Nat.mod_eq_of_lt hb, UInt8.ofNat_toNat, be_mod, Nat.mul_add_mod, Nat.mod_eq_of_lt hl, ih]
def cand : List UInt8 → Option K
  | [] => none
  | b :: r => if b.toNat = 2 then some ⟨2, 0, ⟨r.toArray⟩⟩ else if r.length < 6 then none else some ⟨b.toNat, (val (r.take 6) : Int) - 1000000000000, ⟨(r.drop 6).toArray⟩⟩
/-- DecodeKey's answer. -/
def decO (l : List UInt8) : Option K := (cand l).filter isK
theorem dec_enc {k : K} (h : isK k = true) : decO (encU k) = some k := by
  have g := isK_iff.1 h
  have k0 := g.k0; have k1 := g.k1; have n0 := g.n0; have n1 := g.n1
  have p6 : (256 : Nat) ^ 6 = 281474976710656 := by decide
  have e : cand (encU k) = some k := by
    rw [encU_good h]
    show (if (UInt8.ofNat k.kind.toNat).toNat = 2 then some (⟨2, 0, ⟨(num6 k ++ k.t).toArray⟩⟩ : K) else if (num6 k ++ k.t).length < 6 then none else some ⟨(UInt8.ofNat k.kind.toNat).toNat, (val ((num6 k ++ k.t).take 6) : Int) - 1000000000000, ⟨((num6 k ++ k.t).drop 6).toArray⟩⟩) = some k
    rw [UInt8.toNat_ofNat', Nat.mod_eq_of_lt (by omega)]
    by_cases h2 : k.kind = 2
    · have e1 : num6 k = [] := by unfold num6; rw [if_pos h2]
      rw [if_pos (by omega), e1, List.nil_append]
      congr 1
      exact K.ext' h2.symm (g.n2 h2).symm (by simp [K.t])
    · have e1 : num6 k = be 6 (k.n + 1000000000000).toNat := by unfold num6; rw [if_neg h2]
      rw [if_neg (by omega), e1, if_neg (by simp)]
      congr 1
      refine K.ext' (by show ((k.kind.toNat : Nat) : Int) = k.kind; omega) ?_ ?_
      · show ((val ((be 6 (k.n + 1000000000000).toNat ++ k.t).take 6) : Nat) : Int) - 1000000000000 = k.n
        rw [List.take_append_of_le_length (by simp), List.take_of_length_le (by simp), val_be 6 _ (by rw [p6]; omega)]
        omega
      · show ((be 6 (k.n + 1000000000000).toNat ++ k.t).drop 6).toArray.toList = k.t
        rw [List.drop_append_of_le_length (by simp), List.drop_of_length_le (by simp)]
        rfl
  unfold decO
  rw [e, Option.filter_some, if_pos h]
theorem dec_some {l : List UInt8} {k : K} (h : decO l = some k) : isK k = true ∧ encU k = l := by
  unfold decO at h
  rw [Option.filter_eq_some_iff] at h
  obtain ⟨hc, hk⟩ := h
  refine ⟨hk, ?_⟩
  rw [encU_good hk]
  have g := isK_iff.1 hk
  have k0 := g.k0; have k1 := g.k1; have n0 := g.n0
  unfold cand at hc
  split at hc
  · cases hc
  · rename_i b r
    have hb : b.toNat < 256 := b.toNat_lt
    split at hc
    · rename_i h2
      obtain rfl := Option.some.inj hc
      have e1 : b = UInt8.ofNat (Int.toNat 2) := by rw [← UInt8.toNat_inj, h2]; rfl
      rw [e1]
      simp [num6, K.t]
    · split at hc
      · cases hc
      · rename_i h2 h6
        obtain rfl := Option.some.inj hc
        have hv := val_lt (r.take 6)
        have hl : (r.take 6).length = 6 := by simp; omega
        have hv2 := be_val (r.take 6)
        rw [hl] at hv2
        simp only [num6, K.t] at n0 ⊢
        rw [if_neg (by omega), show ((val (r.take 6) : Int) - 1000000000000 + 1000000000000).toNat = val (r.take 6) by omega, hv2, Int.toNat_natCast, UInt8.ofNat_toNat]
        simp
/-- Whatever reads only keys' bytes, and all of them, reads as DecodeKey. -/
theorem dec_none {l : List UInt8} (h : decO l = none) (k : K) (hk : isK k = true) : encU k ≠ l := fun e => by
  rw [← e, dec_enc hk] at h
  cases h
theorem dec_unique {l : List UInt8} {o : Option K} (h1 : ∀ k, o = some k → isK k = true ∧ encU k = l) (h2 : o = none → ∀ k, isK k = true → encU k ≠ l) : o = decO l := by
  cases o with
  | some k =>
    obtain ⟨a, b⟩ := h1 k rfl
    rw [← b, dec_enc a]
  | none =>
    cases h : decO l with
    | none => rfl
    | some k =>
      obtain ⟨a, b⟩ := dec_some h
      exact absurd b (h2 rfl k a)

/-! ### texts -/
theorem dec_chars (u : Nat) : ∀ b ∈ Lib.decDigits u, 48 ≤ b.toNat ∧ b.toNat ≤ 57 := by
  intro b hb
  obtain ⟨k, hk⟩ := List.getElem?_of_mem hb
  obtain ⟨d, hd⟩ := Lib.digit_of_decFrom _ 0 _ (decFrom_dec u) k b hk
  unfold Lib.digitVal at hd
  split at hd
  · assumption
  · cases hd
theorem dec_inj {u v : Nat} (h : Lib.decDigits u = Lib.decDigits v) : u = v := by
  have a := decFrom_dec u
  rw [h, decFrom_dec v] at a
  exact (Option.some.inj a).symm
theorem dec_ne (u : Nat) : Lib.decDigits u ≠ [] := fun h => by
  have := Lib.decDigits_length u
  rw [h] at this
  have := Lib.nDigits_pos u
  simp at *
  omega
theorem itoa_neg' {n : Int} (h : n < 0) : Lib.itoa n = 45 :: Lib.decDigits n.natAbs := by unfold Lib.itoa; rw [if_pos h]
theorem itoa_no39 (n : Int) : (39 : UInt8) ∉ Lib.itoa n := fun h => by
  by_cases hn : n < 0
  · rw [itoa_neg' hn] at h
    rcases List.mem_cons.1 h with h | h
    · cases h
    · have := (dec_chars _ _ h).1
      revert this; decide
  · rw [itoa_nonneg (by omega)] at h
    have := (dec_chars _ _ h).1
    revert this; decide
theorem itoa_ne (n : Int) : Lib.itoa n ≠ [] := by
  by_cases hn : n < 0
  · rw [itoa_neg' hn]; simp
  · rw [itoa_nonneg (by omega)]; exact dec_ne _
theorem chr_no39 {l : List UInt8} (h : isT l = true) : (39 : UInt8) ∉ l := fun hm => by
  unfold isT at h
  rw [Bool.and_eq_true, List.all_eq_true] at h
  have := h.1 _ hm
  revert this; decide
def fmtU (k : K) : List UInt8 := if isK k then (if k.kind = 2 then [] else Lib.itoa k.n) ++ (if k.kind = 1 then [] else 39 :: k.t) else []
theorem fmtU_good {k : K} (h : isK k = true) : fmtU k = (if k.kind = 2 then [] else Lib.itoa k.n) ++ (if k.kind = 1 then [] else 39 :: k.t) := by unfold fmtU; rw [if_pos h]
/-- What stands ahead of the first '; what stands from there on. -/
def hd (s : List UInt8) : List UInt8 := s.takeWhile (· != 39)
def tl (s : List UInt8) : List UInt8 := s.dropWhile (· != 39)
theorem hd_app (p q : List UInt8) (h : (39 : UInt8) ∉ p) : hd (p ++ 39 :: q) = p := by
  unfold hd
  rw [List.takeWhile_append_of_pos (by intro x hx; simp; exact fun e => h (by rw [← e]; exact hx))]
  simp
theorem tl_app (p q : List UInt8) (h : (39 : UInt8) ∉ p) : tl (p ++ 39 :: q) = 39 :: q := by
  unfold tl
  rw [List.dropWhile_append_of_pos (by intro x hx; simp; exact fun e => h (by rw [← e]; exact hx))]
  simp
theorem hd_all (p : List UInt8) (h : (39 : UInt8) ∉ p) : hd p = p := by
  have := List.takeWhile_append_of_pos (p := (· != 39)) (l₁ := p) (l₂ := []) (by intro x hx; simp; exact fun e => h (by rw [← e]; exact hx))
  simpa [hd] using this
theorem tl_all (p : List UInt8) (h : (39 : UInt8) ∉ p) : tl p = [] := by
  have := List.dropWhile_append_of_pos (p := (· != 39)) (l₁ := p) (l₂ := []) (by intro x hx; simp; exact fun e => h (by rw [← e]; exact hx))
  simpa [tl] using this
/-- A number's text, read. -/
def rdn : List UInt8 → Option Int
  | 45 :: q => if pOk q then some (-(pVal q)) else none
  | q => if pOk q then some (pVal q) else none
theorem num_dec {u : Nat} (h : u ≤ 1000000000000) : Num (Lib.decDigits u) u := ⟨by omega, by omega, by rw [itoa_nonneg (by omega)]; rfl⟩
theorem rdn_itoa {n : Int} (h0 : -1000000000000 ≤ n) (h1 : n ≤ 1000000000000) : rdn (Lib.itoa n) = some n := by
  by_cases hn : n < 0
  · have hm := num_dec (u := n.natAbs) (by omega)
    rw [itoa_neg' hn]
    show (if pOk (Lib.decDigits n.natAbs) then some (-(pVal (Lib.decDigits n.natAbs))) else none) = some n
    rw [hm.ok, hm.val]
    simp
    omega
  · have hm := num_dec (u := n.toNat) (by omega)
    rw [itoa_nonneg (by omega)]
    have hne : ∀ q, Lib.decDigits n.toNat ≠ 45 :: q := fun q e => by
      have := (dec_chars n.toNat 45 (by rw [e]; simp)).1
      revert this; decide
    unfold rdn
    split
    · rename_i q e
      exact absurd e (hne q)
    · rw [hm.ok, hm.val]
      simp
      omega
def candT (s : List UInt8) : Option K :=
  if hd s = [] then some ⟨if tl s = [] then 1 else 2, 0, ⟨(tl s).tail.toArray⟩⟩
  else (rdn (hd s)).map fun n => ⟨if tl s = [] then 1 else 3, n, ⟨(tl s).tail.toArray⟩⟩
/-- ParseKey's answer. -/
def parO (s : List UInt8) : Option K := (candT s).filter fun k => isK k && (fmtU k == s)
theorem par_fmt {k : K} (h : isK k = true) : parO (fmtU k) = some k := by
  have g := isK_iff.1 h
  have k0 := g.k0; have k1 := g.k1
  have hr := rdn_itoa g.n0 g.n1
  have hi := itoa_no39 k.n
  have hin := itoa_ne k.n
  have e : candT (fmtU k) = some k := by
    rw [fmtU_good h]
    unfold candT
    by_cases h1 : k.kind = 1
    · rw [if_pos h1, if_neg (show ¬ k.kind = 2 by omega), List.append_nil, hd_all _ hi, tl_all _ hi, if_neg hin, hr]
      simp only [Option.map_some, if_true]
      congr 1
      exact K.ext' h1.symm rfl (by rw [g.t1 h1]; rfl)
    · rw [if_neg h1]
      by_cases h2 : k.kind = 2
      · rw [if_pos h2, hd_app _ _ (by simp), tl_app _ _ (by simp), if_pos rfl]
        congr 1
        exact K.ext' (by simp [h2]) (g.n2 h2).symm (by simp [K.t])
      · rw [if_neg h2, hd_app _ _ hi, tl_app _ _ hi, if_neg hin, hr]
        simp only [Option.map_some]
        congr 1
        exact K.ext' (by simp; omega) rfl (by simp [K.t])
  unfold parO
  rw [e, Option.filter_some, if_pos (by simp [h])]
theorem par_some {s : List UInt8} {k : K} (h : parO s = some k) : isK k = true ∧ fmtU k = s := by
  unfold parO at h
  rw [Option.filter_eq_some_iff] at h
  simpa using h.2
theorem par_none {s : List UInt8} (h : parO s = none) (k : K) (hk : isK k = true) : fmtU k ≠ s := fun e => by
  rw [← e, par_fmt hk] at h
  cases h
theorem par_unique {s : List UInt8} {o : Option K} (h1 : ∀ k, o = some k → isK k = true ∧ fmtU k = s) (h2 : o = none → ∀ k, isK k = true → fmtU k ≠ s) : o = parO s := by
  cases o with
  | some k =>
    obtain ⟨a, b⟩ := h1 k rfl
    rw [← b, par_fmt a]
  | none =>
    cases h : parO s with
    | none => rfl
    | some k =>
      obtain ⟨a, b⟩ := par_some h
      exact absurd b (h2 rfl k a)
end Go.Proofs.Ytpapncecfleejaa.L4
