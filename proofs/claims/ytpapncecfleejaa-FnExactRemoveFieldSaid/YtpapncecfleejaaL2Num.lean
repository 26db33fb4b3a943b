/-
  Plain mathematics of chapter 2: the varint of a number, what a reading of a varint gives, lists of numbers; that reading inverts writing and writing inverts reading. No condition.
-/
import Derived.Test.YtpapncecfleejaaL1Base
namespace Go.Proofs.Ytpapncecfleejaa.L2
set_option maxRecDepth 100000

def uv (n : Nat) : List Int := if n < 128 then [(n : Int)] else ((n % 128 + 128 : Nat) : Int) :: uv (n / 128)
termination_by n
decreasing_by omega
theorem uv_small {n : Nat} (h : n < 128) : uv n = [(n : Int)] := by rw [uv, if_pos h]
theorem uv_big {n : Nat} (h : ¬ n < 128) : uv n = ((n % 128 + 128 : Nat) : Int) :: uv (n / 128) := by rw [uv, if_neg h]
theorem uv_len_le : ∀ (j n : Nat), n < 128 ^ (j + 1) → (uv n).length ≤ j + 1
  | 0, n, h => by rw [uv_small (by omega)]; simp
  | j + 1, n, h => by
    by_cases hn : n < 128
    · rw [uv_small hn]; simp
    · rw [uv_big hn, List.length_cons]
      have := uv_len_le j (n / 128) (by rw [Nat.pow_succ] at h; omega)
      omega
theorem uv_len_pos (n : Nat) : 1 ≤ (uv n).length := by
  by_cases hn : n < 128
  · rw [uv_small hn]; simp
  · rw [uv_big hn]; simp
theorem uv_byte (n : Nat) : ∀ x ∈ uv n, 0 ≤ x ∧ x ≤ 255 := by
  induction n using Nat.strongRecOn with
  | _ n ih =>
    intro x hx
    by_cases hn : n < 128
    · rw [uv_small hn] at hx
      simp at hx
      omega
    · rw [uv_big hn] at hx
      rcases List.mem_cons.1 hx with h | h
      · omega
      · exact ih (n / 128) (by omega) x h

/-- What AppendUvarint appends. -/
def enc (n : Int) : List Int := if L1.inB n 0 1000000000000 = true then uv n.toNat else []
theorem enc_in {n : Int} (h0 : 0 ≤ n) (h1 : n ≤ 1000000000000) : enc n = uv n.toNat := by rw [enc, if_pos (L1.inB_true.mpr ⟨h0, h1⟩)]
theorem enc_out {n : Int} (h : ¬ (0 ≤ n ∧ n ≤ 1000000000000)) : enc n = [] := by rw [enc, if_neg (by rw [L1.inB_false.mpr h]; simp)]
theorem enc_len (n : Int) : (enc n).length ≤ 6 := by
  by_cases h : 0 ≤ n ∧ n ≤ 1000000000000
  · rw [enc_in h.1 h.2]
    exact uv_len_le 5 _ (by have : (128 : Nat) ^ (5 + 1) = 4398046511104 := by decide
                            omega)
  · rw [enc_out h]; simp
theorem enc_byte (n : Int) : ∀ x ∈ enc n, 0 ≤ x ∧ x ≤ 255 := by
  by_cases h : 0 ≤ n ∧ n ≤ 1000000000000
  · rw [enc_in h.1 h.2]; exact uv_byte _
  · rw [enc_out h]; simp

/-- What EncodeInts gives. -/
def encs (l : List Int) : List Int := l.flatMap enc
theorem encs_len (l : List Int) : (encs l).length ≤ 6 * l.length := by
  induction l with
  | nil => simp [encs]
  | cons x l ih =>
    have := enc_len x
    simp only [encs, List.flatMap_cons, List.length_append, List.length_cons] at ih ⊢
    omega
theorem encs_take (l : List Int) (k : Nat) (h : k < l.length) : encs (l.take (k + 1)) = encs (l.take k) ++ enc l[k] := by
  rw [List.take_succ_eq_append_getElem h, encs, List.flatMap_append]
  simp [encs]
theorem encs_byte (l : List Int) : ∀ x ∈ encs l, 0 ≤ x ∧ x ≤ 255 := by
  intro x hx
  obtain ⟨n, _, hn⟩ := List.mem_flatMap.1 hx
  exact enc_byte n x hn

/-- A reading, k bytes in, v read so far: the number and how many bytes in all. -/
def rdAux : Nat → Int → List Int → Option (Int × Nat)
  | _, _, [] => none
  | k, v, c :: s =>
    if 6 ≤ k then none
    else if c < 128 then (if (c = 0 ∧ 0 < k) ∨ 1000000000000 < v + c % 128 * 128 ^ k then none else some (v + c % 128 * 128 ^ k, k + 1))
    else rdAux (k + 1) (v + c % 128 * 128 ^ k) s
def rd (l : List Int) (off : Int) : Option (Int × Nat) := if 0 ≤ off then rdAux 0 0 (l.drop off.toNat) else none
def rdN (l : List Int) (off : Int) : Int := match rd l off with | some (v, _) => v | none => 0
def rdE (l : List Int) (off : Int) : Int := match rd l off with | some (_, m) => off + m | none => 0
def rdB (l : List Int) (off : Int) : Bool := (rd l off).isSome

theorem rdAux_uv (n : Nat) : ∀ (k : Nat) (v : Int) (t : List Int), k + (uv n).length ≤ 6 → (k = 0 ∨ 0 < n) → 0 ≤ v → v + n * 128 ^ k ≤ 1000000000000 → rdAux k v (uv n ++ t) = some (v + n * 128 ^ k, k + (uv n).length) := by
  induction n using Nat.strongRecOn with
  | _ n ih =>
    intro k v t hk hz hv hm
    by_cases hn : n < 128
    · rw [uv_small hn] at hk ⊢
      simp only [List.length_singleton] at hk ⊢
      have e : (n : Int) % 128 = n := by omega
      simp only [List.cons_append, List.nil_append, rdAux]
      rw [if_neg (by omega), if_pos (by omega), if_neg (by rw [e]; omega), e]
    · rw [uv_big hn] at hk ⊢
      simp only [List.length_cons] at hk ⊢
      simp only [List.cons_append, rdAux]
      have e : ((n % 128 + 128 : Nat) : Int) % 128 = ((n % 128 : Nat) : Int) := by omega
      have hq : (n : Int) = 128 * ((n / 128 : Nat) : Int) + ((n % 128 : Nat) : Int) := by omega
      have e2 : v + ((n % 128 : Nat) : Int) * 128 ^ k + ((n / 128 : Nat) : Int) * 128 ^ (k + 1) = v + (n : Int) * 128 ^ k := by
        rw [Int.pow_succ]
        generalize (128 : Int) ^ k = p
        rw [hq, Int.add_mul, Int.mul_comm p 128, ← Int.mul_assoc, Int.mul_comm ((n / 128 : Nat) : Int) 128]
        omega
      rw [if_neg (by omega), if_neg (by omega), e, ih (n / 128) (by omega) (k + 1) _ t (by omega) (.inr (by omega)) (by
        have := Int.mul_nonneg (show (0 : Int) ≤ ((n % 128 : Nat) : Int) by omega) (show (0 : Int) ≤ 128 ^ k from Int.le_of_lt (Int.pow_pos (by decide)))
        omega) (by rw [e2]; exact hm), e2]
      simp
      omega

theorem rdAux_out : ∀ (s : List Int), (∀ x ∈ s, 0 ≤ x ∧ x ≤ 255) → ∀ (k : Nat) (v r : Int) (m : Nat), 0 ≤ v → rdAux k v s = some (r, m) →
    ∃ q : Nat, r = v + q * 128 ^ k ∧ k < m ∧ m ≤ 6 ∧ m - k ≤ s.length ∧ s.take (m - k) = uv q ∧ (0 < k → 0 < q) ∧ r ≤ 1000000000000
  | [], _, k, v, r, m, _, h => by simp [rdAux] at h
  | c :: s, hs, k, v, r, m, hv, h => by
    rw [rdAux] at h
    have hc := hs c (by simp)
    by_cases h6 : 6 ≤ k
    · rw [if_pos h6] at h; cases h
    · rw [if_neg h6] at h
      by_cases hc1 : c < 128
      · rw [if_pos hc1] at h
        by_cases hb : (c = 0 ∧ 0 < k) ∨ 1000000000000 < v + c % 128 * 128 ^ k
        · rw [if_pos hb] at h; cases h
        · rw [if_neg hb] at h
          simp only [Option.some.injEq, Prod.mk.injEq] at h
          obtain ⟨h1, h2⟩ := h
          have e : c % 128 = c := by omega
          have e2 : ((c.toNat : Nat) : Int) = c := by omega
          refine ⟨c.toNat, ?_, by omega, by omega, by simp; omega, ?_, fun hk => ?_, by omega⟩
          · rw [← h1, e, e2]
          · rw [show m - k = 1 by omega, uv_small (by omega), e2]
            simp
          · have : ¬ (c = 0 ∧ 0 < k) := fun hx => hb (.inl hx)
            omega
      · rw [if_neg hc1] at h
        have hp : (0 : Int) ≤ 128 ^ k := Int.le_of_lt (Int.pow_pos (by decide))
        have hnn := Int.mul_nonneg (show (0 : Int) ≤ c % 128 by omega) hp
        obtain ⟨q, h1, h2, h3, h4, h5, h6', h7⟩ := rdAux_out s (fun x hx => hs x (by simp [hx])) (k + 1) _ r m (by omega) h
        refine ⟨(c % 128).toNat + 128 * q, ?_, by omega, h3, by simp; omega, ?_, fun _ => by have := h6' (by omega); omega, h7⟩
        · rw [h1, Int.pow_succ]
          have e : ((c % 128).toNat : Int) = c % 128 := by omega
          generalize (128 : Int) ^ k = p
          have e3 : (q : Int) * (p * 128) = 128 * (q : Int) * p := by rw [Int.mul_comm p 128, ← Int.mul_assoc, Int.mul_comm (q : Int) 128]
          rw [Int.natCast_add, Int.natCast_mul, e, Int.add_mul, e3, Int.add_assoc]
          rfl
        · have hq := h6' (by omega)
          rw [show m - k = (m - (k + 1)) + 1 by omega, List.take_succ_cons, h5, uv_big (n := (c % 128).toNat + 128 * q) (by omega)]
          congr 1
          · omega
          · congr 1
            omega

/-- Reading what was written. -/
theorem rd_enc (l t : List Int) (n : Int) (h0 : 0 ≤ n) (h1 : n ≤ 1000000000000) : rd (l ++ (enc n ++ t)) l.length = some (n, (enc n).length) := by
  have hl := enc_len n
  rw [enc_in h0 h1] at hl ⊢
  unfold rd
  rw [if_pos (by omega)]
  have e : (l ++ (uv n.toNat ++ t)).drop ((l.length : Int).toNat) = uv n.toNat ++ t := by simp
  rw [e, rdAux_uv n.toNat 0 0 t (by omega) (.inl rfl) (by omega) (by simp; omega)]
  simp
  omega
/-- What was read is what would be written. -/
theorem rd_out {l : List Int} (hl : ∀ x ∈ l, 0 ≤ x ∧ x ≤ 255) {off : Int} {v : Int} {m : Nat} (h : rd l off = some (v, m)) :
    0 ≤ off ∧ 1 ≤ m ∧ m ≤ 6 ∧ off + m ≤ l.length ∧ 0 ≤ v ∧ v ≤ 1000000000000 ∧ (l.drop off.toNat).take m = enc v := by
  unfold rd at h
  by_cases ho : 0 ≤ off
  · rw [if_pos ho] at h
    obtain ⟨q, h1, h2, h3, h4, h5, _, h7⟩ := rdAux_out _ (fun x hx => hl x (List.mem_of_mem_drop hx)) 0 0 v m (by omega) h
    simp at h1 h4
    refine ⟨ho, by omega, h3, by omega, by omega, h7, ?_⟩
    rw [Nat.sub_zero] at h5
    rw [h5, enc_in (by omega) h7]
    congr 1
    omega
  · rw [if_neg ho] at h; cases h
theorem rd_some {l : List Int} {off : Int} (h : rdB l off = true) : rd l off = some (rdN l off, (rdE l off - off).toNat) ∧ off ≤ rdE l off := by
  unfold rdB at h
  unfold rdN rdE
  cases hr : rd l off with
  | none => rw [hr] at h; cases h
  | some p =>
    obtain ⟨v, m⟩ := p
    simp
    omega
theorem rd_none {l : List Int} {off : Int} (h : rdB l off = false) : rdN l off = 0 ∧ rdE l off = 0 := by
  unfold rdB at h
  unfold rdN rdE
  cases hr : rd l off with
  | none => exact ⟨rfl, rfl⟩
  | some p => rw [hr] at h; cases h
theorem rdN_of {l : List Int} {off v : Int} {m : Nat} (h : rd l off = some (v, m)) : rdN l off = v := by unfold rdN; rw [h]
theorem rdE_of {l : List Int} {off v : Int} {m : Nat} (h : rd l off = some (v, m)) : rdE l off = off + m := by unfold rdE; rw [h]
theorem rdB_of {l : List Int} {off v : Int} {m : Nat} (h : rd l off = some (v, m)) : rdB l off = true := by unfold rdB; rw [h]; rfl
theorem rd_bounds {l : List Int} (hl : ∀ x ∈ l, 0 ≤ x ∧ x ≤ 255) (off : Int) : 0 ≤ rdN l off ∧ rdN l off ≤ 1000000000000 ∧ 0 ≤ rdE l off ∧ rdE l off ≤ l.length := by
  cases h : rdB l off with
  | false =>
    obtain ⟨h1, h2⟩ := rd_none h
    rw [h1, h2]
    omega
  | true =>
    obtain ⟨h1, h2⟩ := rd_some h
    obtain ⟨a, b, c, d, e, f, _⟩ := rd_out hl h1
    omega
end Go.Proofs.Ytpapncecfleejaa.L2
