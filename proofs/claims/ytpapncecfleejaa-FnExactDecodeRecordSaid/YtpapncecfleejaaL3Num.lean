/-
  Plain mathematics of chapter 3: the hash, that it depends on each value, the cipher, that each direction inverts the other. No condition.
-/
import Derived.Test.YtpapncecfleejaaL2Num
namespace Go.Proofs.Ytpapncecfleejaa.L3
set_option maxRecDepth 100000

def hstep (d v : Int) : Int := (d * 1000003 + v % 2147483647 + 13) % 2147483647
def hfold (d : Int) (l : List Int) : Int := l.foldl hstep d
def hs (l : List Int) : Int := hfold 11 l
def kh (k : Int) (l : List Int) : Int := hs (k :: (l ++ [k]))
theorem hstep_range (d v : Int) : 0 ≤ hstep d v ∧ hstep d v < 2147483647 := by unfold hstep; omega
theorem hfold_range {d : Int} (h : 0 ≤ d ∧ d < 2147483647) : ∀ l, 0 ≤ hfold d l ∧ hfold d l < 2147483647
  | [] => h
  | v :: l => hfold_range (hstep_range d v) l
theorem hs_range (l : List Int) : 0 ≤ hs l ∧ hs l < 2147483647 := hfold_range (by omega) l
theorem kh_range (k : Int) (l : List Int) : 0 ≤ kh k l ∧ kh k l < 2147483647 := hs_range _
theorem hs_snoc (l : List Int) (v : Int) : hs (l ++ [v]) = hstep (hs l) v := by simp [hs, hfold]
theorem hs_take (l : List Int) (k : Nat) (h : k < l.length) : hs (l.take (k + 1)) = hstep (hs (l.take k)) l[k] := by rw [List.take_succ_eq_append_getElem h, hs_snoc]
theorem hdiff (d e r : Int) (h : (d * 1000003 + r + 13) % 2147483647 = (e * 1000003 + r + 13) % 2147483647) : ∃ k, (d - e) * 1000003 = 2147483647 * k := by
  have a := Int.emod_add_mul_ediv (d * 1000003 + r + 13) 2147483647
  have b := Int.emod_add_mul_ediv (e * 1000003 + r + 13) 2147483647
  rw [h] at a
  generalize (d * 1000003 + r + 13) / 2147483647 = p at *
  generalize (e * 1000003 + r + 13) / 2147483647 = q at *
  generalize (e * 1000003 + r + 13) % 2147483647 = s at *
  refine ⟨p - q, ?_⟩
  clear h
  rw [Int.mul_sub, Int.sub_mul]
  generalize 2147483647 * p = P at *
  generalize 2147483647 * q = Q at *
  generalize d * 1000003 = D at *
  generalize e * 1000003 = E at *
  omega
theorem hcancel (x k : Int) (h : x * 1000003 = 2147483647 * k) (h1 : -2147483647 < x) (h2 : x < 2147483647) : x = 0 := by
  have e : x = 2147483647 * (k * 1523789695 - x * 709572) := by
    have a : 2147483647 * (k * 1523789695) = (2147483647 * k) * 1523789695 := by rw [Int.mul_assoc]
    rw [Int.mul_sub, a, ← h, Int.mul_assoc]
    clear a h
    omega
  generalize (k * 1523789695 - x * 709572) = z at e
  clear h
  omega
theorem hstep_left {d e v : Int} (hd : 0 ≤ d ∧ d < 2147483647) (he : 0 ≤ e ∧ e < 2147483647) (h : hstep d v = hstep e v) : d = e := by
  unfold hstep at h
  obtain ⟨k, hk⟩ := hdiff d e _ h
  have := hcancel (d - e) k hk (by clear h hk; omega) (by clear h hk; omega)
  clear h hk
  omega
theorem hstep_right {d v u : Int} (h : hstep d v = hstep d u) : v % 2147483647 = u % 2147483647 := by
  unfold hstep at h
  omega
theorem hfold_left : ∀ (l : List Int) {d e : Int}, 0 ≤ d ∧ d < 2147483647 → 0 ≤ e ∧ e < 2147483647 → hfold d l = hfold e l → d = e
  | [], _, _, _, _, h => h
  | v :: l, d, e, hd, he, h => hstep_left hd he (hfold_left l (hstep_range d v) (hstep_range e v) h)
theorem hfold_set : ∀ (l : List Int) (i : Nat) (v d : Int) (hi : i < l.length), 0 ≤ d ∧ d < 2147483647 → hfold d (l.set i v) = hfold d l → v % 2147483647 = l[i] % 2147483647
  | [], i, v, d, hi, _, _ => by simp at hi
  | u :: l, 0, v, d, hi, hd, h => by
    have := hfold_left l (hstep_range d v) (hstep_range d u) h
    exact hstep_right this
  | u :: l, i + 1, v, d, hi, hd, h => hfold_set l i v (hstep d u) (by simpa using hi) (hstep_range d u) h
/-- The keyed hash depends on each of its values. -/
theorem kh_set (k : Int) (l : List Int) (i : Nat) (v : Int) (hi : i < l.length) (h : kh k (l.set i v) = kh k l) : v % 2147483647 = l[i] % 2147483647 := by
  have e : k :: (l.set i v ++ [k]) = (k :: (l ++ [k])).set (i + 1) v := by
    rw [List.set_cons_succ, List.set_append_left _ _ hi]
  unfold kh hs at h
  rw [e] at h
  have := hfold_set (k :: (l ++ [k])) (i + 1) v 11 (by simp; omega) (by omega) h
  rw [this]
  simp [List.getElem_append_left, hi]

/-- A byte in, a byte out; i is its place. -/
def encB (k : Int) (i : Nat) (b : Int) : Int := (b + kh k [(i : Int)] % 256) % 256
def decB (k : Int) (i : Nat) (b : Int) : Int := (b - kh k [(i : Int)] % 256) % 256
def encL (k : Int) (l : List Int) : List Int := l.mapIdx (encB k)
def decL (k : Int) (l : List Int) : List Int := l.mapIdx (decB k)
theorem encB_range (k : Int) (i : Nat) (b : Int) : 0 ≤ encB k i b ∧ encB k i b ≤ 255 := by unfold encB; omega
theorem decB_range (k : Int) (i : Nat) (b : Int) : 0 ≤ decB k i b ∧ decB k i b ≤ 255 := by unfold decB; omega
theorem dec_enc_B (k : Int) (i : Nat) (b : Int) (h : 0 ≤ b ∧ b ≤ 255) : decB k i (encB k i b) = b := by unfold encB decB; omega
theorem enc_dec_B (k : Int) (i : Nat) (b : Int) (h : 0 ≤ b ∧ b ≤ 255) : encB k i (decB k i b) = b := by unfold encB decB; omega
@[simp] theorem encL_length (k : Int) (l : List Int) : (encL k l).length = l.length := by simp [encL]
@[simp] theorem decL_length (k : Int) (l : List Int) : (decL k l).length = l.length := by simp [decL]
theorem encL_byte (k : Int) (l : List Int) : ∀ x ∈ encL k l, 0 ≤ x ∧ x ≤ 255 := by
  intro x hx
  obtain ⟨i, hi, rfl⟩ := List.getElem_of_mem hx
  simp only [encL, List.getElem_mapIdx]
  exact encB_range ..
theorem decL_byte (k : Int) (l : List Int) : ∀ x ∈ decL k l, 0 ≤ x ∧ x ≤ 255 := by
  intro x hx
  obtain ⟨i, hi, rfl⟩ := List.getElem_of_mem hx
  simp only [decL, List.getElem_mapIdx]
  exact decB_range ..
theorem dec_enc (k : Int) (l : List Int) (h : ∀ x ∈ l, 0 ≤ x ∧ x ≤ 255) : decL k (encL k l) = l := by
  refine List.ext_getElem (by simp) fun i h1 h2 => ?_
  simp only [decL, encL, List.getElem_mapIdx]
  exact dec_enc_B _ _ _ (h _ (List.getElem_mem _))
theorem enc_dec (k : Int) (l : List Int) (h : ∀ x ∈ l, 0 ≤ x ∧ x ≤ 255) : encL k (decL k l) = l := by
  refine List.ext_getElem (by simp) fun i h1 h2 => ?_
  simp only [decL, encL, List.getElem_mapIdx]
  exact enc_dec_B _ _ _ (h _ (List.getElem_mem _))
theorem encL_take (k : Int) (l : List Int) (i : Nat) (h : i < l.length) : encL k (l.take (i + 1)) = encL k (l.take i) ++ [encB k i l[i]] := by
  rw [List.take_succ_eq_append_getElem h, encL, List.mapIdx_concat, List.length_take, Nat.min_eq_left (Nat.le_of_lt h)]
  rfl
theorem decL_take (k : Int) (l : List Int) (i : Nat) (h : i < l.length) : decL k (l.take (i + 1)) = decL k (l.take i) ++ [decB k i l[i]] := by
  rw [List.take_succ_eq_append_getElem h, decL, List.mapIdx_concat, List.length_take, Nat.min_eq_left (Nat.le_of_lt h)]
  rfl

/-- The bytes as numbers, their count ahead of them. -/
def b2i (l : List Int) : List Int := (l.length : Int) :: l
def derive (k : Int) (l : List Int) : Int := max 1 (kh k (b2i l))
theorem derive_range (k : Int) (l : List Int) : 1 ≤ derive k l ∧ derive k l ≤ 2147483646 := by
  have := kh_range k (b2i l)
  unfold derive
  omega
end Go.Proofs.Ytpapncecfleejaa.L3
