/-
  Plain mathematics of chapter 5: names, records, their fields read, set and removed. No condition.
-/
import Derived.Test.YtpapncecfleejaaL4Num
namespace Go.Proofs.Ytpapncecfleejaa.L5
set_option maxRecDepth 100000
open Go.Op (bytesLess)
open L4 (less_irrefl less_total less_asymm less_trans)

/-- A field. -/
structure F where
  name : ByteArray
  n : Int
def F.t (f : F) : List UInt8 := f.name.data.toList
theorem F.ext' {a b : F} (h1 : a.t = b.t) (h2 : a.n = b.n) : a = b := by
  obtain ⟨⟨⟨t1⟩⟩, n1⟩ := a
  obtain ⟨⟨⟨t2⟩⟩, n2⟩ := b
  simp only [F.t] at h1 h2
  subst h1; subst h2
  rfl
def low (b : UInt8) : Bool := decide (97 ≤ b.toNat) && decide (b.toNat ≤ 122)
def isN (l : List UInt8) : Bool := l.all low && (decide (1 ≤ l.length) && decide (l.length ≤ 8))
def okF (f : F) : Bool := isN f.t && L1.inB f.n 0 1000000000
/-- Each name is less than the next one. -/
def asc : List F → Bool
  | [] => true
  | [_] => true
  | x :: y :: r => bytesLess x.t y.t && asc (y :: r)
def isR (l : List F) : Bool := l.all okF && asc l && decide (l.length ≤ 6)
def getO (l : List F) (name : List UInt8) : Option Int := (l.find? fun f => f.t == name).map F.n

/-- The first places, looked at one by one: the loop of IsRecord. -/
def okTo (l : List F) (k : Nat) : Prop := ∀ j (h : j < l.length), j < k → okF l[j] = true ∧ (0 < j → bytesLess (l[j - 1]'(by omega)).t l[j].t = true)
theorem asc_at : ∀ (l : List F), asc l = true ↔ ∀ j (h : j < l.length), 0 < j → bytesLess (l[j - 1]'(by omega)).t l[j].t = true
  | [] => by simp [asc]
  | [x] => by
    simp only [asc, true_iff]
    intro j h h0
    simp at h
    omega
  | x :: y :: r => by
    have ih := asc_at (y :: r)
    simp only [asc, Bool.and_eq_true, ih]
    constructor
    · rintro ⟨h1, h2⟩ j hj h0
      rcases j with _ | _ | j
      · omega
      · simpa using h1
      · have := h2 (j + 1) (by simp at hj ⊢; omega) (by omega)
        simpa using this
    · intro h
      refine ⟨h 1 (by simp) (by omega), fun j hj h0 => ?_⟩
      have := h (j + 1) (by simp at hj ⊢; omega) (by omega)
      rcases j with _ | j
      · omega
      · simpa using this
theorem isR_iff {l : List F} : isR l = true ↔ okTo l l.length ∧ l.length ≤ 6 := by
  unfold isR okTo
  simp only [Bool.and_eq_true, decide_eq_true_eq, asc_at, List.all_eq_true]
  constructor
  · rintro ⟨⟨h1, h2⟩, h3⟩
    exact ⟨fun j hj _ => ⟨h1 _ (List.getElem_mem hj), fun h0 => h2 j hj h0⟩, h3⟩
  · rintro ⟨h1, h3⟩
    refine ⟨⟨fun x hx => ?_, fun j hj h0 => (h1 j hj hj).2 h0⟩, h3⟩
    obtain ⟨i, hi, rfl⟩ := List.getElem_of_mem hx
    exact (h1 i hi hi).1
theorem isR_no {l : List F} (j : Nat) (h : j < l.length) (hb : okF l[j] = false ∨ (0 < j ∧ bytesLess (l[j - 1]'(by omega)).t l[j].t = false)) : isR l = false := by
  cases hr : isR l with
  | false => rfl
  | true =>
    have := (isR_iff.1 hr).1 j h h
    rcases hb with hb | ⟨h0, hb⟩
    · rw [this.1] at hb; cases hb
    · rw [this.2 h0] at hb; cases hb
theorem isN_no {s : List UInt8} (j : Nat) (b : UInt8) (hb : s[j]? = some b) (h : low b = false) : isN s = false := by
  unfold isN
  rw [Bool.and_eq_false_iff]
  left
  rw [List.all_eq_false]
  exact ⟨b, List.mem_of_getElem? hb, by simp [h]⟩
theorem isN_all {s : List UInt8} (h : ∀ j (hj : j < s.length), low s[j] = true) : isN s = L1.inB (s.length : Int) 1 8 := by
  unfold isN L1.inB
  rw [show s.all low = true by rw [List.all_eq_true]; intro x hx; obtain ⟨i, hi, rfl⟩ := List.getElem_of_mem hx; exact h i hi, Bool.true_and]
  congr 1 <;> (rw [decide_eq_decide]; omega)
/-- The first field with the name stands at place k. -/
theorem getO_at {l : List F} {name : List UInt8} (k : Nat) (hk : k < l.length) (h : l[k].t = name) (hb : ∀ j (hj : j < l.length), j < k → l[j].t ≠ name) : getO l name = some l[k].n := by
  unfold getO
  have : l.find? (fun f => f.t == name) = some l[k] := by
    rw [List.find?_eq_some_iff_getElem]
    refine ⟨by simp [h], k, hk, rfl, fun j hj => ?_⟩
    have := hb j (by omega) hj
    simpa using this
  rw [this]
  rfl
theorem getO_none {l : List F} {name : List UInt8} (hb : ∀ j (hj : j < l.length), l[j].t ≠ name) : getO l name = none := by
  unfold getO
  have : l.find? (fun f => f.t == name) = none := by
    rw [List.find?_eq_none]
    intro x hx
    obtain ⟨i, hi, rfl⟩ := List.getElem_of_mem hx
    simpa using hb i hi
  rw [this]
  rfl
end Go.Proofs.Ytpapncecfleejaa.L5
