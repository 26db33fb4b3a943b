/-
  Plain mathematics of chapter 5's MergeRecords: two lists of fields merged by their names. No condition.
-/
import Derived.Test.YtephiilicebdcaaL5Mrg
namespace Go.Proofs.Ytephiilicebdcaa.L5
set_option maxRecDepth 100000
open Go.Op (bytesLess)
open L4 (less_irrefl less_total less_asymm less_trans)

/-- What two lists in ascending order make, name by name; P says what stands for a name. -/
def mg (P : ByteArray → List F) : List F → List F → List F
  | [], [] => []
  | f :: a, [] => P f.name ++ mg P a []
  | [], g :: b => P g.name ++ mg P [] b
  | f :: a, g :: b => if bytesLess g.t f.t then P g.name ++ mg P (f :: a) b else if bytesLess f.t g.t then P f.name ++ mg P a (g :: b) else P f.name ++ mg P a b
termination_by a b => a.length + b.length
theorem name_of_t {f g : F} (h : f.t = g.t) : f.name = g.name := by
  obtain ⟨⟨⟨t1⟩⟩, n1⟩ := f
  obtain ⟨⟨⟨t2⟩⟩, n2⟩ := g
  simp only [F.t] at h
  subst h
  rfl
theorem mg_comm (P : ByteArray → List F) (a b : List F) : mg P a b = mg P b a := by
  match a, b with
  | [], [] => rfl
  | f :: a, [] => rw [mg, mg, mg_comm P a []]
  | [], g :: b => rw [mg, mg, mg_comm P [] b]
  | f :: a, g :: b =>
    rw [mg, mg, mg_comm P (f :: a) b, mg_comm P a (g :: b), mg_comm P a b]
    cases h1 : bytesLess g.t f.t <;> cases h2 : bytesLess f.t g.t
    · have : f.name = g.name := name_of_t (by
        have := less_total f.t g.t
        simp_all)
      simp [this]
    · simp
    · simp
    · exact absurd h2 (by rw [less_asymm _ _ h1]; simp)
termination_by a.length + b.length
/-- One step at places i and k. -/
theorem mg_left (P : ByteArray → List F) (a b : List F) (i k : Nat) (hi : i < a.length) (hk : b.length ≤ k) : mg P (a.drop i) (b.drop k) = P a[i].name ++ mg P (a.drop (i + 1)) (b.drop k) := by
  rw [List.drop_eq_getElem_cons hi, List.drop_of_length_le hk, mg]
theorem mg_right (P : ByteArray → List F) (a b : List F) (i k : Nat) (hi : a.length ≤ i) (hk : k < b.length) : mg P (a.drop i) (b.drop k) = P b[k].name ++ mg P (a.drop i) (b.drop (k + 1)) := by
  rw [List.drop_eq_getElem_cons hk, List.drop_of_length_le hi, mg]
theorem mg_less (P : ByteArray → List F) (a b : List F) (i k : Nat) (hi : i < a.length) (hk : k < b.length) (h : bytesLess b[k].t a[i].t = true) : mg P (a.drop i) (b.drop k) = P b[k].name ++ mg P (a.drop i) (b.drop (k + 1)) := by
  rw [List.drop_eq_getElem_cons hk, List.drop_eq_getElem_cons hi, mg, if_pos h]
theorem mg_more (P : ByteArray → List F) (a b : List F) (i k : Nat) (hi : i < a.length) (hk : k < b.length) (h : bytesLess b[k].t a[i].t = false) (h2 : ¬ a[i].t = b[k].t) : mg P (a.drop i) (b.drop k) = P a[i].name ++ mg P (a.drop (i + 1)) (b.drop k) := by
  rw [List.drop_eq_getElem_cons hk, List.drop_eq_getElem_cons hi, mg, if_neg (by rw [h]; simp), if_pos (less_total _ _ (fun e => h2 e.symm) h)]
theorem mg_same (P : ByteArray → List F) (a b : List F) (i k : Nat) (hi : i < a.length) (hk : k < b.length) (h : a[i].t = b[k].t) : mg P (a.drop i) (b.drop k) = P a[i].name ++ mg P (a.drop (i + 1)) (b.drop (k + 1)) := by
  rw [List.drop_eq_getElem_cons hk, List.drop_eq_getElem_cons hi, mg, h, less_irrefl]
  simp
theorem mg_end (P : ByteArray → List F) (a b : List F) (i k : Nat) (hi : a.length ≤ i) (hk : b.length ≤ k) : mg P (a.drop i) (b.drop k) = [] := by
  rw [List.drop_of_length_le hi, List.drop_of_length_le hk, mg]
/-- No more fields than both lists have. -/
theorem mg_len (P : ByteArray → List F) (hP : ∀ s, (P s).length ≤ 1) (a b : List F) : (mg P a b).length ≤ a.length + b.length := by
  match a, b with
  | [], [] => rw [mg]; simp
  | f :: a, [] => rw [mg, List.length_append]; have := mg_len P hP a []; have := hP f.name; simp at *; omega
  | [], g :: b => rw [mg, List.length_append]; have := mg_len P hP [] b; have := hP g.name; simp at *; omega
  | f :: a, g :: b =>
    have h1 := mg_len P hP (f :: a) b
    have h2 := mg_len P hP a (g :: b)
    have h3 := mg_len P hP a b
    have h4 := hP f.name
    have h5 := hP g.name
    rw [mg]
    simp only [List.length_cons] at *
    split
    · rw [List.length_append]; omega
    · split <;> (rw [List.length_append]; omega)
termination_by a.length + b.length
/-- What stands for a name: a field or none. -/
def pickF (l a b : List F) (s : ByteArray) : List F := if mB l a b s.data.toList then [⟨s, mN l a b s.data.toList⟩] else []
theorem pickF_comm (l a b : List F) : pickF l a b = pickF l b a := by
  funext s
  unfold pickF mB mN
  rw [mrg_comm]
def mgO (l a b : List F) : List F := mg (pickF l a b) a b
theorem mgO_comm (l a b : List F) : mgO l a b = mgO l b a := by
  unfold mgO
  rw [pickF_comm, mg_comm]
/-- MergeRecords: whether it merges, and the record. -/
def mgB (l a b : List F) : Bool := isR l && isR a && isR b && isR (mgO l a b)
def mgL (l a b : List F) : List F := if mgB l a b then mgO l a b else a
theorem mgB_comm (l a b : List F) : mgB l a b = mgB l b a := by
  unfold mgB
  rw [mgO_comm]
  cases isR l <;> cases isR a <;> cases isR b <;> rfl
end Go.Proofs.Ytephiilicebdcaa.L5
