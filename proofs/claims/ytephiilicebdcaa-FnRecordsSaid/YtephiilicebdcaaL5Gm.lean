/-
  Plain mathematics of chapter 5: a record in ascending order of its names is what it holds at each name; what setting, removing and merging make of that. No condition.
-/
import Derived.Test.YtephiilicebdcaaL5Set
import Derived.Test.YtephiilicebdcaaL5Mg
namespace Go.Proofs.Ytephiilicebdcaa.L5
set_option maxRecDepth 100000
open Go.Op (bytesLess)
open L4 (less_irrefl less_total less_asymm less_trans)
set_option linter.unusedVariables false

theorem asc_cons {x : F} {l : List F} : asc (x :: l) = true ↔ (∀ y ∈ l, bytesLess x.t y.t = true) ∧ asc l = true := by
  induction l generalizing x with
  | nil => simp [asc]
  | cons y r ih =>
    simp only [asc, Bool.and_eq_true]
    constructor
    · rintro ⟨h1, h2⟩
      refine ⟨fun z hz => ?_, h2⟩
      rcases List.mem_cons.1 hz with rfl | hz
      · exact h1
      · exact less_trans _ _ _ h1 ((ih.1 h2).1 z hz)
    · rintro ⟨h1, h2⟩
      exact ⟨h1 y (by simp), h2⟩
theorem asc_tail {x : F} {l : List F} (h : asc (x :: l) = true) : asc l = true := (asc_cons.1 h).2
theorem asc_pair {l : List F} : asc l = true ↔ l.Pairwise (fun f g => bytesLess f.t g.t = true) := by
  induction l with
  | nil => simp [asc]
  | cons x r ih => rw [asc_cons, List.pairwise_cons, ih]
theorem asc_sub {l m : List F} (h : asc m = true) (hs : l.Sublist m) : asc l = true := asc_pair.2 ((asc_pair.1 h).sublist hs)
theorem getO_nil (s : List UInt8) : getO [] s = none := rfl
theorem getO_cons (x : F) (l : List F) (s : List UInt8) : getO (x :: l) s = if x.t = s then some x.n else getO l s := by
  unfold getO
  by_cases h : x.t = s
  · rw [if_pos h, List.find?_cons_of_pos (by simpa using h)]; rfl
  · rw [if_neg h, List.find?_cons_of_neg (by simpa using h)]
theorem getO_append (l m : List F) (s : List UInt8) : getO (l ++ m) s = (getO l s).or (getO m s) := by
  induction l with
  | nil => simp [getO_nil]
  | cons x r ih =>
    rw [List.cons_append, getO_cons, getO_cons, ih]
    by_cases h : x.t = s
    · rw [if_pos h, if_pos h]; rfl
    · rw [if_neg h, if_neg h]
theorem getO_none_iff {l : List F} {s : List UInt8} : getO l s = none ↔ ∀ f ∈ l, f.t ≠ s := by
  induction l with
  | nil => simp [getO_nil]
  | cons x r ih =>
    rw [getO_cons]
    by_cases h : x.t = s
    · simp [h]
    · rw [if_neg h, ih]; simp [h]
theorem getO_less {x : F} {l : List F} (h : ∀ y ∈ l, bytesLess x.t y.t = true) : getO l x.t = none := getO_none_iff.2 fun f hf e => by
  have := h f hf
  rw [e, less_irrefl] at this
  cases this
/-- Two records in ascending order with the same fields are one. -/
theorem asc_ext : ∀ {l m : List F}, asc l = true → asc m = true → (∀ s, getO l s = getO m s) → l = m
  | [], [], _, _, _ => rfl
  | [], y :: m, _, _, h => by have := h y.t; rw [getO_nil, getO_cons, if_pos rfl] at this; cases this
  | x :: l, [], _, _, h => by have := h x.t; rw [getO_nil, getO_cons, if_pos rfl] at this; cases this
  | x :: l, y :: m, hl, hm, h => by
    have l1 := asc_cons.1 hl
    have m1 := asc_cons.1 hm
    have hx := h x.t
    rw [getO_cons, if_pos rfl, getO_cons] at hx
    have e : y.t = x.t := by
      by_cases e : y.t = x.t
      · exact e
      · rw [if_neg e] at hx
        cases hc : bytesLess x.t y.t with
        | true =>
          have : getO m x.t = none := getO_less fun z hz => less_trans _ _ _ hc (m1.1 z hz)
          rw [this] at hx
          cases hx
        | false =>
          have hy := h y.t
          rw [getO_cons, if_neg (fun e' => e e'.symm), getO_cons, if_pos rfl] at hy
          have : getO l y.t = none := getO_less fun z hz => less_trans _ _ _ (less_total _ _ (fun e' => e e'.symm) hc) (l1.1 z hz)
          rw [this] at hy
          cases hy
    rw [if_pos e] at hx
    obtain rfl : x = y := F.ext' e.symm (Option.some.inj hx)
    congr 1
    refine asc_ext l1.2 m1.2 fun s => ?_
    have hs := h s
    rw [getO_cons, getO_cons] at hs
    by_cases e2 : x.t = s
    · subst e2
      rw [getO_less l1.1, getO_less m1.1]
    · rwa [if_neg e2, if_neg e2] at hs

/-- A name is set; a name is struck. -/
def upd (g : List UInt8 → Option Int) (s : List UInt8) (x : Int) : List UInt8 → Option Int := fun t => if t = s then some x else g t
def era (g : List UInt8 → Option Int) (s : List UInt8) : List UInt8 → Option Int := fun t => if t = s then none else g t
theorem getO_take {l : List F} (h : asc l = true) (k : Nat) (hk : k < l.length) : getO (l.take (k + 1)) = upd (getO (l.take k)) l[k].t l[k].n := by
  funext s
  rw [List.take_succ_eq_append_getElem hk, getO_append, getO_cons, getO_nil]
  unfold upd
  by_cases e : s = l[k].t
  · subst e
    rw [if_pos rfl, if_pos rfl, getO_none_iff.2]
    · rfl
    · intro f hf e
      obtain ⟨i, hi, rfl⟩ := List.getElem_of_mem hf
      rw [List.getElem_take] at e
      simp at hi
      have := List.pairwise_iff_getElem.1 (asc_pair.1 h) i k (by omega) hk (by omega)
      rw [e, less_irrefl] at this
      cases this
  · rw [if_neg e, if_neg (fun h => e h.symm), Option.or_none]
theorem isR_asc {l : List F} (h : isR l = true) : asc l = true := by
  unfold isR at h
  simp only [Bool.and_eq_true] at h
  exact h.1.2
theorem isR_len {l : List F} (h : isR l = true) : l.length ≤ 6 := (isR_iff.1 h).2

/-! ### removing -/
theorem getO_rem (l : List F) (s : List UInt8) : getO (remF l s) = era (getO l) s := by
  funext t
  unfold era
  induction l with
  | nil => simp [remF, getO_nil]
  | cons x r ih =>
    unfold remF keepF at ih ⊢
    by_cases hx : x.t = s
    · rw [List.filter_cons_of_neg (by simp [hx]), ih, getO_cons, hx]
      by_cases e : t = s
      · rw [if_pos e, if_pos e]
      · rw [if_neg e, if_neg e, if_neg (fun h => e h.symm)]
    · rw [List.filter_cons_of_pos (by simp [hx]), getO_cons, getO_cons, ih]
      by_cases e : x.t = t
      · rw [if_pos e, if_pos e, if_neg (by rw [← e]; exact hx)]
      · rw [if_neg e, if_neg e]
theorem asc_rem {l : List F} (h : asc l = true) (s : List UInt8) : asc (remF l s) = true := asc_sub h List.filter_sublist
theorem isR_rem {l : List F} (h : isR l = true) (s : List UInt8) : isR (remF l s) = true := by
  have h2 := asc_rem (isR_asc h) s
  unfold isR at h ⊢
  simp only [Bool.and_eq_true, decide_eq_true_eq, List.all_eq_true] at h ⊢
  refine ⟨⟨fun f hf => h.1.1 f ((List.mem_filter.1 hf).1), h2⟩, ?_⟩
  have : (remF l s).length ≤ l.length := List.length_filter_le _ _
  omega
theorem rem_len (l : List F) (s : List UInt8) : ((remF l s).length == l.length) = !(getB l s) := by
  unfold getB
  cases h : getO l s with
  | none =>
    have h1 := getO_none_iff.1 h
    have : remF l s = l := by
      unfold remF keepF
      rw [List.filter_eq_self]
      intro f hf
      simpa using h1 f hf
    rw [this]
    simp
  | some v =>
    have h1 : ¬ ∀ f ∈ l, f.t ≠ s := fun hn => by rw [getO_none_iff.2 hn] at h; cases h
    simp only [Option.isSome_some, Bool.not_true, beq_eq_false_iff_ne]
    intro e
    apply h1
    unfold remF keepF at e
    rw [List.length_filter_eq_length_iff] at e
    intro f hf
    simpa using e f hf

/-! ### setting -/
theorem posF_cons (x : F) (l : List F) (s : ByteArray) : posF (x :: l) s = if bytesLess x.t s.data.toList then posF l s + 1 else 0 := by
  unfold posF
  rw [List.takeWhile_cons]
  split <;> simp
theorem putF_nil (s : ByteArray) (x : Int) : putF [] s x = [⟨s, x⟩] := rfl
theorem putF_cons (f : F) (l : List F) (s : ByteArray) (x : Int) : putF (f :: l) s x = if bytesLess f.t s.data.toList then f :: putF l s x else if f.t = s.data.toList then ⟨f.name, x⟩ :: l else ⟨s, x⟩ :: f :: l := by
  unfold putF
  rw [posF_cons]
  by_cases h : bytesLess f.t s.data.toList = true
  · rw [if_pos h, if_pos h, List.getElem?_cons_succ]
    cases h2 : l[posF l s]? with
    | none => simp
    | some g =>
      simp only
      by_cases h3 : g.t = s.data.toList
      · rw [if_pos h3, if_pos h3, List.set_cons_succ]
      · rw [if_neg h3, if_neg h3, List.take_succ_cons, List.drop_succ_cons]; rfl
  · rw [if_neg h, if_neg h, List.getElem?_cons_zero]
    simp only
    by_cases h3 : f.t = s.data.toList
    · rw [if_pos h3, if_pos h3, List.set_cons_zero]
    · rw [if_neg h3, if_neg h3, List.take_zero, List.drop_zero]; rfl
theorem name_of_bytes {f : F} {s : ByteArray} (h : f.t = s.data.toList) : f.name = s := by
  obtain ⟨⟨⟨t1⟩⟩, n1⟩ := f
  obtain ⟨⟨t2⟩⟩ := s
  simp only [F.t] at h
  subst h
  rfl
theorem putF_mem {l : List F} {s : ByteArray} {x : Int} : ∀ g ∈ putF l s x, g ∈ l ∨ g = ⟨s, x⟩ := by
  induction l with
  | nil => intro g hg; rw [putF_nil] at hg; simp at hg; exact .inr hg
  | cons f r ih =>
    intro g hg
    rw [putF_cons] at hg
    split at hg
    · rcases List.mem_cons.1 hg with rfl | hg
      · exact .inl (by simp)
      · rcases ih g hg with h | h
        · exact .inl (by simp [h])
        · exact .inr h
    · split at hg
      · rename_i h2
        rcases List.mem_cons.1 hg with rfl | hg
        · exact .inr (by rw [name_of_bytes h2])
        · exact .inl (by simp [hg])
      · rcases List.mem_cons.1 hg with rfl | hg
        · exact .inr rfl
        · exact .inl hg
theorem asc_put {l : List F} (h : asc l = true) (s : ByteArray) (x : Int) : asc (putF l s x) = true := by
  induction l with
  | nil => rw [putF_nil]; rfl
  | cons f r ih =>
    obtain ⟨h1, h2⟩ := asc_cons.1 h
    rw [putF_cons]
    split
    · rename_i h3
      refine asc_cons.2 ⟨fun y hy => ?_, ih h2⟩
      rcases putF_mem y hy with h4 | rfl
      · exact h1 y h4
      · exact h3
    · rename_i h3
      split
      · exact asc_cons.2 ⟨h1, h2⟩
      · rename_i h4
        have h5 := less_total _ _ h4 (by simpa using h3)
        refine asc_cons.2 ⟨fun y hy => ?_, h⟩
        rcases List.mem_cons.1 hy with rfl | hy
        · exact h5
        · exact less_trans _ _ _ h5 (h1 y hy)
theorem getO_put {l : List F} (h : asc l = true) (s : ByteArray) (x : Int) : getO (putF l s x) = upd (getO l) s.data.toList x := by
  funext t
  unfold upd
  induction l with
  | nil =>
    rw [putF_nil, getO_cons, getO_nil]
    by_cases e : t = s.data.toList
    · rw [if_pos e, if_pos (show (⟨s, x⟩ : F).t = t from e.symm)]
    · rw [if_neg e, if_neg (show ¬ (⟨s, x⟩ : F).t = t from fun h => e h.symm)]
  | cons f r ih =>
    obtain ⟨h1, h2⟩ := asc_cons.1 h
    rw [putF_cons]
    split
    · rename_i h3
      rw [getO_cons, ih h2, getO_cons]
      by_cases e : f.t = t
      · rw [if_pos e, if_pos e, if_neg (fun e2 => by rw [e, e2, less_irrefl] at h3; cases h3)]
      · rw [if_neg e, if_neg e]
    · split
      · rename_i h4
        rw [getO_cons, getO_cons]
        by_cases e : t = s.data.toList
        · rw [if_pos e, if_pos (show (⟨f.name, x⟩ : F).t = t from h4.trans e.symm)]
        · rw [if_neg e, if_neg (show ¬ (⟨f.name, x⟩ : F).t = t from fun h => e (h.symm.trans h4)), if_neg (fun h => e (h.symm.trans h4))]
      · rw [getO_cons]
        by_cases e : t = s.data.toList
        · rw [if_pos e, if_pos (show (⟨s, x⟩ : F).t = t from e.symm)]
        · rw [if_neg e, if_neg (show ¬ (⟨s, x⟩ : F).t = t from fun h => e h.symm)]
theorem putF_len (l : List F) (s : ByteArray) (x : Int) : (putF l s x).length ≤ l.length + 1 := by
  induction l with
  | nil => rw [putF_nil]; simp
  | cons f r ih =>
    rw [putF_cons]
    split
    · simp; omega
    · split <;> simp

/-! ### merging -/
theorem pickF_mem {l a b : List F} {s : ByteArray} : ∀ g ∈ pickF l a b s, g = ⟨s, mN l a b s.data.toList⟩ := by
  intro g hg
  unfold pickF at hg
  split at hg
  · simpa using hg
  · simp at hg
theorem mg_mem {P : ByteArray → List F} (hP : ∀ s, ∀ g ∈ P s, g.name = s) (a b : List F) : ∀ g ∈ mg P a b, ∃ f, (f ∈ a ∨ f ∈ b) ∧ g.name = f.name := by
  match a, b with
  | [], [] => intro g hg; rw [mg] at hg; simp at hg
  | f :: a, [] =>
    intro g hg
    rw [mg] at hg
    rcases List.mem_append.1 hg with h | h
    · exact ⟨f, by simp, hP _ _ h⟩
    · obtain ⟨x, hx, e⟩ := mg_mem hP a [] g h
      exact ⟨x, by rcases hx with hx | hx <;> simp_all, e⟩
  | [], f :: b =>
    intro g hg
    rw [mg] at hg
    rcases List.mem_append.1 hg with h | h
    · exact ⟨f, by simp, hP _ _ h⟩
    · obtain ⟨x, hx, e⟩ := mg_mem hP [] b g h
      exact ⟨x, by rcases hx with hx | hx <;> simp_all, e⟩
  | f :: a, h :: b =>
    intro g hg
    rw [mg] at hg
    split at hg
    · rcases List.mem_append.1 hg with h | h
      · exact ⟨_, .inr (by simp), hP _ _ h⟩
      · obtain ⟨x, hx, e⟩ := mg_mem hP (f :: a) b g h
        exact ⟨x, by rcases hx with hx | hx <;> simp_all, e⟩
    · split at hg
      · rcases List.mem_append.1 hg with h | h
        · exact ⟨_, .inl (by simp), hP _ _ h⟩
        · obtain ⟨x, hx, e⟩ := mg_mem hP a _ g h
          exact ⟨x, by rcases hx with hx | hx <;> simp_all, e⟩
      · rcases List.mem_append.1 hg with h | h
        · exact ⟨_, .inl (by simp), hP _ _ h⟩
        · obtain ⟨x, hx, e⟩ := mg_mem hP a b g h
          exact ⟨x, by rcases hx with hx | hx <;> simp_all, e⟩
termination_by a.length + b.length
/-- What stands for a name ahead of fields whose names are greater. -/
theorem asc_ahead {p l : List F} {s : ByteArray} (h1 : p.length ≤ 1) (h2 : ∀ g ∈ p, g.name = s) (h3 : asc l = true) (h4 : ∀ g ∈ l, bytesLess s.data.toList g.t = true) : asc (p ++ l) = true := by
  match p with
  | [] => exact h3
  | [g] => exact asc_cons.2 ⟨fun y hy => by have := h2 g (by simp); rw [F.t, this]; exact h4 y hy, h3⟩
  | _ :: _ :: _ => simp at h1
theorem asc_mg {P : ByteArray → List F} (hP : ∀ s, ∀ g ∈ P s, g.name = s) (hL : ∀ s, (P s).length ≤ 1) (a b : List F) (ha : asc a = true) (hb : asc b = true) : asc (mg P a b) = true := by
  match a, b with
  | [], [] => rw [mg]; rfl
  | f :: a, [] =>
    rw [mg]
    refine asc_ahead (hL _) (hP _) (asc_mg hP hL a [] (asc_tail ha) rfl) fun g hg => ?_
    obtain ⟨x, hx, e⟩ := mg_mem hP _ _ g hg
    rw [F.t, e]
    rcases hx with hx | hx
    · exact (asc_cons.1 ha).1 x hx
    · simp at hx
  | [], f :: b =>
    rw [mg]
    refine asc_ahead (hL _) (hP _) (asc_mg hP hL [] b rfl (asc_tail hb)) fun g hg => ?_
    obtain ⟨x, hx, e⟩ := mg_mem hP _ _ g hg
    rw [F.t, e]
    rcases hx with hx | hx
    · simp at hx
    · exact (asc_cons.1 hb).1 x hx
  | f :: a, h :: b =>
    obtain ⟨ha1, ha2⟩ := asc_cons.1 ha
    obtain ⟨hb1, hb2⟩ := asc_cons.1 hb
    rw [mg]
    split
    · rename_i h1
      refine asc_ahead (hL _) (hP _) (asc_mg hP hL (f :: a) b ha hb2) fun g hg => ?_
      obtain ⟨x, hx, e⟩ := mg_mem hP _ _ g hg
      rw [F.t, e]
      rcases hx with hx | hx
      · rcases List.mem_cons.1 hx with rfl | hx
        · exact h1
        · exact less_trans _ _ _ h1 (ha1 x hx)
      · exact hb1 x hx
    · rename_i h1
      split
      · rename_i h2
        refine asc_ahead (hL _) (hP _) (asc_mg hP hL a (h :: b) ha2 hb) fun g hg => ?_
        obtain ⟨x, hx, e⟩ := mg_mem hP _ _ g hg
        rw [F.t, e]
        rcases hx with hx | hx
        · exact ha1 x hx
        · rcases List.mem_cons.1 hx with rfl | hx
          · exact h2
          · exact less_trans _ _ _ h2 (hb1 x hx)
      · rename_i h2
        have e0 : f.t = h.t := by
          by_cases e : f.t = h.t
          · exact e
          · exact absurd (less_total _ _ e (by simpa using h2)) (by simpa using h1)
        refine asc_ahead (hL _) (hP _) (asc_mg hP hL a b ha2 hb2) fun g hg => ?_
        obtain ⟨x, hx, e⟩ := mg_mem hP _ _ g hg
        rw [F.t, e]
        rcases hx with hx | hx
        · exact ha1 x hx
        · have := hb1 x hx
          rw [← e0] at this
          exact this
termination_by a.length + b.length
/-- What the merge holds at a name: what stands for it, if one side has it. -/
def hasN (a b : List F) (s : List UInt8) : Bool := (getO a s).isSome || (getO b s).isSome
theorem hasN_cons_left (f : F) (a b : List F) (s : List UInt8) : hasN (f :: a) b s = (decide (f.t = s) || hasN a b s) := by
  unfold hasN
  rw [getO_cons]
  by_cases h : f.t = s
  · simp [h]
  · simp [h]
theorem hasN_cons_right (f : F) (a b : List F) (s : List UInt8) : hasN a (f :: b) s = (decide (f.t = s) || hasN a b s) := by
  unfold hasN
  rw [getO_cons]
  by_cases h : f.t = s
  · simp [h]
  · simp [h]
theorem getO_mg {P : ByteArray → List F} (hP : ∀ s, ∀ g ∈ P s, g.name = s) (a b : List F) (t : ByteArray) : getO (mg P a b) t.data.toList = if hasN a b t.data.toList then getO (P t) t.data.toList else none := by
  have own : ∀ f : F, getO (P f.name) t.data.toList = if f.t = t.data.toList then getO (P t) t.data.toList else none := fun f => by
    by_cases e : f.t = t.data.toList
    · rw [if_pos e, name_of_bytes e]
    · rw [if_neg e, getO_none_iff]
      intro g hg e2
      apply e
      rw [F.t, hP _ g hg] at e2
      exact e2
  have step : ∀ (f : F) (o : Option Int) (c : Bool), (if f.t = t.data.toList then getO (P t) t.data.toList else none).or (if c then getO (P t) t.data.toList else none) = if (decide (f.t = t.data.toList) || c) then getO (P t) t.data.toList else none := fun f o c => by
    by_cases e : f.t = t.data.toList <;> cases c <;> simp [e]
    all_goals (cases getO (P t) t.data.toList <;> rfl)
  match a, b with
  | [], [] => rw [mg]; simp [hasN, getO_nil]
  | f :: a, [] => rw [mg, getO_append, getO_mg hP a [] t, own, hasN_cons_left, step _ none]
  | [], f :: b => rw [mg, getO_append, getO_mg hP [] b t, own, hasN_cons_right, step _ none]
  | f :: a, h :: b =>
    rw [mg]
    split
    · rw [getO_append, getO_mg hP (f :: a) b t, own, hasN_cons_right, step _ none]
    · rename_i h1
      split
      · rw [getO_append, getO_mg hP a (h :: b) t, own, hasN_cons_left, step _ none]
      · rename_i h2
        have e0 : f.t = h.t := by
          by_cases e : f.t = h.t
          · exact e
          · exact absurd (less_total _ _ e (by simpa using h2)) (by simpa using h1)
        rw [getO_append, getO_mg hP a b t, own, hasN_cons_left, hasN_cons_right, step _ none, e0]
        simp
termination_by a.length + b.length
theorem pick_name (l a b : List F) : ∀ s, ∀ g ∈ pickF l a b s, g.name = s := fun s g hg => by rw [pickF_mem g hg]
theorem pick_len (l a b : List F) (s : ByteArray) : (pickF l a b s).length ≤ 1 := by unfold pickF; split <;> simp
theorem asc_mgO {l a b : List F} (ha : asc a = true) (hb : asc b = true) : asc (mgO l a b) = true := asc_mg (pick_name l a b) (pick_len l a b) a b ha hb
/-- The field of a name behind a merge. -/
def mO (l a b : List F) (s : List UInt8) : Option Int := if hasN a b s && mB l a b s then some (mN l a b s) else none
theorem getO_mgO (l a b : List F) : getO (mgO l a b) = mO l a b := by
  funext s
  have h := getO_mg (pick_name l a b) a b ⟨s.toArray⟩
  have e0 : (⟨s.toArray⟩ : ByteArray).data.toList = s := rfl
  rw [e0] at h
  unfold mgO mO
  rw [h]
  cases hn : hasN a b s
  · simp
  · simp only [if_true, Bool.true_and]
    unfold pickF
    rw [e0]
    cases hb : mB l a b s
    · simp [getO_nil]
    · simp only [if_true]
      rw [getO_cons, if_pos (show (⟨⟨s.toArray⟩, mN l a b s⟩ : F).t = s from rfl)]
end Go.Proofs.Ytephiilicebdcaa.L5
