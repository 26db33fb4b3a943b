/-
  Plain mathematics of chapter 5's DecodeRecord: a field, some fields and a record read from bytes; what was read is what would be written. No condition.
-/
import Derived.Test.YtephiilicebdcaaL5Enc
import Derived.Test.YtephiilicebdcaaPb
import Derived.Test.YtephiilicebdcaaPa
namespace Go.Proofs.Ytephiilicebdcaa.L5
set_option maxRecDepth 100000
open L2
open L4 (toU toI toI_toU)

/-- A field read at a place. -/
def rdF (l : List Int) (off : Int) : Option (F × Int) :=
  if rbB l off 8 && rdB l (rbE l off 8) then some (⟨⟨(toU (rbL l off 8)).toArray⟩, rdN l (rbE l off 8)⟩, rdE l (rbE l off 8)) else none
def rdFs (l : List Int) : Int → Nat → Option (List F × Int)
  | off, 0 => some ([], off)
  | off, k + 1 => match rdF l off with
    | none => none
    | some (f, e) => match rdFs l e k with
      | none => none
      | some (fs, e2) => some (f :: fs, e2)
/-- A record read from all the bytes. -/
def decR (l : List Int) : Option (List F) :=
  if rdB l 0 && decide (rdN l 0 ≤ 6) then
    match rdFs l (rdE l 0) (rdN l 0).toNat with
    | none => none
    | some (fs, e) => if isR fs && decide (e = l.length) then some fs else none
  else none
theorem drop_split (l : List Int) (o m : Nat) : l.drop o = (l.drop o).take m ++ l.drop (o + m) := by
  rw [← List.drop_drop, List.take_append_drop]
theorem byt_drop {l : List Int} (h : Byt l) (o m : Nat) : Byt ((l.drop o).take m) := fun x hx => h x (List.mem_of_mem_drop (List.mem_of_mem_take hx))
theorem rdF_out {l : List Int} (hl : Byt l) {off : Int} {f : F} {e : Int} (h : rdF l off = some (f, e)) : 0 ≤ off ∧ off ≤ e ∧ e ≤ l.length ∧ l.drop off.toNat = encF f ++ l.drop e.toNat := by
  unfold rdF at h
  cases hb : rbB l off 8 with
  | false => rw [hb] at h; cases h
  | true =>
    cases hd : rdB l (rbE l off 8) with
    | false => rw [hd, hb] at h; cases h
    | true =>
      rw [hd, hb] at h
      injection h with h
      injection h with hf he
      obtain ⟨y1, y2⟩ := rb_yes hb
      unfold rbB at hb
      simp only [Bool.and_eq_true, decide_eq_true_eq] at hb
      obtain ⟨⟨b1, b2⟩, b3⟩ := hb
      obtain ⟨s1, s2⟩ := rd_some b1
      obtain ⟨o1, o2, o3, o4, o5, o6, o7⟩ := rd_out hl s1
      obtain ⟨q1, q2⟩ := rd_some hd
      obtain ⟨p1, p2, p3, p4, p5, p6, p7⟩ := rd_out hl q1
      have hn : L3.strB f.name = (l.drop (rdE l off).toNat).take (rdN l off).toNat := by
        rw [← hf]
        show toI (toU (rbL l off 8)) = _
        rw [y1, toI_toU _ (byt_drop hl _ _)]
      have hln : ((L3.strB f.name).length : Int) = rdN l off := by
        rw [hn, List.length_take, List.length_drop]
        omega
      have hv : f.n = rdN l (rbE l off 8) := by rw [← hf]
      refine ⟨o1, by omega, by omega, ?_⟩
      have e1 := drop_split l off.toNat (rdE l off - off).toNat
      have e2 := drop_split l (off.toNat + (rdE l off - off).toNat) (rdN l off).toNat
      have e3 := drop_split l (off.toNat + (rdE l off - off).toNat + (rdN l off).toNat) (rdE l (rbE l off 8) - rbE l off 8).toNat
      rw [o7] at e1
      rw [show off.toNat + (rdE l off - off).toNat = (rdE l off).toNat by omega] at e1 e2 e3
      rw [← hn] at e2
      rw [show (rdE l off).toNat + (rdN l off).toNat = (rbE l off 8).toNat by omega] at e2 e3
      rw [p7, show (rbE l off 8).toNat + (rdE l (rbE l off 8) - rbE l off 8).toNat = e.toNat by omega] at e3
      rw [e1, e2, e3]
      unfold encF
      rw [hln, hv]
      simp only [List.append_assoc]
theorem rdFs_out {l : List Int} (hl : Byt l) : ∀ (k : Nat) (off : Int) (fs : List F) (e : Int), 0 ≤ off → off ≤ l.length → rdFs l off k = some (fs, e) → fs.length = k ∧ off ≤ e ∧ e ≤ l.length ∧ l.drop off.toNat = encB fs ++ l.drop e.toNat
  | 0, off, fs, e, h0, h1, h => by
    rw [rdFs] at h
    injection h with h
    injection h with h2 h3
    subst h2; subst h3
    exact ⟨rfl, Int.le_refl _, h1, by simp [encB]⟩
  | k + 1, off, fs, e, h0, h1, h => by
    rw [rdFs] at h
    cases hf : rdF l off with
    | none => rw [hf] at h; cases h
    | some p =>
      obtain ⟨f, e1⟩ := p
      rw [hf] at h
      simp only at h
      obtain ⟨_, a2, a3, a4⟩ := rdF_out hl hf
      cases hk : rdFs l e1 k with
      | none => rw [hk] at h; cases h
      | some q =>
        obtain ⟨gs, e2⟩ := q
        rw [hk] at h
        injection h with h
        injection h with h2 h3
        subst h2; subst h3
        obtain ⟨c1, c2, c3, c4⟩ := rdFs_out hl k e1 gs e2 (by omega) a3 hk
        refine ⟨by simp [c1], by omega, c3, ?_⟩
        rw [a4, c4]
        unfold encB
        rw [List.flatMap_cons, List.append_assoc]
/-- What was decoded is a record, and its encoding is what was decoded. -/
theorem decR_out {l : List Int} (hl : Byt l) {fs : List F} (h : decR l = some fs) : isR fs = true ∧ encR fs = l := by
  unfold decR at h
  cases hb : rdB l 0 with
  | false => rw [hb] at h; cases h
  | true =>
    by_cases h6 : rdN l 0 ≤ 6
    · rw [hb, decide_eq_true h6] at h
      obtain ⟨s1, s2⟩ := rd_some hb
      obtain ⟨o1, o2, o3, o4, o5, o6, o7⟩ := rd_out hl s1
      cases hk : rdFs l (rdE l 0) (rdN l 0).toNat with
      | none => rw [hk] at h; cases h
      | some q =>
        obtain ⟨gs, e⟩ := q
        rw [hk] at h
        simp only [Bool.and_self, if_true] at h
        cases hr : isR gs with
        | false => rw [hr] at h; cases h
        | true =>
          by_cases he : e = l.length
          · rw [hr, decide_eq_true he] at h
            injection h with h
            subst h
            obtain ⟨c1, c2, c3, c4⟩ := rdFs_out hl _ _ _ _ (by omega) (by omega) hk
            refine ⟨hr, ?_⟩
            unfold encR
            rw [hr]
            have e1 := drop_split l 0 (rdE l 0).toNat
            rw [show (0 : Int).toNat = 0 from rfl, show (rdE l 0 - 0).toNat = (rdE l 0).toNat by rw [Int.sub_zero]] at o7
            rw [o7, Nat.zero_add, c4, he] at e1
            rw [show (gs.length : Int) = rdN l 0 by omega]
            simp at e1 ⊢
            exact e1.symm
          · rw [hr, decide_eq_false he] at h; cases h
    · rw [hb, decide_eq_false h6] at h; cases h
/-- What was written is read. -/
theorem rdF_enc (p t : List Int) (f : F) (hf : okF f = true) : rdF (p ++ (encF f ++ t)) p.length = some (f, (((p ++ encF f).length : Nat) : Int)) := by
  unfold okF at hf
  rw [Bool.and_eq_true] at hf
  obtain ⟨h1, h2⟩ := hf
  unfold isN at h1
  simp only [Bool.and_eq_true, decide_eq_true_eq] at h1
  obtain ⟨_, h3, h4⟩ := h1
  obtain ⟨n0, n1⟩ := L1.inB_true.mp h2
  obtain ⟨v, hv⟩ : ∃ v, v = L3.strB f.name := ⟨_, rfl⟩
  have hvl : v.length ≤ 8 := by rw [hv]; unfold L3.strB; rw [List.length_map]; exact h4
  have e0 : p ++ (encF f ++ t) = p ++ (enc v.length ++ (v ++ (enc f.n ++ t))) := by unfold encF; rw [← hv]; simp only [List.append_assoc]
  have a1 := rd_enc p (v ++ (enc f.n ++ t)) v.length (by omega) (by omega)
  rw [← e0] at a1
  have e1 : p ++ (encF f ++ t) = (p ++ enc v.length ++ v) ++ (enc f.n ++ t) := by rw [e0]; simp only [List.append_assoc]
  have a2 := rd_enc (p ++ enc v.length ++ v) t f.n n0 (by omega)
  rw [← e1] at a2
  obtain ⟨L, hL⟩ : ∃ L, L = p ++ (encF f ++ t) := ⟨_, rfl⟩
  have hLl : L.length = p.length + (enc v.length).length + v.length + (enc f.n).length + t.length := by rw [hL, e1]; simp only [List.length_append]; omega
  rw [← hL] at a1 a2 ⊢
  have b1 := rdN_of a1
  have b2 := rdE_of a1
  have b3 := rdB_of a1
  have hb : rbB L p.length 8 = true := by
    unfold rbB
    rw [b1, b2, b3]
    simp only [Bool.true_and, Bool.and_eq_true, decide_eq_true_eq]
    omega
  obtain ⟨y1, y2⟩ := rb_yes hb
  rw [b1, b2] at y1 y2
  have hE : rbE L p.length 8 = ((p ++ enc v.length ++ v).length : Nat) := by rw [y2]; simp only [List.length_append]; omega
  have hV : rbL L p.length 8 = v := by
    rw [y1, hL, e1, show ((p.length : Int) + ((enc v.length).length : Nat)).toNat = (p ++ enc v.length).length by rw [List.length_append]; omega]
    rw [List.append_assoc (p ++ enc v.length), List.drop_left, Int.toNat_natCast, List.take_left]
  rw [← hE] at a2
  have c1 := rdN_of a2
  have c2 := rdE_of a2
  have c3 := rdB_of a2
  unfold rdF
  rw [hb, c3, c1, c2, hV, hE]
  have hn : (⟨(toU v).toArray⟩ : ByteArray) = f.name := by
    rw [hv]
    show (⟨(toU (toI f.name.data.toList)).toArray⟩ : ByteArray) = f.name
    rw [L4.toU_toI]
  rw [hn]
  simp only [Bool.and_self, if_true, Option.some.injEq, Prod.mk.injEq, true_and]
  unfold encF
  rw [← hv]
  simp only [List.length_append]
  omega
theorem rdFs_enc : ∀ (fs : List F) (p t : List Int), (∀ f ∈ fs, okF f = true) → rdFs (p ++ (encB fs ++ t)) p.length fs.length = some (fs, (((p ++ encB fs).length : Nat) : Int))
  | [], p, t, _ => by simp [rdFs, encB]
  | f :: fs, p, t, h => by
    have e : p ++ (encB (f :: fs) ++ t) = p ++ (encF f ++ (encB fs ++ t)) := by unfold encB; rw [List.flatMap_cons, List.append_assoc]
    have e2 : p ++ (encF f ++ (encB fs ++ t)) = (p ++ encF f) ++ (encB fs ++ t) := by rw [List.append_assoc]
    have e3 : p ++ encB (f :: fs) = p ++ encF f ++ encB fs := by unfold encB; rw [List.flatMap_cons, List.append_assoc]
    rw [List.length_cons, rdFs, e, rdF_enc p _ f (h f (List.mem_cons_self ..))]
    simp only
    rw [e2, rdFs_enc fs (p ++ encF f) t (fun g hg => h g (List.mem_cons_of_mem _ hg)), e3]
theorem decR_enc {fs : List F} (h : isR fs = true) : decR (encR fs) = some fs := by
  have h6 := (isR_iff.1 h).2
  have hok : ∀ f ∈ fs, okF f = true := fun f hf => by
    obtain ⟨i, hi, rfl⟩ := List.getElem_of_mem hf
    exact ((isR_iff.1 h).1 i hi hi).1
  have e : encR fs = [] ++ (enc fs.length ++ encB fs) := by unfold encR; rw [h]; rfl
  have a1 := rd_enc [] (encB fs) fs.length (by omega) (by omega)
  rw [← e] at a1
  have b1 := rdN_of a1
  have b2 := rdE_of a1
  have b3 := rdB_of a1
  have a2 := rdFs_enc fs (enc fs.length) [] hok
  rw [show enc fs.length ++ (encB fs ++ []) = encR fs by rw [e]; simp] at a2
  simp only [List.length_nil, Int.natCast_zero, Int.zero_add] at b1 b2 b3
  unfold decR
  rw [b1, b2, b3, Int.toNat_natCast, a2, decide_eq_true (show (fs.length : Int) ≤ 6 by omega)]
  simp only [Bool.and_self, if_true]
  rw [h, decide_eq_true (show (((enc fs.length ++ encB fs).length : Nat) : Int) = ((encR fs).length : Nat) by rw [e]; rfl)]
  rfl
/-- Decoding is the only inverse of encoding, however it is written. -/
theorem decR_unique {l : List Int} (hl : Byt l) (o : Option (List F)) (h1 : ∀ fs, o = some fs → isR fs = true ∧ encR fs = l) (h2 : ∀ fs, isR fs = true → encR fs = l → o ≠ none) : o = decR l := by
  cases ho : o with
  | some fs =>
    obtain ⟨a, b⟩ := h1 fs ho
    rw [← b, decR_enc a]
  | none =>
    cases hd : decR l with
    | none => rfl
    | some fs =>
      obtain ⟨a, b⟩ := decR_out hl hd
      exact absurd ho (h2 fs a b)
/-- The loop of l5Read behind k fields: acc are those, o is the place. -/
def RfMid (l : List Int) (off : Int) (n k : Nat) (acc : List F) (o : Int) : Prop := acc.length = k ∧ rdFs l off n = (rdFs l o (n - k)).map fun p => (acc ++ p.1, p.2)
theorem RfMid.start (l : List Int) (off : Int) (n : Nat) : RfMid l off n 0 [] off := ⟨rfl, by simp⟩
theorem RfMid.none {l : List Int} {off : Int} {n k : Nat} {acc : List F} {o : Int} (h : RfMid l off n k acc o) (hk : k < n) (hr : rdF l o = Option.none) : rdFs l off n = Option.none := by
  rw [h.2, show n - k = (n - (k + 1)) + 1 by omega, rdFs, hr]
  rfl
theorem RfMid.next {l : List Int} {off : Int} {n k : Nat} {acc : List F} {o e : Int} {f : F} (h : RfMid l off n k acc o) (hk : k < n) (hr : rdF l o = some (f, e)) : RfMid l off n (k + 1) (acc ++ [f]) e := by
  refine ⟨by simp [h.1], ?_⟩
  rw [h.2, show n - k = (n - (k + 1)) + 1 by omega, rdFs, hr]
  simp only
  cases rdFs l e (n - (k + 1)) with
  | none => rfl
  | some p => simp
theorem RfMid.done {l : List Int} {off : Int} {n : Nat} {acc : List F} {o : Int} (h : RfMid l off n n acc o) : rdFs l off n = some (acc, o) := by
  rw [h.2, Nat.sub_self, rdFs]
  simp
/-- The three ways of one field. -/
theorem rdF_no {l : List Int} {o : Int} (h : rbB l o 8 = false) : rdF l o = Option.none := by
  unfold rdF
  rw [h]
  rfl
theorem rdF_no2 {l : List Int} {o : Int} (h : rdB l (rbE l o 8) = false) : rdF l o = Option.none := by
  unfold rdF
  rw [h, Bool.and_false]
  rfl
theorem rdF_yes {l : List Int} {o : Int} (h1 : rbB l o 8 = true) (h2 : rdB l (rbE l o 8) = true) : rdF l o = some (⟨⟨(toU (rbL l o 8)).toArray⟩, rdN l (rbE l o 8)⟩, rdE l (rbE l o 8)) := by
  unfold rdF
  rw [h1, h2]
  rfl
/-- l5Read. -/
def rrO (l : List Int) (off : Int) : Option (List F × Int) := if rdB l off && decide (rdN l off ≤ 6) then rdFs l (rdE l off) (rdN l off).toNat else none
def rrL (l : List Int) (off : Int) : List F := match rrO l off with | some p => p.1 | none => []
def rrE (l : List Int) (off : Int) : Int := match rrO l off with | some p => p.2 | none => 0
def rrB (l : List Int) (off : Int) : Bool := match rrO l off with | some p => isR p.1 | none => false
theorem rr_none {l : List Int} {off : Int} (h : rrO l off = none) : rrL l off = [] ∧ rrE l off = 0 ∧ rrB l off = false := by
  unfold rrL rrE rrB
  rw [h]
  exact ⟨rfl, rfl, rfl⟩
theorem rr_some {l : List Int} {off : Int} {p : List F × Int} (h : rrO l off = some p) : rrL l off = p.1 ∧ rrE l off = p.2 ∧ rrB l off = isR p.1 := by
  unfold rrL rrE rrB
  rw [h]
  exact ⟨rfl, rfl, rfl⟩
/-- DecodeRecord over l5Read. -/
theorem decR_rr (l : List Int) : decR l = if rrB l 0 && decide (rrE l 0 = l.length) then some (rrL l 0) else none := by
  cases h : rrO l 0 with
  | none =>
    obtain ⟨a, b, c⟩ := rr_none h
    rw [c, Bool.false_and]
    unfold rrO at h
    unfold decR
    by_cases hb : (rdB l 0 && decide (rdN l 0 ≤ 6)) = true
    · rw [if_pos hb] at h ⊢
      rw [h]
      rfl
    · rw [if_neg hb]
      rfl
  | some p =>
    obtain ⟨a, b, c⟩ := rr_some h
    rw [a, b, c]
    unfold rrO at h
    unfold decR
    by_cases hb : (rdB l 0 && decide (rdN l 0 ≤ 6)) = true
    · rw [if_pos hb] at h ⊢
      rw [h]
    · rw [if_neg hb] at h
      cases h
end Go.Proofs.Ytephiilicebdcaa.L5
