/-
  The contracts of chapter 2's ReadBytes, DecodeInts, EqualBytes and of chapter 3's EqualInts, specification and program. Conditions: the bytes read as a list of numbers from 0 to 255, of at most 2^40.
-/
import Derived.Test.YtenmdecooamaaaaL2Rd
import Derived.Laws.BytesArg
namespace Go.Proofs.Ytenmdecooamaaaa.L2
open Go.ChangeShapes Go.WideShapes Go.ChangeAt Go.RowKit Mem Sl Ex
set_option linter.unusedVariables false

/-- What ReadBytes gives. -/
def rbB (l : List Int) (off most : Int) : Bool := rdB l off && decide (rdN l off ≤ most) && decide (rdN l off ≤ (l.length : Int) - rdE l off)
def rbL (l : List Int) (off most : Int) : List Int := if rbB l off most = true then (l.drop (rdE l off).toNat).take (rdN l off).toNat else []
def rbE (l : List Int) (off most : Int) : Int := if rbB l off most = true then rdE l off + rdN l off else 0
theorem rb_no {l : List Int} {off most : Int} (h : rbB l off most = false) : rbL l off most = [] ∧ rbE l off most = 0 := by
  unfold rbL rbE
  rw [h]
  exact ⟨rfl, rfl⟩
theorem rb_yes {l : List Int} {off most : Int} (h : rbB l off most = true) : rbL l off most = (l.drop (rdE l off).toNat).take (rdN l off).toNat ∧ rbE l off most = rdE l off + rdN l off := by
  unfold rbL rbE
  rw [h]
  exact ⟨rfl, rfl⟩

/-- What a maker leaves that gives a slice, a number and a truth. -/
def GaveT (w : World) (B : Nat) (e : TypeId) (k : IntKind) (l : List Int) (v : Int) (b : Bool) (en : Ending) (w' : World) : Prop := ∃ a c, en = .returned (.tuple #[.slice a l.length c, .int .i64 v, .bool b]) ∧ Own w' B e k a c l ∧ Below B w w'
theorem GaveT.mk {w w' : World} {B : Nat} {e : TypeId} {k : IntKind} {l : List Int} {v v' : Int} {b b' : Bool} {a : Option Addr} {c n : Nat} (hn : n = l.length) (hv : v' = v) (hb : b' = b) (ho : Own w' B e k a c l) (hw : Below B w w') :
    GaveT w B e k l v b (.returned (.tuple #[.slice a n c, .int .i64 v', .bool b'])) w' := ⟨a, c, by rw [hn, hv, hb], ho, hw⟩



/-! ### lists of numbers -/
def dc (l : List Int) : Int → Nat → Option (List Int × Int)
  | off, 0 => some ([], off)
  | off, n + 1 => match rd l off with
    | none => none
    | some (v, m) => (dc l (off + m) n).map fun p => (v :: p.1, p.2)
def dcO (l : List Int) (off count : Int) : Option (List Int × Int) := if L1.inB count 0 100 = true ∧ L1.inB off 0 l.length = true then dc l off count.toNat else none
def dcL (l : List Int) (off count : Int) : List Int := match dcO l off count with | some p => p.1 | none => []
def dcE (l : List Int) (off count : Int) : Int := match dcO l off count with | some p => p.2 | none => 0
def dcB (l : List Int) (off count : Int) : Bool := (dcO l off count).isSome
theorem dc_none {l : List Int} {off count : Int} (h : dcO l off count = none) : dcL l off count = [] ∧ dcE l off count = 0 ∧ dcB l off count = false := by
  unfold dcL dcE dcB
  rw [h]
  exact ⟨rfl, rfl, rfl⟩
theorem dc_some {l : List Int} {off count : Int} {p : List Int × Int} (h : dcO l off count = some p) : dcL l off count = p.1 ∧ dcE l off count = p.2 ∧ dcB l off count = true := by
  unfold dcL dcE dcB
  rw [h]
  exact ⟨rfl, rfl, rfl⟩
/-- k numbers in, acc so far, the next one lies at o. -/
def DcMid (l : List Int) (off : Int) (n k : Nat) (acc : List Int) (o : Int) : Prop := acc.length = k ∧ dc l off n = (dc l o (n - k)).map fun p => (acc ++ p.1, p.2)
theorem DcMid.start (l : List Int) (off : Int) (n : Nat) : DcMid l off n 0 [] off := ⟨rfl, by simp⟩
theorem DcMid.none {l : List Int} {off : Int} {n k : Nat} {acc : List Int} {o : Int} (h : DcMid l off n k acc o) (hk : k < n) (hr : rdB l o = false) : dc l off n = none := by
  rw [h.2, show n - k = (n - (k + 1)) + 1 by omega, dc]
  have e : rd l o = Option.none := by
    unfold rdB at hr
    cases hh : rd l o with
    | none => rfl
    | some p => rw [hh] at hr; cases hr
  rw [e]
  rfl
theorem DcMid.next {l : List Int} {off : Int} {n k : Nat} {acc : List Int} {o : Int} (h : DcMid l off n k acc o) (hk : k < n) (hr : rdB l o = true) : DcMid l off n (k + 1) (acc ++ [rdN l o]) (rdE l o) := by
  obtain ⟨h1, h2⟩ := rd_some hr
  refine ⟨by simp [h.1], ?_⟩
  rw [h.2, show n - k = (n - (k + 1)) + 1 by omega, dc, h1]
  simp only [Option.map_map]
  rw [show o + ((rdE l o - o).toNat : Int) = rdE l o by omega]
  congr 1
  funext p
  simp
theorem DcMid.done {l : List Int} {off : Int} {n : Nat} {acc : List Int} {o : Int} (h : DcMid l off n n acc o) : dc l off n = some (acc, o) := by
  rw [h.2, Nat.sub_self]
  simp [dc]

theorem info64 : (Try.prog.info? 3).map (fun i => (i.zero, i.size, i.bytes)) = some (some (.int .i64 0), 1, 8) := by kernel_rfl


/-! ### equality -/
theorem run_bytes_string {P : Program} (T E D : TypeId) (hs : P.underlying T = some (.slice E)) (he : P.underlying E = some (.int .u8)) (hd : P.underlying D = some .string) (a : Option Addr) (c : Nat) (l : List Int) (w : World) (B : Nat) (hr : Reads w B a (ints .u8 l)) :
    (convert T D (.slice a l.length c)).run P w = .ok (.string (strOfNums l)) w := by
  rcases a with _ | ad
  · have hl : l = [] := by
      rcases l with _ | ⟨x, l⟩
      · rfl
      · obtain ⟨ad, h, _⟩ := hr 0 (by simp [ints])
        cases h
    subst hl
    rw [run_convert_bytes_nil w T E hs he _ _ D hd]
    rfl
  · have hl : (loadCells ad l.length).run P w = .ok (l.map (Value.int .u8)).toArray w := by
      have := run_loadCells_list (P := P) w ad (l.map (Value.int .u8)) (fun j v hj => by
        have hjl := (List.getElem?_eq_some_iff.1 hj).1
        obtain ⟨ad', h, _, hc⟩ := hr j hjl
        injection h with h
        subst h
        rw [hc, ← hj, List.getElem?_eq_getElem hjl]
        rfl)
      simpa using this
    rw [run_convert_bytes_string w T D E _ l.length c hs he hd, run_bytesToString w _ l.length c l hl, foldl_push_bytes]
    simp [strOfNums, ByteArray.empty, ByteArray.emptyWithCapacity]
    rfl
theorem bytes_inj : ∀ (l m : List Int), Byt l → Byt m → (l.map fun n => UInt8.ofNat n.toNat) = (m.map fun n => UInt8.ofNat n.toNat) → l = m
  | [], [], _, _, _ => rfl
  | [], y :: m, _, _, h => by simp at h
  | x :: l, [], _, _, h => by simp at h
  | x :: l, y :: m, hl, hm, h => by
    simp only [List.map_cons, List.cons.injEq] at h
    have h1 := hl x (by simp)
    have h2 := hm y (by simp)
    have h3 := congrArg UInt8.toNat h.1
    simp only [UInt8.toNat_ofNat'] at h3
    rw [bytes_inj l m (fun z hz => hl z (by simp [hz])) (fun z hz => hm z (by simp [hz])) h.2]
    congr 1
    omega
theorem str_eq (l m : List Int) (hl : Byt l) (hm : Byt m) : ((strOfNums l).toList == (strOfNums m).toList) = eqB l m := by
  rw [ByteArray.toList_eq, ByteArray.toList_eq, strOfNums_data, strOfNums_data]
  unfold eqB
  rw [Bool.eq_iff_iff, beq_iff_eq, decide_eq_true_iff]
  exact ⟨bytes_inj l m hl hm, fun h => by rw [h]⟩

end Go.Proofs.Ytenmdecooamaaaa.L2
