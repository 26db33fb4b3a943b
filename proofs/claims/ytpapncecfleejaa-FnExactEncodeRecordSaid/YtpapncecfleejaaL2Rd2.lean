/-
  The contracts of chapter 2's ReadBytes, DecodeInts, EqualBytes and of chapter 3's EqualInts, specification and program. Conditions: the bytes read as a list of numbers from 0 to 255, of at most 2^40.
-/
import Derived.Test.YtpapncecfleejaaL2Rd
import Derived.Laws.BytesArg
namespace Go.Proofs.Ytpapncecfleejaa.L2
set_option maxRecDepth 100000
open Go.ChangeShapes Go.WideShapes Go.ChangeAt Go.RowKit Mem Sl Ex
set_option linter.unusedVariables false

/-- What ReadBytes gives. -/
def rbB (l : List Int) (off most : Int) : Bool := rdB l off && decide (rdN l off ≤ most) && decide (rdN l off ≤ (l.length : Int) - rdE l off)
def rbL (l : List Int) (off most : Int) : List Int := if rbB l off most = true then (l.drop (rdE l off).toNat).take (rdN l off).toNat else []
def rbE (l : List Int) (off most : Int) : Int := if rbB l off most = true then rdE l off + rdN l off else 0
theorem rb_no {l : List Int} {off most : Int} (h : rbB l off most = false) : rbL l off most = [] ∧ rbE l off most = 0 := by
  unfold rbL rbE
  rw [h]
  exact ⟨rfl, rfl⟩
theorem rb_yes {l : List Int} {off most : Int} (h : rbB l off most = true) : rbL l off most = (l.drop (rdE l off).toNat).take (rdN l off).toNat ∧ rbE l off most = rdE l off + rdN l off := by
  unfold rbL rbE
  rw [h]
  exact ⟨rfl, rfl⟩

/-- What a maker leaves that gives a slice, a number and a truth. -/
def GaveT (w : World) (B : Nat) (e : TypeId) (k : IntKind) (l : List Int) (v : Int) (b : Bool) (en : Ending) (w' : World) : Prop := ∃ a c, en = .returned (.tuple #[.slice a l.length c, .int .i64 v, .bool b]) ∧ Own w' B e k a c l ∧ Below B w w'
theorem GaveT.mk {w w' : World} {B : Nat} {e : TypeId} {k : IntKind} {l : List Int} {v v' : Int} {b b' : Bool} {a : Option Addr} {c n : Nat} (hn : n = l.length) (hv : v' = v) (hb : b' = b) (ho : Own w' B e k a c l) (hw : Below B w w') :
    GaveT w B e k l v b (.returned (.tuple #[.slice a n c, .int .i64 v', .bool b'])) w' := ⟨a, c, by rw [hn, hv, hb], ho, hw⟩

theorem specReadB_any (a : Option Addr) (c : Nat) (l : List Int) (off : Int) (w : World) (B : Nat) (hB : B ≤ w.heap.size) (hr : Reads w B a (ints .u8 l)) (hb : Byt l) (hc : l.length ≤ c) (hl : l.length ≤ 1099511627776) (ho1 : -9223372036854775808 ≤ off) (ho2 : off ≤ 9223372036854775807) :
    Calls Try.prog 93 #[.slice a l.length c, .int .i64 off] w fun e w' => e = RdE l off ∧ Below w.heap.size w w' :=
  (specRead_any a c l off w B hr hb hl ho1 ho2).mono fun _ _ ⟨he, hd⟩ => ⟨he, hd.below _⟩
theorem implReadB_any (a : Option Addr) (c : Nat) (l : List Int) (off : Int) (w : World) (B : Nat) (hB : B ≤ w.heap.size) (hr : Reads w B a (ints .u8 l)) (hb : Byt l) (hc : l.length ≤ c) (hl : l.length ≤ 1099511627776) (ho1 : -9223372036854775808 ≤ off) (ho2 : off ≤ 9223372036854775807) :
    Calls Try.prog 55 #[.slice a l.length c, .int .i64 off] w fun e w' => e = RdE l off ∧ Below w.heap.size w w' :=
  implRead_any a c l off w B hB hr hb hc hl ho1 ho2

set_option maxHeartbeats 400000 in
theorem implReadBytes_any (a : Option Addr) (c : Nat) (l : List Int) (off most : Int) (w : World) (hr : Reads w w.heap.size a (ints .u8 l)) (hb : Byt l) (hc : l.length ≤ c) (hl : l.length ≤ 1099511627776) (ho1 : -9223372036854775808 ≤ off) (ho2 : off ≤ 9223372036854775807) :
    Calls Try.prog 82 #[.slice a l.length c, .int .i64 off, .int .i64 most] w (GaveT w w.heap.size 5 .u8 (rbL l off most) (rbE l off most) (rbB l off most)) := by
  obtain ⟨i0, hi, hz0, hz1, hz2⟩ := infoOf _ _ _ _ info8
  have hbd := rd_bounds hb off
  have HC := Lib.hid (implReadB_any a c l off w w.heap.size (Nat.le_refl _) hr hb hc hl ho1 ho2)
  unfold RdE at HC
  have HR := Lib.hid (And.intro hr (And.intro hb hc))
  obtain ⟨N, hN⟩ : ∃ N, N = rdN l off := ⟨_, rfl⟩
  obtain ⟨E, hE⟩ : ∃ E, E = rdE l off := ⟨_, rfl⟩
  obtain ⟨b, hbb⟩ : ∃ b, b = rdB l off := ⟨_, rfl⟩
  obtain ⟨n, hn⟩ : ∃ n, n = l.length := ⟨_, rfl⟩
  rw [← hN, ← hE, ← hbb, ← hn] at HC
  rw [← hN, ← hE, ← hn] at hbd
  rw [← hn] at hl hc ⊢
  have hz : b = false → N = 0 ∧ E = 0 := fun h => by rw [hN, hE]; exact rd_none (by rw [← hbb]; exact h)
  have hyes : ∀ (x : Bool), x = (b && decide (N ≤ most) && decide (N ≤ (n : Int) - E)) → rbB l off most = x := fun x hx => by rw [hx, hN, hE, hbb, hn]; rfl
  have HE := Lib.hid (And.intro hN (And.intro hE (And.intro hn hyes)))
  clear hr hb hN hE hbb hn hyes
  obtain ⟨hN0, hN1, hE0, hE1⟩ := hbd
  have hemp := fun w1 => Own.empty (B := w.heap.size) w1 5 .u8
  have HM := Lib.hid hemp
  clear hemp
  have hno : ∀ (w1 : World), Below w.heap.size w w1 → rbB l off most = false → GaveT w w.heap.size 5 .u8 (rbL l off most) (rbE l off most) (rbB l off most) (.returned (.tuple #[.slice (some ⟨w1.heap.size, 0, none⟩) 0 0, .int .i64 0, .bool false])) (w1.alloc (.cells #[] 5)) := fun w1 hb1 h => by
    obtain ⟨h1, h2⟩ := rb_no h
    rw [h, h1, h2]
    exact GaveT.mk rfl rfl rfl (HM.out w1 hb1.size) (below_alloc hb1 _ (Nat.le_refl _))
  have HNO := Lib.hid hno
  clear hno
  cases b with
  | false =>
    obtain ⟨hN', hE'⟩ := hz rfl
    clear hz
    subst hN' hE'
    go_enter Try.func82, Try.ntmps82
    go_wp2_with (go_at_call 55; refine HC.out.mono ?_; rintro e w1 ⟨rfl, hb1⟩)
    go_ret3
    exact HNO.out _ hb1 (HE.out.2.2.2 false rfl)
  | true =>
    clear hz
    by_cases h1 : N ≤ most
    · by_cases h2 : N ≤ (n : Int) - E
      · obtain ⟨N', rfl⟩ : ∃ k : Nat, N = k := ⟨N.toNat, by omega⟩
        obtain ⟨E', rfl⟩ : ∃ k : Nat, E = k := ⟨E.toNat, by omega⟩
        have hB1 := HE.out.2.2.2 true (by rw [decide_eq_true h1, decide_eq_true h2]; rfl)
        obtain ⟨h3, h4⟩ := rb_yes hB1
        have e3 : rbL l off most = (l.drop E').take (E' + N' - E') := by
          rw [h3, ← HE.out.1, ← HE.out.2.1]
          congr 1
          omega
        have e4 : rbE l off most = (E' : Int) + N' := by rw [h4, ← HE.out.1, ← HE.out.2.1]
        have H3 := Lib.hid e3
        have H4 := Lib.hid e4
        have H1 := Lib.hid hB1
        clear h3 h4 hB1 e3 e4
        have hlen : (rbL l off most).length = N' := by rw [H3.out]; have := HE.out.2.2.1; simp; omega
        have HLEN := Lib.hid hlen
        clear hlen
        obtain ⟨T, hT⟩ : ∃ T : Nat, T = E' + N' := ⟨_, rfl⟩
        have hend : (E' : Int) + (N' : Int) = (T : Int) := by omega
        have HTK := Lib.hid (fun (w1 : World) (h : Below w.heap.size w w1) => take_any a c l E' T w1 ((HR.out.1.below h).more h.size) (by have := HE.out.2.2.1; omega) (by have := HE.out.2.2.1; omega) (by omega) (by have := HE.out.2.2.1; omega))
        rw [← HE.out.2.2.1, hT, ← H3.out, ← hT] at HTK
        have HLEN2 := Lib.hid hT
        clear hT
        go_enter Try.func82, Try.ntmps82
        go_wp2_with (first | (go_at_call 55; refine HC.out.mono ?_; rintro e w1 ⟨rfl, hb1⟩) | (go_at_call 84; refine (HTK.out _ hb1).mono ?_; rintro e w2 ⟨a2, c2, rfl, ho2, hb2⟩))
        go_ret3
        refine GaveT.mk rfl ?_ H1.out.symm (ho2.base hb1.size) (hb1.trans (hb2.mono hb1.size))
        rw [H4.out]; omega
      · have hf := HNO.out
        have HF := Lib.hid (HE.out.2.2.2 false (by rw [decide_eq_false h2]; simp))
        clear hf
        go_enter Try.func82, Try.ntmps82
        go_wp2_with (go_at_call 55; refine HC.out.mono ?_; rintro e w1 ⟨rfl, hb1⟩)
        go_ret3
        exact HNO.out _ hb1 HF.out
    · have HF := Lib.hid (HE.out.2.2.2 false (by rw [decide_eq_false h1]; simp))
      go_enter Try.func82, Try.ntmps82
      go_wp2_with (go_at_call 55; refine HC.out.mono ?_; rintro e w1 ⟨rfl, hb1⟩)
      go_ret3
      exact HNO.out _ hb1 HF.out
set_option maxHeartbeats 400000 in
theorem specReadBytes_any (a : Option Addr) (c : Nat) (l : List Int) (off most : Int) (w : World) (hr : Reads w w.heap.size a (ints .u8 l)) (hb : Byt l) (hc : l.length ≤ c) (hl : l.length ≤ 1099511627776) (ho1 : -9223372036854775808 ≤ off) (ho2 : off ≤ 9223372036854775807) :
    Calls Try.prog 94 #[.slice a l.length c, .int .i64 off, .int .i64 most] w (GaveT w w.heap.size 5 .u8 (rbL l off most) (rbE l off most) (rbB l off most)) := by
  obtain ⟨i0, hi, hz0, hz1, hz2⟩ := infoOf _ _ _ _ info8
  have hbd := rd_bounds hb off
  have HC := Lib.hid (specReadB_any a c l off w w.heap.size (Nat.le_refl _) hr hb hc hl ho1 ho2)
  unfold RdE at HC
  have HR := Lib.hid (And.intro hr (And.intro hb hc))
  obtain ⟨N, hN⟩ : ∃ N, N = rdN l off := ⟨_, rfl⟩
  obtain ⟨E, hE⟩ : ∃ E, E = rdE l off := ⟨_, rfl⟩
  obtain ⟨b, hbb⟩ : ∃ b, b = rdB l off := ⟨_, rfl⟩
  obtain ⟨n, hn⟩ : ∃ n, n = l.length := ⟨_, rfl⟩
  rw [← hN, ← hE, ← hbb, ← hn] at HC
  rw [← hN, ← hE, ← hn] at hbd
  rw [← hn] at hl hc ⊢
  have hz : b = false → N = 0 ∧ E = 0 := fun h => by rw [hN, hE]; exact rd_none (by rw [← hbb]; exact h)
  have hyes : ∀ (x : Bool), x = (b && decide (N ≤ most) && decide (N ≤ (n : Int) - E)) → rbB l off most = x := fun x hx => by rw [hx, hN, hE, hbb, hn]; rfl
  have HE := Lib.hid (And.intro hN (And.intro hE (And.intro hn hyes)))
  clear hr hb hN hE hbb hn hyes
  obtain ⟨hN0, hN1, hE0, hE1⟩ := hbd
  have hemp := fun w1 => Own.empty (B := w.heap.size) w1 5 .u8
  have HM := Lib.hid hemp
  clear hemp
  have hno : ∀ (w1 : World), Below w.heap.size w w1 → rbB l off most = false → GaveT w w.heap.size 5 .u8 (rbL l off most) (rbE l off most) (rbB l off most) (.returned (.tuple #[.slice (some ⟨w1.heap.size, 0, none⟩) 0 0, .int .i64 0, .bool false])) (w1.alloc (.cells #[] 5)) := fun w1 hb1 h => by
    obtain ⟨h1, h2⟩ := rb_no h
    rw [h, h1, h2]
    exact GaveT.mk rfl rfl rfl (HM.out w1 hb1.size) (below_alloc hb1 _ (Nat.le_refl _))
  have HNO := Lib.hid hno
  clear hno
  cases b with
  | false =>
    obtain ⟨hN', hE'⟩ := hz rfl
    clear hz
    subst hN' hE'
    go_enter Try.func94, Try.ntmps94
    go_wp2_with (go_at_call 93; refine HC.out.mono ?_; rintro e w1 ⟨rfl, hb1⟩)
    go_ret3
    exact HNO.out _ hb1 (HE.out.2.2.2 false rfl)
  | true =>
    clear hz
    by_cases h1 : N ≤ most
    · by_cases h2 : N ≤ (n : Int) - E
      · obtain ⟨N', rfl⟩ : ∃ k : Nat, N = k := ⟨N.toNat, by omega⟩
        obtain ⟨E', rfl⟩ : ∃ k : Nat, E = k := ⟨E.toNat, by omega⟩
        have hB1 := HE.out.2.2.2 true (by rw [decide_eq_true h1, decide_eq_true h2]; rfl)
        obtain ⟨h3, h4⟩ := rb_yes hB1
        have e3 : rbL l off most = (l.drop E').take (E' + N' - E') := by
          rw [h3, ← HE.out.1, ← HE.out.2.1]
          congr 1
          omega
        have e4 : rbE l off most = (E' : Int) + N' := by rw [h4, ← HE.out.1, ← HE.out.2.1]
        have H3 := Lib.hid e3
        have H4 := Lib.hid e4
        have H1 := Lib.hid hB1
        clear h3 h4 hB1 e3 e4
        have hlen : (rbL l off most).length = N' := by rw [H3.out]; have := HE.out.2.2.1; simp; omega
        have HLEN := Lib.hid hlen
        clear hlen
        have hp : ∀ w1 : World, Below w.heap.size w w1 → Reads (w1.alloc (.cells #[] 5)) w.heap.size (if c = E' then a else a.map (·.add E')) (ints .u8 (rbL l off most)) := fun w1 h => by
          rw [H3.out]
          exact (HR.out.1.below (below_alloc h _ (Nat.le_refl _))).partInts E' (E' + N') c (by omega) (by have := HE.out.2.2.1; omega) (by omega)
        obtain ⟨A, hA⟩ : ∃ A, (if c = E' then a else a.map (·.add E')) = A := ⟨_, rfl⟩
        rw [hA] at hp
        have HP := Lib.hid hp
        clear hp
        obtain ⟨L, hL⟩ : ∃ L, L = rbL l off most := ⟨_, rfl⟩
        rw [← hL] at HP HLEN
        have hsub : E' + N' - E' = N' := by omega
        go_enter Try.func94, Try.ntmps94
        go_wp2_with (first | (go_at_call 93; refine HC.out.mono ?_; rintro e w1 ⟨rfl, hb1⟩) | (at_builtin; refine wpList_append_src _ rfl _ _ 22 rfl w.heap.size 5 i0 (.int .u8 0) 1 Try.underlying22 hi hz0 hz1 hz2 rfl .u8 _ _ _ [] rfl rfl (HM.out w1 hb1.size) w.heap.size _ _ _ L rfl (by have := HLEN.out; omega) (HP.out _ hb1) (by have := HLEN.out; simp [maxLen]; omega) (by have := HLEN.out; simp; omega) (Nat.le_trans hb1.size (by simp)) ?_; intro a2 c2 w2 ho2 hg2))
        go_ret3
        rw [hL] at ho2
        refine GaveT.mk ?_ ?_ H1.out.symm ho2 ?_
        · rw [← hL]
        · exact H4.out.symm
        · exact (below_alloc hb1 _ (Nat.le_refl _)).trans (below_own (HM.out w1 hb1.size) hg2 (Nat.le_trans hb1.size (by simp)))
      · have hf := HNO.out
        have HF := Lib.hid (HE.out.2.2.2 false (by rw [decide_eq_false h2]; simp))
        clear hf
        go_enter Try.func94, Try.ntmps94
        go_wp2_with (go_at_call 93; refine HC.out.mono ?_; rintro e w1 ⟨rfl, hb1⟩)
        go_ret3
        exact HNO.out _ hb1 HF.out
    · have HF := Lib.hid (HE.out.2.2.2 false (by rw [decide_eq_false h1]; simp))
      go_enter Try.func94, Try.ntmps94
      go_wp2_with (go_at_call 93; refine HC.out.mono ?_; rintro e w1 ⟨rfl, hb1⟩)
      go_ret3
      exact HNO.out _ hb1 HF.out

/-! ### lists of numbers -/
def dc (l : List Int) : Int → Nat → Option (List Int × Int)
  | off, 0 => some ([], off)
  | off, n + 1 => match rd l off with
    | none => none
    | some (v, m) => (dc l (off + m) n).map fun p => (v :: p.1, p.2)
def dcO (l : List Int) (off count : Int) : Option (List Int × Int) := if L1.inB count 0 100 = true ∧ L1.inB off 0 l.length = true then dc l off count.toNat else none
def dcL (l : List Int) (off count : Int) : List Int := match dcO l off count with | some p => p.1 | none => []
def dcE (l : List Int) (off count : Int) : Int := match dcO l off count with | some p => p.2 | none => 0
def dcB (l : List Int) (off count : Int) : Bool := (dcO l off count).isSome
theorem dc_none {l : List Int} {off count : Int} (h : dcO l off count = none) : dcL l off count = [] ∧ dcE l off count = 0 ∧ dcB l off count = false := by
  unfold dcL dcE dcB
  rw [h]
  exact ⟨rfl, rfl, rfl⟩
theorem dc_some {l : List Int} {off count : Int} {p : List Int × Int} (h : dcO l off count = some p) : dcL l off count = p.1 ∧ dcE l off count = p.2 ∧ dcB l off count = true := by
  unfold dcL dcE dcB
  rw [h]
  exact ⟨rfl, rfl, rfl⟩
/-- k numbers in, acc so far, the next one lies at o. -/
def DcMid (l : List Int) (off : Int) (n k : Nat) (acc : List Int) (o : Int) : Prop := acc.length = k ∧ dc l off n = (dc l o (n - k)).map fun p => (acc ++ p.1, p.2)
theorem DcMid.start (l : List Int) (off : Int) (n : Nat) : DcMid l off n 0 [] off := ⟨rfl, by simp⟩
theorem DcMid.none {l : List Int} {off : Int} {n k : Nat} {acc : List Int} {o : Int} (h : DcMid l off n k acc o) (hk : k < n) (hr : rdB l o = false) : dc l off n = none := by
  rw [h.2, show n - k = (n - (k + 1)) + 1 by omega, dc]
  have e : rd l o = Option.none := by
    unfold rdB at hr
    cases hh : rd l o with
    | none => rfl
    | some p => rw [hh] at hr; cases hr
  rw [e]
  rfl
theorem DcMid.next {l : List Int} {off : Int} {n k : Nat} {acc : List Int} {o : Int} (h : DcMid l off n k acc o) (hk : k < n) (hr : rdB l o = true) : DcMid l off n (k + 1) (acc ++ [rdN l o]) (rdE l o) := by
  obtain ⟨h1, h2⟩ := rd_some hr
  refine ⟨by simp [h.1], ?_⟩
  rw [h.2, show n - k = (n - (k + 1)) + 1 by omega, dc, h1]
  simp only [Option.map_map]
  rw [show o + ((rdE l o - o).toNat : Int) = rdE l o by omega]
  congr 1
  funext p
  simp
theorem DcMid.done {l : List Int} {off : Int} {n : Nat} {acc : List Int} {o : Int} (h : DcMid l off n n acc o) : dc l off n = some (acc, o) := by
  rw [h.2, Nat.sub_self]
  simp [dc]

theorem info64 : (Try.prog.info? 3).map (fun i => (i.zero, i.size, i.bytes)) = some (some (.int .i64 0), 1, 8) := by kernel_rfl


/-! ### equality -/
theorem run_bytes_string {P : Program} (T E D : TypeId) (hs : P.underlying T = some (.slice E)) (he : P.underlying E = some (.int .u8)) (hd : P.underlying D = some .string) (a : Option Addr) (c : Nat) (l : List Int) (w : World) (B : Nat) (hr : Reads w B a (ints .u8 l)) :
    (convert T D (.slice a l.length c)).run P w = .ok (.string (strOfNums l)) w := by
  rcases a with _ | ad
  · have hl : l = [] := by
      rcases l with _ | ⟨x, l⟩
      · rfl
      · obtain ⟨ad, h, _⟩ := hr 0 (by simp [ints])
        cases h
    subst hl
    rw [run_convert_bytes_nil w T E hs he _ _ D hd]
    rfl
  · have hl : (loadCells ad l.length).run P w = .ok (l.map (Value.int .u8)).toArray w := by
      have := run_loadCells_list (P := P) w ad (l.map (Value.int .u8)) (fun j v hj => by
        have hjl := (List.getElem?_eq_some_iff.1 hj).1
        obtain ⟨ad', h, _, hc⟩ := hr j hjl
        injection h with h
        subst h
        rw [hc, ← hj, List.getElem?_eq_getElem hjl]
        rfl)
      simpa using this
    rw [run_convert_bytes_string w T D E _ l.length c hs he hd, run_bytesToString w _ l.length c l hl, foldl_push_bytes]
    simp [strOfNums, ByteArray.empty, ByteArray.emptyWithCapacity]
    rfl
theorem bytes_inj : ∀ (l m : List Int), Byt l → Byt m → (l.map fun n => UInt8.ofNat n.toNat) = (m.map fun n => UInt8.ofNat n.toNat) → l = m
  | [], [], _, _, _ => rfl
  | [], y :: m, _, _, h => by simp at h
  | x :: l, [], _, _, h => by simp at h
  | x :: l, y :: m, hl, hm, h => by
    simp only [List.map_cons, List.cons.injEq] at h
    have h1 := hl x (by simp)
    have h2 := hm y (by simp)
    have h3 := congrArg UInt8.toNat h.1
    simp only [UInt8.toNat_ofNat'] at h3
    rw [bytes_inj l m (fun z hz => hl z (by simp [hz])) (fun z hz => hm z (by simp [hz])) h.2]
    congr 1
    omega
theorem str_eq (l m : List Int) (hl : Byt l) (hm : Byt m) : ((strOfNums l).toList == (strOfNums m).toList) = eqB l m := by
  rw [ByteArray.toList_eq, ByteArray.toList_eq, strOfNums_data, strOfNums_data]
  unfold eqB
  rw [Bool.eq_iff_iff, beq_iff_eq, decide_eq_true_iff]
  exact ⟨bytes_inj l m hl hm, fun h => by rw [h]⟩

end Go.Proofs.Ytpapncecfleejaa.L2
