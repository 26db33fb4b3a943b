/-
  The contracts of chapter 2's ReadBytes, DecodeInts, EqualBytes and of chapter 3's EqualInts, specification and program. Conditions: the bytes read as a list of numbers from 0 to 255, of at most 2^40.
-/
import Derived.Test.YtakdfcpecgjbmaaL2Rd
import Derived.Laws.BytesArg
namespace Go.Proofs.Ytakdfcpecgjbmaa.L2
open Go.ChangeShapes Go.WideShapes Go.ChangeAt Go.RowKit Mem Sl Ex
set_option linter.unusedVariables false

/-- What ReadBytes gives. -/
def rbB (l : List Int) (off most : Int) : Bool := rdB l off && decide (rdN l off ≤ most) && decide (rdN l off ≤ (l.length : Int) - rdE l off)
def rbL (l : List Int) (off most : Int) : List Int := if rbB l off most = true then (l.drop (rdE l off).toNat).take (rdN l off).toNat else []
def rbE (l : List Int) (off most : Int) : Int := if rbB l off most = true then rdE l off + rdN l off else 0
theorem rb_no {l : List Int} {off most : Int} (h : rbB l off most = false) : rbL l off most = [] ∧ rbE l off most = 0 := by
  unfold rbL rbE
  rw [h]
  exact ⟨rfl, rfl⟩
theorem rb_yes {l : List Int} {off most : Int} (h : rbB l off most = true) : rbL l off most = (l.drop (rdE l off).toNat).take (rdN l off).toNat ∧ rbE l off most = rdE l off + rdN l off := by
  unfold rbL rbE
  rw [h]
  exact ⟨rfl, rfl⟩

/-- What a maker leaves that gives a slice, a number and a truth. -/
def GaveT (w : World) (B : Nat) (e : TypeId) (k : IntKind) (l : List Int) (v : Int) (b : Bool) (en : Ending) (w' : World) : Prop := ∃ a c, en = .returned (.tuple #[.slice a l.length c, .int .i64 v, .bool b]) ∧ Own w' B e k a c l ∧ Below B w w'
theorem GaveT.mk {w w' : World} {B : Nat} {e : TypeId} {k : IntKind} {l : List Int} {v v' : Int} {b b' : Bool} {a : Option Addr} {c n : Nat} (hn : n = l.length) (hv : v' = v) (hb : b' = b) (ho : Own w' B e k a c l) (hw : Below B w w') :
    GaveT w B e k l v b (.returned (.tuple #[.slice a n c, .int .i64 v', .bool b'])) w' := ⟨a, c, by rw [hn, hv, hb], ho, hw⟩

theorem specReadB_any (a : Option Addr) (c : Nat) (l : List Int) (off : Int) (w : World) (B : Nat) (hB : B ≤ w.heap.size) (hr : Reads w B a (ints .u8 l)) (hb : Byt l) (hc : l.length ≤ c) (hl : l.length ≤ 1099511627776) (ho1 : -9223372036854775808 ≤ off) (ho2 : off ≤ 9223372036854775807) :
    Calls Try.prog 19 #[.slice a l.length c, .int .i64 off] w fun e w' => e = RdE l off ∧ Below w.heap.size w w' :=
  (specRead_any a c l off w B hr hb hl ho1 ho2).mono fun _ _ ⟨he, hd⟩ => ⟨he, hd.below _⟩
theorem implReadB_any (a : Option Addr) (c : Nat) (l : List Int) (off : Int) (w : World) (B : Nat) (hB : B ≤ w.heap.size) (hr : Reads w B a (ints .u8 l)) (hb : Byt l) (hc : l.length ≤ c) (hl : l.length ≤ 1099511627776) (ho1 : -9223372036854775808 ≤ off) (ho2 : off ≤ 9223372036854775807) :
    Calls Try.prog 16 #[.slice a l.length c, .int .i64 off] w fun e w' => e = RdE l off ∧ Below w.heap.size w w' :=
  implRead_any a c l off w B hB hr hb hc hl ho1 ho2

set_option maxHeartbeats 400000 in
theorem implReadBytes_any (a : Option Addr) (c : Nat) (l : List Int) (off most : Int) (w : World) (hr : Reads w w.heap.size a (ints .u8 l)) (hb : Byt l) (hc : l.length ≤ c) (hl : l.length ≤ 1099511627776) (ho1 : -9223372036854775808 ≤ off) (ho2 : off ≤ 9223372036854775807) :
    Calls Try.prog 22 #[.slice a l.length c, .int .i64 off, .int .i64 most] w (GaveT w w.heap.size 5 .u8 (rbL l off most) (rbE l off most) (rbB l off most)) := by
  obtain ⟨i0, hi, hz0, hz1, hz2⟩ := infoOf _ _ _ _ info8
  have hbd := rd_bounds hb off
  have HC := Lib.hid (implReadB_any a c l off w w.heap.size (Nat.le_refl _) hr hb hc hl ho1 ho2)
  unfold RdE at HC
  have HR := Lib.hid (And.intro hr (And.intro hb hc))
  obtain ⟨N, hN⟩ : ∃ N, N = rdN l off := ⟨_, rfl⟩
  obtain ⟨E, hE⟩ : ∃ E, E = rdE l off := ⟨_, rfl⟩
  obtain ⟨b, hbb⟩ : ∃ b, b = rdB l off := ⟨_, rfl⟩
  obtain ⟨n, hn⟩ : ∃ n, n = l.length := ⟨_, rfl⟩
  rw [← hN, ← hE, ← hbb, ← hn] at HC
  rw [← hN, ← hE, ← hn] at hbd
  rw [← hn] at hl hc ⊢
  have hz : b = false → N = 0 ∧ E = 0 := fun h => by rw [hN, hE]; exact rd_none (by rw [← hbb]; exact h)
  have hyes : ∀ (x : Bool), x = (b && decide (N ≤ most) && decide (N ≤ (n : Int) - E)) → rbB l off most = x := fun x hx => by rw [hx, hN, hE, hbb, hn]; rfl
  have HE := Lib.hid (And.intro hN (And.intro hE (And.intro hn hyes)))
  clear hr hb hN hE hbb hn hyes
  obtain ⟨hN0, hN1, hE0, hE1⟩ := hbd
  have hemp := fun w1 => Own.empty (B := w.heap.size) w1 5 .u8
  have HM := Lib.hid hemp
  clear hemp
  have hno : ∀ (w1 : World), Below w.heap.size w w1 → rbB l off most = false → GaveT w w.heap.size 5 .u8 (rbL l off most) (rbE l off most) (rbB l off most) (.returned (.tuple #[.slice (some ⟨w1.heap.size, 0, none⟩) 0 0, .int .i64 0, .bool false])) (w1.alloc (.cells #[] 5)) := fun w1 hb1 h => by
    obtain ⟨h1, h2⟩ := rb_no h
    rw [h, h1, h2]
    exact GaveT.mk rfl rfl rfl (HM.out w1 hb1.size) (below_alloc hb1 _ (Nat.le_refl _))
  have HNO := Lib.hid hno
  clear hno
  cases b with
  | false =>
    obtain ⟨hN', hE'⟩ := hz rfl
    clear hz
    subst hN' hE'
    go_enter Try.func22, Try.ntmps22
    go_wp2_with (go_at_call 16; refine HC.out.mono ?_; rintro e w1 ⟨rfl, hb1⟩)
    go_ret3
    exact HNO.out _ hb1 (HE.out.2.2.2 false rfl)
  | true =>
    clear hz
    by_cases h1 : N ≤ most
    · by_cases h2 : N ≤ (n : Int) - E
      · obtain ⟨N', rfl⟩ : ∃ k : Nat, N = k := ⟨N.toNat, by omega⟩
        obtain ⟨E', rfl⟩ : ∃ k : Nat, E = k := ⟨E.toNat, by omega⟩
        have hB1 := HE.out.2.2.2 true (by rw [decide_eq_true h1, decide_eq_true h2]; rfl)
        obtain ⟨h3, h4⟩ := rb_yes hB1
        have e3 : rbL l off most = (l.drop E').take (E' + N' - E') := by
          rw [h3, ← HE.out.1, ← HE.out.2.1]
          congr 1
          omega
        have e4 : rbE l off most = (E' : Int) + N' := by rw [h4, ← HE.out.1, ← HE.out.2.1]
        have H3 := Lib.hid e3
        have H4 := Lib.hid e4
        have H1 := Lib.hid hB1
        clear h3 h4 hB1 e3 e4
        have hlen : (rbL l off most).length = N' := by rw [H3.out]; have := HE.out.2.2.1; simp; omega
        have HLEN := Lib.hid hlen
        clear hlen
        obtain ⟨T, hT⟩ : ∃ T : Nat, T = E' + N' := ⟨_, rfl⟩
        have hend : (E' : Int) + (N' : Int) = (T : Int) := by omega
        have HTK := Lib.hid (fun (w1 : World) (h : Below w.heap.size w w1) => take_any a c l E' T w1 ((HR.out.1.below h).more h.size) (by have := HE.out.2.2.1; omega) (by have := HE.out.2.2.1; omega) (by omega) (by have := HE.out.2.2.1; omega))
        rw [← HE.out.2.2.1, hT, ← H3.out, ← hT] at HTK
        have HLEN2 := Lib.hid hT
        clear hT
        go_enter Try.func22, Try.ntmps22
        go_wp2_with (first | (go_at_call 16; refine HC.out.mono ?_; rintro e w1 ⟨rfl, hb1⟩) | (go_at_call 49; refine (HTK.out _ hb1).mono ?_; rintro e w2 ⟨a2, c2, rfl, ho2, hb2⟩))
        go_ret3
        refine GaveT.mk rfl ?_ H1.out.symm (ho2.base hb1.size) (hb1.trans (hb2.mono hb1.size))
        rw [H4.out]; omega
      · have hf := HNO.out
        have HF := Lib.hid (HE.out.2.2.2 false (by rw [decide_eq_false h2]; simp))
        clear hf
        go_enter Try.func22, Try.ntmps22
        go_wp2_with (go_at_call 16; refine HC.out.mono ?_; rintro e w1 ⟨rfl, hb1⟩)
        go_ret3
        exact HNO.out _ hb1 HF.out
    · have HF := Lib.hid (HE.out.2.2.2 false (by rw [decide_eq_false h1]; simp))
      go_enter Try.func22, Try.ntmps22
      go_wp2_with (go_at_call 16; refine HC.out.mono ?_; rintro e w1 ⟨rfl, hb1⟩)
      go_ret3
      exact HNO.out _ hb1 HF.out
set_option maxHeartbeats 400000 in
theorem specReadBytes_any (a : Option Addr) (c : Nat) (l : List Int) (off most : Int) (w : World) (hr : Reads w w.heap.size a (ints .u8 l)) (hb : Byt l) (hc : l.length ≤ c) (hl : l.length ≤ 1099511627776) (ho1 : -9223372036854775808 ≤ off) (ho2 : off ≤ 9223372036854775807) :
    Calls Try.prog 33 #[.slice a l.length c, .int .i64 off, .int .i64 most] w (GaveT w w.heap.size 5 .u8 (rbL l off most) (rbE l off most) (rbB l off most)) := by
  obtain ⟨i0, hi, hz0, hz1, hz2⟩ := infoOf _ _ _ _ info8
  have hbd := rd_bounds hb off
  have HC := Lib.hid (specReadB_any a c l off w w.heap.size (Nat.le_refl _) hr hb hc hl ho1 ho2)
  unfold RdE at HC
  have HR := Lib.hid (And.intro hr (And.intro hb hc))
  obtain ⟨N, hN⟩ : ∃ N, N = rdN l off := ⟨_, rfl⟩
  obtain ⟨E, hE⟩ : ∃ E, E = rdE l off := ⟨_, rfl⟩
  obtain ⟨b, hbb⟩ : ∃ b, b = rdB l off := ⟨_, rfl⟩
  obtain ⟨n, hn⟩ : ∃ n, n = l.length := ⟨_, rfl⟩
  rw [← hN, ← hE, ← hbb, ← hn] at HC
  rw [← hN, ← hE, ← hn] at hbd
  rw [← hn] at hl hc ⊢
  have hz : b = false → N = 0 ∧ E = 0 := fun h => by rw [hN, hE]; exact rd_none (by rw [← hbb]; exact h)
  have hyes : ∀ (x : Bool), x = (b && decide (N ≤ most) && decide (N ≤ (n : Int) - E)) → rbB l off most = x := fun x hx => by rw [hx, hN, hE, hbb, hn]; rfl
  have HE := Lib.hid (And.intro hN (And.intro hE (And.intro hn hyes)))
  clear hr hb hN hE hbb hn hyes
  obtain ⟨hN0, hN1, hE0, hE1⟩ := hbd
  have hemp := fun w1 => Own.empty (B := w.heap.size) w1 5 .u8
  have HM := Lib.hid hemp
  clear hemp
  have hno : ∀ (w1 : World), Below w.heap.size w w1 → rbB l off most = false → GaveT w w.heap.size 5 .u8 (rbL l off most) (rbE l off most) (rbB l off most) (.returned (.tuple #[.slice (some ⟨w1.heap.size, 0, none⟩) 0 0, .int .i64 0, .bool false])) (w1.alloc (.cells #[] 5)) := fun w1 hb1 h => by
    obtain ⟨h1, h2⟩ := rb_no h
    rw [h, h1, h2]
    exact GaveT.mk rfl rfl rfl (HM.out w1 hb1.size) (below_alloc hb1 _ (Nat.le_refl _))
  have HNO := Lib.hid hno
  clear hno
  cases b with
  | false =>
    obtain ⟨hN', hE'⟩ := hz rfl
    clear hz
    subst hN' hE'
    go_enter Try.func33, Try.ntmps33
    go_wp2_with (go_at_call 19; refine HC.out.mono ?_; rintro e w1 ⟨rfl, hb1⟩)
    go_ret3
    exact HNO.out _ hb1 (HE.out.2.2.2 false rfl)
  | true =>
    clear hz
    by_cases h1 : N ≤ most
    · by_cases h2 : N ≤ (n : Int) - E
      · obtain ⟨N', rfl⟩ : ∃ k : Nat, N = k := ⟨N.toNat, by omega⟩
        obtain ⟨E', rfl⟩ : ∃ k : Nat, E = k := ⟨E.toNat, by omega⟩
        have hB1 := HE.out.2.2.2 true (by rw [decide_eq_true h1, decide_eq_true h2]; rfl)
        obtain ⟨h3, h4⟩ := rb_yes hB1
        have e3 : rbL l off most = (l.drop E').take (E' + N' - E') := by
          rw [h3, ← HE.out.1, ← HE.out.2.1]
          congr 1
          omega
        have e4 : rbE l off most = (E' : Int) + N' := by rw [h4, ← HE.out.1, ← HE.out.2.1]
        have H3 := Lib.hid e3
        have H4 := Lib.hid e4
        have H1 := Lib.hid hB1
        clear h3 h4 hB1 e3 e4
        have hlen : (rbL l off most).length = N' := by rw [H3.out]; have := HE.out.2.2.1; simp; omega
        have HLEN := Lib.hid hlen
        clear hlen
        have hp : ∀ w1 : World, Below w.heap.size w w1 → Reads (w1.alloc (.cells #[] 5)) w.heap.size (if c = E' then a else a.map (·.add E')) (ints .u8 (rbL l off most)) := fun w1 h => by
          rw [H3.out]
          exact (HR.out.1.below (below_alloc h _ (Nat.le_refl _))).partInts E' (E' + N') c (by omega) (by have := HE.out.2.2.1; omega) (by omega)
        obtain ⟨A, hA⟩ : ∃ A, (if c = E' then a else a.map (·.add E')) = A := ⟨_, rfl⟩
        rw [hA] at hp
        have HP := Lib.hid hp
        clear hp
        obtain ⟨L, hL⟩ : ∃ L, L = rbL l off most := ⟨_, rfl⟩
        rw [← hL] at HP HLEN
        have hsub : E' + N' - E' = N' := by omega
        go_enter Try.func33, Try.ntmps33
        go_wp2_with (first | (go_at_call 19; refine HC.out.mono ?_; rintro e w1 ⟨rfl, hb1⟩) | (at_builtin; refine wpList_append_src _ rfl _ _ 22 rfl w.heap.size 5 i0 (.int .u8 0) 1 Try.underlying22 hi hz0 hz1 hz2 rfl .u8 _ _ _ [] rfl rfl (HM.out w1 hb1.size) w.heap.size _ _ _ L rfl (by have := HLEN.out; omega) (HP.out _ hb1) (by have := HLEN.out; simp [maxLen]; omega) (by have := HLEN.out; simp; omega) (Nat.le_trans hb1.size (by simp)) ?_; intro a2 c2 w2 ho2 hg2))
        go_ret3
        rw [hL] at ho2
        refine GaveT.mk ?_ ?_ H1.out.symm ho2 ?_
        · rw [← hL]
        · exact H4.out.symm
        · exact (below_alloc hb1 _ (Nat.le_refl _)).trans (below_own (HM.out w1 hb1.size) hg2 (Nat.le_trans hb1.size (by simp)))
      · have hf := HNO.out
        have HF := Lib.hid (HE.out.2.2.2 false (by rw [decide_eq_false h2]; simp))
        clear hf
        go_enter Try.func33, Try.ntmps33
        go_wp2_with (go_at_call 19; refine HC.out.mono ?_; rintro e w1 ⟨rfl, hb1⟩)
        go_ret3
        exact HNO.out _ hb1 HF.out
    · have HF := Lib.hid (HE.out.2.2.2 false (by rw [decide_eq_false h1]; simp))
      go_enter Try.func33, Try.ntmps33
      go_wp2_with (go_at_call 19; refine HC.out.mono ?_; rintro e w1 ⟨rfl, hb1⟩)
      go_ret3
      exact HNO.out _ hb1 HF.out

/-! ### lists of numbers -/
def dc (l : List Int) : Int → Nat → Option (List Int × Int)
  | off, 0 => some ([], off)
  | off, n + 1 => match rd l off with
    | none => none
    | some (v, m) => (dc l (off + m) n).map fun p => (v :: p.1, p.2)
def dcO (l : List Int) (off count : Int) : Option (List Int × Int) := if L1.inB count 0 100 = true ∧ L1.inB off 0 l.length = true then dc l off count.toNat else none
def dcL (l : List Int) (off count : Int) : List Int := match dcO l off count with | some p => p.1 | none => []
def dcE (l : List Int) (off count : Int) : Int := match dcO l off count with | some p => p.2 | none => 0
def dcB (l : List Int) (off count : Int) : Bool := (dcO l off count).isSome
theorem dc_none {l : List Int} {off count : Int} (h : dcO l off count = none) : dcL l off count = [] ∧ dcE l off count = 0 ∧ dcB l off count = false := by
  unfold dcL dcE dcB
  rw [h]
  exact ⟨rfl, rfl, rfl⟩
theorem dc_some {l : List Int} {off count : Int} {p : List Int × Int} (h : dcO l off count = some p) : dcL l off count = p.1 ∧ dcE l off count = p.2 ∧ dcB l off count = true := by
  unfold dcL dcE dcB
  rw [h]
  exact ⟨rfl, rfl, rfl⟩
/-- k numbers in, acc so far, the next one lies at o. -/
def DcMid (l : List Int) (off : Int) (n k : Nat) (acc : List Int) (o : Int) : Prop := acc.length = k ∧ dc l off n = (dc l o (n - k)).map fun p => (acc ++ p.1, p.2)
theorem DcMid.start (l : List Int) (off : Int) (n : Nat) : DcMid l off n 0 [] off := ⟨rfl, by simp⟩
theorem DcMid.none {l : List Int} {off : Int} {n k : Nat} {acc : List Int} {o : Int} (h : DcMid l off n k acc o) (hk : k < n) (hr : rdB l o = false) : dc l off n = none := by
  rw [h.2, show n - k = (n - (k + 1)) + 1 by omega, dc]
  have e : rd l o = Option.none := by
    unfold rdB at hr
    cases hh : rd l o with
    | none => rfl
    | some p => rw [hh] at hr; cases hr
  rw [e]
  rfl
theorem DcMid.next {l : List Int} {off : Int} {n k : Nat} {acc : List Int} {o : Int} (h : DcMid l off n k acc o) (hk : k < n) (hr : rdB l o = true) : DcMid l off n (k + 1) (acc ++ [rdN l o]) (rdE l o) := by
  obtain ⟨h1, h2⟩ := rd_some hr
  refine ⟨by simp [h.1], ?_⟩
  rw [h.2, show n - k = (n - (k + 1)) + 1 by omega, dc, h1]
  simp only [Option.map_map]
  rw [show o + ((rdE l o - o).toNat : Int) = rdE l o by omega]
  congr 1
  funext p
  simp
theorem DcMid.done {l : List Int} {off : Int} {n : Nat} {acc : List Int} {o : Int} (h : DcMid l off n n acc o) : dc l off n = some (acc, o) := by
  rw [h.2, Nat.sub_self]
  simp [dc]

theorem info64 : (Try.prog.info? 3).map (fun i => (i.zero, i.size, i.bytes)) = some (some (.int .i64 0), 1, 8) := by kernel_rfl

set_option maxHeartbeats 400000 in
theorem implDecodeInts_any (a : Option Addr) (c : Nat) (l : List Int) (off count : Int) (w : World) (hr : Reads w w.heap.size a (ints .u8 l)) (hb : Byt l) (hc : l.length ≤ c) (hl : l.length ≤ 1099511627776) :
    Calls Try.prog 25 #[.slice a l.length c, .int .i64 off, .int .i64 count] w (GaveT w w.heap.size 3 .i64 (dcL l off count) (dcE l off count) (dcB l off count)) := by
  obtain ⟨i0, hi, hz0, hz1, hz2⟩ := infoOf _ _ _ _ info64
  obtain ⟨n, hn⟩ : ∃ n, n = l.length := ⟨_, rfl⟩
  rw [← hn]
  have HR := Lib.hid (And.intro hr (And.intro hb (And.intro hc (And.intro hl hn))))
  have HM := Lib.hid (fun w1 (h : w.heap.size ≤ w1.heap.size) => Own.empty (B := w.heap.size) w1 3 .i64 h)
  have hno : ∀ (w1 : World), Below w.heap.size w w1 → dcO l off count = none → GaveT w w.heap.size 3 .i64 (dcL l off count) (dcE l off count) (dcB l off count) (.returned (.tuple #[.slice (some ⟨w1.heap.size, 0, none⟩) 0 0, .int .i64 0, .bool false])) (w1.alloc (.cells #[] 3)) := fun w1 hb1 h => by
    obtain ⟨h1, h2, h3⟩ := dc_none h
    rw [h1, h2, h3]
    exact GaveT.mk rfl rfl rfl (HM.out w1 hb1.size) (below_alloc hb1 _ (Nat.le_refl _))
  have HNO := Lib.hid hno
  clear hno
  have hn' : n ≤ 1099511627776 := by omega
  obtain ⟨b1, hb1⟩ : ∃ b, L1.inB count 0 100 = b := ⟨_, rfl⟩
  obtain ⟨b2, hb2⟩ : ∃ b, L1.inB off 0 n = b := ⟨_, rfl⟩
  have I1 : ∀ w : World, Calls Try.prog 50 #[.int .i64 count, .int .i64 0, .int .i64 100] w fun e w' => e = .returned (.bool b1) ∧ w = w' := by rw [← hb1]; exact fun w => L1.inRange_any _ _ _ w
  have I2 : ∀ w : World, Calls Try.prog 50 #[.int .i64 off, .int .i64 0, .int .i64 n] w fun e w' => e = .returned (.bool b2) ∧ w = w' := by rw [← hb2]; exact fun w => L1.inRange_any _ _ _ w
  have H1 := Lib.hid I1
  have H2 := Lib.hid I2
  clear I1 I2
  by_cases hboth : b1 = true ∧ b2 = true
  · obtain ⟨rfl, rfl⟩ := hboth
    have k1 := L1.inB_true.mp hb1
    have k2 := L1.inB_true.mp hb2
    obtain ⟨N, rfl⟩ : ∃ k : Nat, count = k := ⟨count.toNat, by omega⟩
    have hN : N ≤ 100 := by omega
    have hD : dcO l off N = dc l off N := by
      unfold dcO
      rw [if_pos ⟨hb1, by rw [← hn]; exact hb2⟩]
      rfl
    have HD := Lib.hid hD
    have hoff0 : 0 ≤ off := k2.1
    have hoff1 : off ≤ n := k2.2
    have hrd : ∀ (o : Int), 0 ≤ o → o ≤ n → ∀ w1 : World, Below w.heap.size w w1 → Calls Try.prog 16 #[.slice a n c, .int .i64 o] w1 fun e w' => e = RdE l o ∧ Below w1.heap.size w1 w' := fun o h0 h1 w1 h => by
      rw [hn]
      exact implReadB_any a c l o w1 w.heap.size h.size (hr.below h) hb hc hl (by omega) (by omega)
    have HRD := Lib.hid hrd
    clear hrd hr hb hc hl hn hb1 hb2 k1 k2 hD
    go_enter Try.func25, Try.ntmps25
    go_wp2_with (first | (go_at_call 50; ((with_reducible refine (H1.out _).mono ?_); rintro e w' ⟨rfl, rfl⟩)) | (go_at_call 50; ((with_reducible refine (H2.out _).mono ?_); rintro e w' ⟨rfl, rfl⟩)))
    go_loopw [9,10,28] (fun s o i wr => ∃ (k : Nat) (o1 : Int) (a1 : Option Addr) (c1 n1 : Nat) (acc : List Int), k ≤ N ∧ i = .int .i64 k ∧ o = .int .i64 o1 ∧ 0 ≤ o1 ∧ o1 ≤ n ∧ s = .slice a1 n1 c1 ∧ Hid (Own wr w.heap.size 3 .i64 a1 c1 acc ∧ Below w.heap.size w wr ∧ n1 = acc.length ∧ DcMid l off N k acc o1)) (fun s o i _ => N - (intOf i).toNat)
    case atStart => exact ⟨0, off, _, 0, 0, [], Nat.zero_le _, rfl, rfl, hoff0, hoff1, rfl, And.intro (HM.out w (Nat.le_refl _)) (And.intro (below_alloc (Below.refl _ _) _ (Nat.le_refl _)) (And.intro rfl (DcMid.start l off N)))⟩
    case round =>
      obtain ⟨k, o1, a1, c1, n1, acc, hk, rfl, rfl, ho0, ho1, rfl, hrel⟩ := hrel
      by_cases hlt : k < N
      · have hbd := rd_bounds HR.out.2.1 o1
        have HC := Lib.hid (HRD.out o1 ho0 ho1 wr hrel.out.2.1)
        unfold RdE at HC
        obtain ⟨V, hV⟩ : ∃ V, V = rdN l o1 := ⟨_, rfl⟩
        obtain ⟨E, hE⟩ : ∃ E, E = rdE l o1 := ⟨_, rfl⟩
        obtain ⟨b, hbb⟩ : ∃ b, b = rdB l o1 := ⟨_, rfl⟩
        rw [← hV, ← hE, ← hbb] at HC
        rw [← hV, ← hE, ← HR.out.2.2.2.2] at hbd
        obtain ⟨hb0, hb1, hb2, hb3⟩ := hbd
        have HV := Lib.hid (And.intro hV (And.intro hE hbb))
        clear hV hE hbb
        cases b with
        | false =>
          have HX := Lib.hid (hrel.out.2.2.2.none hlt HV.out.2.2.symm)
          go_wp2_with (go_at_call 16; refine HC.out.mono ?_; rintro e w1 ⟨rfl, hb1⟩)
          go_ret3
          exact HNO.out _ (hrel.out.2.1.trans (hb1.mono hrel.out.2.1.size)) (by rw [HD.out]; exact HX.out)
        | true =>
          have HX := Lib.hid (hrel.out.2.2.2.next hlt HV.out.2.2.symm)
          rw [← HV.out.1, ← HV.out.2.1] at HX
          have hn1 : n1 = k := hrel.out.2.2.1.trans hrel.out.2.2.2.1
          subst hn1
          go_wp2_with (first | (go_at_call 16; refine HC.out.mono ?_; rintro e w1 ⟨rfl, hb1⟩) | (at_builtin; refine wpList_append_src _ rfl _ _ 35 rfl w.heap.size 3 i0 (.int .i64 0) 8 Try.underlying35 hi hz0 hz1 hz2 rfl .i64 a1 _ c1 acc rfl hrel.out.2.2.1 (own_alloc (hrel.out.1.below hb1) _) _ _ 1 1 [_] rfl rfl (reads_one _ _ _ _) (by have := hrel.out.2.2.1; simp [maxLen]; omega) (by have := hrel.out.2.2.1; simp; omega) (Nat.le_trans hrel.out.2.1.size (Nat.le_trans hb1.size (by simp))) ?_; intro a2 c2 w2 ho2 hg2))
          have hbl := hrel.out.2.1.trans (hb1.mono hrel.out.2.1.size)
          have hbl2 := below_alloc hbl (.cells #[.int .i64 V] 3) (Nat.le_refl _)
          have hbl3 := hbl2.trans (below_own (own_alloc (hrel.out.1.below hb1) _) hg2 hbl2.size)
          have hacc : acc.length = n1 := hrel.out.2.2.1.symm
          have HH := Lib.hid (And.intro ho2 (And.intro hbl3 hacc))
          rw [hacc]
          clear ho2 hg2 hbl hbl2 hbl3 hb1 hacc
          go_roundw
          case rel => exact ⟨n1 + 1, E, a2, c2, n1 + 1, _, by omega, by go_num, rfl, by omega, by omega, rfl, And.intro HH.out.1 (And.intro HH.out.2.1 (And.intro (by simp [HH.out.2.2]) HX.out))⟩
          case measure => simp [intOf]; omega
      · obtain rfl : k = N := by omega
        have HX := Lib.hid (hrel.out.2.2.2.done)
        go_wp2
        go_ret3
        obtain ⟨h1, h2, h3⟩ := dc_some (HD.out.trans HX.out)
        rw [h1, h2, h3]
        exact GaveT.mk hrel.out.2.2.1 rfl rfl hrel.out.1 hrel.out.2.1
  · have HF := Lib.hid (show dcO l off count = none by
      unfold dcO
      rw [if_neg]
      rintro ⟨x1, x2⟩
      exact hboth ⟨hb1.symm.trans x1, hb2.symm.trans (by rw [hn]; exact x2)⟩)
    clear hr hb hc hl hn hb1 hb2
    cases b1 with
    | false =>
      clear hboth
      go_enter Try.func25, Try.ntmps25
      go_wp2_with (first | (go_at_call 50; ((with_reducible refine (H1.out _).mono ?_); rintro e w' ⟨rfl, rfl⟩)))
      go_ret3
      exact HNO.out _ (Below.refl _ _) HF.out
    | true =>
      obtain rfl : b2 = false := by cases b2 with | false => rfl | true => exact absurd ⟨rfl, rfl⟩ hboth
      clear hboth
      go_enter Try.func25, Try.ntmps25
      go_wp2_with (first | (go_at_call 50; ((with_reducible refine (H1.out _).mono ?_); rintro e w' ⟨rfl, rfl⟩)) | (go_at_call 50; ((with_reducible refine (H2.out _).mono ?_); rintro e w' ⟨rfl, rfl⟩)))
      go_ret3
      exact HNO.out _ (Below.refl _ _) HF.out
set_option maxHeartbeats 400000 in
theorem specDecodeInts_any (a : Option Addr) (c : Nat) (l : List Int) (off count : Int) (w : World) (hr : Reads w w.heap.size a (ints .u8 l)) (hb : Byt l) (hc : l.length ≤ c) (hl : l.length ≤ 1099511627776) :
    Calls Try.prog 38 #[.slice a l.length c, .int .i64 off, .int .i64 count] w (GaveT w w.heap.size 3 .i64 (dcL l off count) (dcE l off count) (dcB l off count)) := by
  obtain ⟨i0, hi, hz0, hz1, hz2⟩ := infoOf _ _ _ _ info64
  obtain ⟨n, hn⟩ : ∃ n, n = l.length := ⟨_, rfl⟩
  rw [← hn]
  have HR := Lib.hid (And.intro hr (And.intro hb (And.intro hc (And.intro hl hn))))
  have HM := Lib.hid (fun w1 (h : w.heap.size ≤ w1.heap.size) => Own.empty (B := w.heap.size) w1 3 .i64 h)
  have hno : ∀ (w1 : World), Below w.heap.size w w1 → dcO l off count = none → GaveT w w.heap.size 3 .i64 (dcL l off count) (dcE l off count) (dcB l off count) (.returned (.tuple #[.slice (some ⟨w1.heap.size, 0, none⟩) 0 0, .int .i64 0, .bool false])) (w1.alloc (.cells #[] 3)) := fun w1 hb1 h => by
    obtain ⟨h1, h2, h3⟩ := dc_none h
    rw [h1, h2, h3]
    exact GaveT.mk rfl rfl rfl (HM.out w1 hb1.size) (below_alloc hb1 _ (Nat.le_refl _))
  have HNO := Lib.hid hno
  clear hno
  have hn' : n ≤ 1099511627776 := by omega
  obtain ⟨b1, hb1⟩ : ∃ b, L1.inB count 0 100 = b := ⟨_, rfl⟩
  obtain ⟨b2, hb2⟩ : ∃ b, L1.inB off 0 n = b := ⟨_, rfl⟩
  have I1 : ∀ w : World, Calls Try.prog 55 #[.int .i64 count, .int .i64 0, .int .i64 100] w fun e w' => e = .returned (.bool b1) ∧ w = w' := by rw [← hb1]; exact fun w => L1.l1In_any _ _ _ w
  have I2 : ∀ w : World, Calls Try.prog 55 #[.int .i64 off, .int .i64 0, .int .i64 n] w fun e w' => e = .returned (.bool b2) ∧ w = w' := by rw [← hb2]; exact fun w => L1.l1In_any _ _ _ w
  have H1 := Lib.hid I1
  have H2 := Lib.hid I2
  clear I1 I2
  by_cases hboth : b1 = true ∧ b2 = true
  · obtain ⟨rfl, rfl⟩ := hboth
    have k1 := L1.inB_true.mp hb1
    have k2 := L1.inB_true.mp hb2
    obtain ⟨N, rfl⟩ : ∃ k : Nat, count = k := ⟨count.toNat, by omega⟩
    have hN : N ≤ 100 := by omega
    have hD : dcO l off N = dc l off N := by
      unfold dcO
      rw [if_pos ⟨hb1, by rw [← hn]; exact hb2⟩]
      rfl
    have HD := Lib.hid hD
    have hoff0 : 0 ≤ off := k2.1
    have hoff1 : off ≤ n := k2.2
    have hrd : ∀ (o : Int), 0 ≤ o → o ≤ n → ∀ w1 : World, Below w.heap.size w w1 → Calls Try.prog 19 #[.slice a n c, .int .i64 o] w1 fun e w' => e = RdE l o ∧ Below w1.heap.size w1 w' := fun o h0 h1 w1 h => by
      rw [hn]
      exact specReadB_any a c l o w1 w.heap.size h.size (hr.below h) hb hc hl (by omega) (by omega)
    have HRD := Lib.hid hrd
    clear hrd hr hb hc hl hn hb1 hb2 k1 k2 hD
    go_enter Try.func38, Try.ntmps38
    go_wp2_with (first | (go_at_call 55; ((with_reducible refine (H1.out _).mono ?_); rintro e w' ⟨rfl, rfl⟩)) | (go_at_call 55; ((with_reducible refine (H2.out _).mono ?_); rintro e w' ⟨rfl, rfl⟩)))
    go_loopw [1,9,10] (fun o s i wr => ∃ (k : Nat) (o1 : Int) (a1 : Option Addr) (c1 n1 : Nat) (acc : List Int), k ≤ N ∧ i = .int .i64 k ∧ o = .int .i64 o1 ∧ 0 ≤ o1 ∧ o1 ≤ n ∧ s = .slice a1 n1 c1 ∧ Hid (Own wr w.heap.size 3 .i64 a1 c1 acc ∧ Below w.heap.size w wr ∧ n1 = acc.length ∧ DcMid l off N k acc o1)) (fun o s i _ => N - (intOf i).toNat)
    case atStart => exact ⟨0, off, _, 0, 0, [], Nat.zero_le _, rfl, rfl, hoff0, hoff1, rfl, And.intro (HM.out w (Nat.le_refl _)) (And.intro (below_alloc (Below.refl _ _) _ (Nat.le_refl _)) (And.intro rfl (DcMid.start l off N)))⟩
    case round =>
      obtain ⟨k, o1, a1, c1, n1, acc, hk, rfl, rfl, ho0, ho1, rfl, hrel⟩ := hrel
      by_cases hlt : k < N
      · have hbd := rd_bounds HR.out.2.1 o1
        have HC := Lib.hid (HRD.out o1 ho0 ho1 wr hrel.out.2.1)
        unfold RdE at HC
        obtain ⟨V, hV⟩ : ∃ V, V = rdN l o1 := ⟨_, rfl⟩
        obtain ⟨E, hE⟩ : ∃ E, E = rdE l o1 := ⟨_, rfl⟩
        obtain ⟨b, hbb⟩ : ∃ b, b = rdB l o1 := ⟨_, rfl⟩
        rw [← hV, ← hE, ← hbb] at HC
        rw [← hV, ← hE, ← HR.out.2.2.2.2] at hbd
        obtain ⟨hb0, hb1, hb2, hb3⟩ := hbd
        have HV := Lib.hid (And.intro hV (And.intro hE hbb))
        clear hV hE hbb
        cases b with
        | false =>
          have HX := Lib.hid (hrel.out.2.2.2.none hlt HV.out.2.2.symm)
          go_wp2_with (go_at_call 19; refine HC.out.mono ?_; rintro e w1 ⟨rfl, hb1⟩)
          go_ret3
          exact HNO.out _ (hrel.out.2.1.trans (hb1.mono hrel.out.2.1.size)) (by rw [HD.out]; exact HX.out)
        | true =>
          have HX := Lib.hid (hrel.out.2.2.2.next hlt HV.out.2.2.symm)
          rw [← HV.out.1, ← HV.out.2.1] at HX
          have hn1 : n1 = k := hrel.out.2.2.1.trans hrel.out.2.2.2.1
          subst hn1
          go_wp2_with (first | (go_at_call 19; refine HC.out.mono ?_; rintro e w1 ⟨rfl, hb1⟩) | (at_builtin; refine wpList_append_src _ rfl _ _ 35 rfl w.heap.size 3 i0 (.int .i64 0) 8 Try.underlying35 hi hz0 hz1 hz2 rfl .i64 a1 _ c1 acc rfl hrel.out.2.2.1 (own_alloc (hrel.out.1.below hb1) _) _ _ 1 1 [_] rfl rfl (reads_one _ _ _ _) (by have := hrel.out.2.2.1; simp [maxLen]; omega) (by have := hrel.out.2.2.1; simp; omega) (Nat.le_trans hrel.out.2.1.size (Nat.le_trans hb1.size (by simp))) ?_; intro a2 c2 w2 ho2 hg2))
          have hbl := hrel.out.2.1.trans (hb1.mono hrel.out.2.1.size)
          have hbl2 := below_alloc hbl (.cells #[.int .i64 V] 3) (Nat.le_refl _)
          have hbl3 := hbl2.trans (below_own (own_alloc (hrel.out.1.below hb1) _) hg2 hbl2.size)
          have hacc : acc.length = n1 := hrel.out.2.2.1.symm
          have HH := Lib.hid (And.intro ho2 (And.intro hbl3 hacc))
          rw [hacc]
          clear ho2 hg2 hbl hbl2 hbl3 hb1 hacc
          go_roundw
          case rel => exact ⟨n1 + 1, E, a2, c2, n1 + 1, _, by omega, by go_num, rfl, by omega, by omega, rfl, And.intro HH.out.1 (And.intro HH.out.2.1 (And.intro (by simp [HH.out.2.2]) HX.out))⟩
          case measure => simp [intOf]; omega
      · obtain rfl : k = N := by omega
        have HX := Lib.hid (hrel.out.2.2.2.done)
        go_wp2
        go_ret3
        obtain ⟨h1, h2, h3⟩ := dc_some (HD.out.trans HX.out)
        rw [h1, h2, h3]
        exact GaveT.mk hrel.out.2.2.1 rfl rfl hrel.out.1 hrel.out.2.1
  · have HF := Lib.hid (show dcO l off count = none by
      unfold dcO
      rw [if_neg]
      rintro ⟨x1, x2⟩
      exact hboth ⟨hb1.symm.trans x1, hb2.symm.trans (by rw [hn]; exact x2)⟩)
    clear hr hb hc hl hn hb1 hb2
    cases b1 with
    | false =>
      clear hboth
      go_enter Try.func38, Try.ntmps38
      go_wp2_with (first | (go_at_call 55; ((with_reducible refine (H1.out _).mono ?_); rintro e w' ⟨rfl, rfl⟩)))
      go_ret3
      exact HNO.out _ (Below.refl _ _) HF.out
    | true =>
      obtain rfl : b2 = false := by cases b2 with | false => rfl | true => exact absurd ⟨rfl, rfl⟩ hboth
      clear hboth
      go_enter Try.func38, Try.ntmps38
      go_wp2_with (first | (go_at_call 55; ((with_reducible refine (H1.out _).mono ?_); rintro e w' ⟨rfl, rfl⟩)) | (go_at_call 55; ((with_reducible refine (H2.out _).mono ?_); rintro e w' ⟨rfl, rfl⟩)))
      go_ret3
      exact HNO.out _ (Below.refl _ _) HF.out

/-! ### equality -/
theorem run_bytes_string (T E D : TypeId) (hs : Try.prog.underlying T = some (.slice E)) (he : Try.prog.underlying E = some (.int .u8)) (hd : Try.prog.underlying D = some .string) (a : Option Addr) (c : Nat) (l : List Int) (w : World) (B : Nat) (hr : Reads w B a (ints .u8 l)) :
    (convert T D (.slice a l.length c)).run Try.prog w = .ok (.string (strOfNums l)) w := by
  rcases a with _ | ad
  · have hl : l = [] := by
      rcases l with _ | ⟨x, l⟩
      · rfl
      · obtain ⟨ad, h, _⟩ := hr 0 (by simp [ints])
        cases h
    subst hl
    rw [run_convert_bytes_nil w T E hs he _ _ D hd]
    rfl
  · have hl : (loadCells ad l.length).run Try.prog w = .ok (l.map (Value.int .u8)).toArray w := by
      have := run_loadCells_list (P := Try.prog) w ad (l.map (Value.int .u8)) (fun j v hj => by
        have hjl := (List.getElem?_eq_some_iff.1 hj).1
        obtain ⟨ad', h, _, hc⟩ := hr j hjl
        injection h with h
        subst h
        rw [hc, ← hj, List.getElem?_eq_getElem hjl]
        rfl)
      simpa using this
    rw [run_convert_bytes_string w T D E _ l.length c hs he hd, run_bytesToString w _ l.length c l hl, foldl_push_bytes]
    simp [strOfNums, ByteArray.empty, ByteArray.emptyWithCapacity]
    rfl
theorem bytes_inj : ∀ (l m : List Int), Byt l → Byt m → (l.map fun n => UInt8.ofNat n.toNat) = (m.map fun n => UInt8.ofNat n.toNat) → l = m
  | [], [], _, _, _ => rfl
  | [], y :: m, _, _, h => by simp at h
  | x :: l, [], _, _, h => by simp at h
  | x :: l, y :: m, hl, hm, h => by
    simp only [List.map_cons, List.cons.injEq] at h
    have h1 := hl x (by simp)
    have h2 := hm y (by simp)
    have h3 := congrArg UInt8.toNat h.1
    simp only [UInt8.toNat_ofNat'] at h3
    rw [bytes_inj l m (fun z hz => hl z (by simp [hz])) (fun z hz => hm z (by simp [hz])) h.2]
    congr 1
    omega
theorem str_eq (l m : List Int) (hl : Byt l) (hm : Byt m) : ((strOfNums l).toList == (strOfNums m).toList) = eqB l m := by
  rw [ByteArray.toList_eq, ByteArray.toList_eq, strOfNums_data, strOfNums_data]
  unfold eqB
  rw [Bool.eq_iff_iff, beq_iff_eq, decide_eq_true_iff]
  exact ⟨bytes_inj l m hl hm, fun h => by rw [h]⟩

theorem specEqualBytes_any (a a2 : Option Addr) (c c2 : Nat) (l m : List Int) (w : World) (B : Nat) (hr : Reads w B a (ints .u8 l)) (hr2 : Reads w B a2 (ints .u8 m)) (hb : Byt l) (hb2 : Byt m) :
    Calls Try.prog 40 #[.slice a l.length c, .slice a2 m.length c2] w fun e w' => e = .returned (.bool (eqB l m)) ∧ Drew w w' := by
  have k1 := run_bytes_string 22 5 9 Try.underlying22 Try.underlying5 Try.underlying9 a c l w B hr
  have k2 := run_bytes_string 22 5 9 Try.underlying22 Try.underlying5 Try.underlying9 a2 c2 m w B hr2
  have k3 := str_eq l m hb hb2
  obtain ⟨s1, hs1⟩ : ∃ s, s = strOfNums l := ⟨_, rfl⟩
  obtain ⟨s2, hs2⟩ : ∃ s, s = strOfNums m := ⟨_, rfl⟩
  obtain ⟨n1, hn1⟩ : ∃ n, n = l.length := ⟨_, rfl⟩
  obtain ⟨n2, hn2⟩ : ∃ n, n = m.length := ⟨_, rfl⟩
  obtain ⟨b, hbb⟩ : ∃ b, b = eqB l m := ⟨_, rfl⟩
  rw [← hs1, ← hn1] at k1
  rw [← hs2, ← hn2] at k2
  rw [← hs1, ← hs2, ← hbb] at k3
  rw [← hn1, ← hn2, ← hbb]
  clear hs1 hs2 hn1 hn2 hbb hr hr2 hb hb2
  go_enter Try.func40, Try.ntmps40
  go_wp2
  go_ret
  exact ⟨rfl, Drew.refl w⟩
theorem bytesEqual_any (a a2 : Option Addr) (c c2 : Nat) (l m : List Int) (w : World) (B : Nat) (hr : Reads w B a (ints .u8 l)) (hr2 : Reads w B a2 (ints .u8 m)) (hb : Byt l) (hb2 : Byt m) :
    Calls Try.prog 56 #[.slice a l.length c, .slice a2 m.length c2] w fun e w' => e = .returned (.bool (eqB l m)) ∧ Drew w w' := by
  have k1 := run_bytes_string 22 5 9 Try.underlying22 Try.underlying5 Try.underlying9 a c l w B hr
  have k2 := run_bytes_string 22 5 9 Try.underlying22 Try.underlying5 Try.underlying9 a2 c2 m w B hr2
  have k3 := str_eq l m hb hb2
  obtain ⟨s1, hs1⟩ : ∃ s, s = strOfNums l := ⟨_, rfl⟩
  obtain ⟨s2, hs2⟩ : ∃ s, s = strOfNums m := ⟨_, rfl⟩
  obtain ⟨n1, hn1⟩ : ∃ n, n = l.length := ⟨_, rfl⟩
  obtain ⟨n2, hn2⟩ : ∃ n, n = m.length := ⟨_, rfl⟩
  obtain ⟨b, hbb⟩ : ∃ b, b = eqB l m := ⟨_, rfl⟩
  rw [← hs1, ← hn1] at k1
  rw [← hs2, ← hn2] at k2
  rw [← hs1, ← hs2, ← hbb] at k3
  rw [← hn1, ← hn2, ← hbb]
  clear hs1 hs2 hn1 hn2 hbb hr hr2 hb hb2
  go_enter Try.func56, Try.ntmps56
  go_wp2
  go_ret
  exact ⟨rfl, Drew.refl w⟩
theorem implEqualBytes_any (a a2 : Option Addr) (c c2 : Nat) (l m : List Int) (w : World) (B : Nat) (hr : Reads w B a (ints .u8 l)) (hr2 : Reads w B a2 (ints .u8 m)) (hb : Byt l) (hb2 : Byt m) :
    Calls Try.prog 41 #[.slice a l.length c, .slice a2 m.length c2] w fun e w' => e = .returned (.bool (eqB l m)) ∧ Drew w w' := by
  have H := Lib.hid (bytesEqual_any a a2 c c2 l m w B hr hr2 hb hb2)
  clear hr hr2 hb hb2
  go_enter Try.func41, Try.ntmps41
  go_wp2_with (go_at_call 56; refine H.out.mono ?_; rintro e w1 ⟨rfl, hd⟩)
  go_ret
  exact ⟨rfl, hd⟩
theorem implEqualInts_any (a a2 : Option Addr) (c c2 : Nat) (l m : List Int) (w : World) (B : Nat) (hr : Reads w B a (ints .i64 l)) (hr2 : Reads w B a2 (ints .i64 m)) (hl : l.length ≤ 4611686018427387904) (hm : m.length ≤ 4611686018427387904) :
    Calls Try.prog 43 #[.slice a l.length c, .slice a2 m.length c2] w fun e w' => e = .returned (.bool (eqB l m)) ∧ Drew w w' := by
  have H := Lib.hid (slicesEqual_any a a2 c c2 l m w B hr hr2 hl hm)
  clear hr hr2 hl hm
  go_enter Try.func43, Try.ntmps43
  go_wp2_with (go_at_call 57; refine H.out.mono ?_; rintro e w1 ⟨rfl, hd⟩)
  go_ret
  exact ⟨rfl, hd⟩
end Go.Proofs.Ytakdfcpecgjbmaa.L2
