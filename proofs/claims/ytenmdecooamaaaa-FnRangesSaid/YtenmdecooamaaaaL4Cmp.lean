/-
  The contracts of chapter 4's comparisons of the specification: l4Sign, CompareKeys, CompareBytes, InRangeOf. Conditions: texts of at most 2^48 bytes.
-/
import Derived.Test.YtenmdecooamaaaaL4Sp
namespace Go.Proofs.Ytenmdecooamaaaa.L4
open Go.Op (bytesLess)
open Go.ChangeShapes Go.WideShapes Go.ChangeAt Go.RowKit Mem Sl Ex L2
set_option linter.unusedVariables false

theorem l4Sign_any (a b : Bool) (w : World) :
    Calls Try.prog 48 #[.bool a, .bool b] w fun e w' => e = .returned (.int .i64 (sgn a b)) ∧ w = w' := by
  cases a <;> cases b <;>
    (go_enter Try.func48, Try.ntmps48
     go_wp2
     go_ret
     exact ⟨rfl, rfl⟩)

/-- A boxed key stands in world w. -/
def Box (w : World) (g : Nat) (t : TypeId) (k : K) : Prop := Row w g t k.cells
theorem Box.facts {w : World} {g : Nat} {t : TypeId} {kd n : Int} {s : ByteArray} (h : Box w g t ⟨kd, n, s⟩) : w.cell? ⟨g, 0, none⟩ = some (.int .i64 kd) ∧ w.cell? ⟨g, 1, none⟩ = some (.int .i64 n) ∧ w.cell? ⟨g, 2, none⟩ = some (.string s) := by
  have h' : Row w g t #[.int .i64 kd, .int .i64 n, .string s] := h
  have c0 := h'.cell 0
  have c1 := h'.cell 1
  have c2 := h'.cell 2
  simp at c0 c1 c2
  exact ⟨c0, c1, c2⟩
theorem Box.below {w w' : World} {g : Nat} {t : TypeId} {k : K} (h : Box w g t k) (hb : Below w.heap.size w w') : Box w' g t k := Row.below h hb (Row.inside h)
theorem Box.made (w : World) (t : TypeId) (k : K) : Box (w.alloc (.cells k.cells t)) w.heap.size t k := Row.made w t k.cells
theorem Box.more {w : World} {g : Nat} {t : TypeId} {k : K} (h : Box w g t k) (o : Obj) : Box (w.alloc o) g t k := Row.more h o

theorem string_gtr (t : TypeId) (a b : ByteArray) : binOp .gtr t (.string a) (.string b) = pure (.bool (!(bytesLess a.toList b.toList) && !(a.toList == b.toList))) := by simp [binOp, Op.stringOp]
theorem cmpK_bad1 {a b : K} (h : isK a = false) : cmpK a b = 0 := by simp [cmpK, h]
theorem cmpK_bad2 {a b : K} (h : isK b = false) : cmpK a b = 0 := by simp [cmpK, h]
theorem cmpK_kind {a b : K} (ha : isK a = true) (hb : isK b = true) (h : ¬ a.kind = b.kind) : cmpK a b = sgn (decide (a.kind < b.kind)) true := by simp [cmpK, ha, hb, h]
theorem cmpK_n {a b : K} (ha : isK a = true) (hb : isK b = true) (h : a.kind = b.kind) (h2 : ¬ a.n = b.n) : cmpK a b = sgn (decide (a.n < b.n)) true := by simp [cmpK, ha, hb, h, h2]
theorem cmpK_t {a b : K} (ha : isK a = true) (hb : isK b = true) (h : a.kind = b.kind) (h2 : a.n = b.n) : cmpK a b = sgn (bytesLess a.text.toList b.text.toList) (!(bytesLess a.text.toList b.text.toList) && !(a.text.toList == b.text.toList)) := by
  rw [ByteArray.toList_eq, ByteArray.toList_eq]
  simp [cmpK, ha, hb, h, h2, cmpL, K.t]
set_option maxHeartbeats 2000000 in
theorem specCompareKeys_any (a b : K) (ha : a.text.size ≤ 281474976710656) (hb : b.text.size ≤ 281474976710656) (w : World) :
    Calls Try.prog 22 #[a.v, b.v] w fun e w' => e = .returned (.int .i64 (cmpK a b)) ∧ Below w.heap.size w w' := by
  obtain ⟨w2, hw2⟩ : ∃ w2, w2 = (w.alloc (.cells a.cells 25)).alloc (.cells b.cells 25) := ⟨_, rfl⟩
  have ba : Box w2 w.heap.size 25 a := by rw [hw2]; exact (Box.made w _ a).more _
  have bb : Box w2 (w.heap.size + 1) 25 b := by
    rw [hw2, show w.heap.size + 1 = (w.alloc (.cells a.cells 25)).heap.size by simp]
    exact Box.made _ _ b
  have hbl : Below w.heap.size w w2 := by rw [hw2]; exact below_alloc (below_alloc (Below.refl _ _) _ (Nat.le_refl _)) _ (Nat.le_refl _)
  obtain ⟨ka, na, sa⟩ := a
  obtain ⟨kb, nb, sb⟩ := b
  have H1 := Lib.hid (fun w => specIsKey_any ⟨ka, na, sa⟩ ha w)
  have H2 := Lib.hid (fun w => specIsKey_any ⟨kb, nb, sb⟩ hb w)
  obtain ⟨ia, hia⟩ : ∃ x, isK ⟨ka, na, sa⟩ = x := ⟨_, rfl⟩
  obtain ⟨ib, hib⟩ : ∃ x, isK ⟨kb, nb, sb⟩ = x := ⟨_, rfl⟩
  rw [hia] at H1
  rw [hib] at H2
  have HS := Lib.hid l4Sign_any
  unfold K.v at H1 H2 ⊢
  unfold K.cells at hw2
  obtain ⟨a0, a1, a2⟩ := ba.facts
  obtain ⟨b0, b1, b2⟩ := bb.facts
  have BA := Lib.hid (And.intro ba (And.intro bb hbl))
  go_enter Try.func22, Try.ntmps22
  go_wp2_with fail
  go_at_call 16
  rw [← hw2]
  clear hw2 a0 a1 a2 b0 b1 b2 ba bb hbl
  refine (H1.out w2).mono ?_
  rintro e w3 ⟨rfl, h3⟩
  have BA3 := Lib.hid (And.intro (BA.out.1.below h3) (And.intro (BA.out.2.1.below h3) (BA.out.2.2.trans (h3.mono BA.out.2.2.size))))
  clear h3
  cases ia with
  | false =>
    go_wp2_with fail
    go_ret
    exact ⟨by rw [cmpK_bad1 hia]; rfl, BA3.out.2.2⟩
  | true =>
    obtain ⟨b0, b1, b2⟩ := BA3.out.2.1.facts
    go_wp2_with fail
    go_at_call 16
    refine (H2.out w3).mono ?_
    rintro e w4 ⟨rfl, h4⟩
    have BA4 := Lib.hid (And.intro (BA3.out.1.below h4) (And.intro (BA3.out.2.1.below h4) (BA3.out.2.2.trans (h4.mono BA3.out.2.2.size))))
    clear h4 b0 b1 b2
    cases ib with
    | false =>
      go_wp2_with fail
      go_ret
      exact ⟨by rw [cmpK_bad2 hib]; rfl, BA4.out.2.2⟩
    | true =>
      obtain ⟨a0, a1, a2⟩ := BA4.out.1.facts
      obtain ⟨b0, b1, b2⟩ := BA4.out.2.1.facts
      by_cases hk : ka = kb
      · by_cases hn : na = nb
        · have HE := Lib.hid (cmpK_t hia hib hk hn)
          subst hk
          subst hn
          have hgt := string_gtr
          go_wp2_with fail
          go_at_call 48
          refine (HS.out _ _ _).mono ?_
          rintro e w5 ⟨rfl, rfl⟩
          go_wp2_with fail
          go_ret
          exact ⟨by rw [HE.out]; rfl, BA4.out.2.2⟩
        · have HE := Lib.hid (cmpK_n hia hib hk hn)
          subst hk
          go_wp2_with fail
          go_at_call 48
          refine (HS.out _ _ _).mono ?_
          rintro e w5 ⟨rfl, rfl⟩
          go_wp2_with fail
          go_ret
          exact ⟨by rw [HE.out]; rfl, BA4.out.2.2⟩
      · have HE := Lib.hid (cmpK_kind hia hib hk)
        go_wp2_with fail
        go_at_call 48
        refine (HS.out _ _ _).mono ?_
        rintro e w5 ⟨rfl, rfl⟩
        go_wp2_with fail
        go_ret
        exact ⟨by rw [HE.out]; rfl, BA4.out.2.2⟩

def toU (l : List Int) : List UInt8 := l.map fun n => UInt8.ofNat n.toNat
theorem strOf_toList (l : List Int) : (strOfNums l).toList = toU l := by rw [ByteArray.toList_eq, strOfNums_data]; rfl
theorem specCompareBytes_any (a a2 : Option Addr) (c c2 : Nat) (l m : List Int) (w : World) (B : Nat) (hr : Reads w B a (ints .u8 l)) (hr2 : Reads w B a2 (ints .u8 m)) :
    Calls Try.prog 31 #[.slice a l.length c, .slice a2 m.length c2] w fun e w' => e = .returned (.int .i64 (cmpL (toU l) (toU m))) ∧ Drew w w' := by
  have k1 := run_bytes_string 22 5 9 Try.underlying22 Try.underlying5 Try.underlying9 a c l w B hr
  have k2 := run_bytes_string 22 5 9 Try.underlying22 Try.underlying5 Try.underlying9 a2 c2 m w B hr2
  have HE := Lib.hid (show cmpL (toU l) (toU m) = sgn (bytesLess (strOfNums l).toList (strOfNums m).toList) (!(bytesLess (strOfNums l).toList (strOfNums m).toList) && !((strOfNums l).toList == (strOfNums m).toList)) by rw [strOf_toList, strOf_toList]; simp [cmpL])
  obtain ⟨s1, hs1⟩ : ∃ s, s = strOfNums l := ⟨_, rfl⟩
  obtain ⟨s2, hs2⟩ : ∃ s, s = strOfNums m := ⟨_, rfl⟩
  obtain ⟨n1, hn1⟩ : ∃ n, n = l.length := ⟨_, rfl⟩
  obtain ⟨n2, hn2⟩ : ∃ n, n = m.length := ⟨_, rfl⟩
  rw [← hs1, ← hn1] at k1
  rw [← hs2, ← hn2] at k2
  rw [← hs1, ← hs2] at HE
  rw [← hn1, ← hn2, HE.out]
  have HS := Lib.hid l4Sign_any
  have hgt := string_gtr
  clear hs1 hs2 hn1 hn2 hr hr2 HE
  go_enter Try.func31, Try.ntmps31
  go_wp2_with fail
  go_at_call 48
  refine (HS.out _ _ _).mono ?_
  rintro e w5 ⟨rfl, rfl⟩
  go_wp2_with fail
  go_ret
  exact ⟨rfl, Drew.refl w⟩

/-! ### ranges -/
structure R where
  hl : Bool
  hh : Bool
  lo : K
  hi : K
def R.v (r : R) : Value := .agg #[.bool r.hl, .bool r.hh, .int .i64 r.lo.kind, .int .i64 r.lo.n, .string r.lo.text, .int .i64 r.hi.kind, .int .i64 r.hi.n, .string r.hi.text]
def R.cells (r : R) : Array Value := #[.bool r.hl, .bool r.hh, .int .i64 r.lo.kind, .int .i64 r.lo.n, .string r.lo.text, .int .i64 r.hi.kind, .int .i64 r.hi.n, .string r.hi.text]
def inR (k : K) (r : R) : Bool := isK k && ((!r.hl || isK r.lo) && ((!r.hh || isK r.hi) && ((!r.hl || decide (cmpK r.lo k ≤ 0)) && (!r.hh || decide (cmpK k r.hi ≤ 0)))))
/-- A key and a range stand boxed, and below w nothing has turned. -/
structure St (w wr : World) (kt rt : TypeId) (k : K) (r : R) : Prop where
  k : Row wr w.heap.size kt k.cells
  r : Row wr (w.heap.size + 1) rt r.cells
  b : Below w.heap.size w wr
theorem St.next {w wr w' : World} {kt rt : TypeId} {k : K} {r : R} (h : Hid (St w wr kt rt k r)) (hb : Below wr.heap.size wr w') : Hid (St w w' kt rt k r) :=
  ⟨h.out.k.below hb h.out.k.inside, h.out.r.below hb h.out.r.inside, h.out.b.trans (hb.mono h.out.b.size)⟩
theorem St.facts {w wr : World} {kt rt : TypeId} {kd n : Int} {s : ByteArray} {hl hh : Bool} {ka na : Int} {sa : ByteArray} {kb nb : Int} {sb : ByteArray} (h : Hid (St w wr kt rt ⟨kd, n, s⟩ ⟨hl, hh, ⟨ka, na, sa⟩, ⟨kb, nb, sb⟩⟩)) :
    (wr.cell? ⟨w.heap.size, 0, none⟩ = some (.int .i64 kd) ∧ wr.cell? ⟨w.heap.size, 1, none⟩ = some (.int .i64 n) ∧ wr.cell? ⟨w.heap.size, 2, none⟩ = some (.string s)) ∧
    wr.cell? ⟨w.heap.size + 1, 0, none⟩ = some (.bool hl) ∧ wr.cell? ⟨w.heap.size + 1, 1, none⟩ = some (.bool hh) ∧ wr.cell? ⟨w.heap.size + 1, 2, none⟩ = some (.int .i64 ka) ∧ wr.cell? ⟨w.heap.size + 1, 3, none⟩ = some (.int .i64 na) ∧ wr.cell? ⟨w.heap.size + 1, 4, none⟩ = some (.string sa) ∧ wr.cell? ⟨w.heap.size + 1, 5, none⟩ = some (.int .i64 kb) ∧ wr.cell? ⟨w.heap.size + 1, 6, none⟩ = some (.int .i64 nb) ∧ wr.cell? ⟨w.heap.size + 1, 7, none⟩ = some (.string sb) := by
  have h1 : Row wr w.heap.size kt #[.int .i64 kd, .int .i64 n, .string s] := h.out.k
  have h2 : Row wr (w.heap.size + 1) rt #[.bool hl, .bool hh, .int .i64 ka, .int .i64 na, .string sa, .int .i64 kb, .int .i64 nb, .string sb] := h.out.r
  refine ⟨⟨?_, ?_, ?_⟩, ?_, ?_, ?_, ?_, ?_, ?_, ?_, ?_⟩
  all_goals first | (rw [h1.cell]; rfl) | (rw [h2.cell]; rfl)

set_option maxHeartbeats 2000000 in
theorem specInRangeOf_any (k : K) (r : R) (h0 : k.text.size ≤ 281474976710656) (h1 : r.lo.text.size ≤ 281474976710656) (h2 : r.hi.text.size ≤ 281474976710656) (w : World) :
    Calls Try.prog 15 #[k.v, r.v] w fun e w' => e = .returned (.bool (inR k r)) ∧ Below w.heap.size w w' := by
  obtain ⟨w2, hw2⟩ : ∃ w2, w2 = (w.alloc (.cells k.cells 25)).alloc (.cells r.cells 27) := ⟨_, rfl⟩
  have st0 : Hid (St w w2 25 27 k r) := by
    rw [hw2]
    refine ⟨(Row.made w _ _).more _, ?_, below_alloc (below_alloc (Below.refl _ _) _ (Nat.le_refl _)) _ (Nat.le_refl _)⟩
    rw [show w.heap.size + 1 = (w.alloc (.cells k.cells 25)).heap.size by simp]
    exact Row.made _ _ _
  have HK := Lib.hid (fun w => specIsKey_any k h0 w)
  have HL := Lib.hid (fun w => specIsKey_any r.lo h1 w)
  have HH := Lib.hid (fun w => specIsKey_any r.hi h2 w)
  have HCL := Lib.hid (fun w => specCompareKeys_any r.lo k h1 h0 w)
  have HCH := Lib.hid (fun w => specCompareKeys_any k r.hi h0 h2 w)
  obtain ⟨ik, hik⟩ : ∃ x, isK k = x := ⟨_, rfl⟩
  obtain ⟨il, hil⟩ : ∃ x, isK r.lo = x := ⟨_, rfl⟩
  obtain ⟨ih, hih⟩ : ∃ x, isK r.hi = x := ⟨_, rfl⟩
  obtain ⟨cl, hcl⟩ : ∃ x, cmpK r.lo k = x := ⟨_, rfl⟩
  obtain ⟨ch, hch⟩ : ∃ x, cmpK k r.hi = x := ⟨_, rfl⟩
  have HE := show inR k r = (ik && ((!r.hl || il) && ((!r.hh || ih) && ((!r.hl || decide (cl ≤ 0)) && (!r.hh || decide (ch ≤ 0)))))) by unfold inR; rw [hik, hil, hih, hcl, hch]
  rw [HE]
  rw [hik] at HK
  rw [hil] at HL
  rw [hih] at HH
  rw [hcl] at HCL
  rw [hch] at HCH
  clear HE hik hil hih hcl hch
  obtain ⟨kd, n, s⟩ := k
  obtain ⟨hl, hh, ⟨ka, na, sa⟩, ⟨kb, nb, sb⟩⟩ := r
  obtain ⟨dl, hdl⟩ : ∃ b, decide (cl ≤ 0) = b := ⟨_, rfl⟩
  obtain ⟨dh, hdh⟩ : ∃ b, decide (ch ≤ 0) = b := ⟨_, rfl⟩
  rw [hdl, hdh]
  simp only [K.v, R.v, K.cells, R.cells] at HK HL HH HCL HCH hw2 ⊢
  clear h0 h1 h2
  rcases (show ik = false ∨ (ik = true ∧ hl = true ∧ il = false) ∨ (ik = true ∧ hl = true ∧ il = true ∧ hh = true ∧ ih = false) ∨ (ik = true ∧ hl = false ∧ hh = true ∧ ih = false) ∨ (ik = true ∧ hl = true ∧ il = true ∧ hh = true ∧ ih = true ∧ dl = false) ∨ (ik = true ∧ hl = true ∧ il = true ∧ hh = true ∧ ih = true ∧ dl = true) ∨ (ik = true ∧ hl = true ∧ il = true ∧ hh = false ∧ dl = false) ∨ (ik = true ∧ hl = true ∧ il = true ∧ hh = false ∧ dl = true) ∨ (ik = true ∧ hl = false ∧ hh = true ∧ ih = true) ∨ (ik = true ∧ hl = false ∧ hh = false) by
    cases ik <;> cases hl <;> cases il <;> cases hh <;> cases ih <;> cases dl <;> simp) with rfl | ⟨rfl, rfl, rfl⟩ | ⟨rfl, rfl, rfl, rfl, rfl⟩ | ⟨rfl, rfl, rfl, rfl⟩ | ⟨rfl, rfl, rfl, rfl, rfl, rfl⟩ | ⟨rfl, rfl, rfl, rfl, rfl, rfl⟩ | ⟨rfl, rfl, rfl, rfl, rfl⟩ | ⟨rfl, rfl, rfl, rfl, rfl⟩ | ⟨rfl, rfl, rfl, rfl⟩ | ⟨rfl, rfl, rfl⟩
  all_goals
    go_enter Try.func15, Try.ntmps15
    go_wp2_with fail
    go_at_call 16
    rw [← hw2]
    clear hw2
    with_reducible refine (HK.out w2).mono ?_
    rintro e w3 ⟨rfl, hb⟩
    have st := St.next st0 hb
    clear hb
    obtain ⟨⟨x0, x1, x2⟩, y0, y1, y2, y3, y4, y5, y6, y7⟩ := St.facts st
    go_wp2_with (first
      | (go_at_call 16; with_reducible refine (HL.out _).mono ?_; rintro e wn ⟨rfl, hb⟩; have st := St.next (by assumption) hb; clear hb; obtain ⟨⟨x0, x1, x2⟩, y0, y1, y2, y3, y4, y5, y6, y7⟩ := St.facts st)
      | (go_at_call 16; with_reducible refine (HH.out _).mono ?_; rintro e wn ⟨rfl, hb⟩; have st := St.next (by assumption) hb; clear hb; obtain ⟨⟨x0, x1, x2⟩, y0, y1, y2, y3, y4, y5, y6, y7⟩ := St.facts st)
      | (go_at_call 22; with_reducible refine (HCL.out _).mono ?_; rintro e wn ⟨rfl, hb⟩; have st := St.next (by assumption) hb; clear hb; obtain ⟨⟨x0, x1, x2⟩, y0, y1, y2, y3, y4, y5, y6, y7⟩ := St.facts st)
      | (go_at_call 22; with_reducible refine (HCH.out _).mono ?_; rintro e wn ⟨rfl, hb⟩; have st := St.next (by assumption) hb; clear hb; obtain ⟨⟨x0, x1, x2⟩, y0, y1, y2, y3, y4, y5, y6, y7⟩ := St.facts st))
    go_ret
    exact ⟨rfl, st.out.b⟩
end Go.Proofs.Ytenmdecooamaaaa.L4
