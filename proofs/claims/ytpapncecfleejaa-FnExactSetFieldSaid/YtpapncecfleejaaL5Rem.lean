/-
  The contract of chapter 5's RemoveField of the specification. Conditions: names of at most 2^48 bytes, a record of at most 2^40 fields.
-/
import Derived.Test.YtpapncecfleejaaL5Rec
import Derived.Test.YtpapncecfleejaaL5Eq
import Derived.Deep.RegionLaw
namespace Go.Proofs.Ytpapncecfleejaa.L5
set_option maxRecDepth 100000
open Go.ChangeShapes Go.WideShapes Go.ChangeAt Go.RowKit Mem Sl Ex L2 Sv
set_option linter.unusedVariables false

theorem fieldInfo : ∃ i, Try.prog.info? 68 = some i ∧ i.zero = some (.agg #[.string ⟨#[]⟩, .int .i64 0]) ∧ i.size = 2 ∧ i.bytes = 24 := by
  have h := infoField
  rw [Option.map_eq_some_iff] at h
  obtain ⟨i, h1, h2⟩ := h
  simp only [Prod.mk.injEq] at h2
  exact ⟨i, h1, h2⟩
/-- What a maker of a record and a Boolean leaves. -/
def GaveRB (w : World) (q : List F) (b : Bool) (e : Ending) (w' : World) : Prop :=
  ∃ a' c', e = .returned (.tuple #[.agg #[.slice a' q.length c'], .bool b]) ∧ OwnV w' w.heap.size 68 2 a' c' q.length (cellsF q) ∧ Below w.heap.size w w'
/-- Three boxes (the argument, the result, a variable) and the variable's own slice. -/
structure Tri5 (w wr : World) (sl : Value) (a1 : Option Addr) (c1 m : Nat) (q : List F) : Prop where
  r : Row wr w.heap.size 26 #[sl]
  z : Row wr (w.heap.size + 1) 26 #[.slice none 0 0]
  o : Row wr (w.heap.size + 1 + 1) 26 #[.slice a1 m c1]
  own : OwnV wr (w.heap.size + 1 + 1 + 1) 68 2 a1 c1 m (cellsF q)
  b : Below w.heap.size w wr
theorem Row.one {w : World} {g : Nat} {t : TypeId} {x : Value} (h : Row w g t #[x]) : w.cell? ⟨g, 0, none⟩ = some x ∧ w.frozen? ⟨g, 0, none⟩ = false := ⟨by rw [h.cell]; rfl, h.free 0⟩
theorem Tri5.size {w wr : World} {sl : Value} {a1 : Option Addr} {c1 m : Nat} {q : List F} (h : Tri5 w wr sl a1 c1 m q) : w.heap.size + 1 + 1 + 1 ≤ wr.heap.size := by
  have := Row.inside h.o
  omega
theorem Tri5.next {w wr w' : World} {sl : Value} {a1 : Option Addr} {c1 m : Nat} {q : List F} (h : Tri5 w wr sl a1 c1 m q) (hb : Below wr.heap.size wr w') : Tri5 w w' sl a1 c1 m q :=
  ⟨h.r.below hb h.r.inside, h.z.below hb h.z.inside, h.o.below hb h.o.inside, h.own.below hb, h.b.trans (hb.mono h.b.size)⟩
/-- The variable is appended to. -/
theorem Tri5.grow {w wr w1 w2 : World} {sl : Value} {a1 a2 : Option Addr} {c1 c2 m m2 : Nat} {q q2 : List F} (h : Tri5 w wr sl a1 c1 m q) (hb : Below wr.heap.size wr w1) (hg : w1.grownBy w2 (Value.slice a1 m c1).ownBlock)
    (ho : OwnV w2 (w.heap.size + 1 + 1 + 1) 68 2 a2 c2 m2 (cellsF q2)) : Tri5 w (w2.setCell ⟨w.heap.size + 1 + 1, 0, none⟩ (.slice a2 m2 c2)) sl a2 c2 m2 q2 := by
  have h1 := h.next hb
  have hB : Below (w.heap.size + 1 + 1 + 1) w1 w2 := below_rows h1.own hg h1.size
  have r := h1.r.below hB (by omega)
  have z := h1.z.below hB (by omega)
  have o := h1.o.below hB (by omega)
  refine ⟨(Below.heap_setCell w2 ⟨w.heap.size + 1 + 1, 0, none⟩ _ _ (by show w.heap.size ≠ w.heap.size + 1 + 1; omega)).trans r, (Below.heap_setCell w2 ⟨w.heap.size + 1 + 1, 0, none⟩ _ _ (by show w.heap.size + 1 ≠ w.heap.size + 1 + 1; omega)).trans z, Row.put o 0 _, ho.far _ 0 _ (by omega), ?_⟩
  exact ((h1.b.trans (hB.mono (by omega))).setCell (p := ⟨w.heap.size + 1 + 1, 0, none⟩) (by show w.heap.size ≤ w.heap.size + 1 + 1; omega) _)
theorem Tri5.start (w : World) (sl : Value) : Tri5 w (((w.alloc (.cells #[sl] 26)).alloc (.cells #[.slice none 0 0] 26)).alloc (.cells #[.slice none 0 0] 26)) sl none 0 0 [] :=
  ⟨((Row.made w _ _).more _).more _, (Row.madeAt _ _ _ _ (by simp)).more _, Row.madeAt _ _ _ _ (by simp), OwnV.nil _ _ _ _, below_alloc (below_alloc (below_alloc (Below.refl _ _) _ (Nat.le_refl _)) _ (Nat.le_refl _)) _ (Nat.le_refl _)⟩
theorem reads_two (w : World) (t : ByteArray) (m : Int) (g : Nat) (hg : g = w.heap.size) (e : TypeId) : Reads (w.alloc (.cells #[.string t, .int .i64 m] e)) (w.heap.size + 1) (some ⟨g, 0, none⟩) (cellsF [⟨t, m⟩]) := by
  have hr := Row.madeAt w e #[.string t, .int .i64 m] g hg
  intro j hj
  refine ⟨_, rfl, by show g < _; omega, ?_⟩
  rw [Addr.add_lit, hr.cell]
  have hj2 : j < 2 := by simpa using hj
  rcases (show j = 0 ∨ j = 1 by omega) with rfl | rfl <;> rfl

def keepF (s : List UInt8) (f : F) : Bool := f.t != s
def remF (l : List F) (s : List UInt8) : List F := l.filter (keepF s)
theorem remF_take {l : List F} {s : List UInt8} (k : Nat) (hk : k < l.length) : remF (l.take (k + 1)) s = remF (l.take k) s ++ (if keepF s l[k] then [l[k]] else []) := by
  unfold remF
  rw [List.take_succ_eq_append_getElem hk, List.filter_append]
  congr 1
  cases h : keepF s l[k] <;> simp [h]
/-- RemoveField's two results. -/
def remL (l : List F) (s : List UInt8) : List F := if isR l && !((remF l s).length == l.length) then remF l s else l
def remB (l : List F) (s : List UInt8) : Bool := isR l && !((remF l s).length == l.length)
set_option maxHeartbeats 4000000 in
theorem specRemoveField_any (a : Option Addr) (c : Nat) (l : List F) (s : ByteArray) (hl : l.length ≤ 1099511627776) (hsm : Small l) (w : World) (hr : Reads w w.heap.size a (cellsF l)) :
    Calls Try.prog 38 #[.agg #[.slice a l.length c], .string s] w (GaveRB w (remL l s.data.toList) (remB l s.data.toList)) := by
  obtain ⟨i0, hi, hz0, hz1, hz2⟩ := fieldInfo
  have HI := Lib.hid (And.intro hi (And.intro hz0 (And.intro hz1 hz2)))
  have HR := Lib.hid (fun w' (h : Below w.heap.size w w') => hr.below h)
  have HS := Lib.hid (fun w' (h : Below w.heap.size w w') => specIsRecord_any a c l hl hsm w' ((hr.below h).more h.size))
  have HL := Lib.hid (fun w' (h : Below w.heap.size w w') => l5Copy_any a c l hl w' ((hr.below h).more h.size))
  obtain ⟨n, hn⟩ : ∃ n, n = l.length := ⟨_, rfl⟩
  rw [← hn] at hl HS HL ⊢
  have HN := Lib.hid hn
  have hl' : (n : Int) ≤ 1099511627776 := by omega
  clear hn hr hsm
  obtain ⟨W1, hW1⟩ : ∃ u, u = ((w.alloc (.cells #[.slice a n c] 26)).alloc (.cells #[.slice none 0 0] 26)).alloc (.cells #[.slice none 0 0] 26) := ⟨_, rfl⟩
  have T1 : Tri5 w W1 (.slice a n c) none 0 0 [] := by rw [hW1]; exact Tri5.start w _
  have HT1 := Lib.hid T1
  clear T1
  go_enter Try.func38, Try.ntmps38
  go_upto_region 2 with fail
  rw [← hW1]
  clear hW1
  go_wp2
  go_loopw [7] (fun i wr => ∃ k : Nat, k ≤ n ∧ i = .int .i64 k ∧ Hid (∃ a1 c1 m, m = (remF (l.take k) s.data.toList).length ∧ Tri5 w wr (.slice a n c) a1 c1 m (remF (l.take k) s.data.toList))) (fun i _ => n - (intOf i).toNat)
  case atStart => exact ⟨0, Nat.zero_le _, rfl, none, 0, 0, rfl, HT1.out⟩
  case round =>
    obtain ⟨k, hk, rfl, hrel⟩ := hrel
    obtain ⟨a1, c1, m, hm, T⟩ := hrel.out
    have HM := Lib.hid hm
    have HT := Lib.hid T
    have hm' : (m : Int) ≤ 1099511627776 := by
      have h1 : m ≤ (l.take k).length := by rw [hm]; exact List.length_filter_le _ _
      have h2 := HN.out
      simp at h1
      omega
    obtain ⟨r0, r1⟩ := Row.one T.r
    obtain ⟨o0, o1⟩ := Row.one T.o
    clear hm T hrel
    by_cases hlt : (k : Int) < (n : Int)
    · have hkl : k < l.length := by have := HN.out; omega
      obtain ⟨ad, rfl, had, h1, h2⟩ := readsF (HR.out _ HT.out.b) k hkl
      have HF := Lib.hid (remF_take (s := s.data.toList) k hkl)
      obtain ⟨t, ht⟩ : ∃ t, t = l[k].name := ⟨_, rfl⟩
      obtain ⟨x, hx⟩ : ∃ m, m = l[k].n := ⟨_, rfl⟩
      have HK := Lib.hid (show l[k] = ⟨t, x⟩ by rw [ht, hx])
      rw [← ht] at h1
      rw [← hx] at h2
      clear ht hx
      by_cases he : t.data.toList = s.data.toList
      · have heq : (t.toList == s.toList) = true := by rw [ByteArray.toList_eq, ByteArray.toList_eq, he, beq_self_eq_true]
        have HE := Lib.hid (show remF (l.take (k + 1)) s.data.toList = remF (l.take k) s.data.toList by rw [HF.out, HK.out]; unfold keepF F.t; simp [he])
        clear he
        go_wp2_with fail
        go_roundw
        case rel => exact ⟨k + 1, by omega, by go_num, by rw [HE.out]; exact ⟨a1, c1, m, HM.out, HT.out⟩⟩
        case measure => simp [intOf]; omega
      · have heq : (t.toList == s.toList) = false := by rw [ByteArray.toList_eq, ByteArray.toList_eq, beq_eq_false_iff_ne]; exact he
        have HE := Lib.hid (show remF (l.take (k + 1)) s.data.toList = remF (l.take k) s.data.toList ++ [⟨t, x⟩] by rw [HF.out, HK.out]; unfold keepF F.t; simp [he])
        clear he
        have T2 := Lib.hid (HT.out.next (show Below wr.heap.size wr (wr.alloc (.cells #[.string t, .int .i64 x] 68)).drew from ((Below.refl _ _).alloc (Nat.le_refl _) _).drew))
        have R2 := Lib.hid (show Reads (wr.alloc (.cells #[.string t, .int .i64 x] 68)).drew (wr.heap.size + 1) (some ⟨wr.heap.size, 0, none⟩) (cellsF [⟨t, x⟩]) from (reads_two wr t x _ rfl _).keep (fun _ _ => rfl))
        obtain ⟨s0, s1⟩ := Row.one (HT.out.o.more (.cells #[.string t, .int .i64 x] 68))
        go_wp2_with fail
        go_region_law (refine step_append_rows _ rfl _ _ 24 (by rfl) (w.heap.size + 1 + 1 + 1) 68 i0 (.agg #[.string ⟨#[]⟩, .int .i64 0]) 2 24 Try.underlying24 HI.out.1 HI.out.2.1 HI.out.2.2.1 HI.out.2.2.2 rfl (by omega) a1 m m c1 _ (by rfl) rfl T2.out.own (wr.heap.size + 1) (some ⟨wr.heap.size, 0, none⟩) 1 1 1 (cellsF [⟨t, x⟩]) (by rfl) rfl R2.out (by simp) (cellsF_one _) (by unfold maxLen; omega) (by omega) T2.out.size ?_; intro a2 c2 w2 ho2 hg2; have o2 := T2.out.o.below (below_rows T2.out.own hg2 T2.out.size) (by omega); obtain ⟨p0, p1⟩ := Row.one o2)
        all_goals
          have TG := Lib.hid (Tri5.grow (q2 := remF (l.take k) s.data.toList ++ [⟨t, x⟩]) HT.out (show Below wr.heap.size wr (wr.alloc (.cells #[.string t, .int .i64 x] 68)).drew from ((Below.refl _ _).alloc (Nat.le_refl _) _).drew) hg2 (by rw [cellsF_append]; exact ho2))
          clear ho2 hg2 o2 p0 p1
          go_wp2_with fail
          go_roundw
          case rel => exact ⟨k + 1, by omega, by go_num, by rw [HE.out]; exact ⟨a2, c2, m + 1, by rw [List.length_append, ← HM.out]; rfl, TG.out⟩⟩
          case measure => simp [intOf]; omega
    · obtain rfl : k = n := by omega
      have HQ := Lib.hid (show l.take k = l from List.take_of_length_le (by rw [HN.out]; exact Nat.le_refl _))
      obtain ⟨br, hbr⟩ : ∃ b, isR l = b := ⟨_, rfl⟩
      rw [hbr] at HS
      go_wp2_with fail
      go_at_call 32
      refine (HS.out _ HT.out.b).mono ?_
      rintro e w3 ⟨rfl, h3⟩
      have T3 := Lib.hid (HT.out.next h3)
      clear h3 r0 r1 o0 o1
      obtain ⟨r0, r1⟩ := Row.one T3.out.r
      obtain ⟨z0, z1⟩ := Row.one T3.out.z
      obtain ⟨o0, o1⟩ := Row.one T3.out.o
      by_cases hg : br = true ∧ ¬ m = k
      · obtain ⟨rfl, hmk⟩ := hg
        have HE := Lib.hid (show remL l s.data.toList = remF l s.data.toList ∧ remB l s.data.toList = true by
          have h1 := HM.out
          rw [HQ.out] at h1
          have h2 : ((remF l s.data.toList).length == l.length) = false := by rw [← h1, ← HN.out, beq_eq_false_iff_ne]; exact hmk
          unfold remL remB
          rw [hbr, h2]
          exact ⟨rfl, rfl⟩)
        have hmk' : ¬ (m : Int) = (k : Int) := by omega
        go_wp2_with fail
        refine bodyPost_ret (v := .tuple #[.agg #[.slice a1 m c1], .bool true]) (by simp [results, Try.results38, go_sem, z0]) rfl ?_
        have h1 := HM.out
        rw [HQ.out] at h1
        have h2 := T3.out.own
        rw [HQ.out] at h2
        unfold GaveRB
        rw [HE.out.1, HE.out.2, ← h1]
        exact ⟨a1, c1, rfl, (h2.far _ 0 _ (by omega)).base (by omega), T3.out.b.setCell (p := ⟨w.heap.size + 1, 0, none⟩) (by show w.heap.size ≤ w.heap.size + 1; omega) _⟩
      · have HE := Lib.hid (show remL l s.data.toList = l ∧ remB l s.data.toList = false by
          have h1 := HM.out
          rw [HQ.out] at h1
          have h2 : (br && !((remF l s.data.toList).length == l.length)) = false := by
            cases br with
            | false => rfl
            | true =>
              have h3 : m = k := by
                by_cases h : m = k
                · exact h
                · exact absurd ⟨rfl, h⟩ hg
              rw [← h1, ← HN.out, h3]
              simp
          unfold remL remB
          rw [hbr, h2]
          exact ⟨rfl, rfl⟩)
        rcases (show br = false ∨ (br = true ∧ m = k) by
          cases br with
          | false => exact .inl rfl
          | true =>
            refine .inr ⟨rfl, ?_⟩
            by_cases h : m = k
            · exact h
            · exact absurd ⟨rfl, h⟩ hg) with rfl | ⟨rfl, hmk⟩
        · go_wp2_with fail
          go_at_call 53
          refine (HL.out _ T3.out.b).mono ?_
          rintro e w4 ⟨a4, c4, rfl, ho4, hb4⟩
          have T4 := Lib.hid (T3.out.next hb4)
          have HO4 := Lib.hid (ho4.base (Nat.le_trans (by omega : w.heap.size + 1 + 1 + 1 ≤ w.heap.size + 1 + 1 + 1) T3.out.size))
          clear ho4 hb4 r0 r1 z0 z1 o0 o1
          obtain ⟨z0, z1⟩ := Row.one T4.out.z
          go_wp2_with fail
          refine bodyPost_ret (v := .tuple #[.agg #[.slice a4 k c4], .bool false]) (by simp [results, Try.results38, go_sem, z0]) rfl ?_
          unfold GaveRB
          rw [HE.out.1, HE.out.2, ← HN.out]
          exact ⟨a4, c4, rfl, (HO4.out.far _ 0 _ (by omega)).base (by omega), T4.out.b.setCell (p := ⟨w.heap.size + 1, 0, none⟩) (by show w.heap.size ≤ w.heap.size + 1; omega) _⟩
        · have hmk' : (m : Int) = (k : Int) := by omega
          subst hmk
          go_wp2_with fail
          go_at_call 53
          refine (HL.out _ T3.out.b).mono ?_
          rintro e w4 ⟨a4, c4, rfl, ho4, hb4⟩
          have T4 := Lib.hid (T3.out.next hb4)
          have HO4 := Lib.hid (ho4.base (Nat.le_trans (by omega : w.heap.size + 1 + 1 + 1 ≤ w.heap.size + 1 + 1 + 1) T3.out.size))
          clear ho4 hb4 r0 r1 z0 z1 o0 o1
          obtain ⟨z0, z1⟩ := Row.one T4.out.z
          go_wp2_with fail
          refine bodyPost_ret (v := .tuple #[.agg #[.slice a4 m c4], .bool false]) (by simp [results, Try.results38, go_sem, z0]) rfl ?_
          unfold GaveRB
          rw [HE.out.1, HE.out.2, ← HN.out]
          exact ⟨a4, c4, rfl, (HO4.out.far _ 0 _ (by omega)).base (by omega), T4.out.b.setCell (p := ⟨w.heap.size + 1, 0, none⟩) (by show w.heap.size ≤ w.heap.size + 1; omega) _⟩
end Go.Proofs.Ytpapncecfleejaa.L5
