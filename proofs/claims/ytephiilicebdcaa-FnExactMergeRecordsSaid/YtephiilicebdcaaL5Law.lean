/-
  The exact laws' helpers for records: a copy, the room, a comparison of equal records, marks and the look at the marks. Conditions: a room of at most 2^20, at most 2^40 fields.
-/
import Derived.Test.YtephiilicebdcaaL5Eql
import Derived.Test.YtephiilicebdcaaL5Opn
import Derived.Test.YtephiilicebdcaaL5Set
import Derived.Test.YtephiilicebdcaaPb
namespace Go.Proofs.Ytephiilicebdcaa.L5
set_option maxRecDepth 100000
open L4 (boxR push_box box_at)
open Go.ChangeShapes Go.WideShapes Go.ChangeAt Go.RowKit Mem Sl Ex L2 Sv
set_option linter.unusedVariables false
set_option linter.unusedSimpArgs false

def zF : F := ⟨⟨#[]⟩, 0⟩
theorem made_fields (n : Nat) : (madeCells #[.string ⟨#[]⟩, .int .i64 0] (n * 2)).toList = cellsF (List.replicate n zF) := by
  refine List.ext_getElem (by simp [size_madeCells]) fun j h1 h2 => ?_
  rw [cellsF_length, List.length_replicate] at h2
  obtain ⟨c0, c1⟩ := cellsF_at (List.replicate n zF) (j / 2) (by simp; omega)
  simp only [List.getElem_replicate] at c0 c1
  rw [Array.getElem_toList]
  simp only [madeCells, Array.getElem_map, Array.getElem_range]
  rcases (show j = j / 2 * 2 ∨ j = j / 2 * 2 + 1 by omega) with e | e
  · have h3 : (cellsF (List.replicate n zF))[j]? = some (.string zF.name) := by rw [← c0]; exact congrArg _ e
    rw [List.getElem?_eq_getElem (by rw [cellsF_length, List.length_replicate]; exact h2)] at h3
    rw [Option.some.inj h3]
    show (#[Value.string ⟨#[]⟩, .int .i64 0])[j % 2]! = _
    rw [show j % 2 = 0 by omega]; rfl
  · have h3 : (cellsF (List.replicate n zF))[j]? = some (.int .i64 zF.n) := by rw [← c1]; exact congrArg _ e
    rw [List.getElem?_eq_getElem (by rw [cellsF_length, List.length_replicate]; exact h2)] at h3
    rw [Option.some.inj h3]
    show (#[Value.string ⟨#[]⟩, .int .i64 0])[j % 2]! = _
    rw [show j % 2 = 1 by omega]; rfl
theorem cellsF_set2 : ∀ (l : List F) (j : Nat) (t : ByteArray) (x : Int), ((cellsF l).set (j * 2) (.string t)).set (j * 2 + 1) (.int .i64 x) = cellsF (l.set j ⟨t, x⟩)
  | [], j, t, x => rfl
  | f :: l, 0, t, x => rfl
  | f :: l, j + 1, t, x => by
    rw [List.set_cons_succ, cellsF_cons, cellsF_cons, ← cellsF_set2 l j t x, show (j + 1) * 2 = j * 2 + 1 + 1 by omega]
    rfl
/-- A whole field at one place. -/
theorem own_setF {w : World} {B g c n : Nat} {e : TypeId} {l : List F} (h : OwnV w B e 2 (some ⟨g, 0, none⟩) c n (cellsF l)) (j : Nat) (hj : j < l.length) (t : ByteArray) (x : Int) :
    OwnV ((w.setCell ⟨g, j * 2, none⟩ (.string t)).setCell ⟨g, j * 2 + 1, none⟩ (.int .i64 x)) B e 2 (some ⟨g, 0, none⟩) c n (cellsF (l.set j ⟨t, x⟩)) := by
  have := (h.set (j * 2) (by rw [cellsF_length]; omega) (.string t)).set (j * 2 + 1) (by rw [List.length_set, cellsF_length]; omega) (.int .i64 x)
  rwa [cellsF_set2] at this
theorem own_cellF {w : World} {B g c n : Nat} {e : TypeId} {l : List F} (h : OwnV w B e 2 (some ⟨g, 0, none⟩) c n (cellsF l)) (j : Nat) (hj : j < l.length) :
    w.cell? ⟨g, j * 2, none⟩ = some (.string l[j].name) ∧ w.cell? ⟨g, j * 2 + 1, none⟩ = some (.int .i64 l[j].n) := by
  obtain ⟨c0, c1⟩ := cellsF_at l j hj
  have h0 := h.cell (j * 2) (by rw [cellsF_length]; omega)
  have h1 := h.cell (j * 2 + 1) (by rw [cellsF_length]; omega)
  refine ⟨by rw [h0, ← c0, List.getElem?_eq_getElem], by rw [h1, ← c1, List.getElem?_eq_getElem]⟩

theorem toField_any (f : F) (w : World) :
    Calls Try.prog 77 #[.agg #[.string f.name, .int .i64 f.n]] w fun e w' => e = .returned (.agg #[.string f.name, .int .i64 f.n]) ∧ Below w.heap.size w w' := by
  obtain ⟨t, n⟩ := f
  go_enter Try.func77, Try.ntmps77
  go_wp2
  refine bodyPost_ret (v := .agg #[.string t, .int .i64 n]) (by simp [results, Try.results77, go_sem]) rfl ?_
  exact ⟨rfl, below_alloc (below_alloc (below_alloc (Below.refl _ _) _ (Nat.le_refl _)) _ (Nat.le_refl _)) _ (Nat.le_refl _)⟩
theorem below_own {B : Nat} {w w' : World} {g j : Nat} {v : Value} (h : Below B w w') (hg : B ≤ g) : Below B w (w'.setCell ⟨g, j, none⟩ v) := h.setCell (p := ⟨g, j, none⟩) hg v
set_option maxHeartbeats 2000000 in
theorem toFieldS_any (a : Option Addr) (c : Nat) (l : List F) (hl : l.length ≤ 1099511627776) (w : World) (hr : Reads w w.heap.size a (cellsF l)) :
    Calls Try.prog 56 #[.slice a l.length c] w fun e w' => ∃ a' c', e = .returned (.slice a' l.length c') ∧ OwnV w' w.heap.size 64 2 a' c' l.length (cellsF l) ∧ Below w.heap.size w w' := by
  obtain ⟨i0, hi, hz0, hz1, hz2⟩ := fieldInfo
  have HR := Lib.hid (fun w' (h : Below w.heap.size w w') => hr.below h)
  obtain ⟨n, hn⟩ : ∃ n, n = l.length := ⟨_, rfl⟩
  rw [← hn] at hl ⊢
  have HN := Lib.hid hn
  have hl' : (n : Int) ≤ 1099511627776 := by omega
  clear hn hr
  go_enter Try.func56, Try.ntmps56
  go_wp2_with (at_make; refine wpList_make_full _ rfl _ _ 24 rfl w.heap.size 64 i0 (.agg #[.string ⟨#[]⟩, .int .i64 0]) 2 Try.underlying24 hi hz0 hz1 _ _ _ _ n rfl rfl rfl rfl (by rw [hz2]; omega) (by unfold maxLen; omega) (Nat.le_refl _) ?_; intro w1 hown hgrow)
  rw [show (Value.agg #[.string ⟨#[]⟩, .int .i64 0]).cells = #[.string ⟨#[]⟩, .int .i64 0] from rfl, made_fields] at hown
  have hB := (Below.refl w.heap.size w).grown hgrow (Nat.le_refl _) (by simp)
  clear hgrow hi hz0 hz1 hz2
  have H0 := Lib.hid (And.intro (show OwnV w1 w.heap.size 64 2 (some ⟨w.heap.size, 0, none⟩) n n (cellsF (List.replicate n zF)) from hown) hB)
  clear hown hB
  go_loopw [4] (fun i wr => ∃ k : Nat, k ≤ n ∧ i = .int .i64 k ∧ Hid (OwnV wr w.heap.size 64 2 (some ⟨w.heap.size, 0, none⟩) n n (cellsF (l.take k ++ List.replicate (n - k) zF)) ∧ Below w.heap.size w wr)) (fun i _ => n - (intOf i).toNat)
  case atStart => exact ⟨0, Nat.zero_le _, rfl, by simpa using H0.out.1, H0.out.2⟩
  case round =>
    obtain ⟨k, hk, rfl, hrel⟩ := hrel
    by_cases hlt : (k : Int) < (n : Int)
    · have hkl : k < l.length := by have := HN.out; omega
      obtain ⟨ad, rfl, had, h1, h2⟩ := readsF (HR.out _ hrel.out.2) k hkl
      obtain ⟨t, ht⟩ : ∃ t, t = l[k].name := ⟨_, rfl⟩
      obtain ⟨x, hx⟩ : ∃ m, m = l[k].n := ⟨_, rfl⟩
      have HF := Lib.hid (show l[k] = ⟨t, x⟩ by rw [ht, hx])
      rw [← ht] at h1
      rw [← hx] at h2
      clear ht hx
      go_wp2_with (go_at_call 77; refine (toField_any ⟨t, x⟩ _).mono ?_; rintro e w2 ⟨rfl, hb⟩; have HO := Lib.hid (hrel.out.1.below hb); have HBb := Lib.hid (hrel.out.2.trans (hb.mono hrel.out.2.size)); clear hb h1 h2; have hlen := Lib.hid (show (l.take k ++ List.replicate (n - k) zF).length = n by have := HN.out; simp; omega); obtain ⟨c0, c1⟩ := own_cellF HO.out k (by rw [hlen.out]; omega); have f0 := HO.out.free (k * 2); have f1 := HO.out.free (k * 2 + 1))
      have HS := Lib.hid (own_setF HO.out k (by rw [hlen.out]; omega) t x)
      have HB2 := Lib.hid (below_own (j := k * 2 + 1) (v := .int .i64 x) (below_own (j := k * 2) (v := .string t) HBb.out (Nat.le_refl _)) (Nat.le_refl _))
      clear c0 c1 f0 f1
      go_roundw
      case rel =>
        refine ⟨k + 1, by omega, by go_num, And.intro ?_ ?_⟩
        · have h1 := HS.out
          have e1 : (l.take k ++ List.replicate (n - k) zF).set k ⟨t, x⟩ = l.take (k + 1) ++ List.replicate (n - (k + 1)) zF := by
            rw [replicate_cons _ _ _ (by omega), set_step _ _ _ _ _ (by have := HN.out; simp; omega), List.take_succ_eq_append_getElem hkl, HF.out]
          rw [e1] at h1
          exact h1
        · exact HB2.out
      case measure => simp [intOf]; omega
    · go_wp2_with fail
      go_ret
      obtain rfl : k = n := by omega
      have h1 := hrel.out.1
      rw [show l.take k = l by rw [HN.out, List.take_length], Nat.sub_self, List.replicate_zero, List.append_nil] at h1
      exact ⟨_, _, rfl, h1, hrel.out.2⟩
set_option maxHeartbeats 1000000 in
theorem toRecord_any (a : Option Addr) (c : Nat) (l : List F) (hl : l.length ≤ 1099511627776) (w : World) (hr : Reads w w.heap.size a (cellsF l)) :
    Calls Try.prog 24 #[.agg #[.slice a l.length c]] w fun e w' => ∃ a' c', e = .returned (.agg #[.slice a' l.length c']) ∧ OwnV w' w.heap.size 64 2 a' c' l.length (cellsF l) ∧ Below w.heap.size w w' := by
  have HT := Lib.hid (fun w' (h : Below w.heap.size w w') => toFieldS_any a c l hl w' ((hr.below h).more h.size))
  obtain ⟨n, hn⟩ : ∃ n, n = l.length := ⟨_, rfl⟩
  rw [← hn] at HT ⊢
  clear hn hr hl
  have S0 := Sep.start w
  have S1 := push_box S0 45 #[.slice a n c] w.heap.size rfl
  have S2 := push_box S1 26 #[.slice none 0 0] (w.heap.size + 1) (by simp)
  have S3 := Lib.hid (push_box S2 26 #[.slice none 0 0] (w.heap.size + 1 + 1) (by simp))
  clear S0 S1 S2
  obtain ⟨W1, hW1⟩ : ∃ u, u = ((w.alloc (.cells #[.slice a n c] 45)).alloc (.cells #[.slice none 0 0] 26)).alloc (.cells #[.slice none 0 0] 26) := ⟨_, rfl⟩
  rw [← hW1] at S3
  go_enter Try.func24, Try.ntmps24
  go_upto_region 2 with fail
  rw [← hW1]
  clear hW1
  obtain ⟨r0, r1⟩ := Row.one (box_at S3.out 0 rfl)
  go_wp2_with fail
  go_at_call 56
  refine (HT.out _ S3.out.old).mono ?_
  rintro e w2 ⟨a', c', rfl, ho, hb⟩
  have S4 := Lib.hid (push_own S3.out hb ho)
  clear ho hb r0 r1
  obtain ⟨x0, x1⟩ := Row.one (box_at S4.out 2 rfl)
  obtain ⟨z0, z1⟩ := Row.one (box_at S4.out 1 rfl)
  have S5 := Lib.hid (put_box5 (put_box5 S4.out 2 rfl 0 (.slice a' n c')) 1 rfl 0 (.slice a' n c'))
  go_wp2_with fail
  refine bodyPost_ret (v := .agg #[.slice a' n c']) (by simp [results, Try.results24, go_sem, z0]) rfl ?_
  exact ⟨a', c', rfl, own_from S5.out 3 rfl, S5.out.old⟩
theorem szField_any (f : F) (n : Int) (h : f.name.size ≤ maxLen) (hn0 : -1 ≤ n) (hn1 : n ≤ 1048576) (w : World) :
    Calls Try.prog 76 #[.agg #[.string f.name, .int .i64 f.n], .int .i64 n] w fun e w' => e = .returned (.int .i64 (L4.left n f.name)) ∧ Below w.heap.size w w' := by
  obtain ⟨s, m⟩ := f
  unfold L4.left
  have hs : (s.size : Int) ≤ 9223372036854775807 := by have : s.size ≤ maxLen := h; unfold maxLen at this; omega
  have HB := Lib.hid (fun o => below_alloc (Below.refl w.heap.size w) o (Nat.le_refl _))
  clear h
  by_cases hlt : n - (s.size : Int) < 0
  · go_enter Try.func76, Try.ntmps76
    go_wp2
    go_ret
    exact ⟨rfl, HB.out _⟩
  · go_enter Try.func76, Try.ntmps76
    go_wp2
    go_ret
    exact ⟨rfl, HB.out _⟩
/-- What a room says: what is left, and what it bounds. -/
def Roomy (l : List F) (n u : Int) : Prop := -1 ≤ u ∧ u ≤ 1048576 ∧ (0 ≤ u → (l.length : Int) ≤ n ∧ ∀ f ∈ l, (f.name.size : Int) ≤ 1048576)
set_option maxHeartbeats 2000000 in
theorem szFieldS_any (a : Option Addr) (c : Nat) (l : List F) (n : Int) (hw : ∀ f ∈ l, Wide f) (hm : l.length ≤ maxLen) (hn0 : -1 ≤ n) (hn1 : n ≤ 1048576) (w : World) (hr : Reads w w.heap.size a (cellsF l)) :
    Calls Try.prog 55 #[.slice a l.length c, .int .i64 n] w fun e w' => ∃ u, e = .returned (.int .i64 u) ∧ Roomy l n u ∧ Below w.heap.size w w' := by
  have HR := Lib.hid (fun w' (h : Below w.heap.size w w') => hr.below h)
  have HW := Lib.hid hw
  obtain ⟨q, hq⟩ : ∃ q, q = l.length := ⟨_, rfl⟩
  rw [← hq] at hm ⊢
  have HQ := Lib.hid hq
  clear hq hr hw
  have hm' : (q : Int) ≤ 9223372036854775807 := by unfold maxLen at hm; omega
  clear hm
  by_cases hneg : n - (q : Int) < 0
  · go_enter Try.func55, Try.ntmps55
    go_wp2_with fail
    go_ret
    exact ⟨-1, rfl, ⟨by omega, by omega, fun h => absurd h (by omega)⟩, Below.refl _ _⟩
  · go_enter Try.func55, Try.ntmps55
    go_wp2_with fail
    go_loopw [1, 5] (fun lv i wr => ∃ (k : Nat) (m : Int), k ≤ q ∧ i = .int .i64 k ∧ lv = .int .i64 m ∧ 0 ≤ m ∧ m ≤ 1048576 ∧ Hid ((∀ j (hj : j < l.length), j < k → (l[j].name.size : Int) ≤ 1048576) ∧ Below w.heap.size w wr)) (fun _ i _ => q - (intOf i).toNat)
    case atStart => exact ⟨0, n - q, Nat.zero_le _, rfl, rfl, by omega, by omega, fun j hj h => by omega, Below.refl _ _⟩
    case round =>
      obtain ⟨k, m, hk, rfl, rfl, hm0, hm1, hrel⟩ := hrel
      by_cases hlt : (k : Int) < (q : Int)
      · have hkl : k < l.length := by have := HQ.out; omega
        obtain ⟨ad, rfl, had, h1, h2⟩ := readsF (HR.out _ hrel.out.2) k hkl
        have HC := Lib.hid (fun w' => szField_any l[k] m (HW.out _ (List.getElem_mem hkl)).1 (by omega) hm1 w')
        obtain ⟨t, ht⟩ : ∃ t, t = l[k].name := ⟨_, rfl⟩
        obtain ⟨x, hx⟩ : ∃ m, m = l[k].n := ⟨_, rfl⟩
        have HF := Lib.hid ht
        rw [← ht] at h1 HC
        rw [← hx] at h2 HC
        clear ht hx
        obtain ⟨m2, hm2⟩ : ∃ v, L4.left m t = v := ⟨_, rfl⟩
        rw [hm2] at HC
        have hb2 := L4.left_range m t hm1
        rw [hm2] at hb2
        have HM := Lib.hid hm2
        clear hm2
        go_wp2_with fail
        go_at_call 76
        refine (HC.out _).mono ?_
        rintro e w2 ⟨rfl, hb⟩
        have HB := Lib.hid (hrel.out.2.trans (hb.mono hrel.out.2.size))
        clear hb h1 h2 HC
        by_cases h0 : m2 < 0
        · go_wp2_with fail
          go_ret
          exact ⟨-1, rfl, ⟨by omega, by omega, fun h => absurd h (by omega)⟩, HB.out⟩
        · go_wp2_with fail
          go_roundw
          case rel => exact ⟨k + 1, m2, by omega, by go_num, rfl, by omega, hb2.2, fun j hj h => by
            by_cases e : j < k
            · exact hrel.out.1 j hj e
            · obtain rfl : j = k := by omega
              have h9 := L4.left_small (n := m) (s := t) (by rw [HM.out]; omega)
              rw [← HF.out]
              omega, HB.out⟩
          case measure => simp [intOf]; omega
      · go_wp2_with fail
        go_ret
        refine ⟨m, rfl, ⟨by omega, hm1, fun _ => ⟨by rw [← HQ.out]; omega, fun f hf => ?_⟩⟩, hrel.out.2⟩
        obtain ⟨j, hj, rfl⟩ := List.getElem_of_mem hf
        exact hrel.out.1 j hj (by have := HQ.out; omega)
set_option maxHeartbeats 1000000 in
theorem szRecord_any (a : Option Addr) (c : Nat) (l : List F) (n : Int) (hw : ∀ f ∈ l, Wide f) (hm : l.length ≤ maxLen) (hn0 : -1 ≤ n) (hn1 : n ≤ 1048576) (w : World) (hr : Reads w w.heap.size a (cellsF l)) :
    Calls Try.prog 23 #[.agg #[.slice a l.length c], .int .i64 n] w fun e w' => ∃ u, e = .returned (.int .i64 u) ∧ Roomy l n u ∧ Below w.heap.size w w' := by
  have HC := Lib.hid (fun w' (h : Below w.heap.size w w') => szFieldS_any a c l n hw hm hn0 hn1 w' ((hr.below h).more h.size))
  obtain ⟨q, hq⟩ : ∃ q, q = l.length := ⟨_, rfl⟩
  rw [← hq] at HC ⊢
  clear hq hr hw hm
  have S0 := Sep.start w
  have S1 := Lib.hid (push_box S0 45 #[.slice a q c] w.heap.size rfl)
  clear S0
  obtain ⟨W1, hW1⟩ : ∃ u, u = (w.alloc (.cells #[.slice a q c] 45)) := ⟨_, rfl⟩
  rw [← hW1] at S1
  go_enter Try.func23, Try.ntmps23
  go_upto_region 1 with fail
  rw [← hW1]
  clear hW1
  obtain ⟨r0, r1⟩ := Row.one (box_at S1.out 0 rfl)
  go_wp2_with fail
  go_at_call 55
  refine (HC.out _ S1.out.old).mono ?_
  rintro e w2 ⟨u, rfl, hu, hb⟩
  have HU := Lib.hid hu
  have S2 := Lib.hid (S1.out.keep hb)
  obtain ⟨hu1, hu2, -⟩ := hu
  clear hb r0 r1
  by_cases h0 : u < 0
  · go_wp2_with fail
    go_ret
    exact ⟨-1, rfl, ⟨by omega, by omega, fun h => absurd h (by omega)⟩, S2.out.old⟩
  · go_wp2_with fail
    go_ret
    exact ⟨u, rfl, HU.out, S2.out.old⟩
theorem eqField_any (f : F) (w : World) :
    Calls Try.prog 78 #[.agg #[.string f.name, .int .i64 f.n], .agg #[.string f.name, .int .i64 f.n]] w fun e w' => e = .returned (.bool true) ∧ Below w.heap.size w w' := by
  obtain ⟨t, n⟩ := f
  have HB := Lib.hid (fun o p => below_alloc (below_alloc (Below.refl w.heap.size w) o (Nat.le_refl _)) p (Nat.le_refl _))
  go_enter Try.func78, Try.ntmps78
  go_wp2
  go_ret
  exact ⟨rfl, HB.out _ _⟩
theorem below_drew {B : Nat} {w w1 w2 : World} (h : Below B w w1) (h2 : Below w1.drew.heap.size w1.drew w2) (hB : B ≤ w1.heap.size) : Below B w w2 := h.drew.trans (h2.mono hB)
set_option maxHeartbeats 2000000 in
theorem eqFieldS_any (a b : Option Addr) (c d : Nat) (l : List F) (hl : l.length ≤ 1099511627776) (w : World) (hr : Reads w w.heap.size a (cellsF l)) (hs : Reads w w.heap.size b (cellsF l)) :
    Calls Try.prog 57 #[.slice a l.length c, .slice b l.length d] w fun e w' => e = .returned (.bool true) ∧ Below w.heap.size w w' := by
  have HR := Lib.hid (fun w' (h : Below w.heap.size w w') => hr.below h)
  have HS := Lib.hid (fun w' (h : Below w.heap.size w w') => hs.below h)
  obtain ⟨n, hn⟩ : ∃ n, n = l.length := ⟨_, rfl⟩
  rw [← hn] at hl ⊢
  have HN := Lib.hid hn
  have hl' : (n : Int) ≤ 1099511627776 := by omega
  clear hn hr hs
  go_enter Try.func57, Try.ntmps57
  go_wp2_with fail
  go_loopw [5] (fun i wr => ∃ k : Nat, k ≤ n ∧ i = .int .i64 k ∧ Hid (Below w.heap.size w wr)) (fun i _ => n - (intOf i).toNat)
  case atStart => exact ⟨0, Nat.zero_le _, rfl, Below.refl _ _⟩
  case round =>
    obtain ⟨k, hk, rfl, hrel⟩ := hrel
    by_cases hlt : (k : Int) < (n : Int)
    · have hkl : k < l.length := by have := HN.out; omega
      obtain ⟨ad, rfl, had, h1, h2⟩ := readsF (HR.out _ hrel.out) k hkl
      obtain ⟨bd, rfl, hbd, h3, h4⟩ := readsF (HS.out _ hrel.out) k hkl
      obtain ⟨t, ht⟩ : ∃ t, t = l[k].name := ⟨_, rfl⟩
      obtain ⟨x, hx⟩ : ∃ m, m = l[k].n := ⟨_, rfl⟩
      rw [← ht] at h1 h3
      rw [← hx] at h2 h4
      clear ht hx
      go_wp2_with fail
      have HK := Lib.hid (fun (w5 : World) (hd : Below wr.drew.heap.size wr.drew w5) => show w5.cell? (ad.add (k * 2)) = some (.string t) ∧ w5.cell? ⟨(ad.add (k * 2)).block, (ad.add (k * 2)).off + 1, none⟩ = some (.int .i64 x) ∧ w5.cell? (bd.add (k * 2)) = some (.string t) ∧ w5.cell? ⟨(bd.add (k * 2)).block, (bd.add (k * 2)).off + 1, none⟩ = some (.int .i64 x) from by
        have ha : (ad.add (k * 2)).block < wr.drew.heap.size := by rw [add_block]; exact Nat.lt_of_lt_of_le had hrel.out.size
        have hb : (bd.add (k * 2)).block < wr.drew.heap.size := by rw [add_block]; exact Nat.lt_of_lt_of_le hbd hrel.out.size
        exact ⟨(hd.cell ha).trans h1, (hd.cell (show (⟨(ad.add (k * 2)).block, (ad.add (k * 2)).off + 1, none⟩ : Addr).block < _ from ha)).trans h2, (hd.cell hb).trans h3, (hd.cell (show (⟨(bd.add (k * 2)).block, (bd.add (k * 2)).off + 1, none⟩ : Addr).block < _ from hb)).trans h4⟩)
      go_region_held3 (fun w' => w'.cell? (ad.add (k * 2)) = some (.string t) ∧ w'.cell? ⟨(ad.add (k * 2)).block, (ad.add (k * 2)).off + 1, none⟩ = some (.int .i64 x) ∧ w'.cell? (bd.add (k * 2)) = some (.string t) ∧ w'.cell? ⟨(bd.add (k * 2)).block, (bd.add (k * 2)).off + 1, none⟩ = some (.int .i64 x)) (first | exact ⟨h1, h2, h3, h4⟩ | exact HK.out _ (by assumption) | go_keep) ((go_at_call 78; refine (eqField_any ⟨t, x⟩ _).mono ?_; rintro e w5 ⟨rfl, hd⟩; have HB5 := Lib.hid (below_drew hrel.out hd hrel.out.size)))
      clear hd
      go_wp2_with fail
      go_roundw
      case rel => exact ⟨k + 1, by omega, by go_num, HB5.out⟩
      case measure => simp [intOf]; omega
    · go_wp2_with fail
      go_ret
      exact ⟨rfl, hrel.out⟩
set_option maxHeartbeats 1000000 in
theorem eqRecord_any (a b : Option Addr) (c d : Nat) (l : List F) (hl : l.length ≤ 1099511627776) (w : World) (hr : Reads w w.heap.size a (cellsF l)) (hs : Reads w w.heap.size b (cellsF l)) :
    Calls Try.prog 25 #[.agg #[.slice a l.length c], .agg #[.slice b l.length d]] w fun e w' => e = .returned (.bool true) ∧ Below w.heap.size w w' := by
  have HE := Lib.hid (fun w' (h : Below w.heap.size w w') => eqFieldS_any a b c d l hl w' ((hr.below h).more h.size) ((hs.below h).more h.size))
  obtain ⟨n, hn⟩ : ∃ n, n = l.length := ⟨_, rfl⟩
  rw [← hn] at HE ⊢
  clear hn hr hs hl
  have S0 := Sep.start w
  have S1 := push_box S0 26 #[.slice a n c] w.heap.size rfl
  have S2 := Lib.hid (push_box S1 26 #[.slice b n d] (w.heap.size + 1) (by simp))
  clear S0 S1
  obtain ⟨W1, hW1⟩ : ∃ u, u = (w.alloc (.cells #[.slice a n c] 26)).alloc (.cells #[.slice b n d] 26) := ⟨_, rfl⟩
  rw [← hW1] at S2
  go_enter Try.func25, Try.ntmps25
  go_upto_region 1 with fail
  rw [← hW1]
  clear hW1
  obtain ⟨r0, r1⟩ := Row.one (box_at S2.out 0 rfl)
  obtain ⟨o0, o1⟩ := Row.one (box_at S2.out 1 rfl)
  go_wp2_with fail
  go_at_call 57
  refine (HE.out _ S2.out.old).mono ?_
  rintro e w3 ⟨rfl, h3⟩
  have S3 := Lib.hid (S2.out.keep h3)
  clear h3 r0 r1 o0 o1
  go_wp2_with fail
  go_ret
  exact ⟨rfl, S3.out.old⟩
/-! ### marks -/
def markT (k : Int) : ByteArray := ⟨(109 :: L1.digs k.natAbs).toArray⟩
def marksF (k : Int) (n : Nat) : List F := (List.range n).map fun (j : Nat) => ⟨markT (k + 2 * (j : Int)), k + 2 * (j : Int) + 1⟩
@[simp] theorem marksF_length (k : Int) (n : Nat) : (marksF k n).length = n := by simp [marksF]
theorem marksF_get (k : Int) (n j : Nat) (h : j < n) : (marksF k n)[j]'(by simpa using h) = ⟨markT (k + 2 * (j : Int)), k + 2 * (j : Int) + 1⟩ := by simp [marksF]
theorem marksF_next (k : Int) (j : Nat) : marksF k (j + 1) = marksF k j ++ [⟨markT (k + 2 * (j : Int)), k + 2 * (j : Int) + 1⟩] := by simp [marksF, List.range_succ]
set_option maxHeartbeats 1000000 in
theorem markText_any (k : Int) (h0 : 0 < k) (h1 : k ≤ 9223372036854775807) (w : World) :
    Calls Try.prog 79 #[.int .i64 k] w fun e w' => e = .returned (.string (markT k)) ∧ Below w.heap.size w w' := by
  have hlen : (L1.digs k.natAbs).length ≤ 20 := Nat.le_trans (L1.digs_length _) (Lib.nDigits_le20 _ (by omega))
  go_enter Try.func79, Try.ntmps79
  go_wp2
  go_loopw [0, 3] (fun x s wr => L1.FmtRel k s x w wr) (fun x _ _ => (intOf x).natAbs)
  case atStart => exact ⟨k, [], rfl, rfl, by simp, fun h => h, fun h => h, by omega, h1, Below.refl _ _⟩
  case round =>
    obtain ⟨y, l, rfl, rfl, hd, hp, hn, hy0, hy1, hb⟩ := hrel
    have hl : l.length ≤ 20 := by rw [← hd] at hlen; simp at hlen; omega
    have HD := Lib.hid hd
    have HP := Lib.hid (And.intro hp hn)
    have hyp : 0 ≤ y := hp (by omega)
    clear hd hp hn hlen
    by_cases hy : y = 0
    · subst hy
      go_wp2
      go_ret
      refine ⟨?_, hb⟩
      have hd := HD.out
      unfold markT
      rw [← hd, show (Int.natAbs 0) = 0 from rfl, L1.digs_zero]
      rfl
    · have hy2 : 0 < y := by omega
      have t1 := L1.tmod10_nat y
      have b0 : 0 ≤ y % 10 := by omega
      have b1 : y % 10 ≤ 9 := by omega
      have hcv := fun W : World => L1.conv_one W y (y % 10) (by omega) (by omega)
      have T1 := Lib.hid t1
      clear t1
      go_wp2
      have hfin := L1.fmt_next k y l w _ hy HD.out HP.out hy0 hy1 (hb.alloc (hb.size) (.cells #[.int .u8 (48 + y % 10)] 5))
      rw [Int.tdiv_eq_ediv_of_nonneg hyp] at hfin
      exact hfin
set_option maxHeartbeats 2000000 in
theorem markFieldS_any (a : Option Addr) (c : Nat) (l : List F) (k : Int) (w : World) (h : OwnV w 0 64 2 a c l.length (cellsF l)) (hl : l.length ≤ 1099511627776) (hk0 : 0 < k) (hk1 : k ≤ 4611686018427387904) :
    Calls Try.prog 58 #[.slice a l.length c, .int .i64 k] w fun e w' => e = .returned (.int .i64 (k + 2 * (l.length : Int))) ∧ OwnV w' 0 64 2 a c l.length (cellsF (marksF k l.length)) ∧ Turned (Value.slice a l.length c).ownBlock.toList w w' := by
  rcases h.form with ⟨rfl, hn0, -, rfl⟩ | ⟨g, rfl, -, hg, -, -⟩
  · have el : l = [] := List.eq_nil_of_length_eq_zero hn0
    subst el
    have H := Lib.hid h
    clear h hn0
    go_enter Try.func58, Try.ntmps58
    go_wp2
    refine wp_loop_rounds 1 ?_
    rw [rounds_succ]
    go_wp2
    go_ret
    exact ⟨by simp, H.out, Turned.refl _ _⟩
  · obtain ⟨n, hn⟩ : ∃ n, n = l.length := ⟨_, rfl⟩
    rw [← hn] at h hl ⊢
    have HN := Lib.hid hn
    have hl' : (n : Int) ≤ 1099511627776 := by omega
    have H := Lib.hid h
    clear h hn
    go_enter Try.func58, Try.ntmps58
    go_wp2_with fail
    go_loopw [1, 5] (fun v i wr => ∃ j : Nat, j ≤ n ∧ i = .int .i64 j ∧ v = .int .i64 (k + 2 * (j : Int)) ∧ Hid (OwnV wr 0 64 2 (some ⟨g, 0, none⟩) c n (cellsF (marksF k j ++ l.drop j)) ∧ Turned [g] w wr)) (fun _ i _ => n - (intOf i).toNat)
    case atStart => exact ⟨0, Nat.zero_le _, rfl, by simp, by simpa [marksF] using H.out, Turned.refl _ _⟩
    case round =>
      obtain ⟨j, hj, rfl, rfl, hrel⟩ := hrel
      by_cases hlt : (j : Int) < (n : Int)
      · have hjl : j < l.length := by have := HN.out; omega
        have hlen := Lib.hid (show j < (marksF k j ++ l.drop j).length by simp; omega)
        go_wp2_with (go_at_call 79; refine (markText_any (k + 2 * (j : Int)) (by omega) (by omega) _).mono ?_; rintro e w2 ⟨rfl, hb⟩; have HO := Lib.hid (hrel.out.1.below hb); have HT := Lib.hid (hrel.out.2.trans (Turned.of_below hb)); clear hb; obtain ⟨c0, c1⟩ := own_cellF HO.out j hlen.out; have f0 := HO.out.free (j * 2); have f1 := HO.out.free (j * 2 + 1))
        have HS := Lib.hid (own_setF HO.out j hlen.out (markT (k + 2 * (j : Int))) (k + 2 * (j : Int) + 1))
        have HT2 := Lib.hid ((HT.out.trans (Turned.of_grown (grownBy_put w2 g (j * 2) (.string (markT (k + 2 * (j : Int))))))).trans (Turned.of_grown (grownBy_put _ g (j * 2 + 1) (.int .i64 (k + 2 * (j : Int) + 1)))))
        clear c0 c1 f0 f1
        go_roundw
        case rel =>
          refine ⟨j + 1, by omega, by go_num, by go_num, And.intro ?_ ?_⟩
          · have h1 := HS.out
            rw [List.drop_eq_getElem_cons hjl, set_step _ _ _ _ _ (marksF_length k j), ← marksF_next] at h1
            exact h1
          · exact HT2.out
        case measure => simp [intOf]; omega
      · go_wp2_with fail
        go_ret
        obtain rfl : j = n := by omega
        have h1 := hrel.out.1
        rw [List.drop_of_length_le (by rw [HN.out]; exact Nat.le_refl _), List.append_nil] at h1
        exact ⟨rfl, h1, hrel.out.2⟩
set_option maxHeartbeats 1000000 in
theorem markRecord_any (a : Option Addr) (c : Nat) (l : List F) (k : Int) (w : World) (h : OwnV w 0 64 2 a c l.length (cellsF l)) (hl : l.length ≤ 1099511627776) (hk0 : 0 < k) (hk1 : k ≤ 4611686018427387904) :
    Calls Try.prog 26 #[.agg #[.slice a l.length c], .int .i64 k] w fun e w' => e = .returned (.int .i64 (k + 2 * (l.length : Int))) ∧ OwnV w' 0 64 2 a c l.length (cellsF (marksF k l.length)) ∧ Turned (Value.slice a l.length c).ownBlock.toList w w' := by
  have HB := Lib.hid (show Below w.heap.size w (w.alloc (.cells #[.slice a l.length c] 26)) from (Below.refl _ _).alloc (Nat.le_refl _) _)
  have HC := Lib.hid (markFieldS_any a c l k _ (h.below HB.out) hl hk0 hk1)
  have HR := Lib.hid (Row.made w 26 #[.slice a l.length c])
  obtain ⟨n, hn⟩ : ∃ n, n = l.length := ⟨_, rfl⟩
  rw [← hn] at HC HB HR ⊢
  clear hn h hl
  go_enter Try.func26, Try.ntmps26
  go_wp2_with (go_at_call 58; refine HC.out.mono ?_; rintro e w2 ⟨rfl, ho, ht⟩; have HO := Lib.hid (And.intro ho ht); clear ho ht)
  go_ret
  exact ⟨rfl, HO.out.1, (Turned.of_below HB.out).trans HO.out.2⟩
set_option maxHeartbeats 2000000 in
theorem heldFieldS_any (a : Option Addr) (c n : Nat) (k : Int) (w : World) (hr : Reads w w.heap.size a (cellsF (marksF k n))) (hl : n ≤ 1099511627776) (hk0 : 0 < k) (hk1 : k ≤ 4611686018427387904) :
    Calls Try.prog 59 #[.slice a n c, .int .i64 k] w fun e w' => e = .returned (.int .i64 (k + 2 * (n : Int))) ∧ Below w.heap.size w w' := by
  have HR := Lib.hid (fun w' (h : Below w.heap.size w w') => hr.below h)
  have hl' : (n : Int) ≤ 1099511627776 := by omega
  clear hr
  go_enter Try.func59, Try.ntmps59
  go_wp2_with fail
  go_loopw [1, 5] (fun v i wr => ∃ j : Nat, j ≤ n ∧ i = .int .i64 j ∧ v = .int .i64 (k + 2 * (j : Int)) ∧ Hid (Below w.heap.size w wr)) (fun _ i _ => n - (intOf i).toNat)
  case atStart => exact ⟨0, Nat.zero_le _, rfl, by simp, Below.refl _ _⟩
  case round =>
    obtain ⟨j, hj, rfl, rfl, hrel⟩ := hrel
    by_cases hlt : (j : Int) < (n : Int)
    · have hjn : j < n := by omega
      obtain ⟨ad, rfl, had, h1, h2⟩ := readsF (HR.out _ hrel.out) j (by simpa using hjn)
      rw [marksF_get _ _ _ hjn] at h1 h2
      have HC := Lib.hid (fun w' => markText_any (k + 2 * (j : Int)) (by omega) (by omega) w')
      obtain ⟨t, ht⟩ : ∃ t, t = markT (k + 2 * (j : Int)) := ⟨_, rfl⟩
      rw [← ht] at HC
      replace h1 : wr.cell? (ad.add (j * 2)) = some (.string t) := by rw [ht]; exact h1
      replace h2 : wr.cell? ⟨(ad.add (j * 2)).block, (ad.add (j * 2)).off + 1, none⟩ = some (.int .i64 (k + 2 * (j : Int) + 1)) := h2
      clear ht
      have HK := Lib.hid (fun (w5 : World) (hd : Below wr.drew.heap.size wr.drew w5) => show w5.cell? (ad.add (j * 2)) = some (.string t) ∧ w5.cell? ⟨(ad.add (j * 2)).block, (ad.add (j * 2)).off + 1, none⟩ = some (.int .i64 (k + 2 * (j : Int) + 1)) from by
        have ha : (ad.add (j * 2)).block < wr.drew.heap.size := by rw [add_block]; exact Nat.lt_of_lt_of_le had hrel.out.size
        exact ⟨(hd.cell ha).trans h1, (hd.cell (show (⟨(ad.add (j * 2)).block, (ad.add (j * 2)).off + 1, none⟩ : Addr).block < _ from ha)).trans h2⟩)
      go_wp2_with fail
      go_region_held3 (fun w' => w'.cell? (ad.add (j * 2)) = some (.string t) ∧ w'.cell? ⟨(ad.add (j * 2)).block, (ad.add (j * 2)).off + 1, none⟩ = some (.int .i64 (k + 2 * (j : Int) + 1))) (first | exact ⟨h1, h2⟩ | exact HK.out _ (by assumption) | go_keep) ((go_at_call 79; refine (HC.out _).mono ?_; rintro e w5 ⟨rfl, hd⟩; have HB5 := Lib.hid (below_drew hrel.out hd hrel.out.size)))
      obtain ⟨g1, g2⟩ := HK.out _ hd
      clear hd h1 h2
      go_wp2_with fail
      go_roundw
      case rel => exact ⟨j + 1, by omega, by go_num, by go_num, HB5.out⟩
      case measure => simp [intOf]; omega
    · go_wp2_with fail
      go_ret
      obtain rfl : j = n := by omega
      exact ⟨rfl, hrel.out⟩
set_option maxHeartbeats 1000000 in
theorem heldRecord_any (a : Option Addr) (c n : Nat) (k : Int) (w : World) (hr : Reads w w.heap.size a (cellsF (marksF k n))) (hl : n ≤ 1099511627776) (hk0 : 0 < k) (hk1 : k ≤ 4611686018427387904) :
    Calls Try.prog 27 #[.agg #[.slice a n c], .int .i64 k] w fun e w' => e = .returned (.int .i64 (k + 2 * (n : Int))) ∧ Below w.heap.size w w' := by
  have HB := Lib.hid (show Below w.heap.size w (w.alloc (.cells #[.slice a n c] 26)) from (Below.refl _ _).alloc (Nat.le_refl _) _)
  have HC := Lib.hid (heldFieldS_any a c n k _ ((hr.below HB.out).more HB.out.size) hl hk0 hk1)
  have hl' : (n : Int) ≤ 1099511627776 := by omega
  clear hr
  go_enter Try.func27, Try.ntmps27
  go_wp2_with (go_at_call 59; refine HC.out.mono ?_; rintro e w2 ⟨rfl, ho⟩; have HO := Lib.hid ho; clear ho)
  go_ret
  exact ⟨rfl, HB.out.trans (HO.out.mono HB.out.size)⟩

/-! ### over several things that lie apart -/
theorem own_zero {w : World} {B : Nat} {e : TypeId} {k : Nat} {a : Option Addr} {c n : Nat} {xs : List Value} (h : OwnV w B e k a c n xs) : a = none → c = 0 := Sv.own_zero h
/-- What a room that is not used up says. -/
theorem Roomy.out {l : List F} {n u : Int} (h : Roomy l n u) (hu : ¬ u < 0) (hn : n ≤ 1048576) : l.length ≤ 1048576 ∧ Small l := by
  obtain ⟨h1, h2⟩ := h.2.2 (by omega)
  exact ⟨by omega, fun f hf => by have := h2 f hf; omega⟩
section
variable {W w : World} {rs : List Res}
theorem copyRec (h : Sep W w rs) {a : Option Addr} {c : Nat} {l : List F} (hr : Reads W W.heap.size a (cellsF l)) (hl : l.length ≤ 1099511627776) :
    Calls Try.prog 24 #[.agg #[.slice a l.length c]] w fun e w' => ∃ a' c', e = .returned (.agg #[.slice a' l.length c']) ∧ Sep W w' (rs ++ [ownV 64 2 a' c' l.length (cellsF l)]) :=
  (toRecord_any a c l hl w (Law.Reads_of h hr)).mono fun _ _ ⟨a', c', he, ho, hb⟩ => ⟨a', c', he, push_own h hb ho⟩
theorem roomRec (h : Sep W w rs) {a : Option Addr} {c : Nat} {l : List F} (hr : Reads W W.heap.size a (cellsF l)) (n : Int) (hw : ∀ f ∈ l, Wide f) (hm : l.length ≤ maxLen) (hn0 : -1 ≤ n) (hn1 : n ≤ 1048576) :
    Calls Try.prog 23 #[.agg #[.slice a l.length c], .int .i64 n] w fun e w' => ∃ u, e = .returned (.int .i64 u) ∧ Roomy l n u ∧ Sep W w' rs :=
  (szRecord_any a c l n hw hm hn0 hn1 w (Law.Reads_of h hr)).mono fun _ _ ⟨u, he, ho, hb⟩ => ⟨u, he, ho, h.keep hb⟩
theorem eqRec (h : Sep W w rs) (i j : Nat) {a a2 : Option Addr} {c c2 : Nat} {l : List F} (hi : rs[i]? = some (ownV 64 2 a c l.length (cellsF l))) (hj : rs[j]? = some (ownV 64 2 a2 c2 l.length (cellsF l))) (hl : l.length ≤ 1099511627776) :
    Calls Try.prog 25 #[.agg #[.slice a l.length c], .agg #[.slice a2 l.length c2]] w fun e w' => e = .returned (.bool true) ∧ Sep W w' rs :=
  (eqRecord_any a a2 c c2 l hl w (own_at h i hi).reads (own_at h j hj).reads).mono fun _ _ ⟨he, hd⟩ => ⟨he, h.keep hd⟩
theorem markRec (h : Sep W w rs) (i : Nat) {a : Option Addr} {c : Nat} {l : List F} (hi : rs[i]? = some (ownV 64 2 a c l.length (cellsF l))) (k : Int) (hl : l.length ≤ 1099511627776) (hk0 : 0 < k) (hk1 : k ≤ 4611686018427387904) :
    Calls Try.prog 26 #[.agg #[.slice a l.length c], .int .i64 k] w fun e w' => e = .returned (.int .i64 (k + 2 * (l.length : Int))) ∧ Sep W w' (rs.set i (ownV 64 2 a c l.length (cellsF (marksF k l.length)))) :=
  (markRecord_any a c l k w (own_at h i hi) hl hk0 hk1).mono fun _ _ ⟨he, ho, ht⟩ => ⟨he, h.put i hi ht ho fun b hb => hb⟩
theorem heldRec (h : Sep W w rs) (i : Nat) {a : Option Addr} {c n : Nat} (k : Int) (hi : rs[i]? = some (ownV 64 2 a c n (cellsF (marksF k n)))) (hl : n ≤ 1099511627776) (hk0 : 0 < k) (hk1 : k ≤ 4611686018427387904) :
    Calls Try.prog 27 #[.agg #[.slice a n c], .int .i64 k] w fun e w' => e = .returned (.int .i64 (k + 2 * (n : Int))) ∧ Sep W w' rs :=
  (heldRecord_any a c n k w (own_at h i hi).reads hl hk0 hk1).mono fun _ _ ⟨he, hd⟩ => ⟨he, h.keep hd⟩
end
end Go.Proofs.Ytephiilicebdcaa.L5
