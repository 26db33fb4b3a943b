/-
  The contracts of chapter 5's functions of the program that make records out of maps: copyRecord, fieldsOf, recordOr. Conditions: names of at most 2^48 bytes, at most 2^40 fields.
-/
import Derived.Test.YtpapncecfleejaaL5Ib
import Derived.Test.YtpapncecfleejaaL5Map
import Derived.Test.YtpapncecfleejaaL5Rd
namespace Go.Proofs.Ytpapncecfleejaa.L5
set_option maxRecDepth 100000
open L4 (boxR push_box box_at)
open Go.ChangeShapes Go.WideShapes Go.ChangeAt Go.RowKit Mem Sl Ex L2 Sv
set_option linter.unusedVariables false
set_option linter.unusedSimpArgs false

set_option maxHeartbeats 1000000 in
theorem copyRecord_any (a : Option Addr) (c : Nat) (l : List F) (hl : l.length ≤ 1099511627776) (w : World) (hr : Reads w w.heap.size a (cellsF l)) :
    Calls Try.prog 50 #[.agg #[.slice a l.length c]] w fun e w' => ∃ a' c', e = .returned (.agg #[.slice a' l.length c']) ∧ OwnV w' w.heap.size 68 2 a' c' l.length (cellsF l) ∧ Below w.heap.size w w' := by
  obtain ⟨i0, hi, hz0, hz1, hz2⟩ : ∃ i, Try.prog.info? 68 = some i ∧ i.zero = some (.agg #[.string ⟨#[]⟩, .int .i64 0]) ∧ i.size = 2 ∧ i.bytes = 24 := by
    have h := infoField
    rw [Option.map_eq_some_iff] at h
    obtain ⟨i, h1, h2⟩ := h
    simp only [Prod.mk.injEq] at h2
    exact ⟨i, h1, h2⟩
  obtain ⟨n, hn⟩ : ∃ n, n = l.length := ⟨_, rfl⟩
  rw [← hn] at hl ⊢
  have W0 := Lib.hid (fun (b1 b2 b3 : Obj) => below_alloc (below_alloc (below_alloc (Below.refl w.heap.size w) b1 (Nat.le_refl _)) b2 (Nat.le_refl _)) b3 (Nat.le_refl _))
  have HR := Lib.hid (fun w' (h : Below w.heap.size w w') => hr.below h)
  have HC := Lib.hid (show (cellsF l).length = n * 2 by rw [cellsF_length, hn])
  have HI := Lib.hid (And.intro hi (And.intro hz0 (And.intro hz1 hz2)))
  clear hn hr
  go_enter Try.func50, Try.ntmps50
  go_wp2_with (at_builtin; refine wpList_append_rows _ rfl _ _ 24 rfl (w.heap.size + 1 + 1) 68 i0 (.agg #[.string ⟨#[]⟩, .int .i64 0]) 2 24 Try.underlying24 HI.out.1 HI.out.2.1 HI.out.2.2.1 HI.out.2.2.2 rfl (by omega) _ 0 0 _ [] rfl rfl (OwnV.emptyAt _ _ _ _ (by simp) (by simp)) w.heap.size _ n n _ (cellsF l) rfl rfl (HR.out _ (W0.out _ _ _)) HC.out (cellsF_one l) (by unfold maxLen; omega) (by omega) (by simp) ?_; intro a9 c9 w9 ho9 hg9; have q9 := below_rows (OwnV.emptyAt (B := w.heap.size + 1 + 1) _ 68 2 _ (by simp) (by simp)) hg9 (by simp); have r9 := Row.below ((Row.madeAt (w.alloc (.cells #[.slice a n c] 26)) 26 #[.slice none 0 0] (w.heap.size + 1) (by simp)).more (.cells #[] 68)) q9 (by omega); have r0 := r9.cell 0; have r1 := r9.free 0; simp at r0)
  refine bodyPost_ret (v := .agg #[.slice a9 n c9]) (by simp [results, Try.results50, go_sem, r0]) rfl ?_
  have q0 := (W0.out (.cells #[.slice a n c] 26) (.cells #[.slice none 0 0] 26) (.cells #[] 68)).trans (q9.mono (by omega))
  refine ⟨a9, c9, rfl, (OwnV.far (by simpa using ho9) (w.heap.size + 1) 0 _ (by omega)).base (by omega), q0.setCell (p := ⟨w.heap.size + 1, 0, none⟩) (by show w.heap.size ≤ w.heap.size + 1; omega) _⟩

theorem wf_mk {x : Int} (h1 : -9223372036854775808 ≤ x) (h2 : x ≤ 9223372036854775807) : (Lit.int .i64 x).wf = true := by
  simp [Lit.wf, IntKind.min, IntKind.max, IntKind.signed, IntKind.bits]
  omega
theorem isR_at {l : List F} (h : isR l = true) (k : Nat) (hk : k < l.length) : isN l[k].t = true ∧ 0 ≤ l[k].n ∧ l[k].n ≤ 1000000000 := by
  have := ((isR_iff.1 h).1 k hk hk).1
  unfold okF at this
  simp only [Bool.and_eq_true, L1.inB, decide_eq_true_eq] at this
  exact ⟨this.1, this.2.1, this.2.2⟩
theorem isN_size {s : ByteArray} (h : isN s.data.toList = true) : s.size ≤ 8 := by
  unfold isN at h
  simp only [Bool.and_eq_true, decide_eq_true_eq] at h
  have e : s.data.toList.length = s.size := by rw [Array.length_toList]; rfl
  omega
theorem isR_small {l : List F} (h : isR l = true) : Small l := fun f hf => by
  obtain ⟨k, hk, rfl⟩ := List.getElem_of_mem hf
  have := isN_size (isR_at h k hk).1
  omega
theorem sep_two {W w : World} {r0 r1 : Res} {ts : List Res} (h : Sep W w (r0 :: r1 :: ts)) : Sep W w [r0, r1] :=
  sep_sub h (fun i => i) (fun i r hr => by
    match i, hr with
    | 0, hr => exact hr
    | 1, hr => exact hr
    | i + 2, hr => simp at hr) (fun i j _ _ e => e)
/-- What a maker of a map leaves. -/
def GaveM (w : World) (n : Nat) (g : List UInt8 → Option Int) (e : Ending) (w' : World) : Prop := ∃ b, e = .returned (.map (some b)) ∧ MapIs w' b n g ∧ w.heap.size ≤ b ∧ Below w.heap.size w w'
set_option maxHeartbeats 2000000 in
theorem fieldsOf_any (a : Option Addr) (c : Nat) (l : List F) (h : isR l = true) (w : World) (hr : Reads w w.heap.size a (cellsF l)) :
    Calls Try.prog 51 #[.agg #[.slice a l.length c]] w (GaveM w l.length (getO l)) := by
  have HR := Lib.hid (fun w' (h : Below w.heap.size w w') => hr.below h)
  have HA := Lib.hid h
  have hl6 := isR_len h
  obtain ⟨n, hn⟩ : ∃ n, n = l.length := ⟨_, rfl⟩
  rw [← hn] at hl6 ⊢
  have HN := Lib.hid hn
  clear hn hr h
  have hl' : (n : Int) ≤ 6 := by omega
  have S1 := push_box (Sep.start w) 26 #[.slice a n c] w.heap.size rfl
  have S2 := Lib.hid (new_map S1 (w.heap.size + 1) (by simp))
  clear S1
  obtain ⟨W1, hW1⟩ : ∃ u, u = (w.alloc (.cells #[.slice a n c] 26)).alloc (.map #[] 0) := ⟨_, rfl⟩
  rw [← hW1] at S2
  have hmm := fun W => run_makeMap_hint 64 9 3 .i64 (n : Int) Try.underlying64 W
  go_enter Try.func51, Try.ntmps51
  go_upto_region 2 with fail
  rw [← hW1]
  clear hW1 hmm
  obtain ⟨r0, r1⟩ := Row.one (box_at S2.out 0 rfl)
  go_wp2_with fail
  clear r0 r1
  go_loopw [13] (fun i wr => ∃ k : Nat, k ≤ n ∧ i = .int .i64 k ∧ Hid (Sep w wr [boxR w.heap.size 26 #[.slice a n c], mapR (w.heap.size + 1) k (getO (l.take k))])) (fun i _ => n - (intOf i).toNat)
  case atStart => exact ⟨0, Nat.zero_le _, rfl, S2.out⟩
  case round =>
    obtain ⟨k, hk, rfl, hrel⟩ := hrel
    by_cases hlt : (k : Int) < (n : Int)
    · have hkl : k < l.length := by have := HN.out; omega
      obtain ⟨ad, rfl, had, h1, h2⟩ := readsF (HR.out _ hrel.out.old) k hkl
      have HU := Lib.hid (getO_take (isR_asc HA.out) k hkl)
      obtain ⟨q1, q2, q3⟩ := isR_at HA.out k hkl
      have q4 := isN_size q1
      have q1 := 0
      obtain ⟨t, ht⟩ : ∃ t, t = l[k].name := ⟨_, rfl⟩
      obtain ⟨m, hm⟩ : ∃ m, m = l[k].n := ⟨_, rfl⟩
      have HT := Lib.hid (show l[k].t = t.data.toList by rw [ht]; rfl)
      rw [HT.out, ← hm] at HU
      rw [← ht] at h1 q4
      rw [← hm] at h2 q2 q3
      clear ht hm
      have S3 := Lib.hid (push_box hrel.out 68 #[.string t, .int .i64 m] wr.heap.size rfl)
      obtain ⟨b0, b1⟩ := Row.two (box_at S3.out 2 rfl)
      have HQ := Lib.hid (And.intro q4 (And.intro q2 q3))
      clear q2 q3 q4
      go_wp2_with (at_mapUpdate; refine wpList_mapUpdate_s S3.out 1 rfl rfl _ _ _ rfl rfl (by unfold maxLen; omega) t m rfl rfl (by have := HQ.out.1; unfold maxLen; omega) (wf_mk (by have := HQ.out.2; omega) (by have := HQ.out.2; omega)) ?_; intro w1 S4'; have S4 := Lib.hid S4'; clear S4')
      go_roundw
      case rel => exact ⟨k + 1, by omega, by go_num, by rw [HU.out]; exact sep_two S4.out⟩
      case measure => simp [intOf]; omega
    · obtain rfl : k = n := by omega
      go_wp2_with fail
      go_ret
      have h1 := map_at hrel.out 1 rfl
      rw [List.take_of_length_le (by rw [HN.out]; exact Nat.le_refl _)] at h1
      exact ⟨_, rfl, h1, by omega, hrel.out.old⟩
end Go.Proofs.Ytpapncecfleejaa.L5
