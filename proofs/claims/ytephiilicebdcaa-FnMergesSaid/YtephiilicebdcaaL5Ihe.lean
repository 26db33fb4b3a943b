/-
  The contracts of chapter 5's EqualRecords of the program, and of the library's slices.Equal over fields. Conditions: at most 2^40 fields.
-/
import Derived.Test.YtephiilicebdcaaL5Eql
import Derived.Test.YtephiilicebdcaaPb
namespace Go.Proofs.Ytephiilicebdcaa.L5
set_option maxRecDepth 100000
open L4 (boxR push_box box_at)
open Go.ChangeShapes Go.WideShapes Go.ChangeAt Go.RowKit Mem Sl Ex L2 Sv
set_option linter.unusedVariables false
set_option linter.unusedSimpArgs false

set_option maxHeartbeats 4000000 in
theorem slicesEqualF_any (a b : Option Addr) (c d : Nat) (l m : List F) (hl : l.length ≤ 1099511627776) (hm : m.length ≤ 1099511627776) (w : World) (hr : Reads w w.heap.size a (cellsF l)) (hs : Reads w w.heap.size b (cellsF m)) :
    Calls Try.prog 38 #[.slice a l.length c, .slice b m.length d] w fun e w' => e = .returned (.bool (eqR l m)) ∧ Below w.heap.size w w' := by
  have HR := Lib.hid (fun w' (h : Drew w w') => hr.below (h.below w.heap.size))
  have HS := Lib.hid (fun w' (h : Drew w w') => hs.below (h.below w.heap.size))
  obtain ⟨n, hn⟩ : ∃ n, n = l.length := ⟨_, rfl⟩
  obtain ⟨q, hq⟩ : ∃ q, q = m.length := ⟨_, rfl⟩
  rw [← hn, ← hq]
  rw [← hn] at hl
  rw [← hq] at hm
  have HN := Lib.hid hn
  have HQ := Lib.hid hq
  have hl' : (n : Int) ≤ 1099511627776 := by omega
  have hm' : (q : Int) ≤ 1099511627776 := by omega
  clear hn hq hr hs
  by_cases hlen : (n : Int) = (q : Int)
  · obtain rfl : n = q := by omega
    clear hlen
    go_enter Try.func38, Try.ntmps38
    go_wp2_with fail
    go_loopw [13] (fun i wr => ∃ k : Nat, k ≤ n ∧ i = .int .i64 k ∧ Hid (Drew w wr ∧ ∀ j (h1 : j < l.length) (h2 : j < m.length), j < k → eqF l[j] m[j] = true)) (fun i _ => n - (intOf i).toNat)
    case atStart => exact ⟨0, Nat.zero_le _, rfl, Drew.refl _, fun j _ _ h => by omega⟩
    case round =>
      obtain ⟨k, hk, rfl, hrel⟩ := hrel
      by_cases hlt : (k : Int) < (n : Int)
      · have hkl : k < l.length := by have := HN.out; omega
        have hkm : k < m.length := by have := HQ.out; omega
        obtain ⟨ad, rfl, had, h1, h2⟩ := readsF (HR.out _ hrel.out.1) k hkl
        obtain ⟨bd, rfl, hbd, h3, h4⟩ := readsF (HS.out _ hrel.out.1) k hkm
        obtain ⟨t, ht⟩ : ∃ t, t = l[k].name := ⟨_, rfl⟩
        obtain ⟨x, hx⟩ : ∃ m, m = l[k].n := ⟨_, rfl⟩
        obtain ⟨u, hu⟩ : ∃ t, t = m[k].name := ⟨_, rfl⟩
        obtain ⟨y, hy⟩ : ∃ v, v = m[k].n := ⟨_, rfl⟩
        obtain ⟨bo, hbo⟩ : ∃ b, eqF l[k] m[k] = b := ⟨_, rfl⟩
        have HB := Lib.hid hbo
        have HE := Lib.hid (show (t.toList == u.toList && x == y) = bo by
          rw [← hbo]
          unfold eqF F.t
          rw [← ht, ← hx, ← hu, ← hy, ByteArray.toList_eq, ByteArray.toList_eq])
        rw [← ht] at h1
        rw [← hx] at h2
        rw [← hu] at h3
        rw [← hy] at h4
        clear ht hx hu hy hbo
        have heq := HE.out
        cases bo with
        | true =>
          simp only [Bool.and_eq_true] at heq
          obtain ⟨he1, he2⟩ := heq
          go_wp2_with go_region
          go_roundw
          case rel => exact ⟨k + 1, by omega, by go_num, hrel.out.1.more 1, fun j h1 h2 h => by
            by_cases e : j < k
            · exact hrel.out.2 j h1 h2 e
            · obtain rfl : j = k := by omega
              exact HB.out⟩
          case measure => simp [intOf]; omega
        | false =>
          have HC := Lib.hid (show (t.toList == u.toList) = false ∨ ((t.toList == u.toList) = true ∧ (x == y) = false) by
            cases h : (t.toList == u.toList) with
            | false => exact .inl rfl
            | true => rw [h] at heq; exact .inr ⟨rfl, by simpa using heq⟩)
          clear heq
          rcases HC.out with he1 | ⟨he1, he2⟩
          · go_wp2_with go_region
            go_ret
            exact ⟨by rw [eqR_no k hkl hkm HB.out]; rfl, (hrel.out.1.more 1).below _⟩
          · go_wp2_with go_region
            go_ret
            exact ⟨by rw [eqR_no k hkl hkm HB.out]; rfl, (hrel.out.1.more 1).below _⟩
      · go_wp2_with fail
        go_ret
        exact ⟨by rw [eqR_all (by rw [← HN.out, ← HQ.out]) (fun j h1 h2 => hrel.out.2 j h1 h2 (by have := HN.out; omega))]; rfl, hrel.out.1.below _⟩
  · have hlen' : ((n : Int) == (q : Int)) = false := by rw [beq_eq_false_iff_ne]; exact hlen
    go_enter Try.func38, Try.ntmps38
    go_wp2_with fail
    go_ret
    exact ⟨by rw [eqR_len (by rw [← HN.out, ← HQ.out]; omega)]; rfl, Below.refl _ _⟩
set_option maxHeartbeats 2000000 in
theorem equalRecords_any (a b : Option Addr) (c d : Nat) (l m : List F) (hl : l.length ≤ 1099511627776) (hm : m.length ≤ 1099511627776) (w : World) (hr : Reads w w.heap.size a (cellsF l)) (hs : Reads w w.heap.size b (cellsF m)) :
    Calls Try.prog 12 #[.agg #[.slice a l.length c], .agg #[.slice b m.length d]] w fun e w' => e = .returned (.bool (eqR l m)) ∧ Below w.heap.size w w' := by
  have HE := Lib.hid (fun w' (h : Below w.heap.size w w') => slicesEqualF_any a b c d l m hl hm w' ((hr.below h).more h.size) ((hs.below h).more h.size))
  obtain ⟨n, hn⟩ : ∃ n, n = l.length := ⟨_, rfl⟩
  obtain ⟨q, hq⟩ : ∃ q, q = m.length := ⟨_, rfl⟩
  rw [← hn, ← hq]
  rw [← hn, ← hq] at HE
  obtain ⟨r, hr'⟩ : ∃ r, r = eqR l m := ⟨_, rfl⟩
  rw [← hr'] at HE ⊢
  clear hn hq hr hs hr'
  have S0 := Sep.start w
  have S1 := push_box S0 26 #[.slice a n c] w.heap.size rfl
  have S2 := Lib.hid (push_box S1 26 #[.slice b q d] (w.heap.size + 1) (by simp))
  clear S0 S1
  obtain ⟨W1, hW1⟩ : ∃ u, u = (w.alloc (.cells #[.slice a n c] 26)).alloc (.cells #[.slice b q d] 26) := ⟨_, rfl⟩
  rw [← hW1] at S2
  go_enter Try.func12, Try.ntmps12
  go_upto_region 1 with fail
  rw [← hW1]
  clear hW1
  obtain ⟨r0, r1⟩ := Row.one (box_at S2.out 0 rfl)
  obtain ⟨o0, o1⟩ := Row.one (box_at S2.out 1 rfl)
  go_wp2_with fail
  go_at_call 38
  refine (HE.out _ S2.out.old).mono ?_
  rintro e w3 ⟨rfl, h3⟩
  have S3 := Lib.hid (S2.out.keep h3)
  clear h3 r0 r1 o0 o1
  go_wp2_with fail
  go_ret
  exact ⟨rfl, S3.out.old⟩
end Go.Proofs.Ytephiilicebdcaa.L5
