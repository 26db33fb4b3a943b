/-
  The contracts of the exact laws' helpers for slices of bytes and of ints: a copy (to..S), a comparison (eq..S, of equal lists), marks (mark..S) and a look at the marks (held..S). No condition but a length below 2^40 where numbers are counted.
-/
import Derived.Test.YtpapncecfleejaaSl
namespace Go.Proofs.Ytpapncecfleejaa.Ex
set_option maxRecDepth 100000
open Go.ChangeShapes Go.WideShapes Go.ChangeAt Go.RowKit Mem Sl

/-- The marks: k, k+1, .. as the element's kind has them. -/
def marks (kd : IntKind) (k : Int) (n : Nat) : List Int := (List.range n).map fun (i : Nat) => kd.wrap (k + (i : Int))
@[simp] theorem marks_length (kd : IntKind) (k : Int) (n : Nat) : (marks kd k n).length = n := by simp [marks]
theorem marks_get (kd : IntKind) (k : Int) (n j : Nat) (h : j < n) : (marks kd k n)[j]'(by simpa using h) = kd.wrap (k + (j : Int)) := by simp [marks]

theorem set_step {α : Type} (x : α) (p q : List α) (y : α) (k : Nat) (hk : p.length = k) : (p ++ y :: q).set k x = (p ++ [x]) ++ q := by
  subst hk
  simp

theorem infoOf (e : TypeId) (z : Value) (s b : Nat) (h : (Try.prog.info? e).map (fun i => (i.zero, i.size, i.bytes)) = some (some z, s, b)) : ∃ i, Try.prog.info? e = some i ∧ i.zero = some z ∧ i.size = s ∧ i.bytes = b := info_parts h

theorem ret_slice {a : Option Addr} {n m c : Nat} (h : n = m) : Ending.returned (.slice a n c) = .returned (.slice a m c) := by rw [h]
theorem replicate_cons {α : Type} (x : α) (n k : Nat) (h : k < n) : List.replicate (n - k) x = x :: List.replicate (n - (k + 1)) x := by
  rw [show n - k = (n - (k + 1)) + 1 by omega, List.replicate_succ]

theorem infoByteS : (Try.prog.info? 5).map (fun i => (i.zero, i.size, i.bytes)) = some (some (.int .u8 0), 1, 1) := by kernel_rfl
theorem toByteS_any (a : Option Addr) (c : Nat) (l : List Int) (w : World) (hr : Reads w w.heap.size a (ints .u8 l)) (hl : l.length ≤ 1099511627776) :
    Calls Try.prog 44 #[.slice a l.length c] w fun e w' => ∃ a' c', e = .returned (.slice a' l.length c') ∧ Own w' w.heap.size 5 .u8 a' c' l ∧ Below w.heap.size w w' := by
  obtain ⟨i0, hi, hz0, hz1, hz2⟩ := infoOf _ _ _ _ infoByteS
  obtain ⟨n, hn⟩ : ∃ n, n = l.length := ⟨_, rfl⟩
  rw [← hn]
  have HN := Lib.hid hn
  have hl' : n ≤ 1099511627776 := by omega
  clear hn hl
  have HR := Lib.hid hr
  clear hr
  go_enter Try.func44, Try.ntmps44
  go_wp2_with (at_make; refine wpList_make_full _ rfl _ _ 22 rfl w.heap.size 5 i0 (.int .u8 0) 1 Try.underlying22 hi hz0 hz1 _ _ _ _ n rfl rfl rfl rfl (by rw [hz2]; omega) (by unfold maxLen; omega) (Nat.le_refl _) ?_; intro w1 hown hgrow)
  rw [show (Value.int .u8 0).cells = #[.int .u8 0] from rfl, Nat.mul_one, toList_madeCells_one] at hown
  have hB := (Below.refl w.heap.size w).grown hgrow (Nat.le_refl _) (by simp)
  clear hgrow
  have H0 := Lib.hid (And.intro hown hB)
  clear hown hB
  go_loopw [4] (fun i wr => ∃ k : Nat, k ≤ n ∧ i = .int .i64 k ∧ Hid (wr.ownsRow w.heap.size 5 1 (.slice (some ⟨w.heap.size, 0, none⟩) n n) n (ints .u8 (l.take k) ++ List.replicate (n - k) (.int .u8 0)) ∧ Below w.heap.size w wr)) (fun i _ => n - (intOf i).toNat)
  case atStart => exact ⟨0, Nat.zero_le _, rfl, by simpa [ints] using H0.out.1, H0.out.2⟩
  case round =>
    obtain ⟨k, hk, rfl, hrel⟩ := hrel
    obtain ⟨hown, hB⟩ := hrel.out
    by_cases hlt : k < n
    · have hr := (HR.out.below hB).int k (by have := HN.out; omega)
      obtain ⟨ad, rfl, -, hcell⟩ := hr
      have hc0 := hown.cellAt k (by omega)
      have hf0 := hown.frozenAt k
      have hst := hown.stored k (.int .u8 (l[k]'(by have := HN.out; omega)))
      have hlen : (ints .u8 (l.take k)).length = k := by have := HN.out; simp; omega
      rw [List.getElem?_append_right (by omega), hlen, Nat.sub_self, List.getElem?_replicate, if_pos (by omega)] at hc0
      rw [replicate_cons _ _ _ hlt, set_step _ _ _ _ _ hlen] at hst
      have HS := Lib.hid hst
      clear hst hlen hown hrel
      obtain ⟨x, hx⟩ : ∃ x, x = l[k]'(by have := HN.out; omega) := ⟨_, rfl⟩
      rw [← hx] at hcell HS
      have HX := Lib.hid hx
      clear hx
      go_wp2
      go_roundw
      case rel =>
        refine ⟨k + 1, by omega, by go_num, And.intro ?_ ?_⟩
        · have h1 := HS.out.1
          have e1 : ints .u8 (l.take k) ++ [Value.int .u8 x] = ints .u8 (l.take (k + 1)) := by
            rw [List.take_succ_eq_append_getElem (by have := HN.out; omega), ints_append, ← HX.out]
            rfl
          rw [e1] at h1
          exact h1
        · exact hB.grown HS.out.2 hB.size (by simp)
      case measure => simp [intOf]; omega
    · go_wp2
      go_ret
      obtain rfl : k = n := by omega
      refine ⟨_, _, rfl, ?_, hB⟩
      have hl0 := HN.out
      have e1 : l.take k = l := by rw [hl0, List.take_length]
      rw [e1, Nat.sub_self, List.replicate_zero, List.append_nil] at hown
      rw [hl0] at hown ⊢
      exact hown

/-- From w to w' nothing but draws. -/
def Drew (w w' : World) : Prop := ∃ n, w' = w.drewN n
theorem Drew.refl (w : World) : Drew w w := ⟨0, rfl⟩
theorem Drew.more {w w1 : World} (h : Drew w w1) (n : Nat) : Drew w (w1.drewN n) := by
  obtain ⟨m, rfl⟩ := h
  exact ⟨m + n, World.drewN_drewN ..⟩
theorem Drew.below {w w' : World} (h : Drew w w') (B : Nat) : Below B w w' := by
  obtain ⟨n, rfl⟩ := h
  exact ⟨rfl, rfl, rfl, Nat.le_refl _, fun _ _ => rfl⟩
theorem Drew.trans {w w1 w2 : World} (h : Drew w w1) (k : Drew w1 w2) : Drew w w2 := by
  obtain ⟨n, rfl⟩ := k
  exact h.more n

theorem take_eq_step {l m : List Int} {k : Nat} (hl : k < l.length) (hm : k < m.length) (h : l.take k = m.take k) (e : l[k] = m[k]) : l.take (k + 1) = m.take (k + 1) := by
  rw [List.take_succ_eq_append_getElem hl, List.take_succ_eq_append_getElem hm, h, e]
theorem eq_of_take {l m : List Int} (hn : l.length = m.length) (h : l.take l.length = m.take l.length) : l = m := by
  rw [List.take_length, hn, List.take_length] at h
  exact h
def eqB (l m : List Int) : Bool := decide (l = m)
theorem eqB_true {l m : List Int} (h : l = m) : eqB l m = true := decide_eq_true h
theorem eqB_false {l m : List Int} (h : l ≠ m) : eqB l m = false := decide_eq_false h

set_option maxHeartbeats 400000 in
theorem eqByteS_any (a a2 : Option Addr) (c c2 : Nat) (l m : List Int) (w : World) (B : Nat) (hr : Reads w B a (ints .u8 l)) (hr2 : Reads w B a2 (ints .u8 m)) (hl : l.length ≤ 4611686018427387904) (hm : m.length ≤ 4611686018427387904) :
    Calls Try.prog 40 #[.slice a l.length c, .slice a2 m.length c2] w fun e w' => e = .returned (.bool (eqB l m)) ∧ Drew w w' := by
  obtain ⟨n, hn⟩ : ∃ n, n = l.length := ⟨_, rfl⟩
  obtain ⟨n2, hn2⟩ : ∃ n, n = m.length := ⟨_, rfl⟩
  have hl' : n ≤ 4611686018427387904 := by omega
  have hm' : n2 ≤ 4611686018427387904 := by omega
  obtain ⟨b, hb⟩ : ∃ b, b = eqB l m := ⟨_, rfl⟩
  rw [← hb, ← hn, ← hn2]
  have HN := Lib.hid hn
  have HN2 := Lib.hid hn2
  have HB := Lib.hid hb
  have HR := Lib.hid (And.intro hr hr2)
  clear hn hn2 hr hr2 hl hm hb
  by_cases hlen : n = n2
  · subst hlen
    go_enter Try.func40, Try.ntmps40
    go_wp2
    go_loopw [5] (fun i wr => ∃ k : Nat, k ≤ n ∧ i = .int .i64 k ∧ Hid (l.take k = m.take k ∧ Drew w wr)) (fun i _ => n - (intOf i).toNat)
    case atStart => exact ⟨0, Nat.zero_le _, rfl, by simp, Drew.refl w⟩
    case round =>
      obtain ⟨k, hk, rfl, hrel⟩ := hrel
      obtain ⟨htk, hD⟩ := hrel.out
      have HT := Lib.hid htk
      have HD := Lib.hid hD
      clear htk hrel
      by_cases hlt : k < n
      · obtain ⟨ad, rfl, -, hcell⟩ := (HR.out.1.below (hD.below B)).int k (by have := HN.out; omega)
        obtain ⟨ad2, rfl, -, hcell2⟩ := (HR.out.2.below (hD.below B)).int k (by have := HN2.out; omega)
        clear hD
        obtain ⟨x, hx⟩ : ∃ x, x = l[k]'(by have := HN.out; omega) := ⟨_, rfl⟩
        obtain ⟨y, hy⟩ : ∃ y, y = m[k]'(by have := HN2.out; omega) := ⟨_, rfl⟩
        rw [← hx] at hcell
        rw [← hy] at hcell2
        have HX := Lib.hid hx
        have HY := Lib.hid hy
        clear hx hy
        have hkn : (k : Int) < n := by omega
        by_cases hxy : x = y
        · subst hxy
          go_wp2
          go_quiet (fail)
          go_wp2
          go_roundw
          case rel =>
            exact ⟨k + 1, by omega, by go_num, take_eq_step (by have := HN.out; omega) (by have := HN2.out; omega) HT.out (HX.out.symm.trans HY.out), HD.out.more _⟩
          case measure => simp [intOf]; omega
        · have hne : (x == y) = false := by simpa using hxy
          go_wp2
          go_quiet (fail)
          go_wp2
          go_ret
          refine ⟨?_, HD.out.more _⟩
          obtain rfl : b = false := by
            rw [HB.out]
            exact eqB_false (fun e => hxy (by rw [HX.out, HY.out]; subst e; rfl))
          rfl
      · clear hD
        go_wp2
        go_ret
        obtain rfl : k = n := by omega
        refine ⟨?_, HD.out⟩
        obtain rfl : b = true := by
          rw [HB.out]
          have h1 := HT.out
          rw [HN.out] at h1
          exact eqB_true (eq_of_take (HN.out.symm.trans HN2.out) h1)
        rfl
  · have hne : ((n : Int) == (n2 : Int)) = false := by simp; omega
    go_enter Try.func40, Try.ntmps40
    go_wp2
    go_ret
    refine ⟨?_, Drew.refl w⟩
    obtain rfl : b = false := by
      rw [HB.out]
      exact eqB_false (fun e => hlen (by rw [HN.out, HN2.out, e]))
    rfl
set_option maxHeartbeats 400000 in
theorem sameBytes_any (a a2 : Option Addr) (c c2 : Nat) (l m : List Int) (w : World) (B : Nat) (hr : Reads w B a (ints .u8 l)) (hr2 : Reads w B a2 (ints .u8 m)) (hl : l.length ≤ 4611686018427387904) (hm : m.length ≤ 4611686018427387904) :
    Calls Try.prog 25 #[.slice a l.length c, .slice a2 m.length c2] w fun e w' => e = .returned (.bool (eqB l m)) ∧ Drew w w' := by
  obtain ⟨n, hn⟩ : ∃ n, n = l.length := ⟨_, rfl⟩
  obtain ⟨n2, hn2⟩ : ∃ n, n = m.length := ⟨_, rfl⟩
  have hl' : n ≤ 4611686018427387904 := by omega
  have hm' : n2 ≤ 4611686018427387904 := by omega
  obtain ⟨b, hb⟩ : ∃ b, b = eqB l m := ⟨_, rfl⟩
  rw [← hb, ← hn, ← hn2]
  have HN := Lib.hid hn
  have HN2 := Lib.hid hn2
  have HB := Lib.hid hb
  have HR := Lib.hid (And.intro hr hr2)
  clear hn hn2 hr hr2 hl hm hb
  by_cases hlen : n = n2
  · subst hlen
    go_enter Try.func25, Try.ntmps25
    go_wp2
    go_loopw [5] (fun i wr => ∃ k : Nat, k ≤ n ∧ i = .int .i64 k ∧ Hid (l.take k = m.take k ∧ Drew w wr)) (fun i _ => n - (intOf i).toNat)
    case atStart => exact ⟨0, Nat.zero_le _, rfl, by simp, Drew.refl w⟩
    case round =>
      obtain ⟨k, hk, rfl, hrel⟩ := hrel
      obtain ⟨htk, hD⟩ := hrel.out
      have HT := Lib.hid htk
      have HD := Lib.hid hD
      clear htk hrel
      by_cases hlt : k < n
      · obtain ⟨ad, rfl, -, hcell⟩ := (HR.out.1.below (hD.below B)).int k (by have := HN.out; omega)
        obtain ⟨ad2, rfl, -, hcell2⟩ := (HR.out.2.below (hD.below B)).int k (by have := HN2.out; omega)
        clear hD
        obtain ⟨x, hx⟩ : ∃ x, x = l[k]'(by have := HN.out; omega) := ⟨_, rfl⟩
        obtain ⟨y, hy⟩ : ∃ y, y = m[k]'(by have := HN2.out; omega) := ⟨_, rfl⟩
        rw [← hx] at hcell
        rw [← hy] at hcell2
        have HX := Lib.hid hx
        have HY := Lib.hid hy
        clear hx hy
        have hkn : (k : Int) < n := by omega
        by_cases hxy : x = y
        · subst hxy
          go_wp2
          go_quiet (fail)
          go_wp2
          go_roundw
          case rel =>
            exact ⟨k + 1, by omega, by go_num, take_eq_step (by have := HN.out; omega) (by have := HN2.out; omega) HT.out (HX.out.symm.trans HY.out), HD.out.more _⟩
          case measure => simp [intOf]; omega
        · have hne : (x == y) = false := by simpa using hxy
          go_wp2
          go_quiet (fail)
          go_wp2
          go_ret
          refine ⟨?_, HD.out.more _⟩
          obtain rfl : b = false := by
            rw [HB.out]
            exact eqB_false (fun e => hxy (by rw [HX.out, HY.out]; subst e; rfl))
          rfl
      · clear hD
        go_wp2
        go_ret
        obtain rfl : k = n := by omega
        refine ⟨?_, HD.out⟩
        obtain rfl : b = true := by
          rw [HB.out]
          have h1 := HT.out
          rw [HN.out] at h1
          exact eqB_true (eq_of_take (HN.out.symm.trans HN2.out) h1)
        rfl
  · have hne : ((n : Int) == (n2 : Int)) = false := by simp; omega
    go_enter Try.func25, Try.ntmps25
    go_wp2
    go_ret
    refine ⟨?_, Drew.refl w⟩
    obtain rfl : b = false := by
      rw [HB.out]
      exact eqB_false (fun e => hlen (by rw [HN.out, HN2.out, e]))
    rfl

theorem marks_step (kd : IntKind) (k : Int) (n : Nat) : marks kd k (n + 1) = marks kd k n ++ [kd.wrap (k + (n : Int))] := by
  simp [marks, List.range_succ]

set_option maxHeartbeats 400000 in
theorem markByteS_any (a : Option Addr) (c : Nat) (l : List Int) (k : Int) (w : World) (h : Own w 0 5 .u8 a c l) (hl : l.length ≤ 1099511627776) (hk0 : 0 ≤ k) (hk1 : k ≤ 4611686018427387904) :
    Calls Try.prog 41 #[.slice a l.length c, .int .i64 k] w fun e w' => e = .returned (.int .i64 (k + l.length)) ∧ Own w' 0 5 .u8 a c (marks .u8 k l.length) ∧ Turned (Value.slice a l.length c).ownBlock.toList w w' := by
  rcases h.form with ⟨rfl, rfl, rfl⟩ | ⟨g, rfl, -, hg, -, -⟩
  · have H := Lib.hid h
    clear h
    go_enter Try.func41, Try.ntmps41
    go_wp2
    refine wp_loop_rounds 1 ?_
    rw [rounds_succ]
    go_wp2
    go_ret
    exact ⟨by simp, H.out, Turned.refl _ _⟩
  · obtain ⟨n, hn⟩ : ∃ n, n = l.length := ⟨_, rfl⟩
    have hl' : n ≤ 1099511627776 := by omega
    unfold Own at h
    rw [← hn] at h ⊢
    have hlen : (ints .u8 l).length = n := by simp [hn]
    obtain ⟨L, hL⟩ : ∃ L, L = ints .u8 l := ⟨_, rfl⟩
    rw [← hL] at h hlen
    have H := Lib.hid h
    have HL := Lib.hid hlen
    clear h hn hl hL hlen
    go_enter Try.func41, Try.ntmps41
    go_wp2
    go_loopw [1, 5] (fun v i wr => ∃ j : Nat, j ≤ n ∧ i = .int .i64 j ∧ v = .int .i64 (k + j) ∧ Hid (wr.ownsRow 0 5 1 (.slice (some ⟨g, 0, none⟩) n c) n (ints .u8 (marks .u8 k j) ++ L.drop j) ∧ w.grownBy wr (some g))) (fun _ i _ => n - (intOf i).toNat)
    case atStart => exact ⟨0, Nat.zero_le _, rfl, by simp, by simpa [marks, ints] using H.out, grownBy_refl w _⟩
    case round =>
      obtain ⟨j, hj, rfl, rfl, hrel⟩ := hrel
      obtain ⟨hown, hgr⟩ := hrel.out
      by_cases hlt : j < n
      · have hc0 := hown.cellAt j (by omega)
        have hf0 := hown.frozenAt j
        have hst := hown.stored j (.int .u8 (IntKind.u8.wrap (k + j)))
        try rw [show IntKind.i64.wrap (k + (j : Int)) = k + (j : Int) from IntWalk.i64_in _ ⟨by omega, by omega⟩] at hst
        have hlen : (ints .u8 (marks .u8 k j)).length = j := by simp
        have hcell : ∃ u, (ints .u8 (marks .u8 k j) ++ L.drop j)[j]? = some u := by
          rw [List.getElem?_append_right (by omega), hlen, Nat.sub_self]
          exact ⟨_, List.getElem?_eq_getElem (by have := HL.out; simp; omega)⟩
        obtain ⟨u, hu⟩ := hcell
        rw [hu] at hc0
        have hdr : L.drop j = L[j]'(by have := HL.out; omega) :: L.drop (j + 1) := List.drop_eq_getElem_cons (by have := HL.out; omega)
        rw [hdr, set_step _ _ _ _ _ hlen] at hst
        have HS := Lib.hid (And.intro hst (And.intro hgr hown.frozenAt))
        clear hst hlen hown hrel hu hdr hgr
        go_wp2
        go_roundw
        case rel =>
          refine ⟨j + 1, by omega, by go_num, by go_num, And.intro ?_ ?_⟩
          · have h1 := HS.out.1.1
            rw [marks_step, ints_append]
            first
            | exact h1
            | (rw [show IntKind.i64.wrap (k + (j : Int)) = k + (j : Int) from IntWalk.i64_in _ ⟨by omega, by omega⟩]; exact h1)
          · exact grownBy_step HS.out.2.1 HS.out.1.2
        case measure => simp [intOf]; omega
      · go_wp2
        go_ret
        obtain rfl : j = n := by omega
        refine ⟨rfl, ?_, Turned.of_grown hgr⟩
        rw [List.drop_eq_nil_of_le (by have := HL.out; omega), List.append_nil] at hown
        unfold Own
        rw [marks_length]
        exact hown
set_option maxHeartbeats 400000 in
theorem heldByteS_any (a : Option Addr) (c n : Nat) (k : Int) (w : World) (B : Nat) (h : Reads w B a (ints .u8 (marks .u8 k n))) (hl : n ≤ 1099511627776) (hk0 : 0 ≤ k) (hk1 : k ≤ 4611686018427387904) :
    Calls Try.prog 42 #[.slice a n c, .int .i64 k] w fun e w' => e = .returned (.int .i64 (k + n)) ∧ Drew w w' := by
  have H := Lib.hid h
  clear h
  go_enter Try.func42, Try.ntmps42
  go_wp2
  go_loopw [1, 5] (fun v i wr => ∃ j : Nat, j ≤ n ∧ i = .int .i64 j ∧ v = .int .i64 (k + j) ∧ Hid (Drew w wr)) (fun _ i _ => n - (intOf i).toNat)
  case atStart => exact ⟨0, Nat.zero_le _, rfl, by simp, Drew.refl w⟩
  case round =>
    obtain ⟨j, hj, rfl, rfl, hrel⟩ := hrel
    by_cases hlt : j < n
    · obtain ⟨ad, rfl, -, hcell⟩ := (H.out.below (hrel.out.below B)).int j (by simpa using hlt)
      rw [marks_get _ _ _ _ hlt] at hcell
      go_wp2
      go_roundw
      case rel => exact ⟨j + 1, by omega, by go_num, by go_num, hrel.out⟩
      case measure => simp [intOf]; omega
    · go_wp2
      go_ret
      obtain rfl : j = n := by omega
      exact ⟨rfl, hrel.out⟩

end Go.Proofs.Ytpapncecfleejaa.Ex
