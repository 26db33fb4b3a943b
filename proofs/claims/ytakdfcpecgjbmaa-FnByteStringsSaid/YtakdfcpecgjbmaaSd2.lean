/-
  More steps over several owned things: a maker's result, a thing let go; the laws' helpers at, big, sameBytes, sameInts; chapter 2's draws. No condition but that the code is a slice of bytes of at most 2^20 places where 'at' counts.
-/
import Derived.Test.YtakdfcpecgjbmaaSd
import Derived.Test.YtakdfcpecgjbmaaL2Rd2
namespace Go.Proofs.Ytakdfcpecgjbmaa.Sd
open Go.ChangeShapes Go.WideShapes Go.ChangeAt Go.RowKit Mem Sl Ex Draw L2

section
variable {W w w' : World} {rs ts : List Res} {r : Res}
theorem Sep_of {rs' : List Res} (h : Sep W w rs) (f : Nat → Nat) (hinj : ∀ i j, f i = f j → i = j) (hf : ∀ i s, rs'[i]? = some s → rs[f i]? = some s) : Sep W w rs' :=
  ⟨h.old, fun i s hi => h.is _ s (hf i s hi), fun i s hi => h.lies _ s (hf i s hi), fun i j s t hi hj hne => h.apart _ _ s t (hf i s hi) (hf j t hj) (fun e => hne (hinj _ _ e))⟩
/-- A thing is let go. -/
theorem drop (h : Sep W w (rs ++ r :: ts)) : Sep W w (rs ++ ts) := by
  refine Sep_of h (fun i => if i < rs.length then i else i + 1) (fun i j e => ?_) (fun i s hi => ?_)
  · split at e <;> split at e <;> omega
  · by_cases hl : i < rs.length
    · rw [if_pos hl, List.getElem?_append_left hl]
      rw [List.getElem?_append_left hl] at hi
      exact hi
    · rw [if_neg hl]
      rw [List.getElem?_append_right (by omega)] at hi ⊢
      rw [show i + 1 - rs.length = (i - rs.length) + 1 by omega, List.getElem?_cons_succ]
      exact hi
end

theorem drew_s {W w : World} {rs : List Res} (h : Sep W w rs) : Sep W w.drew rs := h.keep ⟨rfl, rfl, rfl, Nat.le_refl _, fun _ _ => rfl⟩

section
variable {W w : World} {rs : List Res} {F : Nat} {args : Array Value} {e : TypeId} {k : IntKind}
theorem gave {r : List Int} (h : Sep W w rs) (hC : Calls Try.prog F args w (Gave w w.heap.size e k r)) :
    Calls Try.prog F args w fun en w' => ∃ a c x, en = .returned (.slice a x.length c) ∧ Hid (x = r) ∧ Sep W w' (rs ++ [own e k a c x]) :=
  hC.mono fun _ _ ⟨a, c, he, ho, hb⟩ => ⟨a, c, r, he, rfl, h.pushOwn hb ho⟩
theorem gaveT {r : List Int} {v : Int} {b : Bool} (h : Sep W w rs) (hC : Calls Try.prog F args w (GaveT w w.heap.size e k r v b)) :
    Calls Try.prog F args w fun en w' => ∃ a c x n m, en = .returned (.tuple #[.slice a x.length c, .int .i64 n, .bool m]) ∧ Hid (x = r ∧ n = v ∧ m = b) ∧ Sep W w' (rs ++ [own e k a c x]) :=
  hC.mono fun _ _ ⟨a, c, he, ho, hb⟩ => ⟨a, c, r, v, b, he, ⟨rfl, rfl, rfl⟩, h.pushOwn hb ho⟩
end

section
variable {W w : World} {rs : List Res} {a : Option Addr} {len : Nat}
theorem big_s (cap : Nat) (h : Sep W w rs) :
    Calls Try.prog 13 #[.slice a len cap] w fun e w' => e = .returned (.bool (decide (len > 1048576))) ∧ Sep W w' rs := by
  have H := Lib.hid h
  clear h
  by_cases h : (len : Int) > 1048576
  · have h' : decide (len > 1048576) = true := decide_eq_true (by omega)
    rw [h']
    go_enter Try.func13, Try.ntmps13
    go_wp2
    go_ret
    exact ⟨rfl, H.out⟩
  · have h' : decide (len > 1048576) = false := decide_eq_false (by omega)
    rw [h']
    go_enter Try.func13, Try.ntmps13
    go_wp2
    go_ret
    exact ⟨rfl, H.out⟩
theorem at_s (cap : Nat) (hl : len ≤ 1048576) (hby : Bytes W W.heap.size a len) (h : Sep W w rs) (i : Int) (h0 : 0 ≤ i) (h1 : i ≤ 1000000) :
    Calls Try.prog 23 #[.slice a len cap, .int .i64 i] w fun e w' => ∃ n, e = .returned (.int .i64 n) ∧ (0 ≤ n ∧ n ≤ 255) ∧ Sep W w' rs := by
  have H := Lib.hid h
  obtain ⟨j, rfl⟩ : ∃ j : Nat, i = j := ⟨i.toNat, by omega⟩
  by_cases hlt : j < len
  · obtain ⟨ad, n, rfl, -, hc, hn0, hn1⟩ := (hby.below h.old) j hlt
    clear h hby
    go_enter Try.func23, Try.ntmps23
    go_wp2
    go_ret
    exact ⟨_, rfl, ⟨hn0, hn1⟩, by first | exact H.out | exact H.out.drews _⟩
  · clear h hby
    go_enter Try.func23, Try.ntmps23
    go_wp2
    go_ret
    exact ⟨_, rfl, by first | omega | (constructor <;> omega), by first | exact H.out | exact H.out.drews _⟩
end

section
variable {W w : World} {rs : List Res}
/-- Two lists that the call can read, equal. -/
theorem sameBytes_s (h : Sep W w rs) {a a2 : Option Addr} {l m : List Int} (n n2 c c2 : Nat) (B : Nat) (hn : n = l.length) (hn2 : n2 = m.length) (hr : Reads w B a (ints .u8 l)) (hr2 : Reads w B a2 (ints .u8 m)) (he : l = m) (hl : l.length ≤ 1099511627776) :
    Calls Try.prog 17 #[.slice a n c, .slice a2 n2 c2] w fun e w' => e = .returned (.bool true) ∧ Sep W w' rs := by
  subst he
  subst hn
  subst hn2
  exact (sameBytes_any a a2 c c2 l l w B hr hr2 (by omega) (by omega)).mono fun _ _ ⟨he, hd⟩ => ⟨by rw [he, eqB_true rfl], Law.Sep.drew h hd⟩
/-- Two lists that the call can read, equal. -/
theorem sameInts_s (h : Sep W w rs) {a a2 : Option Addr} {l m : List Int} (n n2 c c2 : Nat) (B : Nat) (hn : n = l.length) (hn2 : n2 = m.length) (hr : Reads w B a (ints .i64 l)) (hr2 : Reads w B a2 (ints .i64 m)) (he : l = m) (hl : l.length ≤ 1099511627776) :
    Calls Try.prog 26 #[.slice a n c, .slice a2 n2 c2] w fun e w' => e = .returned (.bool true) ∧ Sep W w' rs := by
  subst he
  subst hn
  subst hn2
  exact (sameInts_any a a2 c c2 l l w B hr hr2 (by omega) (by omega)).mono fun _ _ ⟨he, hd⟩ => ⟨by rw [he, eqB_true rfl], Law.Sep.drew h hd⟩
end

/-! ### chapter 2's draws -/
section
variable {W w : World} {rs : List Res} {a : Option Addr} {len : Nat}
theorem drawAppendUvarint_s (cap : Nat) (hl : len ≤ 4611686018427387904) (hby : Bytes W W.heap.size a len) (h : Sep W w rs) :
    Calls Try.prog 14 #[.slice a len cap] w fun e w' => ∃ a1 c1 l n, e = .returned (.tuple #[.slice a1 l.length c1, .int .i64 n]) ∧ (Byts l ∧ l.length ≤ 2) ∧ (-9223372036854775808 ≤ n ∧ n ≤ 9223372036854775807) ∧ Sep W w' (rs ++ [own 5 .u8 a1 c1 l]) := by
  go_enter Try.func14, Try.ntmps14
  go_wp2_with (first | (go_at_call 44; refine (new_s h a len cap hl hby).mono ?_; rintro e w1 ⟨c, rfl, h1⟩) | (go_at_call 46; refine (below_s h1 rs.length (at_last _ _) _ (by decide) (by decide)).mono ?_; rintro e w2 ⟨n, rfl, ⟨hn0, hn1⟩, h2⟩) | (go_at_call 45; refine (bytes_s h2 rs.length (at_last _ _) _ (by omega)).mono ?_; rintro e w3 ⟨a1, c1, l, rfl, hl1, hb1, h3⟩) | (go_at_call 47; refine (one_s h3 rs.length (at_left (at_last _ _))).mono ?_; rintro e w4 ⟨x, rfl, hx, h4⟩))
  go_ret2
  rw [List.append_assoc, List.singleton_append] at h4
  exact ⟨_, _, _, _, rfl, ⟨hb1, by omega⟩, hx, drop h4⟩
theorem drawAppendBytes_s (cap : Nat) (hl : len ≤ 4611686018427387904) (hby : Bytes W W.heap.size a len) (h : Sep W w rs) :
    Calls Try.prog 20 #[.slice a len cap] w fun e w' => ∃ a1 c1 l a2 c2 m, e = .returned (.tuple #[.slice a1 l.length c1, .slice a2 m.length c2]) ∧ (Byts l ∧ l.length ≤ 2) ∧ (Byts m ∧ m.length ≤ 5) ∧ Sep W w' (rs ++ [own 5 .u8 a1 c1 l, own 5 .u8 a2 c2 m]) := by
  go_enter Try.func20, Try.ntmps20
  go_wp2_with fail
  go_at_call 44
  refine (new_s h a len cap hl hby).mono ?_
  rintro e w1 ⟨c, rfl, h1⟩
  clear h
  go_wp2_with fail
  go_at_call 46
  refine (below_s h1 rs.length (at_last _ _) _ (by decide) (by decide)).mono ?_
  rintro e w2 ⟨n, rfl, ⟨hn0, hn1⟩, h2⟩
  clear h1
  go_wp2_with fail
  go_at_call 45
  refine (bytes_s h2 rs.length (at_last _ _) _ (by omega)).mono ?_
  rintro e w3 ⟨a1, c1, l, rfl, hl1, hb1, h3⟩
  clear h2
  go_wp2_with fail
  go_at_call 46
  refine (below_s h3 rs.length (at_left (at_last _ _)) _ (by decide) (by decide)).mono ?_
  rintro e w4 ⟨n2, rfl, ⟨hn2, hn3⟩, h4⟩
  clear h3
  go_wp2_with fail
  go_at_call 45
  refine (bytes_s h4 rs.length (at_left (at_last _ _)) _ (by omega)).mono ?_
  rintro e w5 ⟨a2, c2, m, rfl, hl2, hb2, h5⟩
  clear h4
  go_wp2_with fail
  go_ret2
  rw [List.append_assoc, List.append_assoc, List.singleton_append, List.singleton_append] at h5
  exact ⟨_, _, _, _, _, _, rfl, ⟨hb1, by omega⟩, ⟨hb2, by omega⟩, drop h5⟩
theorem drawReadUvarint_s (cap : Nat) (hl : len ≤ 4611686018427387904) (hby : Bytes W W.heap.size a len) (h : Sep W w rs) :
    Calls Try.prog 18 #[.slice a len cap] w fun e w' => ∃ a1 c1 l n, e = .returned (.tuple #[.slice a1 l.length c1, .int .i64 n]) ∧ (Byts l ∧ l.length ≤ 7) ∧ (-1 ≤ n ∧ n ≤ 2) ∧ Sep W w' (rs ++ [own 5 .u8 a1 c1 l]) := by
  obtain ⟨i0, hi0, hz0, hz1, hz2⟩ := infoOf _ _ _ _ infoB
  go_enter Try.func18, Try.ntmps18
  go_wp2_with fail
  go_at_call 44
  refine (new_s h a len cap hl hby).mono ?_
  rintro e w1 ⟨c, rfl, h1⟩
  clear h
  go_wp2_with fail
  go_at_call 52
  refine (once_s h1 rs.length (at_last _ _) _ (by decide) (by decide)).mono ?_
  rintro e w2 ⟨b, rfl, h2⟩
  clear h1
  cases b
  · go_wp2_with (go_at_call 46; refine (below_s (push_made h2 5 .u8) rs.length (at_left (at_last _ _)) _ (by decide) (by decide)).mono ?_; rintro e w3 ⟨k, rfl, ⟨hk0, hk1⟩, h3⟩)
    obtain ⟨k, rfl⟩ : ∃ j : Nat, k = j := ⟨k.toNat, by omega⟩
    have H3 := Lib.hid h3
    have hg : w2.heap.size < 18446744073709551616 ∨ True := .inr trivial
    clear h3 h2
    go_loopw [5, 6] (fun s v wr => ∃ (j : Nat) (a1 : Option Addr) (c1 n1 : Nat), j ≤ 7 ∧ v = .int .i64 j ∧ s = .slice a1 n1 c1 ∧ n1 + j ≤ 7 ∧ Hid (∃ l1 : List Int, Sep W wr ((rs ++ [curR W c]) ++ [own 5 .u8 a1 c1 l1]) ∧ l1.length = n1 ∧ Byts l1)) (fun _ v _ => (intOf v).toNat)
    case atStart => exact ⟨k, _, _, 0, by omega, rfl, rfl, by omega, [], H3.out, rfl, fun x hx => by simp at hx⟩
    case round =>
      obtain ⟨j, a1, c1, n1, hj, rfl, rfl, hle, hrel⟩ := hrel
      obtain ⟨l1, hS, hl1, hb1⟩ := hrel.out
      clear hrel
      have HB := Lib.hid hb1
      clear hb1
      by_cases hlt : (0 : Int) < j
      · go_wp2_with (first | (go_at_call 54; refine (int_s hS rs.length (at_left (at_last _ _)) [128, 255, 0, 1, 127] (fun v => 0 ≤ v ∧ v ≤ 255) (by decide) (by decide) (by decide)).mono ?_; rintro e w4 ⟨x, rfl, ⟨hx0, hx1⟩, hS1⟩) | (at_builtin; refine wpList_append_sep _ rfl _ _ 22 rfl 5 i0 (.int .u8 0) 1 Try.underlying22 hi0 hz0 hz1 hz2 rfl .u8 a1 n1 c1 l1 rfl hl1.symm W _ (hS1.alloc _) (rs ++ [curR W c]).length (at_last _ _) _ _ 1 1 [_] rfl rfl (reads_one _ _ _ _) (by simp [maxLen]; omega) (by simp; omega) ?_; intro a2 c2 w5 hS2))
        rw [set_last] at hS2
        have HH := Lib.hid (And.intro hS2 (HB.out.snoc (x := x) hx0 hx1))
        clear hS2 hS1 hS
        go_roundw
        case rel => exact ⟨j - 1, a2, c2, n1 + 1, by omega, by go_num, rfl, by omega, _, HH.out.1, by simp [hl1], HH.out.2⟩
        case measure => simp [intOf]; omega
      · go_wp2_with (go_at_call 46; refine (below_s hS rs.length (at_left (at_last _ _)) _ (by decide) (by decide)).mono ?_; rintro e w4 ⟨x, rfl, ⟨hx0, hx1⟩, hS1⟩)
        go_ret2
        rw [List.append_assoc, List.singleton_append] at hS1
        exact ⟨_, _, l1, _, by rw [hl1]; rfl, ⟨HB.out, by omega⟩, ⟨by omega, by omega⟩, drop hS1⟩
  · go_wp2_with fail
    go_at_call 45
    refine (bytes_s h2 rs.length (at_last _ _) _ (by omega)).mono ?_
    rintro e w3 ⟨a1, c1, l, rfl, hl1, hb1, h3⟩
    clear h2
    go_wp2_with fail
    go_at_call 53
    refine (num_s h3 rs.length (at_left (at_last _ _))).mono ?_
    rintro e w4 ⟨n, rfl, ⟨hn0, hn1⟩, h4⟩
    clear h3
    go_wp2_with fail
    go_at_call 27
    refine (gave h4 (specAppendUvarint_any a1 c1 l n _ (h4.own _ (at_last _ _)).reads (by omega))).mono ?_
    rintro e w5 ⟨a2, c2, x, rfl, hx, h5⟩
    clear h4
    go_wp2_with fail
    go_ret2
    rw [List.append_assoc, List.append_assoc, List.singleton_append, List.singleton_append] at h5
    have he := enc_len n
    have h6 := drop h5
    have h7 := drop h6
    refine ⟨_, _, x, _, rfl, ⟨?_, ?_⟩, ⟨by omega, by omega⟩, h7⟩
    · rw [hx.out]
      intro y hy
      rcases List.mem_append.1 hy with h6 | h6
      · exact hb1 y h6
      · exact enc_byte n y h6
    · rw [hx.out]
      simp
      omega
end
end Go.Proofs.Ytakdfcpecgjbmaa.Sd
