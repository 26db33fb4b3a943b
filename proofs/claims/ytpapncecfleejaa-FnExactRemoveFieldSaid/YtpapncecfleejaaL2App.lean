/-
  The contracts of chapter 2's writers: AppendUvarint of the specification and of the program (extendByVarint, takeBytes), AppendBytes, EncodeInts. Conditions: the slices read as lists, of at most 2^40 elements.
-/
import Derived.Test.YtpapncecfleejaaEx
import Derived.Test.YtpapncecfleejaaL2Num
namespace Go.Proofs.Ytpapncecfleejaa.L2
set_option maxRecDepth 100000
open Go.ChangeShapes Go.WideShapes Go.ChangeAt Go.RowKit Mem Sl Ex
set_option linter.unusedVariables false

theorem info8 : (Try.prog.info? 5).map (fun i => (i.zero, i.size, i.bytes)) = some (some (.int .u8 0), 1, 1) := by kernel_rfl

theorem own_alloc {w : World} {B : Nat} {e : TypeId} {k : IntKind} {a : Option Addr} {c : Nat} {l : List Int} (h : Own w B e k a c l) (o : Obj) : Own (w.alloc o) B e k a c l := h.below ((Below.refl _ _).alloc (Nat.le_refl _) o)
theorem below_alloc {B : Nat} {w w' : World} (h : Below B w w') (o : Obj) (hB : B ≤ w.heap.size) : Below B w (w'.alloc o) := h.alloc (Nat.le_trans hB h.size) o
theorem below_own {B : Nat} {w w' : World} {e : TypeId} {k : IntKind} {a : Option Addr} {c : Nat} {l : List Int} (ho : Own w B e k a c l) (hg : w.grownBy w' (Value.slice a l.length c).ownBlock) (hB : B ≤ w.heap.size) : Below B w w' :=
  (Below.refl _ _).grown hg hB (fun k hk => (ho.lt k hk).1)

theorem or_128 (m : Nat) : bits .or .u8 ((m : Int) % 128) 128 = ((m % 128 + 128 : Nat) : Int) := by
  rw [show (m : Int) % 128 = ((m % 128 : Nat) : Int) by omega, show (128 : Int) = ((128 : Nat) : Int) from rfl, u8_or_nat _ _ (by omega) (by omega), Nat.or_comm, nat_join 7 128 (m % 128) (by decide) (by omega)]
  congr 1
  omega

theorem extend_any (B : Nat) (a : Option Addr) (c : Nat) (l : List Int) (n : Int) (w : World) (h : Own w B 5 .u8 a c l) (hl : l.length ≤ 1099511627776) (hB : B ≤ w.heap.size) :
    Calls Try.prog 83 #[.slice a l.length c, .int .i64 n] w (Gave w B 5 .u8 (l ++ enc n)) := by
  by_cases hn : 0 ≤ n ∧ n ≤ 1000000000000
  · obtain ⟨h0, h1⟩ := hn
    have hin : L1.inB n 0 1000000000000 = true := L1.inB_true.mpr ⟨h0, h1⟩
    obtain ⟨i0, hi, hz0, hz1, hz2⟩ := infoOf _ _ _ _ info8
    obtain ⟨m0, rfl⟩ : ∃ m : Nat, n = m := ⟨n.toNat, by omega⟩
    have HE := Lib.hid (enc_in h0 h1)
    have HL := Lib.hid (enc_len m0)
    have H := Lib.hid h
    clear h
    go_enter Try.func83, Try.ntmps83
    go_wp2_with (go_at_call 62; refine (L1.inRange_any _ _ _ _).mono ?_; rw [hin]; rintro e w' ⟨rfl, rfl⟩)
    go_loopw [0, 1] (fun s v wr => ∃ (m : Nat) (a1 : Option Addr) (c1 : Nat) (l1 : List Int) (n1 : Nat), s = .slice a1 n1 c1 ∧ v = .int .i64 m ∧ m ≤ 1000000000000 ∧ n1 ≤ 1099511627790 ∧ Hid (Own wr B 5 .u8 a1 c1 l1 ∧ Below B w wr ∧ l1 ++ uv m = l ++ enc m0 ∧ n1 = l1.length)) (fun _ v _ => (intOf v).toNat)
    case atStart => exact ⟨m0, a, c, l, l.length, rfl, rfl, by omega, by omega, H.out, Below.refl _ _, by rw [HE.out]; rfl, rfl⟩
    case round =>
      obtain ⟨m, a1, c1, l1, n1, rfl, rfl, hm, hn1, hrel⟩ := hrel
      by_cases hlt : m < 128
      · have hc : ¬ (128 : Int) ≤ m := by omega
        go_wp2_with (at_builtin; refine wpList_append_src _ rfl _ _ 22 rfl B 5 i0 (.int .u8 0) 1 Try.underlying22 hi hz0 hz1 hz2 rfl .u8 a1 n1 c1 l1 rfl hrel.out.2.2.2 (own_alloc hrel.out.1 _) _ _ 1 1 [_] rfl rfl (reads_one _ _ _ _) (by have := hrel.out.2.2.2; simp [maxLen]; omega) (by have := hrel.out.2.2.2; simp; omega) (Nat.le_trans hB (Nat.le_trans hrel.out.2.1.size (by simp))) ?_; intro a2 c2 w2 ho2 hg2)
        go_ret
        obtain ⟨h1, h2, h3, h4⟩ := hrel.out
        refine Gave.mk ?_ (l := l ++ enc m0) ?_ ?_
        · rw [← h3, uv_small hlt]; simp
        · rw [← h3, uv_small hlt]; exact ho2
        · have hb1 := below_alloc h2 (.cells #[.int .u8 m] 5) hB
          exact hb1.trans (below_own (own_alloc h1 _) hg2 (Nat.le_trans hB hb1.size))
      · have hc : (128 : Int) ≤ m := by omega
        go_wp2_with (at_builtin; refine wpList_append_src _ rfl _ _ 22 rfl B 5 i0 (.int .u8 0) 1 Try.underlying22 hi hz0 hz1 hz2 rfl .u8 a1 n1 c1 l1 rfl hrel.out.2.2.2 (own_alloc hrel.out.1 _) _ _ 1 1 [_] rfl rfl (reads_one _ _ _ _) (by have := hrel.out.2.2.2; simp [maxLen]; omega) (by have := hrel.out.2.2.2; simp; omega) (Nat.le_trans hB (Nat.le_trans hrel.out.2.1.size (by simp))) ?_; intro a2 c2 w2 ho2 hg2)
        obtain ⟨h1, h2, h3, h4⟩ := hrel.out
        have hb1 := below_alloc h2 (.cells #[.int .u8 (bits .or .u8 ((m : Int) % 128) 128)] 5) hB
        have hb2 := hb1.trans (below_own (own_alloc h1 _) hg2 (Nat.le_trans hB hb1.size))
        have hle : l1.length + (uv m).length = l.length + (enc m0).length := by rw [← List.length_append, h3, List.length_append]
        have hp := uv_len_pos m
        have he := HL.out
        rw [or_128] at ho2
        have HH := Lib.hid (And.intro ho2 (And.intro hb2 h3))
        clear ho2 hg2 hb1 hb2 h1 h2 h3 h4
        go_roundw
        case rel => exact ⟨m / 128, a2, c2, _, l1.length + 1, rfl, by go_num, by omega, by omega, And.intro HH.out.1 (And.intro HH.out.2.1 (And.intro (by rw [List.append_assoc, ← HH.out.2.2, uv_big hlt]; rfl) (by simp)))⟩
        case measure => simp [intOf]; omega
  · have hout : L1.inB n 0 1000000000000 = false := L1.inB_false.mpr hn
    have HE := Lib.hid (enc_out hn)
    have H := Lib.hid h
    clear h hn
    go_enter Try.func83, Try.ntmps83
    go_wp2_with (go_at_call 62; refine (L1.inRange_any _ _ _ _).mono ?_; rw [hout]; rintro e w' ⟨rfl, rfl⟩)
    go_ret
    refine Gave.mk ?_ ?_ (Below.refl _ _)
    · rw [HE.out, List.append_nil]
    · rw [HE.out, List.append_nil]; exact H.out

theorem take_any (a : Option Addr) (c : Nat) (l : List Int) (s t : Nat) (w : World) (hr : Reads w w.heap.size a (ints .u8 l)) (hc : l.length ≤ c) (hl : l.length ≤ 1099511627776) (hst : s ≤ t) (ht : t ≤ l.length) :
    Calls Try.prog 84 #[.slice a l.length c, .int .i64 s, .int .i64 t] w (Gave w w.heap.size 5 .u8 ((l.drop s).take (t - s))) := by
  obtain ⟨i0, hi, hz0, hz1, hz2⟩ := infoOf _ _ _ _ info8
  obtain ⟨n, hn⟩ : ∃ n, n = l.length := ⟨_, rfl⟩
  rw [← hn] at ht hl hc ⊢
  have hp := (hr.below (below_alloc (Below.refl _ _) (.cells #[] 5) (Nat.le_refl _))).partInts s t t hst (by omega) (Nat.le_refl _)
  have hlen : ((l.drop s).take (t - s)).length = t - s := by simp; omega
  obtain ⟨m, hm⟩ : ∃ m, m = (l.drop s).take (t - s) := ⟨_, rfl⟩
  rw [← hm] at hp hlen ⊢
  have HP := Lib.hid (And.intro hp hlen)
  clear hr hn hm hp hlen
  go_enter Try.func84, Try.ntmps84
  go_wp2_with (at_builtin; refine wpList_append_src _ rfl _ _ 22 rfl w.heap.size 5 i0 (.int .u8 0) 1 Try.underlying22 hi hz0 hz1 hz2 rfl .u8 _ _ _ [] rfl rfl (Own.empty w 5 .u8 (Nat.le_refl _)) w.heap.size _ _ _ m rfl HP.out.2.symm HP.out.1 (by have := HP.out.2; simp [maxLen]; omega) (by have := HP.out.2; simp; omega) (by simp) ?_; intro a2 c2 w2 ho2 hg2)
  all_goals
    go_ret
    refine Gave.mk (by simp) ho2 ?_
    exact (below_alloc (Below.refl _ _) _ (Nat.le_refl _)).trans (below_own (Own.empty w 5 .u8 (Nat.le_refl _)) hg2 (by simp))

theorem implAppendUvarint_any (a : Option Addr) (c : Nat) (l : List Int) (n : Int) (w : World) (hr : Reads w w.heap.size a (ints .u8 l)) (hc : l.length ≤ c) (hl : l.length ≤ 1000000000000) :
    Calls Try.prog 57 #[.slice a l.length c, .int .i64 n] w (Gave w w.heap.size 5 .u8 (l ++ enc n)) := by
  have H1 := Lib.hid (take_any a c l 0 l.length w hr hc (by omega) (by omega) (by omega))
  have e0 : (l.drop 0).take (l.length - 0) = l := by simp
  rw [e0] at H1
  have H2 := fun (a1 : Option Addr) (c1 : Nat) (w1 : World) (h : Own w1 w.heap.size 5 .u8 a1 c1 l) (hs : w.heap.size ≤ w1.heap.size) => extend_any w.heap.size a1 c1 l n w1 h (by omega) hs
  have H3 := Lib.hid H2
  clear H2 hr hc e0
  go_enter Try.func57, Try.ntmps57
  go_wp2_with (first | (go_at_call 84; refine H1.out.mono ?_; rintro e w1 ⟨a1, c1, rfl, ho1, hb1⟩) | (go_at_call 83; refine (H3.out _ _ _ ho1 hb1.size).mono ?_; rintro e w2 ⟨a2, c2, rfl, ho2, hb2⟩))
  go_ret
  exact Gave.mk (by simp) ho2 (hb1.trans hb2)

theorem and_127 (m : Nat) (hm : m < 18446744073709551616) : bits .and .i64 (m : Int) 127 = ((m % 128 : Nat) : Int) := by
  show IntKind.i64.wrap ((BitVec.ofInt 64 (m : Int) &&& BitVec.ofInt 64 127).toNat : Nat) = _
  rw [BitVec.ofInt_natCast, show (127 : Int) = ((127 : Nat) : Int) from rfl, BitVec.ofInt_natCast, BitVec.toNat_and, BitVec.toNat_ofNat, BitVec.toNat_ofNat, Nat.mod_eq_of_lt (by omega), show 127 % 2 ^ 64 = 127 from rfl, nat_mask7, IntKind.wrap_i64]
  omega
theorem or_128i (m : Nat) : bits .or .i64 ((m : Int) % 128) 128 % 256 = ((m % 128 + 128 : Nat) : Int) := by
  rw [show (m : Int) % 128 = ((m % 128 : Nat) : Int) by omega]
  show IntKind.i64.wrap ((BitVec.ofInt 64 ((m % 128 : Nat) : Int) ||| BitVec.ofInt 64 128).toNat : Nat) % 256 = _
  rw [BitVec.ofInt_natCast, show (128 : Int) = ((128 : Nat) : Int) from rfl, BitVec.ofInt_natCast, BitVec.toNat_or, BitVec.toNat_ofNat, BitVec.toNat_ofNat, Nat.mod_eq_of_lt (by omega), show 128 % 2 ^ 64 = 128 from rfl, Nat.or_comm, nat_join 7 128 (m % 128) (by decide) (by omega), IntKind.wrap_i64]
  omega

theorem specAppendUvarint_any (a : Option Addr) (c : Nat) (l : List Int) (n : Int) (w : World) (hr : Reads w w.heap.size a (ints .u8 l)) (hl : l.length ≤ 1000000000000) :
    Calls Try.prog 76 #[.slice a l.length c, .int .i64 n] w (Gave w w.heap.size 5 .u8 (l ++ enc n)) := by
  obtain ⟨i0, hi, hz0, hz1, hz2⟩ := infoOf _ _ _ _ info8
  have H := Lib.hid (hr.below (below_alloc (Below.refl _ _) (.cells #[] 5) (Nat.le_refl _)))
  have HB := Lib.hid (Nat.le_refl w.heap.size)
  clear hr
  by_cases hn : 0 ≤ n ∧ n ≤ 1000000000000
  · obtain ⟨h0, h1⟩ := hn
    have hin : L1.inB n 0 1000000000000 = true := L1.inB_true.mpr ⟨h0, h1⟩
    obtain ⟨m0, rfl⟩ : ∃ m : Nat, n = m := ⟨n.toNat, by omega⟩
    have HE := Lib.hid (enc_in h0 h1)
    have HL := Lib.hid (enc_len m0)
    go_enter Try.func76, Try.ntmps76
    go_wp2_with (first | (at_builtin; refine wpList_append_src _ rfl _ _ 22 rfl w.heap.size 5 i0 (.int .u8 0) 1 Try.underlying22 hi hz0 hz1 hz2 rfl .u8 _ _ _ [] rfl rfl (Own.empty w 5 .u8 (Nat.le_refl _)) w.heap.size _ _ _ l rfl rfl H.out (by simp [maxLen]; omega) (by simp; omega) (by simp) ?_; intro a1 c1 w1 ho1 hg1) | (go_at_call 69; refine (L1.l1In_any _ _ _ _).mono ?_; rw [hin]; rintro e w' ⟨rfl, rfl⟩))
    have hb1 := (below_alloc (Below.refl _ _) (.cells #[] 5) (Nat.le_refl _)).trans (below_own (Own.empty w 5 .u8 (Nat.le_refl _)) hg1 (by simp))
    have H1 := Lib.hid (And.intro ho1 hb1)
    clear ho1 hb1 hg1
    go_loopw [1, 5] (fun v s wr => ∃ (m : Nat) (a1 : Option Addr) (c1 : Nat) (l1 : List Int) (n1 : Nat), s = .slice a1 n1 c1 ∧ v = .int .i64 m ∧ m ≤ 1000000000000 ∧ n1 ≤ 1099511627790 ∧ Hid (Own wr w.heap.size 5 .u8 a1 c1 l1 ∧ Below w.heap.size w wr ∧ l1 ++ uv m = l ++ enc m0 ∧ n1 = l1.length)) (fun v _ _ => (intOf v).toNat)
    case atStart => exact ⟨m0, a1, c1, [] ++ l, _, rfl, rfl, by omega, by omega, H1.out.1, H1.out.2, by rw [HE.out]; rfl, by simp⟩
    case round =>
      obtain ⟨m, a1, c1, l1, n1, rfl, rfl, hm, hn1, hrel⟩ := hrel
      by_cases hlt : m < 128
      · have hc : ¬ (127 : Int) < m := by omega
        go_wp2_with (at_builtin; refine wpList_append_src _ rfl _ _ 22 rfl w.heap.size 5 i0 (.int .u8 0) 1 Try.underlying22 hi hz0 hz1 hz2 rfl .u8 a1 n1 c1 l1 rfl hrel.out.2.2.2 (own_alloc hrel.out.1 _) _ _ 1 1 [_] rfl rfl (reads_one _ _ _ _) (by have := hrel.out.2.2.2; simp [maxLen]; omega) (by have := hrel.out.2.2.2; simp; omega) (Nat.le_trans hrel.out.2.1.size (by simp)) ?_; intro a2 c2 w2 ho2 hg2)
        go_ret
        obtain ⟨h1, h2, h3, h4⟩ := hrel.out
        refine Gave.mk ?_ (l := l ++ enc m0) ?_ ?_
        · rw [← h3, uv_small hlt]; simp
        · rw [← h3, uv_small hlt]; exact ho2
        · have hb1 := below_alloc h2 (.cells #[.int .u8 m] 5) HB.out
          exact hb1.trans (below_own (own_alloc h1 _) hg2 hb1.size)
      · have hc : (127 : Int) < m := by omega
        have e1 := and_127 m (by omega)
        go_wp2_with (at_builtin; refine wpList_append_src _ rfl _ _ 22 rfl w.heap.size 5 i0 (.int .u8 0) 1 Try.underlying22 hi hz0 hz1 hz2 rfl .u8 a1 n1 c1 l1 rfl hrel.out.2.2.2 (own_alloc hrel.out.1 _) _ _ 1 1 [_] rfl rfl (reads_one _ _ _ _) (by have := hrel.out.2.2.2; simp [maxLen]; omega) (by have := hrel.out.2.2.2; simp; omega) (Nat.le_trans hrel.out.2.1.size (by simp)) ?_; intro a2 c2 w2 ho2 hg2)
        obtain ⟨h1, h2, h3, h4⟩ := hrel.out
        have hb1 := below_alloc h2 (.cells #[.int .u8 (bits .or .i64 ((m : Int) % 128) 128 % 256)] 5) HB.out
        have hb2 := hb1.trans (below_own (own_alloc h1 _) hg2 hb1.size)
        have hle : l1.length + (uv m).length = l.length + (enc m0).length := by rw [← List.length_append, h3, List.length_append]
        have hp := uv_len_pos m
        have he := HL.out
        rw [or_128i] at ho2
        have HH := Lib.hid (And.intro ho2 (And.intro hb2 h3))
        clear ho2 hg2 hb1 hb2 h1 h2 h3 h4 e1
        go_roundw
        case rel => exact ⟨m / 128, a2, c2, _, l1.length + 1, rfl, by go_num, by omega, by omega, And.intro HH.out.1 (And.intro HH.out.2.1 (And.intro (by rw [List.append_assoc, ← HH.out.2.2, uv_big hlt]; rfl) (by simp)))⟩
        case measure => simp [intOf]; omega
  · have hout : L1.inB n 0 1000000000000 = false := L1.inB_false.mpr hn
    have HE := Lib.hid (enc_out hn)
    clear hn
    go_enter Try.func76, Try.ntmps76
    go_wp2_with (first | (at_builtin; refine wpList_append_src _ rfl _ _ 22 rfl w.heap.size 5 i0 (.int .u8 0) 1 Try.underlying22 hi hz0 hz1 hz2 rfl .u8 _ _ _ [] rfl rfl (Own.empty w 5 .u8 (Nat.le_refl _)) w.heap.size _ _ _ l rfl rfl H.out (by simp [maxLen]; omega) (by simp; omega) (by simp) ?_; intro a1 c1 w1 ho1 hg1) | (go_at_call 69; refine (L1.l1In_any _ _ _ _).mono ?_; rw [hout]; rintro e w' ⟨rfl, rfl⟩))
    go_ret
    have hb1 := (below_alloc (Below.refl _ _) (.cells #[] 5) (Nat.le_refl _)).trans (below_own (Own.empty w 5 .u8 (Nat.le_refl _)) hg1 (by simp))
    refine Gave.mk ?_ ?_ hb1
    · rw [HE.out]; simp
    · rw [HE.out, List.append_nil]; exact ho1

theorem implAppendBytes_any (a a2 : Option Addr) (c c2 : Nat) (l m : List Int) (w : World) (hr : Reads w w.heap.size a (ints .u8 l)) (hr2 : Reads w w.heap.size a2 (ints .u8 m)) (hc : l.length ≤ c) (hl : l.length ≤ 1000000000) (hm : m.length ≤ 1000000000) :
    Calls Try.prog 58 #[.slice a l.length c, .slice a2 m.length c2] w (Gave w w.heap.size 5 .u8 (l ++ enc m.length ++ m)) := by
  obtain ⟨i0, hi, hz0, hz1, hz2⟩ := infoOf _ _ _ _ info8
  have H1 := Lib.hid (implAppendUvarint_any a c l m.length w hr hc (by omega))
  have HL := Lib.hid (enc_len m.length)
  have H2 := Lib.hid hr2
  clear hr hr2 hc
  go_enter Try.func58, Try.ntmps58
  go_wp2_with (first | (go_at_call 57; refine H1.out.mono ?_; rintro e w1 ⟨a1, c1, rfl, ho1, hb1⟩) | (at_builtin; refine wpList_append_src _ rfl _ _ 22 rfl w.heap.size 5 i0 (.int .u8 0) 1 Try.underlying22 hi hz0 hz1 hz2 rfl .u8 _ _ _ (l ++ enc m.length) rfl (by simp) ho1 w.heap.size _ _ _ m rfl rfl (H2.out.below hb1) (by have := HL.out; simp [maxLen]; omega) (by have := HL.out; simp; omega) hb1.size ?_; intro a3 c3 w3 ho3 hg3))
  go_ret
  exact Gave.mk (by simp [Nat.add_assoc]) ho3 (hb1.trans (below_own ho1 hg3 hb1.size))
theorem specAppendBytes_any (a a2 : Option Addr) (c c2 : Nat) (l m : List Int) (w : World) (hr : Reads w w.heap.size a (ints .u8 l)) (hr2 : Reads w w.heap.size a2 (ints .u8 m)) (hc : l.length ≤ c) (hl : l.length ≤ 1000000000) (hm : m.length ≤ 1000000000) :
    Calls Try.prog 77 #[.slice a l.length c, .slice a2 m.length c2] w (Gave w w.heap.size 5 .u8 (l ++ enc m.length ++ m)) := by
  obtain ⟨i0, hi, hz0, hz1, hz2⟩ := infoOf _ _ _ _ info8
  have H1 := Lib.hid (specAppendUvarint_any a c l m.length w hr  (by omega))
  have HL := Lib.hid (enc_len m.length)
  have H2 := Lib.hid hr2
  clear hr hr2 hc
  go_enter Try.func77, Try.ntmps77
  go_wp2_with (first | (go_at_call 76; refine H1.out.mono ?_; rintro e w1 ⟨a1, c1, rfl, ho1, hb1⟩) | (at_builtin; refine wpList_append_src _ rfl _ _ 22 rfl w.heap.size 5 i0 (.int .u8 0) 1 Try.underlying22 hi hz0 hz1 hz2 rfl .u8 _ _ _ (l ++ enc m.length) rfl (by simp) ho1 w.heap.size _ _ _ m rfl rfl (H2.out.below hb1) (by have := HL.out; simp [maxLen]; omega) (by have := HL.out; simp; omega) hb1.size ?_; intro a3 c3 w3 ho3 hg3))
  go_ret
  exact Gave.mk (by simp [Nat.add_assoc]) ho3 (hb1.trans (below_own ho1 hg3 hb1.size))

theorem implStep_any (B : Nat) (a : Option Addr) (c : Nat) (l : List Int) (n : Int) (w : World) (h : Own w B 5 .u8 a c l) (hl : l.length ≤ 1000000000000) (hB : B ≤ w.heap.size) :
    Calls Try.prog 83 #[.slice a l.length c, .int .i64 n] w (Gave w B 5 .u8 (l ++ enc n)) := extend_any B a c l n w h (by omega) hB
theorem specStep_any (B : Nat) (a : Option Addr) (c : Nat) (l : List Int) (n : Int) (w : World) (h : Own w B 5 .u8 a c l) (hl : l.length ≤ 1000000000000) (hB : B ≤ w.heap.size) :
    Calls Try.prog 76 #[.slice a l.length c, .int .i64 n] w (Gave w B 5 .u8 (l ++ enc n)) :=
  (specAppendUvarint_any a c l n w h.reads hl).mono fun _ _ ⟨a1, c1, he, ho, hb⟩ => ⟨a1, c1, he, ho.base hB, hb.mono hB⟩
end Go.Proofs.Ytpapncecfleejaa.L2
