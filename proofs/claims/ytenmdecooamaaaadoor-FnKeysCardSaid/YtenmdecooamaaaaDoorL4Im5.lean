/-
  The contracts of decodeNumber and DecodeKey of the program. Condition: a byte string of at most 2^40 bytes.
-/
import Derived.Test.YtenmdecooamaaaaDoorL4Dec
import Derived.Test.YtenmdecooamaaaaDoorL4Im3
import Derived.Test.YtenmdecooamaaaaDoorL4Law
namespace Go.Proofs.YtenmdecooamaaaaDoor.L4
open Go.Op (bytesLess)
open Go.ChangeShapes Go.WideShapes Go.ChangeAt Go.RowKit Mem Sl Ex L2
set_option maxRecDepth 100000
set_option linter.unusedVariables false

theorem or_int (n x : Int) (hn : 0 ≤ n) (h0 : 0 ≤ x) (h1 : x ≤ 255) (hm : n ≤ 1099511627776) : bits .or .i64 (n * 256) x = n * 256 + x := by
  obtain ⟨m, rfl⟩ : ∃ m : Nat, n = m := ⟨n.toNat, by omega⟩
  exact or_byte m x h0 h1 hm
theorem six_cons : ∀ (r : List Int), 6 ≤ r.length → ∃ x0 x1 x2 x3 x4 x5 q, r = x0 :: x1 :: x2 :: x3 :: x4 :: x5 :: q
  | x0 :: x1 :: x2 :: x3 :: x4 :: x5 :: q, _ => ⟨x0, x1, x2, x3, x4, x5, q, rfl⟩
  | [], h => absurd h (by simp)
  | [_], h => absurd h (by simp)
  | [_, _], h => absurd h (by simp)
  | [_, _, _], h => absurd h (by simp)
  | [_, _, _, _], h => absurd h (by simp)
  | [_, _, _, _, _], h => absurd h (by simp)
theorem six_val (x0 x1 x2 x3 x4 x5 : Int) (q : List Int) (h : Byt (x0 :: x1 :: x2 :: x3 :: x4 :: x5 :: q)) : (val ((toU (x0 :: x1 :: x2 :: x3 :: x4 :: x5 :: q)).take 6) : Int) = ((((x0 * 256 + x1) * 256 + x2) * 256 + x3) * 256 + x4) * 256 + x5 := by
  have b0 := h x0 (by simp)
  have b1 := h x1 (by simp)
  have b2 := h x2 (by simp)
  have b3 := h x3 (by simp)
  have b4 := h x4 (by simp)
  have b5 := h x5 (by simp)
  simp only [toU, List.map_cons, List.take_succ_cons, List.take_zero, val, List.foldl_cons, List.foldl_nil, UInt8.toNat_ofNat']
  omega
set_option maxHeartbeats 2000000 in
theorem decodeNumber_any (x0 x1 x2 x3 x4 x5 V : Int) (a0 : 0 ≤ x0 ∧ x0 ≤ 255) (a1 : 0 ≤ x1 ∧ x1 ≤ 255) (a2 : 0 ≤ x2 ∧ x2 ≤ 255) (a3 : 0 ≤ x3 ∧ x3 ≤ 255) (a4 : 0 ≤ x4 ∧ x4 ≤ 255) (a5 : 0 ≤ x5 ∧ x5 ≤ 255)
    (hV : V = ((((x0 * 256 + x1) * 256 + x2) * 256 + x3) * 256 + x4) * 256 + x5) (w : World) :
    Calls Tryd.prog 27 #[.agg #[.int .u8 x0, .int .u8 x1, .int .u8 x2, .int .u8 x3, .int .u8 x4, .int .u8 x5]] w fun e w' => e = .returned (.int .i64 (V - 1000000000000)) ∧ Below w.heap.size w w' := by
  have g0 : bits .or .i64 0 x0 = x0 := by have := or_int 0 x0 (by omega) a0.1 a0.2 (by omega); simpa using this
  have g1 := or_int x0 x1 a0.1 a1.1 a1.2 (by omega)
  obtain ⟨n1, hn1⟩ : ∃ n, n = x0 * 256 + x1 := ⟨_, rfl⟩
  have b1 : 0 ≤ n1 ∧ n1 ≤ 65535 := by omega
  rw [← hn1] at g1 hV
  have g2 := or_int n1 x2 b1.1 a2.1 a2.2 (by omega)
  obtain ⟨n2, hn2⟩ : ∃ n, n = n1 * 256 + x2 := ⟨_, rfl⟩
  have b2 : 0 ≤ n2 ∧ n2 ≤ 16777215 := by omega
  rw [← hn2] at g2 hV
  have g3 := or_int n2 x3 b2.1 a3.1 a3.2 (by omega)
  obtain ⟨n3, hn3⟩ : ∃ n, n = n2 * 256 + x3 := ⟨_, rfl⟩
  have b3 : 0 ≤ n3 ∧ n3 ≤ 4294967295 := by omega
  rw [← hn3] at g3 hV
  have g4 := or_int n3 x4 b3.1 a4.1 a4.2 (by omega)
  obtain ⟨n4, hn4⟩ : ∃ n, n = n3 * 256 + x4 := ⟨_, rfl⟩
  have b4 : 0 ≤ n4 ∧ n4 ≤ 1099511627775 := by omega
  rw [← hn4] at g4 hV
  have g5 := or_int n4 x5 b4.1 a5.1 a5.2 (by omega)
  rw [← hV] at g5
  have b5 : 0 ≤ V ∧ V ≤ 281474976710655 := by omega
  clear hn1 hn2 hn3 hn4 hV
  obtain ⟨a00, a01⟩ := a0
  obtain ⟨a10, a11⟩ := a1
  obtain ⟨a20, a21⟩ := a2
  obtain ⟨a30, a31⟩ := a3
  obtain ⟨a40, a41⟩ := a4
  obtain ⟨a50, a51⟩ := a5
  obtain ⟨b10, b11⟩ := b1
  obtain ⟨b20, b21⟩ := b2
  obtain ⟨b30, b31⟩ := b3
  obtain ⟨b40, b41⟩ := b4
  obtain ⟨b50, b51⟩ := b5
  have i0 : ∀ w, (Instr.index 47 (.agg #[.int .u8 x0, .int .u8 x1, .int .u8 x2, .int .u8 x3, .int .u8 x4, .int .u8 x5]) (.int .i64 0)).run Tryd.prog w = .ok (.int .u8 x0) w := fun w => by
    simp [Instr.index, asIntOf, run_underlying Tryd.underlying47, go_sem]
  have i1 : ∀ w, (Instr.index 47 (.agg #[.int .u8 x0, .int .u8 x1, .int .u8 x2, .int .u8 x3, .int .u8 x4, .int .u8 x5]) (.int .i64 1)).run Tryd.prog w = .ok (.int .u8 x1) w := fun w => by
    simp [Instr.index, asIntOf, run_underlying Tryd.underlying47, go_sem]
  have i2 : ∀ w, (Instr.index 47 (.agg #[.int .u8 x0, .int .u8 x1, .int .u8 x2, .int .u8 x3, .int .u8 x4, .int .u8 x5]) (.int .i64 2)).run Tryd.prog w = .ok (.int .u8 x2) w := fun w => by
    simp [Instr.index, asIntOf, run_underlying Tryd.underlying47, go_sem]
  have i3 : ∀ w, (Instr.index 47 (.agg #[.int .u8 x0, .int .u8 x1, .int .u8 x2, .int .u8 x3, .int .u8 x4, .int .u8 x5]) (.int .i64 3)).run Tryd.prog w = .ok (.int .u8 x3) w := fun w => by
    simp [Instr.index, asIntOf, run_underlying Tryd.underlying47, go_sem]
  have i4 : ∀ w, (Instr.index 47 (.agg #[.int .u8 x0, .int .u8 x1, .int .u8 x2, .int .u8 x3, .int .u8 x4, .int .u8 x5]) (.int .i64 4)).run Tryd.prog w = .ok (.int .u8 x4) w := fun w => by
    simp [Instr.index, asIntOf, run_underlying Tryd.underlying47, go_sem]
  have i5 : ∀ w, (Instr.index 47 (.agg #[.int .u8 x0, .int .u8 x1, .int .u8 x2, .int .u8 x3, .int .u8 x4, .int .u8 x5]) (.int .i64 5)).run Tryd.prog w = .ok (.int .u8 x5) w := fun w => by
    simp [Instr.index, asIntOf, run_underlying Tryd.underlying47, go_sem]
  go_enter Tryd.func27, Tryd.ntmps27
  go_wp2
  refine wp_loop_rounds 7 ?_
  iterate 7 (rw [rounds_succ]; go_wp2)
  go_ret
  exact ⟨rfl, below_alloc (Below.refl _ _) _ (Nat.le_refl _)⟩
set_option maxHeartbeats 2000000 in
theorem implDecodeKey_any (a : Option Addr) (c : Nat) (l : List Int) (w : World) (hr : Reads w w.heap.size a (ints .u8 l)) (hy : Byt l) (hc : l.length ≤ c) (hl : l.length ≤ 1099511627776) :
    Calls Tryd.prog 11 #[.slice a l.length c] w fun e w' => e = DkE l ∧ Below w.heap.size w w' := by
  have HB := Lib.hid (fun (w1 : World) (h : Below w.heap.size w w1) o => below_alloc h o (Nat.le_refl _))
  rcases l with _ | ⟨x, r⟩
  · have HD := Lib.hid (dec_no (l := []) rfl)
    clear hr hy hc hl
    go_enter Tryd.func11, Tryd.ntmps11
    go_wp2
    refine bodyPost_ret (v := .tuple #[K.zero.v, .bool false]) (by simp [results, Tryd.results11, go_sem, K.v, K.zero]) rfl ?_
    exact ⟨by unfold DkE; rw [HD.out.1, HD.out.2], HB.out w (Below.refl _ _) _⟩
  · obtain ⟨hx0, hx1⟩ := hy x (by simp)
    obtain ⟨ad, rfl, hab, hcell⟩ := hr.int 0 (by simp)
    have hcell0 : w.cell? (ad.add 0) = some (.int .u8 x) := hcell
    rw [show ad.add 0 = ad by simp [Addr.add]] at hcell0
    by_cases h2 : x = 2
    · subst h2
      have hcn : r.length + 1 ≤ c := by simpa using hc
      have hln : (r.length : Int) ≤ 1099511627776 := by simp at hl; omega
      have hrr : Reads w w.heap.size (some (ad.add 1)) (ints .u8 r) := fun j hj => by
        obtain ⟨ad', he, hb, hcl⟩ := hr (j + 1) (by simp at hj ⊢; omega)
        injection he with he
        subst he
        refine ⟨_, rfl, by rw [add_block]; exact hb, ?_⟩
        rw [add_add, Nat.add_comm 1 j, hcl]
        simp [ints]
      have hcv := fun (w1 : World) (h : Below w.heap.size w w1) (cp : Nat) => run_bytes_string 22 5 9 Tryd.underlying22 Tryd.underlying5 Tryd.underlying9 (some (ad.add 1)) cp r w1 _ (hrr.below h)
      have HE := dec_is (cand_text (r := r))
      obtain ⟨S, hS⟩ : ∃ s, strOfNums r = s := ⟨_, rfl⟩
      rw [hS] at HE
      obtain ⟨ik, hik⟩ : ∃ b, isK ⟨2, 0, S⟩ = b := ⟨_, rfl⟩
      have HK := Lib.hid (fun w => implIsKey_any ⟨2, 0, S⟩ (by rw [← hS]; show (strOfNums r).data.size ≤ _; rw [← Array.length_toList, strOfNums_data]; simp; omega) w)
      rw [hik] at HK HE
      rw [hS] at hcv
      have hcl : c = 1 ∨ ¬ c = 1 := by omega
      have t0 := Two.made w 25 ⟨2, 0, S⟩
      have hcw := hcv ((w.alloc (.cells #[.int .i64 0, .int .i64 0, .string ⟨#[]⟩] 25)).alloc (.cells #[.int .i64 2, .int .i64 0, .string ⟨#[]⟩] 25)) (below_alloc (below_alloc (Below.refl _ _) _ (Nat.le_refl _)) _ (Nat.le_refl _)) (c - 1)
      rw [show ad.add 1 = ⟨ad.block, ad.off + 1, none⟩ from rfl] at hcw
      obtain ⟨w2, hw2⟩ : ∃ x, x = (w.alloc (.cells #[.int .i64 0, .int .i64 0, .string ⟨#[]⟩] 25)).alloc (.cells #[.int .i64 2, .int .i64 0, .string S] 25) := ⟨_, rfl⟩
      have t0' : Two w w2 25 ⟨2, 0, S⟩ := by rw [hw2]; exact t0
      have T0 := Lib.hid t0'
      clear t0 t0' hcv hrr hr hy hc hl hcell hik
      have hc0 : (0 : Int) < (c : Int) := by omega
      have hc1 : (1 : Int) ≤ (c : Int) := by omega
      have HE := Lib.hid HE
      rcases hcl with rfl | hcl
      · obtain rfl : r = [] := List.eq_nil_of_length_eq_zero (by omega)
        have hcw0 := run_bytes_string 22 5 9 Tryd.underlying22 Tryd.underlying5 Tryd.underlying9 (some ad) 0 [] ((w.alloc (.cells #[.int .i64 0, .int .i64 0, .string ⟨#[]⟩] 25)).alloc (.cells #[.int .i64 2, .int .i64 0, .string ⟨#[]⟩] 25)) w.heap.size Reads.nil
        rw [hS, List.length_nil] at hcw0
        clear hS
        go_enter Tryd.func11, Tryd.ntmps11
        go_wp2_with fail
        go_at_call 16
        rw [← hw2]
        clear hw2 hcw hcw0
        refine (HK.out w2).mono ?_
        rintro e w3 ⟨rfl, h3⟩
        have T3 := Lib.hid (T0.out.next h3)
        clear h3
        obtain ⟨z0, z1, z2, f0, f1, f2⟩ := Row.facts3 T3.out.z
        obtain ⟨y0, y1, y2, -, -, -⟩ := Row.facts3 (show Row w3 (w.heap.size + 1) 25 #[.int .i64 2, .int .i64 0, .string S] from T3.out.k)
        have HB3 := Lib.hid (fun (x y z : Value) => ((T3.out.b.setCell (p := ⟨w.heap.size, 0, none⟩) (Nat.le_refl _) x).setCell (p := ⟨w.heap.size, 1, none⟩) (Nat.le_refl _) y).setCell (p := ⟨w.heap.size, 2, none⟩) (Nat.le_refl _) z)
        cases ik with
        | false =>
          have HD := Lib.hid (dec_no (HE.out.trans rfl))
          go_wp2_with fail
          refine bodyPost_ret (v := .tuple #[K.zero.v, .bool false]) (by simp [results, Tryd.results11, go_sem, K.v, K.zero, z0, z1, z2]) rfl ?_
          exact ⟨by unfold DkE; rw [HD.out.1, HD.out.2], HB3.out _ _ _⟩
        | true =>
          have HD := Lib.hid (dec_yes (HE.out.trans rfl))
          go_wp2_with fail
          refine bodyPost_ret (v := .tuple #[K.v ⟨2, 0, S⟩, .bool true]) (by simp [results, Tryd.results11, go_sem, K.v, z0, z1, z2]) rfl ?_
          exact ⟨by unfold DkE; rw [HD.out.1, HD.out.2], HB3.out _ _ _⟩
      · rw [show ((2 : Int) :: r).length = r.length + 1 from rfl]
        clear hS
        go_enter Tryd.func11, Tryd.ntmps11
        go_wp2_with fail
        go_at_call 16
        rw [← hw2]
        clear hw2 hcw
        refine (HK.out w2).mono ?_
        rintro e w3 ⟨rfl, h3⟩
        have T3 := Lib.hid (T0.out.next h3)
        clear h3
        obtain ⟨z0, z1, z2, f0, f1, f2⟩ := Row.facts3 T3.out.z
        obtain ⟨y0, y1, y2, -, -, -⟩ := Row.facts3 (show Row w3 (w.heap.size + 1) 25 #[.int .i64 2, .int .i64 0, .string S] from T3.out.k)
        have HB3 := Lib.hid (fun (x y z : Value) => ((T3.out.b.setCell (p := ⟨w.heap.size, 0, none⟩) (Nat.le_refl _) x).setCell (p := ⟨w.heap.size, 1, none⟩) (Nat.le_refl _) y).setCell (p := ⟨w.heap.size, 2, none⟩) (Nat.le_refl _) z)
        cases ik with
        | false =>
          have HD := Lib.hid (dec_no (HE.out.trans rfl))
          go_wp2_with fail
          refine bodyPost_ret (v := .tuple #[K.zero.v, .bool false]) (by simp [results, Tryd.results11, go_sem, K.v, K.zero, z0, z1, z2]) rfl ?_
          exact ⟨by unfold DkE; rw [HD.out.1, HD.out.2], HB3.out _ _ _⟩
        | true =>
          have HD := Lib.hid (dec_yes (HE.out.trans rfl))
          go_wp2_with fail
          refine bodyPost_ret (v := .tuple #[K.v ⟨2, 0, S⟩, .bool true]) (by simp [results, Tryd.results11, go_sem, K.v, z0, z1, z2]) rfl ?_
          exact ⟨by unfold DkE; rw [HD.out.1, HD.out.2], HB3.out _ _ _⟩
    · have h2' : (x == 2) = false := by simpa using h2
      have hc0 : (0 : Int) < (c : Int) := by simp at hc; omega
      by_cases hs : r.length < 6
      · have HD := Lib.hid (dec_no (l := x :: r) (by unfold decO; rw [cand_short ⟨hx0, hx1⟩ h2 hs]; rfl))
        have hs' : (r.length : Int) < 6 := by omega
        have hcl : c = 1 ∨ ¬ c = 1 := by omega
        have hc1 : (1 : Int) ≤ (c : Int) := by omega
        rw [show (x :: r).length = r.length + 1 from rfl]
        have hcn : r.length + 1 ≤ c := by simpa using hc
        clear hr hy hc hl hcell h2' hs
        rcases hcl with rfl | hcl
        · obtain rfl : r = [] := List.eq_nil_of_length_eq_zero (by omega)
          go_enter Tryd.func11, Tryd.ntmps11
          go_wp2
          refine bodyPost_ret (v := .tuple #[K.zero.v, .bool false]) (by simp [results, Tryd.results11, go_sem, K.v, K.zero]) rfl ?_
          exact ⟨by unfold DkE; rw [HD.out.1, HD.out.2], HB.out _ (HB.out w (Below.refl _ _) _) _⟩
        · go_enter Tryd.func11, Tryd.ntmps11
          go_wp2
          refine bodyPost_ret (v := .tuple #[K.zero.v, .bool false]) (by simp [results, Tryd.results11, go_sem, K.v, K.zero]) rfl ?_
          exact ⟨by unfold DkE; rw [HD.out.1, HD.out.2], HB.out _ (HB.out w (Below.refl _ _) _) _⟩
      · have hcn : r.length + 1 ≤ c := by simpa using hc
        have hln : (r.length : Int) ≤ 1099511627776 := by simp at hl; omega
        have hrr : Reads w w.heap.size (some (ad.add 7)) (ints .u8 (r.drop 6)) := fun j hj => by
          have hj2 : j + 6 < r.length := by simp at hj; omega
          obtain ⟨ad', he, hb, hcl⟩ := hr.int (j + 7) (by simp; omega)
          injection he with he
          subst he
          refine ⟨_, rfl, by rw [add_block]; exact hab, ?_⟩
          rw [add_add, Nat.add_comm 7 j, hcl]
          simp [ints, Nat.add_comm]
        have hcv := fun (w1 : World) (h : Below w.heap.size w w1) (cp : Nat) => run_bytes_string 22 5 9 Tryd.underlying22 Tryd.underlying5 Tryd.underlying9 (some (ad.add 7)) cp (r.drop 6) w1 _ (hrr.below h)
        have HE0 := dec_is (cand_num (x := x) (r := r) ⟨hx0, hx1⟩ h2 (by omega))
        obtain ⟨x0, x1, x2, x3, x4, x5, q, rfl⟩ : ∃ x0 x1 x2 x3 x4 x5 q, r = x0 :: x1 :: x2 :: x3 :: x4 :: x5 :: q := by
          exact six_cons r (by omega)
        have HC : ∀ (w1 : World), Below w.heap.size w w1 → (w1.cell? ⟨ad.block, ad.off + 1, none⟩ = some (.int .u8 x0) ∧ w1.cell? ⟨ad.block, ad.off + 1 + 1, none⟩ = some (.int .u8 x1) ∧ w1.cell? ⟨ad.block, ad.off + 1 + 2, none⟩ = some (.int .u8 x2) ∧ w1.cell? ⟨ad.block, ad.off + 1 + 3, none⟩ = some (.int .u8 x3) ∧ w1.cell? ⟨ad.block, ad.off + 1 + 4, none⟩ = some (.int .u8 x4) ∧ w1.cell? ⟨ad.block, ad.off + 1 + 5, none⟩ = some (.int .u8 x5)) := fun w1 hb => by
          have f := fun (j : Nat) (hj : j < (x :: x0 :: x1 :: x2 :: x3 :: x4 :: x5 :: q).length) => show w1.cell? (ad.add j) = some (.int .u8 (x :: x0 :: x1 :: x2 :: x3 :: x4 :: x5 :: q)[j]) from by
            obtain ⟨ad', he, hb', hcl⟩ := hr.int j hj
            injection he with he
            subst he
            exact (hb.cell (p := ad.add j) (by rw [add_block]; exact hab)).trans hcl
          have f1 := f 1 (by simp)
          have f2 := f 2 (by simp)
          have f3 := f 3 (by simp)
          have f4 := f 4 (by simp)
          have f5 := f 5 (by simp)
          have f6 := f 6 (by simp)
          exact ⟨f1, f2, f3, f4, f5, f6⟩
        have HY := And.intro (hy x0 (by simp)) (And.intro (hy x1 (by simp)) (And.intro (hy x2 (by simp)) (And.intro (hy x3 (by simp)) (And.intro (hy x4 (by simp)) (hy x5 (by simp))))))
        have hV := six_val x0 x1 x2 x3 x4 x5 q (fun y hy' => hy y (by simp at hy' ⊢; right; exact hy'))
        have e6 : List.drop 6 (x0 :: x1 :: x2 :: x3 :: x4 :: x5 :: q) = q := rfl
        rw [e6] at hcv HE0
        obtain ⟨V, hVV⟩ : ∃ v : Int, (val ((toU (x0 :: x1 :: x2 :: x3 :: x4 :: x5 :: q)).take 6) : Int) = v := ⟨_, rfl⟩
        rw [hVV] at HE0 hV
        obtain ⟨S, hS⟩ : ∃ s, strOfNums q = s := ⟨_, rfl⟩
        rw [hS] at HE0 hcv
        have HN := Lib.hid (fun w => decodeNumber_any x0 x1 x2 x3 x4 x5 V HY.1 HY.2.1 HY.2.2.1 HY.2.2.2.1 HY.2.2.2.2.1 HY.2.2.2.2.2 hV w)
        obtain ⟨N, hN⟩ : ∃ N, V - 1000000000000 = N := ⟨_, rfl⟩
        rw [hN] at HE0 HN
        obtain ⟨ik, hik⟩ : ∃ b, isK ⟨x, N, S⟩ = b := ⟨_, rfl⟩
        have HK := Lib.hid (fun w => implIsKey_any ⟨x, N, S⟩ (by rw [← hS]; show (strOfNums q).data.size ≤ _; rw [← Array.length_toList, strOfNums_data]; simp at hln ⊢; omega) w)
        rw [hik] at HK HE0
        have HE := Lib.hid HE0
        have ql0 : (0 : Int) ≤ (q.length : Int) := by omega
        obtain ⟨C, hC⟩ : ∃ C, c = C + 7 := ⟨c - 7, by simp at hcn; omega⟩
        subst hC
        have hqC : q.length ≤ C := by simp at hcn; omega
        have HT := Lib.hid (Two.made w 25 ⟨x, 0, ⟨#[]⟩⟩)
        have HCC := Lib.hid HC
        have HCV := Lib.hid hcv
        obtain ⟨y0, y1, y2, y3, y4, y5⟩ := HC ((w.alloc (.cells #[.int .i64 0, .int .i64 0, .string ⟨#[]⟩] 25)).alloc (.cells #[.int .i64 x, .int .i64 0, .string ⟨#[]⟩] 25)) (below_alloc (below_alloc (Below.refl _ _) _ (Nat.le_refl _)) _ (Nat.le_refl _))
        have HQ := Lib.hid hqC
        obtain ⟨L, hL⟩ : ∃ L, L = q.length := ⟨_, rfl⟩
        have L1 : (L : Int) ≤ (C : Int) := by omega
        have L0 : (0 : Int) ≤ (L : Int) := by omega
        have L2 : (L : Int) ≤ 1099511627776 := by simp at hln; omega
        rw [show (x :: x0 :: x1 :: x2 :: x3 :: x4 :: x5 :: q).length = L + 7 by rw [hL]; rfl]
        have HL := Lib.hid hL
        have hAA : ∀ w, (Instr.arrayAt 47 (.slice (some ⟨ad.block, ad.off + 1, none⟩) (L + 6) (C + 6))).run Tryd.prog w = .ok (.pointer (some ⟨ad.block, ad.off + 1, none⟩)) w := fun w => by
          have h9 : ¬ L + 6 < 6 := by omega
          simp [Instr.arrayAt, run_underlying Tryd.underlying47, h9, go_sem]
        clear hL hcv HC hV HE0 hVV hrr hr hy hc hl hcell hik hcn hln hs HY hqC ql0
        go_enter Tryd.func11, Tryd.ntmps11
        go_wp2_with fail
        go_at_call 27
        refine (HN.out _).mono ?_
        rintro e w2 ⟨rfl, hb2⟩
        have T2 := Lib.hid (HT.out.next hb2)
        clear hb2 y0 y1 y2 y3 y4 y5 hAA hcell0
        obtain ⟨z0, z1, z2, f0, f1, f2⟩ := Row.facts3 T2.out.z
        obtain ⟨k0, k1, k2, g0, g1, g2⟩ := Row.facts3 (show Row w2 (w.heap.size + 1) 25 #[.int .i64 x, .int .i64 0, .string ⟨#[]⟩] from T2.out.k)
        have hgz : w.heap.size ≠ w.heap.size + 1 := by omega
        have T3 := Lib.hid (show Two w ((w2.setCell ⟨w.heap.size + 1, 1, none⟩ (.int .i64 N)).setCell ⟨w.heap.size + 1, 2, none⟩ (.string S)) 25 ⟨x, N, S⟩ from ⟨Row.apart (Row.apart T2.out.z 1 _ hgz) 2 _ hgz, Row.put (Row.put T2.out.k 1 (.int .i64 N)) 2 (.string S), (T2.out.b.setCell (p := ⟨w.heap.size + 1, 1, none⟩) (Nat.le_succ _) _).setCell (p := ⟨w.heap.size + 1, 2, none⟩) (Nat.le_succ _) _⟩)
        obtain ⟨r0, r1, r2, -, -, -⟩ := Row.facts3 (show Row ((w2.setCell ⟨w.heap.size + 1, 1, none⟩ (.int .i64 N)).setCell ⟨w.heap.size + 1, 2, none⟩ (.string S)) (w.heap.size + 1) 25 #[.int .i64 x, .int .i64 N, .string S] from T3.out.k)
        by_cases hC0 : C = 0
        · subst hC0
          obtain rfl : L = 0 := by omega
          have q0 : q = [] := List.eq_nil_of_length_eq_zero HL.out.symm
          have hcv1 := run_bytes_string 22 5 9 Tryd.underlying22 Tryd.underlying5 Tryd.underlying9 (some ⟨ad.block, ad.off + 1, none⟩) 0 [] (w2.setCell ⟨w.heap.size + 1, 1, none⟩ (.int .i64 N)) w.heap.size Reads.nil
          rw [show strOfNums [] = S by rw [← hS, q0], List.length_nil] at hcv1
          clear hS q0
          go_wp2_with fail
          go_at_call 16
          refine (HK.out _).mono ?_
          rintro e w3 ⟨rfl, h3⟩
          have T4 := Lib.hid (T3.out.next h3)
          clear h3 z0 z1 z2 f0 f1 f2 k0 k1 k2 g0 g1 g2 hcv1 r0 r1 r2
          obtain ⟨z0, z1, z2, f0, f1, f2⟩ := Row.facts3 T4.out.z
          obtain ⟨k0, k1, k2, g0, g1, g2⟩ := Row.facts3 (show Row w3 (w.heap.size + 1) 25 #[.int .i64 x, .int .i64 N, .string S] from T4.out.k)
          have HB3 := Lib.hid (fun (x y z : Value) => ((T4.out.b.setCell (p := ⟨w.heap.size, 0, none⟩) (Nat.le_refl _) x).setCell (p := ⟨w.heap.size, 1, none⟩) (Nat.le_refl _) y).setCell (p := ⟨w.heap.size, 2, none⟩) (Nat.le_refl _) z)
          cases ik with
          | false =>
            have HD := Lib.hid (dec_no (HE.out.trans rfl))
            go_wp2_with fail
            refine bodyPost_ret (v := .tuple #[K.zero.v, .bool false]) (by simp [results, Tryd.results11, go_sem, K.v, K.zero, z0, z1, z2]) rfl ?_
            exact ⟨by unfold DkE; rw [HD.out.1, HD.out.2], HB3.out _ _ _⟩
          | true =>
            have HD := Lib.hid (dec_yes (HE.out.trans rfl))
            go_wp2_with fail
            refine bodyPost_ret (v := .tuple #[K.v ⟨x, N, S⟩, .bool true]) (by simp [results, Tryd.results11, go_sem, K.v, z0, z1, z2]) rfl ?_
            exact ⟨by unfold DkE; rw [HD.out.1, HD.out.2], HB3.out _ _ _⟩
        · have hC1 : ¬ C = 0 := hC0
          have hcv1 := HCV.out (w2.setCell ⟨w.heap.size + 1, 1, none⟩ (.int .i64 N)) (T2.out.b.setCell (p := ⟨w.heap.size + 1, 1, none⟩) (Nat.le_succ _) _) C
          rw [← HL.out, show ad.add 7 = ⟨ad.block, ad.off + 1 + 6, none⟩ from rfl] at hcv1
          clear hS
          go_wp2_with fail
          go_at_call 16
          refine (HK.out _).mono ?_
          rintro e w3 ⟨rfl, h3⟩
          have T4 := Lib.hid (T3.out.next h3)
          clear h3 z0 z1 z2 f0 f1 f2 k0 k1 k2 g0 g1 g2 hcv1 r0 r1 r2
          obtain ⟨z0, z1, z2, f0, f1, f2⟩ := Row.facts3 T4.out.z
          obtain ⟨k0, k1, k2, g0, g1, g2⟩ := Row.facts3 (show Row w3 (w.heap.size + 1) 25 #[.int .i64 x, .int .i64 N, .string S] from T4.out.k)
          have HB3 := Lib.hid (fun (x y z : Value) => ((T4.out.b.setCell (p := ⟨w.heap.size, 0, none⟩) (Nat.le_refl _) x).setCell (p := ⟨w.heap.size, 1, none⟩) (Nat.le_refl _) y).setCell (p := ⟨w.heap.size, 2, none⟩) (Nat.le_refl _) z)
          cases ik with
          | false =>
            have HD := Lib.hid (dec_no (HE.out.trans rfl))
            go_wp2_with fail
            refine bodyPost_ret (v := .tuple #[K.zero.v, .bool false]) (by simp [results, Tryd.results11, go_sem, K.v, K.zero, z0, z1, z2]) rfl ?_
            exact ⟨by unfold DkE; rw [HD.out.1, HD.out.2], HB3.out _ _ _⟩
          | true =>
            have HD := Lib.hid (dec_yes (HE.out.trans rfl))
            go_wp2_with fail
            refine bodyPost_ret (v := .tuple #[K.v ⟨x, N, S⟩, .bool true]) (by simp [results, Tryd.results11, go_sem, K.v, z0, z1, z2]) rfl ?_
            exact ⟨by unfold DkE; rw [HD.out.1, HD.out.2], HB3.out _ _ _⟩
end Go.Proofs.YtenmdecooamaaaaDoor.L4
