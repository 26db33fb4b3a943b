/-
  The contract of chapter 4's DecodeKey of the specification. Condition: a byte string of at most 2^40 bytes.
-/
import Derived.Test.YtenmdecooamaaaaL4Cod
namespace Go.Proofs.Ytenmdecooamaaaa.L4
open Go.Op (bytesLess)
open Go.ChangeShapes Go.WideShapes Go.ChangeAt Go.RowKit Mem Sl Ex L2
set_option linter.unusedVariables false

def oK (o : Option K) : K := o.getD K.zero
def decK (l : List Int) : K := oK (decO (toU l))
def decB (l : List Int) : Bool := (decO (toU l)).isSome
theorem dec_no {l : List Int} (h : decO (toU l) = none) : decK l = K.zero ∧ decB l = false := by unfold decK decB oK; rw [h]; exact ⟨rfl, rfl⟩
theorem dec_yes {l : List Int} {k : K} (h : decO (toU l) = some k) : decK l = k ∧ decB l = true := by unfold decK decB oK; rw [h]; exact ⟨rfl, rfl⟩
theorem dec_is {l : List Int} {k : K} (h : cand (toU l) = some k) : decO (toU l) = if isK k then some k else none := by
  unfold decO
  rw [h, Option.filter_some]
/-- DecodeKey's two results. -/
def DkE (l : List Int) : Ending := .returned (.tuple #[(decK l).v, .bool (decB l)])
theorem toU_cons (x : Int) (r : List Int) : toU (x :: r) = UInt8.ofNat x.toNat :: toU r := rfl
@[simp] theorem toU_length (l : List Int) : (toU l).length = l.length := by simp [toU]
theorem cand_short {x : Int} {r : List Int} (hx : 0 ≤ x ∧ x ≤ 255) (h : ¬ x = 2) (hr : r.length < 6) : cand (toU (x :: r)) = none := by
  rw [toU_cons]
  show (if (UInt8.ofNat x.toNat).toNat = 2 then _ else if (toU r).length < 6 then none else _) = none
  rw [UInt8.toNat_ofNat', if_neg (by omega), if_pos (by simpa using hr)]
theorem cand_text {r : List Int} : cand (toU (2 :: r)) = some ⟨2, 0, strOfNums r⟩ := by
  show some (⟨2, 0, ⟨(toU r).toArray⟩⟩ : K) = _
  congr 1
theorem cand_num {x : Int} {r : List Int} (hx : 0 ≤ x ∧ x ≤ 255) (h : ¬ x = 2) (hr : 6 ≤ r.length) : cand (toU (x :: r)) = some ⟨x, (val ((toU r).take 6) : Int) - 1000000000000, strOfNums (r.drop 6)⟩ := by
  rw [toU_cons]
  show (if (UInt8.ofNat x.toNat).toNat = 2 then _ else if (toU r).length < 6 then none else some (⟨(UInt8.ofNat x.toNat).toNat, (val ((toU r).take 6) : Int) - 1000000000000, ⟨((toU r).drop 6).toArray⟩⟩ : K)) = _
  rw [UInt8.toNat_ofNat', if_neg (by omega), if_neg (by simp; omega)]
  congr 1
  refine K.ext' (by show ((x.toNat % 2 ^ 8 : Nat) : Int) = x; omega) rfl ?_
  simp only [K.t, strOfNums_data]
  simp [toU]
theorem or_byte (m : Nat) (x : Int) (h0 : 0 ≤ x) (h1 : x ≤ 255) (hm : (m : Int) ≤ 1099511627776) : bits .or .i64 ((m : Int) * 256) x = (m : Int) * 256 + x := by
  obtain ⟨y, rfl⟩ : ∃ y : Nat, x = y := ⟨x.toNat, by omega⟩
  have h2 : (BitVec.ofInt 64 ((m : Int) * 256) ||| BitVec.ofInt 64 (y : Int)).toNat = m * 256 + y := by
    rw [show (m : Int) * 256 = ((m * 256 : Nat) : Int) by omega, BitVec.ofInt_natCast, BitVec.ofInt_natCast, BitVec.toNat_or, BitVec.toNat_ofNat, BitVec.toNat_ofNat, Nat.mod_eq_of_lt (show m * 256 < 2 ^ 64 by omega), Nat.mod_eq_of_lt (show y < 2 ^ 64 by omega)]
    rw [Nat.mul_comm m 256, show (256 : Nat) = 2 ^ 8 by decide, Nat.two_pow_add_eq_or_of_lt (by omega)]
  show IntKind.i64.wrap ((BitVec.ofInt 64 ((m : Int) * 256) ||| BitVec.ofInt 64 (y : Int)).toNat : Nat) = _
  rw [h2, IntKind.wrap_i64]
  omega

theorem Row.facts3 {w : World} {g : Nat} {t : TypeId} {x y z : Value} (h : Row w g t #[x, y, z]) : w.cell? ⟨g, 0, none⟩ = some x ∧ w.cell? ⟨g, 1, none⟩ = some y ∧ w.cell? ⟨g, 2, none⟩ = some z ∧ w.frozen? ⟨g, 0, none⟩ = false ∧ w.frozen? ⟨g, 1, none⟩ = false ∧ w.frozen? ⟨g, 2, none⟩ = false := by
  refine ⟨?_, ?_, ?_, h.free 0, h.free 1, h.free 2⟩ <;> (rw [h.cell]; rfl)
/-- The zero key's cell and the key's cell stand, and below w nothing has turned. -/
structure Two (w wr : World) (t : TypeId) (k : K) : Prop where
  z : Row wr w.heap.size t #[.int .i64 0, .int .i64 0, .string ⟨#[]⟩]
  k : Row wr (w.heap.size + 1) t k.cells
  b : Below w.heap.size w wr
theorem Two.made (w : World) (t : TypeId) (k : K) : Two w ((w.alloc (.cells #[.int .i64 0, .int .i64 0, .string ⟨#[]⟩] t)).alloc (.cells k.cells t)) t k := by
  refine ⟨(Row.made w t _).more _, ?_, below_alloc (below_alloc (Below.refl _ _) _ (Nat.le_refl _)) _ (Nat.le_refl _)⟩
  rw [show w.heap.size + 1 = (w.alloc (.cells #[.int .i64 0, .int .i64 0, .string ⟨#[]⟩] t)).heap.size by simp]
  exact Row.made _ _ _
theorem Two.next {w wr w' : World} {t : TypeId} {k : K} (h : Two w wr t k) (hb : Below wr.heap.size wr w') : Two w w' t k :=
  ⟨h.z.below hb h.z.inside, h.k.below hb h.k.inside, h.b.trans (hb.mono h.b.size)⟩

set_option maxHeartbeats 2000000 in
theorem specDecodeKey_any (a : Option Addr) (c : Nat) (l : List Int) (w : World) (hr : Reads w w.heap.size a (ints .u8 l)) (hy : Byt l) (hc : l.length ≤ c) (hl : l.length ≤ 1099511627776) :
    Calls Try.prog 28 #[.slice a l.length c] w fun e w' => e = DkE l ∧ Below w.heap.size w w' := by
  have HB := Lib.hid (fun (w1 : World) (h : Below w.heap.size w w1) o => below_alloc h o (Nat.le_refl _))
  rcases l with _ | ⟨x, r⟩
  · have HD := Lib.hid (dec_no (l := []) rfl)
    clear hr hy hc hl
    go_enter Try.func28, Try.ntmps28
    go_wp2
    refine bodyPost_ret (v := .tuple #[K.zero.v, .bool false]) (by simp [results, Try.results28, go_sem, K.v, K.zero]) rfl ?_
    exact ⟨by unfold DkE; rw [HD.out.1, HD.out.2], HB.out w (Below.refl _ _) _⟩
  · obtain ⟨hx0, hx1⟩ := hy x (by simp)
    obtain ⟨ad, rfl, hab, hcell⟩ := hr.int 0 (by simp)
    have hcell0 : w.cell? (ad.add 0) = some (.int .u8 x) := hcell
    rw [show ad.add 0 = ad by simp [Addr.add]] at hcell0
    by_cases h2 : x = 2
    · subst h2
      have hcn : r.length + 1 ≤ c := by simpa using hc
      have hln : (r.length : Int) ≤ 1099511627776 := by simp at hl; omega
      have hrr : Reads w w.heap.size (some (ad.add 1)) (ints .u8 r) := fun j hj => by
        obtain ⟨ad', he, hb, hcl⟩ := hr (j + 1) (by simp at hj ⊢; omega)
        injection he with he
        subst he
        refine ⟨_, rfl, by rw [add_block]; exact hb, ?_⟩
        rw [add_add, Nat.add_comm 1 j, hcl]
        simp [ints]
      have hcv := fun (w1 : World) (h : Below w.heap.size w w1) (cp : Nat) => run_bytes_string 22 5 9 Try.underlying22 Try.underlying5 Try.underlying9 (some (ad.add 1)) cp r w1 _ (hrr.below h)
      have HE := dec_is (cand_text (r := r))
      obtain ⟨S, hS⟩ : ∃ s, strOfNums r = s := ⟨_, rfl⟩
      rw [hS] at HE
      obtain ⟨ik, hik⟩ : ∃ b, isK ⟨2, 0, S⟩ = b := ⟨_, rfl⟩
      have HK := Lib.hid (fun w => specIsKey_any ⟨2, 0, S⟩ (by rw [← hS]; show (strOfNums r).data.size ≤ _; rw [← Array.length_toList, strOfNums_data]; simp; omega) w)
      rw [hik] at HK HE
      rw [hS] at hcv
      have hcl : c = 1 ∨ ¬ c = 1 := by omega
      have t0 := Two.made w 25 ⟨2, 0, S⟩
      have hcw := hcv ((w.alloc (.cells #[.int .i64 0, .int .i64 0, .string ⟨#[]⟩] 25)).alloc (.cells #[.int .i64 2, .int .i64 0, .string ⟨#[]⟩] 25)) (below_alloc (below_alloc (Below.refl _ _) _ (Nat.le_refl _)) _ (Nat.le_refl _)) (c - 1)
      rw [show ad.add 1 = ⟨ad.block, ad.off + 1, none⟩ from rfl] at hcw
      obtain ⟨w2, hw2⟩ : ∃ x, x = (w.alloc (.cells #[.int .i64 0, .int .i64 0, .string ⟨#[]⟩] 25)).alloc (.cells #[.int .i64 2, .int .i64 0, .string S] 25) := ⟨_, rfl⟩
      have t0' : Two w w2 25 ⟨2, 0, S⟩ := by rw [hw2]; exact t0
      have T0 := Lib.hid t0'
      clear t0 t0' hcv hrr hr hy hc hl hcell hik
      have hc0 : (0 : Int) < (c : Int) := by omega
      have hc1 : (1 : Int) ≤ (c : Int) := by omega
      have HE := Lib.hid HE
      rcases hcl with rfl | hcl
      · obtain rfl : r = [] := List.eq_nil_of_length_eq_zero (by omega)
        have hcw0 := run_bytes_string 22 5 9 Try.underlying22 Try.underlying5 Try.underlying9 (some ad) 0 [] ((w.alloc (.cells #[.int .i64 0, .int .i64 0, .string ⟨#[]⟩] 25)).alloc (.cells #[.int .i64 2, .int .i64 0, .string ⟨#[]⟩] 25)) w.heap.size Reads.nil
        rw [hS, List.length_nil] at hcw0
        clear hS
        go_enter Try.func28, Try.ntmps28
        go_wp2_with fail
        go_at_call 16
        rw [← hw2]
        clear hw2 hcw hcw0
        refine (HK.out w2).mono ?_
        rintro e w3 ⟨rfl, h3⟩
        have T3 := Lib.hid (T0.out.next h3)
        clear h3
        obtain ⟨z0, z1, z2, f0, f1, f2⟩ := Row.facts3 T3.out.z
        obtain ⟨y0, y1, y2, -, -, -⟩ := Row.facts3 (show Row w3 (w.heap.size + 1) 25 #[.int .i64 2, .int .i64 0, .string S] from T3.out.k)
        have HB3 := Lib.hid (fun (x y z : Value) => ((T3.out.b.setCell (p := ⟨w.heap.size, 0, none⟩) (Nat.le_refl _) x).setCell (p := ⟨w.heap.size, 1, none⟩) (Nat.le_refl _) y).setCell (p := ⟨w.heap.size, 2, none⟩) (Nat.le_refl _) z)
        cases ik with
        | false =>
          have HD := Lib.hid (dec_no (HE.out.trans rfl))
          go_wp2_with fail
          refine bodyPost_ret (v := .tuple #[K.zero.v, .bool false]) (by simp [results, Try.results28, go_sem, K.v, K.zero, z0, z1, z2]) rfl ?_
          exact ⟨by unfold DkE; rw [HD.out.1, HD.out.2], HB3.out _ _ _⟩
        | true =>
          have HD := Lib.hid (dec_yes (HE.out.trans rfl))
          go_wp2_with fail
          refine bodyPost_ret (v := .tuple #[K.v ⟨2, 0, S⟩, .bool true]) (by simp [results, Try.results28, go_sem, K.v, z0, z1, z2]) rfl ?_
          exact ⟨by unfold DkE; rw [HD.out.1, HD.out.2], HB3.out _ _ _⟩
      · rw [show ((2 : Int) :: r).length = r.length + 1 from rfl]
        clear hS
        go_enter Try.func28, Try.ntmps28
        go_wp2_with fail
        go_at_call 16
        rw [← hw2]
        clear hw2 hcw
        refine (HK.out w2).mono ?_
        rintro e w3 ⟨rfl, h3⟩
        have T3 := Lib.hid (T0.out.next h3)
        clear h3
        obtain ⟨z0, z1, z2, f0, f1, f2⟩ := Row.facts3 T3.out.z
        obtain ⟨y0, y1, y2, -, -, -⟩ := Row.facts3 (show Row w3 (w.heap.size + 1) 25 #[.int .i64 2, .int .i64 0, .string S] from T3.out.k)
        have HB3 := Lib.hid (fun (x y z : Value) => ((T3.out.b.setCell (p := ⟨w.heap.size, 0, none⟩) (Nat.le_refl _) x).setCell (p := ⟨w.heap.size, 1, none⟩) (Nat.le_refl _) y).setCell (p := ⟨w.heap.size, 2, none⟩) (Nat.le_refl _) z)
        cases ik with
        | false =>
          have HD := Lib.hid (dec_no (HE.out.trans rfl))
          go_wp2_with fail
          refine bodyPost_ret (v := .tuple #[K.zero.v, .bool false]) (by simp [results, Try.results28, go_sem, K.v, K.zero, z0, z1, z2]) rfl ?_
          exact ⟨by unfold DkE; rw [HD.out.1, HD.out.2], HB3.out _ _ _⟩
        | true =>
          have HD := Lib.hid (dec_yes (HE.out.trans rfl))
          go_wp2_with fail
          refine bodyPost_ret (v := .tuple #[K.v ⟨2, 0, S⟩, .bool true]) (by simp [results, Try.results28, go_sem, K.v, z0, z1, z2]) rfl ?_
          exact ⟨by unfold DkE; rw [HD.out.1, HD.out.2], HB3.out _ _ _⟩
    · have h2' : (x == 2) = false := by simpa using h2
      have hc0 : (0 : Int) < (c : Int) := by simp at hc; omega
      by_cases hs : r.length < 6
      · have HD := Lib.hid (dec_no (l := x :: r) (by unfold decO; rw [cand_short ⟨hx0, hx1⟩ h2 hs]; rfl))
        have hs' : (r.length : Int) + 1 < 7 := by omega
        rw [show (x :: r).length = r.length + 1 from rfl]
        clear hr hy hc hl hcell h2' hs
        go_enter Try.func28, Try.ntmps28
        go_wp2
        refine bodyPost_ret (v := .tuple #[K.zero.v, .bool false]) (by simp [results, Try.results28, go_sem, K.v, K.zero]) rfl ?_
        exact ⟨by unfold DkE; rw [HD.out.1, HD.out.2], HB.out _ (HB.out w (Below.refl _ _) _) _⟩
      · have hcn : r.length + 1 ≤ c := by simpa using hc
        have hln : (r.length : Int) ≤ 1099511627776 := by simp at hl; omega
        have HX := Lib.hid (fun (j : Nat) (hj : j < r.length) => show w.cell? (ad.add (j + 1)) = some (.int .u8 r[j]) ∧ 0 ≤ r[j] ∧ r[j] ≤ 255 from by
          obtain ⟨ad', he, hb, hcl⟩ := hr.int (j + 1) (by simp; omega)
          injection he with he
          subst he
          exact ⟨hcl, hy _ (by simp)⟩)
        have hrr : Reads w w.heap.size (some (ad.add 7)) (ints .u8 (r.drop 6)) := fun j hj => by
          have hj2 : j + 6 < r.length := by simp at hj; omega
          refine ⟨_, rfl, by rw [add_block]; exact hab, ?_⟩
          rw [add_add, show 7 + j = (j + 6) + 1 by omega, (HX.out (j + 6) hj2).1]
          simp [ints, Nat.add_comm]
        have hcv := fun (w1 : World) (h : Below w.heap.size w w1) (cp : Nat) => run_bytes_string 22 5 9 Try.underlying22 Try.underlying5 Try.underlying9 (some (ad.add 7)) cp (r.drop 6) w1 _ (hrr.below h)
        have HE0 := dec_is (cand_num (x := x) (r := r) ⟨hx0, hx1⟩ h2 (by omega))
        obtain ⟨S, hS⟩ : ∃ s, strOfNums (r.drop 6) = s := ⟨_, rfl⟩
        obtain ⟨V, hV⟩ : ∃ v, val ((toU r).take 6) = v := ⟨_, rfl⟩
        have hV2 : (V : Int) ≤ 281474976710656 := by
          have := val_lt ((toU r).take 6)
          rw [hV, show ((toU r).take 6).length = 6 by simp; omega] at this
          have p6 : (256 : Nat) ^ 6 = 281474976710656 := by decide
          omega
        rw [hS, hV] at HE0
        obtain ⟨ik, hik⟩ : ∃ b, isK ⟨x, (V : Int) - 1000000000000, S⟩ = b := ⟨_, rfl⟩
        have HK := Lib.hid (fun w => specIsKey_any ⟨x, (V : Int) - 1000000000000, S⟩ (by rw [← hS]; show (strOfNums (r.drop 6)).data.size ≤ _; rw [← Array.length_toList, strOfNums_data]; simp; omega) w)
        rw [hik] at HK HE0
        rw [hS] at hcv
        have HE := Lib.hid HE0
        clear HE0
        have HV := Lib.hid hV
        have HS := Lib.hid hS
        obtain ⟨N, hN⟩ : ∃ N, (V : Int) - 1000000000000 = N := ⟨_, rfl⟩
        rw [hN] at HK HE
        have hcl : c = 7 ∨ ¬ c = 7 := by omega
        have t0 := Two.made w 25 ⟨x, N, S⟩
        have hcw := hcv ((w.alloc (.cells #[.int .i64 0, .int .i64 0, .string ⟨#[]⟩] 25)).alloc (.cells #[.int .i64 x, .int .i64 N, .string ⟨#[]⟩] 25)) (below_alloc (below_alloc (Below.refl _ _) _ (Nat.le_refl _)) _ (Nat.le_refl _)) (c - 7)
        rw [show ad.add 7 = ⟨ad.block, ad.off + 7, none⟩ from rfl, show (r.drop 6).length = r.length - 6 by simp] at hcw
        obtain ⟨w2, hw2⟩ : ∃ u, u = (w.alloc (.cells #[.int .i64 0, .int .i64 0, .string ⟨#[]⟩] 25)).alloc (.cells #[.int .i64 x, .int .i64 N, .string S] 25) := ⟨_, rfl⟩
        have t0' : Two w w2 25 ⟨x, N, S⟩ := by rw [hw2]; exact t0
        have T0 := Lib.hid t0'
        have hc1 : (7 : Int) ≤ (c : Int) := by omega
        have hr6 : (7 : Int) ≤ (r.length : Int) + 1 := by omega
        clear t0 t0' hcv hrr hr hy hc hl hcell hik hV hS
        rw [show (x :: r).length = r.length + 1 from rfl]
        go_enter Try.func28, Try.ntmps28
        go_wp2
        go_loop [6, 7] (fun v i => ∃ (j m : Nat), 1 ≤ j ∧ j ≤ 7 ∧ i = .int .i64 j ∧ v = .int .i64 m ∧ Hid (val ((toU r).take (j - 1)) = m)) (fun _ i => 7 - (intOf i).toNat)
        case atStart => exact ⟨1, 0, by omega, by omega, rfl, rfl, rfl⟩
        case round =>
          obtain ⟨j, m, hj1, hj7, rfl, rfl, hrel⟩ := hrel
          by_cases hlt : (j : Int) < 7
          · obtain ⟨hcx, hy0, hy1⟩ := HX.out (j - 1) (by omega)
            rw [show j - 1 + 1 = j by omega] at hcx
            have HST := Lib.hid (val_take (toU r) (j - 1) (by simp; omega))
            have hm : (m : Int) ≤ 1099511627776 := by
              have h9 := val_lt ((toU r).take (j - 1))
              rw [hrel.out] at h9
              have h8 : 256 ^ ((toU r).take (j - 1)).length ≤ 256 ^ 5 := Nat.pow_le_pow_right (by decide) (by simp; omega)
              have p5 : (256 : Nat) ^ 5 = 1099511627776 := by decide
              omega
            obtain ⟨y, hy⟩ : ∃ y, y = r[j - 1]'(by omega) := ⟨_, rfl⟩
            have hyU : ((toU r)[j - 1]'(by simp; omega)).toNat = y.toNat := by
              rw [hy] at *
              simp only [toU, List.getElem_map, UInt8.toNat_ofNat']
              omega
            rw [← hy] at hcx hy0 hy1
            have hor := or_byte m y hy0 hy1 hm
            have HU := Lib.hid hyU
            have hjr : (j : Int) < (r.length : Int) + 1 := by omega
            have hj0 : (0 : Int) ≤ (j : Int) := by omega
            have hcx1 : ((w.alloc (.cells #[.int .i64 0, .int .i64 0, .string ⟨#[]⟩] 25)).alloc (.cells #[.int .i64 x, .int .i64 0, .string ⟨#[]⟩] 25)).cell? (ad.add j) = some (.int .u8 y) := ((HB.out _ (HB.out w (Below.refl _ _) _) _).cell (by rw [add_block]; exact hab)).trans hcx
            clear hy hyU hcx
            go_wp2
            go_round
            case rel =>
              refine ⟨j + 1, m * 256 + y.toNat, by omega, by omega, by go_num, by congr 1; omega, ?_⟩
              have h5 := HST.out
              rw [hrel.out, HU.out, show j - 1 + 1 = j + 1 - 1 by omega] at h5
              exact h5
            case measure => simp [intOf]; omega
          · obtain rfl : j = 7 := by omega
            have hm : m = V := by rw [← hrel.out]; exact HV.out
            subst hm
            have hN' := hN
            rcases hcl with rfl | hcl
            · have hrl : r.length = 6 := by omega
              have e0 : r.drop 6 = [] := List.drop_eq_nil_of_le (by omega)
              have hcw0 := run_bytes_string 22 5 9 Try.underlying22 Try.underlying5 Try.underlying9 (some ad) 0 [] ((w.alloc (.cells #[.int .i64 0, .int .i64 0, .string ⟨#[]⟩] 25)).alloc (.cells #[.int .i64 x, .int .i64 N, .string ⟨#[]⟩] 25)) w.heap.size Reads.nil
              have h9 := HS.out
              rw [e0] at h9
              rw [h9, List.length_nil] at hcw0
              clear h9 e0
              go_wp2_with fail
              go_at_call 16
              rw [← hw2]
              clear hw2 hcw hcw0
              refine (HK.out w2).mono ?_
              rintro e w3 ⟨rfl, h3⟩
              have T3 := Lib.hid (T0.out.next h3)
              clear h3
              obtain ⟨z0, z1, z2, f0, f1, f2⟩ := Row.facts3 T3.out.z
              obtain ⟨y0, y1, y2, -, -, -⟩ := Row.facts3 (show Row w3 (w.heap.size + 1) 25 #[.int .i64 x, .int .i64 N, .string S] from T3.out.k)
              have HB3 := Lib.hid (fun (x y z : Value) => ((T3.out.b.setCell (p := ⟨w.heap.size, 0, none⟩) (Nat.le_refl _) x).setCell (p := ⟨w.heap.size, 1, none⟩) (Nat.le_refl _) y).setCell (p := ⟨w.heap.size, 2, none⟩) (Nat.le_refl _) z)
              cases ik with
              | false =>
                have HD := Lib.hid (dec_no (HE.out.trans rfl))
                go_wp2_with fail
                refine bodyPost_ret (v := .tuple #[K.zero.v, .bool false]) (by simp [results, Try.results28, go_sem, K.v, K.zero, z0, z1, z2]) rfl ?_
                exact ⟨by unfold DkE; rw [HD.out.1, HD.out.2], HB3.out _ _ _⟩
              | true =>
                have HD := Lib.hid (dec_yes (HE.out.trans rfl))
                go_wp2_with fail
                refine bodyPost_ret (v := .tuple #[K.v ⟨x, N, S⟩, .bool true]) (by simp [results, Try.results28, go_sem, K.v, z0, z1, z2]) rfl ?_
                exact ⟨by unfold DkE; rw [HD.out.1, HD.out.2], HB3.out _ _ _⟩
            · go_wp2_with fail
              go_at_call 16
              rw [← hw2]
              clear hw2 hcw
              refine (HK.out w2).mono ?_
              rintro e w3 ⟨rfl, h3⟩
              have T3 := Lib.hid (T0.out.next h3)
              clear h3
              obtain ⟨z0, z1, z2, f0, f1, f2⟩ := Row.facts3 T3.out.z
              obtain ⟨y0, y1, y2, -, -, -⟩ := Row.facts3 (show Row w3 (w.heap.size + 1) 25 #[.int .i64 x, .int .i64 N, .string S] from T3.out.k)
              have HB3 := Lib.hid (fun (x y z : Value) => ((T3.out.b.setCell (p := ⟨w.heap.size, 0, none⟩) (Nat.le_refl _) x).setCell (p := ⟨w.heap.size, 1, none⟩) (Nat.le_refl _) y).setCell (p := ⟨w.heap.size, 2, none⟩) (Nat.le_refl _) z)
              cases ik with
              | false =>
                have HD := Lib.hid (dec_no (HE.out.trans rfl))
                go_wp2_with fail
                refine bodyPost_ret (v := .tuple #[K.zero.v, .bool false]) (by simp [results, Try.results28, go_sem, K.v, K.zero, z0, z1, z2]) rfl ?_
                exact ⟨by unfold DkE; rw [HD.out.1, HD.out.2], HB3.out _ _ _⟩
              | true =>
                have HD := Lib.hid (dec_yes (HE.out.trans rfl))
                go_wp2_with fail
                refine bodyPost_ret (v := .tuple #[K.v ⟨x, N, S⟩, .bool true]) (by simp [results, Try.results28, go_sem, K.v, z0, z1, z2]) rfl ?_
                exact ⟨by unfold DkE; rw [HD.out.1, HD.out.2], HB3.out _ _ _⟩
end Go.Proofs.Ytenmdecooamaaaa.L4
