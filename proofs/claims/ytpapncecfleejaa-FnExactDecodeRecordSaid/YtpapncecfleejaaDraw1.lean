/-
  The contracts of the specification's draws of chapter 1 (l1New, l1Byte, l1Below and what rests on them): which numbers and strings they can give, and that they write into nothing but their cursor. No condition beyond a cursor of the call's own.
-/
import Derived.Test.YtpapncecfleejaaMem
import Derived.Outline
import Derived.IntWalk
import Derived.Laws.BitsAllLaws
namespace Go.Proofs.Ytpapncecfleejaa.Draw
set_option maxRecDepth 100000
open Go.ChangeShapes Go.WideShapes Go.ChangeAt Go.RowKit Mem

theorem l1Byte_any (B c : Nat) (w : World) (hcur : Cur B w c) :
    Calls Try.prog 85 #[.pointer (some ⟨c, 0, none⟩)] w (Drawn B c w fun n => 0 ≤ n ∧ n ≤ 255) := by
  obtain ⟨hB, a, len, cap, i, h, hrow, hi, hlen, hby⟩ := hcur
  have c0 := hrow.cell 0
  have c1 := hrow.cell 1
  have c2 := hrow.cell 2
  have f1 := hrow.free 1
  have f2 := hrow.free 2
  simp at c0 c1 c2
  obtain ⟨X, hX⟩ : ∃ X : Int, X = wrap64 (wrap64 (h * 6364136223846793005) + 1442695040888963407) := ⟨_, rfl⟩
  have HX := Lib.hid hX
  clear hX
  have r1 := hrow.put 2 (.int .i64 X)
  have g1 := grownBy_put w c 2 (.int .i64 X)
  go_enter Try.func85, Try.ntmps85
  go_wp2
  rw [← HX.out]
  clear c0 c1 c2 f1 f2 HX
  generalize w.setCell ⟨c, 2, none⟩ (.int .i64 X) = w1 at r1 g1 ⊢
  have c0 := r1.cell 0
  have c1 := r1.cell 1
  have c2 := r1.cell 2
  have f1 := r1.free 1
  simp at c0 c1 c2
  go_quiet (fail)
  go_wp2
  have hx := and_mask (bits .xor .i64 (X / 8589934592) (X / 140737488355328)) 255 (by decide)
  generalize bits .and .i64 (bits .xor .i64 (X / 8589934592) (X / 140737488355328)) 255 = x at hx ⊢
  have g2 := grownBy_step g1 (grownBy_draws w1 nq (some c))
  replace r1 := r1.draws nq
  generalize w1.drewN _ = w2 at r1 g2 ⊢
  clear c0 c1 c2 f1 g1
  have c0 := r1.cell 0
  have c1 := r1.cell 1
  have f1 := r1.free 1
  simp at c0 c1
  obtain ⟨hx0, hx1⟩ := hx
  by_cases hlt : i < len
  · go_quiet (fail)
    go_wp2
    have g3 := grownBy_step g2 (grownBy_draws w2 nq (some c))
    replace r1 := r1.draws nq
    have hBw : B ≤ w.heap.size := Nat.le_trans hB (Nat.le_of_lt hrow.inside)
    have hby2 := hby.below (below_of g3 hBw (fun k hk => by cases hk; exact hB))
    generalize w2.drewN _ = w3 at r1 g3 hby2 ⊢
    clear c0 c1 f1 g2
    have c0 := r1.cell 0
    have c1 := r1.cell 1
    have f1 := r1.free 1
    simp at c0 c1
    obtain ⟨ad, y, rfl, -, hcy, hy0, hy1⟩ := hby2 i hlt
    go_quiet (fail)
    have HX := Lib.hid (and_mask (x + y) 255 (by decide))
    have g4 := grownBy_step (grownBy_step g3 (grownBy_draws w3 nq (some c))) (grownBy_put (w3.drewN nq) c 1 (.int .i64 (↑i + 1)))
    have r2 := (r1.draws nq).put 1 (.int .i64 (↑i + 1))
    have G := Lib.hid (And.intro g4 r2)
    clear g4 r2
    go_wp2
    go_ret
    obtain ⟨g4, r2⟩ := G.out
    exact ⟨_, rfl, HX.out, ⟨hB, _, len, cap, i + 1, X, by simpa using r2, by omega, hlen, hby.below (below_of g4 hBw (fun k hk => by cases hk; exact hB))⟩, g4⟩
  · go_quiet (fail)
    go_wp2
    go_ret
    have g4 := grownBy_step g2 (grownBy_draws w2 nq (some c))
    have hBw : B ≤ w.heap.size := Nat.le_trans hB (Nat.le_of_lt hrow.inside)
    exact ⟨_, rfl, ⟨hx0, hx1⟩, ⟨hB, a, len, cap, i, X, by simpa using r1.draws nq, hi, hlen, hby.below (below_of g4 hBw (fun k hk => by cases hk; exact hB))⟩, g4⟩

/-- The cursor stands, and since w0 no old block but the cursor's has turned. -/
def On (B c : Nat) (w0 w : World) : Prop := Cur B w c ∧ w0.grownBy w (some c)
theorem On.start {B c : Nat} {w : World} (h : Cur B w c) : On B c w w := ⟨h, grownBy_refl w _⟩
theorem On.alloc {B c : Nat} {w0 w : World} (h : On B c w0 w) (o : Obj) : On B c w0 (w.alloc o) := by
  have hB : B ≤ w.heap.size := by
    obtain ⟨hc, a, len, cap, i, x, hr, _⟩ := h.1
    exact Nat.le_trans hc (Nat.le_of_lt hr.inside)
  exact ⟨h.1.grown (World.grownBy_alloc w o none) (by simp) (by simp) hB, grownBy_step h.2 (World.grownBy_alloc w o _)⟩
/-- What a draw leaves: a number with P. -/
def Num (B c : Nat) (w0 : World) (P : Int → Prop) (e : Ending) (w' : World) : Prop := ∃ n, e = .returned (.int .i64 n) ∧ P n ∧ On B c w0 w'
theorem Num.weak {B c : Nat} {w0 : World} {P Q : Int → Prop} (h : ∀ n, P n → Q n) {e : Ending} {w' : World} (hd : Num B c w0 P e w') : Num B c w0 Q e w' := by
  obtain ⟨n, he, hp, ho⟩ := hd
  exact ⟨n, he, h n hp, ho⟩

theorem l1Byte_on {B c : Nat} {w0 w : World} (h : On B c w0 w) :
    Calls Try.prog 85 #[.pointer (some ⟨c, 0, none⟩)] w (Num B c w0 fun n => 0 ≤ n ∧ n ≤ 255) :=
  (l1Byte_any B c w h.1).mono fun _ _ ⟨n, he, hp, hc, hg⟩ => ⟨n, he, hp, hc, grownBy_step h.2 hg⟩

theorem l1Below_on {B c : Nat} {w0 w : World} (n : Int) (hn : 1 ≤ n) (hn2 : n ≤ 9223372036854775807) (h : On B c w0 w) :
    Calls Try.prog 63 #[.pointer (some ⟨c, 0, none⟩), .int .i64 n] w (Num B c w0 fun r => 0 ≤ r ∧ r < n) := by
  by_cases h256 : n ≤ 256
  · go_enter Try.func63, Try.ntmps63
    go_wp2_with (go_at_call 85; refine (l1Byte_on (by assumption)).mono ?_; rintro e w' ⟨x, rfl, ⟨hx0, hx1⟩, ho⟩)
    go_ret
    exact ⟨_, rfl, ⟨by first | exact Int.emod_nonneg _ (by omega) | exact Int.tmod_nonneg _ (by omega), by first | exact Int.emod_lt_of_pos _ (by omega) | exact Int.tmod_lt_of_pos _ (by omega)⟩, ho⟩
  · go_enter Try.func63, Try.ntmps63
    go_wp2_with (go_at_call 85; refine (l1Byte_on (by assumption)).mono ?_; rintro e w' ⟨x, rfl, ⟨hx0, hx1⟩, ho⟩)
    go_ret
    exact ⟨_, rfl, ⟨by first | exact Int.emod_nonneg _ (by omega) | exact Int.tmod_nonneg _ (by omega), by first | exact Int.emod_lt_of_pos _ (by omega) | exact Int.tmod_lt_of_pos _ (by omega)⟩, ho⟩

theorem l1Once_on {B c : Nat} {w0 w : World} (n : Int) (hn : 1 ≤ n) (hn2 : n ≤ 9223372036854775807) (h : On B c w0 w) :
    Calls Try.prog 60 #[.pointer (some ⟨c, 0, none⟩), .int .i64 n] w (fun e w' => ∃ b : Bool, e = .returned (.bool b) ∧ On B c w0 w') := by
  go_enter Try.func60, Try.ntmps60
  go_wp2_with (go_at_call 63; refine (l1Below_on _ (by assumption) (by assumption) (by assumption)).mono ?_; rintro e w' ⟨x, rfl, ⟨hx0, hx1⟩, ho⟩)
  go_ret
  exact ⟨_, rfl, ho⟩

/-- The cells of a list of numbers, each with P. -/
def Ints (w : World) (P : Int → Prop) (b len : Nat) : Prop := ∀ j, j < len → ∃ v, w.cell? ⟨b, j, none⟩ = some (.int .i64 v) ∧ P v
theorem Ints.on {B c b len : Nat} {w0 w : World} {P : Int → Prop} (h : Ints w0 P b len) (ho : On B c w0 w) (hb : b < w0.heap.size) (hbc : b ≠ c) : Ints w P b len := fun j hj => by
  obtain ⟨v, hc, hp⟩ := h j hj
  exact ⟨v, by rw [World.cell?_of_block (ho.2.block b hb (by simpa using hbc))]; exact hc, hp⟩

theorem l1Int_on {B c : Nat} {w0 w : World} {P : Int → Prop} (b len : Nat) (h1 : 1 ≤ len) (h2 : len ≤ 1000) (hP : Ints w P b len) (hb : b < w.heap.size) (hbc : b ≠ c) (h : On B c w0 w) :
    Calls Try.prog 49 #[.pointer (some ⟨c, 0, none⟩), .slice (some ⟨b, 0, none⟩) len len] w (Num B c w0 P) := by
  go_enter Try.func49, Try.ntmps49
  go_wp2_with (go_at_call 63; refine (l1Below_on _ (by omega) (by omega) (On.start h.1)).mono ?_; rintro e w' ⟨x, rfl, ⟨hx0, hx1⟩, ho⟩; obtain ⟨v, hcv, hpv⟩ := hP.on ho hb hbc x.toNat (by omega))
  go_ret
  exact ⟨v, rfl, hpv, ho.1, grownBy_step h.2 ho.2⟩

/-- The cells of a list of strings, each with P. -/
def Strs (w : World) (P : ByteArray → Prop) (b len : Nat) : Prop := ∀ j, j < len → ∃ v, w.cell? ⟨b, j, none⟩ = some (.string v) ∧ P v
theorem Strs.on {B c b len : Nat} {w0 w : World} {P : ByteArray → Prop} (h : Strs w0 P b len) (ho : On B c w0 w) (hb : b < w0.heap.size) (hbc : b ≠ c) : Strs w P b len := fun j hj => by
  obtain ⟨v, hc, hp⟩ := h j hj
  exact ⟨v, by rw [World.cell?_of_block (ho.2.block b hb (by simpa using hbc))]; exact hc, hp⟩
def Str (B c : Nat) (w0 : World) (P : ByteArray → Prop) (e : Ending) (w' : World) : Prop := ∃ s, e = .returned (.string s) ∧ P s ∧ On B c w0 w'

theorem l1Str_on {B c : Nat} {w0 w : World} {P : ByteArray → Prop} (b len : Nat) (h1 : 1 ≤ len) (h2 : len ≤ 1000) (hP : Strs w P b len) (hb : b < w.heap.size) (hbc : b ≠ c) (h : On B c w0 w) :
    Calls Try.prog 48 #[.pointer (some ⟨c, 0, none⟩), .slice (some ⟨b, 0, none⟩) len len] w (Str B c w0 P) := by
  go_enter Try.func48, Try.ntmps48
  go_wp2_with (go_at_call 63; refine (l1Below_on _ (by omega) (by omega) (On.start h.1)).mono ?_; rintro e w' ⟨x, rfl, ⟨hx0, hx1⟩, ho⟩; obtain ⟨v, hcv, hpv⟩ := hP.on ho hb hbc x.toNat (by omega))
  go_ret
  exact ⟨v, rfl, hpv, ho.1, grownBy_step h.2 ho.2⟩

/-- A list literal that the call has just laid. -/
theorem ints_lit (w : World) (t : TypeId) (l : List Int) (P : Int → Prop) (hP : ∀ v ∈ l, P v) : Ints (w.alloc (.cells (l.map (Value.int .i64)).toArray t)) P w.heap.size l.length := fun j hj => by
  refine ⟨l[j], ?_, hP _ (List.getElem_mem hj)⟩
  rw [(Row.made w t _).cell]
  simp [hj]
theorem strs_lit (w : World) (t : TypeId) (l : List ByteArray) (P : ByteArray → Prop) (hP : ∀ v ∈ l, P v) : Strs (w.alloc (.cells (l.map Value.string).toArray t)) P w.heap.size l.length := fun j hj => by
  refine ⟨l[j], ?_, hP _ (List.getElem_mem hj)⟩
  rw [(Row.made w t _).cell]
  simp [hj]
theorem On.lt {B c : Nat} {w0 w : World} (h : On B c w0 w) : c < w.heap.size := by
  obtain ⟨hc, a, len, cap, i, x, hr, _⟩ := h.1
  exact hr.inside


theorem mul_wrap {x y : Int} (h0 : 0 ≤ x) (h1 : x < 1000000) (h2 : 0 ≤ y) (h3 : y < 1000000) : 0 ≤ wrap64 (x * y) ∧ wrap64 (x * y) ≤ 1000000000000 := by
  have a := Int.mul_nonneg h0 h2
  have b : x * y ≤ 1000000 * 1000000 := Int.mul_le_mul (by omega) (by omega) h2 (by decide)
  rw [← IntWalk.i64_left, IntWalk.i64_in _ ⟨by omega, by omega⟩]
  omega




/-- A new cursor over the code. -/
def Made (B : Nat) (w : World) (e : Ending) (w' : World) : Prop := ∃ c, e = .returned (.pointer (some ⟨c, 0, none⟩)) ∧ w.heap.size ≤ c ∧ Cur B w' c ∧ Below w.heap.size w w'

theorem l1New_on {B : Nat} {w : World} (a : Option Addr) (len cap : Nat) (hB : B ≤ w.heap.size) (hlen : len ≤ 4611686018427387904) (hby : Bytes w B a len) :
    Calls Try.prog 46 #[.slice a len cap] w (Made B w) := by
  go_enter Try.func46, Try.ntmps46
  go_wp2
  go_loop [3, 4] (fun h i => ∃ (k : Nat) (x : Int), k ≤ len ∧ i = .int .i64 k ∧ h = .int .i64 x) (fun _ i => len - (intOf i).toNat)
  case atStart => exact ⟨0, _, Nat.zero_le _, rfl, rfl⟩
  case round =>
    obtain ⟨k, x, hk, rfl, rfl⟩ := hrel
    by_cases hlt : k < len
    · obtain ⟨ad, y, rfl, -, hcy, hy0, hy1⟩ := hby k hlt
      by_cases h4 : (k : Int) < 4000
      · go_wp2
        go_round
        case rel => exact ⟨k + 1, _, by omega, by go_num, rfl⟩
        case measure => simp [intOf]; omega
      · go_wp2
        go_ret
        refine ⟨_, rfl, Nat.le_refl _, ⟨hB, _, len, cap, 0, _, Row.made w _ _, Nat.zero_le _, hlen, hby.below ((Below.refl _ _).alloc hB _)⟩, (Below.refl _ _).alloc (Nat.le_refl _) _⟩
    · go_wp2
      go_ret
      refine ⟨_, rfl, Nat.le_refl _, ⟨hB, _, len, cap, 0, _, Row.made w _ _, Nat.zero_le _, hlen, hby.below ((Below.refl _ _).alloc hB _)⟩, (Below.refl _ _).alloc (Nat.le_refl _) _⟩
end Go.Proofs.Ytpapncecfleejaa.Draw
