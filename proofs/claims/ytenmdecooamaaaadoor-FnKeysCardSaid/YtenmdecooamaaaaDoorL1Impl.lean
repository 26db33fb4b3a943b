/-
  The contracts of the program's FormatInt and ParseInt (over strconv's Itoa and Atoi, by the kit's shelf): the same answers as the specification's. Conditions on the world: strconv's table of powers of ten reads as laid; for ParseInt strconv's two sentinels hold some error.
-/
import Derived.Test.YtenmdecooamaaaaDoorL1Parse
import Derived.Test.YtenmdecooamaaaaDoorShelf
import Derived.Lib.SmallJoins
namespace Go.Proofs.YtenmdecooamaaaaDoor.L1
open Go.ChangeShapes Go.WideShapes Go.ChangeAt Go.RowKit

theorem below_grow (w : World) (k : Nat) (os : Array Obj) : Below w.heap.size w (Sort.grow (w.drewN k) os) :=
  ⟨rfl, rfl, rfl, by simp [Sort.grow, World.drewN], fun i hi => by
    show (w.heap ++ os)[i]? = _
    rw [Array.getElem?_append_left hi]⟩

/-- What the calls of strconv want of the world. -/
def Tab (w : World) : Prop := Lib.TabIs Tryd.prog w "internal/strconv.uint64pow10" .u64 Lib.pow10Tab
theorem Tab.below {w w' : World} (h : Tab w) (hb : Below w.heap.size w w') : Tab w' :=
  _root_.Go.Joins.tab_stays (g := 3) (by kernel_rfl) h hb (Nat.le_refl _)

theorem implFormatInt_any (n : Int) (h0 : -9223372036854775808 ≤ n) (h1 : n ≤ 9223372036854775807) (w : World) (ht : Tab w) :
    Calls Tryd.prog 31 #[.int .i64 n] w fun e w' => e = .returned (.string ⟨(Lib.itoa n).toArray⟩) ∧ Below w.heap.size w w' := by
  go_enter Tryd.func31, Tryd.ntmps31
  go_wp2_with (go_at_call 49; refine (Tryd.strconv_Itoa n h0 h1 _ ht).mono ?_; rintro e w' ⟨rfl, k, os, rfl⟩)
  go_ret
  exact ⟨rfl, below_grow _ _ _⟩

def Sents (w : World) : Prop := (∃ tp p, w.var? Tryd.prog "strconv.ErrSyntax" = some #[.iface tp p]) ∧ (∃ tp p, w.var? Tryd.prog "strconv.ErrRange" = some #[.iface tp p])
theorem Sents.below {w w' : World} (h : Sents w) (hb : Below w.heap.size w w') : Sents w' := by
  obtain ⟨⟨a, b, h1⟩, c, d, h2⟩ := h
  exact ⟨⟨a, b, _root_.Go.Joins.var_stays (g := 1) (by kernel_rfl) h1 hb (Nat.le_refl _)⟩, c, d, _root_.Go.Joins.var_stays (g := 2) (by kernel_rfl) h2 hb (Nat.le_refl _)⟩

theorem atoi_ends (l : List UInt8) : (∃ v, Lib.atoiAll l = .ok v) ∨ Lib.atoiAll l = .range ∨ Lib.atoiAll l = Lib.atoiAll [] := by
  cases Lib.atoiAll l
  · exact Or.inl ⟨_, rfl⟩
  · exact Or.inr (Or.inr rfl)
  · exact Or.inr (Or.inl rfl)
theorem no_atoi {l : List UInt8} (h : ∀ v, Lib.atoiAll l ≠ .ok v) : pOk l = false := by
  cases h2 : pOk l with
  | false => rfl
  | true => exact absurd (pOk_num h2).atoi (h _)
theorem no_value {l : List UInt8} {v : Int} (ha : Lib.atoiAll l = .ok v) (h : ¬ Num l v) : pOk l = false := by
  cases h2 : pOk l with
  | false => rfl
  | true =>
    have h3 := pOk_num h2
    have h4 := h3.atoi
    rw [ha] at h4
    injection h4 with h5
    exact absurd (h5 ▸ h3) h

theorem below_bytes {w w' : World} {T : Nat} (h : w' = w ∨ ∃ t, w' = Lib.bytesWorld w T t) : Below w.heap.size w w' := by
  rcases h with rfl | ⟨t, rfl⟩
  · exact Below.refl _ _
  · exact Lib.bytesWorld_below _ _ _


end Go.Proofs.YtenmdecooamaaaaDoor.L1
