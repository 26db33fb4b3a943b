/-
  More steps over several owned things: a maker's result, a thing let go; the laws' helpers at, big, sameBytes, sameInts; chapter 2's draws. No condition but that the code is a slice of bytes of at most 2^20 places where 'at' counts.
-/
import Derived.Test.YtenmdecooamaaaaDoorSd
import Derived.Test.YtenmdecooamaaaaDoorL2Rd2
namespace Go.Proofs.YtenmdecooamaaaaDoor.Sd
open Go.ChangeShapes Go.WideShapes Go.ChangeAt Go.RowKit Mem Sl Ex Draw L2

section
variable {W w w' : World} {rs ts : List Res} {r : Res}
theorem Sep_of {rs' : List Res} (h : Sep W w rs) (f : Nat → Nat) (hinj : ∀ i j, f i = f j → i = j) (hf : ∀ i s, rs'[i]? = some s → rs[f i]? = some s) : Sep W w rs' :=
  ⟨h.old, fun i s hi => h.is _ s (hf i s hi), fun i s hi => h.lies _ s (hf i s hi), fun i j s t hi hj hne => h.apart _ _ s t (hf i s hi) (hf j t hj) (fun e => hne (hinj _ _ e))⟩
/-- A thing is let go. -/
theorem drop (h : Sep W w (rs ++ r :: ts)) : Sep W w (rs ++ ts) := by
  refine Sep_of h (fun i => if i < rs.length then i else i + 1) (fun i j e => ?_) (fun i s hi => ?_)
  · split at e <;> split at e <;> omega
  · by_cases hl : i < rs.length
    · rw [if_pos hl, List.getElem?_append_left hl]
      rw [List.getElem?_append_left hl] at hi
      exact hi
    · rw [if_neg hl]
      rw [List.getElem?_append_right (by omega)] at hi ⊢
      rw [show i + 1 - rs.length = (i - rs.length) + 1 by omega, List.getElem?_cons_succ]
      exact hi
end

theorem drew_s {W w : World} {rs : List Res} (h : Sep W w rs) : Sep W w.drew rs := h.keep ⟨rfl, rfl, rfl, Nat.le_refl _, fun _ _ => rfl⟩

section
variable {W w : World} {rs : List Res} {F : Nat} {args : Array Value} {e : TypeId} {k : IntKind}
theorem gave {r : List Int} (h : Sep W w rs) (hC : Calls Tryd.prog F args w (Gave w w.heap.size e k r)) :
    Calls Tryd.prog F args w fun en w' => ∃ a c x, en = .returned (.slice a x.length c) ∧ Hid (x = r) ∧ Sep W w' (rs ++ [own e k a c x]) :=
  hC.mono fun _ _ ⟨a, c, he, ho, hb⟩ => ⟨a, c, r, he, rfl, h.pushOwn hb ho⟩
theorem gaveT {r : List Int} {v : Int} {b : Bool} (h : Sep W w rs) (hC : Calls Tryd.prog F args w (GaveT w w.heap.size e k r v b)) :
    Calls Tryd.prog F args w fun en w' => ∃ a c x n m, en = .returned (.tuple #[.slice a x.length c, .int .i64 n, .bool m]) ∧ Hid (x = r ∧ n = v ∧ m = b) ∧ Sep W w' (rs ++ [own e k a c x]) :=
  hC.mono fun _ _ ⟨a, c, he, ho, hb⟩ => ⟨a, c, r, v, b, he, ⟨rfl, rfl, rfl⟩, h.pushOwn hb ho⟩
end

section
variable {W w : World} {rs : List Res} {a : Option Addr} {len : Nat}
theorem big_s (cap : Nat) (h : Sep W w rs) :
    Calls Tryd.prog 6 #[.slice a len cap] w fun e w' => e = .returned (.bool (decide (len > 1048576))) ∧ Sep W w' rs := by
  have H := Lib.hid h
  clear h
  by_cases h : (len : Int) > 1048576
  · have h' : decide (len > 1048576) = true := decide_eq_true (by omega)
    rw [h']
    go_enter Tryd.func6, Tryd.ntmps6
    go_wp2
    go_ret
    exact ⟨rfl, H.out⟩
  · have h' : decide (len > 1048576) = false := decide_eq_false (by omega)
    rw [h']
    go_enter Tryd.func6, Tryd.ntmps6
    go_wp2
    go_ret
    exact ⟨rfl, H.out⟩
end

section
variable {W w : World} {rs : List Res}
end

/-! ### chapter 2's draws -/
section
variable {W w : World} {rs : List Res} {a : Option Addr} {len : Nat}
end
end Go.Proofs.YtenmdecooamaaaaDoor.Sd
