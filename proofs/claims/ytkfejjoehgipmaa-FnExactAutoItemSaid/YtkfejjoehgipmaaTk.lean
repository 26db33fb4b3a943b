/-
  Steps of a region that draws its order, said shortly: the tests of an operation that is taken or skipped close by themselves. No condition.
-/
import Derived.Test.YtkfejjoehgipmaaPb
import Derived.WalkKit
namespace Go.Proofs.Ytkfejjoehgipmaa
set_option maxRecDepth 100000
def Reg.okOp (md : Region.Mode) (l : List Oper) (listed : Array Bool) (i : Nat) : Bool := Region.noSelect l.toArray && (Region.free md l.toArray listed i && (Region.ready md l.toArray listed).contains i)
theorem zp0 (a : Act) (i : Nat) (v : Value) : a.put (some i) v = { a with tmps := a.tmps.setIfInBounds i v } := rfl
theorem zp1 {α : Type} (l : List α) (i : Nat) (x : α) : l.toArray.setIfInBounds i x = (l.set i x).toArray := List.setIfInBounds_toArray ..
theorem zp2 {α : Type} (l : List α) (x y : α) : (x :: l).set 0 y = y :: l := rfl
theorem zp3 {α : Type} (l : List α) (x y : α) (i : Nat) : (x :: l).set (i + 1) y = x :: l.set i y := rfl
theorem zp4 (a : Act) (v : Value) : a.put none v = a := rfl
section
variable {P : Program} {l : List Oper} {Q : Exit → Act → World → Prop} {md : Region.Mode} {S : World → Prop} {fuel : Nat} {oi : Oper} {v : Value} {listed : Array Bool} {a : Act} {w : World}
open Reg
theorem Reg.okOp_spec {i : Nat} (h : okOp md l listed i = true) : Region.noSelect l.toArray = true ∧ Region.free md l.toArray listed i = true ∧ (Region.ready md l.toArray listed).contains i = true := by
  unfold okOp at h
  simp only [Bool.and_eq_true] at h
  exact h
theorem tk (i : Nat) (hi : nthO i l = some oi) (h : wpAnyH P md l.toArray Q S fuel (listed.setIfInBounds i true) (a.put oi.dst v) w)
    (hk : okOp md l listed i = true := by kernel_rfl) (hw : Region.wanted oi (yielded l.toArray a.tmps) = true := by rfl)
    (hy : ∀ w, S w → (execOp a.eval oi).run P w = .ok (.value v) w := by (intro w hSw; (try dsimp only at hSw); go_simp; try with_reducible rfl))
    (hQ : ∀ c a w, Q (.panic c) (a.put oi.dst v) w → Q (.panic c) a w := by exact fun _ _ _ h => h) (hS : S w := by assumption) :
    wpAnyH P md l.toArray Q S (fuel + 1) listed a w :=
  take_op hi (okOp_spec hk).1 (okOp_spec hk).2.1 (okOp_spec hk).2.2 hQ hw hy hS h
theorem sk (i : Nat) (hi : nthO i l = some oi) (h : wpAnyH P md l.toArray Q S fuel (listed.setIfInBounds i true) (a.put oi.dst undef) w)
    (hk : okOp md l listed i = true := by kernel_rfl) (hw : Region.wanted oi (yielded l.toArray a.tmps) = false := by rfl)
    (hQ : ∀ c a w, Q (.panic c) (a.put oi.dst undef) w → Q (.panic c) a w := by exact fun _ _ _ h => h) (hS : S w := by assumption) :
    wpAnyH P md l.toArray Q S (fuel + 1) listed a w :=
  skip_op hi (okOp_spec hk).1 (okOp_spec hk).2.1 (okOp_spec hk).2.2 hQ hw hS h
end
end Go.Proofs.Ytkfejjoehgipmaa
