/-
  What follows several ways, proved once for all of them. No condition.
-/
import Derived.Test.YtkfejjoehgipmaaRows
namespace Go.Proofs.Ytkfejjoehgipmaa
set_option maxRecDepth 100000
/-- What follows several ways, said once. -/
theorem share3 {T : Prop} {a0 a1 a2 : Type} {G : a0 → a1 → a2 → Prop} (main : (∀ x0 x1 x2, G x0 x1 x2) → T) (pf : ∀ x0 x1 x2, G x0 x1 x2) : T := main pf
theorem share4 {T : Prop} {a0 a1 a2 a3 : Type} {G : a0 → a1 → a2 → a3 → Prop} (main : (∀ x0 x1 x2 x3, G x0 x1 x2 x3) → T) (pf : ∀ x0 x1 x2 x3, G x0 x1 x2 x3) : T := main pf
theorem share5 {T : Prop} {a0 a1 a2 a3 a4 : Type} {G : a0 → a1 → a2 → a3 → a4 → Prop} (main : (∀ x0 x1 x2 x3 x4, G x0 x1 x2 x3 x4) → T) (pf : ∀ x0 x1 x2 x3 x4, G x0 x1 x2 x3 x4) : T := main pf
theorem share6 {T : Prop} {a0 a1 a2 a3 a4 a5 : Type} {G : a0 → a1 → a2 → a3 → a4 → a5 → Prop} (main : (∀ x0 x1 x2 x3 x4 x5, G x0 x1 x2 x3 x4 x5) → T) (pf : ∀ x0 x1 x2 x3 x4 x5, G x0 x1 x2 x3 x4 x5) : T := main pf
theorem share7 {T : Prop} {a0 a1 a2 a3 a4 a5 a6 : Type} {G : a0 → a1 → a2 → a3 → a4 → a5 → a6 → Prop} (main : (∀ x0 x1 x2 x3 x4 x5 x6, G x0 x1 x2 x3 x4 x5 x6) → T) (pf : ∀ x0 x1 x2 x3 x4 x5 x6, G x0 x1 x2 x3 x4 x5 x6) : T := main pf
theorem share8 {T : Prop} {a0 a1 a2 a3 a4 a5 a6 a7 : Type} {G : a0 → a1 → a2 → a3 → a4 → a5 → a6 → a7 → Prop} (main : (∀ x0 x1 x2 x3 x4 x5 x6 x7, G x0 x1 x2 x3 x4 x5 x6 x7) → T) (pf : ∀ x0 x1 x2 x3 x4 x5 x6 x7, G x0 x1 x2 x3 x4 x5 x6 x7) : T := main pf
theorem share9 {T : Prop} {a0 a1 a2 a3 a4 a5 a6 a7 a8 : Type} {G : a0 → a1 → a2 → a3 → a4 → a5 → a6 → a7 → a8 → Prop} (main : (∀ x0 x1 x2 x3 x4 x5 x6 x7 x8, G x0 x1 x2 x3 x4 x5 x6 x7 x8) → T) (pf : ∀ x0 x1 x2 x3 x4 x5 x6 x7 x8, G x0 x1 x2 x3 x4 x5 x6 x7 x8) : T := main pf
theorem share10 {T : Prop} {a0 a1 a2 a3 a4 a5 a6 a7 a8 a9 : Type} {G : a0 → a1 → a2 → a3 → a4 → a5 → a6 → a7 → a8 → a9 → Prop} (main : (∀ x0 x1 x2 x3 x4 x5 x6 x7 x8 x9, G x0 x1 x2 x3 x4 x5 x6 x7 x8 x9) → T) (pf : ∀ x0 x1 x2 x3 x4 x5 x6 x7 x8 x9, G x0 x1 x2 x3 x4 x5 x6 x7 x8 x9) : T := main pf
theorem share11 {T : Prop} {a0 a1 a2 a3 a4 a5 a6 a7 a8 a9 a10 : Type} {G : a0 → a1 → a2 → a3 → a4 → a5 → a6 → a7 → a8 → a9 → a10 → Prop} (main : (∀ x0 x1 x2 x3 x4 x5 x6 x7 x8 x9 x10, G x0 x1 x2 x3 x4 x5 x6 x7 x8 x9 x10) → T) (pf : ∀ x0 x1 x2 x3 x4 x5 x6 x7 x8 x9 x10, G x0 x1 x2 x3 x4 x5 x6 x7 x8 x9 x10) : T := main pf
theorem share12 {T : Prop} {a0 a1 a2 a3 a4 a5 a6 a7 a8 a9 a10 a11 : Type} {G : a0 → a1 → a2 → a3 → a4 → a5 → a6 → a7 → a8 → a9 → a10 → a11 → Prop} (main : (∀ x0 x1 x2 x3 x4 x5 x6 x7 x8 x9 x10 x11, G x0 x1 x2 x3 x4 x5 x6 x7 x8 x9 x10 x11) → T) (pf : ∀ x0 x1 x2 x3 x4 x5 x6 x7 x8 x9 x10 x11, G x0 x1 x2 x3 x4 x5 x6 x7 x8 x9 x10 x11) : T := main pf
end Go.Proofs.Ytkfejjoehgipmaa
