/-
  No cell of these rows narrows 'for every input' (looked for: loops, veiled, ifaces, maps, wideKeys, modest, calm, conditions, laid).
  DERIVED. THE GIVEN ROWS OF THIS SEAT. 6 by the template 'for every input the law returns true; each argument reads behind the call as it read before'; 0 by the template 'total and deterministic' (their statements: YthiidcflpgbogaaTotals.lean).
  GIVEN WITH THE SEED: the statements are not yours to turn. If you find one false, say at which input.
  Laid BY PROGRAM, IN A SANDBOX (cutbox-rows.mjs): the forced cells as the released guide's own fill.sh prints them over the translation 53a79169b5f4fbe2… (all of the seat's roots in one cut). By AI agents, Wed Nov 11 2026. No macro, syntax, notation, axiom, sorry.
-/
import Derived.Test.YthiidcflpgbogaaChecked
import GoSem.Claim
import GoSem.ClaimJoined
import GoSem.ClaimMapViews
import Derived.JoinedTies
import Derived.KernelRfl
namespace Go.Proofs.Ythiidcflpgbogaa
/- THE CELL 'sum', in the pinned program and in every row, IS THE sha256 OF THE DUMP (.gsa) THAT YthiidcflpgbogaaProg.lean LOADS. Nothing in Lean hashes anything: it is a label: what it is worth is what the hold of that sum in a sandbox is worth. -/
noncomputable def Try.pinned : Pinned := { name := "ythiidcflpgbogaa", sum := "53a79169b5f4fbe2b2374b5b4542fb6a305f0dcf027bbd2cd4cd1b3bf82abe37", checked := Try.checked }
namespace Rows
def none {H : Type} : Left H := { results := [], args := [] }

/-- 'laws.FnExactIsOp': WHATEVER THE INPUT: true; the input reads as it did. -/
def fnExactIsOpSpec : ChangeSpec := { name := "fnExactIsOp", fn := fun _ => fun
  | [d] => { results := [.lit (.bool true)], args := [d] }
  | _ => none }
def fnExactIsOpRow : OpenClaim := { program := "ythiidcflpgbogaa", sum := "53a79169b5f4fbe2b2374b5b4542fb6a305f0dcf027bbd2cd4cd1b3bf82abe37", func := "loop.example/g00583/laws.FnExactIsOp", spec := "fnExactIsOp", apart := false }
def FnExactIsOpSaid : Prop := fnExactIsOpRow.holds Try.pinned (OpenSpec.ofChange fnExactIsOpSpec)

/-- ITS FALSE NEIGHBOUR: 'it returns false'. Refute it at one input. -/
def fnExactIsOpWrong : ChangeSpec := { name := "fnExactIsOp", fn := fun _ => fun
  | [d] => { results := [.lit (.bool false)], args := [d] }
  | _ => none }
def FnExactIsOpWrongFalsely : Prop := fnExactIsOpRow.holds Try.pinned (OpenSpec.ofChange fnExactIsOpWrong)

/-- 'laws.FnExactIsWrite': WHATEVER THE INPUT: true; the input reads as it did. -/
def fnExactIsWriteSpec : ChangeSpec := { name := "fnExactIsWrite", fn := fun _ => fun
  | [d] => { results := [.lit (.bool true)], args := [d] }
  | _ => none }
def fnExactIsWriteRow : OpenClaim := { program := "ythiidcflpgbogaa", sum := "53a79169b5f4fbe2b2374b5b4542fb6a305f0dcf027bbd2cd4cd1b3bf82abe37", func := "loop.example/g00583/laws.FnExactIsWrite", spec := "fnExactIsWrite", apart := false }
def FnExactIsWriteSaid : Prop := fnExactIsWriteRow.holds Try.pinned (OpenSpec.ofChange fnExactIsWriteSpec)

/-- ITS FALSE NEIGHBOUR: 'it returns false'. Refute it at one input. -/
def fnExactIsWriteWrong : ChangeSpec := { name := "fnExactIsWrite", fn := fun _ => fun
  | [d] => { results := [.lit (.bool false)], args := [d] }
  | _ => none }
def FnExactIsWriteWrongFalsely : Prop := fnExactIsWriteRow.holds Try.pinned (OpenSpec.ofChange fnExactIsWriteWrong)

/-- 'laws.FnExactScopeOf': WHATEVER THE INPUT: true; the input reads as it did. -/
def fnExactScopeOfSpec : ChangeSpec := { name := "fnExactScopeOf", fn := fun _ => fun
  | [d] => { results := [.lit (.bool true)], args := [d] }
  | _ => none }
def fnExactScopeOfRow : OpenClaim := { program := "ythiidcflpgbogaa", sum := "53a79169b5f4fbe2b2374b5b4542fb6a305f0dcf027bbd2cd4cd1b3bf82abe37", func := "loop.example/g00583/laws.FnExactScopeOf", spec := "fnExactScopeOf", recurses := true, apart := false }
def FnExactScopeOfSaid : Prop := fnExactScopeOfRow.holds Try.pinned (OpenSpec.ofChange fnExactScopeOfSpec)

/-- ITS FALSE NEIGHBOUR: 'it returns false'. Refute it at one input. -/
def fnExactScopeOfWrong : ChangeSpec := { name := "fnExactScopeOf", fn := fun _ => fun
  | [d] => { results := [.lit (.bool false)], args := [d] }
  | _ => none }
def FnExactScopeOfWrongFalsely : Prop := fnExactScopeOfRow.holds Try.pinned (OpenSpec.ofChange fnExactScopeOfWrong)

/-- 'laws.FnExactEncodeOps': WHATEVER THE INPUT: true; the input reads as it did. -/
def fnExactEncodeOpsSpec : ChangeSpec := { name := "fnExactEncodeOps", fn := fun _ => fun
  | [d] => { results := [.lit (.bool true)], args := [d] }
  | _ => none }
def fnExactEncodeOpsRow : OpenClaim := { program := "ythiidcflpgbogaa", sum := "53a79169b5f4fbe2b2374b5b4542fb6a305f0dcf027bbd2cd4cd1b3bf82abe37", func := "loop.example/g00583/laws.FnExactEncodeOps", spec := "fnExactEncodeOps", apart := false }
def FnExactEncodeOpsSaid : Prop := fnExactEncodeOpsRow.holds Try.pinned (OpenSpec.ofChange fnExactEncodeOpsSpec)

/-- ITS FALSE NEIGHBOUR: 'it returns false'. Refute it at one input. -/
def fnExactEncodeOpsWrong : ChangeSpec := { name := "fnExactEncodeOps", fn := fun _ => fun
  | [d] => { results := [.lit (.bool false)], args := [d] }
  | _ => none }
def FnExactEncodeOpsWrongFalsely : Prop := fnExactEncodeOpsRow.holds Try.pinned (OpenSpec.ofChange fnExactEncodeOpsWrong)

/-- 'laws.FnExactDecodeOps': WHATEVER THE INPUT: true; the input reads as it did. -/
def fnExactDecodeOpsSpec : ChangeSpec := { name := "fnExactDecodeOps", fn := fun _ => fun
  | [d] => { results := [.lit (.bool true)], args := [d] }
  | _ => none }
def fnExactDecodeOpsRow : OpenClaim := { program := "ythiidcflpgbogaa", sum := "53a79169b5f4fbe2b2374b5b4542fb6a305f0dcf027bbd2cd4cd1b3bf82abe37", func := "loop.example/g00583/laws.FnExactDecodeOps", spec := "fnExactDecodeOps", apart := false }
def FnExactDecodeOpsSaid : Prop := fnExactDecodeOpsRow.holds Try.pinned (OpenSpec.ofChange fnExactDecodeOpsSpec)

/-- ITS FALSE NEIGHBOUR: 'it returns false'. Refute it at one input. -/
def fnExactDecodeOpsWrong : ChangeSpec := { name := "fnExactDecodeOps", fn := fun _ => fun
  | [d] => { results := [.lit (.bool false)], args := [d] }
  | _ => none }
def FnExactDecodeOpsWrongFalsely : Prop := fnExactDecodeOpsRow.holds Try.pinned (OpenSpec.ofChange fnExactDecodeOpsWrong)

/-- 'laws.FnExactEqualOps': WHATEVER THE INPUT: true; the input reads as it did. -/
def fnExactEqualOpsSpec : ChangeSpec := { name := "fnExactEqualOps", fn := fun _ => fun
  | [d1, d2] => { results := [.lit (.bool true)], args := [d1, d2] }
  | _ => none }
def fnExactEqualOpsRow : OpenClaim := { program := "ythiidcflpgbogaa", sum := "53a79169b5f4fbe2b2374b5b4542fb6a305f0dcf027bbd2cd4cd1b3bf82abe37", func := "loop.example/g00583/laws.FnExactEqualOps", spec := "fnExactEqualOps", unfollowed := true, recurses := true, apart := false }
def FnExactEqualOpsSaid : Prop := fnExactEqualOpsRow.holds Try.pinned (OpenSpec.ofChange fnExactEqualOpsSpec)

/-- ITS FALSE NEIGHBOUR: 'it returns false'. Refute it at one input. -/
def fnExactEqualOpsWrong : ChangeSpec := { name := "fnExactEqualOps", fn := fun _ => fun
  | [d1, d2] => { results := [.lit (.bool false)], args := [d1, d2] }
  | _ => none }
def FnExactEqualOpsWrongFalsely : Prop := fnExactEqualOpsRow.holds Try.pinned (OpenSpec.ofChange fnExactEqualOpsWrong)

/- THE SECOND FORM. 'bulk': how many values and letters a reading holds, each counted each time it is reached (what is shared counts as often as it is met; a slice's spare places count too). A statement '..UptoSaid' is the law's where the arguments, and the package variables that the reading takes, are together of bulk at most 1048576: NARROWER than '..Said'. Prove '..Said' where nothing that the law and all that it calls make is longer than what came in: it says more and counts as full. Else prove '..UptoSaid'. A law counts once. -/
mutual
def uptoBulk {H : Type} : DataW H → Nat
  | .lit (.string bytes) => bytes.length + 1
  | .lit _ => 1
  | .nil => 1
  | .ptr d => uptoBulk d + 1
  | .slice elems spare => uptoBulkAll elems + uptoBulkAll spare + 1
  | .agg parts => uptoBulkAll parts + 1
  | .iface _ d => uptoBulk d + 1
  | .map entries => uptoBulkEntries entries + 1
  | .held _ => 1
def uptoBulkAll {H : Type} : List (DataW H) → Nat
  | [] => 0
  | d :: r => uptoBulk d + uptoBulkAll r
def uptoBulkEntries {H : Type} : List (Lit × DataW H) → Nat
  | [] => 0
  | x :: r => uptoBulkEntry x + uptoBulkEntries r
def uptoBulkEntry {H : Type} : Lit × DataW H → Nat
  | (.string bytes, d) => bytes.length + uptoBulk d + 1
  | (_, d) => uptoBulk d + 1
 end
def uptoSmall : (H : Type) → List (DataW H) → Bool := fun _ ds => decide (uptoBulkAll ds ≤ 1048576)
def OpenSpec.upto (s : _root_.Go.ChangeSpec) : _root_.Go.OpenSpec := { _root_.Go.OpenSpec.ofChange s with cond := some uptoSmall }

/-- 'laws.FnExactIsOp', WHERE WHAT IT READS IS OF BULK AT MOST 1048576: true; the input reads as it did. -/
def fnExactIsOpUptoRow : OpenClaim := { program := "ythiidcflpgbogaa", sum := "53a79169b5f4fbe2b2374b5b4542fb6a305f0dcf027bbd2cd4cd1b3bf82abe37", func := "loop.example/g00583/laws.FnExactIsOp", spec := "fnExactIsOp", apart := false, narrowed := true }
def FnExactIsOpUptoSaid : Prop := fnExactIsOpUptoRow.holds Try.pinned (OpenSpec.upto fnExactIsOpSpec)

/-- 'laws.FnExactIsWrite', WHERE WHAT IT READS IS OF BULK AT MOST 1048576: true; the input reads as it did. -/
def fnExactIsWriteUptoRow : OpenClaim := { program := "ythiidcflpgbogaa", sum := "53a79169b5f4fbe2b2374b5b4542fb6a305f0dcf027bbd2cd4cd1b3bf82abe37", func := "loop.example/g00583/laws.FnExactIsWrite", spec := "fnExactIsWrite", apart := false, narrowed := true }
def FnExactIsWriteUptoSaid : Prop := fnExactIsWriteUptoRow.holds Try.pinned (OpenSpec.upto fnExactIsWriteSpec)

/-- 'laws.FnExactScopeOf', WHERE WHAT IT READS IS OF BULK AT MOST 1048576: true; the input reads as it did. -/
def fnExactScopeOfUptoRow : OpenClaim := { program := "ythiidcflpgbogaa", sum := "53a79169b5f4fbe2b2374b5b4542fb6a305f0dcf027bbd2cd4cd1b3bf82abe37", func := "loop.example/g00583/laws.FnExactScopeOf", spec := "fnExactScopeOf", recurses := true, apart := false, narrowed := true }
def FnExactScopeOfUptoSaid : Prop := fnExactScopeOfUptoRow.holds Try.pinned (OpenSpec.upto fnExactScopeOfSpec)

/-- 'laws.FnExactEncodeOps', WHERE WHAT IT READS IS OF BULK AT MOST 1048576: true; the input reads as it did. -/
def fnExactEncodeOpsUptoRow : OpenClaim := { program := "ythiidcflpgbogaa", sum := "53a79169b5f4fbe2b2374b5b4542fb6a305f0dcf027bbd2cd4cd1b3bf82abe37", func := "loop.example/g00583/laws.FnExactEncodeOps", spec := "fnExactEncodeOps", apart := false, narrowed := true }
def FnExactEncodeOpsUptoSaid : Prop := fnExactEncodeOpsUptoRow.holds Try.pinned (OpenSpec.upto fnExactEncodeOpsSpec)

/-- 'laws.FnExactDecodeOps', WHERE WHAT IT READS IS OF BULK AT MOST 1048576: true; the input reads as it did. -/
def fnExactDecodeOpsUptoRow : OpenClaim := { program := "ythiidcflpgbogaa", sum := "53a79169b5f4fbe2b2374b5b4542fb6a305f0dcf027bbd2cd4cd1b3bf82abe37", func := "loop.example/g00583/laws.FnExactDecodeOps", spec := "fnExactDecodeOps", apart := false, narrowed := true }
def FnExactDecodeOpsUptoSaid : Prop := fnExactDecodeOpsUptoRow.holds Try.pinned (OpenSpec.upto fnExactDecodeOpsSpec)

/-- 'laws.FnExactEqualOps', WHERE WHAT IT READS IS OF BULK AT MOST 1048576: true; the input reads as it did. -/
def fnExactEqualOpsUptoRow : OpenClaim := { program := "ythiidcflpgbogaa", sum := "53a79169b5f4fbe2b2374b5b4542fb6a305f0dcf027bbd2cd4cd1b3bf82abe37", func := "loop.example/g00583/laws.FnExactEqualOps", spec := "fnExactEqualOps", unfollowed := true, recurses := true, apart := false, narrowed := true }
def FnExactEqualOpsUptoSaid : Prop := fnExactEqualOpsUptoRow.holds Try.pinned (OpenSpec.upto fnExactEqualOpsSpec)

end Rows
end Go.Proofs.Ythiidcflpgbogaa
