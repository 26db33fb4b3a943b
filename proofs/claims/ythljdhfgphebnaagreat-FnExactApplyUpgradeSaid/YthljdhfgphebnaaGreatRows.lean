/-
  No cell of these rows narrows 'for every input' (looked for: loops, veiled, ifaces, maps, wideKeys, modest, calm, conditions, laid).
  DERIVED. THE GIVEN ROWS OF THIS SEAT. 3 by the template 'for every input the law returns true; each argument reads behind the call as it read before'; 0 by the template 'total and deterministic' (their statements: YthljdhfgphebnaaGreatTotals.lean).
  GIVEN WITH THE SEED: the statements are not yours to turn. If you find one false, say at which input.
  Laid BY PROGRAM, IN A SANDBOX (cutbox-rows.mjs): the forced cells as the released guide's own fill.sh prints them over the translation 80015b467cd52746… (all of the seat's roots in one cut). By AI agents, Wed Nov 11 2026. No macro, syntax, notation, axiom, sorry.
-/
import Derived.Test.YthljdhfgphebnaaGreatChecked
import GoSem.Claim
import GoSem.ClaimJoined
import GoSem.ClaimMapViews
import Derived.JoinedTies
import Derived.KernelRfl
namespace Go.Proofs.YthljdhfgphebnaaGreat
/- THE CELL 'sum', in the pinned program and in every row, IS THE sha256 OF THE DUMP (.gsa) THAT YthljdhfgphebnaaGreatProg.lean LOADS. Nothing in Lean hashes anything: it is a label: what it is worth is what the hold of that sum in a sandbox is worth. -/
noncomputable def Tryz.pinned : Pinned := { name := "ythljdhfgphebnaagreat", sum := "80015b467cd5274609e536ad73c2dec43c8ac5d4d494da4b8da530eaf2317640", checked := Tryz.checked }
namespace Rows
def none {H : Type} : Left H := { results := [], args := [] }

/-- 'laws.FnExactApplyUpgrade': WHATEVER THE INPUT: true; the input reads as it did. -/
def fnExactApplyUpgradeSpec : ChangeSpec := { name := "fnExactApplyUpgrade", fn := fun _ => fun
  | [d1, d2] => { results := [.lit (.bool true)], args := [d1, d2] }
  | _ => none }
def fnExactApplyUpgradeRow : OpenClaim := { program := "ythljdhfgphebnaagreat", sum := "80015b467cd5274609e536ad73c2dec43c8ac5d4d494da4b8da530eaf2317640", func := "loop.example/g00583/laws.FnExactApplyUpgrade", spec := "fnExactApplyUpgrade", inPlace := ["internal/bytealg.Compare", "internal/bytealg.abigen_runtime_cmpstring", "slices.overlaps[loop.example/g00583/impl.Store]"], unfollowed := true, recurses := true, apart := false }
def FnExactApplyUpgradeSaid : Prop := fnExactApplyUpgradeRow.holds Tryz.pinned (OpenSpec.ofChange fnExactApplyUpgradeSpec)

/-- ITS FALSE NEIGHBOUR: 'it returns false'. Refute it at one input. -/
def fnExactApplyUpgradeWrong : ChangeSpec := { name := "fnExactApplyUpgrade", fn := fun _ => fun
  | [d1, d2] => { results := [.lit (.bool false)], args := [d1, d2] }
  | _ => none }
def FnExactApplyUpgradeWrongFalsely : Prop := fnExactApplyUpgradeRow.holds Tryz.pinned (OpenSpec.ofChange fnExactApplyUpgradeWrong)

/-- 'laws.FnExactUpgradeTo': WHATEVER THE INPUT: true; the input reads as it did. -/
def fnExactUpgradeToSpec : ChangeSpec := { name := "fnExactUpgradeTo", fn := fun _ => fun
  | [d1, d2, d3] => { results := [.lit (.bool true)], args := [d1, d2, d3] }
  | _ => none }
def fnExactUpgradeToRow : OpenClaim := { program := "ythljdhfgphebnaagreat", sum := "80015b467cd5274609e536ad73c2dec43c8ac5d4d494da4b8da530eaf2317640", func := "loop.example/g00583/laws.FnExactUpgradeTo", spec := "fnExactUpgradeTo", inPlace := ["internal/bytealg.Compare", "internal/bytealg.abigen_runtime_cmpstring", "slices.overlaps[loop.example/g00583/impl.Store]"], unfollowed := true, recurses := true, apart := false }
def FnExactUpgradeToSaid : Prop := fnExactUpgradeToRow.holds Tryz.pinned (OpenSpec.ofChange fnExactUpgradeToSpec)

/-- ITS FALSE NEIGHBOUR: 'it returns false'. Refute it at one input. -/
def fnExactUpgradeToWrong : ChangeSpec := { name := "fnExactUpgradeTo", fn := fun _ => fun
  | [d1, d2, d3] => { results := [.lit (.bool false)], args := [d1, d2, d3] }
  | _ => none }
def FnExactUpgradeToWrongFalsely : Prop := fnExactUpgradeToRow.holds Tryz.pinned (OpenSpec.ofChange fnExactUpgradeToWrong)

/-- 'laws.FnExactStartTx': WHATEVER THE INPUT: true; the input reads as it did. -/
def fnExactStartTxSpec : ChangeSpec := { name := "fnExactStartTx", fn := fun _ => fun
  | [d1, d2, d3] => { results := [.lit (.bool true)], args := [d1, d2, d3] }
  | _ => none }
def fnExactStartTxRow : OpenClaim := { program := "ythljdhfgphebnaagreat", sum := "80015b467cd5274609e536ad73c2dec43c8ac5d4d494da4b8da530eaf2317640", func := "loop.example/g00583/laws.FnExactStartTx", spec := "fnExactStartTx", unfollowed := true, recurses := true, apart := false }
def FnExactStartTxSaid : Prop := fnExactStartTxRow.holds Tryz.pinned (OpenSpec.ofChange fnExactStartTxSpec)

/-- ITS FALSE NEIGHBOUR: 'it returns false'. Refute it at one input. -/
def fnExactStartTxWrong : ChangeSpec := { name := "fnExactStartTx", fn := fun _ => fun
  | [d1, d2, d3] => { results := [.lit (.bool false)], args := [d1, d2, d3] }
  | _ => none }
def FnExactStartTxWrongFalsely : Prop := fnExactStartTxRow.holds Tryz.pinned (OpenSpec.ofChange fnExactStartTxWrong)

/- THE SECOND FORM. 'bulk': how many values and letters a reading holds, each counted each time it is reached (what is shared counts as often as it is met; a slice's spare places count too). A statement '..UptoSaid' is the law's where the arguments, and the package variables that the reading takes, are together of bulk at most 1048576: NARROWER than '..Said'. Prove '..Said' where nothing that the law and all that it calls make is longer than what came in: it says more and counts as full. Else prove '..UptoSaid'. A law counts once. -/
mutual
def uptoBulk {H : Type} : DataW H → Nat
  | .lit (.string bytes) => bytes.length + 1
  | .lit _ => 1
  | .nil => 1
  | .ptr d => uptoBulk d + 1
  | .slice elems spare => uptoBulkAll elems + uptoBulkAll spare + 1
  | .agg parts => uptoBulkAll parts + 1
  | .iface _ d => uptoBulk d + 1
  | .map entries => uptoBulkEntries entries + 1
  | .held _ => 1
def uptoBulkAll {H : Type} : List (DataW H) → Nat
  | [] => 0
  | d :: r => uptoBulk d + uptoBulkAll r
def uptoBulkEntries {H : Type} : List (Lit × DataW H) → Nat
  | [] => 0
  | x :: r => uptoBulkEntry x + uptoBulkEntries r
def uptoBulkEntry {H : Type} : Lit × DataW H → Nat
  | (.string bytes, d) => bytes.length + uptoBulk d + 1
  | (_, d) => uptoBulk d + 1
 end
def uptoSmall : (H : Type) → List (DataW H) → Bool := fun _ ds => decide (uptoBulkAll ds ≤ 1048576)
def OpenSpec.upto (s : _root_.Go.ChangeSpec) : _root_.Go.OpenSpec := { _root_.Go.OpenSpec.ofChange s with cond := some uptoSmall }

/-- 'laws.FnExactApplyUpgrade', WHERE WHAT IT READS IS OF BULK AT MOST 1048576: true; the input reads as it did. -/
def fnExactApplyUpgradeUptoRow : OpenClaim := { program := "ythljdhfgphebnaagreat", sum := "80015b467cd5274609e536ad73c2dec43c8ac5d4d494da4b8da530eaf2317640", func := "loop.example/g00583/laws.FnExactApplyUpgrade", spec := "fnExactApplyUpgrade", inPlace := ["internal/bytealg.Compare", "internal/bytealg.abigen_runtime_cmpstring", "slices.overlaps[loop.example/g00583/impl.Store]"], unfollowed := true, recurses := true, apart := false, narrowed := true }
def FnExactApplyUpgradeUptoSaid : Prop := fnExactApplyUpgradeUptoRow.holds Tryz.pinned (OpenSpec.upto fnExactApplyUpgradeSpec)

/-- 'laws.FnExactUpgradeTo', WHERE WHAT IT READS IS OF BULK AT MOST 1048576: true; the input reads as it did. -/
def fnExactUpgradeToUptoRow : OpenClaim := { program := "ythljdhfgphebnaagreat", sum := "80015b467cd5274609e536ad73c2dec43c8ac5d4d494da4b8da530eaf2317640", func := "loop.example/g00583/laws.FnExactUpgradeTo", spec := "fnExactUpgradeTo", inPlace := ["internal/bytealg.Compare", "internal/bytealg.abigen_runtime_cmpstring", "slices.overlaps[loop.example/g00583/impl.Store]"], unfollowed := true, recurses := true, apart := false, narrowed := true }
def FnExactUpgradeToUptoSaid : Prop := fnExactUpgradeToUptoRow.holds Tryz.pinned (OpenSpec.upto fnExactUpgradeToSpec)

/-- 'laws.FnExactStartTx', WHERE WHAT IT READS IS OF BULK AT MOST 1048576: true; the input reads as it did. -/
def fnExactStartTxUptoRow : OpenClaim := { program := "ythljdhfgphebnaagreat", sum := "80015b467cd5274609e536ad73c2dec43c8ac5d4d494da4b8da530eaf2317640", func := "loop.example/g00583/laws.FnExactStartTx", spec := "fnExactStartTx", unfollowed := true, recurses := true, apart := false, narrowed := true }
def FnExactStartTxUptoSaid : Prop := fnExactStartTxUptoRow.holds Tryz.pinned (OpenSpec.upto fnExactStartTxSpec)

end Rows
end Go.Proofs.YthljdhfgphebnaaGreat
