/-
  No cell of these rows narrows 'for every input' (looked for: loops, veiled, ifaces, maps, wideKeys, modest, calm, conditions, laid).
  DERIVED. THE GIVEN ROWS OF THIS SEAT. 4 by the template 'for every input the law returns true; each argument reads behind the call as it read before'; 0 by the template 'total and deterministic' (their statements: YtboefioalkjdaaaTotals.lean).
  GIVEN WITH THE SEED: the statements are not yours to turn. If you find one false, say at which input.
  Laid BY PROGRAM, IN A SANDBOX (cutbox-rows.mjs): the forced cells as the released guide's own fill.sh prints them over the translation b34e20c88c0bb338… (all of the seat's roots in one cut). By AI agents, Wed Nov 11 2026. No macro, syntax, notation, axiom, sorry.
-/
import Derived.Test.YtboefioalkjdaaaChecked
import GoSem.Claim
import GoSem.ClaimJoined
import GoSem.ClaimMapViews
import Derived.JoinedTies
import Derived.KernelRfl
namespace Go.Proofs.Ytboefioalkjdaaa
/- THE CELL 'sum', in the pinned program and in every row, IS THE sha256 OF THE DUMP (.gsa) THAT YtboefioalkjdaaaProg.lean LOADS. Nothing in Lean hashes anything: it is a label: what it is worth is what the hold of that sum in a sandbox is worth. -/
noncomputable def Try.pinned : Pinned := { name := "ytboefioalkjdaaa", sum := "b34e20c88c0bb33866249431fe9f11b4f5381a72bd74459552e580b0c296ac1e", checked := Try.checked }
namespace Rows
def none {H : Type} : Left H := { results := [], args := [] }

/-- 'laws.FnExactIsDatabase': WHATEVER THE INPUT: true; the input reads as it did. -/
def fnExactIsDatabaseSpec : ChangeSpec := { name := "fnExactIsDatabase", fn := fun _ => fun
  | [d] => { results := [.lit (.bool true)], args := [d] }
  | _ => none }
def fnExactIsDatabaseRow : OpenClaim := { program := "ytboefioalkjdaaa", sum := "b34e20c88c0bb33866249431fe9f11b4f5381a72bd74459552e580b0c296ac1e", func := "loop.example/g00583/laws.FnExactIsDatabase", spec := "fnExactIsDatabase", inPlace := ["internal/bytealg.Compare", "internal/bytealg.abigen_runtime_cmpstring"], unfollowed := true, recurses := true, apart := false }
def FnExactIsDatabaseSaid : Prop := fnExactIsDatabaseRow.holds Try.pinned (OpenSpec.ofChange fnExactIsDatabaseSpec)

/-- ITS FALSE NEIGHBOUR: 'it returns false'. Refute it at one input. -/
def fnExactIsDatabaseWrong : ChangeSpec := { name := "fnExactIsDatabase", fn := fun _ => fun
  | [d] => { results := [.lit (.bool false)], args := [d] }
  | _ => none }
def FnExactIsDatabaseWrongFalsely : Prop := fnExactIsDatabaseRow.holds Try.pinned (OpenSpec.ofChange fnExactIsDatabaseWrong)

/-- 'laws.FnExactFindStore': WHATEVER THE INPUT: true; the input reads as it did. -/
def fnExactFindStoreSpec : ChangeSpec := { name := "fnExactFindStore", fn := fun _ => fun
  | [d1, d2] => { results := [.lit (.bool true)], args := [d1, d2] }
  | _ => none }
def fnExactFindStoreRow : OpenClaim := { program := "ytboefioalkjdaaa", sum := "b34e20c88c0bb33866249431fe9f11b4f5381a72bd74459552e580b0c296ac1e", func := "loop.example/g00583/laws.FnExactFindStore", spec := "fnExactFindStore", unfollowed := true, recurses := true, apart := false }
def FnExactFindStoreSaid : Prop := fnExactFindStoreRow.holds Try.pinned (OpenSpec.ofChange fnExactFindStoreSpec)

/-- ITS FALSE NEIGHBOUR: 'it returns false'. Refute it at one input. -/
def fnExactFindStoreWrong : ChangeSpec := { name := "fnExactFindStore", fn := fun _ => fun
  | [d1, d2] => { results := [.lit (.bool false)], args := [d1, d2] }
  | _ => none }
def FnExactFindStoreWrongFalsely : Prop := fnExactFindStoreRow.holds Try.pinned (OpenSpec.ofChange fnExactFindStoreWrong)

/-- 'laws.FnExactSizeDatabase': WHATEVER THE INPUT: true; the input reads as it did. -/
def fnExactSizeDatabaseSpec : ChangeSpec := { name := "fnExactSizeDatabase", fn := fun _ => fun
  | [d] => { results := [.lit (.bool true)], args := [d] }
  | _ => none }
def fnExactSizeDatabaseRow : OpenClaim := { program := "ytboefioalkjdaaa", sum := "b34e20c88c0bb33866249431fe9f11b4f5381a72bd74459552e580b0c296ac1e", func := "loop.example/g00583/laws.FnExactSizeDatabase", spec := "fnExactSizeDatabase", apart := false }
def FnExactSizeDatabaseSaid : Prop := fnExactSizeDatabaseRow.holds Try.pinned (OpenSpec.ofChange fnExactSizeDatabaseSpec)

/-- ITS FALSE NEIGHBOUR: 'it returns false'. Refute it at one input. -/
def fnExactSizeDatabaseWrong : ChangeSpec := { name := "fnExactSizeDatabase", fn := fun _ => fun
  | [d] => { results := [.lit (.bool false)], args := [d] }
  | _ => none }
def FnExactSizeDatabaseWrongFalsely : Prop := fnExactSizeDatabaseRow.holds Try.pinned (OpenSpec.ofChange fnExactSizeDatabaseWrong)

/-- 'laws.FnExactEqualDatabases': WHATEVER THE INPUT: true; the input reads as it did. -/
def fnExactEqualDatabasesSpec : ChangeSpec := { name := "fnExactEqualDatabases", fn := fun _ => fun
  | [d1, d2] => { results := [.lit (.bool true)], args := [d1, d2] }
  | _ => none }
def fnExactEqualDatabasesRow : OpenClaim := { program := "ytboefioalkjdaaa", sum := "b34e20c88c0bb33866249431fe9f11b4f5381a72bd74459552e580b0c296ac1e", func := "loop.example/g00583/laws.FnExactEqualDatabases", spec := "fnExactEqualDatabases", unfollowed := true, recurses := true, apart := false }
def FnExactEqualDatabasesSaid : Prop := fnExactEqualDatabasesRow.holds Try.pinned (OpenSpec.ofChange fnExactEqualDatabasesSpec)

/-- ITS FALSE NEIGHBOUR: 'it returns false'. Refute it at one input. -/
def fnExactEqualDatabasesWrong : ChangeSpec := { name := "fnExactEqualDatabases", fn := fun _ => fun
  | [d1, d2] => { results := [.lit (.bool false)], args := [d1, d2] }
  | _ => none }
def FnExactEqualDatabasesWrongFalsely : Prop := fnExactEqualDatabasesRow.holds Try.pinned (OpenSpec.ofChange fnExactEqualDatabasesWrong)

/- THE SECOND FORM. 'bulk': how many values and letters a reading holds, each counted each time it is reached (what is shared counts as often as it is met; a slice's spare places count too). A statement '..UptoSaid' is the law's where the arguments, and the package variables that the reading takes, are together of bulk at most 1048576: NARROWER than '..Said'. Prove '..Said' where nothing that the law and all that it calls make is longer than what came in: it says more and counts as full. Else prove '..UptoSaid'. A law counts once. -/
mutual
def uptoBulk {H : Type} : DataW H → Nat
  | .lit (.string bytes) => bytes.length + 1
  | .lit _ => 1
  | .nil => 1
  | .ptr d => uptoBulk d + 1
  | .slice elems spare => uptoBulkAll elems + uptoBulkAll spare + 1
  | .agg parts => uptoBulkAll parts + 1
  | .iface _ d => uptoBulk d + 1
  | .map entries => uptoBulkEntries entries + 1
  | .held _ => 1
def uptoBulkAll {H : Type} : List (DataW H) → Nat
  | [] => 0
  | d :: r => uptoBulk d + uptoBulkAll r
def uptoBulkEntries {H : Type} : List (Lit × DataW H) → Nat
  | [] => 0
  | x :: r => uptoBulkEntry x + uptoBulkEntries r
def uptoBulkEntry {H : Type} : Lit × DataW H → Nat
  | (.string bytes, d) => bytes.length + uptoBulk d + 1
  | (_, d) => uptoBulk d + 1
 end
def uptoSmall : (H : Type) → List (DataW H) → Bool := fun _ ds => decide (uptoBulkAll ds ≤ 1048576)
def OpenSpec.upto (s : _root_.Go.ChangeSpec) : _root_.Go.OpenSpec := { _root_.Go.OpenSpec.ofChange s with cond := some uptoSmall }

/-- 'laws.FnExactIsDatabase', WHERE WHAT IT READS IS OF BULK AT MOST 1048576: true; the input reads as it did. -/
def fnExactIsDatabaseUptoRow : OpenClaim := { program := "ytboefioalkjdaaa", sum := "b34e20c88c0bb33866249431fe9f11b4f5381a72bd74459552e580b0c296ac1e", func := "loop.example/g00583/laws.FnExactIsDatabase", spec := "fnExactIsDatabase", inPlace := ["internal/bytealg.Compare", "internal/bytealg.abigen_runtime_cmpstring"], unfollowed := true, recurses := true, apart := false, narrowed := true }
def FnExactIsDatabaseUptoSaid : Prop := fnExactIsDatabaseUptoRow.holds Try.pinned (OpenSpec.upto fnExactIsDatabaseSpec)

/-- 'laws.FnExactFindStore', WHERE WHAT IT READS IS OF BULK AT MOST 1048576: true; the input reads as it did. -/
def fnExactFindStoreUptoRow : OpenClaim := { program := "ytboefioalkjdaaa", sum := "b34e20c88c0bb33866249431fe9f11b4f5381a72bd74459552e580b0c296ac1e", func := "loop.example/g00583/laws.FnExactFindStore", spec := "fnExactFindStore", unfollowed := true, recurses := true, apart := false, narrowed := true }
def FnExactFindStoreUptoSaid : Prop := fnExactFindStoreUptoRow.holds Try.pinned (OpenSpec.upto fnExactFindStoreSpec)

/-- 'laws.FnExactSizeDatabase', WHERE WHAT IT READS IS OF BULK AT MOST 1048576: true; the input reads as it did. -/
def fnExactSizeDatabaseUptoRow : OpenClaim := { program := "ytboefioalkjdaaa", sum := "b34e20c88c0bb33866249431fe9f11b4f5381a72bd74459552e580b0c296ac1e", func := "loop.example/g00583/laws.FnExactSizeDatabase", spec := "fnExactSizeDatabase", apart := false, narrowed := true }
def FnExactSizeDatabaseUptoSaid : Prop := fnExactSizeDatabaseUptoRow.holds Try.pinned (OpenSpec.upto fnExactSizeDatabaseSpec)

/-- 'laws.FnExactEqualDatabases', WHERE WHAT IT READS IS OF BULK AT MOST 1048576: true; the input reads as it did. -/
def fnExactEqualDatabasesUptoRow : OpenClaim := { program := "ytboefioalkjdaaa", sum := "b34e20c88c0bb33866249431fe9f11b4f5381a72bd74459552e580b0c296ac1e", func := "loop.example/g00583/laws.FnExactEqualDatabases", spec := "fnExactEqualDatabases", unfollowed := true, recurses := true, apart := false, narrowed := true }
def FnExactEqualDatabasesUptoSaid : Prop := fnExactEqualDatabasesUptoRow.holds Try.pinned (OpenSpec.upto fnExactEqualDatabasesSpec)

end Rows
end Go.Proofs.Ytboefioalkjdaaa
