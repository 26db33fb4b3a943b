/-
  No cell of these rows narrows 'for every input' (looked for: loops, veiled, ifaces, maps, wideKeys, modest, calm, conditions, laid).
  DERIVED. THE GIVEN ROWS OF THIS SEAT. 7 by the template 'for every input the law returns true; each argument reads behind the call as it read before'; 0 by the template 'total and deterministic' (their statements: YtenmdecooamaaaaTotals.lean).
  GIVEN WITH THE SEED: the statements are not yours to turn. If you find one false, say at which input.
  Laid BY PROGRAM, IN A SANDBOX (cutbox-rows.mjs): the forced cells as the released guide's own fill.sh prints them over the translation 5a912d85cb96574b… (all of the seat's roots in one cut). By AI agents, Wed Nov 11 2026. No macro, syntax, notation, axiom, sorry.
-/
import Derived.Test.YtenmdecooamaaaaChecked
import GoSem.Claim
import GoSem.ClaimJoined
import GoSem.ClaimMapViews
import Derived.JoinedTies
import Derived.KernelRfl
namespace Go.Proofs.Ytenmdecooamaaaa
/- THE CELL 'sum', in the pinned program and in every row, IS THE sha256 OF THE DUMP (.gsa) THAT YtenmdecooamaaaaProg.lean LOADS. Nothing in Lean hashes anything: it is a label: what it is worth is what the hold of that sum in a sandbox is worth. -/
noncomputable def Try.pinned : Pinned := { name := "ytenmdecooamaaaa", sum := "5a912d85cb96574b249b3f3deb66e3da97693cdf6a847fcc17679a7ec3d6a471", checked := Try.checked }
namespace Rows
def none {H : Type} : Left H := { results := [], args := [] }

/-- 'laws.FnRanges': WHATEVER THE INPUT: true; the input reads as it did. -/
def fnRangesSpec : ChangeSpec := { name := "fnRanges", fn := fun _ => fun
  | [d] => { results := [.lit (.bool true)], args := [d] }
  | _ => none }
def fnRangesRow : OpenClaim := { program := "ytenmdecooamaaaa", sum := "5a912d85cb96574b249b3f3deb66e3da97693cdf6a847fcc17679a7ec3d6a471", func := "loop.example/g00583/laws.FnRanges", spec := "fnRanges", inPlace := ["internal/bytealg.Compare", "internal/bytealg.abigen_runtime_cmpstring"], apart := false }
def FnRangesSaid : Prop := fnRangesRow.holds Try.pinned (OpenSpec.ofChange fnRangesSpec)

/-- ITS FALSE NEIGHBOUR: 'it returns false'. Refute it at one input. -/
def fnRangesWrong : ChangeSpec := { name := "fnRanges", fn := fun _ => fun
  | [d] => { results := [.lit (.bool false)], args := [d] }
  | _ => none }
def FnRangesWrongFalsely : Prop := fnRangesRow.holds Try.pinned (OpenSpec.ofChange fnRangesWrong)

/-- 'laws.FnExactIsKey': WHATEVER THE INPUT: true; the input reads as it did. -/
def fnExactIsKeySpec : ChangeSpec := { name := "fnExactIsKey", fn := fun _ => fun
  | [d] => { results := [.lit (.bool true)], args := [d] }
  | _ => none }
def fnExactIsKeyRow : OpenClaim := { program := "ytenmdecooamaaaa", sum := "5a912d85cb96574b249b3f3deb66e3da97693cdf6a847fcc17679a7ec3d6a471", func := "loop.example/g00583/laws.FnExactIsKey", spec := "fnExactIsKey", apart := false }
def FnExactIsKeySaid : Prop := fnExactIsKeyRow.holds Try.pinned (OpenSpec.ofChange fnExactIsKeySpec)

/-- ITS FALSE NEIGHBOUR: 'it returns false'. Refute it at one input. -/
def fnExactIsKeyWrong : ChangeSpec := { name := "fnExactIsKey", fn := fun _ => fun
  | [d] => { results := [.lit (.bool false)], args := [d] }
  | _ => none }
def FnExactIsKeyWrongFalsely : Prop := fnExactIsKeyRow.holds Try.pinned (OpenSpec.ofChange fnExactIsKeyWrong)

/-- 'laws.FnExactCompareKeys': WHATEVER THE INPUT: true; the input reads as it did. -/
def fnExactCompareKeysSpec : ChangeSpec := { name := "fnExactCompareKeys", fn := fun _ => fun
  | [d1, d2] => { results := [.lit (.bool true)], args := [d1, d2] }
  | _ => none }
def fnExactCompareKeysRow : OpenClaim := { program := "ytenmdecooamaaaa", sum := "5a912d85cb96574b249b3f3deb66e3da97693cdf6a847fcc17679a7ec3d6a471", func := "loop.example/g00583/laws.FnExactCompareKeys", spec := "fnExactCompareKeys", inPlace := ["internal/bytealg.Compare", "internal/bytealg.abigen_runtime_cmpstring"], apart := false }
def FnExactCompareKeysSaid : Prop := fnExactCompareKeysRow.holds Try.pinned (OpenSpec.ofChange fnExactCompareKeysSpec)

/-- ITS FALSE NEIGHBOUR: 'it returns false'. Refute it at one input. -/
def fnExactCompareKeysWrong : ChangeSpec := { name := "fnExactCompareKeys", fn := fun _ => fun
  | [d1, d2] => { results := [.lit (.bool false)], args := [d1, d2] }
  | _ => none }
def FnExactCompareKeysWrongFalsely : Prop := fnExactCompareKeysRow.holds Try.pinned (OpenSpec.ofChange fnExactCompareKeysWrong)

/-- 'laws.FnExactEncodeKey': WHATEVER THE INPUT: true; the input reads as it did. -/
def fnExactEncodeKeySpec : ChangeSpec := { name := "fnExactEncodeKey", fn := fun _ => fun
  | [d] => { results := [.lit (.bool true)], args := [d] }
  | _ => none }
def fnExactEncodeKeyRow : OpenClaim := { program := "ytenmdecooamaaaa", sum := "5a912d85cb96574b249b3f3deb66e3da97693cdf6a847fcc17679a7ec3d6a471", func := "loop.example/g00583/laws.FnExactEncodeKey", spec := "fnExactEncodeKey", apart := false }
def FnExactEncodeKeySaid : Prop := fnExactEncodeKeyRow.holds Try.pinned (OpenSpec.ofChange fnExactEncodeKeySpec)

/-- ITS FALSE NEIGHBOUR: 'it returns false'. Refute it at one input. -/
def fnExactEncodeKeyWrong : ChangeSpec := { name := "fnExactEncodeKey", fn := fun _ => fun
  | [d] => { results := [.lit (.bool false)], args := [d] }
  | _ => none }
def FnExactEncodeKeyWrongFalsely : Prop := fnExactEncodeKeyRow.holds Try.pinned (OpenSpec.ofChange fnExactEncodeKeyWrong)

/-- 'laws.FnExactDecodeKey': WHATEVER THE INPUT: true; the input reads as it did. -/
def fnExactDecodeKeySpec : ChangeSpec := { name := "fnExactDecodeKey", fn := fun _ => fun
  | [d] => { results := [.lit (.bool true)], args := [d] }
  | _ => none }
def fnExactDecodeKeyRow : OpenClaim := { program := "ytenmdecooamaaaa", sum := "5a912d85cb96574b249b3f3deb66e3da97693cdf6a847fcc17679a7ec3d6a471", func := "loop.example/g00583/laws.FnExactDecodeKey", spec := "fnExactDecodeKey", apart := false }
def FnExactDecodeKeySaid : Prop := fnExactDecodeKeyRow.holds Try.pinned (OpenSpec.ofChange fnExactDecodeKeySpec)

/-- ITS FALSE NEIGHBOUR: 'it returns false'. Refute it at one input. -/
def fnExactDecodeKeyWrong : ChangeSpec := { name := "fnExactDecodeKey", fn := fun _ => fun
  | [d] => { results := [.lit (.bool false)], args := [d] }
  | _ => none }
def FnExactDecodeKeyWrongFalsely : Prop := fnExactDecodeKeyRow.holds Try.pinned (OpenSpec.ofChange fnExactDecodeKeyWrong)

/-- 'laws.FnExactCompareBytes': WHATEVER THE INPUT: true; the input reads as it did. -/
def fnExactCompareBytesSpec : ChangeSpec := { name := "fnExactCompareBytes", fn := fun _ => fun
  | [d1, d2] => { results := [.lit (.bool true)], args := [d1, d2] }
  | _ => none }
def fnExactCompareBytesRow : OpenClaim := { program := "ytenmdecooamaaaa", sum := "5a912d85cb96574b249b3f3deb66e3da97693cdf6a847fcc17679a7ec3d6a471", func := "loop.example/g00583/laws.FnExactCompareBytes", spec := "fnExactCompareBytes", inPlace := ["internal/bytealg.Compare"], apart := false }
def FnExactCompareBytesSaid : Prop := fnExactCompareBytesRow.holds Try.pinned (OpenSpec.ofChange fnExactCompareBytesSpec)

/-- ITS FALSE NEIGHBOUR: 'it returns false'. Refute it at one input. -/
def fnExactCompareBytesWrong : ChangeSpec := { name := "fnExactCompareBytes", fn := fun _ => fun
  | [d1, d2] => { results := [.lit (.bool false)], args := [d1, d2] }
  | _ => none }
def FnExactCompareBytesWrongFalsely : Prop := fnExactCompareBytesRow.holds Try.pinned (OpenSpec.ofChange fnExactCompareBytesWrong)

/-- 'laws.FnExactInRangeOf': WHATEVER THE INPUT: true; the input reads as it did. -/
def fnExactInRangeOfSpec : ChangeSpec := { name := "fnExactInRangeOf", fn := fun _ => fun
  | [d1, d2] => { results := [.lit (.bool true)], args := [d1, d2] }
  | _ => none }
def fnExactInRangeOfRow : OpenClaim := { program := "ytenmdecooamaaaa", sum := "5a912d85cb96574b249b3f3deb66e3da97693cdf6a847fcc17679a7ec3d6a471", func := "loop.example/g00583/laws.FnExactInRangeOf", spec := "fnExactInRangeOf", inPlace := ["internal/bytealg.Compare", "internal/bytealg.abigen_runtime_cmpstring"], apart := false }
def FnExactInRangeOfSaid : Prop := fnExactInRangeOfRow.holds Try.pinned (OpenSpec.ofChange fnExactInRangeOfSpec)

/-- ITS FALSE NEIGHBOUR: 'it returns false'. Refute it at one input. -/
def fnExactInRangeOfWrong : ChangeSpec := { name := "fnExactInRangeOf", fn := fun _ => fun
  | [d1, d2] => { results := [.lit (.bool false)], args := [d1, d2] }
  | _ => none }
def FnExactInRangeOfWrongFalsely : Prop := fnExactInRangeOfRow.holds Try.pinned (OpenSpec.ofChange fnExactInRangeOfWrong)

/- THE SECOND FORM. 'bulk': how many values and letters a reading holds, each counted each time it is reached (what is shared counts as often as it is met; a slice's spare places count too). A statement '..UptoSaid' is the law's where the arguments, and the package variables that the reading takes, are together of bulk at most 1048576: NARROWER than '..Said'. Prove '..Said' where nothing that the law and all that it calls make is longer than what came in: it says more and counts as full. Else prove '..UptoSaid'. A law counts once. -/
mutual
def uptoBulk {H : Type} : DataW H → Nat
  | .lit (.string bytes) => bytes.length + 1
  | .lit _ => 1
  | .nil => 1
  | .ptr d => uptoBulk d + 1
  | .slice elems spare => uptoBulkAll elems + uptoBulkAll spare + 1
  | .agg parts => uptoBulkAll parts + 1
  | .iface _ d => uptoBulk d + 1
  | .map entries => uptoBulkEntries entries + 1
  | .held _ => 1
def uptoBulkAll {H : Type} : List (DataW H) → Nat
  | [] => 0
  | d :: r => uptoBulk d + uptoBulkAll r
def uptoBulkEntries {H : Type} : List (Lit × DataW H) → Nat
  | [] => 0
  | x :: r => uptoBulkEntry x + uptoBulkEntries r
def uptoBulkEntry {H : Type} : Lit × DataW H → Nat
  | (.string bytes, d) => bytes.length + uptoBulk d + 1
  | (_, d) => uptoBulk d + 1
 end
def uptoSmall : (H : Type) → List (DataW H) → Bool := fun _ ds => decide (uptoBulkAll ds ≤ 1048576)
def OpenSpec.upto (s : _root_.Go.ChangeSpec) : _root_.Go.OpenSpec := { _root_.Go.OpenSpec.ofChange s with cond := some uptoSmall }

/-- 'laws.FnRanges', WHERE WHAT IT READS IS OF BULK AT MOST 1048576: true; the input reads as it did. -/
def fnRangesUptoRow : OpenClaim := { program := "ytenmdecooamaaaa", sum := "5a912d85cb96574b249b3f3deb66e3da97693cdf6a847fcc17679a7ec3d6a471", func := "loop.example/g00583/laws.FnRanges", spec := "fnRanges", inPlace := ["internal/bytealg.Compare", "internal/bytealg.abigen_runtime_cmpstring"], apart := false, narrowed := true }
def FnRangesUptoSaid : Prop := fnRangesUptoRow.holds Try.pinned (OpenSpec.upto fnRangesSpec)

/-- 'laws.FnExactIsKey', WHERE WHAT IT READS IS OF BULK AT MOST 1048576: true; the input reads as it did. -/
def fnExactIsKeyUptoRow : OpenClaim := { program := "ytenmdecooamaaaa", sum := "5a912d85cb96574b249b3f3deb66e3da97693cdf6a847fcc17679a7ec3d6a471", func := "loop.example/g00583/laws.FnExactIsKey", spec := "fnExactIsKey", apart := false, narrowed := true }
def FnExactIsKeyUptoSaid : Prop := fnExactIsKeyUptoRow.holds Try.pinned (OpenSpec.upto fnExactIsKeySpec)

/-- 'laws.FnExactCompareKeys', WHERE WHAT IT READS IS OF BULK AT MOST 1048576: true; the input reads as it did. -/
def fnExactCompareKeysUptoRow : OpenClaim := { program := "ytenmdecooamaaaa", sum := "5a912d85cb96574b249b3f3deb66e3da97693cdf6a847fcc17679a7ec3d6a471", func := "loop.example/g00583/laws.FnExactCompareKeys", spec := "fnExactCompareKeys", inPlace := ["internal/bytealg.Compare", "internal/bytealg.abigen_runtime_cmpstring"], apart := false, narrowed := true }
def FnExactCompareKeysUptoSaid : Prop := fnExactCompareKeysUptoRow.holds Try.pinned (OpenSpec.upto fnExactCompareKeysSpec)

/-- 'laws.FnExactEncodeKey', WHERE WHAT IT READS IS OF BULK AT MOST 1048576: true; the input reads as it did. -/
def fnExactEncodeKeyUptoRow : OpenClaim := { program := "ytenmdecooamaaaa", sum := "5a912d85cb96574b249b3f3deb66e3da97693cdf6a847fcc17679a7ec3d6a471", func := "loop.example/g00583/laws.FnExactEncodeKey", spec := "fnExactEncodeKey", apart := false, narrowed := true }
def FnExactEncodeKeyUptoSaid : Prop := fnExactEncodeKeyUptoRow.holds Try.pinned (OpenSpec.upto fnExactEncodeKeySpec)

/-- 'laws.FnExactDecodeKey', WHERE WHAT IT READS IS OF BULK AT MOST 1048576: true; the input reads as it did. -/
def fnExactDecodeKeyUptoRow : OpenClaim := { program := "ytenmdecooamaaaa", sum := "5a912d85cb96574b249b3f3deb66e3da97693cdf6a847fcc17679a7ec3d6a471", func := "loop.example/g00583/laws.FnExactDecodeKey", spec := "fnExactDecodeKey", apart := false, narrowed := true }
def FnExactDecodeKeyUptoSaid : Prop := fnExactDecodeKeyUptoRow.holds Try.pinned (OpenSpec.upto fnExactDecodeKeySpec)

/-- 'laws.FnExactCompareBytes', WHERE WHAT IT READS IS OF BULK AT MOST 1048576: true; the input reads as it did. -/
def fnExactCompareBytesUptoRow : OpenClaim := { program := "ytenmdecooamaaaa", sum := "5a912d85cb96574b249b3f3deb66e3da97693cdf6a847fcc17679a7ec3d6a471", func := "loop.example/g00583/laws.FnExactCompareBytes", spec := "fnExactCompareBytes", inPlace := ["internal/bytealg.Compare"], apart := false, narrowed := true }
def FnExactCompareBytesUptoSaid : Prop := fnExactCompareBytesUptoRow.holds Try.pinned (OpenSpec.upto fnExactCompareBytesSpec)

/-- 'laws.FnExactInRangeOf', WHERE WHAT IT READS IS OF BULK AT MOST 1048576: true; the input reads as it did. -/
def fnExactInRangeOfUptoRow : OpenClaim := { program := "ytenmdecooamaaaa", sum := "5a912d85cb96574b249b3f3deb66e3da97693cdf6a847fcc17679a7ec3d6a471", func := "loop.example/g00583/laws.FnExactInRangeOf", spec := "fnExactInRangeOf", inPlace := ["internal/bytealg.Compare", "internal/bytealg.abigen_runtime_cmpstring"], apart := false, narrowed := true }
def FnExactInRangeOfUptoSaid : Prop := fnExactInRangeOfUptoRow.holds Try.pinned (OpenSpec.upto fnExactInRangeOfSpec)

end Rows
end Go.Proofs.Ytenmdecooamaaaa
