/-
  No cell of these rows narrows 'for every input' (looked for: loops, veiled, ifaces, maps, wideKeys, modest, calm, conditions, laid).
  DERIVED. THE GIVEN ROWS OF THIS SEAT. 12 by the template 'for every input the law returns true; each argument reads behind the call as it read before'; 0 by the template 'total and deterministic' (their statements: YthpocmnnefldcaaTotals.lean).
  GIVEN WITH THE SEED: the statements are not yours to turn. If you find one false, say at which input.
  Laid BY PROGRAM, IN A SANDBOX (cutbox-rows.mjs): the forced cells as the released guide's own fill.sh prints them over the translation 73d2a07203106a7a… (all of the seat's roots in one cut). By AI agents, Wed Nov 11 2026. No macro, syntax, notation, axiom, sorry.
-/
import Derived.Test.YthpocmnnefldcaaChecked
import GoSem.Claim
import GoSem.ClaimJoined
import GoSem.ClaimMapViews
import Derived.JoinedTies
import Derived.KernelRfl
namespace Go.Proofs.Ythpocmnnefldcaa
/- THE CELL 'sum', in the pinned program and in every row, IS THE sha256 OF THE DUMP (.gsa) THAT YthpocmnnefldcaaProg.lean LOADS. Nothing in Lean hashes anything: it is a label: what it is worth is what the hold of that sum in a sandbox is worth. -/
noncomputable def Try.pinned : Pinned := { name := "ythpocmnnefldcaa", sum := "73d2a07203106a7a208ef808c7953b2fc13bd4a54d8d0ebd459390fd3fba4f5f", checked := Try.checked }
namespace Rows
def none {H : Type} : Left H := { results := [], args := [] }

/-- 'laws.FnWraps': WHATEVER THE INPUT: true; the input reads as it did. -/
def fnWrapsSpec : ChangeSpec := { name := "fnWraps", fn := fun _ => fun
  | [d] => { results := [.lit (.bool true)], args := [d] }
  | _ => none }
def fnWrapsRow : OpenClaim := { program := "ythpocmnnefldcaa", sum := "73d2a07203106a7a208ef808c7953b2fc13bd4a54d8d0ebd459390fd3fba4f5f", func := "loop.example/g00611/laws.FnWraps", spec := "fnWraps", unfollowed := true, recurses := true, apart := false }
def FnWrapsSaid : Prop := fnWrapsRow.holds Try.pinned (OpenSpec.ofChange fnWrapsSpec)

/-- ITS FALSE NEIGHBOUR: 'it returns false'. Refute it at one input. -/
def fnWrapsWrong : ChangeSpec := { name := "fnWraps", fn := fun _ => fun
  | [d] => { results := [.lit (.bool false)], args := [d] }
  | _ => none }
def FnWrapsWrongFalsely : Prop := fnWrapsRow.holds Try.pinned (OpenSpec.ofChange fnWrapsWrong)

/-- 'laws.FnPeels': WHATEVER THE INPUT: true; the input reads as it did. -/
def fnPeelsSpec : ChangeSpec := { name := "fnPeels", fn := fun _ => fun
  | [d] => { results := [.lit (.bool true)], args := [d] }
  | _ => none }
def fnPeelsRow : OpenClaim := { program := "ythpocmnnefldcaa", sum := "73d2a07203106a7a208ef808c7953b2fc13bd4a54d8d0ebd459390fd3fba4f5f", func := "loop.example/g00611/laws.FnPeels", spec := "fnPeels", unfollowed := true, recurses := true, apart := false }
def FnPeelsSaid : Prop := fnPeelsRow.holds Try.pinned (OpenSpec.ofChange fnPeelsSpec)

/-- ITS FALSE NEIGHBOUR: 'it returns false'. Refute it at one input. -/
def fnPeelsWrong : ChangeSpec := { name := "fnPeels", fn := fun _ => fun
  | [d] => { results := [.lit (.bool false)], args := [d] }
  | _ => none }
def FnPeelsWrongFalsely : Prop := fnPeelsRow.holds Try.pinned (OpenSpec.ofChange fnPeelsWrong)

/-- 'laws.FnFills': WHATEVER THE INPUT: true; the input reads as it did. -/
def fnFillsSpec : ChangeSpec := { name := "fnFills", fn := fun _ => fun
  | [d] => { results := [.lit (.bool true)], args := [d] }
  | _ => none }
def fnFillsRow : OpenClaim := { program := "ythpocmnnefldcaa", sum := "73d2a07203106a7a208ef808c7953b2fc13bd4a54d8d0ebd459390fd3fba4f5f", func := "loop.example/g00611/laws.FnFills", spec := "fnFills", unfollowed := true, recurses := true, apart := false }
def FnFillsSaid : Prop := fnFillsRow.holds Try.pinned (OpenSpec.ofChange fnFillsSpec)

/-- ITS FALSE NEIGHBOUR: 'it returns false'. Refute it at one input. -/
def fnFillsWrong : ChangeSpec := { name := "fnFills", fn := fun _ => fun
  | [d] => { results := [.lit (.bool false)], args := [d] }
  | _ => none }
def FnFillsWrongFalsely : Prop := fnFillsRow.holds Try.pinned (OpenSpec.ofChange fnFillsWrong)

/-- 'laws.FnOrdered': WHATEVER THE INPUT: true; the input reads as it did. -/
def fnOrderedSpec : ChangeSpec := { name := "fnOrdered", fn := fun _ => fun
  | [d] => { results := [.lit (.bool true)], args := [d] }
  | _ => none }
def fnOrderedRow : OpenClaim := { program := "ythpocmnnefldcaa", sum := "73d2a07203106a7a208ef808c7953b2fc13bd4a54d8d0ebd459390fd3fba4f5f", func := "loop.example/g00611/laws.FnOrdered", spec := "fnOrdered", unfollowed := true, recurses := true, apart := false }
def FnOrderedSaid : Prop := fnOrderedRow.holds Try.pinned (OpenSpec.ofChange fnOrderedSpec)

/-- ITS FALSE NEIGHBOUR: 'it returns false'. Refute it at one input. -/
def fnOrderedWrong : ChangeSpec := { name := "fnOrdered", fn := fun _ => fun
  | [d] => { results := [.lit (.bool false)], args := [d] }
  | _ => none }
def FnOrderedWrongFalsely : Prop := fnOrderedRow.holds Try.pinned (OpenSpec.ofChange fnOrderedWrong)

/-- 'laws.FnRoutes': WHATEVER THE INPUT: true; the input reads as it did. -/
def fnRoutesSpec : ChangeSpec := { name := "fnRoutes", fn := fun _ => fun
  | [d] => { results := [.lit (.bool true)], args := [d] }
  | _ => none }
def fnRoutesRow : OpenClaim := { program := "ythpocmnnefldcaa", sum := "73d2a07203106a7a208ef808c7953b2fc13bd4a54d8d0ebd459390fd3fba4f5f", func := "loop.example/g00611/laws.FnRoutes", spec := "fnRoutes", unfollowed := true, recurses := true, apart := false }
def FnRoutesSaid : Prop := fnRoutesRow.holds Try.pinned (OpenSpec.ofChange fnRoutesSpec)

/-- ITS FALSE NEIGHBOUR: 'it returns false'. Refute it at one input. -/
def fnRoutesWrong : ChangeSpec := { name := "fnRoutes", fn := fun _ => fun
  | [d] => { results := [.lit (.bool false)], args := [d] }
  | _ => none }
def FnRoutesWrongFalsely : Prop := fnRoutesRow.holds Try.pinned (OpenSpec.ofChange fnRoutesWrong)

/-- 'laws.FnExactCellOk': WHATEVER THE INPUT: true; the input reads as it did. -/
def fnExactCellOkSpec : ChangeSpec := { name := "fnExactCellOk", fn := fun _ => fun
  | [d] => { results := [.lit (.bool true)], args := [d] }
  | _ => none }
def fnExactCellOkRow : OpenClaim := { program := "ythpocmnnefldcaa", sum := "73d2a07203106a7a208ef808c7953b2fc13bd4a54d8d0ebd459390fd3fba4f5f", func := "loop.example/g00611/laws.FnExactCellOk", spec := "fnExactCellOk", apart := false }
def FnExactCellOkSaid : Prop := fnExactCellOkRow.holds Try.pinned (OpenSpec.ofChange fnExactCellOkSpec)

/-- ITS FALSE NEIGHBOUR: 'it returns false'. Refute it at one input. -/
def fnExactCellOkWrong : ChangeSpec := { name := "fnExactCellOk", fn := fun _ => fun
  | [d] => { results := [.lit (.bool false)], args := [d] }
  | _ => none }
def FnExactCellOkWrongFalsely : Prop := fnExactCellOkRow.holds Try.pinned (OpenSpec.ofChange fnExactCellOkWrong)

/-- 'laws.FnExactRouteOk': WHATEVER THE INPUT: true; the input reads as it did. -/
def fnExactRouteOkSpec : ChangeSpec := { name := "fnExactRouteOk", fn := fun _ => fun
  | [d] => { results := [.lit (.bool true)], args := [d] }
  | _ => none }
def fnExactRouteOkRow : OpenClaim := { program := "ythpocmnnefldcaa", sum := "73d2a07203106a7a208ef808c7953b2fc13bd4a54d8d0ebd459390fd3fba4f5f", func := "loop.example/g00611/laws.FnExactRouteOk", spec := "fnExactRouteOk", unfollowed := true, recurses := true, apart := false }
def FnExactRouteOkSaid : Prop := fnExactRouteOkRow.holds Try.pinned (OpenSpec.ofChange fnExactRouteOkSpec)

/-- ITS FALSE NEIGHBOUR: 'it returns false'. Refute it at one input. -/
def fnExactRouteOkWrong : ChangeSpec := { name := "fnExactRouteOk", fn := fun _ => fun
  | [d] => { results := [.lit (.bool false)], args := [d] }
  | _ => none }
def FnExactRouteOkWrongFalsely : Prop := fnExactRouteOkRow.holds Try.pinned (OpenSpec.ofChange fnExactRouteOkWrong)

/-- 'laws.FnExactLayerSize': WHATEVER THE INPUT: true; the input reads as it did. -/
def fnExactLayerSizeSpec : ChangeSpec := { name := "fnExactLayerSize", fn := fun _ => fun
  | [d1, d2] => { results := [.lit (.bool true)], args := [d1, d2] }
  | _ => none }
def fnExactLayerSizeRow : OpenClaim := { program := "ythpocmnnefldcaa", sum := "73d2a07203106a7a208ef808c7953b2fc13bd4a54d8d0ebd459390fd3fba4f5f", func := "loop.example/g00611/laws.FnExactLayerSize", spec := "fnExactLayerSize", apart := false }
def FnExactLayerSizeSaid : Prop := fnExactLayerSizeRow.holds Try.pinned (OpenSpec.ofChange fnExactLayerSizeSpec)

/-- ITS FALSE NEIGHBOUR: 'it returns false'. Refute it at one input. -/
def fnExactLayerSizeWrong : ChangeSpec := { name := "fnExactLayerSize", fn := fun _ => fun
  | [d1, d2] => { results := [.lit (.bool false)], args := [d1, d2] }
  | _ => none }
def FnExactLayerSizeWrongFalsely : Prop := fnExactLayerSizeRow.holds Try.pinned (OpenSpec.ofChange fnExactLayerSizeWrong)

/-- 'laws.FnExactWrap': WHATEVER THE INPUT: true; the input reads as it did. -/
def fnExactWrapSpec : ChangeSpec := { name := "fnExactWrap", fn := fun _ => fun
  | [d1, d2, d3, d4, d5, d6] => { results := [.lit (.bool true)], args := [d1, d2, d3, d4, d5, d6] }
  | _ => none }
def fnExactWrapRow : OpenClaim := { program := "ythpocmnnefldcaa", sum := "73d2a07203106a7a208ef808c7953b2fc13bd4a54d8d0ebd459390fd3fba4f5f", func := "loop.example/g00611/laws.FnExactWrap", spec := "fnExactWrap", unfollowed := true, recurses := true, apart := false }
def FnExactWrapSaid : Prop := fnExactWrapRow.holds Try.pinned (OpenSpec.ofChange fnExactWrapSpec)

/-- ITS FALSE NEIGHBOUR: 'it returns false'. Refute it at one input. -/
def fnExactWrapWrong : ChangeSpec := { name := "fnExactWrap", fn := fun _ => fun
  | [d1, d2, d3, d4, d5, d6] => { results := [.lit (.bool false)], args := [d1, d2, d3, d4, d5, d6] }
  | _ => none }
def FnExactWrapWrongFalsely : Prop := fnExactWrapRow.holds Try.pinned (OpenSpec.ofChange fnExactWrapWrong)

/-- 'laws.FnExactPeel': WHATEVER THE INPUT: true; the input reads as it did. -/
def fnExactPeelSpec : ChangeSpec := { name := "fnExactPeel", fn := fun _ => fun
  | [d1, d2, d3] => { results := [.lit (.bool true)], args := [d1, d2, d3] }
  | _ => none }
def fnExactPeelRow : OpenClaim := { program := "ythpocmnnefldcaa", sum := "73d2a07203106a7a208ef808c7953b2fc13bd4a54d8d0ebd459390fd3fba4f5f", func := "loop.example/g00611/laws.FnExactPeel", spec := "fnExactPeel", unfollowed := true, recurses := true, apart := false }
def FnExactPeelSaid : Prop := fnExactPeelRow.holds Try.pinned (OpenSpec.ofChange fnExactPeelSpec)

/-- ITS FALSE NEIGHBOUR: 'it returns false'. Refute it at one input. -/
def fnExactPeelWrong : ChangeSpec := { name := "fnExactPeel", fn := fun _ => fun
  | [d1, d2, d3] => { results := [.lit (.bool false)], args := [d1, d2, d3] }
  | _ => none }
def FnExactPeelWrongFalsely : Prop := fnExactPeelRow.holds Try.pinned (OpenSpec.ofChange fnExactPeelWrong)

/-- 'laws.FnExactTagOf': WHATEVER THE INPUT: true; the input reads as it did. -/
def fnExactTagOfSpec : ChangeSpec := { name := "fnExactTagOf", fn := fun _ => fun
  | [d1, d2] => { results := [.lit (.bool true)], args := [d1, d2] }
  | _ => none }
def fnExactTagOfRow : OpenClaim := { program := "ythpocmnnefldcaa", sum := "73d2a07203106a7a208ef808c7953b2fc13bd4a54d8d0ebd459390fd3fba4f5f", func := "loop.example/g00611/laws.FnExactTagOf", spec := "fnExactTagOf", apart := false }
def FnExactTagOfSaid : Prop := fnExactTagOfRow.holds Try.pinned (OpenSpec.ofChange fnExactTagOfSpec)

/-- ITS FALSE NEIGHBOUR: 'it returns false'. Refute it at one input. -/
def fnExactTagOfWrong : ChangeSpec := { name := "fnExactTagOf", fn := fun _ => fun
  | [d1, d2] => { results := [.lit (.bool false)], args := [d1, d2] }
  | _ => none }
def FnExactTagOfWrongFalsely : Prop := fnExactTagOfRow.holds Try.pinned (OpenSpec.ofChange fnExactTagOfWrong)

/-- 'laws.FnExactDummy': WHATEVER THE INPUT: true; the input reads as it did. -/
def fnExactDummySpec : ChangeSpec := { name := "fnExactDummy", fn := fun _ => fun
  | [d] => { results := [.lit (.bool true)], args := [d] }
  | _ => none }
def fnExactDummyRow : OpenClaim := { program := "ythpocmnnefldcaa", sum := "73d2a07203106a7a208ef808c7953b2fc13bd4a54d8d0ebd459390fd3fba4f5f", func := "loop.example/g00611/laws.FnExactDummy", spec := "fnExactDummy", apart := false }
def FnExactDummySaid : Prop := fnExactDummyRow.holds Try.pinned (OpenSpec.ofChange fnExactDummySpec)

/-- ITS FALSE NEIGHBOUR: 'it returns false'. Refute it at one input. -/
def fnExactDummyWrong : ChangeSpec := { name := "fnExactDummy", fn := fun _ => fun
  | [d] => { results := [.lit (.bool false)], args := [d] }
  | _ => none }
def FnExactDummyWrongFalsely : Prop := fnExactDummyRow.holds Try.pinned (OpenSpec.ofChange fnExactDummyWrong)

/- THE SECOND FORM. 'bulk': how many values and letters a reading holds, each counted each time it is reached (what is shared counts as often as it is met; a slice's spare places count too). A statement '..UptoSaid' is the law's where the arguments, and the package variables that the reading takes, are together of bulk at most 1048576: NARROWER than '..Said'. Prove '..Said' where nothing that the law and all that it calls make is longer than what came in: it says more and counts as full. Else prove '..UptoSaid'. A law counts once. -/
mutual
def uptoBulk {H : Type} : DataW H → Nat
  | .lit (.string bytes) => bytes.length + 1
  | .lit _ => 1
  | .nil => 1
  | .ptr d => uptoBulk d + 1
  | .slice elems spare => uptoBulkAll elems + uptoBulkAll spare + 1
  | .agg parts => uptoBulkAll parts + 1
  | .iface _ d => uptoBulk d + 1
  | .map entries => uptoBulkEntries entries + 1
  | .held _ => 1
def uptoBulkAll {H : Type} : List (DataW H) → Nat
  | [] => 0
  | d :: r => uptoBulk d + uptoBulkAll r
def uptoBulkEntries {H : Type} : List (Lit × DataW H) → Nat
  | [] => 0
  | x :: r => uptoBulkEntry x + uptoBulkEntries r
def uptoBulkEntry {H : Type} : Lit × DataW H → Nat
  | (.string bytes, d) => bytes.length + uptoBulk d + 1
  | (_, d) => uptoBulk d + 1
 end
def uptoSmall : (H : Type) → List (DataW H) → Bool := fun _ ds => decide (uptoBulkAll ds ≤ 1048576)
def OpenSpec.upto (s : _root_.Go.ChangeSpec) : _root_.Go.OpenSpec := { _root_.Go.OpenSpec.ofChange s with cond := some uptoSmall }

/-- 'laws.FnWraps', WHERE WHAT IT READS IS OF BULK AT MOST 1048576: true; the input reads as it did. -/
def fnWrapsUptoRow : OpenClaim := { program := "ythpocmnnefldcaa", sum := "73d2a07203106a7a208ef808c7953b2fc13bd4a54d8d0ebd459390fd3fba4f5f", func := "loop.example/g00611/laws.FnWraps", spec := "fnWraps", unfollowed := true, recurses := true, apart := false, narrowed := true }
def FnWrapsUptoSaid : Prop := fnWrapsUptoRow.holds Try.pinned (OpenSpec.upto fnWrapsSpec)

/-- 'laws.FnPeels', WHERE WHAT IT READS IS OF BULK AT MOST 1048576: true; the input reads as it did. -/
def fnPeelsUptoRow : OpenClaim := { program := "ythpocmnnefldcaa", sum := "73d2a07203106a7a208ef808c7953b2fc13bd4a54d8d0ebd459390fd3fba4f5f", func := "loop.example/g00611/laws.FnPeels", spec := "fnPeels", unfollowed := true, recurses := true, apart := false, narrowed := true }
def FnPeelsUptoSaid : Prop := fnPeelsUptoRow.holds Try.pinned (OpenSpec.upto fnPeelsSpec)

/-- 'laws.FnFills', WHERE WHAT IT READS IS OF BULK AT MOST 1048576: true; the input reads as it did. -/
def fnFillsUptoRow : OpenClaim := { program := "ythpocmnnefldcaa", sum := "73d2a07203106a7a208ef808c7953b2fc13bd4a54d8d0ebd459390fd3fba4f5f", func := "loop.example/g00611/laws.FnFills", spec := "fnFills", unfollowed := true, recurses := true, apart := false, narrowed := true }
def FnFillsUptoSaid : Prop := fnFillsUptoRow.holds Try.pinned (OpenSpec.upto fnFillsSpec)

/-- 'laws.FnOrdered', WHERE WHAT IT READS IS OF BULK AT MOST 1048576: true; the input reads as it did. -/
def fnOrderedUptoRow : OpenClaim := { program := "ythpocmnnefldcaa", sum := "73d2a07203106a7a208ef808c7953b2fc13bd4a54d8d0ebd459390fd3fba4f5f", func := "loop.example/g00611/laws.FnOrdered", spec := "fnOrdered", unfollowed := true, recurses := true, apart := false, narrowed := true }
def FnOrderedUptoSaid : Prop := fnOrderedUptoRow.holds Try.pinned (OpenSpec.upto fnOrderedSpec)

/-- 'laws.FnRoutes', WHERE WHAT IT READS IS OF BULK AT MOST 1048576: true; the input reads as it did. -/
def fnRoutesUptoRow : OpenClaim := { program := "ythpocmnnefldcaa", sum := "73d2a07203106a7a208ef808c7953b2fc13bd4a54d8d0ebd459390fd3fba4f5f", func := "loop.example/g00611/laws.FnRoutes", spec := "fnRoutes", unfollowed := true, recurses := true, apart := false, narrowed := true }
def FnRoutesUptoSaid : Prop := fnRoutesUptoRow.holds Try.pinned (OpenSpec.upto fnRoutesSpec)

/-- 'laws.FnExactCellOk', WHERE WHAT IT READS IS OF BULK AT MOST 1048576: true; the input reads as it did. -/
def fnExactCellOkUptoRow : OpenClaim := { program := "ythpocmnnefldcaa", sum := "73d2a07203106a7a208ef808c7953b2fc13bd4a54d8d0ebd459390fd3fba4f5f", func := "loop.example/g00611/laws.FnExactCellOk", spec := "fnExactCellOk", apart := false, narrowed := true }
def FnExactCellOkUptoSaid : Prop := fnExactCellOkUptoRow.holds Try.pinned (OpenSpec.upto fnExactCellOkSpec)

/-- 'laws.FnExactRouteOk', WHERE WHAT IT READS IS OF BULK AT MOST 1048576: true; the input reads as it did. -/
def fnExactRouteOkUptoRow : OpenClaim := { program := "ythpocmnnefldcaa", sum := "73d2a07203106a7a208ef808c7953b2fc13bd4a54d8d0ebd459390fd3fba4f5f", func := "loop.example/g00611/laws.FnExactRouteOk", spec := "fnExactRouteOk", unfollowed := true, recurses := true, apart := false, narrowed := true }
def FnExactRouteOkUptoSaid : Prop := fnExactRouteOkUptoRow.holds Try.pinned (OpenSpec.upto fnExactRouteOkSpec)

/-- 'laws.FnExactLayerSize', WHERE WHAT IT READS IS OF BULK AT MOST 1048576: true; the input reads as it did. -/
def fnExactLayerSizeUptoRow : OpenClaim := { program := "ythpocmnnefldcaa", sum := "73d2a07203106a7a208ef808c7953b2fc13bd4a54d8d0ebd459390fd3fba4f5f", func := "loop.example/g00611/laws.FnExactLayerSize", spec := "fnExactLayerSize", apart := false, narrowed := true }
def FnExactLayerSizeUptoSaid : Prop := fnExactLayerSizeUptoRow.holds Try.pinned (OpenSpec.upto fnExactLayerSizeSpec)

/-- 'laws.FnExactWrap', WHERE WHAT IT READS IS OF BULK AT MOST 1048576: true; the input reads as it did. -/
def fnExactWrapUptoRow : OpenClaim := { program := "ythpocmnnefldcaa", sum := "73d2a07203106a7a208ef808c7953b2fc13bd4a54d8d0ebd459390fd3fba4f5f", func := "loop.example/g00611/laws.FnExactWrap", spec := "fnExactWrap", unfollowed := true, recurses := true, apart := false, narrowed := true }
def FnExactWrapUptoSaid : Prop := fnExactWrapUptoRow.holds Try.pinned (OpenSpec.upto fnExactWrapSpec)

/-- 'laws.FnExactPeel', WHERE WHAT IT READS IS OF BULK AT MOST 1048576: true; the input reads as it did. -/
def fnExactPeelUptoRow : OpenClaim := { program := "ythpocmnnefldcaa", sum := "73d2a07203106a7a208ef808c7953b2fc13bd4a54d8d0ebd459390fd3fba4f5f", func := "loop.example/g00611/laws.FnExactPeel", spec := "fnExactPeel", unfollowed := true, recurses := true, apart := false, narrowed := true }
def FnExactPeelUptoSaid : Prop := fnExactPeelUptoRow.holds Try.pinned (OpenSpec.upto fnExactPeelSpec)

/-- 'laws.FnExactTagOf', WHERE WHAT IT READS IS OF BULK AT MOST 1048576: true; the input reads as it did. -/
def fnExactTagOfUptoRow : OpenClaim := { program := "ythpocmnnefldcaa", sum := "73d2a07203106a7a208ef808c7953b2fc13bd4a54d8d0ebd459390fd3fba4f5f", func := "loop.example/g00611/laws.FnExactTagOf", spec := "fnExactTagOf", apart := false, narrowed := true }
def FnExactTagOfUptoSaid : Prop := fnExactTagOfUptoRow.holds Try.pinned (OpenSpec.upto fnExactTagOfSpec)

/-- 'laws.FnExactDummy', WHERE WHAT IT READS IS OF BULK AT MOST 1048576: true; the input reads as it did. -/
def fnExactDummyUptoRow : OpenClaim := { program := "ythpocmnnefldcaa", sum := "73d2a07203106a7a208ef808c7953b2fc13bd4a54d8d0ebd459390fd3fba4f5f", func := "loop.example/g00611/laws.FnExactDummy", spec := "fnExactDummy", apart := false, narrowed := true }
def FnExactDummyUptoSaid : Prop := fnExactDummyUptoRow.holds Try.pinned (OpenSpec.upto fnExactDummySpec)

end Rows
end Go.Proofs.Ythpocmnnefldcaa
