/-
  No cell of these rows narrows 'for every input' (looked for: loops, veiled, ifaces, maps, wideKeys, modest, calm, conditions, laid).
  DERIVED. THE GIVEN ROWS OF THIS SEAT. 8 by the template 'for every input the law returns true; each argument reads behind the call as it read before'; 0 by the template 'total and deterministic' (their statements: YtilopapnipealaaGreatTotals.lean).
  GIVEN WITH THE SEED: the statements are not yours to turn. If you find one false, say at which input.
  Laid BY PROGRAM, IN A SANDBOX (cutbox-rows.mjs): the forced cells as the released guide's own fill.sh prints them over the translation 0b0401e24004be3a… (all of the seat's roots in one cut). By AI agents, Wed Nov 11 2026. No macro, syntax, notation, axiom, sorry.
-/
import Derived.Test.YtilopapnipealaaGreatChecked
import GoSem.Claim
import GoSem.ClaimJoined
import GoSem.ClaimMapViews
import Derived.JoinedTies
import Derived.KernelRfl
namespace Go.Proofs.YtilopapnipealaaGreat
/- THE CELL 'sum', in the pinned program and in every row, IS THE sha256 OF THE DUMP (.gsa) THAT YtilopapnipealaaGreatProg.lean LOADS. Nothing in Lean hashes anything: it is a label: what it is worth is what the hold of that sum in a sandbox is worth. -/
noncomputable def Tryz.pinned : Pinned := { name := "ytilopapnipealaagreat", sum := "0b0401e24004be3a3626bd24afc518b0bf76eeb5e2e4cc6472c4fce40d064c9e", checked := Tryz.checked }
namespace Rows
def none {H : Type} : Left H := { results := [], args := [] }

/-- 'laws.FnExactNodeOk': WHATEVER THE INPUT: true; the input reads as it did. -/
def fnExactNodeOkSpec : ChangeSpec := { name := "fnExactNodeOk", fn := fun _ => fun
  | [d] => { results := [.lit (.bool true)], args := [d] }
  | _ => none }
def fnExactNodeOkRow : OpenClaim := { program := "ytilopapnipealaagreat", sum := "0b0401e24004be3a3626bd24afc518b0bf76eeb5e2e4cc6472c4fce40d064c9e", func := "loop.example/g00611/laws.FnExactNodeOk", spec := "fnExactNodeOk", unfollowed := true, recurses := true, apart := false }
def FnExactNodeOkSaid : Prop := fnExactNodeOkRow.holds Tryz.pinned (OpenSpec.ofChange fnExactNodeOkSpec)

/-- ITS FALSE NEIGHBOUR: 'it returns false'. Refute it at one input. -/
def fnExactNodeOkWrong : ChangeSpec := { name := "fnExactNodeOk", fn := fun _ => fun
  | [d] => { results := [.lit (.bool false)], args := [d] }
  | _ => none }
def FnExactNodeOkWrongFalsely : Prop := fnExactNodeOkRow.holds Tryz.pinned (OpenSpec.ofChange fnExactNodeOkWrong)

/-- 'laws.FnExactNodeNew': WHATEVER THE INPUT: true; the input reads as it did. -/
def fnExactNodeNewSpec : ChangeSpec := { name := "fnExactNodeNew", fn := fun _ => fun
  | [d1, d2] => { results := [.lit (.bool true)], args := [d1, d2] }
  | _ => none }
def fnExactNodeNewRow : OpenClaim := { program := "ytilopapnipealaagreat", sum := "0b0401e24004be3a3626bd24afc518b0bf76eeb5e2e4cc6472c4fce40d064c9e", func := "loop.example/g00611/laws.FnExactNodeNew", spec := "fnExactNodeNew", unfollowed := true, recurses := true, apart := false }
def FnExactNodeNewSaid : Prop := fnExactNodeNewRow.holds Tryz.pinned (OpenSpec.ofChange fnExactNodeNewSpec)

/-- ITS FALSE NEIGHBOUR: 'it returns false'. Refute it at one input. -/
def fnExactNodeNewWrong : ChangeSpec := { name := "fnExactNodeNew", fn := fun _ => fun
  | [d1, d2] => { results := [.lit (.bool false)], args := [d1, d2] }
  | _ => none }
def FnExactNodeNewWrongFalsely : Prop := fnExactNodeNewRow.holds Tryz.pinned (OpenSpec.ofChange fnExactNodeNewWrong)

/-- 'laws.FnExactLetterOf': WHATEVER THE INPUT: true; the input reads as it did. -/
def fnExactLetterOfSpec : ChangeSpec := { name := "fnExactLetterOf", fn := fun _ => fun
  | [d1, d2] => { results := [.lit (.bool true)], args := [d1, d2] }
  | _ => none }
def fnExactLetterOfRow : OpenClaim := { program := "ytilopapnipealaagreat", sum := "0b0401e24004be3a3626bd24afc518b0bf76eeb5e2e4cc6472c4fce40d064c9e", func := "loop.example/g00611/laws.FnExactLetterOf", spec := "fnExactLetterOf", unfollowed := true, recurses := true, apart := false }
def FnExactLetterOfSaid : Prop := fnExactLetterOfRow.holds Tryz.pinned (OpenSpec.ofChange fnExactLetterOfSpec)

/-- ITS FALSE NEIGHBOUR: 'it returns false'. Refute it at one input. -/
def fnExactLetterOfWrong : ChangeSpec := { name := "fnExactLetterOf", fn := fun _ => fun
  | [d1, d2] => { results := [.lit (.bool false)], args := [d1, d2] }
  | _ => none }
def FnExactLetterOfWrongFalsely : Prop := fnExactLetterOfRow.holds Tryz.pinned (OpenSpec.ofChange fnExactLetterOfWrong)

/-- 'laws.FnExactGotIds': WHATEVER THE INPUT: true; the input reads as it did. -/
def fnExactGotIdsSpec : ChangeSpec := { name := "fnExactGotIds", fn := fun _ => fun
  | [d] => { results := [.lit (.bool true)], args := [d] }
  | _ => none }
def fnExactGotIdsRow : OpenClaim := { program := "ytilopapnipealaagreat", sum := "0b0401e24004be3a3626bd24afc518b0bf76eeb5e2e4cc6472c4fce40d064c9e", func := "loop.example/g00611/laws.FnExactGotIds", spec := "fnExactGotIds", unfollowed := true, recurses := true, apart := false }
def FnExactGotIdsSaid : Prop := fnExactGotIdsRow.holds Tryz.pinned (OpenSpec.ofChange fnExactGotIdsSpec)

/-- ITS FALSE NEIGHBOUR: 'it returns false'. Refute it at one input. -/
def fnExactGotIdsWrong : ChangeSpec := { name := "fnExactGotIds", fn := fun _ => fun
  | [d] => { results := [.lit (.bool false)], args := [d] }
  | _ => none }
def FnExactGotIdsWrongFalsely : Prop := fnExactGotIdsRow.holds Tryz.pinned (OpenSpec.ofChange fnExactGotIdsWrong)

/-- 'laws.FnExactLoad': WHATEVER THE INPUT: true; the input reads as it did. -/
def fnExactLoadSpec : ChangeSpec := { name := "fnExactLoad", fn := fun _ => fun
  | [d] => { results := [.lit (.bool true)], args := [d] }
  | _ => none }
def fnExactLoadRow : OpenClaim := { program := "ytilopapnipealaagreat", sum := "0b0401e24004be3a3626bd24afc518b0bf76eeb5e2e4cc6472c4fce40d064c9e", func := "loop.example/g00611/laws.FnExactLoad", spec := "fnExactLoad", unfollowed := true, recurses := true, apart := false }
def FnExactLoadSaid : Prop := fnExactLoadRow.holds Tryz.pinned (OpenSpec.ofChange fnExactLoadSpec)

/-- ITS FALSE NEIGHBOUR: 'it returns false'. Refute it at one input. -/
def fnExactLoadWrong : ChangeSpec := { name := "fnExactLoad", fn := fun _ => fun
  | [d] => { results := [.lit (.bool false)], args := [d] }
  | _ => none }
def FnExactLoadWrongFalsely : Prop := fnExactLoadRow.holds Tryz.pinned (OpenSpec.ofChange fnExactLoadWrong)

/-- 'laws.FnExactIdle': WHATEVER THE INPUT: true; the input reads as it did. -/
def fnExactIdleSpec : ChangeSpec := { name := "fnExactIdle", fn := fun _ => fun
  | [d] => { results := [.lit (.bool true)], args := [d] }
  | _ => none }
def fnExactIdleRow : OpenClaim := { program := "ytilopapnipealaagreat", sum := "0b0401e24004be3a3626bd24afc518b0bf76eeb5e2e4cc6472c4fce40d064c9e", func := "loop.example/g00611/laws.FnExactIdle", spec := "fnExactIdle", unfollowed := true, recurses := true, apart := false }
def FnExactIdleSaid : Prop := fnExactIdleRow.holds Tryz.pinned (OpenSpec.ofChange fnExactIdleSpec)

/-- ITS FALSE NEIGHBOUR: 'it returns false'. Refute it at one input. -/
def fnExactIdleWrong : ChangeSpec := { name := "fnExactIdle", fn := fun _ => fun
  | [d] => { results := [.lit (.bool false)], args := [d] }
  | _ => none }
def FnExactIdleWrongFalsely : Prop := fnExactIdleRow.holds Tryz.pinned (OpenSpec.ofChange fnExactIdleWrong)

/-- 'laws.FnExactTakePiece': WHATEVER THE INPUT: true; the input reads as it did. -/
def fnExactTakePieceSpec : ChangeSpec := { name := "fnExactTakePiece", fn := fun _ => fun
  | [d1, d2, d3] => { results := [.lit (.bool true)], args := [d1, d2, d3] }
  | _ => none }
def fnExactTakePieceRow : OpenClaim := { program := "ytilopapnipealaagreat", sum := "0b0401e24004be3a3626bd24afc518b0bf76eeb5e2e4cc6472c4fce40d064c9e", func := "loop.example/g00611/laws.FnExactTakePiece", spec := "fnExactTakePiece", unfollowed := true, recurses := true, apart := false }
def FnExactTakePieceSaid : Prop := fnExactTakePieceRow.holds Tryz.pinned (OpenSpec.ofChange fnExactTakePieceSpec)

/-- ITS FALSE NEIGHBOUR: 'it returns false'. Refute it at one input. -/
def fnExactTakePieceWrong : ChangeSpec := { name := "fnExactTakePiece", fn := fun _ => fun
  | [d1, d2, d3] => { results := [.lit (.bool false)], args := [d1, d2, d3] }
  | _ => none }
def FnExactTakePieceWrongFalsely : Prop := fnExactTakePieceRow.holds Tryz.pinned (OpenSpec.ofChange fnExactTakePieceWrong)

/-- 'laws.FnExactNodeTick': WHATEVER THE INPUT: true; the input reads as it did. -/
def fnExactNodeTickSpec : ChangeSpec := { name := "fnExactNodeTick", fn := fun _ => fun
  | [d1, d2] => { results := [.lit (.bool true)], args := [d1, d2] }
  | _ => none }
def fnExactNodeTickRow : OpenClaim := { program := "ytilopapnipealaagreat", sum := "0b0401e24004be3a3626bd24afc518b0bf76eeb5e2e4cc6472c4fce40d064c9e", func := "loop.example/g00611/laws.FnExactNodeTick", spec := "fnExactNodeTick", unfollowed := true, recurses := true, apart := false }
def FnExactNodeTickSaid : Prop := fnExactNodeTickRow.holds Tryz.pinned (OpenSpec.ofChange fnExactNodeTickSpec)

/-- ITS FALSE NEIGHBOUR: 'it returns false'. Refute it at one input. -/
def fnExactNodeTickWrong : ChangeSpec := { name := "fnExactNodeTick", fn := fun _ => fun
  | [d1, d2] => { results := [.lit (.bool false)], args := [d1, d2] }
  | _ => none }
def FnExactNodeTickWrongFalsely : Prop := fnExactNodeTickRow.holds Tryz.pinned (OpenSpec.ofChange fnExactNodeTickWrong)

/- THE SECOND FORM. 'bulk': how many values and letters a reading holds, each counted each time it is reached (what is shared counts as often as it is met; a slice's spare places count too). A statement '..UptoSaid' is the law's where the arguments, and the package variables that the reading takes, are together of bulk at most 1048576: NARROWER than '..Said'. Prove '..Said' where nothing that the law and all that it calls make is longer than what came in: it says more and counts as full. Else prove '..UptoSaid'. A law counts once. -/
mutual
def uptoBulk {H : Type} : DataW H → Nat
  | .lit (.string bytes) => bytes.length + 1
  | .lit _ => 1
  | .nil => 1
  | .ptr d => uptoBulk d + 1
  | .slice elems spare => uptoBulkAll elems + uptoBulkAll spare + 1
  | .agg parts => uptoBulkAll parts + 1
  | .iface _ d => uptoBulk d + 1
  | .map entries => uptoBulkEntries entries + 1
  | .held _ => 1
def uptoBulkAll {H : Type} : List (DataW H) → Nat
  | [] => 0
  | d :: r => uptoBulk d + uptoBulkAll r
def uptoBulkEntries {H : Type} : List (Lit × DataW H) → Nat
  | [] => 0
  | x :: r => uptoBulkEntry x + uptoBulkEntries r
def uptoBulkEntry {H : Type} : Lit × DataW H → Nat
  | (.string bytes, d) => bytes.length + uptoBulk d + 1
  | (_, d) => uptoBulk d + 1
 end
def uptoSmall : (H : Type) → List (DataW H) → Bool := fun _ ds => decide (uptoBulkAll ds ≤ 1048576)
def OpenSpec.upto (s : _root_.Go.ChangeSpec) : _root_.Go.OpenSpec := { _root_.Go.OpenSpec.ofChange s with cond := some uptoSmall }

/-- 'laws.FnExactNodeOk', WHERE WHAT IT READS IS OF BULK AT MOST 1048576: true; the input reads as it did. -/
def fnExactNodeOkUptoRow : OpenClaim := { program := "ytilopapnipealaagreat", sum := "0b0401e24004be3a3626bd24afc518b0bf76eeb5e2e4cc6472c4fce40d064c9e", func := "loop.example/g00611/laws.FnExactNodeOk", spec := "fnExactNodeOk", unfollowed := true, recurses := true, apart := false, narrowed := true }
def FnExactNodeOkUptoSaid : Prop := fnExactNodeOkUptoRow.holds Tryz.pinned (OpenSpec.upto fnExactNodeOkSpec)

/-- 'laws.FnExactNodeNew', WHERE WHAT IT READS IS OF BULK AT MOST 1048576: true; the input reads as it did. -/
def fnExactNodeNewUptoRow : OpenClaim := { program := "ytilopapnipealaagreat", sum := "0b0401e24004be3a3626bd24afc518b0bf76eeb5e2e4cc6472c4fce40d064c9e", func := "loop.example/g00611/laws.FnExactNodeNew", spec := "fnExactNodeNew", unfollowed := true, recurses := true, apart := false, narrowed := true }
def FnExactNodeNewUptoSaid : Prop := fnExactNodeNewUptoRow.holds Tryz.pinned (OpenSpec.upto fnExactNodeNewSpec)

/-- 'laws.FnExactLetterOf', WHERE WHAT IT READS IS OF BULK AT MOST 1048576: true; the input reads as it did. -/
def fnExactLetterOfUptoRow : OpenClaim := { program := "ytilopapnipealaagreat", sum := "0b0401e24004be3a3626bd24afc518b0bf76eeb5e2e4cc6472c4fce40d064c9e", func := "loop.example/g00611/laws.FnExactLetterOf", spec := "fnExactLetterOf", unfollowed := true, recurses := true, apart := false, narrowed := true }
def FnExactLetterOfUptoSaid : Prop := fnExactLetterOfUptoRow.holds Tryz.pinned (OpenSpec.upto fnExactLetterOfSpec)

/-- 'laws.FnExactGotIds', WHERE WHAT IT READS IS OF BULK AT MOST 1048576: true; the input reads as it did. -/
def fnExactGotIdsUptoRow : OpenClaim := { program := "ytilopapnipealaagreat", sum := "0b0401e24004be3a3626bd24afc518b0bf76eeb5e2e4cc6472c4fce40d064c9e", func := "loop.example/g00611/laws.FnExactGotIds", spec := "fnExactGotIds", unfollowed := true, recurses := true, apart := false, narrowed := true }
def FnExactGotIdsUptoSaid : Prop := fnExactGotIdsUptoRow.holds Tryz.pinned (OpenSpec.upto fnExactGotIdsSpec)

/-- 'laws.FnExactLoad', WHERE WHAT IT READS IS OF BULK AT MOST 1048576: true; the input reads as it did. -/
def fnExactLoadUptoRow : OpenClaim := { program := "ytilopapnipealaagreat", sum := "0b0401e24004be3a3626bd24afc518b0bf76eeb5e2e4cc6472c4fce40d064c9e", func := "loop.example/g00611/laws.FnExactLoad", spec := "fnExactLoad", unfollowed := true, recurses := true, apart := false, narrowed := true }
def FnExactLoadUptoSaid : Prop := fnExactLoadUptoRow.holds Tryz.pinned (OpenSpec.upto fnExactLoadSpec)

/-- 'laws.FnExactIdle', WHERE WHAT IT READS IS OF BULK AT MOST 1048576: true; the input reads as it did. -/
def fnExactIdleUptoRow : OpenClaim := { program := "ytilopapnipealaagreat", sum := "0b0401e24004be3a3626bd24afc518b0bf76eeb5e2e4cc6472c4fce40d064c9e", func := "loop.example/g00611/laws.FnExactIdle", spec := "fnExactIdle", unfollowed := true, recurses := true, apart := false, narrowed := true }
def FnExactIdleUptoSaid : Prop := fnExactIdleUptoRow.holds Tryz.pinned (OpenSpec.upto fnExactIdleSpec)

/-- 'laws.FnExactTakePiece', WHERE WHAT IT READS IS OF BULK AT MOST 1048576: true; the input reads as it did. -/
def fnExactTakePieceUptoRow : OpenClaim := { program := "ytilopapnipealaagreat", sum := "0b0401e24004be3a3626bd24afc518b0bf76eeb5e2e4cc6472c4fce40d064c9e", func := "loop.example/g00611/laws.FnExactTakePiece", spec := "fnExactTakePiece", unfollowed := true, recurses := true, apart := false, narrowed := true }
def FnExactTakePieceUptoSaid : Prop := fnExactTakePieceUptoRow.holds Tryz.pinned (OpenSpec.upto fnExactTakePieceSpec)

/-- 'laws.FnExactNodeTick', WHERE WHAT IT READS IS OF BULK AT MOST 1048576: true; the input reads as it did. -/
def fnExactNodeTickUptoRow : OpenClaim := { program := "ytilopapnipealaagreat", sum := "0b0401e24004be3a3626bd24afc518b0bf76eeb5e2e4cc6472c4fce40d064c9e", func := "loop.example/g00611/laws.FnExactNodeTick", spec := "fnExactNodeTick", unfollowed := true, recurses := true, apart := false, narrowed := true }
def FnExactNodeTickUptoSaid : Prop := fnExactNodeTickUptoRow.holds Tryz.pinned (OpenSpec.upto fnExactNodeTickSpec)

end Rows
end Go.Proofs.YtilopapnipealaaGreat
