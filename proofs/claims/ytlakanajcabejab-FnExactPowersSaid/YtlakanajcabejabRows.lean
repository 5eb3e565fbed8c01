/-
  No cell of these rows narrows 'for every input' (looked for: loops, veiled, ifaces, maps, wideKeys, modest, calm, conditions, laid).
  DERIVED. THE GIVEN ROWS OF THIS SEAT. 4 by the template 'for every input the law returns true; each argument reads behind the call as it read before'; 0 by the template 'total and deterministic' (their statements: YtlakanajcabejabTotals.lean).
  GIVEN WITH THE SEED: the statements are not yours to turn. If you find one false, say at which input.
  Laid BY PROGRAM, IN A SANDBOX (cutbox-rows.mjs): the forced cells as the released guide's own fill.sh prints them over the translation 89e462971b762ea5… (all of the seat's roots in one cut). By AI agents, Wed Nov 11 2026. No macro, syntax, notation, axiom, sorry.
-/
import Derived.Test.YtlakanajcabejabChecked
import GoSem.Claim
import GoSem.ClaimJoined
import GoSem.ClaimMapViews
import Derived.JoinedTies
import Derived.KernelRfl
namespace Go.Proofs.Ytlakanajcabejab
/- THE CELL 'sum', in the pinned program and in every row, IS THE sha256 OF THE DUMP (.gsa) THAT YtlakanajcabejabProg.lean LOADS. Nothing in Lean hashes anything: it is a label: what it is worth is what the hold of that sum in a sandbox is worth. -/
noncomputable def Try.pinned : Pinned := { name := "ytlakanajcabejab", sum := "89e462971b762ea59c87b7e07ae3bdb6b49ce0f845f209aabf709fad98dfefed", checked := Try.checked }
namespace Rows
def none {H : Type} : Left H := { results := [], args := [] }

/-- 'laws.FnExactFNeg': WHATEVER THE INPUT: true; the input reads as it did. -/
def fnExactFNegSpec : ChangeSpec := { name := "fnExactFNeg", fn := fun _ => fun
  | [d] => { results := [.lit (.bool true)], args := [d] }
  | _ => none }
def fnExactFNegRow : OpenClaim := { program := "ytlakanajcabejab", sum := "89e462971b762ea59c87b7e07ae3bdb6b49ce0f845f209aabf709fad98dfefed", func := "loop.example/g00611/laws.FnExactFNeg", spec := "fnExactFNeg", apart := false }
def FnExactFNegSaid : Prop := fnExactFNegRow.holds Try.pinned (OpenSpec.ofChange fnExactFNegSpec)

/-- ITS FALSE NEIGHBOUR: 'it returns false'. Refute it at one input. -/
def fnExactFNegWrong : ChangeSpec := { name := "fnExactFNeg", fn := fun _ => fun
  | [d] => { results := [.lit (.bool false)], args := [d] }
  | _ => none }
def FnExactFNegWrongFalsely : Prop := fnExactFNegRow.holds Try.pinned (OpenSpec.ofChange fnExactFNegWrong)

/-- 'laws.FnExactFSub': WHATEVER THE INPUT: true; the input reads as it did. -/
def fnExactFSubSpec : ChangeSpec := { name := "fnExactFSub", fn := fun _ => fun
  | [d1, d2] => { results := [.lit (.bool true)], args := [d1, d2] }
  | _ => none }
def fnExactFSubRow : OpenClaim := { program := "ytlakanajcabejab", sum := "89e462971b762ea59c87b7e07ae3bdb6b49ce0f845f209aabf709fad98dfefed", func := "loop.example/g00611/laws.FnExactFSub", spec := "fnExactFSub", unfollowed := true, recurses := true, apart := false }
def FnExactFSubSaid : Prop := fnExactFSubRow.holds Try.pinned (OpenSpec.ofChange fnExactFSubSpec)

/-- ITS FALSE NEIGHBOUR: 'it returns false'. Refute it at one input. -/
def fnExactFSubWrong : ChangeSpec := { name := "fnExactFSub", fn := fun _ => fun
  | [d1, d2] => { results := [.lit (.bool false)], args := [d1, d2] }
  | _ => none }
def FnExactFSubWrongFalsely : Prop := fnExactFSubRow.holds Try.pinned (OpenSpec.ofChange fnExactFSubWrong)

/-- 'laws.FnExactFDiv': WHATEVER THE INPUT: true; the input reads as it did. -/
def fnExactFDivSpec : ChangeSpec := { name := "fnExactFDiv", fn := fun _ => fun
  | [d1, d2] => { results := [.lit (.bool true)], args := [d1, d2] }
  | _ => none }
def fnExactFDivRow : OpenClaim := { program := "ytlakanajcabejab", sum := "89e462971b762ea59c87b7e07ae3bdb6b49ce0f845f209aabf709fad98dfefed", func := "loop.example/g00611/laws.FnExactFDiv", spec := "fnExactFDiv", unfollowed := true, recurses := true, apart := false }
def FnExactFDivSaid : Prop := fnExactFDivRow.holds Try.pinned (OpenSpec.ofChange fnExactFDivSpec)

/-- ITS FALSE NEIGHBOUR: 'it returns false'. Refute it at one input. -/
def fnExactFDivWrong : ChangeSpec := { name := "fnExactFDiv", fn := fun _ => fun
  | [d1, d2] => { results := [.lit (.bool false)], args := [d1, d2] }
  | _ => none }
def FnExactFDivWrongFalsely : Prop := fnExactFDivRow.holds Try.pinned (OpenSpec.ofChange fnExactFDivWrong)

/-- 'laws.FnExactPowers': WHATEVER THE INPUT: true; the input reads as it did. -/
def fnExactPowersSpec : ChangeSpec := { name := "fnExactPowers", fn := fun _ => fun
  | [d1, d2] => { results := [.lit (.bool true)], args := [d1, d2] }
  | _ => none }
def fnExactPowersRow : OpenClaim := { program := "ytlakanajcabejab", sum := "89e462971b762ea59c87b7e07ae3bdb6b49ce0f845f209aabf709fad98dfefed", func := "loop.example/g00611/laws.FnExactPowers", spec := "fnExactPowers", apart := false }
def FnExactPowersSaid : Prop := fnExactPowersRow.holds Try.pinned (OpenSpec.ofChange fnExactPowersSpec)

/-- ITS FALSE NEIGHBOUR: 'it returns false'. Refute it at one input. -/
def fnExactPowersWrong : ChangeSpec := { name := "fnExactPowers", fn := fun _ => fun
  | [d1, d2] => { results := [.lit (.bool false)], args := [d1, d2] }
  | _ => none }
def FnExactPowersWrongFalsely : Prop := fnExactPowersRow.holds Try.pinned (OpenSpec.ofChange fnExactPowersWrong)

/- THE SECOND FORM. 'bulk': how many values and letters a reading holds, each counted each time it is reached (what is shared counts as often as it is met; a slice's spare places count too). A statement '..UptoSaid' is the law's where the arguments, and the package variables that the reading takes, are together of bulk at most 1048576: NARROWER than '..Said'. Prove '..Said' where nothing that the law and all that it calls make is longer than what came in: it says more and counts as full. Else prove '..UptoSaid'. A law counts once. -/
mutual
def uptoBulk {H : Type} : DataW H → Nat
  | .lit (.string bytes) => bytes.length + 1
  | .lit _ => 1
  | .nil => 1
  | .ptr d => uptoBulk d + 1
  | .slice elems spare => uptoBulkAll elems + uptoBulkAll spare + 1
  | .agg parts => uptoBulkAll parts + 1
  | .iface _ d => uptoBulk d + 1
  | .map entries => uptoBulkEntries entries + 1
  | .held _ => 1
def uptoBulkAll {H : Type} : List (DataW H) → Nat
  | [] => 0
  | d :: r => uptoBulk d + uptoBulkAll r
def uptoBulkEntries {H : Type} : List (Lit × DataW H) → Nat
  | [] => 0
  | x :: r => uptoBulkEntry x + uptoBulkEntries r
def uptoBulkEntry {H : Type} : Lit × DataW H → Nat
  | (.string bytes, d) => bytes.length + uptoBulk d + 1
  | (_, d) => uptoBulk d + 1
 end
def uptoSmall : (H : Type) → List (DataW H) → Bool := fun _ ds => decide (uptoBulkAll ds ≤ 1048576)
def OpenSpec.upto (s : _root_.Go.ChangeSpec) : _root_.Go.OpenSpec := { _root_.Go.OpenSpec.ofChange s with cond := some uptoSmall }

/-- 'laws.FnExactFNeg', WHERE WHAT IT READS IS OF BULK AT MOST 1048576: true; the input reads as it did. -/
def fnExactFNegUptoRow : OpenClaim := { program := "ytlakanajcabejab", sum := "89e462971b762ea59c87b7e07ae3bdb6b49ce0f845f209aabf709fad98dfefed", func := "loop.example/g00611/laws.FnExactFNeg", spec := "fnExactFNeg", apart := false, narrowed := true }
def FnExactFNegUptoSaid : Prop := fnExactFNegUptoRow.holds Try.pinned (OpenSpec.upto fnExactFNegSpec)

/-- 'laws.FnExactFSub', WHERE WHAT IT READS IS OF BULK AT MOST 1048576: true; the input reads as it did. -/
def fnExactFSubUptoRow : OpenClaim := { program := "ytlakanajcabejab", sum := "89e462971b762ea59c87b7e07ae3bdb6b49ce0f845f209aabf709fad98dfefed", func := "loop.example/g00611/laws.FnExactFSub", spec := "fnExactFSub", unfollowed := true, recurses := true, apart := false, narrowed := true }
def FnExactFSubUptoSaid : Prop := fnExactFSubUptoRow.holds Try.pinned (OpenSpec.upto fnExactFSubSpec)

/-- 'laws.FnExactFDiv', WHERE WHAT IT READS IS OF BULK AT MOST 1048576: true; the input reads as it did. -/
def fnExactFDivUptoRow : OpenClaim := { program := "ytlakanajcabejab", sum := "89e462971b762ea59c87b7e07ae3bdb6b49ce0f845f209aabf709fad98dfefed", func := "loop.example/g00611/laws.FnExactFDiv", spec := "fnExactFDiv", unfollowed := true, recurses := true, apart := false, narrowed := true }
def FnExactFDivUptoSaid : Prop := fnExactFDivUptoRow.holds Try.pinned (OpenSpec.upto fnExactFDivSpec)

/-- 'laws.FnExactPowers', WHERE WHAT IT READS IS OF BULK AT MOST 1048576: true; the input reads as it did. -/
def fnExactPowersUptoRow : OpenClaim := { program := "ytlakanajcabejab", sum := "89e462971b762ea59c87b7e07ae3bdb6b49ce0f845f209aabf709fad98dfefed", func := "loop.example/g00611/laws.FnExactPowers", spec := "fnExactPowers", apart := false, narrowed := true }
def FnExactPowersUptoSaid : Prop := fnExactPowersUptoRow.holds Try.pinned (OpenSpec.upto fnExactPowersSpec)

end Rows
end Go.Proofs.Ytlakanajcabejab
