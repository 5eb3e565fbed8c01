/-
  No cell of these rows narrows 'for every input' (looked for: loops, veiled, ifaces, maps, wideKeys, modest, calm, conditions, laid).
  DERIVED. THE GIVEN ROWS OF THIS SEAT. 5 by the template 'for every input the law returns true; each argument reads behind the call as it read before'; 0 by the template 'total and deterministic' (their statements: YtnfmjgldcnokbaaTotals.lean).
  GIVEN WITH THE SEED: the statements are not yours to turn. If you find one false, say at which input.
  Laid BY PROGRAM, IN A SANDBOX (cutbox-rows.mjs): the forced cells as the released guide's own fill.sh prints them over the translation 63cfa3449110636e… (all of the seat's roots in one cut). By AI agents, Wed Nov 11 2026. No macro, syntax, notation, axiom, sorry.
-/
import Derived.Test.YtnfmjgldcnokbaaChecked
import GoSem.Claim
import GoSem.ClaimJoined
import GoSem.ClaimMapViews
import Derived.JoinedTies
import Derived.KernelRfl
namespace Go.Proofs.Ytnfmjgldcnokbaa
/- THE CELL 'sum', in the pinned program and in every row, IS THE sha256 OF THE DUMP (.gsa) THAT YtnfmjgldcnokbaaProg.lean LOADS. Nothing in Lean hashes anything: it is a label: what it is worth is what the hold of that sum in a sandbox is worth. -/
noncomputable def Try.pinned : Pinned := { name := "ytnfmjgldcnokbaa", sum := "63cfa3449110636eb31c150b76ae7b7582118f057250ea3b6c3b742b741dc11f", checked := Try.checked }
namespace Rows
def none {H : Type} : Left H := { results := [], args := [] }

/-- 'laws.FnWraps': WHATEVER THE INPUT: true; the input reads as it did. -/
def fnWrapsSpec : ChangeSpec := { name := "fnWraps", fn := fun _ => fun
  | [d] => { results := [.lit (.bool true)], args := [d] }
  | _ => none }
def fnWrapsRow : OpenClaim := { program := "ytnfmjgldcnokbaa", sum := "63cfa3449110636eb31c150b76ae7b7582118f057250ea3b6c3b742b741dc11f", func := "loop.example/g00611/laws.FnWraps", spec := "fnWraps", unfollowed := true, recurses := true, apart := false }
def FnWrapsSaid : Prop := fnWrapsRow.holds Try.pinned (OpenSpec.ofChange fnWrapsSpec)

/-- ITS FALSE NEIGHBOUR: 'it returns false'. Refute it at one input. -/
def fnWrapsWrong : ChangeSpec := { name := "fnWraps", fn := fun _ => fun
  | [d] => { results := [.lit (.bool false)], args := [d] }
  | _ => none }
def FnWrapsWrongFalsely : Prop := fnWrapsRow.holds Try.pinned (OpenSpec.ofChange fnWrapsWrong)

/-- 'laws.FnPeels': WHATEVER THE INPUT: true; the input reads as it did. -/
def fnPeelsSpec : ChangeSpec := { name := "fnPeels", fn := fun _ => fun
  | [d] => { results := [.lit (.bool true)], args := [d] }
  | _ => none }
def fnPeelsRow : OpenClaim := { program := "ytnfmjgldcnokbaa", sum := "63cfa3449110636eb31c150b76ae7b7582118f057250ea3b6c3b742b741dc11f", func := "loop.example/g00611/laws.FnPeels", spec := "fnPeels", unfollowed := true, recurses := true, apart := false }
def FnPeelsSaid : Prop := fnPeelsRow.holds Try.pinned (OpenSpec.ofChange fnPeelsSpec)

/-- ITS FALSE NEIGHBOUR: 'it returns false'. Refute it at one input. -/
def fnPeelsWrong : ChangeSpec := { name := "fnPeels", fn := fun _ => fun
  | [d] => { results := [.lit (.bool false)], args := [d] }
  | _ => none }
def FnPeelsWrongFalsely : Prop := fnPeelsRow.holds Try.pinned (OpenSpec.ofChange fnPeelsWrong)

/-- 'laws.FnFills': WHATEVER THE INPUT: true; the input reads as it did. -/
def fnFillsSpec : ChangeSpec := { name := "fnFills", fn := fun _ => fun
  | [d] => { results := [.lit (.bool true)], args := [d] }
  | _ => none }
def fnFillsRow : OpenClaim := { program := "ytnfmjgldcnokbaa", sum := "63cfa3449110636eb31c150b76ae7b7582118f057250ea3b6c3b742b741dc11f", func := "loop.example/g00611/laws.FnFills", spec := "fnFills", unfollowed := true, recurses := true, apart := false }
def FnFillsSaid : Prop := fnFillsRow.holds Try.pinned (OpenSpec.ofChange fnFillsSpec)

/-- ITS FALSE NEIGHBOUR: 'it returns false'. Refute it at one input. -/
def fnFillsWrong : ChangeSpec := { name := "fnFills", fn := fun _ => fun
  | [d] => { results := [.lit (.bool false)], args := [d] }
  | _ => none }
def FnFillsWrongFalsely : Prop := fnFillsRow.holds Try.pinned (OpenSpec.ofChange fnFillsWrong)

/-- 'laws.FnRoutes': WHATEVER THE INPUT: true; the input reads as it did. -/
def fnRoutesSpec : ChangeSpec := { name := "fnRoutes", fn := fun _ => fun
  | [d] => { results := [.lit (.bool true)], args := [d] }
  | _ => none }
def fnRoutesRow : OpenClaim := { program := "ytnfmjgldcnokbaa", sum := "63cfa3449110636eb31c150b76ae7b7582118f057250ea3b6c3b742b741dc11f", func := "loop.example/g00611/laws.FnRoutes", spec := "fnRoutes", unfollowed := true, recurses := true, apart := false }
def FnRoutesSaid : Prop := fnRoutesRow.holds Try.pinned (OpenSpec.ofChange fnRoutesSpec)

/-- ITS FALSE NEIGHBOUR: 'it returns false'. Refute it at one input. -/
def fnRoutesWrong : ChangeSpec := { name := "fnRoutes", fn := fun _ => fun
  | [d] => { results := [.lit (.bool false)], args := [d] }
  | _ => none }
def FnRoutesWrongFalsely : Prop := fnRoutesRow.holds Try.pinned (OpenSpec.ofChange fnRoutesWrong)

/-- 'laws.FnExactPoolRead': WHATEVER THE INPUT: true; the input reads as it did. -/
def fnExactPoolReadSpec : ChangeSpec := { name := "fnExactPoolRead", fn := fun _ => fun
  | [d] => { results := [.lit (.bool true)], args := [d] }
  | _ => none }
def fnExactPoolReadRow : OpenClaim := { program := "ytnfmjgldcnokbaa", sum := "63cfa3449110636eb31c150b76ae7b7582118f057250ea3b6c3b742b741dc11f", func := "loop.example/g00611/laws.FnExactPoolRead", spec := "fnExactPoolRead", unfollowed := true, recurses := true, apart := false }
def FnExactPoolReadSaid : Prop := fnExactPoolReadRow.holds Try.pinned (OpenSpec.ofChange fnExactPoolReadSpec)

/-- ITS FALSE NEIGHBOUR: 'it returns false'. Refute it at one input. -/
def fnExactPoolReadWrong : ChangeSpec := { name := "fnExactPoolRead", fn := fun _ => fun
  | [d] => { results := [.lit (.bool false)], args := [d] }
  | _ => none }
def FnExactPoolReadWrongFalsely : Prop := fnExactPoolReadRow.holds Try.pinned (OpenSpec.ofChange fnExactPoolReadWrong)

/- THE SECOND FORM. 'bulk': how many values and letters a reading holds, each counted each time it is reached (what is shared counts as often as it is met; a slice's spare places count too). A statement '..UptoSaid' is the law's where the arguments, and the package variables that the reading takes, are together of bulk at most 1048576: NARROWER than '..Said'. Prove '..Said' where nothing that the law and all that it calls make is longer than what came in: it says more and counts as full. Else prove '..UptoSaid'. A law counts once. -/
mutual
def uptoBulk {H : Type} : DataW H → Nat
  | .lit (.string bytes) => bytes.length + 1
  | .lit _ => 1
  | .nil => 1
  | .ptr d => uptoBulk d + 1
  | .slice elems spare => uptoBulkAll elems + uptoBulkAll spare + 1
  | .agg parts => uptoBulkAll parts + 1
  | .iface _ d => uptoBulk d + 1
  | .map entries => uptoBulkEntries entries + 1
  | .held _ => 1
def uptoBulkAll {H : Type} : List (DataW H) → Nat
  | [] => 0
  | d :: r => uptoBulk d + uptoBulkAll r
def uptoBulkEntries {H : Type} : List (Lit × DataW H) → Nat
  | [] => 0
  | x :: r => uptoBulkEntry x + uptoBulkEntries r
def uptoBulkEntry {H : Type} : Lit × DataW H → Nat
  | (.string bytes, d) => bytes.length + uptoBulk d + 1
  | (_, d) => uptoBulk d + 1
 end
def uptoSmall : (H : Type) → List (DataW H) → Bool := fun _ ds => decide (uptoBulkAll ds ≤ 1048576)
def OpenSpec.upto (s : _root_.Go.ChangeSpec) : _root_.Go.OpenSpec := { _root_.Go.OpenSpec.ofChange s with cond := some uptoSmall }

/-- 'laws.FnWraps', WHERE WHAT IT READS IS OF BULK AT MOST 1048576: true; the input reads as it did. -/
def fnWrapsUptoRow : OpenClaim := { program := "ytnfmjgldcnokbaa", sum := "63cfa3449110636eb31c150b76ae7b7582118f057250ea3b6c3b742b741dc11f", func := "loop.example/g00611/laws.FnWraps", spec := "fnWraps", unfollowed := true, recurses := true, apart := false, narrowed := true }
def FnWrapsUptoSaid : Prop := fnWrapsUptoRow.holds Try.pinned (OpenSpec.upto fnWrapsSpec)

/-- 'laws.FnPeels', WHERE WHAT IT READS IS OF BULK AT MOST 1048576: true; the input reads as it did. -/
def fnPeelsUptoRow : OpenClaim := { program := "ytnfmjgldcnokbaa", sum := "63cfa3449110636eb31c150b76ae7b7582118f057250ea3b6c3b742b741dc11f", func := "loop.example/g00611/laws.FnPeels", spec := "fnPeels", unfollowed := true, recurses := true, apart := false, narrowed := true }
def FnPeelsUptoSaid : Prop := fnPeelsUptoRow.holds Try.pinned (OpenSpec.upto fnPeelsSpec)

/-- 'laws.FnFills', WHERE WHAT IT READS IS OF BULK AT MOST 1048576: true; the input reads as it did. -/
def fnFillsUptoRow : OpenClaim := { program := "ytnfmjgldcnokbaa", sum := "63cfa3449110636eb31c150b76ae7b7582118f057250ea3b6c3b742b741dc11f", func := "loop.example/g00611/laws.FnFills", spec := "fnFills", unfollowed := true, recurses := true, apart := false, narrowed := true }
def FnFillsUptoSaid : Prop := fnFillsUptoRow.holds Try.pinned (OpenSpec.upto fnFillsSpec)

/-- 'laws.FnRoutes', WHERE WHAT IT READS IS OF BULK AT MOST 1048576: true; the input reads as it did. -/
def fnRoutesUptoRow : OpenClaim := { program := "ytnfmjgldcnokbaa", sum := "63cfa3449110636eb31c150b76ae7b7582118f057250ea3b6c3b742b741dc11f", func := "loop.example/g00611/laws.FnRoutes", spec := "fnRoutes", unfollowed := true, recurses := true, apart := false, narrowed := true }
def FnRoutesUptoSaid : Prop := fnRoutesUptoRow.holds Try.pinned (OpenSpec.upto fnRoutesSpec)

/-- 'laws.FnExactPoolRead', WHERE WHAT IT READS IS OF BULK AT MOST 1048576: true; the input reads as it did. -/
def fnExactPoolReadUptoRow : OpenClaim := { program := "ytnfmjgldcnokbaa", sum := "63cfa3449110636eb31c150b76ae7b7582118f057250ea3b6c3b742b741dc11f", func := "loop.example/g00611/laws.FnExactPoolRead", spec := "fnExactPoolRead", unfollowed := true, recurses := true, apart := false, narrowed := true }
def FnExactPoolReadUptoSaid : Prop := fnExactPoolReadUptoRow.holds Try.pinned (OpenSpec.upto fnExactPoolReadSpec)

end Rows
end Go.Proofs.Ytnfmjgldcnokbaa
