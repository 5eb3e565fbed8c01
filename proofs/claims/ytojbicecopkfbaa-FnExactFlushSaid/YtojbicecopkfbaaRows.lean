/-
  No cell of these rows narrows 'for every input' (looked for: loops, veiled, ifaces, maps, wideKeys, modest, calm, conditions, laid).
  DERIVED. THE GIVEN ROWS OF THIS SEAT. 4 by the template 'for every input the law returns true; each argument reads behind the call as it read before'; 0 by the template 'total and deterministic' (their statements: YtojbicecopkfbaaTotals.lean).
  GIVEN WITH THE SEED: the statements are not yours to turn. If you find one false, say at which input.
  Laid BY PROGRAM, IN A SANDBOX (cutbox-rows.mjs): the forced cells as the released guide's own fill.sh prints them over the translation 572fba1cf00d0b1b… (all of the seat's roots in one cut). By AI agents, Wed Nov 11 2026. No macro, syntax, notation, axiom, sorry.
-/
import Derived.Test.YtojbicecopkfbaaChecked
import GoSem.Claim
import GoSem.ClaimJoined
import GoSem.ClaimMapViews
import Derived.JoinedTies
import Derived.KernelRfl
namespace Go.Proofs.Ytojbicecopkfbaa
/- THE CELL 'sum', in the pinned program and in every row, IS THE sha256 OF THE DUMP (.gsa) THAT YtojbicecopkfbaaProg.lean LOADS. Nothing in Lean hashes anything: it is a label: what it is worth is what the hold of that sum in a sandbox is worth. -/
noncomputable def Try.pinned : Pinned := { name := "ytojbicecopkfbaa", sum := "572fba1cf00d0b1b3c336a3f82ffee9af1b63b979ff70300c2cb34db2dbf2671", checked := Try.checked }
namespace Rows
def none {H : Type} : Left H := { results := [], args := [] }

/-- 'laws.FnExactLetGo': WHATEVER THE INPUT: true; the input reads as it did. -/
def fnExactLetGoSpec : ChangeSpec := { name := "fnExactLetGo", fn := fun _ => fun
  | [d1, d2] => { results := [.lit (.bool true)], args := [d1, d2] }
  | _ => none }
def fnExactLetGoRow : OpenClaim := { program := "ytojbicecopkfbaa", sum := "572fba1cf00d0b1b3c336a3f82ffee9af1b63b979ff70300c2cb34db2dbf2671", func := "loop.example/g00611/laws.FnExactLetGo", spec := "fnExactLetGo", unfollowed := true, recurses := true, apart := false }
def FnExactLetGoSaid : Prop := fnExactLetGoRow.holds Try.pinned (OpenSpec.ofChange fnExactLetGoSpec)

/-- ITS FALSE NEIGHBOUR: 'it returns false'. Refute it at one input. -/
def fnExactLetGoWrong : ChangeSpec := { name := "fnExactLetGo", fn := fun _ => fun
  | [d1, d2] => { results := [.lit (.bool false)], args := [d1, d2] }
  | _ => none }
def FnExactLetGoWrongFalsely : Prop := fnExactLetGoRow.holds Try.pinned (OpenSpec.ofChange fnExactLetGoWrong)

/-- 'laws.FnExactWrap': WHATEVER THE INPUT: true; the input reads as it did. -/
def fnExactWrapSpec : ChangeSpec := { name := "fnExactWrap", fn := fun _ => fun
  | [d1, d2, d3, d4, d5, d6] => { results := [.lit (.bool true)], args := [d1, d2, d3, d4, d5, d6] }
  | _ => none }
def fnExactWrapRow : OpenClaim := { program := "ytojbicecopkfbaa", sum := "572fba1cf00d0b1b3c336a3f82ffee9af1b63b979ff70300c2cb34db2dbf2671", func := "loop.example/g00611/laws.FnExactWrap", spec := "fnExactWrap", unfollowed := true, recurses := true, apart := false }
def FnExactWrapSaid : Prop := fnExactWrapRow.holds Try.pinned (OpenSpec.ofChange fnExactWrapSpec)

/-- ITS FALSE NEIGHBOUR: 'it returns false'. Refute it at one input. -/
def fnExactWrapWrong : ChangeSpec := { name := "fnExactWrap", fn := fun _ => fun
  | [d1, d2, d3, d4, d5, d6] => { results := [.lit (.bool false)], args := [d1, d2, d3, d4, d5, d6] }
  | _ => none }
def FnExactWrapWrongFalsely : Prop := fnExactWrapRow.holds Try.pinned (OpenSpec.ofChange fnExactWrapWrong)

/-- 'laws.FnExactFlush': WHATEVER THE INPUT: true; the input reads as it did. -/
def fnExactFlushSpec : ChangeSpec := { name := "fnExactFlush", fn := fun _ => fun
  | [d1, d2, d3] => { results := [.lit (.bool true)], args := [d1, d2, d3] }
  | _ => none }
def fnExactFlushRow : OpenClaim := { program := "ytojbicecopkfbaa", sum := "572fba1cf00d0b1b3c336a3f82ffee9af1b63b979ff70300c2cb34db2dbf2671", func := "loop.example/g00611/laws.FnExactFlush", spec := "fnExactFlush", unfollowed := true, recurses := true, apart := false }
def FnExactFlushSaid : Prop := fnExactFlushRow.holds Try.pinned (OpenSpec.ofChange fnExactFlushSpec)

/-- ITS FALSE NEIGHBOUR: 'it returns false'. Refute it at one input. -/
def fnExactFlushWrong : ChangeSpec := { name := "fnExactFlush", fn := fun _ => fun
  | [d1, d2, d3] => { results := [.lit (.bool false)], args := [d1, d2, d3] }
  | _ => none }
def FnExactFlushWrongFalsely : Prop := fnExactFlushRow.holds Try.pinned (OpenSpec.ofChange fnExactFlushWrong)

/-- 'laws.FnExactPoolRead': WHATEVER THE INPUT: true; the input reads as it did. -/
def fnExactPoolReadSpec : ChangeSpec := { name := "fnExactPoolRead", fn := fun _ => fun
  | [d] => { results := [.lit (.bool true)], args := [d] }
  | _ => none }
def fnExactPoolReadRow : OpenClaim := { program := "ytojbicecopkfbaa", sum := "572fba1cf00d0b1b3c336a3f82ffee9af1b63b979ff70300c2cb34db2dbf2671", func := "loop.example/g00611/laws.FnExactPoolRead", spec := "fnExactPoolRead", unfollowed := true, recurses := true, apart := false }
def FnExactPoolReadSaid : Prop := fnExactPoolReadRow.holds Try.pinned (OpenSpec.ofChange fnExactPoolReadSpec)

/-- ITS FALSE NEIGHBOUR: 'it returns false'. Refute it at one input. -/
def fnExactPoolReadWrong : ChangeSpec := { name := "fnExactPoolRead", fn := fun _ => fun
  | [d] => { results := [.lit (.bool false)], args := [d] }
  | _ => none }
def FnExactPoolReadWrongFalsely : Prop := fnExactPoolReadRow.holds Try.pinned (OpenSpec.ofChange fnExactPoolReadWrong)

/- THE SECOND FORM. 'bulk': how many values and letters a reading holds, each counted each time it is reached (what is shared counts as often as it is met; a slice's spare places count too). A statement '..UptoSaid' is the law's where the arguments, and the package variables that the reading takes, are together of bulk at most 1048576: NARROWER than '..Said'. Prove '..Said' where nothing that the law and all that it calls make is longer than what came in: it says more and counts as full. Else prove '..UptoSaid'. A law counts once. -/
mutual
def uptoBulk {H : Type} : DataW H → Nat
  | .lit (.string bytes) => bytes.length + 1
  | .lit _ => 1
  | .nil => 1
  | .ptr d => uptoBulk d + 1
  | .slice elems spare => uptoBulkAll elems + uptoBulkAll spare + 1
  | .agg parts => uptoBulkAll parts + 1
  | .iface _ d => uptoBulk d + 1
  | .map entries => uptoBulkEntries entries + 1
  | .held _ => 1
def uptoBulkAll {H : Type} : List (DataW H) → Nat
  | [] => 0
  | d :: r => uptoBulk d + uptoBulkAll r
def uptoBulkEntries {H : Type} : List (Lit × DataW H) → Nat
  | [] => 0
  | x :: r => uptoBulkEntry x + uptoBulkEntries r
def uptoBulkEntry {H : Type} : Lit × DataW H → Nat
  | (.string bytes, d) => bytes.length + uptoBulk d + 1
  | (_, d) => uptoBulk d + 1
 end
def uptoSmall : (H : Type) → List (DataW H) → Bool := fun _ ds => decide (uptoBulkAll ds ≤ 1048576)
def OpenSpec.upto (s : _root_.Go.ChangeSpec) : _root_.Go.OpenSpec := { _root_.Go.OpenSpec.ofChange s with cond := some uptoSmall }

/-- 'laws.FnExactLetGo', WHERE WHAT IT READS IS OF BULK AT MOST 1048576: true; the input reads as it did. -/
def fnExactLetGoUptoRow : OpenClaim := { program := "ytojbicecopkfbaa", sum := "572fba1cf00d0b1b3c336a3f82ffee9af1b63b979ff70300c2cb34db2dbf2671", func := "loop.example/g00611/laws.FnExactLetGo", spec := "fnExactLetGo", unfollowed := true, recurses := true, apart := false, narrowed := true }
def FnExactLetGoUptoSaid : Prop := fnExactLetGoUptoRow.holds Try.pinned (OpenSpec.upto fnExactLetGoSpec)

/-- 'laws.FnExactWrap', WHERE WHAT IT READS IS OF BULK AT MOST 1048576: true; the input reads as it did. -/
def fnExactWrapUptoRow : OpenClaim := { program := "ytojbicecopkfbaa", sum := "572fba1cf00d0b1b3c336a3f82ffee9af1b63b979ff70300c2cb34db2dbf2671", func := "loop.example/g00611/laws.FnExactWrap", spec := "fnExactWrap", unfollowed := true, recurses := true, apart := false, narrowed := true }
def FnExactWrapUptoSaid : Prop := fnExactWrapUptoRow.holds Try.pinned (OpenSpec.upto fnExactWrapSpec)

/-- 'laws.FnExactFlush', WHERE WHAT IT READS IS OF BULK AT MOST 1048576: true; the input reads as it did. -/
def fnExactFlushUptoRow : OpenClaim := { program := "ytojbicecopkfbaa", sum := "572fba1cf00d0b1b3c336a3f82ffee9af1b63b979ff70300c2cb34db2dbf2671", func := "loop.example/g00611/laws.FnExactFlush", spec := "fnExactFlush", unfollowed := true, recurses := true, apart := false, narrowed := true }
def FnExactFlushUptoSaid : Prop := fnExactFlushUptoRow.holds Try.pinned (OpenSpec.upto fnExactFlushSpec)

/-- 'laws.FnExactPoolRead', WHERE WHAT IT READS IS OF BULK AT MOST 1048576: true; the input reads as it did. -/
def fnExactPoolReadUptoRow : OpenClaim := { program := "ytojbicecopkfbaa", sum := "572fba1cf00d0b1b3c336a3f82ffee9af1b63b979ff70300c2cb34db2dbf2671", func := "loop.example/g00611/laws.FnExactPoolRead", spec := "fnExactPoolRead", unfollowed := true, recurses := true, apart := false, narrowed := true }
def FnExactPoolReadUptoSaid : Prop := fnExactPoolReadUptoRow.holds Try.pinned (OpenSpec.upto fnExactPoolReadSpec)

end Rows
end Go.Proofs.Ytojbicecopkfbaa
