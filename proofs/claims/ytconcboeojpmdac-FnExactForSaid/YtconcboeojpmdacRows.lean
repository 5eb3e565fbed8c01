/-
  No cell of these rows narrows 'for every input' (looked for: loops, veiled, ifaces, maps, wideKeys, modest, calm, conditions, laid).
  DERIVED. THE GIVEN ROWS OF THIS SEAT. 12 by the template 'for every input the law returns true; each argument reads behind the call as it read before'; 0 by the template 'total and deterministic' (their statements: YtconcboeojpmdacTotals.lean).
  GIVEN WITH THE SEED: the statements are not yours to turn. If you find one false, say at which input.
  Laid BY PROGRAM, IN A SANDBOX (cutbox-rows.mjs): the forced cells as the released guide's own fill.sh prints them over the translation 37d0d5db72ff8b21… (all of the seat's roots in one cut). By AI agents, Wed Nov 11 2026. No macro, syntax, notation, axiom, sorry.
-/
import Derived.Test.YtconcboeojpmdacChecked
import GoSem.Claim
import GoSem.ClaimJoined
import GoSem.ClaimMapViews
import Derived.JoinedTies
import Derived.KernelRfl
namespace Go.Proofs.Ytconcboeojpmdac
/- THE CELL 'sum', in the pinned program and in every row, IS THE sha256 OF THE DUMP (.gsa) THAT YtconcboeojpmdacProg.lean LOADS. Nothing in Lean hashes anything: it is a label: what it is worth is what the hold of that sum in a sandbox is worth. -/
noncomputable def Try.pinned : Pinned := { name := "ytconcboeojpmdac", sum := "37d0d5db72ff8b217780740a9c801ca8e0be6df06c6765fc7188dfba835428a9", checked := Try.checked }
namespace Rows
def none {H : Type} : Left H := { results := [], args := [] }

/-- 'laws.FnExactHeldOk': WHATEVER THE INPUT: true; the input reads as it did. -/
def fnExactHeldOkSpec : ChangeSpec := { name := "fnExactHeldOk", fn := fun _ => fun
  | [d] => { results := [.lit (.bool true)], args := [d] }
  | _ => none }
def fnExactHeldOkRow : OpenClaim := { program := "ytconcboeojpmdac", sum := "37d0d5db72ff8b217780740a9c801ca8e0be6df06c6765fc7188dfba835428a9", func := "loop.example/g00611/laws.FnExactHeldOk", spec := "fnExactHeldOk", apart := false }
def FnExactHeldOkSaid : Prop := fnExactHeldOkRow.holds Try.pinned (OpenSpec.ofChange fnExactHeldOkSpec)

/-- ITS FALSE NEIGHBOUR: 'it returns false'. Refute it at one input. -/
def fnExactHeldOkWrong : ChangeSpec := { name := "fnExactHeldOk", fn := fun _ => fun
  | [d] => { results := [.lit (.bool false)], args := [d] }
  | _ => none }
def FnExactHeldOkWrongFalsely : Prop := fnExactHeldOkRow.holds Try.pinned (OpenSpec.ofChange fnExactHeldOkWrong)

/-- 'laws.FnExactPoolOk': WHATEVER THE INPUT: true; the input reads as it did. -/
def fnExactPoolOkSpec : ChangeSpec := { name := "fnExactPoolOk", fn := fun _ => fun
  | [d] => { results := [.lit (.bool true)], args := [d] }
  | _ => none }
def fnExactPoolOkRow : OpenClaim := { program := "ytconcboeojpmdac", sum := "37d0d5db72ff8b217780740a9c801ca8e0be6df06c6765fc7188dfba835428a9", func := "loop.example/g00611/laws.FnExactPoolOk", spec := "fnExactPoolOk", unfollowed := true, recurses := true, apart := false }
def FnExactPoolOkSaid : Prop := fnExactPoolOkRow.holds Try.pinned (OpenSpec.ofChange fnExactPoolOkSpec)

/-- ITS FALSE NEIGHBOUR: 'it returns false'. Refute it at one input. -/
def fnExactPoolOkWrong : ChangeSpec := { name := "fnExactPoolOk", fn := fun _ => fun
  | [d] => { results := [.lit (.bool false)], args := [d] }
  | _ => none }
def FnExactPoolOkWrongFalsely : Prop := fnExactPoolOkRow.holds Try.pinned (OpenSpec.ofChange fnExactPoolOkWrong)

/-- 'laws.FnExactAdmit': WHATEVER THE INPUT: true; the input reads as it did. -/
def fnExactAdmitSpec : ChangeSpec := { name := "fnExactAdmit", fn := fun _ => fun
  | [d1, d2, d3] => { results := [.lit (.bool true)], args := [d1, d2, d3] }
  | _ => none }
def fnExactAdmitRow : OpenClaim := { program := "ytconcboeojpmdac", sum := "37d0d5db72ff8b217780740a9c801ca8e0be6df06c6765fc7188dfba835428a9", func := "loop.example/g00611/laws.FnExactAdmit", spec := "fnExactAdmit", unfollowed := true, recurses := true, apart := false }
def FnExactAdmitSaid : Prop := fnExactAdmitRow.holds Try.pinned (OpenSpec.ofChange fnExactAdmitSpec)

/-- ITS FALSE NEIGHBOUR: 'it returns false'. Refute it at one input. -/
def fnExactAdmitWrong : ChangeSpec := { name := "fnExactAdmit", fn := fun _ => fun
  | [d1, d2, d3] => { results := [.lit (.bool false)], args := [d1, d2, d3] }
  | _ => none }
def FnExactAdmitWrongFalsely : Prop := fnExactAdmitRow.holds Try.pinned (OpenSpec.ofChange fnExactAdmitWrong)

/-- 'laws.FnExactExpire': WHATEVER THE INPUT: true; the input reads as it did. -/
def fnExactExpireSpec : ChangeSpec := { name := "fnExactExpire", fn := fun _ => fun
  | [d1, d2] => { results := [.lit (.bool true)], args := [d1, d2] }
  | _ => none }
def fnExactExpireRow : OpenClaim := { program := "ytconcboeojpmdac", sum := "37d0d5db72ff8b217780740a9c801ca8e0be6df06c6765fc7188dfba835428a9", func := "loop.example/g00611/laws.FnExactExpire", spec := "fnExactExpire", unfollowed := true, recurses := true, apart := false }
def FnExactExpireSaid : Prop := fnExactExpireRow.holds Try.pinned (OpenSpec.ofChange fnExactExpireSpec)

/-- ITS FALSE NEIGHBOUR: 'it returns false'. Refute it at one input. -/
def fnExactExpireWrong : ChangeSpec := { name := "fnExactExpire", fn := fun _ => fun
  | [d1, d2] => { results := [.lit (.bool false)], args := [d1, d2] }
  | _ => none }
def FnExactExpireWrongFalsely : Prop := fnExactExpireRow.holds Try.pinned (OpenSpec.ofChange fnExactExpireWrong)

/-- 'laws.FnExactFlush': WHATEVER THE INPUT: true; the input reads as it did. -/
def fnExactFlushSpec : ChangeSpec := { name := "fnExactFlush", fn := fun _ => fun
  | [d1, d2, d3] => { results := [.lit (.bool true)], args := [d1, d2, d3] }
  | _ => none }
def fnExactFlushRow : OpenClaim := { program := "ytconcboeojpmdac", sum := "37d0d5db72ff8b217780740a9c801ca8e0be6df06c6765fc7188dfba835428a9", func := "loop.example/g00611/laws.FnExactFlush", spec := "fnExactFlush", unfollowed := true, recurses := true, apart := false }
def FnExactFlushSaid : Prop := fnExactFlushRow.holds Try.pinned (OpenSpec.ofChange fnExactFlushSpec)

/-- ITS FALSE NEIGHBOUR: 'it returns false'. Refute it at one input. -/
def fnExactFlushWrong : ChangeSpec := { name := "fnExactFlush", fn := fun _ => fun
  | [d1, d2, d3] => { results := [.lit (.bool false)], args := [d1, d2, d3] }
  | _ => none }
def FnExactFlushWrongFalsely : Prop := fnExactFlushRow.holds Try.pinned (OpenSpec.ofChange fnExactFlushWrong)

/-- 'laws.FnExactForget': WHATEVER THE INPUT: true; the input reads as it did. -/
def fnExactForgetSpec : ChangeSpec := { name := "fnExactForget", fn := fun _ => fun
  | [d1, d2] => { results := [.lit (.bool true)], args := [d1, d2] }
  | _ => none }
def fnExactForgetRow : OpenClaim := { program := "ytconcboeojpmdac", sum := "37d0d5db72ff8b217780740a9c801ca8e0be6df06c6765fc7188dfba835428a9", func := "loop.example/g00611/laws.FnExactForget", spec := "fnExactForget", unfollowed := true, recurses := true, apart := false }
def FnExactForgetSaid : Prop := fnExactForgetRow.holds Try.pinned (OpenSpec.ofChange fnExactForgetSpec)

/-- ITS FALSE NEIGHBOUR: 'it returns false'. Refute it at one input. -/
def fnExactForgetWrong : ChangeSpec := { name := "fnExactForget", fn := fun _ => fun
  | [d1, d2] => { results := [.lit (.bool false)], args := [d1, d2] }
  | _ => none }
def FnExactForgetWrongFalsely : Prop := fnExactForgetRow.holds Try.pinned (OpenSpec.ofChange fnExactForgetWrong)

/-- 'laws.FnExactPoolBytes': WHATEVER THE INPUT: true; the input reads as it did. -/
def fnExactPoolBytesSpec : ChangeSpec := { name := "fnExactPoolBytes", fn := fun _ => fun
  | [d] => { results := [.lit (.bool true)], args := [d] }
  | _ => none }
def fnExactPoolBytesRow : OpenClaim := { program := "ytconcboeojpmdac", sum := "37d0d5db72ff8b217780740a9c801ca8e0be6df06c6765fc7188dfba835428a9", func := "loop.example/g00611/laws.FnExactPoolBytes", spec := "fnExactPoolBytes", unfollowed := true, recurses := true, apart := false }
def FnExactPoolBytesSaid : Prop := fnExactPoolBytesRow.holds Try.pinned (OpenSpec.ofChange fnExactPoolBytesSpec)

/-- ITS FALSE NEIGHBOUR: 'it returns false'. Refute it at one input. -/
def fnExactPoolBytesWrong : ChangeSpec := { name := "fnExactPoolBytes", fn := fun _ => fun
  | [d] => { results := [.lit (.bool false)], args := [d] }
  | _ => none }
def FnExactPoolBytesWrongFalsely : Prop := fnExactPoolBytesRow.holds Try.pinned (OpenSpec.ofChange fnExactPoolBytesWrong)

/-- 'laws.FnExactPoolRead': WHATEVER THE INPUT: true; the input reads as it did. -/
def fnExactPoolReadSpec : ChangeSpec := { name := "fnExactPoolRead", fn := fun _ => fun
  | [d] => { results := [.lit (.bool true)], args := [d] }
  | _ => none }
def fnExactPoolReadRow : OpenClaim := { program := "ytconcboeojpmdac", sum := "37d0d5db72ff8b217780740a9c801ca8e0be6df06c6765fc7188dfba835428a9", func := "loop.example/g00611/laws.FnExactPoolRead", spec := "fnExactPoolRead", unfollowed := true, recurses := true, apart := false }
def FnExactPoolReadSaid : Prop := fnExactPoolReadRow.holds Try.pinned (OpenSpec.ofChange fnExactPoolReadSpec)

/-- ITS FALSE NEIGHBOUR: 'it returns false'. Refute it at one input. -/
def fnExactPoolReadWrong : ChangeSpec := { name := "fnExactPoolRead", fn := fun _ => fun
  | [d] => { results := [.lit (.bool false)], args := [d] }
  | _ => none }
def FnExactPoolReadWrongFalsely : Prop := fnExactPoolReadRow.holds Try.pinned (OpenSpec.ofChange fnExactPoolReadWrong)

/-- 'laws.FnExactSaw': WHATEVER THE INPUT: true; the input reads as it did. -/
def fnExactSawSpec : ChangeSpec := { name := "fnExactSaw", fn := fun _ => fun
  | [d1, d2] => { results := [.lit (.bool true)], args := [d1, d2] }
  | _ => none }
def fnExactSawRow : OpenClaim := { program := "ytconcboeojpmdac", sum := "37d0d5db72ff8b217780740a9c801ca8e0be6df06c6765fc7188dfba835428a9", func := "loop.example/g00611/laws.FnExactSaw", spec := "fnExactSaw", unfollowed := true, recurses := true, apart := false }
def FnExactSawSaid : Prop := fnExactSawRow.holds Try.pinned (OpenSpec.ofChange fnExactSawSpec)

/-- ITS FALSE NEIGHBOUR: 'it returns false'. Refute it at one input. -/
def fnExactSawWrong : ChangeSpec := { name := "fnExactSaw", fn := fun _ => fun
  | [d1, d2] => { results := [.lit (.bool false)], args := [d1, d2] }
  | _ => none }
def FnExactSawWrongFalsely : Prop := fnExactSawRow.holds Try.pinned (OpenSpec.ofChange fnExactSawWrong)

/-- 'laws.FnExactNexts': WHATEVER THE INPUT: true; the input reads as it did. -/
def fnExactNextsSpec : ChangeSpec := { name := "fnExactNexts", fn := fun _ => fun
  | [d] => { results := [.lit (.bool true)], args := [d] }
  | _ => none }
def fnExactNextsRow : OpenClaim := { program := "ytconcboeojpmdac", sum := "37d0d5db72ff8b217780740a9c801ca8e0be6df06c6765fc7188dfba835428a9", func := "loop.example/g00611/laws.FnExactNexts", spec := "fnExactNexts", unfollowed := true, recurses := true, apart := false }
def FnExactNextsSaid : Prop := fnExactNextsRow.holds Try.pinned (OpenSpec.ofChange fnExactNextsSpec)

/-- ITS FALSE NEIGHBOUR: 'it returns false'. Refute it at one input. -/
def fnExactNextsWrong : ChangeSpec := { name := "fnExactNexts", fn := fun _ => fun
  | [d] => { results := [.lit (.bool false)], args := [d] }
  | _ => none }
def FnExactNextsWrongFalsely : Prop := fnExactNextsRow.holds Try.pinned (OpenSpec.ofChange fnExactNextsWrong)

/-- 'laws.FnExactEarliest': WHATEVER THE INPUT: true; the input reads as it did. -/
def fnExactEarliestSpec : ChangeSpec := { name := "fnExactEarliest", fn := fun _ => fun
  | [d] => { results := [.lit (.bool true)], args := [d] }
  | _ => none }
def fnExactEarliestRow : OpenClaim := { program := "ytconcboeojpmdac", sum := "37d0d5db72ff8b217780740a9c801ca8e0be6df06c6765fc7188dfba835428a9", func := "loop.example/g00611/laws.FnExactEarliest", spec := "fnExactEarliest", unfollowed := true, recurses := true, apart := false }
def FnExactEarliestSaid : Prop := fnExactEarliestRow.holds Try.pinned (OpenSpec.ofChange fnExactEarliestSpec)

/-- ITS FALSE NEIGHBOUR: 'it returns false'. Refute it at one input. -/
def fnExactEarliestWrong : ChangeSpec := { name := "fnExactEarliest", fn := fun _ => fun
  | [d] => { results := [.lit (.bool false)], args := [d] }
  | _ => none }
def FnExactEarliestWrongFalsely : Prop := fnExactEarliestRow.holds Try.pinned (OpenSpec.ofChange fnExactEarliestWrong)

/-- 'laws.FnExactFor': WHATEVER THE INPUT: true; the input reads as it did. -/
def fnExactForSpec : ChangeSpec := { name := "fnExactFor", fn := fun _ => fun
  | [d1, d2] => { results := [.lit (.bool true)], args := [d1, d2] }
  | _ => none }
def fnExactForRow : OpenClaim := { program := "ytconcboeojpmdac", sum := "37d0d5db72ff8b217780740a9c801ca8e0be6df06c6765fc7188dfba835428a9", func := "loop.example/g00611/laws.FnExactFor", spec := "fnExactFor", unfollowed := true, recurses := true, apart := false }
def FnExactForSaid : Prop := fnExactForRow.holds Try.pinned (OpenSpec.ofChange fnExactForSpec)

/-- ITS FALSE NEIGHBOUR: 'it returns false'. Refute it at one input. -/
def fnExactForWrong : ChangeSpec := { name := "fnExactFor", fn := fun _ => fun
  | [d1, d2] => { results := [.lit (.bool false)], args := [d1, d2] }
  | _ => none }
def FnExactForWrongFalsely : Prop := fnExactForRow.holds Try.pinned (OpenSpec.ofChange fnExactForWrong)

/- THE SECOND FORM. 'bulk': how many values and letters a reading holds, each counted each time it is reached (what is shared counts as often as it is met; a slice's spare places count too). A statement '..UptoSaid' is the law's where the arguments, and the package variables that the reading takes, are together of bulk at most 1048576: NARROWER than '..Said'. Prove '..Said' where nothing that the law and all that it calls make is longer than what came in: it says more and counts as full. Else prove '..UptoSaid'. A law counts once. -/
mutual
def uptoBulk {H : Type} : DataW H → Nat
  | .lit (.string bytes) => bytes.length + 1
  | .lit _ => 1
  | .nil => 1
  | .ptr d => uptoBulk d + 1
  | .slice elems spare => uptoBulkAll elems + uptoBulkAll spare + 1
  | .agg parts => uptoBulkAll parts + 1
  | .iface _ d => uptoBulk d + 1
  | .map entries => uptoBulkEntries entries + 1
  | .held _ => 1
def uptoBulkAll {H : Type} : List (DataW H) → Nat
  | [] => 0
  | d :: r => uptoBulk d + uptoBulkAll r
def uptoBulkEntries {H : Type} : List (Lit × DataW H) → Nat
  | [] => 0
  | x :: r => uptoBulkEntry x + uptoBulkEntries r
def uptoBulkEntry {H : Type} : Lit × DataW H → Nat
  | (.string bytes, d) => bytes.length + uptoBulk d + 1
  | (_, d) => uptoBulk d + 1
 end
def uptoSmall : (H : Type) → List (DataW H) → Bool := fun _ ds => decide (uptoBulkAll ds ≤ 1048576)
def OpenSpec.upto (s : _root_.Go.ChangeSpec) : _root_.Go.OpenSpec := { _root_.Go.OpenSpec.ofChange s with cond := some uptoSmall }

/-- 'laws.FnExactHeldOk', WHERE WHAT IT READS IS OF BULK AT MOST 1048576: true; the input reads as it did. -/
def fnExactHeldOkUptoRow : OpenClaim := { program := "ytconcboeojpmdac", sum := "37d0d5db72ff8b217780740a9c801ca8e0be6df06c6765fc7188dfba835428a9", func := "loop.example/g00611/laws.FnExactHeldOk", spec := "fnExactHeldOk", apart := false, narrowed := true }
def FnExactHeldOkUptoSaid : Prop := fnExactHeldOkUptoRow.holds Try.pinned (OpenSpec.upto fnExactHeldOkSpec)

/-- 'laws.FnExactPoolOk', WHERE WHAT IT READS IS OF BULK AT MOST 1048576: true; the input reads as it did. -/
def fnExactPoolOkUptoRow : OpenClaim := { program := "ytconcboeojpmdac", sum := "37d0d5db72ff8b217780740a9c801ca8e0be6df06c6765fc7188dfba835428a9", func := "loop.example/g00611/laws.FnExactPoolOk", spec := "fnExactPoolOk", unfollowed := true, recurses := true, apart := false, narrowed := true }
def FnExactPoolOkUptoSaid : Prop := fnExactPoolOkUptoRow.holds Try.pinned (OpenSpec.upto fnExactPoolOkSpec)

/-- 'laws.FnExactAdmit', WHERE WHAT IT READS IS OF BULK AT MOST 1048576: true; the input reads as it did. -/
def fnExactAdmitUptoRow : OpenClaim := { program := "ytconcboeojpmdac", sum := "37d0d5db72ff8b217780740a9c801ca8e0be6df06c6765fc7188dfba835428a9", func := "loop.example/g00611/laws.FnExactAdmit", spec := "fnExactAdmit", unfollowed := true, recurses := true, apart := false, narrowed := true }
def FnExactAdmitUptoSaid : Prop := fnExactAdmitUptoRow.holds Try.pinned (OpenSpec.upto fnExactAdmitSpec)

/-- 'laws.FnExactExpire', WHERE WHAT IT READS IS OF BULK AT MOST 1048576: true; the input reads as it did. -/
def fnExactExpireUptoRow : OpenClaim := { program := "ytconcboeojpmdac", sum := "37d0d5db72ff8b217780740a9c801ca8e0be6df06c6765fc7188dfba835428a9", func := "loop.example/g00611/laws.FnExactExpire", spec := "fnExactExpire", unfollowed := true, recurses := true, apart := false, narrowed := true }
def FnExactExpireUptoSaid : Prop := fnExactExpireUptoRow.holds Try.pinned (OpenSpec.upto fnExactExpireSpec)

/-- 'laws.FnExactFlush', WHERE WHAT IT READS IS OF BULK AT MOST 1048576: true; the input reads as it did. -/
def fnExactFlushUptoRow : OpenClaim := { program := "ytconcboeojpmdac", sum := "37d0d5db72ff8b217780740a9c801ca8e0be6df06c6765fc7188dfba835428a9", func := "loop.example/g00611/laws.FnExactFlush", spec := "fnExactFlush", unfollowed := true, recurses := true, apart := false, narrowed := true }
def FnExactFlushUptoSaid : Prop := fnExactFlushUptoRow.holds Try.pinned (OpenSpec.upto fnExactFlushSpec)

/-- 'laws.FnExactForget', WHERE WHAT IT READS IS OF BULK AT MOST 1048576: true; the input reads as it did. -/
def fnExactForgetUptoRow : OpenClaim := { program := "ytconcboeojpmdac", sum := "37d0d5db72ff8b217780740a9c801ca8e0be6df06c6765fc7188dfba835428a9", func := "loop.example/g00611/laws.FnExactForget", spec := "fnExactForget", unfollowed := true, recurses := true, apart := false, narrowed := true }
def FnExactForgetUptoSaid : Prop := fnExactForgetUptoRow.holds Try.pinned (OpenSpec.upto fnExactForgetSpec)

/-- 'laws.FnExactPoolBytes', WHERE WHAT IT READS IS OF BULK AT MOST 1048576: true; the input reads as it did. -/
def fnExactPoolBytesUptoRow : OpenClaim := { program := "ytconcboeojpmdac", sum := "37d0d5db72ff8b217780740a9c801ca8e0be6df06c6765fc7188dfba835428a9", func := "loop.example/g00611/laws.FnExactPoolBytes", spec := "fnExactPoolBytes", unfollowed := true, recurses := true, apart := false, narrowed := true }
def FnExactPoolBytesUptoSaid : Prop := fnExactPoolBytesUptoRow.holds Try.pinned (OpenSpec.upto fnExactPoolBytesSpec)

/-- 'laws.FnExactPoolRead', WHERE WHAT IT READS IS OF BULK AT MOST 1048576: true; the input reads as it did. -/
def fnExactPoolReadUptoRow : OpenClaim := { program := "ytconcboeojpmdac", sum := "37d0d5db72ff8b217780740a9c801ca8e0be6df06c6765fc7188dfba835428a9", func := "loop.example/g00611/laws.FnExactPoolRead", spec := "fnExactPoolRead", unfollowed := true, recurses := true, apart := false, narrowed := true }
def FnExactPoolReadUptoSaid : Prop := fnExactPoolReadUptoRow.holds Try.pinned (OpenSpec.upto fnExactPoolReadSpec)

/-- 'laws.FnExactSaw', WHERE WHAT IT READS IS OF BULK AT MOST 1048576: true; the input reads as it did. -/
def fnExactSawUptoRow : OpenClaim := { program := "ytconcboeojpmdac", sum := "37d0d5db72ff8b217780740a9c801ca8e0be6df06c6765fc7188dfba835428a9", func := "loop.example/g00611/laws.FnExactSaw", spec := "fnExactSaw", unfollowed := true, recurses := true, apart := false, narrowed := true }
def FnExactSawUptoSaid : Prop := fnExactSawUptoRow.holds Try.pinned (OpenSpec.upto fnExactSawSpec)

/-- 'laws.FnExactNexts', WHERE WHAT IT READS IS OF BULK AT MOST 1048576: true; the input reads as it did. -/
def fnExactNextsUptoRow : OpenClaim := { program := "ytconcboeojpmdac", sum := "37d0d5db72ff8b217780740a9c801ca8e0be6df06c6765fc7188dfba835428a9", func := "loop.example/g00611/laws.FnExactNexts", spec := "fnExactNexts", unfollowed := true, recurses := true, apart := false, narrowed := true }
def FnExactNextsUptoSaid : Prop := fnExactNextsUptoRow.holds Try.pinned (OpenSpec.upto fnExactNextsSpec)

/-- 'laws.FnExactEarliest', WHERE WHAT IT READS IS OF BULK AT MOST 1048576: true; the input reads as it did. -/
def fnExactEarliestUptoRow : OpenClaim := { program := "ytconcboeojpmdac", sum := "37d0d5db72ff8b217780740a9c801ca8e0be6df06c6765fc7188dfba835428a9", func := "loop.example/g00611/laws.FnExactEarliest", spec := "fnExactEarliest", unfollowed := true, recurses := true, apart := false, narrowed := true }
def FnExactEarliestUptoSaid : Prop := fnExactEarliestUptoRow.holds Try.pinned (OpenSpec.upto fnExactEarliestSpec)

/-- 'laws.FnExactFor', WHERE WHAT IT READS IS OF BULK AT MOST 1048576: true; the input reads as it did. -/
def fnExactForUptoRow : OpenClaim := { program := "ytconcboeojpmdac", sum := "37d0d5db72ff8b217780740a9c801ca8e0be6df06c6765fc7188dfba835428a9", func := "loop.example/g00611/laws.FnExactFor", spec := "fnExactFor", unfollowed := true, recurses := true, apart := false, narrowed := true }
def FnExactForUptoSaid : Prop := fnExactForUptoRow.holds Try.pinned (OpenSpec.upto fnExactForSpec)

end Rows
end Go.Proofs.Ytconcboeojpmdac
