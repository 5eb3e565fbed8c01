/-
  No cell of these rows narrows 'for every input' (looked for: loops, veiled, ifaces, maps, wideKeys, modest, calm, conditions, laid).
  DERIVED. THE GIVEN ROWS OF THIS SEAT. 12 by the template 'for every input the law returns true; each argument reads behind the call as it read before'; 0 by the template 'total and deterministic' (their statements: YtlakanajcabejaaTotals.lean).
  GIVEN WITH THE SEED: the statements are not yours to turn. If you find one false, say at which input.
  Laid BY PROGRAM, IN A SANDBOX (cutbox-rows.mjs): the forced cells as the released guide's own fill.sh prints them over the translation 3ec933ac905bb0fa… (all of the seat's roots in one cut). By AI agents, Wed Nov 11 2026. No macro, syntax, notation, axiom, sorry.
-/
import Derived.Test.YtlakanajcabejaaChecked
import GoSem.Claim
import GoSem.ClaimJoined
import GoSem.ClaimMapViews
import Derived.JoinedTies
import Derived.KernelRfl
namespace Go.Proofs.Ytlakanajcabejaa
/- THE CELL 'sum', in the pinned program and in every row, IS THE sha256 OF THE DUMP (.gsa) THAT YtlakanajcabejaaProg.lean LOADS. Nothing in Lean hashes anything: it is a label: what it is worth is what the hold of that sum in a sandbox is worth. -/
noncomputable def Try.pinned : Pinned := { name := "ytlakanajcabejaa", sum := "3ec933ac905bb0fa9d0a7526712f156dfd2fd7d016b9e618e3572cb3810de5d7", checked := Try.checked }
namespace Rows
def none {H : Type} : Left H := { results := [], args := [] }

/-- 'laws.FnFields': WHATEVER THE INPUT: true; the input reads as it did. -/
def fnFieldsSpec : ChangeSpec := { name := "fnFields", fn := fun _ => fun
  | [d] => { results := [.lit (.bool true)], args := [d] }
  | _ => none }
def fnFieldsRow : OpenClaim := { program := "ytlakanajcabejaa", sum := "3ec933ac905bb0fa9d0a7526712f156dfd2fd7d016b9e618e3572cb3810de5d7", func := "loop.example/g00611/laws.FnFields", spec := "fnFields", unfollowed := true, recurses := true, apart := false }
def FnFieldsSaid : Prop := fnFieldsRow.holds Try.pinned (OpenSpec.ofChange fnFieldsSpec)

/-- ITS FALSE NEIGHBOUR: 'it returns false'. Refute it at one input. -/
def fnFieldsWrong : ChangeSpec := { name := "fnFields", fn := fun _ => fun
  | [d] => { results := [.lit (.bool false)], args := [d] }
  | _ => none }
def FnFieldsWrongFalsely : Prop := fnFieldsRow.holds Try.pinned (OpenSpec.ofChange fnFieldsWrong)

/-- 'laws.FnShares': WHATEVER THE INPUT: true; the input reads as it did. -/
def fnSharesSpec : ChangeSpec := { name := "fnShares", fn := fun _ => fun
  | [d] => { results := [.lit (.bool true)], args := [d] }
  | _ => none }
def fnSharesRow : OpenClaim := { program := "ytlakanajcabejaa", sum := "3ec933ac905bb0fa9d0a7526712f156dfd2fd7d016b9e618e3572cb3810de5d7", func := "loop.example/g00611/laws.FnShares", spec := "fnShares", unfollowed := true, recurses := true, apart := false }
def FnSharesSaid : Prop := fnSharesRow.holds Try.pinned (OpenSpec.ofChange fnSharesSpec)

/-- ITS FALSE NEIGHBOUR: 'it returns false'. Refute it at one input. -/
def fnSharesWrong : ChangeSpec := { name := "fnShares", fn := fun _ => fun
  | [d] => { results := [.lit (.bool false)], args := [d] }
  | _ => none }
def FnSharesWrongFalsely : Prop := fnSharesRow.holds Try.pinned (OpenSpec.ofChange fnSharesWrong)

/-- 'laws.FnKeys': WHATEVER THE INPUT: true; the input reads as it did. -/
def fnKeysSpec : ChangeSpec := { name := "fnKeys", fn := fun _ => fun
  | [d] => { results := [.lit (.bool true)], args := [d] }
  | _ => none }
def fnKeysRow : OpenClaim := { program := "ytlakanajcabejaa", sum := "3ec933ac905bb0fa9d0a7526712f156dfd2fd7d016b9e618e3572cb3810de5d7", func := "loop.example/g00611/laws.FnKeys", spec := "fnKeys", unfollowed := true, recurses := true, apart := false }
def FnKeysSaid : Prop := fnKeysRow.holds Try.pinned (OpenSpec.ofChange fnKeysSpec)

/-- ITS FALSE NEIGHBOUR: 'it returns false'. Refute it at one input. -/
def fnKeysWrong : ChangeSpec := { name := "fnKeys", fn := fun _ => fun
  | [d] => { results := [.lit (.bool false)], args := [d] }
  | _ => none }
def FnKeysWrongFalsely : Prop := fnKeysRow.holds Try.pinned (OpenSpec.ofChange fnKeysWrong)

/-- 'laws.FnDivs': WHATEVER THE INPUT: true; the input reads as it did. -/
def fnDivsSpec : ChangeSpec := { name := "fnDivs", fn := fun _ => fun
  | [d] => { results := [.lit (.bool true)], args := [d] }
  | _ => none }
def fnDivsRow : OpenClaim := { program := "ytlakanajcabejaa", sum := "3ec933ac905bb0fa9d0a7526712f156dfd2fd7d016b9e618e3572cb3810de5d7", func := "loop.example/g00611/laws.FnDivs", spec := "fnDivs", unfollowed := true, recurses := true, apart := false }
def FnDivsSaid : Prop := fnDivsRow.holds Try.pinned (OpenSpec.ofChange fnDivsSpec)

/-- ITS FALSE NEIGHBOUR: 'it returns false'. Refute it at one input. -/
def fnDivsWrong : ChangeSpec := { name := "fnDivs", fn := fun _ => fun
  | [d] => { results := [.lit (.bool false)], args := [d] }
  | _ => none }
def FnDivsWrongFalsely : Prop := fnDivsRow.holds Try.pinned (OpenSpec.ofChange fnDivsWrong)

/-- 'laws.FnExactFOk': WHATEVER THE INPUT: true; the input reads as it did. -/
def fnExactFOkSpec : ChangeSpec := { name := "fnExactFOk", fn := fun _ => fun
  | [d] => { results := [.lit (.bool true)], args := [d] }
  | _ => none }
def fnExactFOkRow : OpenClaim := { program := "ytlakanajcabejaa", sum := "3ec933ac905bb0fa9d0a7526712f156dfd2fd7d016b9e618e3572cb3810de5d7", func := "loop.example/g00611/laws.FnExactFOk", spec := "fnExactFOk", apart := false }
def FnExactFOkSaid : Prop := fnExactFOkRow.holds Try.pinned (OpenSpec.ofChange fnExactFOkSpec)

/-- ITS FALSE NEIGHBOUR: 'it returns false'. Refute it at one input. -/
def fnExactFOkWrong : ChangeSpec := { name := "fnExactFOk", fn := fun _ => fun
  | [d] => { results := [.lit (.bool false)], args := [d] }
  | _ => none }
def FnExactFOkWrongFalsely : Prop := fnExactFOkRow.holds Try.pinned (OpenSpec.ofChange fnExactFOkWrong)

/-- 'laws.FnExactFAdd': WHATEVER THE INPUT: true; the input reads as it did. -/
def fnExactFAddSpec : ChangeSpec := { name := "fnExactFAdd", fn := fun _ => fun
  | [d1, d2] => { results := [.lit (.bool true)], args := [d1, d2] }
  | _ => none }
def fnExactFAddRow : OpenClaim := { program := "ytlakanajcabejaa", sum := "3ec933ac905bb0fa9d0a7526712f156dfd2fd7d016b9e618e3572cb3810de5d7", func := "loop.example/g00611/laws.FnExactFAdd", spec := "fnExactFAdd", unfollowed := true, recurses := true, apart := false }
def FnExactFAddSaid : Prop := fnExactFAddRow.holds Try.pinned (OpenSpec.ofChange fnExactFAddSpec)

/-- ITS FALSE NEIGHBOUR: 'it returns false'. Refute it at one input. -/
def fnExactFAddWrong : ChangeSpec := { name := "fnExactFAdd", fn := fun _ => fun
  | [d1, d2] => { results := [.lit (.bool false)], args := [d1, d2] }
  | _ => none }
def FnExactFAddWrongFalsely : Prop := fnExactFAddRow.holds Try.pinned (OpenSpec.ofChange fnExactFAddWrong)

/-- 'laws.FnExactFMul': WHATEVER THE INPUT: true; the input reads as it did. -/
def fnExactFMulSpec : ChangeSpec := { name := "fnExactFMul", fn := fun _ => fun
  | [d1, d2] => { results := [.lit (.bool true)], args := [d1, d2] }
  | _ => none }
def fnExactFMulRow : OpenClaim := { program := "ytlakanajcabejaa", sum := "3ec933ac905bb0fa9d0a7526712f156dfd2fd7d016b9e618e3572cb3810de5d7", func := "loop.example/g00611/laws.FnExactFMul", spec := "fnExactFMul", unfollowed := true, recurses := true, apart := false }
def FnExactFMulSaid : Prop := fnExactFMulRow.holds Try.pinned (OpenSpec.ofChange fnExactFMulSpec)

/-- ITS FALSE NEIGHBOUR: 'it returns false'. Refute it at one input. -/
def fnExactFMulWrong : ChangeSpec := { name := "fnExactFMul", fn := fun _ => fun
  | [d1, d2] => { results := [.lit (.bool false)], args := [d1, d2] }
  | _ => none }
def FnExactFMulWrongFalsely : Prop := fnExactFMulRow.holds Try.pinned (OpenSpec.ofChange fnExactFMulWrong)

/-- 'laws.FnExactFPow': WHATEVER THE INPUT: true; the input reads as it did. -/
def fnExactFPowSpec : ChangeSpec := { name := "fnExactFPow", fn := fun _ => fun
  | [d1, d2] => { results := [.lit (.bool true)], args := [d1, d2] }
  | _ => none }
def fnExactFPowRow : OpenClaim := { program := "ytlakanajcabejaa", sum := "3ec933ac905bb0fa9d0a7526712f156dfd2fd7d016b9e618e3572cb3810de5d7", func := "loop.example/g00611/laws.FnExactFPow", spec := "fnExactFPow", apart := false }
def FnExactFPowSaid : Prop := fnExactFPowRow.holds Try.pinned (OpenSpec.ofChange fnExactFPowSpec)

/-- ITS FALSE NEIGHBOUR: 'it returns false'. Refute it at one input. -/
def fnExactFPowWrong : ChangeSpec := { name := "fnExactFPow", fn := fun _ => fun
  | [d1, d2] => { results := [.lit (.bool false)], args := [d1, d2] }
  | _ => none }
def FnExactFPowWrongFalsely : Prop := fnExactFPowRow.holds Try.pinned (OpenSpec.ofChange fnExactFPowWrong)

/-- 'laws.FnExactFInv': WHATEVER THE INPUT: true; the input reads as it did. -/
def fnExactFInvSpec : ChangeSpec := { name := "fnExactFInv", fn := fun _ => fun
  | [d] => { results := [.lit (.bool true)], args := [d] }
  | _ => none }
def fnExactFInvRow : OpenClaim := { program := "ytlakanajcabejaa", sum := "3ec933ac905bb0fa9d0a7526712f156dfd2fd7d016b9e618e3572cb3810de5d7", func := "loop.example/g00611/laws.FnExactFInv", spec := "fnExactFInv", apart := false }
def FnExactFInvSaid : Prop := fnExactFInvRow.holds Try.pinned (OpenSpec.ofChange fnExactFInvSpec)

/-- ITS FALSE NEIGHBOUR: 'it returns false'. Refute it at one input. -/
def fnExactFInvWrong : ChangeSpec := { name := "fnExactFInv", fn := fun _ => fun
  | [d] => { results := [.lit (.bool false)], args := [d] }
  | _ => none }
def FnExactFInvWrongFalsely : Prop := fnExactFInvRow.holds Try.pinned (OpenSpec.ofChange fnExactFInvWrong)

/-- 'laws.FnExactPubOf': WHATEVER THE INPUT: true; the input reads as it did. -/
def fnExactPubOfSpec : ChangeSpec := { name := "fnExactPubOf", fn := fun _ => fun
  | [d] => { results := [.lit (.bool true)], args := [d] }
  | _ => none }
def fnExactPubOfRow : OpenClaim := { program := "ytlakanajcabejaa", sum := "3ec933ac905bb0fa9d0a7526712f156dfd2fd7d016b9e618e3572cb3810de5d7", func := "loop.example/g00611/laws.FnExactPubOf", spec := "fnExactPubOf", apart := false }
def FnExactPubOfSaid : Prop := fnExactPubOfRow.holds Try.pinned (OpenSpec.ofChange fnExactPubOfSpec)

/-- ITS FALSE NEIGHBOUR: 'it returns false'. Refute it at one input. -/
def fnExactPubOfWrong : ChangeSpec := { name := "fnExactPubOf", fn := fun _ => fun
  | [d] => { results := [.lit (.bool false)], args := [d] }
  | _ => none }
def FnExactPubOfWrongFalsely : Prop := fnExactPubOfRow.holds Try.pinned (OpenSpec.ofChange fnExactPubOfWrong)

/-- 'laws.FnExactShared': WHATEVER THE INPUT: true; the input reads as it did. -/
def fnExactSharedSpec : ChangeSpec := { name := "fnExactShared", fn := fun _ => fun
  | [d1, d2] => { results := [.lit (.bool true)], args := [d1, d2] }
  | _ => none }
def fnExactSharedRow : OpenClaim := { program := "ytlakanajcabejaa", sum := "3ec933ac905bb0fa9d0a7526712f156dfd2fd7d016b9e618e3572cb3810de5d7", func := "loop.example/g00611/laws.FnExactShared", spec := "fnExactShared", apart := false }
def FnExactSharedSaid : Prop := fnExactSharedRow.holds Try.pinned (OpenSpec.ofChange fnExactSharedSpec)

/-- ITS FALSE NEIGHBOUR: 'it returns false'. Refute it at one input. -/
def fnExactSharedWrong : ChangeSpec := { name := "fnExactShared", fn := fun _ => fun
  | [d1, d2] => { results := [.lit (.bool false)], args := [d1, d2] }
  | _ => none }
def FnExactSharedWrongFalsely : Prop := fnExactSharedRow.holds Try.pinned (OpenSpec.ofChange fnExactSharedWrong)

/-- 'laws.FnExactKeyOf': WHATEVER THE INPUT: true; the input reads as it did. -/
def fnExactKeyOfSpec : ChangeSpec := { name := "fnExactKeyOf", fn := fun _ => fun
  | [d1, d2] => { results := [.lit (.bool true)], args := [d1, d2] }
  | _ => none }
def fnExactKeyOfRow : OpenClaim := { program := "ytlakanajcabejaa", sum := "3ec933ac905bb0fa9d0a7526712f156dfd2fd7d016b9e618e3572cb3810de5d7", func := "loop.example/g00611/laws.FnExactKeyOf", spec := "fnExactKeyOf", apart := false }
def FnExactKeyOfSaid : Prop := fnExactKeyOfRow.holds Try.pinned (OpenSpec.ofChange fnExactKeyOfSpec)

/-- ITS FALSE NEIGHBOUR: 'it returns false'. Refute it at one input. -/
def fnExactKeyOfWrong : ChangeSpec := { name := "fnExactKeyOf", fn := fun _ => fun
  | [d1, d2] => { results := [.lit (.bool false)], args := [d1, d2] }
  | _ => none }
def FnExactKeyOfWrongFalsely : Prop := fnExactKeyOfRow.holds Try.pinned (OpenSpec.ofChange fnExactKeyOfWrong)

/- THE SECOND FORM. 'bulk': how many values and letters a reading holds, each counted each time it is reached (what is shared counts as often as it is met; a slice's spare places count too). A statement '..UptoSaid' is the law's where the arguments, and the package variables that the reading takes, are together of bulk at most 1048576: NARROWER than '..Said'. Prove '..Said' where nothing that the law and all that it calls make is longer than what came in: it says more and counts as full. Else prove '..UptoSaid'. A law counts once. -/
mutual
def uptoBulk {H : Type} : DataW H → Nat
  | .lit (.string bytes) => bytes.length + 1
  | .lit _ => 1
  | .nil => 1
  | .ptr d => uptoBulk d + 1
  | .slice elems spare => uptoBulkAll elems + uptoBulkAll spare + 1
  | .agg parts => uptoBulkAll parts + 1
  | .iface _ d => uptoBulk d + 1
  | .map entries => uptoBulkEntries entries + 1
  | .held _ => 1
def uptoBulkAll {H : Type} : List (DataW H) → Nat
  | [] => 0
  | d :: r => uptoBulk d + uptoBulkAll r
def uptoBulkEntries {H : Type} : List (Lit × DataW H) → Nat
  | [] => 0
  | x :: r => uptoBulkEntry x + uptoBulkEntries r
def uptoBulkEntry {H : Type} : Lit × DataW H → Nat
  | (.string bytes, d) => bytes.length + uptoBulk d + 1
  | (_, d) => uptoBulk d + 1
 end
def uptoSmall : (H : Type) → List (DataW H) → Bool := fun _ ds => decide (uptoBulkAll ds ≤ 1048576)
def OpenSpec.upto (s : _root_.Go.ChangeSpec) : _root_.Go.OpenSpec := { _root_.Go.OpenSpec.ofChange s with cond := some uptoSmall }

/-- 'laws.FnFields', WHERE WHAT IT READS IS OF BULK AT MOST 1048576: true; the input reads as it did. -/
def fnFieldsUptoRow : OpenClaim := { program := "ytlakanajcabejaa", sum := "3ec933ac905bb0fa9d0a7526712f156dfd2fd7d016b9e618e3572cb3810de5d7", func := "loop.example/g00611/laws.FnFields", spec := "fnFields", unfollowed := true, recurses := true, apart := false, narrowed := true }
def FnFieldsUptoSaid : Prop := fnFieldsUptoRow.holds Try.pinned (OpenSpec.upto fnFieldsSpec)

/-- 'laws.FnShares', WHERE WHAT IT READS IS OF BULK AT MOST 1048576: true; the input reads as it did. -/
def fnSharesUptoRow : OpenClaim := { program := "ytlakanajcabejaa", sum := "3ec933ac905bb0fa9d0a7526712f156dfd2fd7d016b9e618e3572cb3810de5d7", func := "loop.example/g00611/laws.FnShares", spec := "fnShares", unfollowed := true, recurses := true, apart := false, narrowed := true }
def FnSharesUptoSaid : Prop := fnSharesUptoRow.holds Try.pinned (OpenSpec.upto fnSharesSpec)

/-- 'laws.FnKeys', WHERE WHAT IT READS IS OF BULK AT MOST 1048576: true; the input reads as it did. -/
def fnKeysUptoRow : OpenClaim := { program := "ytlakanajcabejaa", sum := "3ec933ac905bb0fa9d0a7526712f156dfd2fd7d016b9e618e3572cb3810de5d7", func := "loop.example/g00611/laws.FnKeys", spec := "fnKeys", unfollowed := true, recurses := true, apart := false, narrowed := true }
def FnKeysUptoSaid : Prop := fnKeysUptoRow.holds Try.pinned (OpenSpec.upto fnKeysSpec)

/-- 'laws.FnDivs', WHERE WHAT IT READS IS OF BULK AT MOST 1048576: true; the input reads as it did. -/
def fnDivsUptoRow : OpenClaim := { program := "ytlakanajcabejaa", sum := "3ec933ac905bb0fa9d0a7526712f156dfd2fd7d016b9e618e3572cb3810de5d7", func := "loop.example/g00611/laws.FnDivs", spec := "fnDivs", unfollowed := true, recurses := true, apart := false, narrowed := true }
def FnDivsUptoSaid : Prop := fnDivsUptoRow.holds Try.pinned (OpenSpec.upto fnDivsSpec)

/-- 'laws.FnExactFOk', WHERE WHAT IT READS IS OF BULK AT MOST 1048576: true; the input reads as it did. -/
def fnExactFOkUptoRow : OpenClaim := { program := "ytlakanajcabejaa", sum := "3ec933ac905bb0fa9d0a7526712f156dfd2fd7d016b9e618e3572cb3810de5d7", func := "loop.example/g00611/laws.FnExactFOk", spec := "fnExactFOk", apart := false, narrowed := true }
def FnExactFOkUptoSaid : Prop := fnExactFOkUptoRow.holds Try.pinned (OpenSpec.upto fnExactFOkSpec)

/-- 'laws.FnExactFAdd', WHERE WHAT IT READS IS OF BULK AT MOST 1048576: true; the input reads as it did. -/
def fnExactFAddUptoRow : OpenClaim := { program := "ytlakanajcabejaa", sum := "3ec933ac905bb0fa9d0a7526712f156dfd2fd7d016b9e618e3572cb3810de5d7", func := "loop.example/g00611/laws.FnExactFAdd", spec := "fnExactFAdd", unfollowed := true, recurses := true, apart := false, narrowed := true }
def FnExactFAddUptoSaid : Prop := fnExactFAddUptoRow.holds Try.pinned (OpenSpec.upto fnExactFAddSpec)

/-- 'laws.FnExactFMul', WHERE WHAT IT READS IS OF BULK AT MOST 1048576: true; the input reads as it did. -/
def fnExactFMulUptoRow : OpenClaim := { program := "ytlakanajcabejaa", sum := "3ec933ac905bb0fa9d0a7526712f156dfd2fd7d016b9e618e3572cb3810de5d7", func := "loop.example/g00611/laws.FnExactFMul", spec := "fnExactFMul", unfollowed := true, recurses := true, apart := false, narrowed := true }
def FnExactFMulUptoSaid : Prop := fnExactFMulUptoRow.holds Try.pinned (OpenSpec.upto fnExactFMulSpec)

/-- 'laws.FnExactFPow', WHERE WHAT IT READS IS OF BULK AT MOST 1048576: true; the input reads as it did. -/
def fnExactFPowUptoRow : OpenClaim := { program := "ytlakanajcabejaa", sum := "3ec933ac905bb0fa9d0a7526712f156dfd2fd7d016b9e618e3572cb3810de5d7", func := "loop.example/g00611/laws.FnExactFPow", spec := "fnExactFPow", apart := false, narrowed := true }
def FnExactFPowUptoSaid : Prop := fnExactFPowUptoRow.holds Try.pinned (OpenSpec.upto fnExactFPowSpec)

/-- 'laws.FnExactFInv', WHERE WHAT IT READS IS OF BULK AT MOST 1048576: true; the input reads as it did. -/
def fnExactFInvUptoRow : OpenClaim := { program := "ytlakanajcabejaa", sum := "3ec933ac905bb0fa9d0a7526712f156dfd2fd7d016b9e618e3572cb3810de5d7", func := "loop.example/g00611/laws.FnExactFInv", spec := "fnExactFInv", apart := false, narrowed := true }
def FnExactFInvUptoSaid : Prop := fnExactFInvUptoRow.holds Try.pinned (OpenSpec.upto fnExactFInvSpec)

/-- 'laws.FnExactPubOf', WHERE WHAT IT READS IS OF BULK AT MOST 1048576: true; the input reads as it did. -/
def fnExactPubOfUptoRow : OpenClaim := { program := "ytlakanajcabejaa", sum := "3ec933ac905bb0fa9d0a7526712f156dfd2fd7d016b9e618e3572cb3810de5d7", func := "loop.example/g00611/laws.FnExactPubOf", spec := "fnExactPubOf", apart := false, narrowed := true }
def FnExactPubOfUptoSaid : Prop := fnExactPubOfUptoRow.holds Try.pinned (OpenSpec.upto fnExactPubOfSpec)

/-- 'laws.FnExactShared', WHERE WHAT IT READS IS OF BULK AT MOST 1048576: true; the input reads as it did. -/
def fnExactSharedUptoRow : OpenClaim := { program := "ytlakanajcabejaa", sum := "3ec933ac905bb0fa9d0a7526712f156dfd2fd7d016b9e618e3572cb3810de5d7", func := "loop.example/g00611/laws.FnExactShared", spec := "fnExactShared", apart := false, narrowed := true }
def FnExactSharedUptoSaid : Prop := fnExactSharedUptoRow.holds Try.pinned (OpenSpec.upto fnExactSharedSpec)

/-- 'laws.FnExactKeyOf', WHERE WHAT IT READS IS OF BULK AT MOST 1048576: true; the input reads as it did. -/
def fnExactKeyOfUptoRow : OpenClaim := { program := "ytlakanajcabejaa", sum := "3ec933ac905bb0fa9d0a7526712f156dfd2fd7d016b9e618e3572cb3810de5d7", func := "loop.example/g00611/laws.FnExactKeyOf", spec := "fnExactKeyOf", apart := false, narrowed := true }
def FnExactKeyOfUptoSaid : Prop := fnExactKeyOfUptoRow.holds Try.pinned (OpenSpec.upto fnExactKeyOfSpec)

end Rows
end Go.Proofs.Ytlakanajcabejaa
