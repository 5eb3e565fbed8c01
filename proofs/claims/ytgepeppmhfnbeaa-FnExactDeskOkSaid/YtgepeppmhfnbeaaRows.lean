/-
  No cell of these rows narrows 'for every input' (looked for: loops, veiled, ifaces, maps, wideKeys, modest, calm, conditions, laid).
  DERIVED. THE GIVEN ROWS OF THIS SEAT. 12 by the template 'for every input the law returns true; each argument reads behind the call as it read before'; 0 by the template 'total and deterministic' (their statements: YtgepeppmhfnbeaaTotals.lean).
  GIVEN WITH THE SEED: the statements are not yours to turn. If you find one false, say at which input.
  Laid BY PROGRAM, IN A SANDBOX (cutbox-rows.mjs): the forced cells as the released guide's own fill.sh prints them over the translation 91e874edb1db6b37… (all of the seat's roots in one cut). By AI agents, Wed Nov 11 2026. No macro, syntax, notation, axiom, sorry.
-/
import Derived.Test.YtgepeppmhfnbeaaChecked
import GoSem.Claim
import GoSem.ClaimJoined
import GoSem.ClaimMapViews
import Derived.JoinedTies
import Derived.KernelRfl
namespace Go.Proofs.Ytgepeppmhfnbeaa
/- THE CELL 'sum', in the pinned program and in every row, IS THE sha256 OF THE DUMP (.gsa) THAT YtgepeppmhfnbeaaProg.lean LOADS. Nothing in Lean hashes anything: it is a label: what it is worth is what the hold of that sum in a sandbox is worth. -/
noncomputable def Try.pinned : Pinned := { name := "ytgepeppmhfnbeaa", sum := "91e874edb1db6b378bcecbe9151383635be309e522d53f6b27d02a36d0750ed6", checked := Try.checked }
namespace Rows
def none {H : Type} : Left H := { results := [], args := [] }

/-- 'laws.FnAdmits': WHATEVER THE INPUT: true; the input reads as it did. -/
def fnAdmitsSpec : ChangeSpec := { name := "fnAdmits", fn := fun _ => fun
  | [d] => { results := [.lit (.bool true)], args := [d] }
  | _ => none }
def fnAdmitsRow : OpenClaim := { program := "ytgepeppmhfnbeaa", sum := "91e874edb1db6b378bcecbe9151383635be309e522d53f6b27d02a36d0750ed6", func := "loop.example/g00611/laws.FnAdmits", spec := "fnAdmits", unfollowed := true, recurses := true, apart := false }
def FnAdmitsSaid : Prop := fnAdmitsRow.holds Try.pinned (OpenSpec.ofChange fnAdmitsSpec)

/-- ITS FALSE NEIGHBOUR: 'it returns false'. Refute it at one input. -/
def fnAdmitsWrong : ChangeSpec := { name := "fnAdmits", fn := fun _ => fun
  | [d] => { results := [.lit (.bool false)], args := [d] }
  | _ => none }
def FnAdmitsWrongFalsely : Prop := fnAdmitsRow.holds Try.pinned (OpenSpec.ofChange fnAdmitsWrong)

/-- 'laws.FnExpires': WHATEVER THE INPUT: true; the input reads as it did. -/
def fnExpiresSpec : ChangeSpec := { name := "fnExpires", fn := fun _ => fun
  | [d] => { results := [.lit (.bool true)], args := [d] }
  | _ => none }
def fnExpiresRow : OpenClaim := { program := "ytgepeppmhfnbeaa", sum := "91e874edb1db6b378bcecbe9151383635be309e522d53f6b27d02a36d0750ed6", func := "loop.example/g00611/laws.FnExpires", spec := "fnExpires", unfollowed := true, recurses := true, apart := false }
def FnExpiresSaid : Prop := fnExpiresRow.holds Try.pinned (OpenSpec.ofChange fnExpiresSpec)

/-- ITS FALSE NEIGHBOUR: 'it returns false'. Refute it at one input. -/
def fnExpiresWrong : ChangeSpec := { name := "fnExpires", fn := fun _ => fun
  | [d] => { results := [.lit (.bool false)], args := [d] }
  | _ => none }
def FnExpiresWrongFalsely : Prop := fnExpiresRow.holds Try.pinned (OpenSpec.ofChange fnExpiresWrong)

/-- 'laws.FnFlushes': WHATEVER THE INPUT: true; the input reads as it did. -/
def fnFlushesSpec : ChangeSpec := { name := "fnFlushes", fn := fun _ => fun
  | [d] => { results := [.lit (.bool true)], args := [d] }
  | _ => none }
def fnFlushesRow : OpenClaim := { program := "ytgepeppmhfnbeaa", sum := "91e874edb1db6b378bcecbe9151383635be309e522d53f6b27d02a36d0750ed6", func := "loop.example/g00611/laws.FnFlushes", spec := "fnFlushes", unfollowed := true, recurses := true, apart := false }
def FnFlushesSaid : Prop := fnFlushesRow.holds Try.pinned (OpenSpec.ofChange fnFlushesSpec)

/-- ITS FALSE NEIGHBOUR: 'it returns false'. Refute it at one input. -/
def fnFlushesWrong : ChangeSpec := { name := "fnFlushes", fn := fun _ => fun
  | [d] => { results := [.lit (.bool false)], args := [d] }
  | _ => none }
def FnFlushesWrongFalsely : Prop := fnFlushesRow.holds Try.pinned (OpenSpec.ofChange fnFlushesWrong)

/-- 'laws.FnHidden': WHATEVER THE INPUT: true; the input reads as it did. -/
def fnHiddenSpec : ChangeSpec := { name := "fnHidden", fn := fun _ => fun
  | [d] => { results := [.lit (.bool true)], args := [d] }
  | _ => none }
def fnHiddenRow : OpenClaim := { program := "ytgepeppmhfnbeaa", sum := "91e874edb1db6b378bcecbe9151383635be309e522d53f6b27d02a36d0750ed6", func := "loop.example/g00611/laws.FnHidden", spec := "fnHidden", unfollowed := true, recurses := true, apart := false }
def FnHiddenSaid : Prop := fnHiddenRow.holds Try.pinned (OpenSpec.ofChange fnHiddenSpec)

/-- ITS FALSE NEIGHBOUR: 'it returns false'. Refute it at one input. -/
def fnHiddenWrong : ChangeSpec := { name := "fnHidden", fn := fun _ => fun
  | [d] => { results := [.lit (.bool false)], args := [d] }
  | _ => none }
def FnHiddenWrongFalsely : Prop := fnHiddenRow.holds Try.pinned (OpenSpec.ofChange fnHiddenWrong)

/-- 'laws.FnPools': WHATEVER THE INPUT: true; the input reads as it did. -/
def fnPoolsSpec : ChangeSpec := { name := "fnPools", fn := fun _ => fun
  | [d] => { results := [.lit (.bool true)], args := [d] }
  | _ => none }
def fnPoolsRow : OpenClaim := { program := "ytgepeppmhfnbeaa", sum := "91e874edb1db6b378bcecbe9151383635be309e522d53f6b27d02a36d0750ed6", func := "loop.example/g00611/laws.FnPools", spec := "fnPools", unfollowed := true, recurses := true, apart := false }
def FnPoolsSaid : Prop := fnPoolsRow.holds Try.pinned (OpenSpec.ofChange fnPoolsSpec)

/-- ITS FALSE NEIGHBOUR: 'it returns false'. Refute it at one input. -/
def fnPoolsWrong : ChangeSpec := { name := "fnPools", fn := fun _ => fun
  | [d] => { results := [.lit (.bool false)], args := [d] }
  | _ => none }
def FnPoolsWrongFalsely : Prop := fnPoolsRow.holds Try.pinned (OpenSpec.ofChange fnPoolsWrong)

/-- 'laws.FnFors': WHATEVER THE INPUT: true; the input reads as it did. -/
def fnForsSpec : ChangeSpec := { name := "fnFors", fn := fun _ => fun
  | [d] => { results := [.lit (.bool true)], args := [d] }
  | _ => none }
def fnForsRow : OpenClaim := { program := "ytgepeppmhfnbeaa", sum := "91e874edb1db6b378bcecbe9151383635be309e522d53f6b27d02a36d0750ed6", func := "loop.example/g00611/laws.FnFors", spec := "fnFors", unfollowed := true, recurses := true, apart := false }
def FnForsSaid : Prop := fnForsRow.holds Try.pinned (OpenSpec.ofChange fnForsSpec)

/-- ITS FALSE NEIGHBOUR: 'it returns false'. Refute it at one input. -/
def fnForsWrong : ChangeSpec := { name := "fnFors", fn := fun _ => fun
  | [d] => { results := [.lit (.bool false)], args := [d] }
  | _ => none }
def FnForsWrongFalsely : Prop := fnForsRow.holds Try.pinned (OpenSpec.ofChange fnForsWrong)

/-- 'laws.FnExactFlush': WHATEVER THE INPUT: true; the input reads as it did. -/
def fnExactFlushSpec : ChangeSpec := { name := "fnExactFlush", fn := fun _ => fun
  | [d1, d2, d3] => { results := [.lit (.bool true)], args := [d1, d2, d3] }
  | _ => none }
def fnExactFlushRow : OpenClaim := { program := "ytgepeppmhfnbeaa", sum := "91e874edb1db6b378bcecbe9151383635be309e522d53f6b27d02a36d0750ed6", func := "loop.example/g00611/laws.FnExactFlush", spec := "fnExactFlush", unfollowed := true, recurses := true, apart := false }
def FnExactFlushSaid : Prop := fnExactFlushRow.holds Try.pinned (OpenSpec.ofChange fnExactFlushSpec)

/-- ITS FALSE NEIGHBOUR: 'it returns false'. Refute it at one input. -/
def fnExactFlushWrong : ChangeSpec := { name := "fnExactFlush", fn := fun _ => fun
  | [d1, d2, d3] => { results := [.lit (.bool false)], args := [d1, d2, d3] }
  | _ => none }
def FnExactFlushWrongFalsely : Prop := fnExactFlushRow.holds Try.pinned (OpenSpec.ofChange fnExactFlushWrong)

/-- 'laws.FnExactPoolBytes': WHATEVER THE INPUT: true; the input reads as it did. -/
def fnExactPoolBytesSpec : ChangeSpec := { name := "fnExactPoolBytes", fn := fun _ => fun
  | [d] => { results := [.lit (.bool true)], args := [d] }
  | _ => none }
def fnExactPoolBytesRow : OpenClaim := { program := "ytgepeppmhfnbeaa", sum := "91e874edb1db6b378bcecbe9151383635be309e522d53f6b27d02a36d0750ed6", func := "loop.example/g00611/laws.FnExactPoolBytes", spec := "fnExactPoolBytes", unfollowed := true, recurses := true, apart := false }
def FnExactPoolBytesSaid : Prop := fnExactPoolBytesRow.holds Try.pinned (OpenSpec.ofChange fnExactPoolBytesSpec)

/-- ITS FALSE NEIGHBOUR: 'it returns false'. Refute it at one input. -/
def fnExactPoolBytesWrong : ChangeSpec := { name := "fnExactPoolBytes", fn := fun _ => fun
  | [d] => { results := [.lit (.bool false)], args := [d] }
  | _ => none }
def FnExactPoolBytesWrongFalsely : Prop := fnExactPoolBytesRow.holds Try.pinned (OpenSpec.ofChange fnExactPoolBytesWrong)

/-- 'laws.FnExactPoolRead': WHATEVER THE INPUT: true; the input reads as it did. -/
def fnExactPoolReadSpec : ChangeSpec := { name := "fnExactPoolRead", fn := fun _ => fun
  | [d] => { results := [.lit (.bool true)], args := [d] }
  | _ => none }
def fnExactPoolReadRow : OpenClaim := { program := "ytgepeppmhfnbeaa", sum := "91e874edb1db6b378bcecbe9151383635be309e522d53f6b27d02a36d0750ed6", func := "loop.example/g00611/laws.FnExactPoolRead", spec := "fnExactPoolRead", unfollowed := true, recurses := true, apart := false }
def FnExactPoolReadSaid : Prop := fnExactPoolReadRow.holds Try.pinned (OpenSpec.ofChange fnExactPoolReadSpec)

/-- ITS FALSE NEIGHBOUR: 'it returns false'. Refute it at one input. -/
def fnExactPoolReadWrong : ChangeSpec := { name := "fnExactPoolRead", fn := fun _ => fun
  | [d] => { results := [.lit (.bool false)], args := [d] }
  | _ => none }
def FnExactPoolReadWrongFalsely : Prop := fnExactPoolReadRow.holds Try.pinned (OpenSpec.ofChange fnExactPoolReadWrong)

/-- 'laws.FnExactNexts': WHATEVER THE INPUT: true; the input reads as it did. -/
def fnExactNextsSpec : ChangeSpec := { name := "fnExactNexts", fn := fun _ => fun
  | [d] => { results := [.lit (.bool true)], args := [d] }
  | _ => none }
def fnExactNextsRow : OpenClaim := { program := "ytgepeppmhfnbeaa", sum := "91e874edb1db6b378bcecbe9151383635be309e522d53f6b27d02a36d0750ed6", func := "loop.example/g00611/laws.FnExactNexts", spec := "fnExactNexts", unfollowed := true, recurses := true, apart := false }
def FnExactNextsSaid : Prop := fnExactNextsRow.holds Try.pinned (OpenSpec.ofChange fnExactNextsSpec)

/-- ITS FALSE NEIGHBOUR: 'it returns false'. Refute it at one input. -/
def fnExactNextsWrong : ChangeSpec := { name := "fnExactNexts", fn := fun _ => fun
  | [d] => { results := [.lit (.bool false)], args := [d] }
  | _ => none }
def FnExactNextsWrongFalsely : Prop := fnExactNextsRow.holds Try.pinned (OpenSpec.ofChange fnExactNextsWrong)

/-- 'laws.FnExactDeskOk': WHATEVER THE INPUT: true; the input reads as it did. -/
def fnExactDeskOkSpec : ChangeSpec := { name := "fnExactDeskOk", fn := fun _ => fun
  | [d] => { results := [.lit (.bool true)], args := [d] }
  | _ => none }
def fnExactDeskOkRow : OpenClaim := { program := "ytgepeppmhfnbeaa", sum := "91e874edb1db6b378bcecbe9151383635be309e522d53f6b27d02a36d0750ed6", func := "loop.example/g00611/laws.FnExactDeskOk", spec := "fnExactDeskOk", unfollowed := true, recurses := true, apart := false }
def FnExactDeskOkSaid : Prop := fnExactDeskOkRow.holds Try.pinned (OpenSpec.ofChange fnExactDeskOkSpec)

/-- ITS FALSE NEIGHBOUR: 'it returns false'. Refute it at one input. -/
def fnExactDeskOkWrong : ChangeSpec := { name := "fnExactDeskOk", fn := fun _ => fun
  | [d] => { results := [.lit (.bool false)], args := [d] }
  | _ => none }
def FnExactDeskOkWrongFalsely : Prop := fnExactDeskOkRow.holds Try.pinned (OpenSpec.ofChange fnExactDeskOkWrong)

/-- 'laws.FnExactIsDone': WHATEVER THE INPUT: true; the input reads as it did. -/
def fnExactIsDoneSpec : ChangeSpec := { name := "fnExactIsDone", fn := fun _ => fun
  | [d1, d2] => { results := [.lit (.bool true)], args := [d1, d2] }
  | _ => none }
def fnExactIsDoneRow : OpenClaim := { program := "ytgepeppmhfnbeaa", sum := "91e874edb1db6b378bcecbe9151383635be309e522d53f6b27d02a36d0750ed6", func := "loop.example/g00611/laws.FnExactIsDone", spec := "fnExactIsDone", unfollowed := true, recurses := true, apart := false }
def FnExactIsDoneSaid : Prop := fnExactIsDoneRow.holds Try.pinned (OpenSpec.ofChange fnExactIsDoneSpec)

/-- ITS FALSE NEIGHBOUR: 'it returns false'. Refute it at one input. -/
def fnExactIsDoneWrong : ChangeSpec := { name := "fnExactIsDone", fn := fun _ => fun
  | [d1, d2] => { results := [.lit (.bool false)], args := [d1, d2] }
  | _ => none }
def FnExactIsDoneWrongFalsely : Prop := fnExactIsDoneRow.holds Try.pinned (OpenSpec.ofChange fnExactIsDoneWrong)

/- THE SECOND FORM. 'bulk': how many values and letters a reading holds, each counted each time it is reached (what is shared counts as often as it is met; a slice's spare places count too). A statement '..UptoSaid' is the law's where the arguments, and the package variables that the reading takes, are together of bulk at most 1048576: NARROWER than '..Said'. Prove '..Said' where nothing that the law and all that it calls make is longer than what came in: it says more and counts as full. Else prove '..UptoSaid'. A law counts once. -/
mutual
def uptoBulk {H : Type} : DataW H → Nat
  | .lit (.string bytes) => bytes.length + 1
  | .lit _ => 1
  | .nil => 1
  | .ptr d => uptoBulk d + 1
  | .slice elems spare => uptoBulkAll elems + uptoBulkAll spare + 1
  | .agg parts => uptoBulkAll parts + 1
  | .iface _ d => uptoBulk d + 1
  | .map entries => uptoBulkEntries entries + 1
  | .held _ => 1
def uptoBulkAll {H : Type} : List (DataW H) → Nat
  | [] => 0
  | d :: r => uptoBulk d + uptoBulkAll r
def uptoBulkEntries {H : Type} : List (Lit × DataW H) → Nat
  | [] => 0
  | x :: r => uptoBulkEntry x + uptoBulkEntries r
def uptoBulkEntry {H : Type} : Lit × DataW H → Nat
  | (.string bytes, d) => bytes.length + uptoBulk d + 1
  | (_, d) => uptoBulk d + 1
 end
def uptoSmall : (H : Type) → List (DataW H) → Bool := fun _ ds => decide (uptoBulkAll ds ≤ 1048576)
def OpenSpec.upto (s : _root_.Go.ChangeSpec) : _root_.Go.OpenSpec := { _root_.Go.OpenSpec.ofChange s with cond := some uptoSmall }

/-- 'laws.FnAdmits', WHERE WHAT IT READS IS OF BULK AT MOST 1048576: true; the input reads as it did. -/
def fnAdmitsUptoRow : OpenClaim := { program := "ytgepeppmhfnbeaa", sum := "91e874edb1db6b378bcecbe9151383635be309e522d53f6b27d02a36d0750ed6", func := "loop.example/g00611/laws.FnAdmits", spec := "fnAdmits", unfollowed := true, recurses := true, apart := false, narrowed := true }
def FnAdmitsUptoSaid : Prop := fnAdmitsUptoRow.holds Try.pinned (OpenSpec.upto fnAdmitsSpec)

/-- 'laws.FnExpires', WHERE WHAT IT READS IS OF BULK AT MOST 1048576: true; the input reads as it did. -/
def fnExpiresUptoRow : OpenClaim := { program := "ytgepeppmhfnbeaa", sum := "91e874edb1db6b378bcecbe9151383635be309e522d53f6b27d02a36d0750ed6", func := "loop.example/g00611/laws.FnExpires", spec := "fnExpires", unfollowed := true, recurses := true, apart := false, narrowed := true }
def FnExpiresUptoSaid : Prop := fnExpiresUptoRow.holds Try.pinned (OpenSpec.upto fnExpiresSpec)

/-- 'laws.FnFlushes', WHERE WHAT IT READS IS OF BULK AT MOST 1048576: true; the input reads as it did. -/
def fnFlushesUptoRow : OpenClaim := { program := "ytgepeppmhfnbeaa", sum := "91e874edb1db6b378bcecbe9151383635be309e522d53f6b27d02a36d0750ed6", func := "loop.example/g00611/laws.FnFlushes", spec := "fnFlushes", unfollowed := true, recurses := true, apart := false, narrowed := true }
def FnFlushesUptoSaid : Prop := fnFlushesUptoRow.holds Try.pinned (OpenSpec.upto fnFlushesSpec)

/-- 'laws.FnHidden', WHERE WHAT IT READS IS OF BULK AT MOST 1048576: true; the input reads as it did. -/
def fnHiddenUptoRow : OpenClaim := { program := "ytgepeppmhfnbeaa", sum := "91e874edb1db6b378bcecbe9151383635be309e522d53f6b27d02a36d0750ed6", func := "loop.example/g00611/laws.FnHidden", spec := "fnHidden", unfollowed := true, recurses := true, apart := false, narrowed := true }
def FnHiddenUptoSaid : Prop := fnHiddenUptoRow.holds Try.pinned (OpenSpec.upto fnHiddenSpec)

/-- 'laws.FnPools', WHERE WHAT IT READS IS OF BULK AT MOST 1048576: true; the input reads as it did. -/
def fnPoolsUptoRow : OpenClaim := { program := "ytgepeppmhfnbeaa", sum := "91e874edb1db6b378bcecbe9151383635be309e522d53f6b27d02a36d0750ed6", func := "loop.example/g00611/laws.FnPools", spec := "fnPools", unfollowed := true, recurses := true, apart := false, narrowed := true }
def FnPoolsUptoSaid : Prop := fnPoolsUptoRow.holds Try.pinned (OpenSpec.upto fnPoolsSpec)

/-- 'laws.FnFors', WHERE WHAT IT READS IS OF BULK AT MOST 1048576: true; the input reads as it did. -/
def fnForsUptoRow : OpenClaim := { program := "ytgepeppmhfnbeaa", sum := "91e874edb1db6b378bcecbe9151383635be309e522d53f6b27d02a36d0750ed6", func := "loop.example/g00611/laws.FnFors", spec := "fnFors", unfollowed := true, recurses := true, apart := false, narrowed := true }
def FnForsUptoSaid : Prop := fnForsUptoRow.holds Try.pinned (OpenSpec.upto fnForsSpec)

/-- 'laws.FnExactFlush', WHERE WHAT IT READS IS OF BULK AT MOST 1048576: true; the input reads as it did. -/
def fnExactFlushUptoRow : OpenClaim := { program := "ytgepeppmhfnbeaa", sum := "91e874edb1db6b378bcecbe9151383635be309e522d53f6b27d02a36d0750ed6", func := "loop.example/g00611/laws.FnExactFlush", spec := "fnExactFlush", unfollowed := true, recurses := true, apart := false, narrowed := true }
def FnExactFlushUptoSaid : Prop := fnExactFlushUptoRow.holds Try.pinned (OpenSpec.upto fnExactFlushSpec)

/-- 'laws.FnExactPoolBytes', WHERE WHAT IT READS IS OF BULK AT MOST 1048576: true; the input reads as it did. -/
def fnExactPoolBytesUptoRow : OpenClaim := { program := "ytgepeppmhfnbeaa", sum := "91e874edb1db6b378bcecbe9151383635be309e522d53f6b27d02a36d0750ed6", func := "loop.example/g00611/laws.FnExactPoolBytes", spec := "fnExactPoolBytes", unfollowed := true, recurses := true, apart := false, narrowed := true }
def FnExactPoolBytesUptoSaid : Prop := fnExactPoolBytesUptoRow.holds Try.pinned (OpenSpec.upto fnExactPoolBytesSpec)

/-- 'laws.FnExactPoolRead', WHERE WHAT IT READS IS OF BULK AT MOST 1048576: true; the input reads as it did. -/
def fnExactPoolReadUptoRow : OpenClaim := { program := "ytgepeppmhfnbeaa", sum := "91e874edb1db6b378bcecbe9151383635be309e522d53f6b27d02a36d0750ed6", func := "loop.example/g00611/laws.FnExactPoolRead", spec := "fnExactPoolRead", unfollowed := true, recurses := true, apart := false, narrowed := true }
def FnExactPoolReadUptoSaid : Prop := fnExactPoolReadUptoRow.holds Try.pinned (OpenSpec.upto fnExactPoolReadSpec)

/-- 'laws.FnExactNexts', WHERE WHAT IT READS IS OF BULK AT MOST 1048576: true; the input reads as it did. -/
def fnExactNextsUptoRow : OpenClaim := { program := "ytgepeppmhfnbeaa", sum := "91e874edb1db6b378bcecbe9151383635be309e522d53f6b27d02a36d0750ed6", func := "loop.example/g00611/laws.FnExactNexts", spec := "fnExactNexts", unfollowed := true, recurses := true, apart := false, narrowed := true }
def FnExactNextsUptoSaid : Prop := fnExactNextsUptoRow.holds Try.pinned (OpenSpec.upto fnExactNextsSpec)

/-- 'laws.FnExactDeskOk', WHERE WHAT IT READS IS OF BULK AT MOST 1048576: true; the input reads as it did. -/
def fnExactDeskOkUptoRow : OpenClaim := { program := "ytgepeppmhfnbeaa", sum := "91e874edb1db6b378bcecbe9151383635be309e522d53f6b27d02a36d0750ed6", func := "loop.example/g00611/laws.FnExactDeskOk", spec := "fnExactDeskOk", unfollowed := true, recurses := true, apart := false, narrowed := true }
def FnExactDeskOkUptoSaid : Prop := fnExactDeskOkUptoRow.holds Try.pinned (OpenSpec.upto fnExactDeskOkSpec)

/-- 'laws.FnExactIsDone', WHERE WHAT IT READS IS OF BULK AT MOST 1048576: true; the input reads as it did. -/
def fnExactIsDoneUptoRow : OpenClaim := { program := "ytgepeppmhfnbeaa", sum := "91e874edb1db6b378bcecbe9151383635be309e522d53f6b27d02a36d0750ed6", func := "loop.example/g00611/laws.FnExactIsDone", spec := "fnExactIsDone", unfollowed := true, recurses := true, apart := false, narrowed := true }
def FnExactIsDoneUptoSaid : Prop := fnExactIsDoneUptoRow.holds Try.pinned (OpenSpec.upto fnExactIsDoneSpec)

end Rows
end Go.Proofs.Ytgepeppmhfnbeaa
