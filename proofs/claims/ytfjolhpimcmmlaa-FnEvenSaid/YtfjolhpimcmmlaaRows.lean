/-
  No cell of these rows narrows 'for every input' (looked for: loops, veiled, ifaces, maps, wideKeys, modest, calm, conditions, laid).
  DERIVED. THE GIVEN ROWS OF THIS SEAT. 12 by the template 'for every input the law returns true; each argument reads behind the call as it read before'; 0 by the template 'total and deterministic' (their statements: YtfjolhpimcmmlaaTotals.lean).
  GIVEN WITH THE SEED: the statements are not yours to turn. If you find one false, say at which input.
  Laid BY PROGRAM, IN A SANDBOX (cutbox-rows.mjs): the forced cells as the released guide's own fill.sh prints them over the translation e070a89aafd422ee… (all of the seat's roots in one cut). By AI agents, Wed Nov 11 2026. No macro, syntax, notation, axiom, sorry.
-/
import Derived.Test.YtfjolhpimcmmlaaChecked
import GoSem.Claim
import GoSem.ClaimJoined
import GoSem.ClaimMapViews
import Derived.JoinedTies
import Derived.KernelRfl
namespace Go.Proofs.Ytfjolhpimcmmlaa
/- THE CELL 'sum', in the pinned program and in every row, IS THE sha256 OF THE DUMP (.gsa) THAT YtfjolhpimcmmlaaProg.lean LOADS. Nothing in Lean hashes anything: it is a label: what it is worth is what the hold of that sum in a sandbox is worth. -/
noncomputable def Try.pinned : Pinned := { name := "ytfjolhpimcmmlaa", sum := "e070a89aafd422ee087f71c6beca05fdb6b7578780d4336f63218a4f82c443ef", checked := Try.checked }
namespace Rows
def none {H : Type} : Left H := { results := [], args := [] }

/-- 'laws.FnStreams': WHATEVER THE INPUT: true; the input reads as it did. -/
def fnStreamsSpec : ChangeSpec := { name := "fnStreams", fn := fun _ => fun
  | [d] => { results := [.lit (.bool true)], args := [d] }
  | _ => none }
def fnStreamsRow : OpenClaim := { program := "ytfjolhpimcmmlaa", sum := "e070a89aafd422ee087f71c6beca05fdb6b7578780d4336f63218a4f82c443ef", func := "loop.example/g00611/laws.FnStreams", spec := "fnStreams", unfollowed := true, recurses := true, apart := false }
def FnStreamsSaid : Prop := fnStreamsRow.holds Try.pinned (OpenSpec.ofChange fnStreamsSpec)

/-- ITS FALSE NEIGHBOUR: 'it returns false'. Refute it at one input. -/
def fnStreamsWrong : ChangeSpec := { name := "fnStreams", fn := fun _ => fun
  | [d] => { results := [.lit (.bool false)], args := [d] }
  | _ => none }
def FnStreamsWrongFalsely : Prop := fnStreamsRow.holds Try.pinned (OpenSpec.ofChange fnStreamsWrong)

/-- 'laws.FnSeals': WHATEVER THE INPUT: true; the input reads as it did. -/
def fnSealsSpec : ChangeSpec := { name := "fnSeals", fn := fun _ => fun
  | [d] => { results := [.lit (.bool true)], args := [d] }
  | _ => none }
def fnSealsRow : OpenClaim := { program := "ytfjolhpimcmmlaa", sum := "e070a89aafd422ee087f71c6beca05fdb6b7578780d4336f63218a4f82c443ef", func := "loop.example/g00611/laws.FnSeals", spec := "fnSeals", unfollowed := true, recurses := true, apart := false }
def FnSealsSaid : Prop := fnSealsRow.holds Try.pinned (OpenSpec.ofChange fnSealsSpec)

/-- ITS FALSE NEIGHBOUR: 'it returns false'. Refute it at one input. -/
def fnSealsWrong : ChangeSpec := { name := "fnSeals", fn := fun _ => fun
  | [d] => { results := [.lit (.bool false)], args := [d] }
  | _ => none }
def FnSealsWrongFalsely : Prop := fnSealsRow.holds Try.pinned (OpenSpec.ofChange fnSealsWrong)

/-- 'laws.FnMacs': WHATEVER THE INPUT: true; the input reads as it did. -/
def fnMacsSpec : ChangeSpec := { name := "fnMacs", fn := fun _ => fun
  | [d] => { results := [.lit (.bool true)], args := [d] }
  | _ => none }
def fnMacsRow : OpenClaim := { program := "ytfjolhpimcmmlaa", sum := "e070a89aafd422ee087f71c6beca05fdb6b7578780d4336f63218a4f82c443ef", func := "loop.example/g00611/laws.FnMacs", spec := "fnMacs", unfollowed := true, recurses := true, apart := false }
def FnMacsSaid : Prop := fnMacsRow.holds Try.pinned (OpenSpec.ofChange fnMacsSpec)

/-- ITS FALSE NEIGHBOUR: 'it returns false'. Refute it at one input. -/
def fnMacsWrong : ChangeSpec := { name := "fnMacs", fn := fun _ => fun
  | [d] => { results := [.lit (.bool false)], args := [d] }
  | _ => none }
def FnMacsWrongFalsely : Prop := fnMacsRow.holds Try.pinned (OpenSpec.ofChange fnMacsWrong)

/-- 'laws.FnBelows': WHATEVER THE INPUT: true; the input reads as it did. -/
def fnBelowsSpec : ChangeSpec := { name := "fnBelows", fn := fun _ => fun
  | [d] => { results := [.lit (.bool true)], args := [d] }
  | _ => none }
def fnBelowsRow : OpenClaim := { program := "ytfjolhpimcmmlaa", sum := "e070a89aafd422ee087f71c6beca05fdb6b7578780d4336f63218a4f82c443ef", func := "loop.example/g00611/laws.FnBelows", spec := "fnBelows", unfollowed := true, recurses := true, apart := false }
def FnBelowsSaid : Prop := fnBelowsRow.holds Try.pinned (OpenSpec.ofChange fnBelowsSpec)

/-- ITS FALSE NEIGHBOUR: 'it returns false'. Refute it at one input. -/
def fnBelowsWrong : ChangeSpec := { name := "fnBelows", fn := fun _ => fun
  | [d] => { results := [.lit (.bool false)], args := [d] }
  | _ => none }
def FnBelowsWrongFalsely : Prop := fnBelowsRow.holds Try.pinned (OpenSpec.ofChange fnBelowsWrong)

/-- 'laws.FnShuffles': WHATEVER THE INPUT: true; the input reads as it did. -/
def fnShufflesSpec : ChangeSpec := { name := "fnShuffles", fn := fun _ => fun
  | [d] => { results := [.lit (.bool true)], args := [d] }
  | _ => none }
def fnShufflesRow : OpenClaim := { program := "ytfjolhpimcmmlaa", sum := "e070a89aafd422ee087f71c6beca05fdb6b7578780d4336f63218a4f82c443ef", func := "loop.example/g00611/laws.FnShuffles", spec := "fnShuffles", unfollowed := true, recurses := true, apart := false }
def FnShufflesSaid : Prop := fnShufflesRow.holds Try.pinned (OpenSpec.ofChange fnShufflesSpec)

/-- ITS FALSE NEIGHBOUR: 'it returns false'. Refute it at one input. -/
def fnShufflesWrong : ChangeSpec := { name := "fnShuffles", fn := fun _ => fun
  | [d] => { results := [.lit (.bool false)], args := [d] }
  | _ => none }
def FnShufflesWrongFalsely : Prop := fnShufflesRow.holds Try.pinned (OpenSpec.ofChange fnShufflesWrong)

/-- 'laws.FnEven': WHATEVER THE INPUT: true; the input reads as it did. -/
def fnEvenSpec : ChangeSpec := { name := "fnEven", fn := fun _ => fun
  | [d] => { results := [.lit (.bool true)], args := [d] }
  | _ => none }
def fnEvenRow : OpenClaim := { program := "ytfjolhpimcmmlaa", sum := "e070a89aafd422ee087f71c6beca05fdb6b7578780d4336f63218a4f82c443ef", func := "loop.example/g00611/laws.FnEven", spec := "fnEven", unfollowed := true, recurses := true, apart := false }
def FnEvenSaid : Prop := fnEvenRow.holds Try.pinned (OpenSpec.ofChange fnEvenSpec)

/-- ITS FALSE NEIGHBOUR: 'it returns false'. Refute it at one input. -/
def fnEvenWrong : ChangeSpec := { name := "fnEven", fn := fun _ => fun
  | [d] => { results := [.lit (.bool false)], args := [d] }
  | _ => none }
def FnEvenWrongFalsely : Prop := fnEvenRow.holds Try.pinned (OpenSpec.ofChange fnEvenWrong)

/-- 'laws.FnOrdered': WHATEVER THE INPUT: true; the input reads as it did. -/
def fnOrderedSpec : ChangeSpec := { name := "fnOrdered", fn := fun _ => fun
  | [d] => { results := [.lit (.bool true)], args := [d] }
  | _ => none }
def fnOrderedRow : OpenClaim := { program := "ytfjolhpimcmmlaa", sum := "e070a89aafd422ee087f71c6beca05fdb6b7578780d4336f63218a4f82c443ef", func := "loop.example/g00611/laws.FnOrdered", spec := "fnOrdered", unfollowed := true, recurses := true, apart := false }
def FnOrderedSaid : Prop := fnOrderedRow.holds Try.pinned (OpenSpec.ofChange fnOrderedSpec)

/-- ITS FALSE NEIGHBOUR: 'it returns false'. Refute it at one input. -/
def fnOrderedWrong : ChangeSpec := { name := "fnOrdered", fn := fun _ => fun
  | [d] => { results := [.lit (.bool false)], args := [d] }
  | _ => none }
def FnOrderedWrongFalsely : Prop := fnOrderedRow.holds Try.pinned (OpenSpec.ofChange fnOrderedWrong)

/-- 'laws.FnExactStreamAt': WHATEVER THE INPUT: true; the input reads as it did. -/
def fnExactStreamAtSpec : ChangeSpec := { name := "fnExactStreamAt", fn := fun _ => fun
  | [d1, d2] => { results := [.lit (.bool true)], args := [d1, d2] }
  | _ => none }
def fnExactStreamAtRow : OpenClaim := { program := "ytfjolhpimcmmlaa", sum := "e070a89aafd422ee087f71c6beca05fdb6b7578780d4336f63218a4f82c443ef", func := "loop.example/g00611/laws.FnExactStreamAt", spec := "fnExactStreamAt", apart := false }
def FnExactStreamAtSaid : Prop := fnExactStreamAtRow.holds Try.pinned (OpenSpec.ofChange fnExactStreamAtSpec)

/-- ITS FALSE NEIGHBOUR: 'it returns false'. Refute it at one input. -/
def fnExactStreamAtWrong : ChangeSpec := { name := "fnExactStreamAt", fn := fun _ => fun
  | [d1, d2] => { results := [.lit (.bool false)], args := [d1, d2] }
  | _ => none }
def FnExactStreamAtWrongFalsely : Prop := fnExactStreamAtRow.holds Try.pinned (OpenSpec.ofChange fnExactStreamAtWrong)

/-- 'laws.FnExactXorWith': WHATEVER THE INPUT: true; the input reads as it did. -/
def fnExactXorWithSpec : ChangeSpec := { name := "fnExactXorWith", fn := fun _ => fun
  | [d1, d2] => { results := [.lit (.bool true)], args := [d1, d2] }
  | _ => none }
def fnExactXorWithRow : OpenClaim := { program := "ytfjolhpimcmmlaa", sum := "e070a89aafd422ee087f71c6beca05fdb6b7578780d4336f63218a4f82c443ef", func := "loop.example/g00611/laws.FnExactXorWith", spec := "fnExactXorWith", unfollowed := true, recurses := true, apart := false }
def FnExactXorWithSaid : Prop := fnExactXorWithRow.holds Try.pinned (OpenSpec.ofChange fnExactXorWithSpec)

/-- ITS FALSE NEIGHBOUR: 'it returns false'. Refute it at one input. -/
def fnExactXorWithWrong : ChangeSpec := { name := "fnExactXorWith", fn := fun _ => fun
  | [d1, d2] => { results := [.lit (.bool false)], args := [d1, d2] }
  | _ => none }
def FnExactXorWithWrongFalsely : Prop := fnExactXorWithRow.holds Try.pinned (OpenSpec.ofChange fnExactXorWithWrong)

/-- 'laws.FnExactMac': WHATEVER THE INPUT: true; the input reads as it did. -/
def fnExactMacSpec : ChangeSpec := { name := "fnExactMac", fn := fun _ => fun
  | [d1, d2] => { results := [.lit (.bool true)], args := [d1, d2] }
  | _ => none }
def fnExactMacRow : OpenClaim := { program := "ytfjolhpimcmmlaa", sum := "e070a89aafd422ee087f71c6beca05fdb6b7578780d4336f63218a4f82c443ef", func := "loop.example/g00611/laws.FnExactMac", spec := "fnExactMac", apart := false }
def FnExactMacSaid : Prop := fnExactMacRow.holds Try.pinned (OpenSpec.ofChange fnExactMacSpec)

/-- ITS FALSE NEIGHBOUR: 'it returns false'. Refute it at one input. -/
def fnExactMacWrong : ChangeSpec := { name := "fnExactMac", fn := fun _ => fun
  | [d1, d2] => { results := [.lit (.bool false)], args := [d1, d2] }
  | _ => none }
def FnExactMacWrongFalsely : Prop := fnExactMacRow.holds Try.pinned (OpenSpec.ofChange fnExactMacWrong)

/-- 'laws.FnExactSeal': WHATEVER THE INPUT: true; the input reads as it did. -/
def fnExactSealSpec : ChangeSpec := { name := "fnExactSeal", fn := fun _ => fun
  | [d1, d2] => { results := [.lit (.bool true)], args := [d1, d2] }
  | _ => none }
def fnExactSealRow : OpenClaim := { program := "ytfjolhpimcmmlaa", sum := "e070a89aafd422ee087f71c6beca05fdb6b7578780d4336f63218a4f82c443ef", func := "loop.example/g00611/laws.FnExactSeal", spec := "fnExactSeal", unfollowed := true, recurses := true, apart := false }
def FnExactSealSaid : Prop := fnExactSealRow.holds Try.pinned (OpenSpec.ofChange fnExactSealSpec)

/-- ITS FALSE NEIGHBOUR: 'it returns false'. Refute it at one input. -/
def fnExactSealWrong : ChangeSpec := { name := "fnExactSeal", fn := fun _ => fun
  | [d1, d2] => { results := [.lit (.bool false)], args := [d1, d2] }
  | _ => none }
def FnExactSealWrongFalsely : Prop := fnExactSealRow.holds Try.pinned (OpenSpec.ofChange fnExactSealWrong)

/-- 'laws.FnExactOpen': WHATEVER THE INPUT: true; the input reads as it did. -/
def fnExactOpenSpec : ChangeSpec := { name := "fnExactOpen", fn := fun _ => fun
  | [d1, d2] => { results := [.lit (.bool true)], args := [d1, d2] }
  | _ => none }
def fnExactOpenRow : OpenClaim := { program := "ytfjolhpimcmmlaa", sum := "e070a89aafd422ee087f71c6beca05fdb6b7578780d4336f63218a4f82c443ef", func := "loop.example/g00611/laws.FnExactOpen", spec := "fnExactOpen", unfollowed := true, recurses := true, apart := false }
def FnExactOpenSaid : Prop := fnExactOpenRow.holds Try.pinned (OpenSpec.ofChange fnExactOpenSpec)

/-- ITS FALSE NEIGHBOUR: 'it returns false'. Refute it at one input. -/
def fnExactOpenWrong : ChangeSpec := { name := "fnExactOpen", fn := fun _ => fun
  | [d1, d2] => { results := [.lit (.bool false)], args := [d1, d2] }
  | _ => none }
def FnExactOpenWrongFalsely : Prop := fnExactOpenRow.holds Try.pinned (OpenSpec.ofChange fnExactOpenWrong)

/- THE SECOND FORM. 'bulk': how many values and letters a reading holds, each counted each time it is reached (what is shared counts as often as it is met; a slice's spare places count too). A statement '..UptoSaid' is the law's where the arguments, and the package variables that the reading takes, are together of bulk at most 1048576: NARROWER than '..Said'. Prove '..Said' where nothing that the law and all that it calls make is longer than what came in: it says more and counts as full. Else prove '..UptoSaid'. A law counts once. -/
mutual
def uptoBulk {H : Type} : DataW H → Nat
  | .lit (.string bytes) => bytes.length + 1
  | .lit _ => 1
  | .nil => 1
  | .ptr d => uptoBulk d + 1
  | .slice elems spare => uptoBulkAll elems + uptoBulkAll spare + 1
  | .agg parts => uptoBulkAll parts + 1
  | .iface _ d => uptoBulk d + 1
  | .map entries => uptoBulkEntries entries + 1
  | .held _ => 1
def uptoBulkAll {H : Type} : List (DataW H) → Nat
  | [] => 0
  | d :: r => uptoBulk d + uptoBulkAll r
def uptoBulkEntries {H : Type} : List (Lit × DataW H) → Nat
  | [] => 0
  | x :: r => uptoBulkEntry x + uptoBulkEntries r
def uptoBulkEntry {H : Type} : Lit × DataW H → Nat
  | (.string bytes, d) => bytes.length + uptoBulk d + 1
  | (_, d) => uptoBulk d + 1
 end
def uptoSmall : (H : Type) → List (DataW H) → Bool := fun _ ds => decide (uptoBulkAll ds ≤ 1048576)
def OpenSpec.upto (s : _root_.Go.ChangeSpec) : _root_.Go.OpenSpec := { _root_.Go.OpenSpec.ofChange s with cond := some uptoSmall }

/-- 'laws.FnStreams', WHERE WHAT IT READS IS OF BULK AT MOST 1048576: true; the input reads as it did. -/
def fnStreamsUptoRow : OpenClaim := { program := "ytfjolhpimcmmlaa", sum := "e070a89aafd422ee087f71c6beca05fdb6b7578780d4336f63218a4f82c443ef", func := "loop.example/g00611/laws.FnStreams", spec := "fnStreams", unfollowed := true, recurses := true, apart := false, narrowed := true }
def FnStreamsUptoSaid : Prop := fnStreamsUptoRow.holds Try.pinned (OpenSpec.upto fnStreamsSpec)

/-- 'laws.FnSeals', WHERE WHAT IT READS IS OF BULK AT MOST 1048576: true; the input reads as it did. -/
def fnSealsUptoRow : OpenClaim := { program := "ytfjolhpimcmmlaa", sum := "e070a89aafd422ee087f71c6beca05fdb6b7578780d4336f63218a4f82c443ef", func := "loop.example/g00611/laws.FnSeals", spec := "fnSeals", unfollowed := true, recurses := true, apart := false, narrowed := true }
def FnSealsUptoSaid : Prop := fnSealsUptoRow.holds Try.pinned (OpenSpec.upto fnSealsSpec)

/-- 'laws.FnMacs', WHERE WHAT IT READS IS OF BULK AT MOST 1048576: true; the input reads as it did. -/
def fnMacsUptoRow : OpenClaim := { program := "ytfjolhpimcmmlaa", sum := "e070a89aafd422ee087f71c6beca05fdb6b7578780d4336f63218a4f82c443ef", func := "loop.example/g00611/laws.FnMacs", spec := "fnMacs", unfollowed := true, recurses := true, apart := false, narrowed := true }
def FnMacsUptoSaid : Prop := fnMacsUptoRow.holds Try.pinned (OpenSpec.upto fnMacsSpec)

/-- 'laws.FnBelows', WHERE WHAT IT READS IS OF BULK AT MOST 1048576: true; the input reads as it did. -/
def fnBelowsUptoRow : OpenClaim := { program := "ytfjolhpimcmmlaa", sum := "e070a89aafd422ee087f71c6beca05fdb6b7578780d4336f63218a4f82c443ef", func := "loop.example/g00611/laws.FnBelows", spec := "fnBelows", unfollowed := true, recurses := true, apart := false, narrowed := true }
def FnBelowsUptoSaid : Prop := fnBelowsUptoRow.holds Try.pinned (OpenSpec.upto fnBelowsSpec)

/-- 'laws.FnShuffles', WHERE WHAT IT READS IS OF BULK AT MOST 1048576: true; the input reads as it did. -/
def fnShufflesUptoRow : OpenClaim := { program := "ytfjolhpimcmmlaa", sum := "e070a89aafd422ee087f71c6beca05fdb6b7578780d4336f63218a4f82c443ef", func := "loop.example/g00611/laws.FnShuffles", spec := "fnShuffles", unfollowed := true, recurses := true, apart := false, narrowed := true }
def FnShufflesUptoSaid : Prop := fnShufflesUptoRow.holds Try.pinned (OpenSpec.upto fnShufflesSpec)

/-- 'laws.FnEven', WHERE WHAT IT READS IS OF BULK AT MOST 1048576: true; the input reads as it did. -/
def fnEvenUptoRow : OpenClaim := { program := "ytfjolhpimcmmlaa", sum := "e070a89aafd422ee087f71c6beca05fdb6b7578780d4336f63218a4f82c443ef", func := "loop.example/g00611/laws.FnEven", spec := "fnEven", unfollowed := true, recurses := true, apart := false, narrowed := true }
def FnEvenUptoSaid : Prop := fnEvenUptoRow.holds Try.pinned (OpenSpec.upto fnEvenSpec)

/-- 'laws.FnOrdered', WHERE WHAT IT READS IS OF BULK AT MOST 1048576: true; the input reads as it did. -/
def fnOrderedUptoRow : OpenClaim := { program := "ytfjolhpimcmmlaa", sum := "e070a89aafd422ee087f71c6beca05fdb6b7578780d4336f63218a4f82c443ef", func := "loop.example/g00611/laws.FnOrdered", spec := "fnOrdered", unfollowed := true, recurses := true, apart := false, narrowed := true }
def FnOrderedUptoSaid : Prop := fnOrderedUptoRow.holds Try.pinned (OpenSpec.upto fnOrderedSpec)

/-- 'laws.FnExactStreamAt', WHERE WHAT IT READS IS OF BULK AT MOST 1048576: true; the input reads as it did. -/
def fnExactStreamAtUptoRow : OpenClaim := { program := "ytfjolhpimcmmlaa", sum := "e070a89aafd422ee087f71c6beca05fdb6b7578780d4336f63218a4f82c443ef", func := "loop.example/g00611/laws.FnExactStreamAt", spec := "fnExactStreamAt", apart := false, narrowed := true }
def FnExactStreamAtUptoSaid : Prop := fnExactStreamAtUptoRow.holds Try.pinned (OpenSpec.upto fnExactStreamAtSpec)

/-- 'laws.FnExactXorWith', WHERE WHAT IT READS IS OF BULK AT MOST 1048576: true; the input reads as it did. -/
def fnExactXorWithUptoRow : OpenClaim := { program := "ytfjolhpimcmmlaa", sum := "e070a89aafd422ee087f71c6beca05fdb6b7578780d4336f63218a4f82c443ef", func := "loop.example/g00611/laws.FnExactXorWith", spec := "fnExactXorWith", unfollowed := true, recurses := true, apart := false, narrowed := true }
def FnExactXorWithUptoSaid : Prop := fnExactXorWithUptoRow.holds Try.pinned (OpenSpec.upto fnExactXorWithSpec)

/-- 'laws.FnExactMac', WHERE WHAT IT READS IS OF BULK AT MOST 1048576: true; the input reads as it did. -/
def fnExactMacUptoRow : OpenClaim := { program := "ytfjolhpimcmmlaa", sum := "e070a89aafd422ee087f71c6beca05fdb6b7578780d4336f63218a4f82c443ef", func := "loop.example/g00611/laws.FnExactMac", spec := "fnExactMac", apart := false, narrowed := true }
def FnExactMacUptoSaid : Prop := fnExactMacUptoRow.holds Try.pinned (OpenSpec.upto fnExactMacSpec)

/-- 'laws.FnExactSeal', WHERE WHAT IT READS IS OF BULK AT MOST 1048576: true; the input reads as it did. -/
def fnExactSealUptoRow : OpenClaim := { program := "ytfjolhpimcmmlaa", sum := "e070a89aafd422ee087f71c6beca05fdb6b7578780d4336f63218a4f82c443ef", func := "loop.example/g00611/laws.FnExactSeal", spec := "fnExactSeal", unfollowed := true, recurses := true, apart := false, narrowed := true }
def FnExactSealUptoSaid : Prop := fnExactSealUptoRow.holds Try.pinned (OpenSpec.upto fnExactSealSpec)

/-- 'laws.FnExactOpen', WHERE WHAT IT READS IS OF BULK AT MOST 1048576: true; the input reads as it did. -/
def fnExactOpenUptoRow : OpenClaim := { program := "ytfjolhpimcmmlaa", sum := "e070a89aafd422ee087f71c6beca05fdb6b7578780d4336f63218a4f82c443ef", func := "loop.example/g00611/laws.FnExactOpen", spec := "fnExactOpen", unfollowed := true, recurses := true, apart := false, narrowed := true }
def FnExactOpenUptoSaid : Prop := fnExactOpenUptoRow.holds Try.pinned (OpenSpec.upto fnExactOpenSpec)

end Rows
end Go.Proofs.Ytfjolhpimcmmlaa
