/-
  No cell of these rows narrows 'for every input' (looked for: loops, veiled, ifaces, maps, wideKeys, modest, calm, conditions, laid).
  DERIVED. THE GIVEN ROWS OF THIS SEAT. 3 by the template 'for every input the law returns true; each argument reads behind the call as it read before'; 0 by the template 'total and deterministic' (their statements: YtaabmaoldhoinaaGreatTotals.lean).
  GIVEN WITH THE SEED: the statements are not yours to turn. If you find one false, say at which input.
  Laid BY PROGRAM, IN A SANDBOX (cutbox-rows.mjs): the forced cells as the released guide's own fill.sh prints them over the translation 9dfc285f108a2041… (all of the seat's roots in one cut). By AI agents, Wed Nov 11 2026. No macro, syntax, notation, axiom, sorry.
-/
import Derived.Test.YtaabmaoldhoinaaGreatChecked
import GoSem.Claim
import GoSem.ClaimJoined
import GoSem.ClaimMapViews
import Derived.JoinedTies
import Derived.KernelRfl
namespace Go.Proofs.YtaabmaoldhoinaaGreat
/- THE CELL 'sum', in the pinned program and in every row, IS THE sha256 OF THE DUMP (.gsa) THAT YtaabmaoldhoinaaGreatProg.lean LOADS. Nothing in Lean hashes anything: it is a label: what it is worth is what the hold of that sum in a sandbox is worth. -/
noncomputable def Tryz.pinned : Pinned := { name := "ytaabmaoldhoinaagreat", sum := "9dfc285f108a2041bb367af81187391c1e5a7b8e1be51612760a2762703503b6", checked := Tryz.checked }
namespace Rows
def none {H : Type} : Left H := { results := [], args := [] }

/-- 'laws.FnExactTakePiece': WHATEVER THE INPUT: true; the input reads as it did. -/
def fnExactTakePieceSpec : ChangeSpec := { name := "fnExactTakePiece", fn := fun _ => fun
  | [d1, d2, d3] => { results := [.lit (.bool true)], args := [d1, d2, d3] }
  | _ => none }
def fnExactTakePieceRow : OpenClaim := { program := "ytaabmaoldhoinaagreat", sum := "9dfc285f108a2041bb367af81187391c1e5a7b8e1be51612760a2762703503b6", func := "loop.example/g00611/laws.FnExactTakePiece", spec := "fnExactTakePiece", unfollowed := true, recurses := true, apart := false }
def FnExactTakePieceSaid : Prop := fnExactTakePieceRow.holds Tryz.pinned (OpenSpec.ofChange fnExactTakePieceSpec)

/-- ITS FALSE NEIGHBOUR: 'it returns false'. Refute it at one input. -/
def fnExactTakePieceWrong : ChangeSpec := { name := "fnExactTakePiece", fn := fun _ => fun
  | [d1, d2, d3] => { results := [.lit (.bool false)], args := [d1, d2, d3] }
  | _ => none }
def FnExactTakePieceWrongFalsely : Prop := fnExactTakePieceRow.holds Tryz.pinned (OpenSpec.ofChange fnExactTakePieceWrong)

/-- 'laws.FnLetsGo': WHATEVER THE INPUT: true; the input reads as it did. -/
def fnLetsGoSpec : ChangeSpec := { name := "fnLetsGo", fn := fun _ => fun
  | [d] => { results := [.lit (.bool true)], args := [d] }
  | _ => none }
def fnLetsGoRow : OpenClaim := { program := "ytaabmaoldhoinaagreat", sum := "9dfc285f108a2041bb367af81187391c1e5a7b8e1be51612760a2762703503b6", func := "loop.example/g00611/laws.FnLetsGo", spec := "fnLetsGo", unfollowed := true, recurses := true, apart := false }
def FnLetsGoSaid : Prop := fnLetsGoRow.holds Tryz.pinned (OpenSpec.ofChange fnLetsGoSpec)

/-- ITS FALSE NEIGHBOUR: 'it returns false'. Refute it at one input. -/
def fnLetsGoWrong : ChangeSpec := { name := "fnLetsGo", fn := fun _ => fun
  | [d] => { results := [.lit (.bool false)], args := [d] }
  | _ => none }
def FnLetsGoWrongFalsely : Prop := fnLetsGoRow.holds Tryz.pinned (OpenSpec.ofChange fnLetsGoWrong)

/-- 'laws.FnDesks': WHATEVER THE INPUT: true; the input reads as it did. -/
def fnDesksSpec : ChangeSpec := { name := "fnDesks", fn := fun _ => fun
  | [d] => { results := [.lit (.bool true)], args := [d] }
  | _ => none }
def fnDesksRow : OpenClaim := { program := "ytaabmaoldhoinaagreat", sum := "9dfc285f108a2041bb367af81187391c1e5a7b8e1be51612760a2762703503b6", func := "loop.example/g00611/laws.FnDesks", spec := "fnDesks", unfollowed := true, recurses := true, apart := false }
def FnDesksSaid : Prop := fnDesksRow.holds Tryz.pinned (OpenSpec.ofChange fnDesksSpec)

/-- ITS FALSE NEIGHBOUR: 'it returns false'. Refute it at one input. -/
def fnDesksWrong : ChangeSpec := { name := "fnDesks", fn := fun _ => fun
  | [d] => { results := [.lit (.bool false)], args := [d] }
  | _ => none }
def FnDesksWrongFalsely : Prop := fnDesksRow.holds Tryz.pinned (OpenSpec.ofChange fnDesksWrong)

/- THE SECOND FORM. 'bulk': how many values and letters a reading holds, each counted each time it is reached (what is shared counts as often as it is met; a slice's spare places count too). A statement '..UptoSaid' is the law's where the arguments, and the package variables that the reading takes, are together of bulk at most 1048576: NARROWER than '..Said'. Prove '..Said' where nothing that the law and all that it calls make is longer than what came in: it says more and counts as full. Else prove '..UptoSaid'. A law counts once. -/
mutual
def uptoBulk {H : Type} : DataW H → Nat
  | .lit (.string bytes) => bytes.length + 1
  | .lit _ => 1
  | .nil => 1
  | .ptr d => uptoBulk d + 1
  | .slice elems spare => uptoBulkAll elems + uptoBulkAll spare + 1
  | .agg parts => uptoBulkAll parts + 1
  | .iface _ d => uptoBulk d + 1
  | .map entries => uptoBulkEntries entries + 1
  | .held _ => 1
def uptoBulkAll {H : Type} : List (DataW H) → Nat
  | [] => 0
  | d :: r => uptoBulk d + uptoBulkAll r
def uptoBulkEntries {H : Type} : List (Lit × DataW H) → Nat
  | [] => 0
  | x :: r => uptoBulkEntry x + uptoBulkEntries r
def uptoBulkEntry {H : Type} : Lit × DataW H → Nat
  | (.string bytes, d) => bytes.length + uptoBulk d + 1
  | (_, d) => uptoBulk d + 1
 end
def uptoSmall : (H : Type) → List (DataW H) → Bool := fun _ ds => decide (uptoBulkAll ds ≤ 1048576)
def OpenSpec.upto (s : _root_.Go.ChangeSpec) : _root_.Go.OpenSpec := { _root_.Go.OpenSpec.ofChange s with cond := some uptoSmall }

/-- 'laws.FnExactTakePiece', WHERE WHAT IT READS IS OF BULK AT MOST 1048576: true; the input reads as it did. -/
def fnExactTakePieceUptoRow : OpenClaim := { program := "ytaabmaoldhoinaagreat", sum := "9dfc285f108a2041bb367af81187391c1e5a7b8e1be51612760a2762703503b6", func := "loop.example/g00611/laws.FnExactTakePiece", spec := "fnExactTakePiece", unfollowed := true, recurses := true, apart := false, narrowed := true }
def FnExactTakePieceUptoSaid : Prop := fnExactTakePieceUptoRow.holds Tryz.pinned (OpenSpec.upto fnExactTakePieceSpec)

/-- 'laws.FnLetsGo', WHERE WHAT IT READS IS OF BULK AT MOST 1048576: true; the input reads as it did. -/
def fnLetsGoUptoRow : OpenClaim := { program := "ytaabmaoldhoinaagreat", sum := "9dfc285f108a2041bb367af81187391c1e5a7b8e1be51612760a2762703503b6", func := "loop.example/g00611/laws.FnLetsGo", spec := "fnLetsGo", unfollowed := true, recurses := true, apart := false, narrowed := true }
def FnLetsGoUptoSaid : Prop := fnLetsGoUptoRow.holds Tryz.pinned (OpenSpec.upto fnLetsGoSpec)

/-- 'laws.FnDesks', WHERE WHAT IT READS IS OF BULK AT MOST 1048576: true; the input reads as it did. -/
def fnDesksUptoRow : OpenClaim := { program := "ytaabmaoldhoinaagreat", sum := "9dfc285f108a2041bb367af81187391c1e5a7b8e1be51612760a2762703503b6", func := "loop.example/g00611/laws.FnDesks", spec := "fnDesks", unfollowed := true, recurses := true, apart := false, narrowed := true }
def FnDesksUptoSaid : Prop := fnDesksUptoRow.holds Tryz.pinned (OpenSpec.upto fnDesksSpec)

end Rows
end Go.Proofs.YtaabmaoldhoinaaGreat
