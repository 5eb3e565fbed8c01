/-
  No cell of these rows narrows 'for every input' (looked for: loops, veiled, ifaces, maps, wideKeys, modest, calm, conditions, laid).
  DERIVED. THE GIVEN ROWS OF THIS SEAT. 10 by the template 'for every input the law returns true; each argument reads behind the call as it read before'; 0 by the template 'total and deterministic' (their statements: YteokfenoomcogaaGreatTotals.lean).
  GIVEN WITH THE SEED: the statements are not yours to turn. If you find one false, say at which input.
  Laid BY PROGRAM, IN A SANDBOX (cutbox-rows.mjs): the forced cells as the released guide's own fill.sh prints them over the translation 0f3bc357cbf6d42e… (all of the seat's roots in one cut). By AI agents, Wed Nov 11 2026. No macro, syntax, notation, axiom, sorry.
-/
import Derived.Test.YteokfenoomcogaaGreatChecked
import GoSem.Claim
import GoSem.ClaimJoined
import GoSem.ClaimMapViews
import Derived.JoinedTies
import Derived.KernelRfl
namespace Go.Proofs.YteokfenoomcogaaGreat
/- THE CELL 'sum', in the pinned program and in every row, IS THE sha256 OF THE DUMP (.gsa) THAT YteokfenoomcogaaGreatProg.lean LOADS. Nothing in Lean hashes anything: it is a label: what it is worth is what the hold of that sum in a sandbox is worth. -/
noncomputable def Tryz.pinned : Pinned := { name := "yteokfenoomcogaagreat", sum := "0f3bc357cbf6d42e461d8915ce13fa761d7020507ab9390da482f0f93b997217", checked := Tryz.checked }
namespace Rows
def none {H : Type} : Left H := { results := [], args := [] }

/-- 'laws.FnExactNetOk': WHATEVER THE INPUT: true; the input reads as it did. -/
def fnExactNetOkSpec : ChangeSpec := { name := "fnExactNetOk", fn := fun _ => fun
  | [d] => { results := [.lit (.bool true)], args := [d] }
  | _ => none }
def fnExactNetOkRow : OpenClaim := { program := "yteokfenoomcogaagreat", sum := "0f3bc357cbf6d42e461d8915ce13fa761d7020507ab9390da482f0f93b997217", func := "loop.example/g00611/laws.FnExactNetOk", spec := "fnExactNetOk", unfollowed := true, recurses := true, apart := false }
def FnExactNetOkSaid : Prop := fnExactNetOkRow.holds Tryz.pinned (OpenSpec.ofChange fnExactNetOkSpec)

/-- ITS FALSE NEIGHBOUR: 'it returns false'. Refute it at one input. -/
def fnExactNetOkWrong : ChangeSpec := { name := "fnExactNetOk", fn := fun _ => fun
  | [d] => { results := [.lit (.bool false)], args := [d] }
  | _ => none }
def FnExactNetOkWrongFalsely : Prop := fnExactNetOkRow.holds Tryz.pinned (OpenSpec.ofChange fnExactNetOkWrong)

/-- 'laws.FnExactOnWay': WHATEVER THE INPUT: true; the input reads as it did. -/
def fnExactOnWaySpec : ChangeSpec := { name := "fnExactOnWay", fn := fun _ => fun
  | [d1, d2] => { results := [.lit (.bool true)], args := [d1, d2] }
  | _ => none }
def fnExactOnWayRow : OpenClaim := { program := "yteokfenoomcogaagreat", sum := "0f3bc357cbf6d42e461d8915ce13fa761d7020507ab9390da482f0f93b997217", func := "loop.example/g00611/laws.FnExactOnWay", spec := "fnExactOnWay", unfollowed := true, recurses := true, apart := false }
def FnExactOnWaySaid : Prop := fnExactOnWayRow.holds Tryz.pinned (OpenSpec.ofChange fnExactOnWaySpec)

/-- ITS FALSE NEIGHBOUR: 'it returns false'. Refute it at one input. -/
def fnExactOnWayWrong : ChangeSpec := { name := "fnExactOnWay", fn := fun _ => fun
  | [d1, d2] => { results := [.lit (.bool false)], args := [d1, d2] }
  | _ => none }
def FnExactOnWayWrongFalsely : Prop := fnExactOnWayRow.holds Tryz.pinned (OpenSpec.ofChange fnExactOnWayWrong)

/-- 'laws.FnExactSentIds': WHATEVER THE INPUT: true; the input reads as it did. -/
def fnExactSentIdsSpec : ChangeSpec := { name := "fnExactSentIds", fn := fun _ => fun
  | [d] => { results := [.lit (.bool true)], args := [d] }
  | _ => none }
def fnExactSentIdsRow : OpenClaim := { program := "yteokfenoomcogaagreat", sum := "0f3bc357cbf6d42e461d8915ce13fa761d7020507ab9390da482f0f93b997217", func := "loop.example/g00611/laws.FnExactSentIds", spec := "fnExactSentIds", unfollowed := true, recurses := true, apart := false }
def FnExactSentIdsSaid : Prop := fnExactSentIdsRow.holds Tryz.pinned (OpenSpec.ofChange fnExactSentIdsSpec)

/-- ITS FALSE NEIGHBOUR: 'it returns false'. Refute it at one input. -/
def fnExactSentIdsWrong : ChangeSpec := { name := "fnExactSentIds", fn := fun _ => fun
  | [d] => { results := [.lit (.bool false)], args := [d] }
  | _ => none }
def FnExactSentIdsWrongFalsely : Prop := fnExactSentIdsRow.holds Tryz.pinned (OpenSpec.ofChange fnExactSentIdsWrong)

/-- 'laws.FnExactResting': WHATEVER THE INPUT: true; the input reads as it did. -/
def fnExactRestingSpec : ChangeSpec := { name := "fnExactResting", fn := fun _ => fun
  | [d] => { results := [.lit (.bool true)], args := [d] }
  | _ => none }
def fnExactRestingRow : OpenClaim := { program := "yteokfenoomcogaagreat", sum := "0f3bc357cbf6d42e461d8915ce13fa761d7020507ab9390da482f0f93b997217", func := "loop.example/g00611/laws.FnExactResting", spec := "fnExactResting", unfollowed := true, recurses := true, apart := false }
def FnExactRestingSaid : Prop := fnExactRestingRow.holds Tryz.pinned (OpenSpec.ofChange fnExactRestingSpec)

/-- ITS FALSE NEIGHBOUR: 'it returns false'. Refute it at one input. -/
def fnExactRestingWrong : ChangeSpec := { name := "fnExactResting", fn := fun _ => fun
  | [d] => { results := [.lit (.bool false)], args := [d] }
  | _ => none }
def FnExactRestingWrongFalsely : Prop := fnExactRestingRow.holds Tryz.pinned (OpenSpec.ofChange fnExactRestingWrong)

/-- 'laws.FnExactSeenAt': WHATEVER THE INPUT: true; the input reads as it did. -/
def fnExactSeenAtSpec : ChangeSpec := { name := "fnExactSeenAt", fn := fun _ => fun
  | [d1, d2] => { results := [.lit (.bool true)], args := [d1, d2] }
  | _ => none }
def fnExactSeenAtRow : OpenClaim := { program := "yteokfenoomcogaagreat", sum := "0f3bc357cbf6d42e461d8915ce13fa761d7020507ab9390da482f0f93b997217", func := "loop.example/g00611/laws.FnExactSeenAt", spec := "fnExactSeenAt", unfollowed := true, recurses := true, apart := false }
def FnExactSeenAtSaid : Prop := fnExactSeenAtRow.holds Tryz.pinned (OpenSpec.ofChange fnExactSeenAtSpec)

/-- ITS FALSE NEIGHBOUR: 'it returns false'. Refute it at one input. -/
def fnExactSeenAtWrong : ChangeSpec := { name := "fnExactSeenAt", fn := fun _ => fun
  | [d1, d2] => { results := [.lit (.bool false)], args := [d1, d2] }
  | _ => none }
def FnExactSeenAtWrongFalsely : Prop := fnExactSeenAtRow.holds Tryz.pinned (OpenSpec.ofChange fnExactSeenAtWrong)

/-- 'laws.FnExactFlows': WHATEVER THE INPUT: true; the input reads as it did. -/
def fnExactFlowsSpec : ChangeSpec := { name := "fnExactFlows", fn := fun _ => fun
  | [d] => { results := [.lit (.bool true)], args := [d] }
  | _ => none }
def fnExactFlowsRow : OpenClaim := { program := "yteokfenoomcogaagreat", sum := "0f3bc357cbf6d42e461d8915ce13fa761d7020507ab9390da482f0f93b997217", func := "loop.example/g00611/laws.FnExactFlows", spec := "fnExactFlows", unfollowed := true, recurses := true, apart := false }
def FnExactFlowsSaid : Prop := fnExactFlowsRow.holds Tryz.pinned (OpenSpec.ofChange fnExactFlowsSpec)

/-- ITS FALSE NEIGHBOUR: 'it returns false'. Refute it at one input. -/
def fnExactFlowsWrong : ChangeSpec := { name := "fnExactFlows", fn := fun _ => fun
  | [d] => { results := [.lit (.bool false)], args := [d] }
  | _ => none }
def FnExactFlowsWrongFalsely : Prop := fnExactFlowsRow.holds Tryz.pinned (OpenSpec.ofChange fnExactFlowsWrong)

/-- 'laws.FnExactHonest': WHATEVER THE INPUT: true; the input reads as it did. -/
def fnExactHonestSpec : ChangeSpec := { name := "fnExactHonest", fn := fun _ => fun
  | [d] => { results := [.lit (.bool true)], args := [d] }
  | _ => none }
def fnExactHonestRow : OpenClaim := { program := "yteokfenoomcogaagreat", sum := "0f3bc357cbf6d42e461d8915ce13fa761d7020507ab9390da482f0f93b997217", func := "loop.example/g00611/laws.FnExactHonest", spec := "fnExactHonest", unfollowed := true, recurses := true, apart := false }
def FnExactHonestSaid : Prop := fnExactHonestRow.holds Tryz.pinned (OpenSpec.ofChange fnExactHonestSpec)

/-- ITS FALSE NEIGHBOUR: 'it returns false'. Refute it at one input. -/
def fnExactHonestWrong : ChangeSpec := { name := "fnExactHonest", fn := fun _ => fun
  | [d] => { results := [.lit (.bool false)], args := [d] }
  | _ => none }
def FnExactHonestWrongFalsely : Prop := fnExactHonestRow.holds Tryz.pinned (OpenSpec.ofChange fnExactHonestWrong)

/-- 'laws.FnExactArrived': WHATEVER THE INPUT: true; the input reads as it did. -/
def fnExactArrivedSpec : ChangeSpec := { name := "fnExactArrived", fn := fun _ => fun
  | [d1, d2] => { results := [.lit (.bool true)], args := [d1, d2] }
  | _ => none }
def fnExactArrivedRow : OpenClaim := { program := "yteokfenoomcogaagreat", sum := "0f3bc357cbf6d42e461d8915ce13fa761d7020507ab9390da482f0f93b997217", func := "loop.example/g00611/laws.FnExactArrived", spec := "fnExactArrived", unfollowed := true, recurses := true, apart := false }
def FnExactArrivedSaid : Prop := fnExactArrivedRow.holds Tryz.pinned (OpenSpec.ofChange fnExactArrivedSpec)

/-- ITS FALSE NEIGHBOUR: 'it returns false'. Refute it at one input. -/
def fnExactArrivedWrong : ChangeSpec := { name := "fnExactArrived", fn := fun _ => fun
  | [d1, d2] => { results := [.lit (.bool false)], args := [d1, d2] }
  | _ => none }
def FnExactArrivedWrongFalsely : Prop := fnExactArrivedRow.holds Tryz.pinned (OpenSpec.ofChange fnExactArrivedWrong)

/-- 'laws.FnExactNetNew': WHATEVER THE INPUT: true; the input reads as it did. -/
def fnExactNetNewSpec : ChangeSpec := { name := "fnExactNetNew", fn := fun _ => fun
  | [d] => { results := [.lit (.bool true)], args := [d] }
  | _ => none }
def fnExactNetNewRow : OpenClaim := { program := "yteokfenoomcogaagreat", sum := "0f3bc357cbf6d42e461d8915ce13fa761d7020507ab9390da482f0f93b997217", func := "loop.example/g00611/laws.FnExactNetNew", spec := "fnExactNetNew", unfollowed := true, recurses := true, apart := false }
def FnExactNetNewSaid : Prop := fnExactNetNewRow.holds Tryz.pinned (OpenSpec.ofChange fnExactNetNewSpec)

/-- ITS FALSE NEIGHBOUR: 'it returns false'. Refute it at one input. -/
def fnExactNetNewWrong : ChangeSpec := { name := "fnExactNetNew", fn := fun _ => fun
  | [d] => { results := [.lit (.bool false)], args := [d] }
  | _ => none }
def FnExactNetNewWrongFalsely : Prop := fnExactNetNewRow.holds Tryz.pinned (OpenSpec.ofChange fnExactNetNewWrong)

/-- 'laws.FnExactForge': WHATEVER THE INPUT: true; the input reads as it did. -/
def fnExactForgeSpec : ChangeSpec := { name := "fnExactForge", fn := fun _ => fun
  | [d1, d2, d3] => { results := [.lit (.bool true)], args := [d1, d2, d3] }
  | _ => none }
def fnExactForgeRow : OpenClaim := { program := "yteokfenoomcogaagreat", sum := "0f3bc357cbf6d42e461d8915ce13fa761d7020507ab9390da482f0f93b997217", func := "loop.example/g00611/laws.FnExactForge", spec := "fnExactForge", unfollowed := true, recurses := true, apart := false }
def FnExactForgeSaid : Prop := fnExactForgeRow.holds Tryz.pinned (OpenSpec.ofChange fnExactForgeSpec)

/-- ITS FALSE NEIGHBOUR: 'it returns false'. Refute it at one input. -/
def fnExactForgeWrong : ChangeSpec := { name := "fnExactForge", fn := fun _ => fun
  | [d1, d2, d3] => { results := [.lit (.bool false)], args := [d1, d2, d3] }
  | _ => none }
def FnExactForgeWrongFalsely : Prop := fnExactForgeRow.holds Tryz.pinned (OpenSpec.ofChange fnExactForgeWrong)

/- THE SECOND FORM. 'bulk': how many values and letters a reading holds, each counted each time it is reached (what is shared counts as often as it is met; a slice's spare places count too). A statement '..UptoSaid' is the law's where the arguments, and the package variables that the reading takes, are together of bulk at most 1048576: NARROWER than '..Said'. Prove '..Said' where nothing that the law and all that it calls make is longer than what came in: it says more and counts as full. Else prove '..UptoSaid'. A law counts once. -/
mutual
def uptoBulk {H : Type} : DataW H → Nat
  | .lit (.string bytes) => bytes.length + 1
  | .lit _ => 1
  | .nil => 1
  | .ptr d => uptoBulk d + 1
  | .slice elems spare => uptoBulkAll elems + uptoBulkAll spare + 1
  | .agg parts => uptoBulkAll parts + 1
  | .iface _ d => uptoBulk d + 1
  | .map entries => uptoBulkEntries entries + 1
  | .held _ => 1
def uptoBulkAll {H : Type} : List (DataW H) → Nat
  | [] => 0
  | d :: r => uptoBulk d + uptoBulkAll r
def uptoBulkEntries {H : Type} : List (Lit × DataW H) → Nat
  | [] => 0
  | x :: r => uptoBulkEntry x + uptoBulkEntries r
def uptoBulkEntry {H : Type} : Lit × DataW H → Nat
  | (.string bytes, d) => bytes.length + uptoBulk d + 1
  | (_, d) => uptoBulk d + 1
 end
def uptoSmall : (H : Type) → List (DataW H) → Bool := fun _ ds => decide (uptoBulkAll ds ≤ 1048576)
def OpenSpec.upto (s : _root_.Go.ChangeSpec) : _root_.Go.OpenSpec := { _root_.Go.OpenSpec.ofChange s with cond := some uptoSmall }

/-- 'laws.FnExactNetOk', WHERE WHAT IT READS IS OF BULK AT MOST 1048576: true; the input reads as it did. -/
def fnExactNetOkUptoRow : OpenClaim := { program := "yteokfenoomcogaagreat", sum := "0f3bc357cbf6d42e461d8915ce13fa761d7020507ab9390da482f0f93b997217", func := "loop.example/g00611/laws.FnExactNetOk", spec := "fnExactNetOk", unfollowed := true, recurses := true, apart := false, narrowed := true }
def FnExactNetOkUptoSaid : Prop := fnExactNetOkUptoRow.holds Tryz.pinned (OpenSpec.upto fnExactNetOkSpec)

/-- 'laws.FnExactOnWay', WHERE WHAT IT READS IS OF BULK AT MOST 1048576: true; the input reads as it did. -/
def fnExactOnWayUptoRow : OpenClaim := { program := "yteokfenoomcogaagreat", sum := "0f3bc357cbf6d42e461d8915ce13fa761d7020507ab9390da482f0f93b997217", func := "loop.example/g00611/laws.FnExactOnWay", spec := "fnExactOnWay", unfollowed := true, recurses := true, apart := false, narrowed := true }
def FnExactOnWayUptoSaid : Prop := fnExactOnWayUptoRow.holds Tryz.pinned (OpenSpec.upto fnExactOnWaySpec)

/-- 'laws.FnExactSentIds', WHERE WHAT IT READS IS OF BULK AT MOST 1048576: true; the input reads as it did. -/
def fnExactSentIdsUptoRow : OpenClaim := { program := "yteokfenoomcogaagreat", sum := "0f3bc357cbf6d42e461d8915ce13fa761d7020507ab9390da482f0f93b997217", func := "loop.example/g00611/laws.FnExactSentIds", spec := "fnExactSentIds", unfollowed := true, recurses := true, apart := false, narrowed := true }
def FnExactSentIdsUptoSaid : Prop := fnExactSentIdsUptoRow.holds Tryz.pinned (OpenSpec.upto fnExactSentIdsSpec)

/-- 'laws.FnExactResting', WHERE WHAT IT READS IS OF BULK AT MOST 1048576: true; the input reads as it did. -/
def fnExactRestingUptoRow : OpenClaim := { program := "yteokfenoomcogaagreat", sum := "0f3bc357cbf6d42e461d8915ce13fa761d7020507ab9390da482f0f93b997217", func := "loop.example/g00611/laws.FnExactResting", spec := "fnExactResting", unfollowed := true, recurses := true, apart := false, narrowed := true }
def FnExactRestingUptoSaid : Prop := fnExactRestingUptoRow.holds Tryz.pinned (OpenSpec.upto fnExactRestingSpec)

/-- 'laws.FnExactSeenAt', WHERE WHAT IT READS IS OF BULK AT MOST 1048576: true; the input reads as it did. -/
def fnExactSeenAtUptoRow : OpenClaim := { program := "yteokfenoomcogaagreat", sum := "0f3bc357cbf6d42e461d8915ce13fa761d7020507ab9390da482f0f93b997217", func := "loop.example/g00611/laws.FnExactSeenAt", spec := "fnExactSeenAt", unfollowed := true, recurses := true, apart := false, narrowed := true }
def FnExactSeenAtUptoSaid : Prop := fnExactSeenAtUptoRow.holds Tryz.pinned (OpenSpec.upto fnExactSeenAtSpec)

/-- 'laws.FnExactFlows', WHERE WHAT IT READS IS OF BULK AT MOST 1048576: true; the input reads as it did. -/
def fnExactFlowsUptoRow : OpenClaim := { program := "yteokfenoomcogaagreat", sum := "0f3bc357cbf6d42e461d8915ce13fa761d7020507ab9390da482f0f93b997217", func := "loop.example/g00611/laws.FnExactFlows", spec := "fnExactFlows", unfollowed := true, recurses := true, apart := false, narrowed := true }
def FnExactFlowsUptoSaid : Prop := fnExactFlowsUptoRow.holds Tryz.pinned (OpenSpec.upto fnExactFlowsSpec)

/-- 'laws.FnExactHonest', WHERE WHAT IT READS IS OF BULK AT MOST 1048576: true; the input reads as it did. -/
def fnExactHonestUptoRow : OpenClaim := { program := "yteokfenoomcogaagreat", sum := "0f3bc357cbf6d42e461d8915ce13fa761d7020507ab9390da482f0f93b997217", func := "loop.example/g00611/laws.FnExactHonest", spec := "fnExactHonest", unfollowed := true, recurses := true, apart := false, narrowed := true }
def FnExactHonestUptoSaid : Prop := fnExactHonestUptoRow.holds Tryz.pinned (OpenSpec.upto fnExactHonestSpec)

/-- 'laws.FnExactArrived', WHERE WHAT IT READS IS OF BULK AT MOST 1048576: true; the input reads as it did. -/
def fnExactArrivedUptoRow : OpenClaim := { program := "yteokfenoomcogaagreat", sum := "0f3bc357cbf6d42e461d8915ce13fa761d7020507ab9390da482f0f93b997217", func := "loop.example/g00611/laws.FnExactArrived", spec := "fnExactArrived", unfollowed := true, recurses := true, apart := false, narrowed := true }
def FnExactArrivedUptoSaid : Prop := fnExactArrivedUptoRow.holds Tryz.pinned (OpenSpec.upto fnExactArrivedSpec)

/-- 'laws.FnExactNetNew', WHERE WHAT IT READS IS OF BULK AT MOST 1048576: true; the input reads as it did. -/
def fnExactNetNewUptoRow : OpenClaim := { program := "yteokfenoomcogaagreat", sum := "0f3bc357cbf6d42e461d8915ce13fa761d7020507ab9390da482f0f93b997217", func := "loop.example/g00611/laws.FnExactNetNew", spec := "fnExactNetNew", unfollowed := true, recurses := true, apart := false, narrowed := true }
def FnExactNetNewUptoSaid : Prop := fnExactNetNewUptoRow.holds Tryz.pinned (OpenSpec.upto fnExactNetNewSpec)

/-- 'laws.FnExactForge', WHERE WHAT IT READS IS OF BULK AT MOST 1048576: true; the input reads as it did. -/
def fnExactForgeUptoRow : OpenClaim := { program := "yteokfenoomcogaagreat", sum := "0f3bc357cbf6d42e461d8915ce13fa761d7020507ab9390da482f0f93b997217", func := "loop.example/g00611/laws.FnExactForge", spec := "fnExactForge", unfollowed := true, recurses := true, apart := false, narrowed := true }
def FnExactForgeUptoSaid : Prop := fnExactForgeUptoRow.holds Tryz.pinned (OpenSpec.upto fnExactForgeSpec)

end Rows
end Go.Proofs.YteokfenoomcogaaGreat
