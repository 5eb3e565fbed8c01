/-
  NfP: texts joined.
-/
import Derived.Test.YtojbicecopkfbaaGreatFGo
import Derived.Test.YtojbicecopkfbaaGreatFGt
namespace Go.Proofs.YtojbicecopkfbaaGreat
set_option linter.unusedVariables false
open Go.ChangeShapes Go.WideShapes Go.ChangeAt Go.RowKit
def NfOk (p : DNode) (x : Int) : Prop := NdOk p ∧ (1 ≤ x ∧ x ≤ 12)
noncomputable instance (p : DNode) (x : Int) : Decidable (NfOk p x) := Classical.propDecidable _
def nfN (p : DNode) (x : Int) (d : List Int) : DNode := (p.1, p.2.1, fFlP p.2.2.1 x d, p.2.2.2.1, p.2.2.2.2)
noncomputable def fNf (p : DNode) (x : Int) (d : List Int) : DNode := if NfOk p x then nfN p x d else nwN 0 0
noncomputable def fNfL (p : DNode) (x : Int) (d : List Int) : List DHeld := if NfOk p x then fFlL p.2.2.1 x d else []
noncomputable def fNfN (p : DNode) (x : Int) (d : List Int) : Int := if NfOk p x then fFlN p.2.2.1 x d else -2
theorem nf_f {p : DNode} {x : Int} {d : List Int} (h : ¬ NfOk p x) : fNf p x d = nwN 0 0 ∧ fNfL p x d = [] ∧ fNfN p x d = -2 := ⟨if_neg h, if_neg h, if_neg h⟩
theorem nf_t {p : DNode} {x : Int} {d : List Int} (h : NfOk p x) : fNf p x d = nfN p x d ∧ fNfL p x d = fFlL p.2.2.1 x d ∧ fNfN p x d = fFlN p.2.2.1 x d := ⟨if_pos h, if_pos h, if_pos h⟩
theorem nfN_sz (p : DNode) (x : Int) (d : List Int) : szNode (nfN p x d) ≤ szNode p := by
  have h1 := fFlP_sz p.2.2.1 x d
  unfold nfN szNode
  simp only []
  omega
theorem fNf_sz (p : DNode) (x : Int) (d : List Int) : szNode (fNf p x d) ≤ szNode p := by
  unfold fNf
  split
  · exact nfN_sz p x d
  · show (0 : Nat) ≤ _; omega
theorem fNfL_sz (p : DNode) (x : Int) {d : List Int} (hd : Bytes d) : rsz szHeld (fNfL p x d) ≤ 6400 := by
  unfold fNfL
  split
  · exact fFlL_sz _ x hd
  · simp [rsz, rsum]
end Go.Proofs.YtojbicecopkfbaaGreat
