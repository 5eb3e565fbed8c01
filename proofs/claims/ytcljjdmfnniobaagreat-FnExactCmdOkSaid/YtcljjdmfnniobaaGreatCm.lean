/-
  Commands in order, in plain words.
-/
import Derived.Test.YtcljjdmfnniobaaGreatRoute
import Derived.Test.YtcljjdmfnniobaaGreatMk
namespace Go.Proofs.YtcljjdmfnniobaaGreat
set_option linter.unusedVariables false
/-- Each kind has what it wants, and nothing else (P: the route is one). -/
def CmP (P : Prop) (k a n : Int) (r b : Nat) : Prop :=
  (0 ≤ k ∧ k ≤ 7) ∧ 0 ≤ a ∧ 0 ≤ n ∧ b ≤ 160 ∧ (k ≠ 0 → r = 0) ∧
  (k = 0 → P ∧ a ≤ 255 ∧ n ≤ 65535) ∧ (k = 1 ∨ k = 2 ∨ k = 3 → n = 0 ∧ b = 0) ∧ (k = 4 → a = 0 ∧ n = 0 ∧ b = 0) ∧
  (k = 5 → a < 8 ∧ 1 ≤ n ∧ n ≤ 12) ∧ (k = 6 → a < 8 ∧ n = 0 ∧ b = 80) ∧ (k = 7 → a < 8 ∧ n = 0 ∧ b = 0)
def CmOk (p : DCmd) : Prop := CmP (Route p.2.2.2.1) p.1 p.2.1 p.2.2.1 p.2.2.2.1.length p.2.2.2.2.length
noncomputable instance (p : DCmd) : Decidable (CmOk p) := Classical.propDecidable _
theorem cm_rg {P : Prop} {k a n : Int} {r b : Nat} (h : CmP P k a n r b) : (0 ≤ k ∧ k ≤ 7) ∧ 0 ≤ a ∧ 0 ≤ n ∧ b ≤ 160 ∧ (k ≠ 0 → r = 0) := ⟨h.1, h.2.1, h.2.2.1, h.2.2.2.1, h.2.2.2.2.1⟩
theorem cm0 {P : Prop} {a n : Int} {r b : Nat} : CmP P 0 a n r b ↔ (0 ≤ a ∧ 0 ≤ n ∧ b ≤ 160 ∧ a ≤ 255 ∧ n ≤ 65535) ∧ P := by
  unfold CmP
  constructor
  · intro h
    have h1 := h.2.2.2.2.2.1 rfl
    exact ⟨⟨h.2.1, h.2.2.1, h.2.2.2.1, h1.2.1, h1.2.2⟩, h1.1⟩
  · rintro ⟨h, hp⟩
    exact ⟨by omega, by omega, by omega, by omega, fun e => absurd rfl e, fun _ => ⟨hp, by omega, by omega⟩, by omega, by omega, by omega, by omega, by omega⟩
theorem cmK {P : Prop} {k a n : Int} {r b : Nat} (h0 : k ≠ 0) : CmP P k a n r b ↔ ((0 ≤ k ∧ k ≤ 7) ∧ 0 ≤ a ∧ 0 ≤ n ∧ b ≤ 160 ∧ r = 0 ∧ (k = 1 ∨ k = 2 ∨ k = 3 → n = 0 ∧ b = 0) ∧ (k = 4 → a = 0 ∧ n = 0 ∧ b = 0) ∧
  (k = 5 → a < 8 ∧ 1 ≤ n ∧ n ≤ 12) ∧ (k = 6 → a < 8 ∧ n = 0 ∧ b = 80) ∧ (k = 7 → a < 8 ∧ n = 0 ∧ b = 0)) := by
  unfold CmP
  constructor
  · rintro ⟨h1, h2, h3, h4, h5, -, h6⟩
    exact ⟨h1, h2, h3, h4, h5 h0, h6⟩
  · rintro ⟨h1, h2, h3, h4, h5, h6⟩
    exact ⟨h1, h2, h3, h4, fun _ => h5, fun e => absurd e h0, h6⟩
end Go.Proofs.YtcljjdmfnniobaaGreat
