/-
  A slice of a call's own, as a reading; nothing at all, as a slice.
-/
import Derived.Test.YtpapkonejkdkhaaMk
import Derived.Test.YtpapkonejkdkhaaSn
namespace Go.Proofs.Ytpapkonejkdkhaa
open Go.RowKit
theorem own_slice {K : IntKind} {e : TypeId} {w : World} {base : Nat} {v : Value} {l : List Int} (h : Own K e w base v l) : ∃ A c F, v = .slice A l.length c ∧ (tSl K).O w [.slice A l.length c] l F ∧ New base F := by
  obtain ⟨F, hF, hN⟩ := h.tSl
  obtain ⟨A, c, e1, _, _⟩ := slO_one hF
  injection e1 with e1 _
  subst e1
  exact ⟨A, c, F, rfl, hF, hN⟩
theorem nilR {K : IntKind} {w : World} {B : Nat} : (tSl K).R w B [.slice none 0 0] [] := ⟨none, 0, 0, rfl, Nat.le_refl _, by omega, Ints.nil⟩
theorem nilO {K : IntKind} {w : World} : (tSl K).O w [.slice none 0 0] [] [] := .inl ⟨none, 0, rfl, by omega, rfl, rfl⟩
end Go.Proofs.Ytpapkonejkdkhaa
