/-
  LawTwo: texts joined.
-/
import Derived.Test.YtblcfncjghkegaaPGs
import Derived.Lib.SlBytesConst
namespace Go.Proofs.Ytblcfncjghkegaa
open Go.ChangeShapes Go.WideShapes Go.ChangeAt Go.RowKit
open Fld
theorem l_same {w : World} {B B' n m c d : Nat} {A A' : Option Addr} {l r : List Int} (hl : Ints .u8 w B A n l) (hr : Ints .u8 w B' A' m r) :
    Calls Try.prog 13 #[.slice A n c, .slice A' m d] w fun e w' => e = .returned (.bool (decide (l = r))) ∧ w = w' := by
  have g1 := conv_bytes hl c 22 5 9 Try.underlying22 Try.underlying5 Try.underlying9
  have g2 := conv_bytes hr d 22 5 9 Try.underlying22 Try.underlying5 Try.underlying9
  have HN := Lib.hid (nums_eq hl.bytes hr.bytes)
  go_enter Try.func13, Try.ntmps13
  go_wp2
  go_ret
  exact ⟨ret_bool HN.out, rfl⟩
theorem Own.capTwo {k : IntKind} {e : TypeId} {w : World} {base n c : Nat} {A : Option Addr} {l : List Int} (h : Own k e w base (.slice A n c) l) : c ≤ 9223372036854775807 := by
  rcases h.1.2 with ⟨e1, _⟩ | ⟨g, cap, cur, e1, _, _, _, hm, _⟩
  · injection e1 with _ _ e3; subst e3; omega
  · injection e1 with _ _ e3; subst e3; unfold maxLen at hm; omega
end Go.Proofs.Ytblcfncjghkegaa
