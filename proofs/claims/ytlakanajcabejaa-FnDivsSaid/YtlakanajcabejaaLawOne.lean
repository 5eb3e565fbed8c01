/-
  What the laws of chapter 1 call besides: fields.
-/
import Derived.Test.YtlakanajcabejaaImplOne
namespace Go.Proofs.Ytlakanajcabejaa
open Go.ChangeShapes Go.WideShapes Go.ChangeAt Go.RowKit
open Fld
theorem fx1 : fmul 2 (finv 2) = 1 := by
  rw [finv_t (show Ok 2 from ⟨by omega, by omega⟩), fmul_t (show Ok 2 from ⟨by omega, by omega⟩) (ok_inv 2)]
  exact mul_inv (by omega) (by omega)
theorem fx2 : pubOf 2 = 49 := by
  rw [pubOf_t (show Sec 2 from ⟨by omega, by omega⟩)]; decide +kernel
theorem fx3 : fpow 2 31 = 1 := by
  rw [fpow_t (show Ok 2 from ⟨by omega, by omega⟩) (by omega)]; decide +kernel
theorem l_fields (w : World) : Calls Try.prog 19 #[] w fun e w' => e = .returned (.bool true) ∧ w = w' := by
  have H1 := Lib.hid fx1
  have H2 := Lib.hid fx2
  have H3 := Lib.hid fx3
  go_enter Try.func19, Try.ntmps19
  go_wp2_with (first
    | (go_at_call 21; refine (i_FInv _ _).mono ?_; rintro e w' ⟨rfl, rfl⟩)
    | (go_at_call 17; refine (i_FMul _ _ _).mono ?_; rintro e w' ⟨rfl, rfl⟩; rw [H1.out])
    | (go_at_call 24; refine (i_PubOf _ _).mono ?_; rintro e w' ⟨rfl, rfl⟩; rw [H2.out])
    | (go_at_call 22; refine (i_FPow _ _ _ (by omega)).mono ?_; rintro e w' ⟨rfl, rfl⟩; rw [H3.out]))
  go_ret
  exact ⟨rfl, rfl⟩
end Go.Proofs.Ytlakanajcabejaa
