/- The order of three that two single bytes draw, and how often each comes (FnEven). No program. -/
import Derived.Test.YtfjolhpimcmmlaaCount
namespace Go.Proofs.Ytfjolhpimcmmlaa
open Go Fld
def ordE (a b : Nat) : List Int := swp (swp (iota 3) 2 a) 1 b
def keyE (a b : Nat) : Nat := ((ordE a b).getD 0 0).toNat * 9 + ((ordE a b).getD 1 0).toNat * 3 + ((ordE a b).getD 2 0).toNat
theorem ordE_all : ∀ a < 3, ∀ b < 2, ordE a b = [(((ordE a b).getD 0 0).toNat : Int), (((ordE a b).getD 1 0).toNat : Int), (((ordE a b).getD 2 0).toNat : Int)] ∧ ((ordE a b).getD 0 0).toNat < 3 ∧ ((ordE a b).getD 1 0).toNat < 3 ∧ ((ordE a b).getD 2 0).toNat < 3 := by decide +kernel
theorem ordE_three {a b : Nat} (ha : a < 3) (hb : b < 2) : ∃ x y z : Nat, ordE a b = [(x : Int), (y : Int), (z : Int)] ∧ x < 3 ∧ y < 3 ∧ z < 3 ∧ x * 9 + y * 3 + z = keyE a b := by
  obtain ⟨h1, h2, h3, h4⟩ := ordE_all a ha b hb
  exact ⟨_, _, _, h1, h2, h3, h4, rfl⟩
theorem fshuf_two {i b : Nat} {j : Int} (hi : i < 255) (hj : 0 ≤ j ∧ j < 256) (hb : j % 2 = b) : fshuf [(i : Int), j] 3 = some (ordE (i % 3) b, 2) := by
  have h1 : belP [(i : Int), j] 0 (((1 : Nat) : Int) + 2) = (((i % 3 : Nat) : Int), 1) := by
    rw [belP_hit (by simp) (by show (i : Int) < _; omega)]
    exact Prod.ext (by show (i : Int) % _ = _; omega) rfl
  have h2 : belP [(i : Int), j] 1 (((0 : Nat) : Int) + 2) = ((b : Int), 2) := by
    rw [belP_hit (by simp) (by show j < _; omega)]
    exact Prod.ext (by show j % _ = _; omega) rfl
  rw [fshuf_t ⟨by omega, by omega⟩]
  show shuf [(i : Int), j] (1 + 1) (iota 3) 0 = _
  rw [shuf_yes (by rw [h1]; show ¬ (((i % 3 : Nat) : Int)) < 0; omega), h1]
  show shuf [(i : Int), j] (0 + 1) _ 1 = _
  rw [shuf_yes (by rw [h2]; show ¬ ((b : Int)) < 0; omega), h2, shuf_zero]
  rfl
/-- How often the order of number y comes among the first m draws. -/
def evC : Nat → Nat → Nat
  | 0, _ => 0
  | m + 1, y => evC m y + (if keyE (m / 2 % 3) (m % 2) = y then 1 else 0)
theorem evC_le : ∀ m y, evC m y ≤ m
  | 0, _ => Nat.le_refl _
  | m + 1, y => by
    have := evC_le m y
    unfold evC
    split <;> omega
def nE : Nat → Nat
  | 0 => 0
  | y + 1 => nE y + (if 0 < evC 510 y then 1 else 0)
theorem nE_le : ∀ y, nE y ≤ y
  | 0 => Nat.le_refl _
  | y + 1 => by
    have := nE_le y
    unfold nE
    split <;> omega
theorem evC_all : ∀ y < 27, evC 510 y = 0 ∨ evC 510 y = 85 := by decide +kernel
theorem nE_all : nE 27 = 6 := by decide +kernel
theorem evC_step {k b j : Nat} (hb : b < 2) : evC (2 * k + (b + 1)) j = evC (2 * k + b) j + (if keyE (k % 3) b = j then 1 else 0) := by
  show evC (2 * k + b) j + (if keyE ((2 * k + b) / 2 % 3) ((2 * k + b) % 2) = j then 1 else 0) = _
  rw [show (2 * k + b) / 2 = k from by omega, show (2 * k + b) % 2 = b from by omega]
end Go.Proofs.Ytfjolhpimcmmlaa
