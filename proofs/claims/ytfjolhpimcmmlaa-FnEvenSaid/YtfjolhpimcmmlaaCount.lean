/-
  Plain counting for the laws of chapter 2: of all single bytes each number comes as often; of all pairs of draws each order of three.
-/
import Derived.Test.YtfjolhpimcmmlaaOrd
namespace Go.Proofs.Ytfjolhpimcmmlaa
/-- How many of the first i bytes give y. -/
def ctB (n : Nat) : Nat → Nat → Nat
  | 0, _ => 0
  | i + 1, y => ctB n i y + (if i < 256 - 256 % n ∧ i % n = y then 1 else 0)
theorem ctB_all : ∀ n ∈ [1, 2, 3, 10, 100, 256], ∀ y < n, ctB n 256 y = 256 / n := by decide +kernel
theorem ctB_le (n : Nat) : ∀ i y, ctB n i y ≤ i
  | 0, _ => Nat.le_refl _
  | i + 1, y => by
    have := ctB_le n i y
    unfold ctB
    split <;> omega
theorem fbel_one {i n : Nat} (hi : i < 256) (hn : 1 ≤ n) (hn2 : n ≤ 256) : fbel [(i : Int)] n = if i < 256 - 256 % n then (((i % n : Nat) : Int), 1) else (-1, 1) := by
  have _hi' := hi
  rw [fbel_t ⟨by omega, by omega⟩]
  have hm : (256 : Int) - 256 % (n : Int) = ((256 - 256 % n : Nat) : Int) := by
    have := Nat.mod_le 256 n
    have e : (256 : Int) % (n : Int) = ((256 % n : Nat) : Int) := rfl
    omega
  by_cases h : i < 256 - 256 % n
  · rw [if_pos h, belP_hit (by simp) (by show (i : Int) < _; rw [hm]; omega)]
    rfl
  · rw [if_neg h, belP_miss (by simp) (by show ¬ (i : Int) < _; rw [hm]; omega), belP_end (by simp)]
end Go.Proofs.Ytfjolhpimcmmlaa
