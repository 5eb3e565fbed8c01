/-
  PFor: texts joined.
-/
import Derived.Test.YtaabmaoldhoinaaGreatVGa
namespace Go.Proofs.YtaabmaoldhoinaaGreat
set_option maxRecDepth 100000
set_option linter.unusedVariables false
open Go.ChangeShapes Go.WideShapes Go.ChangeAt Go.RowKit
def fPF (n : Int) : Int := if n < 0 ∨ 160 < n then -1 else if n = 0 then 1 else (n + 19) / 20
theorem fPF_o {n : Int} (h : n < 0 ∨ 160 < n) : fPF n = -1 := if_pos h
theorem fPF_z : fPF 0 = 1 := rfl
theorem fPF_q {n : Int} (h : 1 ≤ n) (h2 : n ≤ 160) : fPF n = (n + 19) / 20 := by unfold fPF; rw [if_neg (by omega), if_neg (by omega)]
theorem i_PiecesFor (n : Int) (w : World) : Calls Tryz.prog 34 #[.int .i64 n] w fun e w' => e = .returned (.int .i64 (fPF n)) ∧ w = w' := by
  by_cases h1 : n < 0
  · rw [fPF_o (.inl h1)]
    go_enter Tryz.func34, Tryz.ntmps34
    go_wp2
    go_ret
    exact ⟨rfl, rfl⟩
  by_cases h2 : 160 < n
  · rw [fPF_o (.inr h2)]
    go_enter Tryz.func34, Tryz.ntmps34
    go_wp2
    go_ret
    exact ⟨rfl, rfl⟩
  by_cases h3 : n = 0
  · subst h3
    rw [fPF_z]
    go_enter Tryz.func34, Tryz.ntmps34
    go_wp2
    go_ret
    exact ⟨rfl, rfl⟩
  rw [fPF_q (by omega) (by omega)]
  go_enter Tryz.func34, Tryz.ntmps34
  go_wp2
  all_goals (go_ret; exact ⟨ret_int (by omega), rfl⟩)
end Go.Proofs.YtaabmaoldhoinaaGreat
