/-
  When a command is in order: contract of the program's CmdOk, whole.
-/
import Derived.Test.YtcljjdmfnniobaaGreatPCmdK
import Derived.Test.YtcljjdmfnniobaaGreatPCmd
namespace Go.Proofs.YtcljjdmfnniobaaGreat
set_option linter.unusedVariables false
open Go.RowKit
open Fld
theorem i_CmdOk {w : World} {cs : List Value} {p : DCmd} (h : tCmd.R w w.heap.size cs p) (hz : szCmd p ≤ 1048576) :
    Calls Tryz.prog 7 #[.agg cs.toArray] w fun e w' => e = .returned (.bool (decide (CmOk p))) ∧ Below w.heap.size w w' := by
  obtain ⟨A3, n3, c3, A4, n4, c4, rfl, hi0, hi1, hi2, ha3, hb3, hl3, hr3, ha4, hb4, hl4, hr4⟩ := openCmd h
  obtain ⟨x0, x1, x2, r, l⟩ := p
  dsimp only at *
  subst hl3 hl4
  have hn3 : r.length ≤ 1048576 := by simp only [szCmd] at hz; omega
  have hI := (slR_ints hr3).1
  by_cases hk : 0 ≤ x0 ∧ x0 ≤ 7
  rotate_left
  · rw [decide_eq_false (fun hh : CmOk (x0, x1, x2, r, l) => hk (cm_rg hh).1)]
    exact i_CmdOk_k hI hn3 ha3 hb3 hk
  by_cases h1 : x1 < 0
  · rw [decide_eq_false (fun hh : CmOk (x0, x1, x2, r, l) => by have := (cm_rg hh).2.1; dsimp only at this; omega)]
    exact i_CmdOk_a hI hn3 ha3 hb3 hk h1
  by_cases h2 : x2 < 0
  · rw [decide_eq_false (fun hh : CmOk (x0, x1, x2, r, l) => by have := (cm_rg hh).2.2.1; dsimp only at this; omega)]
    exact i_CmdOk_n hI hn3 ha3 hb3 hk (by omega) h2
  by_cases h3 : 160 < l.length
  · rw [decide_eq_false (fun hh : CmOk (x0, x1, x2, r, l) => by have := (cm_rg hh).2.2.2.1; dsimp only at this; omega)]
    exact i_CmdOk_b hI hn3 ha3 hb3 hk (by omega) (by omega) h3
  obtain hq | hq | hq | hq | hq | hq | hq | hq : x0 = 0 ∨ x0 = 1 ∨ x0 = 2 ∨ x0 = 3 ∨ x0 = 4 ∨ x0 = 5 ∨ x0 = 6 ∨ x0 = 7 := by omega
  · subst hq
    exact i_CmdOk_0 hI hn3 ha3 hb3 (by omega) (by omega) (by omega) _ (fun f => decide_eq_true (show CmP _ 0 x1 x2 r.length l.length from cm0.2 ⟨⟨by omega, by omega, by omega, by omega, by omega⟩, f.1⟩)) (fun f => decide_eq_false (fun hh => f ⟨(cm0.1 (show CmP _ 0 x1 x2 r.length l.length from hh)).2, by have := (cm0.1 (show CmP _ 0 x1 x2 r.length l.length from hh)).1; omega, by have := (cm0.1 (show CmP _ 0 x1 x2 r.length l.length from hh)).1; omega⟩))
  · subst hq
    exact i_CmdOk_1 hI hn3 ha3 hb3 (by omega) (by omega) (by omega) _ (fun f => decide_eq_true (show CmP _ 1 x1 x2 r.length l.length from (cmK (by decide)).2 (by omega))) (fun f => decide_eq_false (fun hh => f (by have := (cmK (by decide)).1 (show CmP _ 1 x1 x2 r.length l.length from hh); omega)))
  · subst hq
    exact i_CmdOk_2 hI hn3 ha3 hb3 (by omega) (by omega) (by omega) _ (fun f => decide_eq_true (show CmP _ 2 x1 x2 r.length l.length from (cmK (by decide)).2 (by omega))) (fun f => decide_eq_false (fun hh => f (by have := (cmK (by decide)).1 (show CmP _ 2 x1 x2 r.length l.length from hh); omega)))
  · subst hq
    exact i_CmdOk_3 hI hn3 ha3 hb3 (by omega) (by omega) (by omega) _ (fun f => decide_eq_true (show CmP _ 3 x1 x2 r.length l.length from (cmK (by decide)).2 (by omega))) (fun f => decide_eq_false (fun hh => f (by have := (cmK (by decide)).1 (show CmP _ 3 x1 x2 r.length l.length from hh); omega)))
  · subst hq
    exact i_CmdOk_4 hI hn3 ha3 hb3 (by omega) (by omega) (by omega) _ (fun f => decide_eq_true (show CmP _ 4 x1 x2 r.length l.length from (cmK (by decide)).2 (by omega))) (fun f => decide_eq_false (fun hh => f (by have := (cmK (by decide)).1 (show CmP _ 4 x1 x2 r.length l.length from hh); omega)))
  · subst hq
    exact i_CmdOk_5 hI hn3 ha3 hb3 (by omega) (by omega) (by omega) _ (fun f => decide_eq_true (show CmP _ 5 x1 x2 r.length l.length from (cmK (by decide)).2 (by omega))) (fun f => decide_eq_false (fun hh => f (by have := (cmK (by decide)).1 (show CmP _ 5 x1 x2 r.length l.length from hh); omega)))
  · subst hq
    exact i_CmdOk_6 hI hn3 ha3 hb3 (by omega) (by omega) (by omega) _ (fun f => decide_eq_true (show CmP _ 6 x1 x2 r.length l.length from (cmK (by decide)).2 (by omega))) (fun f => decide_eq_false (fun hh => f (by have := (cmK (by decide)).1 (show CmP _ 6 x1 x2 r.length l.length from hh); omega)))
  · subst hq
    exact i_CmdOk_7 hI hn3 ha3 hb3 (by omega) (by omega) (by omega) _ (fun f => decide_eq_true (show CmP _ 7 x1 x2 r.length l.length from (cmK (by decide)).2 (by omega))) (fun f => decide_eq_false (fun hh => f (by have := (cmK (by decide)).1 (show CmP _ 7 x1 x2 r.length l.length from hh); omega)))
end Go.Proofs.YtcljjdmfnniobaaGreat
