/-
  LawTwo: texts joined.
-/
import Derived.Test.YtblcfncjghkegaaPGr
import Derived.Lib.SlBytesConst
namespace Go.Proofs.Ytblcfncjghkegaa
open Go.ChangeShapes Go.WideShapes Go.ChangeAt Go.RowKit
open Fld
theorem l_same {w : World} {B B' n m c d : Nat} {A A' : Option Addr} {l r : List Int} (hl : Ints .u8 w B A n l) (hr : Ints .u8 w B' A' m r) :
    Calls Try.prog 13 #[.slice A n c, .slice A' m d] w fun e w' => e = .returned (.bool (decide (l = r))) ∧ w = w' := by
  have g1 := conv_bytes hl c 22 5 9 Try.underlying22 Try.underlying5 Try.underlying9
  have g2 := conv_bytes hr d 22 5 9 Try.underlying22 Try.underlying5 Try.underlying9
  have HN := Lib.hid (nums_eq hl.bytes hr.bytes)
  go_enter Try.func13, Try.ntmps13
  go_wp2
  go_ret
  exact ⟨ret_bool HN.out, rfl⟩
def atV (l : List Int) (i : Int) : Int := if l.length = 0 then 0 else l.getD (i % (l.length : Int)).toNat 0
theorem l_at {w : World} {B n c : Nat} {A : Option Addr} {l : List Int} (i : Int) (hl : Ints .u8 w B A n l) (hn : n ≤ 140737488355328) (h0 : 0 ≤ i) :
    Calls Try.prog 24 #[.slice A n c, .int .i64 i] w fun e w' => e = .returned (.int .i64 (atV l i)) ∧ w = w' := by
  have hlen := hl.1
  by_cases hz : n = 0
  · subst hz
    have H := Lib.hid (show atV l i = 0 from if_pos hlen)
    clear hlen
    go_enter Try.func24, Try.ntmps24
    go_wp2
    go_ret
    exact ⟨ret_i64 H.out.symm, rfl⟩
  · have hby := hl.bytes
    have H : atV l i = l.getD (i % (n : Int)).toNat 0 := by unfold atV; rw [if_neg (by omega), hlen]
    obtain ⟨j, hj⟩ : ∃ j : Nat, i % (n : Int) = j := ⟨(i % (n : Int)).toNat, by have := Int.emod_nonneg i (show (n : Int) ≠ 0 by omega); omega⟩
    have hjn : j < n := by have := Int.emod_lt_of_pos i (show (0 : Int) < n by omega); omega
    obtain ⟨b, off, rfl, _, hc, _⟩ := hl.at_ hjn
    have bx := hby.at_ j
    have d0 : ((n : Int) == 0) = false := by simp; omega
    have r0 := Int.emod_nonneg i (show (n : Int) ≠ 0 by omega)
    have r1 := Int.emod_lt_of_pos i (show (0 : Int) < n by omega)
    have tm : i.tmod (n : Int) = (j : Int) := by rw [Int.tmod_eq_emod_of_nonneg h0, hj]
    rw [hj, Int.toNat_natCast] at H
    obtain ⟨x, hx⟩ : ∃ x, l.getD j 0 = x := ⟨_, rfl⟩
    rw [hx] at hc bx H
    have HH := Lib.hid H
    clear hz hx hj H hlen
    go_enter Try.func24, Try.ntmps24
    go_wp2
    go_ret
    exact ⟨ret_i64 HH.out.symm, rfl⟩
end Go.Proofs.Ytblcfncjghkegaa
