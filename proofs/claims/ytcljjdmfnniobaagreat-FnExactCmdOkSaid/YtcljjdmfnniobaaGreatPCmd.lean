/-
  When a command is in order: contracts of CmdOk of both sides.
-/
import Derived.Test.YtcljjdmfnniobaaGreatCm
namespace Go.Proofs.YtcljjdmfnniobaaGreat
set_option maxRecDepth 100000
set_option linter.unusedVariables false
set_option linter.unusedSimpArgs false
open Go.ChangeShapes Go.WideShapes Go.ChangeAt Go.RowKit
open Fld
attribute [local go_sem ↓] Go.wp_at_zero Go.wp_at_succ
set_option maxHeartbeats 4000000 in
theorem s_CmdOkN {w : World} {A3 A4 : Option Addr} {n3 c3 n4 c4 : Nat} {x0 x1 x2 : Int} {r : List Int} (hr : Ints .i64 w w.heap.size A3 n3 r) (hn : n3 ≤ 1048576) (b : Bool) (T : CmP (Route r) x0 x1 x2 n3 n4 → b = true) (F : ¬ CmP (Route r) x0 x1 x2 n3 n4 → b = false) :
    Calls Tryz.prog 5 #[.agg #[.int .i64 x0, .int .i64 x1, .int .i64 x2, .slice A3 n3 c3, .slice A4 n4 c4]] w fun e w' => e = .returned (.bool b) ∧ Below w.heap.size w w' := by
  have HT := Lib.hid T
  have HF := Lib.hid F
  clear T F
  by_cases ea : x0 < 0
  · obtain rfl := HF.out (fun h => by have := cm_rg h; omega)
    clear HT HF
    go_enter Tryz.func5, Tryz.ntmps5
    go_wp2
    go_ret
    exact ⟨by first | rfl | (simp; done) | (simp; omega), (by repeat (first | (with_reducible exact Below.refl _ _) | (with_reducible assumption) | (with_reducible refine bel_alloc ?_ _) | (with_reducible refine bel_drew ?_) | (with_reducible refine below_drewN ?_ _) | (with_reducible refine bel_put ?_ (by first | exact Nat.le_refl _ | (simp; done) | (simp; omega)) _)))⟩
  by_cases eb : 7 < x0
  · obtain rfl := HF.out (fun h => by have := cm_rg h; omega)
    clear HT HF
    go_enter Tryz.func5, Tryz.ntmps5
    go_wp2
    go_ret
    exact ⟨by first | rfl | (simp; done) | (simp; omega), (by repeat (first | (with_reducible exact Below.refl _ _) | (with_reducible assumption) | (with_reducible refine bel_alloc ?_ _) | (with_reducible refine bel_drew ?_) | (with_reducible refine below_drewN ?_ _) | (with_reducible refine bel_put ?_ (by first | exact Nat.le_refl _ | (simp; done) | (simp; omega)) _)))⟩
  by_cases ec : x1 < 0
  · obtain rfl := HF.out (fun h => by have := cm_rg h; omega)
    clear HT HF
    go_enter Tryz.func5, Tryz.ntmps5
    go_wp2
    go_ret
    exact ⟨by first | rfl | (simp; done) | (simp; omega), (by repeat (first | (with_reducible exact Below.refl _ _) | (with_reducible assumption) | (with_reducible refine bel_alloc ?_ _) | (with_reducible refine bel_drew ?_) | (with_reducible refine below_drewN ?_ _) | (with_reducible refine bel_put ?_ (by first | exact Nat.le_refl _ | (simp; done) | (simp; omega)) _)))⟩
  by_cases ed : x2 < 0
  · obtain rfl := HF.out (fun h => by have := cm_rg h; omega)
    clear HT HF
    go_enter Tryz.func5, Tryz.ntmps5
    go_wp2
    go_ret
    exact ⟨by first | rfl | (simp; done) | (simp; omega), (by repeat (first | (with_reducible exact Below.refl _ _) | (with_reducible assumption) | (with_reducible refine bel_alloc ?_ _) | (with_reducible refine bel_drew ?_) | (with_reducible refine below_drewN ?_ _) | (with_reducible refine bel_put ?_ (by first | exact Nat.le_refl _ | (simp; done) | (simp; omega)) _)))⟩
  by_cases ee : 160 < n4
  · obtain rfl := HF.out (fun h => by have := cm_rg h; omega)
    clear HT HF
    have pe : (160 : Int) < (n4 : Int) := by omega
    have pe2 : ¬ (n4 : Int) ≤ 160 := by omega
    by_cases k0 : x0 = 0
    · subst k0
      go_enter Tryz.func5, Tryz.ntmps5
      go_wp2
      go_ret
      exact ⟨by first | rfl | (simp; done) | (simp; omega), (by repeat (first | (with_reducible exact Below.refl _ _) | (with_reducible assumption) | (with_reducible refine bel_alloc ?_ _) | (with_reducible refine bel_drew ?_) | (with_reducible refine below_drewN ?_ _) | (with_reducible refine bel_put ?_ (by first | exact Nat.le_refl _ | (simp; done) | (simp; omega)) _)))⟩
    · have q0 : (x0 != 0) = true := by simpa using k0
      by_cases k3 : n3 = 0
      · have p3 : ¬ (0 : Int) < (n3 : Int) := by omega
        go_enter Tryz.func5, Tryz.ntmps5
        go_wp2
        go_ret
        exact ⟨by first | rfl | (simp; done) | (simp; omega), (by repeat (first | (with_reducible exact Below.refl _ _) | (with_reducible assumption) | (with_reducible refine bel_alloc ?_ _) | (with_reducible refine bel_drew ?_) | (with_reducible refine below_drewN ?_ _) | (with_reducible refine bel_put ?_ (by first | exact Nat.le_refl _ | (simp; done) | (simp; omega)) _)))⟩
      · have p3 : (0 : Int) < (n3 : Int) := by omega
        go_enter Tryz.func5, Tryz.ntmps5
        go_wp2
        go_ret
        exact ⟨by first | rfl | (simp; done) | (simp; omega), (by repeat (first | (with_reducible exact Below.refl _ _) | (with_reducible assumption) | (with_reducible refine bel_alloc ?_ _) | (with_reducible refine bel_drew ?_) | (with_reducible refine below_drewN ?_ _) | (with_reducible refine bel_put ?_ (by first | exact Nat.le_refl _ | (simp; done) | (simp; omega)) _)))⟩
  have pe : ¬ (160 : Int) < (n4 : Int) := by omega
  have pe2 : (n4 : Int) ≤ 160 := by omega
  by_cases k0 : x0 = 0
  · subst k0
    by_cases hp : Route r
    rotate_left
    · have HRt := Lib.hid (show decide (Route r) = false from decide_eq_false hp)
      obtain rfl := HF.out (fun h => hp (cm0.1 h).2)
      clear HT HF hp
      go_enter Tryz.func5, Tryz.ntmps5
      go_wp2_with (go_at_call 11; refine (s_RouteOk (reach hr (by repeat (first | (with_reducible exact Below.refl _ _) | (with_reducible assumption) | (with_reducible refine bel_alloc ?_ _) | (with_reducible refine bel_drew ?_) | (with_reducible refine below_drewN ?_ _) | (with_reducible refine bel_put ?_ (by first | exact Nat.le_refl _ | (simp; done) | (simp; omega)) _)))) (by omega)).mono ?_; rintro e w1 ⟨rfl, hb1⟩; rw [HRt.out]; have hs1 : Below w.heap.size w w1 := bel_trans (by repeat (first | (with_reducible exact Below.refl _ _) | (with_reducible assumption) | (with_reducible refine bel_alloc ?_ _) | (with_reducible refine bel_drew ?_) | (with_reducible refine below_drewN ?_ _) | (with_reducible refine bel_put ?_ (by first | exact Nat.le_refl _ | (simp; done) | (simp; omega)) _))) hb1; have bx1 : Box w1 w.heap.size 28 #[.int .i64 0, .int .i64 x1, .int .i64 x2, .slice A3 n3 c3, .slice A4 n4 c4] := (Box.new w _ _).below hb1 (by simp); have k1 := bx1.cell 1; have k2 := bx1.cell 2)
      go_ret
      exact ⟨by first | rfl | (simp; done) | (simp; omega), hs1⟩
    have HRt := Lib.hid (show decide (Route r) = true from decide_eq_true hp)
    by_cases g0 : x1 ≤ 255
    rotate_left
    · obtain rfl := HF.out (fun h => g0 (by have := (cm0.1 h).1; omega))
      clear HT HF
      go_enter Tryz.func5, Tryz.ntmps5
      go_wp2_with (go_at_call 11; refine (s_RouteOk (reach hr (by repeat (first | (with_reducible exact Below.refl _ _) | (with_reducible assumption) | (with_reducible refine bel_alloc ?_ _) | (with_reducible refine bel_drew ?_) | (with_reducible refine below_drewN ?_ _) | (with_reducible refine bel_put ?_ (by first | exact Nat.le_refl _ | (simp; done) | (simp; omega)) _)))) (by omega)).mono ?_; rintro e w1 ⟨rfl, hb1⟩; rw [HRt.out]; have hs1 : Below w.heap.size w w1 := bel_trans (by repeat (first | (with_reducible exact Below.refl _ _) | (with_reducible assumption) | (with_reducible refine bel_alloc ?_ _) | (with_reducible refine bel_drew ?_) | (with_reducible refine below_drewN ?_ _) | (with_reducible refine bel_put ?_ (by first | exact Nat.le_refl _ | (simp; done) | (simp; omega)) _))) hb1; have bx1 : Box w1 w.heap.size 28 #[.int .i64 0, .int .i64 x1, .int .i64 x2, .slice A3 n3 c3, .slice A4 n4 c4] := (Box.new w _ _).below hb1 (by simp); have k1 := bx1.cell 1; have k2 := bx1.cell 2)
      go_ret
      exact ⟨by first | rfl | (simp; done) | (simp; omega), hs1⟩
    by_cases g1 : x2 ≤ 65535
    rotate_left
    · obtain rfl := HF.out (fun h => g1 (by have := (cm0.1 h).1; omega))
      clear HT HF
      go_enter Tryz.func5, Tryz.ntmps5
      go_wp2_with (go_at_call 11; refine (s_RouteOk (reach hr (by repeat (first | (with_reducible exact Below.refl _ _) | (with_reducible assumption) | (with_reducible refine bel_alloc ?_ _) | (with_reducible refine bel_drew ?_) | (with_reducible refine below_drewN ?_ _) | (with_reducible refine bel_put ?_ (by first | exact Nat.le_refl _ | (simp; done) | (simp; omega)) _)))) (by omega)).mono ?_; rintro e w1 ⟨rfl, hb1⟩; rw [HRt.out]; have hs1 : Below w.heap.size w w1 := bel_trans (by repeat (first | (with_reducible exact Below.refl _ _) | (with_reducible assumption) | (with_reducible refine bel_alloc ?_ _) | (with_reducible refine bel_drew ?_) | (with_reducible refine below_drewN ?_ _) | (with_reducible refine bel_put ?_ (by first | exact Nat.le_refl _ | (simp; done) | (simp; omega)) _))) hb1; have bx1 : Box w1 w.heap.size 28 #[.int .i64 0, .int .i64 x1, .int .i64 x2, .slice A3 n3 c3, .slice A4 n4 c4] := (Box.new w _ _).below hb1 (by simp); have k1 := bx1.cell 1; have k2 := bx1.cell 2)
      go_ret
      exact ⟨by first | rfl | (simp; done) | (simp; omega), hs1⟩
    obtain rfl := HT.out (by exact cm0.2 ⟨⟨by omega, by omega, by omega, by omega, by omega⟩, hp⟩)
    clear HT HF
    go_enter Tryz.func5, Tryz.ntmps5
    go_wp2_with (go_at_call 11; refine (s_RouteOk (reach hr (by repeat (first | (with_reducible exact Below.refl _ _) | (with_reducible assumption) | (with_reducible refine bel_alloc ?_ _) | (with_reducible refine bel_drew ?_) | (with_reducible refine below_drewN ?_ _) | (with_reducible refine bel_put ?_ (by first | exact Nat.le_refl _ | (simp; done) | (simp; omega)) _)))) (by omega)).mono ?_; rintro e w1 ⟨rfl, hb1⟩; rw [HRt.out]; have hs1 : Below w.heap.size w w1 := bel_trans (by repeat (first | (with_reducible exact Below.refl _ _) | (with_reducible assumption) | (with_reducible refine bel_alloc ?_ _) | (with_reducible refine bel_drew ?_) | (with_reducible refine below_drewN ?_ _) | (with_reducible refine bel_put ?_ (by first | exact Nat.le_refl _ | (simp; done) | (simp; omega)) _))) hb1; have bx1 : Box w1 w.heap.size 28 #[.int .i64 0, .int .i64 x1, .int .i64 x2, .slice A3 n3 c3, .slice A4 n4 c4] := (Box.new w _ _).below hb1 (by simp); have k1 := bx1.cell 1; have k2 := bx1.cell 2)
    go_ret
    exact ⟨by first | rfl | (simp; done) | (simp; omega), hs1⟩
  have q0 : (x0 != 0) = true := by simpa using k0
  by_cases k3 : n3 = 0
  rotate_left
  · obtain rfl := HF.out (fun h => by have := (cmK k0).1 h; omega)
    have p3 : (0 : Int) < (n3 : Int) := by omega
    have p3b : ((n3 : Int) == 0) = false := by simp; omega
    clear HT HF
    go_enter Tryz.func5, Tryz.ntmps5
    go_wp2
    go_ret
    exact ⟨by first | rfl | (simp; done) | (simp; omega), (by repeat (first | (with_reducible exact Below.refl _ _) | (with_reducible assumption) | (with_reducible refine bel_alloc ?_ _) | (with_reducible refine bel_drew ?_) | (with_reducible refine below_drewN ?_ _) | (with_reducible refine bel_put ?_ (by first | exact Nat.le_refl _ | (simp; done) | (simp; omega)) _)))⟩
  have p3 : ¬ (0 : Int) < (n3 : Int) := by omega
  have p3b : ((n3 : Int) == 0) = true := by simp; omega
  obtain hk | hk | hk | hk | hk | hk | hk : x0 = 1 ∨ x0 = 2 ∨ x0 = 3 ∨ x0 = 4 ∨ x0 = 5 ∨ x0 = 6 ∨ x0 = 7 := by omega
  · subst hk
    clear q0
    by_cases g0 : x2 = 0
    rotate_left
    · obtain rfl := HF.out (fun h => g0 (by have := (cmK (by decide)).1 h; omega))
      clear HT HF
      have pn : (x2 == 0) = false := by simp; omega
      have pn2 : (x2 != 0) = true := by simp; omega
      go_enter Tryz.func5, Tryz.ntmps5
      go_wp2
      go_ret
      exact ⟨by first | rfl | (simp; done) | (simp; omega), (by repeat (first | (with_reducible exact Below.refl _ _) | (with_reducible assumption) | (with_reducible refine bel_alloc ?_ _) | (with_reducible refine bel_drew ?_) | (with_reducible refine below_drewN ?_ _) | (with_reducible refine bel_put ?_ (by first | exact Nat.le_refl _ | (simp; done) | (simp; omega)) _)))⟩
    have pn : (x2 == 0) = true := by simp; omega
    have pn2 : (x2 != 0) = false := by simp; omega
    by_cases g1 : n4 = 0
    rotate_left
    · obtain rfl := HF.out (fun h => g1 (by have := (cmK (by decide)).1 h; omega))
      clear HT HF
      have pb : ((n4 : Int) == 0) = false := by simp; omega
      go_enter Tryz.func5, Tryz.ntmps5
      go_wp2
      go_ret
      exact ⟨by first | rfl | (simp; done) | (simp; omega), (by repeat (first | (with_reducible exact Below.refl _ _) | (with_reducible assumption) | (with_reducible refine bel_alloc ?_ _) | (with_reducible refine bel_drew ?_) | (with_reducible refine below_drewN ?_ _) | (with_reducible refine bel_put ?_ (by first | exact Nat.le_refl _ | (simp; done) | (simp; omega)) _)))⟩
    have pb : ((n4 : Int) == 0) = true := by simp; omega
    obtain rfl := HT.out (by exact (cmK (by decide)).2 ⟨by omega, by omega, by omega, by omega, by omega, by omega, by omega, by omega, by omega, by omega⟩)
    clear HT HF
    go_enter Tryz.func5, Tryz.ntmps5
    go_wp2
    go_ret
    exact ⟨by first | rfl | (simp; done) | (simp; omega), (by repeat (first | (with_reducible exact Below.refl _ _) | (with_reducible assumption) | (with_reducible refine bel_alloc ?_ _) | (with_reducible refine bel_drew ?_) | (with_reducible refine below_drewN ?_ _) | (with_reducible refine bel_put ?_ (by first | exact Nat.le_refl _ | (simp; done) | (simp; omega)) _)))⟩
  · subst hk
    clear q0
    by_cases g0 : x2 = 0
    rotate_left
    · obtain rfl := HF.out (fun h => g0 (by have := (cmK (by decide)).1 h; omega))
      clear HT HF
      have pn : (x2 == 0) = false := by simp; omega
      have pn2 : (x2 != 0) = true := by simp; omega
      go_enter Tryz.func5, Tryz.ntmps5
      go_wp2
      go_ret
      exact ⟨by first | rfl | (simp; done) | (simp; omega), (by repeat (first | (with_reducible exact Below.refl _ _) | (with_reducible assumption) | (with_reducible refine bel_alloc ?_ _) | (with_reducible refine bel_drew ?_) | (with_reducible refine below_drewN ?_ _) | (with_reducible refine bel_put ?_ (by first | exact Nat.le_refl _ | (simp; done) | (simp; omega)) _)))⟩
    have pn : (x2 == 0) = true := by simp; omega
    have pn2 : (x2 != 0) = false := by simp; omega
    by_cases g1 : n4 = 0
    rotate_left
    · obtain rfl := HF.out (fun h => g1 (by have := (cmK (by decide)).1 h; omega))
      clear HT HF
      have pb : ((n4 : Int) == 0) = false := by simp; omega
      go_enter Tryz.func5, Tryz.ntmps5
      go_wp2
      go_ret
      exact ⟨by first | rfl | (simp; done) | (simp; omega), (by repeat (first | (with_reducible exact Below.refl _ _) | (with_reducible assumption) | (with_reducible refine bel_alloc ?_ _) | (with_reducible refine bel_drew ?_) | (with_reducible refine below_drewN ?_ _) | (with_reducible refine bel_put ?_ (by first | exact Nat.le_refl _ | (simp; done) | (simp; omega)) _)))⟩
    have pb : ((n4 : Int) == 0) = true := by simp; omega
    obtain rfl := HT.out (by exact (cmK (by decide)).2 ⟨by omega, by omega, by omega, by omega, by omega, by omega, by omega, by omega, by omega, by omega⟩)
    clear HT HF
    go_enter Tryz.func5, Tryz.ntmps5
    go_wp2
    go_ret
    exact ⟨by first | rfl | (simp; done) | (simp; omega), (by repeat (first | (with_reducible exact Below.refl _ _) | (with_reducible assumption) | (with_reducible refine bel_alloc ?_ _) | (with_reducible refine bel_drew ?_) | (with_reducible refine below_drewN ?_ _) | (with_reducible refine bel_put ?_ (by first | exact Nat.le_refl _ | (simp; done) | (simp; omega)) _)))⟩
  · subst hk
    clear q0
    by_cases g0 : x2 = 0
    rotate_left
    · obtain rfl := HF.out (fun h => g0 (by have := (cmK (by decide)).1 h; omega))
      clear HT HF
      have pn : (x2 == 0) = false := by simp; omega
      have pn2 : (x2 != 0) = true := by simp; omega
      go_enter Tryz.func5, Tryz.ntmps5
      go_wp2
      go_ret
      exact ⟨by first | rfl | (simp; done) | (simp; omega), (by repeat (first | (with_reducible exact Below.refl _ _) | (with_reducible assumption) | (with_reducible refine bel_alloc ?_ _) | (with_reducible refine bel_drew ?_) | (with_reducible refine below_drewN ?_ _) | (with_reducible refine bel_put ?_ (by first | exact Nat.le_refl _ | (simp; done) | (simp; omega)) _)))⟩
    have pn : (x2 == 0) = true := by simp; omega
    have pn2 : (x2 != 0) = false := by simp; omega
    by_cases g1 : n4 = 0
    rotate_left
    · obtain rfl := HF.out (fun h => g1 (by have := (cmK (by decide)).1 h; omega))
      clear HT HF
      have pb : ((n4 : Int) == 0) = false := by simp; omega
      go_enter Tryz.func5, Tryz.ntmps5
      go_wp2
      go_ret
      exact ⟨by first | rfl | (simp; done) | (simp; omega), (by repeat (first | (with_reducible exact Below.refl _ _) | (with_reducible assumption) | (with_reducible refine bel_alloc ?_ _) | (with_reducible refine bel_drew ?_) | (with_reducible refine below_drewN ?_ _) | (with_reducible refine bel_put ?_ (by first | exact Nat.le_refl _ | (simp; done) | (simp; omega)) _)))⟩
    have pb : ((n4 : Int) == 0) = true := by simp; omega
    obtain rfl := HT.out (by exact (cmK (by decide)).2 ⟨by omega, by omega, by omega, by omega, by omega, by omega, by omega, by omega, by omega, by omega⟩)
    clear HT HF
    go_enter Tryz.func5, Tryz.ntmps5
    go_wp2
    go_ret
    exact ⟨by first | rfl | (simp; done) | (simp; omega), (by repeat (first | (with_reducible exact Below.refl _ _) | (with_reducible assumption) | (with_reducible refine bel_alloc ?_ _) | (with_reducible refine bel_drew ?_) | (with_reducible refine below_drewN ?_ _) | (with_reducible refine bel_put ?_ (by first | exact Nat.le_refl _ | (simp; done) | (simp; omega)) _)))⟩
  · subst hk
    clear q0
    by_cases g0 : x1 = 0
    rotate_left
    · obtain rfl := HF.out (fun h => g0 (by have := (cmK (by decide)).1 h; omega))
      clear HT HF
      have pz : (x1 == 0) = false := by simp; omega
      go_enter Tryz.func5, Tryz.ntmps5
      go_wp2
      go_ret
      exact ⟨by first | rfl | (simp; done) | (simp; omega), (by repeat (first | (with_reducible exact Below.refl _ _) | (with_reducible assumption) | (with_reducible refine bel_alloc ?_ _) | (with_reducible refine bel_drew ?_) | (with_reducible refine below_drewN ?_ _) | (with_reducible refine bel_put ?_ (by first | exact Nat.le_refl _ | (simp; done) | (simp; omega)) _)))⟩
    have pz : (x1 == 0) = true := by simp; omega
    by_cases g1 : x2 = 0
    rotate_left
    · obtain rfl := HF.out (fun h => g1 (by have := (cmK (by decide)).1 h; omega))
      clear HT HF
      have pn : (x2 == 0) = false := by simp; omega
      have pn2 : (x2 != 0) = true := by simp; omega
      go_enter Tryz.func5, Tryz.ntmps5
      go_wp2
      go_ret
      exact ⟨by first | rfl | (simp; done) | (simp; omega), (by repeat (first | (with_reducible exact Below.refl _ _) | (with_reducible assumption) | (with_reducible refine bel_alloc ?_ _) | (with_reducible refine bel_drew ?_) | (with_reducible refine below_drewN ?_ _) | (with_reducible refine bel_put ?_ (by first | exact Nat.le_refl _ | (simp; done) | (simp; omega)) _)))⟩
    have pn : (x2 == 0) = true := by simp; omega
    have pn2 : (x2 != 0) = false := by simp; omega
    by_cases g2 : n4 = 0
    rotate_left
    · obtain rfl := HF.out (fun h => g2 (by have := (cmK (by decide)).1 h; omega))
      clear HT HF
      have pb : ((n4 : Int) == 0) = false := by simp; omega
      go_enter Tryz.func5, Tryz.ntmps5
      go_wp2
      go_ret
      exact ⟨by first | rfl | (simp; done) | (simp; omega), (by repeat (first | (with_reducible exact Below.refl _ _) | (with_reducible assumption) | (with_reducible refine bel_alloc ?_ _) | (with_reducible refine bel_drew ?_) | (with_reducible refine below_drewN ?_ _) | (with_reducible refine bel_put ?_ (by first | exact Nat.le_refl _ | (simp; done) | (simp; omega)) _)))⟩
    have pb : ((n4 : Int) == 0) = true := by simp; omega
    obtain rfl := HT.out (by exact (cmK (by decide)).2 ⟨by omega, by omega, by omega, by omega, by omega, by omega, by omega, by omega, by omega, by omega⟩)
    clear HT HF
    go_enter Tryz.func5, Tryz.ntmps5
    go_wp2
    go_ret
    exact ⟨by first | rfl | (simp; done) | (simp; omega), (by repeat (first | (with_reducible exact Below.refl _ _) | (with_reducible assumption) | (with_reducible refine bel_alloc ?_ _) | (with_reducible refine bel_drew ?_) | (with_reducible refine below_drewN ?_ _) | (with_reducible refine bel_put ?_ (by first | exact Nat.le_refl _ | (simp; done) | (simp; omega)) _)))⟩
  · subst hk
    clear q0
    by_cases g0 : x1 < 8
    rotate_left
    · obtain rfl := HF.out (fun h => g0 (by have := (cmK (by decide)).1 h; omega))
      clear HT HF
      have pa : 8 ≤ x1 := by omega
      go_enter Tryz.func5, Tryz.ntmps5
      go_wp2
      go_ret
      exact ⟨by first | rfl | (simp; done) | (simp; omega), (by repeat (first | (with_reducible exact Below.refl _ _) | (with_reducible assumption) | (with_reducible refine bel_alloc ?_ _) | (with_reducible refine bel_drew ?_) | (with_reducible refine below_drewN ?_ _) | (with_reducible refine bel_put ?_ (by first | exact Nat.le_refl _ | (simp; done) | (simp; omega)) _)))⟩
    have pa : ¬ 8 ≤ x1 := by omega
    by_cases g1 : 1 ≤ x2
    rotate_left
    · obtain rfl := HF.out (fun h => g1 (by have := (cmK (by decide)).1 h; omega))
      clear HT HF
      go_enter Tryz.func5, Tryz.ntmps5
      go_wp2
      go_ret
      exact ⟨by first | rfl | (simp; done) | (simp; omega), (by repeat (first | (with_reducible exact Below.refl _ _) | (with_reducible assumption) | (with_reducible refine bel_alloc ?_ _) | (with_reducible refine bel_drew ?_) | (with_reducible refine below_drewN ?_ _) | (with_reducible refine bel_put ?_ (by first | exact Nat.le_refl _ | (simp; done) | (simp; omega)) _)))⟩
    by_cases g2 : x2 ≤ 12
    rotate_left
    · obtain rfl := HF.out (fun h => g2 (by have := (cmK (by decide)).1 h; omega))
      clear HT HF
      go_enter Tryz.func5, Tryz.ntmps5
      go_wp2
      go_ret
      exact ⟨by first | rfl | (simp; done) | (simp; omega), (by repeat (first | (with_reducible exact Below.refl _ _) | (with_reducible assumption) | (with_reducible refine bel_alloc ?_ _) | (with_reducible refine bel_drew ?_) | (with_reducible refine below_drewN ?_ _) | (with_reducible refine bel_put ?_ (by first | exact Nat.le_refl _ | (simp; done) | (simp; omega)) _)))⟩
    obtain rfl := HT.out (by exact (cmK (by decide)).2 ⟨by omega, by omega, by omega, by omega, by omega, by omega, by omega, by omega, by omega, by omega⟩)
    clear HT HF
    go_enter Tryz.func5, Tryz.ntmps5
    go_wp2
    go_ret
    exact ⟨by first | rfl | (simp; done) | (simp; omega), (by repeat (first | (with_reducible exact Below.refl _ _) | (with_reducible assumption) | (with_reducible refine bel_alloc ?_ _) | (with_reducible refine bel_drew ?_) | (with_reducible refine below_drewN ?_ _) | (with_reducible refine bel_put ?_ (by first | exact Nat.le_refl _ | (simp; done) | (simp; omega)) _)))⟩
  · subst hk
    clear q0
    by_cases g0 : x1 < 8
    rotate_left
    · obtain rfl := HF.out (fun h => g0 (by have := (cmK (by decide)).1 h; omega))
      clear HT HF
      have pa : 8 ≤ x1 := by omega
      go_enter Tryz.func5, Tryz.ntmps5
      go_wp2
      go_ret
      exact ⟨by first | rfl | (simp; done) | (simp; omega), (by repeat (first | (with_reducible exact Below.refl _ _) | (with_reducible assumption) | (with_reducible refine bel_alloc ?_ _) | (with_reducible refine bel_drew ?_) | (with_reducible refine below_drewN ?_ _) | (with_reducible refine bel_put ?_ (by first | exact Nat.le_refl _ | (simp; done) | (simp; omega)) _)))⟩
    have pa : ¬ 8 ≤ x1 := by omega
    by_cases g1 : x2 = 0
    rotate_left
    · obtain rfl := HF.out (fun h => g1 (by have := (cmK (by decide)).1 h; omega))
      clear HT HF
      have pn : (x2 == 0) = false := by simp; omega
      have pn2 : (x2 != 0) = true := by simp; omega
      go_enter Tryz.func5, Tryz.ntmps5
      go_wp2
      go_ret
      exact ⟨by first | rfl | (simp; done) | (simp; omega), (by repeat (first | (with_reducible exact Below.refl _ _) | (with_reducible assumption) | (with_reducible refine bel_alloc ?_ _) | (with_reducible refine bel_drew ?_) | (with_reducible refine below_drewN ?_ _) | (with_reducible refine bel_put ?_ (by first | exact Nat.le_refl _ | (simp; done) | (simp; omega)) _)))⟩
    have pn : (x2 == 0) = true := by simp; omega
    have pn2 : (x2 != 0) = false := by simp; omega
    by_cases g2 : n4 = 80
    rotate_left
    · obtain rfl := HF.out (fun h => g2 (by have := (cmK (by decide)).1 h; omega))
      clear HT HF
      have pb : ((n4 : Int) == 80) = false := by simp; omega
      go_enter Tryz.func5, Tryz.ntmps5
      go_wp2
      go_ret
      exact ⟨by first | rfl | (simp; done) | (simp; omega), (by repeat (first | (with_reducible exact Below.refl _ _) | (with_reducible assumption) | (with_reducible refine bel_alloc ?_ _) | (with_reducible refine bel_drew ?_) | (with_reducible refine below_drewN ?_ _) | (with_reducible refine bel_put ?_ (by first | exact Nat.le_refl _ | (simp; done) | (simp; omega)) _)))⟩
    have pb : ((n4 : Int) == 80) = true := by simp; omega
    obtain rfl := HT.out (by exact (cmK (by decide)).2 ⟨by omega, by omega, by omega, by omega, by omega, by omega, by omega, by omega, by omega, by omega⟩)
    clear HT HF
    go_enter Tryz.func5, Tryz.ntmps5
    go_wp2
    go_ret
    exact ⟨by first | rfl | (simp; done) | (simp; omega), (by repeat (first | (with_reducible exact Below.refl _ _) | (with_reducible assumption) | (with_reducible refine bel_alloc ?_ _) | (with_reducible refine bel_drew ?_) | (with_reducible refine below_drewN ?_ _) | (with_reducible refine bel_put ?_ (by first | exact Nat.le_refl _ | (simp; done) | (simp; omega)) _)))⟩
  · subst hk
    clear q0
    by_cases g0 : x1 < 8
    rotate_left
    · obtain rfl := HF.out (fun h => g0 (by have := (cmK (by decide)).1 h; omega))
      clear HT HF
      have pa : 8 ≤ x1 := by omega
      go_enter Tryz.func5, Tryz.ntmps5
      go_wp2
      go_ret
      exact ⟨by first | rfl | (simp; done) | (simp; omega), (by repeat (first | (with_reducible exact Below.refl _ _) | (with_reducible assumption) | (with_reducible refine bel_alloc ?_ _) | (with_reducible refine bel_drew ?_) | (with_reducible refine below_drewN ?_ _) | (with_reducible refine bel_put ?_ (by first | exact Nat.le_refl _ | (simp; done) | (simp; omega)) _)))⟩
    have pa : ¬ 8 ≤ x1 := by omega
    by_cases g1 : x2 = 0
    rotate_left
    · obtain rfl := HF.out (fun h => g1 (by have := (cmK (by decide)).1 h; omega))
      clear HT HF
      have pn : (x2 == 0) = false := by simp; omega
      have pn2 : (x2 != 0) = true := by simp; omega
      go_enter Tryz.func5, Tryz.ntmps5
      go_wp2
      go_ret
      exact ⟨by first | rfl | (simp; done) | (simp; omega), (by repeat (first | (with_reducible exact Below.refl _ _) | (with_reducible assumption) | (with_reducible refine bel_alloc ?_ _) | (with_reducible refine bel_drew ?_) | (with_reducible refine below_drewN ?_ _) | (with_reducible refine bel_put ?_ (by first | exact Nat.le_refl _ | (simp; done) | (simp; omega)) _)))⟩
    have pn : (x2 == 0) = true := by simp; omega
    have pn2 : (x2 != 0) = false := by simp; omega
    by_cases g2 : n4 = 0
    rotate_left
    · obtain rfl := HF.out (fun h => g2 (by have := (cmK (by decide)).1 h; omega))
      clear HT HF
      have pb : ((n4 : Int) == 0) = false := by simp; omega
      go_enter Tryz.func5, Tryz.ntmps5
      go_wp2
      go_ret
      exact ⟨by first | rfl | (simp; done) | (simp; omega), (by repeat (first | (with_reducible exact Below.refl _ _) | (with_reducible assumption) | (with_reducible refine bel_alloc ?_ _) | (with_reducible refine bel_drew ?_) | (with_reducible refine below_drewN ?_ _) | (with_reducible refine bel_put ?_ (by first | exact Nat.le_refl _ | (simp; done) | (simp; omega)) _)))⟩
    have pb : ((n4 : Int) == 0) = true := by simp; omega
    obtain rfl := HT.out (by exact (cmK (by decide)).2 ⟨by omega, by omega, by omega, by omega, by omega, by omega, by omega, by omega, by omega, by omega⟩)
    clear HT HF
    go_enter Tryz.func5, Tryz.ntmps5
    go_wp2
    go_ret
    exact ⟨by first | rfl | (simp; done) | (simp; omega), (by repeat (first | (with_reducible exact Below.refl _ _) | (with_reducible assumption) | (with_reducible refine bel_alloc ?_ _) | (with_reducible refine bel_drew ?_) | (with_reducible refine below_drewN ?_ _) | (with_reducible refine bel_put ?_ (by first | exact Nat.le_refl _ | (simp; done) | (simp; omega)) _)))⟩
theorem s_CmdOk {w : World} {cs : List Value} {p : DCmd} (h : tCmd.R w w.heap.size cs p) (hz : szCmd p ≤ 1048576) :
    Calls Tryz.prog 5 #[.agg cs.toArray] w fun e w' => e = .returned (.bool (decide (CmOk p))) ∧ Below w.heap.size w w' := by
  obtain ⟨A3, n3, c3, A4, n4, c4, rfl, hi0, hi1, hi2, ha3, hb3, hl3, hr3, ha4, hb4, hl4, hr4⟩ := openCmd h
  have hz' : p.2.2.2.1.length ≤ 1048576 := by unfold szCmd at hz; omega
  exact s_CmdOkN (slR_ints hr3).1 (by omega) _ (fun hh => decide_eq_true (by unfold CmOk; rw [hl3, hl4]; exact hh)) (fun hh => decide_eq_false (by unfold CmOk; rw [hl3, hl4]; exact hh))
end Go.Proofs.YtcljjdmfnniobaaGreat
