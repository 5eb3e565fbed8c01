/-
  For every argument (in all at most 2^20 elements) the program's Has answers as its model does, in every field, writes into no argument, and its answer owns its memory. No further condition.
-/
import Derived.Test.YtpapkonejkdkhaaRows
import Derived.Test.YtpapkonejkdkhaaFr
import Derived.WalkKit
import Derived.ProofKit
import Derived.OpenShut
import Derived.ShutString
import Derived.ChangeOld
import Derived.Below
import Derived.Test.YtpapkonejkdkhaaLDesk
import Derived.Test.YtpapkonejkdkhaaLPiece
import Derived.Test.YtpapkonejkdkhaaPHasS
import Derived.Test.YtpapkonejkdkhaaPHasI
import Derived.Deep.RegionHeld3
namespace Go.Proofs.Ytpapkonejkdkhaa.fnExactHas
open Go.ChangeShapes Go.WideShapes Go.ChangeAt Go.RowKit
open Go.ChangeMaps (open_string shut_string)
set_option linter.unusedVariables false

open Go.Proofs.Ytpapkonejkdkhaa
theorem own : ownKnob Try.prog.godebug = none := by kernel_rfl
theorem laidOut : laidOutB Try.prog = true := by kernel_rfl



/-! ### STEP 1: the walk -/
set_option maxRecDepth 100000 in
set_option maxHeartbeats 2000000 in
theorem walk (cs0 : Array Value) (p0 : DDesk) (cs1 : Array Value) (p1 : DPiece) (w : World) (h0 : tDesk.R w w.heap.size cs0.toList p0) (h1 : tPiece.R w w.heap.size cs1.toList p1) :
    Calls Try.prog 7 #[.agg cs0, .agg cs1] w fun e w' => e = .returned (.bool true) ∧ Below w.heap.size w w' := by
  obtain ⟨cs0⟩ := cs0
  replace h0 : tDesk.R w w.heap.size cs0 p0 := h0
  obtain ⟨Aa00, na00, ca00, Aa01, na01, ca01, rfl, -, -, -, -, -, -, -, -⟩ := openDesk h0
  obtain ⟨cs1⟩ := cs1
  replace h1 : tPiece.R w w.heap.size cs1 p1 := h1
  obtain ⟨Aa13, na13, ca13, rfl, -, -, -, -, -, -, -⟩ := openPiece h1
  by_cases hz0 : szDesk (p0) ≤ 1048576
  rotate_left
  · go_enter Try.func7, Try.ntmps7
    go_wp2_with fail
    refine (o_szDesk_f ((tDesk).reach h0 ?hB) (by omega) (by omega) (by omega)).mono ?_
    all_goals try (case hB => exact (by repeat (first | (with_reducible exact Below.refl _ _) | (with_reducible assumption) | (with_reducible refine bel_alloc ?_ _) | (with_reducible refine bel_drew ?_) | (with_reducible refine below_drewN ?_ _) | (with_reducible refine bel_put ?_ (by first | exact Nat.le_refl _ | (simp; done) | (simp; omega)) _))))
    rintro e W1 ⟨rfl, hb_⟩
    have hs1 : Below w.heap.size w W1 := bel_trans (by repeat (first | (with_reducible exact Below.refl _ _) | (with_reducible assumption) | (with_reducible refine bel_alloc ?_ _) | (with_reducible refine bel_drew ?_) | (with_reducible refine below_drewN ?_ _) | (with_reducible refine bel_put ?_ (by first | exact Nat.le_refl _ | (simp; done) | (simp; omega)) _))) hb_
    have z1 : w.heap.size + 2 ≤ W1.heap.size := by have := hb_.size; simpa using this
    have hB1 : Below w.heap.size w W1 := hs1
    have Ba0 : Box W1 (w.heap.size) 53 #[.slice Aa00 na00 ca00, .slice Aa01 na01 ca01] := Box.below ((Box.new _ _ _).alloc _) hb_ (by first | (simp; done) | (simp; omega))
    have Ba1 : Box W1 (w.heap.size + 1) 55 #[.int .i64 (p1.1), .int .i64 (p1.2.1), .int .i64 (p1.2.2.1), .slice Aa13 na13 ca13] := Box.below (show Box ((w.alloc _).alloc (.cells #[.int .i64 (p1.1), .int .i64 (p1.2.1), .int .i64 (p1.2.2.1), .slice Aa13 na13 ca13] 55)) (w.heap.size + 1) 55 #[.int .i64 (p1.1), .int .i64 (p1.2.1), .int .i64 (p1.2.2.1), .slice Aa13 na13 ca13] from by simpa using Box.new (w.alloc _) 55 #[.int .i64 (p1.1), .int .i64 (p1.2.1), .int .i64 (p1.2.2.1), .slice Aa13 na13 ca13]) hb_ (by first | (simp; done) | (simp; omega))
    have k_Ba0_0 : W1.cell? ⟨w.heap.size, 0, none⟩ = some (.slice Aa00 na00 ca00) := Ba0.cell 0
    have k_Ba0_1 : W1.cell? ⟨w.heap.size, 1, none⟩ = some (.slice Aa01 na01 ca01) := Ba0.cell 1
    have k_Ba1_0 : W1.cell? ⟨w.heap.size + 1, 0, none⟩ = some (.int .i64 (p1.1)) := Ba1.cell 0
    have k_Ba1_1 : W1.cell? ⟨w.heap.size + 1, 1, none⟩ = some (.int .i64 (p1.2.1)) := Ba1.cell 1
    have k_Ba1_2 : W1.cell? ⟨w.heap.size + 1, 2, none⟩ = some (.int .i64 (p1.2.2.1)) := Ba1.cell 2
    have k_Ba1_3 : W1.cell? ⟨w.heap.size + 1, 3, none⟩ = some (.slice Aa13 na13 ca13) := Ba1.cell 3
    go_wp2
    go_ret
    exact ⟨rfl, hB1⟩
  have dz0 : decide ((1048576 : Int) - ((szDesk (p0) : Nat) : Int) < 0) = false := by simp; omega
  by_cases hz1 : szDesk (p0) + szPiece (p1) ≤ 1048576
  rotate_left
  · go_enter Try.func7, Try.ntmps7
    go_wp2_with fail
    refine (o_szDesk_t ((tDesk).reach h0 ?hB) (by omega) (by omega) (by omega)).mono ?_
    all_goals try (case hB => exact (by repeat (first | (with_reducible exact Below.refl _ _) | (with_reducible assumption) | (with_reducible refine bel_alloc ?_ _) | (with_reducible refine bel_drew ?_) | (with_reducible refine below_drewN ?_ _) | (with_reducible refine bel_put ?_ (by first | exact Nat.le_refl _ | (simp; done) | (simp; omega)) _))))
    rintro e W1 ⟨rfl, hb_⟩
    have hs1 : Below w.heap.size w W1 := bel_trans (by repeat (first | (with_reducible exact Below.refl _ _) | (with_reducible assumption) | (with_reducible refine bel_alloc ?_ _) | (with_reducible refine bel_drew ?_) | (with_reducible refine below_drewN ?_ _) | (with_reducible refine bel_put ?_ (by first | exact Nat.le_refl _ | (simp; done) | (simp; omega)) _))) hb_
    have z1 : w.heap.size + 2 ≤ W1.heap.size := by have := hb_.size; simpa using this
    have hB1 : Below w.heap.size w W1 := hs1
    have Ba0 : Box W1 (w.heap.size) 53 #[.slice Aa00 na00 ca00, .slice Aa01 na01 ca01] := Box.below ((Box.new _ _ _).alloc _) hb_ (by first | (simp; done) | (simp; omega))
    have Ba1 : Box W1 (w.heap.size + 1) 55 #[.int .i64 (p1.1), .int .i64 (p1.2.1), .int .i64 (p1.2.2.1), .slice Aa13 na13 ca13] := Box.below (show Box ((w.alloc _).alloc (.cells #[.int .i64 (p1.1), .int .i64 (p1.2.1), .int .i64 (p1.2.2.1), .slice Aa13 na13 ca13] 55)) (w.heap.size + 1) 55 #[.int .i64 (p1.1), .int .i64 (p1.2.1), .int .i64 (p1.2.2.1), .slice Aa13 na13 ca13] from by simpa using Box.new (w.alloc _) 55 #[.int .i64 (p1.1), .int .i64 (p1.2.1), .int .i64 (p1.2.2.1), .slice Aa13 na13 ca13]) hb_ (by first | (simp; done) | (simp; omega))
    have k_Ba0_0 : W1.cell? ⟨w.heap.size, 0, none⟩ = some (.slice Aa00 na00 ca00) := Ba0.cell 0
    have k_Ba0_1 : W1.cell? ⟨w.heap.size, 1, none⟩ = some (.slice Aa01 na01 ca01) := Ba0.cell 1
    have k_Ba1_0 : W1.cell? ⟨w.heap.size + 1, 0, none⟩ = some (.int .i64 (p1.1)) := Ba1.cell 0
    have k_Ba1_1 : W1.cell? ⟨w.heap.size + 1, 1, none⟩ = some (.int .i64 (p1.2.1)) := Ba1.cell 1
    have k_Ba1_2 : W1.cell? ⟨w.heap.size + 1, 2, none⟩ = some (.int .i64 (p1.2.2.1)) := Ba1.cell 2
    have k_Ba1_3 : W1.cell? ⟨w.heap.size + 1, 3, none⟩ = some (.slice Aa13 na13 ca13) := Ba1.cell 3
    clear hb_
    go_wp2_with fail
    refine (o_szPiece_f ((tPiece).reach ((tPiece).reach h1 hB1) ?hB) (by omega) (by omega) (by omega)).mono ?_
    all_goals try (case hB => exact (by repeat (first | (with_reducible exact Below.refl _ _) | (with_reducible assumption) | (with_reducible refine bel_alloc ?_ _) | (with_reducible refine bel_drew ?_) | (with_reducible refine below_drewN ?_ _) | (with_reducible refine bel_put ?_ (by first | exact Nat.le_refl _ | (simp; done) | (simp; omega)) _))))
    rintro e W2 ⟨rfl, hb_⟩
    clear k_Ba0_0 k_Ba0_1
    clear k_Ba1_0 k_Ba1_1 k_Ba1_2 k_Ba1_3
    have hs2 : Below W1.heap.size W1 W2 := bel_trans (by repeat (first | (with_reducible exact Below.refl _ _) | (with_reducible assumption) | (with_reducible refine bel_alloc ?_ _) | (with_reducible refine bel_drew ?_) | (with_reducible refine below_drewN ?_ _) | (with_reducible refine bel_put ?_ (by first | exact Nat.le_refl _ | (simp; done) | (simp; omega)) _))) hb_
    have z2 : W1.heap.size + 0 ≤ W2.heap.size := by have := hb_.size; simpa using this
    have hB2 : Below w.heap.size w W2 := bel_trans hB1 hs2
    replace Ba0 := Ba0.below hs2 Ba0.size
    replace Ba1 := Ba1.below hs2 Ba1.size
    have k_Ba0_0 : W2.cell? ⟨w.heap.size, 0, none⟩ = some (.slice Aa00 na00 ca00) := Ba0.cell 0
    have k_Ba0_1 : W2.cell? ⟨w.heap.size, 1, none⟩ = some (.slice Aa01 na01 ca01) := Ba0.cell 1
    have k_Ba1_0 : W2.cell? ⟨w.heap.size + 1, 0, none⟩ = some (.int .i64 (p1.1)) := Ba1.cell 0
    have k_Ba1_1 : W2.cell? ⟨w.heap.size + 1, 1, none⟩ = some (.int .i64 (p1.2.1)) := Ba1.cell 1
    have k_Ba1_2 : W2.cell? ⟨w.heap.size + 1, 2, none⟩ = some (.int .i64 (p1.2.2.1)) := Ba1.cell 2
    have k_Ba1_3 : W2.cell? ⟨w.heap.size + 1, 3, none⟩ = some (.slice Aa13 na13 ca13) := Ba1.cell 3
    go_wp2
    go_ret
    exact ⟨rfl, hB2⟩
  have dz1 : decide ((1048576 : Int) - ((szDesk (p0) : Nat) : Int) - ((szPiece (p1) : Nat) : Int) < 0) = false := by simp; omega
  obtain ⟨r0, hr0⟩ : ∃ r, fHas p0 p1 = r := ⟨_, rfl⟩
  have HR0 := Lib.hid hr0
  have qr0 : (r0 != r0) = false := by simp
  clear hr0
  have hcp0 := cntDesk_le (p0)
  have hcp1 := cntPiece_le (p1)
  go_enter Try.func7, Try.ntmps7
  go_wp2_with fail
  refine (o_szDesk_t ((tDesk).reach h0 ?hB) (by omega) (by omega) (by omega)).mono ?_
  all_goals try (case hB => exact (by repeat (first | (with_reducible exact Below.refl _ _) | (with_reducible assumption) | (with_reducible refine bel_alloc ?_ _) | (with_reducible refine bel_drew ?_) | (with_reducible refine below_drewN ?_ _) | (with_reducible refine bel_put ?_ (by first | exact Nat.le_refl _ | (simp; done) | (simp; omega)) _))))
  rintro e W1 ⟨rfl, hb_⟩
  have hs1 : Below w.heap.size w W1 := bel_trans (by repeat (first | (with_reducible exact Below.refl _ _) | (with_reducible assumption) | (with_reducible refine bel_alloc ?_ _) | (with_reducible refine bel_drew ?_) | (with_reducible refine below_drewN ?_ _) | (with_reducible refine bel_put ?_ (by first | exact Nat.le_refl _ | (simp; done) | (simp; omega)) _))) hb_
  have z1 : w.heap.size + 2 ≤ W1.heap.size := by have := hb_.size; simpa using this
  have hB1 : Below w.heap.size w W1 := hs1
  have Ba0 : Box W1 (w.heap.size) 53 #[.slice Aa00 na00 ca00, .slice Aa01 na01 ca01] := Box.below ((Box.new _ _ _).alloc _) hb_ (by first | (simp; done) | (simp; omega))
  have Ba1 : Box W1 (w.heap.size + 1) 55 #[.int .i64 (p1.1), .int .i64 (p1.2.1), .int .i64 (p1.2.2.1), .slice Aa13 na13 ca13] := Box.below (show Box ((w.alloc _).alloc (.cells #[.int .i64 (p1.1), .int .i64 (p1.2.1), .int .i64 (p1.2.2.1), .slice Aa13 na13 ca13] 55)) (w.heap.size + 1) 55 #[.int .i64 (p1.1), .int .i64 (p1.2.1), .int .i64 (p1.2.2.1), .slice Aa13 na13 ca13] from by simpa using Box.new (w.alloc _) 55 #[.int .i64 (p1.1), .int .i64 (p1.2.1), .int .i64 (p1.2.2.1), .slice Aa13 na13 ca13]) hb_ (by first | (simp; done) | (simp; omega))
  have k_Ba0_0 : W1.cell? ⟨w.heap.size, 0, none⟩ = some (.slice Aa00 na00 ca00) := Ba0.cell 0
  have k_Ba0_1 : W1.cell? ⟨w.heap.size, 1, none⟩ = some (.slice Aa01 na01 ca01) := Ba0.cell 1
  have k_Ba1_0 : W1.cell? ⟨w.heap.size + 1, 0, none⟩ = some (.int .i64 (p1.1)) := Ba1.cell 0
  have k_Ba1_1 : W1.cell? ⟨w.heap.size + 1, 1, none⟩ = some (.int .i64 (p1.2.1)) := Ba1.cell 1
  have k_Ba1_2 : W1.cell? ⟨w.heap.size + 1, 2, none⟩ = some (.int .i64 (p1.2.2.1)) := Ba1.cell 2
  have k_Ba1_3 : W1.cell? ⟨w.heap.size + 1, 3, none⟩ = some (.slice Aa13 na13 ca13) := Ba1.cell 3
  clear hb_
  go_wp2_with fail
  refine (o_szPiece_t ((tPiece).reach ((tPiece).reach h1 hB1) ?hB) (by omega) (by omega) (by omega)).mono ?_
  all_goals try (case hB => exact (by repeat (first | (with_reducible exact Below.refl _ _) | (with_reducible assumption) | (with_reducible refine bel_alloc ?_ _) | (with_reducible refine bel_drew ?_) | (with_reducible refine below_drewN ?_ _) | (with_reducible refine bel_put ?_ (by first | exact Nat.le_refl _ | (simp; done) | (simp; omega)) _))))
  rintro e W2 ⟨rfl, hb_⟩
  clear k_Ba0_0 k_Ba0_1
  clear k_Ba1_0 k_Ba1_1 k_Ba1_2 k_Ba1_3
  have hs2 : Below W1.heap.size W1 W2 := bel_trans (by repeat (first | (with_reducible exact Below.refl _ _) | (with_reducible assumption) | (with_reducible refine bel_alloc ?_ _) | (with_reducible refine bel_drew ?_) | (with_reducible refine below_drewN ?_ _) | (with_reducible refine bel_put ?_ (by first | exact Nat.le_refl _ | (simp; done) | (simp; omega)) _))) hb_
  have z2 : W1.heap.size + 0 ≤ W2.heap.size := by have := hb_.size; simpa using this
  have hB2 : Below w.heap.size w W2 := bel_trans hB1 hs2
  replace Ba0 := Ba0.below hs2 Ba0.size
  replace Ba1 := Ba1.below hs2 Ba1.size
  have k_Ba0_0 : W2.cell? ⟨w.heap.size, 0, none⟩ = some (.slice Aa00 na00 ca00) := Ba0.cell 0
  have k_Ba0_1 : W2.cell? ⟨w.heap.size, 1, none⟩ = some (.slice Aa01 na01 ca01) := Ba0.cell 1
  have k_Ba1_0 : W2.cell? ⟨w.heap.size + 1, 0, none⟩ = some (.int .i64 (p1.1)) := Ba1.cell 0
  have k_Ba1_1 : W2.cell? ⟨w.heap.size + 1, 1, none⟩ = some (.int .i64 (p1.2.1)) := Ba1.cell 1
  have k_Ba1_2 : W2.cell? ⟨w.heap.size + 1, 2, none⟩ = some (.int .i64 (p1.2.2.1)) := Ba1.cell 2
  have k_Ba1_3 : W2.cell? ⟨w.heap.size + 1, 3, none⟩ = some (.slice Aa13 na13 ca13) := Ba1.cell 3
  clear hb_
  go_wp2_with fail
  go_region_held3 (fun w' => w'.cell? ⟨w.heap.size, 0, none⟩ = some (.slice Aa00 na00 ca00) ∧ w'.cell? ⟨w.heap.size, 1, none⟩ = some (.slice Aa01 na01 ca01) ∧ w'.cell? ⟨w.heap.size + 1, 0, none⟩ = some (.int .i64 (p1.1)) ∧ w'.cell? ⟨w.heap.size + 1, 1, none⟩ = some (.int .i64 (p1.2.1)) ∧ w'.cell? ⟨w.heap.size + 1, 2, none⟩ = some (.int .i64 (p1.2.2.1)) ∧ w'.cell? ⟨w.heap.size + 1, 3, none⟩ = some (.slice Aa13 na13 ca13)) (first | (exact ⟨k_Ba0_0, k_Ba0_1, k_Ba1_0, k_Ba1_1, k_Ba1_2, k_Ba1_3⟩) | (exact ⟨cell_bel (bel_trans (bel_trans hs3 hs4) hs5) k_Ba0_0, cell_bel (bel_trans (bel_trans hs3 hs4) hs5) k_Ba0_1, cell_bel (bel_trans (bel_trans hs3 hs4) hs5) k_Ba1_0, cell_bel (bel_trans (bel_trans hs3 hs4) hs5) k_Ba1_1, cell_bel (bel_trans (bel_trans hs3 hs4) hs5) k_Ba1_2, cell_bel (bel_trans (bel_trans hs3 hs4) hs5) k_Ba1_3⟩) | (exact ⟨cell_bel (bel_trans hs3 hs4) k_Ba0_0, cell_bel (bel_trans hs3 hs4) k_Ba0_1, cell_bel (bel_trans hs3 hs4) k_Ba1_0, cell_bel (bel_trans hs3 hs4) k_Ba1_1, cell_bel (bel_trans hs3 hs4) k_Ba1_2, cell_bel (bel_trans hs3 hs4) k_Ba1_3⟩) | (exact ⟨cell_bel hs3 k_Ba0_0, cell_bel hs3 k_Ba0_1, cell_bel hs3 k_Ba1_0, cell_bel hs3 k_Ba1_1, cell_bel hs3 k_Ba1_2, cell_bel hs3 k_Ba1_3⟩) | go_keep)
    (first
      | (go_at_call 35; refine (s_Has ((tDesk).reach ((tDesk).read (Ty.below (t := tDesk) o_y0 hs4)) (by repeat (first | (with_reducible exact Below.refl _ _) | (with_reducible assumption) | (with_reducible refine bel_alloc ?_ _) | (with_reducible refine bel_drew ?_) | (with_reducible refine below_drewN ?_ _) | (with_reducible refine bel_put ?_ (by first | exact Nat.le_refl _ | (simp; done) | (simp; omega)) _)))) (by omega) ((tPiece).reach ((tPiece).read o_y1) (by repeat (first | (with_reducible exact Below.refl _ _) | (with_reducible assumption) | (with_reducible refine bel_alloc ?_ _) | (with_reducible refine bel_drew ?_) | (with_reducible refine below_drewN ?_ _) | (with_reducible refine bel_put ?_ (by first | exact Nat.le_refl _ | (simp; done) | (simp; omega)) _)))) (by omega)).mono ?_; rintro e W5 ⟨rfl, hb_⟩; have hs5 : Below W4.heap.size W4 W5 := bel_trans (by repeat (first | (with_reducible exact Below.refl _ _) | (with_reducible assumption) | (with_reducible refine bel_alloc ?_ _) | (with_reducible refine bel_drew ?_) | (with_reducible refine below_drewN ?_ _) | (with_reducible refine bel_put ?_ (by first | exact Nat.le_refl _ | (simp; done) | (simp; omega)) _))) hb_)
      | (go_at_call 37; refine (o_toPiece ((tPiece).reach ((tPiece).reach h1 (bel_trans hB2 hs3)) (by repeat (first | (with_reducible exact Below.refl _ _) | (with_reducible assumption) | (with_reducible refine bel_alloc ?_ _) | (with_reducible refine bel_drew ?_) | (with_reducible refine below_drewN ?_ _) | (with_reducible refine bel_put ?_ (by first | exact Nat.le_refl _ | (simp; done) | (simp; omega)) _)))) (by omega)).mono ?_; rintro e W4 ⟨csy1, Fy1, rfl, o_y1, Ny1, hb_4⟩; have hs4 : Below W3.heap.size W3 W4 := bel_trans (by repeat (first | (with_reducible exact Below.refl _ _) | (with_reducible assumption) | (with_reducible refine bel_alloc ?_ _) | (with_reducible refine bel_drew ?_) | (with_reducible refine below_drewN ?_ _) | (with_reducible refine bel_put ?_ (by first | exact Nat.le_refl _ | (simp; done) | (simp; omega)) _))) hb_4)
      | (go_at_call 36; refine (o_toDesk ((tDesk).reach ((tDesk).reach h0 hB2) (by repeat (first | (with_reducible exact Below.refl _ _) | (with_reducible assumption) | (with_reducible refine bel_alloc ?_ _) | (with_reducible refine bel_drew ?_) | (with_reducible refine below_drewN ?_ _) | (with_reducible refine bel_put ?_ (by first | exact Nat.le_refl _ | (simp; done) | (simp; omega)) _)))) (by omega)).mono ?_; rintro e W3 ⟨csy0, Fy0, rfl, o_y0, Ny0, hb_3⟩; have hs3 : Below W2.heap.size W2 W3 := bel_trans (by repeat (first | (with_reducible exact Below.refl _ _) | (with_reducible assumption) | (with_reducible refine bel_alloc ?_ _) | (with_reducible refine bel_drew ?_) | (with_reducible refine below_drewN ?_ _) | (with_reducible refine bel_put ?_ (by first | exact Nat.le_refl _ | (simp; done) | (simp; omega)) _))) hb_3))
  have hsx5 : Below W2.heap.size W2 W5 := (bel_trans (bel_trans hs3 hs4) hs5)
  clear k_Ba0_0 k_Ba0_1
  clear k_Ba1_0 k_Ba1_1 k_Ba1_2 k_Ba1_3
  have z5 : W2.heap.size + 0 ≤ W5.heap.size := by have := hs3.size; have := hs4.size; have := hs5.size; omega
  have zp5 : W2.heap.size + 0 ≤ W4.heap.size := by have := hs3.size; have := hs4.size; omega
  have hB5 : Below w.heap.size w W5 := bel_trans hB2 hsx5
  replace Ba0 := Ba0.below hsx5 Ba0.size
  replace Ba1 := Ba1.below hsx5 Ba1.size
  clear o_y0 Ny0
  clear o_y1 Ny1
  clear hb_3 hb_4 hs3 hs4 hs5
  have k_Ba0_0 : W5.cell? ⟨w.heap.size, 0, none⟩ = some (.slice Aa00 na00 ca00) := Ba0.cell 0
  have k_Ba0_1 : W5.cell? ⟨w.heap.size, 1, none⟩ = some (.slice Aa01 na01 ca01) := Ba0.cell 1
  have k_Ba1_0 : W5.cell? ⟨w.heap.size + 1, 0, none⟩ = some (.int .i64 (p1.1)) := Ba1.cell 0
  have k_Ba1_1 : W5.cell? ⟨w.heap.size + 1, 1, none⟩ = some (.int .i64 (p1.2.1)) := Ba1.cell 1
  have k_Ba1_2 : W5.cell? ⟨w.heap.size + 1, 2, none⟩ = some (.int .i64 (p1.2.2.1)) := Ba1.cell 2
  have k_Ba1_3 : W5.cell? ⟨w.heap.size + 1, 3, none⟩ = some (.slice Aa13 na13 ca13) := Ba1.cell 3
  rw [HR0.out]
  clear hb_
  go_wp2_with fail
  refine (o_toDesk ((tDesk).reach ((tDesk).reach h0 hB5) ?hB) (by omega)).mono ?_
  all_goals try (case hB => exact (by repeat (first | (with_reducible exact Below.refl _ _) | (with_reducible assumption) | (with_reducible refine bel_alloc ?_ _) | (with_reducible refine bel_drew ?_) | (with_reducible refine below_drewN ?_ _) | (with_reducible refine bel_put ?_ (by first | exact Nat.le_refl _ | (simp; done) | (simp; omega)) _))))
  rintro e W6 ⟨csx0, Fx0, rfl, o_x0, Nx0, hb_⟩
  clear k_Ba0_0 k_Ba0_1
  clear k_Ba1_0 k_Ba1_1 k_Ba1_2 k_Ba1_3
  have Ix0 : ∀ f ∈ Fx0, W5.heap.size + 0 ≤ f ∧ f < W6.heap.size := fun f hf => ⟨Nat.le_trans (by first | (simp; done) | (simp; omega)) (Nx0.2 f hf), (tDesk).lt o_x0 f hf⟩
  have Dx0 := Nx0.1
  clear Nx0
  obtain ⟨Ax00, cx00, Fx00, Ax01, cx01, Fx01, rfl, -, -, -, -, -, -, -⟩ := openODesk o_x0
  have hs6 : Below W5.heap.size W5 W6 := bel_trans (by repeat (first | (with_reducible exact Below.refl _ _) | (with_reducible assumption) | (with_reducible refine bel_alloc ?_ _) | (with_reducible refine bel_drew ?_) | (with_reducible refine below_drewN ?_ _) | (with_reducible refine bel_put ?_ (by first | exact Nat.le_refl _ | (simp; done) | (simp; omega)) _))) hb_
  have z6 : W5.heap.size + 0 ≤ W6.heap.size := by have := hb_.size; simpa using this
  have hB6 : Below w.heap.size w W6 := bel_trans hB5 hs6
  replace Ba0 := Ba0.below hs6 Ba0.size
  replace Ba1 := Ba1.below hs6 Ba1.size
  have k_Ba0_0 : W6.cell? ⟨w.heap.size, 0, none⟩ = some (.slice Aa00 na00 ca00) := Ba0.cell 0
  have k_Ba0_1 : W6.cell? ⟨w.heap.size, 1, none⟩ = some (.slice Aa01 na01 ca01) := Ba0.cell 1
  have k_Ba1_0 : W6.cell? ⟨w.heap.size + 1, 0, none⟩ = some (.int .i64 (p1.1)) := Ba1.cell 0
  have k_Ba1_1 : W6.cell? ⟨w.heap.size + 1, 1, none⟩ = some (.int .i64 (p1.2.1)) := Ba1.cell 1
  have k_Ba1_2 : W6.cell? ⟨w.heap.size + 1, 2, none⟩ = some (.int .i64 (p1.2.2.1)) := Ba1.cell 2
  have k_Ba1_3 : W6.cell? ⟨w.heap.size + 1, 3, none⟩ = some (.slice Aa13 na13 ca13) := Ba1.cell 3
  clear hb_
  have d_Ba0_0 : (W6.alloc (.cells #[.slice Ax00 (p0.1).length cx00, .slice Ax01 (p0.2).length cx01] 61)).cell? ⟨w.heap.size, 0, none⟩ = some (.slice Aa00 na00 ca00) := (Ba0.alloc _).cell 0
  have d_Ba0_1 : (W6.alloc (.cells #[.slice Ax00 (p0.1).length cx00, .slice Ax01 (p0.2).length cx01] 61)).cell? ⟨w.heap.size, 1, none⟩ = some (.slice Aa01 na01 ca01) := (Ba0.alloc _).cell 1
  have d_Ba1_0 : (W6.alloc (.cells #[.slice Ax00 (p0.1).length cx00, .slice Ax01 (p0.2).length cx01] 61)).cell? ⟨w.heap.size + 1, 0, none⟩ = some (.int .i64 (p1.1)) := (Ba1.alloc _).cell 0
  have d_Ba1_1 : (W6.alloc (.cells #[.slice Ax00 (p0.1).length cx00, .slice Ax01 (p0.2).length cx01] 61)).cell? ⟨w.heap.size + 1, 1, none⟩ = some (.int .i64 (p1.2.1)) := (Ba1.alloc _).cell 1
  have d_Ba1_2 : (W6.alloc (.cells #[.slice Ax00 (p0.1).length cx00, .slice Ax01 (p0.2).length cx01] 61)).cell? ⟨w.heap.size + 1, 2, none⟩ = some (.int .i64 (p1.2.2.1)) := (Ba1.alloc _).cell 2
  have d_Ba1_3 : (W6.alloc (.cells #[.slice Ax00 (p0.1).length cx00, .slice Ax01 (p0.2).length cx01] 61)).cell? ⟨w.heap.size + 1, 3, none⟩ = some (.slice Aa13 na13 ca13) := (Ba1.alloc _).cell 3
  go_wp2_with fail
  refine (o_toPiece ((tPiece).reach ((tPiece).reach h1 hB6) ?hB) (by omega)).mono ?_
  all_goals try (case hB => exact (by repeat (first | (with_reducible exact Below.refl _ _) | (with_reducible assumption) | (with_reducible refine bel_alloc ?_ _) | (with_reducible refine bel_drew ?_) | (with_reducible refine below_drewN ?_ _) | (with_reducible refine bel_put ?_ (by first | exact Nat.le_refl _ | (simp; done) | (simp; omega)) _))))
  rintro e W7 ⟨csx1, Fx1, rfl, o_x1, Nx1, hb_⟩
  clear d_Ba0_0 d_Ba0_1 d_Ba1_0 d_Ba1_1 d_Ba1_2 d_Ba1_3
  clear k_Ba0_0 k_Ba0_1
  clear k_Ba1_0 k_Ba1_1 k_Ba1_2 k_Ba1_3
  have Ix1 : ∀ f ∈ Fx1, W6.heap.size + 1 ≤ f ∧ f < W7.heap.size := fun f hf => ⟨Nat.le_trans (by first | (simp; done) | (simp; omega)) (Nx1.2 f hf), (tPiece).lt o_x1 f hf⟩
  have Dx1 := Nx1.1
  clear Nx1
  obtain ⟨Ax13, cx13, Fx13, rfl, -, -, -, -, -, -, -⟩ := openOPiece o_x1
  have hs7 : Below W6.heap.size W6 W7 := bel_trans (by repeat (first | (with_reducible exact Below.refl _ _) | (with_reducible assumption) | (with_reducible refine bel_alloc ?_ _) | (with_reducible refine bel_drew ?_) | (with_reducible refine below_drewN ?_ _) | (with_reducible refine bel_put ?_ (by first | exact Nat.le_refl _ | (simp; done) | (simp; omega)) _))) hb_
  have z7 : W6.heap.size + 1 ≤ W7.heap.size := by have := hb_.size; simpa using this
  have hB7 : Below w.heap.size w W7 := bel_trans hB6 hs7
  replace Ba0 := Ba0.below hs7 Ba0.size
  replace Ba1 := Ba1.below hs7 Ba1.size
  have Bx0 : Box W7 (W6.heap.size) 61 #[.slice Ax00 (p0.1).length cx00, .slice Ax01 (p0.2).length cx01] := Box.below (Box.new _ _ _) hb_ (by first | (simp; done) | (simp; omega))
  replace o_x0 := Ty.below (t := tDesk) o_x0 hs7
  have k_Ba0_0 : W7.cell? ⟨w.heap.size, 0, none⟩ = some (.slice Aa00 na00 ca00) := Ba0.cell 0
  have k_Ba0_1 : W7.cell? ⟨w.heap.size, 1, none⟩ = some (.slice Aa01 na01 ca01) := Ba0.cell 1
  have k_Ba1_0 : W7.cell? ⟨w.heap.size + 1, 0, none⟩ = some (.int .i64 (p1.1)) := Ba1.cell 0
  have k_Ba1_1 : W7.cell? ⟨w.heap.size + 1, 1, none⟩ = some (.int .i64 (p1.2.1)) := Ba1.cell 1
  have k_Ba1_2 : W7.cell? ⟨w.heap.size + 1, 2, none⟩ = some (.int .i64 (p1.2.2.1)) := Ba1.cell 2
  have k_Ba1_3 : W7.cell? ⟨w.heap.size + 1, 3, none⟩ = some (.slice Aa13 na13 ca13) := Ba1.cell 3
  have k_Bx0_0 : W7.cell? ⟨W6.heap.size, 0, none⟩ = some (.slice Ax00 (p0.1).length cx00) := Bx0.cell 0
  have k_Bx0_1 : W7.cell? ⟨W6.heap.size, 1, none⟩ = some (.slice Ax01 (p0.2).length cx01) := Bx0.cell 1
  clear hb_
  have d_Ba0_0 : (W7.alloc (.cells #[.int .i64 (p1.1), .int .i64 (p1.2.1), .int .i64 (p1.2.2.1), .slice Ax13 (p1.2.2.2).length cx13] 63)).cell? ⟨w.heap.size, 0, none⟩ = some (.slice Aa00 na00 ca00) := (Ba0.alloc _).cell 0
  have d_Ba0_1 : (W7.alloc (.cells #[.int .i64 (p1.1), .int .i64 (p1.2.1), .int .i64 (p1.2.2.1), .slice Ax13 (p1.2.2.2).length cx13] 63)).cell? ⟨w.heap.size, 1, none⟩ = some (.slice Aa01 na01 ca01) := (Ba0.alloc _).cell 1
  have d_Ba1_0 : (W7.alloc (.cells #[.int .i64 (p1.1), .int .i64 (p1.2.1), .int .i64 (p1.2.2.1), .slice Ax13 (p1.2.2.2).length cx13] 63)).cell? ⟨w.heap.size + 1, 0, none⟩ = some (.int .i64 (p1.1)) := (Ba1.alloc _).cell 0
  have d_Ba1_1 : (W7.alloc (.cells #[.int .i64 (p1.1), .int .i64 (p1.2.1), .int .i64 (p1.2.2.1), .slice Ax13 (p1.2.2.2).length cx13] 63)).cell? ⟨w.heap.size + 1, 1, none⟩ = some (.int .i64 (p1.2.1)) := (Ba1.alloc _).cell 1
  have d_Ba1_2 : (W7.alloc (.cells #[.int .i64 (p1.1), .int .i64 (p1.2.1), .int .i64 (p1.2.2.1), .slice Ax13 (p1.2.2.2).length cx13] 63)).cell? ⟨w.heap.size + 1, 2, none⟩ = some (.int .i64 (p1.2.2.1)) := (Ba1.alloc _).cell 2
  have d_Ba1_3 : (W7.alloc (.cells #[.int .i64 (p1.1), .int .i64 (p1.2.1), .int .i64 (p1.2.2.1), .slice Ax13 (p1.2.2.2).length cx13] 63)).cell? ⟨w.heap.size + 1, 3, none⟩ = some (.slice Aa13 na13 ca13) := (Ba1.alloc _).cell 3
  have d_Bx0_0 : (W7.alloc (.cells #[.int .i64 (p1.1), .int .i64 (p1.2.1), .int .i64 (p1.2.2.1), .slice Ax13 (p1.2.2.2).length cx13] 63)).cell? ⟨W6.heap.size, 0, none⟩ = some (.slice Ax00 (p0.1).length cx00) := (Bx0.alloc _).cell 0
  have d_Bx0_1 : (W7.alloc (.cells #[.int .i64 (p1.1), .int .i64 (p1.2.1), .int .i64 (p1.2.2.1), .slice Ax13 (p1.2.2.2).length cx13] 63)).cell? ⟨W6.heap.size, 1, none⟩ = some (.slice Ax01 (p0.2).length cx01) := (Bx0.alloc _).cell 1
  go_wp2_with fail
  refine (i_Has ((tDesk).reach ((tDesk).read o_x0) ?hB) (by omega) ((tPiece).reach ((tPiece).read o_x1) ?hB) (by omega)).mono ?_
  all_goals try (case hB => exact (by repeat (first | (with_reducible exact Below.refl _ _) | (with_reducible assumption) | (with_reducible refine bel_alloc ?_ _) | (with_reducible refine bel_drew ?_) | (with_reducible refine below_drewN ?_ _) | (with_reducible refine bel_put ?_ (by first | exact Nat.le_refl _ | (simp; done) | (simp; omega)) _))))
  rintro e W8 ⟨rfl, hb_⟩
  clear d_Ba0_0 d_Ba0_1 d_Ba1_0 d_Ba1_1 d_Ba1_2 d_Ba1_3 d_Bx0_0 d_Bx0_1
  clear k_Ba0_0 k_Ba0_1
  clear k_Ba1_0 k_Ba1_1 k_Ba1_2 k_Ba1_3
  clear k_Bx0_0 k_Bx0_1
  rw [HR0.out]
  have hs8 : Below W7.heap.size W7 W8 := bel_trans (by repeat (first | (with_reducible exact Below.refl _ _) | (with_reducible assumption) | (with_reducible refine bel_alloc ?_ _) | (with_reducible refine bel_drew ?_) | (with_reducible refine below_drewN ?_ _) | (with_reducible refine bel_put ?_ (by first | exact Nat.le_refl _ | (simp; done) | (simp; omega)) _))) hb_
  have z8 : W7.heap.size + 1 ≤ W8.heap.size := by have := hb_.size; simpa using this
  have hB8 : Below w.heap.size w W8 := bel_trans hB7 hs8
  replace Ba0 := Ba0.below hs8 Ba0.size
  replace Ba1 := Ba1.below hs8 Ba1.size
  replace Bx0 := Bx0.below hs8 Bx0.size
  have Bx1 : Box W8 (W7.heap.size) 63 #[.int .i64 (p1.1), .int .i64 (p1.2.1), .int .i64 (p1.2.2.1), .slice Ax13 (p1.2.2.2).length cx13] := Box.below (Box.new _ _ _) hb_ (by first | (simp; done) | (simp; omega))
  replace o_x0 := Ty.below (t := tDesk) o_x0 hs8
  replace o_x1 := Ty.below (t := tPiece) o_x1 hs8
  have k_Ba0_0 : W8.cell? ⟨w.heap.size, 0, none⟩ = some (.slice Aa00 na00 ca00) := Ba0.cell 0
  have k_Ba0_1 : W8.cell? ⟨w.heap.size, 1, none⟩ = some (.slice Aa01 na01 ca01) := Ba0.cell 1
  have k_Ba1_0 : W8.cell? ⟨w.heap.size + 1, 0, none⟩ = some (.int .i64 (p1.1)) := Ba1.cell 0
  have k_Ba1_1 : W8.cell? ⟨w.heap.size + 1, 1, none⟩ = some (.int .i64 (p1.2.1)) := Ba1.cell 1
  have k_Ba1_2 : W8.cell? ⟨w.heap.size + 1, 2, none⟩ = some (.int .i64 (p1.2.2.1)) := Ba1.cell 2
  have k_Ba1_3 : W8.cell? ⟨w.heap.size + 1, 3, none⟩ = some (.slice Aa13 na13 ca13) := Ba1.cell 3
  have k_Bx0_0 : W8.cell? ⟨W6.heap.size, 0, none⟩ = some (.slice Ax00 (p0.1).length cx00) := Bx0.cell 0
  have k_Bx0_1 : W8.cell? ⟨W6.heap.size, 1, none⟩ = some (.slice Ax01 (p0.2).length cx01) := Bx0.cell 1
  have k_Bx1_0 : W8.cell? ⟨W7.heap.size, 0, none⟩ = some (.int .i64 (p1.1)) := Bx1.cell 0
  have k_Bx1_1 : W8.cell? ⟨W7.heap.size, 1, none⟩ = some (.int .i64 (p1.2.1)) := Bx1.cell 1
  have k_Bx1_2 : W8.cell? ⟨W7.heap.size, 2, none⟩ = some (.int .i64 (p1.2.2.1)) := Bx1.cell 2
  have k_Bx1_3 : W8.cell? ⟨W7.heap.size, 3, none⟩ = some (.slice Ax13 (p1.2.2.2).length cx13) := Bx1.cell 3
  clear hb_
  go_wp2_with fail
  go_region_held3 (fun w' => w'.cell? ⟨w.heap.size, 0, none⟩ = some (.slice Aa00 na00 ca00) ∧ w'.cell? ⟨w.heap.size, 1, none⟩ = some (.slice Aa01 na01 ca01) ∧ w'.cell? ⟨W6.heap.size, 0, none⟩ = some (.slice Ax00 (p0.1).length cx00) ∧ w'.cell? ⟨W6.heap.size, 1, none⟩ = some (.slice Ax01 (p0.2).length cx01)) (first | (exact ⟨k_Ba0_0, k_Ba0_1, k_Bx0_0, k_Bx0_1⟩) | (exact ⟨cell_bel hs10 k_Ba0_0, cell_bel hs10 k_Ba0_1, cell_bel hs10 k_Bx0_0, cell_bel hs10 k_Bx0_1⟩) | (exact ⟨cell_bel hs9 k_Ba0_0, cell_bel hs9 k_Ba0_1, cell_bel hs9 k_Bx0_0, cell_bel hs9 k_Bx0_1⟩) | go_keep)
    (first
      | (go_at_call 36; refine (o_toDesk ((tDesk).reach ((tDesk).reach h0 hB8) (by repeat (first | (with_reducible exact Below.refl _ _) | (with_reducible assumption) | (with_reducible refine bel_alloc ?_ _) | (with_reducible refine bel_drew ?_) | (with_reducible refine below_drewN ?_ _) | (with_reducible refine bel_put ?_ (by first | exact Nat.le_refl _ | (simp; done) | (simp; omega)) _)))) (by omega)).mono ?_; rintro e W9 ⟨csv, Fv, rfl, o_v, Nv, hb_⟩; have hs9 : Below W8.heap.size W8 W9 := bel_trans (by repeat (first | (with_reducible exact Below.refl _ _) | (with_reducible assumption) | (with_reducible refine bel_alloc ?_ _) | (with_reducible refine bel_drew ?_) | (with_reducible refine below_drewN ?_ _) | (with_reducible refine bel_put ?_ (by first | exact Nat.le_refl _ | (simp; done) | (simp; omega)) _))) hb_)
      | (go_at_call 39; refine (o_eqDesk ((tDesk).reach ((tDesk).reach ((tDesk).read o_x0) hs9) (by repeat (first | (with_reducible exact Below.refl _ _) | (with_reducible assumption) | (with_reducible refine bel_alloc ?_ _) | (with_reducible refine bel_drew ?_) | (with_reducible refine below_drewN ?_ _) | (with_reducible refine bel_put ?_ (by first | exact Nat.le_refl _ | (simp; done) | (simp; omega)) _)))) ((tDesk).reach ((tDesk).read o_v) (by repeat (first | (with_reducible exact Below.refl _ _) | (with_reducible assumption) | (with_reducible refine bel_alloc ?_ _) | (with_reducible refine bel_drew ?_) | (with_reducible refine below_drewN ?_ _) | (with_reducible refine bel_put ?_ (by first | exact Nat.le_refl _ | (simp; done) | (simp; omega)) _))))).mono ?_; rintro e W10 ⟨rfl, hb2_⟩; have hs10' : Below W8.heap.size W8 W10 := bel_trans hs9 (bel_trans (by repeat (first | (with_reducible exact Below.refl _ _) | (with_reducible assumption) | (with_reducible refine bel_alloc ?_ _) | (with_reducible refine bel_drew ?_) | (with_reducible refine below_drewN ?_ _) | (with_reducible refine bel_put ?_ (by first | exact Nat.le_refl _ | (simp; done) | (simp; omega)) _))) hb2_); have hs10 := hs10'))
  clear o_v Nv hb_ hb2_ hs9
  clear k_Ba0_0 k_Ba0_1
  clear k_Ba1_0 k_Ba1_1 k_Ba1_2 k_Ba1_3
  clear k_Bx0_0 k_Bx0_1
  clear k_Bx1_0 k_Bx1_1 k_Bx1_2 k_Bx1_3
  have z10 : W8.heap.size + 0 ≤ W10.heap.size := hs10'.size
  have hB10 : Below w.heap.size w W10 := bel_trans hB8 hs10'
  replace Ba0 := Ba0.below hs10' Ba0.size
  replace Ba1 := Ba1.below hs10' Ba1.size
  replace Bx0 := Bx0.below hs10' Bx0.size
  replace Bx1 := Bx1.below hs10' Bx1.size
  replace o_x0 := Ty.below (t := tDesk) o_x0 hs10'
  replace o_x1 := Ty.below (t := tPiece) o_x1 hs10'
  have k_Ba0_0 : W10.cell? ⟨w.heap.size, 0, none⟩ = some (.slice Aa00 na00 ca00) := Ba0.cell 0
  have k_Ba0_1 : W10.cell? ⟨w.heap.size, 1, none⟩ = some (.slice Aa01 na01 ca01) := Ba0.cell 1
  have k_Ba1_0 : W10.cell? ⟨w.heap.size + 1, 0, none⟩ = some (.int .i64 (p1.1)) := Ba1.cell 0
  have k_Ba1_1 : W10.cell? ⟨w.heap.size + 1, 1, none⟩ = some (.int .i64 (p1.2.1)) := Ba1.cell 1
  have k_Ba1_2 : W10.cell? ⟨w.heap.size + 1, 2, none⟩ = some (.int .i64 (p1.2.2.1)) := Ba1.cell 2
  have k_Ba1_3 : W10.cell? ⟨w.heap.size + 1, 3, none⟩ = some (.slice Aa13 na13 ca13) := Ba1.cell 3
  have k_Bx0_0 : W10.cell? ⟨W6.heap.size, 0, none⟩ = some (.slice Ax00 (p0.1).length cx00) := Bx0.cell 0
  have k_Bx0_1 : W10.cell? ⟨W6.heap.size, 1, none⟩ = some (.slice Ax01 (p0.2).length cx01) := Bx0.cell 1
  have k_Bx1_0 : W10.cell? ⟨W7.heap.size, 0, none⟩ = some (.int .i64 (p1.1)) := Bx1.cell 0
  have k_Bx1_1 : W10.cell? ⟨W7.heap.size, 1, none⟩ = some (.int .i64 (p1.2.1)) := Bx1.cell 1
  have k_Bx1_2 : W10.cell? ⟨W7.heap.size, 2, none⟩ = some (.int .i64 (p1.2.2.1)) := Bx1.cell 2
  have k_Bx1_3 : W10.cell? ⟨W7.heap.size, 3, none⟩ = some (.slice Ax13 (p1.2.2.2).length cx13) := Bx1.cell 3
  go_wp2_with fail
  go_region_held3 (fun w' => w'.cell? ⟨w.heap.size + 1, 0, none⟩ = some (.int .i64 (p1.1)) ∧ w'.cell? ⟨w.heap.size + 1, 1, none⟩ = some (.int .i64 (p1.2.1)) ∧ w'.cell? ⟨w.heap.size + 1, 2, none⟩ = some (.int .i64 (p1.2.2.1)) ∧ w'.cell? ⟨w.heap.size + 1, 3, none⟩ = some (.slice Aa13 na13 ca13) ∧ w'.cell? ⟨W7.heap.size, 0, none⟩ = some (.int .i64 (p1.1)) ∧ w'.cell? ⟨W7.heap.size, 1, none⟩ = some (.int .i64 (p1.2.1)) ∧ w'.cell? ⟨W7.heap.size, 2, none⟩ = some (.int .i64 (p1.2.2.1)) ∧ w'.cell? ⟨W7.heap.size, 3, none⟩ = some (.slice Ax13 (p1.2.2.2).length cx13)) (first | (exact ⟨k_Ba1_0, k_Ba1_1, k_Ba1_2, k_Ba1_3, k_Bx1_0, k_Bx1_1, k_Bx1_2, k_Bx1_3⟩) | (exact ⟨cell_bel hs12 k_Ba1_0, cell_bel hs12 k_Ba1_1, cell_bel hs12 k_Ba1_2, cell_bel hs12 k_Ba1_3, cell_bel hs12 k_Bx1_0, cell_bel hs12 k_Bx1_1, cell_bel hs12 k_Bx1_2, cell_bel hs12 k_Bx1_3⟩) | (exact ⟨cell_bel hs11 k_Ba1_0, cell_bel hs11 k_Ba1_1, cell_bel hs11 k_Ba1_2, cell_bel hs11 k_Ba1_3, cell_bel hs11 k_Bx1_0, cell_bel hs11 k_Bx1_1, cell_bel hs11 k_Bx1_2, cell_bel hs11 k_Bx1_3⟩) | go_keep)
    (first
      | (go_at_call 37; refine (o_toPiece ((tPiece).reach ((tPiece).reach h1 hB10) (by repeat (first | (with_reducible exact Below.refl _ _) | (with_reducible assumption) | (with_reducible refine bel_alloc ?_ _) | (with_reducible refine bel_drew ?_) | (with_reducible refine below_drewN ?_ _) | (with_reducible refine bel_put ?_ (by first | exact Nat.le_refl _ | (simp; done) | (simp; omega)) _)))) (by omega)).mono ?_; rintro e W11 ⟨csv, Fv, rfl, o_v, Nv, hb_⟩; have hs11 : Below W10.heap.size W10 W11 := bel_trans (by repeat (first | (with_reducible exact Below.refl _ _) | (with_reducible assumption) | (with_reducible refine bel_alloc ?_ _) | (with_reducible refine bel_drew ?_) | (with_reducible refine below_drewN ?_ _) | (with_reducible refine bel_put ?_ (by first | exact Nat.le_refl _ | (simp; done) | (simp; omega)) _))) hb_)
      | (go_at_call 40; refine (o_eqPiece ((tPiece).reach ((tPiece).reach ((tPiece).read o_x1) hs11) (by repeat (first | (with_reducible exact Below.refl _ _) | (with_reducible assumption) | (with_reducible refine bel_alloc ?_ _) | (with_reducible refine bel_drew ?_) | (with_reducible refine below_drewN ?_ _) | (with_reducible refine bel_put ?_ (by first | exact Nat.le_refl _ | (simp; done) | (simp; omega)) _)))) ((tPiece).reach ((tPiece).read o_v) (by repeat (first | (with_reducible exact Below.refl _ _) | (with_reducible assumption) | (with_reducible refine bel_alloc ?_ _) | (with_reducible refine bel_drew ?_) | (with_reducible refine below_drewN ?_ _) | (with_reducible refine bel_put ?_ (by first | exact Nat.le_refl _ | (simp; done) | (simp; omega)) _))))).mono ?_; rintro e W12 ⟨rfl, hb2_⟩; have hs12' : Below W10.heap.size W10 W12 := bel_trans hs11 (bel_trans (by repeat (first | (with_reducible exact Below.refl _ _) | (with_reducible assumption) | (with_reducible refine bel_alloc ?_ _) | (with_reducible refine bel_drew ?_) | (with_reducible refine below_drewN ?_ _) | (with_reducible refine bel_put ?_ (by first | exact Nat.le_refl _ | (simp; done) | (simp; omega)) _))) hb2_); have hs12 := hs12'))
  clear o_v Nv hb_ hb2_ hs11
  clear k_Ba0_0 k_Ba0_1
  clear k_Ba1_0 k_Ba1_1 k_Ba1_2 k_Ba1_3
  clear k_Bx0_0 k_Bx0_1
  clear k_Bx1_0 k_Bx1_1 k_Bx1_2 k_Bx1_3
  have z12 : W10.heap.size + 0 ≤ W12.heap.size := hs12'.size
  have hB12 : Below w.heap.size w W12 := bel_trans hB10 hs12'
  replace Ba0 := Ba0.below hs12' Ba0.size
  replace Ba1 := Ba1.below hs12' Ba1.size
  replace Bx0 := Bx0.below hs12' Bx0.size
  replace Bx1 := Bx1.below hs12' Bx1.size
  replace o_x0 := Ty.below (t := tDesk) o_x0 hs12'
  replace o_x1 := Ty.below (t := tPiece) o_x1 hs12'
  have k_Ba0_0 : W12.cell? ⟨w.heap.size, 0, none⟩ = some (.slice Aa00 na00 ca00) := Ba0.cell 0
  have k_Ba0_1 : W12.cell? ⟨w.heap.size, 1, none⟩ = some (.slice Aa01 na01 ca01) := Ba0.cell 1
  have k_Ba1_0 : W12.cell? ⟨w.heap.size + 1, 0, none⟩ = some (.int .i64 (p1.1)) := Ba1.cell 0
  have k_Ba1_1 : W12.cell? ⟨w.heap.size + 1, 1, none⟩ = some (.int .i64 (p1.2.1)) := Ba1.cell 1
  have k_Ba1_2 : W12.cell? ⟨w.heap.size + 1, 2, none⟩ = some (.int .i64 (p1.2.2.1)) := Ba1.cell 2
  have k_Ba1_3 : W12.cell? ⟨w.heap.size + 1, 3, none⟩ = some (.slice Aa13 na13 ca13) := Ba1.cell 3
  have k_Bx0_0 : W12.cell? ⟨W6.heap.size, 0, none⟩ = some (.slice Ax00 (p0.1).length cx00) := Bx0.cell 0
  have k_Bx0_1 : W12.cell? ⟨W6.heap.size, 1, none⟩ = some (.slice Ax01 (p0.2).length cx01) := Bx0.cell 1
  have k_Bx1_0 : W12.cell? ⟨W7.heap.size, 0, none⟩ = some (.int .i64 (p1.1)) := Bx1.cell 0
  have k_Bx1_1 : W12.cell? ⟨W7.heap.size, 1, none⟩ = some (.int .i64 (p1.2.1)) := Bx1.cell 1
  have k_Bx1_2 : W12.cell? ⟨W7.heap.size, 2, none⟩ = some (.int .i64 (p1.2.2.1)) := Bx1.cell 2
  have k_Bx1_3 : W12.cell? ⟨W7.heap.size, 3, none⟩ = some (.slice Ax13 (p1.2.2.2).length cx13) := Bx1.cell 3
  go_wp2_with fail
  go_ret
  exact ⟨rfl, hB12⟩

/-! ### THE ROW's STEP -/
set_option maxHeartbeats 400000 in
set_option maxRecDepth 100000 in
theorem lifted (os : Os) (started : os.Started) (H : Type) (enc : TypeId × Value → H) :
    ReturnsInHanded {} Try.checked os 7 .any (Rows.fnExactHasSpec.pre6 enc Try.prog Try.f7 Rows.fnExactHasRow.domain false) (Rows.fnExactHasSpec.post enc Try.prog Try.f7 false true false false) := by
  refine returnsInHanded_of_change (C := Try.checked) own started (by kernel_rfl) Try.func7
    (ChangeSpec.witness6 (enc := enc) (C := Try.checked) false ⟨#[], #[.agg #[.slice none 0 0, .slice none 0 0], .agg #[.int .i64 0, .int .i64 0, .int .i64 0, .slice none 0 0]], []⟩ 8 (by kernel_rfl) (by kernel_rfl) (by kernel_rfl) (by kernel_rfl)) ?_
  intro W base args ds gs before hval0 hW hcnd _
  have hval : ∀ (j : Nat) t v, Try.f7.params[j]? = some t → args[j]? = some v → Value.okWide Try.prog W .any base t v := hval0
  have hW' := hW
  obtain ⟨p, q, hA0, hV, rfl, hfz, hnd⟩ := hW
  have hA : DataW.TrodAll enc Try.prog W 0 (fun _ => true) true Try.f7.params.toList args.toList ds p := hA0
  rw [Try.params7] at hA hval
  obtain ⟨v0, vs0, d0, ds0, p0, q0, hargs, rfl, rfl, h0, r0⟩ := trodAll_cons hA
  obtain ⟨v1, vs1, d1, ds1, p1, q1, rfl, rfl, rfl, h1, r1⟩ := trodAll_cons r0
  obtain ⟨rfl, rfl, rfl⟩ := trodAll_nil r1
  obtain rfl : args = #[v0, v1] := by cases args; simp_all
  obtain ⟨rfl, rfl⟩ := trodVars_none hV
  obtain ⟨cs0, rfl, hsz0⟩ := okWide_struct Try.underlying53 (hval 0 53 v0 rfl rfl)
  have k0 := h0
  have lt0 : ∀ x ∈ p0, x.block < W.heap.size := by obtain ⟨m, hm⟩ := k0; exact DataW.trod_lt m _ _ _ hm
  obtain ⟨x0, w0⟩ : ∃ a, tDesk.R W W.heap.size cs0.toList a := by
    obtain ⟨fuel, hf⟩ := h0
    exact frR_Desk fuel _ _ (by simpa [Value.cells] using hf)
  obtain ⟨cs1, rfl, hsz1⟩ := okWide_struct Try.underlying55 (hval 1 55 v1 rfl rfl)
  have k1 := h1
  have lt1 : ∀ x ∈ p1, x.block < W.heap.size := by obtain ⟨m, hm⟩ := k1; exact DataW.trod_lt m _ _ _ hm
  obtain ⟨x1, w1⟩ : ∃ a, tPiece.R W W.heap.size cs1.toList a := by
    obtain ⟨fuel, hf⟩ := h1
    exact frR_Piece fuel _ _ (by simpa [Value.cells] using hf)
  clear hA0 hval0
  refine (walk cs0 x0 cs1 x1 W w0 w1).mono fun e W' ⟨he, bel⟩ => ?_
  subst he
  exact ⟨_, rfl, _, _, _, [], _, [], hW', trodAll_mk1 (shut_bool Try.underlying4 _), (trodAll_cons_mk (Below.trod laidOut (by kernel_rfl) (of_decide_eq_true (by kernel_rfl)) k0 bel lt0) (trodAll_cons_mk (Below.trod laidOut (by kernel_rfl) (of_decide_eq_true (by kernel_rfl)) k1 bel lt1) trodAll_mk0)), rfl, bel.frame _, fun h => by cases h⟩

theorem over : Rows.fnExactHasRow.holds Try.pinned (OpenSpec.ofChange Rows.fnExactHasSpec) :=
  OpenClaim.holds_of_wide 7 Try.f7 rfl rfl rfl rfl rfl rfl rfl ⟨rfl, rfl, rfl, rfl, rfl⟩ rfl rfl rfl rfl rfl (by kernel_rfl) Try.func7 (by kernel_rfl)
    (of_decide_eq_true (by kernel_rfl)) (by unfold Func.isWrapper; first | (rw [if_pos (by decide +kernel)]; kernel_rfl) | (rw [if_neg (by decide +kernel)]; exact ⟨rfl, rfl⟩))
    (fun os started H enc _ => lifted os started H enc)

theorem proved : Rows.FnExactHasSaid := over
#print axioms proved
end Go.Proofs.Ytpapkonejkdkhaa.fnExactHas
