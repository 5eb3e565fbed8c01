/-
  Contract of the model's NextOf.
-/
import Derived.Test.YtpapkonejkdkhaaSpecOwn
import Derived.Test.YtpapkonejkdkhaaPeel
namespace Go.Proofs.Ytpapkonejkdkhaa
set_option maxRecDepth 100000
set_option linter.unusedSimpArgs false
set_option linter.unusedVariables false
open Go.ChangeShapes Go.WideShapes Go.ChangeAt Go.RowKit
open Fld
attribute [local go_sem ↓] Go.wp_at_zero Go.wp_at_succ

set_option maxHeartbeats 2000000 in
theorem s_NextOf {A : Option Addr} {n c : Nat} {w : World} {l : List Int} (s : Int) (hl : Ints .u8 w w.heap.size A n l) (hc : n ≤ c) (hcm : c ≤ 9223372036854775807) :
    Calls Try.prog 102 #[.int .i64 s, .agg #[.slice A n c]] w fun e w' => e = .returned (.int .i64 (fnext s l)) ∧ Below w.heap.size w w' := by
  have hmk : ∀ W : World, (Instr.makeSlice 22 (.int .i64 80) (.int .i64 80)).run Try.prog W = .ok (.slice (some ⟨W.heap.size, 0, none⟩) 80 80) (W.alloc (.cells (madeCells #[Value.int .u8 0] 80) 5)) := fun W => run_make_row' (P := Try.prog) 22 5 (.int .u8 0) 1 Try.underlying22 info_by rfl .i64 .i64 80 (by omega) (by omega) W
  have hz0 : ∀ W : World, Ints .u8 (W.alloc (.cells (madeCells #[Value.int .u8 0] 80) 5)) (W.alloc (.cells (madeCells #[Value.int .u8 0] 80) 5)).heap.size (some ⟨W.heap.size, 0, none⟩) 80 zer := fun W => by
    have h := World.rowIs_made W (.int .u8 0) 80 5
    exact (Own.of_row (l := zer) (h.congr fun j hj => by rw [zer_at hj]) zer_len (by simp only [maxLen]; omega) (Nat.le_refl _) (fun x hx => by unfold zer at hx; rw [List.mem_replicate] at hx; rw [hx.2]; exact wf8 ⟨by omega, by omega⟩)).intsAt.1
  obtain ⟨r, hr⟩ : ∃ r, fpeel s l zer = r := ⟨_, rfl⟩
  have HR := Lib.hid hr
  have HF := Lib.hid (show fnext s l = if r.2 = true then r.1.next else -1 by unfold fnext; rw [hr])
  clear hr
  obtain ⟨W0, hW0⟩ : ∃ W, (w.alloc (.cells #[.slice A n c] 26)) = W := ⟨_, rfl⟩
  have hB0 : Below w.heap.size w W0 := by rw [← hW0]; exact (by repeat (first | (with_reducible exact Below.refl _ _) | (with_reducible assumption) | (with_reducible refine bel_alloc ?_ _) | (with_reducible refine bel_drew ?_) | (with_reducible refine below_drewN ?_ _) | (with_reducible refine bel_put ?_ (by first | exact Nat.le_refl _ | (simp; done) | (simp; omega)) _)))
  have cc0 : W0.cell? ⟨w.heap.size, 0, none⟩ = some (.slice A n c) := by rw [← hW0]; exact (Box.new w _ _).cell 0
  have HW0 := Lib.hid hW0
  clear hW0
  have PZ1 := Lib.hid (show Ints .u8 ((W0.alloc (.cells (madeCells #[Value.int .u8 0] 80) 5)).drew) ((W0.alloc (.cells (madeCells #[Value.int .u8 0] 80) 5)).drew).heap.size (some ⟨W0.heap.size, 0, none⟩) 80 zer from (hz0 W0).drew)
  have PZ2 := Lib.hid (show Ints .u8 (((W0.alloc (.cells (madeCells #[Value.int .u8 0] 80) 5)).alloc (.cells #[.int .i64 0, .int .i64 0, .int .i64 0, .slice none 0 0, .slice none 0 0] 28)).drew) (((W0.alloc (.cells (madeCells #[Value.int .u8 0] 80) 5)).alloc (.cells #[.int .i64 0, .int .i64 0, .int .i64 0, .slice none 0 0, .slice none 0 0] 28)).drew).heap.size (some ⟨W0.heap.size, 0, none⟩) 80 zer from (reach (hz0 W0) (bel_drew (bel_alloc (Below.refl _ _) _))))
  have PZ3 := Lib.hid (show Ints .u8 (((W0.alloc (.cells #[.int .i64 0, .int .i64 0, .int .i64 0, .slice none 0 0, .slice none 0 0] 28)).alloc (.cells (madeCells #[Value.int .u8 0] 80) 5)).drew) (((W0.alloc (.cells #[.int .i64 0, .int .i64 0, .int .i64 0, .slice none 0 0, .slice none 0 0] 28)).alloc (.cells (madeCells #[Value.int .u8 0] 80) 5)).drew).heap.size (some ⟨W0.heap.size + 1, 0, none⟩) 80 zer from (by have := (hz0 (W0.alloc (.cells #[.int .i64 0, .int .i64 0, .int .i64 0, .slice none 0 0, .slice none 0 0] 28))).drew; have e : (W0.alloc (.cells #[.int .i64 0, .int .i64 0, .int .i64 0, .slice none 0 0, .slice none 0 0] 28)).heap.size = W0.heap.size + 1 := World.size_alloc ..; rw [e] at this; exact this))
  have BP2 : Box (((W0.alloc (.cells (madeCells #[Value.int .u8 0] 80) 5)).alloc (.cells #[.int .i64 0, .int .i64 0, .int .i64 0, .slice none 0 0, .slice none 0 0] 28)).drew) (W0.heap.size + 1) 28 #[.int .i64 0, .int .i64 0, .int .i64 0, .slice none 0 0, .slice none 0 0] := (by have := Box.new (W0.alloc (.cells (madeCells #[Value.int .u8 0] 80) 5)) 28 #[.int .i64 0, .int .i64 0, .int .i64 0, .slice none 0 0, .slice none 0 0]; rw [World.size_alloc] at this; exact this.drew)
  have BP3 : Box (((W0.alloc (.cells #[.int .i64 0, .int .i64 0, .int .i64 0, .slice none 0 0, .slice none 0 0] 28)).alloc (.cells (madeCells #[Value.int .u8 0] 80) 5)).drew) W0.heap.size 28 #[.int .i64 0, .int .i64 0, .int .i64 0, .slice none 0 0, .slice none 0 0] := ((Box.new W0 _ _).alloc _).drew
  clear hz0
  go_enter Try.func102, Try.ntmps102
  go_wp2_with fail
  rw [HW0.out]
  go_region_held3 (fun w' => w'.cell? ⟨w.heap.size, 0, none⟩ = some (.slice A n c)) (exact cell_bel (w := W0) (by repeat (first | (with_reducible exact Below.refl _ _) | (with_reducible assumption) | (with_reducible refine bel_alloc ?_ _) | (with_reducible refine bel_drew ?_) | (with_reducible refine below_drewN ?_ _) | (with_reducible refine bel_put ?_ (by first | exact Nat.le_refl _ | (simp; done) | (simp; omega)) _))) cc0)
    (first | (go_at_call 11; with_reducible refine Calls.mono (s_Peel (w := (W0.alloc (.cells (madeCells #[Value.int .u8 0] 80) 5)).drew) s (reach (reach hl hB0) (by repeat (first | (with_reducible exact Below.refl _ _) | (with_reducible assumption) | (with_reducible refine bel_alloc ?_ _) | (with_reducible refine bel_drew ?_) | (with_reducible refine below_drewN ?_ _) | (with_reducible refine bel_put ?_ (by first | exact Nat.le_refl _ | (simp; done) | (simp; omega)) _)))) hc hcm PZ1.out (by omega)) ?_; rintro e w1 ⟨v1, v2, rfl, hO1, hO2, hap, hb1⟩; have hs1 : Below W0.heap.size W0 w1 := bel_trans (by repeat (first | (with_reducible exact Below.refl _ _) | (with_reducible assumption) | (with_reducible refine bel_alloc ?_ _) | (with_reducible refine bel_drew ?_) | (with_reducible refine below_drewN ?_ _) | (with_reducible refine bel_put ?_ (by first | exact Nat.le_refl _ | (simp; done) | (simp; omega)) _))) hb1; have hz1 := hs1.size; obtain ⟨A1, c1, rfl, _⟩ := hO1.ints; obtain ⟨A2, c2, rfl, _⟩ := hO2.ints; rw [HR.out]) | (go_at_call 11; with_reducible refine Calls.mono (s_Peel (w := ((W0.alloc (.cells (madeCells #[Value.int .u8 0] 80) 5)).alloc (.cells #[.int .i64 0, .int .i64 0, .int .i64 0, .slice none 0 0, .slice none 0 0] 28)).drew) s (reach (reach hl hB0) (by repeat (first | (with_reducible exact Below.refl _ _) | (with_reducible assumption) | (with_reducible refine bel_alloc ?_ _) | (with_reducible refine bel_drew ?_) | (with_reducible refine below_drewN ?_ _) | (with_reducible refine bel_put ?_ (by first | exact Nat.le_refl _ | (simp; done) | (simp; omega)) _)))) hc hcm PZ2.out (by omega)) ?_; rintro e w1 ⟨v1, v2, rfl, hO1, hO2, hap, hb1⟩; have hs1 : Below W0.heap.size W0 w1 := bel_trans (by repeat (first | (with_reducible exact Below.refl _ _) | (with_reducible assumption) | (with_reducible refine bel_alloc ?_ _) | (with_reducible refine bel_drew ?_) | (with_reducible refine below_drewN ?_ _) | (with_reducible refine bel_put ?_ (by first | exact Nat.le_refl _ | (simp; done) | (simp; omega)) _))) hb1; have hz1 := hs1.size; obtain ⟨A1, c1, rfl, _⟩ := hO1.ints; obtain ⟨A2, c2, rfl, _⟩ := hO2.ints; rw [HR.out]; have bq := BP2.below hb1 BP2.size; have k0 := bq.cell 0; have j0 := bq.frozen 0; have k1 := bq.cell 1; have j1 := bq.frozen 1; have k2 := bq.cell 2; have j2 := bq.frozen 2; have k3 := bq.cell 3; have j3 := bq.frozen 3; have k4 := bq.cell 4; have j4 := bq.frozen 4) | (go_at_call 11; with_reducible refine Calls.mono (s_Peel (w := ((W0.alloc (.cells #[.int .i64 0, .int .i64 0, .int .i64 0, .slice none 0 0, .slice none 0 0] 28)).alloc (.cells (madeCells #[Value.int .u8 0] 80) 5)).drew) s (reach (reach hl hB0) (by repeat (first | (with_reducible exact Below.refl _ _) | (with_reducible assumption) | (with_reducible refine bel_alloc ?_ _) | (with_reducible refine bel_drew ?_) | (with_reducible refine below_drewN ?_ _) | (with_reducible refine bel_put ?_ (by first | exact Nat.le_refl _ | (simp; done) | (simp; omega)) _)))) hc hcm PZ3.out (by omega)) ?_; rintro e w1 ⟨v1, v2, rfl, hO1, hO2, hap, hb1⟩; have hs1 : Below W0.heap.size W0 w1 := bel_trans (by repeat (first | (with_reducible exact Below.refl _ _) | (with_reducible assumption) | (with_reducible refine bel_alloc ?_ _) | (with_reducible refine bel_drew ?_) | (with_reducible refine below_drewN ?_ _) | (with_reducible refine bel_put ?_ (by first | exact Nat.le_refl _ | (simp; done) | (simp; omega)) _))) hb1; have hz1 := hs1.size; obtain ⟨A1, c1, rfl, _⟩ := hO1.ints; obtain ⟨A2, c2, rfl, _⟩ := hO2.ints; rw [HR.out]; have bq := BP3.below hb1 BP3.size; have k0 := bq.cell 0; have j0 := bq.frozen 0; have k1 := bq.cell 1; have j1 := bq.frozen 1; have k2 := bq.cell 2; have j2 := bq.frozen 2; have k3 := bq.cell 3; have j3 := bq.frozen 3; have k4 := bq.cell 4; have j4 := bq.frozen 4))
  all_goals
    rcases r with ⟨r1, rb⟩
    cases rb
    · have H := Lib.hid (show fnext s l = -1 by rw [HF.out]; rfl)
      go_wp2
      go_ret
      exact ⟨ret_i64 H.out.symm, bel_trans hB0 (by repeat (first | (with_reducible exact Below.refl _ _) | (with_reducible assumption) | (with_reducible refine bel_alloc ?_ _) | (with_reducible refine bel_drew ?_) | (with_reducible refine below_drewN ?_ _) | (with_reducible refine bel_put ?_ (by first | exact Nat.le_refl _ | (simp; done) | (simp; omega)) _)))⟩
    · have H := Lib.hid (show fnext s l = r1.next by rw [HF.out]; rfl)
      go_wp2
      go_ret
      exact ⟨ret_i64 H.out.symm, bel_trans hB0 (by repeat (first | (with_reducible exact Below.refl _ _) | (with_reducible assumption) | (with_reducible refine bel_alloc ?_ _) | (with_reducible refine bel_drew ?_) | (with_reducible refine below_drewN ?_ _) | (with_reducible refine bel_put ?_ (by first | exact Nat.le_refl _ | (simp; done) | (simp; omega)) _)))⟩
end Go.Proofs.Ytpapkonejkdkhaa
