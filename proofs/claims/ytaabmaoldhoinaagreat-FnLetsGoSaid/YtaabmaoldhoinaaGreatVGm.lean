/-
  LawFou: texts joined.
-/
import Derived.Test.YtaabmaoldhoinaaGreatVGc
import Derived.Test.YtaabmaoldhoinaaGreatVGh
import Derived.Test.YtaabmaoldhoinaaGreatVGl
namespace Go.Proofs.YtaabmaoldhoinaaGreat
set_option maxRecDepth 100000
set_option linter.unusedVariables false
set_option linter.unusedSimpArgs false
open Go.ChangeShapes Go.WideShapes Go.ChangeAt Go.RowKit
open Fld
theorem ds_split : fSpl 7 [97, 98] = [(7, 0, 1, [97, 98])] := by rw [fSpl_t ⟨by decide, by decide⟩]; rfl
theorem ds_take : fTp dkZ (7, 0, 1, [97, 98]) 9 = (([], [7]), [97, 98], 1) := by
  have hs : SpOk 7 [97, 98] := ⟨by decide, by decide⟩
  have hN : splN ([97, 98] : List Int).length = 1 := rfl
  have h := sp_step (a := 0) (i := 0) hs hN (.inl rfl)
  rw [spS_zero (by omega), spS_end (i := 0 + 1) hs hN (.inl rfl) (by omega)] at h
  have hin : TkIn dkZ (7, 0, 1, [97, 98]) 9 := ⟨⟨by simp [dkZ], fun x hx => absurd hx (by simp [dkZ]), fun i hi => absurd hi (by simp [dkZ]), fun i hi => absurd hi (by simp [dkZ]), fun w hw => absurd hw (by simp [dkZ])⟩, pcAt_ok (j := 0) hs hN (by omega), by decide, by decide⟩
  rw [fTp_t hin]
  exact h
theorem ds_ok : DkOk ([], [7]) := by
  have hs : SpOk 7 [97, 98] := ⟨by decide, by decide⟩
  have h := spS_ok (s := 1) (a := 0) hs (show splN ([97, 98] : List Int).length = 1 from rfl) (.inl rfl) 1
  rwa [spS_end (N := 1) (i := 1) hs rfl (.inl rfl) (by omega)] at h
set_option maxHeartbeats 2000000 in
theorem l_desks (w : World) : Calls Tryz.prog 23 #[] w fun e w' => e = .returned (.bool true) ∧ Below w.heap.size w w' := by
  have hcv := fun (W : World) (C : Array Value) (n c : Nat) => Lib.run_convert_bytes_const (P := Tryz.prog) W 26 5 C n c Tryz.underlying26 Tryz.underlying5
  have HS := Lib.hid ds_split
  have HSD := Lib.hid (show decide (SpOk 7 [97, 98]) = true from decide_eq_true ⟨by decide, by decide⟩)
  have HT1 := Lib.hid (show (fTp dkZ (7, 0, 1, [97, 98]) 9).1 = ([], [7]) by rw [ds_take])
  have HT2 := Lib.hid (show (fTp dkZ (7, 0, 1, [97, 98]) 9).2.1 = [97, 98] by rw [ds_take])
  have HT3 := Lib.hid (show (fTp dkZ (7, 0, 1, [97, 98]) 9).2.2 = 1 by rw [ds_take])
  have HD := Lib.hid (decide_eq_true ds_ok)
  have HZ := Lib.hid (show szDesk ([], [7]) ≤ 1048576 from Nat.le_trans (dkOk_sz ds_ok).1 (by omega))
  go_enter Tryz.func23, Tryz.ntmps23
  go_wp2_with fail
  have r1 : tBy.R (w.alloc (.cells #[.int .u8 97, .int .u8 98] 5 (2, 3))) (w.alloc (.cells #[.int .u8 97, .int .u8 98] 5 (2, 3))).heap.size [.slice (some ⟨w.heap.size, 0, none⟩) 2 2] [97, 98] := ints_slR (by rw [World.size_alloc]; exact marked_ints w 5 97 98 (by omega) (by omega) (2, 3)) (by omega) (by omega)
  refine (i_Split (id := 7) (by decide) r1 (by decide)).mono ?_
  rintro e w2 ⟨A2, c2, F2, rfl, hO2, -, hb2⟩
  have hB2 : Below w.heap.size w w2 := bel_trans (show Below w.heap.size w (w.alloc (.cells #[.int .u8 97, .int .u8 98] 5 (2, 3))) from (belx)) hb2
  rw [HS.out] at hO2 ⊢
  rw [HSD.out]
  rw [show ([((7, 0, 1, [97, 98]) : DPiece)] : List DPiece).length = 1 from rfl] at hO2 ⊢
  have hR2 := tPiece.row.read hO2
  obtain ⟨q, b, off, es, hl, rfl, hb, hes, hq⟩ := rowR_at (K := 4) (i := 0) hR2 (by omega) rfl
  obtain rfl : ((7, 0, 1, [97, 98]) : DPiece) = q := by simpa using hl
  obtain ⟨A7, n7, c7, rfl, -, -, -, -, -, h7, hq7⟩ := openPiece hq
  have s0 : w2.cell? ⟨b, off, none⟩ = some (.int .i64 7) := hes 0 (by omega)
  have s1 : w2.cell? ⟨b, off + 1, none⟩ = some (.int .i64 0) := hes 1 (by omega)
  have s2 : w2.cell? ⟨b, off + 2, none⟩ = some (.int .i64 1) := hes 2 (by omega)
  have s3 : w2.cell? ⟨b, off + 3, none⟩ = some (.slice A7 n7 c7) := hes 3 (by omega)
  clear r1 hO2 hb2 hl hes
  go_wp2_with fail
  refine (i_TakePiece (p := dkZ) (q := (7, 0, 1, [97, 98])) (tDesk.read dkzO) (by decide) hq (by decide) (by decide)).mono ?_
  rintro e w3 ⟨cs3, F1, A3, c3, F3, rfl, hD3, hB3, -, hb3⟩
  rw [HT1.out] at hD3
  rw [HT2.out] at hB3 ⊢
  rw [HT3.out]
  obtain ⟨D0, d0, E0, D1, d1, E1, rfl, -⟩ := openODesk hD3
  have hd3 := tDesk.read hD3
  have hr3 := tBy.read hB3
  rw [show (([], [7]) : DDesk).1.length = 0 from rfl, show (([], [7]) : DDesk).2.length = 1 from rfl] at hd3 ⊢
  rw [show ([97, 98] : List Int).length = 2 from rfl] at hr3 ⊢
  have hBw := bel_trans hB2 hb3
  have hx3 : Below w3.heap.size w3 (w3.alloc (.cells #[.slice D0 0 d0, .slice D1 1 d1] 33)) := bel_alloc (Below.refl _ _) _
  have Y3 : Box (w3.alloc (.cells #[.slice D0 0 d0, .slice D1 1 d1] 33)) w3.heap.size 33 #[.slice D0 0 d0, .slice D1 1 d1] := Box.new _ _ _
  have hd4 := tDesk.reach hd3 hx3
  have hr4 := tBy.reach hr3 hx3
  have hB4 := bel_trans hBw hx3
  obtain ⟨w4, hw4⟩ : ∃ w4, w3.alloc (.cells #[.slice D0 0 d0, .slice D1 1 d1] 33) = w4 := ⟨_, rfl⟩
  rw [hw4] at Y3 hd4 hr4 hB4
  clear hd3 hr3 hD3 hB3 hx3 s0 s1 s2 s3 hR2 hq hq7
  go_wp2_with fail
  refine (l_same (slR_ints (tBy.reach hr4 (show Below w4.heap.size w4 (w4.alloc (.cells #[.int .u8 97, .int .u8 98] 5 (2, 3))) from (belx)))).1 (marked_ints w4 5 97 98 (by omega) (by omega) (2, 3))).mono ?_
  rintro e w' ⟨rfl, rfl⟩
  rw [show decide (([97, 98] : List Int) = [97, 98]) = true from by simp]
  have hx5 : Below w4.heap.size w4 (w4.alloc (.cells #[.int .u8 97, .int .u8 98] 5 (2, 3))) := (belx)
  have Y5 := Y3.alloc (.cells #[.int .u8 97, .int .u8 98] 5 (2, 3))
  have k0 := Y5.cell 0
  have k1 := Y5.cell 1
  go_wp2_with fail
  refine (i_DeskOk (tDesk.reach hd4 hx5) HZ.out).mono ?_
  rintro e w6 ⟨rfl, hb6⟩
  rw [HD.out]
  go_wp2_with fail
  go_ret
  exact ⟨rfl, bel_trans (bel_trans hB4 hx5) hb6⟩
end Go.Proofs.YtaabmaoldhoinaaGreat
