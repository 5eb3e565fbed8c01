/-
  A cell admitted: contracts of l5admit and Admit (the model's), recorded and Admit (the program's).
-/
import Derived.Test.YtlpnngkonihmiaaPAdm5
namespace Go.Proofs.Ytlpnngkonihmiaa
set_option maxRecDepth 100000
set_option linter.unusedVariables false
set_option linter.unusedSimpArgs false
open Go.ChangeShapes Go.WideShapes Go.ChangeAt Go.RowKit
open Fld
set_option maxHeartbeats 8000000 in
theorem s_admit5_ok {w : World} {A0 A1 A2 : Option Addr} {n0 c0 n1 c1 n2 c2 : Nat} {p1 : List DHeld} {p2 : List Int} {ph : DHeld} {x0 x1 : Int} {tag : Int} (hr0 : tHeld.row.R w w.heap.size [.slice A0 n0 c0] p1) (h1 : tIs.R w w.heap.size [.slice A1 n1 c1] p2) (hRh : tHeld.R w w.heap.size [.int .i64 x0, .int .i64 x1, .slice A2 n2 c2] ph)
    (hn0 : n0 < 12) (hn1 : n1 ≤ 60) (hw : (Lit.int .i64 tag).wf = true) (hr : recN p2 tag = 0) :
    Calls Try.prog 85 #[.agg #[.slice A0 n0 c0, .slice A1 n1 c1], .agg #[.int .i64 x0, .int .i64 x1, .slice A2 n2 c2], .int .i64 tag] w fun e w' => ∃ cs', e = .returned (.tuple #[.agg cs'.toArray, .int .i64 0]) ∧ tPool.R w' w'.heap.size cs' (p1 ++ [ph], p2 ++ [tag]) ∧ Below w.heap.size w w' := by
  obtain ⟨i1, hj0, hj1, hj2, hj3⟩ := info_parts info_Held
  obtain ⟨e0, _, _⟩ := rowR_len hr0
  have hq : ¬ (12 : Int) ≤ (n0 : Int) := by omega
  have tz : (Value.agg #[Value.int .i64 0, Value.int .i64 0, Value.slice none 0 0]).cells.size = 3 := by first | rfl | (simp [Value.cells]; done)
  have t1 : ([] : List DHeld).length + n0 ≤ maxLen := by simp only [maxLen, List.length_nil]; omega
  have t2 : (([] : List DHeld).length + n0) * 40 ≤ 140737488355328 := by simp only [List.length_nil]; omega
  have t3 : p1.length + 1 ≤ maxLen := by simp only [maxLen]; omega
  have t4 : (p1.length + 1) * 40 ≤ 140737488355328 := by omega
  clear e0
  go_enter Try.func85, Try.ntmps85
  go_wp2_with fail
  refine (s_see5_t (tIs.reach h1 ?hB) hn1 hw hr).mono ?_
  case hB => exact (by repeat (first | (with_reducible exact Below.refl _ _) | (with_reducible assumption) | (with_reducible refine bel_alloc ?_ _) | (with_reducible refine bel_drew ?_) | (with_reducible refine below_drewN ?_ _) | (with_reducible refine bel_put ?_ (by first | exact Nat.le_refl _ | (simp; done) | (simp; omega)) _)))
  rintro e w1 ⟨A7, n7, c7, F7, rfl, hO7, hN7, hb1⟩
  have hB1 : Below w.heap.size w w1 := bel_trans (by repeat (first | (with_reducible exact Below.refl _ _) | (with_reducible assumption) | (with_reducible refine bel_alloc ?_ _) | (with_reducible refine bel_drew ?_) | (with_reducible refine below_drewN ?_ _) | (with_reducible refine bel_put ?_ (by first | exact Nat.le_refl _ | (simp; done) | (simp; omega)) _))) hb1
  have z1 : w.heap.size + 3 ≤ w1.heap.size := by have := hb1.size; simpa using this
  have H1 : Box w1 (w.heap.size + 1) 54 #[.int .i64 x0, .int .i64 x1, .slice A2 n2 c2] := Box.below (Box.alloc (by simpa using Box.new (w.alloc (.cells #[.slice A0 n0 c0, .slice A1 n1 c1] 29)) 54 #[.int .i64 x0, .int .i64 x1, .slice A2 n2 c2]) _) hb1 (by first | (simp; done) | (simp; omega))
  have Y1 : Box w1 (w.heap.size + 1 + 1) 29 #[.slice none 0 0, .slice none 0 0] := Box.below (by simpa using Box.new ((w.alloc (.cells #[.slice A0 n0 c0, .slice A1 n1 c1] 29)).alloc (.cells #[.int .i64 x0, .int .i64 x1, .slice A2 n2 c2] 54)) 29 #[.slice none 0 0, .slice none 0 0]) hb1 (by first | (simp; done) | (simp; omega))
  have hM7 : New (w.heap.size + 3) F7 := hN7.lower (by first | (simp; done) | (simp; omega))
  clear hb1 hN7 h1
  have H_ : Box (w1.alloc (.cells #[.slice A0 n0 c0, .slice A7 n7 c7] 29)) (w.heap.size + 1) 54 #[.int .i64 x0, .int .i64 x1, .slice A2 n2 c2] := H1.alloc _
  have T_ : Box (w1.alloc (.cells #[.slice A0 n0 c0, .slice A7 n7 c7] 29)) w1.heap.size 29 #[.slice A0 n0 c0, .slice A7 n7 c7] := (Box.new w1 29 #[.slice A0 n0 c0, .slice A7 n7 c7])
  have t_ := T_.cell 0
  have Y_ : Box (w1.alloc (.cells #[.slice A0 n0 c0, .slice A7 n7 c7] 29)) (w.heap.size + 1 + 1) 29 #[.slice none 0 0, .slice none 0 0] := Y1.alloc _
  have H_E : Box ((w1.alloc (.cells #[.slice A0 n0 c0, .slice A7 n7 c7] 29)).alloc (.cells #[] 54)) (w.heap.size + 1) 54 #[.int .i64 x0, .int .i64 x1, .slice A2 n2 c2] := (H1.alloc _).alloc _
  have T_E : Box ((w1.alloc (.cells #[.slice A0 n0 c0, .slice A7 n7 c7] 29)).alloc (.cells #[] 54)) w1.heap.size 29 #[.slice A0 n0 c0, .slice A7 n7 c7] := (((Box.new w1 29 #[.slice A0 n0 c0, .slice A7 n7 c7])).alloc _)
  have t_E := T_E.cell 0
  have Y_E : Box ((w1.alloc (.cells #[.slice A0 n0 c0, .slice A7 n7 c7] 29)).alloc (.cells #[] 54)) (w.heap.size + 1 + 1) 29 #[.slice none 0 0, .slice none 0 0] := (Y1.alloc _).alloc _
  have H_V : Box ((w1.alloc (.cells #[.slice A0 n0 c0, .slice A7 n7 c7] 29)).alloc (.cells [.int .i64 x0, .int .i64 x1, .slice A2 n2 c2].toArray 54)) (w.heap.size + 1) 54 #[.int .i64 x0, .int .i64 x1, .slice A2 n2 c2] := (H1.alloc _).alloc _
  have T_V : Box ((w1.alloc (.cells #[.slice A0 n0 c0, .slice A7 n7 c7] 29)).alloc (.cells [.int .i64 x0, .int .i64 x1, .slice A2 n2 c2].toArray 54)) w1.heap.size 29 #[.slice A0 n0 c0, .slice A7 n7 c7] := (((Box.new w1 29 #[.slice A0 n0 c0, .slice A7 n7 c7])).alloc _)
  have t_V := T_V.cell 0
  have Y_V : Box ((w1.alloc (.cells #[.slice A0 n0 c0, .slice A7 n7 c7] 29)).alloc (.cells [.int .i64 x0, .int .i64 x1, .slice A2 n2 c2].toArray 54)) (w.heap.size + 1 + 1) 29 #[.slice none 0 0, .slice none 0 0] := (Y1.alloc _).alloc _
  have V_V : Box ((w1.alloc (.cells #[.slice A0 n0 c0, .slice A7 n7 c7] 29)).alloc (.cells [.int .i64 x0, .int .i64 x1, .slice A2 n2 c2].toArray 54)) (w1.heap.size + 1) 54 ([.int .i64 x0, .int .i64 x1, .slice A2 n2 c2].toArray) := (by simpa using Box.new (w1.alloc (.cells #[.slice A0 n0 c0, .slice A7 n7 c7] 29)) 54 ([.int .i64 x0, .int .i64 x1, .slice A2 n2 c2].toArray))
  have H_EV : Box (((w1.alloc (.cells #[.slice A0 n0 c0, .slice A7 n7 c7] 29)).alloc (.cells #[] 54)).alloc (.cells [.int .i64 x0, .int .i64 x1, .slice A2 n2 c2].toArray 54)) (w.heap.size + 1) 54 #[.int .i64 x0, .int .i64 x1, .slice A2 n2 c2] := ((H1.alloc _).alloc _).alloc _
  have T_EV : Box (((w1.alloc (.cells #[.slice A0 n0 c0, .slice A7 n7 c7] 29)).alloc (.cells #[] 54)).alloc (.cells [.int .i64 x0, .int .i64 x1, .slice A2 n2 c2].toArray 54)) w1.heap.size 29 #[.slice A0 n0 c0, .slice A7 n7 c7] := (((((Box.new w1 29 #[.slice A0 n0 c0, .slice A7 n7 c7])).alloc _)).alloc _)
  have t_EV := T_EV.cell 0
  have Y_EV : Box (((w1.alloc (.cells #[.slice A0 n0 c0, .slice A7 n7 c7] 29)).alloc (.cells #[] 54)).alloc (.cells [.int .i64 x0, .int .i64 x1, .slice A2 n2 c2].toArray 54)) (w.heap.size + 1 + 1) 29 #[.slice none 0 0, .slice none 0 0] := ((Y1.alloc _).alloc _).alloc _
  have V_EV : Box (((w1.alloc (.cells #[.slice A0 n0 c0, .slice A7 n7 c7] 29)).alloc (.cells #[] 54)).alloc (.cells [.int .i64 x0, .int .i64 x1, .slice A2 n2 c2].toArray 54)) (w1.heap.size + 2) 54 ([.int .i64 x0, .int .i64 x1, .slice A2 n2 c2].toArray) := (by simpa using Box.new ((w1.alloc (.cells #[.slice A0 n0 c0, .slice A7 n7 c7] 29)).alloc (.cells #[] 54)) 54 ([.int .i64 x0, .int .i64 x1, .slice A2 n2 c2].toArray))
  have H_VE : Box (((w1.alloc (.cells #[.slice A0 n0 c0, .slice A7 n7 c7] 29)).alloc (.cells [.int .i64 x0, .int .i64 x1, .slice A2 n2 c2].toArray 54)).alloc (.cells #[] 54)) (w.heap.size + 1) 54 #[.int .i64 x0, .int .i64 x1, .slice A2 n2 c2] := ((H1.alloc _).alloc _).alloc _
  have T_VE : Box (((w1.alloc (.cells #[.slice A0 n0 c0, .slice A7 n7 c7] 29)).alloc (.cells [.int .i64 x0, .int .i64 x1, .slice A2 n2 c2].toArray 54)).alloc (.cells #[] 54)) w1.heap.size 29 #[.slice A0 n0 c0, .slice A7 n7 c7] := (((((Box.new w1 29 #[.slice A0 n0 c0, .slice A7 n7 c7])).alloc _)).alloc _)
  have t_VE := T_VE.cell 0
  have Y_VE : Box (((w1.alloc (.cells #[.slice A0 n0 c0, .slice A7 n7 c7] 29)).alloc (.cells [.int .i64 x0, .int .i64 x1, .slice A2 n2 c2].toArray 54)).alloc (.cells #[] 54)) (w.heap.size + 1 + 1) 29 #[.slice none 0 0, .slice none 0 0] := ((Y1.alloc _).alloc _).alloc _
  have V_VE : Box (((w1.alloc (.cells #[.slice A0 n0 c0, .slice A7 n7 c7] 29)).alloc (.cells [.int .i64 x0, .int .i64 x1, .slice A2 n2 c2].toArray 54)).alloc (.cells #[] 54)) (w1.heap.size + 1) 54 ([.int .i64 x0, .int .i64 x1, .slice A2 n2 c2].toArray) := (Box.alloc (show Box ((w1.alloc (.cells #[.slice A0 n0 c0, .slice A7 n7 c7] 29)).alloc (.cells [.int .i64 x0, .int .i64 x1, .slice A2 n2 c2].toArray 54)) (w1.heap.size + 1) 54 ([.int .i64 x0, .int .i64 x1, .slice A2 n2 c2].toArray) from (by simpa using Box.new (w1.alloc (.cells #[.slice A0 n0 c0, .slice A7 n7 c7] 29)) 54 ([.int .i64 x0, .int .i64 x1, .slice A2 n2 c2].toArray))) _)
  go_wp2_with fail
  refine wp_region_held_drew (S := (fun w' => w'.cell? ⟨w.heap.size + 1, 0, none⟩ = some (.int .i64 x0) ∧ w'.cell? ⟨w.heap.size + 1, 1, none⟩ = some (.int .i64 x1) ∧ w'.cell? ⟨w.heap.size + 1, 2, none⟩ = some (.slice A2 n2 c2))) (by kernel_rfl) (by exact ⟨H_.cell 0, H_.cell 1, H_.cell 2⟩) (fun hHeld => ?_)
  refine wpAnyH_take (i := 1) (v := ?v1) rfl (by kernel_rfl) (by kernel_rfl) (by kernel_rfl) (fun _ _ _ h => h) (Or.inl ⟨by rfl, ?hy1⟩) (by assumption) ?_
  case hy1 => (intro w hSw; (try dsimp only at hSw); go_simp; try (with_reducible rfl))
  (try simp only [Act.put, List.setIfInBounds_toArray, List.set_cons_zero, List.set_cons_succ])
  refine wpAnyH_take (i := 4) (v := ?v2) rfl (by kernel_rfl) (by kernel_rfl) (by kernel_rfl) (fun _ _ _ h => h) (Or.inl ⟨by rfl, ?hy2⟩) (by assumption) ?_
  case hy2 => (intro w hSw; (try dsimp only at hSw); go_simp; try (with_reducible rfl))
  (try simp only [Act.put, List.setIfInBounds_toArray, List.set_cons_zero, List.set_cons_succ])
  refine wpAnyH_ready (rs := [0, 2, 5]) (by kernel_rfl) (by simp) ?_
  refine AllReadyH.cons rfl (fun K hK => ?_) ?_
  · go_simp
    refine hK.out _ _ (by exact ⟨H_E.cell 0, H_E.cell 1, H_E.cell 2⟩) (fun hHeld => ?_)
    clear hK K
    (try simp only [Act.put, List.setIfInBounds_toArray, List.set_cons_zero, List.set_cons_succ])
    refine wpAnyH_ready (rs := [2, 5]) (by kernel_rfl) (by simp) ?_
    refine AllReadyH.cons rfl (fun K hK => ?_) ?_
    · go_simp
      refine hK.out _ _ (by exact ⟨H_E.cell 0, H_E.cell 1, H_E.cell 2⟩) (fun hHeld => ?_)
      clear hK K
      (try simp only [Act.put, List.setIfInBounds_toArray, List.set_cons_zero, List.set_cons_succ])
      refine wpAnyH_ready (rs := [3, 5]) (by kernel_rfl) (by simp) ?_
      refine AllReadyH.cons rfl (fun K hK => ?_) ?_
      · have hE : GrowR tHeld 54 (((w1.alloc (.cells #[.slice A0 n0 c0, .slice A7 n7 c7] 29)).alloc (.cells #[] 54)).drew) (w1.heap.size + 1) w.heap.size (.slice (some ⟨w1.heap.size + 1, 0, none⟩) 0 0) [] := GrowR.drew (by simpa using (GrowR.empty (t := tHeld) (e := 54) (w := (w1.alloc (.cells #[.slice A0 n0 c0, .slice A7 n7 c7] 29))) (base := w1.heap.size + 1) (B := w.heap.size) (by first | (simp; done) | (simp; omega)))) (by simp; omega)
        have hR3 : tHeld.row.R (((w1.alloc (.cells #[.slice A0 n0 c0, .slice A7 n7 c7] 29)).alloc (.cells #[] 54)).drew) w.heap.size [.slice A0 n0 c0] p1 := tHeld.row.keep hr0 (fun b hb => (show Below w.heap.size w (((w1.alloc (.cells #[.slice A0 n0 c0, .slice A7 n7 c7] 29)).alloc (.cells #[] 54)).drew) from bel_trans hB1 (by repeat (first | (with_reducible exact Below.refl _ _) | (with_reducible assumption) | (with_reducible refine bel_alloc ?_ _) | (with_reducible refine bel_drew ?_) | (with_reducible refine below_drewN ?_ _) | (with_reducible refine bel_put ?_ (by first | exact Nat.le_refl _ | (simp; done) | (simp; omega)) _)))).block b hb)
        refine GrowR.stepRow (by rfl) (.tmp 25) (.tmp 27) _ (by rfl) i1 _ 3 40 Try.underlying27 hj0 hj1 hj2 hj3 tz (by omega) rfl (by rfl) hE (by rfl) hR3 one_cells_Held (by omega) (by first | omega | (simp; done) | (simp; omega) | (show _ ≤ (World.alloc _ _).heap.size; simp) | (show _ ≤ (World.alloc _ _).heap.size; simp; omega)) t1 t2 ?_
        intro v3 w3 hG3 hgr3
        have z3 : w1.heap.size + 1 + 1 ≤ w3.heap.size := Nat.le_trans (by first | omega | (simp; done) | (simp; omega) | (show _ ≤ (World.alloc _ _).heap.size; simp) | (show _ ≤ (World.alloc _ _).heap.size; simp; omega)) hgr3.size
        have hB3 : Below w.heap.size w w3 := Below.grown (w := ((w1.alloc (.cells #[.slice A0 n0 c0, .slice A7 n7 c7] 29)).alloc (.cells #[] 54)).drew) (bel_trans hB1 (by repeat (first | (with_reducible exact Below.refl _ _) | (with_reducible assumption) | (with_reducible refine bel_alloc ?_ _) | (with_reducible refine bel_drew ?_) | (with_reducible refine below_drewN ?_ _) | (with_reducible refine bel_put ?_ (by first | exact Nat.le_refl _ | (simp; done) | (simp; omega)) _)))) hgr3 (by first | omega | (simp; done) | (simp; omega) | (show _ ≤ (World.alloc _ _).heap.size; simp) | (show _ ≤ (World.alloc _ _).heap.size; simp; omega)) (fun b hb => by have e := Option.some.inj (show (some (w1.heap.size + 1)) = some b from hb); omega)
        have hC3 : Below w1.heap.size w1 w3 := Below.grown (w := ((w1.alloc (.cells #[.slice A0 n0 c0, .slice A7 n7 c7] 29)).alloc (.cells #[] 54)).drew) (by repeat (first | (with_reducible exact Below.refl _ _) | (with_reducible assumption) | (with_reducible refine bel_alloc ?_ _) | (with_reducible refine bel_drew ?_) | (with_reducible refine below_drewN ?_ _) | (with_reducible refine bel_put ?_ (by first | exact Nat.le_refl _ | (simp; done) | (simp; omega)) _))) hgr3 (by first | omega | (simp; done) | (simp; omega) | (show _ ≤ (World.alloc _ _).heap.size; simp) | (show _ ≤ (World.alloc _ _).heap.size; simp; omega)) (fun b hb => by have e := Option.some.inj (show (some (w1.heap.size + 1)) = some b from hb); omega)
        have H3 := Box.grown (w := ((w1.alloc (.cells #[.slice A0 n0 c0, .slice A7 n7 c7] 29)).alloc (.cells #[] 54)).drew) (Box.drew H_E) hgr3 (fun e => by have e := Option.some.inj (show some (w.heap.size + 1) = (some (w1.heap.size + 1)) from e); omega)
        have T3 := Box.grown (w := ((w1.alloc (.cells #[.slice A0 n0 c0, .slice A7 n7 c7] 29)).alloc (.cells #[] 54)).drew) (Box.drew T_E) hgr3 (fun e => by have e := Option.some.inj (show some w1.heap.size = (some (w1.heap.size + 1)) from e); omega)
        have Y3 := Box.grown (w := ((w1.alloc (.cells #[.slice A0 n0 c0, .slice A7 n7 c7] 29)).alloc (.cells #[] 54)).drew) (Box.drew Y_E) hgr3 (fun e => by have e := Option.some.inj (show some (w.heap.size + 1 + 1) = (some (w1.heap.size + 1)) from e); omega)
        have hOwn3 := hG3.own
        have hG3' : GrowR tHeld 54 w3 (w1.heap.size + 1) w.heap.size v3 p1 := hG3
        have H3V := H3.alloc (.cells ([.int .i64 x0, .int .i64 x1, .slice A2 n2 c2].toArray) 54)
        refine hK.out _ _ (by exact ⟨H3.cell 0, H3.cell 1, H3.cell 2⟩) (fun hHeld => ?_)
        clear hK K
        (try simp only [Act.put, List.setIfInBounds_toArray, List.set_cons_zero, List.set_cons_succ])
        refine wpAnyH_ready (rs := [5]) (by kernel_rfl) (by simp) ?_
        refine AllReadyH.cons rfl (fun K hK => ?_) ?_
        · go_simp
          refine hK.out _ _ (by exact ⟨H3V.cell 0, H3V.cell 1, H3V.cell 2⟩) (fun hHeld => ?_)
          clear hK K
          (try simp only [Act.put, List.setIfInBounds_toArray, List.set_cons_zero, List.set_cons_succ])
          refine wpAnyH_ready (rs := [6]) (by kernel_rfl) (by simp) ?_
          refine AllReadyH.cons rfl (fun K hK => ?_) ?_
          · refine GrowR.step (by rfl) (.tmp 28) (.tmp 30) _ (by rfl) i1 _ 3 40 Try.underlying27 hj0 hj1 hj2 hj3 tz (by omega) rfl (by rfl) (hG3'.below (by repeat (first | (with_reducible exact Below.refl _ _) | (with_reducible assumption) | (with_reducible refine bel_alloc ?_ _) | (with_reducible refine bel_drew ?_) | (with_reducible refine below_drewN ?_ _) | (with_reducible refine bel_put ?_ (by first | exact Nat.le_refl _ | (simp; done) | (simp; omega)) _))) (by omega)) w3.heap.size [.int .i64 x0, .int .i64 x1, .slice A2 n2 c2] ph (by rfl) (Box.new w3 54 ([.int .i64 x0, .int .i64 x1, .slice A2 n2 c2].toArray)) (tHeld.keep hRh (fun b hb => (show Below w.heap.size w (w3.alloc (.cells ([.int .i64 x0, .int .i64 x1, .slice A2 n2 c2].toArray) 54)) from bel_alloc hB3 _).block b hb)) (one_held _ _ _ _ _) (by omega) (by first | omega | (simp; done) | (simp; omega) | (show _ ≤ (World.alloc _ _).heap.size; simp) | (show _ ≤ (World.alloc _ _).heap.size; simp; omega)) t3 t4 ?_
            intro v4 w4 hG4 hgr4
            obtain ⟨A9, n9, c9, rfl, -⟩ := hG4.shapeN
            have hB4 : Below w.heap.size w w4 := Below.grown (w := (w3.alloc (.cells ([.int .i64 x0, .int .i64 x1, .slice A2 n2 c2].toArray) 54))) (bel_alloc hB3 _) hgr4 (by first | omega | (simp; done) | (simp; omega) | (show _ ≤ (World.alloc _ _).heap.size; simp) | (show _ ≤ (World.alloc _ _).heap.size; simp; omega)) (fun b hb => by have := (hOwn3 b hb).1; omega)
            have hC4 : Below w1.heap.size w1 w4 := Below.grown (w := (w3.alloc (.cells ([.int .i64 x0, .int .i64 x1, .slice A2 n2 c2].toArray) 54))) (bel_alloc hC3 _) hgr4 (by first | omega | (simp; done) | (simp; omega) | (show _ ≤ (World.alloc _ _).heap.size; simp) | (show _ ≤ (World.alloc _ _).heap.size; simp; omega)) (fun b hb => by have := (hOwn3 b hb).1; omega)
            have z4 : w1.heap.size + 1 ≤ w4.heap.size := Nat.le_trans (by first | omega | (simp; done) | (simp; omega) | (show _ ≤ (World.alloc _ _).heap.size; simp) | (show _ ≤ (World.alloc _ _).heap.size; simp; omega)) hgr4.size
            have H4 := Box.grown (w := (w3.alloc (.cells ([.int .i64 x0, .int .i64 x1, .slice A2 n2 c2].toArray) 54))) (H3.alloc _) hgr4 (fun e => by have := (hOwn3 _ e.symm).1; omega)
            have T4 := Box.grown (w := (w3.alloc (.cells ([.int .i64 x0, .int .i64 x1, .slice A2 n2 c2].toArray) 54))) (T3.alloc _) hgr4 (fun e => by have := (hOwn3 _ e.symm).1; omega)
            have Y4 := Box.grown (w := (w3.alloc (.cells ([.int .i64 x0, .int .i64 x1, .slice A2 n2 c2].toArray) 54))) (Y3.alloc _) hgr4 (fun e => by have := (hOwn3 _ e.symm).1; omega)
            have q0 := T4.cell 0
            have q1 := T4.cell 1
            have f0 := T4.frozen 0
            have f1 := T4.frozen 1
            have H9 := H4.far (p := ⟨w1.heap.size, 0, none⟩) (by show w.heap.size + 1 ≠ w1.heap.size; omega) (.slice A9 n9 c9)
            have Y9 := Y4.far (p := ⟨w1.heap.size, 0, none⟩) (by show w.heap.size + 1 + 1 ≠ w1.heap.size; omega) (.slice A9 n9 c9)
            have T9 := T4.put 0 (.slice A9 n9 c9)
            have y0 := Y9.cell 0
            have y1 := Y9.cell 1
            have y2 := Y9.frozen 0
            have y3 := Y9.frozen 1
            have s0 := T9.cell 0
            have s1 := T9.cell 1
            refine hK.out _ _ (by exact ⟨H4.cell 0, H4.cell 1, H4.cell 2⟩) (fun hHeld => ?_)
            clear hK K
            (try simp only [Act.put, List.setIfInBounds_toArray, List.set_cons_zero, List.set_cons_succ])
            refine wpAnyH_take (i := 7) (v := ?v3) rfl (by kernel_rfl) (by kernel_rfl) (by kernel_rfl) (fun _ _ _ h => h) (Or.inl ⟨by rfl, ?hy3⟩) (by assumption) ?_
            case hy3 => (intro w hSw; (try dsimp only at hSw); go_simp; try (with_reducible rfl))
            (try simp only [Act.put, List.setIfInBounds_toArray, List.set_cons_zero, List.set_cons_succ])
            refine wpAnyH_ready (rs := [8]) (by kernel_rfl) (by simp) ?_
            refine AllReadyH.cons rfl (fun K hK => ?_) ?_
            · go_simp
              refine hK.out _ _ (by exact ⟨H9.cell 0, H9.cell 1, H9.cell 2⟩) (fun hHeld => ?_)
              clear hK K
              (try simp only [Act.put, List.setIfInBounds_toArray, List.set_cons_zero, List.set_cons_succ])
              refine wpAnyH_done (by kernel_rfl) ?_ _
              go_wp2
              have hG9 := ((hG4.put (p := ⟨w1.heap.size, 0, none⟩) (by show w1.heap.size < _; omega) (by show _ ≤ w1.heap.size; omega) (.slice A9 n9 c9)).put (p := ⟨w.heap.size + 1 + 1, 0, none⟩) (by show w.heap.size + 1 + 1 < _; omega) (by show _ ≤ w.heap.size + 1 + 1; omega) (.slice A9 n9 c9)).put (p := ⟨w.heap.size + 1 + 1, 1, none⟩) (by show w.heap.size + 1 + 1 < _; omega) (by show _ ≤ w.heap.size + 1 + 1; omega) (.slice A7 n7 c7)
              have RR := (Y9.put 0 (.slice A9 n9 c9)).put 1 (.slice A7 n7 c7)
              have e0 := RR.cell 0
              have e1 := RR.cell 1
              have O7 := Ty.far3 (t := tIs) (Ty.far3 (t := tIs) (Ty.far3 (t := tIs) (Ty.below (t := tIs) hO7 hC4) (p := ⟨w1.heap.size, 0, none⟩) (fun hx => by have := tIs.lt hO7 _ hx; dsimp only at this; omega) (.slice A9 n9 c9)) (p := ⟨w.heap.size + 1 + 1, 0, none⟩) (fun hx => by have := hM7.2 _ hx; dsimp only at this; omega) (.slice A9 n9 c9)) (p := ⟨w.heap.size + 1 + 1, 1, none⟩) (fun hx => by have := hM7.2 _ hx; dsimp only at this; omega) (.slice A7 n7 c7)
              refine bodyPost_ret (v := .tuple #[.agg #[.slice A9 n9 c9, .slice A7 n7 c7], .int .i64 0]) (by simp [results, Try.results85, go_sem, e0, e1]) rfl ⟨[.slice A9 n9 c9, .slice A7 n7 c7], rfl, makePool (p := (p1 ++ [ph], p2 ++ [tag])) (hG9.doneAs (by simp [World.setCell]; omega)) (tIs.read O7), ?_⟩
              exact bel_put (bel_put (bel_put hB4 (by show _ ≤ w1.heap.size; omega) _) (by show _ ≤ w.heap.size + 1 + 1; omega) _) (by show _ ≤ w.heap.size + 1 + 1; omega) _
            exact AllReadyH.nil
          exact AllReadyH.nil
        exact AllReadyH.nil
      refine AllReadyH.cons rfl (fun K hK => ?_) ?_
      · go_simp
        refine hK.out _ _ (by exact ⟨H_EV.cell 0, H_EV.cell 1, H_EV.cell 2⟩) (fun hHeld => ?_)
        clear hK K
        (try simp only [Act.put, List.setIfInBounds_toArray, List.set_cons_zero, List.set_cons_succ])
        refine wpAnyH_ready (rs := [3]) (by kernel_rfl) (by simp) ?_
        refine AllReadyH.cons rfl (fun K hK => ?_) ?_
        · have hE : GrowR tHeld 54 ((((w1.alloc (.cells #[.slice A0 n0 c0, .slice A7 n7 c7] 29)).alloc (.cells #[] 54)).alloc (.cells [.int .i64 x0, .int .i64 x1, .slice A2 n2 c2].toArray 54)).drew) (w1.heap.size + 1) w.heap.size (.slice (some ⟨w1.heap.size + 1, 0, none⟩) 0 0) [] := GrowR.drew (GrowR.below (by simpa using (GrowR.empty (t := tHeld) (e := 54) (w := (w1.alloc (.cells #[.slice A0 n0 c0, .slice A7 n7 c7] 29))) (base := w1.heap.size + 1) (B := w.heap.size) (by first | (simp; done) | (simp; omega)))) (by repeat (first | (with_reducible exact Below.refl _ _) | (with_reducible assumption) | (with_reducible refine bel_alloc ?_ _) | (with_reducible refine bel_drew ?_) | (with_reducible refine below_drewN ?_ _) | (with_reducible refine bel_put ?_ (by first | exact Nat.le_refl _ | (simp; done) | (simp; omega)) _))) (by simp; omega)) (by simp; omega)
          have hR3 : tHeld.row.R ((((w1.alloc (.cells #[.slice A0 n0 c0, .slice A7 n7 c7] 29)).alloc (.cells #[] 54)).alloc (.cells [.int .i64 x0, .int .i64 x1, .slice A2 n2 c2].toArray 54)).drew) w.heap.size [.slice A0 n0 c0] p1 := tHeld.row.keep hr0 (fun b hb => (show Below w.heap.size w ((((w1.alloc (.cells #[.slice A0 n0 c0, .slice A7 n7 c7] 29)).alloc (.cells #[] 54)).alloc (.cells [.int .i64 x0, .int .i64 x1, .slice A2 n2 c2].toArray 54)).drew) from bel_trans hB1 (by repeat (first | (with_reducible exact Below.refl _ _) | (with_reducible assumption) | (with_reducible refine bel_alloc ?_ _) | (with_reducible refine bel_drew ?_) | (with_reducible refine below_drewN ?_ _) | (with_reducible refine bel_put ?_ (by first | exact Nat.le_refl _ | (simp; done) | (simp; omega)) _)))).block b hb)
          refine GrowR.stepRow (by rfl) (.tmp 25) (.tmp 27) _ (by rfl) i1 _ 3 40 Try.underlying27 hj0 hj1 hj2 hj3 tz (by omega) rfl (by rfl) hE (by rfl) hR3 one_cells_Held (by omega) (by first | omega | (simp; done) | (simp; omega) | (show _ ≤ (World.alloc _ _).heap.size; simp) | (show _ ≤ (World.alloc _ _).heap.size; simp; omega)) t1 t2 ?_
          intro v3 w3 hG3 hgr3
          have z3 : w1.heap.size + 1 + 2 ≤ w3.heap.size := Nat.le_trans (by first | omega | (simp; done) | (simp; omega) | (show _ ≤ (World.alloc _ _).heap.size; simp) | (show _ ≤ (World.alloc _ _).heap.size; simp; omega)) hgr3.size
          have hB3 : Below w.heap.size w w3 := Below.grown (w := (((w1.alloc (.cells #[.slice A0 n0 c0, .slice A7 n7 c7] 29)).alloc (.cells #[] 54)).alloc (.cells [.int .i64 x0, .int .i64 x1, .slice A2 n2 c2].toArray 54)).drew) (bel_trans hB1 (by repeat (first | (with_reducible exact Below.refl _ _) | (with_reducible assumption) | (with_reducible refine bel_alloc ?_ _) | (with_reducible refine bel_drew ?_) | (with_reducible refine below_drewN ?_ _) | (with_reducible refine bel_put ?_ (by first | exact Nat.le_refl _ | (simp; done) | (simp; omega)) _)))) hgr3 (by first | omega | (simp; done) | (simp; omega) | (show _ ≤ (World.alloc _ _).heap.size; simp) | (show _ ≤ (World.alloc _ _).heap.size; simp; omega)) (fun b hb => by have e := Option.some.inj (show (some (w1.heap.size + 1)) = some b from hb); omega)
          have hC3 : Below w1.heap.size w1 w3 := Below.grown (w := (((w1.alloc (.cells #[.slice A0 n0 c0, .slice A7 n7 c7] 29)).alloc (.cells #[] 54)).alloc (.cells [.int .i64 x0, .int .i64 x1, .slice A2 n2 c2].toArray 54)).drew) (by repeat (first | (with_reducible exact Below.refl _ _) | (with_reducible assumption) | (with_reducible refine bel_alloc ?_ _) | (with_reducible refine bel_drew ?_) | (with_reducible refine below_drewN ?_ _) | (with_reducible refine bel_put ?_ (by first | exact Nat.le_refl _ | (simp; done) | (simp; omega)) _))) hgr3 (by first | omega | (simp; done) | (simp; omega) | (show _ ≤ (World.alloc _ _).heap.size; simp) | (show _ ≤ (World.alloc _ _).heap.size; simp; omega)) (fun b hb => by have e := Option.some.inj (show (some (w1.heap.size + 1)) = some b from hb); omega)
          have H3 := Box.grown (w := (((w1.alloc (.cells #[.slice A0 n0 c0, .slice A7 n7 c7] 29)).alloc (.cells #[] 54)).alloc (.cells [.int .i64 x0, .int .i64 x1, .slice A2 n2 c2].toArray 54)).drew) (Box.drew H_EV) hgr3 (fun e => by have e := Option.some.inj (show some (w.heap.size + 1) = (some (w1.heap.size + 1)) from e); omega)
          have T3 := Box.grown (w := (((w1.alloc (.cells #[.slice A0 n0 c0, .slice A7 n7 c7] 29)).alloc (.cells #[] 54)).alloc (.cells [.int .i64 x0, .int .i64 x1, .slice A2 n2 c2].toArray 54)).drew) (Box.drew T_EV) hgr3 (fun e => by have e := Option.some.inj (show some w1.heap.size = (some (w1.heap.size + 1)) from e); omega)
          have Y3 := Box.grown (w := (((w1.alloc (.cells #[.slice A0 n0 c0, .slice A7 n7 c7] 29)).alloc (.cells #[] 54)).alloc (.cells [.int .i64 x0, .int .i64 x1, .slice A2 n2 c2].toArray 54)).drew) (Box.drew Y_EV) hgr3 (fun e => by have e := Option.some.inj (show some (w.heap.size + 1 + 1) = (some (w1.heap.size + 1)) from e); omega)
          have V3 := Box.grown (w := (((w1.alloc (.cells #[.slice A0 n0 c0, .slice A7 n7 c7] 29)).alloc (.cells #[] 54)).alloc (.cells [.int .i64 x0, .int .i64 x1, .slice A2 n2 c2].toArray 54)).drew) (Box.drew V_EV) hgr3 (fun e => by have e := Option.some.inj (show some (w1.heap.size + 2) = (some (w1.heap.size + 1)) from e); omega)
          have hOwn3 := hG3.own
          have hG3' : GrowR tHeld 54 w3 (w1.heap.size + 1) w.heap.size v3 p1 := hG3
          have H3V := H3.alloc (.cells ([.int .i64 x0, .int .i64 x1, .slice A2 n2 c2].toArray) 54)
          refine hK.out _ _ (by exact ⟨H3.cell 0, H3.cell 1, H3.cell 2⟩) (fun hHeld => ?_)
          clear hK K
          (try simp only [Act.put, List.setIfInBounds_toArray, List.set_cons_zero, List.set_cons_succ])
          refine wpAnyH_ready (rs := [6]) (by kernel_rfl) (by simp) ?_
          refine AllReadyH.cons rfl (fun K hK => ?_) ?_
          · refine GrowR.step (by rfl) (.tmp 28) (.tmp 30) _ (by rfl) i1 _ 3 40 Try.underlying27 hj0 hj1 hj2 hj3 tz (by omega) rfl (by rfl) hG3' (w1.heap.size + 2) [.int .i64 x0, .int .i64 x1, .slice A2 n2 c2] ph (by rfl) V3 (tHeld.keep hRh (fun b hb => (show Below w.heap.size w w3 from hB3).block b hb)) (one_held _ _ _ _ _) (by omega) (by first | omega | (simp; done) | (simp; omega) | (show _ ≤ (World.alloc _ _).heap.size; simp) | (show _ ≤ (World.alloc _ _).heap.size; simp; omega)) t3 t4 ?_
            intro v4 w4 hG4 hgr4
            obtain ⟨A9, n9, c9, rfl, -⟩ := hG4.shapeN
            have hB4 : Below w.heap.size w w4 := Below.grown (w := w3) hB3 hgr4 (by first | omega | (simp; done) | (simp; omega) | (show _ ≤ (World.alloc _ _).heap.size; simp) | (show _ ≤ (World.alloc _ _).heap.size; simp; omega)) (fun b hb => by have := (hOwn3 b hb).1; omega)
            have hC4 : Below w1.heap.size w1 w4 := Below.grown (w := w3) hC3 hgr4 (by first | omega | (simp; done) | (simp; omega) | (show _ ≤ (World.alloc _ _).heap.size; simp) | (show _ ≤ (World.alloc _ _).heap.size; simp; omega)) (fun b hb => by have := (hOwn3 b hb).1; omega)
            have z4 : w1.heap.size + 1 ≤ w4.heap.size := Nat.le_trans (by first | omega | (simp; done) | (simp; omega) | (show _ ≤ (World.alloc _ _).heap.size; simp) | (show _ ≤ (World.alloc _ _).heap.size; simp; omega)) hgr4.size
            have H4 := Box.grown (w := w3) H3 hgr4 (fun e => by have := (hOwn3 _ e.symm).1; omega)
            have T4 := Box.grown (w := w3) T3 hgr4 (fun e => by have := (hOwn3 _ e.symm).1; omega)
            have Y4 := Box.grown (w := w3) Y3 hgr4 (fun e => by have := (hOwn3 _ e.symm).1; omega)
            have q0 := T4.cell 0
            have q1 := T4.cell 1
            have f0 := T4.frozen 0
            have f1 := T4.frozen 1
            have H9 := H4.far (p := ⟨w1.heap.size, 0, none⟩) (by show w.heap.size + 1 ≠ w1.heap.size; omega) (.slice A9 n9 c9)
            have Y9 := Y4.far (p := ⟨w1.heap.size, 0, none⟩) (by show w.heap.size + 1 + 1 ≠ w1.heap.size; omega) (.slice A9 n9 c9)
            have T9 := T4.put 0 (.slice A9 n9 c9)
            have y0 := Y9.cell 0
            have y1 := Y9.cell 1
            have y2 := Y9.frozen 0
            have y3 := Y9.frozen 1
            have s0 := T9.cell 0
            have s1 := T9.cell 1
            refine hK.out _ _ (by exact ⟨H4.cell 0, H4.cell 1, H4.cell 2⟩) (fun hHeld => ?_)
            clear hK K
            (try simp only [Act.put, List.setIfInBounds_toArray, List.set_cons_zero, List.set_cons_succ])
            refine wpAnyH_take (i := 7) (v := ?v4) rfl (by kernel_rfl) (by kernel_rfl) (by kernel_rfl) (fun _ _ _ h => h) (Or.inl ⟨by rfl, ?hy4⟩) (by assumption) ?_
            case hy4 => (intro w hSw; (try dsimp only at hSw); go_simp; try (with_reducible rfl))
            (try simp only [Act.put, List.setIfInBounds_toArray, List.set_cons_zero, List.set_cons_succ])
            refine wpAnyH_ready (rs := [8]) (by kernel_rfl) (by simp) ?_
            refine AllReadyH.cons rfl (fun K hK => ?_) ?_
            · go_simp
              refine hK.out _ _ (by exact ⟨H9.cell 0, H9.cell 1, H9.cell 2⟩) (fun hHeld => ?_)
              clear hK K
              (try simp only [Act.put, List.setIfInBounds_toArray, List.set_cons_zero, List.set_cons_succ])
              refine wpAnyH_done (by kernel_rfl) ?_ _
              go_wp2
              have hG9 := ((hG4.put (p := ⟨w1.heap.size, 0, none⟩) (by show w1.heap.size < _; omega) (by show _ ≤ w1.heap.size; omega) (.slice A9 n9 c9)).put (p := ⟨w.heap.size + 1 + 1, 0, none⟩) (by show w.heap.size + 1 + 1 < _; omega) (by show _ ≤ w.heap.size + 1 + 1; omega) (.slice A9 n9 c9)).put (p := ⟨w.heap.size + 1 + 1, 1, none⟩) (by show w.heap.size + 1 + 1 < _; omega) (by show _ ≤ w.heap.size + 1 + 1; omega) (.slice A7 n7 c7)
              have RR := (Y9.put 0 (.slice A9 n9 c9)).put 1 (.slice A7 n7 c7)
              have e0 := RR.cell 0
              have e1 := RR.cell 1
              have O7 := Ty.far3 (t := tIs) (Ty.far3 (t := tIs) (Ty.far3 (t := tIs) (Ty.below (t := tIs) hO7 hC4) (p := ⟨w1.heap.size, 0, none⟩) (fun hx => by have := tIs.lt hO7 _ hx; dsimp only at this; omega) (.slice A9 n9 c9)) (p := ⟨w.heap.size + 1 + 1, 0, none⟩) (fun hx => by have := hM7.2 _ hx; dsimp only at this; omega) (.slice A9 n9 c9)) (p := ⟨w.heap.size + 1 + 1, 1, none⟩) (fun hx => by have := hM7.2 _ hx; dsimp only at this; omega) (.slice A7 n7 c7)
              refine bodyPost_ret (v := .tuple #[.agg #[.slice A9 n9 c9, .slice A7 n7 c7], .int .i64 0]) (by simp [results, Try.results85, go_sem, e0, e1]) rfl ⟨[.slice A9 n9 c9, .slice A7 n7 c7], rfl, makePool (p := (p1 ++ [ph], p2 ++ [tag])) (hG9.doneAs (by simp [World.setCell]; omega)) (tIs.read O7), ?_⟩
              exact bel_put (bel_put (bel_put hB4 (by show _ ≤ w1.heap.size; omega) _) (by show _ ≤ w.heap.size + 1 + 1; omega) _) (by show _ ≤ w.heap.size + 1 + 1; omega) _
            exact AllReadyH.nil
          exact AllReadyH.nil
        exact AllReadyH.nil
      exact AllReadyH.nil
    refine AllReadyH.cons rfl (fun K hK => ?_) ?_
    · go_simp
      refine hK.out _ _ (by exact ⟨H_EV.cell 0, H_EV.cell 1, H_EV.cell 2⟩) (fun hHeld => ?_)
      clear hK K
      (try simp only [Act.put, List.setIfInBounds_toArray, List.set_cons_zero, List.set_cons_succ])
      refine wpAnyH_ready (rs := [2]) (by kernel_rfl) (by simp) ?_
      refine AllReadyH.cons rfl (fun K hK => ?_) ?_
      · go_simp
        refine hK.out _ _ (by exact ⟨H_EV.cell 0, H_EV.cell 1, H_EV.cell 2⟩) (fun hHeld => ?_)
        clear hK K
        (try simp only [Act.put, List.setIfInBounds_toArray, List.set_cons_zero, List.set_cons_succ])
        refine wpAnyH_ready (rs := [3]) (by kernel_rfl) (by simp) ?_
        refine AllReadyH.cons rfl (fun K hK => ?_) ?_
        · have hE : GrowR tHeld 54 ((((w1.alloc (.cells #[.slice A0 n0 c0, .slice A7 n7 c7] 29)).alloc (.cells #[] 54)).alloc (.cells [.int .i64 x0, .int .i64 x1, .slice A2 n2 c2].toArray 54)).drew) (w1.heap.size + 1) w.heap.size (.slice (some ⟨w1.heap.size + 1, 0, none⟩) 0 0) [] := GrowR.drew (GrowR.below (by simpa using (GrowR.empty (t := tHeld) (e := 54) (w := (w1.alloc (.cells #[.slice A0 n0 c0, .slice A7 n7 c7] 29))) (base := w1.heap.size + 1) (B := w.heap.size) (by first | (simp; done) | (simp; omega)))) (by repeat (first | (with_reducible exact Below.refl _ _) | (with_reducible assumption) | (with_reducible refine bel_alloc ?_ _) | (with_reducible refine bel_drew ?_) | (with_reducible refine below_drewN ?_ _) | (with_reducible refine bel_put ?_ (by first | exact Nat.le_refl _ | (simp; done) | (simp; omega)) _))) (by simp; omega)) (by simp; omega)
          have hR3 : tHeld.row.R ((((w1.alloc (.cells #[.slice A0 n0 c0, .slice A7 n7 c7] 29)).alloc (.cells #[] 54)).alloc (.cells [.int .i64 x0, .int .i64 x1, .slice A2 n2 c2].toArray 54)).drew) w.heap.size [.slice A0 n0 c0] p1 := tHeld.row.keep hr0 (fun b hb => (show Below w.heap.size w ((((w1.alloc (.cells #[.slice A0 n0 c0, .slice A7 n7 c7] 29)).alloc (.cells #[] 54)).alloc (.cells [.int .i64 x0, .int .i64 x1, .slice A2 n2 c2].toArray 54)).drew) from bel_trans hB1 (by repeat (first | (with_reducible exact Below.refl _ _) | (with_reducible assumption) | (with_reducible refine bel_alloc ?_ _) | (with_reducible refine bel_drew ?_) | (with_reducible refine below_drewN ?_ _) | (with_reducible refine bel_put ?_ (by first | exact Nat.le_refl _ | (simp; done) | (simp; omega)) _)))).block b hb)
          refine GrowR.stepRow (by rfl) (.tmp 25) (.tmp 27) _ (by rfl) i1 _ 3 40 Try.underlying27 hj0 hj1 hj2 hj3 tz (by omega) rfl (by rfl) hE (by rfl) hR3 one_cells_Held (by omega) (by first | omega | (simp; done) | (simp; omega) | (show _ ≤ (World.alloc _ _).heap.size; simp) | (show _ ≤ (World.alloc _ _).heap.size; simp; omega)) t1 t2 ?_
          intro v3 w3 hG3 hgr3
          have z3 : w1.heap.size + 1 + 2 ≤ w3.heap.size := Nat.le_trans (by first | omega | (simp; done) | (simp; omega) | (show _ ≤ (World.alloc _ _).heap.size; simp) | (show _ ≤ (World.alloc _ _).heap.size; simp; omega)) hgr3.size
          have hB3 : Below w.heap.size w w3 := Below.grown (w := (((w1.alloc (.cells #[.slice A0 n0 c0, .slice A7 n7 c7] 29)).alloc (.cells #[] 54)).alloc (.cells [.int .i64 x0, .int .i64 x1, .slice A2 n2 c2].toArray 54)).drew) (bel_trans hB1 (by repeat (first | (with_reducible exact Below.refl _ _) | (with_reducible assumption) | (with_reducible refine bel_alloc ?_ _) | (with_reducible refine bel_drew ?_) | (with_reducible refine below_drewN ?_ _) | (with_reducible refine bel_put ?_ (by first | exact Nat.le_refl _ | (simp; done) | (simp; omega)) _)))) hgr3 (by first | omega | (simp; done) | (simp; omega) | (show _ ≤ (World.alloc _ _).heap.size; simp) | (show _ ≤ (World.alloc _ _).heap.size; simp; omega)) (fun b hb => by have e := Option.some.inj (show (some (w1.heap.size + 1)) = some b from hb); omega)
          have hC3 : Below w1.heap.size w1 w3 := Below.grown (w := (((w1.alloc (.cells #[.slice A0 n0 c0, .slice A7 n7 c7] 29)).alloc (.cells #[] 54)).alloc (.cells [.int .i64 x0, .int .i64 x1, .slice A2 n2 c2].toArray 54)).drew) (by repeat (first | (with_reducible exact Below.refl _ _) | (with_reducible assumption) | (with_reducible refine bel_alloc ?_ _) | (with_reducible refine bel_drew ?_) | (with_reducible refine below_drewN ?_ _) | (with_reducible refine bel_put ?_ (by first | exact Nat.le_refl _ | (simp; done) | (simp; omega)) _))) hgr3 (by first | omega | (simp; done) | (simp; omega) | (show _ ≤ (World.alloc _ _).heap.size; simp) | (show _ ≤ (World.alloc _ _).heap.size; simp; omega)) (fun b hb => by have e := Option.some.inj (show (some (w1.heap.size + 1)) = some b from hb); omega)
          have H3 := Box.grown (w := (((w1.alloc (.cells #[.slice A0 n0 c0, .slice A7 n7 c7] 29)).alloc (.cells #[] 54)).alloc (.cells [.int .i64 x0, .int .i64 x1, .slice A2 n2 c2].toArray 54)).drew) (Box.drew H_EV) hgr3 (fun e => by have e := Option.some.inj (show some (w.heap.size + 1) = (some (w1.heap.size + 1)) from e); omega)
          have T3 := Box.grown (w := (((w1.alloc (.cells #[.slice A0 n0 c0, .slice A7 n7 c7] 29)).alloc (.cells #[] 54)).alloc (.cells [.int .i64 x0, .int .i64 x1, .slice A2 n2 c2].toArray 54)).drew) (Box.drew T_EV) hgr3 (fun e => by have e := Option.some.inj (show some w1.heap.size = (some (w1.heap.size + 1)) from e); omega)
          have Y3 := Box.grown (w := (((w1.alloc (.cells #[.slice A0 n0 c0, .slice A7 n7 c7] 29)).alloc (.cells #[] 54)).alloc (.cells [.int .i64 x0, .int .i64 x1, .slice A2 n2 c2].toArray 54)).drew) (Box.drew Y_EV) hgr3 (fun e => by have e := Option.some.inj (show some (w.heap.size + 1 + 1) = (some (w1.heap.size + 1)) from e); omega)
          have V3 := Box.grown (w := (((w1.alloc (.cells #[.slice A0 n0 c0, .slice A7 n7 c7] 29)).alloc (.cells #[] 54)).alloc (.cells [.int .i64 x0, .int .i64 x1, .slice A2 n2 c2].toArray 54)).drew) (Box.drew V_EV) hgr3 (fun e => by have e := Option.some.inj (show some (w1.heap.size + 2) = (some (w1.heap.size + 1)) from e); omega)
          have hOwn3 := hG3.own
          have hG3' : GrowR tHeld 54 w3 (w1.heap.size + 1) w.heap.size v3 p1 := hG3
          have H3V := H3.alloc (.cells ([.int .i64 x0, .int .i64 x1, .slice A2 n2 c2].toArray) 54)
          refine hK.out _ _ (by exact ⟨H3.cell 0, H3.cell 1, H3.cell 2⟩) (fun hHeld => ?_)
          clear hK K
          (try simp only [Act.put, List.setIfInBounds_toArray, List.set_cons_zero, List.set_cons_succ])
          refine wpAnyH_ready (rs := [6]) (by kernel_rfl) (by simp) ?_
          refine AllReadyH.cons rfl (fun K hK => ?_) ?_
          · refine GrowR.step (by rfl) (.tmp 28) (.tmp 30) _ (by rfl) i1 _ 3 40 Try.underlying27 hj0 hj1 hj2 hj3 tz (by omega) rfl (by rfl) hG3' (w1.heap.size + 2) [.int .i64 x0, .int .i64 x1, .slice A2 n2 c2] ph (by rfl) V3 (tHeld.keep hRh (fun b hb => (show Below w.heap.size w w3 from hB3).block b hb)) (one_held _ _ _ _ _) (by omega) (by first | omega | (simp; done) | (simp; omega) | (show _ ≤ (World.alloc _ _).heap.size; simp) | (show _ ≤ (World.alloc _ _).heap.size; simp; omega)) t3 t4 ?_
            intro v4 w4 hG4 hgr4
            obtain ⟨A9, n9, c9, rfl, -⟩ := hG4.shapeN
            have hB4 : Below w.heap.size w w4 := Below.grown (w := w3) hB3 hgr4 (by first | omega | (simp; done) | (simp; omega) | (show _ ≤ (World.alloc _ _).heap.size; simp) | (show _ ≤ (World.alloc _ _).heap.size; simp; omega)) (fun b hb => by have := (hOwn3 b hb).1; omega)
            have hC4 : Below w1.heap.size w1 w4 := Below.grown (w := w3) hC3 hgr4 (by first | omega | (simp; done) | (simp; omega) | (show _ ≤ (World.alloc _ _).heap.size; simp) | (show _ ≤ (World.alloc _ _).heap.size; simp; omega)) (fun b hb => by have := (hOwn3 b hb).1; omega)
            have z4 : w1.heap.size + 1 ≤ w4.heap.size := Nat.le_trans (by first | omega | (simp; done) | (simp; omega) | (show _ ≤ (World.alloc _ _).heap.size; simp) | (show _ ≤ (World.alloc _ _).heap.size; simp; omega)) hgr4.size
            have H4 := Box.grown (w := w3) H3 hgr4 (fun e => by have := (hOwn3 _ e.symm).1; omega)
            have T4 := Box.grown (w := w3) T3 hgr4 (fun e => by have := (hOwn3 _ e.symm).1; omega)
            have Y4 := Box.grown (w := w3) Y3 hgr4 (fun e => by have := (hOwn3 _ e.symm).1; omega)
            have q0 := T4.cell 0
            have q1 := T4.cell 1
            have f0 := T4.frozen 0
            have f1 := T4.frozen 1
            have H9 := H4.far (p := ⟨w1.heap.size, 0, none⟩) (by show w.heap.size + 1 ≠ w1.heap.size; omega) (.slice A9 n9 c9)
            have Y9 := Y4.far (p := ⟨w1.heap.size, 0, none⟩) (by show w.heap.size + 1 + 1 ≠ w1.heap.size; omega) (.slice A9 n9 c9)
            have T9 := T4.put 0 (.slice A9 n9 c9)
            have y0 := Y9.cell 0
            have y1 := Y9.cell 1
            have y2 := Y9.frozen 0
            have y3 := Y9.frozen 1
            have s0 := T9.cell 0
            have s1 := T9.cell 1
            refine hK.out _ _ (by exact ⟨H4.cell 0, H4.cell 1, H4.cell 2⟩) (fun hHeld => ?_)
            clear hK K
            (try simp only [Act.put, List.setIfInBounds_toArray, List.set_cons_zero, List.set_cons_succ])
            refine wpAnyH_take (i := 7) (v := ?v5) rfl (by kernel_rfl) (by kernel_rfl) (by kernel_rfl) (fun _ _ _ h => h) (Or.inl ⟨by rfl, ?hy5⟩) (by assumption) ?_
            case hy5 => (intro w hSw; (try dsimp only at hSw); go_simp; try (with_reducible rfl))
            (try simp only [Act.put, List.setIfInBounds_toArray, List.set_cons_zero, List.set_cons_succ])
            refine wpAnyH_ready (rs := [8]) (by kernel_rfl) (by simp) ?_
            refine AllReadyH.cons rfl (fun K hK => ?_) ?_
            · go_simp
              refine hK.out _ _ (by exact ⟨H9.cell 0, H9.cell 1, H9.cell 2⟩) (fun hHeld => ?_)
              clear hK K
              (try simp only [Act.put, List.setIfInBounds_toArray, List.set_cons_zero, List.set_cons_succ])
              refine wpAnyH_done (by kernel_rfl) ?_ _
              go_wp2
              have hG9 := ((hG4.put (p := ⟨w1.heap.size, 0, none⟩) (by show w1.heap.size < _; omega) (by show _ ≤ w1.heap.size; omega) (.slice A9 n9 c9)).put (p := ⟨w.heap.size + 1 + 1, 0, none⟩) (by show w.heap.size + 1 + 1 < _; omega) (by show _ ≤ w.heap.size + 1 + 1; omega) (.slice A9 n9 c9)).put (p := ⟨w.heap.size + 1 + 1, 1, none⟩) (by show w.heap.size + 1 + 1 < _; omega) (by show _ ≤ w.heap.size + 1 + 1; omega) (.slice A7 n7 c7)
              have RR := (Y9.put 0 (.slice A9 n9 c9)).put 1 (.slice A7 n7 c7)
              have e0 := RR.cell 0
              have e1 := RR.cell 1
              have O7 := Ty.far3 (t := tIs) (Ty.far3 (t := tIs) (Ty.far3 (t := tIs) (Ty.below (t := tIs) hO7 hC4) (p := ⟨w1.heap.size, 0, none⟩) (fun hx => by have := tIs.lt hO7 _ hx; dsimp only at this; omega) (.slice A9 n9 c9)) (p := ⟨w.heap.size + 1 + 1, 0, none⟩) (fun hx => by have := hM7.2 _ hx; dsimp only at this; omega) (.slice A9 n9 c9)) (p := ⟨w.heap.size + 1 + 1, 1, none⟩) (fun hx => by have := hM7.2 _ hx; dsimp only at this; omega) (.slice A7 n7 c7)
              refine bodyPost_ret (v := .tuple #[.agg #[.slice A9 n9 c9, .slice A7 n7 c7], .int .i64 0]) (by simp [results, Try.results85, go_sem, e0, e1]) rfl ⟨[.slice A9 n9 c9, .slice A7 n7 c7], rfl, makePool (p := (p1 ++ [ph], p2 ++ [tag])) (hG9.doneAs (by simp [World.setCell]; omega)) (tIs.read O7), ?_⟩
              exact bel_put (bel_put (bel_put hB4 (by show _ ≤ w1.heap.size; omega) _) (by show _ ≤ w.heap.size + 1 + 1; omega) _) (by show _ ≤ w.heap.size + 1 + 1; omega) _
            exact AllReadyH.nil
          exact AllReadyH.nil
        exact AllReadyH.nil
      exact AllReadyH.nil
    exact AllReadyH.nil
  refine AllReadyH.cons rfl (fun K hK => ?_) ?_
  · go_simp
    refine hK.out _ _ (by exact ⟨H_.cell 0, H_.cell 1, H_.cell 2⟩) (fun hHeld => ?_)
    clear hK K
    (try simp only [Act.put, List.setIfInBounds_toArray, List.set_cons_zero, List.set_cons_succ])
    refine wpAnyH_ready (rs := [0, 5]) (by kernel_rfl) (by simp) ?_
    refine AllReadyH.cons rfl (fun K hK => ?_) ?_
    · go_simp
      refine hK.out _ _ (by exact ⟨H_E.cell 0, H_E.cell 1, H_E.cell 2⟩) (fun hHeld => ?_)
      clear hK K
      (try simp only [Act.put, List.setIfInBounds_toArray, List.set_cons_zero, List.set_cons_succ])
      refine wpAnyH_ready (rs := [3, 5]) (by kernel_rfl) (by simp) ?_
      refine AllReadyH.cons rfl (fun K hK => ?_) ?_
      · have hE : GrowR tHeld 54 (((w1.alloc (.cells #[.slice A0 n0 c0, .slice A7 n7 c7] 29)).alloc (.cells #[] 54)).drew) (w1.heap.size + 1) w.heap.size (.slice (some ⟨w1.heap.size + 1, 0, none⟩) 0 0) [] := GrowR.drew (by simpa using (GrowR.empty (t := tHeld) (e := 54) (w := (w1.alloc (.cells #[.slice A0 n0 c0, .slice A7 n7 c7] 29))) (base := w1.heap.size + 1) (B := w.heap.size) (by first | (simp; done) | (simp; omega)))) (by simp; omega)
        have hR3 : tHeld.row.R (((w1.alloc (.cells #[.slice A0 n0 c0, .slice A7 n7 c7] 29)).alloc (.cells #[] 54)).drew) w.heap.size [.slice A0 n0 c0] p1 := tHeld.row.keep hr0 (fun b hb => (show Below w.heap.size w (((w1.alloc (.cells #[.slice A0 n0 c0, .slice A7 n7 c7] 29)).alloc (.cells #[] 54)).drew) from bel_trans hB1 (by repeat (first | (with_reducible exact Below.refl _ _) | (with_reducible assumption) | (with_reducible refine bel_alloc ?_ _) | (with_reducible refine bel_drew ?_) | (with_reducible refine below_drewN ?_ _) | (with_reducible refine bel_put ?_ (by first | exact Nat.le_refl _ | (simp; done) | (simp; omega)) _)))).block b hb)
        refine GrowR.stepRow (by rfl) (.tmp 25) (.tmp 27) _ (by rfl) i1 _ 3 40 Try.underlying27 hj0 hj1 hj2 hj3 tz (by omega) rfl (by rfl) hE (by rfl) hR3 one_cells_Held (by omega) (by first | omega | (simp; done) | (simp; omega) | (show _ ≤ (World.alloc _ _).heap.size; simp) | (show _ ≤ (World.alloc _ _).heap.size; simp; omega)) t1 t2 ?_
        intro v3 w3 hG3 hgr3
        have z3 : w1.heap.size + 1 + 1 ≤ w3.heap.size := Nat.le_trans (by first | omega | (simp; done) | (simp; omega) | (show _ ≤ (World.alloc _ _).heap.size; simp) | (show _ ≤ (World.alloc _ _).heap.size; simp; omega)) hgr3.size
        have hB3 : Below w.heap.size w w3 := Below.grown (w := ((w1.alloc (.cells #[.slice A0 n0 c0, .slice A7 n7 c7] 29)).alloc (.cells #[] 54)).drew) (bel_trans hB1 (by repeat (first | (with_reducible exact Below.refl _ _) | (with_reducible assumption) | (with_reducible refine bel_alloc ?_ _) | (with_reducible refine bel_drew ?_) | (with_reducible refine below_drewN ?_ _) | (with_reducible refine bel_put ?_ (by first | exact Nat.le_refl _ | (simp; done) | (simp; omega)) _)))) hgr3 (by first | omega | (simp; done) | (simp; omega) | (show _ ≤ (World.alloc _ _).heap.size; simp) | (show _ ≤ (World.alloc _ _).heap.size; simp; omega)) (fun b hb => by have e := Option.some.inj (show (some (w1.heap.size + 1)) = some b from hb); omega)
        have hC3 : Below w1.heap.size w1 w3 := Below.grown (w := ((w1.alloc (.cells #[.slice A0 n0 c0, .slice A7 n7 c7] 29)).alloc (.cells #[] 54)).drew) (by repeat (first | (with_reducible exact Below.refl _ _) | (with_reducible assumption) | (with_reducible refine bel_alloc ?_ _) | (with_reducible refine bel_drew ?_) | (with_reducible refine below_drewN ?_ _) | (with_reducible refine bel_put ?_ (by first | exact Nat.le_refl _ | (simp; done) | (simp; omega)) _))) hgr3 (by first | omega | (simp; done) | (simp; omega) | (show _ ≤ (World.alloc _ _).heap.size; simp) | (show _ ≤ (World.alloc _ _).heap.size; simp; omega)) (fun b hb => by have e := Option.some.inj (show (some (w1.heap.size + 1)) = some b from hb); omega)
        have H3 := Box.grown (w := ((w1.alloc (.cells #[.slice A0 n0 c0, .slice A7 n7 c7] 29)).alloc (.cells #[] 54)).drew) (Box.drew H_E) hgr3 (fun e => by have e := Option.some.inj (show some (w.heap.size + 1) = (some (w1.heap.size + 1)) from e); omega)
        have T3 := Box.grown (w := ((w1.alloc (.cells #[.slice A0 n0 c0, .slice A7 n7 c7] 29)).alloc (.cells #[] 54)).drew) (Box.drew T_E) hgr3 (fun e => by have e := Option.some.inj (show some w1.heap.size = (some (w1.heap.size + 1)) from e); omega)
        have Y3 := Box.grown (w := ((w1.alloc (.cells #[.slice A0 n0 c0, .slice A7 n7 c7] 29)).alloc (.cells #[] 54)).drew) (Box.drew Y_E) hgr3 (fun e => by have e := Option.some.inj (show some (w.heap.size + 1 + 1) = (some (w1.heap.size + 1)) from e); omega)
        have hOwn3 := hG3.own
        have hG3' : GrowR tHeld 54 w3 (w1.heap.size + 1) w.heap.size v3 p1 := hG3
        have H3V := H3.alloc (.cells ([.int .i64 x0, .int .i64 x1, .slice A2 n2 c2].toArray) 54)
        refine hK.out _ _ (by exact ⟨H3.cell 0, H3.cell 1, H3.cell 2⟩) (fun hHeld => ?_)
        clear hK K
        (try simp only [Act.put, List.setIfInBounds_toArray, List.set_cons_zero, List.set_cons_succ])
        refine wpAnyH_ready (rs := [5]) (by kernel_rfl) (by simp) ?_
        refine AllReadyH.cons rfl (fun K hK => ?_) ?_
        · go_simp
          refine hK.out _ _ (by exact ⟨H3V.cell 0, H3V.cell 1, H3V.cell 2⟩) (fun hHeld => ?_)
          clear hK K
          (try simp only [Act.put, List.setIfInBounds_toArray, List.set_cons_zero, List.set_cons_succ])
          refine wpAnyH_ready (rs := [6]) (by kernel_rfl) (by simp) ?_
          refine AllReadyH.cons rfl (fun K hK => ?_) ?_
          · refine GrowR.step (by rfl) (.tmp 28) (.tmp 30) _ (by rfl) i1 _ 3 40 Try.underlying27 hj0 hj1 hj2 hj3 tz (by omega) rfl (by rfl) (hG3'.below (by repeat (first | (with_reducible exact Below.refl _ _) | (with_reducible assumption) | (with_reducible refine bel_alloc ?_ _) | (with_reducible refine bel_drew ?_) | (with_reducible refine below_drewN ?_ _) | (with_reducible refine bel_put ?_ (by first | exact Nat.le_refl _ | (simp; done) | (simp; omega)) _))) (by omega)) w3.heap.size [.int .i64 x0, .int .i64 x1, .slice A2 n2 c2] ph (by rfl) (Box.new w3 54 ([.int .i64 x0, .int .i64 x1, .slice A2 n2 c2].toArray)) (tHeld.keep hRh (fun b hb => (show Below w.heap.size w (w3.alloc (.cells ([.int .i64 x0, .int .i64 x1, .slice A2 n2 c2].toArray) 54)) from bel_alloc hB3 _).block b hb)) (one_held _ _ _ _ _) (by omega) (by first | omega | (simp; done) | (simp; omega) | (show _ ≤ (World.alloc _ _).heap.size; simp) | (show _ ≤ (World.alloc _ _).heap.size; simp; omega)) t3 t4 ?_
            intro v4 w4 hG4 hgr4
            obtain ⟨A9, n9, c9, rfl, -⟩ := hG4.shapeN
            have hB4 : Below w.heap.size w w4 := Below.grown (w := (w3.alloc (.cells ([.int .i64 x0, .int .i64 x1, .slice A2 n2 c2].toArray) 54))) (bel_alloc hB3 _) hgr4 (by first | omega | (simp; done) | (simp; omega) | (show _ ≤ (World.alloc _ _).heap.size; simp) | (show _ ≤ (World.alloc _ _).heap.size; simp; omega)) (fun b hb => by have := (hOwn3 b hb).1; omega)
            have hC4 : Below w1.heap.size w1 w4 := Below.grown (w := (w3.alloc (.cells ([.int .i64 x0, .int .i64 x1, .slice A2 n2 c2].toArray) 54))) (bel_alloc hC3 _) hgr4 (by first | omega | (simp; done) | (simp; omega) | (show _ ≤ (World.alloc _ _).heap.size; simp) | (show _ ≤ (World.alloc _ _).heap.size; simp; omega)) (fun b hb => by have := (hOwn3 b hb).1; omega)
            have z4 : w1.heap.size + 1 ≤ w4.heap.size := Nat.le_trans (by first | omega | (simp; done) | (simp; omega) | (show _ ≤ (World.alloc _ _).heap.size; simp) | (show _ ≤ (World.alloc _ _).heap.size; simp; omega)) hgr4.size
            have H4 := Box.grown (w := (w3.alloc (.cells ([.int .i64 x0, .int .i64 x1, .slice A2 n2 c2].toArray) 54))) (H3.alloc _) hgr4 (fun e => by have := (hOwn3 _ e.symm).1; omega)
            have T4 := Box.grown (w := (w3.alloc (.cells ([.int .i64 x0, .int .i64 x1, .slice A2 n2 c2].toArray) 54))) (T3.alloc _) hgr4 (fun e => by have := (hOwn3 _ e.symm).1; omega)
            have Y4 := Box.grown (w := (w3.alloc (.cells ([.int .i64 x0, .int .i64 x1, .slice A2 n2 c2].toArray) 54))) (Y3.alloc _) hgr4 (fun e => by have := (hOwn3 _ e.symm).1; omega)
            have q0 := T4.cell 0
            have q1 := T4.cell 1
            have f0 := T4.frozen 0
            have f1 := T4.frozen 1
            have H9 := H4.far (p := ⟨w1.heap.size, 0, none⟩) (by show w.heap.size + 1 ≠ w1.heap.size; omega) (.slice A9 n9 c9)
            have Y9 := Y4.far (p := ⟨w1.heap.size, 0, none⟩) (by show w.heap.size + 1 + 1 ≠ w1.heap.size; omega) (.slice A9 n9 c9)
            have T9 := T4.put 0 (.slice A9 n9 c9)
            have y0 := Y9.cell 0
            have y1 := Y9.cell 1
            have y2 := Y9.frozen 0
            have y3 := Y9.frozen 1
            have s0 := T9.cell 0
            have s1 := T9.cell 1
            refine hK.out _ _ (by exact ⟨H4.cell 0, H4.cell 1, H4.cell 2⟩) (fun hHeld => ?_)
            clear hK K
            (try simp only [Act.put, List.setIfInBounds_toArray, List.set_cons_zero, List.set_cons_succ])
            refine wpAnyH_take (i := 7) (v := ?v6) rfl (by kernel_rfl) (by kernel_rfl) (by kernel_rfl) (fun _ _ _ h => h) (Or.inl ⟨by rfl, ?hy6⟩) (by assumption) ?_
            case hy6 => (intro w hSw; (try dsimp only at hSw); go_simp; try (with_reducible rfl))
            (try simp only [Act.put, List.setIfInBounds_toArray, List.set_cons_zero, List.set_cons_succ])
            refine wpAnyH_ready (rs := [8]) (by kernel_rfl) (by simp) ?_
            refine AllReadyH.cons rfl (fun K hK => ?_) ?_
            · go_simp
              refine hK.out _ _ (by exact ⟨H9.cell 0, H9.cell 1, H9.cell 2⟩) (fun hHeld => ?_)
              clear hK K
              (try simp only [Act.put, List.setIfInBounds_toArray, List.set_cons_zero, List.set_cons_succ])
              refine wpAnyH_done (by kernel_rfl) ?_ _
              go_wp2
              have hG9 := ((hG4.put (p := ⟨w1.heap.size, 0, none⟩) (by show w1.heap.size < _; omega) (by show _ ≤ w1.heap.size; omega) (.slice A9 n9 c9)).put (p := ⟨w.heap.size + 1 + 1, 0, none⟩) (by show w.heap.size + 1 + 1 < _; omega) (by show _ ≤ w.heap.size + 1 + 1; omega) (.slice A9 n9 c9)).put (p := ⟨w.heap.size + 1 + 1, 1, none⟩) (by show w.heap.size + 1 + 1 < _; omega) (by show _ ≤ w.heap.size + 1 + 1; omega) (.slice A7 n7 c7)
              have RR := (Y9.put 0 (.slice A9 n9 c9)).put 1 (.slice A7 n7 c7)
              have e0 := RR.cell 0
              have e1 := RR.cell 1
              have O7 := Ty.far3 (t := tIs) (Ty.far3 (t := tIs) (Ty.far3 (t := tIs) (Ty.below (t := tIs) hO7 hC4) (p := ⟨w1.heap.size, 0, none⟩) (fun hx => by have := tIs.lt hO7 _ hx; dsimp only at this; omega) (.slice A9 n9 c9)) (p := ⟨w.heap.size + 1 + 1, 0, none⟩) (fun hx => by have := hM7.2 _ hx; dsimp only at this; omega) (.slice A9 n9 c9)) (p := ⟨w.heap.size + 1 + 1, 1, none⟩) (fun hx => by have := hM7.2 _ hx; dsimp only at this; omega) (.slice A7 n7 c7)
              refine bodyPost_ret (v := .tuple #[.agg #[.slice A9 n9 c9, .slice A7 n7 c7], .int .i64 0]) (by simp [results, Try.results85, go_sem, e0, e1]) rfl ⟨[.slice A9 n9 c9, .slice A7 n7 c7], rfl, makePool (p := (p1 ++ [ph], p2 ++ [tag])) (hG9.doneAs (by simp [World.setCell]; omega)) (tIs.read O7), ?_⟩
              exact bel_put (bel_put (bel_put hB4 (by show _ ≤ w1.heap.size; omega) _) (by show _ ≤ w.heap.size + 1 + 1; omega) _) (by show _ ≤ w.heap.size + 1 + 1; omega) _
            exact AllReadyH.nil
          exact AllReadyH.nil
        exact AllReadyH.nil
      refine AllReadyH.cons rfl (fun K hK => ?_) ?_
      · go_simp
        refine hK.out _ _ (by exact ⟨H_EV.cell 0, H_EV.cell 1, H_EV.cell 2⟩) (fun hHeld => ?_)
        clear hK K
        (try simp only [Act.put, List.setIfInBounds_toArray, List.set_cons_zero, List.set_cons_succ])
        refine wpAnyH_ready (rs := [3]) (by kernel_rfl) (by simp) ?_
        refine AllReadyH.cons rfl (fun K hK => ?_) ?_
        · have hE : GrowR tHeld 54 ((((w1.alloc (.cells #[.slice A0 n0 c0, .slice A7 n7 c7] 29)).alloc (.cells #[] 54)).alloc (.cells [.int .i64 x0, .int .i64 x1, .slice A2 n2 c2].toArray 54)).drew) (w1.heap.size + 1) w.heap.size (.slice (some ⟨w1.heap.size + 1, 0, none⟩) 0 0) [] := GrowR.drew (GrowR.below (by simpa using (GrowR.empty (t := tHeld) (e := 54) (w := (w1.alloc (.cells #[.slice A0 n0 c0, .slice A7 n7 c7] 29))) (base := w1.heap.size + 1) (B := w.heap.size) (by first | (simp; done) | (simp; omega)))) (by repeat (first | (with_reducible exact Below.refl _ _) | (with_reducible assumption) | (with_reducible refine bel_alloc ?_ _) | (with_reducible refine bel_drew ?_) | (with_reducible refine below_drewN ?_ _) | (with_reducible refine bel_put ?_ (by first | exact Nat.le_refl _ | (simp; done) | (simp; omega)) _))) (by simp; omega)) (by simp; omega)
          have hR3 : tHeld.row.R ((((w1.alloc (.cells #[.slice A0 n0 c0, .slice A7 n7 c7] 29)).alloc (.cells #[] 54)).alloc (.cells [.int .i64 x0, .int .i64 x1, .slice A2 n2 c2].toArray 54)).drew) w.heap.size [.slice A0 n0 c0] p1 := tHeld.row.keep hr0 (fun b hb => (show Below w.heap.size w ((((w1.alloc (.cells #[.slice A0 n0 c0, .slice A7 n7 c7] 29)).alloc (.cells #[] 54)).alloc (.cells [.int .i64 x0, .int .i64 x1, .slice A2 n2 c2].toArray 54)).drew) from bel_trans hB1 (by repeat (first | (with_reducible exact Below.refl _ _) | (with_reducible assumption) | (with_reducible refine bel_alloc ?_ _) | (with_reducible refine bel_drew ?_) | (with_reducible refine below_drewN ?_ _) | (with_reducible refine bel_put ?_ (by first | exact Nat.le_refl _ | (simp; done) | (simp; omega)) _)))).block b hb)
          refine GrowR.stepRow (by rfl) (.tmp 25) (.tmp 27) _ (by rfl) i1 _ 3 40 Try.underlying27 hj0 hj1 hj2 hj3 tz (by omega) rfl (by rfl) hE (by rfl) hR3 one_cells_Held (by omega) (by first | omega | (simp; done) | (simp; omega) | (show _ ≤ (World.alloc _ _).heap.size; simp) | (show _ ≤ (World.alloc _ _).heap.size; simp; omega)) t1 t2 ?_
          intro v3 w3 hG3 hgr3
          have z3 : w1.heap.size + 1 + 2 ≤ w3.heap.size := Nat.le_trans (by first | omega | (simp; done) | (simp; omega) | (show _ ≤ (World.alloc _ _).heap.size; simp) | (show _ ≤ (World.alloc _ _).heap.size; simp; omega)) hgr3.size
          have hB3 : Below w.heap.size w w3 := Below.grown (w := (((w1.alloc (.cells #[.slice A0 n0 c0, .slice A7 n7 c7] 29)).alloc (.cells #[] 54)).alloc (.cells [.int .i64 x0, .int .i64 x1, .slice A2 n2 c2].toArray 54)).drew) (bel_trans hB1 (by repeat (first | (with_reducible exact Below.refl _ _) | (with_reducible assumption) | (with_reducible refine bel_alloc ?_ _) | (with_reducible refine bel_drew ?_) | (with_reducible refine below_drewN ?_ _) | (with_reducible refine bel_put ?_ (by first | exact Nat.le_refl _ | (simp; done) | (simp; omega)) _)))) hgr3 (by first | omega | (simp; done) | (simp; omega) | (show _ ≤ (World.alloc _ _).heap.size; simp) | (show _ ≤ (World.alloc _ _).heap.size; simp; omega)) (fun b hb => by have e := Option.some.inj (show (some (w1.heap.size + 1)) = some b from hb); omega)
          have hC3 : Below w1.heap.size w1 w3 := Below.grown (w := (((w1.alloc (.cells #[.slice A0 n0 c0, .slice A7 n7 c7] 29)).alloc (.cells #[] 54)).alloc (.cells [.int .i64 x0, .int .i64 x1, .slice A2 n2 c2].toArray 54)).drew) (by repeat (first | (with_reducible exact Below.refl _ _) | (with_reducible assumption) | (with_reducible refine bel_alloc ?_ _) | (with_reducible refine bel_drew ?_) | (with_reducible refine below_drewN ?_ _) | (with_reducible refine bel_put ?_ (by first | exact Nat.le_refl _ | (simp; done) | (simp; omega)) _))) hgr3 (by first | omega | (simp; done) | (simp; omega) | (show _ ≤ (World.alloc _ _).heap.size; simp) | (show _ ≤ (World.alloc _ _).heap.size; simp; omega)) (fun b hb => by have e := Option.some.inj (show (some (w1.heap.size + 1)) = some b from hb); omega)
          have H3 := Box.grown (w := (((w1.alloc (.cells #[.slice A0 n0 c0, .slice A7 n7 c7] 29)).alloc (.cells #[] 54)).alloc (.cells [.int .i64 x0, .int .i64 x1, .slice A2 n2 c2].toArray 54)).drew) (Box.drew H_EV) hgr3 (fun e => by have e := Option.some.inj (show some (w.heap.size + 1) = (some (w1.heap.size + 1)) from e); omega)
          have T3 := Box.grown (w := (((w1.alloc (.cells #[.slice A0 n0 c0, .slice A7 n7 c7] 29)).alloc (.cells #[] 54)).alloc (.cells [.int .i64 x0, .int .i64 x1, .slice A2 n2 c2].toArray 54)).drew) (Box.drew T_EV) hgr3 (fun e => by have e := Option.some.inj (show some w1.heap.size = (some (w1.heap.size + 1)) from e); omega)
          have Y3 := Box.grown (w := (((w1.alloc (.cells #[.slice A0 n0 c0, .slice A7 n7 c7] 29)).alloc (.cells #[] 54)).alloc (.cells [.int .i64 x0, .int .i64 x1, .slice A2 n2 c2].toArray 54)).drew) (Box.drew Y_EV) hgr3 (fun e => by have e := Option.some.inj (show some (w.heap.size + 1 + 1) = (some (w1.heap.size + 1)) from e); omega)
          have V3 := Box.grown (w := (((w1.alloc (.cells #[.slice A0 n0 c0, .slice A7 n7 c7] 29)).alloc (.cells #[] 54)).alloc (.cells [.int .i64 x0, .int .i64 x1, .slice A2 n2 c2].toArray 54)).drew) (Box.drew V_EV) hgr3 (fun e => by have e := Option.some.inj (show some (w1.heap.size + 2) = (some (w1.heap.size + 1)) from e); omega)
          have hOwn3 := hG3.own
          have hG3' : GrowR tHeld 54 w3 (w1.heap.size + 1) w.heap.size v3 p1 := hG3
          have H3V := H3.alloc (.cells ([.int .i64 x0, .int .i64 x1, .slice A2 n2 c2].toArray) 54)
          refine hK.out _ _ (by exact ⟨H3.cell 0, H3.cell 1, H3.cell 2⟩) (fun hHeld => ?_)
          clear hK K
          (try simp only [Act.put, List.setIfInBounds_toArray, List.set_cons_zero, List.set_cons_succ])
          refine wpAnyH_ready (rs := [6]) (by kernel_rfl) (by simp) ?_
          refine AllReadyH.cons rfl (fun K hK => ?_) ?_
          · refine GrowR.step (by rfl) (.tmp 28) (.tmp 30) _ (by rfl) i1 _ 3 40 Try.underlying27 hj0 hj1 hj2 hj3 tz (by omega) rfl (by rfl) hG3' (w1.heap.size + 2) [.int .i64 x0, .int .i64 x1, .slice A2 n2 c2] ph (by rfl) V3 (tHeld.keep hRh (fun b hb => (show Below w.heap.size w w3 from hB3).block b hb)) (one_held _ _ _ _ _) (by omega) (by first | omega | (simp; done) | (simp; omega) | (show _ ≤ (World.alloc _ _).heap.size; simp) | (show _ ≤ (World.alloc _ _).heap.size; simp; omega)) t3 t4 ?_
            intro v4 w4 hG4 hgr4
            obtain ⟨A9, n9, c9, rfl, -⟩ := hG4.shapeN
            have hB4 : Below w.heap.size w w4 := Below.grown (w := w3) hB3 hgr4 (by first | omega | (simp; done) | (simp; omega) | (show _ ≤ (World.alloc _ _).heap.size; simp) | (show _ ≤ (World.alloc _ _).heap.size; simp; omega)) (fun b hb => by have := (hOwn3 b hb).1; omega)
            have hC4 : Below w1.heap.size w1 w4 := Below.grown (w := w3) hC3 hgr4 (by first | omega | (simp; done) | (simp; omega) | (show _ ≤ (World.alloc _ _).heap.size; simp) | (show _ ≤ (World.alloc _ _).heap.size; simp; omega)) (fun b hb => by have := (hOwn3 b hb).1; omega)
            have z4 : w1.heap.size + 1 ≤ w4.heap.size := Nat.le_trans (by first | omega | (simp; done) | (simp; omega) | (show _ ≤ (World.alloc _ _).heap.size; simp) | (show _ ≤ (World.alloc _ _).heap.size; simp; omega)) hgr4.size
            have H4 := Box.grown (w := w3) H3 hgr4 (fun e => by have := (hOwn3 _ e.symm).1; omega)
            have T4 := Box.grown (w := w3) T3 hgr4 (fun e => by have := (hOwn3 _ e.symm).1; omega)
            have Y4 := Box.grown (w := w3) Y3 hgr4 (fun e => by have := (hOwn3 _ e.symm).1; omega)
            have q0 := T4.cell 0
            have q1 := T4.cell 1
            have f0 := T4.frozen 0
            have f1 := T4.frozen 1
            have H9 := H4.far (p := ⟨w1.heap.size, 0, none⟩) (by show w.heap.size + 1 ≠ w1.heap.size; omega) (.slice A9 n9 c9)
            have Y9 := Y4.far (p := ⟨w1.heap.size, 0, none⟩) (by show w.heap.size + 1 + 1 ≠ w1.heap.size; omega) (.slice A9 n9 c9)
            have T9 := T4.put 0 (.slice A9 n9 c9)
            have y0 := Y9.cell 0
            have y1 := Y9.cell 1
            have y2 := Y9.frozen 0
            have y3 := Y9.frozen 1
            have s0 := T9.cell 0
            have s1 := T9.cell 1
            refine hK.out _ _ (by exact ⟨H4.cell 0, H4.cell 1, H4.cell 2⟩) (fun hHeld => ?_)
            clear hK K
            (try simp only [Act.put, List.setIfInBounds_toArray, List.set_cons_zero, List.set_cons_succ])
            refine wpAnyH_take (i := 7) (v := ?v7) rfl (by kernel_rfl) (by kernel_rfl) (by kernel_rfl) (fun _ _ _ h => h) (Or.inl ⟨by rfl, ?hy7⟩) (by assumption) ?_
            case hy7 => (intro w hSw; (try dsimp only at hSw); go_simp; try (with_reducible rfl))
            (try simp only [Act.put, List.setIfInBounds_toArray, List.set_cons_zero, List.set_cons_succ])
            refine wpAnyH_ready (rs := [8]) (by kernel_rfl) (by simp) ?_
            refine AllReadyH.cons rfl (fun K hK => ?_) ?_
            · go_simp
              refine hK.out _ _ (by exact ⟨H9.cell 0, H9.cell 1, H9.cell 2⟩) (fun hHeld => ?_)
              clear hK K
              (try simp only [Act.put, List.setIfInBounds_toArray, List.set_cons_zero, List.set_cons_succ])
              refine wpAnyH_done (by kernel_rfl) ?_ _
              go_wp2
              have hG9 := ((hG4.put (p := ⟨w1.heap.size, 0, none⟩) (by show w1.heap.size < _; omega) (by show _ ≤ w1.heap.size; omega) (.slice A9 n9 c9)).put (p := ⟨w.heap.size + 1 + 1, 0, none⟩) (by show w.heap.size + 1 + 1 < _; omega) (by show _ ≤ w.heap.size + 1 + 1; omega) (.slice A9 n9 c9)).put (p := ⟨w.heap.size + 1 + 1, 1, none⟩) (by show w.heap.size + 1 + 1 < _; omega) (by show _ ≤ w.heap.size + 1 + 1; omega) (.slice A7 n7 c7)
              have RR := (Y9.put 0 (.slice A9 n9 c9)).put 1 (.slice A7 n7 c7)
              have e0 := RR.cell 0
              have e1 := RR.cell 1
              have O7 := Ty.far3 (t := tIs) (Ty.far3 (t := tIs) (Ty.far3 (t := tIs) (Ty.below (t := tIs) hO7 hC4) (p := ⟨w1.heap.size, 0, none⟩) (fun hx => by have := tIs.lt hO7 _ hx; dsimp only at this; omega) (.slice A9 n9 c9)) (p := ⟨w.heap.size + 1 + 1, 0, none⟩) (fun hx => by have := hM7.2 _ hx; dsimp only at this; omega) (.slice A9 n9 c9)) (p := ⟨w.heap.size + 1 + 1, 1, none⟩) (fun hx => by have := hM7.2 _ hx; dsimp only at this; omega) (.slice A7 n7 c7)
              refine bodyPost_ret (v := .tuple #[.agg #[.slice A9 n9 c9, .slice A7 n7 c7], .int .i64 0]) (by simp [results, Try.results85, go_sem, e0, e1]) rfl ⟨[.slice A9 n9 c9, .slice A7 n7 c7], rfl, makePool (p := (p1 ++ [ph], p2 ++ [tag])) (hG9.doneAs (by simp [World.setCell]; omega)) (tIs.read O7), ?_⟩
              exact bel_put (bel_put (bel_put hB4 (by show _ ≤ w1.heap.size; omega) _) (by show _ ≤ w.heap.size + 1 + 1; omega) _) (by show _ ≤ w.heap.size + 1 + 1; omega) _
            exact AllReadyH.nil
          exact AllReadyH.nil
        exact AllReadyH.nil
      exact AllReadyH.nil
    refine AllReadyH.cons rfl (fun K hK => ?_) ?_
    · go_simp
      refine hK.out _ _ (by exact ⟨H_V.cell 0, H_V.cell 1, H_V.cell 2⟩) (fun hHeld => ?_)
      clear hK K
      (try simp only [Act.put, List.setIfInBounds_toArray, List.set_cons_zero, List.set_cons_succ])
      refine wpAnyH_ready (rs := [0]) (by kernel_rfl) (by simp) ?_
      refine AllReadyH.cons rfl (fun K hK => ?_) ?_
      · go_simp
        refine hK.out _ _ (by exact ⟨H_VE.cell 0, H_VE.cell 1, H_VE.cell 2⟩) (fun hHeld => ?_)
        clear hK K
        (try simp only [Act.put, List.setIfInBounds_toArray, List.set_cons_zero, List.set_cons_succ])
        refine wpAnyH_ready (rs := [3]) (by kernel_rfl) (by simp) ?_
        refine AllReadyH.cons rfl (fun K hK => ?_) ?_
        · have hE : GrowR tHeld 54 ((((w1.alloc (.cells #[.slice A0 n0 c0, .slice A7 n7 c7] 29)).alloc (.cells [.int .i64 x0, .int .i64 x1, .slice A2 n2 c2].toArray 54)).alloc (.cells #[] 54)).drew) (w1.heap.size + 1) w.heap.size (.slice (some ⟨w1.heap.size + 2, 0, none⟩) 0 0) [] := GrowR.drew (by simpa using (GrowR.empty (t := tHeld) (e := 54) (w := ((w1.alloc (.cells #[.slice A0 n0 c0, .slice A7 n7 c7] 29)).alloc (.cells [.int .i64 x0, .int .i64 x1, .slice A2 n2 c2].toArray 54))) (base := w1.heap.size + 1) (B := w.heap.size) (by first | (simp; done) | (simp; omega)))) (by simp; omega)
          have hR3 : tHeld.row.R ((((w1.alloc (.cells #[.slice A0 n0 c0, .slice A7 n7 c7] 29)).alloc (.cells [.int .i64 x0, .int .i64 x1, .slice A2 n2 c2].toArray 54)).alloc (.cells #[] 54)).drew) w.heap.size [.slice A0 n0 c0] p1 := tHeld.row.keep hr0 (fun b hb => (show Below w.heap.size w ((((w1.alloc (.cells #[.slice A0 n0 c0, .slice A7 n7 c7] 29)).alloc (.cells [.int .i64 x0, .int .i64 x1, .slice A2 n2 c2].toArray 54)).alloc (.cells #[] 54)).drew) from bel_trans hB1 (by repeat (first | (with_reducible exact Below.refl _ _) | (with_reducible assumption) | (with_reducible refine bel_alloc ?_ _) | (with_reducible refine bel_drew ?_) | (with_reducible refine below_drewN ?_ _) | (with_reducible refine bel_put ?_ (by first | exact Nat.le_refl _ | (simp; done) | (simp; omega)) _)))).block b hb)
          refine GrowR.stepRow (by rfl) (.tmp 25) (.tmp 27) _ (by rfl) i1 _ 3 40 Try.underlying27 hj0 hj1 hj2 hj3 tz (by omega) rfl (by rfl) hE (by rfl) hR3 one_cells_Held (by omega) (by first | omega | (simp; done) | (simp; omega) | (show _ ≤ (World.alloc _ _).heap.size; simp) | (show _ ≤ (World.alloc _ _).heap.size; simp; omega)) t1 t2 ?_
          intro v3 w3 hG3 hgr3
          have z3 : w1.heap.size + 1 + 2 ≤ w3.heap.size := Nat.le_trans (by first | omega | (simp; done) | (simp; omega) | (show _ ≤ (World.alloc _ _).heap.size; simp) | (show _ ≤ (World.alloc _ _).heap.size; simp; omega)) hgr3.size
          have hB3 : Below w.heap.size w w3 := Below.grown (w := (((w1.alloc (.cells #[.slice A0 n0 c0, .slice A7 n7 c7] 29)).alloc (.cells [.int .i64 x0, .int .i64 x1, .slice A2 n2 c2].toArray 54)).alloc (.cells #[] 54)).drew) (bel_trans hB1 (by repeat (first | (with_reducible exact Below.refl _ _) | (with_reducible assumption) | (with_reducible refine bel_alloc ?_ _) | (with_reducible refine bel_drew ?_) | (with_reducible refine below_drewN ?_ _) | (with_reducible refine bel_put ?_ (by first | exact Nat.le_refl _ | (simp; done) | (simp; omega)) _)))) hgr3 (by first | omega | (simp; done) | (simp; omega) | (show _ ≤ (World.alloc _ _).heap.size; simp) | (show _ ≤ (World.alloc _ _).heap.size; simp; omega)) (fun b hb => by have e := Option.some.inj (show (some (w1.heap.size + 2)) = some b from hb); omega)
          have hC3 : Below w1.heap.size w1 w3 := Below.grown (w := (((w1.alloc (.cells #[.slice A0 n0 c0, .slice A7 n7 c7] 29)).alloc (.cells [.int .i64 x0, .int .i64 x1, .slice A2 n2 c2].toArray 54)).alloc (.cells #[] 54)).drew) (by repeat (first | (with_reducible exact Below.refl _ _) | (with_reducible assumption) | (with_reducible refine bel_alloc ?_ _) | (with_reducible refine bel_drew ?_) | (with_reducible refine below_drewN ?_ _) | (with_reducible refine bel_put ?_ (by first | exact Nat.le_refl _ | (simp; done) | (simp; omega)) _))) hgr3 (by first | omega | (simp; done) | (simp; omega) | (show _ ≤ (World.alloc _ _).heap.size; simp) | (show _ ≤ (World.alloc _ _).heap.size; simp; omega)) (fun b hb => by have e := Option.some.inj (show (some (w1.heap.size + 2)) = some b from hb); omega)
          have H3 := Box.grown (w := (((w1.alloc (.cells #[.slice A0 n0 c0, .slice A7 n7 c7] 29)).alloc (.cells [.int .i64 x0, .int .i64 x1, .slice A2 n2 c2].toArray 54)).alloc (.cells #[] 54)).drew) (Box.drew H_VE) hgr3 (fun e => by have e := Option.some.inj (show some (w.heap.size + 1) = (some (w1.heap.size + 2)) from e); omega)
          have T3 := Box.grown (w := (((w1.alloc (.cells #[.slice A0 n0 c0, .slice A7 n7 c7] 29)).alloc (.cells [.int .i64 x0, .int .i64 x1, .slice A2 n2 c2].toArray 54)).alloc (.cells #[] 54)).drew) (Box.drew T_VE) hgr3 (fun e => by have e := Option.some.inj (show some w1.heap.size = (some (w1.heap.size + 2)) from e); omega)
          have Y3 := Box.grown (w := (((w1.alloc (.cells #[.slice A0 n0 c0, .slice A7 n7 c7] 29)).alloc (.cells [.int .i64 x0, .int .i64 x1, .slice A2 n2 c2].toArray 54)).alloc (.cells #[] 54)).drew) (Box.drew Y_VE) hgr3 (fun e => by have e := Option.some.inj (show some (w.heap.size + 1 + 1) = (some (w1.heap.size + 2)) from e); omega)
          have V3 := Box.grown (w := (((w1.alloc (.cells #[.slice A0 n0 c0, .slice A7 n7 c7] 29)).alloc (.cells [.int .i64 x0, .int .i64 x1, .slice A2 n2 c2].toArray 54)).alloc (.cells #[] 54)).drew) (Box.drew V_VE) hgr3 (fun e => by have e := Option.some.inj (show some (w1.heap.size + 1) = (some (w1.heap.size + 2)) from e); omega)
          have hOwn3 := hG3.own
          have hG3' : GrowR tHeld 54 w3 (w1.heap.size + 1) w.heap.size v3 p1 := hG3
          have H3V := H3.alloc (.cells ([.int .i64 x0, .int .i64 x1, .slice A2 n2 c2].toArray) 54)
          refine hK.out _ _ (by exact ⟨H3.cell 0, H3.cell 1, H3.cell 2⟩) (fun hHeld => ?_)
          clear hK K
          (try simp only [Act.put, List.setIfInBounds_toArray, List.set_cons_zero, List.set_cons_succ])
          refine wpAnyH_ready (rs := [6]) (by kernel_rfl) (by simp) ?_
          refine AllReadyH.cons rfl (fun K hK => ?_) ?_
          · refine GrowR.step (by rfl) (.tmp 28) (.tmp 30) _ (by rfl) i1 _ 3 40 Try.underlying27 hj0 hj1 hj2 hj3 tz (by omega) rfl (by rfl) hG3' (w1.heap.size + 1) [.int .i64 x0, .int .i64 x1, .slice A2 n2 c2] ph (by rfl) V3 (tHeld.keep hRh (fun b hb => (show Below w.heap.size w w3 from hB3).block b hb)) (one_held _ _ _ _ _) (by omega) (by first | omega | (simp; done) | (simp; omega) | (show _ ≤ (World.alloc _ _).heap.size; simp) | (show _ ≤ (World.alloc _ _).heap.size; simp; omega)) t3 t4 ?_
            intro v4 w4 hG4 hgr4
            obtain ⟨A9, n9, c9, rfl, -⟩ := hG4.shapeN
            have hB4 : Below w.heap.size w w4 := Below.grown (w := w3) hB3 hgr4 (by first | omega | (simp; done) | (simp; omega) | (show _ ≤ (World.alloc _ _).heap.size; simp) | (show _ ≤ (World.alloc _ _).heap.size; simp; omega)) (fun b hb => by have := (hOwn3 b hb).1; omega)
            have hC4 : Below w1.heap.size w1 w4 := Below.grown (w := w3) hC3 hgr4 (by first | omega | (simp; done) | (simp; omega) | (show _ ≤ (World.alloc _ _).heap.size; simp) | (show _ ≤ (World.alloc _ _).heap.size; simp; omega)) (fun b hb => by have := (hOwn3 b hb).1; omega)
            have z4 : w1.heap.size + 1 ≤ w4.heap.size := Nat.le_trans (by first | omega | (simp; done) | (simp; omega) | (show _ ≤ (World.alloc _ _).heap.size; simp) | (show _ ≤ (World.alloc _ _).heap.size; simp; omega)) hgr4.size
            have H4 := Box.grown (w := w3) H3 hgr4 (fun e => by have := (hOwn3 _ e.symm).1; omega)
            have T4 := Box.grown (w := w3) T3 hgr4 (fun e => by have := (hOwn3 _ e.symm).1; omega)
            have Y4 := Box.grown (w := w3) Y3 hgr4 (fun e => by have := (hOwn3 _ e.symm).1; omega)
            have q0 := T4.cell 0
            have q1 := T4.cell 1
            have f0 := T4.frozen 0
            have f1 := T4.frozen 1
            have H9 := H4.far (p := ⟨w1.heap.size, 0, none⟩) (by show w.heap.size + 1 ≠ w1.heap.size; omega) (.slice A9 n9 c9)
            have Y9 := Y4.far (p := ⟨w1.heap.size, 0, none⟩) (by show w.heap.size + 1 + 1 ≠ w1.heap.size; omega) (.slice A9 n9 c9)
            have T9 := T4.put 0 (.slice A9 n9 c9)
            have y0 := Y9.cell 0
            have y1 := Y9.cell 1
            have y2 := Y9.frozen 0
            have y3 := Y9.frozen 1
            have s0 := T9.cell 0
            have s1 := T9.cell 1
            refine hK.out _ _ (by exact ⟨H4.cell 0, H4.cell 1, H4.cell 2⟩) (fun hHeld => ?_)
            clear hK K
            (try simp only [Act.put, List.setIfInBounds_toArray, List.set_cons_zero, List.set_cons_succ])
            refine wpAnyH_take (i := 7) (v := ?v8) rfl (by kernel_rfl) (by kernel_rfl) (by kernel_rfl) (fun _ _ _ h => h) (Or.inl ⟨by rfl, ?hy8⟩) (by assumption) ?_
            case hy8 => (intro w hSw; (try dsimp only at hSw); go_simp; try (with_reducible rfl))
            (try simp only [Act.put, List.setIfInBounds_toArray, List.set_cons_zero, List.set_cons_succ])
            refine wpAnyH_ready (rs := [8]) (by kernel_rfl) (by simp) ?_
            refine AllReadyH.cons rfl (fun K hK => ?_) ?_
            · go_simp
              refine hK.out _ _ (by exact ⟨H9.cell 0, H9.cell 1, H9.cell 2⟩) (fun hHeld => ?_)
              clear hK K
              (try simp only [Act.put, List.setIfInBounds_toArray, List.set_cons_zero, List.set_cons_succ])
              refine wpAnyH_done (by kernel_rfl) ?_ _
              go_wp2
              have hG9 := ((hG4.put (p := ⟨w1.heap.size, 0, none⟩) (by show w1.heap.size < _; omega) (by show _ ≤ w1.heap.size; omega) (.slice A9 n9 c9)).put (p := ⟨w.heap.size + 1 + 1, 0, none⟩) (by show w.heap.size + 1 + 1 < _; omega) (by show _ ≤ w.heap.size + 1 + 1; omega) (.slice A9 n9 c9)).put (p := ⟨w.heap.size + 1 + 1, 1, none⟩) (by show w.heap.size + 1 + 1 < _; omega) (by show _ ≤ w.heap.size + 1 + 1; omega) (.slice A7 n7 c7)
              have RR := (Y9.put 0 (.slice A9 n9 c9)).put 1 (.slice A7 n7 c7)
              have e0 := RR.cell 0
              have e1 := RR.cell 1
              have O7 := Ty.far3 (t := tIs) (Ty.far3 (t := tIs) (Ty.far3 (t := tIs) (Ty.below (t := tIs) hO7 hC4) (p := ⟨w1.heap.size, 0, none⟩) (fun hx => by have := tIs.lt hO7 _ hx; dsimp only at this; omega) (.slice A9 n9 c9)) (p := ⟨w.heap.size + 1 + 1, 0, none⟩) (fun hx => by have := hM7.2 _ hx; dsimp only at this; omega) (.slice A9 n9 c9)) (p := ⟨w.heap.size + 1 + 1, 1, none⟩) (fun hx => by have := hM7.2 _ hx; dsimp only at this; omega) (.slice A7 n7 c7)
              refine bodyPost_ret (v := .tuple #[.agg #[.slice A9 n9 c9, .slice A7 n7 c7], .int .i64 0]) (by simp [results, Try.results85, go_sem, e0, e1]) rfl ⟨[.slice A9 n9 c9, .slice A7 n7 c7], rfl, makePool (p := (p1 ++ [ph], p2 ++ [tag])) (hG9.doneAs (by simp [World.setCell]; omega)) (tIs.read O7), ?_⟩
              exact bel_put (bel_put (bel_put hB4 (by show _ ≤ w1.heap.size; omega) _) (by show _ ≤ w.heap.size + 1 + 1; omega) _) (by show _ ≤ w.heap.size + 1 + 1; omega) _
            exact AllReadyH.nil
          exact AllReadyH.nil
        exact AllReadyH.nil
      exact AllReadyH.nil
    exact AllReadyH.nil
  refine AllReadyH.cons rfl (fun K hK => ?_) ?_
  · go_simp
    refine hK.out _ _ (by exact ⟨H_V.cell 0, H_V.cell 1, H_V.cell 2⟩) (fun hHeld => ?_)
    clear hK K
    (try simp only [Act.put, List.setIfInBounds_toArray, List.set_cons_zero, List.set_cons_succ])
    refine wpAnyH_ready (rs := [0, 2]) (by kernel_rfl) (by simp) ?_
    refine AllReadyH.cons rfl (fun K hK => ?_) ?_
    · go_simp
      refine hK.out _ _ (by exact ⟨H_VE.cell 0, H_VE.cell 1, H_VE.cell 2⟩) (fun hHeld => ?_)
      clear hK K
      (try simp only [Act.put, List.setIfInBounds_toArray, List.set_cons_zero, List.set_cons_succ])
      refine wpAnyH_ready (rs := [2]) (by kernel_rfl) (by simp) ?_
      refine AllReadyH.cons rfl (fun K hK => ?_) ?_
      · go_simp
        refine hK.out _ _ (by exact ⟨H_VE.cell 0, H_VE.cell 1, H_VE.cell 2⟩) (fun hHeld => ?_)
        clear hK K
        (try simp only [Act.put, List.setIfInBounds_toArray, List.set_cons_zero, List.set_cons_succ])
        refine wpAnyH_ready (rs := [3]) (by kernel_rfl) (by simp) ?_
        refine AllReadyH.cons rfl (fun K hK => ?_) ?_
        · have hE : GrowR tHeld 54 ((((w1.alloc (.cells #[.slice A0 n0 c0, .slice A7 n7 c7] 29)).alloc (.cells [.int .i64 x0, .int .i64 x1, .slice A2 n2 c2].toArray 54)).alloc (.cells #[] 54)).drew) (w1.heap.size + 1) w.heap.size (.slice (some ⟨w1.heap.size + 2, 0, none⟩) 0 0) [] := GrowR.drew (by simpa using (GrowR.empty (t := tHeld) (e := 54) (w := ((w1.alloc (.cells #[.slice A0 n0 c0, .slice A7 n7 c7] 29)).alloc (.cells [.int .i64 x0, .int .i64 x1, .slice A2 n2 c2].toArray 54))) (base := w1.heap.size + 1) (B := w.heap.size) (by first | (simp; done) | (simp; omega)))) (by simp; omega)
          have hR3 : tHeld.row.R ((((w1.alloc (.cells #[.slice A0 n0 c0, .slice A7 n7 c7] 29)).alloc (.cells [.int .i64 x0, .int .i64 x1, .slice A2 n2 c2].toArray 54)).alloc (.cells #[] 54)).drew) w.heap.size [.slice A0 n0 c0] p1 := tHeld.row.keep hr0 (fun b hb => (show Below w.heap.size w ((((w1.alloc (.cells #[.slice A0 n0 c0, .slice A7 n7 c7] 29)).alloc (.cells [.int .i64 x0, .int .i64 x1, .slice A2 n2 c2].toArray 54)).alloc (.cells #[] 54)).drew) from bel_trans hB1 (by repeat (first | (with_reducible exact Below.refl _ _) | (with_reducible assumption) | (with_reducible refine bel_alloc ?_ _) | (with_reducible refine bel_drew ?_) | (with_reducible refine below_drewN ?_ _) | (with_reducible refine bel_put ?_ (by first | exact Nat.le_refl _ | (simp; done) | (simp; omega)) _)))).block b hb)
          refine GrowR.stepRow (by rfl) (.tmp 25) (.tmp 27) _ (by rfl) i1 _ 3 40 Try.underlying27 hj0 hj1 hj2 hj3 tz (by omega) rfl (by rfl) hE (by rfl) hR3 one_cells_Held (by omega) (by first | omega | (simp; done) | (simp; omega) | (show _ ≤ (World.alloc _ _).heap.size; simp) | (show _ ≤ (World.alloc _ _).heap.size; simp; omega)) t1 t2 ?_
          intro v3 w3 hG3 hgr3
          have z3 : w1.heap.size + 1 + 2 ≤ w3.heap.size := Nat.le_trans (by first | omega | (simp; done) | (simp; omega) | (show _ ≤ (World.alloc _ _).heap.size; simp) | (show _ ≤ (World.alloc _ _).heap.size; simp; omega)) hgr3.size
          have hB3 : Below w.heap.size w w3 := Below.grown (w := (((w1.alloc (.cells #[.slice A0 n0 c0, .slice A7 n7 c7] 29)).alloc (.cells [.int .i64 x0, .int .i64 x1, .slice A2 n2 c2].toArray 54)).alloc (.cells #[] 54)).drew) (bel_trans hB1 (by repeat (first | (with_reducible exact Below.refl _ _) | (with_reducible assumption) | (with_reducible refine bel_alloc ?_ _) | (with_reducible refine bel_drew ?_) | (with_reducible refine below_drewN ?_ _) | (with_reducible refine bel_put ?_ (by first | exact Nat.le_refl _ | (simp; done) | (simp; omega)) _)))) hgr3 (by first | omega | (simp; done) | (simp; omega) | (show _ ≤ (World.alloc _ _).heap.size; simp) | (show _ ≤ (World.alloc _ _).heap.size; simp; omega)) (fun b hb => by have e := Option.some.inj (show (some (w1.heap.size + 2)) = some b from hb); omega)
          have hC3 : Below w1.heap.size w1 w3 := Below.grown (w := (((w1.alloc (.cells #[.slice A0 n0 c0, .slice A7 n7 c7] 29)).alloc (.cells [.int .i64 x0, .int .i64 x1, .slice A2 n2 c2].toArray 54)).alloc (.cells #[] 54)).drew) (by repeat (first | (with_reducible exact Below.refl _ _) | (with_reducible assumption) | (with_reducible refine bel_alloc ?_ _) | (with_reducible refine bel_drew ?_) | (with_reducible refine below_drewN ?_ _) | (with_reducible refine bel_put ?_ (by first | exact Nat.le_refl _ | (simp; done) | (simp; omega)) _))) hgr3 (by first | omega | (simp; done) | (simp; omega) | (show _ ≤ (World.alloc _ _).heap.size; simp) | (show _ ≤ (World.alloc _ _).heap.size; simp; omega)) (fun b hb => by have e := Option.some.inj (show (some (w1.heap.size + 2)) = some b from hb); omega)
          have H3 := Box.grown (w := (((w1.alloc (.cells #[.slice A0 n0 c0, .slice A7 n7 c7] 29)).alloc (.cells [.int .i64 x0, .int .i64 x1, .slice A2 n2 c2].toArray 54)).alloc (.cells #[] 54)).drew) (Box.drew H_VE) hgr3 (fun e => by have e := Option.some.inj (show some (w.heap.size + 1) = (some (w1.heap.size + 2)) from e); omega)
          have T3 := Box.grown (w := (((w1.alloc (.cells #[.slice A0 n0 c0, .slice A7 n7 c7] 29)).alloc (.cells [.int .i64 x0, .int .i64 x1, .slice A2 n2 c2].toArray 54)).alloc (.cells #[] 54)).drew) (Box.drew T_VE) hgr3 (fun e => by have e := Option.some.inj (show some w1.heap.size = (some (w1.heap.size + 2)) from e); omega)
          have Y3 := Box.grown (w := (((w1.alloc (.cells #[.slice A0 n0 c0, .slice A7 n7 c7] 29)).alloc (.cells [.int .i64 x0, .int .i64 x1, .slice A2 n2 c2].toArray 54)).alloc (.cells #[] 54)).drew) (Box.drew Y_VE) hgr3 (fun e => by have e := Option.some.inj (show some (w.heap.size + 1 + 1) = (some (w1.heap.size + 2)) from e); omega)
          have V3 := Box.grown (w := (((w1.alloc (.cells #[.slice A0 n0 c0, .slice A7 n7 c7] 29)).alloc (.cells [.int .i64 x0, .int .i64 x1, .slice A2 n2 c2].toArray 54)).alloc (.cells #[] 54)).drew) (Box.drew V_VE) hgr3 (fun e => by have e := Option.some.inj (show some (w1.heap.size + 1) = (some (w1.heap.size + 2)) from e); omega)
          have hOwn3 := hG3.own
          have hG3' : GrowR tHeld 54 w3 (w1.heap.size + 1) w.heap.size v3 p1 := hG3
          have H3V := H3.alloc (.cells ([.int .i64 x0, .int .i64 x1, .slice A2 n2 c2].toArray) 54)
          refine hK.out _ _ (by exact ⟨H3.cell 0, H3.cell 1, H3.cell 2⟩) (fun hHeld => ?_)
          clear hK K
          (try simp only [Act.put, List.setIfInBounds_toArray, List.set_cons_zero, List.set_cons_succ])
          refine wpAnyH_ready (rs := [6]) (by kernel_rfl) (by simp) ?_
          refine AllReadyH.cons rfl (fun K hK => ?_) ?_
          · refine GrowR.step (by rfl) (.tmp 28) (.tmp 30) _ (by rfl) i1 _ 3 40 Try.underlying27 hj0 hj1 hj2 hj3 tz (by omega) rfl (by rfl) hG3' (w1.heap.size + 1) [.int .i64 x0, .int .i64 x1, .slice A2 n2 c2] ph (by rfl) V3 (tHeld.keep hRh (fun b hb => (show Below w.heap.size w w3 from hB3).block b hb)) (one_held _ _ _ _ _) (by omega) (by first | omega | (simp; done) | (simp; omega) | (show _ ≤ (World.alloc _ _).heap.size; simp) | (show _ ≤ (World.alloc _ _).heap.size; simp; omega)) t3 t4 ?_
            intro v4 w4 hG4 hgr4
            obtain ⟨A9, n9, c9, rfl, -⟩ := hG4.shapeN
            have hB4 : Below w.heap.size w w4 := Below.grown (w := w3) hB3 hgr4 (by first | omega | (simp; done) | (simp; omega) | (show _ ≤ (World.alloc _ _).heap.size; simp) | (show _ ≤ (World.alloc _ _).heap.size; simp; omega)) (fun b hb => by have := (hOwn3 b hb).1; omega)
            have hC4 : Below w1.heap.size w1 w4 := Below.grown (w := w3) hC3 hgr4 (by first | omega | (simp; done) | (simp; omega) | (show _ ≤ (World.alloc _ _).heap.size; simp) | (show _ ≤ (World.alloc _ _).heap.size; simp; omega)) (fun b hb => by have := (hOwn3 b hb).1; omega)
            have z4 : w1.heap.size + 1 ≤ w4.heap.size := Nat.le_trans (by first | omega | (simp; done) | (simp; omega) | (show _ ≤ (World.alloc _ _).heap.size; simp) | (show _ ≤ (World.alloc _ _).heap.size; simp; omega)) hgr4.size
            have H4 := Box.grown (w := w3) H3 hgr4 (fun e => by have := (hOwn3 _ e.symm).1; omega)
            have T4 := Box.grown (w := w3) T3 hgr4 (fun e => by have := (hOwn3 _ e.symm).1; omega)
            have Y4 := Box.grown (w := w3) Y3 hgr4 (fun e => by have := (hOwn3 _ e.symm).1; omega)
            have q0 := T4.cell 0
            have q1 := T4.cell 1
            have f0 := T4.frozen 0
            have f1 := T4.frozen 1
            have H9 := H4.far (p := ⟨w1.heap.size, 0, none⟩) (by show w.heap.size + 1 ≠ w1.heap.size; omega) (.slice A9 n9 c9)
            have Y9 := Y4.far (p := ⟨w1.heap.size, 0, none⟩) (by show w.heap.size + 1 + 1 ≠ w1.heap.size; omega) (.slice A9 n9 c9)
            have T9 := T4.put 0 (.slice A9 n9 c9)
            have y0 := Y9.cell 0
            have y1 := Y9.cell 1
            have y2 := Y9.frozen 0
            have y3 := Y9.frozen 1
            have s0 := T9.cell 0
            have s1 := T9.cell 1
            refine hK.out _ _ (by exact ⟨H4.cell 0, H4.cell 1, H4.cell 2⟩) (fun hHeld => ?_)
            clear hK K
            (try simp only [Act.put, List.setIfInBounds_toArray, List.set_cons_zero, List.set_cons_succ])
            refine wpAnyH_take (i := 7) (v := ?v9) rfl (by kernel_rfl) (by kernel_rfl) (by kernel_rfl) (fun _ _ _ h => h) (Or.inl ⟨by rfl, ?hy9⟩) (by assumption) ?_
            case hy9 => (intro w hSw; (try dsimp only at hSw); go_simp; try (with_reducible rfl))
            (try simp only [Act.put, List.setIfInBounds_toArray, List.set_cons_zero, List.set_cons_succ])
            refine wpAnyH_ready (rs := [8]) (by kernel_rfl) (by simp) ?_
            refine AllReadyH.cons rfl (fun K hK => ?_) ?_
            · go_simp
              refine hK.out _ _ (by exact ⟨H9.cell 0, H9.cell 1, H9.cell 2⟩) (fun hHeld => ?_)
              clear hK K
              (try simp only [Act.put, List.setIfInBounds_toArray, List.set_cons_zero, List.set_cons_succ])
              refine wpAnyH_done (by kernel_rfl) ?_ _
              go_wp2
              have hG9 := ((hG4.put (p := ⟨w1.heap.size, 0, none⟩) (by show w1.heap.size < _; omega) (by show _ ≤ w1.heap.size; omega) (.slice A9 n9 c9)).put (p := ⟨w.heap.size + 1 + 1, 0, none⟩) (by show w.heap.size + 1 + 1 < _; omega) (by show _ ≤ w.heap.size + 1 + 1; omega) (.slice A9 n9 c9)).put (p := ⟨w.heap.size + 1 + 1, 1, none⟩) (by show w.heap.size + 1 + 1 < _; omega) (by show _ ≤ w.heap.size + 1 + 1; omega) (.slice A7 n7 c7)
              have RR := (Y9.put 0 (.slice A9 n9 c9)).put 1 (.slice A7 n7 c7)
              have e0 := RR.cell 0
              have e1 := RR.cell 1
              have O7 := Ty.far3 (t := tIs) (Ty.far3 (t := tIs) (Ty.far3 (t := tIs) (Ty.below (t := tIs) hO7 hC4) (p := ⟨w1.heap.size, 0, none⟩) (fun hx => by have := tIs.lt hO7 _ hx; dsimp only at this; omega) (.slice A9 n9 c9)) (p := ⟨w.heap.size + 1 + 1, 0, none⟩) (fun hx => by have := hM7.2 _ hx; dsimp only at this; omega) (.slice A9 n9 c9)) (p := ⟨w.heap.size + 1 + 1, 1, none⟩) (fun hx => by have := hM7.2 _ hx; dsimp only at this; omega) (.slice A7 n7 c7)
              refine bodyPost_ret (v := .tuple #[.agg #[.slice A9 n9 c9, .slice A7 n7 c7], .int .i64 0]) (by simp [results, Try.results85, go_sem, e0, e1]) rfl ⟨[.slice A9 n9 c9, .slice A7 n7 c7], rfl, makePool (p := (p1 ++ [ph], p2 ++ [tag])) (hG9.doneAs (by simp [World.setCell]; omega)) (tIs.read O7), ?_⟩
              exact bel_put (bel_put (bel_put hB4 (by show _ ≤ w1.heap.size; omega) _) (by show _ ≤ w.heap.size + 1 + 1; omega) _) (by show _ ≤ w.heap.size + 1 + 1; omega) _
            exact AllReadyH.nil
          exact AllReadyH.nil
        exact AllReadyH.nil
      exact AllReadyH.nil
    refine AllReadyH.cons rfl (fun K hK => ?_) ?_
    · go_simp
      refine hK.out _ _ (by exact ⟨H_V.cell 0, H_V.cell 1, H_V.cell 2⟩) (fun hHeld => ?_)
      clear hK K
      (try simp only [Act.put, List.setIfInBounds_toArray, List.set_cons_zero, List.set_cons_succ])
      refine wpAnyH_ready (rs := [0]) (by kernel_rfl) (by simp) ?_
      refine AllReadyH.cons rfl (fun K hK => ?_) ?_
      · go_simp
        refine hK.out _ _ (by exact ⟨H_VE.cell 0, H_VE.cell 1, H_VE.cell 2⟩) (fun hHeld => ?_)
        clear hK K
        (try simp only [Act.put, List.setIfInBounds_toArray, List.set_cons_zero, List.set_cons_succ])
        refine wpAnyH_ready (rs := [3]) (by kernel_rfl) (by simp) ?_
        refine AllReadyH.cons rfl (fun K hK => ?_) ?_
        · have hE : GrowR tHeld 54 ((((w1.alloc (.cells #[.slice A0 n0 c0, .slice A7 n7 c7] 29)).alloc (.cells [.int .i64 x0, .int .i64 x1, .slice A2 n2 c2].toArray 54)).alloc (.cells #[] 54)).drew) (w1.heap.size + 1) w.heap.size (.slice (some ⟨w1.heap.size + 2, 0, none⟩) 0 0) [] := GrowR.drew (by simpa using (GrowR.empty (t := tHeld) (e := 54) (w := ((w1.alloc (.cells #[.slice A0 n0 c0, .slice A7 n7 c7] 29)).alloc (.cells [.int .i64 x0, .int .i64 x1, .slice A2 n2 c2].toArray 54))) (base := w1.heap.size + 1) (B := w.heap.size) (by first | (simp; done) | (simp; omega)))) (by simp; omega)
          have hR3 : tHeld.row.R ((((w1.alloc (.cells #[.slice A0 n0 c0, .slice A7 n7 c7] 29)).alloc (.cells [.int .i64 x0, .int .i64 x1, .slice A2 n2 c2].toArray 54)).alloc (.cells #[] 54)).drew) w.heap.size [.slice A0 n0 c0] p1 := tHeld.row.keep hr0 (fun b hb => (show Below w.heap.size w ((((w1.alloc (.cells #[.slice A0 n0 c0, .slice A7 n7 c7] 29)).alloc (.cells [.int .i64 x0, .int .i64 x1, .slice A2 n2 c2].toArray 54)).alloc (.cells #[] 54)).drew) from bel_trans hB1 (by repeat (first | (with_reducible exact Below.refl _ _) | (with_reducible assumption) | (with_reducible refine bel_alloc ?_ _) | (with_reducible refine bel_drew ?_) | (with_reducible refine below_drewN ?_ _) | (with_reducible refine bel_put ?_ (by first | exact Nat.le_refl _ | (simp; done) | (simp; omega)) _)))).block b hb)
          refine GrowR.stepRow (by rfl) (.tmp 25) (.tmp 27) _ (by rfl) i1 _ 3 40 Try.underlying27 hj0 hj1 hj2 hj3 tz (by omega) rfl (by rfl) hE (by rfl) hR3 one_cells_Held (by omega) (by first | omega | (simp; done) | (simp; omega) | (show _ ≤ (World.alloc _ _).heap.size; simp) | (show _ ≤ (World.alloc _ _).heap.size; simp; omega)) t1 t2 ?_
          intro v3 w3 hG3 hgr3
          have z3 : w1.heap.size + 1 + 2 ≤ w3.heap.size := Nat.le_trans (by first | omega | (simp; done) | (simp; omega) | (show _ ≤ (World.alloc _ _).heap.size; simp) | (show _ ≤ (World.alloc _ _).heap.size; simp; omega)) hgr3.size
          have hB3 : Below w.heap.size w w3 := Below.grown (w := (((w1.alloc (.cells #[.slice A0 n0 c0, .slice A7 n7 c7] 29)).alloc (.cells [.int .i64 x0, .int .i64 x1, .slice A2 n2 c2].toArray 54)).alloc (.cells #[] 54)).drew) (bel_trans hB1 (by repeat (first | (with_reducible exact Below.refl _ _) | (with_reducible assumption) | (with_reducible refine bel_alloc ?_ _) | (with_reducible refine bel_drew ?_) | (with_reducible refine below_drewN ?_ _) | (with_reducible refine bel_put ?_ (by first | exact Nat.le_refl _ | (simp; done) | (simp; omega)) _)))) hgr3 (by first | omega | (simp; done) | (simp; omega) | (show _ ≤ (World.alloc _ _).heap.size; simp) | (show _ ≤ (World.alloc _ _).heap.size; simp; omega)) (fun b hb => by have e := Option.some.inj (show (some (w1.heap.size + 2)) = some b from hb); omega)
          have hC3 : Below w1.heap.size w1 w3 := Below.grown (w := (((w1.alloc (.cells #[.slice A0 n0 c0, .slice A7 n7 c7] 29)).alloc (.cells [.int .i64 x0, .int .i64 x1, .slice A2 n2 c2].toArray 54)).alloc (.cells #[] 54)).drew) (by repeat (first | (with_reducible exact Below.refl _ _) | (with_reducible assumption) | (with_reducible refine bel_alloc ?_ _) | (with_reducible refine bel_drew ?_) | (with_reducible refine below_drewN ?_ _) | (with_reducible refine bel_put ?_ (by first | exact Nat.le_refl _ | (simp; done) | (simp; omega)) _))) hgr3 (by first | omega | (simp; done) | (simp; omega) | (show _ ≤ (World.alloc _ _).heap.size; simp) | (show _ ≤ (World.alloc _ _).heap.size; simp; omega)) (fun b hb => by have e := Option.some.inj (show (some (w1.heap.size + 2)) = some b from hb); omega)
          have H3 := Box.grown (w := (((w1.alloc (.cells #[.slice A0 n0 c0, .slice A7 n7 c7] 29)).alloc (.cells [.int .i64 x0, .int .i64 x1, .slice A2 n2 c2].toArray 54)).alloc (.cells #[] 54)).drew) (Box.drew H_VE) hgr3 (fun e => by have e := Option.some.inj (show some (w.heap.size + 1) = (some (w1.heap.size + 2)) from e); omega)
          have T3 := Box.grown (w := (((w1.alloc (.cells #[.slice A0 n0 c0, .slice A7 n7 c7] 29)).alloc (.cells [.int .i64 x0, .int .i64 x1, .slice A2 n2 c2].toArray 54)).alloc (.cells #[] 54)).drew) (Box.drew T_VE) hgr3 (fun e => by have e := Option.some.inj (show some w1.heap.size = (some (w1.heap.size + 2)) from e); omega)
          have Y3 := Box.grown (w := (((w1.alloc (.cells #[.slice A0 n0 c0, .slice A7 n7 c7] 29)).alloc (.cells [.int .i64 x0, .int .i64 x1, .slice A2 n2 c2].toArray 54)).alloc (.cells #[] 54)).drew) (Box.drew Y_VE) hgr3 (fun e => by have e := Option.some.inj (show some (w.heap.size + 1 + 1) = (some (w1.heap.size + 2)) from e); omega)
          have V3 := Box.grown (w := (((w1.alloc (.cells #[.slice A0 n0 c0, .slice A7 n7 c7] 29)).alloc (.cells [.int .i64 x0, .int .i64 x1, .slice A2 n2 c2].toArray 54)).alloc (.cells #[] 54)).drew) (Box.drew V_VE) hgr3 (fun e => by have e := Option.some.inj (show some (w1.heap.size + 1) = (some (w1.heap.size + 2)) from e); omega)
          have hOwn3 := hG3.own
          have hG3' : GrowR tHeld 54 w3 (w1.heap.size + 1) w.heap.size v3 p1 := hG3
          have H3V := H3.alloc (.cells ([.int .i64 x0, .int .i64 x1, .slice A2 n2 c2].toArray) 54)
          refine hK.out _ _ (by exact ⟨H3.cell 0, H3.cell 1, H3.cell 2⟩) (fun hHeld => ?_)
          clear hK K
          (try simp only [Act.put, List.setIfInBounds_toArray, List.set_cons_zero, List.set_cons_succ])
          refine wpAnyH_ready (rs := [6]) (by kernel_rfl) (by simp) ?_
          refine AllReadyH.cons rfl (fun K hK => ?_) ?_
          · refine GrowR.step (by rfl) (.tmp 28) (.tmp 30) _ (by rfl) i1 _ 3 40 Try.underlying27 hj0 hj1 hj2 hj3 tz (by omega) rfl (by rfl) hG3' (w1.heap.size + 1) [.int .i64 x0, .int .i64 x1, .slice A2 n2 c2] ph (by rfl) V3 (tHeld.keep hRh (fun b hb => (show Below w.heap.size w w3 from hB3).block b hb)) (one_held _ _ _ _ _) (by omega) (by first | omega | (simp; done) | (simp; omega) | (show _ ≤ (World.alloc _ _).heap.size; simp) | (show _ ≤ (World.alloc _ _).heap.size; simp; omega)) t3 t4 ?_
            intro v4 w4 hG4 hgr4
            obtain ⟨A9, n9, c9, rfl, -⟩ := hG4.shapeN
            have hB4 : Below w.heap.size w w4 := Below.grown (w := w3) hB3 hgr4 (by first | omega | (simp; done) | (simp; omega) | (show _ ≤ (World.alloc _ _).heap.size; simp) | (show _ ≤ (World.alloc _ _).heap.size; simp; omega)) (fun b hb => by have := (hOwn3 b hb).1; omega)
            have hC4 : Below w1.heap.size w1 w4 := Below.grown (w := w3) hC3 hgr4 (by first | omega | (simp; done) | (simp; omega) | (show _ ≤ (World.alloc _ _).heap.size; simp) | (show _ ≤ (World.alloc _ _).heap.size; simp; omega)) (fun b hb => by have := (hOwn3 b hb).1; omega)
            have z4 : w1.heap.size + 1 ≤ w4.heap.size := Nat.le_trans (by first | omega | (simp; done) | (simp; omega) | (show _ ≤ (World.alloc _ _).heap.size; simp) | (show _ ≤ (World.alloc _ _).heap.size; simp; omega)) hgr4.size
            have H4 := Box.grown (w := w3) H3 hgr4 (fun e => by have := (hOwn3 _ e.symm).1; omega)
            have T4 := Box.grown (w := w3) T3 hgr4 (fun e => by have := (hOwn3 _ e.symm).1; omega)
            have Y4 := Box.grown (w := w3) Y3 hgr4 (fun e => by have := (hOwn3 _ e.symm).1; omega)
            have q0 := T4.cell 0
            have q1 := T4.cell 1
            have f0 := T4.frozen 0
            have f1 := T4.frozen 1
            have H9 := H4.far (p := ⟨w1.heap.size, 0, none⟩) (by show w.heap.size + 1 ≠ w1.heap.size; omega) (.slice A9 n9 c9)
            have Y9 := Y4.far (p := ⟨w1.heap.size, 0, none⟩) (by show w.heap.size + 1 + 1 ≠ w1.heap.size; omega) (.slice A9 n9 c9)
            have T9 := T4.put 0 (.slice A9 n9 c9)
            have y0 := Y9.cell 0
            have y1 := Y9.cell 1
            have y2 := Y9.frozen 0
            have y3 := Y9.frozen 1
            have s0 := T9.cell 0
            have s1 := T9.cell 1
            refine hK.out _ _ (by exact ⟨H4.cell 0, H4.cell 1, H4.cell 2⟩) (fun hHeld => ?_)
            clear hK K
            (try simp only [Act.put, List.setIfInBounds_toArray, List.set_cons_zero, List.set_cons_succ])
            refine wpAnyH_take (i := 7) (v := ?v10) rfl (by kernel_rfl) (by kernel_rfl) (by kernel_rfl) (fun _ _ _ h => h) (Or.inl ⟨by rfl, ?hy10⟩) (by assumption) ?_
            case hy10 => (intro w hSw; (try dsimp only at hSw); go_simp; try (with_reducible rfl))
            (try simp only [Act.put, List.setIfInBounds_toArray, List.set_cons_zero, List.set_cons_succ])
            refine wpAnyH_ready (rs := [8]) (by kernel_rfl) (by simp) ?_
            refine AllReadyH.cons rfl (fun K hK => ?_) ?_
            · go_simp
              refine hK.out _ _ (by exact ⟨H9.cell 0, H9.cell 1, H9.cell 2⟩) (fun hHeld => ?_)
              clear hK K
              (try simp only [Act.put, List.setIfInBounds_toArray, List.set_cons_zero, List.set_cons_succ])
              refine wpAnyH_done (by kernel_rfl) ?_ _
              go_wp2
              have hG9 := ((hG4.put (p := ⟨w1.heap.size, 0, none⟩) (by show w1.heap.size < _; omega) (by show _ ≤ w1.heap.size; omega) (.slice A9 n9 c9)).put (p := ⟨w.heap.size + 1 + 1, 0, none⟩) (by show w.heap.size + 1 + 1 < _; omega) (by show _ ≤ w.heap.size + 1 + 1; omega) (.slice A9 n9 c9)).put (p := ⟨w.heap.size + 1 + 1, 1, none⟩) (by show w.heap.size + 1 + 1 < _; omega) (by show _ ≤ w.heap.size + 1 + 1; omega) (.slice A7 n7 c7)
              have RR := (Y9.put 0 (.slice A9 n9 c9)).put 1 (.slice A7 n7 c7)
              have e0 := RR.cell 0
              have e1 := RR.cell 1
              have O7 := Ty.far3 (t := tIs) (Ty.far3 (t := tIs) (Ty.far3 (t := tIs) (Ty.below (t := tIs) hO7 hC4) (p := ⟨w1.heap.size, 0, none⟩) (fun hx => by have := tIs.lt hO7 _ hx; dsimp only at this; omega) (.slice A9 n9 c9)) (p := ⟨w.heap.size + 1 + 1, 0, none⟩) (fun hx => by have := hM7.2 _ hx; dsimp only at this; omega) (.slice A9 n9 c9)) (p := ⟨w.heap.size + 1 + 1, 1, none⟩) (fun hx => by have := hM7.2 _ hx; dsimp only at this; omega) (.slice A7 n7 c7)
              refine bodyPost_ret (v := .tuple #[.agg #[.slice A9 n9 c9, .slice A7 n7 c7], .int .i64 0]) (by simp [results, Try.results85, go_sem, e0, e1]) rfl ⟨[.slice A9 n9 c9, .slice A7 n7 c7], rfl, makePool (p := (p1 ++ [ph], p2 ++ [tag])) (hG9.doneAs (by simp [World.setCell]; omega)) (tIs.read O7), ?_⟩
              exact bel_put (bel_put (bel_put hB4 (by show _ ≤ w1.heap.size; omega) _) (by show _ ≤ w.heap.size + 1 + 1; omega) _) (by show _ ≤ w.heap.size + 1 + 1; omega) _
            exact AllReadyH.nil
          exact AllReadyH.nil
        exact AllReadyH.nil
      exact AllReadyH.nil
    exact AllReadyH.nil
  exact AllReadyH.nil
set_option maxHeartbeats 2000000 in
theorem s_admit5_no {w : World} {A0 A1 A2 : Option Addr} {n0 c0 n1 c1 n2 c2 : Nat} {p1 : List DHeld} {p2 : List Int} {x0 x1 : Int} {tag : Int} (hr0 : tHeld.row.R w w.heap.size [.slice A0 n0 c0] p1) (h1 : tIs.R w w.heap.size [.slice A1 n1 c1] p2)
    (hn0 : n0 ≤ 12) (hn1 : n1 ≤ 60) (hw : (Lit.int .i64 tag).wf = true) (hr : n0 = 12 ∨ ¬ recN p2 tag = 0) :
    Calls Try.prog 85 #[.agg #[.slice A0 n0 c0, .slice A1 n1 c1], .agg #[.int .i64 x0, .int .i64 x1, .slice A2 n2 c2], .int .i64 tag] w fun e w' => e = .returned (.tuple #[.agg #[.slice A0 n0 c0, .slice A1 n1 c1], .int .i64 (if n0 = 12 then -2 else recN p2 tag)]) ∧ Below w.heap.size w w' := by
  have Y0 : Box (((w.alloc (.cells #[.slice A0 n0 c0, .slice A1 n1 c1] 29)).alloc (.cells #[.int .i64 x0, .int .i64 x1, .slice A2 n2 c2] 54)).alloc (.cells #[.slice none 0 0, .slice none 0 0] 29)) (w.heap.size + 1 + 1) 29 #[.slice none 0 0, .slice none 0 0] := by simpa using Box.new ((w.alloc (.cells #[.slice A0 n0 c0, .slice A1 n1 c1] 29)).alloc (.cells #[.int .i64 x0, .int .i64 x1, .slice A2 n2 c2] 54)) 29 #[.slice none 0 0, .slice none 0 0]
  have y0 := Y0.cell 0; have y1 := Y0.cell 1; have y2 := Y0.frozen 0; have y3 := Y0.frozen 1
  by_cases h12 : n0 = 12
  · subst h12
    rw [if_pos rfl]
    clear hr
    go_enter Try.func85, Try.ntmps85
    go_wp2
    have RR := (Y0.put 0 (.slice A0 12 c0)).put 1 (.slice A1 n1 c1)
    have e0 := RR.cell 0; have e1 := RR.cell 1
    refine bodyPost_ret (v := .tuple #[.agg #[.slice A0 12 c0, .slice A1 n1 c1], .int .i64 (-2)]) (by simp [results, Try.results85, go_sem, e0, e1]) rfl ⟨rfl, ?_⟩
    exact (by repeat (first | (with_reducible exact Below.refl _ _) | (with_reducible assumption) | (with_reducible refine bel_alloc ?_ _) | (with_reducible refine bel_drew ?_) | (with_reducible refine below_drewN ?_ _) | (with_reducible refine bel_put ?_ (by first | exact Nat.le_refl _ | (simp; done) | (simp; omega)) _)))
  rw [if_neg h12]
  have hr2 : ¬ recN p2 tag = 0 := hr.resolve_left h12
  have hq : ¬ (12 : Int) ≤ (n0 : Int) := by omega
  obtain ⟨k, hk⟩ : ∃ k, recN p2 tag = k := ⟨_, rfl⟩
  have hk2 : k < 0 := by have := recN_le p2 tag; omega
  have hkd : decide (k < 0) = true := decide_eq_true hk2
  have HK := Lib.hid hk
  have HR := Lib.hid hr2
  rw [hk]
  clear hr hk h12 hr2 y0 y1 y2 y3 Y0
  go_enter Try.func85, Try.ntmps85
  go_wp2_with fail
  refine (s_see5_f (tIs.reach h1 ?hB) hn1 hw HR.out).mono ?_
  case hB => exact (by repeat (first | (with_reducible exact Below.refl _ _) | (with_reducible assumption) | (with_reducible refine bel_alloc ?_ _) | (with_reducible refine bel_drew ?_) | (with_reducible refine below_drewN ?_ _) | (with_reducible refine bel_put ?_ (by first | exact Nat.le_refl _ | (simp; done) | (simp; omega)) _)))
  rintro e w1 ⟨rfl, hb1⟩
  rw [HK.out]
  have hB1 : Below w.heap.size w w1 := bel_trans (by repeat (first | (with_reducible exact Below.refl _ _) | (with_reducible assumption) | (with_reducible refine bel_alloc ?_ _) | (with_reducible refine bel_drew ?_) | (with_reducible refine below_drewN ?_ _) | (with_reducible refine bel_put ?_ (by first | exact Nat.le_refl _ | (simp; done) | (simp; omega)) _))) hb1
  have z1 : w.heap.size + 3 ≤ w1.heap.size := by have := hb1.size; simpa using this
  have P1 : Box w1 w.heap.size 29 #[.slice A0 n0 c0, .slice A1 n1 c1] := Box.below (((Box.new w _ _).alloc _).alloc _) hb1 (by simp; omega)
  have Y1 : Box w1 (w.heap.size + 1 + 1) 29 #[.slice none 0 0, .slice none 0 0] := Box.below (by simpa using Box.new ((w.alloc (.cells #[.slice A0 n0 c0, .slice A1 n1 c1] 29)).alloc (.cells #[.int .i64 x0, .int .i64 x1, .slice A2 n2 c2] 54)) 29 #[.slice none 0 0, .slice none 0 0]) hb1 (by first | (simp; done) | (simp; omega))
  have P2 := P1.alloc (.cells #[.slice A0 n0 c0, .slice A1 n1 c1] 29)
  have Y2 := Y1.alloc (.cells #[.slice A0 n0 c0, .slice A1 n1 c1] 29)
  have p0 := P2.cell 0; have p1' := P2.cell 1
  have y0 := Y2.cell 0; have y1 := Y2.cell 1; have y2 := Y2.frozen 0; have y3 := Y2.frozen 1
  clear hb1
  go_wp2
  have RR := (Y2.put 0 (.slice A0 n0 c0)).put 1 (.slice A1 n1 c1)
  have e0 := RR.cell 0; have e1 := RR.cell 1
  refine bodyPost_ret (v := .tuple #[.agg #[.slice A0 n0 c0, .slice A1 n1 c1], .int .i64 k]) (by simp [results, Try.results85, go_sem, e0, e1]) rfl ⟨rfl, ?_⟩
  exact bel_put (bel_put (bel_alloc hB1 _) (by show _ ≤ w.heap.size + 1 + 1; omega) _) (by show _ ≤ w.heap.size + 1 + 1; omega) _
/-- What l5admit answers, whatever becomes of the cell. -/
def admP (p : DPool) (h : DHeld) (tag : Int) : DPool := if p.1.length = 12 ∨ ¬ recN p.2 tag = 0 then p else (p.1 ++ [h], p.2 ++ [tag])
def admN (p : DPool) (tag : Int) : Int := if p.1.length = 12 then -2 else recN p.2 tag
theorem s_admit5 {w : World} {cs ch : List Value} {p : DPool} {h : DHeld} {tag : Int} (hp : tPool.R w w.heap.size cs p) (hh : tHeld.R w w.heap.size ch h) (hn0 : p.1.length ≤ 12) (hn1 : p.2.length ≤ 60) (hw : (Lit.int .i64 tag).wf = true) :
    Calls Try.prog 85 #[.agg cs.toArray, .agg ch.toArray, .int .i64 tag] w fun e w' => ∃ cs', e = .returned (.tuple #[.agg cs'.toArray, .int .i64 (admN p tag)]) ∧ tPool.R w' w'.heap.size cs' (admP p h tag) ∧ Below w.heap.size w w' := by
  obtain ⟨A0, n0, c0, A1, n1, c1, rfl, -, -, hl0, hr0, -, -, hl1, hr1⟩ := openPool hp
  obtain ⟨A2, n2, c2, rfl, -, -, -, -, -, -⟩ := openHeld hh
  unfold admP admN
  rw [hl0]
  by_cases hr : n0 = 12 ∨ ¬ recN p.2 tag = 0
  · rw [if_pos hr]
    refine (s_admit5_no hr0 hr1 (by omega) (by omega) hw hr).mono ?_
    rintro e w' ⟨rfl, hB⟩
    exact ⟨_, rfl, tPool.reach hp hB, hB⟩
  · rw [if_neg hr, if_neg (fun x => hr (.inl x))]
    have hr2 : recN p.2 tag = 0 := Classical.byContradiction fun x => hr (.inr x)
    rw [hr2]
    exact s_admit5_ok hr0 hr1 hh (by omega) (by omega) hw hr2
end Go.Proofs.Ytlpnngkonihmiaa
