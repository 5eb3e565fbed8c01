/-
  PAdx, POwG: texts joined.
-/
import Derived.Test.YtblcfncjghkegaaPGg
import Derived.Test.YtblcfncjghkegaaPGj
import Derived.Test.YtblcfncjghkegaaPGl
namespace Go.Proofs.Ytblcfncjghkegaa
set_option maxRecDepth 100000
set_option linter.unusedVariables false
set_option linter.unusedSimpArgs false
open Go.ChangeShapes Go.WideShapes Go.ChangeAt Go.RowKit
open Fld
theorem one_cells_HeldX {g : Nat} {w : World} {B : Nat} : ∀ es a, (XT g tHeld).R w B es a → ∀ u ∈ es, u.oneCell' = true := fun es a h => one_cells_Held es a (xt_R h)
set_option maxHeartbeats 8000000 in
theorem s_admitX_ok {w : World} {g : Nat} {A0 A1 A2 : Option Addr} {n0 c0 n1 c1 n2 c2 : Nat} {p1 : List DHeld} {p2 : List Int} {ph : DHeld} {x0 x1 : Int} {tag : Int} (hr0 : (XT g tHeld).row.R w w.heap.size [.slice A0 n0 c0] p1) (h1 : tIs.R w w.heap.size [.slice A1 n1 c1] p2) (hRh : (XT g tHeld).R w w.heap.size [.int .i64 x0, .int .i64 x1, .slice A2 n2 c2] ph) (hg : g ≤ w.heap.size)
    (hn0 : n0 < 12) (hn1 : n1 ≤ 60) (hw : (Lit.int .i64 tag).wf = true) (hr : recN p2 tag = 0) :
    Calls Try.prog 100 #[.agg #[.slice A0 n0 c0, .slice A1 n1 c1], .agg #[.int .i64 x0, .int .i64 x1, .slice A2 n2 c2], .int .i64 tag] w fun e w' => ∃ v0 v1, e = .returned (.tuple #[.agg #[v0, v1], .int .i64 0]) ∧ RowX g tHeld w' v0 (p1 ++ [ph]) ∧ (XT g tIs).R w' w'.heap.size [v1] (p2 ++ [tag]) ∧ Below w.heap.size w w' := by
  obtain ⟨i1, hj0, hj1, hj2, hj3⟩ := info_parts info_Held
  obtain ⟨e0, _, _⟩ := rowR_len hr0
  have hq : ¬ (12 : Int) ≤ (n0 : Int) := by omega
  have tz : (Value.agg #[Value.int .i64 0, Value.int .i64 0, Value.slice none 0 0]).cells.size = 3 := by first | rfl | (simp [Value.cells]; done)
  have t1 : ([] : List DHeld).length + n0 ≤ maxLen := by simp only [maxLen, List.length_nil]; omega
  have t2 : (([] : List DHeld).length + n0) * 40 ≤ 140737488355328 := by simp only [List.length_nil]; omega
  have t3 : p1.length + 1 ≤ maxLen := by simp only [maxLen]; omega
  have t4 : (p1.length + 1) * 40 ≤ 140737488355328 := by omega
  clear e0
  go_enter Try.func100, Try.ntmps100
  go_wp2_with fail
  refine (s_see5_t (tIs.reach h1 ?hB) hn1 hw hr).mono ?_
  case hB => exact (belx)
  rintro e w1 ⟨A7, n7, c7, F7, rfl, hO7, hN7, hb1⟩
  have hB1 : Below w.heap.size w w1 := bel_trans (belx) hb1
  have z1 : w.heap.size + 3 ≤ w1.heap.size := by have := hb1.size; simpa using this
  have H1 : Box w1 (w.heap.size + 1) 30 #[.int .i64 x0, .int .i64 x1, .slice A2 n2 c2] := Box.below (Box.alloc (by simpa using Box.new (w.alloc (.cells #[.slice A0 n0 c0, .slice A1 n1 c1] 26)) 30 #[.int .i64 x0, .int .i64 x1, .slice A2 n2 c2]) _) hb1 (by first | (simp; done) | (simp; omega))
  have Y1 : Box w1 (w.heap.size + 1 + 1) 26 #[.slice none 0 0, .slice none 0 0] := Box.below (by simpa using Box.new ((w.alloc (.cells #[.slice A0 n0 c0, .slice A1 n1 c1] 26)).alloc (.cells #[.int .i64 x0, .int .i64 x1, .slice A2 n2 c2] 30)) 26 #[.slice none 0 0, .slice none 0 0]) hb1 (by first | (simp; done) | (simp; omega))
  have hM7 : New (w.heap.size + 3) F7 := hN7.lower (by first | (simp; done) | (simp; omega))
  clear hb1 hN7 h1
  have H_ : Box (w1.alloc (.cells #[.slice A0 n0 c0, .slice A7 n7 c7] 26)) (w.heap.size + 1) 30 #[.int .i64 x0, .int .i64 x1, .slice A2 n2 c2] := H1.alloc _
  have T_ : Box (w1.alloc (.cells #[.slice A0 n0 c0, .slice A7 n7 c7] 26)) w1.heap.size 26 #[.slice A0 n0 c0, .slice A7 n7 c7] := (Box.new w1 26 #[.slice A0 n0 c0, .slice A7 n7 c7])
  have t_ := T_.cell 0
  have Y_ : Box (w1.alloc (.cells #[.slice A0 n0 c0, .slice A7 n7 c7] 26)) (w.heap.size + 1 + 1) 26 #[.slice none 0 0, .slice none 0 0] := Y1.alloc _
  have H_E : Box ((w1.alloc (.cells #[.slice A0 n0 c0, .slice A7 n7 c7] 26)).alloc (.cells #[] 30)) (w.heap.size + 1) 30 #[.int .i64 x0, .int .i64 x1, .slice A2 n2 c2] := (H1.alloc _).alloc _
  have T_E : Box ((w1.alloc (.cells #[.slice A0 n0 c0, .slice A7 n7 c7] 26)).alloc (.cells #[] 30)) w1.heap.size 26 #[.slice A0 n0 c0, .slice A7 n7 c7] := (((Box.new w1 26 #[.slice A0 n0 c0, .slice A7 n7 c7])).alloc _)
  have t_E := T_E.cell 0
  have Y_E : Box ((w1.alloc (.cells #[.slice A0 n0 c0, .slice A7 n7 c7] 26)).alloc (.cells #[] 30)) (w.heap.size + 1 + 1) 26 #[.slice none 0 0, .slice none 0 0] := (Y1.alloc _).alloc _
  have H_V : Box ((w1.alloc (.cells #[.slice A0 n0 c0, .slice A7 n7 c7] 26)).alloc (.cells [.int .i64 x0, .int .i64 x1, .slice A2 n2 c2].toArray 30)) (w.heap.size + 1) 30 #[.int .i64 x0, .int .i64 x1, .slice A2 n2 c2] := (H1.alloc _).alloc _
  have T_V : Box ((w1.alloc (.cells #[.slice A0 n0 c0, .slice A7 n7 c7] 26)).alloc (.cells [.int .i64 x0, .int .i64 x1, .slice A2 n2 c2].toArray 30)) w1.heap.size 26 #[.slice A0 n0 c0, .slice A7 n7 c7] := (((Box.new w1 26 #[.slice A0 n0 c0, .slice A7 n7 c7])).alloc _)
  have t_V := T_V.cell 0
  have Y_V : Box ((w1.alloc (.cells #[.slice A0 n0 c0, .slice A7 n7 c7] 26)).alloc (.cells [.int .i64 x0, .int .i64 x1, .slice A2 n2 c2].toArray 30)) (w.heap.size + 1 + 1) 26 #[.slice none 0 0, .slice none 0 0] := (Y1.alloc _).alloc _
  have V_V : Box ((w1.alloc (.cells #[.slice A0 n0 c0, .slice A7 n7 c7] 26)).alloc (.cells [.int .i64 x0, .int .i64 x1, .slice A2 n2 c2].toArray 30)) (w1.heap.size + 1) 30 ([.int .i64 x0, .int .i64 x1, .slice A2 n2 c2].toArray) := (by simpa using Box.new (w1.alloc (.cells #[.slice A0 n0 c0, .slice A7 n7 c7] 26)) 30 ([.int .i64 x0, .int .i64 x1, .slice A2 n2 c2].toArray))
  have H_EV : Box (((w1.alloc (.cells #[.slice A0 n0 c0, .slice A7 n7 c7] 26)).alloc (.cells #[] 30)).alloc (.cells [.int .i64 x0, .int .i64 x1, .slice A2 n2 c2].toArray 30)) (w.heap.size + 1) 30 #[.int .i64 x0, .int .i64 x1, .slice A2 n2 c2] := ((H1.alloc _).alloc _).alloc _
  have T_EV : Box (((w1.alloc (.cells #[.slice A0 n0 c0, .slice A7 n7 c7] 26)).alloc (.cells #[] 30)).alloc (.cells [.int .i64 x0, .int .i64 x1, .slice A2 n2 c2].toArray 30)) w1.heap.size 26 #[.slice A0 n0 c0, .slice A7 n7 c7] := (((((Box.new w1 26 #[.slice A0 n0 c0, .slice A7 n7 c7])).alloc _)).alloc _)
  have t_EV := T_EV.cell 0
  have Y_EV : Box (((w1.alloc (.cells #[.slice A0 n0 c0, .slice A7 n7 c7] 26)).alloc (.cells #[] 30)).alloc (.cells [.int .i64 x0, .int .i64 x1, .slice A2 n2 c2].toArray 30)) (w.heap.size + 1 + 1) 26 #[.slice none 0 0, .slice none 0 0] := ((Y1.alloc _).alloc _).alloc _
  have V_EV : Box (((w1.alloc (.cells #[.slice A0 n0 c0, .slice A7 n7 c7] 26)).alloc (.cells #[] 30)).alloc (.cells [.int .i64 x0, .int .i64 x1, .slice A2 n2 c2].toArray 30)) (w1.heap.size + 2) 30 ([.int .i64 x0, .int .i64 x1, .slice A2 n2 c2].toArray) := (by simpa using Box.new ((w1.alloc (.cells #[.slice A0 n0 c0, .slice A7 n7 c7] 26)).alloc (.cells #[] 30)) 30 ([.int .i64 x0, .int .i64 x1, .slice A2 n2 c2].toArray))
  have H_VE : Box (((w1.alloc (.cells #[.slice A0 n0 c0, .slice A7 n7 c7] 26)).alloc (.cells [.int .i64 x0, .int .i64 x1, .slice A2 n2 c2].toArray 30)).alloc (.cells #[] 30)) (w.heap.size + 1) 30 #[.int .i64 x0, .int .i64 x1, .slice A2 n2 c2] := ((H1.alloc _).alloc _).alloc _
  have T_VE : Box (((w1.alloc (.cells #[.slice A0 n0 c0, .slice A7 n7 c7] 26)).alloc (.cells [.int .i64 x0, .int .i64 x1, .slice A2 n2 c2].toArray 30)).alloc (.cells #[] 30)) w1.heap.size 26 #[.slice A0 n0 c0, .slice A7 n7 c7] := (((((Box.new w1 26 #[.slice A0 n0 c0, .slice A7 n7 c7])).alloc _)).alloc _)
  have t_VE := T_VE.cell 0
  have Y_VE : Box (((w1.alloc (.cells #[.slice A0 n0 c0, .slice A7 n7 c7] 26)).alloc (.cells [.int .i64 x0, .int .i64 x1, .slice A2 n2 c2].toArray 30)).alloc (.cells #[] 30)) (w.heap.size + 1 + 1) 26 #[.slice none 0 0, .slice none 0 0] := ((Y1.alloc _).alloc _).alloc _
  have V_VE : Box (((w1.alloc (.cells #[.slice A0 n0 c0, .slice A7 n7 c7] 26)).alloc (.cells [.int .i64 x0, .int .i64 x1, .slice A2 n2 c2].toArray 30)).alloc (.cells #[] 30)) (w1.heap.size + 1) 30 ([.int .i64 x0, .int .i64 x1, .slice A2 n2 c2].toArray) := (Box.alloc (show Box ((w1.alloc (.cells #[.slice A0 n0 c0, .slice A7 n7 c7] 26)).alloc (.cells [.int .i64 x0, .int .i64 x1, .slice A2 n2 c2].toArray 30)) (w1.heap.size + 1) 30 ([.int .i64 x0, .int .i64 x1, .slice A2 n2 c2].toArray) from (by simpa using Box.new (w1.alloc (.cells #[.slice A0 n0 c0, .slice A7 n7 c7] 26)) 30 ([.int .i64 x0, .int .i64 x1, .slice A2 n2 c2].toArray))) _)
  go_wp2_with fail
  refine wp_region_held_drew (S := (fun w' => w'.cell? ⟨w.heap.size + 1, 0, none⟩ = some (.int .i64 x0) ∧ w'.cell? ⟨w.heap.size + 1, 1, none⟩ = some (.int .i64 x1) ∧ w'.cell? ⟨w.heap.size + 1, 2, none⟩ = some (.slice A2 n2 c2))) (by kernel_rfl) (by exact ⟨H_.cell 0, H_.cell 1, H_.cell 2⟩) (fun hHeld => ?_)
  refine wpAnyH_take (i := 1) (oi := ⟨some 26, _, _, _, _, _⟩) (v := ?v1) rfl (by kernel_rfl) (by kernel_rfl) (by kernel_rfl) (fun _ _ _ h => h) (Or.inl ⟨by rfl, ?hy1⟩) (by assumption) ?_
  case hy1 => (intro w hSw; (try dsimp only at hSw); go_simp; try (with_reducible rfl))
  (try simp only [Act.put, qa_, qb_, qc_])
  refine wpAnyH_take (i := 4) (oi := ⟨some 29, _, _, _, _, _⟩) (v := ?v2) rfl (by kernel_rfl) (by kernel_rfl) (by kernel_rfl) (fun _ _ _ h => h) (Or.inl ⟨by rfl, ?hy2⟩) (by assumption) ?_
  case hy2 => (intro w hSw; (try dsimp only at hSw); go_simp; try (with_reducible rfl))
  (try simp only [Act.put, qa_, qb_, qc_])
  refine wpAnyH_ready (rs := [0, 2, 5]) (by kernel_rfl) (by simp) ?_
  refine AllReadyH.cons rfl (fun K hK => ?_) ?_
  · go_simp
    refine hK.out _ _ (by exact ⟨H_E.cell 0, H_E.cell 1, H_E.cell 2⟩) (fun hHeld => ?_)
    clear hK K
    (try simp only [Act.put, qa_, qb_, qc_])
    refine wpAnyH_ready (rs := [2, 5]) (by kernel_rfl) (by simp) ?_
    refine AllReadyH.cons rfl (fun K hK => ?_) ?_
    · go_simp
      refine hK.out _ _ (by exact ⟨H_E.cell 0, H_E.cell 1, H_E.cell 2⟩) (fun hHeld => ?_)
      clear hK K
      (try simp only [Act.put, qa_, qb_, qc_])
      refine wpAnyH_ready (rs := [3, 5]) (by kernel_rfl) (by simp) ?_
      refine AllReadyH.cons rfl (fun K hK => ?_) ?_
      · have hE : GrowR (XT g tHeld) 30 (((w1.alloc (.cells #[.slice A0 n0 c0, .slice A7 n7 c7] 26)).alloc (.cells #[] 30)).drew) (w1.heap.size + 1) w.heap.size (.slice (some ⟨w1.heap.size + 1, 0, none⟩) 0 0) [] := GrowR.drew (by simpa using (GrowR.empty (t := XT g tHeld) (e := 30) (w := (w1.alloc (.cells #[.slice A0 n0 c0, .slice A7 n7 c7] 26))) (base := w1.heap.size + 1) (B := w.heap.size) (by first | (simp; done) | (simp; omega)))) (by simp; omega)
        have hR3 : (XT g tHeld).row.R (((w1.alloc (.cells #[.slice A0 n0 c0, .slice A7 n7 c7] 26)).alloc (.cells #[] 30)).drew) w.heap.size [.slice A0 n0 c0] p1 := (XT g tHeld).row.keep hr0 (fun b hb => (show Below w.heap.size w (((w1.alloc (.cells #[.slice A0 n0 c0, .slice A7 n7 c7] 26)).alloc (.cells #[] 30)).drew) from bel_trans hB1 (belx)).block b hb)
        refine GrowR.stepRow (by rfl) (.tmp 25) (.tmp 27) _ (by rfl) i1 _ 3 40 Try.underlying23 hj0 hj1 hj2 hj3 tz (by omega) rfl (by rfl) hE (by rfl) hR3 one_cells_HeldX (by omega) (by first | omega | (simp; done) | (simp; omega) | (show _ ≤ (World.alloc _ _).heap.size; simp) | (show _ ≤ (World.alloc _ _).heap.size; simp; omega)) t1 t2 ?_
        intro v3 w3 hG3 hgr3
        have z3 : w1.heap.size + 1 + 1 ≤ w3.heap.size := Nat.le_trans (by first | omega | (simp; done) | (simp; omega) | (show _ ≤ (World.alloc _ _).heap.size; simp) | (show _ ≤ (World.alloc _ _).heap.size; simp; omega)) hgr3.size
        have hB3 : Below w.heap.size w w3 := Below.grown (w := ((w1.alloc (.cells #[.slice A0 n0 c0, .slice A7 n7 c7] 26)).alloc (.cells #[] 30)).drew) (bel_trans hB1 (belx)) hgr3 (by first | omega | (simp; done) | (simp; omega) | (show _ ≤ (World.alloc _ _).heap.size; simp) | (show _ ≤ (World.alloc _ _).heap.size; simp; omega)) (fun b hb => by have e := Option.some.inj (show (some (w1.heap.size + 1)) = some b from hb); omega)
        have hC3 : Below w1.heap.size w1 w3 := Below.grown (w := ((w1.alloc (.cells #[.slice A0 n0 c0, .slice A7 n7 c7] 26)).alloc (.cells #[] 30)).drew) (belx) hgr3 (by first | omega | (simp; done) | (simp; omega) | (show _ ≤ (World.alloc _ _).heap.size; simp) | (show _ ≤ (World.alloc _ _).heap.size; simp; omega)) (fun b hb => by have e := Option.some.inj (show (some (w1.heap.size + 1)) = some b from hb); omega)
        have H3 := Box.grown (w := ((w1.alloc (.cells #[.slice A0 n0 c0, .slice A7 n7 c7] 26)).alloc (.cells #[] 30)).drew) (Box.drew H_E) hgr3 (fun e => by have e := Option.some.inj (show some (w.heap.size + 1) = (some (w1.heap.size + 1)) from e); omega)
        have T3 := Box.grown (w := ((w1.alloc (.cells #[.slice A0 n0 c0, .slice A7 n7 c7] 26)).alloc (.cells #[] 30)).drew) (Box.drew T_E) hgr3 (fun e => by have e := Option.some.inj (show some w1.heap.size = (some (w1.heap.size + 1)) from e); omega)
        have Y3 := Box.grown (w := ((w1.alloc (.cells #[.slice A0 n0 c0, .slice A7 n7 c7] 26)).alloc (.cells #[] 30)).drew) (Box.drew Y_E) hgr3 (fun e => by have e := Option.some.inj (show some (w.heap.size + 1 + 1) = (some (w1.heap.size + 1)) from e); omega)
        have hOwn3 := hG3.own
        have hG3' : GrowR (XT g tHeld) 30 w3 (w1.heap.size + 1) w.heap.size v3 p1 := hG3
        have H3V := H3.alloc (.cells ([.int .i64 x0, .int .i64 x1, .slice A2 n2 c2].toArray) 30)
        refine hK.out _ _ (by exact ⟨H3.cell 0, H3.cell 1, H3.cell 2⟩) (fun hHeld => ?_)
        clear hK K
        (try simp only [Act.put, qa_, qb_, qc_])
        refine wpAnyH_ready (rs := [5]) (by kernel_rfl) (by simp) ?_
        refine AllReadyH.cons rfl (fun K hK => ?_) ?_
        · go_simp
          refine hK.out _ _ (by exact ⟨H3V.cell 0, H3V.cell 1, H3V.cell 2⟩) (fun hHeld => ?_)
          clear hK K
          (try simp only [Act.put, qa_, qb_, qc_])
          refine wpAnyH_ready (rs := [6]) (by kernel_rfl) (by simp) ?_
          refine AllReadyH.cons rfl (fun K hK => ?_) ?_
          · refine GrowR.step (by rfl) (.tmp 28) (.tmp 30) _ (by rfl) i1 _ 3 40 Try.underlying23 hj0 hj1 hj2 hj3 tz (by omega) rfl (by rfl) (hG3'.below (belx) (by omega)) w3.heap.size [.int .i64 x0, .int .i64 x1, .slice A2 n2 c2] ph (by rfl) (Box.new w3 30 ([.int .i64 x0, .int .i64 x1, .slice A2 n2 c2].toArray)) ((XT g tHeld).keep hRh (fun b hb => (show Below w.heap.size w (w3.alloc (.cells ([.int .i64 x0, .int .i64 x1, .slice A2 n2 c2].toArray) 30)) from bel_alloc hB3 _).block b hb)) (one_held _ _ _ _ _) (by omega) (by first | omega | (simp; done) | (simp; omega) | (show _ ≤ (World.alloc _ _).heap.size; simp) | (show _ ≤ (World.alloc _ _).heap.size; simp; omega)) t3 t4 ?_
            intro v4 w4 hG4 hgr4
            obtain ⟨A9, n9, c9, rfl, -⟩ := hG4.shapeN
            have hB4 : Below w.heap.size w w4 := Below.grown (w := (w3.alloc (.cells ([.int .i64 x0, .int .i64 x1, .slice A2 n2 c2].toArray) 30))) (bel_alloc hB3 _) hgr4 (by first | omega | (simp; done) | (simp; omega) | (show _ ≤ (World.alloc _ _).heap.size; simp) | (show _ ≤ (World.alloc _ _).heap.size; simp; omega)) (fun b hb => by have := (hOwn3 b hb).1; omega)
            have hC4 : Below w1.heap.size w1 w4 := Below.grown (w := (w3.alloc (.cells ([.int .i64 x0, .int .i64 x1, .slice A2 n2 c2].toArray) 30))) (bel_alloc hC3 _) hgr4 (by first | omega | (simp; done) | (simp; omega) | (show _ ≤ (World.alloc _ _).heap.size; simp) | (show _ ≤ (World.alloc _ _).heap.size; simp; omega)) (fun b hb => by have := (hOwn3 b hb).1; omega)
            have z4 : w1.heap.size + 1 ≤ w4.heap.size := Nat.le_trans (by first | omega | (simp; done) | (simp; omega) | (show _ ≤ (World.alloc _ _).heap.size; simp) | (show _ ≤ (World.alloc _ _).heap.size; simp; omega)) hgr4.size
            have H4 := Box.grown (w := (w3.alloc (.cells ([.int .i64 x0, .int .i64 x1, .slice A2 n2 c2].toArray) 30))) (H3.alloc _) hgr4 (fun e => by have := (hOwn3 _ e.symm).1; omega)
            have T4 := Box.grown (w := (w3.alloc (.cells ([.int .i64 x0, .int .i64 x1, .slice A2 n2 c2].toArray) 30))) (T3.alloc _) hgr4 (fun e => by have := (hOwn3 _ e.symm).1; omega)
            have Y4 := Box.grown (w := (w3.alloc (.cells ([.int .i64 x0, .int .i64 x1, .slice A2 n2 c2].toArray) 30))) (Y3.alloc _) hgr4 (fun e => by have := (hOwn3 _ e.symm).1; omega)
            have q0 := T4.cell 0
            have q1 := T4.cell 1
            have f0 := T4.frozen 0
            have f1 := T4.frozen 1
            have H9 := H4.far (p := ⟨w1.heap.size, 0, none⟩) (by show w.heap.size + 1 ≠ w1.heap.size; omega) (.slice A9 n9 c9)
            have Y9 := Y4.far (p := ⟨w1.heap.size, 0, none⟩) (by show w.heap.size + 1 + 1 ≠ w1.heap.size; omega) (.slice A9 n9 c9)
            have T9 := T4.put 0 (.slice A9 n9 c9)
            have y0 := Y9.cell 0
            have y1 := Y9.cell 1
            have y2 := Y9.frozen 0
            have y3 := Y9.frozen 1
            have s0 := T9.cell 0
            have s1 := T9.cell 1
            refine hK.out _ _ (by exact ⟨H4.cell 0, H4.cell 1, H4.cell 2⟩) (fun hHeld => ?_)
            clear hK K
            (try simp only [Act.put, qa_, qb_, qc_])
            refine wpAnyH_take (i := 7) (oi := ⟨some 32, _, _, _, _, _⟩) (v := ?v3) rfl (by kernel_rfl) (by kernel_rfl) (by kernel_rfl) (fun _ _ _ h => h) (Or.inl ⟨by rfl, ?hy3⟩) (by assumption) ?_
            case hy3 => (intro w hSw; (try dsimp only at hSw); go_simp; try (with_reducible rfl))
            (try simp only [Act.put, qa_, qb_, qc_])
            refine wpAnyH_ready (rs := [8]) (by kernel_rfl) (by simp) ?_
            refine AllReadyH.cons rfl (fun K hK => ?_) ?_
            · go_simp
              refine hK.out _ _ (by exact ⟨H9.cell 0, H9.cell 1, H9.cell 2⟩) (fun hHeld => ?_)
              clear hK K
              (try simp only [Act.put, qa_, qb_, qc_])
              refine wpAnyH_done (by kernel_rfl) ?_ _
              go_wp2
              have hG9 := ((hG4.put (p := ⟨w1.heap.size, 0, none⟩) (by show w1.heap.size < _; omega) (by show _ ≤ w1.heap.size; omega) (.slice A9 n9 c9)).put (p := ⟨w.heap.size + 1 + 1, 0, none⟩) (by show w.heap.size + 1 + 1 < _; omega) (by show _ ≤ w.heap.size + 1 + 1; omega) (.slice A9 n9 c9)).put (p := ⟨w.heap.size + 1 + 1, 1, none⟩) (by show w.heap.size + 1 + 1 < _; omega) (by show _ ≤ w.heap.size + 1 + 1; omega) (.slice A7 n7 c7)
              have RR := (Y9.put 0 (.slice A9 n9 c9)).put 1 (.slice A7 n7 c7)
              have e0 := RR.cell 0
              have e1 := RR.cell 1
              have O7 := Ty.far3 (t := tIs) (Ty.far3 (t := tIs) (Ty.far3 (t := tIs) (Ty.below (t := tIs) hO7 hC4) (p := ⟨w1.heap.size, 0, none⟩) (fun hx => by have := tIs.lt hO7 _ hx; dsimp only at this; omega) (.slice A9 n9 c9)) (p := ⟨w.heap.size + 1 + 1, 0, none⟩) (fun hx => by have := hM7.2 _ hx; dsimp only at this; omega) (.slice A9 n9 c9)) (p := ⟨w.heap.size + 1 + 1, 1, none⟩) (fun hx => by have := hM7.2 _ hx; dsimp only at this; omega) (.slice A7 n7 c7)
              refine bodyPost_ret (v := .tuple #[.agg #[.slice A9 n9 c9, .slice A7 n7 c7], .int .i64 0]) (by simp [results, Try.results100, go_sem, e0, e1]) rfl ⟨_, _, rfl, ⟨hG9.doneAs (by simp [World.setCell]; omega), fun _ b hb => by have := (hG9.own b hb).1; omega⟩, slX_O O7 (fun f hf => by have := hM7.2 f hf; omega), ?_⟩
              exact bel_put (bel_put (bel_put hB4 (by show _ ≤ w1.heap.size; omega) _) (by show _ ≤ w.heap.size + 1 + 1; omega) _) (by show _ ≤ w.heap.size + 1 + 1; omega) _
            exact AllReadyH.nil
          exact AllReadyH.nil
        exact AllReadyH.nil
      refine AllReadyH.cons rfl (fun K hK => ?_) ?_
      · go_simp
        refine hK.out _ _ (by exact ⟨H_EV.cell 0, H_EV.cell 1, H_EV.cell 2⟩) (fun hHeld => ?_)
        clear hK K
        (try simp only [Act.put, qa_, qb_, qc_])
        refine wpAnyH_ready (rs := [3]) (by kernel_rfl) (by simp) ?_
        refine AllReadyH.cons rfl (fun K hK => ?_) ?_
        · have hE : GrowR (XT g tHeld) 30 ((((w1.alloc (.cells #[.slice A0 n0 c0, .slice A7 n7 c7] 26)).alloc (.cells #[] 30)).alloc (.cells [.int .i64 x0, .int .i64 x1, .slice A2 n2 c2].toArray 30)).drew) (w1.heap.size + 1) w.heap.size (.slice (some ⟨w1.heap.size + 1, 0, none⟩) 0 0) [] := GrowR.drew (GrowR.below (by simpa using (GrowR.empty (t := XT g tHeld) (e := 30) (w := (w1.alloc (.cells #[.slice A0 n0 c0, .slice A7 n7 c7] 26))) (base := w1.heap.size + 1) (B := w.heap.size) (by first | (simp; done) | (simp; omega)))) (belx) (by simp; omega)) (by simp; omega)
          have hR3 : (XT g tHeld).row.R ((((w1.alloc (.cells #[.slice A0 n0 c0, .slice A7 n7 c7] 26)).alloc (.cells #[] 30)).alloc (.cells [.int .i64 x0, .int .i64 x1, .slice A2 n2 c2].toArray 30)).drew) w.heap.size [.slice A0 n0 c0] p1 := (XT g tHeld).row.keep hr0 (fun b hb => (show Below w.heap.size w ((((w1.alloc (.cells #[.slice A0 n0 c0, .slice A7 n7 c7] 26)).alloc (.cells #[] 30)).alloc (.cells [.int .i64 x0, .int .i64 x1, .slice A2 n2 c2].toArray 30)).drew) from bel_trans hB1 (belx)).block b hb)
          refine GrowR.stepRow (by rfl) (.tmp 25) (.tmp 27) _ (by rfl) i1 _ 3 40 Try.underlying23 hj0 hj1 hj2 hj3 tz (by omega) rfl (by rfl) hE (by rfl) hR3 one_cells_HeldX (by omega) (by first | omega | (simp; done) | (simp; omega) | (show _ ≤ (World.alloc _ _).heap.size; simp) | (show _ ≤ (World.alloc _ _).heap.size; simp; omega)) t1 t2 ?_
          intro v3 w3 hG3 hgr3
          have z3 : w1.heap.size + 1 + 2 ≤ w3.heap.size := Nat.le_trans (by first | omega | (simp; done) | (simp; omega) | (show _ ≤ (World.alloc _ _).heap.size; simp) | (show _ ≤ (World.alloc _ _).heap.size; simp; omega)) hgr3.size
          have hB3 : Below w.heap.size w w3 := Below.grown (w := (((w1.alloc (.cells #[.slice A0 n0 c0, .slice A7 n7 c7] 26)).alloc (.cells #[] 30)).alloc (.cells [.int .i64 x0, .int .i64 x1, .slice A2 n2 c2].toArray 30)).drew) (bel_trans hB1 (belx)) hgr3 (by first | omega | (simp; done) | (simp; omega) | (show _ ≤ (World.alloc _ _).heap.size; simp) | (show _ ≤ (World.alloc _ _).heap.size; simp; omega)) (fun b hb => by have e := Option.some.inj (show (some (w1.heap.size + 1)) = some b from hb); omega)
          have hC3 : Below w1.heap.size w1 w3 := Below.grown (w := (((w1.alloc (.cells #[.slice A0 n0 c0, .slice A7 n7 c7] 26)).alloc (.cells #[] 30)).alloc (.cells [.int .i64 x0, .int .i64 x1, .slice A2 n2 c2].toArray 30)).drew) (belx) hgr3 (by first | omega | (simp; done) | (simp; omega) | (show _ ≤ (World.alloc _ _).heap.size; simp) | (show _ ≤ (World.alloc _ _).heap.size; simp; omega)) (fun b hb => by have e := Option.some.inj (show (some (w1.heap.size + 1)) = some b from hb); omega)
          have H3 := Box.grown (w := (((w1.alloc (.cells #[.slice A0 n0 c0, .slice A7 n7 c7] 26)).alloc (.cells #[] 30)).alloc (.cells [.int .i64 x0, .int .i64 x1, .slice A2 n2 c2].toArray 30)).drew) (Box.drew H_EV) hgr3 (fun e => by have e := Option.some.inj (show some (w.heap.size + 1) = (some (w1.heap.size + 1)) from e); omega)
          have T3 := Box.grown (w := (((w1.alloc (.cells #[.slice A0 n0 c0, .slice A7 n7 c7] 26)).alloc (.cells #[] 30)).alloc (.cells [.int .i64 x0, .int .i64 x1, .slice A2 n2 c2].toArray 30)).drew) (Box.drew T_EV) hgr3 (fun e => by have e := Option.some.inj (show some w1.heap.size = (some (w1.heap.size + 1)) from e); omega)
          have Y3 := Box.grown (w := (((w1.alloc (.cells #[.slice A0 n0 c0, .slice A7 n7 c7] 26)).alloc (.cells #[] 30)).alloc (.cells [.int .i64 x0, .int .i64 x1, .slice A2 n2 c2].toArray 30)).drew) (Box.drew Y_EV) hgr3 (fun e => by have e := Option.some.inj (show some (w.heap.size + 1 + 1) = (some (w1.heap.size + 1)) from e); omega)
          have V3 := Box.grown (w := (((w1.alloc (.cells #[.slice A0 n0 c0, .slice A7 n7 c7] 26)).alloc (.cells #[] 30)).alloc (.cells [.int .i64 x0, .int .i64 x1, .slice A2 n2 c2].toArray 30)).drew) (Box.drew V_EV) hgr3 (fun e => by have e := Option.some.inj (show some (w1.heap.size + 2) = (some (w1.heap.size + 1)) from e); omega)
          have hOwn3 := hG3.own
          have hG3' : GrowR (XT g tHeld) 30 w3 (w1.heap.size + 1) w.heap.size v3 p1 := hG3
          have H3V := H3.alloc (.cells ([.int .i64 x0, .int .i64 x1, .slice A2 n2 c2].toArray) 30)
          refine hK.out _ _ (by exact ⟨H3.cell 0, H3.cell 1, H3.cell 2⟩) (fun hHeld => ?_)
          clear hK K
          (try simp only [Act.put, qa_, qb_, qc_])
          refine wpAnyH_ready (rs := [6]) (by kernel_rfl) (by simp) ?_
          refine AllReadyH.cons rfl (fun K hK => ?_) ?_
          · refine GrowR.step (by rfl) (.tmp 28) (.tmp 30) _ (by rfl) i1 _ 3 40 Try.underlying23 hj0 hj1 hj2 hj3 tz (by omega) rfl (by rfl) hG3' (w1.heap.size + 2) [.int .i64 x0, .int .i64 x1, .slice A2 n2 c2] ph (by rfl) V3 ((XT g tHeld).keep hRh (fun b hb => (show Below w.heap.size w w3 from hB3).block b hb)) (one_held _ _ _ _ _) (by omega) (by first | omega | (simp; done) | (simp; omega) | (show _ ≤ (World.alloc _ _).heap.size; simp) | (show _ ≤ (World.alloc _ _).heap.size; simp; omega)) t3 t4 ?_
            intro v4 w4 hG4 hgr4
            obtain ⟨A9, n9, c9, rfl, -⟩ := hG4.shapeN
            have hB4 : Below w.heap.size w w4 := Below.grown (w := w3) hB3 hgr4 (by first | omega | (simp; done) | (simp; omega) | (show _ ≤ (World.alloc _ _).heap.size; simp) | (show _ ≤ (World.alloc _ _).heap.size; simp; omega)) (fun b hb => by have := (hOwn3 b hb).1; omega)
            have hC4 : Below w1.heap.size w1 w4 := Below.grown (w := w3) hC3 hgr4 (by first | omega | (simp; done) | (simp; omega) | (show _ ≤ (World.alloc _ _).heap.size; simp) | (show _ ≤ (World.alloc _ _).heap.size; simp; omega)) (fun b hb => by have := (hOwn3 b hb).1; omega)
            have z4 : w1.heap.size + 1 ≤ w4.heap.size := Nat.le_trans (by first | omega | (simp; done) | (simp; omega) | (show _ ≤ (World.alloc _ _).heap.size; simp) | (show _ ≤ (World.alloc _ _).heap.size; simp; omega)) hgr4.size
            have H4 := Box.grown (w := w3) H3 hgr4 (fun e => by have := (hOwn3 _ e.symm).1; omega)
            have T4 := Box.grown (w := w3) T3 hgr4 (fun e => by have := (hOwn3 _ e.symm).1; omega)
            have Y4 := Box.grown (w := w3) Y3 hgr4 (fun e => by have := (hOwn3 _ e.symm).1; omega)
            have q0 := T4.cell 0
            have q1 := T4.cell 1
            have f0 := T4.frozen 0
            have f1 := T4.frozen 1
            have H9 := H4.far (p := ⟨w1.heap.size, 0, none⟩) (by show w.heap.size + 1 ≠ w1.heap.size; omega) (.slice A9 n9 c9)
            have Y9 := Y4.far (p := ⟨w1.heap.size, 0, none⟩) (by show w.heap.size + 1 + 1 ≠ w1.heap.size; omega) (.slice A9 n9 c9)
            have T9 := T4.put 0 (.slice A9 n9 c9)
            have y0 := Y9.cell 0
            have y1 := Y9.cell 1
            have y2 := Y9.frozen 0
            have y3 := Y9.frozen 1
            have s0 := T9.cell 0
            have s1 := T9.cell 1
            refine hK.out _ _ (by exact ⟨H4.cell 0, H4.cell 1, H4.cell 2⟩) (fun hHeld => ?_)
            clear hK K
            (try simp only [Act.put, qa_, qb_, qc_])
            refine wpAnyH_take (i := 7) (oi := ⟨some 32, _, _, _, _, _⟩) (v := ?v4) rfl (by kernel_rfl) (by kernel_rfl) (by kernel_rfl) (fun _ _ _ h => h) (Or.inl ⟨by rfl, ?hy4⟩) (by assumption) ?_
            case hy4 => (intro w hSw; (try dsimp only at hSw); go_simp; try (with_reducible rfl))
            (try simp only [Act.put, qa_, qb_, qc_])
            refine wpAnyH_ready (rs := [8]) (by kernel_rfl) (by simp) ?_
            refine AllReadyH.cons rfl (fun K hK => ?_) ?_
            · go_simp
              refine hK.out _ _ (by exact ⟨H9.cell 0, H9.cell 1, H9.cell 2⟩) (fun hHeld => ?_)
              clear hK K
              (try simp only [Act.put, qa_, qb_, qc_])
              refine wpAnyH_done (by kernel_rfl) ?_ _
              go_wp2
              have hG9 := ((hG4.put (p := ⟨w1.heap.size, 0, none⟩) (by show w1.heap.size < _; omega) (by show _ ≤ w1.heap.size; omega) (.slice A9 n9 c9)).put (p := ⟨w.heap.size + 1 + 1, 0, none⟩) (by show w.heap.size + 1 + 1 < _; omega) (by show _ ≤ w.heap.size + 1 + 1; omega) (.slice A9 n9 c9)).put (p := ⟨w.heap.size + 1 + 1, 1, none⟩) (by show w.heap.size + 1 + 1 < _; omega) (by show _ ≤ w.heap.size + 1 + 1; omega) (.slice A7 n7 c7)
              have RR := (Y9.put 0 (.slice A9 n9 c9)).put 1 (.slice A7 n7 c7)
              have e0 := RR.cell 0
              have e1 := RR.cell 1
              have O7 := Ty.far3 (t := tIs) (Ty.far3 (t := tIs) (Ty.far3 (t := tIs) (Ty.below (t := tIs) hO7 hC4) (p := ⟨w1.heap.size, 0, none⟩) (fun hx => by have := tIs.lt hO7 _ hx; dsimp only at this; omega) (.slice A9 n9 c9)) (p := ⟨w.heap.size + 1 + 1, 0, none⟩) (fun hx => by have := hM7.2 _ hx; dsimp only at this; omega) (.slice A9 n9 c9)) (p := ⟨w.heap.size + 1 + 1, 1, none⟩) (fun hx => by have := hM7.2 _ hx; dsimp only at this; omega) (.slice A7 n7 c7)
              refine bodyPost_ret (v := .tuple #[.agg #[.slice A9 n9 c9, .slice A7 n7 c7], .int .i64 0]) (by simp [results, Try.results100, go_sem, e0, e1]) rfl ⟨_, _, rfl, ⟨hG9.doneAs (by simp [World.setCell]; omega), fun _ b hb => by have := (hG9.own b hb).1; omega⟩, slX_O O7 (fun f hf => by have := hM7.2 f hf; omega), ?_⟩
              exact bel_put (bel_put (bel_put hB4 (by show _ ≤ w1.heap.size; omega) _) (by show _ ≤ w.heap.size + 1 + 1; omega) _) (by show _ ≤ w.heap.size + 1 + 1; omega) _
            exact AllReadyH.nil
          exact AllReadyH.nil
        exact AllReadyH.nil
      exact AllReadyH.nil
    refine AllReadyH.cons rfl (fun K hK => ?_) ?_
    · go_simp
      refine hK.out _ _ (by exact ⟨H_EV.cell 0, H_EV.cell 1, H_EV.cell 2⟩) (fun hHeld => ?_)
      clear hK K
      (try simp only [Act.put, qa_, qb_, qc_])
      refine wpAnyH_ready (rs := [2]) (by kernel_rfl) (by simp) ?_
      refine AllReadyH.cons rfl (fun K hK => ?_) ?_
      · go_simp
        refine hK.out _ _ (by exact ⟨H_EV.cell 0, H_EV.cell 1, H_EV.cell 2⟩) (fun hHeld => ?_)
        clear hK K
        (try simp only [Act.put, qa_, qb_, qc_])
        refine wpAnyH_ready (rs := [3]) (by kernel_rfl) (by simp) ?_
        refine AllReadyH.cons rfl (fun K hK => ?_) ?_
        · have hE : GrowR (XT g tHeld) 30 ((((w1.alloc (.cells #[.slice A0 n0 c0, .slice A7 n7 c7] 26)).alloc (.cells #[] 30)).alloc (.cells [.int .i64 x0, .int .i64 x1, .slice A2 n2 c2].toArray 30)).drew) (w1.heap.size + 1) w.heap.size (.slice (some ⟨w1.heap.size + 1, 0, none⟩) 0 0) [] := GrowR.drew (GrowR.below (by simpa using (GrowR.empty (t := XT g tHeld) (e := 30) (w := (w1.alloc (.cells #[.slice A0 n0 c0, .slice A7 n7 c7] 26))) (base := w1.heap.size + 1) (B := w.heap.size) (by first | (simp; done) | (simp; omega)))) (belx) (by simp; omega)) (by simp; omega)
          have hR3 : (XT g tHeld).row.R ((((w1.alloc (.cells #[.slice A0 n0 c0, .slice A7 n7 c7] 26)).alloc (.cells #[] 30)).alloc (.cells [.int .i64 x0, .int .i64 x1, .slice A2 n2 c2].toArray 30)).drew) w.heap.size [.slice A0 n0 c0] p1 := (XT g tHeld).row.keep hr0 (fun b hb => (show Below w.heap.size w ((((w1.alloc (.cells #[.slice A0 n0 c0, .slice A7 n7 c7] 26)).alloc (.cells #[] 30)).alloc (.cells [.int .i64 x0, .int .i64 x1, .slice A2 n2 c2].toArray 30)).drew) from bel_trans hB1 (belx)).block b hb)
          refine GrowR.stepRow (by rfl) (.tmp 25) (.tmp 27) _ (by rfl) i1 _ 3 40 Try.underlying23 hj0 hj1 hj2 hj3 tz (by omega) rfl (by rfl) hE (by rfl) hR3 one_cells_HeldX (by omega) (by first | omega | (simp; done) | (simp; omega) | (show _ ≤ (World.alloc _ _).heap.size; simp) | (show _ ≤ (World.alloc _ _).heap.size; simp; omega)) t1 t2 ?_
          intro v3 w3 hG3 hgr3
          have z3 : w1.heap.size + 1 + 2 ≤ w3.heap.size := Nat.le_trans (by first | omega | (simp; done) | (simp; omega) | (show _ ≤ (World.alloc _ _).heap.size; simp) | (show _ ≤ (World.alloc _ _).heap.size; simp; omega)) hgr3.size
          have hB3 : Below w.heap.size w w3 := Below.grown (w := (((w1.alloc (.cells #[.slice A0 n0 c0, .slice A7 n7 c7] 26)).alloc (.cells #[] 30)).alloc (.cells [.int .i64 x0, .int .i64 x1, .slice A2 n2 c2].toArray 30)).drew) (bel_trans hB1 (belx)) hgr3 (by first | omega | (simp; done) | (simp; omega) | (show _ ≤ (World.alloc _ _).heap.size; simp) | (show _ ≤ (World.alloc _ _).heap.size; simp; omega)) (fun b hb => by have e := Option.some.inj (show (some (w1.heap.size + 1)) = some b from hb); omega)
          have hC3 : Below w1.heap.size w1 w3 := Below.grown (w := (((w1.alloc (.cells #[.slice A0 n0 c0, .slice A7 n7 c7] 26)).alloc (.cells #[] 30)).alloc (.cells [.int .i64 x0, .int .i64 x1, .slice A2 n2 c2].toArray 30)).drew) (belx) hgr3 (by first | omega | (simp; done) | (simp; omega) | (show _ ≤ (World.alloc _ _).heap.size; simp) | (show _ ≤ (World.alloc _ _).heap.size; simp; omega)) (fun b hb => by have e := Option.some.inj (show (some (w1.heap.size + 1)) = some b from hb); omega)
          have H3 := Box.grown (w := (((w1.alloc (.cells #[.slice A0 n0 c0, .slice A7 n7 c7] 26)).alloc (.cells #[] 30)).alloc (.cells [.int .i64 x0, .int .i64 x1, .slice A2 n2 c2].toArray 30)).drew) (Box.drew H_EV) hgr3 (fun e => by have e := Option.some.inj (show some (w.heap.size + 1) = (some (w1.heap.size + 1)) from e); omega)
          have T3 := Box.grown (w := (((w1.alloc (.cells #[.slice A0 n0 c0, .slice A7 n7 c7] 26)).alloc (.cells #[] 30)).alloc (.cells [.int .i64 x0, .int .i64 x1, .slice A2 n2 c2].toArray 30)).drew) (Box.drew T_EV) hgr3 (fun e => by have e := Option.some.inj (show some w1.heap.size = (some (w1.heap.size + 1)) from e); omega)
          have Y3 := Box.grown (w := (((w1.alloc (.cells #[.slice A0 n0 c0, .slice A7 n7 c7] 26)).alloc (.cells #[] 30)).alloc (.cells [.int .i64 x0, .int .i64 x1, .slice A2 n2 c2].toArray 30)).drew) (Box.drew Y_EV) hgr3 (fun e => by have e := Option.some.inj (show some (w.heap.size + 1 + 1) = (some (w1.heap.size + 1)) from e); omega)
          have V3 := Box.grown (w := (((w1.alloc (.cells #[.slice A0 n0 c0, .slice A7 n7 c7] 26)).alloc (.cells #[] 30)).alloc (.cells [.int .i64 x0, .int .i64 x1, .slice A2 n2 c2].toArray 30)).drew) (Box.drew V_EV) hgr3 (fun e => by have e := Option.some.inj (show some (w1.heap.size + 2) = (some (w1.heap.size + 1)) from e); omega)
          have hOwn3 := hG3.own
          have hG3' : GrowR (XT g tHeld) 30 w3 (w1.heap.size + 1) w.heap.size v3 p1 := hG3
          have H3V := H3.alloc (.cells ([.int .i64 x0, .int .i64 x1, .slice A2 n2 c2].toArray) 30)
          refine hK.out _ _ (by exact ⟨H3.cell 0, H3.cell 1, H3.cell 2⟩) (fun hHeld => ?_)
          clear hK K
          (try simp only [Act.put, qa_, qb_, qc_])
          refine wpAnyH_ready (rs := [6]) (by kernel_rfl) (by simp) ?_
          refine AllReadyH.cons rfl (fun K hK => ?_) ?_
          · refine GrowR.step (by rfl) (.tmp 28) (.tmp 30) _ (by rfl) i1 _ 3 40 Try.underlying23 hj0 hj1 hj2 hj3 tz (by omega) rfl (by rfl) hG3' (w1.heap.size + 2) [.int .i64 x0, .int .i64 x1, .slice A2 n2 c2] ph (by rfl) V3 ((XT g tHeld).keep hRh (fun b hb => (show Below w.heap.size w w3 from hB3).block b hb)) (one_held _ _ _ _ _) (by omega) (by first | omega | (simp; done) | (simp; omega) | (show _ ≤ (World.alloc _ _).heap.size; simp) | (show _ ≤ (World.alloc _ _).heap.size; simp; omega)) t3 t4 ?_
            intro v4 w4 hG4 hgr4
            obtain ⟨A9, n9, c9, rfl, -⟩ := hG4.shapeN
            have hB4 : Below w.heap.size w w4 := Below.grown (w := w3) hB3 hgr4 (by first | omega | (simp; done) | (simp; omega) | (show _ ≤ (World.alloc _ _).heap.size; simp) | (show _ ≤ (World.alloc _ _).heap.size; simp; omega)) (fun b hb => by have := (hOwn3 b hb).1; omega)
            have hC4 : Below w1.heap.size w1 w4 := Below.grown (w := w3) hC3 hgr4 (by first | omega | (simp; done) | (simp; omega) | (show _ ≤ (World.alloc _ _).heap.size; simp) | (show _ ≤ (World.alloc _ _).heap.size; simp; omega)) (fun b hb => by have := (hOwn3 b hb).1; omega)
            have z4 : w1.heap.size + 1 ≤ w4.heap.size := Nat.le_trans (by first | omega | (simp; done) | (simp; omega) | (show _ ≤ (World.alloc _ _).heap.size; simp) | (show _ ≤ (World.alloc _ _).heap.size; simp; omega)) hgr4.size
            have H4 := Box.grown (w := w3) H3 hgr4 (fun e => by have := (hOwn3 _ e.symm).1; omega)
            have T4 := Box.grown (w := w3) T3 hgr4 (fun e => by have := (hOwn3 _ e.symm).1; omega)
            have Y4 := Box.grown (w := w3) Y3 hgr4 (fun e => by have := (hOwn3 _ e.symm).1; omega)
            have q0 := T4.cell 0
            have q1 := T4.cell 1
            have f0 := T4.frozen 0
            have f1 := T4.frozen 1
            have H9 := H4.far (p := ⟨w1.heap.size, 0, none⟩) (by show w.heap.size + 1 ≠ w1.heap.size; omega) (.slice A9 n9 c9)
            have Y9 := Y4.far (p := ⟨w1.heap.size, 0, none⟩) (by show w.heap.size + 1 + 1 ≠ w1.heap.size; omega) (.slice A9 n9 c9)
            have T9 := T4.put 0 (.slice A9 n9 c9)
            have y0 := Y9.cell 0
            have y1 := Y9.cell 1
            have y2 := Y9.frozen 0
            have y3 := Y9.frozen 1
            have s0 := T9.cell 0
            have s1 := T9.cell 1
            refine hK.out _ _ (by exact ⟨H4.cell 0, H4.cell 1, H4.cell 2⟩) (fun hHeld => ?_)
            clear hK K
            (try simp only [Act.put, qa_, qb_, qc_])
            refine wpAnyH_take (i := 7) (oi := ⟨some 32, _, _, _, _, _⟩) (v := ?v5) rfl (by kernel_rfl) (by kernel_rfl) (by kernel_rfl) (fun _ _ _ h => h) (Or.inl ⟨by rfl, ?hy5⟩) (by assumption) ?_
            case hy5 => (intro w hSw; (try dsimp only at hSw); go_simp; try (with_reducible rfl))
            (try simp only [Act.put, qa_, qb_, qc_])
            refine wpAnyH_ready (rs := [8]) (by kernel_rfl) (by simp) ?_
            refine AllReadyH.cons rfl (fun K hK => ?_) ?_
            · go_simp
              refine hK.out _ _ (by exact ⟨H9.cell 0, H9.cell 1, H9.cell 2⟩) (fun hHeld => ?_)
              clear hK K
              (try simp only [Act.put, qa_, qb_, qc_])
              refine wpAnyH_done (by kernel_rfl) ?_ _
              go_wp2
              have hG9 := ((hG4.put (p := ⟨w1.heap.size, 0, none⟩) (by show w1.heap.size < _; omega) (by show _ ≤ w1.heap.size; omega) (.slice A9 n9 c9)).put (p := ⟨w.heap.size + 1 + 1, 0, none⟩) (by show w.heap.size + 1 + 1 < _; omega) (by show _ ≤ w.heap.size + 1 + 1; omega) (.slice A9 n9 c9)).put (p := ⟨w.heap.size + 1 + 1, 1, none⟩) (by show w.heap.size + 1 + 1 < _; omega) (by show _ ≤ w.heap.size + 1 + 1; omega) (.slice A7 n7 c7)
              have RR := (Y9.put 0 (.slice A9 n9 c9)).put 1 (.slice A7 n7 c7)
              have e0 := RR.cell 0
              have e1 := RR.cell 1
              have O7 := Ty.far3 (t := tIs) (Ty.far3 (t := tIs) (Ty.far3 (t := tIs) (Ty.below (t := tIs) hO7 hC4) (p := ⟨w1.heap.size, 0, none⟩) (fun hx => by have := tIs.lt hO7 _ hx; dsimp only at this; omega) (.slice A9 n9 c9)) (p := ⟨w.heap.size + 1 + 1, 0, none⟩) (fun hx => by have := hM7.2 _ hx; dsimp only at this; omega) (.slice A9 n9 c9)) (p := ⟨w.heap.size + 1 + 1, 1, none⟩) (fun hx => by have := hM7.2 _ hx; dsimp only at this; omega) (.slice A7 n7 c7)
              refine bodyPost_ret (v := .tuple #[.agg #[.slice A9 n9 c9, .slice A7 n7 c7], .int .i64 0]) (by simp [results, Try.results100, go_sem, e0, e1]) rfl ⟨_, _, rfl, ⟨hG9.doneAs (by simp [World.setCell]; omega), fun _ b hb => by have := (hG9.own b hb).1; omega⟩, slX_O O7 (fun f hf => by have := hM7.2 f hf; omega), ?_⟩
              exact bel_put (bel_put (bel_put hB4 (by show _ ≤ w1.heap.size; omega) _) (by show _ ≤ w.heap.size + 1 + 1; omega) _) (by show _ ≤ w.heap.size + 1 + 1; omega) _
            exact AllReadyH.nil
          exact AllReadyH.nil
        exact AllReadyH.nil
      exact AllReadyH.nil
    exact AllReadyH.nil
  refine AllReadyH.cons rfl (fun K hK => ?_) ?_
  · go_simp
    refine hK.out _ _ (by exact ⟨H_.cell 0, H_.cell 1, H_.cell 2⟩) (fun hHeld => ?_)
    clear hK K
    (try simp only [Act.put, qa_, qb_, qc_])
    refine wpAnyH_ready (rs := [0, 5]) (by kernel_rfl) (by simp) ?_
    refine AllReadyH.cons rfl (fun K hK => ?_) ?_
    · go_simp
      refine hK.out _ _ (by exact ⟨H_E.cell 0, H_E.cell 1, H_E.cell 2⟩) (fun hHeld => ?_)
      clear hK K
      (try simp only [Act.put, qa_, qb_, qc_])
      refine wpAnyH_ready (rs := [3, 5]) (by kernel_rfl) (by simp) ?_
      refine AllReadyH.cons rfl (fun K hK => ?_) ?_
      · have hE : GrowR (XT g tHeld) 30 (((w1.alloc (.cells #[.slice A0 n0 c0, .slice A7 n7 c7] 26)).alloc (.cells #[] 30)).drew) (w1.heap.size + 1) w.heap.size (.slice (some ⟨w1.heap.size + 1, 0, none⟩) 0 0) [] := GrowR.drew (by simpa using (GrowR.empty (t := XT g tHeld) (e := 30) (w := (w1.alloc (.cells #[.slice A0 n0 c0, .slice A7 n7 c7] 26))) (base := w1.heap.size + 1) (B := w.heap.size) (by first | (simp; done) | (simp; omega)))) (by simp; omega)
        have hR3 : (XT g tHeld).row.R (((w1.alloc (.cells #[.slice A0 n0 c0, .slice A7 n7 c7] 26)).alloc (.cells #[] 30)).drew) w.heap.size [.slice A0 n0 c0] p1 := (XT g tHeld).row.keep hr0 (fun b hb => (show Below w.heap.size w (((w1.alloc (.cells #[.slice A0 n0 c0, .slice A7 n7 c7] 26)).alloc (.cells #[] 30)).drew) from bel_trans hB1 (belx)).block b hb)
        refine GrowR.stepRow (by rfl) (.tmp 25) (.tmp 27) _ (by rfl) i1 _ 3 40 Try.underlying23 hj0 hj1 hj2 hj3 tz (by omega) rfl (by rfl) hE (by rfl) hR3 one_cells_HeldX (by omega) (by first | omega | (simp; done) | (simp; omega) | (show _ ≤ (World.alloc _ _).heap.size; simp) | (show _ ≤ (World.alloc _ _).heap.size; simp; omega)) t1 t2 ?_
        intro v3 w3 hG3 hgr3
        have z3 : w1.heap.size + 1 + 1 ≤ w3.heap.size := Nat.le_trans (by first | omega | (simp; done) | (simp; omega) | (show _ ≤ (World.alloc _ _).heap.size; simp) | (show _ ≤ (World.alloc _ _).heap.size; simp; omega)) hgr3.size
        have hB3 : Below w.heap.size w w3 := Below.grown (w := ((w1.alloc (.cells #[.slice A0 n0 c0, .slice A7 n7 c7] 26)).alloc (.cells #[] 30)).drew) (bel_trans hB1 (belx)) hgr3 (by first | omega | (simp; done) | (simp; omega) | (show _ ≤ (World.alloc _ _).heap.size; simp) | (show _ ≤ (World.alloc _ _).heap.size; simp; omega)) (fun b hb => by have e := Option.some.inj (show (some (w1.heap.size + 1)) = some b from hb); omega)
        have hC3 : Below w1.heap.size w1 w3 := Below.grown (w := ((w1.alloc (.cells #[.slice A0 n0 c0, .slice A7 n7 c7] 26)).alloc (.cells #[] 30)).drew) (belx) hgr3 (by first | omega | (simp; done) | (simp; omega) | (show _ ≤ (World.alloc _ _).heap.size; simp) | (show _ ≤ (World.alloc _ _).heap.size; simp; omega)) (fun b hb => by have e := Option.some.inj (show (some (w1.heap.size + 1)) = some b from hb); omega)
        have H3 := Box.grown (w := ((w1.alloc (.cells #[.slice A0 n0 c0, .slice A7 n7 c7] 26)).alloc (.cells #[] 30)).drew) (Box.drew H_E) hgr3 (fun e => by have e := Option.some.inj (show some (w.heap.size + 1) = (some (w1.heap.size + 1)) from e); omega)
        have T3 := Box.grown (w := ((w1.alloc (.cells #[.slice A0 n0 c0, .slice A7 n7 c7] 26)).alloc (.cells #[] 30)).drew) (Box.drew T_E) hgr3 (fun e => by have e := Option.some.inj (show some w1.heap.size = (some (w1.heap.size + 1)) from e); omega)
        have Y3 := Box.grown (w := ((w1.alloc (.cells #[.slice A0 n0 c0, .slice A7 n7 c7] 26)).alloc (.cells #[] 30)).drew) (Box.drew Y_E) hgr3 (fun e => by have e := Option.some.inj (show some (w.heap.size + 1 + 1) = (some (w1.heap.size + 1)) from e); omega)
        have hOwn3 := hG3.own
        have hG3' : GrowR (XT g tHeld) 30 w3 (w1.heap.size + 1) w.heap.size v3 p1 := hG3
        have H3V := H3.alloc (.cells ([.int .i64 x0, .int .i64 x1, .slice A2 n2 c2].toArray) 30)
        refine hK.out _ _ (by exact ⟨H3.cell 0, H3.cell 1, H3.cell 2⟩) (fun hHeld => ?_)
        clear hK K
        (try simp only [Act.put, qa_, qb_, qc_])
        refine wpAnyH_ready (rs := [5]) (by kernel_rfl) (by simp) ?_
        refine AllReadyH.cons rfl (fun K hK => ?_) ?_
        · go_simp
          refine hK.out _ _ (by exact ⟨H3V.cell 0, H3V.cell 1, H3V.cell 2⟩) (fun hHeld => ?_)
          clear hK K
          (try simp only [Act.put, qa_, qb_, qc_])
          refine wpAnyH_ready (rs := [6]) (by kernel_rfl) (by simp) ?_
          refine AllReadyH.cons rfl (fun K hK => ?_) ?_
          · refine GrowR.step (by rfl) (.tmp 28) (.tmp 30) _ (by rfl) i1 _ 3 40 Try.underlying23 hj0 hj1 hj2 hj3 tz (by omega) rfl (by rfl) (hG3'.below (belx) (by omega)) w3.heap.size [.int .i64 x0, .int .i64 x1, .slice A2 n2 c2] ph (by rfl) (Box.new w3 30 ([.int .i64 x0, .int .i64 x1, .slice A2 n2 c2].toArray)) ((XT g tHeld).keep hRh (fun b hb => (show Below w.heap.size w (w3.alloc (.cells ([.int .i64 x0, .int .i64 x1, .slice A2 n2 c2].toArray) 30)) from bel_alloc hB3 _).block b hb)) (one_held _ _ _ _ _) (by omega) (by first | omega | (simp; done) | (simp; omega) | (show _ ≤ (World.alloc _ _).heap.size; simp) | (show _ ≤ (World.alloc _ _).heap.size; simp; omega)) t3 t4 ?_
            intro v4 w4 hG4 hgr4
            obtain ⟨A9, n9, c9, rfl, -⟩ := hG4.shapeN
            have hB4 : Below w.heap.size w w4 := Below.grown (w := (w3.alloc (.cells ([.int .i64 x0, .int .i64 x1, .slice A2 n2 c2].toArray) 30))) (bel_alloc hB3 _) hgr4 (by first | omega | (simp; done) | (simp; omega) | (show _ ≤ (World.alloc _ _).heap.size; simp) | (show _ ≤ (World.alloc _ _).heap.size; simp; omega)) (fun b hb => by have := (hOwn3 b hb).1; omega)
            have hC4 : Below w1.heap.size w1 w4 := Below.grown (w := (w3.alloc (.cells ([.int .i64 x0, .int .i64 x1, .slice A2 n2 c2].toArray) 30))) (bel_alloc hC3 _) hgr4 (by first | omega | (simp; done) | (simp; omega) | (show _ ≤ (World.alloc _ _).heap.size; simp) | (show _ ≤ (World.alloc _ _).heap.size; simp; omega)) (fun b hb => by have := (hOwn3 b hb).1; omega)
            have z4 : w1.heap.size + 1 ≤ w4.heap.size := Nat.le_trans (by first | omega | (simp; done) | (simp; omega) | (show _ ≤ (World.alloc _ _).heap.size; simp) | (show _ ≤ (World.alloc _ _).heap.size; simp; omega)) hgr4.size
            have H4 := Box.grown (w := (w3.alloc (.cells ([.int .i64 x0, .int .i64 x1, .slice A2 n2 c2].toArray) 30))) (H3.alloc _) hgr4 (fun e => by have := (hOwn3 _ e.symm).1; omega)
            have T4 := Box.grown (w := (w3.alloc (.cells ([.int .i64 x0, .int .i64 x1, .slice A2 n2 c2].toArray) 30))) (T3.alloc _) hgr4 (fun e => by have := (hOwn3 _ e.symm).1; omega)
            have Y4 := Box.grown (w := (w3.alloc (.cells ([.int .i64 x0, .int .i64 x1, .slice A2 n2 c2].toArray) 30))) (Y3.alloc _) hgr4 (fun e => by have := (hOwn3 _ e.symm).1; omega)
            have q0 := T4.cell 0
            have q1 := T4.cell 1
            have f0 := T4.frozen 0
            have f1 := T4.frozen 1
            have H9 := H4.far (p := ⟨w1.heap.size, 0, none⟩) (by show w.heap.size + 1 ≠ w1.heap.size; omega) (.slice A9 n9 c9)
            have Y9 := Y4.far (p := ⟨w1.heap.size, 0, none⟩) (by show w.heap.size + 1 + 1 ≠ w1.heap.size; omega) (.slice A9 n9 c9)
            have T9 := T4.put 0 (.slice A9 n9 c9)
            have y0 := Y9.cell 0
            have y1 := Y9.cell 1
            have y2 := Y9.frozen 0
            have y3 := Y9.frozen 1
            have s0 := T9.cell 0
            have s1 := T9.cell 1
            refine hK.out _ _ (by exact ⟨H4.cell 0, H4.cell 1, H4.cell 2⟩) (fun hHeld => ?_)
            clear hK K
            (try simp only [Act.put, qa_, qb_, qc_])
            refine wpAnyH_take (i := 7) (oi := ⟨some 32, _, _, _, _, _⟩) (v := ?v6) rfl (by kernel_rfl) (by kernel_rfl) (by kernel_rfl) (fun _ _ _ h => h) (Or.inl ⟨by rfl, ?hy6⟩) (by assumption) ?_
            case hy6 => (intro w hSw; (try dsimp only at hSw); go_simp; try (with_reducible rfl))
            (try simp only [Act.put, qa_, qb_, qc_])
            refine wpAnyH_ready (rs := [8]) (by kernel_rfl) (by simp) ?_
            refine AllReadyH.cons rfl (fun K hK => ?_) ?_
            · go_simp
              refine hK.out _ _ (by exact ⟨H9.cell 0, H9.cell 1, H9.cell 2⟩) (fun hHeld => ?_)
              clear hK K
              (try simp only [Act.put, qa_, qb_, qc_])
              refine wpAnyH_done (by kernel_rfl) ?_ _
              go_wp2
              have hG9 := ((hG4.put (p := ⟨w1.heap.size, 0, none⟩) (by show w1.heap.size < _; omega) (by show _ ≤ w1.heap.size; omega) (.slice A9 n9 c9)).put (p := ⟨w.heap.size + 1 + 1, 0, none⟩) (by show w.heap.size + 1 + 1 < _; omega) (by show _ ≤ w.heap.size + 1 + 1; omega) (.slice A9 n9 c9)).put (p := ⟨w.heap.size + 1 + 1, 1, none⟩) (by show w.heap.size + 1 + 1 < _; omega) (by show _ ≤ w.heap.size + 1 + 1; omega) (.slice A7 n7 c7)
              have RR := (Y9.put 0 (.slice A9 n9 c9)).put 1 (.slice A7 n7 c7)
              have e0 := RR.cell 0
              have e1 := RR.cell 1
              have O7 := Ty.far3 (t := tIs) (Ty.far3 (t := tIs) (Ty.far3 (t := tIs) (Ty.below (t := tIs) hO7 hC4) (p := ⟨w1.heap.size, 0, none⟩) (fun hx => by have := tIs.lt hO7 _ hx; dsimp only at this; omega) (.slice A9 n9 c9)) (p := ⟨w.heap.size + 1 + 1, 0, none⟩) (fun hx => by have := hM7.2 _ hx; dsimp only at this; omega) (.slice A9 n9 c9)) (p := ⟨w.heap.size + 1 + 1, 1, none⟩) (fun hx => by have := hM7.2 _ hx; dsimp only at this; omega) (.slice A7 n7 c7)
              refine bodyPost_ret (v := .tuple #[.agg #[.slice A9 n9 c9, .slice A7 n7 c7], .int .i64 0]) (by simp [results, Try.results100, go_sem, e0, e1]) rfl ⟨_, _, rfl, ⟨hG9.doneAs (by simp [World.setCell]; omega), fun _ b hb => by have := (hG9.own b hb).1; omega⟩, slX_O O7 (fun f hf => by have := hM7.2 f hf; omega), ?_⟩
              exact bel_put (bel_put (bel_put hB4 (by show _ ≤ w1.heap.size; omega) _) (by show _ ≤ w.heap.size + 1 + 1; omega) _) (by show _ ≤ w.heap.size + 1 + 1; omega) _
            exact AllReadyH.nil
          exact AllReadyH.nil
        exact AllReadyH.nil
      refine AllReadyH.cons rfl (fun K hK => ?_) ?_
      · go_simp
        refine hK.out _ _ (by exact ⟨H_EV.cell 0, H_EV.cell 1, H_EV.cell 2⟩) (fun hHeld => ?_)
        clear hK K
        (try simp only [Act.put, qa_, qb_, qc_])
        refine wpAnyH_ready (rs := [3]) (by kernel_rfl) (by simp) ?_
        refine AllReadyH.cons rfl (fun K hK => ?_) ?_
        · have hE : GrowR (XT g tHeld) 30 ((((w1.alloc (.cells #[.slice A0 n0 c0, .slice A7 n7 c7] 26)).alloc (.cells #[] 30)).alloc (.cells [.int .i64 x0, .int .i64 x1, .slice A2 n2 c2].toArray 30)).drew) (w1.heap.size + 1) w.heap.size (.slice (some ⟨w1.heap.size + 1, 0, none⟩) 0 0) [] := GrowR.drew (GrowR.below (by simpa using (GrowR.empty (t := XT g tHeld) (e := 30) (w := (w1.alloc (.cells #[.slice A0 n0 c0, .slice A7 n7 c7] 26))) (base := w1.heap.size + 1) (B := w.heap.size) (by first | (simp; done) | (simp; omega)))) (belx) (by simp; omega)) (by simp; omega)
          have hR3 : (XT g tHeld).row.R ((((w1.alloc (.cells #[.slice A0 n0 c0, .slice A7 n7 c7] 26)).alloc (.cells #[] 30)).alloc (.cells [.int .i64 x0, .int .i64 x1, .slice A2 n2 c2].toArray 30)).drew) w.heap.size [.slice A0 n0 c0] p1 := (XT g tHeld).row.keep hr0 (fun b hb => (show Below w.heap.size w ((((w1.alloc (.cells #[.slice A0 n0 c0, .slice A7 n7 c7] 26)).alloc (.cells #[] 30)).alloc (.cells [.int .i64 x0, .int .i64 x1, .slice A2 n2 c2].toArray 30)).drew) from bel_trans hB1 (belx)).block b hb)
          refine GrowR.stepRow (by rfl) (.tmp 25) (.tmp 27) _ (by rfl) i1 _ 3 40 Try.underlying23 hj0 hj1 hj2 hj3 tz (by omega) rfl (by rfl) hE (by rfl) hR3 one_cells_HeldX (by omega) (by first | omega | (simp; done) | (simp; omega) | (show _ ≤ (World.alloc _ _).heap.size; simp) | (show _ ≤ (World.alloc _ _).heap.size; simp; omega)) t1 t2 ?_
          intro v3 w3 hG3 hgr3
          have z3 : w1.heap.size + 1 + 2 ≤ w3.heap.size := Nat.le_trans (by first | omega | (simp; done) | (simp; omega) | (show _ ≤ (World.alloc _ _).heap.size; simp) | (show _ ≤ (World.alloc _ _).heap.size; simp; omega)) hgr3.size
          have hB3 : Below w.heap.size w w3 := Below.grown (w := (((w1.alloc (.cells #[.slice A0 n0 c0, .slice A7 n7 c7] 26)).alloc (.cells #[] 30)).alloc (.cells [.int .i64 x0, .int .i64 x1, .slice A2 n2 c2].toArray 30)).drew) (bel_trans hB1 (belx)) hgr3 (by first | omega | (simp; done) | (simp; omega) | (show _ ≤ (World.alloc _ _).heap.size; simp) | (show _ ≤ (World.alloc _ _).heap.size; simp; omega)) (fun b hb => by have e := Option.some.inj (show (some (w1.heap.size + 1)) = some b from hb); omega)
          have hC3 : Below w1.heap.size w1 w3 := Below.grown (w := (((w1.alloc (.cells #[.slice A0 n0 c0, .slice A7 n7 c7] 26)).alloc (.cells #[] 30)).alloc (.cells [.int .i64 x0, .int .i64 x1, .slice A2 n2 c2].toArray 30)).drew) (belx) hgr3 (by first | omega | (simp; done) | (simp; omega) | (show _ ≤ (World.alloc _ _).heap.size; simp) | (show _ ≤ (World.alloc _ _).heap.size; simp; omega)) (fun b hb => by have e := Option.some.inj (show (some (w1.heap.size + 1)) = some b from hb); omega)
          have H3 := Box.grown (w := (((w1.alloc (.cells #[.slice A0 n0 c0, .slice A7 n7 c7] 26)).alloc (.cells #[] 30)).alloc (.cells [.int .i64 x0, .int .i64 x1, .slice A2 n2 c2].toArray 30)).drew) (Box.drew H_EV) hgr3 (fun e => by have e := Option.some.inj (show some (w.heap.size + 1) = (some (w1.heap.size + 1)) from e); omega)
          have T3 := Box.grown (w := (((w1.alloc (.cells #[.slice A0 n0 c0, .slice A7 n7 c7] 26)).alloc (.cells #[] 30)).alloc (.cells [.int .i64 x0, .int .i64 x1, .slice A2 n2 c2].toArray 30)).drew) (Box.drew T_EV) hgr3 (fun e => by have e := Option.some.inj (show some w1.heap.size = (some (w1.heap.size + 1)) from e); omega)
          have Y3 := Box.grown (w := (((w1.alloc (.cells #[.slice A0 n0 c0, .slice A7 n7 c7] 26)).alloc (.cells #[] 30)).alloc (.cells [.int .i64 x0, .int .i64 x1, .slice A2 n2 c2].toArray 30)).drew) (Box.drew Y_EV) hgr3 (fun e => by have e := Option.some.inj (show some (w.heap.size + 1 + 1) = (some (w1.heap.size + 1)) from e); omega)
          have V3 := Box.grown (w := (((w1.alloc (.cells #[.slice A0 n0 c0, .slice A7 n7 c7] 26)).alloc (.cells #[] 30)).alloc (.cells [.int .i64 x0, .int .i64 x1, .slice A2 n2 c2].toArray 30)).drew) (Box.drew V_EV) hgr3 (fun e => by have e := Option.some.inj (show some (w1.heap.size + 2) = (some (w1.heap.size + 1)) from e); omega)
          have hOwn3 := hG3.own
          have hG3' : GrowR (XT g tHeld) 30 w3 (w1.heap.size + 1) w.heap.size v3 p1 := hG3
          have H3V := H3.alloc (.cells ([.int .i64 x0, .int .i64 x1, .slice A2 n2 c2].toArray) 30)
          refine hK.out _ _ (by exact ⟨H3.cell 0, H3.cell 1, H3.cell 2⟩) (fun hHeld => ?_)
          clear hK K
          (try simp only [Act.put, qa_, qb_, qc_])
          refine wpAnyH_ready (rs := [6]) (by kernel_rfl) (by simp) ?_
          refine AllReadyH.cons rfl (fun K hK => ?_) ?_
          · refine GrowR.step (by rfl) (.tmp 28) (.tmp 30) _ (by rfl) i1 _ 3 40 Try.underlying23 hj0 hj1 hj2 hj3 tz (by omega) rfl (by rfl) hG3' (w1.heap.size + 2) [.int .i64 x0, .int .i64 x1, .slice A2 n2 c2] ph (by rfl) V3 ((XT g tHeld).keep hRh (fun b hb => (show Below w.heap.size w w3 from hB3).block b hb)) (one_held _ _ _ _ _) (by omega) (by first | omega | (simp; done) | (simp; omega) | (show _ ≤ (World.alloc _ _).heap.size; simp) | (show _ ≤ (World.alloc _ _).heap.size; simp; omega)) t3 t4 ?_
            intro v4 w4 hG4 hgr4
            obtain ⟨A9, n9, c9, rfl, -⟩ := hG4.shapeN
            have hB4 : Below w.heap.size w w4 := Below.grown (w := w3) hB3 hgr4 (by first | omega | (simp; done) | (simp; omega) | (show _ ≤ (World.alloc _ _).heap.size; simp) | (show _ ≤ (World.alloc _ _).heap.size; simp; omega)) (fun b hb => by have := (hOwn3 b hb).1; omega)
            have hC4 : Below w1.heap.size w1 w4 := Below.grown (w := w3) hC3 hgr4 (by first | omega | (simp; done) | (simp; omega) | (show _ ≤ (World.alloc _ _).heap.size; simp) | (show _ ≤ (World.alloc _ _).heap.size; simp; omega)) (fun b hb => by have := (hOwn3 b hb).1; omega)
            have z4 : w1.heap.size + 1 ≤ w4.heap.size := Nat.le_trans (by first | omega | (simp; done) | (simp; omega) | (show _ ≤ (World.alloc _ _).heap.size; simp) | (show _ ≤ (World.alloc _ _).heap.size; simp; omega)) hgr4.size
            have H4 := Box.grown (w := w3) H3 hgr4 (fun e => by have := (hOwn3 _ e.symm).1; omega)
            have T4 := Box.grown (w := w3) T3 hgr4 (fun e => by have := (hOwn3 _ e.symm).1; omega)
            have Y4 := Box.grown (w := w3) Y3 hgr4 (fun e => by have := (hOwn3 _ e.symm).1; omega)
            have q0 := T4.cell 0
            have q1 := T4.cell 1
            have f0 := T4.frozen 0
            have f1 := T4.frozen 1
            have H9 := H4.far (p := ⟨w1.heap.size, 0, none⟩) (by show w.heap.size + 1 ≠ w1.heap.size; omega) (.slice A9 n9 c9)
            have Y9 := Y4.far (p := ⟨w1.heap.size, 0, none⟩) (by show w.heap.size + 1 + 1 ≠ w1.heap.size; omega) (.slice A9 n9 c9)
            have T9 := T4.put 0 (.slice A9 n9 c9)
            have y0 := Y9.cell 0
            have y1 := Y9.cell 1
            have y2 := Y9.frozen 0
            have y3 := Y9.frozen 1
            have s0 := T9.cell 0
            have s1 := T9.cell 1
            refine hK.out _ _ (by exact ⟨H4.cell 0, H4.cell 1, H4.cell 2⟩) (fun hHeld => ?_)
            clear hK K
            (try simp only [Act.put, qa_, qb_, qc_])
            refine wpAnyH_take (i := 7) (oi := ⟨some 32, _, _, _, _, _⟩) (v := ?v7) rfl (by kernel_rfl) (by kernel_rfl) (by kernel_rfl) (fun _ _ _ h => h) (Or.inl ⟨by rfl, ?hy7⟩) (by assumption) ?_
            case hy7 => (intro w hSw; (try dsimp only at hSw); go_simp; try (with_reducible rfl))
            (try simp only [Act.put, qa_, qb_, qc_])
            refine wpAnyH_ready (rs := [8]) (by kernel_rfl) (by simp) ?_
            refine AllReadyH.cons rfl (fun K hK => ?_) ?_
            · go_simp
              refine hK.out _ _ (by exact ⟨H9.cell 0, H9.cell 1, H9.cell 2⟩) (fun hHeld => ?_)
              clear hK K
              (try simp only [Act.put, qa_, qb_, qc_])
              refine wpAnyH_done (by kernel_rfl) ?_ _
              go_wp2
              have hG9 := ((hG4.put (p := ⟨w1.heap.size, 0, none⟩) (by show w1.heap.size < _; omega) (by show _ ≤ w1.heap.size; omega) (.slice A9 n9 c9)).put (p := ⟨w.heap.size + 1 + 1, 0, none⟩) (by show w.heap.size + 1 + 1 < _; omega) (by show _ ≤ w.heap.size + 1 + 1; omega) (.slice A9 n9 c9)).put (p := ⟨w.heap.size + 1 + 1, 1, none⟩) (by show w.heap.size + 1 + 1 < _; omega) (by show _ ≤ w.heap.size + 1 + 1; omega) (.slice A7 n7 c7)
              have RR := (Y9.put 0 (.slice A9 n9 c9)).put 1 (.slice A7 n7 c7)
              have e0 := RR.cell 0
              have e1 := RR.cell 1
              have O7 := Ty.far3 (t := tIs) (Ty.far3 (t := tIs) (Ty.far3 (t := tIs) (Ty.below (t := tIs) hO7 hC4) (p := ⟨w1.heap.size, 0, none⟩) (fun hx => by have := tIs.lt hO7 _ hx; dsimp only at this; omega) (.slice A9 n9 c9)) (p := ⟨w.heap.size + 1 + 1, 0, none⟩) (fun hx => by have := hM7.2 _ hx; dsimp only at this; omega) (.slice A9 n9 c9)) (p := ⟨w.heap.size + 1 + 1, 1, none⟩) (fun hx => by have := hM7.2 _ hx; dsimp only at this; omega) (.slice A7 n7 c7)
              refine bodyPost_ret (v := .tuple #[.agg #[.slice A9 n9 c9, .slice A7 n7 c7], .int .i64 0]) (by simp [results, Try.results100, go_sem, e0, e1]) rfl ⟨_, _, rfl, ⟨hG9.doneAs (by simp [World.setCell]; omega), fun _ b hb => by have := (hG9.own b hb).1; omega⟩, slX_O O7 (fun f hf => by have := hM7.2 f hf; omega), ?_⟩
              exact bel_put (bel_put (bel_put hB4 (by show _ ≤ w1.heap.size; omega) _) (by show _ ≤ w.heap.size + 1 + 1; omega) _) (by show _ ≤ w.heap.size + 1 + 1; omega) _
            exact AllReadyH.nil
          exact AllReadyH.nil
        exact AllReadyH.nil
      exact AllReadyH.nil
    refine AllReadyH.cons rfl (fun K hK => ?_) ?_
    · go_simp
      refine hK.out _ _ (by exact ⟨H_V.cell 0, H_V.cell 1, H_V.cell 2⟩) (fun hHeld => ?_)
      clear hK K
      (try simp only [Act.put, qa_, qb_, qc_])
      refine wpAnyH_ready (rs := [0]) (by kernel_rfl) (by simp) ?_
      refine AllReadyH.cons rfl (fun K hK => ?_) ?_
      · go_simp
        refine hK.out _ _ (by exact ⟨H_VE.cell 0, H_VE.cell 1, H_VE.cell 2⟩) (fun hHeld => ?_)
        clear hK K
        (try simp only [Act.put, qa_, qb_, qc_])
        refine wpAnyH_ready (rs := [3]) (by kernel_rfl) (by simp) ?_
        refine AllReadyH.cons rfl (fun K hK => ?_) ?_
        · have hE : GrowR (XT g tHeld) 30 ((((w1.alloc (.cells #[.slice A0 n0 c0, .slice A7 n7 c7] 26)).alloc (.cells [.int .i64 x0, .int .i64 x1, .slice A2 n2 c2].toArray 30)).alloc (.cells #[] 30)).drew) (w1.heap.size + 1) w.heap.size (.slice (some ⟨w1.heap.size + 2, 0, none⟩) 0 0) [] := GrowR.drew (by simpa using (GrowR.empty (t := XT g tHeld) (e := 30) (w := ((w1.alloc (.cells #[.slice A0 n0 c0, .slice A7 n7 c7] 26)).alloc (.cells [.int .i64 x0, .int .i64 x1, .slice A2 n2 c2].toArray 30))) (base := w1.heap.size + 1) (B := w.heap.size) (by first | (simp; done) | (simp; omega)))) (by simp; omega)
          have hR3 : (XT g tHeld).row.R ((((w1.alloc (.cells #[.slice A0 n0 c0, .slice A7 n7 c7] 26)).alloc (.cells [.int .i64 x0, .int .i64 x1, .slice A2 n2 c2].toArray 30)).alloc (.cells #[] 30)).drew) w.heap.size [.slice A0 n0 c0] p1 := (XT g tHeld).row.keep hr0 (fun b hb => (show Below w.heap.size w ((((w1.alloc (.cells #[.slice A0 n0 c0, .slice A7 n7 c7] 26)).alloc (.cells [.int .i64 x0, .int .i64 x1, .slice A2 n2 c2].toArray 30)).alloc (.cells #[] 30)).drew) from bel_trans hB1 (belx)).block b hb)
          refine GrowR.stepRow (by rfl) (.tmp 25) (.tmp 27) _ (by rfl) i1 _ 3 40 Try.underlying23 hj0 hj1 hj2 hj3 tz (by omega) rfl (by rfl) hE (by rfl) hR3 one_cells_HeldX (by omega) (by first | omega | (simp; done) | (simp; omega) | (show _ ≤ (World.alloc _ _).heap.size; simp) | (show _ ≤ (World.alloc _ _).heap.size; simp; omega)) t1 t2 ?_
          intro v3 w3 hG3 hgr3
          have z3 : w1.heap.size + 1 + 2 ≤ w3.heap.size := Nat.le_trans (by first | omega | (simp; done) | (simp; omega) | (show _ ≤ (World.alloc _ _).heap.size; simp) | (show _ ≤ (World.alloc _ _).heap.size; simp; omega)) hgr3.size
          have hB3 : Below w.heap.size w w3 := Below.grown (w := (((w1.alloc (.cells #[.slice A0 n0 c0, .slice A7 n7 c7] 26)).alloc (.cells [.int .i64 x0, .int .i64 x1, .slice A2 n2 c2].toArray 30)).alloc (.cells #[] 30)).drew) (bel_trans hB1 (belx)) hgr3 (by first | omega | (simp; done) | (simp; omega) | (show _ ≤ (World.alloc _ _).heap.size; simp) | (show _ ≤ (World.alloc _ _).heap.size; simp; omega)) (fun b hb => by have e := Option.some.inj (show (some (w1.heap.size + 2)) = some b from hb); omega)
          have hC3 : Below w1.heap.size w1 w3 := Below.grown (w := (((w1.alloc (.cells #[.slice A0 n0 c0, .slice A7 n7 c7] 26)).alloc (.cells [.int .i64 x0, .int .i64 x1, .slice A2 n2 c2].toArray 30)).alloc (.cells #[] 30)).drew) (belx) hgr3 (by first | omega | (simp; done) | (simp; omega) | (show _ ≤ (World.alloc _ _).heap.size; simp) | (show _ ≤ (World.alloc _ _).heap.size; simp; omega)) (fun b hb => by have e := Option.some.inj (show (some (w1.heap.size + 2)) = some b from hb); omega)
          have H3 := Box.grown (w := (((w1.alloc (.cells #[.slice A0 n0 c0, .slice A7 n7 c7] 26)).alloc (.cells [.int .i64 x0, .int .i64 x1, .slice A2 n2 c2].toArray 30)).alloc (.cells #[] 30)).drew) (Box.drew H_VE) hgr3 (fun e => by have e := Option.some.inj (show some (w.heap.size + 1) = (some (w1.heap.size + 2)) from e); omega)
          have T3 := Box.grown (w := (((w1.alloc (.cells #[.slice A0 n0 c0, .slice A7 n7 c7] 26)).alloc (.cells [.int .i64 x0, .int .i64 x1, .slice A2 n2 c2].toArray 30)).alloc (.cells #[] 30)).drew) (Box.drew T_VE) hgr3 (fun e => by have e := Option.some.inj (show some w1.heap.size = (some (w1.heap.size + 2)) from e); omega)
          have Y3 := Box.grown (w := (((w1.alloc (.cells #[.slice A0 n0 c0, .slice A7 n7 c7] 26)).alloc (.cells [.int .i64 x0, .int .i64 x1, .slice A2 n2 c2].toArray 30)).alloc (.cells #[] 30)).drew) (Box.drew Y_VE) hgr3 (fun e => by have e := Option.some.inj (show some (w.heap.size + 1 + 1) = (some (w1.heap.size + 2)) from e); omega)
          have V3 := Box.grown (w := (((w1.alloc (.cells #[.slice A0 n0 c0, .slice A7 n7 c7] 26)).alloc (.cells [.int .i64 x0, .int .i64 x1, .slice A2 n2 c2].toArray 30)).alloc (.cells #[] 30)).drew) (Box.drew V_VE) hgr3 (fun e => by have e := Option.some.inj (show some (w1.heap.size + 1) = (some (w1.heap.size + 2)) from e); omega)
          have hOwn3 := hG3.own
          have hG3' : GrowR (XT g tHeld) 30 w3 (w1.heap.size + 1) w.heap.size v3 p1 := hG3
          have H3V := H3.alloc (.cells ([.int .i64 x0, .int .i64 x1, .slice A2 n2 c2].toArray) 30)
          refine hK.out _ _ (by exact ⟨H3.cell 0, H3.cell 1, H3.cell 2⟩) (fun hHeld => ?_)
          clear hK K
          (try simp only [Act.put, qa_, qb_, qc_])
          refine wpAnyH_ready (rs := [6]) (by kernel_rfl) (by simp) ?_
          refine AllReadyH.cons rfl (fun K hK => ?_) ?_
          · refine GrowR.step (by rfl) (.tmp 28) (.tmp 30) _ (by rfl) i1 _ 3 40 Try.underlying23 hj0 hj1 hj2 hj3 tz (by omega) rfl (by rfl) hG3' (w1.heap.size + 1) [.int .i64 x0, .int .i64 x1, .slice A2 n2 c2] ph (by rfl) V3 ((XT g tHeld).keep hRh (fun b hb => (show Below w.heap.size w w3 from hB3).block b hb)) (one_held _ _ _ _ _) (by omega) (by first | omega | (simp; done) | (simp; omega) | (show _ ≤ (World.alloc _ _).heap.size; simp) | (show _ ≤ (World.alloc _ _).heap.size; simp; omega)) t3 t4 ?_
            intro v4 w4 hG4 hgr4
            obtain ⟨A9, n9, c9, rfl, -⟩ := hG4.shapeN
            have hB4 : Below w.heap.size w w4 := Below.grown (w := w3) hB3 hgr4 (by first | omega | (simp; done) | (simp; omega) | (show _ ≤ (World.alloc _ _).heap.size; simp) | (show _ ≤ (World.alloc _ _).heap.size; simp; omega)) (fun b hb => by have := (hOwn3 b hb).1; omega)
            have hC4 : Below w1.heap.size w1 w4 := Below.grown (w := w3) hC3 hgr4 (by first | omega | (simp; done) | (simp; omega) | (show _ ≤ (World.alloc _ _).heap.size; simp) | (show _ ≤ (World.alloc _ _).heap.size; simp; omega)) (fun b hb => by have := (hOwn3 b hb).1; omega)
            have z4 : w1.heap.size + 1 ≤ w4.heap.size := Nat.le_trans (by first | omega | (simp; done) | (simp; omega) | (show _ ≤ (World.alloc _ _).heap.size; simp) | (show _ ≤ (World.alloc _ _).heap.size; simp; omega)) hgr4.size
            have H4 := Box.grown (w := w3) H3 hgr4 (fun e => by have := (hOwn3 _ e.symm).1; omega)
            have T4 := Box.grown (w := w3) T3 hgr4 (fun e => by have := (hOwn3 _ e.symm).1; omega)
            have Y4 := Box.grown (w := w3) Y3 hgr4 (fun e => by have := (hOwn3 _ e.symm).1; omega)
            have q0 := T4.cell 0
            have q1 := T4.cell 1
            have f0 := T4.frozen 0
            have f1 := T4.frozen 1
            have H9 := H4.far (p := ⟨w1.heap.size, 0, none⟩) (by show w.heap.size + 1 ≠ w1.heap.size; omega) (.slice A9 n9 c9)
            have Y9 := Y4.far (p := ⟨w1.heap.size, 0, none⟩) (by show w.heap.size + 1 + 1 ≠ w1.heap.size; omega) (.slice A9 n9 c9)
            have T9 := T4.put 0 (.slice A9 n9 c9)
            have y0 := Y9.cell 0
            have y1 := Y9.cell 1
            have y2 := Y9.frozen 0
            have y3 := Y9.frozen 1
            have s0 := T9.cell 0
            have s1 := T9.cell 1
            refine hK.out _ _ (by exact ⟨H4.cell 0, H4.cell 1, H4.cell 2⟩) (fun hHeld => ?_)
            clear hK K
            (try simp only [Act.put, qa_, qb_, qc_])
            refine wpAnyH_take (i := 7) (oi := ⟨some 32, _, _, _, _, _⟩) (v := ?v8) rfl (by kernel_rfl) (by kernel_rfl) (by kernel_rfl) (fun _ _ _ h => h) (Or.inl ⟨by rfl, ?hy8⟩) (by assumption) ?_
            case hy8 => (intro w hSw; (try dsimp only at hSw); go_simp; try (with_reducible rfl))
            (try simp only [Act.put, qa_, qb_, qc_])
            refine wpAnyH_ready (rs := [8]) (by kernel_rfl) (by simp) ?_
            refine AllReadyH.cons rfl (fun K hK => ?_) ?_
            · go_simp
              refine hK.out _ _ (by exact ⟨H9.cell 0, H9.cell 1, H9.cell 2⟩) (fun hHeld => ?_)
              clear hK K
              (try simp only [Act.put, qa_, qb_, qc_])
              refine wpAnyH_done (by kernel_rfl) ?_ _
              go_wp2
              have hG9 := ((hG4.put (p := ⟨w1.heap.size, 0, none⟩) (by show w1.heap.size < _; omega) (by show _ ≤ w1.heap.size; omega) (.slice A9 n9 c9)).put (p := ⟨w.heap.size + 1 + 1, 0, none⟩) (by show w.heap.size + 1 + 1 < _; omega) (by show _ ≤ w.heap.size + 1 + 1; omega) (.slice A9 n9 c9)).put (p := ⟨w.heap.size + 1 + 1, 1, none⟩) (by show w.heap.size + 1 + 1 < _; omega) (by show _ ≤ w.heap.size + 1 + 1; omega) (.slice A7 n7 c7)
              have RR := (Y9.put 0 (.slice A9 n9 c9)).put 1 (.slice A7 n7 c7)
              have e0 := RR.cell 0
              have e1 := RR.cell 1
              have O7 := Ty.far3 (t := tIs) (Ty.far3 (t := tIs) (Ty.far3 (t := tIs) (Ty.below (t := tIs) hO7 hC4) (p := ⟨w1.heap.size, 0, none⟩) (fun hx => by have := tIs.lt hO7 _ hx; dsimp only at this; omega) (.slice A9 n9 c9)) (p := ⟨w.heap.size + 1 + 1, 0, none⟩) (fun hx => by have := hM7.2 _ hx; dsimp only at this; omega) (.slice A9 n9 c9)) (p := ⟨w.heap.size + 1 + 1, 1, none⟩) (fun hx => by have := hM7.2 _ hx; dsimp only at this; omega) (.slice A7 n7 c7)
              refine bodyPost_ret (v := .tuple #[.agg #[.slice A9 n9 c9, .slice A7 n7 c7], .int .i64 0]) (by simp [results, Try.results100, go_sem, e0, e1]) rfl ⟨_, _, rfl, ⟨hG9.doneAs (by simp [World.setCell]; omega), fun _ b hb => by have := (hG9.own b hb).1; omega⟩, slX_O O7 (fun f hf => by have := hM7.2 f hf; omega), ?_⟩
              exact bel_put (bel_put (bel_put hB4 (by show _ ≤ w1.heap.size; omega) _) (by show _ ≤ w.heap.size + 1 + 1; omega) _) (by show _ ≤ w.heap.size + 1 + 1; omega) _
            exact AllReadyH.nil
          exact AllReadyH.nil
        exact AllReadyH.nil
      exact AllReadyH.nil
    exact AllReadyH.nil
  refine AllReadyH.cons rfl (fun K hK => ?_) ?_
  · go_simp
    refine hK.out _ _ (by exact ⟨H_V.cell 0, H_V.cell 1, H_V.cell 2⟩) (fun hHeld => ?_)
    clear hK K
    (try simp only [Act.put, qa_, qb_, qc_])
    refine wpAnyH_ready (rs := [0, 2]) (by kernel_rfl) (by simp) ?_
    refine AllReadyH.cons rfl (fun K hK => ?_) ?_
    · go_simp
      refine hK.out _ _ (by exact ⟨H_VE.cell 0, H_VE.cell 1, H_VE.cell 2⟩) (fun hHeld => ?_)
      clear hK K
      (try simp only [Act.put, qa_, qb_, qc_])
      refine wpAnyH_ready (rs := [2]) (by kernel_rfl) (by simp) ?_
      refine AllReadyH.cons rfl (fun K hK => ?_) ?_
      · go_simp
        refine hK.out _ _ (by exact ⟨H_VE.cell 0, H_VE.cell 1, H_VE.cell 2⟩) (fun hHeld => ?_)
        clear hK K
        (try simp only [Act.put, qa_, qb_, qc_])
        refine wpAnyH_ready (rs := [3]) (by kernel_rfl) (by simp) ?_
        refine AllReadyH.cons rfl (fun K hK => ?_) ?_
        · have hE : GrowR (XT g tHeld) 30 ((((w1.alloc (.cells #[.slice A0 n0 c0, .slice A7 n7 c7] 26)).alloc (.cells [.int .i64 x0, .int .i64 x1, .slice A2 n2 c2].toArray 30)).alloc (.cells #[] 30)).drew) (w1.heap.size + 1) w.heap.size (.slice (some ⟨w1.heap.size + 2, 0, none⟩) 0 0) [] := GrowR.drew (by simpa using (GrowR.empty (t := XT g tHeld) (e := 30) (w := ((w1.alloc (.cells #[.slice A0 n0 c0, .slice A7 n7 c7] 26)).alloc (.cells [.int .i64 x0, .int .i64 x1, .slice A2 n2 c2].toArray 30))) (base := w1.heap.size + 1) (B := w.heap.size) (by first | (simp; done) | (simp; omega)))) (by simp; omega)
          have hR3 : (XT g tHeld).row.R ((((w1.alloc (.cells #[.slice A0 n0 c0, .slice A7 n7 c7] 26)).alloc (.cells [.int .i64 x0, .int .i64 x1, .slice A2 n2 c2].toArray 30)).alloc (.cells #[] 30)).drew) w.heap.size [.slice A0 n0 c0] p1 := (XT g tHeld).row.keep hr0 (fun b hb => (show Below w.heap.size w ((((w1.alloc (.cells #[.slice A0 n0 c0, .slice A7 n7 c7] 26)).alloc (.cells [.int .i64 x0, .int .i64 x1, .slice A2 n2 c2].toArray 30)).alloc (.cells #[] 30)).drew) from bel_trans hB1 (belx)).block b hb)
          refine GrowR.stepRow (by rfl) (.tmp 25) (.tmp 27) _ (by rfl) i1 _ 3 40 Try.underlying23 hj0 hj1 hj2 hj3 tz (by omega) rfl (by rfl) hE (by rfl) hR3 one_cells_HeldX (by omega) (by first | omega | (simp; done) | (simp; omega) | (show _ ≤ (World.alloc _ _).heap.size; simp) | (show _ ≤ (World.alloc _ _).heap.size; simp; omega)) t1 t2 ?_
          intro v3 w3 hG3 hgr3
          have z3 : w1.heap.size + 1 + 2 ≤ w3.heap.size := Nat.le_trans (by first | omega | (simp; done) | (simp; omega) | (show _ ≤ (World.alloc _ _).heap.size; simp) | (show _ ≤ (World.alloc _ _).heap.size; simp; omega)) hgr3.size
          have hB3 : Below w.heap.size w w3 := Below.grown (w := (((w1.alloc (.cells #[.slice A0 n0 c0, .slice A7 n7 c7] 26)).alloc (.cells [.int .i64 x0, .int .i64 x1, .slice A2 n2 c2].toArray 30)).alloc (.cells #[] 30)).drew) (bel_trans hB1 (belx)) hgr3 (by first | omega | (simp; done) | (simp; omega) | (show _ ≤ (World.alloc _ _).heap.size; simp) | (show _ ≤ (World.alloc _ _).heap.size; simp; omega)) (fun b hb => by have e := Option.some.inj (show (some (w1.heap.size + 2)) = some b from hb); omega)
          have hC3 : Below w1.heap.size w1 w3 := Below.grown (w := (((w1.alloc (.cells #[.slice A0 n0 c0, .slice A7 n7 c7] 26)).alloc (.cells [.int .i64 x0, .int .i64 x1, .slice A2 n2 c2].toArray 30)).alloc (.cells #[] 30)).drew) (belx) hgr3 (by first | omega | (simp; done) | (simp; omega) | (show _ ≤ (World.alloc _ _).heap.size; simp) | (show _ ≤ (World.alloc _ _).heap.size; simp; omega)) (fun b hb => by have e := Option.some.inj (show (some (w1.heap.size + 2)) = some b from hb); omega)
          have H3 := Box.grown (w := (((w1.alloc (.cells #[.slice A0 n0 c0, .slice A7 n7 c7] 26)).alloc (.cells [.int .i64 x0, .int .i64 x1, .slice A2 n2 c2].toArray 30)).alloc (.cells #[] 30)).drew) (Box.drew H_VE) hgr3 (fun e => by have e := Option.some.inj (show some (w.heap.size + 1) = (some (w1.heap.size + 2)) from e); omega)
          have T3 := Box.grown (w := (((w1.alloc (.cells #[.slice A0 n0 c0, .slice A7 n7 c7] 26)).alloc (.cells [.int .i64 x0, .int .i64 x1, .slice A2 n2 c2].toArray 30)).alloc (.cells #[] 30)).drew) (Box.drew T_VE) hgr3 (fun e => by have e := Option.some.inj (show some w1.heap.size = (some (w1.heap.size + 2)) from e); omega)
          have Y3 := Box.grown (w := (((w1.alloc (.cells #[.slice A0 n0 c0, .slice A7 n7 c7] 26)).alloc (.cells [.int .i64 x0, .int .i64 x1, .slice A2 n2 c2].toArray 30)).alloc (.cells #[] 30)).drew) (Box.drew Y_VE) hgr3 (fun e => by have e := Option.some.inj (show some (w.heap.size + 1 + 1) = (some (w1.heap.size + 2)) from e); omega)
          have V3 := Box.grown (w := (((w1.alloc (.cells #[.slice A0 n0 c0, .slice A7 n7 c7] 26)).alloc (.cells [.int .i64 x0, .int .i64 x1, .slice A2 n2 c2].toArray 30)).alloc (.cells #[] 30)).drew) (Box.drew V_VE) hgr3 (fun e => by have e := Option.some.inj (show some (w1.heap.size + 1) = (some (w1.heap.size + 2)) from e); omega)
          have hOwn3 := hG3.own
          have hG3' : GrowR (XT g tHeld) 30 w3 (w1.heap.size + 1) w.heap.size v3 p1 := hG3
          have H3V := H3.alloc (.cells ([.int .i64 x0, .int .i64 x1, .slice A2 n2 c2].toArray) 30)
          refine hK.out _ _ (by exact ⟨H3.cell 0, H3.cell 1, H3.cell 2⟩) (fun hHeld => ?_)
          clear hK K
          (try simp only [Act.put, qa_, qb_, qc_])
          refine wpAnyH_ready (rs := [6]) (by kernel_rfl) (by simp) ?_
          refine AllReadyH.cons rfl (fun K hK => ?_) ?_
          · refine GrowR.step (by rfl) (.tmp 28) (.tmp 30) _ (by rfl) i1 _ 3 40 Try.underlying23 hj0 hj1 hj2 hj3 tz (by omega) rfl (by rfl) hG3' (w1.heap.size + 1) [.int .i64 x0, .int .i64 x1, .slice A2 n2 c2] ph (by rfl) V3 ((XT g tHeld).keep hRh (fun b hb => (show Below w.heap.size w w3 from hB3).block b hb)) (one_held _ _ _ _ _) (by omega) (by first | omega | (simp; done) | (simp; omega) | (show _ ≤ (World.alloc _ _).heap.size; simp) | (show _ ≤ (World.alloc _ _).heap.size; simp; omega)) t3 t4 ?_
            intro v4 w4 hG4 hgr4
            obtain ⟨A9, n9, c9, rfl, -⟩ := hG4.shapeN
            have hB4 : Below w.heap.size w w4 := Below.grown (w := w3) hB3 hgr4 (by first | omega | (simp; done) | (simp; omega) | (show _ ≤ (World.alloc _ _).heap.size; simp) | (show _ ≤ (World.alloc _ _).heap.size; simp; omega)) (fun b hb => by have := (hOwn3 b hb).1; omega)
            have hC4 : Below w1.heap.size w1 w4 := Below.grown (w := w3) hC3 hgr4 (by first | omega | (simp; done) | (simp; omega) | (show _ ≤ (World.alloc _ _).heap.size; simp) | (show _ ≤ (World.alloc _ _).heap.size; simp; omega)) (fun b hb => by have := (hOwn3 b hb).1; omega)
            have z4 : w1.heap.size + 1 ≤ w4.heap.size := Nat.le_trans (by first | omega | (simp; done) | (simp; omega) | (show _ ≤ (World.alloc _ _).heap.size; simp) | (show _ ≤ (World.alloc _ _).heap.size; simp; omega)) hgr4.size
            have H4 := Box.grown (w := w3) H3 hgr4 (fun e => by have := (hOwn3 _ e.symm).1; omega)
            have T4 := Box.grown (w := w3) T3 hgr4 (fun e => by have := (hOwn3 _ e.symm).1; omega)
            have Y4 := Box.grown (w := w3) Y3 hgr4 (fun e => by have := (hOwn3 _ e.symm).1; omega)
            have q0 := T4.cell 0
            have q1 := T4.cell 1
            have f0 := T4.frozen 0
            have f1 := T4.frozen 1
            have H9 := H4.far (p := ⟨w1.heap.size, 0, none⟩) (by show w.heap.size + 1 ≠ w1.heap.size; omega) (.slice A9 n9 c9)
            have Y9 := Y4.far (p := ⟨w1.heap.size, 0, none⟩) (by show w.heap.size + 1 + 1 ≠ w1.heap.size; omega) (.slice A9 n9 c9)
            have T9 := T4.put 0 (.slice A9 n9 c9)
            have y0 := Y9.cell 0
            have y1 := Y9.cell 1
            have y2 := Y9.frozen 0
            have y3 := Y9.frozen 1
            have s0 := T9.cell 0
            have s1 := T9.cell 1
            refine hK.out _ _ (by exact ⟨H4.cell 0, H4.cell 1, H4.cell 2⟩) (fun hHeld => ?_)
            clear hK K
            (try simp only [Act.put, qa_, qb_, qc_])
            refine wpAnyH_take (i := 7) (oi := ⟨some 32, _, _, _, _, _⟩) (v := ?v9) rfl (by kernel_rfl) (by kernel_rfl) (by kernel_rfl) (fun _ _ _ h => h) (Or.inl ⟨by rfl, ?hy9⟩) (by assumption) ?_
            case hy9 => (intro w hSw; (try dsimp only at hSw); go_simp; try (with_reducible rfl))
            (try simp only [Act.put, qa_, qb_, qc_])
            refine wpAnyH_ready (rs := [8]) (by kernel_rfl) (by simp) ?_
            refine AllReadyH.cons rfl (fun K hK => ?_) ?_
            · go_simp
              refine hK.out _ _ (by exact ⟨H9.cell 0, H9.cell 1, H9.cell 2⟩) (fun hHeld => ?_)
              clear hK K
              (try simp only [Act.put, qa_, qb_, qc_])
              refine wpAnyH_done (by kernel_rfl) ?_ _
              go_wp2
              have hG9 := ((hG4.put (p := ⟨w1.heap.size, 0, none⟩) (by show w1.heap.size < _; omega) (by show _ ≤ w1.heap.size; omega) (.slice A9 n9 c9)).put (p := ⟨w.heap.size + 1 + 1, 0, none⟩) (by show w.heap.size + 1 + 1 < _; omega) (by show _ ≤ w.heap.size + 1 + 1; omega) (.slice A9 n9 c9)).put (p := ⟨w.heap.size + 1 + 1, 1, none⟩) (by show w.heap.size + 1 + 1 < _; omega) (by show _ ≤ w.heap.size + 1 + 1; omega) (.slice A7 n7 c7)
              have RR := (Y9.put 0 (.slice A9 n9 c9)).put 1 (.slice A7 n7 c7)
              have e0 := RR.cell 0
              have e1 := RR.cell 1
              have O7 := Ty.far3 (t := tIs) (Ty.far3 (t := tIs) (Ty.far3 (t := tIs) (Ty.below (t := tIs) hO7 hC4) (p := ⟨w1.heap.size, 0, none⟩) (fun hx => by have := tIs.lt hO7 _ hx; dsimp only at this; omega) (.slice A9 n9 c9)) (p := ⟨w.heap.size + 1 + 1, 0, none⟩) (fun hx => by have := hM7.2 _ hx; dsimp only at this; omega) (.slice A9 n9 c9)) (p := ⟨w.heap.size + 1 + 1, 1, none⟩) (fun hx => by have := hM7.2 _ hx; dsimp only at this; omega) (.slice A7 n7 c7)
              refine bodyPost_ret (v := .tuple #[.agg #[.slice A9 n9 c9, .slice A7 n7 c7], .int .i64 0]) (by simp [results, Try.results100, go_sem, e0, e1]) rfl ⟨_, _, rfl, ⟨hG9.doneAs (by simp [World.setCell]; omega), fun _ b hb => by have := (hG9.own b hb).1; omega⟩, slX_O O7 (fun f hf => by have := hM7.2 f hf; omega), ?_⟩
              exact bel_put (bel_put (bel_put hB4 (by show _ ≤ w1.heap.size; omega) _) (by show _ ≤ w.heap.size + 1 + 1; omega) _) (by show _ ≤ w.heap.size + 1 + 1; omega) _
            exact AllReadyH.nil
          exact AllReadyH.nil
        exact AllReadyH.nil
      exact AllReadyH.nil
    refine AllReadyH.cons rfl (fun K hK => ?_) ?_
    · go_simp
      refine hK.out _ _ (by exact ⟨H_V.cell 0, H_V.cell 1, H_V.cell 2⟩) (fun hHeld => ?_)
      clear hK K
      (try simp only [Act.put, qa_, qb_, qc_])
      refine wpAnyH_ready (rs := [0]) (by kernel_rfl) (by simp) ?_
      refine AllReadyH.cons rfl (fun K hK => ?_) ?_
      · go_simp
        refine hK.out _ _ (by exact ⟨H_VE.cell 0, H_VE.cell 1, H_VE.cell 2⟩) (fun hHeld => ?_)
        clear hK K
        (try simp only [Act.put, qa_, qb_, qc_])
        refine wpAnyH_ready (rs := [3]) (by kernel_rfl) (by simp) ?_
        refine AllReadyH.cons rfl (fun K hK => ?_) ?_
        · have hE : GrowR (XT g tHeld) 30 ((((w1.alloc (.cells #[.slice A0 n0 c0, .slice A7 n7 c7] 26)).alloc (.cells [.int .i64 x0, .int .i64 x1, .slice A2 n2 c2].toArray 30)).alloc (.cells #[] 30)).drew) (w1.heap.size + 1) w.heap.size (.slice (some ⟨w1.heap.size + 2, 0, none⟩) 0 0) [] := GrowR.drew (by simpa using (GrowR.empty (t := XT g tHeld) (e := 30) (w := ((w1.alloc (.cells #[.slice A0 n0 c0, .slice A7 n7 c7] 26)).alloc (.cells [.int .i64 x0, .int .i64 x1, .slice A2 n2 c2].toArray 30))) (base := w1.heap.size + 1) (B := w.heap.size) (by first | (simp; done) | (simp; omega)))) (by simp; omega)
          have hR3 : (XT g tHeld).row.R ((((w1.alloc (.cells #[.slice A0 n0 c0, .slice A7 n7 c7] 26)).alloc (.cells [.int .i64 x0, .int .i64 x1, .slice A2 n2 c2].toArray 30)).alloc (.cells #[] 30)).drew) w.heap.size [.slice A0 n0 c0] p1 := (XT g tHeld).row.keep hr0 (fun b hb => (show Below w.heap.size w ((((w1.alloc (.cells #[.slice A0 n0 c0, .slice A7 n7 c7] 26)).alloc (.cells [.int .i64 x0, .int .i64 x1, .slice A2 n2 c2].toArray 30)).alloc (.cells #[] 30)).drew) from bel_trans hB1 (belx)).block b hb)
          refine GrowR.stepRow (by rfl) (.tmp 25) (.tmp 27) _ (by rfl) i1 _ 3 40 Try.underlying23 hj0 hj1 hj2 hj3 tz (by omega) rfl (by rfl) hE (by rfl) hR3 one_cells_HeldX (by omega) (by first | omega | (simp; done) | (simp; omega) | (show _ ≤ (World.alloc _ _).heap.size; simp) | (show _ ≤ (World.alloc _ _).heap.size; simp; omega)) t1 t2 ?_
          intro v3 w3 hG3 hgr3
          have z3 : w1.heap.size + 1 + 2 ≤ w3.heap.size := Nat.le_trans (by first | omega | (simp; done) | (simp; omega) | (show _ ≤ (World.alloc _ _).heap.size; simp) | (show _ ≤ (World.alloc _ _).heap.size; simp; omega)) hgr3.size
          have hB3 : Below w.heap.size w w3 := Below.grown (w := (((w1.alloc (.cells #[.slice A0 n0 c0, .slice A7 n7 c7] 26)).alloc (.cells [.int .i64 x0, .int .i64 x1, .slice A2 n2 c2].toArray 30)).alloc (.cells #[] 30)).drew) (bel_trans hB1 (belx)) hgr3 (by first | omega | (simp; done) | (simp; omega) | (show _ ≤ (World.alloc _ _).heap.size; simp) | (show _ ≤ (World.alloc _ _).heap.size; simp; omega)) (fun b hb => by have e := Option.some.inj (show (some (w1.heap.size + 2)) = some b from hb); omega)
          have hC3 : Below w1.heap.size w1 w3 := Below.grown (w := (((w1.alloc (.cells #[.slice A0 n0 c0, .slice A7 n7 c7] 26)).alloc (.cells [.int .i64 x0, .int .i64 x1, .slice A2 n2 c2].toArray 30)).alloc (.cells #[] 30)).drew) (belx) hgr3 (by first | omega | (simp; done) | (simp; omega) | (show _ ≤ (World.alloc _ _).heap.size; simp) | (show _ ≤ (World.alloc _ _).heap.size; simp; omega)) (fun b hb => by have e := Option.some.inj (show (some (w1.heap.size + 2)) = some b from hb); omega)
          have H3 := Box.grown (w := (((w1.alloc (.cells #[.slice A0 n0 c0, .slice A7 n7 c7] 26)).alloc (.cells [.int .i64 x0, .int .i64 x1, .slice A2 n2 c2].toArray 30)).alloc (.cells #[] 30)).drew) (Box.drew H_VE) hgr3 (fun e => by have e := Option.some.inj (show some (w.heap.size + 1) = (some (w1.heap.size + 2)) from e); omega)
          have T3 := Box.grown (w := (((w1.alloc (.cells #[.slice A0 n0 c0, .slice A7 n7 c7] 26)).alloc (.cells [.int .i64 x0, .int .i64 x1, .slice A2 n2 c2].toArray 30)).alloc (.cells #[] 30)).drew) (Box.drew T_VE) hgr3 (fun e => by have e := Option.some.inj (show some w1.heap.size = (some (w1.heap.size + 2)) from e); omega)
          have Y3 := Box.grown (w := (((w1.alloc (.cells #[.slice A0 n0 c0, .slice A7 n7 c7] 26)).alloc (.cells [.int .i64 x0, .int .i64 x1, .slice A2 n2 c2].toArray 30)).alloc (.cells #[] 30)).drew) (Box.drew Y_VE) hgr3 (fun e => by have e := Option.some.inj (show some (w.heap.size + 1 + 1) = (some (w1.heap.size + 2)) from e); omega)
          have V3 := Box.grown (w := (((w1.alloc (.cells #[.slice A0 n0 c0, .slice A7 n7 c7] 26)).alloc (.cells [.int .i64 x0, .int .i64 x1, .slice A2 n2 c2].toArray 30)).alloc (.cells #[] 30)).drew) (Box.drew V_VE) hgr3 (fun e => by have e := Option.some.inj (show some (w1.heap.size + 1) = (some (w1.heap.size + 2)) from e); omega)
          have hOwn3 := hG3.own
          have hG3' : GrowR (XT g tHeld) 30 w3 (w1.heap.size + 1) w.heap.size v3 p1 := hG3
          have H3V := H3.alloc (.cells ([.int .i64 x0, .int .i64 x1, .slice A2 n2 c2].toArray) 30)
          refine hK.out _ _ (by exact ⟨H3.cell 0, H3.cell 1, H3.cell 2⟩) (fun hHeld => ?_)
          clear hK K
          (try simp only [Act.put, qa_, qb_, qc_])
          refine wpAnyH_ready (rs := [6]) (by kernel_rfl) (by simp) ?_
          refine AllReadyH.cons rfl (fun K hK => ?_) ?_
          · refine GrowR.step (by rfl) (.tmp 28) (.tmp 30) _ (by rfl) i1 _ 3 40 Try.underlying23 hj0 hj1 hj2 hj3 tz (by omega) rfl (by rfl) hG3' (w1.heap.size + 1) [.int .i64 x0, .int .i64 x1, .slice A2 n2 c2] ph (by rfl) V3 ((XT g tHeld).keep hRh (fun b hb => (show Below w.heap.size w w3 from hB3).block b hb)) (one_held _ _ _ _ _) (by omega) (by first | omega | (simp; done) | (simp; omega) | (show _ ≤ (World.alloc _ _).heap.size; simp) | (show _ ≤ (World.alloc _ _).heap.size; simp; omega)) t3 t4 ?_
            intro v4 w4 hG4 hgr4
            obtain ⟨A9, n9, c9, rfl, -⟩ := hG4.shapeN
            have hB4 : Below w.heap.size w w4 := Below.grown (w := w3) hB3 hgr4 (by first | omega | (simp; done) | (simp; omega) | (show _ ≤ (World.alloc _ _).heap.size; simp) | (show _ ≤ (World.alloc _ _).heap.size; simp; omega)) (fun b hb => by have := (hOwn3 b hb).1; omega)
            have hC4 : Below w1.heap.size w1 w4 := Below.grown (w := w3) hC3 hgr4 (by first | omega | (simp; done) | (simp; omega) | (show _ ≤ (World.alloc _ _).heap.size; simp) | (show _ ≤ (World.alloc _ _).heap.size; simp; omega)) (fun b hb => by have := (hOwn3 b hb).1; omega)
            have z4 : w1.heap.size + 1 ≤ w4.heap.size := Nat.le_trans (by first | omega | (simp; done) | (simp; omega) | (show _ ≤ (World.alloc _ _).heap.size; simp) | (show _ ≤ (World.alloc _ _).heap.size; simp; omega)) hgr4.size
            have H4 := Box.grown (w := w3) H3 hgr4 (fun e => by have := (hOwn3 _ e.symm).1; omega)
            have T4 := Box.grown (w := w3) T3 hgr4 (fun e => by have := (hOwn3 _ e.symm).1; omega)
            have Y4 := Box.grown (w := w3) Y3 hgr4 (fun e => by have := (hOwn3 _ e.symm).1; omega)
            have q0 := T4.cell 0
            have q1 := T4.cell 1
            have f0 := T4.frozen 0
            have f1 := T4.frozen 1
            have H9 := H4.far (p := ⟨w1.heap.size, 0, none⟩) (by show w.heap.size + 1 ≠ w1.heap.size; omega) (.slice A9 n9 c9)
            have Y9 := Y4.far (p := ⟨w1.heap.size, 0, none⟩) (by show w.heap.size + 1 + 1 ≠ w1.heap.size; omega) (.slice A9 n9 c9)
            have T9 := T4.put 0 (.slice A9 n9 c9)
            have y0 := Y9.cell 0
            have y1 := Y9.cell 1
            have y2 := Y9.frozen 0
            have y3 := Y9.frozen 1
            have s0 := T9.cell 0
            have s1 := T9.cell 1
            refine hK.out _ _ (by exact ⟨H4.cell 0, H4.cell 1, H4.cell 2⟩) (fun hHeld => ?_)
            clear hK K
            (try simp only [Act.put, qa_, qb_, qc_])
            refine wpAnyH_take (i := 7) (oi := ⟨some 32, _, _, _, _, _⟩) (v := ?v10) rfl (by kernel_rfl) (by kernel_rfl) (by kernel_rfl) (fun _ _ _ h => h) (Or.inl ⟨by rfl, ?hy10⟩) (by assumption) ?_
            case hy10 => (intro w hSw; (try dsimp only at hSw); go_simp; try (with_reducible rfl))
            (try simp only [Act.put, qa_, qb_, qc_])
            refine wpAnyH_ready (rs := [8]) (by kernel_rfl) (by simp) ?_
            refine AllReadyH.cons rfl (fun K hK => ?_) ?_
            · go_simp
              refine hK.out _ _ (by exact ⟨H9.cell 0, H9.cell 1, H9.cell 2⟩) (fun hHeld => ?_)
              clear hK K
              (try simp only [Act.put, qa_, qb_, qc_])
              refine wpAnyH_done (by kernel_rfl) ?_ _
              go_wp2
              have hG9 := ((hG4.put (p := ⟨w1.heap.size, 0, none⟩) (by show w1.heap.size < _; omega) (by show _ ≤ w1.heap.size; omega) (.slice A9 n9 c9)).put (p := ⟨w.heap.size + 1 + 1, 0, none⟩) (by show w.heap.size + 1 + 1 < _; omega) (by show _ ≤ w.heap.size + 1 + 1; omega) (.slice A9 n9 c9)).put (p := ⟨w.heap.size + 1 + 1, 1, none⟩) (by show w.heap.size + 1 + 1 < _; omega) (by show _ ≤ w.heap.size + 1 + 1; omega) (.slice A7 n7 c7)
              have RR := (Y9.put 0 (.slice A9 n9 c9)).put 1 (.slice A7 n7 c7)
              have e0 := RR.cell 0
              have e1 := RR.cell 1
              have O7 := Ty.far3 (t := tIs) (Ty.far3 (t := tIs) (Ty.far3 (t := tIs) (Ty.below (t := tIs) hO7 hC4) (p := ⟨w1.heap.size, 0, none⟩) (fun hx => by have := tIs.lt hO7 _ hx; dsimp only at this; omega) (.slice A9 n9 c9)) (p := ⟨w.heap.size + 1 + 1, 0, none⟩) (fun hx => by have := hM7.2 _ hx; dsimp only at this; omega) (.slice A9 n9 c9)) (p := ⟨w.heap.size + 1 + 1, 1, none⟩) (fun hx => by have := hM7.2 _ hx; dsimp only at this; omega) (.slice A7 n7 c7)
              refine bodyPost_ret (v := .tuple #[.agg #[.slice A9 n9 c9, .slice A7 n7 c7], .int .i64 0]) (by simp [results, Try.results100, go_sem, e0, e1]) rfl ⟨_, _, rfl, ⟨hG9.doneAs (by simp [World.setCell]; omega), fun _ b hb => by have := (hG9.own b hb).1; omega⟩, slX_O O7 (fun f hf => by have := hM7.2 f hf; omega), ?_⟩
              exact bel_put (bel_put (bel_put hB4 (by show _ ≤ w1.heap.size; omega) _) (by show _ ≤ w.heap.size + 1 + 1; omega) _) (by show _ ≤ w.heap.size + 1 + 1; omega) _
            exact AllReadyH.nil
          exact AllReadyH.nil
        exact AllReadyH.nil
      exact AllReadyH.nil
    exact AllReadyH.nil
  exact AllReadyH.nil
/-- A pool that does not hang on the cursor's block. -/
def PlX (g : Nat) (w : World) (v0 v1 : Value) (p : DPool) : Prop := RowX g tHeld w v0 p.1 ∧ (XT g tIs).R w w.heap.size [v1] p.2
theorem s_admitX {w : World} {g : Nat} {v0 v1 : Value} {ch : List Value} {p : DPool} {h : DHeld} {tag : Int} (hp : PlX g w v0 v1 p) (hh : (XT g tHeld).R w w.heap.size ch h) (hg : g ≤ w.heap.size) (hn0 : p.1.length ≤ 12) (hn1 : p.2.length ≤ 60) (hw : (Lit.int .i64 tag).wf = true) :
    Calls Try.prog 100 #[.agg #[v0, v1], .agg ch.toArray, .int .i64 tag] w fun e w' => ∃ v0' v1', e = .returned (.tuple #[.agg #[v0', v1'], .int .i64 (admN p tag)]) ∧ PlX g w' v0' v1' (admP p h tag) ∧ Below w.heap.size w w' := by
  have hp0 := hp.1.plain
  have hp1 := xt_R hp.2
  obtain ⟨A0, n0, c0, e0, -⟩ := hp0
  injection e0 with e0 _
  subst e0
  obtain ⟨A1, n1, c1, e1, -⟩ := hp1
  injection e1 with e1 _
  subst e1
  have hp0 := hp.1.plain
  have hp1 := xt_R hp.2
  have hl0 := (rowR_len hp0).1
  have hl1 := (slR_ints hp1).1.1
  obtain ⟨A2, n2, c2, rfl, -⟩ := openHeld (xt_R hh)
  unfold admP admN
  rw [hl0]
  by_cases hr : n0 = 12 ∨ ¬ recN p.2 tag = 0
  · rw [if_pos hr]
    refine (s_admit5_no hp0 hp1 (by omega) (by omega) hw hr).mono ?_
    rintro e w' ⟨rfl, hB⟩
    exact ⟨_, _, rfl, ⟨hp.1.below hB, (XT g tIs).reach hp.2 hB⟩, hB⟩
  · rw [if_neg hr, if_neg (fun x => hr (.inl x))]
    have hr2 : recN p.2 tag = 0 := Classical.byContradiction fun x => hr (.inr x)
    rw [hr2]
    refine (s_admitX_ok hp.1.1 hp1 hh hg (by omega) (by omega) hw hr2).mono ?_
    rintro e w' ⟨v0, v1, rfl, h1, h2, hB⟩
    exact ⟨v0, v1, rfl, ⟨h1, h2⟩, hB⟩
end Go.Proofs.Ytblcfncjghkegaa
namespace Go.Proofs.Ytblcfncjghkegaa
set_option maxRecDepth 100000
set_option linter.unusedVariables false
set_option linter.unusedSimpArgs false
open Go.ChangeShapes Go.WideShapes Go.ChangeAt Go.RowKit
/-- The blocks of a row and of what its elements own. -/
def Blk (v : Value) (F : List Nat) (b : Nat) : Prop := v.ownBlock = some b ∨ b ∈ F
section
variable {α : Type} {t : Ty α} {e : TypeId} {w w' : World} {base B : Nat} {v : Value} {l : List α} {F : List Nat}
theorem GrowO.lower (h : GrowO t e w base v l F) (hb : B ≤ base) : GrowO t e w B v l F := by
  obtain ⟨⟨css, Fs, k1, k2, k3, k4, k5⟩, k6, k7⟩ := h
  exact ⟨⟨css, Fs, ⟨k1.1, k1.2.imp id (fun ⟨g, cap, cur, e1, hg, r⟩ => ⟨g, cap, cur, e1, Nat.le_trans hb hg, r⟩)⟩, k2, k3, k4, k5⟩, k6.lower hb, k7⟩
theorem GrowO.blk (h : GrowO t e w base v l F) : ∀ b, Blk v F b → base ≤ b ∧ b < w.heap.size := fun b hb => by
  rcases hb with hb | hb
  · exact h.own b hb
  · exact ⟨h.2.1.2 b hb, h.lt b hb⟩
end
theorem GrowO.put {α : Type} {t : Ty α} {e : TypeId} {w : World} {base : Nat} {v : Value} {l : List α} {F : List Nat} (h : GrowO t e w base v l F) {p : Addr} (h1 : p.block < base) (u : Value) : GrowO t e (w.setCell p u) base v l F := by
  obtain ⟨⟨css, Fs, k1, k2, k3, rfl, k5⟩, k6, k7⟩ := h
  refine ⟨⟨css, Fs, k1.kept (row := some p.block) ⟨rfl, rfl, rfl, by simp [World.setCell], fun i hi hn => Below.heap_setCell w p u i (fun e => hn (by rw [e]))⟩ ?_, k2, k3, rfl, fun i a es Fi q1 q2 q3 => Ty.far3 (k5 i a es Fi q1 q2 q3) (fun hx => by have := k6.2 _ (mem_flat q3 hx); omega) u⟩, k6, k7⟩
  refine .inr fun e => ?_
  have := (k1.lt _ e).1
  omega
section
variable {α : Type} {t : Ty α} {e : TypeId} {w w' : World} {base B : Nat} {v : Value} {l : List α} {F : List Nat}
/-- A row stays where another one grows. -/
theorem GrowO.past {row : Option Nat} (h : GrowO t e w base v l F) (hg : w.grownBy w' row) (hr : ∀ b, row = some b → ¬ Blk v F b) : GrowO t e w' base v l F := by
  have hlt := h.lt
  obtain ⟨⟨css, Fs, k1, k2, k3, rfl, k5⟩, k6, k7⟩ := h
  refine ⟨⟨css, Fs, k1.kept (row := row) hg ?_, k2, k3, rfl, fun i a es Fi q1 q2 q3 => own_past (k5 i a es Fi q1 q2 q3) hg fun b hb hx => hr b hb (.inr (mem_flat q3 hx))⟩, k6, k7⟩
  cases hv : v.ownBlock with
  | none => exact .inl rfl
  | some b => exact .inr fun e => hr b e.symm (.inl hv)
end
set_option maxHeartbeats 2000000 in
theorem s_ownHeldG {w : World} {n c : Nat} {A : Option Addr} {l : List DHeld} (h : tHeld.row.R w w.heap.size [.slice A n c] l) (hz : rsz szHeld l ≤ 1048576) :
    Calls Try.prog 109 #[.slice A n c] w fun e w' => ∃ A' c' F, e = .returned (.slice A' l.length c') ∧ tHeld.row.O w' [.slice A' l.length c'] l F ∧ New w.heap.size F ∧ Below w.heap.size w w' ∧ ∃ F2, GrowO tHeld 30 w' w.heap.size (.slice A' l.length c') l F2 := by
  obtain ⟨i0, hi0, hz0, hz1, hz2⟩ := info_parts info_cb
  obtain ⟨i1, hj0, hj1, hj2, hj3⟩ := info_parts info_Held
  obtain ⟨e0, _, _⟩ := rowR_len h
  have hn : n ≤ 1048576 := by have := rsz_le (s := szHeld) l; omega
  have HL := Lib.hid e0
  have HZ := Lib.hid hz
  clear e0 hz
  go_enter Try.func109, Try.ntmps109
  go_wp2_with fail
  go_loopw [3, 4] (fun v i wr => ∃ (j : Nat) (F : List Nat), j ≤ n ∧ i = .int .i64 j ∧ GrowO tHeld 30 wr w.heap.size v (l.take j) F ∧ Below w.heap.size w wr) (fun _ i _ => n - (intOf i).toNat)
  case atStart => exact ⟨0, [], by omega, rfl, GrowO.nil, (belx)⟩
  case round =>
    obtain ⟨j, F, hj, rfl, hG, hB⟩ := hrel
    by_cases hlt : j < n
    · obtain ⟨a, b', off, es, hl2, rfl, hb, hes, hR⟩ := rowR_at (K := 3) h hlt rfl
      have HT := Lib.hid (take_sn hl2)
      have HLN := Lib.hid (show (l.take j).length = j from by rw [List.length_take, HL.out]; omega)
      have hsa : a.2.2.length ≤ 1048576 := by have := rsz_step (s := szHeld) hl2; have := HZ.out; unfold szHeld szCell at *; omega
      clear hl2
      obtain ⟨A2, n2, c2, rfl, hi0', hi1', -, -, -, hr2⟩ := openHeld hR
      have hI2 := (slR_ints hr2).1
      have e0 : wr.cell? ⟨b', off + j * 3, none⟩ = some (.int .i64 a.1) := cell_at hB hb (hes 0 (by omega))
      have e1 : wr.cell? ⟨b', off + j * 3 + 1, none⟩ = some (.int .i64 a.2.1) := cell_at hB hb (hes 1 (by omega))
      have e2 : wr.cell? ⟨b', off + j * 3 + 2, none⟩ = some (.slice A2 n2 c2) := cell_at hB hb (hes 2 (by omega))
      clear hes hR
      have zB := hB.size
      have hIr : Ints .u8 wr wr.heap.size A2 n2 a.2.2 := reach hI2 hB
      have hE : ((wr.alloc (.cells #[.int .i64 a.1, .int .i64 a.2.1, .slice A2 n2 c2] 30)).alloc (.cells #[] 5)).ownsRow (wr.heap.size + 1) 5 1 (.slice (some ⟨wr.heap.size + 1, 0, none⟩) 0 0) 0 [] := by simpa using empty9 (wr.alloc (.cells #[.int .i64 a.1, .int .i64 a.2.1, .slice A2 n2 c2] 30)) 5
      have hS : Src ((wr.alloc (.cells #[.int .i64 a.1, .int .i64 a.2.1, .slice A2 n2 c2] 30)).alloc (.cells #[] 5)) 1 A2 n2 (a.2.2.map (Value.int .u8)) := Src.of_ints (reach hIr (belx))
      have hn2 : n2 ≤ 1048576 := by rw [← hIr.1]; exact hsa
      have hOwn := fun b hb => (GrowO.row hG).choose_spec.1.lt b hb
      have hlt2 := hG.lt
      have HIW := Lib.hid hIr.2.2
      have HI1 := Lib.hid hIr.1
      clear hr2 hI2
      go_wp2_with (first
        | (at_builtin; refine wpList_app _ rfl (.tmp 16) (.tmp 19) _ rfl (wr.heap.size + 1) 5 i0 _ 1 1 Try.underlying22 hi0 hz0 hz1 hz2 rfl (by omega) (.slice (some ⟨wr.heap.size + 1, 0, none⟩) 0 0) 0 [] rfl hE _ n2 c2 (a.2.2.map (Value.int .u8)) rfl hS (one_ints _ _) (by simp only [maxLen]; omega) (by omega) (by simp; done) ?_; intro v1 w1 hown hgr hat; obtain ⟨Ad, cd, Fd, rfl, hOd, hNd⟩ := own_slice (Own.of (n := 0 + n2) (by simpa using hown) HIW.out); have hs1 : Below wr.heap.size wr w1 := Below.grown (w := ((wr.alloc (.cells #[.int .i64 a.1, .int .i64 a.2.1, .slice A2 n2 c2] 30)).alloc (.cells #[] 5))) (belx) hgr (by first | (simp; done) | (simp; omega)) (fun b hb => by have e := Option.some.inj (show some (wr.heap.size + 1) = some b from hb); omega); have X1 : Box w1 wr.heap.size 30 #[.int .i64 a.1, .int .i64 a.2.1, .slice A2 n2 c2] := Box.grown (w := ((wr.alloc (.cells #[.int .i64 a.1, .int .i64 a.2.1, .slice A2 n2 c2] 30)).alloc (.cells #[] 5))) ((Box.new wr 30 #[.int .i64 a.1, .int .i64 a.2.1, .slice A2 n2 c2]).alloc _) hgr (fun e => by have e := Option.some.inj (show some wr.heap.size = some (wr.heap.size + 1) from e); omega); have x0 : w1.cell? ⟨wr.heap.size, 0, none⟩ = some (.int .i64 a.1) := X1.cell 0; have x1 : w1.cell? ⟨wr.heap.size, 1, none⟩ = some (.int .i64 a.2.1) := X1.cell 1; have x2 : w1.cell? ⟨wr.heap.size, 2, none⟩ = some (.slice A2 n2 c2) := X1.cell 2; have fx2 := X1.frozen 2; have fx0 := X1.frozen 0; have fx1 := X1.frozen 1)
        | (at_builtin; have hBx : Below wr.heap.size wr ((w1.setCell ⟨wr.heap.size, 2, none⟩ (.slice Ad a.2.2.length cd)).alloc (.cells [.int .i64 a.1, .int .i64 a.2.1, .slice Ad a.2.2.length cd].toArray 30)) := bel_alloc (bel_put hs1 (Nat.le_refl _) _) _; obtain ⟨xs, hrow, hpush⟩ := (hG.below hBx).row; have hsz : (w1.setCell ⟨wr.heap.size, 2, none⟩ (.slice Ad a.2.2.length cd)).heap.size = w1.heap.size := (by simp [World.setCell]); have hS2 : Src ((w1.setCell ⟨wr.heap.size, 2, none⟩ (.slice Ad a.2.2.length cd)).alloc (.cells [.int .i64 a.1, .int .i64 a.2.1, .slice Ad a.2.2.length cd].toArray 30)) 3 (some ⟨w1.heap.size, 0, none⟩) 1 [.int .i64 a.1, .int .i64 a.2.1, .slice Ad a.2.2.length cd] := (by have h := Src.of_box (w1.setCell ⟨wr.heap.size, 2, none⟩ (.slice Ad a.2.2.length cd)) 30 [.int .i64 a.1, .int .i64 a.2.1, .slice Ad a.2.2.length cd] (K := 3) rfl; rw [hsz] at h; exact h); have tz : (Value.agg #[Value.int .i64 0, Value.int .i64 0, Value.slice none 0 0]).cells.size = 3 := (by first | rfl | (simp [Value.cells]; done)); have t0 := one_held a.1 a.2.1 Ad a.2.2.length cd; have t1 : (l.take j).length + 1 ≤ maxLen := (by simp only [maxLen]; have := HLN.out; omega); have t2 : ((l.take j).length + 1) * 40 ≤ 140737488355328 := (by have := HLN.out; omega); have t3 := hBx.size; refine wpList_app _ rfl (.tmp 23) (.tmp 25) _ rfl w.heap.size 30 i1 _ 3 40 Try.underlying23 hj0 hj1 hj2 hj3 tz (by omega) u3 _ xs rfl hrow _ 1 1 [.int .i64 a.1, .int .i64 a.2.1, .slice Ad a.2.2.length cd] rfl hS2 t0 t1 t2 (by omega) ?_; intro v2 w2 hown2 hgr2 hat2; have hOx : tBy.O ((w1.setCell ⟨wr.heap.size, 2, none⟩ (.slice Ad a.2.2.length cd)).alloc (.cells [.int .i64 a.1, .int .i64 a.2.1, .slice Ad a.2.2.length cd].toArray 30)) [.slice Ad a.2.2.length cd] a.2.2 Fd := Ty.below (t := tBy) (Ty.far3 (t := tBy) hOd (p := ⟨wr.heap.size, 2, none⟩) (fun hx => absurd (hNd.2 wr.heap.size hx) (by omega)) _) (belx); obtain ⟨Fx, hOel, ex⟩ := makeOHeld (p := a) hi0' hi1' hOx; subst ex; have hNel : New w.heap.size Fx := hNd.lower (by omega); have hdis : ∀ f ∈ Fx, f ∉ F := (fun f h1 h2 => by have := hNd.2 _ h1; have := hlt2 f h2; omega); have hod : ∀ b, u3.ownBlock = some b → b ∉ Fx := (fun b hb hx => by have := (hOwn b hb).2; have := hNd.2 _ hx; omega); have hfin := hpush w2 v2 a _ Fx hOel hNel hdis hod hown2 hgr2 hat2; have hBf : Below w.heap.size w w2 := Below.grown (w := ((w1.setCell ⟨wr.heap.size, 2, none⟩ (.slice Ad a.2.2.length cd)).alloc (.cells [.int .i64 a.1, .int .i64 a.2.1, .slice Ad a.2.2.length cd].toArray 30))) (bel_trans hB hBx) hgr2 (by have := hBx.size; omega) (fun b hb => (hOwn b hb).1)))
      go_roundw
      case rel => exact ⟨j + 1, _, by omega, by go_num, by rw [HT.out]; exact hfin, hBf⟩
      case measure => simp [intOf]; omega
    · obtain rfl : n = j := by omega
      have HA := Lib.hid (show l.take n = l from List.take_of_length_le (Nat.le_of_eq HL.out))
      rw [HA.out] at hG
      go_wp2
      go_ret
      have hG' := hG
      obtain ⟨A3, c3, F3, rfl, hO3, hN3⟩ := hG.done
      exact ⟨A3, c3, F3, rfl, hO3, hN3, hB, _, hG'⟩
set_option maxHeartbeats 2000000 in
theorem s_own5G {w : World} {A0 A1 : Option Addr} {n0 c0 n1 c1 : Nat} {r0 : List DHeld} {l1 : List Int} (h0 : tHeld.row.R w w.heap.size [.slice A0 n0 c0] r0) (h1 : tIs.R w w.heap.size [.slice A1 n1 c1] l1) (hz : rsz szHeld r0 + l1.length ≤ 1048576) :
    Calls Try.prog 101 #[.agg #[.slice A0 n0 c0, .slice A1 n1 c1]] w fun e w' => ∃ A0' c0' A1' c1' F, e = .returned (.agg #[.slice A0' r0.length c0', .slice A1' l1.length c1']) ∧ tPool.O w' [.slice A0' r0.length c0', .slice A1' l1.length c1'] (r0, l1) F ∧ New w.heap.size F ∧ Below w.heap.size w w' ∧ (∃ F2, GrowO tHeld 30 w' w.heap.size (.slice A0' r0.length c0') r0 F2 ∧ ∀ b, Blk (.slice A0' r0.length c0') F2 b → (Value.slice A1' l1.length c1').ownBlock ≠ some b) ∧ Own .i64 3 w' w.heap.size (.slice A1' l1.length c1') l1 := by
  obtain ⟨i0, hi0, hz0, hz1, hz2⟩ := info_parts info_ci
  have hI1 := (slR_ints h1).1
  have hn1 : n1 ≤ 1048576 := by have := hI1.1; omega
  have k0 : ((w.alloc (.cells #[.slice A0 n0 c0, .slice A1 n1 c1] 26)).alloc (.cells #[.slice none 0 0, .slice none 0 0] 26)).cell? ⟨w.heap.size, 0, none⟩ = some (.slice A0 n0 c0) := ((Box.new w _ _).alloc _).cell 0
  have k1 : ((w.alloc (.cells #[.slice A0 n0 c0, .slice A1 n1 c1] 26)).alloc (.cells #[.slice none 0 0, .slice none 0 0] 26)).cell? ⟨w.heap.size, 1, none⟩ = some (.slice A1 n1 c1) := ((Box.new w _ _).alloc _).cell 1
  clear h1
  go_enter Try.func101, Try.ntmps101
  go_wp2_with fail
  go_region_held3 (fun w' => w'.cell? ⟨w.heap.size, 0, none⟩ = some (.slice A0 n0 c0) ∧ w'.cell? ⟨w.heap.size, 1, none⟩ = some (.slice A1 n1 c1)) (first | (exact ⟨k0, k1⟩) | (exact ⟨x0, x1⟩) | (exact ⟨y0, y1⟩) | go_keep)
    (first
      | (go_at_call 109; refine (s_ownHeldG (tHeld.row.reach h0 (belx)) (by omega)).mono ?_; rintro e w1 ⟨B0, d0, F0, rfl, hO0, hN0, hb1, F2, hG0⟩; have hG0b := hG0.blk; have hN0s : w.heap.size + 2 ≤ (World.alloc (World.alloc w (.cells #[] 0)) (.cells #[] 0)).heap.size := (by simp); have X1 : Box w1 w.heap.size 26 #[.slice A0 n0 c0, .slice A1 n1 c1] := Box.below (by first | exact Box.drew ((Box.new w _ _).alloc _) | exact Box.drew (((Box.new w _ _).alloc _).alloc _)) hb1 (by show _ < (World.alloc _ _).heap.size; simp; omega); have Y1 : Box w1 (w.heap.size + 1) 26 #[.slice none 0 0, .slice none 0 0] := Box.below (by first | exact Box.drew (by simpa using Box.new (w.alloc _) 26 #[.slice none 0 0, .slice none 0 0]) | exact Box.drew (Box.alloc (by simpa using Box.new (w.alloc _) 26 #[.slice none 0 0, .slice none 0 0]) _)) hb1 (by show _ < (World.alloc _ _).heap.size; first | (simp; done) | (simp; omega)); have x0 := X1.cell 0; have x1 := X1.cell 1; have hB1 : Below w.heap.size w w1 := bel_trans (belx) hb1; have z1 : w.heap.size + 2 ≤ w1.heap.size := (by first | (have : (World.alloc (World.alloc w _) _).heap.size ≤ w1.heap.size := hb1.size; simpa using this) | (have : (World.alloc (World.alloc (World.alloc w _) _) _).heap.size ≤ w1.heap.size := hb1.size; simp at this; omega)); have hEA := empty9 w1 3; have hSA : Src (w1.alloc (.cells #[] 3)) 1 A1 n1 (l1.map (Value.int .i64)) := Src.of_ints (reach (reach hI1 hB1) (belx)); have hSB : Src w1 1 A1 n1 (l1.map (Value.int .i64)) := Src.of_ints (reach hI1 hB1))
      | (refine step_app5 _ (by rfl) (.tmp 6) (.tmp 8) _ (by rfl) w1.heap.size 3 i0 _ 1 8 Try.underlying24 hi0 hz0 hz1 hz2 rfl (by omega) (.slice (some ⟨w1.heap.size, 0, none⟩) 0 0) 0 [] (by rfl) hEA _ n1 c1 (l1.map (Value.int .i64)) (by rfl) hSA (one_ints _ _) (by simp only [maxLen]; omega) (by omega) (by first | omega | (simp; done) | (simp; omega)) ?_; intro v1 w2 hown hgr hat; have hOw0 := Own.of (n := 0 + n1) (by simpa using hown) hI1.2.2; obtain ⟨B1, d1, F1, rfl, hOd, hNd0⟩ := own_slice hOw0; have hOw : Own .i64 3 w2 (w.heap.size + 2) (.slice B1 l1.length d1) l1 := hOw0.lower (by omega); have hG2 : GrowO tHeld 30 w2 _ (.slice B0 r0.length d0) r0 F2 := GrowO.past (hG0.below (belx)) hgr (fun b hb hx => by have e := Option.some.inj (show some w1.heap.size = some b from hb); have := (hG0b b hx).2; omega); have hap : ∀ b, Blk (.slice B0 r0.length d0) F2 b → (Value.slice B1 l1.length d1).ownBlock ≠ some b := (fun b hb e => by have h1 := (hG0b b hb).2; have h2 := (hOw0.block e).1; omega); have hgz : w.heap.size + 2 ≤ w2.heap.size := (by have h := hgr.size; simp at h; omega); have hNd : New (w.heap.size + 2) F1 := hNd0.lower (by omega); have hO2 : tHeld.row.O w2 _ r0 F0 := own_past (w := (w1.alloc (.cells #[] 3))) (Ty.below (t := tHeld.row) hO0 (belx)) hgr (fun b hb hx => by have e := Option.some.inj (show some (w1.heap.size) = some b from hb); have h1 := tHeld.row.lt hO0 b hx; have h2 := hN0.2 b hx; omega); have hdis : ∀ f ∈ F0, f ∉ F1 := (fun f h1 h2 => by have := tHeld.row.lt hO0 f h1; have := hNd0.2 f h2; omega); have hs2 : Below w.heap.size w w2 := Below.grown (w := (w1.alloc (.cells #[] 3))) (bel_trans hB1 (belx)) hgr (by first | omega | (simp; done) | (simp; omega)) (fun b hb => by have e := Option.some.inj (show some (w1.heap.size) = some b from hb); omega); have X2 : Box w2 w.heap.size 26 #[.slice A0 n0 c0, .slice A1 n1 c1] := Box.grown (w := (w1.alloc (.cells #[] 3))) (X1.alloc _) hgr (fun e => by have e := Option.some.inj (show some w.heap.size = some (w1.heap.size) from e); omega); have Y2 : Box w2 (w.heap.size + 1) 26 #[.slice none 0 0, .slice none 0 0] := Box.grown (w := (w1.alloc (.cells #[] 3))) (Y1.alloc _) hgr (fun e => by have e := Option.some.inj (show some (w.heap.size + 1) = some (w1.heap.size) from e); omega); have y0 := X2.cell 0; have y1 := X2.cell 1; have q0 := Y2.cell 0; have q1 := Y2.cell 1; have f0 := Y2.frozen 0; have f1 := Y2.frozen 1)
      | (have hEB : w1.ownsRow (w.heap.size + 2) 3 1 (.slice (some ⟨w.heap.size + 2, 0, none⟩) 0 0) 0 [] := (World.ownsRow.kept (w := (((w.alloc (.cells #[.slice A0 n0 c0, .slice A1 n1 c1] 26)).alloc (.cells #[.slice none 0 0, .slice none 0 0] 26)).alloc (.cells #[] 3)).drew) (World.ownsRow.kept (w := ((w.alloc (.cells #[.slice A0 n0 c0, .slice A1 n1 c1] 26)).alloc (.cells #[.slice none 0 0, .slice none 0 0] 26)).alloc (.cells #[] 3)) (by simpa using empty9 ((w.alloc (.cells #[.slice A0 n0 c0, .slice A1 n1 c1] 26)).alloc (.cells #[.slice none 0 0, .slice none 0 0] 26)) 3) (row := none) (gb_drew (World.grownBy.refl _ _)) (.inr (by simp [Value.ownBlock]))) (row := none) (below_grownBy hb1) (.inr (by simp [Value.ownBlock]))); refine step_app5 _ (by rfl) (.tmp 6) (.tmp 8) _ (by rfl) (w.heap.size + 2) 3 i0 _ 1 8 Try.underlying24 hi0 hz0 hz1 hz2 rfl (by omega) (.slice (some ⟨(w.heap.size + 2), 0, none⟩) 0 0) 0 [] (by rfl) hEB _ n1 c1 (l1.map (Value.int .i64)) (by rfl) hSB (one_ints _ _) (by simp only [maxLen]; omega) (by omega) (by first | omega | (simp; done) | (simp; omega)) ?_; intro v1 w2 hown hgr hat; have hOw0 := Own.of (n := 0 + n1) (by simpa using hown) hI1.2.2; obtain ⟨B1, d1, F1, rfl, hOd, hNd0⟩ := own_slice hOw0; have hOw : Own .i64 3 w2 (w.heap.size + 2) (.slice B1 l1.length d1) l1 := hOw0; have hG2 : GrowO tHeld 30 w2 _ (.slice B0 r0.length d0) r0 F2 := GrowO.past hG0 hgr (fun b hb hx => by have e := Option.some.inj (show some (w.heap.size + 2) = some b from hb); have h1 := (hG0b b hx).1; have h3 : w.heap.size + 3 ≤ b := Nat.le_trans (by show _ ≤ (World.alloc _ _).heap.size; simp) h1; omega); have hap : ∀ b, Blk (.slice B0 r0.length d0) F2 b → (Value.slice B1 l1.length d1).ownBlock ≠ some b := (fun b hb e => by have h1 := hG0b b hb; have h5 : w.heap.size + 3 ≤ b := Nat.le_trans (by show _ ≤ (World.alloc _ _).heap.size; simp) h1.1; rcases hat with h6 | h6 <;> rw [h6] at e; (have h7 := Option.some.inj (show some (w.heap.size + 2) = some b from e); omega); (have h7 := Option.some.inj e; omega)); have hgz : w.heap.size + 2 ≤ w2.heap.size := (by have h := hgr.size; omega); have hNd : New (w.heap.size + 2) F1 := hNd0.lower (by omega); have hO2 : tHeld.row.O w2 _ r0 F0 := own_past (w := w1) (hO0) hgr (fun b hb hx => by have e := Option.some.inj (show some ((w.heap.size + 2)) = some b from hb); have h1 := tHeld.row.lt hO0 b hx; have h2 := hN0.2 b hx; have h3 : w.heap.size + 3 ≤ b := Nat.le_trans (by show _ ≤ (World.alloc _ _).heap.size; simp) h2; omega); have hdis : ∀ f ∈ F0, f ∉ F1 := (fun f h1 h2 => by have h3 := slO_own hOd f h2; have h4 := tHeld.row.lt hO0 f h1; have h5 : w.heap.size + 3 ≤ f := Nat.le_trans (by show _ ≤ (World.alloc _ _).heap.size; simp) (hN0.2 f h1); rcases hat with h6 | h6 <;> rw [h3] at h6; (have h7 := Option.some.inj (show some f = some (w.heap.size + 2) from h6); omega); (have h7 := Option.some.inj h6; omega)); have hs2 : Below w.heap.size w w2 := Below.grown (w := w1) hB1 hgr (by first | omega | (simp; done) | (simp; omega)) (fun b hb => by have e := Option.some.inj (show some ((w.heap.size + 2)) = some b from hb); omega); have X2 : Box w2 w.heap.size 26 #[.slice A0 n0 c0, .slice A1 n1 c1] := Box.grown (w := w1) (X1) hgr (fun e => by have e := Option.some.inj (show some w.heap.size = some ((w.heap.size + 2)) from e); omega); have Y2 : Box w2 (w.heap.size + 1) 26 #[.slice none 0 0, .slice none 0 0] := Box.grown (w := w1) (Y1) hgr (fun e => by have e := Option.some.inj (show some (w.heap.size + 1) = some ((w.heap.size + 2)) from e); omega); have y0 := X2.cell 0; have y1 := X2.cell 1; have q0 := Y2.cell 0; have q1 := Y2.cell 1; have f0 := Y2.frozen 0; have f1 := Y2.frozen 1))
  all_goals go_wp2
  all_goals
    have RR := (Y2.put 0 (.slice B0 r0.length d0)).put 1 (.slice B1 l1.length d1)
    have e0 := RR.cell 0
    have e1 := RR.cell 1
    have hM : New (w.heap.size + 2) (F0 ++ F1) := new_pair (hN0.lower (by show _ ≤ (World.alloc _ _).heap.size; first | (simp; done) | (simp; omega))) hNd hdis
    have hgs : (w.alloc (.cells #[.slice A0 n0 c0, .slice A1 n1 c1] 26)).heap.size = w.heap.size + 1 := by simp
    have hG4 : GrowO tHeld 30 _ (w.heap.size + 2) _ r0 F2 := ((hG2.lower (by show _ ≤ (World.alloc _ _).heap.size; first | (simp; done) | (simp; omega))).put (p := ⟨w.heap.size + 1, 0, none⟩) (by show w.heap.size + 1 < w.heap.size + 2; omega) (.slice B0 r0.length d0)).put (p := ⟨w.heap.size + 1, 1, none⟩) (by show w.heap.size + 1 < w.heap.size + 2; omega) (.slice B1 l1.length d1)
    have hO4 : Own .i64 3 _ (w.heap.size + 2) _ l1 := (hOw.kept (gb_put (gb_self w2 (w.heap.size + 1)) 0 (.slice B0 r0.length d0)) (.inr (fun e => by have := (hOw.block e).1; omega))).kept (gb_put (gb_self _ (w.heap.size + 1)) 1 (.slice B1 l1.length d1)) (.inr (fun e => by have := (hOw.block e).1; omega))
    refine bodyPost_ret (v := .agg #[.slice B0 r0.length d0, .slice B1 l1.length d1]) (by simp [results, Try.results101, go_sem, e0, e1]) rfl ⟨B0, d0, B1, d1, F0 ++ F1, rfl, put2_Pool hO2 hOd (hM.not (by omega)), hM.lower (by omega), ?_, ⟨F2, hG4.lower (by omega), hap⟩, hO4.lower (by omega)⟩
    exact bel_put (bel_put hs2 (by simp) _) (by simp) _
end Go.Proofs.Ytblcfncjghkegaa
