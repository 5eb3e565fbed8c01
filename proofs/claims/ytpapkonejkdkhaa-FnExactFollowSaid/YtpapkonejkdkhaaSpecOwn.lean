/-
  Contracts of the model's Peel, NextOf.
-/
import Derived.Test.YtpapkonejkdkhaaSpecPeel
namespace Go.Proofs.Ytpapkonejkdkhaa
set_option maxRecDepth 100000
set_option linter.unusedSimpArgs false
set_option linter.unusedVariables false
open Go.ChangeShapes Go.WideShapes Go.ChangeAt Go.RowKit
open Fld
attribute [local go_sem ↓] Go.wp_at_zero Go.wp_at_succ

set_option maxHeartbeats 2000000 in
theorem s_own {w : World} {vL vC : Value} {lL lC : List Int} (x0 x1 x2 : Int) (hL : Reads w vL lL) (hC : Reads w vC lC) (hl1 : lL.length ≤ 80) (hl2 : lC.length ≤ 80) :
    Calls Try.prog 51 #[.agg #[.int .i64 x0, .int .i64 x1, .int .i64 x2, vL, vC]] w fun e w' => ∃ v1 v2, e = .returned (.agg #[.int .i64 x0, .int .i64 x1, .int .i64 x2, v1, v2]) ∧ Own .u8 5 w' w.heap.size v1 lL ∧ Own .u8 5 w' w.heap.size v2 lC ∧ (v2.ownBlock = none ∨ v2.ownBlock ≠ v1.ownBlock) ∧ Below w.heap.size w w' := by
  obtain ⟨i0, hi0, hz0, hz1, hz2⟩ := info_parts info_by
  obtain ⟨AL, nL, cL, rfl, hL1, hL2, hIL⟩ := hL
  obtain ⟨AC, nC, cC, rfl, hC1, hC2, hIC⟩ := hC
  have bP : Box ((w.alloc (.cells #[.int .i64 x0, .int .i64 x1, .int .i64 x2, .slice AL nL cL, .slice AC nC cC] 28)).alloc (.cells #[.int .i64 0, .int .i64 0, .int .i64 0, .slice none 0 0, .slice none 0 0] 28)) w.heap.size 28 #[.int .i64 x0, .int .i64 x1, .int .i64 x2, .slice AL nL cL, .slice AC nC cC] := (Box.new w _ _).alloc _
  have bR : Box ((w.alloc (.cells #[.int .i64 x0, .int .i64 x1, .int .i64 x2, .slice AL nL cL, .slice AC nC cC] 28)).alloc (.cells #[.int .i64 0, .int .i64 0, .int .i64 0, .slice none 0 0, .slice none 0 0] 28)) (w.heap.size + 1) 28 #[.int .i64 0, .int .i64 0, .int .i64 0, .slice none 0 0, .slice none 0 0] := by have := Box.new (w.alloc (.cells #[.int .i64 x0, .int .i64 x1, .int .i64 x2, .slice AL nL cL, .slice AC nC cC] 28)) 28 #[.int .i64 0, .int .i64 0, .int .i64 0, .slice none 0 0, .slice none 0 0]; simpa using this
  have hB0 : Below w.heap.size w ((w.alloc (.cells #[.int .i64 x0, .int .i64 x1, .int .i64 x2, .slice AL nL cL, .slice AC nC cC] 28)).alloc (.cells #[.int .i64 0, .int .i64 0, .int .i64 0, .slice none 0 0, .slice none 0 0] 28)) := (by repeat (first | (with_reducible exact Below.refl _ _) | (with_reducible assumption) | (with_reducible refine bel_alloc ?_ _) | (with_reducible refine bel_drew ?_) | (with_reducible refine below_drewN ?_ _) | (with_reducible refine bel_put ?_ (by first | exact Nat.le_refl _ | (simp; done) | (simp; omega)) _)))
  have hE : (((w.alloc (.cells #[.int .i64 x0, .int .i64 x1, .int .i64 x2, .slice AL nL cL, .slice AC nC cC] 28)).alloc (.cells #[.int .i64 0, .int .i64 0, .int .i64 0, .slice none 0 0, .slice none 0 0] 28)).alloc (.cells #[] 5)).ownsRow (w.heap.size + 1 + 1) 5 1 (.slice (some ⟨w.heap.size + 1 + 1, 0, none⟩) 0 0) 0 [] := by simpa using empty_row ((w.alloc (.cells #[.int .i64 x0, .int .i64 x1, .int .i64 x2, .slice AL nL cL, .slice AC nC cC] 28)).alloc (.cells #[.int .i64 0, .int .i64 0, .int .i64 0, .slice none 0 0, .slice none 0 0] 28)) 5
  have hnl := hIL.1; have hnc := hIC.1
  rw [hnl] at hl1; rw [hnc] at hl2
  clear hnl hnc
  go_enter Try.func51, Try.ntmps51
  go_wp2_with (first | (at_builtin; refine wpList_app _ rfl (.tmp 3) (.tmp 5) _ rfl (w.heap.size + 1 + 1) 5 i0 _ 1 1 Try.underlying22 hi0 hz0 hz1 hz2 rfl (by omega) (.slice (some ⟨w.heap.size + 1 + 1, 0, none⟩) 0 0) 0 [] rfl hE AL nL cL (lL.map (Value.int .u8)) rfl (Src.of_ints (reach hIL (bel_alloc hB0 _))) (one_ints _ _) (by simp only [maxLen]; omega) (by omega) (by simp) ?_; intro v1 w1 hown hg hat; have hO1 : Own .u8 5 w1 (w.heap.size + 1 + 1) v1 lL := Own.of (n := nL) (by simpa using hown) hIL.2.2; obtain ⟨A1, c1, rfl, _⟩ := hO1.ints; have hB1 : Below w.heap.size w w1 := Below.grown (a := w) (bel_alloc hB0 _) hg (by simp; omega) (fun b hb => by simp [Value.ownBlock] at hb; omega); have bP1 := (bP.alloc (.cells #[] 5)).grown hg (by simp [Value.ownBlock] <;> omega); have bR1 := (bR.alloc (.cells #[] 5)).grown hg (by simp [Value.ownBlock] <;> omega); have k3 := bP1.cell 3; have j3 := bP1.frozen 3; have bP2 := (bP1.put 3 (.slice A1 lL.length c1)).alloc (.cells #[] 5); have bR2 := (bR1.far (p := ⟨w.heap.size, 3, none⟩) (by show w.heap.size + 1 ≠ w.heap.size; omega) (.slice A1 lL.length c1)).alloc (.cells #[] 5); have m4 := bP2.cell 4; have hz1' := bP1.size; have hO1' := ((hO1.far (g := w.heap.size) (by omega) 3 (.slice A1 lL.length c1)).alloc (.cells #[] 5)); have hE2 : ((w1.setCell ⟨w.heap.size, 3, none⟩ (.slice A1 lL.length c1)).alloc (.cells #[] 5)).ownsRow w1.heap.size 5 1 (.slice (some ⟨w1.heap.size, 0, none⟩) 0 0) 0 [] := (by simpa using empty_row (w1.setCell ⟨w.heap.size, 3, none⟩ (.slice A1 lL.length c1)) 5); have hB2 : Below w.heap.size w ((w1.setCell ⟨w.heap.size, 3, none⟩ (.slice A1 lL.length c1)).alloc (.cells #[] 5)) := bel_alloc (bel_put hB1 (Nat.le_refl _) _) _) | (at_builtin; refine wpList_app _ rfl (.tmp 8) (.tmp 11) _ rfl w1.heap.size 5 i0 _ 1 1 Try.underlying22 hi0 hz0 hz1 hz2 rfl (by omega) (.slice (some ⟨w1.heap.size, 0, none⟩) 0 0) 0 [] rfl hE2 AC nC cC (lC.map (Value.int .u8)) rfl (Src.of_ints (reach hIC hB2)) (one_ints _ _) (by simp only [maxLen]; omega) (by omega) (by simp) ?_; intro v2 w2 hown2 hg2 hat2; have hO2 : Own .u8 5 w2 w1.heap.size v2 lC := Own.of (n := nC) (by simpa using hown2) hIC.2.2; obtain ⟨A2, c2, rfl, _⟩ := hO2.ints; have hB3 : Below w.heap.size w w2 := Below.grown (a := w) hB2 hg2 (by simp; omega) (fun b hb => by simp [Value.ownBlock] at hb; omega); have bP3 := bP2.grown hg2 (by simp [Value.ownBlock] <;> omega); have bR3 := bR2.grown hg2 (by simp [Value.ownBlock]; have := bR1.size; omega); have n4 := bP3.cell 4; have o4 := bP3.frozen 4; have bP4 := bP3.put 4 (.slice A2 lC.length c2); have bR4 := bR3.far (p := ⟨w.heap.size, 4, none⟩) (by show w.heap.size + 1 ≠ w.heap.size; omega) (.slice A2 lC.length c2); have r0 := bP4.cell 0; have r1 := bP4.cell 1; have r2 := bP4.cell 2; have r3 := bP4.cell 3; have r4 := bP4.cell 4; have s0 := bR4.cell 0; have s1 := bR4.cell 1; have s2 := bR4.cell 2; have s3 := bR4.cell 3; have s4 := bR4.cell 4; have f0 := bR4.frozen 0; have f1 := bR4.frozen 1; have f2 := bR4.frozen 2; have f3 := bR4.frozen 3; have f4 := bR4.frozen 4))
  have hz2 := bR1.size
  have hO1k := hO1'.kept hg2 (by
    cases hv : (Value.slice A1 lL.length c1).ownBlock with
    | none => exact .inl rfl
    | some b => exact .inr (fun e => by have := hO1.block hv; simp [Value.ownBlock] at e; omega))
  have bZ := (((((bR4.put 0 (.int .i64 x0)).put 1 (.int .i64 x1)).put 2 (.int .i64 x2)).put 3 (.slice A1 lL.length c1)).put 4 (.slice A2 lC.length c2))
  have e0 := bZ.cell 0; have e1 := bZ.cell 1; have e2 := bZ.cell 2; have e3 := bZ.cell 3; have e4 := bZ.cell 4
  refine bodyPost_ret (v := .agg #[.int .i64 x0, .int .i64 x1, .int .i64 x2, .slice A1 lL.length c1, .slice A2 lC.length c2]) (by simp [results, Try.results51, go_sem, e0, e1, e2, e3, e4]) rfl ?_
  exact ⟨_, _, rfl, ((((((hO1k.far (g := w.heap.size) (by omega) 4 _).far (g := w.heap.size + 1) (by omega) 0 _).far (g := w.heap.size + 1) (by omega) 1 _).far (g := w.heap.size + 1) (by omega) 2 _).far (g := w.heap.size + 1) (by omega) 3 _).far (g := w.heap.size + 1) (by omega) 4 _).lower (by omega), ((((((hO2.far (g := w.heap.size) (by omega) 4 _).far (g := w.heap.size + 1) (by omega) 0 _).far (g := w.heap.size + 1) (by omega) 1 _).far (g := w.heap.size + 1) (by omega) 2 _).far (g := w.heap.size + 1) (by omega) 3 _).far (g := w.heap.size + 1) (by omega) 4 _).lower (by omega), hO2.apart hO1 (Nat.le_refl _), (bel_put (bel_put (bel_put (bel_put (bel_put (bel_put hB3 (Nat.le_refl _) _) (Nat.le_succ _) _) (Nat.le_succ _) _) (Nat.le_succ _) _) (Nat.le_succ _) _) (Nat.le_succ _) _)⟩
theorem ppeel_le {s : Int} {l pad : List Int} (h : l.length = 80) (h2 : 80 ≤ pad.length) : (ppeel s l pad).1.load.length ≤ 80 ∧ (ppeel s l pad).1.cell.length ≤ 80 := by
  by_cases hp : peels s l
  · rw [ppeel_t hp]
    have hx := peelX_len h hp.2.1
    have h68 := hp.2.1
    have hd : ((peelX s l).drop 4).length ≤ 68 := by rw [List.length_drop]; omega
    by_cases h255 : (peelX s l).getD 0 0 = 255
    · show (if (peelX s l).getD 0 0 = 255 then (peelX s l).drop 4 else []).length ≤ 80 ∧ (if (peelX s l).getD 0 0 = 255 then [] else padL ((peelX s l).drop 4) pad).length ≤ 80
      rw [if_pos h255, if_pos h255]
      exact ⟨by omega, by simp⟩
    · show (if (peelX s l).getD 0 0 = 255 then (peelX s l).drop 4 else []).length ≤ 80 ∧ (if (peelX s l).getD 0 0 = 255 then [] else padL ((peelX s l).drop 4) pad).length ≤ 80
      rw [if_neg h255, if_neg h255]
      exact ⟨by simp, Nat.le_of_eq (padL_len (by omega) h2)⟩
  · rw [ppeel_f hp]
    exact ⟨by simp [Pel.zero], by simp [Pel.zero]⟩
set_option maxHeartbeats 2000000 in
theorem s_Peel {w : World} {n c m d : Nat} {A A' : Option Addr} {l pad : List Int} (s : Int) (hl : Ints .u8 w w.heap.size A n l) (hc : n ≤ c) (hcm : c ≤ 9223372036854775807) (hp : Ints .u8 w w.heap.size A' m pad) (hm2 : m ≤ 140737488355328) :
    Calls Try.prog 11 #[.int .i64 s, .agg #[.slice A n c], .slice A' m d] w fun e w' => ∃ v1 v2, e = .returned (.tuple #[.agg #[.int .i64 (fpeel s l pad).1.next, .int .i64 (fpeel s l pad).1.due, .int .i64 (fpeel s l pad).1.tag, v1, v2], .bool (fpeel s l pad).2]) ∧ Own .u8 5 w' w.heap.size v1 (fpeel s l pad).1.load ∧ Own .u8 5 w' w.heap.size v2 (fpeel s l pad).1.cell ∧ (v2.ownBlock = none ∨ v2.ownBlock ≠ v1.ownBlock) ∧ Below w.heap.size w w' := by
  rcases sec_or s with hs | hs
  · by_cases hn : n = 80
    · by_cases hm : 80 ≤ m
      · subst hn
        have HP := Lib.hid (show fpeel s l pad = ppeel s l pad by
          by_cases h : peels s l
          · rw [fpeel_t ⟨⟨hs, hl.1, by rw [hp.1]; exact hm⟩, h⟩, ppeel_t h]
          · rw [fpeel_f (fun x => h x.2), ppeel_f h])
        have dm : ¬ (m : Int) < 80 := by omega
        go_enter Try.func11, Try.ntmps11
        go_wp2_with (go_at_call 48; with_reducible refine (s_sec_t _ _ (by assumption)).mono ?_; rintro e w' ⟨rfl, rfl⟩)
        refine (s_CellOk_t _ _ _ _ rfl).mono ?_
        rintro e w1 ⟨rfl, hB1⟩
        have bC : Box ((w.alloc (.cells #[.slice A 80 c] 26)).alloc (.cells #[.int .i64 0, .int .i64 0, .int .i64 0, .slice none 0 0, .slice none 0 0] 28)) w.heap.size 26 #[.slice A 80 c] := (Box.new w _ _).alloc _
        have bR : Box ((w.alloc (.cells #[.slice A 80 c] 26)).alloc (.cells #[.int .i64 0, .int .i64 0, .int .i64 0, .slice none 0 0, .slice none 0 0] 28)) (w.heap.size + 1) 28 #[.int .i64 0, .int .i64 0, .int .i64 0, .slice none 0 0, .slice none 0 0] := by have := Box.new (w.alloc (.cells #[.slice A 80 c] 26)) 28 #[.int .i64 0, .int .i64 0, .int .i64 0, .slice none 0 0, .slice none 0 0]; simpa using this
        have bC1 := bC.below hB1 (by first | (simp; done) | (simp; omega))
        have bR1 := bR.below hB1 (by first | (simp; done) | (simp; omega))
        have hBB1 : Below w.heap.size w w1 := bel_trans (by repeat (first | (with_reducible exact Below.refl _ _) | (with_reducible assumption) | (with_reducible refine bel_alloc ?_ _) | (with_reducible refine bel_drew ?_) | (with_reducible refine below_drewN ?_ _) | (with_reducible refine bel_put ?_ (by first | exact Nat.le_refl _ | (simp; done) | (simp; omega)) _))) hB1
        have cc := bC1.cell 0
        clear hB1 bC bR
        go_wp2_with fail
        refine (s_peel s (reach hl hBB1) hc hcm (reach hp hBB1) hm hm2 hs).mono ?_
        rintro e w2 ⟨vL, vC, rfl, hRL, hRC, hB2⟩
        replace hRL := hRL.reads
        replace hRC := hRC.reads
        have hle := ppeel_le (s := s) (pad := pad) hl.1 (by rw [hp.1]; exact hm)
        obtain ⟨r, hr⟩ : ∃ r, ppeel s l pad = r := ⟨_, rfl⟩
        have HR := Lib.hid hr
        rw [hr] at hRL hRC hle ⊢
        clear hr
        have hBB2 := bel_trans hBB1 hB2
        have bR2 := bR1.below hB2 bR1.size
        clear cc bC1 bR1
        obtain ⟨AL, nL, cL, rfl, hL1, hL2, hIL⟩ := hRL
        obtain ⟨AC, nC, cC, rfl, hC1, hC2, hIC⟩ := hRC
        have HRL := Lib.hid (show Reads w2 (.slice AL nL cL) r.1.load from ⟨AL, nL, cL, rfl, hL1, hL2, hIL⟩)
        have HRC := Lib.hid (show Reads w2 (.slice AC nC cC) r.1.cell from ⟨AC, nC, cC, rfl, hC1, hC2, hIC⟩)
        go_wp2_with fail
        refine (s_own _ _ _ (HRL.out.below ?hA) (HRC.out.below ?hA) hle.1 hle.2).mono ?_
        case hA => exact (by repeat (first | (with_reducible exact Below.refl _ _) | (with_reducible assumption) | (with_reducible refine bel_alloc ?_ _) | (with_reducible refine bel_drew ?_) | (with_reducible refine below_drewN ?_ _) | (with_reducible refine bel_put ?_ (by first | exact Nat.le_refl _ | (simp; done) | (simp; omega)) _)))
        rintro e w3 ⟨v1, v2, rfl, hO1', hO2', hap, hB3'⟩
        have hB3 : Below w2.heap.size w2 w3 := bel_trans (by repeat (first | (with_reducible exact Below.refl _ _) | (with_reducible assumption) | (with_reducible refine bel_alloc ?_ _) | (with_reducible refine bel_drew ?_) | (with_reducible refine below_drewN ?_ _) | (with_reducible refine bel_put ?_ (by first | exact Nat.le_refl _ | (simp; done) | (simp; omega)) _))) hB3'
        have hO1 := hO1'.lower (base' := w2.heap.size) (by simp)
        have hO2 := hO2'.lower (base' := w2.heap.size) (by simp)
        clear hO1' hO2' hB3'
        have hBB3 := bel_trans hBB2 hB3
        have bR3 := bR2.below hB3 bR2.size
        have hgw : w.heap.size + 1 < w2.heap.size := bR2.size
        obtain ⟨A1, c1, rfl, _⟩ := hO1.ints
        obtain ⟨A2, c2, rfl, _⟩ := hO2.ints
        have k0 := bR3.cell 0; have j0 := bR3.frozen 0
        have k1 := bR3.cell 1; have j1 := bR3.frozen 1
        have k2 := bR3.cell 2; have j2 := bR3.frozen 2
        have k3 := bR3.cell 3; have j3 := bR3.frozen 3
        have k4 := bR3.cell 4; have j4 := bR3.frozen 4
        go_wp2
        have bZ := (((((bR3.put 0 (.int .i64 r.1.next)).put 1 (.int .i64 r.1.due)).put 2 (.int .i64 r.1.tag)).put 3 (.slice A1 r.1.load.length c1)).put 4 (.slice A2 r.1.cell.length c2))
        have e0 := bZ.cell 0; have e1 := bZ.cell 1; have e2 := bZ.cell 2; have e3 := bZ.cell 3; have e4 := bZ.cell 4
        refine bodyPost_ret (v := .tuple #[.agg #[.int .i64 r.1.next, .int .i64 r.1.due, .int .i64 r.1.tag, .slice A1 r.1.load.length c1, .slice A2 r.1.cell.length c2], .bool r.2]) (by simp [results, Try.results11, go_sem, e0, e1, e2, e3, e4]) rfl ?_
        rw [HP.out, HR.out]
        exact ⟨_, _, rfl, (((((hO1.far (g := w.heap.size + 1) hgw 0 _).far (g := w.heap.size + 1) hgw 1 _).far (g := w.heap.size + 1) hgw 2 _).far (g := w.heap.size + 1) hgw 3 _).far (g := w.heap.size + 1) hgw 4 _).lower (by omega), (((((hO2.far (g := w.heap.size + 1) hgw 0 _).far (g := w.heap.size + 1) hgw 1 _).far (g := w.heap.size + 1) hgw 2 _).far (g := w.heap.size + 1) hgw 3 _).far (g := w.heap.size + 1) hgw 4 _).lower (by omega), hap, (bel_put (bel_put (bel_put (bel_put (bel_put hBB3 (Nat.le_succ _) _) (Nat.le_succ _) _) (Nat.le_succ _) _) (Nat.le_succ _) _) (Nat.le_succ _) _)⟩
      · subst hn
        have HZ := Lib.hid (fpeel_f (s := s) (c := l) (pad := pad) (fun x => hm (by rw [← hp.1]; exact x.1.2.2)))
        have dm : (m : Int) < 80 := by omega
        go_enter Try.func11, Try.ntmps11
        go_wp2_with (go_at_call 48; with_reducible refine (s_sec_t _ _ (by assumption)).mono ?_; rintro e w' ⟨rfl, rfl⟩)
        refine (s_CellOk_t _ _ _ _ rfl).mono ?_
        rintro e w1 ⟨rfl, hB1⟩
        have bC : Box ((w.alloc (.cells #[.slice A 80 c] 26)).alloc (.cells #[.int .i64 0, .int .i64 0, .int .i64 0, .slice none 0 0, .slice none 0 0] 28)) w.heap.size 26 #[.slice A 80 c] := (Box.new w _ _).alloc _
        have bR : Box ((w.alloc (.cells #[.slice A 80 c] 26)).alloc (.cells #[.int .i64 0, .int .i64 0, .int .i64 0, .slice none 0 0, .slice none 0 0] 28)) (w.heap.size + 1) 28 #[.int .i64 0, .int .i64 0, .int .i64 0, .slice none 0 0, .slice none 0 0] := by have := Box.new (w.alloc (.cells #[.slice A 80 c] 26)) 28 #[.int .i64 0, .int .i64 0, .int .i64 0, .slice none 0 0, .slice none 0 0]; simpa using this
        have bR1 := bR.below hB1 (by first | (simp; done) | (simp; omega))
        have hBB1 : Below w.heap.size w w1 := bel_trans (by repeat (first | (with_reducible exact Below.refl _ _) | (with_reducible assumption) | (with_reducible refine bel_alloc ?_ _) | (with_reducible refine bel_drew ?_) | (with_reducible refine below_drewN ?_ _) | (with_reducible refine bel_put ?_ (by first | exact Nat.le_refl _ | (simp; done) | (simp; omega)) _))) hB1
        have k0 := bR1.cell 0; have j0 := bR1.frozen 0
        have k1 := bR1.cell 1; have j1 := bR1.frozen 1
        have k2 := bR1.cell 2; have j2 := bR1.frozen 2
        have k3 := bR1.cell 3; have j3 := bR1.frozen 3
        have k4 := bR1.cell 4; have j4 := bR1.frozen 4
        go_wp2
        have bZ := (((((bR1.put 0 (.int .i64 0)).put 1 (.int .i64 0)).put 2 (.int .i64 0)).put 3 (.slice none 0 0)).put 4 (.slice none 0 0))
        have e0 := bZ.cell 0; have e1 := bZ.cell 1; have e2 := bZ.cell 2; have e3 := bZ.cell 3; have e4 := bZ.cell 4
        refine bodyPost_ret (v := .tuple #[.agg #[.int .i64 0, .int .i64 0, .int .i64 0, .slice none 0 0, .slice none 0 0], .bool false]) (by simp [results, Try.results11, go_sem, e0, e1, e2, e3, e4]) rfl ?_
        rw [HZ.out]
        exact ⟨_, _, rfl, Own.nil _ _ _ _, Own.nil _ _ _ _, .inl rfl, (bel_put (bel_put (bel_put (bel_put (bel_put hBB1 (Nat.le_succ _) _) (Nat.le_succ _) _) (Nat.le_succ _) _) (Nat.le_succ _) _) (Nat.le_succ _) _)⟩
    · have HZ := Lib.hid (fpeel_f (s := s) (c := l) (pad := pad) (fun x => hn (by rw [← hl.1]; exact x.1.2.1)))
      go_enter Try.func11, Try.ntmps11
      go_wp2_with (go_at_call 48; with_reducible refine (s_sec_t _ _ (by assumption)).mono ?_; rintro e w' ⟨rfl, rfl⟩)
      refine (s_CellOk_f _ _ _ _ hn).mono ?_
      rintro e w1 ⟨rfl, hB1⟩
      have bC : Box ((w.alloc (.cells #[.slice A n c] 26)).alloc (.cells #[.int .i64 0, .int .i64 0, .int .i64 0, .slice none 0 0, .slice none 0 0] 28)) w.heap.size 26 #[.slice A n c] := (Box.new w _ _).alloc _
      have bR : Box ((w.alloc (.cells #[.slice A n c] 26)).alloc (.cells #[.int .i64 0, .int .i64 0, .int .i64 0, .slice none 0 0, .slice none 0 0] 28)) (w.heap.size + 1) 28 #[.int .i64 0, .int .i64 0, .int .i64 0, .slice none 0 0, .slice none 0 0] := by have := Box.new (w.alloc (.cells #[.slice A n c] 26)) 28 #[.int .i64 0, .int .i64 0, .int .i64 0, .slice none 0 0, .slice none 0 0]; simpa using this
      have bR1 := bR.below hB1 (by first | (simp; done) | (simp; omega))
      have hBB1 : Below w.heap.size w w1 := bel_trans (by repeat (first | (with_reducible exact Below.refl _ _) | (with_reducible assumption) | (with_reducible refine bel_alloc ?_ _) | (with_reducible refine bel_drew ?_) | (with_reducible refine below_drewN ?_ _) | (with_reducible refine bel_put ?_ (by first | exact Nat.le_refl _ | (simp; done) | (simp; omega)) _))) hB1
      have k0 := bR1.cell 0; have j0 := bR1.frozen 0
      have k1 := bR1.cell 1; have j1 := bR1.frozen 1
      have k2 := bR1.cell 2; have j2 := bR1.frozen 2
      have k3 := bR1.cell 3; have j3 := bR1.frozen 3
      have k4 := bR1.cell 4; have j4 := bR1.frozen 4
      go_wp2
      have bZ := (((((bR1.put 0 (.int .i64 0)).put 1 (.int .i64 0)).put 2 (.int .i64 0)).put 3 (.slice none 0 0)).put 4 (.slice none 0 0))
      have e0 := bZ.cell 0; have e1 := bZ.cell 1; have e2 := bZ.cell 2; have e3 := bZ.cell 3; have e4 := bZ.cell 4
      refine bodyPost_ret (v := .tuple #[.agg #[.int .i64 0, .int .i64 0, .int .i64 0, .slice none 0 0, .slice none 0 0], .bool false]) (by simp [results, Try.results11, go_sem, e0, e1, e2, e3, e4]) rfl ?_
      rw [HZ.out]
      exact ⟨_, _, rfl, Own.nil _ _ _ _, Own.nil _ _ _ _, .inl rfl, (bel_put (bel_put (bel_put (bel_put (bel_put hBB1 (Nat.le_succ _) _) (Nat.le_succ _) _) (Nat.le_succ _) _) (Nat.le_succ _) _) (Nat.le_succ _) _)⟩
  · have HZ := Lib.hid (fpeel_f (s := s) (c := l) (pad := pad) (fun x => hs x.1.1))
    have bC : Box ((w.alloc (.cells #[.slice A n c] 26)).alloc (.cells #[.int .i64 0, .int .i64 0, .int .i64 0, .slice none 0 0, .slice none 0 0] 28)) w.heap.size 26 #[.slice A n c] := (Box.new w _ _).alloc _
    have bR : Box ((w.alloc (.cells #[.slice A n c] 26)).alloc (.cells #[.int .i64 0, .int .i64 0, .int .i64 0, .slice none 0 0, .slice none 0 0] 28)) (w.heap.size + 1) 28 #[.int .i64 0, .int .i64 0, .int .i64 0, .slice none 0 0, .slice none 0 0] := by have := Box.new (w.alloc (.cells #[.slice A n c] 26)) 28 #[.int .i64 0, .int .i64 0, .int .i64 0, .slice none 0 0, .slice none 0 0]; simpa using this
    have hBB1 : Below w.heap.size w (((w.alloc (.cells #[.slice A n c] 26))).alloc (.cells #[.int .i64 0, .int .i64 0, .int .i64 0, .slice none 0 0, .slice none 0 0] 28)) := (by repeat (first | (with_reducible exact Below.refl _ _) | (with_reducible assumption) | (with_reducible refine bel_alloc ?_ _) | (with_reducible refine bel_drew ?_) | (with_reducible refine below_drewN ?_ _) | (with_reducible refine bel_put ?_ (by first | exact Nat.le_refl _ | (simp; done) | (simp; omega)) _)))
    have k0 := bR.cell 0; have j0 := bR.frozen 0
    have k1 := bR.cell 1; have j1 := bR.frozen 1
    have k2 := bR.cell 2; have j2 := bR.frozen 2
    have k3 := bR.cell 3; have j3 := bR.frozen 3
    have k4 := bR.cell 4; have j4 := bR.frozen 4
    go_enter Try.func11, Try.ntmps11
    go_wp2_with (go_at_call 48; with_reducible refine (s_sec_f _ _ (by assumption)).mono ?_; rintro e w' ⟨rfl, rfl⟩)
    have bZ := (((((bR.put 0 (.int .i64 0)).put 1 (.int .i64 0)).put 2 (.int .i64 0)).put 3 (.slice none 0 0)).put 4 (.slice none 0 0))
    have e0 := bZ.cell 0; have e1 := bZ.cell 1; have e2 := bZ.cell 2; have e3 := bZ.cell 3; have e4 := bZ.cell 4
    refine bodyPost_ret (v := .tuple #[.agg #[.int .i64 0, .int .i64 0, .int .i64 0, .slice none 0 0, .slice none 0 0], .bool false]) (by simp [results, Try.results11, go_sem, e0, e1, e2, e3, e4]) rfl ?_
    rw [HZ.out]
    exact ⟨_, _, rfl, Own.nil _ _ _ _, Own.nil _ _ _ _, .inl rfl, (by repeat (first | (with_reducible exact Below.refl _ _) | (with_reducible assumption) | (with_reducible refine bel_alloc ?_ _) | (with_reducible refine bel_drew ?_) | (with_reducible refine below_drewN ?_ _) | (with_reducible refine bel_put ?_ (by first | exact Nat.le_refl _ | (simp; done) | (simp; omega)) _)))⟩
end Go.Proofs.Ytpapkonejkdkhaa
