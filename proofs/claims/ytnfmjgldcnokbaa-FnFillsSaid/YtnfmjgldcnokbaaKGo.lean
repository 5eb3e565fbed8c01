/-
  DrawWr: texts joined.
-/
import Derived.Test.YtnfmjgldcnokbaaKGk
import Derived.Test.YtnfmjgldcnokbaaKGn
namespace Go.Proofs.Ytnfmjgldcnokbaa
set_option maxRecDepth 100000
set_option linter.unusedVariables false
set_option linter.unusedSimpArgs false
open Go.ChangeShapes Go.WideShapes Go.ChangeAt Go.RowKit
open Fld
theorem three_cells (w : World) (t : TypeId) (x0 x1 x2 : Int) : ∀ i, i < 3 → (w.alloc (.cells #[.int .i64 x0, .int .i64 x1, .int .i64 x2] t)).cell? ⟨w.heap.size, 0 + i, none⟩ = some (.int .i64 ([x0, x1, x2].getD i 0)) := by
  intro i hi
  rw [(Box.new w t _).cell]
  match i, hi with
  | 0, _ => rfl
  | 1, _ => rfl
  | 2, _ => rfl
theorem sum24 (p : Nat) : Value.int .i64 (24 + (p : Int)) = .int .i64 ((24 + p : Nat) : Int) := by simp
theorem own_R' {K : IntKind} {e : TypeId} {w : World} {base : Nat} {v : Value} {l : List Int} (h : Own K e w base v l) : (tSl K).R w w.heap.size [v] l := by
  obtain ⟨F, hF, -⟩ := h.tSl
  exact (tSl K).read hF
/-- What stays of an own slice, whatever is written into another's block. -/
theorem own_other {K : IntKind} {e : TypeId} {w : World} {base g : Nat} {v : Value} {l : List Int} (h : Own K e w base v l) (hg : g < base) (i : Nat) (u : Value) : Own K e (w.setCell ⟨g, i, none⟩ u) base v l :=
  h.kept (gb_put (gb_self w g) i u) (.inr (fun e => by have := (h.block e).1; omega))
theorem own_else {K : IntKind} {e : TypeId} {w w' : World} {base : Nat} {v : Value} {l : List Int} {row : Option Nat} {o : Obj} (h : Own K e w base v l) (hg : (w.alloc o).grownBy w' row) (hr : ∀ b, row = some b → b < base) : Own K e w' base v l :=
  (h.alloc o).kept hg (by
    cases hv : v.ownBlock with
    | none => exact .inl rfl
    | some b => exact .inr (fun e => by have := (h.block hv).1; have := hr b e.symm; omega))
def WrapDraw (w w' : World) (e : Ending) : Prop := ∃ vr vp vs vl vd r s ld pd u, e = .returned (.tuple #[vr, vp, vs, .int .i64 u, vl, vd]) ∧ tIs.R w' w'.heap.size [vr] r ∧ tIs.R w' w'.heap.size [vs] s ∧ tBy.R w' w'.heap.size [vl] ld ∧ tBy.R w' w'.heap.size [vd] pd ∧ (r.length ≤ 5 ∧ s.length ≤ 4 ∧ ld.length ≤ 25 ∧ pd.length ≤ 80) ∧ (-1 ≤ u ∧ u ≤ 65536) ∧ Below w.heap.size w w'
set_option maxHeartbeats 4000000 in
theorem d_Wrap {w : World} {n c : Nat} {A : Option Addr} {l : List Int} (hl : Ints .u8 w w.heap.size A n l) (hn : n ≤ 140737488355328) :
    Calls Try.prog 8 #[.slice A n c] w fun e w' => WrapDraw w w' e := by
  obtain ⟨i0, hi0, hz0, hz1, hz2⟩ := info_parts info_c3
  obtain ⟨j0, hj0, hyz0, hyz1, hyz2⟩ := info_parts info_by
  go_enter Try.func8, Try.ntmps8
  go_wp2_with fail
  refine (k_New hl hn).mono ?_
  rintro e w1 ⟨g, rfl, hg, hC1, hB1⟩
  go_wp2_with fail
  refine (k_Below w1 5 hC1 (gb_self w1 g) (by omega) (by omega)).mono ?_
  rintro e w2 ⟨x0, rfl, hx00, hx01, hC2, hG2⟩
  have hB2 := below_gb2 hB1 hg hG2
  go_wp2_with fail
  refine (k_nodes hx00 (by omega)).mono ?_
  rintro e w3 ⟨vA, vB, lB, rfl, hOB, hLB, hb3⟩
  have hB3 := hB2.trans (hb3.mono hB2.size)
  have hBrb := fun b hb => (hOB.block (b := b) hb).2
  have hC3 := hC2.below hb3 hC2.size
  have hg2 := hC2.size
  clear hC1 hC2 hx00 hx01
  go_wp2_with fail
  refine (k_route hC3).mono ?_
  rintro e w4 ⟨vr, r, rfl, hOr, hr1, hr4, hC4, hG4⟩
  have hB4 := below_gb2 hB3 hg hG4
  have hOB4 := own_draw hOB hG4 hg2
  have z3 := hb3.size
  have z4 := hG4.size
  obtain ⟨Ar, cr, rfl, hrc, -, -⟩ := hOr.ints
  have hrb := fun b hb => (hOr.block (b := b) hb).2
  go_wp2_with fail
  refine (k_fresh r.length (by omega) hC4).mono ?_
  rintro e w5 ⟨vs, s, rfl, hOs, hs, hC5, hG5⟩
  have hB5 := below_gb2 hB4 hg hG5
  have hsrb := fun b hb => (hOs.block (b := b) hb).2
  have hOB5 := own_draw hOB4 hG5 hg2
  have hOr5 := own_draw hOr hG5 (by omega)
  have z5 := hG5.size
  clear hOB hOB4 hOr hC3 hC4
  have s1 : 1 ≤ s.length := by omega
  have s4 : s.length ≤ 4 := by omega
  clear hs
  go_wp2_with fail
  refine (k_Below w5 100 hC5 (gb_self w5 g) (by omega) (by omega)).mono ?_
  rintro e w6 ⟨u, rfl, hu0, hu1, hC6, hG6⟩
  have hB6 := below_gb2 hB5 hg hG6
  have hOB6 := own_draw hOB5 hG6 hg2
  have hOr6 := own_draw hOr5 hG6 (by omega)
  have hOs6 := own_draw hOs hG6 (by omega)
  have z6 := hG6.size
  go_wp2_with fail
  refine (k_someG 24 hC6 (by omega) (by omega)).mono ?_
  rintro e w7 ⟨vl, ld, rfl, hOl, hll, hC7, hG7⟩
  have hB7 := below_gb2 hB6 hg hG7
  have hOB7 := own_draw hOB6 hG7 hg2
  have hOr7 := own_draw hOr6 hG7 (by omega)
  have hOs7 := own_draw hOs6 hG7 (by omega)
  have z7 := hG7.size
  go_wp2_with fail
  refine (k_pad3 hC7).mono ?_
  rintro e w8 ⟨vd, pd, rfl, hOd, hdl, hC8, hG8⟩
  have hB8 := below_gb2 hB7 hg hG8
  have hOB8 := own_draw hOB7 hG8 hg2
  have hOr8 := own_draw hOr7 hG8 (by omega)
  have hOs8 := own_draw hOs7 hG8 (by omega)
  have hOl8 := own_draw hOl hG8 (by omega)
  have z8 := hG8.size
  have HDL := Lib.hid hdl
  clear hOB5 hOB6 hOB7 hOr5 hOr6 hOr7 hOs hOs6 hOs7 hOl hC5 hC6 hC7 hdl
  go_wp2_with fail
  refine (k_Once w8 6 hC8 (gb_self w8 g) (by omega) (by omega)).mono ?_
  rintro e w9 ⟨b, rfl, hC9, hG9⟩
  have hB9 := below_gb2 hB8 hg hG9
  have hOB9 := own_draw hOB8 hG9 hg2
  have hOr9 := own_draw hOr8 hG9 (by omega)
  have hOs9 := own_draw hOs8 hG9 (by omega)
  have hOl9 := own_draw hOl8 hG9 (by omega)
  have hOd9 := own_draw hOd hG9 (by omega)
  have z9 := hG9.size
  clear hOB8 hOr8 hOs8 hOl8 hOd hC8
  cases b with
  | false =>
    go_wp2
    refine bodyPost_ret (v := .tuple #[.slice Ar r.length cr, vB, vs, .int .i64 u, vl, vd]) (by simp [results, Try.results8, go_sem]) rfl ?_
    exact ⟨_, _, _, _, _, _, _, _, _, _, rfl, own_R' hOr9, own_R' hOs9, own_R' hOl9, own_R' hOd9, ⟨by omega, by omega, by omega, by rw [HDL.out]; omega⟩, ⟨by omega, by omega⟩, hB9⟩
  | true =>
    go_wp2_with fail
    refine (k_Below w9 6 hC9 (gb_self w9 g) (by omega) (by omega)).mono ?_
    rintro e wa ⟨x, rfl, hx0, hx1, hCa, hGa⟩
    have hBa := below_gb2 hB9 hg hGa
    have hOBa := own_draw hOB9 hGa hg2
    have hOra := own_draw hOr9 hGa (by omega)
    have hOsa := own_draw hOs9 hGa (by omega)
    have hOla := own_draw hOl9 hGa (by omega)
    have hOda := own_draw hOd9 hGa (by omega)
    have za := hGa.size
    clear hOB9 hOr9 hOs9 hOl9 hOd9 hC9
    have hx : x = 0 ∨ x = 1 ∨ x = 2 ∨ x = 3 ∨ x = 4 ∨ x = 5 := by omega
    clear hx0 hx1
    rcases hx with rfl | rfl | rfl | rfl | rfl | rfl
    · go_wp2_with (first
        | (go_at_call 44; refine (k_Pick wa (Curs.alloc hCa _) (gb_alloc (gb_self wa g) _) ⟨_, 0, rfl, Nat.ne_of_gt (Curs.size hCa), by simp, three_cells _ _ _ _ _⟩ (by omega) (by omega) rfl).mono ?_; rintro e wb ⟨y, rfl, hy, hCb, hGb⟩; have zb := hGb.size)
        | (at_builtin; refine wpList_app _ rfl (.tmp 44) (.tmp 48) _ rfl w3.heap.size 3 i0 _ 1 8 Try.underlying23 hi0 hz0 hz1 hz2 rfl (by omega) _ _ _ rfl ((own_draw hOra hGb (by omega)).1.alloc _) _ 1 1 [.int .i64 y] rfl (Src.one _ _ _) (one_int _ _) (by simp only [maxLen]; omega) (by omega) (by simp; omega) ?_; intro v3 wc hown hgr hat))
      have hBb := below_gb2 hBa hg hGb
      have hOBb := own_draw hOBa hGb hg2
      have hOrb := own_draw hOra hGb (by omega)
      have hOsb := own_draw hOsa hGb (by omega)
      have hOlb := own_draw hOla hGb (by omega)
      have hOdb := own_draw hOda hGb (by omega)
      simp only [List.mem_cons, List.not_mem_nil, or_false] at hy
      have hO3 := own_sn hOrb hown rfl (WalkArith.wf_i64 ⟨by omega, by omega⟩)
      have hBc : Below w.heap.size w wc := Below.grown (w := wb.alloc (.cells #[.int .i64 y] 3)) (bel_alloc hBb _) hgr (by simp; have := hBb.size; omega) (fun b hb => by have := (hOrb.block hb).1; have := hB3.size; omega)
      refine bodyPost_ret (v := .tuple #[v3, vB, vs, .int .i64 u, vl, vd]) (by simp [results, Try.results8, go_sem]) rfl ?_
      exact ⟨_, _, _, _, _, _, _, _, _, _, rfl, own_R' hO3, own_R' (own_else hOsb hgr hrb), own_R' (own_else hOlb hgr (fun b hb => by have := hrb b hb; omega)), own_R' (own_else hOdb hgr (fun b hb => by have := hrb b hb; omega)), ⟨by simp; omega, by omega, by omega, by rw [HDL.out]; omega⟩, ⟨by omega, by omega⟩, hBc⟩
    · obtain ⟨gB, cB, rfl, hcB, hmB, hwB, hsB, hceB, hfB⟩ := hOBa.row (by omega)
      have uB := hBrb gB rfl
      have HLB := Lib.hid hLB
      rw [hLB] at hOBa hcB ⊢
      clear hLB
      clear hceB hfB
      go_wp2_with ((go_at_call 44; refine (k_Pick wa (Curs.alloc hCa _) (gb_alloc (gb_self wa g) _) ⟨_, 0, rfl, Nat.ne_of_gt (Curs.size hCa), by simp, three_cells _ _ _ _ _⟩ (by omega) (by omega) rfl).mono ?_; rintro e wb ⟨y, rfl, hy, hCb, hGb⟩; have zb := hGb.size); obtain ⟨gB', cB', eB, -, -, -, -, hceB, hfB⟩ := (own_draw hOBa hGb hg2).row (by rw [HLB.out]; omega); simp only [Value.slice.injEq, Option.some.injEq, Addr.mk.injEq, and_true] at eB; obtain ⟨eB, -, eC⟩ := eB; subst eB eC; have c2 := hceB 2 (by rw [HLB.out]; omega); have f2 := hfB 2)
      have hBb := below_gb2 hBa hg hGb
      have hOBb := own_draw hOBa hGb hg2
      have hOrb := own_draw hOra hGb (by omega)
      have hOsb := own_draw hOsa hGb (by omega)
      have hOlb := own_draw hOla hGb (by omega)
      have hOdb := own_draw hOda hGb (by omega)
      simp only [List.mem_cons, List.not_mem_nil, or_false] at hy
      refine bodyPost_ret (v := .tuple #[.slice Ar r.length cr, (.slice (some ⟨gB, 0, none⟩) 8 cB), vs, .int .i64 u, vl, vd]) (by simp [results, Try.results8, go_sem]) rfl ?_
      exact ⟨_, _, _, _, _, _, _, _, _, _, rfl, own_R' (own_other hOrb (by omega) 2 _), own_R' (own_other hOsb (by omega) 2 _), own_R' (own_other hOlb (by omega) 2 _), own_R' (own_other hOdb (by omega) 2 _), ⟨by omega, by omega, by omega, by rw [HDL.out]; omega⟩, ⟨by omega, by omega⟩, hBb.setCell (p := ⟨gB, 2, none⟩) (by have := hB2.size; show w.heap.size ≤ gB; omega) _⟩
    · obtain ⟨gS, cS, rfl, hcS, hmS, hwS, hsS, hceS, hfS⟩ := hOsa.row (by omega)
      clear hceS hfS
      have uS := hsrb gS rfl
      obtain ⟨sn, hsn⟩ : ∃ m, s.length = m := ⟨_, rfl⟩
      have HSN := Lib.hid hsn
      rw [hsn] at hOsa hcS ⊢
      have q0 : 0 < sn := by omega
      have q1 : (0 : Int) < (sn : Int) := by omega
      have q4 : sn ≤ 4 := by omega
      clear hsn
      go_wp2_with ((go_at_call 44; refine (k_Pick wa (Curs.alloc hCa _) (gb_alloc (gb_self wa g) _) ⟨_, 0, rfl, Nat.ne_of_gt (Curs.size hCa), by simp, three_cells _ _ _ _ _⟩ (by omega) (by omega) rfl).mono ?_; rintro e wb ⟨y, rfl, hy, hCb, hGb⟩; have zb := hGb.size); obtain ⟨gS', cS', eS, -, -, -, -, hceS, hfS⟩ := (own_draw hOsa hGb (by omega)).row (by rw [HSN.out]; omega); simp only [Value.slice.injEq, Option.some.injEq, Addr.mk.injEq, and_true] at eS; obtain ⟨eS, -, eC⟩ := eS; subst eS eC; have c2 := hceS 0 (by rw [HSN.out]; omega); have f2 := hfS 0)
      have hBb := below_gb2 hBa hg hGb
      have hOBb := own_draw hOBa hGb hg2
      have hOrb := own_draw hOra hGb (by omega)
      have hOsb := own_draw hOsa hGb (by omega)
      have hOlb := own_draw hOla hGb (by omega)
      have hOdb := own_draw hOda hGb (by omega)
      simp only [List.mem_cons, List.not_mem_nil, or_false] at hy
      have hOp := Own.put (l := s) (c := cS) (by rw [HSN.out]; exact hOsb) 0 y (WalkArith.wf_i64 ⟨by omega, by omega⟩)
      rw [HSN.out] at hOp
      refine bodyPost_ret (v := .tuple #[.slice Ar r.length cr, vB, (.slice (some ⟨gS, 0, none⟩) sn cS), .int .i64 u, vl, vd]) (by simp [results, Try.results8, go_sem]) rfl ?_
      exact ⟨_, _, _, _, _, _, _, _, _, _, rfl, own_R' (hOrb.kept (gb_put (gb_self wb gS) 0 _) (.inr (fun e => by have := hrb _ e; omega))), own_R' hOp, own_R' (own_other hOlb (by omega) 0 _), own_R' (own_other hOdb (by omega) 0 _), ⟨by omega, by have := HSN.out; simp; omega, by omega, by rw [HDL.out]; omega⟩, ⟨by omega, by omega⟩, hBb.setCell (p := ⟨gS, 0, none⟩) (by have := hB4.size; show w.heap.size ≤ gS; omega) _⟩
    · go_wp2_with (go_at_call 44; refine (k_Pick wa (Curs.alloc hCa _) (gb_alloc (gb_self wa g) _) ⟨_, 0, rfl, Nat.ne_of_gt (Curs.size hCa), by simp, three_cells _ _ _ _ _⟩ (by omega) (by omega) rfl).mono ?_; rintro e wb ⟨y, rfl, hy, hCb, hGb⟩; have zb := hGb.size)
      have hBb := below_gb2 hBa hg hGb
      have hOBb := own_draw hOBa hGb hg2
      have hOrb := own_draw hOra hGb (by omega)
      have hOsb := own_draw hOsa hGb (by omega)
      have hOlb := own_draw hOla hGb (by omega)
      have hOdb := own_draw hOda hGb (by omega)
      simp only [List.mem_cons, List.not_mem_nil, or_false] at hy
      refine bodyPost_ret (v := .tuple #[.slice Ar r.length cr, vB, vs, .int .i64 y, vl, vd]) (by simp [results, Try.results8, go_sem]) rfl ?_
      exact ⟨_, _, _, _, _, _, _, _, _, _, rfl, own_R' hOrb, own_R' hOsb, own_R' hOlb, own_R' hOdb, ⟨by omega, by omega, by omega, by rw [HDL.out]; omega⟩, ⟨by omega, by omega⟩, hBb⟩
    · go_wp2_with (first
        | (go_at_call 38; refine (k_Below wa 2 hCa (gb_self wa g) (by omega) (by omega)).mono ?_; rintro e wb ⟨y, rfl, hy0, hy1, hCb, hGb⟩; obtain ⟨p, rfl⟩ := Int.eq_ofNat_of_zero_le hy0)
        | (at_make; refine wpList_mk _ rfl (.tmp 73) (.tmp 73) _ rfl 5 j0 _ Try.underlying22 hj0 hyz0 rfl hyz1 (24 + p) (sum24 p) (sum24 p) (by rw [hyz2]; omega) (by simp only [maxLen]; omega) ?_; intro wc hrow hBc hsz))
      have hBb := below_gb2 hBa hg hGb
      have hOrb := own_draw hOra hGb (by omega)
      have hOsb := own_draw hOsa hGb (by omega)
      have hOdb := own_draw hOda hGb (by omega)
      refine bodyPost_ret (v := .tuple #[.slice Ar r.length cr, vB, vs, .int .i64 u, (.slice (some ⟨wb.heap.size, 0, none⟩) (24 + p) (24 + p)), vd]) (by simp [results, Try.results8, go_sem]) rfl ?_
      exact ⟨_, _, _, _, _, _, _, _, _, _, rfl, own_R' (hOrb.below hBc), own_R' (hOsb.below hBc), own_R' (zeros_own hrow (by omega) (Nat.le_refl _)), own_R' (hOdb.below hBc), ⟨by omega, by omega, by simp; omega, by rw [HDL.out]; omega⟩, ⟨by omega, by omega⟩, hBb.trans (hBc.mono hBb.size)⟩
    · obtain ⟨gD, cD, rfl, hcD, hmD, hwD, hsD, -, -⟩ := hOda.row (by rw [HDL.out]; omega)
      have hDI := (hOda.intsAt.1)
      rw [HDL.out] at hcD hDI ⊢
      unfold maxLen at hmD
      have hT : Ints .u8 wa wa.heap.size (some ⟨gD, 1, none⟩) 79 (pd.drop 1) := hDI.tail 1 (by omega)
      have k0 : ¬ cD - 1 = 0 := by omega
      have k1 : (1 : Int) ≤ (cD : Int) := by omega
      have k2 : (1 : Int) ≤ 80 := by omega
      go_wp2
      refine bodyPost_ret (v := .tuple #[.slice Ar r.length cr, vB, vs, .int .i64 u, vl, (.slice (some ⟨gD, 1, none⟩) 79 (cD - 1))]) (by simp [results, Try.results8, go_sem]) rfl ?_
      exact ⟨_, _, _, _, _, _, _, _, _, _, rfl, own_R' hOra, own_R' hOsa, own_R' hOla, ints_slR hT (by omega) (by omega), ⟨by omega, by omega, by omega, by rw [List.length_drop, HDL.out]; omega⟩, ⟨by omega, by omega⟩, hBa⟩
end Go.Proofs.Ytnfmjgldcnokbaa
