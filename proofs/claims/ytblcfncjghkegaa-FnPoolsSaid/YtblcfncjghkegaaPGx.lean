/-
  PRdI: texts joined.
-/
import Derived.Test.YtblcfncjghkegaaPGo
import Derived.Test.YtblcfncjghkegaaPGr
import Derived.Test.YtblcfncjghkegaaPGv
namespace Go.Proofs.Ytblcfncjghkegaa
set_option maxRecDepth 100000
set_option linter.unusedVariables false
set_option linter.unusedSimpArgs false
open Go.ChangeShapes Go.WideShapes Go.ChangeAt Go.RowKit
open Fld
theorem i_poolSize {w : World} {B n c : Nat} {A : Option Addr} {l : List Int} (hI0 : Ints .u8 w B A n l) (h2 : 2 ≤ n) (hnc : n ≤ c) (hcm : c ≤ 9223372036854775807) :
    Calls Try.prog 68 #[.slice A n c] w fun e w' => e = .returned (.int .i64 (rdSz l : Int)) ∧ ∃ q, w' = w.drewN q := by
  obtain ⟨ba, of0, rfl, hba, hc0, hw0⟩ := hI0.at_ (i := 0) (by omega)
  obtain ⟨bb, of1, e1, -, hc1, hw1⟩ := hI0.at_ (i := 1) (by omega)
  injection e1 with e1; injection e1 with e1 e1' _; subst e1 e1'
  rw [Nat.add_zero] at hc0
  have r0 := u8_rg' hw0
  have r1 := u8_rg' hw1
  obtain ⟨N, hN⟩ : ∃ N : Nat, rdN l = N := ⟨_, rfl⟩
  obtain ⟨M, hM⟩ : ∃ M : Nat, rdM l = M := ⟨_, rfl⟩
  have e0 : l.getD 0 0 = (N : Int) := by rw [← hN]; unfold rdN; omega
  have e1 : l.getD 1 0 = (M : Int) := by rw [← hM]; unfold rdM; omega
  have HSZ := Lib.hid (show ((rdSz l : Nat) : Int) = 2 + 83 * (N : Int) + 4 * (M : Int) by unfold rdSz; rw [hN, hM]; omega)
  rw [e0] at hc0 r0; rw [e1] at hc1 r1
  rw [HSZ.out]
  clear hw0 hw1 e0 e1 hN hM
  have p3 : (0 : Int) < (n : Int) := by omega
  have p4 : (1 : Int) < (n : Int) := by omega
  have m3 : 0 < n := by omega
  have m4 : 1 < n := by omega
  have v0 : IntKind.i64.wrap (N : Int) = (N : Int) := IntWalk.i64_in _ (by omega)
  have v0' : IntKind.i64.wrap (M : Int) = (M : Int) := IntWalk.i64_in _ (by omega)
  have v1 : IntKind.i64.wrap (83 * (N : Int)) = 83 * (N : Int) := IntWalk.i64_in _ (by omega)
  have v2 : IntKind.i64.wrap (2 + 83 * (N : Int)) = 2 + 83 * (N : Int) := IntWalk.i64_in _ (by omega)
  have v3 : IntKind.i64.wrap (4 * (M : Int)) = 4 * (M : Int) := IntWalk.i64_in _ (by omega)
  have v4 : IntKind.i64.wrap (2 + 83 * (N : Int) + 4 * (M : Int)) = 2 + 83 * (N : Int) + 4 * (M : Int) := IntWalk.i64_in _ (by omega)
  go_enter Try.func68, Try.ntmps68
  go_wp2_with fail
  go_quiet (fail)
  go_wp2
  go_ret
  exact ⟨rfl, _, rfl⟩
set_option maxHeartbeats 1000000 in
theorem i_heldIn {w : World} {b off : Nat} {l : List Int} (hl : Ints .u8 w w.heap.size (some ⟨b, off, none⟩) 83 l) :
    Calls Try.prog 70 #[.slice (some ⟨b, off, none⟩) 83 83] w fun e w' => e = .returned (.agg #[.int .i64 (heldOf l).1, .int .i64 (heldOf l).2.1, .slice (some ⟨b, off + 3, none⟩) 80 80]) ∧ Below w.heap.size w w' := by
  obtain ⟨b0, of0, e0, hba, hc0, hw0⟩ := hl.at_ (i := 0) (by omega)
  injection e0 with e0; injection e0 with e0 e0' _; subst e0 e0'
  rw [Nat.add_zero] at hc0
  obtain ⟨x0, hx0⟩ : ∃ x, l.getD 0 0 = x := ⟨_, rfl⟩
  obtain ⟨x1, hx1⟩ : ∃ x, l.getD 1 0 = x := ⟨_, rfl⟩
  obtain ⟨x2, hx2⟩ : ∃ x, l.getD 2 0 = x := ⟨_, rfl⟩
  have hby := hl.bytes
  have g1 := hby.at_ 1; have g2 := hby.at_ 2
  rw [hx1] at g1; rw [hx2] at g2
  have HA := Lib.hid (show (heldOf l).1 = x0 ∧ (heldOf l).2.1 = x1 * 256 + x2 by unfold heldOf; exact ⟨hx0, by rw [hx1, hx2]⟩)
  rw [HA.out.1, HA.out.2]
  rw [hx0] at hc0 hw0
  have g0 := u8_rg' hw0
  have hI2' := head8 (tail8 hl 1 (by omega)) 2 (by omega)
  have hn2 : num ((l.drop 1).take 2) = x1 * 256 + x2 := by
    have hln := hl.1
    have e : (l.drop 1).take 2 = [x1, x2] := by
      rw [← hx1, ← hx2]
      apply List.ext_getElem (by simp; omega)
      intro i h1 h2
      simp only [List.length_cons, List.length_nil] at h2
      rw [List.getElem_take, List.getElem_drop]
      rcases i with _ | _ | i
      · simp [List.getD_eq_getElem?_getD, List.getElem?_eq_getElem (show 1 < l.length by omega)]
      · simp [List.getD_eq_getElem?_getD, List.getElem?_eq_getElem (show 2 < l.length by omega)]
      · omega
    rw [e]; simp [num]
  have HNM := Lib.hid hn2
  have wx0 : IntKind.i64.wrap x0 = x0 := IntWalk.i64_in _ (by omega)
  have R0 := Box.new w 30 #[.int .i64 0, .int .i64 0, .slice none 0 0]
  have hI2 : Ints .u8 (w.alloc (.cells #[.int .i64 0, .int .i64 0, .slice none 0 0] 30)).drew w.heap.size (some ⟨b, off + 1, none⟩) 2 ((l.drop 1).take 2) := hI2'.below (show Below w.heap.size w (w.alloc (.cells #[.int .i64 0, .int .i64 0, .slice none 0 0] 30)).drew from (belx))
  have d0 : (w.alloc (.cells #[.int .i64 0, .int .i64 0, .slice none 0 0] 30)).drew.cell? ⟨b, off, none⟩ = some (.int .u8 x0) := cell_bel (belx) hc0
  have y0 := R0.cell 0; have y1 := R0.cell 1; have y2 := R0.cell 2; have f0 := R0.frozen 0; have f1 := R0.frozen 1; have f2 := R0.frozen 2
  have RR := Box.new w 30 #[.int .i64 x0, .int .i64 (x1 * 256 + x2), .slice (some ⟨b, off + 3, none⟩) 80 80]
  have e0 := RR.cell 0; have e1 := RR.cell 1; have e2 := RR.cell 2
  have hBf : Below w.heap.size w (w.alloc (.cells #[.int .i64 x0, .int .i64 (x1 * 256 + x2), .slice (some ⟨b, off + 3, none⟩) 80 80] 30)).drew := (belx)
  clear hx0 hx1 hx2 hn2 hI2'
  go_enter Try.func70, Try.ntmps70
  go_wp2_with fail
  refine wp_region_held_drew (S := (fun w' => w'.cell? ⟨b, off, none⟩ = some (.int .u8 x0))) (by kernel_rfl) (by exact d0) (fun hHeld => ?_)
  refine wpAnyH_take (i := 0) (oi := ⟨some 3, _, _, _, _, _⟩) (v := ?v1) rfl (by kernel_rfl) (by kernel_rfl) (by kernel_rfl) (fun _ _ _ h => h) (Or.inl ⟨by rfl, ?hy1⟩) (by assumption) ?_
  case hy1 => (intro w hSw; (try dsimp only at hSw); go_simp; try (with_reducible rfl))
  (try simp only [Act.put, qa_, qb_, qc_])
  refine wpAnyH_take (i := 1) (oi := ⟨some 4, _, _, _, _, _⟩) (v := ?v2) rfl (by kernel_rfl) (by kernel_rfl) (by kernel_rfl) (fun _ _ _ h => h) (Or.inl ⟨by rfl, ?hy2⟩) (by assumption) ?_
  case hy2 => (intro w hSw; (try dsimp only at hSw); go_simp; try (with_reducible rfl))
  (try simp only [Act.put, qa_, qb_, qc_])
  refine wpAnyH_take (i := 2) (oi := ⟨some 5, _, _, _, _, _⟩) (v := ?v3) rfl (by kernel_rfl) (by kernel_rfl) (by kernel_rfl) (fun _ _ _ h => h) (Or.inl ⟨by rfl, ?hy3⟩) (by assumption) ?_
  case hy3 => (intro w hSw; (try dsimp only at hSw); go_simp; try (with_reducible rfl))
  (try simp only [Act.put, qa_, qb_, qc_])
  refine wpAnyH_take (i := 3) (oi := ⟨some 6, _, _, _, _, _⟩) (v := ?v4) rfl (by kernel_rfl) (by kernel_rfl) (by kernel_rfl) (fun _ _ _ h => h) (Or.inl ⟨by rfl, ?hy4⟩) (by assumption) ?_
  case hy4 => (intro w hSw; (try dsimp only at hSw); go_simp; try (with_reducible rfl))
  (try simp only [Act.put, qa_, qb_, qc_])
  refine wpAnyH_take (i := 4) (oi := ⟨some 7, _, _, _, _, _⟩) (v := ?v5) rfl (by kernel_rfl) (by kernel_rfl) (by kernel_rfl) (fun _ _ _ h => h) (Or.inl ⟨by rfl, ?hy5⟩) (by assumption) ?_
  case hy5 => (intro w hSw; (try dsimp only at hSw); go_simp; try (with_reducible rfl))
  (try simp only [Act.put, qa_, qb_, qc_])
  refine wpAnyH_take (i := 5) (oi := ⟨some 8, _, _, _, _, _⟩) (v := ?v6) rfl (by kernel_rfl) (by kernel_rfl) (by kernel_rfl) (fun _ _ _ h => h) (Or.inl ⟨by rfl, ?hy6⟩) (by assumption) ?_
  case hy6 => (intro w hSw; (try dsimp only at hSw); go_simp; try (with_reducible rfl))
  (try simp only [Act.put, qa_, qb_, qc_])
  refine wpAnyH_take (i := 7) (oi := ⟨some 10, _, _, _, _, _⟩) (v := ?v7) rfl (by kernel_rfl) (by kernel_rfl) (by kernel_rfl) (fun _ _ _ h => h) (Or.inl ⟨by rfl, ?hy7⟩) (by assumption) ?_
  case hy7 => (intro w hSw; (try dsimp only at hSw); go_simp; try (with_reducible rfl))
  (try simp only [Act.put, qa_, qb_, qc_])
  refine wpAnyH_take (i := 8) (oi := ⟨some 11, _, _, _, _, _⟩) (v := ?v8) rfl (by kernel_rfl) (by kernel_rfl) (by kernel_rfl) (fun _ _ _ h => h) (Or.inl ⟨by rfl, ?hy8⟩) (by assumption) ?_
  case hy8 => (intro w hSw; (try dsimp only at hSw); go_simp; try (with_reducible rfl))
  (try simp only [Act.put, qa_, qb_, qc_])
  refine wpAnyH_take (i := 9) (oi := ⟨some 12, _, _, _, _, _⟩) (v := ?v9) rfl (by kernel_rfl) (by kernel_rfl) (by kernel_rfl) (fun _ _ _ h => h) (Or.inl ⟨by rfl, ?hy9⟩) (by assumption) ?_
  case hy9 => (intro w hSw; (try dsimp only at hSw); go_simp; try (with_reducible rfl))
  (try simp only [Act.put, qa_, qb_, qc_])
  refine wpAnyH_ready (rs := [6]) (by kernel_rfl) (by simp) ?_
  refine AllReadyH.cons rfl (fun K hK => ?_) ?_
  · go_simp
    go_at_call 72
    refine (i_number hI2 (by omega)).mono ?_
    rintro e w' ⟨rfl, rfl⟩
    rw [HNM.out]
    go_wp2_with fail
    refine hK.out _ _ (by exact d0) (fun hHeld => ?_)
    clear hK K
    (try simp only [Act.put, qa_, qb_, qc_])
    refine wpAnyH_take (i := 10) (oi := ⟨some 13, _, _, _, _, _⟩) (v := ?v10) rfl (by kernel_rfl) (by kernel_rfl) (by kernel_rfl) (fun _ _ _ h => h) (Or.inl ⟨by rfl, ?hy10⟩) (by assumption) ?_
    case hy10 => (intro w hSw; (try dsimp only at hSw); go_simp; try (with_reducible rfl))
    (try simp only [Act.put, qa_, qb_, qc_])
    refine wpAnyH_ready (rs := [11]) (by kernel_rfl) (by simp) ?_
    refine AllReadyH.cons rfl (fun K hK => ?_) ?_
    · go_simp
      refine hK.out _ _ (by exact cell_bel hBf hc0) (fun hHeld => ?_)
      clear hK K
      (try simp only [Act.put, qa_, qb_, qc_])
      refine wpAnyH_done (by kernel_rfl) ?_ _
      go_wp2
      refine bodyPost_ret (v := .agg #[.int .i64 x0, .int .i64 (x1 * 256 + x2), .slice (some ⟨b, off + 3, none⟩) 80 80]) (by simp [results, Try.results70, go_sem, e0, e1, e2]) rfl ⟨rfl, hBf⟩
    exact AllReadyH.nil
  exact AllReadyH.nil
theorem rowS {w : World} {base K : Nat} {e : TypeId} {v : Value} {xs : List Value} (h : w.ownsRow base e 1 v K xs) : ∃ A c, v = .slice A K c ∧ K ≤ c ∧ (0 < K → ∃ g, A = some ⟨g, 0, none⟩ ∧ g < w.heap.size ∧ ∀ j u, xs[j]? = some u → w.cell? ⟨g, j, none⟩ = some u) := by
  have hc := @World.ownsRow.cells _ _ _ _ _ _ _ h
  have hl := h.lt
  rcases h.2 with ⟨rfl, h0⟩ | ⟨g, cap, cur, rfl, hb, hg, hn, hm, hs, ht⟩
  · exact ⟨none, 0, by rw [h0], by omega, fun hp => absurd hp (by omega)⟩
  · refine ⟨_, _, rfl, hn, fun hp => ⟨g, rfl, (hl g rfl).2, fun j u hj => ?_⟩⟩
    have h2 := hc (g := g) rfl j u hj
    rw [show Addr.add ⟨g, 0, none⟩ j = ⟨g, j, none⟩ from by unfold Addr.add; split <;> simp_all] at h2
    exact h2
set_option maxHeartbeats 2000000 in
theorem i_eachNum {w : World} {base K b off : Nat} {v : Value} {D : Nat → List Int} (hrow : w.ownsRow base 22 1 v K ((List.range K).map (chk4 b off))) (hK : K ≤ 255) (hI : ∀ j, j < K → Ints .u8 w w.heap.size (some ⟨b, off + 4 * j, none⟩) 4 (D j)) :
    Calls Try.prog 98 #[v, .func (.func 72) #[] #[]] w fun e w' => ∃ u, e = .returned u ∧ Own .i64 3 w' w.heap.size u ((List.range K).map fun j => num (D j)) ∧ Below w.heap.size w w' := by
  obtain ⟨A, c, rfl, hKc, hcells⟩ := rowS hrow
  obtain ⟨k0, hk0, hk1, hk2, hk3⟩ := info_parts info_it
  have HC := Lib.hid hcells
  have HI := Lib.hid hI
  clear hcells hI hrow
  go_enter Try.func98, Try.ntmps98
  go_wp2_with fail
  go_loopw [5, 10] (fun u i wr => ∃ j : Nat, j ≤ K ∧ i = .int .i64 j ∧ Own .i64 3 wr w.heap.size u ((List.range j).map fun j => num (D j)) ∧ Below w.heap.size w wr) (fun _ i _ => K - (intOf i).toNat)
  case atStart => exact ⟨0, by omega, rfl, Own.nil _ _ _ _, (belx)⟩
  case round =>
    obtain ⟨j, hj, rfl, hU, hB⟩ := hrel
    by_cases hlt : j < K
    · obtain ⟨g, rfl, hg, hcl⟩ := HC.out (by omega)
      have hce : w.cell? ⟨g, j, none⟩ = some (.slice (some ⟨b, off + 4 * j, none⟩) 4 4) := hcl j (chk4 b off j) (by simp [hlt])
      have hc1 : wr.cell? ⟨g, j, none⟩ = some (.slice (some ⟨b, off + 4 * j, none⟩) 4 4) := cell_bel hB hce
      have hIj := reach (HI.out j hlt) hB
      obtain ⟨y, hy⟩ : ∃ y, num (D j) = y := ⟨_, rfl⟩
      have wfy : (Lit.int .i64 y).wf = true := by
        have h := num_rg hIj.bytes (by rw [hIj.1]; exact Nat.le_refl _)
        rw [hy] at h
        exact wf_i64 (by omega) (by omega)
      have HT := Lib.hid (show (List.range (j + 1)).map (fun j => num (D j)) = (List.range j).map (fun j => num (D j)) ++ [y] by rw [List.range_succ, List.map_append, List.map_singleton, hy])
      have HTL := Lib.hid (show ((List.range j).map fun j => num (D j)).length = j by simp)
      have hUo := hU.1.lt
      have p1 : (j : Int) < (K : Int) := by omega
      have p0 : (0 : Int) ≤ (j : Int) := by omega
      clear hcl hce
      go_wp2_with fail
      refine (i_number hIj (by omega)).mono ?_
      rintro e w1 ⟨he, rfl⟩
      rw [hy] at he
      subst he
      clear hy
      have hBx : Below wr.heap.size wr (wr.alloc (.cells #[.int .i64 y] 3)) := (belx)
      have hU5 := hU.below hBx
      have hS2 : Src (wr.alloc (.cells #[.int .i64 y] 3)) 1 (some ⟨wr.heap.size, 0, none⟩) 1 ([y].map (Value.int .i64)) := Src.of_box wr 3 [.int .i64 y] (K := 1) rfl
      have t3 := hBx.size
      have zB := hB.size
      go_wp2_with (at_builtin; refine wpList_app _ rfl (.tmp 14) (.tmp 18) _ rfl w.heap.size 3 k0 _ 1 8 Try.underlying24 hk0 hk1 hk2 hk3 rfl (by omega) u5 _ _ rfl hU5.1 _ 1 1 ([y].map (Value.int .i64)) rfl hS2 (one_ints _ _) (by simp only [maxLen]; rw [HTL.out]; omega) (by rw [HTL.out]; omega) (by omega) ?_; intro v2 w2 hown2 hgr2 hat2; have hU2 := Own.of (k := .i64) (l := (List.range j).map (fun j => num (D j)) ++ [y]) (by rw [List.map_append]; exact hown2) (fun x hx => by rcases List.mem_append.1 hx with hx | hx; exact hU.2 x hx; rw [List.mem_singleton.1 hx]; exact wfy); have hBf : Below w.heap.size w w2 := Below.grown (w := (wr.alloc (.cells #[.int .i64 y] 3))) (bel_trans hB hBx) hgr2 (by omega) (fun b hb => (hUo b hb).1))
      go_roundw
      case rel => exact ⟨j + 1, by omega, by go_num, by rw [HT.out]; exact hU2, hBf⟩
      case measure => simp [intOf]; omega
    · obtain rfl : K = j := by omega
      have p1 : ¬ (K : Int) < (K : Int) := by omega
      go_wp2
      go_ret
      exact ⟨_, rfl, hU, hB⟩
set_option maxHeartbeats 2000000 in
theorem i_eachHd {w : World} {base K b off B : Nat} {v : Value} {D : Nat → List Int} (hrow : w.ownsRow base 22 1 v K ((List.range K).map (chk83 b off))) (hK : K ≤ 255) (hB0 : B ≤ w.heap.size) (hI : ∀ j, j < K → Ints .u8 w B (some ⟨b, off + 83 * j, none⟩) 83 (D j)) :
    Calls Try.prog 95 #[v, .func (.func 70) #[] #[]] w fun e w' => ∃ u, e = .returned u ∧ GrowR tHeld 30 w' w.heap.size B u ((List.range K).map fun j => heldOf (D j)) ∧ Below w.heap.size w w' := by
  obtain ⟨A, c, rfl, hKc, hcells⟩ := rowS hrow
  obtain ⟨i1, hj0, hj1, hj2, hj3⟩ := info_parts info_Held
  have HC := Lib.hid hcells
  have HI := Lib.hid hI
  clear hcells hI hrow
  go_enter Try.func95, Try.ntmps95
  go_wp2_with fail
  go_loopw [5, 10] (fun u i wr => ∃ j : Nat, j ≤ K ∧ i = .int .i64 j ∧ GrowR tHeld 30 wr w.heap.size B u ((List.range j).map fun j => heldOf (D j)) ∧ Below w.heap.size w wr) (fun _ i _ => K - (intOf i).toNat)
  case atStart => exact ⟨0, by omega, rfl, GrowR.nil, (belx)⟩
  case round =>
    obtain ⟨j, hj, rfl, hG, hB⟩ := hrel
    by_cases hlt : j < K
    · obtain ⟨g, rfl, hg, hcl⟩ := HC.out (by omega)
      have hce : w.cell? ⟨g, j, none⟩ = some (.slice (some ⟨b, off + 83 * j, none⟩) 83 83) := hcl j (chk83 b off j) (by simp [hlt])
      have hc1 : wr.cell? ⟨g, j, none⟩ = some (.slice (some ⟨b, off + 83 * j, none⟩) 83 83) := cell_bel hB hce
      have hIj0 := HI.out j hlt
      have hIj := reach (hIj0.up hB0) hB
      have hby := hIj.bytes
      have wf0 : (Lit.int .i64 (heldOf (D j)).1).wf = true := by
        have h := hby.at_ 0
        show (Lit.int .i64 ((D j).getD 0 0)).wf = true
        exact wf_i64 (by omega) (by omega)
      have wf1 : (Lit.int .i64 (heldOf (D j)).2.1).wf = true := by
        have h1 := hby.at_ 1; have h2 := hby.at_ 2
        show (Lit.int .i64 ((D j).getD 1 0 * 256 + (D j).getD 2 0)).wf = true
        exact wf_i64 (by omega) (by omega)
      have HT := Lib.hid (show (List.range (j + 1)).map (fun j => heldOf (D j)) = ((List.range j).map fun j => heldOf (D j)) ++ [heldOf (D j)] by rw [List.range_succ, List.map_append, List.map_singleton])
      have HTL := Lib.hid (show ((List.range j).map fun j => heldOf (D j)).length = j by simp)
      have hUo := hG.own
      have p1 : (j : Int) < (K : Int) := by omega
      have p0 : (0 : Int) ≤ (j : Int) := by omega
      have zB := hB.size
      clear hcl hce
      go_wp2_with fail
      refine (i_heldIn hIj).mono ?_
      rintro e w1 ⟨rfl, hb1⟩
      have hBx : Below wr.heap.size wr (w1.alloc (.cells ([.int .i64 (heldOf (D j)).1, .int .i64 (heldOf (D j)).2.1, .slice (some ⟨b, off + 83 * j + 3, none⟩) 80 80].toArray) 30)) := bel_alloc hb1 _
      have hR : tHeld.R (w1.alloc (.cells ([.int .i64 (heldOf (D j)).1, .int .i64 (heldOf (D j)).2.1, .slice (some ⟨b, off + 83 * j + 3, none⟩) 80 80].toArray) 30)) B [.int .i64 (heldOf (D j)).1, .int .i64 (heldOf (D j)).2.1, .slice (some ⟨b, off + 83 * j + 3, none⟩) 80 80] (heldOf (D j)) := makeHeld (p := heldOf (D j)) wf0 wf1 (ints_slR (head8 (tail8 (hIj0.below ((bel_trans hB hBx).mono hB0)) 3 (by omega)) 80 (by omega)) (by omega) (by omega))
      obtain ⟨xs, hrow, hpush⟩ := (hG.below hBx (by omega)).row hB0 (by have := hBx.size; omega)
      have tz : (Value.agg #[Value.int .i64 0, Value.int .i64 0, Value.slice none 0 0]).cells.size = 3 := (by first | rfl | (simp [Value.cells]; done))
      have t0 : ∀ u ∈ ([.int .i64 (heldOf (D j)).1, .int .i64 (heldOf (D j)).2.1, .slice (some ⟨b, off + 83 * j + 3, none⟩) 80 80] : List Value), u.oneCell' = true := (one_held _ _ _ _ _)
      have hS2 : Src (w1.alloc (.cells ([.int .i64 (heldOf (D j)).1, .int .i64 (heldOf (D j)).2.1, .slice (some ⟨b, off + 83 * j + 3, none⟩) 80 80].toArray) 30)) 3 (some ⟨w1.heap.size, 0, none⟩) 1 [.int .i64 (heldOf (D j)).1, .int .i64 (heldOf (D j)).2.1, .slice (some ⟨b, off + 83 * j + 3, none⟩) 80 80] := Src.of_box w1 30 [.int .i64 (heldOf (D j)).1, .int .i64 (heldOf (D j)).2.1, .slice (some ⟨b, off + 83 * j + 3, none⟩) 80 80] (K := 3) rfl
      have t3 := hBx.size
      go_wp2_with (at_builtin; refine wpList_app _ rfl (.tmp 14) (.tmp 18) _ rfl w.heap.size 30 i1 _ 3 40 Try.underlying23 hj0 hj1 hj2 hj3 tz (by omega) u5 _ xs rfl hrow _ 1 1 [.int .i64 (heldOf (D j)).1, .int .i64 (heldOf (D j)).2.1, .slice (some ⟨b, off + 83 * j + 3, none⟩) 80 80] rfl hS2 t0 (by simp only [maxLen]; rw [HTL.out]; omega) (by rw [HTL.out]; omega) (by omega) ?_; intro v2 w2 hown2 hgr2 hat2; have hfin := hpush w2 v2 (heldOf (D j)) _ hR hown2 hgr2; have hBf : Below w.heap.size w w2 := Below.grown (w := (w1.alloc (.cells ([.int .i64 (heldOf (D j)).1, .int .i64 (heldOf (D j)).2.1, .slice (some ⟨b, off + 83 * j + 3, none⟩) 80 80].toArray) 30))) (bel_trans hB hBx) hgr2 (by omega) (fun b hb => (hUo b hb).1))
      go_roundw
      case rel => exact ⟨j + 1, by omega, by go_num, by rw [HT.out]; exact hfin, hBf⟩
      case measure => simp [intOf]; omega
    · obtain rfl : K = j := by omega
      have p1 : ¬ (K : Int) < (K : Int) := by omega
      go_wp2
      go_ret
      exact ⟨_, rfl, hG, hB⟩
theorem GrowR.lowB {α : Type} {t : Ty α} {e : TypeId} {w : World} {base base' B : Nat} {v : Value} {l : List α} (h : GrowR t e w base B v l) (hb : base' ≤ base) : GrowR t e w base' B v l := by
  obtain ⟨css, h1, h2, h3⟩ := h
  obtain ⟨a1, a2⟩ := h1
  exact ⟨css, ⟨a1, a2.imp id fun ⟨g, cap, cur, q1, q2, q3⟩ => ⟨g, cap, cur, q1, Nat.le_trans hb q2, q3⟩⟩, h2, h3⟩
set_option maxHeartbeats 1000000 in
theorem i_part83 {w : World} {K b off c B : Nat} {A : Option Addr} {D : Nat → List Int} (hK : K ≤ 255) (hc : 83 * K ≤ c) (hcm : c ≤ 9223372036854775807) (hA : 0 < K → A = some ⟨b, off, none⟩) (hB0 : B ≤ w.heap.size) (hI : ∀ j, j < K → Ints .u8 w B (some ⟨b, off + 83 * j, none⟩) 83 (D j)) :
    Calls Try.prog 69 #[.slice A (83 * K) c, .int .i64 83, .func (.func 70) #[] #[]] w fun e w' => ∃ u, e = .returned u ∧ GrowR tHeld 30 w' w.heap.size B u ((List.range K).map fun j => heldOf (D j)) ∧ Below w.heap.size w w' := by
  have hS : ((w.alloc (.cells #[.slice A (83 * K) c] 22)).alloc (.cells #[.int .i64 83] 3)).cell? ⟨w.heap.size, 0, none⟩ = some (.slice A (83 * K) c) := ((Box.new w 22 #[.slice A (83 * K) c]).alloc _).cell 0
  have hN : ((w.alloc (.cells #[.slice A (83 * K) c] 22)).alloc (.cells #[.int .i64 83] 3)).cell? ⟨w.heap.size + 1, 0, none⟩ = some (.int .i64 83) := (show Box ((w.alloc (.cells #[.slice A (83 * K) c] 22)).alloc (.cells #[.int .i64 83] 3)) (w.heap.size + 1) 3 #[.int .i64 83] by simpa using Box.new (w.alloc (.cells #[.slice A (83 * K) c] 22)) 3 #[.int .i64 83]).cell 0
  obtain ⟨nn, hnn⟩ : ∃ m, 83 * K = m := ⟨_, rfl⟩
  have HNN := Lib.hid hnn
  rw [hnn] at hS hN ⊢
  clear hnn
  go_enter Try.func69, Try.ntmps69
  go_wp2_with fail
  refine (i_Chunk A nn c 83 (by omega) _).mono ?_
  rintro e w' ⟨rfl, rfl⟩
  go_wp2_with fail
  refine (i_CollectChk83 (K := K) (b := b) (off := off) (c := c) (A := A) (by omega) hc hcm hA (by simp; omega) (by simp) (by rw [HNN.out]; exact hS) (by rw [HNN.out] at *; exact hN)).mono ?_
  rintro e w1 ⟨v, rfl, hrow, hb1⟩
  have hs1 : Below w.heap.size w w1 := bel_trans (belx) hb1
  have z1 := hs1.size
  go_wp2_with fail
  refine (i_eachHd hrow hK (by omega) (fun j hj => (hI j hj).below (hs1.mono hB0))).mono ?_
  rintro e w2 ⟨u, rfl, hG, hb2⟩
  go_wp2
  go_ret
  exact ⟨u, rfl, hG.lowB z1, bel_trans hs1 hb2⟩
set_option maxHeartbeats 1000000 in
theorem i_part4 {w : World} {K b off c B : Nat} {A : Option Addr} {D : Nat → List Int} (hK : K ≤ 255) (hc : 4 * K ≤ c) (hcm : c ≤ 9223372036854775807) (hA : 0 < K → A = some ⟨b, off, none⟩) (hI : ∀ j, j < K → Ints .u8 w w.heap.size (some ⟨b, off + 4 * j, none⟩) 4 (D j)) :
    Calls Try.prog 71 #[.slice A (4 * K) c, .int .i64 4, .func (.func 72) #[] #[]] w fun e w' => ∃ u, e = .returned u ∧ Own .i64 3 w' w.heap.size u ((List.range K).map fun j => num (D j)) ∧ Below w.heap.size w w' := by
  have hS : ((w.alloc (.cells #[.slice A (4 * K) c] 22)).alloc (.cells #[.int .i64 4] 3)).cell? ⟨w.heap.size, 0, none⟩ = some (.slice A (4 * K) c) := ((Box.new w 22 #[.slice A (4 * K) c]).alloc _).cell 0
  have hN : ((w.alloc (.cells #[.slice A (4 * K) c] 22)).alloc (.cells #[.int .i64 4] 3)).cell? ⟨w.heap.size + 1, 0, none⟩ = some (.int .i64 4) := (show Box ((w.alloc (.cells #[.slice A (4 * K) c] 22)).alloc (.cells #[.int .i64 4] 3)) (w.heap.size + 1) 3 #[.int .i64 4] by simpa using Box.new (w.alloc (.cells #[.slice A (4 * K) c] 22)) 3 #[.int .i64 4]).cell 0
  obtain ⟨nn, hnn⟩ : ∃ m, 4 * K = m := ⟨_, rfl⟩
  have HNN := Lib.hid hnn
  rw [hnn] at hS hN ⊢
  clear hnn
  go_enter Try.func71, Try.ntmps71
  go_wp2_with fail
  refine (i_Chunk A nn c 4 (by omega) _).mono ?_
  rintro e w' ⟨rfl, rfl⟩
  go_wp2_with fail
  refine (i_CollectChk4 (K := K) (b := b) (off := off) (c := c) (A := A) (by omega) hc hcm hA (by simp; omega) (by simp) (by rw [HNN.out]; exact hS) (by rw [HNN.out] at *; exact hN)).mono ?_
  rintro e w1 ⟨v, rfl, hrow, hb1⟩
  have hs1 : Below w.heap.size w w1 := bel_trans (belx) hb1
  have z1 := hs1.size
  go_wp2_with fail
  refine (i_eachNum hrow hK (fun j hj => reach (hI j hj) hs1)).mono ?_
  rintro e w2 ⟨u, rfl, hG, hb2⟩
  go_wp2
  go_ret
  exact ⟨u, rfl, hG.lower z1, bel_trans hs1 hb2⟩
theorem heldOf_take (d : List Int) : heldOf (d.take 83) = heldOf d := by
  unfold heldOf
  rw [getDtk (show 0 < 83 by omega), getDtk (show 1 < 83 by omega), getDtk (show 2 < 83 by omega), List.drop_take, List.take_take]
  rfl
theorem num_take4 {d : List Int} (h : 4 ≤ d.length) : num (d.take 4) = get4 d := by
  match d, h with
  | a :: b :: c :: e :: r, _ => simp [num, get4]; omega
end Go.Proofs.Ytblcfncjghkegaa
