/-
  PRdJ: texts joined.
-/
import Derived.Test.YtblcfncjghkegaaPGk
import Derived.Test.YtblcfncjghkegaaPGx
import Derived.Deep.Cut
import Derived.Deep.CutRange
import Derived.Deep.DeepCutAuto
import Derived.Deep.RegionHeld3
namespace Go.Proofs.Ytblcfncjghkegaa
set_option maxRecDepth 100000
set_option linter.unusedVariables false
set_option linter.unusedSimpArgs false
open Go.ChangeShapes Go.WideShapes Go.ChangeAt Go.RowKit
open Fld
set_option maxHeartbeats 2000000 in
theorem i_PoolRead_f {w : World} {n c : Nat} {A : Option Addr} {l : List Int} (h : tBy.R w w.heap.size [.slice A n c] l) (hz : l.length ≤ 1048576) (hs : n < 2 ∨ n ≠ rdSz l) :
    Calls Try.prog 27 #[.slice A n c] w fun e w' => ∃ cs F, e = .returned (.tuple #[.agg cs.toArray, .bool (decide (RdOk l))]) ∧ tPool.O w' cs (fRd l) F ∧ New w.heap.size F ∧ Below w.heap.size w w' := by
  obtain ⟨hI, hnc, hcm⟩ := slR_ints h
  have hln := hI.1
  have hp : ¬ RdOk l := fun x => by have a1 := x.1.1; have a2 := x.1.2; omega
  have HD := Lib.hid (decide_eq_false hp)
  rw [fRd_f hp, HD.out]
  have B1 : Box (w.alloc (.cells #[.slice none 0 0, .slice none 0 0] 26)) w.heap.size 26 #[.slice none 0 0, .slice none 0 0] := Box.new _ _ _
  have hI1 := reach hI (show Below w.heap.size w (w.alloc (.cells #[.slice none 0 0, .slice none 0 0] 26)) from (belx))
  clear hp
  by_cases h2 : n < 2
  · have p1 : (n : Int) < 2 := by omega
    have y0 := B1.cell 0; have y1 := B1.cell 1; have f0 := B1.frozen 0; have f1 := B1.frozen 1
    have RR := (B1.put 0 (.slice none 0 0)).put 1 (.slice none 0 0)
    have e0 := RR.cell 0; have e1 := RR.cell 1
    clear hs hln
    go_enter Try.func27, Try.ntmps27
    go_wp2
    refine bodyPost_ret (v := .tuple #[.agg #[.slice none 0 0, .slice none 0 0], .bool false]) (by simp [results, Try.results27, go_sem, e0, e1]) rfl ⟨_, _, rfl, plzO, New.nil _, ?_⟩
    first | exact (show Below w.heap.size w (w.alloc (.cells #[.slice none 0 0, .slice none 0 0] 26)) from (belx)) | exact bel_put (bel_put (show Below w.heap.size w (w.alloc (.cells #[.slice none 0 0, .slice none 0 0] 26)) from (belx)) (p := ⟨w.heap.size, 0, none⟩) (Nat.le_refl _) _) (p := ⟨w.heap.size, 1, none⟩) (Nat.le_refl _) _
  · have hne : n ≠ rdSz l := by omega
    obtain ⟨S, hS⟩ : ∃ S, rdSz l = S := ⟨_, rfl⟩
    have HS := Lib.hid hS
    rw [hS] at hne
    have p1 : ¬ (n : Int) < 2 := by omega
    have p2 : ((n : Int) != (S : Int)) = true := by simp; omega
    clear hs hln hS hne
    go_enter Try.func27, Try.ntmps27
    go_wp2_with fail
    refine (i_poolSize hI1 (by omega) hnc hcm).mono ?_
    rintro e w1 ⟨rfl, q, rfl⟩
    rw [HS.out]
    have B2 : Box ((w.alloc (.cells #[.slice none 0 0, .slice none 0 0] 26)).drewN q) w.heap.size 26 #[.slice none 0 0, .slice none 0 0] := B1.drewN q
    have y0 := B2.cell 0; have y1 := B2.cell 1; have f0 := B2.frozen 0; have f1 := B2.frozen 1
    go_wp2
    have RR := (B2.put 0 (.slice none 0 0)).put 1 (.slice none 0 0)
    have e0 := RR.cell 0; have e1 := RR.cell 1
    refine bodyPost_ret (v := .tuple #[.agg #[.slice none 0 0, .slice none 0 0], .bool false]) (by simp [results, Try.results27, go_sem, e0, e1]) rfl ⟨_, _, rfl, plzO, New.nil _, ?_⟩
    exact bel_put (bel_put (show Below w.heap.size w ((w.alloc (.cells #[.slice none 0 0, .slice none 0 0] 26)).drewN q) from (belx)) (p := ⟨w.heap.size, 0, none⟩) (Nat.le_refl _) _) (p := ⟨w.heap.size, 1, none⟩) (Nat.le_refl _) _
set_option maxHeartbeats 2000000 in
theorem i_PoolRead_t {w : World} {n c : Nat} {A : Option Addr} {l : List Int} (h : tBy.R w w.heap.size [.slice A n c] l) (hz : l.length ≤ 1048576) (h2 : 2 ≤ n) (hs : n = rdSz l) :
    Calls Try.prog 27 #[.slice A n c] w fun e w' => ∃ cs F, e = .returned (.tuple #[.agg cs.toArray, .bool (decide (RdOk l))]) ∧ tPool.O w' cs (fRd l) F ∧ New w.heap.size F ∧ Below w.heap.size w w' := by
  obtain ⟨hI, hnc, hcm⟩ := slR_ints h
  have hln := hI.1
  have HLN := Lib.hid hln
  obtain ⟨bb, of, rfl, hba, hc0, hw0⟩ := hI.at_ (i := 0) (by omega)
  rw [Nat.add_zero] at hc0
  have r0 := u8_rg' hw0
  obtain ⟨N, hN⟩ : ∃ N : Nat, rdN l = N := ⟨_, rfl⟩
  obtain ⟨M, hM⟩ : ∃ M : Nat, rdM l = M := ⟨_, rfl⟩
  have e0 : l.getD 0 0 = (N : Int) := by rw [← hN]; unfold rdN; omega
  have r1 := u8_rg' (hI.at_ (i := 1) (by omega)).choose_spec.choose_spec.2.2.2
  have e1 : l.getD 1 0 = (M : Int) := by rw [← hM]; unfold rdM; omega
  rw [e0] at hc0 r0
  rw [e1] at r1
  have hS : rdSz l = 2 + 83 * N + 4 * M := by unfold rdSz; rw [hN, hM]
  have HS := Lib.hid hs
  have hn : n = 2 + 83 * N + 4 * M := by rw [hs, hS]
  have hN2 : N ≤ 255 := by omega
  have hM2 : M ≤ 255 := by omega
  have hN' := Lib.hid hN
  have hM' := Lib.hid hM
  obtain ⟨T, hT⟩ : ∃ T, 2 + 83 * N = T := ⟨_, rfl⟩
  have hTi : (2 : Int) + 83 * (N : Int) = (T : Int) := by omega
  have B1 : Box (w.alloc (.cells #[.slice none 0 0, .slice none 0 0] 26)) w.heap.size 26 #[.slice none 0 0, .slice none 0 0] := Box.new _ _ _
  have hI1 := reach hI (show Below w.heap.size w (w.alloc (.cells #[.slice none 0 0, .slice none 0 0] 26)) from (belx))
  have d0 : (w.alloc (.cells #[.slice none 0 0, .slice none 0 0] 26)).cell? ⟨bb, of, none⟩ = some (.int .u8 (N : Int)) := cell_bel (belx) hc0
  have p1 : ¬ (n : Int) < 2 := by omega
  have p2 : ((n : Int) != (n : Int)) = false := by simp
  have p3 : (0 : Int) < (n : Int) := by omega
  have v1 : IntKind.i64.wrap (83 * (N : Int)) = 83 * (N : Int) := IntWalk.i64_in _ (by omega)
  have v2 : IntKind.i64.wrap (2 + 83 * (N : Int)) = (T : Int) := by rw [hTi]; exact IntWalk.i64_in _ (by omega)
  have t0 : 2 ≤ T := by omega
  have t1 : T ≤ n := by omega
  have t2 : T ≤ c := by omega
  have t3 : (2 : Int) ≤ (T : Int) := by omega
  have t4 : (T : Int) ≤ (c : Int) := by omega
  have t5 : (T : Int) ≤ (n : Int) := by omega
  have HT := Lib.hid hT
  have HN := Lib.hid hn
  clear hs hln e0 e1 hS hN hM hn hT hTi hw0 hc0
  go_enter Try.func27, Try.ntmps27
  go_wp2_with fail
  refine (i_poolSize hI1 (by omega) hnc hcm).mono ?_
  rintro e w1 ⟨rfl, q, rfl⟩
  rw [← HS.out]
  have B2 : Box ((w.alloc (.cells #[.slice none 0 0, .slice none 0 0] 26)).drewN q) w.heap.size 26 #[.slice none 0 0, .slice none 0 0] := B1.drewN q
  have d1 : ((w.alloc (.cells #[.slice none 0 0, .slice none 0 0] 26)).drewN q).cell? ⟨bb, of, none⟩ = some (.int .u8 (N : Int)) := d0
  obtain ⟨wy, hwy⟩ : ∃ wy, (w.alloc (.cells #[.slice none 0 0, .slice none 0 0] 26)).drewN q = wy := ⟨_, rfl⟩
  have hI2 : Ints .u8 wy wy.heap.size (some ⟨bb, of, none⟩) n l := by rw [← hwy]; exact hI1
  have hBy : Below w.heap.size w wy := by rw [← hwy]; exact (belx)
  have zy : w.heap.size < wy.heap.size := by rw [← hwy]; show _ < (World.alloc _ _).heap.size; simp
  rw [hwy] at B2 d1 ⊢
  clear hwy hI1 B1 d0 hI
  obtain ⟨A2, hA2⟩ : ∃ A2 : Option Addr, (if c = 2 then some (⟨bb, of, none⟩ : Addr) else some ⟨bb, of + 2, none⟩) = A2 := ⟨_, rfl⟩
  obtain ⟨A4, hA4⟩ : ∃ A4 : Option Addr, (if c = T then some (⟨bb, of, none⟩ : Addr) else some ⟨bb, of + T, none⟩) = A4 := ⟨_, rfl⟩
  have HQ2 := Lib.hid (show 0 < N → A2 = some ⟨bb, of + 2, none⟩ from fun h0 => by rw [← hA2, if_neg (by have := HT.out; omega)])
  have HQ4 := Lib.hid (show 0 < M → A4 = some ⟨bb, of + T, none⟩ from fun h0 => by rw [← hA4, if_neg (by have := HN.out; have := HT.out; omega)])
  have HA2 := Lib.hid hA2
  have HA4 := Lib.hid hA4
  have HT2 := Lib.hid (show T - 2 = 83 * N by have := HT.out; omega)
  have HT4 := Lib.hid (show n - T = 4 * M by have := HT.out; have := HN.out; omega)
  clear hA2 hA4
  have HI83 := Lib.hid (show ∀ j, j < N → ∀ W, Below wy.heap.size wy W → Ints .u8 W wy.heap.size (some ⟨bb, of + 2 + 83 * j, none⟩) 83 ((l.drop (2 + 83 * j)).take 83) from fun j hj W hW => by
    have h1 := HN.out
    have h2 := head8 (tail8 hI2 (2 + 83 * j) (by omega)) 83 (by omega)
    rw [← Nat.add_assoc] at h2
    exact h2.below hW)
  have HI4 := Lib.hid (show ∀ j, j < M → ∀ W, Below wy.heap.size wy W → Ints .u8 W W.heap.size (some ⟨bb, of + T + 4 * j, none⟩) 4 ((l.drop (T + 4 * j)).take 4) from fun j hj W hW => by
    have h1 := HN.out; have h3 := HT.out
    have h2 := head8 (tail8 hI2 (T + 4 * j) (by omega)) 4 (by omega)
    rw [← Nat.add_assoc] at h2
    exact (h2.below hW).up hW.size)
  have HL83 := Lib.hid (show (List.range N).map (fun j => heldOf ((l.drop (2 + 83 * j)).take 83)) = rdL l N by unfold rdL; exact List.map_congr_left (fun j _ => heldOf_take _))
  have HL4 := Lib.hid (show (List.range M).map (fun j => num ((l.drop (T + 4 * j)).take 4)) = rdT l N M by
    unfold rdT
    refine List.map_congr_left (fun j hj => ?_)
    have h1 := HN.out; have h3 := HT.out; have h4 := HLN.out
    have := List.mem_range.1 hj
    rw [h3]
    exact num_take4 (by rw [List.length_drop]; omega))
  have HLL := Lib.hid (rdL_len l N)
  have HLT := Lib.hid (rdT_len l N M)
  have HRP := Lib.hid (show rdP l = (rdL l N, rdT l N M) by unfold rdP; rw [hN'.out, hM'.out])
  have q2 : 83 * N ≤ c - 2 := by have := HT.out; omega
  have q4 : 4 * M ≤ c - T := by have := HT.out; have := HN.out; omega
  go_wp2_with fail
  go_cut [5] (fun t5 wc => ∃ (pb : Nat) (v0 v1 : Value), t5 = .pointer (some ⟨pb, 0, none⟩) ∧ Box wc pb 26 #[v0, v1] ∧ tPool.R wc wc.heap.size [v0, v1] (rdP l) ∧ Below wy.heap.size wy wc ∧ wy.heap.size ≤ pb)
  case first =>
    by_cases hcT : c = T
    · subst hcT
      obtain rfl : M = 0 := by have := HT.out; have := HN.out; omega
      refine wp_region_held_drew (S := (fun _ => True)) (by kernel_rfl) (by trivial) (fun hHeld => ?_)
      refine wpAnyH_take (i := 0) (oi := ⟨some 23, _, _, _, _, _⟩) (v := ?v1) rfl (by kernel_rfl) (by kernel_rfl) (by kernel_rfl) (fun _ _ _ h => h) (Or.inl ⟨by rfl, ?hy1⟩) (by assumption) ?_
      case hy1 => (intro w hSw; (try dsimp only at hSw); go_simp; try (with_reducible rfl))
      (try simp only [Act.put, qa_, qb_, qc_])
      refine wpAnyH_take (i := 1) (oi := ⟨some 24, _, _, _, _, _⟩) (v := ?v2) rfl (by kernel_rfl) (by kernel_rfl) (by kernel_rfl) (fun _ _ _ h => h) (Or.inl ⟨by rfl, ?hy2⟩) (by assumption) ?_
      case hy2 => (intro w hSw; (try dsimp only at hSw); go_simp; try (with_reducible rfl))
      (try simp only [Act.put, qa_, qb_, qc_])
      refine wpAnyH_take (i := 2) (oi := ⟨some 25, _, _, _, _, _⟩) (v := ?v3) rfl (by kernel_rfl) (by kernel_rfl) (by kernel_rfl) (fun _ _ _ h => h) (Or.inl ⟨by rfl, ?hy3⟩) (by assumption) ?_
      case hy3 => (intro w hSw; (try dsimp only at hSw); go_simp; try (with_reducible rfl))
      (try simp only [Act.put, qa_, qb_, qc_])
      refine wpAnyH_take (i := 4) (oi := ⟨some 27, _, _, _, _, _⟩) (v := ?v4) rfl (by kernel_rfl) (by kernel_rfl) (by kernel_rfl) (fun _ _ _ h => h) (Or.inl ⟨by rfl, ?hy4⟩) (by assumption) ?_
      case hy4 => (intro w hSw; (try dsimp only at hSw); go_simp; try (with_reducible rfl))
      (try simp only [Act.put, qa_, qb_, qc_])
      refine wpAnyH_take (i := 5) (oi := ⟨some 28, _, _, _, _, _⟩) (v := ?v5) rfl (by kernel_rfl) (by kernel_rfl) (by kernel_rfl) (fun _ _ _ h => h) (Or.inl ⟨by rfl, ?hy5⟩) (by assumption) ?_
      case hy5 => (intro w hSw; (try dsimp only at hSw); go_simp; try (with_reducible rfl))
      (try simp only [Act.put, qa_, qb_, qc_])
      refine wpAnyH_take (i := 6) (oi := ⟨some 29, _, _, _, _, _⟩) (v := ?v6) rfl (by kernel_rfl) (by kernel_rfl) (by kernel_rfl) (fun _ _ _ h => h) (Or.inl ⟨by rfl, ?hy6⟩) (by assumption) ?_
      case hy6 => (intro w hSw; (try dsimp only at hSw); go_simp; try (with_reducible rfl))
      (try simp only [Act.put, qa_, qb_, qc_])
      refine wpAnyH_ready (rs := [3, 9]) (by kernel_rfl) (by simp) ?_
      refine AllReadyH.cons rfl (fun K hK => ?_) ?_
      · have hX : Below wy.heap.size wy (wy.drew) := (belx)
        go_simp
        go_at_call 69
        rw [HA2.out, HT2.out]
        refine (i_part83 (K := N) (b := bb) (off := of + 2) (B := wy.heap.size) (D := fun j => (l.drop (2 + 83 * j)).take 83) hN2 (Nat.le_refl _) (by omega) HQ2.out hX.size (fun j hj => HI83.out j hj _ hX)).mono ?_
        rintro e w2 ⟨u2, rfl, hG2, hb2⟩
        rw [HL83.out] at hG2
        have hx2 : Below wy.heap.size wy w2 := bel_trans hX hb2
        obtain ⟨A8, c8, rfl, hr8⟩ := hG2.done hx2.size
        rw [HLL.out] at hG2 hr8 ⊢
        go_wp2_with fail
        refine hK.out _ _ (by trivial) (fun hHeld => ?_)
        clear hK K
        (try simp only [Act.put, qa_, qb_, qc_])
        refine wpAnyH_ready (rs := [7, 9]) (by kernel_rfl) (by simp) ?_
        refine AllReadyH.cons rfl (fun K hK => ?_) ?_
        · have hX7 : Below wy.heap.size wy w2 := hx2
          go_simp
          go_at_call 71
          refine (i_part4 (B := 0) (K := 0) (b := bb) (off := of + c) (D := fun j => (l.drop (c + 4 * j)).take 4) hM2 (by omega) (by omega) (fun hh => absurd hh (by omega)) (fun j hj => HI4.out j hj _ hX7)).mono ?_
          rintro e w4 ⟨u4, rfl, hO4, hb4⟩
          rw [HL4.out] at hO4
          obtain ⟨A9, c9, F9, rfl, hO9, hN9⟩ := own_slice hO4
          rw [HLT.out] at hO9 ⊢
          have hx4 : Below wy.heap.size wy w4 := bel_trans hX7 hb4
          have hr8 := tHeld.row.reach hr8 hb4
          go_wp2_with fail
          refine hK.out _ _ (by trivial) (fun hHeld => ?_)
          clear hK K
          (try simp only [Act.put, qa_, qb_, qc_])
          refine wpAnyH_take (i := 8) (oi := ⟨some 31, _, _, _, _, _⟩) (v := ?v7) rfl (by kernel_rfl) (by kernel_rfl) (by kernel_rfl) (fun _ _ _ h => h) (Or.inl ⟨by rfl, ?hy7⟩) (by assumption) ?_
          case hy7 => (intro w hSw; (try dsimp only at hSw); go_simp; try (with_reducible rfl))
          (try simp only [Act.put, qa_, qb_, qc_])
          refine wpAnyH_ready (rs := [9]) (by kernel_rfl) (by simp) ?_
          refine AllReadyH.cons rfl (fun K hK => ?_) ?_
          · go_simp
            refine hK.out _ _ (by trivial) (fun hHeld => ?_)
            clear hK K
            (try simp only [Act.put, qa_, qb_, qc_])
            refine wpAnyH_ready (rs := [10]) (by kernel_rfl) (by simp) ?_
            refine AllReadyH.cons rfl (fun K hK => ?_) ?_
            · have Zg : Box (w4.alloc (.cells #[.slice A8 N c8, .slice A9 0 c9] 26)) w4.heap.size 26 #[.slice A8 N c8, .slice A9 0 c9] := Box.new _ _ _
              have hfin : Below wy.heap.size wy (w4.alloc (.cells #[.slice A8 N c8, .slice A9 0 c9] 26)) := bel_alloc hx4 _
              have hgl : wy.heap.size ≤ w4.heap.size := hx4.size
              have bq : Below w4.heap.size w4 (w4.alloc (.cells #[.slice A8 N c8, .slice A9 0 c9] 26)) := bel_alloc (Below.refl _ _) _
              have hRP : tPool.R (w4.alloc (.cells #[.slice A8 N c8, .slice A9 0 c9] 26)) (w4.alloc (.cells #[.slice A8 N c8, .slice A9 0 c9] 26)).heap.size [.slice A8 N c8, .slice A9 0 c9] (rdP l) := by rw [HRP.out]; exact makePool (p := (rdL l N, rdT l N 0)) (tHeld.row.reach hr8 bq) (tIs.reach (tIs.read hO9) bq)
              go_simp
              refine hK.out _ _ (by trivial) (fun hHeld => ?_)
              clear hK K
              (try simp only [Act.put, qa_, qb_, qc_])
              refine wpAnyH_done (by kernel_rfl) ?_ _
              go_wp2_with fail
              go_meet
              exact ⟨_, _, _, rfl, by first | exact Zg | simpa using Zg, by first | exact hRP | simpa using hRP, by first | exact hfin | simpa using hfin, hgl⟩
            exact AllReadyH.nil
          exact AllReadyH.nil
        refine AllReadyH.cons rfl (fun K hK => ?_) ?_
        · go_simp
          refine hK.out _ _ (by trivial) (fun hHeld => ?_)
          clear hK K
          (try simp only [Act.put, qa_, qb_, qc_])
          refine wpAnyH_ready (rs := [7]) (by kernel_rfl) (by simp) ?_
          refine AllReadyH.cons rfl (fun K hK => ?_) ?_
          · have hX7 : Below wy.heap.size wy (w2.alloc (.cells #[.slice none 0 0, .slice none 0 0] 26)) := bel_alloc hx2 _
            go_simp
            go_at_call 71
            refine (i_part4 (B := 0) (K := 0) (b := bb) (off := of + c) (D := fun j => (l.drop (c + 4 * j)).take 4) hM2 (by omega) (by omega) (fun hh => absurd hh (by omega)) (fun j hj => HI4.out j hj _ hX7)).mono ?_
            rintro e w4 ⟨u4, rfl, hO4, hb4⟩
            rw [HL4.out] at hO4
            obtain ⟨A9, c9, F9, rfl, hO9, hN9⟩ := own_slice hO4
            rw [HLT.out] at hO9 ⊢
            have hx4 : Below wy.heap.size wy w4 := bel_trans hX7 hb4
            have Zb : Box w4 w2.heap.size 26 #[.slice none 0 0, .slice none 0 0] := Box.below (Box.new w2 26 #[.slice none 0 0, .slice none 0 0]) hb4 (by simp)
            have hr8 := tHeld.row.keep hr8 (Below.block (bel_trans (show Below w2.heap.size w2 (w2.alloc (.cells #[.slice none 0 0, .slice none 0 0] 26)) from bel_alloc (Below.refl _ _) _) hb4))
            have zc0 := Zb.cell 0; have zc1 := Zb.cell 1; have zg0 := Zb.frozen 0; have zg1 := Zb.frozen 1
            go_wp2_with fail
            refine hK.out _ _ (by trivial) (fun hHeld => ?_)
            clear hK K
            (try simp only [Act.put, qa_, qb_, qc_])
            refine wpAnyH_take (i := 8) (oi := ⟨some 31, _, _, _, _, _⟩) (v := ?v8) rfl (by kernel_rfl) (by kernel_rfl) (by kernel_rfl) (fun _ _ _ h => h) (Or.inl ⟨by rfl, ?hy8⟩) (by assumption) ?_
            case hy8 => (intro w hSw; (try dsimp only at hSw); go_simp; try (with_reducible rfl))
            (try simp only [Act.put, qa_, qb_, qc_])
            refine wpAnyH_ready (rs := [10]) (by kernel_rfl) (by simp) ?_
            refine AllReadyH.cons rfl (fun K hK => ?_) ?_
            · have hgl : wy.heap.size ≤ w2.heap.size := hx2.size
              have hgB : w2.heap.size < (w2.alloc (.cells #[.slice none 0 0, .slice none 0 0] 26)).heap.size := by simp
              have hrX : tHeld.row.R ((w4.setCell ⟨w2.heap.size, 0, none⟩ (.slice A8 N c8)).setCell ⟨w2.heap.size, 1, none⟩ (.slice A9 0 c9)) ((w4.setCell ⟨w2.heap.size, 0, none⟩ (.slice A8 N c8)).setCell ⟨w2.heap.size, 1, none⟩ (.slice A9 0 c9)).heap.size [.slice A8 N c8] (rdL l N) := tHeld.row.up (tHeld.row.keep hr8 (fun b hb => by rw [Below.heap_setCell _ _ _ _ (by show b ≠ w2.heap.size; omega), Below.heap_setCell _ _ _ _ (by show b ≠ w2.heap.size; omega)])) (by rw [World.size_setCell, World.size_setCell]; have h := hb4.size; rw [World.size_alloc] at h; omega)
              have hfin := (bel_put (bel_put hx4 (p := ⟨w2.heap.size, 0, none⟩) hgl (.slice A8 N c8)) (p := ⟨w2.heap.size, 1, none⟩) hgl (.slice A9 0 c9))
              have Zg := ((Zb.put 0 (.slice A8 N c8)).put 1 (.slice A9 0 c9))
              have hRP : tPool.R ((w4.setCell ⟨w2.heap.size, 0, none⟩ (.slice A8 N c8)).setCell ⟨w2.heap.size, 1, none⟩ (.slice A9 0 c9)) ((w4.setCell ⟨w2.heap.size, 0, none⟩ (.slice A8 N c8)).setCell ⟨w2.heap.size, 1, none⟩ (.slice A9 0 c9)).heap.size [.slice A8 N c8, .slice A9 0 c9] (rdP l) := by rw [HRP.out]; exact makePool (p := (rdL l N, rdT l N 0)) hrX (tIs.read (Ty.far (t := tIs) (Ty.far (t := tIs) hO9 hN9 (p := ⟨w2.heap.size, 0, none⟩) hgB (.slice A8 N c8)) hN9 (p := ⟨w2.heap.size, 1, none⟩) hgB (.slice A9 0 c9)))
              go_simp
              refine hK.out _ _ (by trivial) (fun hHeld => ?_)
              clear hK K
              (try simp only [Act.put, qa_, qb_, qc_])
              refine wpAnyH_done (by kernel_rfl) ?_ _
              go_wp2_with fail
              go_meet
              exact ⟨_, _, _, rfl, by first | exact Zg | simpa using Zg, by first | exact hRP | simpa using hRP, by first | exact hfin | simpa using hfin, hgl⟩
            exact AllReadyH.nil
          exact AllReadyH.nil
        exact AllReadyH.nil
      refine AllReadyH.cons rfl (fun K hK => ?_) ?_
      · go_simp
        refine hK.out _ _ (by trivial) (fun hHeld => ?_)
        clear hK K
        (try simp only [Act.put, qa_, qb_, qc_])
        refine wpAnyH_ready (rs := [3]) (by kernel_rfl) (by simp) ?_
        refine AllReadyH.cons rfl (fun K hK => ?_) ?_
        · have hX : Below wy.heap.size wy ((wy.alloc (.cells #[.slice none 0 0, .slice none 0 0] 26)).drew) := (belx)
          go_simp
          go_at_call 69
          rw [HA2.out, HT2.out]
          refine (i_part83 (K := N) (b := bb) (off := of + 2) (B := wy.heap.size) (D := fun j => (l.drop (2 + 83 * j)).take 83) hN2 (Nat.le_refl _) (by omega) HQ2.out hX.size (fun j hj => HI83.out j hj _ hX)).mono ?_
          rintro e w2 ⟨u2, rfl, hG2, hb2⟩
          rw [HL83.out] at hG2
          have hx2 : Below wy.heap.size wy w2 := bel_trans hX hb2
          obtain ⟨A8, c8, rfl, hr8⟩ := hG2.done hx2.size
          rw [HLL.out] at hG2 hr8 ⊢
          have Zb : Box w2 wy.heap.size 26 #[.slice none 0 0, .slice none 0 0] := Box.below (show Box ((wy.alloc (.cells #[.slice none 0 0, .slice none 0 0] 26)).drew) wy.heap.size 26 #[.slice none 0 0, .slice none 0 0] from Box.drew (Box.new wy 26 #[.slice none 0 0, .slice none 0 0])) hb2 (by show wy.heap.size < (World.alloc _ _).heap.size; simp)
          have zb0 := Zb.cell 0; have zb1 := Zb.cell 1; have zf0 := Zb.frozen 0; have zf1 := Zb.frozen 1
          go_wp2_with fail
          refine hK.out _ _ (by trivial) (fun hHeld => ?_)
          clear hK K
          (try simp only [Act.put, qa_, qb_, qc_])
          refine wpAnyH_ready (rs := [7]) (by kernel_rfl) (by simp) ?_
          refine AllReadyH.cons rfl (fun K hK => ?_) ?_
          · have hX7 : Below wy.heap.size wy w2 := hx2
            go_simp
            go_at_call 71
            refine (i_part4 (B := 0) (K := 0) (b := bb) (off := of + c) (D := fun j => (l.drop (c + 4 * j)).take 4) hM2 (by omega) (by omega) (fun hh => absurd hh (by omega)) (fun j hj => HI4.out j hj _ hX7)).mono ?_
            rintro e w4 ⟨u4, rfl, hO4, hb4⟩
            rw [HL4.out] at hO4
            obtain ⟨A9, c9, F9, rfl, hO9, hN9⟩ := own_slice hO4
            rw [HLT.out] at hO9 ⊢
            have hx4 : Below wy.heap.size wy w4 := bel_trans hX7 hb4
            replace Zb := Zb.below hb4 Zb.size
            have hG2 := hG2.below hb4 hx2.size
            have zc0 := Zb.cell 0; have zc1 := Zb.cell 1; have zg0 := Zb.frozen 0; have zg1 := Zb.frozen 1
            go_wp2_with fail
            refine hK.out _ _ (by trivial) (fun hHeld => ?_)
            clear hK K
            (try simp only [Act.put, qa_, qb_, qc_])
            refine wpAnyH_take (i := 8) (oi := ⟨some 31, _, _, _, _, _⟩) (v := ?v9) rfl (by kernel_rfl) (by kernel_rfl) (by kernel_rfl) (fun _ _ _ h => h) (Or.inl ⟨by rfl, ?hy9⟩) (by assumption) ?_
            case hy9 => (intro w hSw; (try dsimp only at hSw); go_simp; try (with_reducible rfl))
            (try simp only [Act.put, qa_, qb_, qc_])
            refine wpAnyH_ready (rs := [10]) (by kernel_rfl) (by simp) ?_
            refine AllReadyH.cons rfl (fun K hK => ?_) ?_
            · have hgl : wy.heap.size ≤ wy.heap.size := Nat.le_refl _
              have hgB : wy.heap.size < w2.heap.size := by have h := hb2.size; simp at h; omega
              have hgC : wy.heap.size < ((wy.alloc (.cells #[.slice none 0 0, .slice none 0 0] 26)).drew).heap.size := by show wy.heap.size < (World.alloc _ _).heap.size; simp
              have hrX : tHeld.row.R ((w4.setCell ⟨wy.heap.size, 0, none⟩ (.slice A8 N c8)).setCell ⟨wy.heap.size, 1, none⟩ (.slice A9 0 c9)) ((w4.setCell ⟨wy.heap.size, 0, none⟩ (.slice A8 N c8)).setCell ⟨wy.heap.size, 1, none⟩ (.slice A9 0 c9)).heap.size [.slice A8 N c8] (rdL l N) := GrowR.doneAs ((hG2.put (p := ⟨wy.heap.size, 0, none⟩) hgC hgl (.slice A8 N c8)).put (p := ⟨wy.heap.size, 1, none⟩) hgC hgl (.slice A9 0 c9)) (by rw [World.size_setCell, World.size_setCell]; exact hx4.size)
              have hfin := (bel_put (bel_put hx4 (p := ⟨wy.heap.size, 0, none⟩) hgl (.slice A8 N c8)) (p := ⟨wy.heap.size, 1, none⟩) hgl (.slice A9 0 c9))
              have Zg := ((Zb.put 0 (.slice A8 N c8)).put 1 (.slice A9 0 c9))
              have hRP : tPool.R ((w4.setCell ⟨wy.heap.size, 0, none⟩ (.slice A8 N c8)).setCell ⟨wy.heap.size, 1, none⟩ (.slice A9 0 c9)) ((w4.setCell ⟨wy.heap.size, 0, none⟩ (.slice A8 N c8)).setCell ⟨wy.heap.size, 1, none⟩ (.slice A9 0 c9)).heap.size [.slice A8 N c8, .slice A9 0 c9] (rdP l) := by rw [HRP.out]; exact makePool (p := (rdL l N, rdT l N 0)) hrX (tIs.read (Ty.far (t := tIs) (Ty.far (t := tIs) hO9 hN9 (p := ⟨wy.heap.size, 0, none⟩) hgB (.slice A8 N c8)) hN9 (p := ⟨wy.heap.size, 1, none⟩) hgB (.slice A9 0 c9)))
              go_simp
              refine hK.out _ _ (by trivial) (fun hHeld => ?_)
              clear hK K
              (try simp only [Act.put, qa_, qb_, qc_])
              refine wpAnyH_done (by kernel_rfl) ?_ _
              go_wp2_with fail
              go_meet
              exact ⟨_, _, _, rfl, by first | exact Zg | simpa using Zg, by first | exact hRP | simpa using hRP, by first | exact hfin | simpa using hfin, hgl⟩
            exact AllReadyH.nil
          exact AllReadyH.nil
        exact AllReadyH.nil
      exact AllReadyH.nil
    · refine wp_region_held_drew (S := (fun _ => True)) (by kernel_rfl) (by trivial) (fun hHeld => ?_)
      refine wpAnyH_take (i := 0) (oi := ⟨some 23, _, _, _, _, _⟩) (v := ?v10) rfl (by kernel_rfl) (by kernel_rfl) (by kernel_rfl) (fun _ _ _ h => h) (Or.inl ⟨by rfl, ?hy10⟩) (by assumption) ?_
      case hy10 => (intro w hSw; (try dsimp only at hSw); go_simp; try (with_reducible rfl))
      (try simp only [Act.put, qa_, qb_, qc_])
      refine wpAnyH_take (i := 1) (oi := ⟨some 24, _, _, _, _, _⟩) (v := ?v11) rfl (by kernel_rfl) (by kernel_rfl) (by kernel_rfl) (fun _ _ _ h => h) (Or.inl ⟨by rfl, ?hy11⟩) (by assumption) ?_
      case hy11 => (intro w hSw; (try dsimp only at hSw); go_simp; try (with_reducible rfl))
      (try simp only [Act.put, qa_, qb_, qc_])
      refine wpAnyH_take (i := 2) (oi := ⟨some 25, _, _, _, _, _⟩) (v := ?v12) rfl (by kernel_rfl) (by kernel_rfl) (by kernel_rfl) (fun _ _ _ h => h) (Or.inl ⟨by rfl, ?hy12⟩) (by assumption) ?_
      case hy12 => (intro w hSw; (try dsimp only at hSw); go_simp; try (with_reducible rfl))
      (try simp only [Act.put, qa_, qb_, qc_])
      refine wpAnyH_take (i := 4) (oi := ⟨some 27, _, _, _, _, _⟩) (v := ?v13) rfl (by kernel_rfl) (by kernel_rfl) (by kernel_rfl) (fun _ _ _ h => h) (Or.inl ⟨by rfl, ?hy13⟩) (by assumption) ?_
      case hy13 => (intro w hSw; (try dsimp only at hSw); go_simp; try (with_reducible rfl))
      (try simp only [Act.put, qa_, qb_, qc_])
      refine wpAnyH_take (i := 5) (oi := ⟨some 28, _, _, _, _, _⟩) (v := ?v14) rfl (by kernel_rfl) (by kernel_rfl) (by kernel_rfl) (fun _ _ _ h => h) (Or.inl ⟨by rfl, ?hy14⟩) (by assumption) ?_
      case hy14 => (intro w hSw; (try dsimp only at hSw); go_simp; try (with_reducible rfl))
      (try simp only [Act.put, qa_, qb_, qc_])
      refine wpAnyH_take (i := 6) (oi := ⟨some 29, _, _, _, _, _⟩) (v := ?v15) rfl (by kernel_rfl) (by kernel_rfl) (by kernel_rfl) (fun _ _ _ h => h) (Or.inl ⟨by rfl, ?hy15⟩) (by assumption) ?_
      case hy15 => (intro w hSw; (try dsimp only at hSw); go_simp; try (with_reducible rfl))
      (try simp only [Act.put, qa_, qb_, qc_])
      refine wpAnyH_ready (rs := [3, 9]) (by kernel_rfl) (by simp) ?_
      refine AllReadyH.cons rfl (fun K hK => ?_) ?_
      · have hX : Below wy.heap.size wy (wy.drew) := (belx)
        go_simp
        go_at_call 69
        rw [HA2.out, HT2.out]
        refine (i_part83 (K := N) (b := bb) (off := of + 2) (B := wy.heap.size) (D := fun j => (l.drop (2 + 83 * j)).take 83) hN2 q2 (by omega) HQ2.out hX.size (fun j hj => HI83.out j hj _ hX)).mono ?_
        rintro e w2 ⟨u2, rfl, hG2, hb2⟩
        rw [HL83.out] at hG2
        have hx2 : Below wy.heap.size wy w2 := bel_trans hX hb2
        obtain ⟨A8, c8, rfl, hr8⟩ := hG2.done hx2.size
        rw [HLL.out] at hG2 hr8 ⊢
        go_wp2_with fail
        refine hK.out _ _ (by trivial) (fun hHeld => ?_)
        clear hK K
        (try simp only [Act.put, qa_, qb_, qc_])
        refine wpAnyH_ready (rs := [7, 9]) (by kernel_rfl) (by simp) ?_
        refine AllReadyH.cons rfl (fun K hK => ?_) ?_
        · have hX7 : Below wy.heap.size wy w2 := hx2
          go_simp
          go_at_call 71
          rw [HT4.out]
          refine (i_part4 (B := 0) (K := M) (b := bb) (off := of + T) (D := fun j => (l.drop (T + 4 * j)).take 4) hM2 q4 (by omega) (fun _ => rfl) (fun j hj => HI4.out j hj _ hX7)).mono ?_
          rintro e w4 ⟨u4, rfl, hO4, hb4⟩
          rw [HL4.out] at hO4
          obtain ⟨A9, c9, F9, rfl, hO9, hN9⟩ := own_slice hO4
          rw [HLT.out] at hO9 ⊢
          have hx4 : Below wy.heap.size wy w4 := bel_trans hX7 hb4
          have hr8 := tHeld.row.reach hr8 hb4
          go_wp2_with fail
          refine hK.out _ _ (by trivial) (fun hHeld => ?_)
          clear hK K
          (try simp only [Act.put, qa_, qb_, qc_])
          refine wpAnyH_take (i := 8) (oi := ⟨some 31, _, _, _, _, _⟩) (v := ?v16) rfl (by kernel_rfl) (by kernel_rfl) (by kernel_rfl) (fun _ _ _ h => h) (Or.inl ⟨by rfl, ?hy16⟩) (by assumption) ?_
          case hy16 => (intro w hSw; (try dsimp only at hSw); go_simp; try (with_reducible rfl))
          (try simp only [Act.put, qa_, qb_, qc_])
          refine wpAnyH_ready (rs := [9]) (by kernel_rfl) (by simp) ?_
          refine AllReadyH.cons rfl (fun K hK => ?_) ?_
          · go_simp
            refine hK.out _ _ (by trivial) (fun hHeld => ?_)
            clear hK K
            (try simp only [Act.put, qa_, qb_, qc_])
            refine wpAnyH_ready (rs := [10]) (by kernel_rfl) (by simp) ?_
            refine AllReadyH.cons rfl (fun K hK => ?_) ?_
            · have Zg : Box (w4.alloc (.cells #[.slice A8 N c8, .slice A9 M c9] 26)) w4.heap.size 26 #[.slice A8 N c8, .slice A9 M c9] := Box.new _ _ _
              have hfin : Below wy.heap.size wy (w4.alloc (.cells #[.slice A8 N c8, .slice A9 M c9] 26)) := bel_alloc hx4 _
              have hgl : wy.heap.size ≤ w4.heap.size := hx4.size
              have bq : Below w4.heap.size w4 (w4.alloc (.cells #[.slice A8 N c8, .slice A9 M c9] 26)) := bel_alloc (Below.refl _ _) _
              have hRP : tPool.R (w4.alloc (.cells #[.slice A8 N c8, .slice A9 M c9] 26)) (w4.alloc (.cells #[.slice A8 N c8, .slice A9 M c9] 26)).heap.size [.slice A8 N c8, .slice A9 M c9] (rdP l) := by rw [HRP.out]; exact makePool (p := (rdL l N, rdT l N M)) (tHeld.row.reach hr8 bq) (tIs.reach (tIs.read hO9) bq)
              go_simp
              refine hK.out _ _ (by trivial) (fun hHeld => ?_)
              clear hK K
              (try simp only [Act.put, qa_, qb_, qc_])
              refine wpAnyH_done (by kernel_rfl) ?_ _
              go_wp2_with fail
              go_meet
              exact ⟨_, _, _, rfl, by first | exact Zg | simpa using Zg, by first | exact hRP | simpa using hRP, by first | exact hfin | simpa using hfin, hgl⟩
            exact AllReadyH.nil
          exact AllReadyH.nil
        refine AllReadyH.cons rfl (fun K hK => ?_) ?_
        · go_simp
          refine hK.out _ _ (by trivial) (fun hHeld => ?_)
          clear hK K
          (try simp only [Act.put, qa_, qb_, qc_])
          refine wpAnyH_ready (rs := [7]) (by kernel_rfl) (by simp) ?_
          refine AllReadyH.cons rfl (fun K hK => ?_) ?_
          · have hX7 : Below wy.heap.size wy (w2.alloc (.cells #[.slice none 0 0, .slice none 0 0] 26)) := bel_alloc hx2 _
            go_simp
            go_at_call 71
            rw [HT4.out]
            refine (i_part4 (B := 0) (K := M) (b := bb) (off := of + T) (D := fun j => (l.drop (T + 4 * j)).take 4) hM2 q4 (by omega) (fun _ => rfl) (fun j hj => HI4.out j hj _ hX7)).mono ?_
            rintro e w4 ⟨u4, rfl, hO4, hb4⟩
            rw [HL4.out] at hO4
            obtain ⟨A9, c9, F9, rfl, hO9, hN9⟩ := own_slice hO4
            rw [HLT.out] at hO9 ⊢
            have hx4 : Below wy.heap.size wy w4 := bel_trans hX7 hb4
            have Zb : Box w4 w2.heap.size 26 #[.slice none 0 0, .slice none 0 0] := Box.below (Box.new w2 26 #[.slice none 0 0, .slice none 0 0]) hb4 (by simp)
            have hr8 := tHeld.row.keep hr8 (Below.block (bel_trans (show Below w2.heap.size w2 (w2.alloc (.cells #[.slice none 0 0, .slice none 0 0] 26)) from bel_alloc (Below.refl _ _) _) hb4))
            have zc0 := Zb.cell 0; have zc1 := Zb.cell 1; have zg0 := Zb.frozen 0; have zg1 := Zb.frozen 1
            go_wp2_with fail
            refine hK.out _ _ (by trivial) (fun hHeld => ?_)
            clear hK K
            (try simp only [Act.put, qa_, qb_, qc_])
            refine wpAnyH_take (i := 8) (oi := ⟨some 31, _, _, _, _, _⟩) (v := ?v17) rfl (by kernel_rfl) (by kernel_rfl) (by kernel_rfl) (fun _ _ _ h => h) (Or.inl ⟨by rfl, ?hy17⟩) (by assumption) ?_
            case hy17 => (intro w hSw; (try dsimp only at hSw); go_simp; try (with_reducible rfl))
            (try simp only [Act.put, qa_, qb_, qc_])
            refine wpAnyH_ready (rs := [10]) (by kernel_rfl) (by simp) ?_
            refine AllReadyH.cons rfl (fun K hK => ?_) ?_
            · have hgl : wy.heap.size ≤ w2.heap.size := hx2.size
              have hgB : w2.heap.size < (w2.alloc (.cells #[.slice none 0 0, .slice none 0 0] 26)).heap.size := by simp
              have hrX : tHeld.row.R ((w4.setCell ⟨w2.heap.size, 0, none⟩ (.slice A8 N c8)).setCell ⟨w2.heap.size, 1, none⟩ (.slice A9 M c9)) ((w4.setCell ⟨w2.heap.size, 0, none⟩ (.slice A8 N c8)).setCell ⟨w2.heap.size, 1, none⟩ (.slice A9 M c9)).heap.size [.slice A8 N c8] (rdL l N) := tHeld.row.up (tHeld.row.keep hr8 (fun b hb => by rw [Below.heap_setCell _ _ _ _ (by show b ≠ w2.heap.size; omega), Below.heap_setCell _ _ _ _ (by show b ≠ w2.heap.size; omega)])) (by rw [World.size_setCell, World.size_setCell]; have h := hb4.size; rw [World.size_alloc] at h; omega)
              have hfin := (bel_put (bel_put hx4 (p := ⟨w2.heap.size, 0, none⟩) hgl (.slice A8 N c8)) (p := ⟨w2.heap.size, 1, none⟩) hgl (.slice A9 M c9))
              have Zg := ((Zb.put 0 (.slice A8 N c8)).put 1 (.slice A9 M c9))
              have hRP : tPool.R ((w4.setCell ⟨w2.heap.size, 0, none⟩ (.slice A8 N c8)).setCell ⟨w2.heap.size, 1, none⟩ (.slice A9 M c9)) ((w4.setCell ⟨w2.heap.size, 0, none⟩ (.slice A8 N c8)).setCell ⟨w2.heap.size, 1, none⟩ (.slice A9 M c9)).heap.size [.slice A8 N c8, .slice A9 M c9] (rdP l) := by rw [HRP.out]; exact makePool (p := (rdL l N, rdT l N M)) hrX (tIs.read (Ty.far (t := tIs) (Ty.far (t := tIs) hO9 hN9 (p := ⟨w2.heap.size, 0, none⟩) hgB (.slice A8 N c8)) hN9 (p := ⟨w2.heap.size, 1, none⟩) hgB (.slice A9 M c9)))
              go_simp
              refine hK.out _ _ (by trivial) (fun hHeld => ?_)
              clear hK K
              (try simp only [Act.put, qa_, qb_, qc_])
              refine wpAnyH_done (by kernel_rfl) ?_ _
              go_wp2_with fail
              go_meet
              exact ⟨_, _, _, rfl, by first | exact Zg | simpa using Zg, by first | exact hRP | simpa using hRP, by first | exact hfin | simpa using hfin, hgl⟩
            exact AllReadyH.nil
          exact AllReadyH.nil
        exact AllReadyH.nil
      refine AllReadyH.cons rfl (fun K hK => ?_) ?_
      · go_simp
        refine hK.out _ _ (by trivial) (fun hHeld => ?_)
        clear hK K
        (try simp only [Act.put, qa_, qb_, qc_])
        refine wpAnyH_ready (rs := [3]) (by kernel_rfl) (by simp) ?_
        refine AllReadyH.cons rfl (fun K hK => ?_) ?_
        · have hX : Below wy.heap.size wy ((wy.alloc (.cells #[.slice none 0 0, .slice none 0 0] 26)).drew) := (belx)
          go_simp
          go_at_call 69
          rw [HA2.out, HT2.out]
          refine (i_part83 (K := N) (b := bb) (off := of + 2) (B := wy.heap.size) (D := fun j => (l.drop (2 + 83 * j)).take 83) hN2 q2 (by omega) HQ2.out hX.size (fun j hj => HI83.out j hj _ hX)).mono ?_
          rintro e w2 ⟨u2, rfl, hG2, hb2⟩
          rw [HL83.out] at hG2
          have hx2 : Below wy.heap.size wy w2 := bel_trans hX hb2
          obtain ⟨A8, c8, rfl, hr8⟩ := hG2.done hx2.size
          rw [HLL.out] at hG2 hr8 ⊢
          have Zb : Box w2 wy.heap.size 26 #[.slice none 0 0, .slice none 0 0] := Box.below (show Box ((wy.alloc (.cells #[.slice none 0 0, .slice none 0 0] 26)).drew) wy.heap.size 26 #[.slice none 0 0, .slice none 0 0] from Box.drew (Box.new wy 26 #[.slice none 0 0, .slice none 0 0])) hb2 (by show wy.heap.size < (World.alloc _ _).heap.size; simp)
          have zb0 := Zb.cell 0; have zb1 := Zb.cell 1; have zf0 := Zb.frozen 0; have zf1 := Zb.frozen 1
          go_wp2_with fail
          refine hK.out _ _ (by trivial) (fun hHeld => ?_)
          clear hK K
          (try simp only [Act.put, qa_, qb_, qc_])
          refine wpAnyH_ready (rs := [7]) (by kernel_rfl) (by simp) ?_
          refine AllReadyH.cons rfl (fun K hK => ?_) ?_
          · have hX7 : Below wy.heap.size wy w2 := hx2
            go_simp
            go_at_call 71
            rw [HT4.out]
            refine (i_part4 (B := 0) (K := M) (b := bb) (off := of + T) (D := fun j => (l.drop (T + 4 * j)).take 4) hM2 q4 (by omega) (fun _ => rfl) (fun j hj => HI4.out j hj _ hX7)).mono ?_
            rintro e w4 ⟨u4, rfl, hO4, hb4⟩
            rw [HL4.out] at hO4
            obtain ⟨A9, c9, F9, rfl, hO9, hN9⟩ := own_slice hO4
            rw [HLT.out] at hO9 ⊢
            have hx4 : Below wy.heap.size wy w4 := bel_trans hX7 hb4
            replace Zb := Zb.below hb4 Zb.size
            have hG2 := hG2.below hb4 hx2.size
            have zc0 := Zb.cell 0; have zc1 := Zb.cell 1; have zg0 := Zb.frozen 0; have zg1 := Zb.frozen 1
            go_wp2_with fail
            refine hK.out _ _ (by trivial) (fun hHeld => ?_)
            clear hK K
            (try simp only [Act.put, qa_, qb_, qc_])
            refine wpAnyH_take (i := 8) (oi := ⟨some 31, _, _, _, _, _⟩) (v := ?v18) rfl (by kernel_rfl) (by kernel_rfl) (by kernel_rfl) (fun _ _ _ h => h) (Or.inl ⟨by rfl, ?hy18⟩) (by assumption) ?_
            case hy18 => (intro w hSw; (try dsimp only at hSw); go_simp; try (with_reducible rfl))
            (try simp only [Act.put, qa_, qb_, qc_])
            refine wpAnyH_ready (rs := [10]) (by kernel_rfl) (by simp) ?_
            refine AllReadyH.cons rfl (fun K hK => ?_) ?_
            · have hgl : wy.heap.size ≤ wy.heap.size := Nat.le_refl _
              have hgB : wy.heap.size < w2.heap.size := by have h := hb2.size; simp at h; omega
              have hgC : wy.heap.size < ((wy.alloc (.cells #[.slice none 0 0, .slice none 0 0] 26)).drew).heap.size := by show wy.heap.size < (World.alloc _ _).heap.size; simp
              have hrX : tHeld.row.R ((w4.setCell ⟨wy.heap.size, 0, none⟩ (.slice A8 N c8)).setCell ⟨wy.heap.size, 1, none⟩ (.slice A9 M c9)) ((w4.setCell ⟨wy.heap.size, 0, none⟩ (.slice A8 N c8)).setCell ⟨wy.heap.size, 1, none⟩ (.slice A9 M c9)).heap.size [.slice A8 N c8] (rdL l N) := GrowR.doneAs ((hG2.put (p := ⟨wy.heap.size, 0, none⟩) hgC hgl (.slice A8 N c8)).put (p := ⟨wy.heap.size, 1, none⟩) hgC hgl (.slice A9 M c9)) (by rw [World.size_setCell, World.size_setCell]; exact hx4.size)
              have hfin := (bel_put (bel_put hx4 (p := ⟨wy.heap.size, 0, none⟩) hgl (.slice A8 N c8)) (p := ⟨wy.heap.size, 1, none⟩) hgl (.slice A9 M c9))
              have Zg := ((Zb.put 0 (.slice A8 N c8)).put 1 (.slice A9 M c9))
              have hRP : tPool.R ((w4.setCell ⟨wy.heap.size, 0, none⟩ (.slice A8 N c8)).setCell ⟨wy.heap.size, 1, none⟩ (.slice A9 M c9)) ((w4.setCell ⟨wy.heap.size, 0, none⟩ (.slice A8 N c8)).setCell ⟨wy.heap.size, 1, none⟩ (.slice A9 M c9)).heap.size [.slice A8 N c8, .slice A9 M c9] (rdP l) := by rw [HRP.out]; exact makePool (p := (rdL l N, rdT l N M)) hrX (tIs.read (Ty.far (t := tIs) (Ty.far (t := tIs) hO9 hN9 (p := ⟨wy.heap.size, 0, none⟩) hgB (.slice A8 N c8)) hN9 (p := ⟨wy.heap.size, 1, none⟩) hgB (.slice A9 M c9)))
              go_simp
              refine hK.out _ _ (by trivial) (fun hHeld => ?_)
              clear hK K
              (try simp only [Act.put, qa_, qb_, qc_])
              refine wpAnyH_done (by kernel_rfl) ?_ _
              go_wp2_with fail
              go_meet
              exact ⟨_, _, _, rfl, by first | exact Zg | simpa using Zg, by first | exact hRP | simpa using hRP, by first | exact hfin | simpa using hfin, hgl⟩
            exact AllReadyH.nil
          exact AllReadyH.nil
        exact AllReadyH.nil
      exact AllReadyH.nil
  case rest =>
  obtain ⟨pb, v0, v1, rfl, Bp, hRP, hbc, hpb⟩ := hcut
  have B3 : Box wc w.heap.size 26 #[.slice none 0 0, .slice none 0 0] := B2.below hbc zy
  have hBc := bel_trans hBy hbc
  have hz3 : szPool (rdP l) ≤ 1048576 := by have h := rdP_sz l; rw [hN'.out, hM'.out] at h; omega
  have k0 := Bp.cell 0
  have k1 := Bp.cell 1
  obtain ⟨wd, hwd⟩ : ∃ wd, wc = wd := ⟨_, rfl⟩
  rw [hwd] at B3 hBc hRP Bp k0 k1 ⊢
  clear hwd hbc B2 d1 hI2
  by_cases hok : PlOk (rdP l)
  rotate_left
  · have hp : ¬ RdOk l := fun x => hok x.2
    have HD := Lib.hid (decide_eq_false hp)
    have HK := Lib.hid (decide_eq_false hok)
    have HF := Lib.hid (fRd_f hp)
    clear hp hok
    go_wp2_with fail
    refine (i_PoolOk hRP hz3).mono ?_
    rintro e w5 ⟨rfl, hb5⟩
    rw [HK.out]
    have B5 := B3.below hb5 B3.size
    have y0 := B5.cell 0; have y1 := B5.cell 1; have f0 := B5.frozen 0; have f1 := B5.frozen 1
    have hB5 := bel_trans hBc hb5
    go_wp2
    have RR := (B5.put 0 (.slice none 0 0)).put 1 (.slice none 0 0)
    have e0 := RR.cell 0; have e1 := RR.cell 1
    refine bodyPost_ret (v := .tuple #[.agg #[.slice none 0 0, .slice none 0 0], .bool false]) (by simp [results, Try.results27, go_sem, e0, e1]) rfl ?_
    rw [HF.out, HD.out]
    refine ⟨_, _, rfl, plzO, New.nil _, ?_⟩
    exact bel_put (bel_put hB5 (p := ⟨w.heap.size, 0, none⟩) (Nat.le_refl _) _) (p := ⟨w.heap.size, 1, none⟩) (Nat.le_refl _) _
  · have hp : RdOk l := ⟨⟨by rw [HLN.out]; omega, by rw [HLN.out]; exact HS.out⟩, hok⟩
    have HD := Lib.hid (decide_eq_true hp)
    have HK := Lib.hid (decide_eq_true hok)
    have HF := Lib.hid (fRd_t hp)
    clear hp hok
    go_wp2_with fail
    refine (i_PoolOk hRP hz3).mono ?_
    rintro e w5 ⟨rfl, hb5⟩
    rw [HK.out]
    have B5 := B3.below hb5 B3.size
    have Bp5 := Bp.below hb5 Bp.size
    have k50 := Bp5.cell 0
    have k51 := Bp5.cell 1
    have hR5 := tPool.reach hRP hb5
    have hB5 := bel_trans hBc hb5
    have z5 := B5.size
    clear k0 k1 B3 Bp hRP
    go_wp2_with fail
    refine (i_PlCopyP hR5 hz3).mono ?_
    rintro e w6 ⟨cs6, F, rfl, hO, hN, hb6⟩
    obtain ⟨G0, g0, G00, H0, g1, G01, rfl, -⟩ := openOPool hO
    have B6 := B5.below hb6 z5
    have y0 := B6.cell 0; have y1 := B6.cell 1; have f0 := B6.frozen 0; have f1 := B6.frozen 1
    have hB6 := bel_trans hB5 hb6
    go_wp2
    have RR := (B6.put 0 (.slice G0 (rdP l).1.length g0)).put 1 (.slice H0 (rdP l).2.length g1)
    have e0 := RR.cell 0; have e1 := RR.cell 1
    have hO2 := Ty.far (t := tPool) (Ty.far (t := tPool) hO hN (p := ⟨w.heap.size, 0, none⟩) z5 (.slice G0 (rdP l).1.length g0)) hN (p := ⟨w.heap.size, 1, none⟩) z5 (.slice H0 (rdP l).2.length g1)
    refine bodyPost_ret (v := .tuple #[.agg #[.slice G0 (rdP l).1.length g0, .slice H0 (rdP l).2.length g1], .bool true]) (by simp [results, Try.results27, go_sem, e0, e1]) rfl ?_
    rw [HF.out, HD.out]
    refine ⟨_, F, rfl, hO2, hN.lower hB5.size, ?_⟩
    exact bel_put (bel_put hB6 (p := ⟨w.heap.size, 0, none⟩) (Nat.le_refl _) _) (p := ⟨w.heap.size, 1, none⟩) (Nat.le_refl _) _
theorem i_PoolRead {w : World} {n c : Nat} {A : Option Addr} {l : List Int} (h : tBy.R w w.heap.size [.slice A n c] l) (hz : l.length ≤ 1048576) :
    Calls Try.prog 27 #[.slice A n c] w fun e w' => ∃ cs F, e = .returned (.tuple #[.agg cs.toArray, .bool (decide (RdOk l))]) ∧ tPool.O w' cs (fRd l) F ∧ New w.heap.size F ∧ Below w.heap.size w w' := by
  by_cases hs : n < 2 ∨ n ≠ rdSz l
  · exact i_PoolRead_f h hz hs
  · exact i_PoolRead_t h hz (by omega) (by omega)

end Go.Proofs.Ytblcfncjghkegaa
