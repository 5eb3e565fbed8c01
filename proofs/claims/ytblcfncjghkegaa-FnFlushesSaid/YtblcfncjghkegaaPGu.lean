/-
  DrawFib, DrawPl, ImplThree: texts joined.
-/
import Derived.Test.YtblcfncjghkegaaPGb
import Derived.Test.YtblcfncjghkegaaPGh
import Derived.Test.YtblcfncjghkegaaPGo
import Derived.Test.YtblcfncjghkegaaPGp
import Derived.Test.YtblcfncjghkegaaPGr
import Derived.Test.YtblcfncjghkegaaPGt
import Derived.Lib.AppendZerosOnto
import Derived.Lib.SliceRun
import Derived.LoopN
namespace Go.Proofs.Ytblcfncjghkegaa
set_option maxRecDepth 100000
set_option linter.unusedVariables false
set_option linter.unusedSimpArgs false
open Go.ChangeShapes Go.WideShapes Go.ChangeAt Go.RowKit
open Fld
theorem GrowO.noBox {α : Type} {t : Ty α} {e T : TypeId} {w : World} {base pb : Nat} {v : Value} {l : List α} {F : List Nat} {cs : Array Value} (h : GrowO t e w base v l F) (hb : Box w pb T cs) (hT : T ≠ e) : v.ownBlock ≠ some pb := by
  intro ho
  obtain ⟨⟨css, Fs, k1, -⟩, -⟩ := h
  rcases k1.2 with ⟨rfl, -⟩ | ⟨g, cap, cur, rfl, -, hg, -⟩
  · cases ho
  · injection ho with ho
    have ho' : g = pb := ho
    subst ho'
    unfold Box at hb
    rw [hg] at hb
    injection hb with hb
    injection hb with _ hb _
    exact hT hb.symm
theorem GrowO.off {α : Type} {t : Ty α} {e : TypeId} {w : World} {base b i : Nat} {v : Value} {l : List α} {F : List Nat} (h : GrowO t e w base v l F) (hb : ¬ Blk v F b) (u : Value) : GrowO t e (w.setCell ⟨b, i, none⟩ u) base v l F :=
  h.past (gb_put (gb_self w b) i u) (fun x hx => by injection hx with hx; rw [← hx]; exact hb)
theorem xt_HeldO {w : World} {K : Nat} : ∀ es a Fi, tHeld.O w es a Fi → (∀ f ∈ Fi, K ≤ f) → (XT K tHeld).R w w.heap.size es a := fun es a Fi h hF => by
  obtain ⟨c1, c2, F1, F2, rfl, rfl, ⟨rfl, w1, rfl⟩, c3, c4, F3, F4, rfl, rfl, ⟨rfl, w2, rfl⟩, h4⟩ := h
  have hX := slX_O h4 (fun f hf => hF f (by simpa using hf))
  obtain ⟨A, c, rfl, -⟩ := slO_one h4
  exact fun w' ha => makeHeld (p := a) w1 w2 (hX w' ha)
theorem rowX_grow {e : TypeId} {w : World} {base K : Nat} {v : Value} {l : List DHeld} {F : List Nat} (h : GrowO tHeld e w base v l F) (hK : K ≤ base) : RowX K tHeld w v l := by
  obtain ⟨A, c, F', rfl, hO, hN⟩ := h.done
  exact rowX_O xt_HeldO hO (fun f hf => Nat.le_trans hK (hN.2 f hf))
theorem plX_low {w : World} {K K' : Nat} {v0 v1 : Value} {p : DPool} (h : PlX K w v0 v1 p) (hK : K' ≤ K) : PlX K' w v0 v1 p := ⟨h.1.low hK, xt_low h.2 hK⟩
def tagsLeft (w : World) (pb : Nat) : Nat := match w.cell? ⟨pb, 1, none⟩ with
  | some (.slice _ n _) => 60 - n
  | _ => 0
theorem tagsLeft_eq {w : World} {pb n c : Nat} {A : Option Addr} (h : w.cell? ⟨pb, 1, none⟩ = some (.slice A n c)) : tagsLeft w pb = 60 - n := by unfold tagsLeft; rw [h]
theorem heldN {w : World} {y : Int} (hy : (Lit.int .i64 y).wf = true) : tHeld.O w [.int .i64 y, .int .i64 0, .slice none 0 0] (y, 0, []) [] :=
  ⟨[.int .i64 y], [.int .i64 0, .slice none 0 0], [], [], rfl, rfl, ⟨rfl, hy, rfl⟩, [.int .i64 0], [.slice none 0 0], [], [], rfl, rfl, ⟨rfl, (by show (Lit.int .i64 0).wf = true; decide), rfl⟩, .inl ⟨none, 0, rfl, by omega, rfl, rfl⟩⟩
def Bent (w w' : World) (g n c : Nat) (A : Option Addr) (l : List Int) (e : Ending) : Prop := ∃ v0 v1 p, e = .returned (.agg #[v0, v1]) ∧ PlX w.heap.size w' v0 v1 p ∧ (p.1.length ≤ 13 ∧ p.2.length ≤ 60 ∧ ∀ a ∈ p.1, a.2.2.length ≤ 80) ∧ Curs w' g A n c l ∧ w.grownBy w' (some g)
set_option maxHeartbeats 1500000 in
theorem k_bent {w : World} {g n c : Nat} {A : Option Addr} {l : List Int} (h : Curs w g A n c l) :
    Calls Try.prog 35 #[.pointer (some ⟨g, 0, none⟩)] w fun e w' => Bent w w' g n c A l e := by
  obtain ⟨i0, hi0, hz0, hz1, hz2⟩ := info_parts info_c3
  obtain ⟨i1, hj0, hj1, hj2, hj3⟩ := info_parts info_Held
  have tz : (Value.agg #[Value.int .i64 0, Value.int .i64 0, Value.slice none 0 0]).cells.size = 3 := by first | rfl | (simp [Value.cells]; done)
  have hgs := h.size
  have hrg : some w.heap.size ≠ some g := fun e => by injection e with e; omega
  go_enter Try.func35, Try.ntmps35
  go_wp2_with fail
  refine (k_pool (h.alloc (.cells #[.slice none 0 0, .slice none 0 0] 26))).mono ?_
  rintro e w1 ⟨A0, c0, A1, c1, p, F2, rfl, hG1, hap, hO1, hok, h12, hC1, hGw1⟩
  obtain ⟨n0, hn0⟩ : ∃ m, p.1.length = m := ⟨_, rfl⟩
  obtain ⟨n1, hn1⟩ : ∃ m, p.2.length = m := ⟨_, rfl⟩
  have N0 := Lib.hid hn0
  have N1 := Lib.hid hn1
  have h80 : ∀ a ∈ p.1, a.2.2.length ≤ 80 := fun a ha => Nat.le_of_eq (hok.2.1 a ha).2.2.2.2
  have q0 : n0 ≤ 12 := by rw [← hn0]; exact hok.1.1
  have q1 : n1 ≤ 12 := by rw [← hn1]; exact h12
  rw [hn0] at hG1 hap ⊢
  rw [hn1] at hO1 hap ⊢
  have l0 : p.1.length ≤ 12 := hok.1.1
  have l1 : p.2.length ≤ 12 := h12
  clear hn0 hn1 hok h12
  simp only [World.size_alloc] at hG1 hO1
  have R1 : Box w1 w.heap.size 26 #[.slice none 0 0, .slice none 0 0] := (Box.new w _ _).grown hGw1 hrg
  have hGw1' : w.grownBy w1 (some g) := gb_trans (gb_alloc (gb_self w g) _) hGw1
  have z1 := hGw1.size
  simp only [World.size_alloc] at z1
  obtain ⟨pb, hpb⟩ : ∃ pb, w1.heap.size = pb := ⟨_, rfl⟩
  have zw : w.heap.size < pb := by rw [← hpb]; omega
  have hpg : some pb ≠ some g := fun e => by injection e with e; omega
  have hGlt : ∀ b, Blk (.slice A0 n0 c0) F2 b → b < pb := fun b hb => by rw [← hpb]; exact (hG1.blk b hb).2
  have hOlt : ∀ b, (Value.slice A1 n1 c1).ownBlock = some b → b < pb := fun b hb => by rw [← hpb]; exact (hO1.block hb).2
  have B2 : Box (w1.alloc (.cells #[.slice A0 n0 c0, .slice A1 n1 c1] 26)) pb 26 #[.slice A0 n0 c0, .slice A1 n1 c1] := by rw [← hpb]; exact Box.new _ _ _
  go_wp2_with fail
  refine (k_Once (w1.alloc (.cells #[.slice A0 n0 c0, .slice A1 n1 c1] 26)) 7 (hC1.alloc _) (gb_self _ g) (by omega) (by omega)).mono ?_
  rintro e w3 ⟨b, rfl, hC3, hG3⟩
  have B3 := B2.grown hG3 hpg
  have R3 := (R1.alloc _).grown hG3 hrg
  have O3 := own_draw (hO1.alloc _) hG3 (by omega)
  have G3 := (hG1.below (show Below w1.heap.size w1 (w1.alloc (.cells #[.slice A0 n0 c0, .slice A1 n1 c1] 26)) from (belx))).past hG3 (fun b hb hx => by injection hb with hb; have := (hG1.blk b hx).1; omega)
  have hGw3 := gb_trans (gb_alloc hGw1' _) hG3
  have z3 := hG3.size
  simp only [World.size_alloc] at z3
  have zp : pb < w3.heap.size := by omega
  rw [hpb] at *
  clear hpb hG1 hO1 hC1 hGw1 hGw1' R1 B2 hG3
  cases b with
  | false =>
    have y0 := B3.cell 0; have y1 := B3.cell 1; have r0 := R3.cell 0; have r1 := R3.cell 1; have f0 := R3.frozen 0; have f1 := R3.frozen 1
    go_wp2
    have RR := (R3.put 0 (.slice A0 n0 c0)).put 1 (.slice A1 n1 c1)
    have e0 := RR.cell 0; have e1 := RR.cell 1
    refine bodyPost_ret (v := .agg #[.slice A0 n0 c0, .slice A1 n1 c1]) (by simp [results, Try.results35, go_sem, e0, e1]) rfl ⟨_, _, p, rfl, plX_low (plX_put (plX_put (show PlX (w.heap.size + 1) _ _ _ p from ⟨rowX_grow G3 (Nat.le_refl _), slX_own O3 (Nat.le_refl _)⟩) (Nat.lt_succ_self _) _) (Nat.lt_succ_self _) _) (Nat.le_succ _), ⟨by omega, by omega, h80⟩, curs_put (curs_put hC3 hgs _) hgs _, gb_far (gb_far hGw3 (Nat.le_refl _) 0 _) (Nat.le_refl _) 1 _⟩
  | true =>
    go_wp2_with fail
    refine (k_Below w3 3 hC3 (gb_self w3 g) (by omega) (by omega)).mono ?_
    rintro e wd ⟨x, rfl, hx0, hx1, hC, hGd⟩
    have Bp := B3.grown hGd hpg
    have Br := R3.grown hGd hrg
    have hO := own_draw O3 hGd (by omega)
    have hGr := G3.past hGd (fun b hb hx => by injection hb with hb; have := (G3.blk b hx).1; omega)
    have hGw := gb_trans hGw3 hGd
    have zd := hGd.size
    have yd0 := Bp.cell 0; have yd1 := Bp.cell 1
    have zpd : pb < wd.heap.size := Bp.size
    clear B3 R3 O3 G3 hC3 hGw3 hGd
    have hx : x = 0 ∨ x = 1 ∨ x = 2 := by omega
    clear hx0 hx1
    rcases hx with rfl | rfl | rfl
    · go_wp2_with fail
      refine wp_region_held_drew (S := (fun _ => True)) (by kernel_rfl) (by trivial) (fun hHeld => ?_)
      refine wpAnyH_take (i := 0) (oi := ⟨some 25, _, _, _, _, _⟩) (v := ?v1) rfl (by kernel_rfl) (by kernel_rfl) (by kernel_rfl) (fun _ _ _ h => h) (Or.inl ⟨by rfl, ?hy1⟩) (by assumption) ?_
      case hy1 => (intro w hSw; (try dsimp only at hSw); go_simp; try (with_reducible rfl))
      (try simp only [Act.put, qa_, qb_, qc_])
      refine wpAnyH_take (i := 2) (oi := ⟨some 27, _, _, _, _, _⟩) (v := ?v2) rfl (by kernel_rfl) (by kernel_rfl) (by kernel_rfl) (fun _ _ _ h => h) (Or.inl ⟨by rfl, ?hy2⟩) (by assumption) ?_
      case hy2 => (intro w hSw; (try dsimp only at hSw); go_simp; try (with_reducible rfl))
      (try simp only [Act.put, qa_, qb_, qc_])
      refine wpAnyH_ready (rs := [1, 3]) (by kernel_rfl) (by simp) ?_
      refine AllReadyH.cons rfl (fun K hK => ?_) ?_
      · go_simp
        refine hK.out _ _ (by trivial) (fun hHeld => ?_)
        clear hK K
        (try simp only [Act.put, qa_, qb_, qc_])
        refine wpAnyH_ready (rs := [3]) (by kernel_rfl) (by simp) ?_
        refine AllReadyH.cons rfl (fun K hK => ?_) ?_
        · go_simp
          refine hK.out _ _ (by trivial) (fun hHeld => ?_)
          clear hK K
          (try simp only [Act.put, qa_, qb_, qc_])
          refine wpAnyH_ready (rs := [4]) (by kernel_rfl) (by simp) ?_
          refine AllReadyH.cons rfl (fun K hK => ?_) ?_
          · go_simp
            go_at_call 37
            have hc3 : ∀ i, i < 3 → ((wd.alloc (.cells #[.int .i64 (-1), .int .i64 5, .int .i64 5] 3)).drew).cell? ⟨wd.heap.size, 0 + i, none⟩ = some (.int .i64 (([-1, 5, 5] : List Int).getD i 0)) := fun i hi => three_cells wd 3 (-1) (5) (5) i hi
            have hCd : Curs ((wd.alloc (.cells #[.int .i64 (-1), .int .i64 5, .int .i64 5] 3)).drew) g A n c l := hC.alloc _
            have hzd : wd.heap.size < ((wd.alloc (.cells #[.int .i64 (-1), .int .i64 5, .int .i64 5] 3)).drew).heap.size := by show _ < (World.alloc _ _).heap.size; simp
            refine (k_Pick (L := some ⟨wd.heap.size, 0, none⟩) (m := 3) (d := 3) (zs := [-1, 5, 5]) ((wd.alloc (.cells #[.int .i64 (-1), .int .i64 5, .int .i64 5] 3)).drew) hCd (gb_self _ g) ⟨wd.heap.size, 0, rfl, by omega, hzd, hc3⟩ (by omega) (by omega) rfl).mono ?_
            rintro e w6 ⟨y, rfl, hy, hC6, hG6⟩
            have hG6 : wd.grownBy w6 (some g) := gb_trans (gb_drew (gb_alloc (gb_self wd g) _)) hG6
            have B6 := Bp.grown hG6 hpg
            have R6 := Br.grown hG6 hrg
            have O6 := own_draw hO hG6 (by omega)
            have G6 := hGr.past hG6 (fun b hb hx => by injection hb with hb; have := (hGr.blk b hx).1; omega)
            have z6 := hG6.size
            have hGw6 := gb_trans hGw hG6
            have y60 := B6.cell 0; have y61 := B6.cell 1
            have zp6 : pb < w6.heap.size := B6.size
            have hy2 : -1 ≤ y ∧ y ≤ 8 := by simp only [List.mem_cons, List.not_mem_nil, or_false] at hy; omega
            have wy : (Lit.int .i64 y).wf = true := WalkArith.wf_i64 ⟨by omega, by omega⟩
            clear hy
            go_wp2_with fail
            refine hK.out _ _ (by trivial) (fun hHeld => ?_)
            clear hK K
            (try simp only [Act.put, qa_, qb_, qc_])
            refine wpAnyH_ready (rs := [5]) (by kernel_rfl) (by simp) ?_
            refine AllReadyH.cons rfl (fun K hK => ?_) ?_
            · go_simp
              refine hK.out _ _ (by trivial) (fun hHeld => ?_)
              clear hK K
              (try simp only [Act.put, qa_, qb_, qc_])
              refine wpAnyH_ready (rs := [6]) (by kernel_rfl) (by simp) ?_
              refine AllReadyH.cons rfl (fun K hK => ?_) ?_
              · refine step_app5 _ (by rfl) (.tmp 26) (.tmp 30) _ (by rfl) (w.heap.size + 1) 3 i0 _ 1 8 Try.underlying24 hi0 hz0 hz1 hz2 rfl (by omega) (.slice A1 n1 c1) _ _ (by rfl) (O6.1.alloc _) _ 1 1 [.int .i64 y] (by rfl) (Src.one _ _ _) (one_int _ _) (by simp only [maxLen]; omega) (by omega) (by simp; omega) ?_
                intro v7 w7 hown hgr hat
                have O7 := own_sn O6 hown rfl wy
                obtain ⟨A7, c7, rfl, -⟩ := O7.shape
                obtain ⟨n7, hn7⟩ : ∃ m, (p.2 ++ [y]).length = m := ⟨_, rfl⟩
                rw [hn7] at O7 hat ⊢
                have N7 := Lib.hid hn7
                clear hn7
                have B7 := Box.grown (B6.alloc _) hgr (fun e => by have := hOlt _ e.symm; omega)
                have R7 := Box.grown (R6.alloc _) hgr (fun e => by have := (O6.block e.symm).1; omega)
                have G7 := (G6.below (show Below w6.heap.size w6 (w6.alloc (.cells #[.int .i64 y] 3)) from (belx))).past hgr (fun b hb hx => hap b hx hb)
                have C7 := curs_new hC6 hgr (B := w.heap.size + 1) (by omega) (by omega) (fun r hr => (O6.block hr).1)
                have W7 := gb_new hGw6 hgr (fun r hr => by have := (O6.block hr).1; omega)
                have y70 := B7.cell 0; have y71 := B7.cell 1; have f71 := B7.frozen 1
                have z7 := hgr.size
                simp only [World.size_alloc] at z7
                have h7p : ∀ b, (Value.slice A7 n7 c7).ownBlock = some b → b ≠ pb := fun b hb => by
                  rcases hat with h | h
                  · rw [h] at hb; have := hOlt b hb; omega
                  · rw [h] at hb; injection hb with hb; simp only [World.size_alloc] at hb; omega
                refine hK.out _ _ (by trivial) (fun hHeld => ?_)
                clear hK K
                (try simp only [Act.put, qa_, qb_, qc_])
                refine wpAnyH_take (i := 7) (oi := ⟨some 32, _, _, _, _, _⟩) (v := ?v3) rfl (by kernel_rfl) (by kernel_rfl) (by kernel_rfl) (fun _ _ _ h => h) (Or.inl ⟨by rfl, ?hy3⟩) (by assumption) ?_
                case hy3 => (intro w hSw; (try dsimp only at hSw); go_simp; try (with_reducible rfl))
                (try simp only [Act.put, qa_, qb_, qc_])
                refine wpAnyH_ready (rs := [8]) (by kernel_rfl) (by simp) ?_
                refine AllReadyH.cons rfl (fun K hK => ?_) ?_
                · go_simp
                  refine hK.out _ _ (by trivial) (fun hHeld => ?_)
                  clear hK K
                  (try simp only [Act.put, qa_, qb_, qc_])
                  refine wpAnyH_done (by kernel_rfl) ?_ _
                  have B8 := B7.put 1 (.slice A7 n7 c7)
                  have R8 := R7.far (p := ⟨pb, 1, none⟩) (by show w.heap.size ≠ pb; omega) (.slice A7 n7 c7)
                  have G8 := G7.off (b := pb) (i := 1) (fun hb => by have := hGlt _ hb; omega) (.slice A7 n7 c7)
                  have O8 := O7.kept (gb_put (gb_self w7 pb) 1 (.slice A7 n7 c7)) (.inr (fun e => h7p _ e rfl))
                  have y80 := B8.cell 0; have y81 := B8.cell 1; have r80 := R8.cell 0; have r81 := R8.cell 1; have f80 := R8.frozen 0; have f81 := R8.frozen 1
                  go_wp2
                  have RR := (R8.put 0 (.slice A0 n0 c0)).put 1 (.slice A7 n7 c7)
                  have e0 := RR.cell 0; have e1 := RR.cell 1
                  refine bodyPost_ret (v := .agg #[.slice A0 n0 c0, .slice A7 n7 c7]) (by simp [results, Try.results35, go_sem, e0, e1]) rfl ⟨_, _, (p.1, p.2 ++ [y]), rfl, plX_low (plX_put (plX_put (show PlX (w.heap.size + 1) _ _ _ (p.1, p.2 ++ [y]) from ⟨rowX_grow G8 (Nat.le_refl _), slX_own O8 (Nat.le_refl _)⟩) (Nat.lt_succ_self _) _) (Nat.lt_succ_self _) _) (Nat.le_succ _), ⟨by show p.1.length ≤ 13; omega, by show (p.2 ++ [y]).length ≤ 60; rw [N7.out]; have := N7.out; simp at this; omega, h80⟩, curs_put (curs_put (curs_put C7 (by omega) _) hgs _) hgs _, gb_far (gb_far (gb_far W7 (by omega) 1 _) (Nat.le_refl _) 0 _) (Nat.le_refl _) 1 _⟩
                exact AllReadyH.nil
              exact AllReadyH.nil
            exact AllReadyH.nil
          exact AllReadyH.nil
        exact AllReadyH.nil
      refine AllReadyH.cons rfl (fun K hK => ?_) ?_
      · go_simp
        refine hK.out _ _ (by trivial) (fun hHeld => ?_)
        clear hK K
        (try simp only [Act.put, qa_, qb_, qc_])
        refine wpAnyH_ready (rs := [1, 4]) (by kernel_rfl) (by simp) ?_
        refine AllReadyH.cons rfl (fun K hK => ?_) ?_
        · go_simp
          refine hK.out _ _ (by trivial) (fun hHeld => ?_)
          clear hK K
          (try simp only [Act.put, qa_, qb_, qc_])
          refine wpAnyH_ready (rs := [4]) (by kernel_rfl) (by simp) ?_
          refine AllReadyH.cons rfl (fun K hK => ?_) ?_
          · go_simp
            go_at_call 37
            have hc3 : ∀ i, i < 3 → ((wd.alloc (.cells #[.int .i64 (-1), .int .i64 5, .int .i64 5] 3)).drew).cell? ⟨wd.heap.size, 0 + i, none⟩ = some (.int .i64 (([-1, 5, 5] : List Int).getD i 0)) := fun i hi => three_cells wd 3 (-1) (5) (5) i hi
            have hCd : Curs ((wd.alloc (.cells #[.int .i64 (-1), .int .i64 5, .int .i64 5] 3)).drew) g A n c l := hC.alloc _
            have hzd : wd.heap.size < ((wd.alloc (.cells #[.int .i64 (-1), .int .i64 5, .int .i64 5] 3)).drew).heap.size := by show _ < (World.alloc _ _).heap.size; simp
            refine (k_Pick (L := some ⟨wd.heap.size, 0, none⟩) (m := 3) (d := 3) (zs := [-1, 5, 5]) ((wd.alloc (.cells #[.int .i64 (-1), .int .i64 5, .int .i64 5] 3)).drew) hCd (gb_self _ g) ⟨wd.heap.size, 0, rfl, by omega, hzd, hc3⟩ (by omega) (by omega) rfl).mono ?_
            rintro e w6 ⟨y, rfl, hy, hC6, hG6⟩
            have hG6 : wd.grownBy w6 (some g) := gb_trans (gb_drew (gb_alloc (gb_self wd g) _)) hG6
            have B6 := Bp.grown hG6 hpg
            have R6 := Br.grown hG6 hrg
            have O6 := own_draw hO hG6 (by omega)
            have G6 := hGr.past hG6 (fun b hb hx => by injection hb with hb; have := (hGr.blk b hx).1; omega)
            have z6 := hG6.size
            have hGw6 := gb_trans hGw hG6
            have y60 := B6.cell 0; have y61 := B6.cell 1
            have zp6 : pb < w6.heap.size := B6.size
            have hy2 : -1 ≤ y ∧ y ≤ 8 := by simp only [List.mem_cons, List.not_mem_nil, or_false] at hy; omega
            have wy : (Lit.int .i64 y).wf = true := WalkArith.wf_i64 ⟨by omega, by omega⟩
            clear hy
            go_wp2_with fail
            refine hK.out _ _ (by trivial) (fun hHeld => ?_)
            clear hK K
            (try simp only [Act.put, qa_, qb_, qc_])
            refine wpAnyH_ready (rs := [5]) (by kernel_rfl) (by simp) ?_
            refine AllReadyH.cons rfl (fun K hK => ?_) ?_
            · go_simp
              refine hK.out _ _ (by trivial) (fun hHeld => ?_)
              clear hK K
              (try simp only [Act.put, qa_, qb_, qc_])
              refine wpAnyH_ready (rs := [6]) (by kernel_rfl) (by simp) ?_
              refine AllReadyH.cons rfl (fun K hK => ?_) ?_
              · refine step_app5 _ (by rfl) (.tmp 26) (.tmp 30) _ (by rfl) (w.heap.size + 1) 3 i0 _ 1 8 Try.underlying24 hi0 hz0 hz1 hz2 rfl (by omega) (.slice A1 n1 c1) _ _ (by rfl) (O6.1.alloc _) _ 1 1 [.int .i64 y] (by rfl) (Src.one _ _ _) (one_int _ _) (by simp only [maxLen]; omega) (by omega) (by simp; omega) ?_
                intro v7 w7 hown hgr hat
                have O7 := own_sn O6 hown rfl wy
                obtain ⟨A7, c7, rfl, -⟩ := O7.shape
                obtain ⟨n7, hn7⟩ : ∃ m, (p.2 ++ [y]).length = m := ⟨_, rfl⟩
                rw [hn7] at O7 hat ⊢
                have N7 := Lib.hid hn7
                clear hn7
                have B7 := Box.grown (B6.alloc _) hgr (fun e => by have := hOlt _ e.symm; omega)
                have R7 := Box.grown (R6.alloc _) hgr (fun e => by have := (O6.block e.symm).1; omega)
                have G7 := (G6.below (show Below w6.heap.size w6 (w6.alloc (.cells #[.int .i64 y] 3)) from (belx))).past hgr (fun b hb hx => hap b hx hb)
                have C7 := curs_new hC6 hgr (B := w.heap.size + 1) (by omega) (by omega) (fun r hr => (O6.block hr).1)
                have W7 := gb_new hGw6 hgr (fun r hr => by have := (O6.block hr).1; omega)
                have y70 := B7.cell 0; have y71 := B7.cell 1; have f71 := B7.frozen 1
                have z7 := hgr.size
                simp only [World.size_alloc] at z7
                have h7p : ∀ b, (Value.slice A7 n7 c7).ownBlock = some b → b ≠ pb := fun b hb => by
                  rcases hat with h | h
                  · rw [h] at hb; have := hOlt b hb; omega
                  · rw [h] at hb; injection hb with hb; simp only [World.size_alloc] at hb; omega
                refine hK.out _ _ (by trivial) (fun hHeld => ?_)
                clear hK K
                (try simp only [Act.put, qa_, qb_, qc_])
                refine wpAnyH_take (i := 7) (oi := ⟨some 32, _, _, _, _, _⟩) (v := ?v4) rfl (by kernel_rfl) (by kernel_rfl) (by kernel_rfl) (fun _ _ _ h => h) (Or.inl ⟨by rfl, ?hy4⟩) (by assumption) ?_
                case hy4 => (intro w hSw; (try dsimp only at hSw); go_simp; try (with_reducible rfl))
                (try simp only [Act.put, qa_, qb_, qc_])
                refine wpAnyH_ready (rs := [8]) (by kernel_rfl) (by simp) ?_
                refine AllReadyH.cons rfl (fun K hK => ?_) ?_
                · go_simp
                  refine hK.out _ _ (by trivial) (fun hHeld => ?_)
                  clear hK K
                  (try simp only [Act.put, qa_, qb_, qc_])
                  refine wpAnyH_done (by kernel_rfl) ?_ _
                  have B8 := B7.put 1 (.slice A7 n7 c7)
                  have R8 := R7.far (p := ⟨pb, 1, none⟩) (by show w.heap.size ≠ pb; omega) (.slice A7 n7 c7)
                  have G8 := G7.off (b := pb) (i := 1) (fun hb => by have := hGlt _ hb; omega) (.slice A7 n7 c7)
                  have O8 := O7.kept (gb_put (gb_self w7 pb) 1 (.slice A7 n7 c7)) (.inr (fun e => h7p _ e rfl))
                  have y80 := B8.cell 0; have y81 := B8.cell 1; have r80 := R8.cell 0; have r81 := R8.cell 1; have f80 := R8.frozen 0; have f81 := R8.frozen 1
                  go_wp2
                  have RR := (R8.put 0 (.slice A0 n0 c0)).put 1 (.slice A7 n7 c7)
                  have e0 := RR.cell 0; have e1 := RR.cell 1
                  refine bodyPost_ret (v := .agg #[.slice A0 n0 c0, .slice A7 n7 c7]) (by simp [results, Try.results35, go_sem, e0, e1]) rfl ⟨_, _, (p.1, p.2 ++ [y]), rfl, plX_low (plX_put (plX_put (show PlX (w.heap.size + 1) _ _ _ (p.1, p.2 ++ [y]) from ⟨rowX_grow G8 (Nat.le_refl _), slX_own O8 (Nat.le_refl _)⟩) (Nat.lt_succ_self _) _) (Nat.lt_succ_self _) _) (Nat.le_succ _), ⟨by show p.1.length ≤ 13; omega, by show (p.2 ++ [y]).length ≤ 60; rw [N7.out]; have := N7.out; simp at this; omega, h80⟩, curs_put (curs_put (curs_put C7 (by omega) _) hgs _) hgs _, gb_far (gb_far (gb_far W7 (by omega) 1 _) (Nat.le_refl _) 0 _) (Nat.le_refl _) 1 _⟩
                exact AllReadyH.nil
              exact AllReadyH.nil
            exact AllReadyH.nil
          exact AllReadyH.nil
        refine AllReadyH.cons rfl (fun K hK => ?_) ?_
        · go_simp
          go_at_call 37
          have hc3 : ∀ i, i < 3 → ((wd.alloc (.cells #[.int .i64 (-1), .int .i64 5, .int .i64 5] 3)).drew).cell? ⟨wd.heap.size, 0 + i, none⟩ = some (.int .i64 (([-1, 5, 5] : List Int).getD i 0)) := fun i hi => three_cells wd 3 (-1) (5) (5) i hi
          have hCd : Curs ((wd.alloc (.cells #[.int .i64 (-1), .int .i64 5, .int .i64 5] 3)).drew) g A n c l := hC.alloc _
          have hzd : wd.heap.size < ((wd.alloc (.cells #[.int .i64 (-1), .int .i64 5, .int .i64 5] 3)).drew).heap.size := by show _ < (World.alloc _ _).heap.size; simp
          refine (k_Pick (L := some ⟨wd.heap.size, 0, none⟩) (m := 3) (d := 3) (zs := [-1, 5, 5]) ((wd.alloc (.cells #[.int .i64 (-1), .int .i64 5, .int .i64 5] 3)).drew) hCd (gb_self _ g) ⟨wd.heap.size, 0, rfl, by omega, hzd, hc3⟩ (by omega) (by omega) rfl).mono ?_
          rintro e w6 ⟨y, rfl, hy, hC6, hG6⟩
          have hG6 : wd.grownBy w6 (some g) := gb_trans (gb_drew (gb_alloc (gb_self wd g) _)) hG6
          have B6 := Bp.grown hG6 hpg
          have R6 := Br.grown hG6 hrg
          have O6 := own_draw hO hG6 (by omega)
          have G6 := hGr.past hG6 (fun b hb hx => by injection hb with hb; have := (hGr.blk b hx).1; omega)
          have z6 := hG6.size
          have hGw6 := gb_trans hGw hG6
          have y60 := B6.cell 0; have y61 := B6.cell 1
          have zp6 : pb < w6.heap.size := B6.size
          have hy2 : -1 ≤ y ∧ y ≤ 8 := by simp only [List.mem_cons, List.not_mem_nil, or_false] at hy; omega
          have wy : (Lit.int .i64 y).wf = true := WalkArith.wf_i64 ⟨by omega, by omega⟩
          clear hy
          go_wp2_with fail
          refine hK.out _ _ (by trivial) (fun hHeld => ?_)
          clear hK K
          (try simp only [Act.put, qa_, qb_, qc_])
          refine wpAnyH_ready (rs := [1, 5]) (by kernel_rfl) (by simp) ?_
          refine AllReadyH.cons rfl (fun K hK => ?_) ?_
          · go_simp
            refine hK.out _ _ (by trivial) (fun hHeld => ?_)
            clear hK K
            (try simp only [Act.put, qa_, qb_, qc_])
            refine wpAnyH_ready (rs := [5]) (by kernel_rfl) (by simp) ?_
            refine AllReadyH.cons rfl (fun K hK => ?_) ?_
            · go_simp
              refine hK.out _ _ (by trivial) (fun hHeld => ?_)
              clear hK K
              (try simp only [Act.put, qa_, qb_, qc_])
              refine wpAnyH_ready (rs := [6]) (by kernel_rfl) (by simp) ?_
              refine AllReadyH.cons rfl (fun K hK => ?_) ?_
              · refine step_app5 _ (by rfl) (.tmp 26) (.tmp 30) _ (by rfl) (w.heap.size + 1) 3 i0 _ 1 8 Try.underlying24 hi0 hz0 hz1 hz2 rfl (by omega) (.slice A1 n1 c1) _ _ (by rfl) (O6.1.alloc _) _ 1 1 [.int .i64 y] (by rfl) (Src.one _ _ _) (one_int _ _) (by simp only [maxLen]; omega) (by omega) (by simp; omega) ?_
                intro v7 w7 hown hgr hat
                have O7 := own_sn O6 hown rfl wy
                obtain ⟨A7, c7, rfl, -⟩ := O7.shape
                obtain ⟨n7, hn7⟩ : ∃ m, (p.2 ++ [y]).length = m := ⟨_, rfl⟩
                rw [hn7] at O7 hat ⊢
                have N7 := Lib.hid hn7
                clear hn7
                have B7 := Box.grown (B6.alloc _) hgr (fun e => by have := hOlt _ e.symm; omega)
                have R7 := Box.grown (R6.alloc _) hgr (fun e => by have := (O6.block e.symm).1; omega)
                have G7 := (G6.below (show Below w6.heap.size w6 (w6.alloc (.cells #[.int .i64 y] 3)) from (belx))).past hgr (fun b hb hx => hap b hx hb)
                have C7 := curs_new hC6 hgr (B := w.heap.size + 1) (by omega) (by omega) (fun r hr => (O6.block hr).1)
                have W7 := gb_new hGw6 hgr (fun r hr => by have := (O6.block hr).1; omega)
                have y70 := B7.cell 0; have y71 := B7.cell 1; have f71 := B7.frozen 1
                have z7 := hgr.size
                simp only [World.size_alloc] at z7
                have h7p : ∀ b, (Value.slice A7 n7 c7).ownBlock = some b → b ≠ pb := fun b hb => by
                  rcases hat with h | h
                  · rw [h] at hb; have := hOlt b hb; omega
                  · rw [h] at hb; injection hb with hb; simp only [World.size_alloc] at hb; omega
                refine hK.out _ _ (by trivial) (fun hHeld => ?_)
                clear hK K
                (try simp only [Act.put, qa_, qb_, qc_])
                refine wpAnyH_take (i := 7) (oi := ⟨some 32, _, _, _, _, _⟩) (v := ?v5) rfl (by kernel_rfl) (by kernel_rfl) (by kernel_rfl) (fun _ _ _ h => h) (Or.inl ⟨by rfl, ?hy5⟩) (by assumption) ?_
                case hy5 => (intro w hSw; (try dsimp only at hSw); go_simp; try (with_reducible rfl))
                (try simp only [Act.put, qa_, qb_, qc_])
                refine wpAnyH_ready (rs := [8]) (by kernel_rfl) (by simp) ?_
                refine AllReadyH.cons rfl (fun K hK => ?_) ?_
                · go_simp
                  refine hK.out _ _ (by trivial) (fun hHeld => ?_)
                  clear hK K
                  (try simp only [Act.put, qa_, qb_, qc_])
                  refine wpAnyH_done (by kernel_rfl) ?_ _
                  have B8 := B7.put 1 (.slice A7 n7 c7)
                  have R8 := R7.far (p := ⟨pb, 1, none⟩) (by show w.heap.size ≠ pb; omega) (.slice A7 n7 c7)
                  have G8 := G7.off (b := pb) (i := 1) (fun hb => by have := hGlt _ hb; omega) (.slice A7 n7 c7)
                  have O8 := O7.kept (gb_put (gb_self w7 pb) 1 (.slice A7 n7 c7)) (.inr (fun e => h7p _ e rfl))
                  have y80 := B8.cell 0; have y81 := B8.cell 1; have r80 := R8.cell 0; have r81 := R8.cell 1; have f80 := R8.frozen 0; have f81 := R8.frozen 1
                  go_wp2
                  have RR := (R8.put 0 (.slice A0 n0 c0)).put 1 (.slice A7 n7 c7)
                  have e0 := RR.cell 0; have e1 := RR.cell 1
                  refine bodyPost_ret (v := .agg #[.slice A0 n0 c0, .slice A7 n7 c7]) (by simp [results, Try.results35, go_sem, e0, e1]) rfl ⟨_, _, (p.1, p.2 ++ [y]), rfl, plX_low (plX_put (plX_put (show PlX (w.heap.size + 1) _ _ _ (p.1, p.2 ++ [y]) from ⟨rowX_grow G8 (Nat.le_refl _), slX_own O8 (Nat.le_refl _)⟩) (Nat.lt_succ_self _) _) (Nat.lt_succ_self _) _) (Nat.le_succ _), ⟨by show p.1.length ≤ 13; omega, by show (p.2 ++ [y]).length ≤ 60; rw [N7.out]; have := N7.out; simp at this; omega, h80⟩, curs_put (curs_put (curs_put C7 (by omega) _) hgs _) hgs _, gb_far (gb_far (gb_far W7 (by omega) 1 _) (Nat.le_refl _) 0 _) (Nat.le_refl _) 1 _⟩
                exact AllReadyH.nil
              exact AllReadyH.nil
            exact AllReadyH.nil
          refine AllReadyH.cons rfl (fun K hK => ?_) ?_
          · go_simp
            refine hK.out _ _ (by trivial) (fun hHeld => ?_)
            clear hK K
            (try simp only [Act.put, qa_, qb_, qc_])
            refine wpAnyH_ready (rs := [1]) (by kernel_rfl) (by simp) ?_
            refine AllReadyH.cons rfl (fun K hK => ?_) ?_
            · go_simp
              refine hK.out _ _ (by trivial) (fun hHeld => ?_)
              clear hK K
              (try simp only [Act.put, qa_, qb_, qc_])
              refine wpAnyH_ready (rs := [6]) (by kernel_rfl) (by simp) ?_
              refine AllReadyH.cons rfl (fun K hK => ?_) ?_
              · refine step_app5 _ (by rfl) (.tmp 26) (.tmp 30) _ (by rfl) (w.heap.size + 1) 3 i0 _ 1 8 Try.underlying24 hi0 hz0 hz1 hz2 rfl (by omega) (.slice A1 n1 c1) _ _ (by rfl) (O6.1.alloc _) _ 1 1 [.int .i64 y] (by rfl) (Src.one _ _ _) (one_int _ _) (by simp only [maxLen]; omega) (by omega) (by simp; omega) ?_
                intro v7 w7 hown hgr hat
                have O7 := own_sn O6 hown rfl wy
                obtain ⟨A7, c7, rfl, -⟩ := O7.shape
                obtain ⟨n7, hn7⟩ : ∃ m, (p.2 ++ [y]).length = m := ⟨_, rfl⟩
                rw [hn7] at O7 hat ⊢
                have N7 := Lib.hid hn7
                clear hn7
                have B7 := Box.grown (B6.alloc _) hgr (fun e => by have := hOlt _ e.symm; omega)
                have R7 := Box.grown (R6.alloc _) hgr (fun e => by have := (O6.block e.symm).1; omega)
                have G7 := (G6.below (show Below w6.heap.size w6 (w6.alloc (.cells #[.int .i64 y] 3)) from (belx))).past hgr (fun b hb hx => hap b hx hb)
                have C7 := curs_new hC6 hgr (B := w.heap.size + 1) (by omega) (by omega) (fun r hr => (O6.block hr).1)
                have W7 := gb_new hGw6 hgr (fun r hr => by have := (O6.block hr).1; omega)
                have y70 := B7.cell 0; have y71 := B7.cell 1; have f71 := B7.frozen 1
                have z7 := hgr.size
                simp only [World.size_alloc] at z7
                have h7p : ∀ b, (Value.slice A7 n7 c7).ownBlock = some b → b ≠ pb := fun b hb => by
                  rcases hat with h | h
                  · rw [h] at hb; have := hOlt b hb; omega
                  · rw [h] at hb; injection hb with hb; simp only [World.size_alloc] at hb; omega
                refine hK.out _ _ (by trivial) (fun hHeld => ?_)
                clear hK K
                (try simp only [Act.put, qa_, qb_, qc_])
                refine wpAnyH_take (i := 7) (oi := ⟨some 32, _, _, _, _, _⟩) (v := ?v6) rfl (by kernel_rfl) (by kernel_rfl) (by kernel_rfl) (fun _ _ _ h => h) (Or.inl ⟨by rfl, ?hy6⟩) (by assumption) ?_
                case hy6 => (intro w hSw; (try dsimp only at hSw); go_simp; try (with_reducible rfl))
                (try simp only [Act.put, qa_, qb_, qc_])
                refine wpAnyH_ready (rs := [8]) (by kernel_rfl) (by simp) ?_
                refine AllReadyH.cons rfl (fun K hK => ?_) ?_
                · go_simp
                  refine hK.out _ _ (by trivial) (fun hHeld => ?_)
                  clear hK K
                  (try simp only [Act.put, qa_, qb_, qc_])
                  refine wpAnyH_done (by kernel_rfl) ?_ _
                  have B8 := B7.put 1 (.slice A7 n7 c7)
                  have R8 := R7.far (p := ⟨pb, 1, none⟩) (by show w.heap.size ≠ pb; omega) (.slice A7 n7 c7)
                  have G8 := G7.off (b := pb) (i := 1) (fun hb => by have := hGlt _ hb; omega) (.slice A7 n7 c7)
                  have O8 := O7.kept (gb_put (gb_self w7 pb) 1 (.slice A7 n7 c7)) (.inr (fun e => h7p _ e rfl))
                  have y80 := B8.cell 0; have y81 := B8.cell 1; have r80 := R8.cell 0; have r81 := R8.cell 1; have f80 := R8.frozen 0; have f81 := R8.frozen 1
                  go_wp2
                  have RR := (R8.put 0 (.slice A0 n0 c0)).put 1 (.slice A7 n7 c7)
                  have e0 := RR.cell 0; have e1 := RR.cell 1
                  refine bodyPost_ret (v := .agg #[.slice A0 n0 c0, .slice A7 n7 c7]) (by simp [results, Try.results35, go_sem, e0, e1]) rfl ⟨_, _, (p.1, p.2 ++ [y]), rfl, plX_low (plX_put (plX_put (show PlX (w.heap.size + 1) _ _ _ (p.1, p.2 ++ [y]) from ⟨rowX_grow G8 (Nat.le_refl _), slX_own O8 (Nat.le_refl _)⟩) (Nat.lt_succ_self _) _) (Nat.lt_succ_self _) _) (Nat.le_succ _), ⟨by show p.1.length ≤ 13; omega, by show (p.2 ++ [y]).length ≤ 60; rw [N7.out]; have := N7.out; simp at this; omega, h80⟩, curs_put (curs_put (curs_put C7 (by omega) _) hgs _) hgs _, gb_far (gb_far (gb_far W7 (by omega) 1 _) (Nat.le_refl _) 0 _) (Nat.le_refl _) 1 _⟩
                exact AllReadyH.nil
              exact AllReadyH.nil
            exact AllReadyH.nil
          exact AllReadyH.nil
        exact AllReadyH.nil
      exact AllReadyH.nil
    · go_wp2_with fail
      refine wp_region_held_drew (S := (fun _ => True)) (by kernel_rfl) (by trivial) (fun hHeld => ?_)
      refine wpAnyH_take (i := 0) (oi := ⟨some 35, _, _, _, _, _⟩) (v := ?v7) rfl (by kernel_rfl) (by kernel_rfl) (by kernel_rfl) (fun _ _ _ h => h) (Or.inl ⟨by rfl, ?hy7⟩) (by assumption) ?_
      case hy7 => (intro w hSw; (try dsimp only at hSw); go_simp; try (with_reducible rfl))
      (try simp only [Act.put, qa_, qb_, qc_])
      refine wpAnyH_take (i := 2) (oi := ⟨some 37, _, _, _, _, _⟩) (v := ?v8) rfl (by kernel_rfl) (by kernel_rfl) (by kernel_rfl) (fun _ _ _ h => h) (Or.inl ⟨by rfl, ?hy8⟩) (by assumption) ?_
      case hy8 => (intro w hSw; (try dsimp only at hSw); go_simp; try (with_reducible rfl))
      (try simp only [Act.put, qa_, qb_, qc_])
      refine wpAnyH_ready (rs := [1, 3]) (by kernel_rfl) (by simp) ?_
      refine AllReadyH.cons rfl (fun K hK => ?_) ?_
      · go_simp
        refine hK.out _ _ (by trivial) (fun hHeld => ?_)
        clear hK K
        (try simp only [Act.put, qa_, qb_, qc_])
        refine wpAnyH_ready (rs := [3]) (by kernel_rfl) (by simp) ?_
        refine AllReadyH.cons rfl (fun K hK => ?_) ?_
        · go_simp
          refine hK.out _ _ (by trivial) (fun hHeld => ?_)
          clear hK K
          (try simp only [Act.put, qa_, qb_, qc_])
          refine wpAnyH_ready (rs := [4]) (by kernel_rfl) (by simp) ?_
          refine AllReadyH.cons rfl (fun K hK => ?_) ?_
          · go_simp
            go_at_call 37
            have hc3 : ∀ i, i < 3 → ((wd.alloc (.cells #[.int .i64 (-1), .int .i64 8, .int .i64 0] 3)).drew).cell? ⟨wd.heap.size, 0 + i, none⟩ = some (.int .i64 (([-1, 8, 0] : List Int).getD i 0)) := fun i hi => three_cells wd 3 (-1) (8) (0) i hi
            have hCd : Curs ((wd.alloc (.cells #[.int .i64 (-1), .int .i64 8, .int .i64 0] 3)).drew) g A n c l := hC.alloc _
            have hzd : wd.heap.size < ((wd.alloc (.cells #[.int .i64 (-1), .int .i64 8, .int .i64 0] 3)).drew).heap.size := by show _ < (World.alloc _ _).heap.size; simp
            refine (k_Pick (L := some ⟨wd.heap.size, 0, none⟩) (m := 3) (d := 3) (zs := [-1, 8, 0]) ((wd.alloc (.cells #[.int .i64 (-1), .int .i64 8, .int .i64 0] 3)).drew) hCd (gb_self _ g) ⟨wd.heap.size, 0, rfl, by omega, hzd, hc3⟩ (by omega) (by omega) rfl).mono ?_
            rintro e w6 ⟨y, rfl, hy, hC6, hG6⟩
            have hG6 : wd.grownBy w6 (some g) := gb_trans (gb_drew (gb_alloc (gb_self wd g) _)) hG6
            have B6 := Bp.grown hG6 hpg
            have R6 := Br.grown hG6 hrg
            have O6 := own_draw hO hG6 (by omega)
            have G6 := hGr.past hG6 (fun b hb hx => by injection hb with hb; have := (hGr.blk b hx).1; omega)
            have z6 := hG6.size
            have hGw6 := gb_trans hGw hG6
            have y60 := B6.cell 0; have y61 := B6.cell 1
            have zp6 : pb < w6.heap.size := B6.size
            have hy2 : -1 ≤ y ∧ y ≤ 8 := by simp only [List.mem_cons, List.not_mem_nil, or_false] at hy; omega
            have wy : (Lit.int .i64 y).wf = true := WalkArith.wf_i64 ⟨by omega, by omega⟩
            clear hy
            go_wp2_with fail
            refine hK.out _ _ (by trivial) (fun hHeld => ?_)
            clear hK K
            (try simp only [Act.put, qa_, qb_, qc_])
            refine wpAnyH_take (i := 5) (oi := ⟨some 40, _, _, _, _, _⟩) (v := ?v9) rfl (by kernel_rfl) (by kernel_rfl) (by kernel_rfl) (fun _ _ _ h => h) (Or.inl ⟨by rfl, ?hy9⟩) (by assumption) ?_
            case hy9 => (intro w hSw; (try dsimp only at hSw); go_simp; try (with_reducible rfl))
            (try simp only [Act.put, qa_, qb_, qc_])
            refine wpAnyH_ready (rs := [6]) (by kernel_rfl) (by simp) ?_
            refine AllReadyH.cons rfl (fun K hK => ?_) ?_
            · go_simp
              refine hK.out _ _ (by trivial) (fun hHeld => ?_)
              clear hK K
              (try simp only [Act.put, qa_, qb_, qc_])
              refine wpAnyH_ready (rs := [7]) (by kernel_rfl) (by simp) ?_
              refine AllReadyH.cons rfl (fun K hK => ?_) ?_
              · refine GrowO.step (by rfl) (.tmp 36) (.tmp 41) _ (by rfl) i1 _ 3 40 Try.underlying23 hj0 hj1 hj2 hj3 tz (by omega) rfl (by rfl) (G6.below (show Below w6.heap.size w6 (w6.alloc (.cells #[.int .i64 y, .int .i64 0, .slice none 0 0] 30)) from (belx))) w6.heap.size [.int .i64 y, .int .i64 0, .slice none 0 0] (y, 0, []) (by rfl) (Box.new w6 30 _) (heldN wy) (New.nil _) (fun f hf => absurd hf (by simp)) (fun b _ hf => absurd hf (by simp)) (one_held _ _ _ _ _) (by simp; omega) (by simp only [maxLen]; omega) (by omega) ?_
                intro v7 w7 G7 hgr
                obtain ⟨A7, c7, rfl⟩ := G7.shape
                obtain ⟨n7, hn7⟩ : ∃ m, (p.1 ++ [((y, 0, []) : DHeld)]).length = m := ⟨_, rfl⟩
                rw [hn7] at G7 ⊢
                have N7 := Lib.hid hn7
                clear hn7
                have B7 := Box.grown (B6.alloc _) hgr (fun e => by have := hGlt _ (.inl e.symm); omega)
                have R7 := Box.grown (R6.alloc _) hgr (fun e => by have := (G6.blk _ (.inl e.symm)).1; omega)
                have O7 : Own .i64 3 w7 (w.heap.size + 1) (.slice A1 n1 c1) p.2 := (O6.alloc _).kept hgr (by
                  cases hv : Value.ownBlock (.slice A0 n0 c0) with
                  | none => exact apart_sy3 (.inl rfl)
                  | some b => exact .inr (hap b (.inl hv)))
                have C7 := curs_new hC6 hgr (B := w.heap.size + 1) (by omega) (by omega) (fun r hr => (G6.blk r (.inl hr)).1)
                have W7 := gb_new hGw6 hgr (fun r hr => by have := (G6.blk r (.inl hr)).1; omega)
                have y70 := B7.cell 0; have y71 := B7.cell 1; have f71 := B7.frozen 0
                have z7 := hgr.size
                simp only [World.size_alloc] at z7
                refine hK.out _ _ (by trivial) (fun hHeld => ?_)
                clear hK K
                (try simp only [Act.put, qa_, qb_, qc_])
                refine wpAnyH_take (i := 8) (oi := ⟨some 43, _, _, _, _, _⟩) (v := ?v10) rfl (by kernel_rfl) (by kernel_rfl) (by kernel_rfl) (fun _ _ _ h => h) (Or.inl ⟨by rfl, ?hy10⟩) (by assumption) ?_
                case hy10 => (intro w hSw; (try dsimp only at hSw); go_simp; try (with_reducible rfl))
                (try simp only [Act.put, qa_, qb_, qc_])
                refine wpAnyH_ready (rs := [9]) (by kernel_rfl) (by simp) ?_
                refine AllReadyH.cons rfl (fun K hK => ?_) ?_
                · go_simp
                  refine hK.out _ _ (by trivial) (fun hHeld => ?_)
                  clear hK K
                  (try simp only [Act.put, qa_, qb_, qc_])
                  refine wpAnyH_done (by kernel_rfl) ?_ _
                  have B8 := B7.put 0 (.slice A7 n7 c7)
                  have R8 := R7.far (p := ⟨pb, 0, none⟩) (by show w.heap.size ≠ pb; omega) (.slice A7 n7 c7)
                  have G8 := G7.off (b := pb) (i := 0) (fun hb => by rcases hb with hb | hb; exact G7.noBox B7 (by decide) hb; have := hGlt _ (.inr (by simpa using hb)); omega) (.slice A7 n7 c7)
                  have O8 := O7.kept (gb_put (gb_self w7 pb) 0 (.slice A7 n7 c7)) (.inr (fun e => by have := hOlt _ e; omega))
                  have y80 := B8.cell 0; have y81 := B8.cell 1; have r80 := R8.cell 0; have r81 := R8.cell 1; have f80 := R8.frozen 0; have f81 := R8.frozen 1
                  go_wp2
                  have RR := (R8.put 0 (.slice A7 n7 c7)).put 1 (.slice A1 n1 c1)
                  have e0 := RR.cell 0; have e1 := RR.cell 1
                  refine bodyPost_ret (v := .agg #[.slice A7 n7 c7, .slice A1 n1 c1]) (by simp [results, Try.results35, go_sem, e0, e1]) rfl ⟨_, _, (p.1 ++ [(y, 0, [])], p.2), rfl, plX_low (plX_put (plX_put (show PlX (w.heap.size + 1) _ _ _ (p.1 ++ [(y, 0, [])], p.2) from ⟨rowX_grow G8 (Nat.le_refl _), slX_own O8 (Nat.le_refl _)⟩) (Nat.lt_succ_self _) _) (Nat.lt_succ_self _) _) (Nat.le_succ _), ⟨by show (p.1 ++ [((y, 0, []) : DHeld)]).length ≤ 13; rw [N7.out]; have := N7.out; simp at this; omega, by show p.2.length ≤ 60; omega, fun a ha => by rcases List.mem_append.1 ha with h | h; exact h80 a h; rw [List.mem_singleton.1 h]; simp⟩, curs_put (curs_put (curs_put C7 (by omega) _) hgs _) hgs _, gb_far (gb_far (gb_far W7 (by omega) 0 _) (Nat.le_refl _) 0 _) (Nat.le_refl _) 1 _⟩
                exact AllReadyH.nil
              exact AllReadyH.nil
            exact AllReadyH.nil
          exact AllReadyH.nil
        exact AllReadyH.nil
      refine AllReadyH.cons rfl (fun K hK => ?_) ?_
      · go_simp
        refine hK.out _ _ (by trivial) (fun hHeld => ?_)
        clear hK K
        (try simp only [Act.put, qa_, qb_, qc_])
        refine wpAnyH_ready (rs := [1, 4]) (by kernel_rfl) (by simp) ?_
        refine AllReadyH.cons rfl (fun K hK => ?_) ?_
        · go_simp
          refine hK.out _ _ (by trivial) (fun hHeld => ?_)
          clear hK K
          (try simp only [Act.put, qa_, qb_, qc_])
          refine wpAnyH_ready (rs := [4]) (by kernel_rfl) (by simp) ?_
          refine AllReadyH.cons rfl (fun K hK => ?_) ?_
          · go_simp
            go_at_call 37
            have hc3 : ∀ i, i < 3 → ((wd.alloc (.cells #[.int .i64 (-1), .int .i64 8, .int .i64 0] 3)).drew).cell? ⟨wd.heap.size, 0 + i, none⟩ = some (.int .i64 (([-1, 8, 0] : List Int).getD i 0)) := fun i hi => three_cells wd 3 (-1) (8) (0) i hi
            have hCd : Curs ((wd.alloc (.cells #[.int .i64 (-1), .int .i64 8, .int .i64 0] 3)).drew) g A n c l := hC.alloc _
            have hzd : wd.heap.size < ((wd.alloc (.cells #[.int .i64 (-1), .int .i64 8, .int .i64 0] 3)).drew).heap.size := by show _ < (World.alloc _ _).heap.size; simp
            refine (k_Pick (L := some ⟨wd.heap.size, 0, none⟩) (m := 3) (d := 3) (zs := [-1, 8, 0]) ((wd.alloc (.cells #[.int .i64 (-1), .int .i64 8, .int .i64 0] 3)).drew) hCd (gb_self _ g) ⟨wd.heap.size, 0, rfl, by omega, hzd, hc3⟩ (by omega) (by omega) rfl).mono ?_
            rintro e w6 ⟨y, rfl, hy, hC6, hG6⟩
            have hG6 : wd.grownBy w6 (some g) := gb_trans (gb_drew (gb_alloc (gb_self wd g) _)) hG6
            have B6 := Bp.grown hG6 hpg
            have R6 := Br.grown hG6 hrg
            have O6 := own_draw hO hG6 (by omega)
            have G6 := hGr.past hG6 (fun b hb hx => by injection hb with hb; have := (hGr.blk b hx).1; omega)
            have z6 := hG6.size
            have hGw6 := gb_trans hGw hG6
            have y60 := B6.cell 0; have y61 := B6.cell 1
            have zp6 : pb < w6.heap.size := B6.size
            have hy2 : -1 ≤ y ∧ y ≤ 8 := by simp only [List.mem_cons, List.not_mem_nil, or_false] at hy; omega
            have wy : (Lit.int .i64 y).wf = true := WalkArith.wf_i64 ⟨by omega, by omega⟩
            clear hy
            go_wp2_with fail
            refine hK.out _ _ (by trivial) (fun hHeld => ?_)
            clear hK K
            (try simp only [Act.put, qa_, qb_, qc_])
            refine wpAnyH_take (i := 5) (oi := ⟨some 40, _, _, _, _, _⟩) (v := ?v11) rfl (by kernel_rfl) (by kernel_rfl) (by kernel_rfl) (fun _ _ _ h => h) (Or.inl ⟨by rfl, ?hy11⟩) (by assumption) ?_
            case hy11 => (intro w hSw; (try dsimp only at hSw); go_simp; try (with_reducible rfl))
            (try simp only [Act.put, qa_, qb_, qc_])
            refine wpAnyH_ready (rs := [6]) (by kernel_rfl) (by simp) ?_
            refine AllReadyH.cons rfl (fun K hK => ?_) ?_
            · go_simp
              refine hK.out _ _ (by trivial) (fun hHeld => ?_)
              clear hK K
              (try simp only [Act.put, qa_, qb_, qc_])
              refine wpAnyH_ready (rs := [7]) (by kernel_rfl) (by simp) ?_
              refine AllReadyH.cons rfl (fun K hK => ?_) ?_
              · refine GrowO.step (by rfl) (.tmp 36) (.tmp 41) _ (by rfl) i1 _ 3 40 Try.underlying23 hj0 hj1 hj2 hj3 tz (by omega) rfl (by rfl) (G6.below (show Below w6.heap.size w6 (w6.alloc (.cells #[.int .i64 y, .int .i64 0, .slice none 0 0] 30)) from (belx))) w6.heap.size [.int .i64 y, .int .i64 0, .slice none 0 0] (y, 0, []) (by rfl) (Box.new w6 30 _) (heldN wy) (New.nil _) (fun f hf => absurd hf (by simp)) (fun b _ hf => absurd hf (by simp)) (one_held _ _ _ _ _) (by simp; omega) (by simp only [maxLen]; omega) (by omega) ?_
                intro v7 w7 G7 hgr
                obtain ⟨A7, c7, rfl⟩ := G7.shape
                obtain ⟨n7, hn7⟩ : ∃ m, (p.1 ++ [((y, 0, []) : DHeld)]).length = m := ⟨_, rfl⟩
                rw [hn7] at G7 ⊢
                have N7 := Lib.hid hn7
                clear hn7
                have B7 := Box.grown (B6.alloc _) hgr (fun e => by have := hGlt _ (.inl e.symm); omega)
                have R7 := Box.grown (R6.alloc _) hgr (fun e => by have := (G6.blk _ (.inl e.symm)).1; omega)
                have O7 : Own .i64 3 w7 (w.heap.size + 1) (.slice A1 n1 c1) p.2 := (O6.alloc _).kept hgr (by
                  cases hv : Value.ownBlock (.slice A0 n0 c0) with
                  | none => exact apart_sy3 (.inl rfl)
                  | some b => exact .inr (hap b (.inl hv)))
                have C7 := curs_new hC6 hgr (B := w.heap.size + 1) (by omega) (by omega) (fun r hr => (G6.blk r (.inl hr)).1)
                have W7 := gb_new hGw6 hgr (fun r hr => by have := (G6.blk r (.inl hr)).1; omega)
                have y70 := B7.cell 0; have y71 := B7.cell 1; have f71 := B7.frozen 0
                have z7 := hgr.size
                simp only [World.size_alloc] at z7
                refine hK.out _ _ (by trivial) (fun hHeld => ?_)
                clear hK K
                (try simp only [Act.put, qa_, qb_, qc_])
                refine wpAnyH_take (i := 8) (oi := ⟨some 43, _, _, _, _, _⟩) (v := ?v12) rfl (by kernel_rfl) (by kernel_rfl) (by kernel_rfl) (fun _ _ _ h => h) (Or.inl ⟨by rfl, ?hy12⟩) (by assumption) ?_
                case hy12 => (intro w hSw; (try dsimp only at hSw); go_simp; try (with_reducible rfl))
                (try simp only [Act.put, qa_, qb_, qc_])
                refine wpAnyH_ready (rs := [9]) (by kernel_rfl) (by simp) ?_
                refine AllReadyH.cons rfl (fun K hK => ?_) ?_
                · go_simp
                  refine hK.out _ _ (by trivial) (fun hHeld => ?_)
                  clear hK K
                  (try simp only [Act.put, qa_, qb_, qc_])
                  refine wpAnyH_done (by kernel_rfl) ?_ _
                  have B8 := B7.put 0 (.slice A7 n7 c7)
                  have R8 := R7.far (p := ⟨pb, 0, none⟩) (by show w.heap.size ≠ pb; omega) (.slice A7 n7 c7)
                  have G8 := G7.off (b := pb) (i := 0) (fun hb => by rcases hb with hb | hb; exact G7.noBox B7 (by decide) hb; have := hGlt _ (.inr (by simpa using hb)); omega) (.slice A7 n7 c7)
                  have O8 := O7.kept (gb_put (gb_self w7 pb) 0 (.slice A7 n7 c7)) (.inr (fun e => by have := hOlt _ e; omega))
                  have y80 := B8.cell 0; have y81 := B8.cell 1; have r80 := R8.cell 0; have r81 := R8.cell 1; have f80 := R8.frozen 0; have f81 := R8.frozen 1
                  go_wp2
                  have RR := (R8.put 0 (.slice A7 n7 c7)).put 1 (.slice A1 n1 c1)
                  have e0 := RR.cell 0; have e1 := RR.cell 1
                  refine bodyPost_ret (v := .agg #[.slice A7 n7 c7, .slice A1 n1 c1]) (by simp [results, Try.results35, go_sem, e0, e1]) rfl ⟨_, _, (p.1 ++ [(y, 0, [])], p.2), rfl, plX_low (plX_put (plX_put (show PlX (w.heap.size + 1) _ _ _ (p.1 ++ [(y, 0, [])], p.2) from ⟨rowX_grow G8 (Nat.le_refl _), slX_own O8 (Nat.le_refl _)⟩) (Nat.lt_succ_self _) _) (Nat.lt_succ_self _) _) (Nat.le_succ _), ⟨by show (p.1 ++ [((y, 0, []) : DHeld)]).length ≤ 13; rw [N7.out]; have := N7.out; simp at this; omega, by show p.2.length ≤ 60; omega, fun a ha => by rcases List.mem_append.1 ha with h | h; exact h80 a h; rw [List.mem_singleton.1 h]; simp⟩, curs_put (curs_put (curs_put C7 (by omega) _) hgs _) hgs _, gb_far (gb_far (gb_far W7 (by omega) 0 _) (Nat.le_refl _) 0 _) (Nat.le_refl _) 1 _⟩
                exact AllReadyH.nil
              exact AllReadyH.nil
            exact AllReadyH.nil
          exact AllReadyH.nil
        refine AllReadyH.cons rfl (fun K hK => ?_) ?_
        · go_simp
          go_at_call 37
          have hc3 : ∀ i, i < 3 → ((wd.alloc (.cells #[.int .i64 (-1), .int .i64 8, .int .i64 0] 3)).drew).cell? ⟨wd.heap.size, 0 + i, none⟩ = some (.int .i64 (([-1, 8, 0] : List Int).getD i 0)) := fun i hi => three_cells wd 3 (-1) (8) (0) i hi
          have hCd : Curs ((wd.alloc (.cells #[.int .i64 (-1), .int .i64 8, .int .i64 0] 3)).drew) g A n c l := hC.alloc _
          have hzd : wd.heap.size < ((wd.alloc (.cells #[.int .i64 (-1), .int .i64 8, .int .i64 0] 3)).drew).heap.size := by show _ < (World.alloc _ _).heap.size; simp
          refine (k_Pick (L := some ⟨wd.heap.size, 0, none⟩) (m := 3) (d := 3) (zs := [-1, 8, 0]) ((wd.alloc (.cells #[.int .i64 (-1), .int .i64 8, .int .i64 0] 3)).drew) hCd (gb_self _ g) ⟨wd.heap.size, 0, rfl, by omega, hzd, hc3⟩ (by omega) (by omega) rfl).mono ?_
          rintro e w6 ⟨y, rfl, hy, hC6, hG6⟩
          have hG6 : wd.grownBy w6 (some g) := gb_trans (gb_drew (gb_alloc (gb_self wd g) _)) hG6
          have B6 := Bp.grown hG6 hpg
          have R6 := Br.grown hG6 hrg
          have O6 := own_draw hO hG6 (by omega)
          have G6 := hGr.past hG6 (fun b hb hx => by injection hb with hb; have := (hGr.blk b hx).1; omega)
          have z6 := hG6.size
          have hGw6 := gb_trans hGw hG6
          have y60 := B6.cell 0; have y61 := B6.cell 1
          have zp6 : pb < w6.heap.size := B6.size
          have hy2 : -1 ≤ y ∧ y ≤ 8 := by simp only [List.mem_cons, List.not_mem_nil, or_false] at hy; omega
          have wy : (Lit.int .i64 y).wf = true := WalkArith.wf_i64 ⟨by omega, by omega⟩
          clear hy
          go_wp2_with fail
          refine hK.out _ _ (by trivial) (fun hHeld => ?_)
          clear hK K
          (try simp only [Act.put, qa_, qb_, qc_])
          refine wpAnyH_take (i := 5) (oi := ⟨some 40, _, _, _, _, _⟩) (v := ?v13) rfl (by kernel_rfl) (by kernel_rfl) (by kernel_rfl) (fun _ _ _ h => h) (Or.inl ⟨by rfl, ?hy13⟩) (by assumption) ?_
          case hy13 => (intro w hSw; (try dsimp only at hSw); go_simp; try (with_reducible rfl))
          (try simp only [Act.put, qa_, qb_, qc_])
          refine wpAnyH_ready (rs := [1, 6]) (by kernel_rfl) (by simp) ?_
          refine AllReadyH.cons rfl (fun K hK => ?_) ?_
          · go_simp
            refine hK.out _ _ (by trivial) (fun hHeld => ?_)
            clear hK K
            (try simp only [Act.put, qa_, qb_, qc_])
            refine wpAnyH_ready (rs := [6]) (by kernel_rfl) (by simp) ?_
            refine AllReadyH.cons rfl (fun K hK => ?_) ?_
            · go_simp
              refine hK.out _ _ (by trivial) (fun hHeld => ?_)
              clear hK K
              (try simp only [Act.put, qa_, qb_, qc_])
              refine wpAnyH_ready (rs := [7]) (by kernel_rfl) (by simp) ?_
              refine AllReadyH.cons rfl (fun K hK => ?_) ?_
              · refine GrowO.step (by rfl) (.tmp 36) (.tmp 41) _ (by rfl) i1 _ 3 40 Try.underlying23 hj0 hj1 hj2 hj3 tz (by omega) rfl (by rfl) (G6.below (show Below w6.heap.size w6 (w6.alloc (.cells #[.int .i64 y, .int .i64 0, .slice none 0 0] 30)) from (belx))) w6.heap.size [.int .i64 y, .int .i64 0, .slice none 0 0] (y, 0, []) (by rfl) (Box.new w6 30 _) (heldN wy) (New.nil _) (fun f hf => absurd hf (by simp)) (fun b _ hf => absurd hf (by simp)) (one_held _ _ _ _ _) (by simp; omega) (by simp only [maxLen]; omega) (by omega) ?_
                intro v7 w7 G7 hgr
                obtain ⟨A7, c7, rfl⟩ := G7.shape
                obtain ⟨n7, hn7⟩ : ∃ m, (p.1 ++ [((y, 0, []) : DHeld)]).length = m := ⟨_, rfl⟩
                rw [hn7] at G7 ⊢
                have N7 := Lib.hid hn7
                clear hn7
                have B7 := Box.grown (B6.alloc _) hgr (fun e => by have := hGlt _ (.inl e.symm); omega)
                have R7 := Box.grown (R6.alloc _) hgr (fun e => by have := (G6.blk _ (.inl e.symm)).1; omega)
                have O7 : Own .i64 3 w7 (w.heap.size + 1) (.slice A1 n1 c1) p.2 := (O6.alloc _).kept hgr (by
                  cases hv : Value.ownBlock (.slice A0 n0 c0) with
                  | none => exact apart_sy3 (.inl rfl)
                  | some b => exact .inr (hap b (.inl hv)))
                have C7 := curs_new hC6 hgr (B := w.heap.size + 1) (by omega) (by omega) (fun r hr => (G6.blk r (.inl hr)).1)
                have W7 := gb_new hGw6 hgr (fun r hr => by have := (G6.blk r (.inl hr)).1; omega)
                have y70 := B7.cell 0; have y71 := B7.cell 1; have f71 := B7.frozen 0
                have z7 := hgr.size
                simp only [World.size_alloc] at z7
                refine hK.out _ _ (by trivial) (fun hHeld => ?_)
                clear hK K
                (try simp only [Act.put, qa_, qb_, qc_])
                refine wpAnyH_take (i := 8) (oi := ⟨some 43, _, _, _, _, _⟩) (v := ?v14) rfl (by kernel_rfl) (by kernel_rfl) (by kernel_rfl) (fun _ _ _ h => h) (Or.inl ⟨by rfl, ?hy14⟩) (by assumption) ?_
                case hy14 => (intro w hSw; (try dsimp only at hSw); go_simp; try (with_reducible rfl))
                (try simp only [Act.put, qa_, qb_, qc_])
                refine wpAnyH_ready (rs := [9]) (by kernel_rfl) (by simp) ?_
                refine AllReadyH.cons rfl (fun K hK => ?_) ?_
                · go_simp
                  refine hK.out _ _ (by trivial) (fun hHeld => ?_)
                  clear hK K
                  (try simp only [Act.put, qa_, qb_, qc_])
                  refine wpAnyH_done (by kernel_rfl) ?_ _
                  have B8 := B7.put 0 (.slice A7 n7 c7)
                  have R8 := R7.far (p := ⟨pb, 0, none⟩) (by show w.heap.size ≠ pb; omega) (.slice A7 n7 c7)
                  have G8 := G7.off (b := pb) (i := 0) (fun hb => by rcases hb with hb | hb; exact G7.noBox B7 (by decide) hb; have := hGlt _ (.inr (by simpa using hb)); omega) (.slice A7 n7 c7)
                  have O8 := O7.kept (gb_put (gb_self w7 pb) 0 (.slice A7 n7 c7)) (.inr (fun e => by have := hOlt _ e; omega))
                  have y80 := B8.cell 0; have y81 := B8.cell 1; have r80 := R8.cell 0; have r81 := R8.cell 1; have f80 := R8.frozen 0; have f81 := R8.frozen 1
                  go_wp2
                  have RR := (R8.put 0 (.slice A7 n7 c7)).put 1 (.slice A1 n1 c1)
                  have e0 := RR.cell 0; have e1 := RR.cell 1
                  refine bodyPost_ret (v := .agg #[.slice A7 n7 c7, .slice A1 n1 c1]) (by simp [results, Try.results35, go_sem, e0, e1]) rfl ⟨_, _, (p.1 ++ [(y, 0, [])], p.2), rfl, plX_low (plX_put (plX_put (show PlX (w.heap.size + 1) _ _ _ (p.1 ++ [(y, 0, [])], p.2) from ⟨rowX_grow G8 (Nat.le_refl _), slX_own O8 (Nat.le_refl _)⟩) (Nat.lt_succ_self _) _) (Nat.lt_succ_self _) _) (Nat.le_succ _), ⟨by show (p.1 ++ [((y, 0, []) : DHeld)]).length ≤ 13; rw [N7.out]; have := N7.out; simp at this; omega, by show p.2.length ≤ 60; omega, fun a ha => by rcases List.mem_append.1 ha with h | h; exact h80 a h; rw [List.mem_singleton.1 h]; simp⟩, curs_put (curs_put (curs_put C7 (by omega) _) hgs _) hgs _, gb_far (gb_far (gb_far W7 (by omega) 0 _) (Nat.le_refl _) 0 _) (Nat.le_refl _) 1 _⟩
                exact AllReadyH.nil
              exact AllReadyH.nil
            exact AllReadyH.nil
          refine AllReadyH.cons rfl (fun K hK => ?_) ?_
          · go_simp
            refine hK.out _ _ (by trivial) (fun hHeld => ?_)
            clear hK K
            (try simp only [Act.put, qa_, qb_, qc_])
            refine wpAnyH_ready (rs := [1]) (by kernel_rfl) (by simp) ?_
            refine AllReadyH.cons rfl (fun K hK => ?_) ?_
            · go_simp
              refine hK.out _ _ (by trivial) (fun hHeld => ?_)
              clear hK K
              (try simp only [Act.put, qa_, qb_, qc_])
              refine wpAnyH_ready (rs := [7]) (by kernel_rfl) (by simp) ?_
              refine AllReadyH.cons rfl (fun K hK => ?_) ?_
              · refine GrowO.step (by rfl) (.tmp 36) (.tmp 41) _ (by rfl) i1 _ 3 40 Try.underlying23 hj0 hj1 hj2 hj3 tz (by omega) rfl (by rfl) (G6.below (show Below w6.heap.size w6 (w6.alloc (.cells #[.int .i64 y, .int .i64 0, .slice none 0 0] 30)) from (belx))) w6.heap.size [.int .i64 y, .int .i64 0, .slice none 0 0] (y, 0, []) (by rfl) (Box.new w6 30 _) (heldN wy) (New.nil _) (fun f hf => absurd hf (by simp)) (fun b _ hf => absurd hf (by simp)) (one_held _ _ _ _ _) (by simp; omega) (by simp only [maxLen]; omega) (by omega) ?_
                intro v7 w7 G7 hgr
                obtain ⟨A7, c7, rfl⟩ := G7.shape
                obtain ⟨n7, hn7⟩ : ∃ m, (p.1 ++ [((y, 0, []) : DHeld)]).length = m := ⟨_, rfl⟩
                rw [hn7] at G7 ⊢
                have N7 := Lib.hid hn7
                clear hn7
                have B7 := Box.grown (B6.alloc _) hgr (fun e => by have := hGlt _ (.inl e.symm); omega)
                have R7 := Box.grown (R6.alloc _) hgr (fun e => by have := (G6.blk _ (.inl e.symm)).1; omega)
                have O7 : Own .i64 3 w7 (w.heap.size + 1) (.slice A1 n1 c1) p.2 := (O6.alloc _).kept hgr (by
                  cases hv : Value.ownBlock (.slice A0 n0 c0) with
                  | none => exact apart_sy3 (.inl rfl)
                  | some b => exact .inr (hap b (.inl hv)))
                have C7 := curs_new hC6 hgr (B := w.heap.size + 1) (by omega) (by omega) (fun r hr => (G6.blk r (.inl hr)).1)
                have W7 := gb_new hGw6 hgr (fun r hr => by have := (G6.blk r (.inl hr)).1; omega)
                have y70 := B7.cell 0; have y71 := B7.cell 1; have f71 := B7.frozen 0
                have z7 := hgr.size
                simp only [World.size_alloc] at z7
                refine hK.out _ _ (by trivial) (fun hHeld => ?_)
                clear hK K
                (try simp only [Act.put, qa_, qb_, qc_])
                refine wpAnyH_take (i := 8) (oi := ⟨some 43, _, _, _, _, _⟩) (v := ?v15) rfl (by kernel_rfl) (by kernel_rfl) (by kernel_rfl) (fun _ _ _ h => h) (Or.inl ⟨by rfl, ?hy15⟩) (by assumption) ?_
                case hy15 => (intro w hSw; (try dsimp only at hSw); go_simp; try (with_reducible rfl))
                (try simp only [Act.put, qa_, qb_, qc_])
                refine wpAnyH_ready (rs := [9]) (by kernel_rfl) (by simp) ?_
                refine AllReadyH.cons rfl (fun K hK => ?_) ?_
                · go_simp
                  refine hK.out _ _ (by trivial) (fun hHeld => ?_)
                  clear hK K
                  (try simp only [Act.put, qa_, qb_, qc_])
                  refine wpAnyH_done (by kernel_rfl) ?_ _
                  have B8 := B7.put 0 (.slice A7 n7 c7)
                  have R8 := R7.far (p := ⟨pb, 0, none⟩) (by show w.heap.size ≠ pb; omega) (.slice A7 n7 c7)
                  have G8 := G7.off (b := pb) (i := 0) (fun hb => by rcases hb with hb | hb; exact G7.noBox B7 (by decide) hb; have := hGlt _ (.inr (by simpa using hb)); omega) (.slice A7 n7 c7)
                  have O8 := O7.kept (gb_put (gb_self w7 pb) 0 (.slice A7 n7 c7)) (.inr (fun e => by have := hOlt _ e; omega))
                  have y80 := B8.cell 0; have y81 := B8.cell 1; have r80 := R8.cell 0; have r81 := R8.cell 1; have f80 := R8.frozen 0; have f81 := R8.frozen 1
                  go_wp2
                  have RR := (R8.put 0 (.slice A7 n7 c7)).put 1 (.slice A1 n1 c1)
                  have e0 := RR.cell 0; have e1 := RR.cell 1
                  refine bodyPost_ret (v := .agg #[.slice A7 n7 c7, .slice A1 n1 c1]) (by simp [results, Try.results35, go_sem, e0, e1]) rfl ⟨_, _, (p.1 ++ [(y, 0, [])], p.2), rfl, plX_low (plX_put (plX_put (show PlX (w.heap.size + 1) _ _ _ (p.1 ++ [(y, 0, [])], p.2) from ⟨rowX_grow G8 (Nat.le_refl _), slX_own O8 (Nat.le_refl _)⟩) (Nat.lt_succ_self _) _) (Nat.lt_succ_self _) _) (Nat.le_succ _), ⟨by show (p.1 ++ [((y, 0, []) : DHeld)]).length ≤ 13; rw [N7.out]; have := N7.out; simp at this; omega, by show p.2.length ≤ 60; omega, fun a ha => by rcases List.mem_append.1 ha with h | h; exact h80 a h; rw [List.mem_singleton.1 h]; simp⟩, curs_put (curs_put (curs_put C7 (by omega) _) hgs _) hgs _, gb_far (gb_far (gb_far W7 (by omega) 0 _) (Nat.le_refl _) 0 _) (Nat.le_refl _) 1 _⟩
                exact AllReadyH.nil
              exact AllReadyH.nil
            exact AllReadyH.nil
          exact AllReadyH.nil
        exact AllReadyH.nil
      exact AllReadyH.nil
    · go_wp2_with fail
      clear yd0 yd1
      go_loopw [] (fun wr => ∃ (l1 : List Int) (v1 : Value), Box wr pb 26 #[.slice A0 n0 c0, v1] ∧ Own .i64 3 wr (w.heap.size + 1) v1 l1 ∧ l1.length ≤ 60 ∧ GrowO tHeld 30 wr (w.heap.size + 1) (.slice A0 n0 c0) p.1 F2 ∧ (∀ b, Blk (.slice A0 n0 c0) F2 b → v1.ownBlock ≠ some b) ∧ (∀ b, v1.ownBlock = some b → b ≠ pb) ∧ Curs wr g A n c l ∧ Box wr w.heap.size 26 #[.slice none 0 0, .slice none 0 0] ∧ w.grownBy wr (some g)) (fun wr => tagsLeft wr pb)
      case atStart => exact ⟨p.2, _, Bp, hO, by omega, hGr, hap, fun b hb => by have := hOlt b hb; omega, hC, Br, hGw⟩
      case round =>
        obtain ⟨l1, v1, Bx, Ox, hlx, Gx, hax, hpx, Cx, Rx, Wx⟩ := hrel
        obtain ⟨A5, c5, rfl, -⟩ := Ox.shape
        obtain ⟨n5, hn5⟩ : ∃ m, l1.length = m := ⟨_, rfl⟩
        have N5 := Lib.hid hn5
        rw [hn5] at Bx Ox hlx hax hpx
        clear hn5
        have x0 := Bx.cell 0; have x1 := Bx.cell 1
        have zx := Bx.size
        have zr := Rx.size
        have HM := Lib.hid (tagsLeft_eq x1)
        by_cases hlt : n5 < 60
        · have wk : (Lit.int .i64 (1000 + (n5 : Int))).wf = true := WalkArith.wf_i64 ⟨by omega, by omega⟩
          have m5 : l1.length ≤ 60 := by rw [N5.out]; exact hlx
          go_wp2_with (at_builtin; refine wpList_app _ rfl (.tmp 15) (.tmp 20) _ rfl (w.heap.size + 1) 3 i0 _ 1 8 Try.underlying24 hi0 hz0 hz1 hz2 rfl (by omega) _ _ _ rfl (Ox.1.alloc _) _ 1 1 [.int .i64 (1000 + (n5 : Int))] rfl (Src.one _ _ _) (one_int _ _) (by simp only [maxLen]; omega) (by omega) (by simp; omega) ?_; intro v7 w7 hown hgr hat; have O7 := own_sn Ox hown rfl wk; obtain ⟨A7, c7, rfl, -⟩ := O7.shape; obtain ⟨n7, hn7⟩ : ∃ m, (l1 ++ [1000 + (n5 : Int)]).length = m := ⟨_, rfl⟩; rw [hn7] at O7 hat ⊢; have N7 := Lib.hid hn7; clear hn7; have B7 := Box.grown (Bx.alloc _) hgr (fun e => hpx _ e.symm rfl); have y70 := B7.cell 0; have y71 := B7.cell 1; have f71 := B7.frozen 1)
          have R7 := Box.grown (Rx.alloc _) hgr (fun e => by have := (Ox.block e.symm).1; omega)
          have G7 := (Gx.below (show Below wr.heap.size wr (wr.alloc (.cells #[.int .i64 (1000 + (n5 : Int))] 3)) from (belx))).past hgr (fun b hb hx => hax b hx hb)
          have C7 := curs_new Cx hgr (B := w.heap.size + 1) (by omega) (by omega) (fun r hr => (Ox.block hr).1)
          have W7 := gb_new Wx hgr (fun r hr => by have := (Ox.block hr).1; omega)
          have z7 := hgr.size
          simp only [World.size_alloc] at z7
          have h7p : ∀ b, (Value.slice A7 n7 c7).ownBlock = some b → b ≠ pb := fun b hb => by
            rcases hat with h | h
            · rw [h] at hb; exact hpx b hb
            · rw [h] at hb; injection hb with hb; simp only [World.size_alloc] at hb; omega
          have h7a : ∀ b, Blk (.slice A0 n0 c0) F2 b → (Value.slice A7 n7 c7).ownBlock ≠ some b := fun b hb e => by
            rcases hat with h | h
            · rw [h] at e; exact hax b hb e
            · rw [h] at e; injection e with e; simp only [World.size_alloc] at e; have := (Gx.blk b hb).2; omega
          have B8 := B7.put 1 (.slice A7 n7 c7)
          go_roundw
          case rel => exact ⟨l1 ++ [1000 + (n5 : Int)], _, B8, O7.kept (gb_put (gb_self w7 pb) 1 _) (.inr (fun e => h7p _ e rfl)), by rw [List.length_append, N5.out]; simp; omega, G7.off (b := pb) (i := 1) (fun hb => by
            rcases hb with hb | hb
            · have := hGlt _ (.inl hb); omega
            · have := hGlt _ (.inr hb); omega) _, h7a, h7p, curs_put C7 (by omega) _, R7.far (p := ⟨pb, 1, none⟩) (by show w.heap.size ≠ pb; omega) _, gb_far W7 (by omega) 1 _⟩
          case measure => rw [HM.out, tagsLeft_eq (B8.cell 1)]; have := N7.out; rw [List.length_append, N5.out] at this; simp at this; omega
        · have r0 := Rx.cell 0; have r1 := Rx.cell 1; have f0 := Rx.frozen 0; have f1 := Rx.frozen 1
          go_wp2
          have RR := (Rx.put 0 (.slice A0 n0 c0)).put 1 (.slice A5 n5 c5)
          have e0 := RR.cell 0; have e1 := RR.cell 1
          refine bodyPost_ret (v := .agg #[.slice A0 n0 c0, .slice A5 n5 c5]) (by simp [results, Try.results35, go_sem, e0, e1]) rfl ⟨_, _, (p.1, l1), rfl, plX_low (plX_put (plX_put (show PlX (w.heap.size + 1) _ _ _ (p.1, l1) from ⟨rowX_grow Gx (Nat.le_refl _), slX_own Ox (Nat.le_refl _)⟩) (Nat.lt_succ_self _) _) (Nat.lt_succ_self _) _) (Nat.le_succ _), ⟨by show p.1.length ≤ 13; omega, by show l1.length ≤ 60; rw [N5.out]; exact hlx, h80⟩, curs_put (curs_put Cx hgs _) hgs _, gb_far (gb_far Wx (Nat.le_refl _) 0 _) (Nat.le_refl _) 1 _⟩
end Go.Proofs.Ytblcfncjghkegaa
namespace Go.Proofs.Ytblcfncjghkegaa
set_option maxRecDepth 100000
set_option linter.unusedVariables false
set_option linter.unusedSimpArgs false
open Go.ChangeShapes Go.WideShapes Go.ChangeAt Go.RowKit
open Fld
theorem rowcells (w : World) (t : TypeId) (zs : List Int) : ∀ i, i < zs.length → (w.alloc (.cells (zs.map (Value.int .i64)).toArray t)).cell? ⟨w.heap.size, 0 + i, none⟩ = some (.int .i64 (zs.getD i 0)) := by
  intro i hi
  rw [(Box.new w t _).cell, Nat.zero_add, List.getElem?_toArray, List.getElem?_map, List.getElem?_eq_getElem hi, List.getD_eq_getElem?_getD, List.getElem?_eq_getElem hi]
  rfl
/-- The bounds of a drawn pool. -/
def PlLim (p : DPool) : Prop := p.1.length ≤ 13 ∧ p.2.length ≤ 60 ∧ ∀ a ∈ p.1, a.2.2.length ≤ 80
theorem PlLim.sz {p : DPool} (h : PlLim p) : szPool p ≤ 1048576 := by
  have key : ∀ l : List DHeld, (∀ x ∈ l, x.2.2.length ≤ 80) → rsz szHeld l ≤ 81 * l.length := by
    intro l
    induction l with
    | nil => intro _; simp [rsz, rsum]
    | cons a l ih =>
      intro hl
      have h1 := ih fun x hx => hl x (List.mem_cons_of_mem _ hx)
      have h2 := hl a List.mem_cons_self
      have h3 : szHeld a ≤ 80 := h2
      unfold rsz at h1 ⊢
      rw [rsum, List.length_cons]
      omega
  have h1 := key p.1 h.2.2
  have h2 := h.1; have h3 := h.2.1
  show rsz szHeld p.1 + p.2.length ≤ _
  omega
theorem plX_R {w : World} {K : Nat} {v0 v1 : Value} {p : DPool} (h : PlX K w v0 v1 p) : tPool.R w w.heap.size [v0, v1] p := makePool h.1.plain (xt_R h.2)
set_option maxHeartbeats 1000000 in
theorem d_Flush {w : World} {n c : Nat} {A : Option Addr} {l : List Int} (hl : Ints .u8 w w.heap.size A n l) (hn : n ≤ 140737488355328) :
    Calls Try.prog 22 #[.slice A n c] w fun e w' => ∃ v0 v1 p x vd d, e = .returned (.tuple #[.agg #[v0, v1], .int .i64 x, vd]) ∧ tPool.R w' w'.heap.size [v0, v1] p ∧ PlLim p ∧ (0 ≤ x ∧ x ≤ 13) ∧ Own .u8 5 w' w.heap.size vd d ∧ d.length ≤ 16 ∧ Below w.heap.size w w' := by
  have R0 : Box (w.alloc (.cells #[.slice none 0 0, .slice none 0 0] 26)) w.heap.size 26 #[.slice none 0 0, .slice none 0 0] := Box.new _ _ _
  have hl0 : Ints .u8 (w.alloc (.cells #[.slice none 0 0, .slice none 0 0] 26)) (w.alloc (.cells #[.slice none 0 0, .slice none 0 0] 26)).heap.size A n l := reach hl (show Below w.heap.size w (w.alloc (.cells #[.slice none 0 0, .slice none 0 0] 26)) from (belx))
  go_enter Try.func22, Try.ntmps22
  go_wp2_with fail
  refine (k_New hl0 hn).mono ?_
  rintro e w1 ⟨g, rfl, hg, hC1, hb1⟩
  have hB1 : Below w.heap.size w w1 := bel_trans (show Below w.heap.size w (w.alloc (.cells #[.slice none 0 0, .slice none 0 0] 26)) from (belx)) hb1
  simp only [World.size_alloc] at hg
  have hgw : w.heap.size ≤ g := by omega
  have z1 := hC1.size
  have hrg : some w.heap.size ≠ some g := fun e => by injection e with e; omega
  go_wp2_with fail
  refine (k_bent hC1).mono ?_
  rintro e w2 ⟨v0, v1, p, rfl, hX2, hS, hC2, hG2⟩
  obtain ⟨P0, m0, d0, q0, -⟩ := hX2.1.plain
  injection q0 with q0 _
  subst q0
  obtain ⟨P1, m1, d1, q1, -⟩ := xt_R hX2.2
  injection q1 with q1 _
  subst q1
  have hB2 := below_gb2 hB1 hgw hG2
  have z2 := hG2.size
  have R2 := (R0.below hb1 R0.size).grown hG2 hrg
  have hc : ∀ i, i < 6 → (w2.alloc (.cells #[.int .i64 (0), .int .i64 (1), .int .i64 (2), .int .i64 (3), .int .i64 (12), .int .i64 (13)] 3)).cell? ⟨w2.heap.size, 0 + i, none⟩ = some (.int .i64 (([0, 1, 2, 3, 12, 13] : List Int).getD i 0)) := rowcells w2 3 [0, 1, 2, 3, 12, 13]
  go_wp2_with fail
  refine (k_Pick (L := some ⟨w2.heap.size, 0, none⟩) (m := 6) (d := 6) (zs := [0, 1, 2, 3, 12, 13]) w2 (Curs.alloc hC2 _) (gb_alloc (gb_self w2 g) _) ⟨w2.heap.size, 0, rfl, by omega, by simp, hc⟩ (by omega) (by omega) rfl).mono ?_
  rintro e w3 ⟨x, rfl, hx, hC3, hG3⟩
  have hx2 : 0 ≤ x ∧ x ≤ 13 := by simp only [List.mem_cons, List.not_mem_nil, or_false] at hx; omega
  have R3 := R2.grown hG3 hrg
  have X3 := plX_at hX2 (Alike.grown hG3 z1 (Nat.le_refl _)) hG3.size
  have hB3 := below_gb2 hB2 hgw hG3
  have z3 := hG3.size
  go_wp2_with fail
  refine (k_someG 16 hC3 (by omega) (by omega)).mono ?_
  rintro e w4 ⟨vd, d, rfl, hO4, hd, hC4, hG4⟩
  have R4 := R3.grown hG4 hrg
  have X4 := plX_at X3 (Alike.grown hG4 z1 (Nat.le_refl _)) hG4.size
  have hB4 := below_gb2 hB3 hgw hG4
  have y0 := R4.cell 0; have y1 := R4.cell 1; have f0 := R4.frozen 0; have f1 := R4.frozen 1
  go_wp2
  have RR := (R4.put 0 (.slice P0 m0 d0)).put 1 (.slice P1 m1 d1)
  have e0 := RR.cell 0; have e1 := RR.cell 1
  refine bodyPost_ret (v := .tuple #[.agg #[.slice P0 m0 d0, .slice P1 m1 d1], .int .i64 x, vd]) (by simp [results, Try.results22, go_sem, e0, e1]) rfl ⟨_, _, p, _, _, d, rfl, plX_R (plX_put (plX_put X4 (by omega) _) (by omega) _), hS, hx2, (own_off (g := w.heap.size) (own_off (g := w.heap.size) hO4 (by omega) 0 _) (by omega) 1 _).lower (by omega), by omega, ?_⟩
  exact bel_put (bel_put hB4 (p := ⟨w.heap.size, 0, none⟩) (Nat.le_refl _) _) (p := ⟨w.heap.size, 1, none⟩) (Nat.le_refl _) _
end Go.Proofs.Ytblcfncjghkegaa
namespace Go.Proofs.Ytblcfncjghkegaa
set_option maxRecDepth 100000
open Go.ChangeShapes Go.WideShapes Go.ChangeAt Go.RowKit
open Fld
attribute [local go_sem ↓] Go.wp_at_zero Go.wp_at_succ

theorem i_grow0 (w : World) : Calls Try.prog 94 #[.slice none 0 0, .int .i64 0] w fun e w' => e = .returned (.slice none 0 0) ∧ w = w' := by
  go_enter Try.func94, Try.ntmps94
  go_wp2
  go_ret
  exact ⟨rfl, rfl⟩
theorem i_grow (w : World) (k : Int) (hk : 0 < k) (hk2 : k ≤ 1000000) :
    Calls Try.prog 94 #[.slice none 0 0, .int .i64 k] w fun e w' => ∃ v, e = .returned v ∧ Own .u8 5 w' w.heap.size v [] ∧ Below w.heap.size w w' := by
  obtain ⟨n, rfl⟩ := Int.eq_ofNat_of_zero_le (show 0 ≤ k by omega)
  have hn : 0 < n := by omega
  have hn2 : n ≤ 1000000 := by omega
  clear hk hk2
  obtain ⟨i0, hi0, hz0, hz1, hz2⟩ := info_parts info_by
  have hrz : ∀ ty, (Builtin.append_ #[22, 3] ty #[.slice none 0 0, .int .i64 n]).run Try.prog w =
      .ok (.slice (some ⟨w.heap.size, 0, none⟩) n (grownCap w n 0 5)) (w.drew.alloc (.cells (#[] ++ Builtin.zeroCells #[.int .u8 0] n ++ Builtin.zeroCells #[.int .u8 0] (grownCap w n 0 5 - n)) 5)) := fun ty => by
    have h := Lib.run_append_grow_zeros (P := Try.prog) w 22 3 ty 5 i0 _ .i64 .i64 Try.underlying22 Try.underlying3 hi0 hz0 none 0 0 [] (run_firstCells_none w.drew i0.size 0 0 0) n hn (by omega) (by omega) (by omega)
      (by rw [hz2]; omega) (growslice_fits (bytes := i0.bytes) (by omega) (by rw [hz2]; omega))
    simpa [Value.cells] using h
  have hGn : n ≤ grownCap w n 0 5 := grownCap_ge w _ _ _
  have hGm : grownCap w n 0 5 ≤ maxLen := grownCap_le_maxLen w n 0 5 (by unfold maxLen; omega)
  obtain ⟨G, hG⟩ : ∃ G, grownCap w n 0 5 = G := ⟨_, rfl⟩
  rw [hG] at hrz hGn hGm
  clear hG
  have hG63 : G ≤ 9223372036854775807 := hGm
  go_enter Try.func94, Try.ntmps94
  go_wp2_with (at_builtin; refine Lib.wpList_append_run _ rfl _ _ _ _ rfl _ _ rfl rfl _ _ (hrz _) ?_)
  go_ret
  refine ⟨_, rfl, Own.of (n := 0) ⟨rfl, .inr ⟨w.heap.size, G, _, rfl, Nat.le_refl _, heap_alloc_new w.drew _, Nat.zero_le _, hGm, ?_, rfl⟩⟩ (by simp), (belx)⟩
  simp [Builtin.zeroCells]
  omega
theorem i_concat {w : World} {g n c m d : Nat} {A A' : Option Addr} {l r : List Int} (hb : Box w g 22 #[.slice A n c, .slice A' m d]) (hl : Ints .u8 w w.heap.size A n l) (hr : Ints .u8 w w.heap.size A' m r) (hn : n ≤ 1000) (hm : m ≤ 1000) :
    Calls Try.prog 63 #[.slice (some ⟨g, 0, none⟩) 2 2] w fun e w' => ∃ v, e = .returned v ∧ Own .u8 5 w' w.heap.size v (l ++ r) ∧ Below w.heap.size w w' := by
  obtain ⟨i0, hi0, hz0, hz1, hz2⟩ := info_parts info_by
  have c0 : w.cell? ⟨g, 0, none⟩ = some (.slice A n c) := hb.cell 0
  have c1 : w.cell? ⟨g, 1, none⟩ = some (.slice A' m d) := hb.cell 1
  have hgs := hb.size
  have z0 : (0 : Int) ≤ (n : Int) := by omega
  have z1 : (0 : Int) ≤ (n : Int) + (m : Int) := by omega
  have z2 : ¬ (n : Int) < 0 := by omega
  have z3 : ¬ (n : Int) + (m : Int) < 0 := by omega
  have hgrow : ∀ W : World, Calls Try.prog 94 #[.slice none 0 0, .int .i64 ((n : Int) + (m : Int))] W fun e w' => ∃ v, e = .returned v ∧ Own .u8 5 w' W.heap.size v [] ∧ Below W.heap.size W w' := fun W => by
    by_cases h : (0 : Int) < (n : Int) + (m : Int)
    · exact i_grow W _ h (by omega)
    · rw [show (n : Int) + (m : Int) = 0 by omega]
      exact (i_grow0 W).mono fun e w' hh => ⟨_, hh.1, by rw [← hh.2]; exact Own.nil _ _ _ _, by rw [← hh.2]; exact Below.refl _ _⟩
  have HG := Lib.hid hgrow
  clear hgrow
  go_enter Try.func63, Try.ntmps63
  go_wp2_with fail
  refine wp_loop_rounds 3 ?_
  rw [rounds_succ]
  go_wp2_with fail
  rw [rounds_succ]
  go_wp2_with fail
  rw [rounds_succ]
  go_wp2_with fail
  refine (HG.out _).mono ?_
  rintro e w1 ⟨v1, rfl, hO1, hB1⟩
  have hb1 := hb.below hB1 hgs
  have e0 : w1.cell? ⟨g, 0, none⟩ = some (.slice A n c) := hb1.cell 0
  obtain ⟨A1, d1, rfl, _⟩ := hO1.ints
  have hl1 := hl.below hB1
  have hr1 := hr.below hB1
  have hs1 := hB1.size
  go_wp2_with fail
  refine wp_loop_rounds 3 ?_
  rw [rounds_succ]
  go_wp2_with (at_builtin; refine wpList_app _ rfl (.tmp 31) (.tmp 32) _ rfl w.heap.size 5 i0 _ 1 1 Try.underlying22 hi0 hz0 hz1 hz2 rfl (by omega) (.slice A1 0 d1) 0 [] rfl hO1.1 A n c (l.map (Value.int .u8)) rfl (Src.of_ints hl1) (one_ints _ _) (by simp only [maxLen]; omega) (by omega) hs1 ?_; intro v2 w2 hown2 hg2 hat2)
  have hO2 : Own .u8 5 w2 w.heap.size v2 l := Own.of (n := n) (by simpa using hown2) hl.2.2
  have hB2 : Below w.heap.size w w2 := hB1.grown hg2 hs1 fun b hb => (hO1.block hb).1
  have hr2 := hr.below hB2
  have hb2 := hb.below hB2 hgs
  have e1 : w2.cell? ⟨g, 1, none⟩ = some (.slice A' m d) := hb2.cell 1
  have hL := hl.1
  obtain ⟨A2, d2, rfl, _⟩ := hO2.ints
  have hs2 := hB2.size
  rw [rounds_succ]
  go_wp2_with (at_builtin; refine wpList_app _ rfl (.tmp 31) (.tmp 32) _ rfl w.heap.size 5 i0 _ 1 1 Try.underlying22 hi0 hz0 hz1 hz2 rfl (by omega) (.slice A2 l.length d2) l.length (l.map (Value.int .u8)) rfl hO2.1 A' m d (r.map (Value.int .u8)) rfl (Src.of_ints hr2) (one_ints _ _) (by simp only [maxLen]; omega) (by omega) hs2 ?_; intro v3 w3 hown3 hg3 hat3)
  have hO3 : Own .u8 5 w3 w.heap.size v3 (l ++ r) := own_app (by rw [hr.1]; exact hown3) hl.bytes hr.bytes
  have hB3 : Below w.heap.size w w3 := hB2.grown hg3 hs2 fun b hb => (hO2.block hb).1
  rw [rounds_succ]
  go_wp2
  go_ret
  exact ⟨_, rfl, hO3, hB3⟩
theorem i_padded {w : World} {n c m d : Nat} {A A' : Option Addr} {l pad : List Int} (hl : Ints .u8 w w.heap.size A n l) (hp : Ints .u8 w w.heap.size A' m pad) (hn : n ≤ 80) (hm : 80 ≤ m) (hmd : m ≤ d) (hd : d ≤ 9223372036854775807) :
    Calls Try.prog 89 #[.slice A n c, .slice A' m d] w fun e w' => ∃ v, e = .returned (.agg #[v]) ∧ Own .u8 5 w' w.heap.size v (padL l pad) ∧ Below w.heap.size w w' := by
  have q1 : (0 : Int) ≤ 80 - (n : Int) := by omega
  have q2 : 80 - (n : Int) ≤ (d : Int) := by omega
  obtain ⟨b, off, rfl, hb, _⟩ := hp.2.1 (by omega)
  go_enter Try.func89, Try.ntmps89
  go_wp2_with fail
  refine (i_concat (g := w.heap.size + 1) (by have := Box.new (w.alloc (.cells #[.slice none 0 0] 28)) 22 #[.slice A n c, .slice (some ⟨b, off, none⟩) (80 - n) d]; simpa using this) (reach hl (belx)) (reach (hp.head (80 - n) (by omega)) (belx)) (by omega) (by omega)).mono ?_
  rintro e w1 ⟨v, rfl, hO, hB⟩
  have hE := Lib.hid (show l ++ pad.take (80 - n) = padL l pad by unfold padL; rw [hl.1])
  rw [hE.out] at hO
  have b1 : Box w1 w.heap.size 28 #[.slice none 0 0] := ((Box.new w _ _).alloc _).below hB (by simp; omega)
  have c1 := b1.cell 0; have f1 := b1.frozen 0
  obtain ⟨A1, d1, rfl, _⟩ := hO.ints
  have e := (b1.put 0 (.slice A1 (padL l pad).length d1)).cell 0
  go_wp2
  refine bodyPost_ret (v := .agg #[.slice A1 (padL l pad).length d1]) (by simp [results, Try.results89, go_sem, e]) rfl ⟨_, rfl, ?_, bel_put (bel_trans (belx) hB) (Nat.le_refl _) _⟩
  exact (hO.far (by simp; omega) 0 _).lower (by simp; omega)
theorem i_Dummy {w : World} {n c : Nat} {A : Option Addr} {pad : List Int} (hp : Ints .u8 w w.heap.size A n pad) (hnc : n ≤ c) (hc : c ≤ 9223372036854775807) :
    Calls Try.prog 44 #[.slice A n c] w fun e w' => ∃ v, e = .returned (.tuple #[.agg #[v], .bool (fdum pad).2]) ∧ Own .u8 5 w' w.heap.size v (fdum pad).1 ∧ Below w.heap.size w w' := by
  have hlen := hp.1
  by_cases h : 80 ≤ n
  · have H := Lib.hid (show fdum pad = (padL [] pad, true) from if_pos (by omega))
    have d : ¬ (n : Int) < 80 := by omega
    clear hlen
    rw [H.out]
    go_enter Try.func44, Try.ntmps44
    go_wp2_with fail
    refine (i_padded Ints.nil (reach hp (belx)) (by omega) h hnc hc).mono ?_
    rintro e w1 ⟨v, rfl, hO, hB⟩
    have b1 : Box w1 w.heap.size 28 #[.slice none 0 0] := (Box.new w _ _).below hB (by simp)
    have c1 := b1.cell 0; have f1 := b1.frozen 0
    obtain ⟨A1, d1, rfl, _⟩ := hO.ints
    have e := (b1.put 0 (.slice A1 (padL [] pad).length d1)).cell 0
    go_wp2
    refine bodyPost_ret (v := .tuple #[.agg #[.slice A1 (padL [] pad).length d1], .bool true]) (by simp [results, Try.results44, go_sem, e]) rfl ⟨_, rfl, ?_, bel_put (bel_trans (belx) hB) (Nat.le_refl _) _⟩
    exact (hO.far (by simp) 0 _).lower (by simp)
  · have H := Lib.hid (show fdum pad = ([], false) from if_neg (by omega))
    have d : (n : Int) < 80 := by omega
    clear hlen
    rw [H.out]
    go_enter Try.func44, Try.ntmps44
    go_wp2
    have b1 : Box (w.alloc (.cells #[.slice none 0 0] 28)) w.heap.size 28 #[.slice none 0 0] := Box.new w _ _
    have e := b1.cell 0
    refine bodyPost_ret (v := .tuple #[.agg #[.slice none 0 0], .bool false]) (by simp [results, Try.results44, go_sem, e]) rfl ⟨_, rfl, Own.nil _ _ _ _, (belx)⟩
end Go.Proofs.Ytblcfncjghkegaa
