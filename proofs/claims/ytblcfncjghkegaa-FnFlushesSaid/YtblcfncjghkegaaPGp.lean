/-
  DrawFiv, ImplOrd: texts joined.
-/
import Derived.Test.YtblcfncjghkegaaPGc
import Derived.Test.YtblcfncjghkegaaPGk
import Derived.Test.YtblcfncjghkegaaPGl
import Derived.Test.YtblcfncjghkegaaPGm
import Derived.BigRegion
import Derived.Deep.DeepCutAuto
import Derived.RegionTactic
namespace Go.Proofs.Ytblcfncjghkegaa
set_option maxRecDepth 100000
set_option linter.unusedVariables false
set_option linter.unusedSimpArgs false
open Go.ChangeShapes Go.WideShapes Go.ChangeAt Go.RowKit
open Fld
theorem curs_put {w : World} {g n c b i : Nat} {A : Option Addr} {l : List Int} (h : Curs w g A n c l) (hb : g < b) (u : Value) : Curs (w.setCell ⟨b, i, none⟩ u) g A n c l :=
  h.below (B := g + 1) ((Below.refl _ _).setCell (by show g + 1 ≤ b; omega) _) (by omega)
theorem gb_far {a w : World} {g b : Nat} (h : a.grownBy w (some g)) (hb : a.heap.size ≤ b) (i : Nat) (u : Value) : a.grownBy (w.setCell ⟨b, i, none⟩ u) (some g) :=
  gb_over h (gb_put (gb_self w b) i u) (fun r hr => by injection hr with hr; omega)
theorem own_off {K : IntKind} {e : TypeId} {w : World} {base g : Nat} {v : Value} {l : List Int} (h : Own K e w base v l) (hg : g < base) (i : Nat) (u : Value) : Own K e (w.setCell ⟨g, i, none⟩ u) base v l :=
  h.kept (gb_put (gb_self w g) i u) (.inr (fun e => by have := (h.block e).1; omega))
set_option maxHeartbeats 2000000 in
theorem k_held {w : World} {g n c : Nat} {A : Option Addr} {l : List Int} (h : Curs w g A n c l) :
    Calls Try.prog 36 #[.pointer (some ⟨g, 0, none⟩)] w fun e w' => ∃ ch hd, e = .returned (.agg ch.toArray) ∧ (XT w.heap.size tHeld).R w' w'.heap.size ch hd ∧ hd.2.2.length = 80 ∧ (0 ≤ hd.1 ∧ hd.1 < 8) ∧ (0 ≤ hd.2.1 ∧ hd.2.1 < 30) ∧ Curs w' g A n c l ∧ w.grownBy w' (some g) := by
  have hgs := h.size
  have hC0 : Curs (w.alloc (.cells #[.int .i64 0, .int .i64 0, .slice none 0 0] 30)) g A n c l := h.alloc _
  have hG0 : w.grownBy (w.alloc (.cells #[.int .i64 0, .int .i64 0, .slice none 0 0] 30)) (some g) := gb_alloc (gb_self w g) _
  have B0 : Box (w.alloc (.cells #[.int .i64 0, .int .i64 0, .slice none 0 0] 30)) w.heap.size 30 #[.int .i64 0, .int .i64 0, .slice none 0 0] := Box.new _ _ _
  have hne : some w.heap.size ≠ some g := fun e => by injection e with e; omega
  go_enter Try.func36, Try.ntmps36
  go_wp2_with fail
  refine (k_Below (w.alloc (.cells #[.int .i64 0, .int .i64 0, .slice none 0 0] 30)) 8 hC0 (gb_self _ g) (by omega) (by omega)).mono ?_
  rintro e w1 ⟨x, rfl, hx0, hx1, hC1, hG1⟩
  go_wp2_with fail
  refine (k_Below (w.alloc (.cells #[.int .i64 0, .int .i64 0, .slice none 0 0] 30)) 30 hC1 hG1 (by omega) (by omega)).mono ?_
  rintro e w2 ⟨y, rfl, hy0, hy1, hC2, hG2⟩
  go_wp2_with fail
  refine (k_pad3 hC2).mono ?_
  rintro e w3 ⟨vd, pd, rfl, hO3, hp3, hC3, hG3⟩
  have B3 := Box.grown (Box.grown B0 hG2 hne) hG3 hne
  have hGw := gb_trans (gb_trans hG0 hG2) hG3
  have z2 := hG2.size
  have z3 := hG3.size
  simp only [World.size_alloc] at z2
  obtain ⟨A3, c3, rfl, -, hI3, -⟩ := hO3.ints
  rw [hp3] at hI3
  have HP3 := Lib.hid hp3
  rw [hp3]
  clear hp3
  go_wp2_with fail
  refine (s_fill (c := 0) Ints.nil hI3 (by omega) (by omega) (by omega)).mono ?_
  rintro e w4 ⟨v4, rfl, hO4, hb4⟩
  have hl4 : (padL [] pd).length = 80 := padL_len (by simp) (by rw [HP3.out]; exact Nat.le_refl _)
  obtain ⟨l4, h4⟩ : ∃ l4, padL [] pd = l4 := ⟨_, rfl⟩
  rw [h4] at hO4 hl4
  obtain ⟨A4, c4, rfl, -, -, -⟩ := hO4.ints
  rw [hl4] at hO4 ⊢
  have HL4 := Lib.hid hl4
  clear h4 hl4
  have B4 := B3.below hb4 B3.size
  have hC4 := hC3.below hb4 hC3.size
  have hG4 := gb_trans hGw (below_grownBy hb4)
  have y0 := B4.cell 0; have y1 := B4.cell 1; have y2 := B4.cell 2; have f0 := B4.frozen 0; have f1 := B4.frozen 1; have f2 := B4.frozen 2
  go_wp2
  have RR := ((B4.put 0 (.int .i64 x)).put 1 (.int .i64 y)).put 2 (.slice A4 80 c4)
  have e0 := RR.cell 0; have e1 := RR.cell 1; have e2 := RR.cell 2
  have hO5 := own_off (g := w.heap.size) (own_off (g := w.heap.size) (own_off (g := w.heap.size) hO4 (by omega) 0 (.int .i64 x)) (by omega) 1 (.int .i64 y)) (by omega) 2 (.slice A4 80 c4)
  have hX := slX_own (g := w.heap.size) hO5 (by omega)
  have wx : (Lit.int .i64 x).wf = true := WalkArith.wf_i64 ⟨by omega, by omega⟩
  have wy : (Lit.int .i64 y).wf = true := WalkArith.wf_i64 ⟨by omega, by omega⟩
  refine bodyPost_ret (v := .agg #[.int .i64 x, .int .i64 y, .slice A4 80 c4]) (by simp [results, Try.results36, go_sem, e0, e1, e2]) rfl ⟨_, (x, y, l4), rfl, fun w' ha => makeHeld (p := (x, y, l4)) wx wy (hX w' ha), HL4.out, ⟨hx0, hx1⟩, ⟨hy0, hy1⟩, curs_put (curs_put (curs_put hC4 hgs _) hgs _) hgs _, gb_far (gb_far (gb_far hG4 (Nat.le_refl _) 0 _) (Nat.le_refl _) 1 _) (Nat.le_refl _) 2 _⟩
theorem admP_ok {p : DPool} {hd : DHeld} {t : Int} (h : PlOk p) (hh : HdOk hd) (ht : Ok t) : PlOk (admP p hd t) := by
  unfold admP
  split
  · exact h
  · rename_i hn
    have h12 : ¬ p.1.length = 12 := fun e => hn (.inl e)
    have hr : recN p.2 t = 0 := Classical.byContradiction fun e => hn (.inr e)
    have hm : t ∉ p.2 := fun e => by rw [recN_seen e] at hr; omega
    have h60 : ¬ p.2.length = 60 := fun e => by rw [recN_full hm e] at hr; omega
    obtain ⟨⟨a1, a2⟩, a3, a4, a5⟩ := h
    refine ⟨⟨by show (p.1 ++ [hd]).length ≤ 12; rw [List.length_append]; simp; omega, by show (p.2 ++ [t]).length ≤ 60; rw [List.length_append]; simp; omega⟩, fun x hx => ?_, fun x hx => ?_, ?_⟩
    · rcases List.mem_append.1 hx with h' | h'
      · exact a3 x h'
      · rw [List.mem_singleton.1 h']; exact hh
    · rcases List.mem_append.1 hx with h' | h'
      · exact a4 x h'
      · rw [List.mem_singleton.1 h']; exact ht
    · show (p.2 ++ [t]).Nodup
      exact List.nodup_append.2 ⟨a5, by simp, fun x hx y hy e => by rw [List.mem_singleton.1 hy] at e; exact hm (e ▸ hx)⟩
theorem admP_len (p : DPool) (hd : DHeld) (t : Int) : (admP p hd t).2.length ≤ p.2.length + 1 := by
  unfold admP
  split
  · omega
  · simp
theorem plOk_sz {p : DPool} (h : PlOk p) : szPool p ≤ 1048576 := by
  have key : ∀ l : List DHeld, (∀ x ∈ l, HdOk x) → rsz szHeld l ≤ 81 * l.length := by
    intro l
    induction l with
    | nil => intro _; simp [rsz, rsum]
    | cons a l ih =>
      intro hl
      have h1 := ih fun x hx => hl x (List.mem_cons_of_mem _ hx)
      have h2 : a.2.2.length = 80 := (hl a List.mem_cons_self).2.2.2.2
      have h3 : szHeld a = 80 := h2
      unfold rsz at h1 ⊢
      rw [rsum, List.length_cons, h3]
      omega
  have h1 := key p.1 h.2.1
  have h2 := h.1
  show rsz szHeld p.1 + p.2.length ≤ _
  omega
theorem plZ_ok : PlOk plZ := by decide
theorem plX_at {w w' : World} {K : Nat} {v0 v1 : Value} {p : DPool} (h : PlX K w v0 v1 p) (ha : Alike K w.heap.size w w') (hs : w.heap.size ≤ w'.heap.size) : PlX K w' v0 v1 p := ⟨h.1.at ha hs, xt_at h.2 ha hs⟩
theorem plX_put {w : World} {K b i : Nat} {v0 v1 : Value} {p : DPool} (h : PlX K w v0 v1 p) (hb : b < K) (u : Value) : PlX K (w.setCell ⟨b, i, none⟩ u) v0 v1 p := plX_at h (Alike.put w hb u) (by simp [World.setCell])
set_option maxHeartbeats 4000000 in
theorem k_pool {w : World} {g n c : Nat} {A : Option Addr} {l : List Int} (h : Curs w g A n c l) :
    Calls Try.prog 74 #[.pointer (some ⟨g, 0, none⟩)] w fun e w' => ∃ A0 c0 A1 c1 p F2, e = .returned (.agg #[.slice A0 (p : DPool).1.length c0, .slice A1 p.2.length c1]) ∧ GrowO tHeld 30 w' w.heap.size (.slice A0 p.1.length c0) p.1 F2 ∧ (∀ b, Blk (.slice A0 p.1.length c0) F2 b → (Value.slice A1 p.2.length c1).ownBlock ≠ some b) ∧ Own .i64 3 w' w.heap.size (.slice A1 p.2.length c1) p.2 ∧ PlOk p ∧ p.2.length ≤ 12 ∧ Curs w' g A n c l ∧ w.grownBy w' (some g) := by
  have hgs := h.size
  have hC1 : Curs ((w.alloc (.cells #[.slice none 0 0, .slice none 0 0] 26)).alloc (.cells #[.slice none 0 0, .slice none 0 0] 26)) g A n c l := (h.alloc _).alloc _
  have hG1 : w.grownBy ((w.alloc (.cells #[.slice none 0 0, .slice none 0 0] 26)).alloc (.cells #[.slice none 0 0, .slice none 0 0] 26)) (some g) := gb_alloc (gb_alloc (gb_self w g) _) _
  have R1 : Box ((w.alloc (.cells #[.slice none 0 0, .slice none 0 0] 26)).alloc (.cells #[.slice none 0 0, .slice none 0 0] 26)) w.heap.size 26 #[.slice none 0 0, .slice none 0 0] := (Box.new _ _ _).alloc _
  have B1 : Box ((w.alloc (.cells #[.slice none 0 0, .slice none 0 0] 26)).alloc (.cells #[.slice none 0 0, .slice none 0 0] 26)) (w.heap.size + 1) 26 #[.slice none 0 0, .slice none 0 0] := by simpa using Box.new (w.alloc (.cells #[.slice none 0 0, .slice none 0 0] 26)) 26 #[.slice none 0 0, .slice none 0 0]
  have hrg : some w.heap.size ≠ some g := fun e => by injection e with e; omega
  have hpg : some (w.heap.size + 1) ≠ some g := fun e => by injection e with e; omega
  go_enter Try.func74, Try.ntmps74
  go_wp2_with fail
  have hc7 : ∀ i, i < 7 → (((w.alloc (.cells #[.slice none 0 0, .slice none 0 0] 26)).alloc (.cells #[.slice none 0 0, .slice none 0 0] 26)).alloc (.cells #[.int .i64 0, .int .i64 1, .int .i64 2, .int .i64 3, .int .i64 4, .int .i64 6, .int .i64 12] 3)).cell? ⟨w.heap.size + 1 + 1, 0 + i, none⟩ = some (.int .i64 ([0, 1, 2, 3, 4, 6, 12].getD i 0)) := by
    have h := seven_cells ((w.alloc (.cells #[.slice none 0 0, .slice none 0 0] 26)).alloc (.cells #[.slice none 0 0, .slice none 0 0] 26)) 3 0 1 2 3 4 6 12
    simp only [World.size_alloc] at h
    exact h
  refine (k_Pick ((w.alloc (.cells #[.slice none 0 0, .slice none 0 0] 26)).alloc (.cells #[.slice none 0 0, .slice none 0 0] 26)) (Curs.alloc hC1 _) (gb_alloc (gb_self _ g) _) ⟨w.heap.size + 1 + 1, 0, rfl, by omega, by simp, hc7⟩ (by omega) (by omega) rfl).mono ?_
  rintro e w2 ⟨y, rfl, hy, hC2, hG2⟩
  obtain ⟨N, rfl⟩ : ∃ N : Nat, y = (N : Int) := ⟨y.toNat, by simp only [List.mem_cons, List.not_mem_nil, or_false] at hy; omega⟩
  have hN : N ≤ 12 := by simp only [List.mem_cons, List.not_mem_nil, or_false] at hy; omega
  have R2 := R1.grown hG2 hrg
  have B2 := B1.grown hG2 hpg
  have hGw := gb_trans hG1 hG2
  clear hy hC1 hG1 R1 B1 hG2
  go_wp2_with fail
  go_loopw [5] (fun i wr => ∃ (k : Nat) (p : DPool) (v0 v1 : Value), k ≤ N ∧ i = .int .i64 k ∧ Box wr (w.heap.size + 1) 26 #[v0, v1] ∧ PlX (w.heap.size + 2) wr v0 v1 p ∧ PlOk p ∧ p.2.length ≤ k ∧ Curs wr g A n c l ∧ Box wr w.heap.size 26 #[.slice none 0 0, .slice none 0 0] ∧ w.grownBy wr (some g)) (fun i _ => N - (intOf i).toNat)
  case atStart => exact ⟨0, plZ, _, _, by omega, rfl, B2, ⟨RowX.nil _ _ _, slX_nil _ _⟩, plZ_ok, Nat.le_refl _, hC2, R2, hGw⟩
  case round =>
    obtain ⟨k, p, v0, v1, hk, rfl, Bp, hX, hok, hpk, hC, Br, hG⟩ := hrel
    have zr : w.heap.size + 2 ≤ wr.heap.size := by have := Bp.size; omega
    have hgr : g < wr.heap.size := by omega
    obtain ⟨A0, n0, c0, e0, -⟩ := hX.1.plain
    injection e0 with e0 _
    subst e0
    obtain ⟨A1, n1, c1, e1, -⟩ := xt_R hX.2
    injection e1 with e1 _
    subst e1
    have yr0 := Bp.cell 0; have yr1 := Bp.cell 1
    by_cases hlt : k < N
    · go_wp2_with fail
      refine wp_region_held_drew (S := (fun _ => True)) (by kernel_rfl) (by trivial) (fun hHeld => ?_)
      refine wpAnyH_take (i := 1) (oi := ⟨some 16, _, _, _, _, _⟩) (v := ?v1) rfl (by kernel_rfl) (by kernel_rfl) (by kernel_rfl) (fun _ _ _ h => h) (Or.inl ⟨by rfl, ?hy1⟩) (by assumption) ?_
      case hy1 => (intro w hSw; (try dsimp only at hSw); go_simp; try (with_reducible rfl))
      (try simp only [Act.put, qa_, qb_, qc_])
      refine wpAnyH_take (i := 3) (oi := ⟨some 18, _, _, _, _, _⟩) (v := ?v2) rfl (by kernel_rfl) (by kernel_rfl) (by kernel_rfl) (fun _ _ _ h => h) (Or.inl ⟨by rfl, ?hy2⟩) (by assumption) ?_
      case hy2 => (intro w hSw; (try dsimp only at hSw); go_simp; try (with_reducible rfl))
      (try simp only [Act.put, qa_, qb_, qc_])
      refine wpAnyH_ready (rs := [0, 2]) (by kernel_rfl) (by simp) ?_
      refine AllReadyH.cons rfl (fun K hK => ?_) ?_
      · go_simp
        refine hK.out _ _ (by trivial) (fun hHeld => ?_)
        clear hK K
        (try simp only [Act.put, qa_, qb_, qc_])
        refine wpAnyH_ready (rs := [2]) (by kernel_rfl) (by simp) ?_
        refine AllReadyH.cons rfl (fun K hK => ?_) ?_
        · go_simp
          go_at_call 36
          refine (k_held (show Curs wr.drew g A n c l from hC)).mono ?_
          rintro e w3 ⟨ch, hd, rfl, hH3, hh80, hh0, hh1, hC3, hG3⟩
          obtain ⟨AH, nH, cH, rfl, -⟩ := openHeld (xt_R hH3)
          have hG3 : wr.grownBy w3 (some g) := gb_trans (gb_drew (gb_self wr g)) hG3
          have B3 := Bp.grown hG3 hpg
          have R3 := Br.grown hG3 hrg
          have X3 : PlX (w.heap.size + 2) w3 _ _ p := plX_at hX (Alike.grown hG3 (by omega) (Nat.le_refl _)) hG3.size
          have hH3 : (XT (w.heap.size + 2) tHeld).R w3 w3.heap.size _ hd := xt_low hH3 (by show _ ≤ wr.heap.size; omega)
          have y30 := B3.cell 0; have y31 := B3.cell 1
          have z3 := hG3.size
          go_wp2_with fail
          refine hK.out _ _ (by trivial) (fun hHeld => ?_)
          clear hK K
          (try simp only [Act.put, qa_, qb_, qc_])
          refine wpAnyH_ready (rs := [4]) (by kernel_rfl) (by simp) ?_
          refine AllReadyH.cons rfl (fun K hK => ?_) ?_
          · go_simp
            go_at_call 38
            refine (k_Below w3 40 hC3 (gb_self w3 g) (by omega) (by omega)).mono ?_
            rintro e w4 ⟨t, rfl, ht0, ht1, hC4, hG4⟩
            have z4 := hG4.size
            have B4 := B3.grown hG4 hpg
            have R4 := R3.grown hG4 hrg
            have X4 : PlX (w.heap.size + 2) w4 _ _ p := plX_at X3 (Alike.grown hG4 (by omega) (Nat.le_refl _)) hG4.size
            have H4 := xt_at hH3 (Alike.grown hG4 (by omega) (Nat.le_refl _)) hG4.size
            have y40 := B4.cell 0; have y41 := B4.cell 1
            go_wp2_with fail
            refine hK.out _ _ (by trivial) (fun hHeld => ?_)
            clear hK K
            (try simp only [Act.put, qa_, qb_, qc_])
            refine wpAnyH_ready (rs := [5]) (by kernel_rfl) (by simp) ?_
            refine AllReadyH.cons rfl (fun K hK => ?_) ?_
            · go_simp
              go_at_call 100
              refine (s_admitX X4 H4 (by omega) hok.1.1 hok.1.2 (WalkArith.wf_i64 ⟨by omega, by omega⟩)).mono ?_
              rintro e w5 ⟨u0, u1, rfl, X5, hb5⟩
              obtain ⟨A50, n50, c50, e50, -⟩ := X5.1.plain
              injection e50 with e50 _
              subst e50
              obtain ⟨A51, n51, c51, e51, -⟩ := xt_R X5.2
              injection e51 with e51 _
              subst e51
              have B5 := B4.below hb5 B4.size
              have R5 := R4.below hb5 R4.size
              have hC5 := hC4.below hb5 hC4.size
              have z5 := hb5.size
              have y50 := B5.cell 0; have y51 := B5.cell 1; have f50 := B5.frozen 0; have f51 := B5.frozen 1
              have hok5 := admP_ok (hd := hd) (t := t) hok ⟨hh0.1, hh0.2, by omega, by omega, hh80⟩ ⟨by omega, by omega⟩
              have hle5 := admP_len p hd t
              have hG5 := gb_trans (gb_trans (gb_trans hG hG3) hG4) (below_grownBy hb5)
              go_wp2_with fail
              refine hK.out _ _ (by trivial) (fun hHeld => ?_)
              clear hK K
              (try simp only [Act.put, qa_, qb_, qc_])
              refine wpAnyH_take (i := 6) (oi := ⟨some 14, _, _, _, _, _⟩) (v := ?v3) rfl (by kernel_rfl) (by kernel_rfl) (by kernel_rfl) (fun _ _ _ h => h) (Or.inl ⟨by rfl, ?hy3⟩) (by assumption) ?_
              case hy3 => (intro w hSw; (try dsimp only at hSw); go_simp; try (with_reducible rfl))
              (try simp only [Act.put, qa_, qb_, qc_])
              refine wpAnyH_take (i := 7) (oi := ⟨some 21, _, _, _, _, _⟩) (v := ?v4) rfl (by kernel_rfl) (by kernel_rfl) (by kernel_rfl) (fun _ _ _ h => h) (Or.inl ⟨by rfl, ?hy4⟩) (by assumption) ?_
              case hy4 => (intro w hSw; (try dsimp only at hSw); go_simp; try (with_reducible rfl))
              (try simp only [Act.put, qa_, qb_, qc_])
              refine wpAnyH_take (i := 8) (oi := ⟨some 22, _, _, _, _, _⟩) (v := ?v5) rfl (by kernel_rfl) (by kernel_rfl) (by kernel_rfl) (fun _ _ _ h => h) (Or.inl ⟨by rfl, ?hy5⟩) (by assumption) ?_
              case hy5 => (intro w hSw; (try dsimp only at hSw); go_simp; try (with_reducible rfl))
              (try simp only [Act.put, qa_, qb_, qc_])
              refine wpAnyH_ready (rs := [9]) (by kernel_rfl) (by simp) ?_
              refine AllReadyH.cons rfl (fun K hK => ?_) ?_
              · go_simp
                refine hK.out _ _ (by trivial) (fun hHeld => ?_)
                clear hK K
                (try simp only [Act.put, qa_, qb_, qc_])
                refine wpAnyH_done (by kernel_rfl) ?_ _
                go_wp2
                go_roundw
                case rel => exact ⟨k + 1, admP p hd t, _, _, by omega, by go_num, (B5.put 0 (.slice A50 n50 c50)).put 1 (.slice A51 n51 c51), plX_put (plX_put X5 (by omega) _) (by omega) _, hok5, by omega, curs_put (curs_put hC5 (by omega) _) (by omega) _, (R5.far (p := ⟨w.heap.size + 1, 0, none⟩) (by show w.heap.size ≠ w.heap.size + 1; omega) _).far (p := ⟨w.heap.size + 1, 1, none⟩) (by show w.heap.size ≠ w.heap.size + 1; omega) _, gb_far (gb_far hG5 (by omega) 0 _) (by omega) 1 _⟩
                case measure => simp [intOf]; omega
              exact AllReadyH.nil
            exact AllReadyH.nil
          exact AllReadyH.nil
        exact AllReadyH.nil
      refine AllReadyH.cons rfl (fun K hK => ?_) ?_
      · go_simp
        go_at_call 36
        refine (k_held (show Curs wr.drew g A n c l from hC)).mono ?_
        rintro e w3 ⟨ch, hd, rfl, hH3, hh80, hh0, hh1, hC3, hG3⟩
        obtain ⟨AH, nH, cH, rfl, -⟩ := openHeld (xt_R hH3)
        have hG3 : wr.grownBy w3 (some g) := gb_trans (gb_drew (gb_self wr g)) hG3
        have B3 := Bp.grown hG3 hpg
        have R3 := Br.grown hG3 hrg
        have X3 : PlX (w.heap.size + 2) w3 _ _ p := plX_at hX (Alike.grown hG3 (by omega) (Nat.le_refl _)) hG3.size
        have hH3 : (XT (w.heap.size + 2) tHeld).R w3 w3.heap.size _ hd := xt_low hH3 (by show _ ≤ wr.heap.size; omega)
        have y30 := B3.cell 0; have y31 := B3.cell 1
        have z3 := hG3.size
        go_wp2_with fail
        refine hK.out _ _ (by trivial) (fun hHeld => ?_)
        clear hK K
        (try simp only [Act.put, qa_, qb_, qc_])
        refine wpAnyH_ready (rs := [0, 4]) (by kernel_rfl) (by simp) ?_
        refine AllReadyH.cons rfl (fun K hK => ?_) ?_
        · go_simp
          refine hK.out _ _ (by trivial) (fun hHeld => ?_)
          clear hK K
          (try simp only [Act.put, qa_, qb_, qc_])
          refine wpAnyH_ready (rs := [4]) (by kernel_rfl) (by simp) ?_
          refine AllReadyH.cons rfl (fun K hK => ?_) ?_
          · go_simp
            go_at_call 38
            refine (k_Below w3 40 hC3 (gb_self w3 g) (by omega) (by omega)).mono ?_
            rintro e w4 ⟨t, rfl, ht0, ht1, hC4, hG4⟩
            have z4 := hG4.size
            have B4 := B3.grown hG4 hpg
            have R4 := R3.grown hG4 hrg
            have X4 : PlX (w.heap.size + 2) w4 _ _ p := plX_at X3 (Alike.grown hG4 (by omega) (Nat.le_refl _)) hG4.size
            have H4 := xt_at hH3 (Alike.grown hG4 (by omega) (Nat.le_refl _)) hG4.size
            have y40 := B4.cell 0; have y41 := B4.cell 1
            go_wp2_with fail
            refine hK.out _ _ (by trivial) (fun hHeld => ?_)
            clear hK K
            (try simp only [Act.put, qa_, qb_, qc_])
            refine wpAnyH_ready (rs := [5]) (by kernel_rfl) (by simp) ?_
            refine AllReadyH.cons rfl (fun K hK => ?_) ?_
            · go_simp
              go_at_call 100
              refine (s_admitX X4 H4 (by omega) hok.1.1 hok.1.2 (WalkArith.wf_i64 ⟨by omega, by omega⟩)).mono ?_
              rintro e w5 ⟨u0, u1, rfl, X5, hb5⟩
              obtain ⟨A50, n50, c50, e50, -⟩ := X5.1.plain
              injection e50 with e50 _
              subst e50
              obtain ⟨A51, n51, c51, e51, -⟩ := xt_R X5.2
              injection e51 with e51 _
              subst e51
              have B5 := B4.below hb5 B4.size
              have R5 := R4.below hb5 R4.size
              have hC5 := hC4.below hb5 hC4.size
              have z5 := hb5.size
              have y50 := B5.cell 0; have y51 := B5.cell 1; have f50 := B5.frozen 0; have f51 := B5.frozen 1
              have hok5 := admP_ok (hd := hd) (t := t) hok ⟨hh0.1, hh0.2, by omega, by omega, hh80⟩ ⟨by omega, by omega⟩
              have hle5 := admP_len p hd t
              have hG5 := gb_trans (gb_trans (gb_trans hG hG3) hG4) (below_grownBy hb5)
              go_wp2_with fail
              refine hK.out _ _ (by trivial) (fun hHeld => ?_)
              clear hK K
              (try simp only [Act.put, qa_, qb_, qc_])
              refine wpAnyH_take (i := 6) (oi := ⟨some 14, _, _, _, _, _⟩) (v := ?v6) rfl (by kernel_rfl) (by kernel_rfl) (by kernel_rfl) (fun _ _ _ h => h) (Or.inl ⟨by rfl, ?hy6⟩) (by assumption) ?_
              case hy6 => (intro w hSw; (try dsimp only at hSw); go_simp; try (with_reducible rfl))
              (try simp only [Act.put, qa_, qb_, qc_])
              refine wpAnyH_take (i := 7) (oi := ⟨some 21, _, _, _, _, _⟩) (v := ?v7) rfl (by kernel_rfl) (by kernel_rfl) (by kernel_rfl) (fun _ _ _ h => h) (Or.inl ⟨by rfl, ?hy7⟩) (by assumption) ?_
              case hy7 => (intro w hSw; (try dsimp only at hSw); go_simp; try (with_reducible rfl))
              (try simp only [Act.put, qa_, qb_, qc_])
              refine wpAnyH_take (i := 8) (oi := ⟨some 22, _, _, _, _, _⟩) (v := ?v8) rfl (by kernel_rfl) (by kernel_rfl) (by kernel_rfl) (fun _ _ _ h => h) (Or.inl ⟨by rfl, ?hy8⟩) (by assumption) ?_
              case hy8 => (intro w hSw; (try dsimp only at hSw); go_simp; try (with_reducible rfl))
              (try simp only [Act.put, qa_, qb_, qc_])
              refine wpAnyH_ready (rs := [9]) (by kernel_rfl) (by simp) ?_
              refine AllReadyH.cons rfl (fun K hK => ?_) ?_
              · go_simp
                refine hK.out _ _ (by trivial) (fun hHeld => ?_)
                clear hK K
                (try simp only [Act.put, qa_, qb_, qc_])
                refine wpAnyH_done (by kernel_rfl) ?_ _
                go_wp2
                go_roundw
                case rel => exact ⟨k + 1, admP p hd t, _, _, by omega, by go_num, (B5.put 0 (.slice A50 n50 c50)).put 1 (.slice A51 n51 c51), plX_put (plX_put X5 (by omega) _) (by omega) _, hok5, by omega, curs_put (curs_put hC5 (by omega) _) (by omega) _, (R5.far (p := ⟨w.heap.size + 1, 0, none⟩) (by show w.heap.size ≠ w.heap.size + 1; omega) _).far (p := ⟨w.heap.size + 1, 1, none⟩) (by show w.heap.size ≠ w.heap.size + 1; omega) _, gb_far (gb_far hG5 (by omega) 0 _) (by omega) 1 _⟩
                case measure => simp [intOf]; omega
              exact AllReadyH.nil
            exact AllReadyH.nil
          exact AllReadyH.nil
        refine AllReadyH.cons rfl (fun K hK => ?_) ?_
        · go_simp
          go_at_call 38
          refine (k_Below w3 40 hC3 (gb_self w3 g) (by omega) (by omega)).mono ?_
          rintro e w4 ⟨t, rfl, ht0, ht1, hC4, hG4⟩
          have z4 := hG4.size
          have B4 := B3.grown hG4 hpg
          have R4 := R3.grown hG4 hrg
          have X4 : PlX (w.heap.size + 2) w4 _ _ p := plX_at X3 (Alike.grown hG4 (by omega) (Nat.le_refl _)) hG4.size
          have H4 := xt_at hH3 (Alike.grown hG4 (by omega) (Nat.le_refl _)) hG4.size
          have y40 := B4.cell 0; have y41 := B4.cell 1
          go_wp2_with fail
          refine hK.out _ _ (by trivial) (fun hHeld => ?_)
          clear hK K
          (try simp only [Act.put, qa_, qb_, qc_])
          refine wpAnyH_ready (rs := [0]) (by kernel_rfl) (by simp) ?_
          refine AllReadyH.cons rfl (fun K hK => ?_) ?_
          · go_simp
            refine hK.out _ _ (by trivial) (fun hHeld => ?_)
            clear hK K
            (try simp only [Act.put, qa_, qb_, qc_])
            refine wpAnyH_ready (rs := [5]) (by kernel_rfl) (by simp) ?_
            refine AllReadyH.cons rfl (fun K hK => ?_) ?_
            · go_simp
              go_at_call 100
              refine (s_admitX X4 H4 (by omega) hok.1.1 hok.1.2 (WalkArith.wf_i64 ⟨by omega, by omega⟩)).mono ?_
              rintro e w5 ⟨u0, u1, rfl, X5, hb5⟩
              obtain ⟨A50, n50, c50, e50, -⟩ := X5.1.plain
              injection e50 with e50 _
              subst e50
              obtain ⟨A51, n51, c51, e51, -⟩ := xt_R X5.2
              injection e51 with e51 _
              subst e51
              have B5 := B4.below hb5 B4.size
              have R5 := R4.below hb5 R4.size
              have hC5 := hC4.below hb5 hC4.size
              have z5 := hb5.size
              have y50 := B5.cell 0; have y51 := B5.cell 1; have f50 := B5.frozen 0; have f51 := B5.frozen 1
              have hok5 := admP_ok (hd := hd) (t := t) hok ⟨hh0.1, hh0.2, by omega, by omega, hh80⟩ ⟨by omega, by omega⟩
              have hle5 := admP_len p hd t
              have hG5 := gb_trans (gb_trans (gb_trans hG hG3) hG4) (below_grownBy hb5)
              go_wp2_with fail
              refine hK.out _ _ (by trivial) (fun hHeld => ?_)
              clear hK K
              (try simp only [Act.put, qa_, qb_, qc_])
              refine wpAnyH_take (i := 6) (oi := ⟨some 14, _, _, _, _, _⟩) (v := ?v9) rfl (by kernel_rfl) (by kernel_rfl) (by kernel_rfl) (fun _ _ _ h => h) (Or.inl ⟨by rfl, ?hy9⟩) (by assumption) ?_
              case hy9 => (intro w hSw; (try dsimp only at hSw); go_simp; try (with_reducible rfl))
              (try simp only [Act.put, qa_, qb_, qc_])
              refine wpAnyH_take (i := 7) (oi := ⟨some 21, _, _, _, _, _⟩) (v := ?v10) rfl (by kernel_rfl) (by kernel_rfl) (by kernel_rfl) (fun _ _ _ h => h) (Or.inl ⟨by rfl, ?hy10⟩) (by assumption) ?_
              case hy10 => (intro w hSw; (try dsimp only at hSw); go_simp; try (with_reducible rfl))
              (try simp only [Act.put, qa_, qb_, qc_])
              refine wpAnyH_take (i := 8) (oi := ⟨some 22, _, _, _, _, _⟩) (v := ?v11) rfl (by kernel_rfl) (by kernel_rfl) (by kernel_rfl) (fun _ _ _ h => h) (Or.inl ⟨by rfl, ?hy11⟩) (by assumption) ?_
              case hy11 => (intro w hSw; (try dsimp only at hSw); go_simp; try (with_reducible rfl))
              (try simp only [Act.put, qa_, qb_, qc_])
              refine wpAnyH_ready (rs := [9]) (by kernel_rfl) (by simp) ?_
              refine AllReadyH.cons rfl (fun K hK => ?_) ?_
              · go_simp
                refine hK.out _ _ (by trivial) (fun hHeld => ?_)
                clear hK K
                (try simp only [Act.put, qa_, qb_, qc_])
                refine wpAnyH_done (by kernel_rfl) ?_ _
                go_wp2
                go_roundw
                case rel => exact ⟨k + 1, admP p hd t, _, _, by omega, by go_num, (B5.put 0 (.slice A50 n50 c50)).put 1 (.slice A51 n51 c51), plX_put (plX_put X5 (by omega) _) (by omega) _, hok5, by omega, curs_put (curs_put hC5 (by omega) _) (by omega) _, (R5.far (p := ⟨w.heap.size + 1, 0, none⟩) (by show w.heap.size ≠ w.heap.size + 1; omega) _).far (p := ⟨w.heap.size + 1, 1, none⟩) (by show w.heap.size ≠ w.heap.size + 1; omega) _, gb_far (gb_far hG5 (by omega) 0 _) (by omega) 1 _⟩
                case measure => simp [intOf]; omega
              exact AllReadyH.nil
            exact AllReadyH.nil
          exact AllReadyH.nil
        exact AllReadyH.nil
      exact AllReadyH.nil
    · obtain rfl : k = N := by omega
      have hp0 := hX.1.plain
      have hp1 := xt_R hX.2
      go_wp2_with fail
      refine (s_own5G hp0 hp1 (plOk_sz hok)).mono ?_
      rintro e w6 ⟨A0', c0', A1', c1', F, rfl, -, -, hb6, ⟨F2, hG6, hap⟩, hO6⟩
      have R6 := Br.below hb6 Br.size
      have y0 := R6.cell 0; have y1 := R6.cell 1; have f0 := R6.frozen 0; have f1 := R6.frozen 1
      have hC6 := hC.below hb6 hC.size
      have hGw6 := gb_trans hG (below_grownBy hb6)
      have zb := Br.size
      go_wp2
      have RR := (R6.put 0 (.slice A0' p.1.length c0')).put 1 (.slice A1' p.2.length c1')
      have e0 := RR.cell 0; have e1 := RR.cell 1
      refine bodyPost_ret (v := .agg #[.slice A0' p.1.length c0', .slice A1' p.2.length c1']) (by simp [results, Try.results74, go_sem, e0, e1]) rfl ⟨_, _, _, _, p, F2, rfl, ((hG6.put (p := ⟨w.heap.size, 0, none⟩) zb _).put (p := ⟨w.heap.size, 1, none⟩) zb _).lower (by omega), hap, (own_off (own_off hO6 zb 0 _) zb 1 _).lower (by omega), hok, by omega, curs_put (curs_put hC6 hgs _) hgs _, gb_far (gb_far hGw6 (Nat.le_refl _) 0 _) (Nat.le_refl _) 1 _⟩
end Go.Proofs.Ytblcfncjghkegaa
namespace Go.Proofs.Ytblcfncjghkegaa
open Go.ChangeShapes Go.WideShapes Go.ChangeAt Go.RowKit
open Fld
set_option maxRecDepth 100000
attribute [local go_sem ↓] Go.wp_at_zero Go.wp_at_succ

theorem i_Below {w : World} {B m c : Nat} {A : Option Addr} {d : List Int} (n : Int) (hd : Ints .u8 w B A m d) (hm : m ≤ 140737488355328) :
    Calls Try.prog 105 #[.slice A m c, .int .i64 n] w fun e w' => e = .returned (.tuple #[.int .i64 (fbel d n).1, .int .i64 (fbel d n).2]) ∧ w = w' := by
  by_cases h1 : 1 ≤ n
  · by_cases h2 : n ≤ 256
    · have H := Lib.hid (fbel_t (d := d) ⟨h1, h2⟩)
      rw [H.out]
      have HL := Lib.hid hd.1
      have hby := by_ints hd
      have q : 0 ≤ 256 % n ∧ 256 % n ≤ 256 := ⟨Int.emod_nonneg _ (by omega), by have := Int.emod_lt_of_pos 256 (show 0 < n by omega); omega⟩
      go_enter Try.func105, Try.ntmps105
      go_wp2
      go_loop [20] (fun x => ∃ k : Nat, k ≤ m ∧ x = .int .i64 k ∧ belP d k n = belP d 0 n) (fun x => m - (intOf x).toNat)
      case atStart => exact ⟨0, by omega, rfl, rfl⟩
      case round =>
        obtain ⟨k, hk, rfl, he⟩ := hrel
        have HE := Lib.hid he
        clear he
        by_cases hlt : k < m
        · obtain ⟨b, off, rfl, _, hc, _⟩ := hd.at_ hlt
          have bx := hby.at_ k
          by_cases hx : d.getD k 0 < 256 - 256 % n
          · have HH := Lib.hid (belP_hit (d := d) (i := k) (n := n) (by rw [HL.out]; exact hlt) hx)
            obtain ⟨x, hxx⟩ : ∃ x, d.getD k 0 = x := ⟨_, rfl⟩
            rw [hxx] at hc bx hx HH
            clear hxx
            go_wp2
            go_ret2
            exact ⟨by rw [← HE.out, HH.out]; rfl, rfl⟩
          · have HH := Lib.hid (belP_miss (d := d) (i := k) (n := n) (by rw [HL.out]; exact hlt) hx)
            obtain ⟨x, hxx⟩ : ∃ x, d.getD k 0 = x := ⟨_, rfl⟩
            rw [hxx] at hc bx hx
            clear hxx
            go_wp2
            go_round
            case rel => exact ⟨k + 1, by omega, by go_num, by rw [← HH.out, HE.out]⟩
            case measure => simp [intOf]; omega
        · obtain rfl : k = m := by omega
          have HH := Lib.hid (belP_end (d := d) (i := k) (n := n) (by rw [HL.out]; exact Nat.le_refl _))
          go_wp2
          go_ret2
          exact ⟨by rw [← HE.out, HH.out]; rfl, rfl⟩
    · have H := Lib.hid (fbel_f (d := d) (n := n) (by omega))
      rw [H.out]
      go_enter Try.func105, Try.ntmps105
      go_wp2
      go_ret2
      exact ⟨rfl, rfl⟩
  · have H := Lib.hid (fbel_f (d := d) (n := n) (by omega))
    rw [H.out]
    go_enter Try.func105, Try.ntmps105
    go_wp2
    go_ret2
    exact ⟨rfl, rfl⟩
theorem bel_tail {d : List Int} {q : Nat} {n x : Int} {nx : Nat} (h1 : 1 ≤ n) (h2 : n ≤ 256) (h : belP d q n = (x, nx)) (hq : q ≤ nx) : fbel (d.drop q) n = (x, nx - q) := by
  rw [fbel_t ⟨h1, h2⟩]
  have := belP_shift d q n
  rw [h] at this
  injection this with e1 e2
  exact Prod.ext e1.symm (by show _ = nx - q; omega)
theorem iota_step {k j : Nat} : (if j = k then Value.int .i64 (k : Int) else .int .i64 (if j < k then (j : Int) else 0)) = .int .i64 (if j < k + 1 then (j : Int) else 0) := by
  by_cases h : j = k
  · subst h; rw [if_pos rfl, if_pos (by omega)]
  · by_cases h2 : j < k
    · simp [h, h2, Nat.lt_succ_of_lt h2]
    · simp [h, h2, show ¬ j < k + 1 by omega]
theorem Ints.tl {w : World} {B n b off : Nat} {l : List Int} (h : Ints .u8 w B (some ⟨b, off, none⟩) n l) (m : Nat) (hm : m ≤ n) : Ints .u8 w B (some ⟨b, off + m, none⟩) (n - m) (l.drop m) := by
  refine ⟨by rw [List.length_drop, h.1], fun h0 => ?_, fun x hx => h.2.2 x (List.mem_of_mem_drop hx)⟩
  obtain ⟨b', off', e, hb, hc⟩ := h.2.1 (by omega)
  simp only [Option.some.injEq, Addr.mk.injEq, and_true] at e
  obtain ⟨rfl, rfl⟩ := e
  refine ⟨b, off + m, rfl, hb, fun i hi => ?_⟩
  rw [getD_drop, Nat.add_assoc]
  exact hc (m + i) (by omega)
set_option maxHeartbeats 4000000 in
theorem i_shuffle_t {w : World} {m c : Nat} {A : Option Addr} {d : List Int} (n : Nat) (hd : Ints .u8 w w.heap.size A m d) (hmc : m ≤ c) (hm : m ≤ 140737488355328) (hc : c ≤ 9223372036854775807) (hn : n ≤ 64) {L : List Int} {U : Nat} (hs : shuf d (n - 1) (iota n) 0 = some (L, U)) :
    Calls Try.prog 91 #[.slice A m c, .int .i64 n] w fun e w' => ∃ v, e = .returned (.tuple #[v, .int .i64 U]) ∧ Own .i64 3 w' w.heap.size v L ∧ Below w.heap.size w w' := by
  have _hc' := hc
  obtain ⟨i0, hi0, hz0, hz1, hz2⟩ := info_parts info_ii
  have HL := Lib.hid hd.1
  have HS := Lib.hid hs
  clear hs
  have hby := by_ints hd
  have t1 : decide ((n : Int) < 0) = false := by simp
  have t2 : decide (64 < (n : Int)) = false := by simp; omega
  go_enter Try.func91, Try.ntmps91
  go_wp2_with (at_make; refine wpList_mk _ rfl (.tmp 18) (.tmp 18) _ rfl 3 i0 _ Try.underlying24 hi0 hz0 rfl hz1 n rfl rfl (by rw [hz2]; omega) (by simp only [maxLen]; omega) ?_; intro w1 hrow hB1 hsz)
  go_loopw [22] (fun i wr => ∃ k : Nat, k ≤ n ∧ i = .int .i64 k ∧ wr.rowIs w.heap.size 3 n (fun j => .int .i64 (if j < k then (j : Int) else 0)) ∧ Below w.heap.size w wr) (fun i _ => n - (intOf i).toNat)
  case atStart => exact ⟨0, by omega, rfl, hrow.congr fun j _ => rfl, hB1⟩
  case round =>
    obtain ⟨k, hk, rfl, hO, hB⟩ := hrel
    by_cases hlt : k < n
    · have hcell := hO.cell hlt
      have hfz := hO.frozen k
      go_wp2
      go_roundw
      case rel => exact ⟨k + 1, by omega, by go_num, (hO.set k _).congr fun j _ => iota_step, hB.setCell (Nat.le_refl _) _⟩
      case measure => simp [intOf]; omega
    · obtain rfl : k = n := by omega
      clear hlt hk
      obtain ⟨wo, rfl⟩ : ∃ wo : World, wo = wr := ⟨_, rfl⟩
      have hOw : Own .i64 3 wo w.heap.size (.slice (some ⟨w.heap.size, 0, none⟩) k k) (iota k) :=
        Own.of_row (hO.congr fun j hj => by rw [if_pos hj, iota_at hj]) (iota_len k) (by simp only [maxLen]; omega) (Nat.le_refl _) fun x hx => by
          have := mem_iota.1 hx
          exact WalkArith.wf_i64 (by omega)
      clear hO
      rcases Nat.eq_zero_or_pos k with h0 | hpos
      · subst h0
        have e : (L, U) = ([], 0) := by
          have := HS.out
          rw [show shuf d (0 - 1) (iota 0) 0 = some ([], 0) from rfl] at this
          injection this with this
          exact this.symm
        injection e with e1 e2
        subst e1 e2
        rw [iota_zero] at hOw
        go_wp2
        go_loopw [8, 9] (fun u i wr => u = .int .i64 0 ∧ i = .int .i64 (-1) ∧ wr = wo) (fun _ _ _ => 0)
        case atStart => exact ⟨rfl, rfl, rfl⟩
        case round =>
          obtain ⟨rfl, rfl, rfl⟩ := hrel
          go_wp2
          go_ret2
          exact ⟨_, rfl, hOw, hB⟩
      · go_wp2
        go_loopw [8, 9] (fun u i wr => ∃ (q j : Nat) (l : List Int), u = .int .i64 q ∧ i = .int .i64 j ∧ j < k ∧ q ≤ m ∧ l.length = k ∧ shuf d j l q = some (L, U) ∧ Own .i64 3 wr w.heap.size (.slice (some ⟨w.heap.size, 0, none⟩) k k) l ∧ Below w.heap.size w wr) (fun _ i _ => (intOf i).toNat)
        case atStart => exact ⟨0, k - 1, iota k, rfl, i64_eq (by omega), by omega, by omega, iota_len k, HS.out, hOw, hB⟩
        case round =>
          obtain ⟨q, j, l, rfl, rfl, hj, hq, hl, hR, hO2, hB2⟩ := hrel
          rcases Nat.eq_zero_or_pos j with h0 | hpj
          · subst h0
            rw [shuf_zero] at hR
            injection hR with hR
            injection hR with e1 e2
            subst e1 e2
            clear hOw HS
            go_wp2
            go_ret2
            exact ⟨_, rfl, hO2, hB2⟩
          · obtain ⟨x, nx, HB, HR, hx, hnx, hqn⟩ := shuf_more hby (by rw [HL.out]; exact hq) hpj hR
            rw [HL.out] at hnx
            have HT := Lib.hid (bel_tail (by omega) (by omega) HB.out (by omega))
            clear hOw HS hR
            obtain ⟨b, off, rfl, _⟩ := hd.2.1 (by omega)
            have hdt := (hd.below hB2).tl q hq
            have r1 : (0 : Int) ≤ (q : Int) := Int.natCast_nonneg _
            have r2 : (q : Int) ≤ (m : Int) := by omega
            have r3 : (m : Int) ≤ (c : Int) := by omega
            have r4 : ¬ c = q := by omega
            have r5 : ¬ q = c := by omega
            subst hl
            obtain ⟨hP, u, hc3⟩ := swp_put hO2 (i := j) (j := x) (by omega) (by omega)
            obtain ⟨g, c', e1, _, _, _, hgs, hcell, hfz⟩ := hO2.row (by omega)
            simp only [Value.slice.injEq, Option.some.injEq, Addr.mk.injEq, and_true] at e1
            obtain ⟨e1, _, e2⟩ := e1
            subst e1 e2
            have hc1 := hcell j (by omega)
            have hc2 := hcell x (by omega)
            have f1 := hfz j
            have f2 := hfz x
            have q1 : (0 : Int) ≤ (x : Int) := Int.natCast_nonneg _
            have q2 : (x : Int) < (l.length : Int) := by omega
            have q3 : (0 : Int) ≤ (j : Int) := Int.natCast_nonneg _
            have q4 : (j : Int) < (l.length : Int) := by omega
            obtain ⟨a, ha⟩ : ∃ a, l.getD j 0 = a := ⟨_, rfl⟩
            obtain ⟨b', hb'⟩ : ∃ b, l.getD x 0 = b := ⟨_, rfl⟩
            rw [ha] at hc1 hP
            rw [hb'] at hc2 hc3 hP
            have HA := Lib.hid ha
            clear ha hb' hcell hfz
            go_wp2_with (go_at_call 105; refine (i_Below _ hdt (by omega)).mono ?_; rintro e w' ⟨rfl, rfl⟩; rw [HT.out])
            go_region
            go_wp2
            go_roundw
            case rel => exact ⟨nx, j - 1, swp l j x, i64_eq (by omega), i64_eq (by omega), by omega, hnx, swp_len _ _ _, HR.out, hP, ((hB2.setCell (Nat.le_refl _) _).setCell (Nat.le_refl _) _).drew⟩
            case measure => simp [intOf]; omega
set_option maxHeartbeats 4000000 in
theorem i_shuffle_f {w : World} {m c : Nat} {A : Option Addr} {d : List Int} (n : Nat) (hd : Ints .u8 w w.heap.size A m d) (hmc : m ≤ c) (hm : m ≤ 140737488355328) (hc : c ≤ 9223372036854775807) (hn : n ≤ 64) (hA : (A = none ∧ c = 0) ∨ ∃ b off, A = some ⟨b, off, none⟩) (hs : shuf d (n - 1) (iota n) 0 = none) :
    Calls Try.prog 91 #[.slice A m c, .int .i64 n] w fun e w' => e = .returned (.tuple #[.slice none 0 0, .int .i64 (-1)]) ∧ Below w.heap.size w w' := by
  obtain ⟨i0, hi0, hz0, hz1, hz2⟩ := info_parts info_ii
  have HL := Lib.hid hd.1
  have HS := Lib.hid hs
  clear hs
  have hby := by_ints hd
  have t1 : decide ((n : Int) < 0) = false := by simp
  have t2 : decide (64 < (n : Int)) = false := by simp; omega
  go_enter Try.func91, Try.ntmps91
  go_wp2_with (at_make; refine wpList_mk _ rfl (.tmp 18) (.tmp 18) _ rfl 3 i0 _ Try.underlying24 hi0 hz0 rfl hz1 n rfl rfl (by rw [hz2]; omega) (by simp only [maxLen]; omega) ?_; intro w1 hrow hB1 hsz)
  go_loopw [22] (fun i wr => ∃ k : Nat, k ≤ n ∧ i = .int .i64 k ∧ wr.rowIs w.heap.size 3 n (fun j => .int .i64 (if j < k then (j : Int) else 0)) ∧ Below w.heap.size w wr) (fun i _ => n - (intOf i).toNat)
  case atStart => exact ⟨0, by omega, rfl, hrow.congr fun j _ => rfl, hB1⟩
  case round =>
    obtain ⟨k, hk, rfl, hO, hB⟩ := hrel
    by_cases hlt : k < n
    · have hcell := hO.cell hlt
      have hfz := hO.frozen k
      go_wp2
      go_roundw
      case rel => exact ⟨k + 1, by omega, by go_num, (hO.set k _).congr fun j _ => iota_step, hB.setCell (Nat.le_refl _) _⟩
      case measure => simp [intOf]; omega
    · obtain rfl : k = n := by omega
      clear hlt hk
      obtain ⟨wo, rfl⟩ : ∃ wo : World, wo = wr := ⟨_, rfl⟩
      have hOw : Own .i64 3 wo w.heap.size (.slice (some ⟨w.heap.size, 0, none⟩) k k) (iota k) :=
        Own.of_row (hO.congr fun j hj => by rw [if_pos hj, iota_at hj]) (iota_len k) (by simp only [maxLen]; omega) (Nat.le_refl _) fun x hx => by
          have := mem_iota.1 hx
          exact WalkArith.wf_i64 (by omega)
      clear hO
      rcases Nat.eq_zero_or_pos k with h0 | hpos
      · subst h0
        exact absurd HS.out (by rw [show shuf d (0 - 1) (iota 0) 0 = some ([], 0) from rfl]; simp)
      · go_wp2
        go_loopw [8, 9] (fun u i wr => ∃ (q j : Nat) (l : List Int), u = .int .i64 q ∧ i = .int .i64 j ∧ j < k ∧ q ≤ m ∧ l.length = k ∧ shuf d j l q = none ∧ Own .i64 3 wr w.heap.size (.slice (some ⟨w.heap.size, 0, none⟩) k k) l ∧ Below w.heap.size w wr) (fun _ i _ => (intOf i).toNat)
        case atStart => exact ⟨0, k - 1, iota k, rfl, i64_eq (by omega), by omega, by omega, iota_len k, HS.out, hOw, hB⟩
        case round =>
          obtain ⟨q, j, l, rfl, rfl, hj, hq, hl, hR, hO2, hB2⟩ := hrel
          rcases Nat.eq_zero_or_pos j with h0 | hpj
          · subst h0
            rw [shuf_zero] at hR
            cases hR
          · rcases shuf_none hby (by rw [HL.out]; exact hq) hpj hR with ⟨nx, HB, hqn⟩ | ⟨x, nx, HB, HR, hx, hnx, hqn⟩
            · have HT := Lib.hid (bel_tail (by omega) (by omega) HB.out hqn)
              clear hOw HS hR HB
              have r1 : (0 : Int) ≤ (q : Int) := Int.natCast_nonneg _
              have r2 : (q : Int) ≤ (m : Int) := by omega
              have r3 : (m : Int) ≤ (c : Int) := by omega
              subst hl
              rcases hA with ⟨rfl, rfl⟩ | ⟨b, off, rfl⟩
              · obtain rfl : m = 0 := by omega
                obtain rfl : q = 0 := by omega
                have hdt : Ints .u8 wr w.heap.size none 0 (d.drop 0) := by rw [List.drop_zero]; exact hd.below hB2
                go_wp2_with (go_at_call 105; refine (i_Below _ hdt (by omega)).mono ?_; rintro e w' ⟨rfl, rfl⟩; rw [HT.out])
                go_ret2
                exact ⟨rfl, hB2⟩
              · by_cases r4 : c = q
                · subst r4
                  obtain rfl : m = c := by omega
                  have hdt : Ints .u8 wr w.heap.size (some ⟨b, off, none⟩) 0 (d.drop m) := ⟨by rw [List.length_drop, HL.out]; omega, fun h => absurd h (by omega), fun y hy => hd.2.2 y (List.mem_of_mem_drop hy)⟩
                  go_wp2_with (go_at_call 105; refine (i_Below _ hdt (by omega)).mono ?_; rintro e w' ⟨rfl, rfl⟩; rw [HT.out])
                  go_ret2
                  exact ⟨rfl, hB2⟩
                · have r5 : ¬ q = c := fun h => r4 h.symm
                  have hdt := (hd.below hB2).tl q hq
                  go_wp2_with (go_at_call 105; refine (i_Below _ hdt (by omega)).mono ?_; rintro e w' ⟨rfl, rfl⟩; rw [HT.out])
                  go_ret2
                  exact ⟨rfl, hB2⟩
            rw [HL.out] at hnx
            have HT := Lib.hid (bel_tail (by omega) (by omega) HB.out (by omega))
            clear hOw HS hR
            obtain ⟨b, off, rfl, _⟩ := hd.2.1 (by omega)
            have hdt := (hd.below hB2).tl q hq
            have r1 : (0 : Int) ≤ (q : Int) := Int.natCast_nonneg _
            have r2 : (q : Int) ≤ (m : Int) := by omega
            have r3 : (m : Int) ≤ (c : Int) := by omega
            have r4 : ¬ c = q := by omega
            have r5 : ¬ q = c := by omega
            subst hl
            obtain ⟨hP, u, hc3⟩ := swp_put hO2 (i := j) (j := x) (by omega) (by omega)
            obtain ⟨g, c', e1, _, _, _, hgs, hcell, hfz⟩ := hO2.row (by omega)
            simp only [Value.slice.injEq, Option.some.injEq, Addr.mk.injEq, and_true] at e1
            obtain ⟨e1, _, e2⟩ := e1
            subst e1 e2
            have hc1 := hcell j (by omega)
            have hc2 := hcell x (by omega)
            have f1 := hfz j
            have f2 := hfz x
            have q1 : (0 : Int) ≤ (x : Int) := Int.natCast_nonneg _
            have q2 : (x : Int) < (l.length : Int) := by omega
            have q3 : (0 : Int) ≤ (j : Int) := Int.natCast_nonneg _
            have q4 : (j : Int) < (l.length : Int) := by omega
            obtain ⟨a, ha⟩ : ∃ a, l.getD j 0 = a := ⟨_, rfl⟩
            obtain ⟨b', hb'⟩ : ∃ b, l.getD x 0 = b := ⟨_, rfl⟩
            rw [ha] at hc1 hP
            rw [hb'] at hc2 hc3 hP
            have HA := Lib.hid ha
            clear ha hb' hcell hfz
            go_wp2_with (go_at_call 105; refine (i_Below _ hdt (by omega)).mono ?_; rintro e w' ⟨rfl, rfl⟩; rw [HT.out])
            go_region
            go_wp2
            go_roundw
            case rel => exact ⟨nx, j - 1, swp l j x, i64_eq (by omega), i64_eq (by omega), by omega, hnx, swp_len _ _ _, HR.out, hP, ((hB2.setCell (Nat.le_refl _) _).setCell (Nat.le_refl _) _).drew⟩
            case measure => simp [intOf]; omega
attribute [local go_sem] st_complex
end Go.Proofs.Ytblcfncjghkegaa
