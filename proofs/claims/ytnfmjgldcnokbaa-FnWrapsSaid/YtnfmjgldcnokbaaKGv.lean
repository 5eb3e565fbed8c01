/-
  Reach, FolH, Fol1, Fol2, PFol, PReach: texts joined.
-/
import Derived.Test.YtnfmjgldcnokbaaKGh
import Derived.Test.YtnfmjgldcnokbaaKGi
import Derived.Test.YtnfmjgldcnokbaaKGt
import Derived.Deep.Cut
import Derived.Deep.CutRange
import Derived.Deep.DeepCutAuto
import Derived.Deep.RegionHeld3
namespace Go.Proofs.Ytnfmjgldcnokbaa
open Go.ChangeShapes Go.WideShapes Go.ChangeAt Go.RowKit
open Fld
set_option maxRecDepth 100000
set_option linter.unusedVariables false
set_option linter.unusedSimpArgs false
/-- Bytes do not lie in a block that holds none. -/
theorem Ints.notIn {w : World} {B n g : Nat} {A : Option Addr} {l : List Int} {T : TypeId} {cs : Array Value} (h : Ints .u8 w B A n l) (hb : Box w g T cs) (hc : ∀ (j : Nat) (x : Int), cs[j]? ≠ some (Value.int .u8 x)) : n = 0 ∨ ∀ a, A = some a → a.block ≠ g := by
  by_cases h0 : n = 0
  · exact .inl h0
  · right
    obtain ⟨b, off, rfl, hlt, hcell⟩ := h.2.1 (by omega)
    intro a ha e
    injection ha with ha
    subst ha
    have e' : b = g := e
    subst e'
    have h1 := hcell 0 (by omega)
    rw [hb.cell] at h1
    exact hc _ _ h1
theorem Ints.farN {K : IntKind} {w : World} {B n g : Nat} {A : Option Addr} {l : List Int} (h : Ints K w B A n l) (hn : n = 0 ∨ ∀ a, A = some a → a.block ≠ g) (j : Nat) (u : Value) : Ints K (w.setCell ⟨g, j, none⟩ u) B A n l := by
  refine ⟨h.1, fun h0 => ?_, h.2.2⟩
  obtain ⟨b, off, rfl, hlt, hcell⟩ := h.2.1 h0
  have hne : b ≠ g := by
    rcases hn with h' | h'
    · omega
    · exact h' _ rfl
  refine ⟨b, off, rfl, hlt, fun i hi => ?_⟩
  exact (World.cell?_of_block (a := ⟨b, off + i, none⟩) (Below.heap_setCell w ⟨g, j, none⟩ u b (fun e => hne e))).trans (hcell i hi)
theorem sno (A : Option Addr) (n c : Nat) : ∀ (j : Nat) (x : Int), (#[.slice A n c] : Array Value)[j]? ≠ some (Value.int .u8 x) := by
  intro j x
  match j with
  | 0 => simp
  | j + 1 => simp
/-- The cell that lies in the box. -/
def CellAt (w : World) (g : Nat) (cl : List Int) : Prop := ∃ A n c, Box w g 30 #[.slice A n c] ∧ n ≤ c ∧ c ≤ 9223372036854775807 ∧ Ints .u8 w w.heap.size A n cl
theorem CellAt.put {w : World} {g n c : Nat} {A : Option Addr} {cl : List Int} {u : Value} (hb : Box w g 30 #[u]) (hu : ∀ (j : Nat) (x : Int), (#[u] : Array Value)[j]? ≠ some (Value.int .u8 x)) (h1 : n ≤ c) (h2 : c ≤ 9223372036854775807) (h3 : Ints .u8 w w.heap.size A n cl) : CellAt (w.setCell ⟨g, 0, none⟩ (.slice A n c)) g cl := by
  refine ⟨A, n, c, hb.put 0 _, h1, h2, ?_⟩
  have := Ints.farN h3 (h3.notIn hb hu) 0 (.slice A n c)
  simpa [World.setCell] using this
/-- What is peeled stays while the row of who was met grows. -/
theorem ReadsF.sn {B base : Nat} {w w1 : World} {o : Obj} {v v1 : Value} {l L : List Int} {k : IntKind} {e : TypeId} (h : ReadsF B w v l) (hO : Own k e w base v1 L) (hlt : ∀ b, v1.ownBlock = some b → b < B) (hg : (w.alloc o).grownBy w1 v1.ownBlock) : ReadsF B w1 v l := by
  obtain ⟨A, n, c, rfl, h2, h3, h4, h5, F, h6, h7⟩ := h
  have hk : tBy.O w1 [.slice A n c] l F := tBy.kept h6 fun f hf => by
    have hfw := tBy.lt h6 f hf
    rw [hg.block f (by simp; omega) (fun e => by have := hlt f e.symm; have := h7.2 f hf; omega)]
    exact Below.heap_alloc w o f hfw
  exact ⟨A, n, c, rfl, h2, h3, (slR_ints (tBy.read hk)).1, h5, F, hk, h7⟩
def lenOf : Value → Nat | .slice _ n _ => n | _ => 0
theorem reach_sn {S : List Int} {x : Int} {c : List Int} {k : Nat} (hk : k < 4) (h1 : 0 ≤ x ∧ x < 8) (h2 : (ppeel (S.getD x.toNat 0) c zer).2 = true) :
    reachL S (4 - k) x c = x :: reachL S (4 - (k + 1)) (ppeel (S.getD x.toNat 0) c zer).1.next (ppeel (S.getD x.toNat 0) c zer).1.cell := by
  have e : 4 - k = (4 - (k + 1)) + 1 := by omega
  rw [e]; exact reachL_t h1 h2
/-- What the next round starts from. -/
theorem reach_go {s : Int} {c : List Int} (hb : Bytes c) (hc : c.length = 80) (h : (ppeel s c zer).2 = true) :
    (Lit.int .i64 (ppeel s c zer).1.next).wf = true ∧ ((0 ≤ (ppeel s c zer).1.next ∧ (ppeel s c zer).1.next < 8) → (ppeel s c zer).1.cell.length = 80) ∧ Bytes (ppeel s c zer).1.cell := by
  refine ⟨?_, fun h8 => ppeel_cell hc (by rw [zer_len]; exact Nat.le_refl _) h (by omega), ppeel_cell_bytes hb zer_bytes⟩
  rcases ppeel_next hb h with h' | h'
  · exact wf_i64 (by omega) (by omega)
  · exact wf_i64 (by omega) (by omega)

set_option maxHeartbeats 4000000 in
theorem i_Reach_t {w : World} {n c m d : Nat} {A A' : Option Addr} {l cl : List Int} (a : Int) (hl : Ints .i64 w w.heap.size A n l) (hc : Ints .u8 w w.heap.size A' m cl) (hmd : m ≤ d) (hd : d ≤ 9223372036854775807) (ha : (Lit.int .i64 a).wf = true) (hf : CanF l cl) :
    Calls Try.prog 27 #[.slice A n c, .int .i64 a, .agg #[.slice A' m d]] w fun e w' => ∃ v, e = .returned v ∧ Own .i64 3 w' w.heap.size v (reachL l 4 a cl) ∧ Below w.heap.size w w' := by
  have h8 : n = 8 := by rw [← hl.1]; exact hf.1
  have h80 : m = 80 := by rw [← hc.1]; exact hf.2.2
  have HF := Lib.hid (decide_eq_true hf)
  have HS := Lib.hid hf.2.1
  have HL8 := Lib.hid hf.1
  have hc80 := Lib.hid hf.2.2
  obtain ⟨i0, hi0, hz0, hz1, hz2⟩ := info_parts info_int
  clear hf
  subst h8 h80
  go_enter Try.func27, Try.ntmps27
  go_wp2_with (go_at_call 57; refine (i_canFollow (reach hl (belx)) (by omega) (reach hc (belx))).mono ?_; rintro e w1 ⟨rfl, hB1⟩; rw [HF.out])
  have bx : Box w1 w.heap.size 30 #[.slice A' 80 d] := (Box.new w _ _).below hB1 (by simp)
  have hBw : Below w.heap.size w w1 := bel_trans (a := w) (belx) hB1
  go_loopw [7, 8] (fun v i wr => ∃ (k : Nat) (x : Int) (L cl' : List Int), k ≤ 4 ∧ i = .int .i64 x ∧ (Lit.int .i64 x).wf = true ∧ L.length = k ∧ Own .i64 3 wr (w.heap.size + 1) v L ∧ reachL l 4 a cl = L ++ reachL l (4 - k) x cl' ∧ ((0 ≤ x ∧ x < 8) → cl'.length = 80) ∧ Bytes cl' ∧ CellAt wr w.heap.size cl' ∧ Below w.heap.size w wr) (fun v _ _ => 4 - lenOf v)
  case atStart => exact ⟨0, a, [], cl, by omega, rfl, ha, rfl, Own.nil _ _ _ _, rfl, fun _ => hc80.out, hc.bytes, ⟨A', 80, d, bx, hmd, hd, reach hc hBw⟩, hBw⟩
  case round =>
    obtain ⟨k, x, L, cl', hk, rfl, hxw, hLk, hO, hre, hc8, hby, hCA, hB⟩ := hrel
    obtain ⟨B, m', d', hX, hmd', hd', hI⟩ := id hCA
    have cx : wr.cell? ⟨w.heap.size, 0, none⟩ = some (.slice B m' d') := hX.cell 0
    have HR := Lib.hid hre
    clear hre
    obtain ⟨AL0, cL0, rfl, _⟩ := hO.shape
    subst hLk
    by_cases hx : 0 ≤ x ∧ x < 8
    · have HN := Lib.hid (decide_eq_true hx)
      by_cases hk4 : L.length < 4
      · obtain ⟨p, rfl⟩ := Int.eq_ofNat_of_zero_le hx.1
        have hp8 : p < 8 := by omega
        have hsx := HS.out.at_ (i := p) (by rw [HL8.out]; exact hp8)
        obtain ⟨b, off, rfl, hb, hcell, hwf⟩ := (reach hl hB).at_ hp8
        have hz8 := hX.size
        have hI80 := hc8 hx
        have hN4 : (L.length : Int) < 4 := by omega
        have q2 : (p : Int) < 8 := by omega
        have HBy := Lib.hid hby
        have H80 := Lib.hid hI80
        have HX8 := Lib.hid hx
        have HI := Lib.hid hI
        obtain ⟨y, hy⟩ : ∃ y, l.getD p 0 = y := ⟨_, rfl⟩
        have HY := Lib.hid hy
        have HP := Lib.hid (fpeel_p (pad := zer) (show Sec (l.getD p 0) from hsx.1) hI80 (by rw [zer_len]; exact Nat.le_refl _))
        rw [hy] at hcell hwf HP
        obtain ⟨r, hr⟩ : ∃ r, ppeel y cl' zer = r := ⟨_, rfl⟩
        have HRr := Lib.hid hr
        clear hy hr hsx hwf hc8 hI80 hby hx
        go_wp2_with (go_at_call 60; refine (i_isNode _ _).mono ?_; rintro e w' ⟨rfl, rfl⟩; rw [HN.out])
        go_wp2_with fail
        go_cut [9, 10] (fun t9 t10 wx => ∃ (g : Nat) (AL AC : Option Addr) (nL cL nC cC : Nat), t9 = .pointer (some ⟨g, 0, none⟩) ∧ t10 = .bool r.2 ∧ Box wx g 42 #[.int .i64 r.1.next, .int .i64 r.1.due, .int .i64 r.1.tag, .slice AL nL cL, .slice AC nC cC] ∧ ReadsF wr.heap.size wx (.slice AL nL cL) r.1.load ∧ ReadsF wr.heap.size wx (.slice AC nC cC) r.1.cell ∧ Below wr.heap.size wr wx ∧ wr.heap.size ≤ g)
        case first =>
          refine wp_region_held_drew (S := (fun w' => w'.cell? ⟨w.heap.size, 0, none⟩ = some (Value.slice B m' d') ∧ w'.cell? ⟨b, off + p, none⟩ = some (Value.int .i64 y))) (by kernel_rfl) (by exact ⟨cx, hcell⟩) (fun hHeld => ?_)
          refine wpAnyH_take (i := 0) (oi := ⟨some 24, _, _, _, _, _⟩) (v := ?v1) rfl (by kernel_rfl) (by kernel_rfl) (by kernel_rfl) (fun _ _ _ h => h) (Or.inl ⟨by rfl, ?hy1⟩) (by assumption) ?_
          case hy1 => (intro w hSw; (try dsimp only at hSw); go_simp; try (with_reducible rfl))
          (try simp only [Act.put, qa_, qb_, qc_])
          refine wpAnyH_take (i := 1) (oi := ⟨some 25, _, _, _, _, _⟩) (v := ?v2) rfl (by kernel_rfl) (by kernel_rfl) (by kernel_rfl) (fun _ _ _ h => h) (Or.inl ⟨by rfl, ?hy2⟩) (by assumption) ?_
          case hy2 => (intro w hSw; (try dsimp only at hSw); go_simp; try (with_reducible rfl))
          (try simp only [Act.put, qa_, qb_, qc_])
          refine wpAnyH_take (i := 2) (oi := ⟨some 26, _, _, _, _, _⟩) (v := ?v3) rfl (by kernel_rfl) (by kernel_rfl) (by kernel_rfl) (fun _ _ _ h => h) (Or.inl ⟨by rfl, ?hy3⟩) (by assumption) ?_
          case hy3 => (intro w hSw; (try dsimp only at hSw); go_simp; try (with_reducible rfl))
          (try simp only [Act.put, qa_, qb_, qc_])
          refine wpAnyH_take (i := 3) (oi := ⟨some 27, _, _, _, _, _⟩) (v := ?v4) rfl (by kernel_rfl) (by kernel_rfl) (by kernel_rfl) (fun _ _ _ h => h) (Or.inl ⟨by rfl, ?hy4⟩) (by assumption) ?_
          case hy4 => (intro w hSw; (try dsimp only at hSw); go_simp; try (with_reducible rfl))
          (try simp only [Act.put, qa_, qb_, qc_])
          refine wpAnyH_take (i := 4) (oi := ⟨some 28, _, _, _, _, _⟩) (v := ?v5) rfl (by kernel_rfl) (by kernel_rfl) (by kernel_rfl) (fun _ _ _ h => h) (Or.inl ⟨by rfl, ?hy5⟩) (by assumption) ?_
          case hy5 => (intro w hSw; (try dsimp only at hSw); go_simp; try (with_reducible rfl))
          (try simp only [Act.put, qa_, qb_, qc_])
          refine wpAnyH_ready (rs := [5, 9]) (by kernel_rfl) (by simp) ?_
          refine AllReadyH.cons rfl (fun K hK => ?_) ?_
          · have hX : Below wr.heap.size wr (wr.drew) := (belx)
            go_simp
            go_at_call 59
            refine (i_peelPlain y (reach HI.out hX) hmd' hd').mono ?_
            rintro e w2 ⟨vL, vC, rfl, hRL, hRC, hb⟩
            rw [HP.out, HRr.out] at hRL hRC ⊢
            obtain ⟨AL, nL, cL, rfl, hL1, hL2, hIL, hLo⟩ := hRL
            obtain ⟨AC, nC, cC, rfl, hC1, hC2, hIC, hCo⟩ := hRC
            have hRL : ReadsF (wr.drew).heap.size w2 (.slice AL nL cL) r.1.load := ⟨AL, nL, cL, rfl, hL1, hL2, hIL, hLo⟩
            have hRC : ReadsF (wr.drew).heap.size w2 (.slice AC nC cC) r.1.cell := ⟨AC, nC, cC, rfl, hC1, hC2, hIC, hCo⟩
            have hx : Below wr.heap.size wr w2 := bel_trans hX hb
            go_wp2_with fail
            refine hK.out _ _ (by exact ⟨cell_bel hx cx, cell_bel hx hcell⟩) (fun hHeld => ?_)
            clear hK K
            (try simp only [Act.put, qa_, qb_, qc_])
            refine wpAnyH_take (i := 6) (oi := ⟨some 23, _, _, _, _, _⟩) (v := ?v6) rfl (by kernel_rfl) (by kernel_rfl) (by kernel_rfl) (fun _ _ _ h => h) (Or.inl ⟨by rfl, ?hy6⟩) (by assumption) ?_
            case hy6 => (intro w hSw; (try dsimp only at hSw); go_simp; try (with_reducible rfl))
            (try simp only [Act.put, qa_, qb_, qc_])
            refine wpAnyH_take (i := 7) (oi := ⟨some 30, _, _, _, _, _⟩) (v := ?v7) rfl (by kernel_rfl) (by kernel_rfl) (by kernel_rfl) (fun _ _ _ h => h) (Or.inl ⟨by rfl, ?hy7⟩) (by assumption) ?_
            case hy7 => (intro w hSw; (try dsimp only at hSw); go_simp; try (with_reducible rfl))
            (try simp only [Act.put, qa_, qb_, qc_])
            refine wpAnyH_take (i := 8) (oi := ⟨some 31, _, _, _, _, _⟩) (v := ?v8) rfl (by kernel_rfl) (by kernel_rfl) (by kernel_rfl) (fun _ _ _ h => h) (Or.inl ⟨by rfl, ?hy8⟩) (by assumption) ?_
            case hy8 => (intro w hSw; (try dsimp only at hSw); go_simp; try (with_reducible rfl))
            (try simp only [Act.put, qa_, qb_, qc_])
            refine wpAnyH_ready (rs := [9]) (by kernel_rfl) (by simp) ?_
            refine AllReadyH.cons rfl (fun K hK => ?_) ?_
            · go_simp
              refine hK.out _ _ (by exact ⟨cell_bel (show Below wr.heap.size wr (w2.alloc (.cells #[.int .i64 0, .int .i64 0, .int .i64 0, .slice none 0 0, .slice none 0 0] 42)) from bel_alloc hx _) cx, cell_bel (show Below wr.heap.size wr (w2.alloc (.cells #[.int .i64 0, .int .i64 0, .int .i64 0, .slice none 0 0, .slice none 0 0] 42)) from bel_alloc hx _) hcell⟩) (fun hHeld => ?_)
              clear hK K
              (try simp only [Act.put, qa_, qb_, qc_])
              refine wpAnyH_ready (rs := [10]) (by kernel_rfl) (by simp) ?_
              refine AllReadyH.cons rfl (fun K hK => ?_) ?_
              · have Zg : Box (w2.alloc (.cells #[.int .i64 r.1.next, .int .i64 r.1.due, .int .i64 r.1.tag, .slice AL nL cL, .slice AC nC cC] 42)) w2.heap.size 42 #[.int .i64 r.1.next, .int .i64 r.1.due, .int .i64 r.1.tag, .slice AL nL cL, .slice AC nC cC] := Box.new _ _ _
                have hfin : Below wr.heap.size wr (w2.alloc (.cells #[.int .i64 r.1.next, .int .i64 r.1.due, .int .i64 r.1.tag, .slice AL nL cL, .slice AC nC cC] 42)) := bel_alloc hx _
                have hgl : wr.heap.size ≤ w2.heap.size := hx.size
                have hRL2 := (hRL.below (show Below w2.heap.size w2 (w2.alloc (.cells #[.int .i64 r.1.next, .int .i64 r.1.due, .int .i64 r.1.tag, .slice AL nL cL, .slice AC nC cC] 42)) from bel_alloc (Below.refl _ _) _)).lower (B' := wr.heap.size) (by first | exact Nat.le_refl _ | (show _ ≤ (World.alloc _ _).heap.size; first | (simp; done) | (simp; omega)))
                have hRC2 := (hRC.below (show Below w2.heap.size w2 (w2.alloc (.cells #[.int .i64 r.1.next, .int .i64 r.1.due, .int .i64 r.1.tag, .slice AL nL cL, .slice AC nC cC] 42)) from bel_alloc (Below.refl _ _) _)).lower (B' := wr.heap.size) (by first | exact Nat.le_refl _ | (show _ ≤ (World.alloc _ _).heap.size; first | (simp; done) | (simp; omega)))
                go_simp
                refine hK.out _ _ (by exact ⟨cell_bel hfin cx, cell_bel hfin hcell⟩) (fun hHeld => ?_)
                clear hK K
                (try simp only [Act.put, qa_, qb_, qc_])
                refine wpAnyH_take (i := 11) (oi := ⟨some 10, _, _, _, _, _⟩) (v := ?v9) rfl (by kernel_rfl) (by kernel_rfl) (by kernel_rfl) (fun _ _ _ h => h) (Or.inl ⟨by rfl, ?hy9⟩) (by assumption) ?_
                case hy9 => (intro w hSw; (try dsimp only at hSw); go_simp; try (with_reducible rfl))
                (try simp only [Act.put, qa_, qb_, qc_])
                refine wpAnyH_done (by kernel_rfl) ?_ _
                go_wp2_with fail
                go_meet
                exact ⟨_, AL, AC, nL, cL, nC, cC, rfl, rfl, by first | exact Zg | simpa using Zg, hRL2, hRC2, by first | exact hfin | simpa using hfin, hgl⟩
              exact AllReadyH.nil
            exact AllReadyH.nil
          refine AllReadyH.cons rfl (fun K hK => ?_) ?_
          · go_simp
            refine hK.out _ _ (by exact ⟨cell_bel (show Below wr.heap.size wr ((wr.alloc (.cells #[.int .i64 0, .int .i64 0, .int .i64 0, .slice none 0 0, .slice none 0 0] 42)).drew) from (belx)) cx, cell_bel (show Below wr.heap.size wr ((wr.alloc (.cells #[.int .i64 0, .int .i64 0, .int .i64 0, .slice none 0 0, .slice none 0 0] 42)).drew) from (belx)) hcell⟩) (fun hHeld => ?_)
            clear hK K
            (try simp only [Act.put, qa_, qb_, qc_])
            refine wpAnyH_ready (rs := [5]) (by kernel_rfl) (by simp) ?_
            refine AllReadyH.cons rfl (fun K hK => ?_) ?_
            · have hX : Below wr.heap.size wr ((wr.alloc (.cells #[.int .i64 0, .int .i64 0, .int .i64 0, .slice none 0 0, .slice none 0 0] 42)).drew) := (belx)
              go_simp
              go_at_call 59
              refine (i_peelPlain y (reach HI.out hX) hmd' hd').mono ?_
              rintro e w2 ⟨vL, vC, rfl, hRL, hRC, hb⟩
              rw [HP.out, HRr.out] at hRL hRC ⊢
              obtain ⟨AL, nL, cL, rfl, hL1, hL2, hIL, hLo⟩ := hRL
              obtain ⟨AC, nC, cC, rfl, hC1, hC2, hIC, hCo⟩ := hRC
              have hRL : ReadsF ((wr.alloc (.cells #[.int .i64 0, .int .i64 0, .int .i64 0, .slice none 0 0, .slice none 0 0] 42)).drew).heap.size w2 (.slice AL nL cL) r.1.load := ⟨AL, nL, cL, rfl, hL1, hL2, hIL, hLo⟩
              have hRC : ReadsF ((wr.alloc (.cells #[.int .i64 0, .int .i64 0, .int .i64 0, .slice none 0 0, .slice none 0 0] 42)).drew).heap.size w2 (.slice AC nC cC) r.1.cell := ⟨AC, nC, cC, rfl, hC1, hC2, hIC, hCo⟩
              have hx : Below wr.heap.size wr w2 := bel_trans hX hb
              have Zb : Box ((wr.alloc (.cells #[.int .i64 0, .int .i64 0, .int .i64 0, .slice none 0 0, .slice none 0 0] 42)).drew) (wr.heap.size) 42 #[.int .i64 0, .int .i64 0, .int .i64 0, .slice none 0 0, .slice none 0 0] := Box.drew (show Box ((wr.alloc (.cells #[.int .i64 0, .int .i64 0, .int .i64 0, .slice none 0 0, .slice none 0 0] 42))) (wr.heap.size) 42 #[.int .i64 0, .int .i64 0, .int .i64 0, .slice none 0 0, .slice none 0 0] from by simpa using Box.new wr 42 #[.int .i64 0, .int .i64 0, .int .i64 0, .slice none 0 0, .slice none 0 0])
              replace Zb := Box.below Zb hb Zb.size
              have zb0 := Zb.cell 0; have zf0 := Zb.frozen 0
              have zb1 := Zb.cell 1; have zf1 := Zb.frozen 1
              have zb2 := Zb.cell 2; have zf2 := Zb.frozen 2
              have zb3 := Zb.cell 3; have zf3 := Zb.frozen 3
              have zb4 := Zb.cell 4; have zf4 := Zb.frozen 4
              go_wp2_with fail
              refine hK.out _ _ (by exact ⟨cell_bel hx cx, cell_bel hx hcell⟩) (fun hHeld => ?_)
              clear hK K
              (try simp only [Act.put, qa_, qb_, qc_])
              refine wpAnyH_take (i := 6) (oi := ⟨some 23, _, _, _, _, _⟩) (v := ?v10) rfl (by kernel_rfl) (by kernel_rfl) (by kernel_rfl) (fun _ _ _ h => h) (Or.inl ⟨by rfl, ?hy10⟩) (by assumption) ?_
              case hy10 => (intro w hSw; (try dsimp only at hSw); go_simp; try (with_reducible rfl))
              (try simp only [Act.put, qa_, qb_, qc_])
              refine wpAnyH_take (i := 7) (oi := ⟨some 30, _, _, _, _, _⟩) (v := ?v11) rfl (by kernel_rfl) (by kernel_rfl) (by kernel_rfl) (fun _ _ _ h => h) (Or.inl ⟨by rfl, ?hy11⟩) (by assumption) ?_
              case hy11 => (intro w hSw; (try dsimp only at hSw); go_simp; try (with_reducible rfl))
              (try simp only [Act.put, qa_, qb_, qc_])
              refine wpAnyH_take (i := 8) (oi := ⟨some 31, _, _, _, _, _⟩) (v := ?v12) rfl (by kernel_rfl) (by kernel_rfl) (by kernel_rfl) (fun _ _ _ h => h) (Or.inl ⟨by rfl, ?hy12⟩) (by assumption) ?_
              case hy12 => (intro w hSw; (try dsimp only at hSw); go_simp; try (with_reducible rfl))
              (try simp only [Act.put, qa_, qb_, qc_])
              refine wpAnyH_ready (rs := [10]) (by kernel_rfl) (by simp) ?_
              refine AllReadyH.cons rfl (fun K hK => ?_) ?_
              · have hgl : wr.heap.size ≤ wr.heap.size := by omega
                have hfin := (bel_put (bel_put (bel_put (bel_put (bel_put hx (p := ⟨wr.heap.size, 0, none⟩) (by show wr.heap.size ≤ wr.heap.size; omega) (.int .i64 r.1.next)) (p := ⟨wr.heap.size, 1, none⟩) (by show wr.heap.size ≤ wr.heap.size; omega) (.int .i64 r.1.due)) (p := ⟨wr.heap.size, 2, none⟩) (by show wr.heap.size ≤ wr.heap.size; omega) (.int .i64 r.1.tag)) (p := ⟨wr.heap.size, 3, none⟩) (by show wr.heap.size ≤ wr.heap.size; omega) (.slice AL nL cL)) (p := ⟨wr.heap.size, 4, none⟩) (by show wr.heap.size ≤ wr.heap.size; omega) (.slice AC nC cC))
                have Zg := (((((Zb.put 0 (.int .i64 r.1.next)).put 1 (.int .i64 r.1.due)).put 2 (.int .i64 r.1.tag)).put 3 (.slice AL nL cL)).put 4 (.slice AC nC cC))
                have hgB : wr.heap.size < (((wr.alloc (.cells #[.int .i64 0, .int .i64 0, .int .i64 0, .slice none 0 0, .slice none 0 0] 42))).drew).heap.size := by show wr.heap.size < (World.alloc _ _).heap.size; first | (simp; done) | (simp; omega)
                have hRL2 := (((((hRL.put hgB 0 (.int .i64 r.1.next)).put hgB 1 (.int .i64 r.1.due)).put hgB 2 (.int .i64 r.1.tag)).put hgB 3 (.slice AL nL cL)).put hgB 4 (.slice AC nC cC)).lower (B' := wr.heap.size) (by show _ ≤ (World.alloc _ _).heap.size; first | (simp; done) | (simp; omega))
                have hRC2 := (((((hRC.put hgB 0 (.int .i64 r.1.next)).put hgB 1 (.int .i64 r.1.due)).put hgB 2 (.int .i64 r.1.tag)).put hgB 3 (.slice AL nL cL)).put hgB 4 (.slice AC nC cC)).lower (B' := wr.heap.size) (by show _ ≤ (World.alloc _ _).heap.size; first | (simp; done) | (simp; omega))
                go_simp
                refine hK.out _ _ (by exact ⟨cell_bel hfin cx, cell_bel hfin hcell⟩) (fun hHeld => ?_)
                clear hK K
                (try simp only [Act.put, qa_, qb_, qc_])
                refine wpAnyH_take (i := 11) (oi := ⟨some 10, _, _, _, _, _⟩) (v := ?v13) rfl (by kernel_rfl) (by kernel_rfl) (by kernel_rfl) (fun _ _ _ h => h) (Or.inl ⟨by rfl, ?hy13⟩) (by assumption) ?_
                case hy13 => (intro w hSw; (try dsimp only at hSw); go_simp; try (with_reducible rfl))
                (try simp only [Act.put, qa_, qb_, qc_])
                refine wpAnyH_done (by kernel_rfl) ?_ _
                go_wp2_with fail
                go_meet
                exact ⟨_, AL, AC, nL, cL, nC, cC, rfl, rfl, by first | exact Zg | simpa using Zg, hRL2, hRC2, by first | exact hfin | simpa using hfin, hgl⟩
              exact AllReadyH.nil
            exact AllReadyH.nil
          exact AllReadyH.nil
        case rest =>
        obtain ⟨g, AL, AC, nL, cL, nC, cC, rfl, rfl, Zg, hRL, hRC, hsx, hgl⟩ := hcut
        have hX2 := hX.below hsx hX.size
        have hO2 := hO.below hsx
        have hB2 := bel_trans hB hsx
        have z0 := Zg.cell 0; have z4 := Zg.cell 4
        have hsz := hsx.size
        rcases hok : r.2 with _ | _
        · have HE := Lib.hid (show reachL l 4 a cl = L by rw [HR.out, reachL_f (by rw [show ((p : Int)).toNat = p from rfl, HY.out, HRr.out, hok]), List.append_nil])
          clear hok
          go_wp2
          go_ret
          exact ⟨_, rfl, by rw [HE.out]; exact hO2.lower (Nat.le_succ _), hB2⟩
        · have hgo := reach_go (s := y) HBy.out H80.out (by rw [HRr.out, hok])
          have HSN := Lib.hid (HR.out.trans (by rw [reach_sn hk4 HX8.out (by rw [show ((p : Int)).toNat = p from rfl, HY.out, HRr.out, hok])]))
          rw [show ((p : Int)).toNat = p from rfl, HY.out, HRr.out] at HSN
          rw [HRr.out] at hgo
          have hys : w.heap.size + 1 ≤ wc.heap.size := by omega
          clear hok
          have Z2 := Zg.alloc (.cells #[.int .i64 (p : Int)] 3)
          go_wp2_with (at_builtin; refine wpList_app _ rfl (.tmp 34) (.tmp 36) _ rfl (w.heap.size + 1) 3 i0 _ 1 8 Try.underlying23 hi0 hz0 hz1 hz2 rfl (by omega) _ _ _ rfl (hO2.1.alloc _) _ 1 1 [.int .i64 (p : Int)] rfl (Src.one _ _ _) (one_int _ _) (by simp only [maxLen]; omega) (by omega) (by simp; omega) ?_; intro v1 w3 hown hgr hat)
          have hwp : (Lit.int .i64 (p : Int)).wf = true := wf_i64 (by omega) (by omega)
          have hO3 := own_sn hO2 hown (rfl : L ++ [(p : Int)] = L ++ [(p : Int)]) hwp
          have hB3 := below_sn hB2 hO2 (by omega) hgr
          have X3 := box_sn hX2 hO2 (by omega) hgr
          have Z3 := Z2.grown hgr (fun e => by have := (hO.1.lt g e.symm).2; omega)
          have hRC3 := hRC.sn hO2 (fun b hb => (hO.1.lt b hb).2) hgr
          obtain ⟨A9, n9, c9, e9, hC1, hC2, hIC, -⟩ := hRC3
          injection e9 with e91 e92 e93
          subst e91 e92 e93
          have y0 := Z3.cell 0; have y4 := Z3.cell 4; have f0 := X3.frozen 0; have x0 := X3.cell 0
          obtain ⟨A8, c8, rfl, _⟩ := hO3.shape
          clear z0 z4 hown hat hO2 Z2 Zg hX2 hRL hRC
          go_wp2_with fail
          go_region
          go_wp2_with fail
          go_roundw
          case rel => exact ⟨L.length + 1, r.1.next, L ++ [(p : Int)], r.1.cell, by omega, rfl, hgo.1, by simp, hO3.far (g := w.heap.size) (by omega) 0 _, by rw [HSN.out]; simp, hgo.2.1, hgo.2.2, CellAt.put X3 (sno _ _ _) hC1 hC2 hIC, by first | exact bel_drew (bel_put hB3 (Nat.le_refl _) _) | exact bel_put hB3 (Nat.le_refl _) _⟩
          case measure => simp [lenOf]; omega
      · have hk' : L.length = 4 := by omega
        have HE := Lib.hid (show reachL l 4 a cl = L by rw [HR.out, hk']; simp [reachL])
        have hO' := hO.lower (Nat.le_succ _)
        rw [hk'] at hO'
        go_wp2_with (go_at_call 60; refine (i_isNode _ _).mono ?_; rintro e w' ⟨rfl, rfl⟩; rw [HN.out])
        go_ret
        exact ⟨_, rfl, by rw [HE.out]; exact hO', hB⟩
    · have HN := Lib.hid (decide_eq_false hx)
      have HE := Lib.hid (show reachL l 4 a cl = L by rw [HR.out, reachL_o hx, List.append_nil])
      go_wp2_with (go_at_call 60; refine (i_isNode _ _).mono ?_; rintro e w' ⟨rfl, rfl⟩; rw [HN.out])
      go_ret
      exact ⟨_, rfl, by rw [HE.out]; exact hO.lower (Nat.le_succ _), hB⟩
theorem i_Reach : ReachC 27 := by
  intro w n c m d A A' l cl a hl hn hc hmd hd ha
  by_cases h : CanF l cl
  · rw [freach_t h]; exact i_Reach_t a hl hc hmd hd ha h
  · rw [freach_f h]; exact (i_Reach_f a hl hn hc h).mono fun e w' hh => ⟨_, hh.1, Own.nil _ _ _ _, hh.2⟩
end Go.Proofs.Ytnfmjgldcnokbaa
namespace Go.Proofs.Ytnfmjgldcnokbaa
open Go.ChangeShapes Go.WideShapes Go.ChangeAt Go.RowKit
open Fld
set_option maxRecDepth 100000
set_option linter.unusedVariables false
set_option linter.unusedSimpArgs false
theorem fol_nxt {R : List Int} {k : Nat} (hk : k < R.length) : (R.drop 1 ++ [255]).getD k 0 = (R.drop (k + 1)).getD 0 255 := by
  rw [List.getD_eq_getElem?_getD, List.getD_eq_getElem?_getD, List.getElem?_drop]
  by_cases h : k + 1 < R.length
  · rw [List.getElem?_append_left (by rw [List.length_drop]; omega), List.getElem?_drop, Nat.add_comm 1 k, Nat.add_zero, List.getElem?_eq_getElem h]
    rfl
  · have e : k = (R.drop 1).length := by rw [List.length_drop]; omega
    rw [List.getElem?_eq_none (l := R) (by omega), e, List.getElem?_append_right (Nat.le_refl _)]
    simp
theorem Ints.tailK {K : IntKind} {w : World} {B n b off : Nat} {l : List Int} (h : Ints K w B (some ⟨b, off, none⟩) n l) (i : Nat) (hi : i ≤ n) : Ints K w B (some ⟨b, off + i, none⟩) (n - i) (l.drop i) := by
  refine ⟨by rw [List.length_drop, h.1], fun h0 => ?_, fun x hx => h.2.2 x (List.mem_of_mem_drop hx)⟩
  obtain ⟨b', off', e, hlt, hcell⟩ := h.2.1 (by omega)
  injection e with e
  injection e with e1 e2 _
  subst e1 e2
  refine ⟨b, off + i, rfl, hlt, fun j hj => ?_⟩
  have := hcell (i + j) (by omega)
  rw [Nat.add_assoc, this, List.getD_eq_getElem?_getD, List.getD_eq_getElem?_getD, List.getElem?_drop]
theorem fol_cons {R : List Int} {k : Nat} (hk : k < R.length) : R.drop k = R.getD k 0 :: R.drop (k + 1) := by
  rw [List.drop_eq_getElem_cons hk, List.getD_eq_getElem?_getD, List.getElem?_eq_getElem hk]
  rfl
/-- One hop of a route: what is left to follow. -/
theorem fol_step {S R c : List Int} {k p : Nat} {r : Pel × Bool} (hk : k < R.length) (hp : R.getD k 0 = (p : Int)) (hr : ppeel (S.getD p 0) c zer = r) :
    folL S (R.drop k) c = if r.2 = true ∧ r.1.next = (R.drop (k + 1)).getD 0 255 then (if k + 1 = R.length then (r.1.load, true) else folL S (R.drop (k + 1)) r.1.cell) else ([], false) := by
  rw [fol_cons hk, hp]
  show (if (ppeel (S.getD (p : Int).toNat 0) c zer).2 = true ∧ (ppeel (S.getD (p : Int).toNat 0) c zer).1.next = (R.drop (k + 1)).getD 0 255 then _ else _) = _
  rw [show ((p : Int)).toNat = p from rfl, hr]
  by_cases h : r.2 = true ∧ r.1.next = (R.drop (k + 1)).getD 0 255
  · rw [if_pos h, if_pos h]
    by_cases h' : k + 1 = R.length
    · have e : R.drop (k + 1) = [] := List.drop_eq_nil_of_le (by omega)
      rw [if_pos h', if_pos e]
    · have e : R.drop (k + 1) ≠ [] := fun e => h' (by have := congrArg List.length e; rw [List.length_drop] at this; simp at this; omega)
      rw [if_neg h', if_neg e]
  · rw [if_neg h, if_neg h]
theorem fol_mid {R : List Int} (hR : ∀ x ∈ R, 0 ≤ x ∧ x < 8) {k : Nat} (hk : k + 1 < R.length) : 0 ≤ (R.drop (k + 1)).getD 0 255 ∧ (R.drop (k + 1)).getD 0 255 < 8 := by
  rw [List.getD_eq_getElem?_getD, List.getElem?_drop, Nat.add_zero, List.getElem?_eq_getElem hk]
  exact hR _ (List.getElem_mem _)
end Go.Proofs.Ytnfmjgldcnokbaa
namespace Go.Proofs.Ytnfmjgldcnokbaa
open Go.ChangeShapes Go.WideShapes Go.ChangeAt Go.RowKit
open Fld
set_option maxRecDepth 100000
set_option linter.unusedVariables false
set_option linter.unusedSimpArgs false
set_option maxHeartbeats 8000000 in
theorem i_Follow_1 {w : World} {n c n2 c2 m d : Nat} {A A2 A' : Option Addr} {l R cl : List Int} (hl : Ints .i64 w w.heap.size A n l) (hR : Ints .i64 w w.heap.size A2 n2 R) (hn2 : n2 ≤ c2) (hc2m : c2 ≤ 9223372036854775807) (hc : Ints .u8 w w.heap.size A' m cl) (hmd : m ≤ d) (hd : d ≤ 9223372036854775807) (hf : FolOk l R cl) (hc1 : c2 = 1) :
    Calls Try.prog 14 #[.slice A n c, .slice A2 n2 c2, .agg #[.slice A' m d]] w fun e w' => ∃ v, e = .returned (.tuple #[v, .bool (folL l R cl).2]) ∧ ReadsF w.heap.size w' v (folL l R cl).1 ∧ Below w.heap.size w w' := by
  have h8 : n = 8 := by rw [← hl.1]; exact hf.2.1
  have h80 : m = 80 := by rw [← hc.1]; exact hf.2.2.2
  have HRt := Lib.hid (show decide (Route R) = true from decide_eq_true hf.1)
  have HF := Lib.hid (decide_eq_true hf.2)
  have HS := Lib.hid hf.2.2.1
  have HL8 := Lib.hid hf.2.1
  have hc80 := Lib.hid hf.2.2.2
  have HR8 := Lib.hid hf.1.2.1
  have hRl := hf.1.1
  have HRn := Lib.hid hR.1
  rw [HRn.out] at hRl
  obtain ⟨i0, hi0, hz0, hz1, hz2⟩ := info_parts info_int
  clear hf
  subst h8 h80
  obtain ⟨b2, off2, rfl, hb2, hcells2⟩ := hR.2.1 (by omega)
  obtain ⟨Lr, hLr⟩ : ∃ x, R.drop 1 ++ [255] = x := ⟨_, rfl⟩
  have hLn : Lr.length = n2 := by have e := HRn.out; rw [← hLr, List.length_append, List.length_drop]; simp; omega
  have HLr := Lib.hid hLr
  have HLn := Lib.hid hLn
  clear hLr hLn
  subst hc1
  have hTl : Ints .i64 w w.heap.size (some ⟨b2, off2, none⟩) 0 (R.drop 1) := by
    rw [show R.drop 1 = [] from List.drop_eq_nil_of_le (by rw [HRn.out]; omega)]
    exact ⟨rfl, fun h => absurd h (by omega), by simp⟩
  go_enter Try.func14, Try.ntmps14
  go_wp2_with (first
    | (go_at_call 17; refine (i_RouteOk (reach hR (belx)) (by omega) hn2 hc2m).mono ?_; rintro e w1 ⟨rfl, hb1⟩; rw [HRt.out]; have hs1 : Below w.heap.size w w1 := bel_trans (belx) hb1; have bx1 : Box w1 w.heap.size 30 #[.slice A' 80 d] := (Box.new w _ _).below hb1 (by simp); have k1 := bx1.cell 0)
    | (go_at_call 57; refine (i_canFollow (reach hl hs1) (by omega) (reach hc hs1)).mono ?_; rintro e w2 ⟨rfl, hb2'⟩; rw [HF.out]; have hs2 : Below w.heap.size w w2 := bel_trans hs1 hb2'; have bx2 := bx1.below hb2' bx1.size)
    | (go_at_call 58; refine (i_clone (l := R.drop 1) (reach (reach hTl hs2) (belx)) (by omega)).mono ?_; rintro e w3 ⟨v3, rfl, hO3, hb3⟩; have hs3 : Below w.heap.size w w3 := bel_trans hs2 (bel_trans (belx) hb3); have bx3 := bx2.below hb3 bx2.size; have zz := bx2.size; have z3 := hb3.size; have hO3' := hO3.lower (base' := w.heap.size + 1) zz; have hd1 : (R.drop 1).length ≤ 4 := by rw [List.length_drop, HRn.out]; omega)
    | (at_builtin; refine wpList_app _ rfl (.tmp 24) (.tmp 25) _ rfl (w.heap.size + 1) 3 i0 _ 1 8 Try.underlying23 hi0 hz0 hz1 hz2 rfl (by omega) _ _ _ rfl (hO3'.1.alloc _) _ 1 1 [.int .i64 255] rfl (Src.one _ _ _) (one_int _ _) (by simp only [maxLen]; omega) (by omega) (by simp; omega) ?_; intro v4 w4 hown hgr hat; have hO4 := own_sn hO3' hown HLr.out.symm (by decide); have hs4 := below_sn hs3 hO3' (by omega) hgr; have bx4 := box_sn bx3 hO3' (by omega) hgr; obtain ⟨A26, c26, rfl, h26⟩ := hO4.cap; rw [HLn.out] at hO4 ⊢; clear hown hgr hat h26))
  clear k1
  go_loopw [8, 28] (fun v i wr => ∃ (k : Nat) (ld cl' : List Int), k ≤ n2 ∧ i = .int .i64 k ∧ ReadsF (w.heap.size + 1) wr v ld ∧ Own .i64 3 wr (w.heap.size + 1) (.slice A26 n2 c26) Lr ∧ (k < n2 → folL l R cl = folL l (R.drop k) cl' ∧ cl'.length = 80 ∧ Bytes cl') ∧ (k = n2 → folL l R cl = (ld, true)) ∧ CellAt wr w.heap.size cl' ∧ Below w.heap.size w wr) (fun _ i _ => n2 - (intOf i).toNat)
  case atStart => exact ⟨0, [], cl, by omega, rfl, ReadsF.nil _ _, hO4, fun _ => ⟨rfl, hc80.out, hc.bytes⟩, fun h => by omega, ⟨A', 80, d, bx4, hmd, hd, reach hc hs4⟩, hs4⟩
  case round =>
    obtain ⟨k, ld, cl', hk, rfl, hLd, hO, hgo, hend, hCA, hB⟩ := hrel
    obtain ⟨B, m', d', hX, hmd', hd', hI⟩ := id hCA
    have cx : wr.cell? ⟨w.heap.size, 0, none⟩ = some (.slice B m' d') := hX.cell 0
    by_cases hlt : k < n2
    · obtain ⟨hfo, hI80, hby⟩ := hgo hlt
      have HFo := Lib.hid hfo
      have hkR : k < R.length := by rw [HRn.out]; exact hlt
      have hr8 : 0 ≤ R.getD k 0 ∧ R.getD k 0 < 8 := HR8.out _ (by rw [List.getD_eq_getElem?_getD, List.getElem?_eq_getElem hkR]; exact List.getElem_mem _)
      have hc2 : wr.cell? ⟨b2, off2 + k, none⟩ = some (.int .i64 (R.getD k 0)) := cell_at hB hb2 (hcells2 k hlt)
      obtain ⟨q, hq⟩ : ∃ q, R.getD k 0 = q := ⟨_, rfl⟩
      have HQ := Lib.hid hq
      rw [hq] at hr8 hc2
      clear hq
      obtain ⟨p, rfl⟩ := Int.eq_ofNat_of_zero_le hr8.1
      have hp8 : p < 8 := by omega
      have hsx := HS.out.at_ (i := p) (by rw [HL8.out]; exact hp8)
      obtain ⟨b, off, rfl, hb, hcell, hwf⟩ := (reach hl hB).at_ hp8
      obtain ⟨Aq, cq, e26, -, -, h26⟩ := hO.cap
      injection e26 with e1 e2 e3
      subst e1
      clear e2 e3
      obtain ⟨b9, off9, rfl, hb9, hcell9, hwf9⟩ := h26.at_ (show k < Lr.length by rw [HLn.out]; exact hlt)
      have HNX := Lib.hid (show Lr.getD k 0 = (R.drop (k + 1)).getD 0 255 by rw [← HLr.out]; exact fol_nxt hkR)
      obtain ⟨nx, hnx⟩ : ∃ x, Lr.getD k 0 = x := ⟨_, rfl⟩
      rw [hnx] at hcell9 HNX
      obtain ⟨y, hy⟩ : ∃ y, l.getD p 0 = y := ⟨_, rfl⟩
      have HP := Lib.hid (fpeel_p (pad := zer) (show Sec (l.getD p 0) from hsx.1) hI80 (by rw [zer_len]; exact Nat.le_refl _))
      obtain ⟨r, hr⟩ : ∃ r, ppeel y cl' zer = r := ⟨_, rfl⟩
      have HST := Lib.hid (HFo.out.trans (fol_step (S := l) (c := cl') (r := r) hkR HQ.out (by rw [hy]; exact hr)))
      rw [hy] at hcell HP
      have HRr := Lib.hid hr
      have HBy := Lib.hid hby
      have H80 := Lib.hid hI80
      have HI := Lib.hid hI
      have HkR := Lib.hid hkR
      have hz8 := hX.size
      have q1 : (k : Int) < (n2 : Int) := by omega
      have q2 : (p : Int) < 8 := by omega
      obtain ⟨Av, nv, cv, rfl, hv⟩ := id hLd
      clear hy hr hsx hwf hfo hI80 hby hnx hwf9 h26 hgo hend hv hkR hr8 hI
      go_wp2_with fail
      go_cut [11, 12] (fun t11 t12 wx => ∃ (g : Nat) (AL AC : Option Addr) (nL cL nC cC : Nat), t11 = .pointer (some ⟨g, 0, none⟩) ∧ t12 = .bool r.2 ∧ Box wx g 42 #[.int .i64 r.1.next, .int .i64 r.1.due, .int .i64 r.1.tag, .slice AL nL cL, .slice AC nC cC] ∧ ReadsF wr.heap.size wx (.slice AL nL cL) r.1.load ∧ ReadsF wr.heap.size wx (.slice AC nC cC) r.1.cell ∧ Below wr.heap.size wr wx ∧ wr.heap.size ≤ g)
      case first =>
        refine wp_region_held_drew (S := (fun w' => w'.cell? ⟨w.heap.size, 0, none⟩ = some (Value.slice B m' d') ∧ w'.cell? ⟨b2, off2 + k, none⟩ = some (Value.int .i64 (p : Int)) ∧ w'.cell? ⟨b, off + p, none⟩ = some (Value.int .i64 y))) (by kernel_rfl) (by exact ⟨cx, hc2, hcell⟩) (fun hHeld => ?_)
        refine wpAnyH_take (i := 0) (oi := ⟨some 34, _, _, _, _, _⟩) (v := ?v1) rfl (by kernel_rfl) (by kernel_rfl) (by kernel_rfl) (fun _ _ _ h => h) (Or.inl ⟨by rfl, ?hy1⟩) (by assumption) ?_
        case hy1 => (intro w hSw; (try dsimp only at hSw); go_simp; try (with_reducible rfl))
        (try simp only [Act.put, qa_, qb_, qc_])
        refine wpAnyH_take (i := 1) (oi := ⟨some 35, _, _, _, _, _⟩) (v := ?v2) rfl (by kernel_rfl) (by kernel_rfl) (by kernel_rfl) (fun _ _ _ h => h) (Or.inl ⟨by rfl, ?hy2⟩) (by assumption) ?_
        case hy2 => (intro w hSw; (try dsimp only at hSw); go_simp; try (with_reducible rfl))
        (try simp only [Act.put, qa_, qb_, qc_])
        refine wpAnyH_take (i := 2) (oi := ⟨some 36, _, _, _, _, _⟩) (v := ?v3) rfl (by kernel_rfl) (by kernel_rfl) (by kernel_rfl) (fun _ _ _ h => h) (Or.inl ⟨by rfl, ?hy3⟩) (by assumption) ?_
        case hy3 => (intro w hSw; (try dsimp only at hSw); go_simp; try (with_reducible rfl))
        (try simp only [Act.put, qa_, qb_, qc_])
        refine wpAnyH_take (i := 3) (oi := ⟨some 37, _, _, _, _, _⟩) (v := ?v4) rfl (by kernel_rfl) (by kernel_rfl) (by kernel_rfl) (fun _ _ _ h => h) (Or.inl ⟨by rfl, ?hy4⟩) (by assumption) ?_
        case hy4 => (intro w hSw; (try dsimp only at hSw); go_simp; try (with_reducible rfl))
        (try simp only [Act.put, qa_, qb_, qc_])
        refine wpAnyH_take (i := 4) (oi := ⟨some 38, _, _, _, _, _⟩) (v := ?v5) rfl (by kernel_rfl) (by kernel_rfl) (by kernel_rfl) (fun _ _ _ h => h) (Or.inl ⟨by rfl, ?hy5⟩) (by assumption) ?_
        case hy5 => (intro w hSw; (try dsimp only at hSw); go_simp; try (with_reducible rfl))
        (try simp only [Act.put, qa_, qb_, qc_])
        refine wpAnyH_take (i := 5) (oi := ⟨some 39, _, _, _, _, _⟩) (v := ?v6) rfl (by kernel_rfl) (by kernel_rfl) (by kernel_rfl) (fun _ _ _ h => h) (Or.inl ⟨by rfl, ?hy6⟩) (by assumption) ?_
        case hy6 => (intro w hSw; (try dsimp only at hSw); go_simp; try (with_reducible rfl))
        (try simp only [Act.put, qa_, qb_, qc_])
        refine wpAnyH_take (i := 6) (oi := ⟨some 40, _, _, _, _, _⟩) (v := ?v7) rfl (by kernel_rfl) (by kernel_rfl) (by kernel_rfl) (fun _ _ _ h => h) (Or.inl ⟨by rfl, ?hy7⟩) (by assumption) ?_
        case hy7 => (intro w hSw; (try dsimp only at hSw); go_simp; try (with_reducible rfl))
        (try simp only [Act.put, qa_, qb_, qc_])
        refine wpAnyH_take (i := 7) (oi := ⟨some 41, _, _, _, _, _⟩) (v := ?v8) rfl (by kernel_rfl) (by kernel_rfl) (by kernel_rfl) (fun _ _ _ h => h) (Or.inl ⟨by rfl, ?hy8⟩) (by assumption) ?_
        case hy8 => (intro w hSw; (try dsimp only at hSw); go_simp; try (with_reducible rfl))
        (try simp only [Act.put, qa_, qb_, qc_])
        refine wpAnyH_ready (rs := [8, 12]) (by kernel_rfl) (by simp) ?_
        refine AllReadyH.cons rfl (fun K hK => ?_) ?_
        · have hX : Below wr.heap.size wr (wr.drew) := (belx)
          go_simp
          go_at_call 59
          refine (i_peelPlain y (reach HI.out hX) hmd' hd').mono ?_
          rintro e w2 ⟨vL, vC, rfl, hRL, hRC, hb⟩
          rw [HP.out, HRr.out] at hRL hRC ⊢
          obtain ⟨AL, nL, cL, rfl, hL1, hL2, hIL, hLo⟩ := hRL
          obtain ⟨AC, nC, cC, rfl, hC1, hC2, hIC, hCo⟩ := hRC
          have hRL : ReadsF (wr.drew).heap.size w2 (.slice AL nL cL) r.1.load := ⟨AL, nL, cL, rfl, hL1, hL2, hIL, hLo⟩
          have hRC : ReadsF (wr.drew).heap.size w2 (.slice AC nC cC) r.1.cell := ⟨AC, nC, cC, rfl, hC1, hC2, hIC, hCo⟩
          have hx : Below wr.heap.size wr w2 := bel_trans hX hb
          go_wp2_with fail
          refine hK.out _ _ (by exact ⟨cell_bel hx cx, cell_bel hx hc2, cell_bel hx hcell⟩) (fun hHeld => ?_)
          clear hK K
          (try simp only [Act.put, qa_, qb_, qc_])
          refine wpAnyH_take (i := 9) (oi := ⟨some 33, _, _, _, _, _⟩) (v := ?v9) rfl (by kernel_rfl) (by kernel_rfl) (by kernel_rfl) (fun _ _ _ h => h) (Or.inl ⟨by rfl, ?hy9⟩) (by assumption) ?_
          case hy9 => (intro w hSw; (try dsimp only at hSw); go_simp; try (with_reducible rfl))
          (try simp only [Act.put, qa_, qb_, qc_])
          refine wpAnyH_take (i := 10) (oi := ⟨some 43, _, _, _, _, _⟩) (v := ?v10) rfl (by kernel_rfl) (by kernel_rfl) (by kernel_rfl) (fun _ _ _ h => h) (Or.inl ⟨by rfl, ?hy10⟩) (by assumption) ?_
          case hy10 => (intro w hSw; (try dsimp only at hSw); go_simp; try (with_reducible rfl))
          (try simp only [Act.put, qa_, qb_, qc_])
          refine wpAnyH_take (i := 11) (oi := ⟨some 44, _, _, _, _, _⟩) (v := ?v11) rfl (by kernel_rfl) (by kernel_rfl) (by kernel_rfl) (fun _ _ _ h => h) (Or.inl ⟨by rfl, ?hy11⟩) (by assumption) ?_
          case hy11 => (intro w hSw; (try dsimp only at hSw); go_simp; try (with_reducible rfl))
          (try simp only [Act.put, qa_, qb_, qc_])
          refine wpAnyH_ready (rs := [12]) (by kernel_rfl) (by simp) ?_
          refine AllReadyH.cons rfl (fun K hK => ?_) ?_
          · go_simp
            refine hK.out _ _ (by exact ⟨cell_bel (show Below wr.heap.size wr (w2.alloc (.cells #[.int .i64 0, .int .i64 0, .int .i64 0, .slice none 0 0, .slice none 0 0] 42)) from bel_alloc hx _) cx, cell_bel (show Below wr.heap.size wr (w2.alloc (.cells #[.int .i64 0, .int .i64 0, .int .i64 0, .slice none 0 0, .slice none 0 0] 42)) from bel_alloc hx _) hc2, cell_bel (show Below wr.heap.size wr (w2.alloc (.cells #[.int .i64 0, .int .i64 0, .int .i64 0, .slice none 0 0, .slice none 0 0] 42)) from bel_alloc hx _) hcell⟩) (fun hHeld => ?_)
            clear hK K
            (try simp only [Act.put, qa_, qb_, qc_])
            refine wpAnyH_ready (rs := [13]) (by kernel_rfl) (by simp) ?_
            refine AllReadyH.cons rfl (fun K hK => ?_) ?_
            · have Zg : Box (w2.alloc (.cells #[.int .i64 r.1.next, .int .i64 r.1.due, .int .i64 r.1.tag, .slice AL nL cL, .slice AC nC cC] 42)) w2.heap.size 42 #[.int .i64 r.1.next, .int .i64 r.1.due, .int .i64 r.1.tag, .slice AL nL cL, .slice AC nC cC] := Box.new _ _ _
              have hfin : Below wr.heap.size wr (w2.alloc (.cells #[.int .i64 r.1.next, .int .i64 r.1.due, .int .i64 r.1.tag, .slice AL nL cL, .slice AC nC cC] 42)) := bel_alloc hx _
              have hgl : wr.heap.size ≤ w2.heap.size := hx.size
              have hRL2 := (hRL.below (show Below w2.heap.size w2 (w2.alloc (.cells #[.int .i64 r.1.next, .int .i64 r.1.due, .int .i64 r.1.tag, .slice AL nL cL, .slice AC nC cC] 42)) from bel_alloc (Below.refl _ _) _)).lower (B' := wr.heap.size) (by first | exact Nat.le_refl _ | (show _ ≤ (World.alloc _ _).heap.size; first | (simp; done) | (simp; omega)))
              have hRC2 := (hRC.below (show Below w2.heap.size w2 (w2.alloc (.cells #[.int .i64 r.1.next, .int .i64 r.1.due, .int .i64 r.1.tag, .slice AL nL cL, .slice AC nC cC] 42)) from bel_alloc (Below.refl _ _) _)).lower (B' := wr.heap.size) (by first | exact Nat.le_refl _ | (show _ ≤ (World.alloc _ _).heap.size; first | (simp; done) | (simp; omega)))
              go_simp
              refine hK.out _ _ (by exact ⟨cell_bel hfin cx, cell_bel hfin hc2, cell_bel hfin hcell⟩) (fun hHeld => ?_)
              clear hK K
              (try simp only [Act.put, qa_, qb_, qc_])
              refine wpAnyH_take (i := 14) (oi := ⟨some 12, _, _, _, _, _⟩) (v := ?v12) rfl (by kernel_rfl) (by kernel_rfl) (by kernel_rfl) (fun _ _ _ h => h) (Or.inl ⟨by rfl, ?hy12⟩) (by assumption) ?_
              case hy12 => (intro w hSw; (try dsimp only at hSw); go_simp; try (with_reducible rfl))
              (try simp only [Act.put, qa_, qb_, qc_])
              refine wpAnyH_done (by kernel_rfl) ?_ _
              go_wp2_with fail
              go_meet
              exact ⟨_, AL, AC, nL, cL, nC, cC, rfl, rfl, by first | exact Zg | simpa using Zg, hRL2, hRC2, by first | exact hfin | simpa using hfin, hgl⟩
            exact AllReadyH.nil
          exact AllReadyH.nil
        refine AllReadyH.cons rfl (fun K hK => ?_) ?_
        · go_simp
          refine hK.out _ _ (by exact ⟨cell_bel (show Below wr.heap.size wr ((wr.alloc (.cells #[.int .i64 0, .int .i64 0, .int .i64 0, .slice none 0 0, .slice none 0 0] 42)).drew) from (belx)) cx, cell_bel (show Below wr.heap.size wr ((wr.alloc (.cells #[.int .i64 0, .int .i64 0, .int .i64 0, .slice none 0 0, .slice none 0 0] 42)).drew) from (belx)) hc2, cell_bel (show Below wr.heap.size wr ((wr.alloc (.cells #[.int .i64 0, .int .i64 0, .int .i64 0, .slice none 0 0, .slice none 0 0] 42)).drew) from (belx)) hcell⟩) (fun hHeld => ?_)
          clear hK K
          (try simp only [Act.put, qa_, qb_, qc_])
          refine wpAnyH_ready (rs := [8]) (by kernel_rfl) (by simp) ?_
          refine AllReadyH.cons rfl (fun K hK => ?_) ?_
          · have hX : Below wr.heap.size wr ((wr.alloc (.cells #[.int .i64 0, .int .i64 0, .int .i64 0, .slice none 0 0, .slice none 0 0] 42)).drew) := (belx)
            go_simp
            go_at_call 59
            refine (i_peelPlain y (reach HI.out hX) hmd' hd').mono ?_
            rintro e w2 ⟨vL, vC, rfl, hRL, hRC, hb⟩
            rw [HP.out, HRr.out] at hRL hRC ⊢
            obtain ⟨AL, nL, cL, rfl, hL1, hL2, hIL, hLo⟩ := hRL
            obtain ⟨AC, nC, cC, rfl, hC1, hC2, hIC, hCo⟩ := hRC
            have hRL : ReadsF ((wr.alloc (.cells #[.int .i64 0, .int .i64 0, .int .i64 0, .slice none 0 0, .slice none 0 0] 42)).drew).heap.size w2 (.slice AL nL cL) r.1.load := ⟨AL, nL, cL, rfl, hL1, hL2, hIL, hLo⟩
            have hRC : ReadsF ((wr.alloc (.cells #[.int .i64 0, .int .i64 0, .int .i64 0, .slice none 0 0, .slice none 0 0] 42)).drew).heap.size w2 (.slice AC nC cC) r.1.cell := ⟨AC, nC, cC, rfl, hC1, hC2, hIC, hCo⟩
            have hx : Below wr.heap.size wr w2 := bel_trans hX hb
            have Zb : Box ((wr.alloc (.cells #[.int .i64 0, .int .i64 0, .int .i64 0, .slice none 0 0, .slice none 0 0] 42)).drew) (wr.heap.size) 42 #[.int .i64 0, .int .i64 0, .int .i64 0, .slice none 0 0, .slice none 0 0] := Box.drew (show Box ((wr.alloc (.cells #[.int .i64 0, .int .i64 0, .int .i64 0, .slice none 0 0, .slice none 0 0] 42))) (wr.heap.size) 42 #[.int .i64 0, .int .i64 0, .int .i64 0, .slice none 0 0, .slice none 0 0] from by simpa using Box.new wr 42 #[.int .i64 0, .int .i64 0, .int .i64 0, .slice none 0 0, .slice none 0 0])
            replace Zb := Box.below Zb hb Zb.size
            have zb0 := Zb.cell 0; have zf0 := Zb.frozen 0
            have zb1 := Zb.cell 1; have zf1 := Zb.frozen 1
            have zb2 := Zb.cell 2; have zf2 := Zb.frozen 2
            have zb3 := Zb.cell 3; have zf3 := Zb.frozen 3
            have zb4 := Zb.cell 4; have zf4 := Zb.frozen 4
            go_wp2_with fail
            refine hK.out _ _ (by exact ⟨cell_bel hx cx, cell_bel hx hc2, cell_bel hx hcell⟩) (fun hHeld => ?_)
            clear hK K
            (try simp only [Act.put, qa_, qb_, qc_])
            refine wpAnyH_take (i := 9) (oi := ⟨some 33, _, _, _, _, _⟩) (v := ?v13) rfl (by kernel_rfl) (by kernel_rfl) (by kernel_rfl) (fun _ _ _ h => h) (Or.inl ⟨by rfl, ?hy13⟩) (by assumption) ?_
            case hy13 => (intro w hSw; (try dsimp only at hSw); go_simp; try (with_reducible rfl))
            (try simp only [Act.put, qa_, qb_, qc_])
            refine wpAnyH_take (i := 10) (oi := ⟨some 43, _, _, _, _, _⟩) (v := ?v14) rfl (by kernel_rfl) (by kernel_rfl) (by kernel_rfl) (fun _ _ _ h => h) (Or.inl ⟨by rfl, ?hy14⟩) (by assumption) ?_
            case hy14 => (intro w hSw; (try dsimp only at hSw); go_simp; try (with_reducible rfl))
            (try simp only [Act.put, qa_, qb_, qc_])
            refine wpAnyH_take (i := 11) (oi := ⟨some 44, _, _, _, _, _⟩) (v := ?v15) rfl (by kernel_rfl) (by kernel_rfl) (by kernel_rfl) (fun _ _ _ h => h) (Or.inl ⟨by rfl, ?hy15⟩) (by assumption) ?_
            case hy15 => (intro w hSw; (try dsimp only at hSw); go_simp; try (with_reducible rfl))
            (try simp only [Act.put, qa_, qb_, qc_])
            refine wpAnyH_ready (rs := [13]) (by kernel_rfl) (by simp) ?_
            refine AllReadyH.cons rfl (fun K hK => ?_) ?_
            · have hgl : wr.heap.size ≤ wr.heap.size := by omega
              have hfin := (bel_put (bel_put (bel_put (bel_put (bel_put hx (p := ⟨wr.heap.size, 0, none⟩) (by show wr.heap.size ≤ wr.heap.size; omega) (.int .i64 r.1.next)) (p := ⟨wr.heap.size, 1, none⟩) (by show wr.heap.size ≤ wr.heap.size; omega) (.int .i64 r.1.due)) (p := ⟨wr.heap.size, 2, none⟩) (by show wr.heap.size ≤ wr.heap.size; omega) (.int .i64 r.1.tag)) (p := ⟨wr.heap.size, 3, none⟩) (by show wr.heap.size ≤ wr.heap.size; omega) (.slice AL nL cL)) (p := ⟨wr.heap.size, 4, none⟩) (by show wr.heap.size ≤ wr.heap.size; omega) (.slice AC nC cC))
              have Zg := (((((Zb.put 0 (.int .i64 r.1.next)).put 1 (.int .i64 r.1.due)).put 2 (.int .i64 r.1.tag)).put 3 (.slice AL nL cL)).put 4 (.slice AC nC cC))
              have hgB : wr.heap.size < (((wr.alloc (.cells #[.int .i64 0, .int .i64 0, .int .i64 0, .slice none 0 0, .slice none 0 0] 42))).drew).heap.size := by show wr.heap.size < (World.alloc _ _).heap.size; first | (simp; done) | (simp; omega)
              have hRL2 := (((((hRL.put hgB 0 (.int .i64 r.1.next)).put hgB 1 (.int .i64 r.1.due)).put hgB 2 (.int .i64 r.1.tag)).put hgB 3 (.slice AL nL cL)).put hgB 4 (.slice AC nC cC)).lower (B' := wr.heap.size) (by show _ ≤ (World.alloc _ _).heap.size; first | (simp; done) | (simp; omega))
              have hRC2 := (((((hRC.put hgB 0 (.int .i64 r.1.next)).put hgB 1 (.int .i64 r.1.due)).put hgB 2 (.int .i64 r.1.tag)).put hgB 3 (.slice AL nL cL)).put hgB 4 (.slice AC nC cC)).lower (B' := wr.heap.size) (by show _ ≤ (World.alloc _ _).heap.size; first | (simp; done) | (simp; omega))
              go_simp
              refine hK.out _ _ (by exact ⟨cell_bel hfin cx, cell_bel hfin hc2, cell_bel hfin hcell⟩) (fun hHeld => ?_)
              clear hK K
              (try simp only [Act.put, qa_, qb_, qc_])
              refine wpAnyH_take (i := 14) (oi := ⟨some 12, _, _, _, _, _⟩) (v := ?v16) rfl (by kernel_rfl) (by kernel_rfl) (by kernel_rfl) (fun _ _ _ h => h) (Or.inl ⟨by rfl, ?hy16⟩) (by assumption) ?_
              case hy16 => (intro w hSw; (try dsimp only at hSw); go_simp; try (with_reducible rfl))
              (try simp only [Act.put, qa_, qb_, qc_])
              refine wpAnyH_done (by kernel_rfl) ?_ _
              go_wp2_with fail
              go_meet
              exact ⟨_, AL, AC, nL, cL, nC, cC, rfl, rfl, by first | exact Zg | simpa using Zg, hRL2, hRC2, by first | exact hfin | simpa using hfin, hgl⟩
            exact AllReadyH.nil
          exact AllReadyH.nil
        exact AllReadyH.nil
      case rest =>
      obtain ⟨g, AL, AC, nL, cL, nC, cC, rfl, rfl, Zg, hRL, hRC, hsx, hgl⟩ := hcut
      have hX2 := hX.below hsx hX.size
      have hB2 := bel_trans hB hsx
      have hO2 := hO.below hsx
      have z0 := Zg.cell 0; have z3 := Zg.cell 3; have z4 := Zg.cell 4; have x0 := hX2.cell 0; have f0 := hX2.frozen 0
      have hsz := hsx.size
      rcases hok : r.2 with _ | _
      · have HE := Lib.hid (show folL l R cl = ([], false) by rw [HST.out, if_neg (fun h => by rw [hok] at h; exact absurd h.1 (by simp))])
        clear hok
        go_wp2
        refine bodyPost_ret (v := .tuple #[.slice none 0 0, .bool false]) (by simp [results, Try.results14, go_sem]) rfl ?_
        exact ⟨_, by rw [HE.out], by rw [HE.out]; exact ReadsF.nil _ _, hB2⟩
      · by_cases hn : r.1.next = nx
        · have HE := Lib.hid (show folL l R cl = if k + 1 = R.length then (r.1.load, true) else folL l (R.drop (k + 1)) r.1.cell by rw [HST.out, if_pos ⟨hok, by rw [hn, HNX.out]⟩])
          have hgo := reach_go (s := y) HBy.out H80.out (by rw [HRr.out, hok])
          rw [HRr.out] at hgo
          have HN8 := Lib.hid (show k + 1 < n2 → 0 ≤ r.1.next ∧ r.1.next < 8 from fun h => by rw [hn, HNX.out]; exact fol_mid HR8.out (by rw [HRn.out]; exact h))
          have qn : (r.1.next != nx) = false := by simp [hn]
          clear hok hn
          obtain ⟨A9, n9, c9, e9, hC1, hC2, hIC, -⟩ := hRC
          injection e9 with e91 e92 e93
          subst e91 e92 e93
          have hRL2 := hRL.lower (B' := w.heap.size + 1) (by omega)
          go_wp2_with fail
          go_region
          go_wp2_with fail
          go_roundw
          case rel => exact ⟨k + 1, r.1.load, r.1.cell, by omega, by go_num, hRL2.put (by omega) 0 _, hO2.far (g := w.heap.size) (by omega) 0 _, fun h => ⟨by rw [HE.out, if_neg (by rw [HRn.out]; omega)], hgo.2.1 (HN8.out h), hgo.2.2⟩, fun h => by rw [HE.out, if_pos (by rw [HRn.out]; omega)], CellAt.put hX2 (sno _ _ _) hC1 hC2 hIC, by first | exact bel_drew (bel_put hB2 (Nat.le_refl _) _) | exact bel_put hB2 (Nat.le_refl _) _⟩
          case measure => simp [intOf]; omega
        · have HE := Lib.hid (show folL l R cl = ([], false) by rw [HST.out, if_neg (fun h => hn (by rw [h.2, HNX.out]))])
          have qn : (r.1.next != nx) = true := by simpa using hn
          clear hok hn
          go_wp2
          refine bodyPost_ret (v := .tuple #[.slice none 0 0, .bool false]) (by simp [results, Try.results14, go_sem]) rfl ?_
          exact ⟨_, by rw [HE.out], by rw [HE.out]; exact ReadsF.nil _ _, hB2⟩
    · obtain rfl : k = n2 := by omega
      have HE := Lib.hid (hend rfl)
      obtain ⟨Av, nv, cv, rfl, hv⟩ := id hLd
      clear hend hgo hv
      go_wp2
      refine bodyPost_ret (v := .tuple #[.slice Av nv cv, .bool true]) (by simp [results, Try.results14, go_sem]) rfl ?_
      exact ⟨_, by rw [HE.out], by rw [HE.out]; exact hLd.lower (by omega), hB⟩
end Go.Proofs.Ytnfmjgldcnokbaa
namespace Go.Proofs.Ytnfmjgldcnokbaa
open Go.ChangeShapes Go.WideShapes Go.ChangeAt Go.RowKit
open Fld
set_option maxRecDepth 100000
set_option linter.unusedVariables false
set_option linter.unusedSimpArgs false
set_option maxHeartbeats 8000000 in
theorem i_Follow_2 {w : World} {n c n2 c2 m d : Nat} {A A2 A' : Option Addr} {l R cl : List Int} (hl : Ints .i64 w w.heap.size A n l) (hR : Ints .i64 w w.heap.size A2 n2 R) (hn2 : n2 ≤ c2) (hc2m : c2 ≤ 9223372036854775807) (hc : Ints .u8 w w.heap.size A' m cl) (hmd : m ≤ d) (hd : d ≤ 9223372036854775807) (hf : FolOk l R cl) (hc1 : ¬ c2 = 1) :
    Calls Try.prog 14 #[.slice A n c, .slice A2 n2 c2, .agg #[.slice A' m d]] w fun e w' => ∃ v, e = .returned (.tuple #[v, .bool (folL l R cl).2]) ∧ ReadsF w.heap.size w' v (folL l R cl).1 ∧ Below w.heap.size w w' := by
  have h8 : n = 8 := by rw [← hl.1]; exact hf.2.1
  have h80 : m = 80 := by rw [← hc.1]; exact hf.2.2.2
  have HRt := Lib.hid (show decide (Route R) = true from decide_eq_true hf.1)
  have HF := Lib.hid (decide_eq_true hf.2)
  have HS := Lib.hid hf.2.2.1
  have HL8 := Lib.hid hf.2.1
  have hc80 := Lib.hid hf.2.2.2
  have HR8 := Lib.hid hf.1.2.1
  have hRl := hf.1.1
  have HRn := Lib.hid hR.1
  rw [HRn.out] at hRl
  obtain ⟨i0, hi0, hz0, hz1, hz2⟩ := info_parts info_int
  clear hf
  subst h8 h80
  obtain ⟨b2, off2, rfl, hb2, hcells2⟩ := hR.2.1 (by omega)
  obtain ⟨Lr, hLr⟩ : ∃ x, R.drop 1 ++ [255] = x := ⟨_, rfl⟩
  have hLn : Lr.length = n2 := by have e := HRn.out; rw [← hLr, List.length_append, List.length_drop]; simp; omega
  have HLr := Lib.hid hLr
  have HLn := Lib.hid hLn
  clear hLr hLn
  have hTl := hR.tailK 1 (by omega)
  go_enter Try.func14, Try.ntmps14
  go_wp2_with (first
    | (go_at_call 17; refine (i_RouteOk (reach hR (belx)) (by omega) hn2 hc2m).mono ?_; rintro e w1 ⟨rfl, hb1⟩; rw [HRt.out]; have hs1 : Below w.heap.size w w1 := bel_trans (belx) hb1; have bx1 : Box w1 w.heap.size 30 #[.slice A' 80 d] := (Box.new w _ _).below hb1 (by simp); have k1 := bx1.cell 0)
    | (go_at_call 57; refine (i_canFollow (reach hl hs1) (by omega) (reach hc hs1)).mono ?_; rintro e w2 ⟨rfl, hb2'⟩; rw [HF.out]; have hs2 : Below w.heap.size w w2 := bel_trans hs1 hb2'; have bx2 := bx1.below hb2' bx1.size)
    | (go_at_call 58; refine (i_clone (l := R.drop 1) (reach (reach hTl hs2) (belx)) (by omega)).mono ?_; rintro e w3 ⟨v3, rfl, hO3, hb3⟩; have hs3 : Below w.heap.size w w3 := bel_trans hs2 (bel_trans (belx) hb3); have bx3 := bx2.below hb3 bx2.size; have zz := bx2.size; have z3 := hb3.size; have hO3' := hO3.lower (base' := w.heap.size + 1) zz; have hd1 : (R.drop 1).length ≤ 4 := by rw [List.length_drop, HRn.out]; omega)
    | (at_builtin; refine wpList_app _ rfl (.tmp 24) (.tmp 25) _ rfl (w.heap.size + 1) 3 i0 _ 1 8 Try.underlying23 hi0 hz0 hz1 hz2 rfl (by omega) _ _ _ rfl (hO3'.1.alloc _) _ 1 1 [.int .i64 255] rfl (Src.one _ _ _) (one_int _ _) (by simp only [maxLen]; omega) (by omega) (by simp; omega) ?_; intro v4 w4 hown hgr hat; have hO4 := own_sn hO3' hown HLr.out.symm (by decide); have hs4 := below_sn hs3 hO3' (by omega) hgr; have bx4 := box_sn bx3 hO3' (by omega) hgr; obtain ⟨A26, c26, rfl, h26⟩ := hO4.cap; rw [HLn.out] at hO4 ⊢; clear hown hgr hat h26))
  clear k1
  go_loopw [8, 28] (fun v i wr => ∃ (k : Nat) (ld cl' : List Int), k ≤ n2 ∧ i = .int .i64 k ∧ ReadsF (w.heap.size + 1) wr v ld ∧ Own .i64 3 wr (w.heap.size + 1) (.slice A26 n2 c26) Lr ∧ (k < n2 → folL l R cl = folL l (R.drop k) cl' ∧ cl'.length = 80 ∧ Bytes cl') ∧ (k = n2 → folL l R cl = (ld, true)) ∧ CellAt wr w.heap.size cl' ∧ Below w.heap.size w wr) (fun _ i _ => n2 - (intOf i).toNat)
  case atStart => exact ⟨0, [], cl, by omega, rfl, ReadsF.nil _ _, hO4, fun _ => ⟨rfl, hc80.out, hc.bytes⟩, fun h => by omega, ⟨A', 80, d, bx4, hmd, hd, reach hc hs4⟩, hs4⟩
  case round =>
    obtain ⟨k, ld, cl', hk, rfl, hLd, hO, hgo, hend, hCA, hB⟩ := hrel
    obtain ⟨B, m', d', hX, hmd', hd', hI⟩ := id hCA
    have cx : wr.cell? ⟨w.heap.size, 0, none⟩ = some (.slice B m' d') := hX.cell 0
    by_cases hlt : k < n2
    · obtain ⟨hfo, hI80, hby⟩ := hgo hlt
      have HFo := Lib.hid hfo
      have hkR : k < R.length := by rw [HRn.out]; exact hlt
      have hr8 : 0 ≤ R.getD k 0 ∧ R.getD k 0 < 8 := HR8.out _ (by rw [List.getD_eq_getElem?_getD, List.getElem?_eq_getElem hkR]; exact List.getElem_mem _)
      have hc2 : wr.cell? ⟨b2, off2 + k, none⟩ = some (.int .i64 (R.getD k 0)) := cell_at hB hb2 (hcells2 k hlt)
      obtain ⟨q, hq⟩ : ∃ q, R.getD k 0 = q := ⟨_, rfl⟩
      have HQ := Lib.hid hq
      rw [hq] at hr8 hc2
      clear hq
      obtain ⟨p, rfl⟩ := Int.eq_ofNat_of_zero_le hr8.1
      have hp8 : p < 8 := by omega
      have hsx := HS.out.at_ (i := p) (by rw [HL8.out]; exact hp8)
      obtain ⟨b, off, rfl, hb, hcell, hwf⟩ := (reach hl hB).at_ hp8
      obtain ⟨Aq, cq, e26, -, -, h26⟩ := hO.cap
      injection e26 with e1 e2 e3
      subst e1
      clear e2 e3
      obtain ⟨b9, off9, rfl, hb9, hcell9, hwf9⟩ := h26.at_ (show k < Lr.length by rw [HLn.out]; exact hlt)
      have HNX := Lib.hid (show Lr.getD k 0 = (R.drop (k + 1)).getD 0 255 by rw [← HLr.out]; exact fol_nxt hkR)
      obtain ⟨nx, hnx⟩ : ∃ x, Lr.getD k 0 = x := ⟨_, rfl⟩
      rw [hnx] at hcell9 HNX
      obtain ⟨y, hy⟩ : ∃ y, l.getD p 0 = y := ⟨_, rfl⟩
      have HP := Lib.hid (fpeel_p (pad := zer) (show Sec (l.getD p 0) from hsx.1) hI80 (by rw [zer_len]; exact Nat.le_refl _))
      obtain ⟨r, hr⟩ : ∃ r, ppeel y cl' zer = r := ⟨_, rfl⟩
      have HST := Lib.hid (HFo.out.trans (fol_step (S := l) (c := cl') (r := r) hkR HQ.out (by rw [hy]; exact hr)))
      rw [hy] at hcell HP
      have HRr := Lib.hid hr
      have HBy := Lib.hid hby
      have H80 := Lib.hid hI80
      have HI := Lib.hid hI
      have HkR := Lib.hid hkR
      have hz8 := hX.size
      have q1 : (k : Int) < (n2 : Int) := by omega
      have q2 : (p : Int) < 8 := by omega
      obtain ⟨Av, nv, cv, rfl, hv⟩ := id hLd
      clear hy hr hsx hwf hfo hI80 hby hnx hwf9 h26 hgo hend hv hkR hr8 hI
      go_wp2_with fail
      go_cut [11, 12] (fun t11 t12 wx => ∃ (g : Nat) (AL AC : Option Addr) (nL cL nC cC : Nat), t11 = .pointer (some ⟨g, 0, none⟩) ∧ t12 = .bool r.2 ∧ Box wx g 42 #[.int .i64 r.1.next, .int .i64 r.1.due, .int .i64 r.1.tag, .slice AL nL cL, .slice AC nC cC] ∧ ReadsF wr.heap.size wx (.slice AL nL cL) r.1.load ∧ ReadsF wr.heap.size wx (.slice AC nC cC) r.1.cell ∧ Below wr.heap.size wr wx ∧ wr.heap.size ≤ g)
      case first =>
        refine wp_region_held_drew (S := (fun w' => w'.cell? ⟨w.heap.size, 0, none⟩ = some (Value.slice B m' d') ∧ w'.cell? ⟨b2, off2 + k, none⟩ = some (Value.int .i64 (p : Int)) ∧ w'.cell? ⟨b, off + p, none⟩ = some (Value.int .i64 y))) (by kernel_rfl) (by exact ⟨cx, hc2, hcell⟩) (fun hHeld => ?_)
        refine wpAnyH_take (i := 0) (oi := ⟨some 34, _, _, _, _, _⟩) (v := ?v1) rfl (by kernel_rfl) (by kernel_rfl) (by kernel_rfl) (fun _ _ _ h => h) (Or.inl ⟨by rfl, ?hy1⟩) (by assumption) ?_
        case hy1 => (intro w hSw; (try dsimp only at hSw); go_simp; try (with_reducible rfl))
        (try simp only [Act.put, qa_, qb_, qc_])
        refine wpAnyH_take (i := 1) (oi := ⟨some 35, _, _, _, _, _⟩) (v := ?v2) rfl (by kernel_rfl) (by kernel_rfl) (by kernel_rfl) (fun _ _ _ h => h) (Or.inl ⟨by rfl, ?hy2⟩) (by assumption) ?_
        case hy2 => (intro w hSw; (try dsimp only at hSw); go_simp; try (with_reducible rfl))
        (try simp only [Act.put, qa_, qb_, qc_])
        refine wpAnyH_take (i := 2) (oi := ⟨some 36, _, _, _, _, _⟩) (v := ?v3) rfl (by kernel_rfl) (by kernel_rfl) (by kernel_rfl) (fun _ _ _ h => h) (Or.inl ⟨by rfl, ?hy3⟩) (by assumption) ?_
        case hy3 => (intro w hSw; (try dsimp only at hSw); go_simp; try (with_reducible rfl))
        (try simp only [Act.put, qa_, qb_, qc_])
        refine wpAnyH_take (i := 3) (oi := ⟨some 37, _, _, _, _, _⟩) (v := ?v4) rfl (by kernel_rfl) (by kernel_rfl) (by kernel_rfl) (fun _ _ _ h => h) (Or.inl ⟨by rfl, ?hy4⟩) (by assumption) ?_
        case hy4 => (intro w hSw; (try dsimp only at hSw); go_simp; try (with_reducible rfl))
        (try simp only [Act.put, qa_, qb_, qc_])
        refine wpAnyH_take (i := 4) (oi := ⟨some 38, _, _, _, _, _⟩) (v := ?v5) rfl (by kernel_rfl) (by kernel_rfl) (by kernel_rfl) (fun _ _ _ h => h) (Or.inl ⟨by rfl, ?hy5⟩) (by assumption) ?_
        case hy5 => (intro w hSw; (try dsimp only at hSw); go_simp; try (with_reducible rfl))
        (try simp only [Act.put, qa_, qb_, qc_])
        refine wpAnyH_take (i := 5) (oi := ⟨some 39, _, _, _, _, _⟩) (v := ?v6) rfl (by kernel_rfl) (by kernel_rfl) (by kernel_rfl) (fun _ _ _ h => h) (Or.inl ⟨by rfl, ?hy6⟩) (by assumption) ?_
        case hy6 => (intro w hSw; (try dsimp only at hSw); go_simp; try (with_reducible rfl))
        (try simp only [Act.put, qa_, qb_, qc_])
        refine wpAnyH_take (i := 6) (oi := ⟨some 40, _, _, _, _, _⟩) (v := ?v7) rfl (by kernel_rfl) (by kernel_rfl) (by kernel_rfl) (fun _ _ _ h => h) (Or.inl ⟨by rfl, ?hy7⟩) (by assumption) ?_
        case hy7 => (intro w hSw; (try dsimp only at hSw); go_simp; try (with_reducible rfl))
        (try simp only [Act.put, qa_, qb_, qc_])
        refine wpAnyH_take (i := 7) (oi := ⟨some 41, _, _, _, _, _⟩) (v := ?v8) rfl (by kernel_rfl) (by kernel_rfl) (by kernel_rfl) (fun _ _ _ h => h) (Or.inl ⟨by rfl, ?hy8⟩) (by assumption) ?_
        case hy8 => (intro w hSw; (try dsimp only at hSw); go_simp; try (with_reducible rfl))
        (try simp only [Act.put, qa_, qb_, qc_])
        refine wpAnyH_ready (rs := [8, 12]) (by kernel_rfl) (by simp) ?_
        refine AllReadyH.cons rfl (fun K hK => ?_) ?_
        · have hX : Below wr.heap.size wr (wr.drew) := (belx)
          go_simp
          go_at_call 59
          refine (i_peelPlain y (reach HI.out hX) hmd' hd').mono ?_
          rintro e w2 ⟨vL, vC, rfl, hRL, hRC, hb⟩
          rw [HP.out, HRr.out] at hRL hRC ⊢
          obtain ⟨AL, nL, cL, rfl, hL1, hL2, hIL, hLo⟩ := hRL
          obtain ⟨AC, nC, cC, rfl, hC1, hC2, hIC, hCo⟩ := hRC
          have hRL : ReadsF (wr.drew).heap.size w2 (.slice AL nL cL) r.1.load := ⟨AL, nL, cL, rfl, hL1, hL2, hIL, hLo⟩
          have hRC : ReadsF (wr.drew).heap.size w2 (.slice AC nC cC) r.1.cell := ⟨AC, nC, cC, rfl, hC1, hC2, hIC, hCo⟩
          have hx : Below wr.heap.size wr w2 := bel_trans hX hb
          go_wp2_with fail
          refine hK.out _ _ (by exact ⟨cell_bel hx cx, cell_bel hx hc2, cell_bel hx hcell⟩) (fun hHeld => ?_)
          clear hK K
          (try simp only [Act.put, qa_, qb_, qc_])
          refine wpAnyH_take (i := 9) (oi := ⟨some 33, _, _, _, _, _⟩) (v := ?v9) rfl (by kernel_rfl) (by kernel_rfl) (by kernel_rfl) (fun _ _ _ h => h) (Or.inl ⟨by rfl, ?hy9⟩) (by assumption) ?_
          case hy9 => (intro w hSw; (try dsimp only at hSw); go_simp; try (with_reducible rfl))
          (try simp only [Act.put, qa_, qb_, qc_])
          refine wpAnyH_take (i := 10) (oi := ⟨some 43, _, _, _, _, _⟩) (v := ?v10) rfl (by kernel_rfl) (by kernel_rfl) (by kernel_rfl) (fun _ _ _ h => h) (Or.inl ⟨by rfl, ?hy10⟩) (by assumption) ?_
          case hy10 => (intro w hSw; (try dsimp only at hSw); go_simp; try (with_reducible rfl))
          (try simp only [Act.put, qa_, qb_, qc_])
          refine wpAnyH_take (i := 11) (oi := ⟨some 44, _, _, _, _, _⟩) (v := ?v11) rfl (by kernel_rfl) (by kernel_rfl) (by kernel_rfl) (fun _ _ _ h => h) (Or.inl ⟨by rfl, ?hy11⟩) (by assumption) ?_
          case hy11 => (intro w hSw; (try dsimp only at hSw); go_simp; try (with_reducible rfl))
          (try simp only [Act.put, qa_, qb_, qc_])
          refine wpAnyH_ready (rs := [12]) (by kernel_rfl) (by simp) ?_
          refine AllReadyH.cons rfl (fun K hK => ?_) ?_
          · go_simp
            refine hK.out _ _ (by exact ⟨cell_bel (show Below wr.heap.size wr (w2.alloc (.cells #[.int .i64 0, .int .i64 0, .int .i64 0, .slice none 0 0, .slice none 0 0] 42)) from bel_alloc hx _) cx, cell_bel (show Below wr.heap.size wr (w2.alloc (.cells #[.int .i64 0, .int .i64 0, .int .i64 0, .slice none 0 0, .slice none 0 0] 42)) from bel_alloc hx _) hc2, cell_bel (show Below wr.heap.size wr (w2.alloc (.cells #[.int .i64 0, .int .i64 0, .int .i64 0, .slice none 0 0, .slice none 0 0] 42)) from bel_alloc hx _) hcell⟩) (fun hHeld => ?_)
            clear hK K
            (try simp only [Act.put, qa_, qb_, qc_])
            refine wpAnyH_ready (rs := [13]) (by kernel_rfl) (by simp) ?_
            refine AllReadyH.cons rfl (fun K hK => ?_) ?_
            · have Zg : Box (w2.alloc (.cells #[.int .i64 r.1.next, .int .i64 r.1.due, .int .i64 r.1.tag, .slice AL nL cL, .slice AC nC cC] 42)) w2.heap.size 42 #[.int .i64 r.1.next, .int .i64 r.1.due, .int .i64 r.1.tag, .slice AL nL cL, .slice AC nC cC] := Box.new _ _ _
              have hfin : Below wr.heap.size wr (w2.alloc (.cells #[.int .i64 r.1.next, .int .i64 r.1.due, .int .i64 r.1.tag, .slice AL nL cL, .slice AC nC cC] 42)) := bel_alloc hx _
              have hgl : wr.heap.size ≤ w2.heap.size := hx.size
              have hRL2 := (hRL.below (show Below w2.heap.size w2 (w2.alloc (.cells #[.int .i64 r.1.next, .int .i64 r.1.due, .int .i64 r.1.tag, .slice AL nL cL, .slice AC nC cC] 42)) from bel_alloc (Below.refl _ _) _)).lower (B' := wr.heap.size) (by first | exact Nat.le_refl _ | (show _ ≤ (World.alloc _ _).heap.size; first | (simp; done) | (simp; omega)))
              have hRC2 := (hRC.below (show Below w2.heap.size w2 (w2.alloc (.cells #[.int .i64 r.1.next, .int .i64 r.1.due, .int .i64 r.1.tag, .slice AL nL cL, .slice AC nC cC] 42)) from bel_alloc (Below.refl _ _) _)).lower (B' := wr.heap.size) (by first | exact Nat.le_refl _ | (show _ ≤ (World.alloc _ _).heap.size; first | (simp; done) | (simp; omega)))
              go_simp
              refine hK.out _ _ (by exact ⟨cell_bel hfin cx, cell_bel hfin hc2, cell_bel hfin hcell⟩) (fun hHeld => ?_)
              clear hK K
              (try simp only [Act.put, qa_, qb_, qc_])
              refine wpAnyH_take (i := 14) (oi := ⟨some 12, _, _, _, _, _⟩) (v := ?v12) rfl (by kernel_rfl) (by kernel_rfl) (by kernel_rfl) (fun _ _ _ h => h) (Or.inl ⟨by rfl, ?hy12⟩) (by assumption) ?_
              case hy12 => (intro w hSw; (try dsimp only at hSw); go_simp; try (with_reducible rfl))
              (try simp only [Act.put, qa_, qb_, qc_])
              refine wpAnyH_done (by kernel_rfl) ?_ _
              go_wp2_with fail
              go_meet
              exact ⟨_, AL, AC, nL, cL, nC, cC, rfl, rfl, by first | exact Zg | simpa using Zg, hRL2, hRC2, by first | exact hfin | simpa using hfin, hgl⟩
            exact AllReadyH.nil
          exact AllReadyH.nil
        refine AllReadyH.cons rfl (fun K hK => ?_) ?_
        · go_simp
          refine hK.out _ _ (by exact ⟨cell_bel (show Below wr.heap.size wr ((wr.alloc (.cells #[.int .i64 0, .int .i64 0, .int .i64 0, .slice none 0 0, .slice none 0 0] 42)).drew) from (belx)) cx, cell_bel (show Below wr.heap.size wr ((wr.alloc (.cells #[.int .i64 0, .int .i64 0, .int .i64 0, .slice none 0 0, .slice none 0 0] 42)).drew) from (belx)) hc2, cell_bel (show Below wr.heap.size wr ((wr.alloc (.cells #[.int .i64 0, .int .i64 0, .int .i64 0, .slice none 0 0, .slice none 0 0] 42)).drew) from (belx)) hcell⟩) (fun hHeld => ?_)
          clear hK K
          (try simp only [Act.put, qa_, qb_, qc_])
          refine wpAnyH_ready (rs := [8]) (by kernel_rfl) (by simp) ?_
          refine AllReadyH.cons rfl (fun K hK => ?_) ?_
          · have hX : Below wr.heap.size wr ((wr.alloc (.cells #[.int .i64 0, .int .i64 0, .int .i64 0, .slice none 0 0, .slice none 0 0] 42)).drew) := (belx)
            go_simp
            go_at_call 59
            refine (i_peelPlain y (reach HI.out hX) hmd' hd').mono ?_
            rintro e w2 ⟨vL, vC, rfl, hRL, hRC, hb⟩
            rw [HP.out, HRr.out] at hRL hRC ⊢
            obtain ⟨AL, nL, cL, rfl, hL1, hL2, hIL, hLo⟩ := hRL
            obtain ⟨AC, nC, cC, rfl, hC1, hC2, hIC, hCo⟩ := hRC
            have hRL : ReadsF ((wr.alloc (.cells #[.int .i64 0, .int .i64 0, .int .i64 0, .slice none 0 0, .slice none 0 0] 42)).drew).heap.size w2 (.slice AL nL cL) r.1.load := ⟨AL, nL, cL, rfl, hL1, hL2, hIL, hLo⟩
            have hRC : ReadsF ((wr.alloc (.cells #[.int .i64 0, .int .i64 0, .int .i64 0, .slice none 0 0, .slice none 0 0] 42)).drew).heap.size w2 (.slice AC nC cC) r.1.cell := ⟨AC, nC, cC, rfl, hC1, hC2, hIC, hCo⟩
            have hx : Below wr.heap.size wr w2 := bel_trans hX hb
            have Zb : Box ((wr.alloc (.cells #[.int .i64 0, .int .i64 0, .int .i64 0, .slice none 0 0, .slice none 0 0] 42)).drew) (wr.heap.size) 42 #[.int .i64 0, .int .i64 0, .int .i64 0, .slice none 0 0, .slice none 0 0] := Box.drew (show Box ((wr.alloc (.cells #[.int .i64 0, .int .i64 0, .int .i64 0, .slice none 0 0, .slice none 0 0] 42))) (wr.heap.size) 42 #[.int .i64 0, .int .i64 0, .int .i64 0, .slice none 0 0, .slice none 0 0] from by simpa using Box.new wr 42 #[.int .i64 0, .int .i64 0, .int .i64 0, .slice none 0 0, .slice none 0 0])
            replace Zb := Box.below Zb hb Zb.size
            have zb0 := Zb.cell 0; have zf0 := Zb.frozen 0
            have zb1 := Zb.cell 1; have zf1 := Zb.frozen 1
            have zb2 := Zb.cell 2; have zf2 := Zb.frozen 2
            have zb3 := Zb.cell 3; have zf3 := Zb.frozen 3
            have zb4 := Zb.cell 4; have zf4 := Zb.frozen 4
            go_wp2_with fail
            refine hK.out _ _ (by exact ⟨cell_bel hx cx, cell_bel hx hc2, cell_bel hx hcell⟩) (fun hHeld => ?_)
            clear hK K
            (try simp only [Act.put, qa_, qb_, qc_])
            refine wpAnyH_take (i := 9) (oi := ⟨some 33, _, _, _, _, _⟩) (v := ?v13) rfl (by kernel_rfl) (by kernel_rfl) (by kernel_rfl) (fun _ _ _ h => h) (Or.inl ⟨by rfl, ?hy13⟩) (by assumption) ?_
            case hy13 => (intro w hSw; (try dsimp only at hSw); go_simp; try (with_reducible rfl))
            (try simp only [Act.put, qa_, qb_, qc_])
            refine wpAnyH_take (i := 10) (oi := ⟨some 43, _, _, _, _, _⟩) (v := ?v14) rfl (by kernel_rfl) (by kernel_rfl) (by kernel_rfl) (fun _ _ _ h => h) (Or.inl ⟨by rfl, ?hy14⟩) (by assumption) ?_
            case hy14 => (intro w hSw; (try dsimp only at hSw); go_simp; try (with_reducible rfl))
            (try simp only [Act.put, qa_, qb_, qc_])
            refine wpAnyH_take (i := 11) (oi := ⟨some 44, _, _, _, _, _⟩) (v := ?v15) rfl (by kernel_rfl) (by kernel_rfl) (by kernel_rfl) (fun _ _ _ h => h) (Or.inl ⟨by rfl, ?hy15⟩) (by assumption) ?_
            case hy15 => (intro w hSw; (try dsimp only at hSw); go_simp; try (with_reducible rfl))
            (try simp only [Act.put, qa_, qb_, qc_])
            refine wpAnyH_ready (rs := [13]) (by kernel_rfl) (by simp) ?_
            refine AllReadyH.cons rfl (fun K hK => ?_) ?_
            · have hgl : wr.heap.size ≤ wr.heap.size := by omega
              have hfin := (bel_put (bel_put (bel_put (bel_put (bel_put hx (p := ⟨wr.heap.size, 0, none⟩) (by show wr.heap.size ≤ wr.heap.size; omega) (.int .i64 r.1.next)) (p := ⟨wr.heap.size, 1, none⟩) (by show wr.heap.size ≤ wr.heap.size; omega) (.int .i64 r.1.due)) (p := ⟨wr.heap.size, 2, none⟩) (by show wr.heap.size ≤ wr.heap.size; omega) (.int .i64 r.1.tag)) (p := ⟨wr.heap.size, 3, none⟩) (by show wr.heap.size ≤ wr.heap.size; omega) (.slice AL nL cL)) (p := ⟨wr.heap.size, 4, none⟩) (by show wr.heap.size ≤ wr.heap.size; omega) (.slice AC nC cC))
              have Zg := (((((Zb.put 0 (.int .i64 r.1.next)).put 1 (.int .i64 r.1.due)).put 2 (.int .i64 r.1.tag)).put 3 (.slice AL nL cL)).put 4 (.slice AC nC cC))
              have hgB : wr.heap.size < (((wr.alloc (.cells #[.int .i64 0, .int .i64 0, .int .i64 0, .slice none 0 0, .slice none 0 0] 42))).drew).heap.size := by show wr.heap.size < (World.alloc _ _).heap.size; first | (simp; done) | (simp; omega)
              have hRL2 := (((((hRL.put hgB 0 (.int .i64 r.1.next)).put hgB 1 (.int .i64 r.1.due)).put hgB 2 (.int .i64 r.1.tag)).put hgB 3 (.slice AL nL cL)).put hgB 4 (.slice AC nC cC)).lower (B' := wr.heap.size) (by show _ ≤ (World.alloc _ _).heap.size; first | (simp; done) | (simp; omega))
              have hRC2 := (((((hRC.put hgB 0 (.int .i64 r.1.next)).put hgB 1 (.int .i64 r.1.due)).put hgB 2 (.int .i64 r.1.tag)).put hgB 3 (.slice AL nL cL)).put hgB 4 (.slice AC nC cC)).lower (B' := wr.heap.size) (by show _ ≤ (World.alloc _ _).heap.size; first | (simp; done) | (simp; omega))
              go_simp
              refine hK.out _ _ (by exact ⟨cell_bel hfin cx, cell_bel hfin hc2, cell_bel hfin hcell⟩) (fun hHeld => ?_)
              clear hK K
              (try simp only [Act.put, qa_, qb_, qc_])
              refine wpAnyH_take (i := 14) (oi := ⟨some 12, _, _, _, _, _⟩) (v := ?v16) rfl (by kernel_rfl) (by kernel_rfl) (by kernel_rfl) (fun _ _ _ h => h) (Or.inl ⟨by rfl, ?hy16⟩) (by assumption) ?_
              case hy16 => (intro w hSw; (try dsimp only at hSw); go_simp; try (with_reducible rfl))
              (try simp only [Act.put, qa_, qb_, qc_])
              refine wpAnyH_done (by kernel_rfl) ?_ _
              go_wp2_with fail
              go_meet
              exact ⟨_, AL, AC, nL, cL, nC, cC, rfl, rfl, by first | exact Zg | simpa using Zg, hRL2, hRC2, by first | exact hfin | simpa using hfin, hgl⟩
            exact AllReadyH.nil
          exact AllReadyH.nil
        exact AllReadyH.nil
      case rest =>
      obtain ⟨g, AL, AC, nL, cL, nC, cC, rfl, rfl, Zg, hRL, hRC, hsx, hgl⟩ := hcut
      have hX2 := hX.below hsx hX.size
      have hB2 := bel_trans hB hsx
      have hO2 := hO.below hsx
      have z0 := Zg.cell 0; have z3 := Zg.cell 3; have z4 := Zg.cell 4; have x0 := hX2.cell 0; have f0 := hX2.frozen 0
      have hsz := hsx.size
      rcases hok : r.2 with _ | _
      · have HE := Lib.hid (show folL l R cl = ([], false) by rw [HST.out, if_neg (fun h => by rw [hok] at h; exact absurd h.1 (by simp))])
        clear hok
        go_wp2
        refine bodyPost_ret (v := .tuple #[.slice none 0 0, .bool false]) (by simp [results, Try.results14, go_sem]) rfl ?_
        exact ⟨_, by rw [HE.out], by rw [HE.out]; exact ReadsF.nil _ _, hB2⟩
      · by_cases hn : r.1.next = nx
        · have HE := Lib.hid (show folL l R cl = if k + 1 = R.length then (r.1.load, true) else folL l (R.drop (k + 1)) r.1.cell by rw [HST.out, if_pos ⟨hok, by rw [hn, HNX.out]⟩])
          have hgo := reach_go (s := y) HBy.out H80.out (by rw [HRr.out, hok])
          rw [HRr.out] at hgo
          have HN8 := Lib.hid (show k + 1 < n2 → 0 ≤ r.1.next ∧ r.1.next < 8 from fun h => by rw [hn, HNX.out]; exact fol_mid HR8.out (by rw [HRn.out]; exact h))
          have qn : (r.1.next != nx) = false := by simp [hn]
          clear hok hn
          obtain ⟨A9, n9, c9, e9, hC1, hC2, hIC, -⟩ := hRC
          injection e9 with e91 e92 e93
          subst e91 e92 e93
          have hRL2 := hRL.lower (B' := w.heap.size + 1) (by omega)
          go_wp2_with fail
          go_region
          go_wp2_with fail
          go_roundw
          case rel => exact ⟨k + 1, r.1.load, r.1.cell, by omega, by go_num, hRL2.put (by omega) 0 _, hO2.far (g := w.heap.size) (by omega) 0 _, fun h => ⟨by rw [HE.out, if_neg (by rw [HRn.out]; omega)], hgo.2.1 (HN8.out h), hgo.2.2⟩, fun h => by rw [HE.out, if_pos (by rw [HRn.out]; omega)], CellAt.put hX2 (sno _ _ _) hC1 hC2 hIC, by first | exact bel_drew (bel_put hB2 (Nat.le_refl _) _) | exact bel_put hB2 (Nat.le_refl _) _⟩
          case measure => simp [intOf]; omega
        · have HE := Lib.hid (show folL l R cl = ([], false) by rw [HST.out, if_neg (fun h => hn (by rw [h.2, HNX.out]))])
          have qn : (r.1.next != nx) = true := by simpa using hn
          clear hok hn
          go_wp2
          refine bodyPost_ret (v := .tuple #[.slice none 0 0, .bool false]) (by simp [results, Try.results14, go_sem]) rfl ?_
          exact ⟨_, by rw [HE.out], by rw [HE.out]; exact ReadsF.nil _ _, hB2⟩
    · obtain rfl : k = n2 := by omega
      have HE := Lib.hid (hend rfl)
      obtain ⟨Av, nv, cv, rfl, hv⟩ := id hLd
      clear hend hgo hv
      go_wp2
      refine bodyPost_ret (v := .tuple #[.slice Av nv cv, .bool true]) (by simp [results, Try.results14, go_sem]) rfl ?_
      exact ⟨_, by rw [HE.out], by rw [HE.out]; exact hLd.lower (by omega), hB⟩
end Go.Proofs.Ytnfmjgldcnokbaa
namespace Go.Proofs.Ytnfmjgldcnokbaa
set_option maxRecDepth 100000
set_option linter.unusedVariables false
set_option linter.unusedSimpArgs false
open Go.ChangeShapes Go.WideShapes Go.ChangeAt Go.RowKit
open Fld
attribute [local go_sem ↓] Go.wp_at_zero Go.wp_at_succ
theorem i_Follow_f {w : World} {n c n2 c2 m d : Nat} {A A2 A' : Option Addr} {l R cl : List Int} (hl : Ints .i64 w w.heap.size A n l) (hn : n ≤ 17592186043904) (hR : Ints .i64 w w.heap.size A2 n2 R) (hn2 : n2 ≤ 17592186043904) (hnc : n2 ≤ c2) (hcm : c2 ≤ 9223372036854775807) (hc : Ints .u8 w w.heap.size A' m cl) (hf : ¬ FolOk l R cl) :
    Calls Try.prog 14 #[.slice A n c, .slice A2 n2 c2, .agg #[.slice A' m d]] w fun e w' => e = .returned (.tuple #[.slice none 0 0, .bool false]) ∧ Below w.heap.size w w' := by
  by_cases hr : Route R
  · have HR := Lib.hid (show decide (Route R) = true from decide_eq_true hr)
    have HF := Lib.hid (show decide (CanF l cl) = false from decide_eq_false fun h => hf ⟨hr, h⟩)
    clear hf hr
    go_enter Try.func14, Try.ntmps14
    go_wp2_with (first
      | (go_at_call 17; refine (i_RouteOk (reach hR (belx)) hn2 hnc hcm).mono ?_; rintro e w1 ⟨rfl, hb1⟩; rw [HR.out]; have hs1 : Below w.heap.size w w1 := bel_trans (belx) hb1; have bx1 : Box w1 w.heap.size 30 #[.slice A' m d] := (Box.new w _ _).below hb1 (by simp); have k1 := bx1.cell 0)
      | (go_at_call 57; refine (i_canFollow (reach hl hs1) hn (reach hc hs1)).mono ?_; rintro e w2 ⟨rfl, hb2'⟩; rw [HF.out]; have hs2 : Below w.heap.size w w2 := bel_trans hs1 hb2'))
    refine bodyPost_ret (v := .tuple #[.slice none 0 0, .bool false]) (by simp [results, Try.results14, go_sem]) rfl ?_
    exact ⟨rfl, hs2⟩
  · have HR := Lib.hid (show decide (Route R) = false from decide_eq_false hr)
    clear hf hr
    go_enter Try.func14, Try.ntmps14
    go_wp2_with (go_at_call 17; refine (i_RouteOk (reach hR (belx)) hn2 hnc hcm).mono ?_; rintro e w1 ⟨rfl, hb1⟩; rw [HR.out]; have hs1 : Below w.heap.size w w1 := bel_trans (belx) hb1)
    refine bodyPost_ret (v := .tuple #[.slice none 0 0, .bool false]) (by simp [results, Try.results14, go_sem]) rfl ?_
    exact ⟨rfl, hs1⟩
theorem i_FollowR {w : World} {A A2 : Option Addr} {n c n2 c2 : Nat} {l R : List Int} {cc : List Value} {p : DCell} (h1 : tIs.R w w.heap.size [.slice A n c] l) (hz1 : l.length ≤ 1048576) (h2 : tIs.R w w.heap.size [.slice A2 n2 c2] R) (hz2 : R.length ≤ 1048576) (h3 : tCell.R w w.heap.size cc p) (hz3 : szCell p ≤ 1048576) :
    Calls Try.prog 14 #[.slice A n c, .slice A2 n2 c2, .agg cc.toArray] w fun e w' => ∃ A' c' F, e = .returned (.tuple #[.slice A' ((ffol l R p).1).length c', .bool (ffol l R p).2]) ∧ tBy.O w' [.slice A' ((ffol l R p).1).length c'] (ffol l R p).1 F ∧ New w.heap.size F ∧ Below w.heap.size w w' := by
  obtain ⟨A1, n1, c1, rfl, hc, hcm, hI⟩ := h3
  have hI1 := (slR_ints h1).1
  obtain ⟨hI2, hn2, hc2⟩ := slR_ints h2
  have e1 := hI1.1
  have e2 := hI2.1
  have main : Calls Try.prog 14 #[.slice A n c, .slice A2 n2 c2, .agg #[.slice A1 n1 c1]] w fun e w' => ∃ v, e = .returned (.tuple #[v, .bool (ffol l R p).2]) ∧ ReadsF w.heap.size w' v (ffol l R p).1 ∧ Below w.heap.size w w' := by
    by_cases hf : FolOk l R p
    · rw [ffol_t hf]
      by_cases hc1 : c2 = 1
      · exact i_Follow_1 hI1 hI2 hn2 hc2 hI hc hcm hf hc1
      · exact i_Follow_2 hI1 hI2 hn2 hc2 hI hc hcm hf hc1
    · rw [ffol_f hf]
      exact (i_Follow_f hI1 (by omega) hI2 (by omega) hn2 hc2 hI hf).mono fun e w' hh => ⟨_, hh.1, ReadsF.nil _ _, hh.2⟩
  refine main.mono ?_
  rintro e w' ⟨v, rfl, hV, hB⟩
  obtain ⟨A9, n9, c9, rfl, k1, k2, k3, k4, F, k5, k6⟩ := hV
  have e9 := k3.1
  rw [← e9] at k5 ⊢
  exact ⟨A9, c9, F, rfl, k5, k6, hB⟩
end Go.Proofs.Ytnfmjgldcnokbaa
namespace Go.Proofs.Ytnfmjgldcnokbaa
set_option linter.unusedVariables false
open Go.RowKit
open Fld
theorem i_ReachR {w : World} {A : Option Addr} {n c : Nat} {l : List Int} {a : Int} {cc : List Value} {p : DCell} (h1 : tIs.R w w.heap.size [.slice A n c] l) (hz1 : l.length ≤ 1048576) (ha : (Lit.int .i64 a).wf = true) (h2 : tCell.R w w.heap.size cc p) (hz2 : szCell p ≤ 1048576) :
    Calls Try.prog 27 #[.slice A n c, .int .i64 a, .agg cc.toArray] w fun e w' => ∃ A' c' F, e = .returned (.slice A' (freach l a p).length c') ∧ tIs.O w' [.slice A' (freach l a p).length c'] (freach l a p) F ∧ New w.heap.size F ∧ Below w.heap.size w w' := by
  obtain ⟨A1, n1, c1, rfl, hc, hcm, hI⟩ := h2
  have hI2 := (slR_ints h1).1
  refine (i_Reach a hI2 (by have := hI2.1; omega) hI hc hcm ha).mono ?_
  rintro e w' ⟨v, rfl, hO, hB⟩
  obtain ⟨A', c', rfl, _⟩ := hO.cap
  obtain ⟨F, k1, m1⟩ := hO.tSl
  exact ⟨A', c', F, rfl, k1, m1, hB⟩
theorem i_DepthR {w : World} {A : Option Addr} {n c : Nat} {l : List Int} {cc : List Value} {p : DCell} (h1 : tIs.R w w.heap.size [.slice A n c] l) (hz1 : l.length ≤ 1048576) (h2 : tCell.R w w.heap.size cc p) (hz2 : szCell p ≤ 1048576) :
    Calls Try.prog 23 #[.slice A n c, .agg cc.toArray] w fun e w' => e = .returned (.int .i64 (fdepth l p)) ∧ Below w.heap.size w w' := by
  obtain ⟨A1, n1, c1, rfl, hc, hcm, hI⟩ := h2
  have hI2 := (slR_ints h1).1
  exact i_Depth i_Reach hI2 (by have := hI2.1; omega) hI hc hcm
end Go.Proofs.Ytnfmjgldcnokbaa
