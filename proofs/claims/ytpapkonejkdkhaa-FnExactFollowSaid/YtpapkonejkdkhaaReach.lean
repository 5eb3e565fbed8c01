/-
  Who is reached: contracts of Reach of both sides.
-/
import Derived.Test.YtpapkonejkdkhaaDepth
import Derived.Test.YtpapkonejkdkhaaMk
import Derived.Deep.RegionHeld3
import Derived.Deep.DeepCutAuto
import Derived.Deep.Cut
import Derived.Deep.CutRange
namespace Go.Proofs.Ytpapkonejkdkhaa
open Go.ChangeShapes Go.WideShapes Go.ChangeAt Go.RowKit
open Fld
set_option maxRecDepth 100000
set_option linter.unusedVariables false
set_option linter.unusedSimpArgs false
/-- Bytes do not lie in a block that holds none. -/
theorem Ints.notIn {w : World} {B n g : Nat} {A : Option Addr} {l : List Int} {T : TypeId} {cs : Array Value} (h : Ints .u8 w B A n l) (hb : Box w g T cs) (hc : ∀ (j : Nat) (x : Int), cs[j]? ≠ some (Value.int .u8 x)) : n = 0 ∨ ∀ a, A = some a → a.block ≠ g := by
  by_cases h0 : n = 0
  · exact .inl h0
  · right
    obtain ⟨b, off, rfl, hlt, hcell⟩ := h.2.1 (by omega)
    intro a ha e
    injection ha with ha
    subst ha
    have e' : b = g := e
    subst e'
    have h1 := hcell 0 (by omega)
    rw [hb.cell] at h1
    exact hc _ _ h1
theorem Ints.farN {K : IntKind} {w : World} {B n g : Nat} {A : Option Addr} {l : List Int} (h : Ints K w B A n l) (hn : n = 0 ∨ ∀ a, A = some a → a.block ≠ g) (j : Nat) (u : Value) : Ints K (w.setCell ⟨g, j, none⟩ u) B A n l := by
  refine ⟨h.1, fun h0 => ?_, h.2.2⟩
  obtain ⟨b, off, rfl, hlt, hcell⟩ := h.2.1 h0
  have hne : b ≠ g := by
    rcases hn with h' | h'
    · omega
    · exact h' _ rfl
  refine ⟨b, off, rfl, hlt, fun i hi => ?_⟩
  exact (World.cell?_of_block (a := ⟨b, off + i, none⟩) (Below.heap_setCell w ⟨g, j, none⟩ u b (fun e => hne e))).trans (hcell i hi)
theorem zno : ∀ (j : Nat) (x : Int), (#[.int .i64 0, .int .i64 0, .int .i64 0, .slice none 0 0, .slice none 0 0] : Array Value)[j]? ≠ some (Value.int .u8 x) := by
  intro j x
  match j with
  | 0 => simp
  | 1 => simp
  | 2 => simp
  | 3 => simp
  | 4 => simp
  | j + 5 => simp
theorem sno (A : Option Addr) (n c : Nat) : ∀ (j : Nat) (x : Int), (#[.slice A n c] : Array Value)[j]? ≠ some (Value.int .u8 x) := by
  intro j x
  match j with
  | 0 => simp
  | j + 1 => simp
/-- The cell that lies in the box. -/
def CellAt (w : World) (g : Nat) (cl : List Int) : Prop := ∃ A n c, Box w g 26 #[.slice A n c] ∧ n ≤ c ∧ c ≤ 9223372036854775807 ∧ Ints .u8 w w.heap.size A n cl
theorem CellAt.put {w : World} {g n c : Nat} {A : Option Addr} {cl : List Int} {u : Value} (hb : Box w g 26 #[u]) (hu : ∀ (j : Nat) (x : Int), (#[u] : Array Value)[j]? ≠ some (Value.int .u8 x)) (h1 : n ≤ c) (h2 : c ≤ 9223372036854775807) (h3 : Ints .u8 w w.heap.size A n cl) : CellAt (w.setCell ⟨g, 0, none⟩ (.slice A n c)) g cl := by
  refine ⟨A, n, c, hb.put 0 _, h1, h2, ?_⟩
  have := Ints.farN h3 (h3.notIn hb hu) 0 (.slice A n c)
  simpa [World.setCell] using this
/-- What is peeled stays while the row of who was met grows. -/
theorem ReadsF.sn {B base : Nat} {w w1 : World} {o : Obj} {v v1 : Value} {l L : List Int} {k : IntKind} {e : TypeId} (h : ReadsF B w v l) (hO : Own k e w base v1 L) (hlt : ∀ b, v1.ownBlock = some b → b < B) (hg : (w.alloc o).grownBy w1 v1.ownBlock) : ReadsF B w1 v l := by
  obtain ⟨A, n, c, rfl, h2, h3, h4, h5, F, h6, h7⟩ := h
  have hk : tBy.O w1 [.slice A n c] l F := tBy.kept h6 fun f hf => by
    have hfw := tBy.lt h6 f hf
    rw [hg.block f (by simp; omega) (fun e => by have := hlt f e.symm; have := h7.2 f hf; omega)]
    exact Below.heap_alloc w o f hfw
  exact ⟨A, n, c, rfl, h2, h3, (slR_ints (tBy.read hk)).1, h5, F, hk, h7⟩
def lenOf : Value → Nat | .slice _ n _ => n | _ => 0
theorem pz8 (W : World) : Ints .u8 (W.alloc (.cells (madeCells #[Value.int .u8 0] 80) 5)) (W.alloc (.cells (madeCells #[Value.int .u8 0] 80) 5)).heap.size (some ⟨W.heap.size, 0, none⟩) 80 zer := by
  have h := World.rowIs_made W (.int .u8 0) 80 5
  exact (Own.of_row (l := zer) (h.congr fun j hj => by rw [zer_at hj]) zer_len (by simp only [maxLen]; omega) (Nat.le_refl _) (fun x hx => by unfold zer at hx; rw [List.mem_replicate] at hx; rw [hx.2]; exact wf8 ⟨by omega, by omega⟩)).intsAt.1
theorem reach_sn {S : List Int} {x : Int} {c : List Int} {k : Nat} (hk : k < 4) (h1 : 0 ≤ x ∧ x < 8) (h2 : (ppeel (S.getD x.toNat 0) c zer).2 = true) :
    reachL S (4 - k) x c = x :: reachL S (4 - (k + 1)) (ppeel (S.getD x.toNat 0) c zer).1.next (ppeel (S.getD x.toNat 0) c zer).1.cell := by
  have e : 4 - k = (4 - (k + 1)) + 1 := by omega
  rw [e]; exact reachL_t h1 h2
/-- What the next round starts from. -/
theorem reach_go {s : Int} {c : List Int} (hb : Bytes c) (hc : c.length = 80) (h : (ppeel s c zer).2 = true) :
    (Lit.int .i64 (ppeel s c zer).1.next).wf = true ∧ ((0 ≤ (ppeel s c zer).1.next ∧ (ppeel s c zer).1.next < 8) → (ppeel s c zer).1.cell.length = 80) ∧ Bytes (ppeel s c zer).1.cell := by
  refine ⟨?_, fun h8 => ppeel_cell hc (by rw [zer_len]; exact Nat.le_refl _) h (by omega), ppeel_cell_bytes hb zer_bytes⟩
  rcases ppeel_next hb h with h' | h'
  · exact wf_i64 (by omega) (by omega)
  · exact wf_i64 (by omega) (by omega)

set_option maxHeartbeats 4000000 in
theorem i_Reach_t {w : World} {n c m d : Nat} {A A' : Option Addr} {l cl : List Int} (a : Int) (hl : Ints .i64 w w.heap.size A n l) (hc : Ints .u8 w w.heap.size A' m cl) (hmd : m ≤ d) (hd : d ≤ 9223372036854775807) (ha : (Lit.int .i64 a).wf = true) (hf : CanF l cl) :
    Calls Try.prog 27 #[.slice A n c, .int .i64 a, .agg #[.slice A' m d]] w fun e w' => ∃ v, e = .returned v ∧ Own .i64 3 w' w.heap.size v (reachL l 4 a cl) ∧ Below w.heap.size w w' := by
  have h8 : n = 8 := by rw [← hl.1]; exact hf.1
  have h80 : m = 80 := by rw [← hc.1]; exact hf.2.2
  have HF := Lib.hid (decide_eq_true hf)
  have HS := Lib.hid hf.2.1
  have HL8 := Lib.hid hf.1
  have hc80 := Lib.hid hf.2.2
  obtain ⟨i0, hi0, hz0, hz1, hz2⟩ := info_parts info_int
  clear hf
  subst h8 h80
  go_enter Try.func27, Try.ntmps27
  go_wp2_with (go_at_call 63; refine (i_canFollow (reach hl (by repeat (first | (with_reducible exact Below.refl _ _) | (with_reducible assumption) | (with_reducible refine bel_alloc ?_ _) | (with_reducible refine bel_drew ?_) | (with_reducible refine below_drewN ?_ _) | (with_reducible refine bel_put ?_ (by first | exact Nat.le_refl _ | (simp; done) | (simp; omega)) _)))) (by omega) (reach hc (by repeat (first | (with_reducible exact Below.refl _ _) | (with_reducible assumption) | (with_reducible refine bel_alloc ?_ _) | (with_reducible refine bel_drew ?_) | (with_reducible refine below_drewN ?_ _) | (with_reducible refine bel_put ?_ (by first | exact Nat.le_refl _ | (simp; done) | (simp; omega)) _))))).mono ?_; rintro e w1 ⟨rfl, hB1⟩; rw [HF.out])
  have bx : Box w1 w.heap.size 26 #[.slice A' 80 d] := (Box.new w _ _).below hB1 (by simp)
  have hBw : Below w.heap.size w w1 := bel_trans (a := w) (by repeat (first | (with_reducible exact Below.refl _ _) | (with_reducible assumption) | (with_reducible refine bel_alloc ?_ _) | (with_reducible refine bel_drew ?_) | (with_reducible refine below_drewN ?_ _) | (with_reducible refine bel_put ?_ (by first | exact Nat.le_refl _ | (simp; done) | (simp; omega)) _))) hB1
  go_loopw [7, 8] (fun v i wr => ∃ (k : Nat) (x : Int) (L cl' : List Int), k ≤ 4 ∧ i = .int .i64 x ∧ (Lit.int .i64 x).wf = true ∧ L.length = k ∧ Own .i64 3 wr (w.heap.size + 1) v L ∧ reachL l 4 a cl = L ++ reachL l (4 - k) x cl' ∧ ((0 ≤ x ∧ x < 8) → cl'.length = 80) ∧ Bytes cl' ∧ CellAt wr w.heap.size cl' ∧ Below w.heap.size w wr) (fun v _ _ => 4 - lenOf v)
  case atStart => exact ⟨0, a, [], cl, by omega, rfl, ha, rfl, Own.nil _ _ _ _, rfl, fun _ => hc80.out, hc.bytes, ⟨A', 80, d, bx, hmd, hd, reach hc hBw⟩, hBw⟩
  case round =>
    obtain ⟨k, x, L, cl', hk, rfl, hxw, hLk, hO, hre, hc8, hby, hCA, hB⟩ := hrel
    obtain ⟨B, m', d', hX, hmd', hd', hI⟩ := id hCA
    have cx : wr.cell? ⟨w.heap.size, 0, none⟩ = some (.slice B m' d') := hX.cell 0
    have HR := Lib.hid hre
    clear hre
    obtain ⟨AL0, cL0, rfl, _⟩ := hO.shape
    subst hLk
    by_cases hx : 0 ≤ x ∧ x < 8
    · have HN := Lib.hid (decide_eq_true hx)
      by_cases hk4 : L.length < 4
      · obtain ⟨p, rfl⟩ := Int.eq_ofNat_of_zero_le hx.1
        have hp8 : p < 8 := by omega
        have hsx := HS.out.at_ (i := p) (by rw [HL8.out]; exact hp8)
        obtain ⟨b, off, rfl, hb, hcell, hwf⟩ := (reach hl hB).at_ hp8
        have hz8 := hX.size
        have hI80 := hc8 hx
        have hN4 : (L.length : Int) < 4 := by omega
        have q2 : (p : Int) < 8 := by omega
        have HBy := Lib.hid hby
        have H80 := Lib.hid hI80
        have HX8 := Lib.hid hx
        have HI := Lib.hid hI
        obtain ⟨y, hy⟩ : ∃ y, l.getD p 0 = y := ⟨_, rfl⟩
        have HY := Lib.hid hy
        have HP := Lib.hid (fpeel_p (pad := zer) (show Sec (l.getD p 0) from hsx.1) hI80 (by rw [zer_len]; exact Nat.le_refl _))
        rw [hy] at hcell hwf HP
        obtain ⟨r, hr⟩ : ∃ r, ppeel y cl' zer = r := ⟨_, rfl⟩
        have HRr := Lib.hid hr
        clear hy hr hsx hwf hc8 hI80 hby hx
        go_wp2_with (go_at_call 64; refine (i_isNode _ _).mono ?_; rintro e w' ⟨rfl, rfl⟩; rw [HN.out])
        go_wp2_with fail
        go_cut [9, 10] (fun t9 t10 wx => ∃ (g : Nat) (AL AC : Option Addr) (nL cL nC cC : Nat), t9 = .pointer (some ⟨g, 0, none⟩) ∧ t10 = .bool r.2 ∧ Box wx g 28 #[.int .i64 r.1.next, .int .i64 r.1.due, .int .i64 r.1.tag, .slice AL nL cL, .slice AC nC cC] ∧ ReadsF wr.heap.size wx (.slice AL nL cL) r.1.load ∧ ReadsF wr.heap.size wx (.slice AC nC cC) r.1.cell ∧ Below wr.heap.size wr wx ∧ wr.heap.size ≤ g)
        case first =>
          refine wp_region_held_drew (S := (fun w' => w'.cell? ⟨w.heap.size, 0, none⟩ = some (Value.slice B m' d') ∧ w'.cell? ⟨b, off + p, none⟩ = some (Value.int .i64 y))) (by kernel_rfl) (by exact ⟨cx, hcell⟩) (fun hHeld => ?_)
          refine wpAnyH_take (i := 0) (oi := ⟨some 24, _, _, _, _, _⟩) (v := ?v1) rfl (by kernel_rfl) (by kernel_rfl) (by kernel_rfl) (fun _ _ _ h => h) (Or.inl ⟨by rfl, ?hy1⟩) (by assumption) ?_
          case hy1 => (intro w hSw; (try dsimp only at hSw); go_simp; try (with_reducible rfl))
          (try simp only [Act.put, List.setIfInBounds_toArray, List.set_cons_zero, List.set_cons_succ])
          refine wpAnyH_take (i := 1) (oi := ⟨some 25, _, _, _, _, _⟩) (v := ?v2) rfl (by kernel_rfl) (by kernel_rfl) (by kernel_rfl) (fun _ _ _ h => h) (Or.inl ⟨by rfl, ?hy2⟩) (by assumption) ?_
          case hy2 => (intro w hSw; (try dsimp only at hSw); go_simp; try (with_reducible rfl))
          (try simp only [Act.put, List.setIfInBounds_toArray, List.set_cons_zero, List.set_cons_succ])
          refine wpAnyH_take (i := 2) (oi := ⟨some 26, _, _, _, _, _⟩) (v := ?v3) rfl (by kernel_rfl) (by kernel_rfl) (by kernel_rfl) (fun _ _ _ h => h) (Or.inl ⟨by rfl, ?hy3⟩) (by assumption) ?_
          case hy3 => (intro w hSw; (try dsimp only at hSw); go_simp; try (with_reducible rfl))
          (try simp only [Act.put, List.setIfInBounds_toArray, List.set_cons_zero, List.set_cons_succ])
          refine wpAnyH_take (i := 3) (oi := ⟨some 27, _, _, _, _, _⟩) (v := ?v4) rfl (by kernel_rfl) (by kernel_rfl) (by kernel_rfl) (fun _ _ _ h => h) (Or.inl ⟨by rfl, ?hy4⟩) (by assumption) ?_
          case hy4 => (intro w hSw; (try dsimp only at hSw); go_simp; try (with_reducible rfl))
          (try simp only [Act.put, List.setIfInBounds_toArray, List.set_cons_zero, List.set_cons_succ])
          refine wpAnyH_take (i := 4) (oi := ⟨some 28, _, _, _, _, _⟩) (v := ?v5) rfl (by kernel_rfl) (by kernel_rfl) (by kernel_rfl) (fun _ _ _ h => h) (Or.inl ⟨by rfl, ?hy5⟩) (by assumption) ?_
          case hy5 => (intro w hSw; (try dsimp only at hSw); go_simp; try (with_reducible rfl))
          (try simp only [Act.put, List.setIfInBounds_toArray, List.set_cons_zero, List.set_cons_succ])
          refine wpAnyH_ready (rs := [5, 9]) (by kernel_rfl) (by simp) ?_
          refine AllReadyH.cons rfl (fun K hK => ?_) ?_
          · have hX : Below wr.heap.size wr (wr.drew) := (by repeat (first | (with_reducible exact Below.refl _ _) | (with_reducible assumption) | (with_reducible refine bel_alloc ?_ _) | (with_reducible refine bel_drew ?_) | (with_reducible refine below_drewN ?_ _) | (with_reducible refine bel_put ?_ (by first | exact Nat.le_refl _ | (simp; done) | (simp; omega)) _)))
            go_simp
            go_at_call 65
            refine (i_peelPlain y (reach HI.out hX) hmd' hd').mono ?_
            rintro e w2 ⟨vL, vC, rfl, hRL, hRC, hb⟩
            rw [HP.out, HRr.out] at hRL hRC ⊢
            obtain ⟨AL, nL, cL, rfl, hL1, hL2, hIL, hLo⟩ := hRL
            obtain ⟨AC, nC, cC, rfl, hC1, hC2, hIC, hCo⟩ := hRC
            have hRL : ReadsF (wr.drew).heap.size w2 (.slice AL nL cL) r.1.load := ⟨AL, nL, cL, rfl, hL1, hL2, hIL, hLo⟩
            have hRC : ReadsF (wr.drew).heap.size w2 (.slice AC nC cC) r.1.cell := ⟨AC, nC, cC, rfl, hC1, hC2, hIC, hCo⟩
            have hx : Below wr.heap.size wr w2 := bel_trans hX hb
            go_wp2_with fail
            refine hK.out _ _ (by exact ⟨cell_bel hx cx, cell_bel hx hcell⟩) (fun hHeld => ?_)
            clear hK K
            (try simp only [Act.put, List.setIfInBounds_toArray, List.set_cons_zero, List.set_cons_succ])
            refine wpAnyH_take (i := 6) (oi := ⟨some 23, _, _, _, _, _⟩) (v := ?v6) rfl (by kernel_rfl) (by kernel_rfl) (by kernel_rfl) (fun _ _ _ h => h) (Or.inl ⟨by rfl, ?hy6⟩) (by assumption) ?_
            case hy6 => (intro w hSw; (try dsimp only at hSw); go_simp; try (with_reducible rfl))
            (try simp only [Act.put, List.setIfInBounds_toArray, List.set_cons_zero, List.set_cons_succ])
            refine wpAnyH_take (i := 7) (oi := ⟨some 30, _, _, _, _, _⟩) (v := ?v7) rfl (by kernel_rfl) (by kernel_rfl) (by kernel_rfl) (fun _ _ _ h => h) (Or.inl ⟨by rfl, ?hy7⟩) (by assumption) ?_
            case hy7 => (intro w hSw; (try dsimp only at hSw); go_simp; try (with_reducible rfl))
            (try simp only [Act.put, List.setIfInBounds_toArray, List.set_cons_zero, List.set_cons_succ])
            refine wpAnyH_take (i := 8) (oi := ⟨some 31, _, _, _, _, _⟩) (v := ?v8) rfl (by kernel_rfl) (by kernel_rfl) (by kernel_rfl) (fun _ _ _ h => h) (Or.inl ⟨by rfl, ?hy8⟩) (by assumption) ?_
            case hy8 => (intro w hSw; (try dsimp only at hSw); go_simp; try (with_reducible rfl))
            (try simp only [Act.put, List.setIfInBounds_toArray, List.set_cons_zero, List.set_cons_succ])
            refine wpAnyH_ready (rs := [9]) (by kernel_rfl) (by simp) ?_
            refine AllReadyH.cons rfl (fun K hK => ?_) ?_
            · go_simp
              refine hK.out _ _ (by exact ⟨cell_bel (show Below wr.heap.size wr (w2.alloc (.cells #[.int .i64 0, .int .i64 0, .int .i64 0, .slice none 0 0, .slice none 0 0] 28)) from bel_alloc hx _) cx, cell_bel (show Below wr.heap.size wr (w2.alloc (.cells #[.int .i64 0, .int .i64 0, .int .i64 0, .slice none 0 0, .slice none 0 0] 28)) from bel_alloc hx _) hcell⟩) (fun hHeld => ?_)
              clear hK K
              (try simp only [Act.put, List.setIfInBounds_toArray, List.set_cons_zero, List.set_cons_succ])
              refine wpAnyH_ready (rs := [10]) (by kernel_rfl) (by simp) ?_
              refine AllReadyH.cons rfl (fun K hK => ?_) ?_
              · have Zg : Box (w2.alloc (.cells #[.int .i64 r.1.next, .int .i64 r.1.due, .int .i64 r.1.tag, .slice AL nL cL, .slice AC nC cC] 28)) w2.heap.size 28 #[.int .i64 r.1.next, .int .i64 r.1.due, .int .i64 r.1.tag, .slice AL nL cL, .slice AC nC cC] := Box.new _ _ _
                have hfin : Below wr.heap.size wr (w2.alloc (.cells #[.int .i64 r.1.next, .int .i64 r.1.due, .int .i64 r.1.tag, .slice AL nL cL, .slice AC nC cC] 28)) := bel_alloc hx _
                have hgl : wr.heap.size ≤ w2.heap.size := hx.size
                have hRL2 := (hRL.below (show Below w2.heap.size w2 (w2.alloc (.cells #[.int .i64 r.1.next, .int .i64 r.1.due, .int .i64 r.1.tag, .slice AL nL cL, .slice AC nC cC] 28)) from bel_alloc (Below.refl _ _) _)).lower (B' := wr.heap.size) (by first | exact Nat.le_refl _ | (show _ ≤ (World.alloc _ _).heap.size; first | (simp; done) | (simp; omega)))
                have hRC2 := (hRC.below (show Below w2.heap.size w2 (w2.alloc (.cells #[.int .i64 r.1.next, .int .i64 r.1.due, .int .i64 r.1.tag, .slice AL nL cL, .slice AC nC cC] 28)) from bel_alloc (Below.refl _ _) _)).lower (B' := wr.heap.size) (by first | exact Nat.le_refl _ | (show _ ≤ (World.alloc _ _).heap.size; first | (simp; done) | (simp; omega)))
                go_simp
                refine hK.out _ _ (by exact ⟨cell_bel hfin cx, cell_bel hfin hcell⟩) (fun hHeld => ?_)
                clear hK K
                (try simp only [Act.put, List.setIfInBounds_toArray, List.set_cons_zero, List.set_cons_succ])
                refine wpAnyH_take (i := 11) (oi := ⟨some 10, _, _, _, _, _⟩) (v := ?v9) rfl (by kernel_rfl) (by kernel_rfl) (by kernel_rfl) (fun _ _ _ h => h) (Or.inl ⟨by rfl, ?hy9⟩) (by assumption) ?_
                case hy9 => (intro w hSw; (try dsimp only at hSw); go_simp; try (with_reducible rfl))
                (try simp only [Act.put, List.setIfInBounds_toArray, List.set_cons_zero, List.set_cons_succ])
                refine wpAnyH_done (by kernel_rfl) ?_ _
                go_wp2_with fail
                go_meet
                exact ⟨_, AL, AC, nL, cL, nC, cC, rfl, rfl, by first | exact Zg | simpa using Zg, hRL2, hRC2, by first | exact hfin | simpa using hfin, hgl⟩
              exact AllReadyH.nil
            exact AllReadyH.nil
          refine AllReadyH.cons rfl (fun K hK => ?_) ?_
          · go_simp
            refine hK.out _ _ (by exact ⟨cell_bel (show Below wr.heap.size wr ((wr.alloc (.cells #[.int .i64 0, .int .i64 0, .int .i64 0, .slice none 0 0, .slice none 0 0] 28)).drew) from (by repeat (first | (with_reducible exact Below.refl _ _) | (with_reducible assumption) | (with_reducible refine bel_alloc ?_ _) | (with_reducible refine bel_drew ?_) | (with_reducible refine below_drewN ?_ _) | (with_reducible refine bel_put ?_ (by first | exact Nat.le_refl _ | (simp; done) | (simp; omega)) _)))) cx, cell_bel (show Below wr.heap.size wr ((wr.alloc (.cells #[.int .i64 0, .int .i64 0, .int .i64 0, .slice none 0 0, .slice none 0 0] 28)).drew) from (by repeat (first | (with_reducible exact Below.refl _ _) | (with_reducible assumption) | (with_reducible refine bel_alloc ?_ _) | (with_reducible refine bel_drew ?_) | (with_reducible refine below_drewN ?_ _) | (with_reducible refine bel_put ?_ (by first | exact Nat.le_refl _ | (simp; done) | (simp; omega)) _)))) hcell⟩) (fun hHeld => ?_)
            clear hK K
            (try simp only [Act.put, List.setIfInBounds_toArray, List.set_cons_zero, List.set_cons_succ])
            refine wpAnyH_ready (rs := [5]) (by kernel_rfl) (by simp) ?_
            refine AllReadyH.cons rfl (fun K hK => ?_) ?_
            · have hX : Below wr.heap.size wr ((wr.alloc (.cells #[.int .i64 0, .int .i64 0, .int .i64 0, .slice none 0 0, .slice none 0 0] 28)).drew) := (by repeat (first | (with_reducible exact Below.refl _ _) | (with_reducible assumption) | (with_reducible refine bel_alloc ?_ _) | (with_reducible refine bel_drew ?_) | (with_reducible refine below_drewN ?_ _) | (with_reducible refine bel_put ?_ (by first | exact Nat.le_refl _ | (simp; done) | (simp; omega)) _)))
              go_simp
              go_at_call 65
              refine (i_peelPlain y (reach HI.out hX) hmd' hd').mono ?_
              rintro e w2 ⟨vL, vC, rfl, hRL, hRC, hb⟩
              rw [HP.out, HRr.out] at hRL hRC ⊢
              obtain ⟨AL, nL, cL, rfl, hL1, hL2, hIL, hLo⟩ := hRL
              obtain ⟨AC, nC, cC, rfl, hC1, hC2, hIC, hCo⟩ := hRC
              have hRL : ReadsF ((wr.alloc (.cells #[.int .i64 0, .int .i64 0, .int .i64 0, .slice none 0 0, .slice none 0 0] 28)).drew).heap.size w2 (.slice AL nL cL) r.1.load := ⟨AL, nL, cL, rfl, hL1, hL2, hIL, hLo⟩
              have hRC : ReadsF ((wr.alloc (.cells #[.int .i64 0, .int .i64 0, .int .i64 0, .slice none 0 0, .slice none 0 0] 28)).drew).heap.size w2 (.slice AC nC cC) r.1.cell := ⟨AC, nC, cC, rfl, hC1, hC2, hIC, hCo⟩
              have hx : Below wr.heap.size wr w2 := bel_trans hX hb
              have Zb : Box ((wr.alloc (.cells #[.int .i64 0, .int .i64 0, .int .i64 0, .slice none 0 0, .slice none 0 0] 28)).drew) (wr.heap.size) 28 #[.int .i64 0, .int .i64 0, .int .i64 0, .slice none 0 0, .slice none 0 0] := Box.drew (show Box ((wr.alloc (.cells #[.int .i64 0, .int .i64 0, .int .i64 0, .slice none 0 0, .slice none 0 0] 28))) (wr.heap.size) 28 #[.int .i64 0, .int .i64 0, .int .i64 0, .slice none 0 0, .slice none 0 0] from by simpa using Box.new wr 28 #[.int .i64 0, .int .i64 0, .int .i64 0, .slice none 0 0, .slice none 0 0])
              replace Zb := Box.below Zb hb Zb.size
              have zb0 := Zb.cell 0; have zf0 := Zb.frozen 0
              have zb1 := Zb.cell 1; have zf1 := Zb.frozen 1
              have zb2 := Zb.cell 2; have zf2 := Zb.frozen 2
              have zb3 := Zb.cell 3; have zf3 := Zb.frozen 3
              have zb4 := Zb.cell 4; have zf4 := Zb.frozen 4
              go_wp2_with fail
              refine hK.out _ _ (by exact ⟨cell_bel hx cx, cell_bel hx hcell⟩) (fun hHeld => ?_)
              clear hK K
              (try simp only [Act.put, List.setIfInBounds_toArray, List.set_cons_zero, List.set_cons_succ])
              refine wpAnyH_take (i := 6) (oi := ⟨some 23, _, _, _, _, _⟩) (v := ?v10) rfl (by kernel_rfl) (by kernel_rfl) (by kernel_rfl) (fun _ _ _ h => h) (Or.inl ⟨by rfl, ?hy10⟩) (by assumption) ?_
              case hy10 => (intro w hSw; (try dsimp only at hSw); go_simp; try (with_reducible rfl))
              (try simp only [Act.put, List.setIfInBounds_toArray, List.set_cons_zero, List.set_cons_succ])
              refine wpAnyH_take (i := 7) (oi := ⟨some 30, _, _, _, _, _⟩) (v := ?v11) rfl (by kernel_rfl) (by kernel_rfl) (by kernel_rfl) (fun _ _ _ h => h) (Or.inl ⟨by rfl, ?hy11⟩) (by assumption) ?_
              case hy11 => (intro w hSw; (try dsimp only at hSw); go_simp; try (with_reducible rfl))
              (try simp only [Act.put, List.setIfInBounds_toArray, List.set_cons_zero, List.set_cons_succ])
              refine wpAnyH_take (i := 8) (oi := ⟨some 31, _, _, _, _, _⟩) (v := ?v12) rfl (by kernel_rfl) (by kernel_rfl) (by kernel_rfl) (fun _ _ _ h => h) (Or.inl ⟨by rfl, ?hy12⟩) (by assumption) ?_
              case hy12 => (intro w hSw; (try dsimp only at hSw); go_simp; try (with_reducible rfl))
              (try simp only [Act.put, List.setIfInBounds_toArray, List.set_cons_zero, List.set_cons_succ])
              refine wpAnyH_ready (rs := [10]) (by kernel_rfl) (by simp) ?_
              refine AllReadyH.cons rfl (fun K hK => ?_) ?_
              · have hgl : wr.heap.size ≤ wr.heap.size := by omega
                have hfin := (bel_put (bel_put (bel_put (bel_put (bel_put hx (p := ⟨wr.heap.size, 0, none⟩) (by show wr.heap.size ≤ wr.heap.size; omega) (.int .i64 r.1.next)) (p := ⟨wr.heap.size, 1, none⟩) (by show wr.heap.size ≤ wr.heap.size; omega) (.int .i64 r.1.due)) (p := ⟨wr.heap.size, 2, none⟩) (by show wr.heap.size ≤ wr.heap.size; omega) (.int .i64 r.1.tag)) (p := ⟨wr.heap.size, 3, none⟩) (by show wr.heap.size ≤ wr.heap.size; omega) (.slice AL nL cL)) (p := ⟨wr.heap.size, 4, none⟩) (by show wr.heap.size ≤ wr.heap.size; omega) (.slice AC nC cC))
                have Zg := (((((Zb.put 0 (.int .i64 r.1.next)).put 1 (.int .i64 r.1.due)).put 2 (.int .i64 r.1.tag)).put 3 (.slice AL nL cL)).put 4 (.slice AC nC cC))
                have hgB : wr.heap.size < (((wr.alloc (.cells #[.int .i64 0, .int .i64 0, .int .i64 0, .slice none 0 0, .slice none 0 0] 28))).drew).heap.size := by show wr.heap.size < (World.alloc _ _).heap.size; first | (simp; done) | (simp; omega)
                have hRL2 := (((((hRL.put hgB 0 (.int .i64 r.1.next)).put hgB 1 (.int .i64 r.1.due)).put hgB 2 (.int .i64 r.1.tag)).put hgB 3 (.slice AL nL cL)).put hgB 4 (.slice AC nC cC)).lower (B' := wr.heap.size) (by show _ ≤ (World.alloc _ _).heap.size; first | (simp; done) | (simp; omega))
                have hRC2 := (((((hRC.put hgB 0 (.int .i64 r.1.next)).put hgB 1 (.int .i64 r.1.due)).put hgB 2 (.int .i64 r.1.tag)).put hgB 3 (.slice AL nL cL)).put hgB 4 (.slice AC nC cC)).lower (B' := wr.heap.size) (by show _ ≤ (World.alloc _ _).heap.size; first | (simp; done) | (simp; omega))
                go_simp
                refine hK.out _ _ (by exact ⟨cell_bel hfin cx, cell_bel hfin hcell⟩) (fun hHeld => ?_)
                clear hK K
                (try simp only [Act.put, List.setIfInBounds_toArray, List.set_cons_zero, List.set_cons_succ])
                refine wpAnyH_take (i := 11) (oi := ⟨some 10, _, _, _, _, _⟩) (v := ?v13) rfl (by kernel_rfl) (by kernel_rfl) (by kernel_rfl) (fun _ _ _ h => h) (Or.inl ⟨by rfl, ?hy13⟩) (by assumption) ?_
                case hy13 => (intro w hSw; (try dsimp only at hSw); go_simp; try (with_reducible rfl))
                (try simp only [Act.put, List.setIfInBounds_toArray, List.set_cons_zero, List.set_cons_succ])
                refine wpAnyH_done (by kernel_rfl) ?_ _
                go_wp2_with fail
                go_meet
                exact ⟨_, AL, AC, nL, cL, nC, cC, rfl, rfl, by first | exact Zg | simpa using Zg, hRL2, hRC2, by first | exact hfin | simpa using hfin, hgl⟩
              exact AllReadyH.nil
            exact AllReadyH.nil
          exact AllReadyH.nil
        case rest =>
        obtain ⟨g, AL, AC, nL, cL, nC, cC, rfl, rfl, Zg, hRL, hRC, hsx, hgl⟩ := hcut
        have hX2 := hX.below hsx hX.size
        have hO2 := hO.below hsx
        have hB2 := bel_trans hB hsx
        have z0 := Zg.cell 0; have z4 := Zg.cell 4
        have hsz := hsx.size
        rcases hok : r.2 with _ | _
        · have HE := Lib.hid (show reachL l 4 a cl = L by rw [HR.out, reachL_f (by rw [show ((p : Int)).toNat = p from rfl, HY.out, HRr.out, hok]), List.append_nil])
          clear hok
          go_wp2
          go_ret
          exact ⟨_, rfl, by rw [HE.out]; exact hO2.lower (Nat.le_succ _), hB2⟩
        · have hgo := reach_go (s := y) HBy.out H80.out (by rw [HRr.out, hok])
          have HSN := Lib.hid (HR.out.trans (by rw [reach_sn hk4 HX8.out (by rw [show ((p : Int)).toNat = p from rfl, HY.out, HRr.out, hok])]))
          rw [show ((p : Int)).toNat = p from rfl, HY.out, HRr.out] at HSN
          rw [HRr.out] at hgo
          have hys : w.heap.size + 1 ≤ wc.heap.size := by omega
          clear hok
          have Z2 := Zg.alloc (.cells #[.int .i64 (p : Int)] 3)
          go_wp2_with (at_builtin; refine wpList_app _ rfl (.tmp 34) (.tmp 36) _ rfl (w.heap.size + 1) 3 i0 _ 1 8 Try.underlying40 hi0 hz0 hz1 hz2 rfl (by omega) _ _ _ rfl (hO2.1.alloc _) _ 1 1 [.int .i64 (p : Int)] rfl (Src.one _ _ _) (one_int _ _) (by simp only [maxLen]; omega) (by omega) (by simp; omega) ?_; intro v1 w3 hown hgr hat)
          have hwp : (Lit.int .i64 (p : Int)).wf = true := wf_i64 (by omega) (by omega)
          have hO3 := own_sn hO2 hown (rfl : L ++ [(p : Int)] = L ++ [(p : Int)]) hwp
          have hB3 := below_sn hB2 hO2 (by omega) hgr
          have X3 := box_sn hX2 hO2 (by omega) hgr
          have Z3 := Z2.grown hgr (fun e => by have := (hO.1.lt g e.symm).2; omega)
          have hRC3 := hRC.sn hO2 (fun b hb => (hO.1.lt b hb).2) hgr
          obtain ⟨A9, n9, c9, e9, hC1, hC2, hIC, -⟩ := hRC3
          injection e9 with e91 e92 e93
          subst e91 e92 e93
          have y0 := Z3.cell 0; have y4 := Z3.cell 4; have f0 := X3.frozen 0; have x0 := X3.cell 0
          obtain ⟨A8, c8, rfl, _⟩ := hO3.shape
          clear z0 z4 hown hat hO2 Z2 Zg hX2 hRL hRC
          go_wp2_with fail
          go_region
          go_wp2_with fail
          go_roundw
          case rel => exact ⟨L.length + 1, r.1.next, L ++ [(p : Int)], r.1.cell, by omega, rfl, hgo.1, by simp, hO3.far (g := w.heap.size) (by omega) 0 _, by rw [HSN.out]; simp, hgo.2.1, hgo.2.2, CellAt.put X3 (sno _ _ _) hC1 hC2 hIC, by first | exact bel_drew (bel_put hB3 (Nat.le_refl _) _) | exact bel_put hB3 (Nat.le_refl _) _⟩
          case measure => simp [lenOf]; omega
      · have hk' : L.length = 4 := by omega
        have HE := Lib.hid (show reachL l 4 a cl = L by rw [HR.out, hk']; simp [reachL])
        have hO' := hO.lower (Nat.le_succ _)
        rw [hk'] at hO'
        go_wp2_with (go_at_call 64; refine (i_isNode _ _).mono ?_; rintro e w' ⟨rfl, rfl⟩; rw [HN.out])
        go_ret
        exact ⟨_, rfl, by rw [HE.out]; exact hO', hB⟩
    · have HN := Lib.hid (decide_eq_false hx)
      have HE := Lib.hid (show reachL l 4 a cl = L by rw [HR.out, reachL_o hx, List.append_nil])
      go_wp2_with (go_at_call 64; refine (i_isNode _ _).mono ?_; rintro e w' ⟨rfl, rfl⟩; rw [HN.out])
      go_ret
      exact ⟨_, rfl, by rw [HE.out]; exact hO.lower (Nat.le_succ _), hB⟩
theorem i_Reach : ReachC 27 := by
  intro w n c m d A A' l cl a hl hn hc hmd hd ha
  by_cases h : CanF l cl
  · rw [freach_t h]; exact i_Reach_t a hl hc hmd hd ha h
  · rw [freach_f h]; exact (i_Reach_f a hl hn hc h).mono fun e w' hh => ⟨_, hh.1, Own.nil _ _ _ _, hh.2⟩
set_option maxHeartbeats 4000000 in
theorem s_Reach_t {w : World} {n c m d : Nat} {A A' : Option Addr} {l cl : List Int} (a : Int) (hl : Ints .i64 w w.heap.size A n l) (hc : Ints .u8 w w.heap.size A' m cl) (hmd : m ≤ d) (hd : d ≤ 9223372036854775807) (ha : 0 ≤ a ∧ a < 8) (hf : CanF l cl) :
    Calls Try.prog 26 #[.slice A n c, .int .i64 a, .agg #[.slice A' m d]] w fun e w' => ∃ v, e = .returned v ∧ Own .i64 3 w' w.heap.size v (reachL l 4 a cl) ∧ Below w.heap.size w w' := by
  have h8 : n = 8 := by rw [← hl.1]; exact hf.1
  have h80 : m = 80 := by rw [← hc.1]; exact hf.2.2
  have HSd := Lib.hid (show decide (Secs l) = true from decide_eq_true hf.2.1)
  have HS := Lib.hid hf.2.1
  have HL8 := Lib.hid hf.1
  have hc80 := Lib.hid hf.2.2
  obtain ⟨i0, hi0, hz0, hz1, hz2⟩ := info_parts info_int
  have hmk : ∀ W : World, (Instr.makeSlice 22 (.int .i64 80) (.int .i64 80)).run Try.prog W = .ok (.slice (some ⟨W.heap.size, 0, none⟩) 80 80) (W.alloc (.cells (madeCells #[Value.int .u8 0] 80) 5)) := fun W => run_make_row' (P := Try.prog) 22 5 (.int .u8 0) 1 Try.underlying22 info_by rfl .i64 .i64 80 (by omega) (by omega) W
  clear hf
  subst h8 h80
  go_enter Try.func26, Try.ntmps26
  go_wp2_with (first | (go_at_call 62; refine (s_secs (reach hl (by repeat (first | (with_reducible exact Below.refl _ _) | (with_reducible assumption) | (with_reducible refine bel_alloc ?_ _) | (with_reducible refine bel_drew ?_) | (with_reducible refine below_drewN ?_ _) | (with_reducible refine bel_put ?_ (by first | exact Nat.le_refl _ | (simp; done) | (simp; omega)) _)))) (by omega)).mono ?_; rintro e w' ⟨rfl, rfl⟩; rw [HSd.out]) | (go_at_call 49; refine (s_CellOk_t _ _ _ _ rfl).mono ?_; rintro e w1 ⟨rfl, hB1⟩; have bc : Box w1 w.heap.size 26 #[.slice A' 80 d] := (Box.new w _ _).below hB1 (by simp); have cc := bc.cell 0))
  have bx : Box (w1.alloc (.cells #[.slice A' 80 d] 26)) w1.heap.size 26 #[.slice A' 80 d] := Box.new _ _ _
  have hBw : Below w.heap.size w (w1.alloc (.cells #[.slice A' 80 d] 26)) := bel_alloc (bel_trans (a := w) (by repeat (first | (with_reducible exact Below.refl _ _) | (with_reducible assumption) | (with_reducible refine bel_alloc ?_ _) | (with_reducible refine bel_drew ?_) | (with_reducible refine below_drewN ?_ _) | (with_reducible refine bel_put ?_ (by first | exact Nat.le_refl _ | (simp; done) | (simp; omega)) _))) hB1) _
  have hgx : w.heap.size ≤ w1.heap.size := (bel_trans (a := w) (show Below w.heap.size w (w.alloc (.cells #[.slice A' 80 d] 26)) from (by repeat (first | (with_reducible exact Below.refl _ _) | (with_reducible assumption) | (with_reducible refine bel_alloc ?_ _) | (with_reducible refine bel_drew ?_) | (with_reducible refine below_drewN ?_ _) | (with_reducible refine bel_put ?_ (by first | exact Nat.le_refl _ | (simp; done) | (simp; omega)) _)))) hB1).size
  generalize w1.heap.size = gx at *
  go_loopw [7, 9] (fun v i wr => ∃ (k : Nat) (x : Int) (L cl' : List Int), k ≤ 4 ∧ i = .int .i64 x ∧ (Lit.int .i64 x).wf = true ∧ L.length = k ∧ Own .i64 3 wr (gx + 1) v L ∧ reachL l 4 a cl = L ++ reachL l (4 - k) x cl' ∧ ((0 ≤ x ∧ x < 8) → cl'.length = 80) ∧ Bytes cl' ∧ CellAt wr gx cl' ∧ Below w.heap.size w wr ∧ (k < 4 → 0 ≤ x ∧ x < 8) ∧ gx < wr.heap.size) (fun v _ _ => 4 - lenOf v)
  case atStart => exact ⟨0, a, [], cl, by omega, rfl, wf_i64 (by omega) (by omega), rfl, Own.nil _ _ _ _, rfl, fun _ => hc80.out, hc.bytes, ⟨A', 80, d, bx, hmd, hd, reach hc hBw⟩, hBw, fun _ => ha, bx.size⟩
  case round =>
    obtain ⟨k, x, L, cl', hk, rfl, hxw, hLk, hO, hre, hc8, hby, hCA, hB, hx8, hzx⟩ := hrel
    obtain ⟨B, m', d', hX, hmd', hd', hI⟩ := id hCA
    have HR := Lib.hid hre
    clear hre
    obtain ⟨AL0, cL0, rfl, _⟩ := hO.shape
    subst hLk
    by_cases hk4 : L.length < 4
    · have hx := hx8 hk4
      obtain ⟨p, rfl⟩ := Int.eq_ofNat_of_zero_le hx.1
      have hp8 : p < 8 := by omega
      have hsx := HS.out.at_ (i := p) (by rw [HL8.out]; exact hp8)
      obtain ⟨b, off, rfl, hb, hcell, hwf⟩ := (reach hl hB).at_ hp8
      have hI80 := hc8 hx
      obtain rfl : m' = 80 := by have := hI.1; omega
      have cx : wr.cell? ⟨gx, 0, none⟩ = some (.slice B 80 d') := hX.cell 0
      have hN4 : (L.length : Int) < 4 := by omega
      have q2 : (p : Int) < 8 := by omega
      have HBy := Lib.hid hby
      have H80 := Lib.hid hI80
      have HX8 := Lib.hid hx
      have HI := Lib.hid hI
      obtain ⟨y, hy⟩ : ∃ y, l.getD p 0 = y := ⟨_, rfl⟩
      have HY := Lib.hid hy
      have HSec := Lib.hid (show Sec (l.getD p 0) from hsx.1)
      rw [hy] at hcell hwf HSec
      obtain ⟨r, hr⟩ : ∃ r, ppeel y cl' zer = r := ⟨_, rfl⟩
      have HRr := Lib.hid hr
      clear hy hr hsx hwf hc8 hI80 hby hx hx8
      go_wp2_with fail
      go_wp2_with fail
      go_cut [10, 11] (fun t10 t11 wx => ∃ (g : Nat) (AL AC : Option Addr) (nL cL nC cC : Nat), t10 = .pointer (some ⟨g, 0, none⟩) ∧ t11 = .bool r.2 ∧ Box wx g 28 #[.int .i64 r.1.next, .int .i64 r.1.due, .int .i64 r.1.tag, .slice AL nL cL, .slice AC nC cC] ∧ ReadsF wr.heap.size wx (.slice AL nL cL) r.1.load ∧ ReadsF wr.heap.size wx (.slice AC nC cC) r.1.cell ∧ Below wr.heap.size wr wx ∧ wr.heap.size ≤ g)
      case first =>
        refine wp_region_held_drew (S := (fun w' => w'.cell? ⟨gx, 0, none⟩ = some (Value.slice B 80 d') ∧ w'.cell? ⟨b, off + p, none⟩ = some (Value.int .i64 y))) (by kernel_rfl) (by exact ⟨cx, hcell⟩) (fun hHeld => ?_)
        refine wpAnyH_take (i := 0) (oi := ⟨some 39, _, _, _, _, _⟩) (v := ?v14) rfl (by kernel_rfl) (by kernel_rfl) (by kernel_rfl) (fun _ _ _ h => h) (Or.inl ⟨by rfl, ?hy14⟩) (by assumption) ?_
        case hy14 => (intro w hSw; (try dsimp only at hSw); go_simp; try (with_reducible rfl))
        (try simp only [Act.put, List.setIfInBounds_toArray, List.set_cons_zero, List.set_cons_succ])
        refine wpAnyH_take (i := 1) (oi := ⟨some 40, _, _, _, _, _⟩) (v := ?v15) rfl (by kernel_rfl) (by kernel_rfl) (by kernel_rfl) (fun _ _ _ h => h) (Or.inl ⟨by rfl, ?hy15⟩) (by assumption) ?_
        case hy15 => (intro w hSw; (try dsimp only at hSw); go_simp; try (with_reducible rfl))
        (try simp only [Act.put, List.setIfInBounds_toArray, List.set_cons_zero, List.set_cons_succ])
        refine wpAnyH_take (i := 2) (oi := ⟨some 41, _, _, _, _, _⟩) (v := ?v16) rfl (by kernel_rfl) (by kernel_rfl) (by kernel_rfl) (fun _ _ _ h => h) (Or.inl ⟨by rfl, ?hy16⟩) (by assumption) ?_
        case hy16 => (intro w hSw; (try dsimp only at hSw); go_simp; try (with_reducible rfl))
        (try simp only [Act.put, List.setIfInBounds_toArray, List.set_cons_zero, List.set_cons_succ])
        refine wpAnyH_take (i := 3) (oi := ⟨some 42, _, _, _, _, _⟩) (v := ?v17) rfl (by kernel_rfl) (by kernel_rfl) (by kernel_rfl) (fun _ _ _ h => h) (Or.inl ⟨by rfl, ?hy17⟩) (by assumption) ?_
        case hy17 => (intro w hSw; (try dsimp only at hSw); go_simp; try (with_reducible rfl))
        (try simp only [Act.put, List.setIfInBounds_toArray, List.set_cons_zero, List.set_cons_succ])
        refine wpAnyH_take (i := 4) (oi := ⟨some 43, _, _, _, _, _⟩) (v := ?v18) rfl (by kernel_rfl) (by kernel_rfl) (by kernel_rfl) (fun _ _ _ h => h) (Or.inl ⟨by rfl, ?hy18⟩) (by assumption) ?_
        case hy18 => (intro w hSw; (try dsimp only at hSw); go_simp; try (with_reducible rfl))
        (try simp only [Act.put, List.setIfInBounds_toArray, List.set_cons_zero, List.set_cons_succ])
        refine wpAnyH_take (i := 5) (oi := ⟨some 44, _, _, _, _, _⟩) (v := ?v19) rfl (by kernel_rfl) (by kernel_rfl) (by kernel_rfl) (fun _ _ _ h => h) (Or.inl ⟨by rfl, ?hy19⟩) (by assumption) ?_
        case hy19 => (intro w hSw; (try dsimp only at hSw); go_simp; try (with_reducible rfl))
        (try simp only [Act.put, List.setIfInBounds_toArray, List.set_cons_zero, List.set_cons_succ])
        refine wpAnyH_ready (rs := [6, 11]) (by kernel_rfl) (by simp) ?_
        refine AllReadyH.cons rfl (fun K hK => ?_) ?_
        · go_simp
          refine hK.out _ _ (by exact ⟨cell_bel (show Below wr.heap.size wr ((wr.alloc (.cells (madeCells #[Value.int .u8 0] 80) 5)).drew) from (by repeat (first | (with_reducible exact Below.refl _ _) | (with_reducible assumption) | (with_reducible refine bel_alloc ?_ _) | (with_reducible refine bel_drew ?_) | (with_reducible refine below_drewN ?_ _) | (with_reducible refine bel_put ?_ (by first | exact Nat.le_refl _ | (simp; done) | (simp; omega)) _)))) cx, cell_bel (show Below wr.heap.size wr ((wr.alloc (.cells (madeCells #[Value.int .u8 0] 80) 5)).drew) from (by repeat (first | (with_reducible exact Below.refl _ _) | (with_reducible assumption) | (with_reducible refine bel_alloc ?_ _) | (with_reducible refine bel_drew ?_) | (with_reducible refine below_drewN ?_ _) | (with_reducible refine bel_put ?_ (by first | exact Nat.le_refl _ | (simp; done) | (simp; omega)) _)))) hcell⟩) (fun hHeld => ?_)
          clear hK K
          (try simp only [Act.put, List.setIfInBounds_toArray, List.set_cons_zero, List.set_cons_succ])
          refine wpAnyH_ready (rs := [7, 11]) (by kernel_rfl) (by simp) ?_
          refine AllReadyH.cons rfl (fun K hK => ?_) ?_
          · have hX : Below wr.heap.size wr ((wr.alloc (.cells (madeCells #[Value.int .u8 0] 80) 5)).drew) := (by repeat (first | (with_reducible exact Below.refl _ _) | (with_reducible assumption) | (with_reducible refine bel_alloc ?_ _) | (with_reducible refine bel_drew ?_) | (with_reducible refine below_drewN ?_ _) | (with_reducible refine bel_put ?_ (by first | exact Nat.le_refl _ | (simp; done) | (simp; omega)) _)))
            have hpz : Ints .u8 ((wr.alloc (.cells (madeCells #[Value.int .u8 0] 80) 5)).drew) ((wr.alloc (.cells (madeCells #[Value.int .u8 0] 80) 5)).drew).heap.size (some ⟨wr.heap.size, 0, none⟩) 80 zer := Ints.drew (by simpa using (pz8 wr))
            go_simp
            go_at_call 50
            refine (s_peel y (reach HI.out hX) hmd' hd' hpz (by omega) (by omega) HSec.out).mono ?_
            rintro e w2 ⟨vL, vC, rfl, hRL, hRC, hb⟩
            rw [HRr.out] at hRL hRC ⊢
            obtain ⟨AL, nL, cL, rfl, hL1, hL2, hIL, hLo⟩ := hRL
            obtain ⟨AC, nC, cC, rfl, hC1, hC2, hIC, hCo⟩ := hRC
            have hRL : ReadsF ((wr.alloc (.cells (madeCells #[Value.int .u8 0] 80) 5)).drew).heap.size w2 (.slice AL nL cL) r.1.load := ⟨AL, nL, cL, rfl, hL1, hL2, hIL, hLo⟩
            have hRC : ReadsF ((wr.alloc (.cells (madeCells #[Value.int .u8 0] 80) 5)).drew).heap.size w2 (.slice AC nC cC) r.1.cell := ⟨AC, nC, cC, rfl, hC1, hC2, hIC, hCo⟩
            have hx : Below wr.heap.size wr w2 := bel_trans hX hb
            go_wp2_with fail
            refine hK.out _ _ (by exact ⟨cell_bel hx cx, cell_bel hx hcell⟩) (fun hHeld => ?_)
            clear hK K
            (try simp only [Act.put, List.setIfInBounds_toArray, List.set_cons_zero, List.set_cons_succ])
            refine wpAnyH_take (i := 8) (oi := ⟨some 38, _, _, _, _, _⟩) (v := ?v20) rfl (by kernel_rfl) (by kernel_rfl) (by kernel_rfl) (fun _ _ _ h => h) (Or.inl ⟨by rfl, ?hy20⟩) (by assumption) ?_
            case hy20 => (intro w hSw; (try dsimp only at hSw); go_simp; try (with_reducible rfl))
            (try simp only [Act.put, List.setIfInBounds_toArray, List.set_cons_zero, List.set_cons_succ])
            refine wpAnyH_take (i := 9) (oi := ⟨some 47, _, _, _, _, _⟩) (v := ?v21) rfl (by kernel_rfl) (by kernel_rfl) (by kernel_rfl) (fun _ _ _ h => h) (Or.inl ⟨by rfl, ?hy21⟩) (by assumption) ?_
            case hy21 => (intro w hSw; (try dsimp only at hSw); go_simp; try (with_reducible rfl))
            (try simp only [Act.put, List.setIfInBounds_toArray, List.set_cons_zero, List.set_cons_succ])
            refine wpAnyH_take (i := 10) (oi := ⟨some 48, _, _, _, _, _⟩) (v := ?v22) rfl (by kernel_rfl) (by kernel_rfl) (by kernel_rfl) (fun _ _ _ h => h) (Or.inl ⟨by rfl, ?hy22⟩) (by assumption) ?_
            case hy22 => (intro w hSw; (try dsimp only at hSw); go_simp; try (with_reducible rfl))
            (try simp only [Act.put, List.setIfInBounds_toArray, List.set_cons_zero, List.set_cons_succ])
            refine wpAnyH_ready (rs := [11]) (by kernel_rfl) (by simp) ?_
            refine AllReadyH.cons rfl (fun K hK => ?_) ?_
            · go_simp
              refine hK.out _ _ (by exact ⟨cell_bel (show Below wr.heap.size wr (w2.alloc (.cells #[.int .i64 0, .int .i64 0, .int .i64 0, .slice none 0 0, .slice none 0 0] 28)) from bel_alloc hx _) cx, cell_bel (show Below wr.heap.size wr (w2.alloc (.cells #[.int .i64 0, .int .i64 0, .int .i64 0, .slice none 0 0, .slice none 0 0] 28)) from bel_alloc hx _) hcell⟩) (fun hHeld => ?_)
              clear hK K
              (try simp only [Act.put, List.setIfInBounds_toArray, List.set_cons_zero, List.set_cons_succ])
              refine wpAnyH_ready (rs := [12]) (by kernel_rfl) (by simp) ?_
              refine AllReadyH.cons rfl (fun K hK => ?_) ?_
              · have Zg : Box (w2.alloc (.cells #[.int .i64 r.1.next, .int .i64 r.1.due, .int .i64 r.1.tag, .slice AL nL cL, .slice AC nC cC] 28)) w2.heap.size 28 #[.int .i64 r.1.next, .int .i64 r.1.due, .int .i64 r.1.tag, .slice AL nL cL, .slice AC nC cC] := Box.new _ _ _
                have hfin : Below wr.heap.size wr (w2.alloc (.cells #[.int .i64 r.1.next, .int .i64 r.1.due, .int .i64 r.1.tag, .slice AL nL cL, .slice AC nC cC] 28)) := bel_alloc hx _
                have hgl : wr.heap.size ≤ w2.heap.size := hx.size
                have hRL2 := (hRL.below (show Below w2.heap.size w2 (w2.alloc (.cells #[.int .i64 r.1.next, .int .i64 r.1.due, .int .i64 r.1.tag, .slice AL nL cL, .slice AC nC cC] 28)) from bel_alloc (Below.refl _ _) _)).lower (B' := wr.heap.size) (by first | exact Nat.le_refl _ | (show _ ≤ (World.alloc _ _).heap.size; first | (simp; done) | (simp; omega)))
                have hRC2 := (hRC.below (show Below w2.heap.size w2 (w2.alloc (.cells #[.int .i64 r.1.next, .int .i64 r.1.due, .int .i64 r.1.tag, .slice AL nL cL, .slice AC nC cC] 28)) from bel_alloc (Below.refl _ _) _)).lower (B' := wr.heap.size) (by first | exact Nat.le_refl _ | (show _ ≤ (World.alloc _ _).heap.size; first | (simp; done) | (simp; omega)))
                go_simp
                refine hK.out _ _ (by exact ⟨cell_bel hfin cx, cell_bel hfin hcell⟩) (fun hHeld => ?_)
                clear hK K
                (try simp only [Act.put, List.setIfInBounds_toArray, List.set_cons_zero, List.set_cons_succ])
                refine wpAnyH_take (i := 13) (oi := ⟨some 11, _, _, _, _, _⟩) (v := ?v23) rfl (by kernel_rfl) (by kernel_rfl) (by kernel_rfl) (fun _ _ _ h => h) (Or.inl ⟨by rfl, ?hy23⟩) (by assumption) ?_
                case hy23 => (intro w hSw; (try dsimp only at hSw); go_simp; try (with_reducible rfl))
                (try simp only [Act.put, List.setIfInBounds_toArray, List.set_cons_zero, List.set_cons_succ])
                refine wpAnyH_done (by kernel_rfl) ?_ _
                go_wp2_with fail
                go_meet
                exact ⟨_, AL, AC, nL, cL, nC, cC, rfl, rfl, by first | exact Zg | simpa using Zg, hRL2, hRC2, by first | exact hfin | simpa using hfin, hgl⟩
              exact AllReadyH.nil
            exact AllReadyH.nil
          refine AllReadyH.cons rfl (fun K hK => ?_) ?_
          · go_simp
            refine hK.out _ _ (by exact ⟨cell_bel (show Below wr.heap.size wr (((wr.alloc (.cells (madeCells #[Value.int .u8 0] 80) 5)).alloc (.cells #[.int .i64 0, .int .i64 0, .int .i64 0, .slice none 0 0, .slice none 0 0] 28)).drew) from (by repeat (first | (with_reducible exact Below.refl _ _) | (with_reducible assumption) | (with_reducible refine bel_alloc ?_ _) | (with_reducible refine bel_drew ?_) | (with_reducible refine below_drewN ?_ _) | (with_reducible refine bel_put ?_ (by first | exact Nat.le_refl _ | (simp; done) | (simp; omega)) _)))) cx, cell_bel (show Below wr.heap.size wr (((wr.alloc (.cells (madeCells #[Value.int .u8 0] 80) 5)).alloc (.cells #[.int .i64 0, .int .i64 0, .int .i64 0, .slice none 0 0, .slice none 0 0] 28)).drew) from (by repeat (first | (with_reducible exact Below.refl _ _) | (with_reducible assumption) | (with_reducible refine bel_alloc ?_ _) | (with_reducible refine bel_drew ?_) | (with_reducible refine below_drewN ?_ _) | (with_reducible refine bel_put ?_ (by first | exact Nat.le_refl _ | (simp; done) | (simp; omega)) _)))) hcell⟩) (fun hHeld => ?_)
            clear hK K
            (try simp only [Act.put, List.setIfInBounds_toArray, List.set_cons_zero, List.set_cons_succ])
            refine wpAnyH_ready (rs := [7]) (by kernel_rfl) (by simp) ?_
            refine AllReadyH.cons rfl (fun K hK => ?_) ?_
            · have hX : Below wr.heap.size wr (((wr.alloc (.cells (madeCells #[Value.int .u8 0] 80) 5)).alloc (.cells #[.int .i64 0, .int .i64 0, .int .i64 0, .slice none 0 0, .slice none 0 0] 28)).drew) := (by repeat (first | (with_reducible exact Below.refl _ _) | (with_reducible assumption) | (with_reducible refine bel_alloc ?_ _) | (with_reducible refine bel_drew ?_) | (with_reducible refine below_drewN ?_ _) | (with_reducible refine bel_put ?_ (by first | exact Nat.le_refl _ | (simp; done) | (simp; omega)) _)))
              have hpz : Ints .u8 (((wr.alloc (.cells (madeCells #[Value.int .u8 0] 80) 5)).alloc (.cells #[.int .i64 0, .int .i64 0, .int .i64 0, .slice none 0 0, .slice none 0 0] 28)).drew) (((wr.alloc (.cells (madeCells #[Value.int .u8 0] 80) 5)).alloc (.cells #[.int .i64 0, .int .i64 0, .int .i64 0, .slice none 0 0, .slice none 0 0] 28)).drew).heap.size (some ⟨wr.heap.size, 0, none⟩) 80 zer := Ints.drew (by simpa using (reach (pz8 wr) (bel_alloc (Below.refl _ _) _)))
              go_simp
              go_at_call 50
              refine (s_peel y (reach HI.out hX) hmd' hd' hpz (by omega) (by omega) HSec.out).mono ?_
              rintro e w2 ⟨vL, vC, rfl, hRL, hRC, hb⟩
              rw [HRr.out] at hRL hRC ⊢
              obtain ⟨AL, nL, cL, rfl, hL1, hL2, hIL, hLo⟩ := hRL
              obtain ⟨AC, nC, cC, rfl, hC1, hC2, hIC, hCo⟩ := hRC
              have hRL : ReadsF (((wr.alloc (.cells (madeCells #[Value.int .u8 0] 80) 5)).alloc (.cells #[.int .i64 0, .int .i64 0, .int .i64 0, .slice none 0 0, .slice none 0 0] 28)).drew).heap.size w2 (.slice AL nL cL) r.1.load := ⟨AL, nL, cL, rfl, hL1, hL2, hIL, hLo⟩
              have hRC : ReadsF (((wr.alloc (.cells (madeCells #[Value.int .u8 0] 80) 5)).alloc (.cells #[.int .i64 0, .int .i64 0, .int .i64 0, .slice none 0 0, .slice none 0 0] 28)).drew).heap.size w2 (.slice AC nC cC) r.1.cell := ⟨AC, nC, cC, rfl, hC1, hC2, hIC, hCo⟩
              have hx : Below wr.heap.size wr w2 := bel_trans hX hb
              have Zb : Box (((wr.alloc (.cells (madeCells #[Value.int .u8 0] 80) 5)).alloc (.cells #[.int .i64 0, .int .i64 0, .int .i64 0, .slice none 0 0, .slice none 0 0] 28)).drew) (wr.heap.size + 1) 28 #[.int .i64 0, .int .i64 0, .int .i64 0, .slice none 0 0, .slice none 0 0] := Box.drew (show Box (((wr.alloc (.cells (madeCells #[Value.int .u8 0] 80) 5)).alloc (.cells #[.int .i64 0, .int .i64 0, .int .i64 0, .slice none 0 0, .slice none 0 0] 28))) (wr.heap.size + 1) 28 #[.int .i64 0, .int .i64 0, .int .i64 0, .slice none 0 0, .slice none 0 0] from by simpa using Box.new (wr.alloc (.cells (madeCells #[Value.int .u8 0] 80) 5)) 28 #[.int .i64 0, .int .i64 0, .int .i64 0, .slice none 0 0, .slice none 0 0])
              replace Zb := Box.below Zb hb Zb.size
              have zb0 := Zb.cell 0; have zf0 := Zb.frozen 0
              have zb1 := Zb.cell 1; have zf1 := Zb.frozen 1
              have zb2 := Zb.cell 2; have zf2 := Zb.frozen 2
              have zb3 := Zb.cell 3; have zf3 := Zb.frozen 3
              have zb4 := Zb.cell 4; have zf4 := Zb.frozen 4
              go_wp2_with fail
              refine hK.out _ _ (by exact ⟨cell_bel hx cx, cell_bel hx hcell⟩) (fun hHeld => ?_)
              clear hK K
              (try simp only [Act.put, List.setIfInBounds_toArray, List.set_cons_zero, List.set_cons_succ])
              refine wpAnyH_take (i := 8) (oi := ⟨some 38, _, _, _, _, _⟩) (v := ?v24) rfl (by kernel_rfl) (by kernel_rfl) (by kernel_rfl) (fun _ _ _ h => h) (Or.inl ⟨by rfl, ?hy24⟩) (by assumption) ?_
              case hy24 => (intro w hSw; (try dsimp only at hSw); go_simp; try (with_reducible rfl))
              (try simp only [Act.put, List.setIfInBounds_toArray, List.set_cons_zero, List.set_cons_succ])
              refine wpAnyH_take (i := 9) (oi := ⟨some 47, _, _, _, _, _⟩) (v := ?v25) rfl (by kernel_rfl) (by kernel_rfl) (by kernel_rfl) (fun _ _ _ h => h) (Or.inl ⟨by rfl, ?hy25⟩) (by assumption) ?_
              case hy25 => (intro w hSw; (try dsimp only at hSw); go_simp; try (with_reducible rfl))
              (try simp only [Act.put, List.setIfInBounds_toArray, List.set_cons_zero, List.set_cons_succ])
              refine wpAnyH_take (i := 10) (oi := ⟨some 48, _, _, _, _, _⟩) (v := ?v26) rfl (by kernel_rfl) (by kernel_rfl) (by kernel_rfl) (fun _ _ _ h => h) (Or.inl ⟨by rfl, ?hy26⟩) (by assumption) ?_
              case hy26 => (intro w hSw; (try dsimp only at hSw); go_simp; try (with_reducible rfl))
              (try simp only [Act.put, List.setIfInBounds_toArray, List.set_cons_zero, List.set_cons_succ])
              refine wpAnyH_ready (rs := [12]) (by kernel_rfl) (by simp) ?_
              refine AllReadyH.cons rfl (fun K hK => ?_) ?_
              · have hgl : wr.heap.size ≤ wr.heap.size + 1 := by omega
                have hfin := (bel_put (bel_put (bel_put (bel_put (bel_put hx (p := ⟨wr.heap.size + 1, 0, none⟩) (by show wr.heap.size ≤ wr.heap.size + 1; omega) (.int .i64 r.1.next)) (p := ⟨wr.heap.size + 1, 1, none⟩) (by show wr.heap.size ≤ wr.heap.size + 1; omega) (.int .i64 r.1.due)) (p := ⟨wr.heap.size + 1, 2, none⟩) (by show wr.heap.size ≤ wr.heap.size + 1; omega) (.int .i64 r.1.tag)) (p := ⟨wr.heap.size + 1, 3, none⟩) (by show wr.heap.size ≤ wr.heap.size + 1; omega) (.slice AL nL cL)) (p := ⟨wr.heap.size + 1, 4, none⟩) (by show wr.heap.size ≤ wr.heap.size + 1; omega) (.slice AC nC cC))
                have Zg := (((((Zb.put 0 (.int .i64 r.1.next)).put 1 (.int .i64 r.1.due)).put 2 (.int .i64 r.1.tag)).put 3 (.slice AL nL cL)).put 4 (.slice AC nC cC))
                have hgB : wr.heap.size + 1 < ((((wr.alloc (.cells (madeCells #[Value.int .u8 0] 80) 5)).alloc (.cells #[.int .i64 0, .int .i64 0, .int .i64 0, .slice none 0 0, .slice none 0 0] 28))).drew).heap.size := by show wr.heap.size + 1 < (World.alloc _ _).heap.size; first | (simp; done) | (simp; omega)
                have hRL2 := (((((hRL.put hgB 0 (.int .i64 r.1.next)).put hgB 1 (.int .i64 r.1.due)).put hgB 2 (.int .i64 r.1.tag)).put hgB 3 (.slice AL nL cL)).put hgB 4 (.slice AC nC cC)).lower (B' := wr.heap.size) (by show _ ≤ (World.alloc _ _).heap.size; first | (simp; done) | (simp; omega))
                have hRC2 := (((((hRC.put hgB 0 (.int .i64 r.1.next)).put hgB 1 (.int .i64 r.1.due)).put hgB 2 (.int .i64 r.1.tag)).put hgB 3 (.slice AL nL cL)).put hgB 4 (.slice AC nC cC)).lower (B' := wr.heap.size) (by show _ ≤ (World.alloc _ _).heap.size; first | (simp; done) | (simp; omega))
                go_simp
                refine hK.out _ _ (by exact ⟨cell_bel hfin cx, cell_bel hfin hcell⟩) (fun hHeld => ?_)
                clear hK K
                (try simp only [Act.put, List.setIfInBounds_toArray, List.set_cons_zero, List.set_cons_succ])
                refine wpAnyH_take (i := 13) (oi := ⟨some 11, _, _, _, _, _⟩) (v := ?v27) rfl (by kernel_rfl) (by kernel_rfl) (by kernel_rfl) (fun _ _ _ h => h) (Or.inl ⟨by rfl, ?hy27⟩) (by assumption) ?_
                case hy27 => (intro w hSw; (try dsimp only at hSw); go_simp; try (with_reducible rfl))
                (try simp only [Act.put, List.setIfInBounds_toArray, List.set_cons_zero, List.set_cons_succ])
                refine wpAnyH_done (by kernel_rfl) ?_ _
                go_wp2_with fail
                go_meet
                exact ⟨_, AL, AC, nL, cL, nC, cC, rfl, rfl, by first | exact Zg | simpa using Zg, hRL2, hRC2, by first | exact hfin | simpa using hfin, hgl⟩
              exact AllReadyH.nil
            exact AllReadyH.nil
          exact AllReadyH.nil
        refine AllReadyH.cons rfl (fun K hK => ?_) ?_
        · go_simp
          refine hK.out _ _ (by exact ⟨cell_bel (show Below wr.heap.size wr ((wr.alloc (.cells #[.int .i64 0, .int .i64 0, .int .i64 0, .slice none 0 0, .slice none 0 0] 28)).drew) from (by repeat (first | (with_reducible exact Below.refl _ _) | (with_reducible assumption) | (with_reducible refine bel_alloc ?_ _) | (with_reducible refine bel_drew ?_) | (with_reducible refine below_drewN ?_ _) | (with_reducible refine bel_put ?_ (by first | exact Nat.le_refl _ | (simp; done) | (simp; omega)) _)))) cx, cell_bel (show Below wr.heap.size wr ((wr.alloc (.cells #[.int .i64 0, .int .i64 0, .int .i64 0, .slice none 0 0, .slice none 0 0] 28)).drew) from (by repeat (first | (with_reducible exact Below.refl _ _) | (with_reducible assumption) | (with_reducible refine bel_alloc ?_ _) | (with_reducible refine bel_drew ?_) | (with_reducible refine below_drewN ?_ _) | (with_reducible refine bel_put ?_ (by first | exact Nat.le_refl _ | (simp; done) | (simp; omega)) _)))) hcell⟩) (fun hHeld => ?_)
          clear hK K
          (try simp only [Act.put, List.setIfInBounds_toArray, List.set_cons_zero, List.set_cons_succ])
          refine wpAnyH_ready (rs := [6]) (by kernel_rfl) (by simp) ?_
          refine AllReadyH.cons rfl (fun K hK => ?_) ?_
          · go_simp
            refine hK.out _ _ (by exact ⟨cell_bel (show Below wr.heap.size wr (((wr.alloc (.cells #[.int .i64 0, .int .i64 0, .int .i64 0, .slice none 0 0, .slice none 0 0] 28)).alloc (.cells (madeCells #[Value.int .u8 0] 80) 5)).drew) from (by repeat (first | (with_reducible exact Below.refl _ _) | (with_reducible assumption) | (with_reducible refine bel_alloc ?_ _) | (with_reducible refine bel_drew ?_) | (with_reducible refine below_drewN ?_ _) | (with_reducible refine bel_put ?_ (by first | exact Nat.le_refl _ | (simp; done) | (simp; omega)) _)))) cx, cell_bel (show Below wr.heap.size wr (((wr.alloc (.cells #[.int .i64 0, .int .i64 0, .int .i64 0, .slice none 0 0, .slice none 0 0] 28)).alloc (.cells (madeCells #[Value.int .u8 0] 80) 5)).drew) from (by repeat (first | (with_reducible exact Below.refl _ _) | (with_reducible assumption) | (with_reducible refine bel_alloc ?_ _) | (with_reducible refine bel_drew ?_) | (with_reducible refine below_drewN ?_ _) | (with_reducible refine bel_put ?_ (by first | exact Nat.le_refl _ | (simp; done) | (simp; omega)) _)))) hcell⟩) (fun hHeld => ?_)
            clear hK K
            (try simp only [Act.put, List.setIfInBounds_toArray, List.set_cons_zero, List.set_cons_succ])
            refine wpAnyH_ready (rs := [7]) (by kernel_rfl) (by simp) ?_
            refine AllReadyH.cons rfl (fun K hK => ?_) ?_
            · have hX : Below wr.heap.size wr (((wr.alloc (.cells #[.int .i64 0, .int .i64 0, .int .i64 0, .slice none 0 0, .slice none 0 0] 28)).alloc (.cells (madeCells #[Value.int .u8 0] 80) 5)).drew) := (by repeat (first | (with_reducible exact Below.refl _ _) | (with_reducible assumption) | (with_reducible refine bel_alloc ?_ _) | (with_reducible refine bel_drew ?_) | (with_reducible refine below_drewN ?_ _) | (with_reducible refine bel_put ?_ (by first | exact Nat.le_refl _ | (simp; done) | (simp; omega)) _)))
              have hpz : Ints .u8 (((wr.alloc (.cells #[.int .i64 0, .int .i64 0, .int .i64 0, .slice none 0 0, .slice none 0 0] 28)).alloc (.cells (madeCells #[Value.int .u8 0] 80) 5)).drew) (((wr.alloc (.cells #[.int .i64 0, .int .i64 0, .int .i64 0, .slice none 0 0, .slice none 0 0] 28)).alloc (.cells (madeCells #[Value.int .u8 0] 80) 5)).drew).heap.size (some ⟨wr.heap.size + 1, 0, none⟩) 80 zer := Ints.drew (by simpa using (pz8 (wr.alloc (.cells #[.int .i64 0, .int .i64 0, .int .i64 0, .slice none 0 0, .slice none 0 0] 28))))
              go_simp
              go_at_call 50
              refine (s_peel y (reach HI.out hX) hmd' hd' hpz (by omega) (by omega) HSec.out).mono ?_
              rintro e w2 ⟨vL, vC, rfl, hRL, hRC, hb⟩
              rw [HRr.out] at hRL hRC ⊢
              obtain ⟨AL, nL, cL, rfl, hL1, hL2, hIL, hLo⟩ := hRL
              obtain ⟨AC, nC, cC, rfl, hC1, hC2, hIC, hCo⟩ := hRC
              have hRL : ReadsF (((wr.alloc (.cells #[.int .i64 0, .int .i64 0, .int .i64 0, .slice none 0 0, .slice none 0 0] 28)).alloc (.cells (madeCells #[Value.int .u8 0] 80) 5)).drew).heap.size w2 (.slice AL nL cL) r.1.load := ⟨AL, nL, cL, rfl, hL1, hL2, hIL, hLo⟩
              have hRC : ReadsF (((wr.alloc (.cells #[.int .i64 0, .int .i64 0, .int .i64 0, .slice none 0 0, .slice none 0 0] 28)).alloc (.cells (madeCells #[Value.int .u8 0] 80) 5)).drew).heap.size w2 (.slice AC nC cC) r.1.cell := ⟨AC, nC, cC, rfl, hC1, hC2, hIC, hCo⟩
              have hx : Below wr.heap.size wr w2 := bel_trans hX hb
              have Zb : Box (((wr.alloc (.cells #[.int .i64 0, .int .i64 0, .int .i64 0, .slice none 0 0, .slice none 0 0] 28)).alloc (.cells (madeCells #[Value.int .u8 0] 80) 5)).drew) (wr.heap.size) 28 #[.int .i64 0, .int .i64 0, .int .i64 0, .slice none 0 0, .slice none 0 0] := Box.drew ((show Box ((wr.alloc (.cells #[.int .i64 0, .int .i64 0, .int .i64 0, .slice none 0 0, .slice none 0 0] 28))) (wr.heap.size) 28 #[.int .i64 0, .int .i64 0, .int .i64 0, .slice none 0 0, .slice none 0 0] from by simpa using Box.new wr 28 #[.int .i64 0, .int .i64 0, .int .i64 0, .slice none 0 0, .slice none 0 0]).alloc _)
              replace Zb := Box.below Zb hb Zb.size
              have zb0 := Zb.cell 0; have zf0 := Zb.frozen 0
              have zb1 := Zb.cell 1; have zf1 := Zb.frozen 1
              have zb2 := Zb.cell 2; have zf2 := Zb.frozen 2
              have zb3 := Zb.cell 3; have zf3 := Zb.frozen 3
              have zb4 := Zb.cell 4; have zf4 := Zb.frozen 4
              go_wp2_with fail
              refine hK.out _ _ (by exact ⟨cell_bel hx cx, cell_bel hx hcell⟩) (fun hHeld => ?_)
              clear hK K
              (try simp only [Act.put, List.setIfInBounds_toArray, List.set_cons_zero, List.set_cons_succ])
              refine wpAnyH_take (i := 8) (oi := ⟨some 38, _, _, _, _, _⟩) (v := ?v28) rfl (by kernel_rfl) (by kernel_rfl) (by kernel_rfl) (fun _ _ _ h => h) (Or.inl ⟨by rfl, ?hy28⟩) (by assumption) ?_
              case hy28 => (intro w hSw; (try dsimp only at hSw); go_simp; try (with_reducible rfl))
              (try simp only [Act.put, List.setIfInBounds_toArray, List.set_cons_zero, List.set_cons_succ])
              refine wpAnyH_take (i := 9) (oi := ⟨some 47, _, _, _, _, _⟩) (v := ?v29) rfl (by kernel_rfl) (by kernel_rfl) (by kernel_rfl) (fun _ _ _ h => h) (Or.inl ⟨by rfl, ?hy29⟩) (by assumption) ?_
              case hy29 => (intro w hSw; (try dsimp only at hSw); go_simp; try (with_reducible rfl))
              (try simp only [Act.put, List.setIfInBounds_toArray, List.set_cons_zero, List.set_cons_succ])
              refine wpAnyH_take (i := 10) (oi := ⟨some 48, _, _, _, _, _⟩) (v := ?v30) rfl (by kernel_rfl) (by kernel_rfl) (by kernel_rfl) (fun _ _ _ h => h) (Or.inl ⟨by rfl, ?hy30⟩) (by assumption) ?_
              case hy30 => (intro w hSw; (try dsimp only at hSw); go_simp; try (with_reducible rfl))
              (try simp only [Act.put, List.setIfInBounds_toArray, List.set_cons_zero, List.set_cons_succ])
              refine wpAnyH_ready (rs := [12]) (by kernel_rfl) (by simp) ?_
              refine AllReadyH.cons rfl (fun K hK => ?_) ?_
              · have hgl : wr.heap.size ≤ wr.heap.size := by omega
                have hfin := (bel_put (bel_put (bel_put (bel_put (bel_put hx (p := ⟨wr.heap.size, 0, none⟩) (by show wr.heap.size ≤ wr.heap.size; omega) (.int .i64 r.1.next)) (p := ⟨wr.heap.size, 1, none⟩) (by show wr.heap.size ≤ wr.heap.size; omega) (.int .i64 r.1.due)) (p := ⟨wr.heap.size, 2, none⟩) (by show wr.heap.size ≤ wr.heap.size; omega) (.int .i64 r.1.tag)) (p := ⟨wr.heap.size, 3, none⟩) (by show wr.heap.size ≤ wr.heap.size; omega) (.slice AL nL cL)) (p := ⟨wr.heap.size, 4, none⟩) (by show wr.heap.size ≤ wr.heap.size; omega) (.slice AC nC cC))
                have Zg := (((((Zb.put 0 (.int .i64 r.1.next)).put 1 (.int .i64 r.1.due)).put 2 (.int .i64 r.1.tag)).put 3 (.slice AL nL cL)).put 4 (.slice AC nC cC))
                have hgB : wr.heap.size < ((((wr.alloc (.cells #[.int .i64 0, .int .i64 0, .int .i64 0, .slice none 0 0, .slice none 0 0] 28)).alloc (.cells (madeCells #[Value.int .u8 0] 80) 5))).drew).heap.size := by show wr.heap.size < (World.alloc _ _).heap.size; first | (simp; done) | (simp; omega)
                have hRL2 := (((((hRL.put hgB 0 (.int .i64 r.1.next)).put hgB 1 (.int .i64 r.1.due)).put hgB 2 (.int .i64 r.1.tag)).put hgB 3 (.slice AL nL cL)).put hgB 4 (.slice AC nC cC)).lower (B' := wr.heap.size) (by show _ ≤ (World.alloc _ _).heap.size; first | (simp; done) | (simp; omega))
                have hRC2 := (((((hRC.put hgB 0 (.int .i64 r.1.next)).put hgB 1 (.int .i64 r.1.due)).put hgB 2 (.int .i64 r.1.tag)).put hgB 3 (.slice AL nL cL)).put hgB 4 (.slice AC nC cC)).lower (B' := wr.heap.size) (by show _ ≤ (World.alloc _ _).heap.size; first | (simp; done) | (simp; omega))
                go_simp
                refine hK.out _ _ (by exact ⟨cell_bel hfin cx, cell_bel hfin hcell⟩) (fun hHeld => ?_)
                clear hK K
                (try simp only [Act.put, List.setIfInBounds_toArray, List.set_cons_zero, List.set_cons_succ])
                refine wpAnyH_take (i := 13) (oi := ⟨some 11, _, _, _, _, _⟩) (v := ?v31) rfl (by kernel_rfl) (by kernel_rfl) (by kernel_rfl) (fun _ _ _ h => h) (Or.inl ⟨by rfl, ?hy31⟩) (by assumption) ?_
                case hy31 => (intro w hSw; (try dsimp only at hSw); go_simp; try (with_reducible rfl))
                (try simp only [Act.put, List.setIfInBounds_toArray, List.set_cons_zero, List.set_cons_succ])
                refine wpAnyH_done (by kernel_rfl) ?_ _
                go_wp2_with fail
                go_meet
                exact ⟨_, AL, AC, nL, cL, nC, cC, rfl, rfl, by first | exact Zg | simpa using Zg, hRL2, hRC2, by first | exact hfin | simpa using hfin, hgl⟩
              exact AllReadyH.nil
            exact AllReadyH.nil
          exact AllReadyH.nil
        exact AllReadyH.nil
      case rest =>
      obtain ⟨g, AL, AC, nL, cL, nC, cC, rfl, rfl, Zg, hRL, hRC, hsx, hgl⟩ := hcut
      have hX2 := hX.below hsx hX.size
      have hO2 := hO.below hsx
      have hB2 := bel_trans hB hsx
      have z0 := Zg.cell 0; have z4 := Zg.cell 4
      have hsz := hsx.size
      rcases hok : r.2 with _ | _
      · have HE := Lib.hid (show reachL l 4 a cl = L by rw [HR.out, reachL_f (by rw [show ((p : Int)).toNat = p from rfl, HY.out, HRr.out, hok]), List.append_nil])
        clear hok
        go_wp2
        go_ret
        exact ⟨_, rfl, by rw [HE.out]; exact hO2.lower (by omega), hB2⟩
      · have hgo := reach_go (s := y) HBy.out H80.out (by rw [HRr.out, hok])
        have hnx := ppeel_next (s := y) HBy.out (by rw [HRr.out, hok])
        have HSN := Lib.hid (HR.out.trans (by rw [reach_sn hk4 HX8.out (by rw [show ((p : Int)).toNat = p from rfl, HY.out, HRr.out, hok])]))
        rw [show ((p : Int)).toNat = p from rfl, HY.out, HRr.out] at HSN
        rw [HRr.out] at hgo hnx
        have hys : gx + 1 ≤ wc.heap.size := by omega
        clear hok
        have Z2 := Zg.alloc (.cells #[.int .i64 (p : Int)] 3)
        have Hnx := Lib.hid hnx
        clear hnx
        rcases Hnx.out with h255 | h08
        · have HE := Lib.hid (show reachL l 4 a cl = L ++ [(p : Int)] by rw [HSN.out, reachL_o (by rw [h255]; omega)])
          have q255 : (r.1.next == 255) = true := by simp [h255]
          clear h255
          go_wp2_with (at_builtin; refine wpList_app _ rfl (.tmp 52) (.tmp 54) _ rfl (gx + 1) 3 i0 _ 1 8 Try.underlying40 hi0 hz0 hz1 hz2 rfl (by omega) _ _ _ rfl (hO2.1.alloc _) _ 1 1 [.int .i64 (p : Int)] rfl (Src.one _ _ _) (one_int _ _) (by simp only [maxLen]; omega) (by omega) (by simp; omega) ?_; intro v1 w3 hown hgr hat; have Z3 := Z2.grown hgr (fun e => by have := (hO.1.lt g e.symm).2; omega); have y0 := Z3.cell 0; have y4 := Z3.cell 4; have X3 := box_sn hX2 hO2 (by omega) hgr; have f0 := X3.frozen 0; have x0 := X3.cell 0)
          have hwp : (Lit.int .i64 (p : Int)).wf = true := wf_i64 (by omega) (by omega)
          have hO3 := own_sn hO2 hown (rfl : L ++ [(p : Int)] = L ++ [(p : Int)]) hwp
          have hB3 := below_sn hB2 hO2 (by omega) hgr
          have hRC3 := hRC.sn hO2 (fun b hb => (hO.1.lt b hb).2) hgr
          obtain ⟨A9, n9, c9, e9, hC1, hC2, hIC, -⟩ := hRC3
          injection e9 with e91 e92 e93
          subst e91 e92 e93
          obtain ⟨A8, c8, rfl, _⟩ := hO3.shape
          have hsz3 := X3.size
          go_ret
          exact ⟨_, rfl, by rw [HE.out]; exact hO3.lower (by omega), hB3⟩
        · have q255 : (r.1.next == 255) = false := by simp; omega
          go_wp2_with (at_builtin; refine wpList_app _ rfl (.tmp 52) (.tmp 54) _ rfl (gx + 1) 3 i0 _ 1 8 Try.underlying40 hi0 hz0 hz1 hz2 rfl (by omega) _ _ _ rfl (hO2.1.alloc _) _ 1 1 [.int .i64 (p : Int)] rfl (Src.one _ _ _) (one_int _ _) (by simp only [maxLen]; omega) (by omega) (by simp; omega) ?_; intro v1 w3 hown hgr hat; have Z3 := Z2.grown hgr (fun e => by have := (hO.1.lt g e.symm).2; omega); have y0 := Z3.cell 0; have y4 := Z3.cell 4; have X3 := box_sn hX2 hO2 (by omega) hgr; have f0 := X3.frozen 0; have x0 := X3.cell 0)
          have hwp : (Lit.int .i64 (p : Int)).wf = true := wf_i64 (by omega) (by omega)
          have hO3 := own_sn hO2 hown (rfl : L ++ [(p : Int)] = L ++ [(p : Int)]) hwp
          have hB3 := below_sn hB2 hO2 (by omega) hgr
          have hRC3 := hRC.sn hO2 (fun b hb => (hO.1.lt b hb).2) hgr
          obtain ⟨A9, n9, c9, e9, hC1, hC2, hIC, -⟩ := hRC3
          injection e9 with e91 e92 e93
          subst e91 e92 e93
          obtain ⟨A8, c8, rfl, _⟩ := hO3.shape
          have hsz3 := X3.size
          go_roundw
          case rel => exact ⟨L.length + 1, r.1.next, L ++ [(p : Int)], r.1.cell, by omega, rfl, hgo.1, by simp, hO3.far (g := gx) (by omega) 0 _, by rw [HSN.out]; simp, hgo.2.1, hgo.2.2, CellAt.put X3 (sno _ _ _) hC1 hC2 hIC, bel_put hB3 hgx _, fun _ => h08, by simpa [World.setCell] using hsz3⟩
          case measure => simp [lenOf]; omega
    · have hk' : L.length = 4 := by omega
      have HE := Lib.hid (show reachL l 4 a cl = L by rw [HR.out, hk']; simp [reachL])
      have hO' := hO.lower (Nat.le_succ_of_le hgx)
      go_wp2
      go_ret
      exact ⟨_, rfl, by rw [HE.out]; exact hO', hB⟩
theorem s_Reach_f {w : World} {n c m d : Nat} {A A' : Option Addr} {l cl : List Int} (a : Int) (hl : Ints .i64 w w.heap.size A n l) (hn : n ≤ 17592186043904) (hc : Ints .u8 w w.heap.size A' m cl) (hf : ¬ (CanF l cl ∧ 0 ≤ a ∧ a < 8)) :
    Calls Try.prog 26 #[.slice A n c, .int .i64 a, .agg #[.slice A' m d]] w fun e w' => e = .returned (.slice none 0 0) ∧ Below w.heap.size w w' := by
  by_cases h8 : n = 8
  · subst h8
    by_cases hS : Secs l
    · have HS := Lib.hid (show decide (Secs l) = true from decide_eq_true hS)
      by_cases ha0 : a < 0
      · clear hf hS
        go_enter Try.func26, Try.ntmps26
        go_wp2_with (go_at_call 62; refine (s_secs (reach hl (by repeat (first | (with_reducible exact Below.refl _ _) | (with_reducible assumption) | (with_reducible refine bel_alloc ?_ _) | (with_reducible refine bel_drew ?_) | (with_reducible refine below_drewN ?_ _) | (with_reducible refine bel_put ?_ (by first | exact Nat.le_refl _ | (simp; done) | (simp; omega)) _)))) (by omega)).mono ?_; rintro e w' ⟨rfl, rfl⟩; rw [HS.out])
        go_ret
        exact ⟨rfl, (by repeat (first | (with_reducible exact Below.refl _ _) | (with_reducible assumption) | (with_reducible refine bel_alloc ?_ _) | (with_reducible refine bel_drew ?_) | (with_reducible refine below_drewN ?_ _) | (with_reducible refine bel_put ?_ (by first | exact Nat.le_refl _ | (simp; done) | (simp; omega)) _)))⟩
      by_cases ha8 : 8 ≤ a
      · clear hf hS
        go_enter Try.func26, Try.ntmps26
        go_wp2_with (go_at_call 62; refine (s_secs (reach hl (by repeat (first | (with_reducible exact Below.refl _ _) | (with_reducible assumption) | (with_reducible refine bel_alloc ?_ _) | (with_reducible refine bel_drew ?_) | (with_reducible refine below_drewN ?_ _) | (with_reducible refine bel_put ?_ (by first | exact Nat.le_refl _ | (simp; done) | (simp; omega)) _)))) (by omega)).mono ?_; rintro e w' ⟨rfl, rfl⟩; rw [HS.out])
        go_ret
        exact ⟨rfl, (by repeat (first | (with_reducible exact Below.refl _ _) | (with_reducible assumption) | (with_reducible refine bel_alloc ?_ _) | (with_reducible refine bel_drew ?_) | (with_reducible refine below_drewN ?_ _) | (with_reducible refine bel_put ?_ (by first | exact Nat.le_refl _ | (simp; done) | (simp; omega)) _)))⟩
      have h80 : ¬ m = 80 := fun h => hf ⟨⟨by rw [hl.1], hS, by rw [hc.1]; exact h⟩, by omega, by omega⟩
      clear hf hS
      go_enter Try.func26, Try.ntmps26
      go_wp2_with (first | (go_at_call 62; refine (s_secs (reach hl (by repeat (first | (with_reducible exact Below.refl _ _) | (with_reducible assumption) | (with_reducible refine bel_alloc ?_ _) | (with_reducible refine bel_drew ?_) | (with_reducible refine below_drewN ?_ _) | (with_reducible refine bel_put ?_ (by first | exact Nat.le_refl _ | (simp; done) | (simp; omega)) _)))) (by omega)).mono ?_; rintro e w' ⟨rfl, rfl⟩; rw [HS.out]) | (go_at_call 49; refine (s_CellOk_f _ _ _ _ h80).mono ?_; rintro e w1 ⟨rfl, hB1⟩))
      go_ret
      exact ⟨rfl, bel_trans (a := w) (by repeat (first | (with_reducible exact Below.refl _ _) | (with_reducible assumption) | (with_reducible refine bel_alloc ?_ _) | (with_reducible refine bel_drew ?_) | (with_reducible refine below_drewN ?_ _) | (with_reducible refine bel_put ?_ (by first | exact Nat.le_refl _ | (simp; done) | (simp; omega)) _))) hB1⟩
    · have HS := Lib.hid (show decide (Secs l) = false from decide_eq_false hS)
      clear hf hS
      go_enter Try.func26, Try.ntmps26
      go_wp2_with (go_at_call 62; refine (s_secs (reach hl (by repeat (first | (with_reducible exact Below.refl _ _) | (with_reducible assumption) | (with_reducible refine bel_alloc ?_ _) | (with_reducible refine bel_drew ?_) | (with_reducible refine below_drewN ?_ _) | (with_reducible refine bel_put ?_ (by first | exact Nat.le_refl _ | (simp; done) | (simp; omega)) _)))) (by omega)).mono ?_; rintro e w' ⟨rfl, rfl⟩; rw [HS.out])
      go_ret
      exact ⟨rfl, (by repeat (first | (with_reducible exact Below.refl _ _) | (with_reducible assumption) | (with_reducible refine bel_alloc ?_ _) | (with_reducible refine bel_drew ?_) | (with_reducible refine below_drewN ?_ _) | (with_reducible refine bel_put ?_ (by first | exact Nat.le_refl _ | (simp; done) | (simp; omega)) _)))⟩
  · have q8 : ((n : Int) != 8) = true := by simp; omega
    clear hf h8
    go_enter Try.func26, Try.ntmps26
    go_wp2
    go_ret
    exact ⟨rfl, (by repeat (first | (with_reducible exact Below.refl _ _) | (with_reducible assumption) | (with_reducible refine bel_alloc ?_ _) | (with_reducible refine bel_drew ?_) | (with_reducible refine below_drewN ?_ _) | (with_reducible refine bel_put ?_ (by first | exact Nat.le_refl _ | (simp; done) | (simp; omega)) _)))⟩
theorem s_Reach : ReachC 26 := by
  intro w n c m d A A' l cl a hl hn hc hmd hd ha
  by_cases h : CanF l cl ∧ 0 ≤ a ∧ a < 8
  · rw [freach_t h.1]; exact s_Reach_t a hl hc hmd hd h.2 h.1
  · have e : freach l a cl = [] := by
      by_cases h' : CanF l cl
      · rw [freach_t h', reachL_o (fun x => h ⟨h', x⟩)]
      · exact freach_f h'
    rw [e]; exact (s_Reach_f a hl hn hc h).mono fun e w' hh => ⟨_, hh.1, Own.nil _ _ _ _, hh.2⟩
end Go.Proofs.Ytpapkonejkdkhaa
