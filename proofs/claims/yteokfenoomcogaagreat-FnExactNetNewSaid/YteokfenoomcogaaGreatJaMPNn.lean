/-
  PNn: texts joined.
-/
import Derived.Test.YteokfenoomcogaaGreatJaGb
import Derived.Test.YteokfenoomcogaaGreatJaGc
import Derived.Test.YteokfenoomcogaaGreatJaMCpM
import Derived.Test.YteokfenoomcogaaGreatKGa
import Derived.Test.YteokfenoomcogaaGreatKGc
import Derived.Test.YteokfenoomcogaaGreatKGd
import Derived.Test.YteokfenoomcogaaGreatKGe
import Derived.Test.YteokfenoomcogaaGreatKGf
import Derived.Test.YteokfenoomcogaaGreatKGg
import Derived.Test.YteokfenoomcogaaGreatKGh
import Derived.Test.YteokfenoomcogaaGreatKGi
import Derived.Test.YteokfenoomcogaaGreatKGj
import Derived.Test.YteokfenoomcogaaGreatKGk
import Derived.Test.YteokfenoomcogaaGreatKGl
import Derived.Test.YteokfenoomcogaaGreatKGn
import Derived.Test.YteokfenoomcogaaGreatKGp
import Derived.Test.YteokfenoomcogaaGreatKMPDeskT
import Derived.Test.YteokfenoomcogaaGreatKMPIds
import Derived.Test.YteokfenoomcogaaGreatKMPNodeI
import Derived.Test.YteokfenoomcogaaGreatKMPNodeS
import Derived.Test.YteokfenoomcogaaGreatKMSeq
import Derived.Test.YteokfenoomcogaaGreatRows
import Derived.Test.YteokfenoomcogaaGreatShelf
import Derived.BigQuiet
import Derived.Deep.Cut
import Derived.Deep.CutRange
import Derived.Deep.DeepCutAuto
import Derived.Deep.Draws
import Derived.Deep.OwnRows
import Derived.Deep.QuietTactic
import Derived.Deep.RegionHeld3
import Derived.Laws.MakeOwn
import Derived.Lib.Hide
import Derived.LoopIn
import Derived.LoopNIn
import Derived.Maps.AppendAt
import Derived.OpenShut
import Derived.Outline
import Derived.OwnWalkIn
import Derived.ProofKit
import Derived.RangeFuncBox
import Derived.RangeFuncFrom
import Derived.RangeFuncLeaves
import Derived.ScopeJumps
import Derived.Shelf.Abstract
import Derived.Sort.OwnSortedInts
import Derived.TacticsInMore
import Derived.WalkKit
import Derived.WalkMore
namespace Go.Proofs.YteokfenoomcogaaGreat
set_option maxRecDepth 100000
set_option linter.unusedVariables false
set_option linter.unusedSimpArgs false
open Go.ChangeShapes Go.WideShapes Go.ChangeAt Go.RowKit
open Fld
def nnL (x : Int) (k : Nat) : List DNode := (List.range k).map fun i : Nat => nwN i (nsec x i)
theorem nnL_sn (x : Int) (k : Nat) : nnL x (k + 1) = nnL x k ++ [nwN k (nsec x k)] := by simp [nnL, List.range_succ]
theorem nnL_len (x : Int) (k : Nat) : (nnL x k).length = k := by simp [nnL]
theorem nnL_sum (x : Int) : ∀ k, rsum szNode (nnL x k) = 0
  | 0 => rfl
  | k + 1 => by rw [nnL_sn, rsum_app, nnL_sum x k]; rfl
theorem nnL_sz (x : Int) (k : Nat) : rsz szNode (nnL x k) = k := by unfold rsz; rw [nnL_len, nnL_sum]; rfl
def nnN (x : Int) : DNet := (0, x, 0, nnL x 8, [], [], [])
theorem nnN_sz (x : Int) : szNet (nnN x) ≤ 8 := by show rsz szNode (nnL x 8) + 0 + 0 + 0 ≤ 8; rw [nnL_sz]; omega
def zNet : DNet := (0, 0, 0, [], [], [], [])
noncomputable def fNn (x : Int) : DNet := if 0 ≤ x ∧ x ≤ 1000 then nnN x else zNet
theorem fNn_t {x : Int} (h : 0 ≤ x ∧ x ≤ 1000) : fNn x = nnN x := if_pos h
theorem fNn_f {x : Int} (h : ¬ (0 ≤ x ∧ x ≤ 1000)) : fNn x = zNet := if_neg h
theorem fNn_sz (x : Int) : szNet (fNn x) ≤ 8 := by
  unfold fNn
  split
  · exact nnN_sz x
  · show (0 : Nat) ≤ 8; omega
theorem wf0 : (Lit.int .i64 0).wf = true := rfl
theorem zNetO {w : World} : tNet.O w [.int .i64 0, .int .i64 0, .int .i64 0, .slice none 0 0, .slice none 0 0, .slice none 0 0, .slice none 0 0] zNet [] := by
  obtain ⟨F, hF, e⟩ := makeONet (w := w) (p := zNet) (v3 := .slice none 0 0) (v4 := .slice none 0 0) (v5 := .slice none 0 0) (v6 := .slice none 0 0) (F3 := []) (F4 := []) (F5 := []) (F6 := []) wf0 wf0 wf0 nilRowO nilRowO nilRowO nilRowO
  rw [e] at hF
  exact hF
theorem nnNetO {w : World} {x : Int} {D : Option Addr} {g : Nat} {F : List Nat} (hx : (Lit.int .i64 x).wf = true) (h : tNode.row.O w [.slice D (nnL x 8).length g] (nnL x 8) F) :
    tNet.O w [.int .i64 0, .int .i64 x, .int .i64 0, .slice D (nnL x 8).length g, .slice none 0 0, .slice none 0 0, .slice none 0 0] (nnN x) F := by
  obtain ⟨Fx, hX, e⟩ := makeONet (w := w) (p := nnN x) (v3 := .slice D (nnL x 8).length g) (v4 := .slice none 0 0) (v5 := .slice none 0 0) (v6 := .slice none 0 0) (F3 := F) (F4 := []) (F5 := []) (F6 := []) wf0 hx wf0 h nilRowO nilRowO nilRowO
  have e2 : Fx = F := by rw [e]; simp
  rw [e2] at hX
  exact hX
theorem wfs {x : Int} (h0 : 0 ≤ x) (h1 : x ≤ 1000000000) : (Lit.int .i64 x).wf = true := wf_i64 (by omega) (by omega)
theorem nwOk_j {x : Int} {j : Nat} (h : j < 8) : NwOk (j : Int) (nsec x j) := by
  have := nsec_rg x j
  refine ⟨⟨by omega, by omega⟩, ?_⟩
  unfold Sec
  omega

set_option maxHeartbeats 2000000 in
theorem s_l7new {w : World} {x : Int} (h0 : 0 ≤ x) (h1 : x ≤ 1000) :
    Calls Tryz.prog 92 #[.int .i64 x] w fun e w' => ∃ cs, e = .returned (.agg cs.toArray) ∧ tNet.R w' w'.heap.size cs (nnN x) ∧ Below w.heap.size w w' := by
  obtain ⟨i1, hj0, hj1, hj2, hj3⟩ := info_parts info_Node
  have HWX := Lib.hid (wfs (x := x) h0 (by omega))
  go_enter Tryz.func92, Tryz.ntmps92
  go_wp2_with fail
  refine (s_l3nodesO h0 h1).mono ?_
  rintro e w1 ⟨A, c, A', c', FS, rfl, hOS, hNS, -, hb1⟩
  have R1 : Box w1 w.heap.size 35 #[.int .i64 0, .int .i64 0, .int .i64 0, .slice none 0 0, .slice none 0 0, .slice none 0 0, .slice none 0 0] := Box.below ((Box.new w _ _).alloc _) hb1 (by simp; omega)
  have O1 : Box w1 (w.heap.size + 1) 35 #[.int .i64 0, .int .i64 x, .int .i64 0, .slice none 0 0, .slice none 0 0, .slice none 0 0, .slice none 0 0] := Box.below (by simpa using Box.new (w.alloc _) 35 #[.int .i64 0, .int .i64 x, .int .i64 0, .slice none 0 0, .slice none 0 0, .slice none 0 0, .slice none 0 0]) hb1 (by simp)
  have hB1 : Below w.heap.size w w1 := bel_trans (belx) hb1
  have z1 : w.heap.size + 2 ≤ w1.heap.size := by have := hb1.size; simpa using this
  have hNS2 : New (w.heap.size + 2) FS := hNS.lower (by simp)
  clear hb1 hNS
  rcases hOS with ⟨A0, c0, e1, _, e3, _⟩ | ⟨g, off, cc, cur, tt, e1, -, -, -, Q1, hcs, -, rfl⟩
  · exact absurd (congrArg List.length e3) (by rw [secL_len]; simp)
  injection e1 with e1 _
  injection e1 with e1 e2 e3
  subst e1 e3
  clear e2
  have Q1 : Box w1 g tt cur := Q1
  have hg2 : w.heap.size + 2 ≤ g := hNS2.2 g (by simp)
  have hg1 := Q1.size
  have HCS := Lib.hid hcs
  obtain ⟨bs, hbs⟩ : ∃ bs, bs = w1.heap.size := ⟨_, rfl⟩
  have zb0 : bs ≤ w1.heap.size := by omega
  have zb1 : g < bs := by omega
  have zb2 : w.heap.size + 2 ≤ bs := by omega
  clear hcs hNS2 hbs
  go_wp2_with fail
  go_loopw [6] (fun i wr => ∃ (j : Nat) (F : List Nat) (v : Value), j ≤ 8 ∧ i = .int .i64 j ∧ GrowO tNode 71 wr bs v (nnL x j) F ∧ Box wr w.heap.size 35 #[.int .i64 0, .int .i64 0, .int .i64 0, .slice none 0 0, .slice none 0 0, .slice none 0 0, .slice none 0 0] ∧ Box wr (w.heap.size + 1) 35 #[.int .i64 0, .int .i64 x, .int .i64 0, v, .slice none 0 0, .slice none 0 0, .slice none 0 0] ∧ Box wr g tt cur ∧ Below w.heap.size w wr ∧ bs ≤ wr.heap.size) (fun i _ => 8 - (intOf i).toNat)
  case atStart => exact ⟨0, [], .slice none 0 0, by omega, rfl, GrowO.nil, R1, O1, Q1, hB1, zb0⟩
  case round =>
    obtain ⟨j, F, v, hj, rfl, hG, R0, O0, Q0, hB, zB⟩ := hrel
    clear R1 O1 Q1 hB1
    by_cases hlt : j < 8
    · have hcj0 := HCS.out j (by rw [secL_len]; exact hlt)
      rw [secL_at hlt] at hcj0
      obtain ⟨y, hy⟩ : ∃ y, nsec x j = y := ⟨_, rfl⟩
      have HWY := Lib.hid (show (Lit.int .i64 y).wf = true from by rw [← hy]; exact wfs (by have := nsec_rg x j; omega) (by have := nsec_rg x j; omega))
      have HWJ := Lib.hid (wfs (x := (j : Int)) (by omega) (by omega))
      have HT := Lib.hid (nnL_sn x j)
      rw [hy] at hcj0 HT
      have hcj : cur[off + j]? = some (.int .i64 y) := hcj0
      clear hy hcj0
      have HLN := Lib.hid (nnL_len x j)
      have hOwn := fun b hb => (GrowO.row hG).choose_spec.1.lt b hb
      have e0 : wr.cell? ⟨g, off + j, none⟩ = some (.int .i64 y) := by rw [Q0.cell]; exact hcj
      have e1 : (wr.alloc (.cells ([.int .i64 (j : Int), .int .i64 y, .slice none 0 0, .slice none 0 0, .slice none 0 0, .slice none 0 0, .slice none 0 0].toArray) 71)).cell? ⟨g, off + j, none⟩ = some (.int .i64 y) := by rw [(Q0.alloc _).cell]; exact hcj
      have o0c := O0.cell 3
      have o1c := (O0.alloc (.cells ([.int .i64 (j : Int), .int .i64 y, .slice none 0 0, .slice none 0 0, .slice none 0 0, .slice none 0 0, .slice none 0 0].toArray) 71)).cell 3
      have i1' : (j : Int) < 8 := by omega
      go_wp2_with fail
      refine wp_region_held_drew (S := (fun w' => w'.cell? ⟨g, off + j, none⟩ = some (.int .i64 y))) (by kernel_rfl) (by exact e0) (fun hHeld => ?_)
      refine wpAnyH_take (i := 0) (oi := ⟨some 18, _, _, _, _, _⟩) (v := ?v1) rfl (by kernel_rfl) (by kernel_rfl) (by kernel_rfl) (fun _ _ _ h => h) (Or.inl ⟨by rfl, ?hy1⟩) (by assumption) ?_
      case hy1 => (intro w hSw; (try dsimp only at hSw); go_simp; try (with_reducible rfl))
      (try simp only [Act.put, qa_, qb_, qc_])
      refine wpAnyH_take (i := 2) (oi := ⟨some 20, _, _, _, _, _⟩) (v := ?v2) rfl (by kernel_rfl) (by kernel_rfl) (by kernel_rfl) (fun _ _ _ h => h) (Or.inl ⟨by rfl, ?hy2⟩) (by assumption) ?_
      case hy2 => (intro w hSw; (try dsimp only at hSw); go_simp; try (with_reducible rfl))
      (try simp only [Act.put, qa_, qb_, qc_])
      refine wpAnyH_take (i := 3) (oi := ⟨some 21, _, _, _, _, _⟩) (v := ?v3) rfl (by kernel_rfl) (by kernel_rfl) (by kernel_rfl) (fun _ _ _ h => h) (Or.inl ⟨by rfl, ?hy3⟩) (by assumption) ?_
      case hy3 => (intro w hSw; (try dsimp only at hSw); go_simp; try (with_reducible rfl))
      (try simp only [Act.put, qa_, qb_, qc_])
      refine wpAnyH_take (i := 4) (oi := ⟨some 22, _, _, _, _, _⟩) (v := ?v4) rfl (by kernel_rfl) (by kernel_rfl) (by kernel_rfl) (fun _ _ _ h => h) (Or.inl ⟨by rfl, ?hy4⟩) (by assumption) ?_
      case hy4 => (intro w hSw; (try dsimp only at hSw); go_simp; try (with_reducible rfl))
      (try simp only [Act.put, qa_, qb_, qc_])
      refine wpAnyH_take (i := 5) (oi := ⟨some 23, _, _, _, _, _⟩) (v := ?v5) rfl (by kernel_rfl) (by kernel_rfl) (by kernel_rfl) (fun _ _ _ h => h) (Or.inl ⟨by rfl, ?hy5⟩) (by assumption) ?_
      case hy5 => (intro w hSw; (try dsimp only at hSw); go_simp; try (with_reducible rfl))
      (try simp only [Act.put, qa_, qb_, qc_])
      refine wpAnyH_take (i := 6) (oi := ⟨some 24, _, _, _, _, _⟩) (v := ?v6) rfl (by kernel_rfl) (by kernel_rfl) (by kernel_rfl) (fun _ _ _ h => h) (Or.inl ⟨by rfl, ?hy6⟩) (by assumption) ?_
      case hy6 => (intro w hSw; (try dsimp only at hSw); go_simp; try (with_reducible rfl))
      (try simp only [Act.put, qa_, qb_, qc_])
      refine wpAnyH_take (i := 7) (oi := ⟨some 25, _, _, _, _, _⟩) (v := ?v7) rfl (by kernel_rfl) (by kernel_rfl) (by kernel_rfl) (fun _ _ _ h => h) (Or.inl ⟨by rfl, ?hy7⟩) (by assumption) ?_
      case hy7 => (intro w hSw; (try dsimp only at hSw); go_simp; try (with_reducible rfl))
      (try simp only [Act.put, qa_, qb_, qc_])
      refine wpAnyH_ready (rs := [1, 8]) (by kernel_rfl) (by simp) ?_
      refine AllReadyH.cons rfl (fun K hK => ?_) ?_
      · go_simp
        refine hK.out _ _ (by exact e0) (fun hHeld => ?_)
        clear hK K
        (try simp only [Act.put, qa_, qb_, qc_])
        refine wpAnyH_ready (rs := [8]) (by kernel_rfl) (by simp) ?_
        refine AllReadyH.cons rfl (fun K hK => ?_) ?_
        · go_simp
          refine hK.out _ _ (by exact e1) (fun hHeld => ?_)
          clear hK K
          (try simp only [Act.put, qa_, qb_, qc_])
          refine wpAnyH_ready (rs := [9]) (by kernel_rfl) (by simp) ?_
          refine AllReadyH.cons rfl (fun K hK => ?_) ?_
          · have hBx : Below wr.heap.size wr ((wr.alloc (.cells ([.int .i64 (j : Int), .int .i64 y, .slice none 0 0, .slice none 0 0, .slice none 0 0, .slice none 0 0, .slice none 0 0].toArray) 71)).drew) := (belx)
            obtain ⟨xs, hrow, hpush⟩ := (hG.below hBx).row
            have hS2 : Src ((wr.alloc (.cells ([.int .i64 (j : Int), .int .i64 y, .slice none 0 0, .slice none 0 0, .slice none 0 0, .slice none 0 0, .slice none 0 0].toArray) 71)).drew) 7 (some ⟨wr.heap.size, 0, none⟩) 1 [.int .i64 (j : Int), .int .i64 y, .slice none 0 0, .slice none 0 0, .slice none 0 0, .slice none 0 0, .slice none 0 0] := Src.of_boxed (e := 71) (Box.drew (Box.new wr _ _)) rfl
            have tz : (Value.agg #[Value.int .i64 0, Value.int .i64 0, Value.slice none 0 0, Value.slice none 0 0, Value.slice none 0 0, Value.slice none 0 0, Value.slice none 0 0]).cells.size = 7 := (by first | rfl | (simp [Value.cells]; done))
            have t0 : ∀ u ∈ ([.int .i64 (j : Int), .int .i64 y, .slice none 0 0, .slice none 0 0, .slice none 0 0, .slice none 0 0, .slice none 0 0] : List Value), u.oneCell' = true := (by intro u hu; simp only [List.mem_cons, List.not_mem_nil, or_false] at hu; rcases hu with rfl | rfl | rfl | rfl | rfl | rfl | rfl <;> rfl)
            have t1 : (nnL x j).length + 1 ≤ maxLen := (by simp only [maxLen]; have := HLN.out; omega)
            have t2 : ((nnL x j).length + 1) * 136 ≤ 140737488355328 := (by have := HLN.out; omega)
            have t3 := hBx.size
            refine step_app5 _ (by rfl) (.tmp 19) (.tmp 26) _ (by rfl) bs 71 i1 _ 7 136 Tryz.underlying30 hj0 hj1 hj2 hj3 tz (by omega) v _ xs (by rfl) hrow _ 1 1 [.int .i64 (j : Int), .int .i64 y, .slice none 0 0, .slice none 0 0, .slice none 0 0, .slice none 0 0, .slice none 0 0] (by rfl) hS2 t0 t1 t2 (by omega) ?_
            intro v2 w2 hown2 hgr2 hat2
            have hfin := hpush w2 v2 (nwN j y) _ [] (nwO HWJ.out HWY.out) (New.nil _) (fun f hf => absurd hf (by simp)) (fun b hb => by simp) hown2 hgr2 hat2
            obtain ⟨A9, n9, c9, rfl, -⟩ := hfin.shapeN
            have R2 := Box.grown (w := ((wr.alloc (.cells ([.int .i64 (j : Int), .int .i64 y, .slice none 0 0, .slice none 0 0, .slice none 0 0, .slice none 0 0, .slice none 0 0].toArray) 71)).drew)) (Box.drew (R0.alloc _)) hgr2 (fun e => by have := (hOwn _ e.symm).1; omega)
            have O2 := Box.grown (w := ((wr.alloc (.cells ([.int .i64 (j : Int), .int .i64 y, .slice none 0 0, .slice none 0 0, .slice none 0 0, .slice none 0 0, .slice none 0 0].toArray) 71)).drew)) (Box.drew (O0.alloc _)) hgr2 (fun e => by have := (hOwn _ e.symm).1; omega)
            have Q2 := Box.grown (w := ((wr.alloc (.cells ([.int .i64 (j : Int), .int .i64 y, .slice none 0 0, .slice none 0 0, .slice none 0 0, .slice none 0 0, .slice none 0 0].toArray) 71)).drew)) (Box.drew (Q0.alloc _)) hgr2 (fun e => by have := (hOwn _ e.symm).1; omega)
            have hBf : Below w.heap.size w w2 := Below.grown (w := ((wr.alloc (.cells ([.int .i64 (j : Int), .int .i64 y, .slice none 0 0, .slice none 0 0, .slice none 0 0, .slice none 0 0, .slice none 0 0].toArray) 71)).drew)) (bel_trans hB hBx) hgr2 (by have := hBx.size; omega) (fun b hb => by have := (hOwn b hb).1; omega)
            have z2 := hgr2.size
            have o2c := O2.cell 3
            have o2f := O2.frozen 3
            have e2 : w2.cell? ⟨g, off + j, none⟩ = some (.int .i64 y) := by rw [Q2.cell]; exact hcj
            have GF := hfin.put (p := ⟨w.heap.size + 1, 3, none⟩) (by show w.heap.size + 1 < bs; omega) (.slice A9 n9 c9)
            have RF := R2.far (p := ⟨w.heap.size + 1, 3, none⟩) (by show ¬ w.heap.size = w.heap.size + 1; omega) (.slice A9 n9 c9)
            have QF := Q2.far (p := ⟨w.heap.size + 1, 3, none⟩) (by show ¬ g = w.heap.size + 1; omega) (.slice A9 n9 c9)
            have OF : Box (w2.setCell ⟨w.heap.size + 1, 3, none⟩ (.slice A9 n9 c9)) (w.heap.size + 1) 35 #[.int .i64 0, .int .i64 x, .int .i64 0, .slice A9 n9 c9, .slice none 0 0, .slice none 0 0, .slice none 0 0] := O2.put 3 (.slice A9 n9 c9)
            have eF : (w2.setCell ⟨w.heap.size + 1, 3, none⟩ (.slice A9 n9 c9)).cell? ⟨g, off + j, none⟩ = some (.int .i64 y) := by rw [QF.cell]; exact hcj
            have BF : Below w.heap.size w (w2.setCell ⟨w.heap.size + 1, 3, none⟩ (.slice A9 n9 c9)) := bel_put hBf (by show w.heap.size ≤ w.heap.size + 1; omega) _
            refine hK.out _ _ (by exact e2) (fun hHeld => ?_)
            clear hK K
            (try simp only [Act.put, qa_, qb_, qc_])
            refine wpAnyH_take (i := 10) (oi := ⟨some 28, _, _, _, _, _⟩) (v := ?v8) rfl (by kernel_rfl) (by kernel_rfl) (by kernel_rfl) (fun _ _ _ h => h) (Or.inl ⟨by rfl, ?hy8⟩) (by assumption) ?_
            case hy8 => (intro w hSw; (try dsimp only at hSw); go_simp; try (with_reducible rfl))
            (try simp only [Act.put, qa_, qb_, qc_])
            refine wpAnyH_ready (rs := [11]) (by kernel_rfl) (by simp) ?_
            refine AllReadyH.cons rfl (fun K hK => ?_) ?_
            · go_simp
              refine hK.out _ _ (by exact eF) (fun hHeld => ?_)
              clear hK K
              (try simp only [Act.put, qa_, qb_, qc_])
              refine wpAnyH_done (by kernel_rfl) ?_ _
              go_wp2
              go_roundw
              case rel => exact ⟨j + 1, _, _, by omega, by go_num, by rw [HT.out, List.append_nil] at *; exact GF, RF, OF, QF, BF, by have h := z2; have := zB; simp [World.setCell] at h ⊢; omega⟩
              case measure => simp [intOf]; omega
            exact AllReadyH.nil
          exact AllReadyH.nil
        exact AllReadyH.nil
      refine AllReadyH.cons rfl (fun K hK => ?_) ?_
      · go_simp
        refine hK.out _ _ (by exact e1) (fun hHeld => ?_)
        clear hK K
        (try simp only [Act.put, qa_, qb_, qc_])
        refine wpAnyH_ready (rs := [1]) (by kernel_rfl) (by simp) ?_
        refine AllReadyH.cons rfl (fun K hK => ?_) ?_
        · go_simp
          refine hK.out _ _ (by exact e1) (fun hHeld => ?_)
          clear hK K
          (try simp only [Act.put, qa_, qb_, qc_])
          refine wpAnyH_ready (rs := [9]) (by kernel_rfl) (by simp) ?_
          refine AllReadyH.cons rfl (fun K hK => ?_) ?_
          · have hBx : Below wr.heap.size wr ((wr.alloc (.cells ([.int .i64 (j : Int), .int .i64 y, .slice none 0 0, .slice none 0 0, .slice none 0 0, .slice none 0 0, .slice none 0 0].toArray) 71)).drew) := (belx)
            obtain ⟨xs, hrow, hpush⟩ := (hG.below hBx).row
            have hS2 : Src ((wr.alloc (.cells ([.int .i64 (j : Int), .int .i64 y, .slice none 0 0, .slice none 0 0, .slice none 0 0, .slice none 0 0, .slice none 0 0].toArray) 71)).drew) 7 (some ⟨wr.heap.size, 0, none⟩) 1 [.int .i64 (j : Int), .int .i64 y, .slice none 0 0, .slice none 0 0, .slice none 0 0, .slice none 0 0, .slice none 0 0] := Src.of_boxed (e := 71) (Box.drew (Box.new wr _ _)) rfl
            have tz : (Value.agg #[Value.int .i64 0, Value.int .i64 0, Value.slice none 0 0, Value.slice none 0 0, Value.slice none 0 0, Value.slice none 0 0, Value.slice none 0 0]).cells.size = 7 := (by first | rfl | (simp [Value.cells]; done))
            have t0 : ∀ u ∈ ([.int .i64 (j : Int), .int .i64 y, .slice none 0 0, .slice none 0 0, .slice none 0 0, .slice none 0 0, .slice none 0 0] : List Value), u.oneCell' = true := (by intro u hu; simp only [List.mem_cons, List.not_mem_nil, or_false] at hu; rcases hu with rfl | rfl | rfl | rfl | rfl | rfl | rfl <;> rfl)
            have t1 : (nnL x j).length + 1 ≤ maxLen := (by simp only [maxLen]; have := HLN.out; omega)
            have t2 : ((nnL x j).length + 1) * 136 ≤ 140737488355328 := (by have := HLN.out; omega)
            have t3 := hBx.size
            refine step_app5 _ (by rfl) (.tmp 19) (.tmp 26) _ (by rfl) bs 71 i1 _ 7 136 Tryz.underlying30 hj0 hj1 hj2 hj3 tz (by omega) v _ xs (by rfl) hrow _ 1 1 [.int .i64 (j : Int), .int .i64 y, .slice none 0 0, .slice none 0 0, .slice none 0 0, .slice none 0 0, .slice none 0 0] (by rfl) hS2 t0 t1 t2 (by omega) ?_
            intro v2 w2 hown2 hgr2 hat2
            have hfin := hpush w2 v2 (nwN j y) _ [] (nwO HWJ.out HWY.out) (New.nil _) (fun f hf => absurd hf (by simp)) (fun b hb => by simp) hown2 hgr2 hat2
            obtain ⟨A9, n9, c9, rfl, -⟩ := hfin.shapeN
            have R2 := Box.grown (w := ((wr.alloc (.cells ([.int .i64 (j : Int), .int .i64 y, .slice none 0 0, .slice none 0 0, .slice none 0 0, .slice none 0 0, .slice none 0 0].toArray) 71)).drew)) (Box.drew (R0.alloc _)) hgr2 (fun e => by have := (hOwn _ e.symm).1; omega)
            have O2 := Box.grown (w := ((wr.alloc (.cells ([.int .i64 (j : Int), .int .i64 y, .slice none 0 0, .slice none 0 0, .slice none 0 0, .slice none 0 0, .slice none 0 0].toArray) 71)).drew)) (Box.drew (O0.alloc _)) hgr2 (fun e => by have := (hOwn _ e.symm).1; omega)
            have Q2 := Box.grown (w := ((wr.alloc (.cells ([.int .i64 (j : Int), .int .i64 y, .slice none 0 0, .slice none 0 0, .slice none 0 0, .slice none 0 0, .slice none 0 0].toArray) 71)).drew)) (Box.drew (Q0.alloc _)) hgr2 (fun e => by have := (hOwn _ e.symm).1; omega)
            have hBf : Below w.heap.size w w2 := Below.grown (w := ((wr.alloc (.cells ([.int .i64 (j : Int), .int .i64 y, .slice none 0 0, .slice none 0 0, .slice none 0 0, .slice none 0 0, .slice none 0 0].toArray) 71)).drew)) (bel_trans hB hBx) hgr2 (by have := hBx.size; omega) (fun b hb => by have := (hOwn b hb).1; omega)
            have z2 := hgr2.size
            have o2c := O2.cell 3
            have o2f := O2.frozen 3
            have e2 : w2.cell? ⟨g, off + j, none⟩ = some (.int .i64 y) := by rw [Q2.cell]; exact hcj
            have GF := hfin.put (p := ⟨w.heap.size + 1, 3, none⟩) (by show w.heap.size + 1 < bs; omega) (.slice A9 n9 c9)
            have RF := R2.far (p := ⟨w.heap.size + 1, 3, none⟩) (by show ¬ w.heap.size = w.heap.size + 1; omega) (.slice A9 n9 c9)
            have QF := Q2.far (p := ⟨w.heap.size + 1, 3, none⟩) (by show ¬ g = w.heap.size + 1; omega) (.slice A9 n9 c9)
            have OF : Box (w2.setCell ⟨w.heap.size + 1, 3, none⟩ (.slice A9 n9 c9)) (w.heap.size + 1) 35 #[.int .i64 0, .int .i64 x, .int .i64 0, .slice A9 n9 c9, .slice none 0 0, .slice none 0 0, .slice none 0 0] := O2.put 3 (.slice A9 n9 c9)
            have eF : (w2.setCell ⟨w.heap.size + 1, 3, none⟩ (.slice A9 n9 c9)).cell? ⟨g, off + j, none⟩ = some (.int .i64 y) := by rw [QF.cell]; exact hcj
            have BF : Below w.heap.size w (w2.setCell ⟨w.heap.size + 1, 3, none⟩ (.slice A9 n9 c9)) := bel_put hBf (by show w.heap.size ≤ w.heap.size + 1; omega) _
            refine hK.out _ _ (by exact e2) (fun hHeld => ?_)
            clear hK K
            (try simp only [Act.put, qa_, qb_, qc_])
            refine wpAnyH_take (i := 10) (oi := ⟨some 28, _, _, _, _, _⟩) (v := ?v9) rfl (by kernel_rfl) (by kernel_rfl) (by kernel_rfl) (fun _ _ _ h => h) (Or.inl ⟨by rfl, ?hy9⟩) (by assumption) ?_
            case hy9 => (intro w hSw; (try dsimp only at hSw); go_simp; try (with_reducible rfl))
            (try simp only [Act.put, qa_, qb_, qc_])
            refine wpAnyH_ready (rs := [11]) (by kernel_rfl) (by simp) ?_
            refine AllReadyH.cons rfl (fun K hK => ?_) ?_
            · go_simp
              refine hK.out _ _ (by exact eF) (fun hHeld => ?_)
              clear hK K
              (try simp only [Act.put, qa_, qb_, qc_])
              refine wpAnyH_done (by kernel_rfl) ?_ _
              go_wp2
              go_roundw
              case rel => exact ⟨j + 1, _, _, by omega, by go_num, by rw [HT.out, List.append_nil] at *; exact GF, RF, OF, QF, BF, by have h := z2; have := zB; simp [World.setCell] at h ⊢; omega⟩
              case measure => simp [intOf]; omega
            exact AllReadyH.nil
          exact AllReadyH.nil
        exact AllReadyH.nil
      exact AllReadyH.nil
    · obtain rfl : j = 8 := by omega
      obtain ⟨D3, g3, F3, rfl, hO3, hN3⟩ := hG.done
      have hM3 : New (w.heap.size + 2) F3 := hN3.lower zb2
      have oc0 := O0.cell 0; have rc0 := R0.cell 0; have rf0 := R0.frozen 0; have oc1 := O0.cell 1; have rc1 := R0.cell 1; have rf1 := R0.frozen 1; have oc2 := O0.cell 2; have rc2 := R0.cell 2; have rf2 := R0.frozen 2; have oc3 := O0.cell 3; have rc3 := R0.cell 3; have rf3 := R0.frozen 3; have oc4 := O0.cell 4; have rc4 := R0.cell 4; have rf4 := R0.frozen 4; have oc5 := O0.cell 5; have rc5 := R0.cell 5; have rf5 := R0.frozen 5; have oc6 := O0.cell 6; have rc6 := R0.cell 6; have rf6 := R0.frozen 6
      go_wp2
      have RR := (((((((R0.put 0 (.int .i64 0)).put 1 (.int .i64 x)).put 2 (.int .i64 0)).put 3 (.slice D3 (nnL x 8).length g3)).put 4 (.slice none 0 0)).put 5 (.slice none 0 0)).put 6 (.slice none 0 0))
      have y0 := RR.cell 0; have y1 := RR.cell 1; have y2 := RR.cell 2; have y3 := RR.cell 3; have y4 := RR.cell 4; have y5 := RR.cell 5; have y6 := RR.cell 6
      have u3 := (Ty.far (t := tNode.row) (Ty.far (t := tNode.row) (Ty.far (t := tNode.row) (Ty.far (t := tNode.row) (Ty.far (t := tNode.row) (Ty.far (t := tNode.row) (Ty.far (t := tNode.row) hO3 hM3 (p := ⟨w.heap.size, 0, none⟩) (by show w.heap.size < _; omega) (.int .i64 0)) hM3 (p := ⟨w.heap.size, 1, none⟩) (by show w.heap.size < _; omega) (.int .i64 x)) hM3 (p := ⟨w.heap.size, 2, none⟩) (by show w.heap.size < _; omega) (.int .i64 0)) hM3 (p := ⟨w.heap.size, 3, none⟩) (by show w.heap.size < _; omega) (.slice D3 (nnL x 8).length g3)) hM3 (p := ⟨w.heap.size, 4, none⟩) (by show w.heap.size < _; omega) (.slice none 0 0)) hM3 (p := ⟨w.heap.size, 5, none⟩) (by show w.heap.size < _; omega) (.slice none 0 0)) hM3 (p := ⟨w.heap.size, 6, none⟩) (by show w.heap.size < _; omega) (.slice none 0 0))
      have hX := nnNetO HWX.out u3
      refine bodyPost_ret (v := .agg #[.int .i64 0, .int .i64 x, .int .i64 0, .slice D3 (nnL x 8).length g3, .slice none 0 0, .slice none 0 0, .slice none 0 0]) (by simp [results, Tryz.results92, go_sem, y0, y1, y2, y3, y4, y5, y6]) rfl ⟨_, rfl, tNet.read hX, ?_⟩
      exact (bel_put (bel_put (bel_put (bel_put (bel_put (bel_put (bel_put hB (by simp) _) (by simp) _) (by simp) _) (by simp) _) (by simp) _) (by simp) _) (by simp) _)
set_option maxHeartbeats 2000000 in
theorem s_NetNew {w : World} {x : Int} (hx : (Lit.int .i64 x).wf = true) :
    Calls Tryz.prog 36 #[.int .i64 x] w fun e w' => ∃ cs, e = .returned (.tuple #[.agg cs.toArray, .bool (decide (0 ≤ x ∧ x ≤ 1000))]) ∧ tNet.R w' w'.heap.size cs (fNn x) ∧ Below w.heap.size w w' := by
  by_cases g_lo : x < 0
  · have hc : ¬ (0 ≤ x ∧ x ≤ 1000) := fun h => by omega
    rw [decide_eq_false hc, fNn_f hc]
    clear hc
    have R0 : Box (w.alloc (.cells #[.int .i64 0, .int .i64 0, .int .i64 0, .slice none 0 0, .slice none 0 0, .slice none 0 0, .slice none 0 0] 35)) w.heap.size 35 #[.int .i64 0, .int .i64 0, .int .i64 0, .slice none 0 0, .slice none 0 0, .slice none 0 0, .slice none 0 0] := Box.new _ _ _
    go_enter Tryz.func36, Tryz.ntmps36
    go_wp2
    have y0 := R0.cell 0; have y1 := R0.cell 1; have y2 := R0.cell 2; have y3 := R0.cell 3; have y4 := R0.cell 4; have y5 := R0.cell 5; have y6 := R0.cell 6
    refine bodyPost_ret (v := .tuple #[.agg #[.int .i64 0, .int .i64 0, .int .i64 0, .slice none 0 0, .slice none 0 0, .slice none 0 0, .slice none 0 0], .bool false]) (by simp [results, Tryz.results36, go_sem, y0, y1, y2, y3, y4, y5, y6]) rfl ⟨_, rfl, tNet.read zNetO, (belx)⟩
  by_cases g_hi : 1000 < x
  · have hc : ¬ (0 ≤ x ∧ x ≤ 1000) := fun h => by omega
    rw [decide_eq_false hc, fNn_f hc]
    clear hc
    have R0 : Box (w.alloc (.cells #[.int .i64 0, .int .i64 0, .int .i64 0, .slice none 0 0, .slice none 0 0, .slice none 0 0, .slice none 0 0] 35)) w.heap.size 35 #[.int .i64 0, .int .i64 0, .int .i64 0, .slice none 0 0, .slice none 0 0, .slice none 0 0, .slice none 0 0] := Box.new _ _ _
    go_enter Tryz.func36, Tryz.ntmps36
    go_wp2
    have y0 := R0.cell 0; have y1 := R0.cell 1; have y2 := R0.cell 2; have y3 := R0.cell 3; have y4 := R0.cell 4; have y5 := R0.cell 5; have y6 := R0.cell 6
    refine bodyPost_ret (v := .tuple #[.agg #[.int .i64 0, .int .i64 0, .int .i64 0, .slice none 0 0, .slice none 0 0, .slice none 0 0, .slice none 0 0], .bool false]) (by simp [results, Tryz.results36, go_sem, y0, y1, y2, y3, y4, y5, y6]) rfl ⟨_, rfl, tNet.read zNetO, (belx)⟩
  have hc : 0 ≤ x ∧ x ≤ 1000 := ⟨by omega, by omega⟩
  rw [decide_eq_true hc, fNn_t hc]
  obtain ⟨d, hd⟩ : ∃ d, nnN x = d := ⟨_, rfl⟩
  have HSZ := Lib.hid (show szNet d ≤ 1048576 from by rw [← hd]; have := nnN_sz x; omega)
  have HD := Lib.hid hd
  rw [hd]
  clear hd
  go_enter Tryz.func36, Tryz.ntmps36
  go_wp2_with fail
  refine (s_l7new hc.1 hc.2).mono ?_
  rintro e w1 ⟨cs1, rfl, hR1, hb1⟩
  rw [HD.out] at hR1
  have R1 : Box w1 w.heap.size 35 #[.int .i64 0, .int .i64 0, .int .i64 0, .slice none 0 0, .slice none 0 0, .slice none 0 0, .slice none 0 0] := Box.below (Box.new w _ _) hb1 (by simp)
  have hB1 : Below w.heap.size w w1 := bel_trans (belx) hb1
  clear hb1
  go_wp2_with fail
  refine (s_NetOwn hR1 HSZ.out).mono ?_
  rintro e w2 ⟨cs2, F2, rfl, hO2k, hN2', hb2⟩
  have zz := R1.size
  have hN2 : New (w.heap.size + 1) F2 := hN2'.lower (by omega)
  have R2 := R1.below hb2 R1.size
  have hB2 : Below w.heap.size w w2 := bel_trans hB1 hb2
  have hO2 := hO2k
  obtain ⟨B3, e3, Y3, B4, e4, Y4, B5, e5, Y5, B6, e6, Y6, rfl, -, -, -, -, -, -, -, -, -, -, -, -, -, -, -, -⟩ := openONet hO2
  have rc0 := R2.cell 0; have rf0 := R2.frozen 0; have rc1 := R2.cell 1; have rf1 := R2.frozen 1; have rc2 := R2.cell 2; have rf2 := R2.frozen 2; have rc3 := R2.cell 3; have rf3 := R2.frozen 3; have rc4 := R2.cell 4; have rf4 := R2.frozen 4; have rc5 := R2.cell 5; have rf5 := R2.frozen 5; have rc6 := R2.cell 6; have rf6 := R2.frozen 6
  clear hO2 hc
  go_wp2
  have RR := (((((((R2.put 0 (.int .i64 d.1)).put 1 (.int .i64 d.2.1)).put 2 (.int .i64 d.2.2.1)).put 3 (.slice B3 d.2.2.2.1.length e3)).put 4 (.slice B4 d.2.2.2.2.1.length e4)).put 5 (.slice B5 d.2.2.2.2.2.1.length e5)).put 6 (.slice B6 d.2.2.2.2.2.2.length e6))
  have y0 := RR.cell 0; have y1 := RR.cell 1; have y2 := RR.cell 2; have y3 := RR.cell 3; have y4 := RR.cell 4; have y5 := RR.cell 5; have y6 := RR.cell 6
  have uu := (Ty.far (t := tNet) (Ty.far (t := tNet) (Ty.far (t := tNet) (Ty.far (t := tNet) (Ty.far (t := tNet) (Ty.far (t := tNet) (Ty.far (t := tNet) hO2k hN2 (p := ⟨w.heap.size, 0, none⟩) (by show w.heap.size < _; omega) (.int .i64 d.1)) hN2 (p := ⟨w.heap.size, 1, none⟩) (by show w.heap.size < _; omega) (.int .i64 d.2.1)) hN2 (p := ⟨w.heap.size, 2, none⟩) (by show w.heap.size < _; omega) (.int .i64 d.2.2.1)) hN2 (p := ⟨w.heap.size, 3, none⟩) (by show w.heap.size < _; omega) (.slice B3 d.2.2.2.1.length e3)) hN2 (p := ⟨w.heap.size, 4, none⟩) (by show w.heap.size < _; omega) (.slice B4 d.2.2.2.2.1.length e4)) hN2 (p := ⟨w.heap.size, 5, none⟩) (by show w.heap.size < _; omega) (.slice B5 d.2.2.2.2.2.1.length e5)) hN2 (p := ⟨w.heap.size, 6, none⟩) (by show w.heap.size < _; omega) (.slice B6 d.2.2.2.2.2.2.length e6))
  refine bodyPost_ret (v := .tuple #[.agg #[.int .i64 d.1, .int .i64 d.2.1, .int .i64 d.2.2.1, .slice B3 d.2.2.2.1.length e3, .slice B4 d.2.2.2.2.1.length e4, .slice B5 d.2.2.2.2.2.1.length e5, .slice B6 d.2.2.2.2.2.2.length e6], .bool true]) (by simp [results, Tryz.results36, go_sem, y0, y1, y2, y3, y4, y5, y6]) rfl ⟨_, rfl, tNet.read uu, ?_⟩
  exact (bel_put (bel_put (bel_put (bel_put (bel_put (bel_put (bel_put hB2 (by first | exact Nat.le_refl _ | (simp; done) | (simp; omega)) _) (by first | exact Nat.le_refl _ | (simp; done) | (simp; omega)) _) (by first | exact Nat.le_refl _ | (simp; done) | (simp; omega)) _) (by first | exact Nat.le_refl _ | (simp; done) | (simp; omega)) _) (by first | exact Nat.le_refl _ | (simp; done) | (simp; omega)) _) (by first | exact Nat.le_refl _ | (simp; done) | (simp; omega)) _) (by first | exact Nat.le_refl _ | (simp; done) | (simp; omega)) _)
set_option maxHeartbeats 2000000 in
theorem i_NetNew {w : World} {x : Int} (hx : (Lit.int .i64 x).wf = true) :
    Calls Tryz.prog 37 #[.int .i64 x] w fun e w' => ∃ cs F, e = .returned (.tuple #[.agg cs.toArray, .bool (decide (0 ≤ x ∧ x ≤ 1000))]) ∧ tNet.O w' cs (fNn x) F ∧ New w.heap.size F ∧ Below w.heap.size w w' := by
  obtain ⟨i1, hj0, hj1, hj2, hj3⟩ := info_parts info_Node
  have HWX := Lib.hid hx
  by_cases hc : 0 ≤ x ∧ x ≤ 1000
  rotate_left
  · rw [decide_eq_false hc, fNn_f hc]
    have HC := Lib.hid hc
    clear hc
    go_enter Tryz.func37, Tryz.ntmps37
    go_wp2_with fail
    refine (i_within_f _ _ _ HC.out).mono ?_
    rintro e w' ⟨rfl, rfl⟩
    go_wp2
    have R0 : Box (w.alloc (.cells #[.int .i64 0, .int .i64 0, .int .i64 0, .slice none 0 0, .slice none 0 0, .slice none 0 0, .slice none 0 0] 35)) w.heap.size 35 #[.int .i64 0, .int .i64 0, .int .i64 0, .slice none 0 0, .slice none 0 0, .slice none 0 0, .slice none 0 0] := Box.new _ _ _
    have y0 := R0.cell 0; have y1 := R0.cell 1; have y2 := R0.cell 2; have y3 := R0.cell 3; have y4 := R0.cell 4; have y5 := R0.cell 5; have y6 := R0.cell 6
    refine bodyPost_ret (v := .tuple #[.agg #[.int .i64 0, .int .i64 0, .int .i64 0, .slice none 0 0, .slice none 0 0, .slice none 0 0, .slice none 0 0], .bool false]) (by simp [results, Tryz.results37, go_sem, y0, y1, y2, y3, y4, y5, y6]) rfl ⟨_, [], rfl, zNetO, New.nil _, (belx)⟩
  obtain ⟨h0, h1⟩ := hc
  rw [decide_eq_true (⟨h0, h1⟩ : 0 ≤ x ∧ x ≤ 1000), fNn_t ⟨h0, h1⟩]
  go_enter Tryz.func37, Tryz.ntmps37
  go_wp2_with fail
  refine (i_within_t _ _ _ h0 h1).mono ?_
  rintro e w' ⟨rfl, rfl⟩
  have R1 : Box ((w.alloc (.cells #[.int .i64 0, .int .i64 0, .int .i64 0, .slice none 0 0, .slice none 0 0, .slice none 0 0, .slice none 0 0] 35)).alloc (.cells #[.int .i64 0, .int .i64 x, .int .i64 0, .slice none 0 0, .slice none 0 0, .slice none 0 0, .slice none 0 0] 35)) w.heap.size 35 #[.int .i64 0, .int .i64 0, .int .i64 0, .slice none 0 0, .slice none 0 0, .slice none 0 0, .slice none 0 0] := (Box.new w _ _).alloc _
  have O1 : Box ((w.alloc (.cells #[.int .i64 0, .int .i64 0, .int .i64 0, .slice none 0 0, .slice none 0 0, .slice none 0 0, .slice none 0 0] 35)).alloc (.cells #[.int .i64 0, .int .i64 x, .int .i64 0, .slice none 0 0, .slice none 0 0, .slice none 0 0, .slice none 0 0] 35)) (w.heap.size + 1) 35 #[.int .i64 0, .int .i64 x, .int .i64 0, .slice none 0 0, .slice none 0 0, .slice none 0 0, .slice none 0 0] := by simpa using Box.new (w.alloc (.cells #[.int .i64 0, .int .i64 0, .int .i64 0, .slice none 0 0, .slice none 0 0, .slice none 0 0, .slice none 0 0] 35)) 35 #[.int .i64 0, .int .i64 x, .int .i64 0, .slice none 0 0, .slice none 0 0, .slice none 0 0, .slice none 0 0]
  go_wp2_with fail
  go_loopw [14] (fun i wr => ∃ (j : Nat) (F : List Nat) (v : Value), j ≤ 8 ∧ i = .int .i64 j ∧ GrowO tNode 71 wr (w.heap.size + 2) v (nnL x j) F ∧ Box wr w.heap.size 35 #[.int .i64 0, .int .i64 0, .int .i64 0, .slice none 0 0, .slice none 0 0, .slice none 0 0, .slice none 0 0] ∧ Box wr (w.heap.size + 1) 35 #[.int .i64 0, .int .i64 x, .int .i64 0, v, .slice none 0 0, .slice none 0 0, .slice none 0 0] ∧ Below w.heap.size w wr ∧ w.heap.size + 2 ≤ wr.heap.size) (fun i _ => 8 - (intOf i).toNat)
  case atStart => exact ⟨0, [], .slice none 0 0, by omega, rfl, GrowO.nil, R1, O1, (belx), by simp⟩
  case round =>
    obtain ⟨j, F, v, hj, rfl, hG, R0, O0, hB, zB⟩ := hrel
    clear R1 O1
    by_cases hlt : j < 8
    · have HT := Lib.hid (nnL_sn x j)
      have HLN := Lib.hid (nnL_len x j)
      have HWY := Lib.hid (show (Lit.int .i64 (nsec x j)).wf = true from wfs (by have := nsec_rg x j; omega) (by have := nsec_rg x j; omega))
      have HWJ := Lib.hid (wfs (x := (j : Int)) (by omega) (by omega))
      have HNW := Lib.hid (decide_eq_true (nwOk_j (x := x) hlt))
      have HFN := Lib.hid (fNew_t (nwOk_j (x := x) hlt))
      obtain ⟨y, hy⟩ : ∃ y, nsec x j = y := ⟨_, rfl⟩
      have HY := Lib.hid hy
      rw [hy] at HWY HT HNW HFN
      clear hy
      have hOwn := fun b hb => (GrowO.row hG).choose_spec.1.lt b hb
      have hlt2 := hG.lt
      have i1' : (j : Int) < 8 := by omega
      go_wp2_with fail
      refine (i_nodeSecret x (j : Int) _ h0 h1 (by omega) (by omega)).mono ?_
      rintro e w' ⟨rfl, rfl⟩
      rw [HY.out]
      go_wp2_with fail
      refine (i_NodeNew HWJ.out HWY.out).mono ?_
      rintro e w2 ⟨cs2, Fd, rfl, hOd, hNd, hb2⟩
      rw [HNW.out]
      rw [HFN.out] at hOd
      obtain ⟨a, ha⟩ : ∃ a, nwN (j : Int) y = a := ⟨_, rfl⟩
      rw [ha] at hOd HT
      clear ha
      have hOk := hOd
      obtain ⟨B2, e2, B3, e3, B4, e4, B5, e5, B6, e6, oG2, oG4, oG6, rfl, -, -, -, -, -, -⟩ := fopenONode hOd
      clear hOd
      have R2 := R0.below hb2 R0.size
      have O2 := O0.below hb2 O0.size
      have hs2 := hb2
      have z2 := hb2.size
      have o2c : (w2.alloc (.cells #[.int .i64 a.1, .int .i64 a.2.1, .slice B2 a.2.2.1.1.length e2, .slice B3 a.2.2.1.2.length e3, .slice B4 a.2.2.2.1.1.length e4, .slice B5 a.2.2.2.1.2.length e5, .slice B6 a.2.2.2.2.length e6] 71)).cell? ⟨w.heap.size + 1, 3, none⟩ = some v := (O2.alloc _).cell 3
      go_wp2_with (at_builtin; have hBx : Below wr.heap.size wr ((w2.alloc (.cells #[.int .i64 a.1, .int .i64 a.2.1, .slice B2 a.2.2.1.1.length e2, .slice B3 a.2.2.1.2.length e3, .slice B4 a.2.2.2.1.1.length e4, .slice B5 a.2.2.2.1.2.length e5, .slice B6 a.2.2.2.2.length e6] 71)).alloc (.cells [.int .i64 a.1, .int .i64 a.2.1, .slice B2 a.2.2.1.1.length e2, .slice B3 a.2.2.1.2.length e3, .slice B4 a.2.2.2.1.1.length e4, .slice B5 a.2.2.2.1.2.length e5, .slice B6 a.2.2.2.2.length e6].toArray 71)) := bel_alloc (bel_alloc hs2 _) _; obtain ⟨xs, hrow, hpush⟩ := (hG.below hBx).row; have hS2 : Src ((w2.alloc (.cells #[.int .i64 a.1, .int .i64 a.2.1, .slice B2 a.2.2.1.1.length e2, .slice B3 a.2.2.1.2.length e3, .slice B4 a.2.2.2.1.1.length e4, .slice B5 a.2.2.2.1.2.length e5, .slice B6 a.2.2.2.2.length e6] 71)).alloc (.cells [.int .i64 a.1, .int .i64 a.2.1, .slice B2 a.2.2.1.1.length e2, .slice B3 a.2.2.1.2.length e3, .slice B4 a.2.2.2.1.1.length e4, .slice B5 a.2.2.2.1.2.length e5, .slice B6 a.2.2.2.2.length e6].toArray 71)) 7 (some ⟨w2.heap.size + 1, 0, none⟩) 1 [.int .i64 a.1, .int .i64 a.2.1, .slice B2 a.2.2.1.1.length e2, .slice B3 a.2.2.1.2.length e3, .slice B4 a.2.2.2.1.1.length e4, .slice B5 a.2.2.2.1.2.length e5, .slice B6 a.2.2.2.2.length e6] := (by have h := Src.of_box (w2.alloc (.cells #[.int .i64 a.1, .int .i64 a.2.1, .slice B2 a.2.2.1.1.length e2, .slice B3 a.2.2.1.2.length e3, .slice B4 a.2.2.2.1.1.length e4, .slice B5 a.2.2.2.1.2.length e5, .slice B6 a.2.2.2.2.length e6] 71)) 71 [.int .i64 a.1, .int .i64 a.2.1, .slice B2 a.2.2.1.1.length e2, .slice B3 a.2.2.1.2.length e3, .slice B4 a.2.2.2.1.1.length e4, .slice B5 a.2.2.2.1.2.length e5, .slice B6 a.2.2.2.2.length e6] (K := 7) rfl; simpa using h); have tz : (Value.agg #[Value.int .i64 0, Value.int .i64 0, Value.slice none 0 0, Value.slice none 0 0, Value.slice none 0 0, Value.slice none 0 0, Value.slice none 0 0]).cells.size = 7 := (by first | rfl | (simp [Value.cells]; done)); have t0 : ∀ u ∈ ([.int .i64 a.1, .int .i64 a.2.1, .slice B2 a.2.2.1.1.length e2, .slice B3 a.2.2.1.2.length e3, .slice B4 a.2.2.2.1.1.length e4, .slice B5 a.2.2.2.1.2.length e5, .slice B6 a.2.2.2.2.length e6] : List Value), u.oneCell' = true := (by intro u hu; simp only [List.mem_cons, List.not_mem_nil, or_false] at hu; rcases hu with rfl | rfl | rfl | rfl | rfl | rfl | rfl <;> rfl); have t1 : (nnL x j).length + 1 ≤ maxLen := (by simp only [maxLen]; have := HLN.out; omega); have t2 : ((nnL x j).length + 1) * 136 ≤ 140737488355328 := (by have := HLN.out; omega); have t3 := hBx.size; refine wpList_app _ rfl (.tmp 26) (.tmp 28) _ rfl (w.heap.size + 2) 71 i1 _ 7 136 Tryz.underlying30 hj0 hj1 hj2 hj3 tz (by omega) v _ xs rfl hrow _ 1 1 [.int .i64 a.1, .int .i64 a.2.1, .slice B2 a.2.2.1.1.length e2, .slice B3 a.2.2.1.2.length e3, .slice B4 a.2.2.2.1.1.length e4, .slice B5 a.2.2.2.1.2.length e5, .slice B6 a.2.2.2.2.length e6] rfl hS2 t0 t1 t2 (by omega) ?_; intro v3 w3 hown3 hgr3 hat3; have hOel : tNode.O ((w2.alloc (.cells #[.int .i64 a.1, .int .i64 a.2.1, .slice B2 a.2.2.1.1.length e2, .slice B3 a.2.2.1.2.length e3, .slice B4 a.2.2.2.1.1.length e4, .slice B5 a.2.2.2.1.2.length e5, .slice B6 a.2.2.2.2.length e6] 71)).alloc (.cells [.int .i64 a.1, .int .i64 a.2.1, .slice B2 a.2.2.1.1.length e2, .slice B3 a.2.2.1.2.length e3, .slice B4 a.2.2.2.1.1.length e4, .slice B5 a.2.2.2.1.2.length e5, .slice B6 a.2.2.2.2.length e6].toArray 71)) [.int .i64 a.1, .int .i64 a.2.1, .slice B2 a.2.2.1.1.length e2, .slice B3 a.2.2.1.2.length e3, .slice B4 a.2.2.2.1.1.length e4, .slice B5 a.2.2.2.1.2.length e5, .slice B6 a.2.2.2.2.length e6] a Fd := Ty.below (t := tNode) hOk (belx); have hNel : New (w.heap.size + 2) Fd := hNd.lower (by omega); have hdis : ∀ f ∈ Fd, f ∉ F := (fun f h1 h2 => by have := hNd.2 _ h1; have := hlt2 f h2; omega); have hod : ∀ b, v.ownBlock = some b → b ∉ Fd := (fun b hb hx => by have := (hOwn b hb).2; have := hNd.2 _ hx; omega); have hfin := hpush w3 v3 a _ Fd hOel hNel hdis hod hown3 hgr3 hat3; obtain ⟨A9, n9, c9, rfl, -⟩ := hfin.shapeN; have R3 := Box.grown (w := ((w2.alloc (.cells #[.int .i64 a.1, .int .i64 a.2.1, .slice B2 a.2.2.1.1.length e2, .slice B3 a.2.2.1.2.length e3, .slice B4 a.2.2.2.1.1.length e4, .slice B5 a.2.2.2.1.2.length e5, .slice B6 a.2.2.2.2.length e6] 71)).alloc (.cells [.int .i64 a.1, .int .i64 a.2.1, .slice B2 a.2.2.1.1.length e2, .slice B3 a.2.2.1.2.length e3, .slice B4 a.2.2.2.1.1.length e4, .slice B5 a.2.2.2.1.2.length e5, .slice B6 a.2.2.2.2.length e6].toArray 71))) ((R2.alloc _).alloc _) hgr3 (fun e => by have := (hOwn _ e.symm).1; omega); have O3 := Box.grown (w := ((w2.alloc (.cells #[.int .i64 a.1, .int .i64 a.2.1, .slice B2 a.2.2.1.1.length e2, .slice B3 a.2.2.1.2.length e3, .slice B4 a.2.2.2.1.1.length e4, .slice B5 a.2.2.2.1.2.length e5, .slice B6 a.2.2.2.2.length e6] 71)).alloc (.cells [.int .i64 a.1, .int .i64 a.2.1, .slice B2 a.2.2.1.1.length e2, .slice B3 a.2.2.1.2.length e3, .slice B4 a.2.2.2.1.1.length e4, .slice B5 a.2.2.2.1.2.length e5, .slice B6 a.2.2.2.2.length e6].toArray 71))) ((O2.alloc _).alloc _) hgr3 (fun e => by have := (hOwn _ e.symm).1; omega); have hBf : Below w.heap.size w w3 := Below.grown (w := ((w2.alloc (.cells #[.int .i64 a.1, .int .i64 a.2.1, .slice B2 a.2.2.1.1.length e2, .slice B3 a.2.2.1.2.length e3, .slice B4 a.2.2.2.1.1.length e4, .slice B5 a.2.2.2.1.2.length e5, .slice B6 a.2.2.2.2.length e6] 71)).alloc (.cells [.int .i64 a.1, .int .i64 a.2.1, .slice B2 a.2.2.1.1.length e2, .slice B3 a.2.2.1.2.length e3, .slice B4 a.2.2.2.1.1.length e4, .slice B5 a.2.2.2.1.2.length e5, .slice B6 a.2.2.2.2.length e6].toArray 71))) (bel_trans hB hBx) hgr3 (by have := hBx.size; omega) (fun b hb => by have := (hOwn b hb).1; omega); have z3 := hgr3.size; have o3c := O3.cell 3; have o3f := O3.frozen 3; have GF := hfin.put (p := ⟨w.heap.size + 1, 3, none⟩) (by show w.heap.size + 1 < w.heap.size + 2; omega) (.slice A9 n9 c9); have RF := R3.far (p := ⟨w.heap.size + 1, 3, none⟩) (by show ¬ w.heap.size = w.heap.size + 1; omega) (.slice A9 n9 c9); have OF : Box (w3.setCell ⟨w.heap.size + 1, 3, none⟩ (.slice A9 n9 c9)) (w.heap.size + 1) 35 #[.int .i64 0, .int .i64 x, .int .i64 0, .slice A9 n9 c9, .slice none 0 0, .slice none 0 0, .slice none 0 0] := O3.put 3 (.slice A9 n9 c9); have BF : Below w.heap.size w (w3.setCell ⟨w.heap.size + 1, 3, none⟩ (.slice A9 n9 c9)) := bel_put hBf (by show w.heap.size ≤ w.heap.size + 1; omega) _)
      go_roundw
      case rel => exact ⟨j + 1, _, _, by omega, by go_num, by rw [HT.out]; exact GF, RF, OF, BF, by have h := z3; have := zB; simp [World.setCell] at h ⊢; omega⟩
      case measure => simp [intOf]; omega
    · obtain rfl : j = 8 := by omega
      obtain ⟨D3, g3, F3, rfl, hO3, hN3⟩ := hG.done
      have hM3 : New (w.heap.size + 2) F3 := hN3
      have oc0 := O0.cell 0; have rc0 := R0.cell 0; have rf0 := R0.frozen 0; have oc1 := O0.cell 1; have rc1 := R0.cell 1; have rf1 := R0.frozen 1; have oc2 := O0.cell 2; have rc2 := R0.cell 2; have rf2 := R0.frozen 2; have oc3 := O0.cell 3; have rc3 := R0.cell 3; have rf3 := R0.frozen 3; have oc4 := O0.cell 4; have rc4 := R0.cell 4; have rf4 := R0.frozen 4; have oc5 := O0.cell 5; have rc5 := R0.cell 5; have rf5 := R0.frozen 5; have oc6 := O0.cell 6; have rc6 := R0.cell 6; have rf6 := R0.frozen 6
      go_wp2
      have RR := (((((((R0.put 0 (.int .i64 0)).put 1 (.int .i64 x)).put 2 (.int .i64 0)).put 3 (.slice D3 (nnL x 8).length g3)).put 4 (.slice none 0 0)).put 5 (.slice none 0 0)).put 6 (.slice none 0 0))
      have y0 := RR.cell 0; have y1 := RR.cell 1; have y2 := RR.cell 2; have y3 := RR.cell 3; have y4 := RR.cell 4; have y5 := RR.cell 5; have y6 := RR.cell 6
      have u3 := (Ty.far (t := tNode.row) (Ty.far (t := tNode.row) (Ty.far (t := tNode.row) (Ty.far (t := tNode.row) (Ty.far (t := tNode.row) (Ty.far (t := tNode.row) (Ty.far (t := tNode.row) hO3 hM3 (p := ⟨w.heap.size, 0, none⟩) (by show w.heap.size < _; omega) (.int .i64 0)) hM3 (p := ⟨w.heap.size, 1, none⟩) (by show w.heap.size < _; omega) (.int .i64 x)) hM3 (p := ⟨w.heap.size, 2, none⟩) (by show w.heap.size < _; omega) (.int .i64 0)) hM3 (p := ⟨w.heap.size, 3, none⟩) (by show w.heap.size < _; omega) (.slice D3 (nnL x 8).length g3)) hM3 (p := ⟨w.heap.size, 4, none⟩) (by show w.heap.size < _; omega) (.slice none 0 0)) hM3 (p := ⟨w.heap.size, 5, none⟩) (by show w.heap.size < _; omega) (.slice none 0 0)) hM3 (p := ⟨w.heap.size, 6, none⟩) (by show w.heap.size < _; omega) (.slice none 0 0))
      have hX := nnNetO HWX.out u3
      refine bodyPost_ret (v := .tuple #[.agg #[.int .i64 0, .int .i64 x, .int .i64 0, .slice D3 (nnL x 8).length g3, .slice none 0 0, .slice none 0 0, .slice none 0 0], .bool true]) (by simp [results, Tryz.results37, go_sem, y0, y1, y2, y3, y4, y5, y6]) rfl ⟨_, _, rfl, hX, hM3.lower (by omega), ?_⟩
      exact (bel_put (bel_put (bel_put (bel_put (bel_put (bel_put (bel_put hB (by simp) _) (by simp) _) (by simp) _) (by simp) _) (by simp) _) (by simp) _) (by simp) _)
end Go.Proofs.YteokfenoomcogaaGreat
