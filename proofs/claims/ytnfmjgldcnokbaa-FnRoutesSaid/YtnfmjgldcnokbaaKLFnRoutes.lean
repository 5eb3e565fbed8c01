/-
  For every draw: the first node of a route can remove a layer, and all nodes of the route do, in its order. No further condition.
-/
import Derived.Test.YtnfmjgldcnokbaaKGr
import Derived.Test.YtnfmjgldcnokbaaKGv
import Derived.Test.YtnfmjgldcnokbaaKGw
import Derived.Test.YtnfmjgldcnokbaaRows
import Derived.Below
import Derived.ChangeOld
import Derived.OpenShut
import Derived.ProofKit
import Derived.ShutString
import Derived.SizedLaws
import Derived.WalkKit
namespace Go.Proofs.Ytnfmjgldcnokbaa.fnRoutes
open Go.ChangeShapes Go.WideShapes Go.ChangeAt Go.RowKit
open Go.ChangeMaps (open_string shut_string)
set_option linter.unusedVariables false

theorem bytes5 : Try.prog.bytesOf 5 = 1 := by kernel_rfl
open Go.Proofs.Ytnfmjgldcnokbaa Fld
theorem own : ownKnob Try.prog.godebug = none := by kernel_rfl
theorem laidOut : laidOutB Try.prog = true := by kernel_rfl

/-- WHAT THE WALK IS TOLD OF A SLICE OF INTEGERS THAT CAME IN: it is nil; or it leads to a row of 'cap' cells, the numbers 'zs' (the first 'len' are its elements, the rest its spare room), each fitting its kind. -/
def IsRow (k : IntKind) (w : World) (a : Option Addr) (len cap : Nat) (zs : List Int) : Prop :=
  (a = none ∧ len = 0 ∧ cap = 0 ∧ zs = []) ∨
  ∃ x, a = some x ∧ len ≤ cap ∧ cap ≤ maxLen ∧ zs.length = cap ∧ (∀ i, i < zs.length → w.cell? (x.add i) = some (.int k (zs.getD i 0))) ∧ ∀ n ∈ zs, (Lit.int k n).wf = true

theorem rowInts {w : World} {a : Option Addr} {n c : Nat} {zs : List Int} (h : IsRow .u8 w a n c zs) : Ints .u8 w w.heap.size a n (zs.take n) ∧ n ≤ c := by
  rcases h with ⟨rfl, rfl, rfl, rfl⟩ | ⟨x, rfl, hl, _, hz, hc, hw⟩
  · exact ⟨Ints.nil, Nat.le_refl _⟩
  · exact ⟨Ints.ofRow (by omega) hc hw, hl⟩
theorem shapeR {K : IntKind} {w : World} {B : Nat} {v : Value} {l : List Int} (h : (tSl K).R w B [v] l) : ∃ A c, v = .slice A l.length c := by
  obtain ⟨A, n, c, e, -, -, hI⟩ := h
  injection e with e _
  subst e
  exact ⟨A, c, by rw [hI.1]⟩
theorem sizeR {w : World} {cs : List Value} {l : List Int} (h : tCell.R w w.heap.size cs l) : ∃ A c, cs = [.slice A l.length c] := by
  obtain ⟨A, n, c, e, -, -, hI⟩ := h
  exact ⟨A, c, by rw [e, hI.1]⟩

/-! ### STEP 1: THE WALK: the Go text returns true, AND WRITES NOTHING THAT WAS THERE: 'Below w.heap.size w w'' (Derived/Below.lean: '.refl', '.alloc', '.drew', '.setCell' at a new block, '.trans'). Open each 'IsRow' by 'rcases' AHEAD of 'go_enter'; part every test ahead of the walk. -/
set_option maxRecDepth 100000 in
set_option maxHeartbeats 2000000 in
theorem walk (a0 : Option Addr) (len0 cap0 : Nat) (z0 : List Int) (w : World) (w0 : IsRow .u8 w a0 len0 cap0 z0) (r0 : cap0 ≤ 140737488351232) :
    Calls Try.prog 6 #[.slice a0 len0 cap0] w fun e w' => e = .returned (.bool true) ∧ Below w.heap.size w w' := by
  obtain ⟨hl, hn⟩ := rowInts w0
  go_enter Try.func6, Try.ntmps6
  go_wp2_with fail
  refine (d_Wrap hl (by omega)).mono ?_
  rintro e w1 ⟨vr, vp, vs, vl, vd, r, s, ld, pd, u, rfl, h0, h2, h4, h5, ⟨q0, q2, q4, q5⟩, ⟨u0, u1⟩, hB1⟩
  obtain ⟨A0, c0, rfl⟩ := shapeR h0
  obtain ⟨A2, c2, rfl⟩ := shapeR h2
  obtain ⟨A4, c4, rfl⟩ := shapeR h4
  obtain ⟨A5, c5, rfl⟩ := shapeR h5
  have hby := (slR_ints h4).1.bytes
  obtain ⟨n0, hn0⟩ : ∃ m, r.length = m := ⟨_, rfl⟩
  obtain ⟨n2, hn2⟩ : ∃ m, s.length = m := ⟨_, rfl⟩
  obtain ⟨n4, hn4⟩ : ∃ m, ld.length = m := ⟨_, rfl⟩
  obtain ⟨n5, hn5⟩ : ∃ m, pd.length = m := ⟨_, rfl⟩
  have N0 := Lib.hid hn0
  have N2 := Lib.hid hn2
  have N4 := Lib.hid hn4
  have N5 := Lib.hid hn5
  have Q0 := Lib.hid q0
  have Q2 := Lib.hid q2
  have Q4 := Lib.hid q4
  have Q5 := Lib.hid q5
  rw [hn0] at h0 q0 ⊢
  rw [hn2] at h2 q2 ⊢
  rw [hn4] at h4 q4 ⊢
  rw [hn5] at h5 q5 ⊢
  clear hn0 hn2 hn4 hn5
  go_wp2_with fail
  refine (l_at 1 (hl.below hB1) (by omega) (by omega)).mono ?_
  rintro e w' ⟨rfl, rfl⟩
  have rsd := atV_rg hl.bytes 1
  obtain ⟨sd, hsd⟩ : ∃ sd, atV (List.take len0 z0) 1 = sd := ⟨_, rfl⟩
  rw [hsd] at rsd ⊢
  clear hsd
  go_wp2_with fail
  refine (l_nodes (by omega) (by omega)).mono ?_
  rintro e w2 ⟨Aa, ca, Ab, cb, rfl, ha, hb, hb2⟩
  have h0 := tIs.reach h0 hb2
  have h2 := tIs.reach h2 hb2
  have h4 := tBy.reach h4 hb2
  have h5 := tBy.reach h5 hb2
  have hB2 := bel_trans hB1 hb2
  go_wp2_with fail
  refine (i_WrapR h0 (by have := Q0.out; omega) hb (by rw [ndP_len]; omega) h2 (by have := Q2.out; omega) (WalkArith.wf_i64 ⟨by omega, by omega⟩) h4 (by have := Q4.out; omega) h5 (by have := Q5.out; omega)).mono ?_
  rintro e w3 ⟨cs, F, rfl, hO, -, hb3⟩
  have h0 := tIs.reach h0 hb3
  have h2 := tIs.reach h2 hb3
  have h4 := tBy.reach h4 hb3
  have h5 := tBy.reach h5 hb3
  have ha := tIs.reach ha hb3
  have hb := tIs.reach hb hb3
  have hB3 := bel_trans hB2 hb3
  have hR := tCell.read hO
  obtain ⟨Ac, cc, rfl⟩ := sizeR hR
  clear hO
  by_cases ho : WrapOk r (ndP sd) s u ld pd
  · have HO := Lib.hid ho
    have HK := Lib.hid (show (fwrap r (ndP sd) s u ld pd).2 = true by rw [fwrap_t ho])
    have HW := Lib.hid (wrapped_len ho)
    rw [HK.out]
    rw [HW.out] at hR ⊢
    go_wp2_with fail
    have hx := bel_alloc (Below.refl w3.heap.size w3) (.cells #[.slice Ac 80 cc] 30)
    refine (s_WrapR (tIs.reach h0 hx) (by have := Q0.out; omega) (tIs.reach hb hx) (by rw [ndP_len]; omega) (tIs.reach h2 hx) (by have := Q2.out; omega) (WalkArith.wf_i64 ⟨by omega, by omega⟩) (tBy.reach h4 hx) (by have := Q4.out; omega) (tBy.reach h5 hx) (by have := Q5.out; omega)).mono ?_
    rintro e w4 ⟨cs', rfl, hR', hb4⟩
    rw [HK.out]
    obtain ⟨Ac', cc', rfl⟩ := sizeR hR'
    rw [HW.out]
    have hx4 := bel_trans hx hb4
    have bx := (Box.below (B := (w3.alloc (.cells #[.slice Ac 80 cc] 30)).heap.size) (Box.new w3 30 #[.slice Ac 80 cc]) hb4 (by simp)).alloc (.cells #[.slice Ac' 80 cc'] 30)
    have hx5 : Below w3.heap.size w3 (w4.alloc (.cells #[.slice Ac' 80 cc'] 30)) := bel_alloc hx4 _
    have z5 : w3.heap.size < w4.heap.size := by have h := hb4.size; simp at h; omega
    have h0 := tIs.reach h0 hx5
    have h2 := tIs.reach h2 hx5
    have h4 := tBy.reach h4 hx5
    have h5 := tBy.reach h5 hx5
    have ha := tIs.reach ha hx5
    have hb := tIs.reach hb hx5
    have hR := tCell.reach hR hx5
    have hB5 := bel_trans hB3 hx5
    obtain ⟨cl, hcl⟩ : ∃ cl, (fwrap r (ndP sd) s u ld pd).1 = cl := ⟨_, rfl⟩
    rw [hcl] at hR
    have HC := Lib.hid hcl
    have HL := Lib.hid (show cl.length = 80 by rw [← hcl]; exact HW.out)
    have k0 := bx.cell 0
    obtain ⟨wx, hwx⟩ : ∃ wx, w4.alloc (.cells #[.slice Ac' 80 cc'] 30) = wx := ⟨_, rfl⟩
    have zx : w3.heap.size < wx.heap.size := by rw [← hwx]; simp; omega
    rw [hwx] at h0 h2 h4 h5 ha hb hR hB5 bx k0
    clear hx hx4 hx5 hR' hb4 hb3 hb2 hcl ho
    have hps := nd_pubsOf sd
    have hsl := ndS_len sd
    have hsc := ndS_sec rsd
    have hcan := wrapped_can hps hsl hsc HO.out hby
    have hdep := wrapped_depth hps hsl hsc HO.out hby
    have hrea := wrapped_reach hps hsl hsc HO.out hby
    have hfst := wrapped_first HO.out
    have hpee := wrapped_peel hps hsl hsc HO.out hby _ zer (wrapped_own HO.out) HW.out (by rw [zer_len]; exact Nat.le_refl _)
    rw [HC.out] at hcan hdep hrea hpee
    obtain ⟨x0, hx0⟩ : ∃ k : Nat, r.getD 0 0 = (k : Int) := ⟨(r.getD 0 0).toNat, by omega⟩
    rw [hx0] at hcan hrea hpee hfst
    obtain ⟨s0, hs0⟩ : ∃ s0, (ndS sd).getD x0 0 = s0 := ⟨_, rfl⟩
    rw [Int.toNat_natCast, hs0] at hpee
    have x8 : x0 < 8 := by omega
    have wf0 : (Lit.int .i64 (x0 : Int)).wf = true := WalkArith.wf_i64 ⟨by omega, by omega⟩
    have HNX := Lib.hid (show fnext s0 cl = r.getD 1 255 by unfold fnext; rw [hpee]; simp)
    have HRE := Lib.hid hrea
    obtain ⟨dv, hdv⟩ : ∃ dv, fdepth (ndS sd) cl = dv := ⟨_, rfl⟩
    have HDV := Lib.hid hdv
    rw [hdv] at hdep
    obtain ⟨L, hL⟩ : ∃ L, fcan (ndS sd) cl = L := ⟨_, rfl⟩
    have hL8 : L.length ≤ 8 := by rw [← hL]; exact fcan_le _ _
    have HLL := Lib.hid hL
    rw [hL] at hcan
    have HCAN := Lib.hid hcan
    have hr1 := HO.out.1.1
    rw [N0.out] at hr1
    have n01 : 1 ≤ n0 := hr1.1
    have n04 : n0 ≤ 4 := hr1.2
    clear hps hsl hsc hdv hrea hpee hcan hL hfst hr1
    go_wp2_with fail
    try rw [hwx]
    refine (i_CanPeel (slR_ints ha).1 (by omega) (slR_ints hR).1 (slR_ints hR).2.1 (slR_ints hR).2.2).mono ?_
    rintro e w6 ⟨v6, rfl, hO6, hb6⟩
    rw [HLL.out] at hO6
    obtain ⟨A6, c6, rfl, h6c, hI6, -⟩ := hO6.ints
    obtain ⟨m, hm⟩ : ∃ m, L.length = m := ⟨_, rfl⟩
    have HM := Lib.hid hm
    rw [hm] at hI6 hL8 ⊢
    clear hm h6c hO6
    have h0 := tIs.reach h0 hb6
    have ha := tIs.reach ha hb6
    have hR := tCell.reach hR hb6
    have bx6 := bx.below hb6 bx.size
    have k6 := bx6.cell 0
    have hB6 := bel_trans hB5 hb6
    obtain ⟨br, of, rfl, -, d0, -⟩ := (slR_ints h0).1.at_ (i := 0) (by omega)
    obtain ⟨ba, oa, rfl, -, d1, -⟩ := (slR_ints ha).1.at_ (i := x0) x8
    rw [hx0, Nat.add_zero] at d0
    rw [hs0] at d1
    clear bx k0 bx6 hx0 hs0 h2 h4 h5 hb hB1 hB2 hB3 hB5
    have p0 : (0 : Int) < (n0 : Int) := by omega
    have p1 : (0 : Int) ≤ (x0 : Int) := by omega
    have p2 : (x0 : Int) < 8 := by omega
    have pn : 0 < n0 := by omega
    go_wp2_with fail
    go_loopw [16, 17] (fun f i wr => ∃ (k : Nat) (b : Bool), k ≤ m ∧ i = .int .i64 k ∧ f = .bool b ∧ b = decide ((x0 : Int) ∈ L.take k) ∧ ∃ q, wr = w6.drewN q) (fun _ i _ => m - (intOf i).toNat)
    case atStart => exact ⟨0, false, by omega, rfl, rfl, by simp, 0, rfl⟩
    case round =>
      obtain ⟨k, b, hk, rfl, rfl, hb, q, rfl⟩ := hrel
      have HB := Lib.hid hb
      clear hb
      by_cases hlt : k < m
      · obtain ⟨b6, o6, rfl, -, d6, -⟩ := hI6.at_ hlt
        obtain ⟨y, hy⟩ : ∃ y, L.getD k 0 = y := ⟨_, rfl⟩
        rw [hy] at d6
        have HY := Lib.hid hy
        have hkl : k < L.length := by rw [HM.out]; exact hlt
        have hst : L.take (k + 1) = L.take k ++ [y] := by rw [List.take_succ_eq_append_getElem hkl, ← getD_lt hkl, hy]
        have HST := Lib.hid hst
        clear hy hst hkl
        have t0 : (k : Int) < (m : Int) := by omega
        have t1 : (0 : Int) ≤ (k : Int) := by omega
        have e6 : (w6.drewN q).cell? ⟨b6, o6 + k, none⟩ = some (.int .i64 y) := d6
        have e0 : (w6.drewN q).cell? ⟨br, of, none⟩ = some (.int .i64 (x0 : Int)) := d0
        cases b with
        | true =>
          go_wp2
          go_quiet (fail)
          go_wp2
          go_roundw
          case rel => exact ⟨k + 1, true, by omega, by go_num, rfl, by rw [HST.out]; have h := HB.out; symm; rw [decide_eq_true_iff]; exact List.mem_append.2 (.inl (of_decide_eq_true h.symm)), _, rfl⟩
          case measure => simp [intOf]; omega
        | false =>
          by_cases hyx : y = (x0 : Int)
          · subst hyx
            go_wp2
            go_quiet (fail)
            go_wp2
            go_roundw
            case rel => exact ⟨k + 1, true, by omega, by go_num, rfl, by rw [HST.out]; symm; rw [decide_eq_true_iff]; exact List.mem_append.2 (.inr (by simp)), _, rfl⟩
            case measure => simp [intOf]; omega
          · have hne : (y == (x0 : Int)) = false := by simpa using hyx
            have HNE := Lib.hid hyx
            clear hyx
            go_wp2
            go_quiet (fail)
            go_wp2
            go_roundw
            case rel => exact ⟨k + 1, false, by omega, by go_num, rfl, by rw [HST.out]; have h := of_decide_eq_false HB.out.symm; symm; rw [decide_eq_false_iff_not]; intro hx; rcases List.mem_append.1 hx with hx | hx; exact h hx; exact HNE.out (List.mem_singleton.1 hx).symm, _, rfl⟩
            case measure => simp [intOf]; omega
      · obtain rfl : m = k := by omega
        have hbt : b = true := by rw [HB.out, ← HM.out, List.take_length]; exact decide_eq_true HCAN.out
        subst hbt
        clear HB hlt
        by_cases h1 : n0 = 1
        · subst h1
          have HN1 := Lib.hid (show r.getD 1 255 = 255 by rw [List.getD_eq_getElem?_getD, List.getElem?_eq_none (by rw [N0.out]; omega)]; rfl)
          rw [HN1.out] at HNX
          go_wp2_with fail
          obtain ⟨wy, hwy⟩ : ∃ wy, w6.drewN q = wy := ⟨_, rfl⟩
          have h6y : Below w6.heap.size w6 wy := by rw [← hwy]; exact below_drewN (Below.refl _ _) q
          rw [hwy]
          clear hwy
          have h0 := tIs.reach h0 h6y
          have ha := tIs.reach ha h6y
          have hR := tCell.reach hR h6y
          have hBy := bel_trans hB6 h6y
          have d0 := cell_bel h6y d0
          have d1 := cell_bel h6y d1
          have k6 := cell_bel h6y k6
          have hk : ∀ W, Below wy.heap.size wy W → (fun w' : World => w'.cell? ⟨br, of, none⟩ = some (.int .i64 (x0 : Int)) ∧ w'.cell? ⟨ba, oa + x0, none⟩ = some (.int .i64 s0) ∧ w'.cell? ⟨w3.heap.size, 0, none⟩ = some (.slice Ac 80 cc)) W := fun W hW => ⟨cell_bel hW d0, cell_bel hW d1, cell_bel hW k6⟩
          refine wp_region_held_drew (S := (fun w' => w'.cell? ⟨br, of, none⟩ = some (.int .i64 (x0 : Int)) ∧ w'.cell? ⟨ba, oa + x0, none⟩ = some (.int .i64 s0) ∧ w'.cell? ⟨w3.heap.size, 0, none⟩ = some (.slice Ac 80 cc))) (by kernel_rfl) (by exact hk _ (belx)) (fun hHeld => ?_)
          refine wpAnyH_take (i := 0) (oi := ⟨some 92, _, _, _, _, _⟩) (v := ?v1) rfl (by kernel_rfl) (by kernel_rfl) (by kernel_rfl) (fun _ _ _ h => h) (Or.inl ⟨by rfl, ?hy1⟩) (by assumption) ?_
          case hy1 => (intro w hSw; (try dsimp only at hSw); go_simp; try (with_reducible rfl))
          (try simp only [Act.put, qa_, qb_, qc_])
          refine wpAnyH_take (i := 1) (oi := ⟨some 93, _, _, _, _, _⟩) (v := ?v2) rfl (by kernel_rfl) (by kernel_rfl) (by kernel_rfl) (fun _ _ _ h => h) (Or.inl ⟨by rfl, ?hy2⟩) (by assumption) ?_
          case hy2 => (intro w hSw; (try dsimp only at hSw); go_simp; try (with_reducible rfl))
          (try simp only [Act.put, qa_, qb_, qc_])
          refine wpAnyH_take (i := 2) (oi := ⟨some 94, _, _, _, _, _⟩) (v := ?v3) rfl (by kernel_rfl) (by kernel_rfl) (by kernel_rfl) (fun _ _ _ h => h) (Or.inl ⟨by rfl, ?hy3⟩) (by assumption) ?_
          case hy3 => (intro w hSw; (try dsimp only at hSw); go_simp; try (with_reducible rfl))
          (try simp only [Act.put, qa_, qb_, qc_])
          refine wpAnyH_take (i := 3) (oi := ⟨some 95, _, _, _, _, _⟩) (v := ?v4) rfl (by kernel_rfl) (by kernel_rfl) (by kernel_rfl) (fun _ _ _ h => h) (Or.inl ⟨by rfl, ?hy4⟩) (by assumption) ?_
          case hy4 => (intro w hSw; (try dsimp only at hSw); go_simp; try (with_reducible rfl))
          (try simp only [Act.put, qa_, qb_, qc_])
          refine wpAnyH_take (i := 4) (oi := ⟨some 96, _, _, _, _, _⟩) (v := ?v5) rfl (by kernel_rfl) (by kernel_rfl) (by kernel_rfl) (fun _ _ _ h => h) (Or.inl ⟨by rfl, ?hy5⟩) (by assumption) ?_
          case hy5 => (intro w hSw; (try dsimp only at hSw); go_simp; try (with_reducible rfl))
          (try simp only [Act.put, qa_, qb_, qc_])
          refine wpAnyH_take (i := 5) (oi := ⟨some 97, _, _, _, _, _⟩) (v := ?v6) rfl (by kernel_rfl) (by kernel_rfl) (by kernel_rfl) (fun _ _ _ h => h) (Or.inl ⟨by rfl, ?hy6⟩) (by assumption) ?_
          case hy6 => (intro w hSw; (try dsimp only at hSw); go_simp; try (with_reducible rfl))
          (try simp only [Act.put, qa_, qb_, qc_])
          refine wpAnyH_take (i := 6) (oi := ⟨some 98, _, _, _, _, _⟩) (v := ?v7) rfl (by kernel_rfl) (by kernel_rfl) (by kernel_rfl) (fun _ _ _ h => h) (Or.inl ⟨by rfl, ?hy7⟩) (by assumption) ?_
          case hy7 => (intro w hSw; (try dsimp only at hSw); go_simp; try (with_reducible rfl))
          (try simp only [Act.put, qa_, qb_, qc_])
          refine wpAnyH_take (i := 7) (oi := ⟨some 99, _, _, _, _, _⟩) (v := ?v8) rfl (by kernel_rfl) (by kernel_rfl) (by kernel_rfl) (fun _ _ _ h => h) (Or.inl ⟨by rfl, ?hy8⟩) (by assumption) ?_
          case hy8 => (intro w hSw; (try dsimp only at hSw); go_simp; try (with_reducible rfl))
          (try simp only [Act.put, qa_, qb_, qc_])
          refine wpAnyH_take (i := 8) (oi := ⟨some 100, _, _, _, _, _⟩) (v := ?v9) rfl (by kernel_rfl) (by kernel_rfl) (by kernel_rfl) (fun _ _ _ h => h) (Or.inl ⟨by rfl, ?hy9⟩) (by assumption) ?_
          case hy9 => (intro w hSw; (try dsimp only at hSw); go_simp; try (with_reducible rfl))
          (try simp only [Act.put, qa_, qb_, qc_])
          refine wpAnyH_take (i := 10) (oi := ⟨some 102, _, _, _, _, _⟩) (v := ?v10) rfl (by kernel_rfl) (by kernel_rfl) (by kernel_rfl) (fun _ _ _ h => h) (Or.inl ⟨by rfl, ?hy10⟩) (by assumption) ?_
          case hy10 => (intro w hSw; (try dsimp only at hSw); go_simp; try (with_reducible rfl))
          (try simp only [Act.put, qa_, qb_, qc_])
          refine wpAnyH_ready (rs := [9]) (by kernel_rfl) (by simp) ?_
          refine AllReadyH.cons rfl (fun K hK => ?_) ?_
          · go_simp
            go_at_call 25
            refine (i_NextOf s0 (slR_ints (tCell.reach hR (belx))).1 (slR_ints hR).2.1 (slR_ints hR).2.2).mono ?_
            rintro e w21 ⟨rfl, hb21⟩
            rw [HNX.out]
            have hs1 : Below wy.heap.size wy w21 := bel_trans (belx) hb21
            go_wp2_with fail
            refine hK.out _ _ (by exact hk _ hs1) (fun hHeld => ?_)
            clear hK K
            (try simp only [Act.put, qa_, qb_, qc_])
            refine wpAnyH_take (i := 11) (oi := ⟨some 103, _, _, _, _, _⟩) (v := ?v11) rfl (by kernel_rfl) (by kernel_rfl) (by kernel_rfl) (fun _ _ _ h => h) (Or.inl ⟨by rfl, ?hy11⟩) (by assumption) ?_
            case hy11 => (intro w hSw; (try dsimp only at hSw); go_simp; try (with_reducible rfl))
            (try simp only [Act.put, qa_, qb_, qc_])
            refine wpAnyH_take (i := 12) (oi := ⟨some 104, _, _, _, _, _⟩) (v := ?v12) rfl (by kernel_rfl) (by kernel_rfl) (by kernel_rfl) (fun _ _ _ h => h) (Or.inl ⟨by rfl, ?hy12⟩) (by assumption) ?_
            case hy12 => (intro w hSw; (try dsimp only at hSw); go_simp; try (with_reducible rfl))
            (try simp only [Act.put, qa_, qb_, qc_])
            refine wpAnyH_take (i := 13) (oi := ⟨some 105, _, _, _, _, _⟩) (v := ?v13) rfl (by kernel_rfl) (by kernel_rfl) (by kernel_rfl) (fun _ _ _ h => h) (Or.inl ⟨by rfl, ?hy13⟩) (by assumption) ?_
            case hy13 => (intro w hSw; (try dsimp only at hSw); go_simp; try (with_reducible rfl))
            (try simp only [Act.put, qa_, qb_, qc_])
            refine wpAnyH_take (i := 14) (oi := ⟨some 106, _, _, _, _, _⟩) (v := ?v14) rfl (by kernel_rfl) (by kernel_rfl) (by kernel_rfl) (fun _ _ _ h => h) (Or.inl ⟨by rfl, ?hy14⟩) (by assumption) ?_
            case hy14 => (intro w hSw; (try dsimp only at hSw); go_simp; try (with_reducible rfl))
            (try simp only [Act.put, qa_, qb_, qc_])
            refine wpAnyH_take (i := 15) (oi := ⟨some 107, _, _, _, _, _⟩) (v := ?v15) rfl (by kernel_rfl) (by kernel_rfl) (by kernel_rfl) (fun _ _ _ h => h) (Or.inl ⟨by rfl, ?hy15⟩) (by assumption) ?_
            case hy15 => (intro w hSw; (try dsimp only at hSw); go_simp; try (with_reducible rfl))
            (try simp only [Act.put, qa_, qb_, qc_])
            refine wpAnyH_take (i := 16) (oi := ⟨some 108, _, _, _, _, _⟩) (v := ?v16) rfl (by kernel_rfl) (by kernel_rfl) (by kernel_rfl) (fun _ _ _ h => h) (Or.inl ⟨by rfl, ?hy16⟩) (by assumption) ?_
            case hy16 => (intro w hSw; (try dsimp only at hSw); go_simp; try (with_reducible rfl))
            (try simp only [Act.put, qa_, qb_, qc_])
            refine wpAnyH_take (i := 17) (oi := ⟨some 109, _, _, _, _, _⟩) (v := ?v17) rfl (by kernel_rfl) (by kernel_rfl) (by kernel_rfl) (fun _ _ _ h => h) (Or.inl ⟨by rfl, ?hy17⟩) (by assumption) ?_
            case hy17 => (intro w hSw; (try dsimp only at hSw); go_simp; try (with_reducible rfl))
            (try simp only [Act.put, qa_, qb_, qc_])
            refine wpAnyH_take (i := 18) (oi := ⟨some 110, _, _, _, _, _⟩) (v := ?v18) rfl (by kernel_rfl) (by kernel_rfl) (by kernel_rfl) (fun _ _ _ h => h) (Or.inl ⟨by rfl, ?hy18⟩) (by assumption) ?_
            case hy18 => (intro w hSw; (try dsimp only at hSw); go_simp; try (with_reducible rfl))
            (try simp only [Act.put, qa_, qb_, qc_])
            refine wpAnyH_take (i := 20) (oi := ⟨some 112, _, _, _, _, _⟩) (v := ?v19) rfl (by kernel_rfl) (by kernel_rfl) (by kernel_rfl) (fun _ _ _ h => h) (Or.inl ⟨by rfl, ?hy19⟩) (by assumption) ?_
            case hy19 => (intro w hSw; (try dsimp only at hSw); go_simp; try (with_reducible rfl))
            (try simp only [Act.put, qa_, qb_, qc_])
            refine wpAnyH_ready (rs := [19]) (by kernel_rfl) (by simp) ?_
            refine AllReadyH.cons rfl (fun K hK => ?_) ?_
            · go_simp
              go_at_call 27
              refine (i_ReachR (tIs.reach ha (bel_trans hs1 (belx))) (by rw [ndS_len]; omega) wf0 (tCell.reach hR (bel_trans hs1 (belx))) (by show cl.length ≤ _; have := HL.out; omega)).mono ?_
              rintro e w22 ⟨A22, c22, F22, rfl, hO22, -, hb22⟩
              rw [HRE.out, N0.out] at hO22 ⊢
              have hs2 : Below wy.heap.size wy w22 := bel_trans hs1 (bel_trans (belx) hb22)
              have hR22 := tIs.read hO22
              go_wp2_with fail
              refine hK.out _ _ (by exact hk _ hs2) (fun hHeld => ?_)
              clear hK K
              (try simp only [Act.put, qa_, qb_, qc_])
              refine wpAnyH_ready (rs := [21]) (by kernel_rfl) (by simp) ?_
              refine AllReadyH.cons rfl (fun K hK => ?_) ?_
              · go_simp
                go_at_call 26
                refine (l_sameInts (slR_ints (tIs.reach hR22 (belx))).1 (slR_ints (tIs.reach h0 (bel_trans hs2 (belx)))).1 (by simp only [maxLen]; omega) (by simp only [maxLen]; omega)).mono ?_
                rintro e w23 ⟨rfl, hb23⟩
                rw [show decide (r = r) = true from by simp]
                have hs3 : Below wy.heap.size wy w23 := bel_trans hs2 (bel_trans (belx) hb23)
                go_wp2_with fail
                refine hK.out _ _ (by exact hk _ hs3) (fun hHeld => ?_)
                clear hK K
                (try simp only [Act.put, qa_, qb_, qc_])
                refine wpAnyH_take (i := 22) (oi := ⟨some 114, _, _, _, _, _⟩) (v := ?v20) rfl (by kernel_rfl) (by kernel_rfl) (by kernel_rfl) (fun _ _ _ h => h) (Or.inl ⟨by rfl, ?hy20⟩) (by assumption) ?_
                case hy20 => (intro w hSw; (try dsimp only at hSw); go_simp; try (with_reducible rfl))
                (try simp only [Act.put, qa_, qb_, qc_])
                refine wpAnyH_take (i := 23) (oi := ⟨some 115, _, _, _, _, _⟩) (v := ?v21) rfl (by kernel_rfl) (by kernel_rfl) (by kernel_rfl) (fun _ _ _ h => h) (Or.inl ⟨by rfl, ?hy21⟩) (by assumption) ?_
                case hy21 => (intro w hSw; (try dsimp only at hSw); go_simp; try (with_reducible rfl))
                (try simp only [Act.put, qa_, qb_, qc_])
                refine wpAnyH_take (i := 24) (oi := ⟨some 116, _, _, _, _, _⟩) (v := ?v22) rfl (by kernel_rfl) (by kernel_rfl) (by kernel_rfl) (fun _ _ _ h => h) (Or.inl ⟨by rfl, ?hy22⟩) (by assumption) ?_
                case hy22 => (intro w hSw; (try dsimp only at hSw); go_simp; try (with_reducible rfl))
                (try simp only [Act.put, qa_, qb_, qc_])
                refine wpAnyH_take (i := 25) (oi := ⟨some 117, _, _, _, _, _⟩) (v := ?v23) rfl (by kernel_rfl) (by kernel_rfl) (by kernel_rfl) (fun _ _ _ h => h) (Or.inl ⟨by rfl, ?hy23⟩) (by assumption) ?_
                case hy23 => (intro w hSw; (try dsimp only at hSw); go_simp; try (with_reducible rfl))
                (try simp only [Act.put, qa_, qb_, qc_])
                refine wpAnyH_ready (rs := [26]) (by kernel_rfl) (by simp) ?_
                refine AllReadyH.cons rfl (fun K hK => ?_) ?_
                · go_simp
                  go_at_call 23
                  refine (i_DepthR (tIs.reach ha (bel_trans hs3 (belx))) (by rw [ndS_len]; omega) (tCell.reach hR (bel_trans hs3 (belx))) (by show cl.length ≤ _; have := HL.out; omega)).mono ?_
                  rintro e w24 ⟨rfl, hb24⟩
                  rw [HDV.out]
                  have hs4 : Below wy.heap.size wy w24 := bel_trans hs3 (bel_trans (belx) hb24)
                  go_wp2_with fail
                  refine hK.out _ _ (by exact hk _ hs4) (fun hHeld => ?_)
                  clear hK K
                  (try simp only [Act.put, qa_, qb_, qc_])
                  refine wpAnyH_take (i := 27) (oi := ⟨some 119, _, _, _, _, _⟩) (v := ?v24) rfl (by kernel_rfl) (by kernel_rfl) (by kernel_rfl) (fun _ _ _ h => h) (Or.inl ⟨by rfl, ?hy24⟩) (by assumption) ?_
                  case hy24 => (intro w hSw; (try dsimp only at hSw); go_simp; try (with_reducible rfl))
                  (try simp only [Act.put, qa_, qb_, qc_])
                  refine wpAnyH_take (i := 28) (oi := ⟨some 120, _, _, _, _, _⟩) (v := ?v25) rfl (by kernel_rfl) (by kernel_rfl) (by kernel_rfl) (fun _ _ _ h => h) (Or.inl ⟨by rfl, ?hy25⟩) (by assumption) ?_
                  case hy25 => (intro w hSw; (try dsimp only at hSw); go_simp; try (with_reducible rfl))
                  (try simp only [Act.put, qa_, qb_, qc_])
                  refine wpAnyH_take (i := 29) (oi := ⟨some 121, _, _, _, _, _⟩) (v := ?v26) rfl (by kernel_rfl) (by kernel_rfl) (by kernel_rfl) (fun _ _ _ h => h) (Or.inl ⟨by rfl, ?hy26⟩) (by assumption) ?_
                  case hy26 => (intro w hSw; (try dsimp only at hSw); go_simp; try (with_reducible rfl))
                  (try simp only [Act.put, qa_, qb_, qc_])
                  refine wpAnyH_ready (rs := [30]) (by kernel_rfl) (by simp) ?_
                  refine AllReadyH.cons rfl (fun K hK => ?_) ?_
                  · go_simp
                    go_at_call 13
                    refine (l_onions _).mono ?_
                    rintro e w25 ⟨rfl, hb25⟩
                    have hs5 : Below wy.heap.size wy w25 := bel_trans hs4 (bel_trans (belx) hb25)
                    go_wp2_with fail
                    refine hK.out _ _ (by exact hk _ hs5) (fun hHeld => ?_)
                    clear hK K
                    (try simp only [Act.put, qa_, qb_, qc_])
                    refine wpAnyH_take (i := 31) (oi := ⟨some 123, _, _, _, _, _⟩) (v := ?v27) rfl (by kernel_rfl) (by kernel_rfl) (by kernel_rfl) (fun _ _ _ h => h) (Or.inl ⟨by rfl, ?hy27⟩) (by assumption) ?_
                    case hy27 => (intro w hSw; (try dsimp only at hSw); go_simp; try (with_reducible rfl))
                    (try simp only [Act.put, qa_, qb_, qc_])
                    refine wpAnyH_take (i := 32) (oi := ⟨some 2, _, _, _, _, _⟩) (v := ?v28) rfl (by kernel_rfl) (by kernel_rfl) (by kernel_rfl) (fun _ _ _ h => h) (Or.inl ⟨by rfl, ?hy28⟩) (by assumption) ?_
                    case hy28 => (intro w hSw; (try dsimp only at hSw); go_simp; try (with_reducible rfl))
                    (try simp only [Act.put, qa_, qb_, qc_])
                    refine wpAnyH_done (by kernel_rfl) ?_ _
                    go_wp2
                    go_ret
                    exact ⟨by first | rfl | (simp; done), bel_trans hBy hs5⟩
                  exact AllReadyH.nil
                exact AllReadyH.nil
              exact AllReadyH.nil
            exact AllReadyH.nil
          exact AllReadyH.nil
        · have n2 : 1 < n0 := by omega
          obtain ⟨br', of', e7, -, d7, w7⟩ := (slR_ints h0).1.at_ (i := 1) n2
          injection e7 with e7
          injection e7 with e7 e8 _
          subst e7 e8
          have HN1 := Lib.hid (show r.getD 1 255 = r.getD 1 0 by rw [List.getD_eq_getElem?_getD, List.getD_eq_getElem?_getD, List.getElem?_eq_getElem (by rw [N0.out]; omega)]; rfl)
          rw [HN1.out] at HNX
          obtain ⟨y1, hy1⟩ : ∃ y1, r.getD 1 0 = y1 := ⟨_, rfl⟩
          rw [hy1] at d7 HNX
          have p3 : (1 : Int) < (n0 : Int) := by omega
          have d7 : (w6.drewN q).cell? ⟨br, of + 1, none⟩ = some (.int .i64 y1) := d7
          clear hy1 HN1 w7 h1
          go_wp2_with fail
          obtain ⟨wy, hwy⟩ : ∃ wy, w6.drewN q = wy := ⟨_, rfl⟩
          have h6y : Below w6.heap.size w6 wy := by rw [← hwy]; exact below_drewN (Below.refl _ _) q
          rw [hwy]
          clear hwy
          have h0 := tIs.reach h0 h6y
          have ha := tIs.reach ha h6y
          have hR := tCell.reach hR h6y
          have hBy := bel_trans hB6 h6y
          have d0 := cell_bel h6y d0
          have d1 := cell_bel h6y d1
          have k6 := cell_bel h6y k6
          have hk : ∀ W, Below wy.heap.size wy W → (fun w' : World => w'.cell? ⟨br, of, none⟩ = some (.int .i64 (x0 : Int)) ∧ w'.cell? ⟨ba, oa + x0, none⟩ = some (.int .i64 s0) ∧ w'.cell? ⟨w3.heap.size, 0, none⟩ = some (.slice Ac 80 cc)) W := fun W hW => ⟨cell_bel hW d0, cell_bel hW d1, cell_bel hW k6⟩
          refine wp_region_held_drew (S := (fun w' => w'.cell? ⟨br, of, none⟩ = some (.int .i64 (x0 : Int)) ∧ w'.cell? ⟨ba, oa + x0, none⟩ = some (.int .i64 s0) ∧ w'.cell? ⟨w3.heap.size, 0, none⟩ = some (.slice Ac 80 cc))) (by kernel_rfl) (by exact hk _ (belx)) (fun hHeld => ?_)
          refine wpAnyH_take (i := 0) (oi := ⟨some 92, _, _, _, _, _⟩) (v := ?v29) rfl (by kernel_rfl) (by kernel_rfl) (by kernel_rfl) (fun _ _ _ h => h) (Or.inl ⟨by rfl, ?hy29⟩) (by assumption) ?_
          case hy29 => (intro w hSw; (try dsimp only at hSw); go_simp; try (with_reducible rfl))
          (try simp only [Act.put, qa_, qb_, qc_])
          refine wpAnyH_take (i := 1) (oi := ⟨some 93, _, _, _, _, _⟩) (v := ?v30) rfl (by kernel_rfl) (by kernel_rfl) (by kernel_rfl) (fun _ _ _ h => h) (Or.inl ⟨by rfl, ?hy30⟩) (by assumption) ?_
          case hy30 => (intro w hSw; (try dsimp only at hSw); go_simp; try (with_reducible rfl))
          (try simp only [Act.put, qa_, qb_, qc_])
          refine wpAnyH_take (i := 2) (oi := ⟨some 94, _, _, _, _, _⟩) (v := ?v31) rfl (by kernel_rfl) (by kernel_rfl) (by kernel_rfl) (fun _ _ _ h => h) (Or.inl ⟨by rfl, ?hy31⟩) (by assumption) ?_
          case hy31 => (intro w hSw; (try dsimp only at hSw); go_simp; try (with_reducible rfl))
          (try simp only [Act.put, qa_, qb_, qc_])
          refine wpAnyH_take (i := 3) (oi := ⟨some 95, _, _, _, _, _⟩) (v := ?v32) rfl (by kernel_rfl) (by kernel_rfl) (by kernel_rfl) (fun _ _ _ h => h) (Or.inl ⟨by rfl, ?hy32⟩) (by assumption) ?_
          case hy32 => (intro w hSw; (try dsimp only at hSw); go_simp; try (with_reducible rfl))
          (try simp only [Act.put, qa_, qb_, qc_])
          refine wpAnyH_take (i := 4) (oi := ⟨some 96, _, _, _, _, _⟩) (v := ?v33) rfl (by kernel_rfl) (by kernel_rfl) (by kernel_rfl) (fun _ _ _ h => h) (Or.inl ⟨by rfl, ?hy33⟩) (by assumption) ?_
          case hy33 => (intro w hSw; (try dsimp only at hSw); go_simp; try (with_reducible rfl))
          (try simp only [Act.put, qa_, qb_, qc_])
          refine wpAnyH_take (i := 5) (oi := ⟨some 97, _, _, _, _, _⟩) (v := ?v34) rfl (by kernel_rfl) (by kernel_rfl) (by kernel_rfl) (fun _ _ _ h => h) (Or.inl ⟨by rfl, ?hy34⟩) (by assumption) ?_
          case hy34 => (intro w hSw; (try dsimp only at hSw); go_simp; try (with_reducible rfl))
          (try simp only [Act.put, qa_, qb_, qc_])
          refine wpAnyH_take (i := 6) (oi := ⟨some 98, _, _, _, _, _⟩) (v := ?v35) rfl (by kernel_rfl) (by kernel_rfl) (by kernel_rfl) (fun _ _ _ h => h) (Or.inl ⟨by rfl, ?hy35⟩) (by assumption) ?_
          case hy35 => (intro w hSw; (try dsimp only at hSw); go_simp; try (with_reducible rfl))
          (try simp only [Act.put, qa_, qb_, qc_])
          refine wpAnyH_take (i := 7) (oi := ⟨some 99, _, _, _, _, _⟩) (v := ?v36) rfl (by kernel_rfl) (by kernel_rfl) (by kernel_rfl) (fun _ _ _ h => h) (Or.inl ⟨by rfl, ?hy36⟩) (by assumption) ?_
          case hy36 => (intro w hSw; (try dsimp only at hSw); go_simp; try (with_reducible rfl))
          (try simp only [Act.put, qa_, qb_, qc_])
          refine wpAnyH_take (i := 8) (oi := ⟨some 100, _, _, _, _, _⟩) (v := ?v37) rfl (by kernel_rfl) (by kernel_rfl) (by kernel_rfl) (fun _ _ _ h => h) (Or.inl ⟨by rfl, ?hy37⟩) (by assumption) ?_
          case hy37 => (intro w hSw; (try dsimp only at hSw); go_simp; try (with_reducible rfl))
          (try simp only [Act.put, qa_, qb_, qc_])
          refine wpAnyH_take (i := 10) (oi := ⟨some 102, _, _, _, _, _⟩) (v := ?v38) rfl (by kernel_rfl) (by kernel_rfl) (by kernel_rfl) (fun _ _ _ h => h) (Or.inl ⟨by rfl, ?hy38⟩) (by assumption) ?_
          case hy38 => (intro w hSw; (try dsimp only at hSw); go_simp; try (with_reducible rfl))
          (try simp only [Act.put, qa_, qb_, qc_])
          refine wpAnyH_ready (rs := [9]) (by kernel_rfl) (by simp) ?_
          refine AllReadyH.cons rfl (fun K hK => ?_) ?_
          · go_simp
            go_at_call 25
            refine (i_NextOf s0 (slR_ints (tCell.reach hR (belx))).1 (slR_ints hR).2.1 (slR_ints hR).2.2).mono ?_
            rintro e w21 ⟨rfl, hb21⟩
            rw [HNX.out]
            have hs1 : Below wy.heap.size wy w21 := bel_trans (belx) hb21
            go_wp2_with fail
            refine hK.out _ _ (by exact hk _ hs1) (fun hHeld => ?_)
            clear hK K
            (try simp only [Act.put, qa_, qb_, qc_])
            refine wpAnyH_take (i := 11) (oi := ⟨some 103, _, _, _, _, _⟩) (v := ?v39) rfl (by kernel_rfl) (by kernel_rfl) (by kernel_rfl) (fun _ _ _ h => h) (Or.inl ⟨by rfl, ?hy39⟩) (by assumption) ?_
            case hy39 => (intro w hSw; (try dsimp only at hSw); go_simp; try (with_reducible rfl))
            (try simp only [Act.put, qa_, qb_, qc_])
            refine wpAnyH_take (i := 12) (oi := ⟨some 104, _, _, _, _, _⟩) (v := ?v40) rfl (by kernel_rfl) (by kernel_rfl) (by kernel_rfl) (fun _ _ _ h => h) (Or.inl ⟨by rfl, ?hy40⟩) (by assumption) ?_
            case hy40 => (intro w hSw; (try dsimp only at hSw); go_simp; try (with_reducible rfl))
            (try simp only [Act.put, qa_, qb_, qc_])
            refine wpAnyH_take (i := 13) (oi := ⟨some 105, _, _, _, _, _⟩) (v := ?v41) rfl (by kernel_rfl) (by kernel_rfl) (by kernel_rfl) (fun _ _ _ h => h) (Or.inl ⟨by rfl, ?hy41⟩) (by assumption) ?_
            case hy41 => (intro w hSw; (try dsimp only at hSw); go_simp; try (with_reducible rfl))
            (try simp only [Act.put, qa_, qb_, qc_])
            refine wpAnyH_take (i := 14) (oi := ⟨some 106, _, _, _, _, _⟩) (v := ?v42) rfl (by kernel_rfl) (by kernel_rfl) (by kernel_rfl) (fun _ _ _ h => h) (Or.inl ⟨by rfl, ?hy42⟩) (by assumption) ?_
            case hy42 => (intro w hSw; (try dsimp only at hSw); go_simp; try (with_reducible rfl))
            (try simp only [Act.put, qa_, qb_, qc_])
            refine wpAnyH_take (i := 15) (oi := ⟨some 107, _, _, _, _, _⟩) (v := ?v43) rfl (by kernel_rfl) (by kernel_rfl) (by kernel_rfl) (fun _ _ _ h => h) (Or.inl ⟨by rfl, ?hy43⟩) (by assumption) ?_
            case hy43 => (intro w hSw; (try dsimp only at hSw); go_simp; try (with_reducible rfl))
            (try simp only [Act.put, qa_, qb_, qc_])
            refine wpAnyH_take (i := 16) (oi := ⟨some 108, _, _, _, _, _⟩) (v := ?v44) rfl (by kernel_rfl) (by kernel_rfl) (by kernel_rfl) (fun _ _ _ h => h) (Or.inl ⟨by rfl, ?hy44⟩) (by assumption) ?_
            case hy44 => (intro w hSw; (try dsimp only at hSw); go_simp; try (with_reducible rfl))
            (try simp only [Act.put, qa_, qb_, qc_])
            refine wpAnyH_take (i := 17) (oi := ⟨some 109, _, _, _, _, _⟩) (v := ?v45) rfl (by kernel_rfl) (by kernel_rfl) (by kernel_rfl) (fun _ _ _ h => h) (Or.inl ⟨by rfl, ?hy45⟩) (by assumption) ?_
            case hy45 => (intro w hSw; (try dsimp only at hSw); go_simp; try (with_reducible rfl))
            (try simp only [Act.put, qa_, qb_, qc_])
            refine wpAnyH_take (i := 18) (oi := ⟨some 110, _, _, _, _, _⟩) (v := ?v46) rfl (by kernel_rfl) (by kernel_rfl) (by kernel_rfl) (fun _ _ _ h => h) (Or.inl ⟨by rfl, ?hy46⟩) (by assumption) ?_
            case hy46 => (intro w hSw; (try dsimp only at hSw); go_simp; try (with_reducible rfl))
            (try simp only [Act.put, qa_, qb_, qc_])
            refine wpAnyH_take (i := 20) (oi := ⟨some 112, _, _, _, _, _⟩) (v := ?v47) rfl (by kernel_rfl) (by kernel_rfl) (by kernel_rfl) (fun _ _ _ h => h) (Or.inl ⟨by rfl, ?hy47⟩) (by assumption) ?_
            case hy47 => (intro w hSw; (try dsimp only at hSw); go_simp; try (with_reducible rfl))
            (try simp only [Act.put, qa_, qb_, qc_])
            refine wpAnyH_ready (rs := [19]) (by kernel_rfl) (by simp) ?_
            refine AllReadyH.cons rfl (fun K hK => ?_) ?_
            · go_simp
              go_at_call 27
              refine (i_ReachR (tIs.reach ha (bel_trans hs1 (belx))) (by rw [ndS_len]; omega) wf0 (tCell.reach hR (bel_trans hs1 (belx))) (by show cl.length ≤ _; have := HL.out; omega)).mono ?_
              rintro e w22 ⟨A22, c22, F22, rfl, hO22, -, hb22⟩
              rw [HRE.out, N0.out] at hO22 ⊢
              have hs2 : Below wy.heap.size wy w22 := bel_trans hs1 (bel_trans (belx) hb22)
              have hR22 := tIs.read hO22
              go_wp2_with fail
              refine hK.out _ _ (by exact hk _ hs2) (fun hHeld => ?_)
              clear hK K
              (try simp only [Act.put, qa_, qb_, qc_])
              refine wpAnyH_ready (rs := [21]) (by kernel_rfl) (by simp) ?_
              refine AllReadyH.cons rfl (fun K hK => ?_) ?_
              · go_simp
                go_at_call 26
                refine (l_sameInts (slR_ints (tIs.reach hR22 (belx))).1 (slR_ints (tIs.reach h0 (bel_trans hs2 (belx)))).1 (by simp only [maxLen]; omega) (by simp only [maxLen]; omega)).mono ?_
                rintro e w23 ⟨rfl, hb23⟩
                rw [show decide (r = r) = true from by simp]
                have hs3 : Below wy.heap.size wy w23 := bel_trans hs2 (bel_trans (belx) hb23)
                go_wp2_with fail
                refine hK.out _ _ (by exact hk _ hs3) (fun hHeld => ?_)
                clear hK K
                (try simp only [Act.put, qa_, qb_, qc_])
                refine wpAnyH_take (i := 22) (oi := ⟨some 114, _, _, _, _, _⟩) (v := ?v48) rfl (by kernel_rfl) (by kernel_rfl) (by kernel_rfl) (fun _ _ _ h => h) (Or.inl ⟨by rfl, ?hy48⟩) (by assumption) ?_
                case hy48 => (intro w hSw; (try dsimp only at hSw); go_simp; try (with_reducible rfl))
                (try simp only [Act.put, qa_, qb_, qc_])
                refine wpAnyH_take (i := 23) (oi := ⟨some 115, _, _, _, _, _⟩) (v := ?v49) rfl (by kernel_rfl) (by kernel_rfl) (by kernel_rfl) (fun _ _ _ h => h) (Or.inl ⟨by rfl, ?hy49⟩) (by assumption) ?_
                case hy49 => (intro w hSw; (try dsimp only at hSw); go_simp; try (with_reducible rfl))
                (try simp only [Act.put, qa_, qb_, qc_])
                refine wpAnyH_take (i := 24) (oi := ⟨some 116, _, _, _, _, _⟩) (v := ?v50) rfl (by kernel_rfl) (by kernel_rfl) (by kernel_rfl) (fun _ _ _ h => h) (Or.inl ⟨by rfl, ?hy50⟩) (by assumption) ?_
                case hy50 => (intro w hSw; (try dsimp only at hSw); go_simp; try (with_reducible rfl))
                (try simp only [Act.put, qa_, qb_, qc_])
                refine wpAnyH_take (i := 25) (oi := ⟨some 117, _, _, _, _, _⟩) (v := ?v51) rfl (by kernel_rfl) (by kernel_rfl) (by kernel_rfl) (fun _ _ _ h => h) (Or.inl ⟨by rfl, ?hy51⟩) (by assumption) ?_
                case hy51 => (intro w hSw; (try dsimp only at hSw); go_simp; try (with_reducible rfl))
                (try simp only [Act.put, qa_, qb_, qc_])
                refine wpAnyH_ready (rs := [26]) (by kernel_rfl) (by simp) ?_
                refine AllReadyH.cons rfl (fun K hK => ?_) ?_
                · go_simp
                  go_at_call 23
                  refine (i_DepthR (tIs.reach ha (bel_trans hs3 (belx))) (by rw [ndS_len]; omega) (tCell.reach hR (bel_trans hs3 (belx))) (by show cl.length ≤ _; have := HL.out; omega)).mono ?_
                  rintro e w24 ⟨rfl, hb24⟩
                  rw [HDV.out]
                  have hs4 : Below wy.heap.size wy w24 := bel_trans hs3 (bel_trans (belx) hb24)
                  go_wp2_with fail
                  refine hK.out _ _ (by exact hk _ hs4) (fun hHeld => ?_)
                  clear hK K
                  (try simp only [Act.put, qa_, qb_, qc_])
                  refine wpAnyH_take (i := 27) (oi := ⟨some 119, _, _, _, _, _⟩) (v := ?v52) rfl (by kernel_rfl) (by kernel_rfl) (by kernel_rfl) (fun _ _ _ h => h) (Or.inl ⟨by rfl, ?hy52⟩) (by assumption) ?_
                  case hy52 => (intro w hSw; (try dsimp only at hSw); go_simp; try (with_reducible rfl))
                  (try simp only [Act.put, qa_, qb_, qc_])
                  refine wpAnyH_take (i := 28) (oi := ⟨some 120, _, _, _, _, _⟩) (v := ?v53) rfl (by kernel_rfl) (by kernel_rfl) (by kernel_rfl) (fun _ _ _ h => h) (Or.inl ⟨by rfl, ?hy53⟩) (by assumption) ?_
                  case hy53 => (intro w hSw; (try dsimp only at hSw); go_simp; try (with_reducible rfl))
                  (try simp only [Act.put, qa_, qb_, qc_])
                  refine wpAnyH_take (i := 29) (oi := ⟨some 121, _, _, _, _, _⟩) (v := ?v54) rfl (by kernel_rfl) (by kernel_rfl) (by kernel_rfl) (fun _ _ _ h => h) (Or.inl ⟨by rfl, ?hy54⟩) (by assumption) ?_
                  case hy54 => (intro w hSw; (try dsimp only at hSw); go_simp; try (with_reducible rfl))
                  (try simp only [Act.put, qa_, qb_, qc_])
                  refine wpAnyH_ready (rs := [30]) (by kernel_rfl) (by simp) ?_
                  refine AllReadyH.cons rfl (fun K hK => ?_) ?_
                  · go_simp
                    go_at_call 13
                    refine (l_onions _).mono ?_
                    rintro e w25 ⟨rfl, hb25⟩
                    have hs5 : Below wy.heap.size wy w25 := bel_trans hs4 (bel_trans (belx) hb25)
                    go_wp2_with fail
                    refine hK.out _ _ (by exact hk _ hs5) (fun hHeld => ?_)
                    clear hK K
                    (try simp only [Act.put, qa_, qb_, qc_])
                    refine wpAnyH_take (i := 31) (oi := ⟨some 123, _, _, _, _, _⟩) (v := ?v55) rfl (by kernel_rfl) (by kernel_rfl) (by kernel_rfl) (fun _ _ _ h => h) (Or.inl ⟨by rfl, ?hy55⟩) (by assumption) ?_
                    case hy55 => (intro w hSw; (try dsimp only at hSw); go_simp; try (with_reducible rfl))
                    (try simp only [Act.put, qa_, qb_, qc_])
                    refine wpAnyH_take (i := 32) (oi := ⟨some 2, _, _, _, _, _⟩) (v := ?v56) rfl (by kernel_rfl) (by kernel_rfl) (by kernel_rfl) (fun _ _ _ h => h) (Or.inl ⟨by rfl, ?hy56⟩) (by assumption) ?_
                    case hy56 => (intro w hSw; (try dsimp only at hSw); go_simp; try (with_reducible rfl))
                    (try simp only [Act.put, qa_, qb_, qc_])
                    refine wpAnyH_done (by kernel_rfl) ?_ _
                    go_wp2
                    go_ret
                    exact ⟨by first | rfl | (simp; done), bel_trans hBy hs5⟩
                  exact AllReadyH.nil
                exact AllReadyH.nil
              exact AllReadyH.nil
            exact AllReadyH.nil
          exact AllReadyH.nil
  · have HK := Lib.hid (show (fwrap r (ndP sd) s u ld pd).2 = false by rw [fwrap_f ho])
    have HF := Lib.hid (show (fwrap r (ndP sd) s u ld pd).1 = [] by rw [fwrap_f ho])
    rw [HK.out]
    rw [HF.out] at hR ⊢
    rw [show (([] : List Int).length) = 0 from rfl] at hR ⊢
    go_wp2_with fail
    have hx := bel_alloc (Below.refl w3.heap.size w3) (.cells #[.slice Ac 0 cc] 30)
    refine (s_WrapR (tIs.reach h0 hx) (by have := Q0.out; omega) (tIs.reach hb hx) (by rw [ndP_len]; omega) (tIs.reach h2 hx) (by have := Q2.out; omega) (WalkArith.wf_i64 ⟨by omega, by omega⟩) (tBy.reach h4 hx) (by have := Q4.out; omega) (tBy.reach h5 hx) (by have := Q5.out; omega)).mono ?_
    rintro e w4 ⟨cs', rfl, hR', hb4⟩
    rw [HK.out]
    obtain ⟨Ac', cc', rfl⟩ := sizeR hR'
    rw [HF.out, show (([] : List Int).length) = 0 from rfl]
    have hx4 := bel_trans hx hb4
    have bx := (Box.below (B := (w3.alloc (.cells #[.slice Ac 0 cc] 30)).heap.size) (Box.new w3 30 #[.slice Ac 0 cc]) hb4 (by simp)).alloc (.cells #[.slice Ac' 0 cc'] 30)
    have hx5 : Below w3.heap.size w3 (w4.alloc (.cells #[.slice Ac' 0 cc'] 30)) := bel_alloc hx4 _
    have h5 := tBy.reach h5 hx5
    have ha := tIs.reach ha hx5
    have hR := tCell.reach hR hx5
    have hB5 := bel_trans hB3 hx5
    have k0 := bx.cell 0
    obtain ⟨wx, hwx⟩ : ∃ wx, w4.alloc (.cells #[.slice Ac' 0 cc'] 30) = wx := ⟨_, rfl⟩
    rw [hwx] at h5 ha hR hB5 bx k0
    clear hx hx4 hx5 hR' hb4 hb3 hb2 ho h0 h2 h4 hb
    go_wp2_with fail
    try rw [hwx]
    refine (i_DepthR ha (by rw [ndS_len]; omega) hR (by decide)).mono ?_
    rintro e w6 ⟨rfl, hb6⟩
    rw [fdepth_nil (fcan_f (fun h => by have := h.2.2; simp at this))]
    have hB6 := bel_trans hB5 hb6
    go_wp2_with fail
    refine (l_onions _).mono ?_
    rintro e w9 ⟨rfl, hb9⟩
    go_wp2_with fail
    go_ret
    exact ⟨rfl, bel_trans hB6 hb9⟩

/-! ### THE ROW's STEP: WRITTEN OUT: LEAVE IT -/
set_option maxRecDepth 100000 in
theorem lifted (os : Os) (started : os.Started) (H : Type) (enc : TypeId × Value → H) :
    ReturnsInHanded {} Try.checked os 6 .any (Rows.fnRoutesSpec.pre6 enc Try.prog Try.f6 Rows.fnRoutesRow.domain false) (Rows.fnRoutesSpec.post enc Try.prog Try.f6 false true false false) := by
  refine returnsInHanded_of_change_sized (C := Try.checked) own started (by kernel_rfl) Try.func6
    (ChangeSpec.witness6 (enc := enc) (C := Try.checked) false ⟨#[], #[.slice none 0 0], []⟩ 8 (by kernel_rfl) (by kernel_rfl) (by kernel_rfl) (by kernel_rfl)) ?_
  intro W base args ds gs before hval0 hW hcnd hsz0 _
  have hval : ∀ (j : Nat) t v, Try.f6.params[j]? = some t → args[j]? = some v → Value.okWide Try.prog W .any base t v := hval0
  have hW' := hW
  obtain ⟨p, q, hA0, hV, rfl, hfz, hnd⟩ := hW
  have hA : DataW.TrodAll enc Try.prog W 0 (fun _ => true) true Try.f6.params.toList args.toList ds p := hA0
  have hsz : (DataW.weightsEach Try.prog (Try.f6.params.toList ++ Rows.fnRoutesSpec.plain.varTypes Try.prog) (ds ++ gs)).all (· ≤ reachBytes) = true := hsz0
  rw [Try.params6] at hA hval hsz
  obtain ⟨v0, vs0, d0, ds0, p0, q0, hargs, rfl, rfl, h0, r0⟩ := trodAll_cons hA
  obtain ⟨rfl, rfl, rfl⟩ := trodAll_nil r0
  obtain rfl : args = #[v0] := by cases args; simp_all
  obtain ⟨rfl, rfl⟩ := trodVars_none hV
  obtain ⟨a0, len0, cap0, rfl⟩ := okWide_slice Try.underlying22 (hval 0 22 v0 rfl rfl)
  have k0 := h0
  have lt0 : ∀ x ∈ p0, x.block < W.heap.size := by obtain ⟨m, hm⟩ := k0; exact DataW.trod_lt m _ _ _ hm
  obtain ⟨z0, w0, r0⟩ : ∃ zs, IsRow .u8 W a0 len0 cap0 zs ∧ cap0 ≤ 140737488351232 := by
    obtain ⟨fuel, hf⟩ := h0
    rcases open_ints Try.underlying22 Try.underlying5 (by kernel_rfl) hf with ⟨hcs, _⟩ | ⟨x, l, c, zs, hcs, _, hl, hm, hz, hxx, hcell, hwz⟩
    · simp [Value.cells] at hcs
      obtain ⟨rfl, rfl, rfl⟩ := hcs
      exact ⟨[], .inl ⟨rfl, rfl, rfl, rfl⟩, by omega⟩
    · simp [Value.cells] at hcs
      obtain ⟨rfl, rfl, rfl⟩ := hcs
      have hz' : zs.length = cap0 := by simpa using hz
      refine ⟨zs, .inr ⟨_, rfl, hl, hm, hz', hcell, hwz⟩, ?_⟩
      simp only [Prod.mk.injEq] at hxx
      rw [hxx.1] at hsz
      have h := sized_slice hsz (j := 0) (t := 22) (e := 5) rfl rfl Try.underlying22
      rw [bytes5] at h
      simp only [lits, List.length_map, List.length_take, List.length_drop, reachBytes] at h
      omega
  clear hA0 hval0
  refine (walk a0 len0 cap0 z0 W w0 r0).mono fun e W' ⟨he, bel⟩ => ?_
  subst he
  exact ⟨_, rfl, _, _, _, [], _, [], hW', trodAll_mk1 (shut_bool Try.underlying4 _), (trodAll_cons_mk (Below.trod laidOut (by kernel_rfl) (of_decide_eq_true (by kernel_rfl)) k0 bel lt0) trodAll_mk0), rfl, bel.frame _, fun h => by cases h⟩

theorem over : Rows.fnRoutesRow.holds Try.pinned (OpenSpec.ofChange Rows.fnRoutesSpec) :=
  OpenClaim.holds_of_wide 6 Try.f6 rfl rfl rfl rfl rfl rfl rfl ⟨rfl, rfl, rfl, rfl, rfl⟩ rfl rfl rfl rfl rfl (by kernel_rfl) Try.func6 (by kernel_rfl)
    (of_decide_eq_true (by kernel_rfl)) (by unfold Func.isWrapper; first | (rw [if_pos (by decide +kernel)]; kernel_rfl) | (rw [if_neg (by decide +kernel)]; exact ⟨rfl, rfl⟩))
    (fun os started H enc _ => lifted os started H enc)

/-- ████ THE STATEMENT ████ -/
theorem proved : Rows.FnRoutesSaid := over
#print axioms proved
end Go.Proofs.Ytnfmjgldcnokbaa.fnRoutes
