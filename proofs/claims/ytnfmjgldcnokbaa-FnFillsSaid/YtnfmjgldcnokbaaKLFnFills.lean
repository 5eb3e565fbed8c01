/-
  For every draw: the padding behind the meaningful bytes does not affect the removal of a layer. No further condition.
-/
import Derived.Test.YtnfmjgldcnokbaaKGr
import Derived.Test.YtnfmjgldcnokbaaKGv
import Derived.Test.YtnfmjgldcnokbaaKGw
import Derived.Test.YtnfmjgldcnokbaaRows
import Derived.Below
import Derived.ChangeOld
import Derived.Deep.Cut
import Derived.Deep.CutRange
import Derived.Deep.DeepCutAuto
import Derived.OpenShut
import Derived.ProofKit
import Derived.ShutString
import Derived.SizedLaws
import Derived.StillTailTactics
import Derived.WalkKit
namespace Go.Proofs.Ytnfmjgldcnokbaa.fnFills
open Go.ChangeShapes Go.WideShapes Go.ChangeAt Go.RowKit
open Go.ChangeMaps (open_string shut_string)
set_option linter.unusedVariables false

theorem bytes5 : Try.prog.bytesOf 5 = 1 := by kernel_rfl
open Go.Proofs.Ytnfmjgldcnokbaa Fld
theorem own : ownKnob Try.prog.godebug = none := by kernel_rfl
theorem laidOut : laidOutB Try.prog = true := by kernel_rfl

/-- WHAT THE WALK IS TOLD OF A SLICE OF INTEGERS THAT CAME IN: it is nil; or it leads to a row of 'cap' cells, the numbers 'zs' (the first 'len' are its elements, the rest its spare room), each fitting its kind. -/
def IsRow (k : IntKind) (w : World) (a : Option Addr) (len cap : Nat) (zs : List Int) : Prop :=
  (a = none ∧ len = 0 ∧ cap = 0 ∧ zs = []) ∨
  ∃ x, a = some x ∧ len ≤ cap ∧ cap ≤ maxLen ∧ zs.length = cap ∧ (∀ i, i < zs.length → w.cell? (x.add i) = some (.int k (zs.getD i 0))) ∧ ∀ n ∈ zs, (Lit.int k n).wf = true

theorem rowInts {w : World} {a : Option Addr} {n c : Nat} {zs : List Int} (h : IsRow .u8 w a n c zs) : Ints .u8 w w.heap.size a n (zs.take n) ∧ n ≤ c := by
  rcases h with ⟨rfl, rfl, rfl, rfl⟩ | ⟨x, rfl, hl, _, hz, hc, hw⟩
  · exact ⟨Ints.nil, Nat.le_refl _⟩
  · exact ⟨Ints.ofRow (by omega) hc hw, hl⟩
theorem shapeR {K : IntKind} {w : World} {B : Nat} {v : Value} {l : List Int} (h : (tSl K).R w B [v] l) : ∃ A c, v = .slice A l.length c := by
  obtain ⟨A, n, c, e, -, -, hI⟩ := h
  injection e with e _
  subst e
  exact ⟨A, c, by rw [hI.1]⟩
theorem sizeR {w : World} {cs : List Value} {l : List Int} (h : tCell.R w w.heap.size cs l) : ∃ A c, cs = [.slice A l.length c] := by
  obtain ⟨A, n, c, e, -, -, hI⟩ := h
  exact ⟨A, c, by rw [e, hI.1]⟩

/-! ### STEP 1: THE WALK: the Go text returns true, AND WRITES NOTHING THAT WAS THERE: 'Below w.heap.size w w'' (Derived/Below.lean: '.refl', '.alloc', '.drew', '.setCell' at a new block, '.trans'). Open each 'IsRow' by 'rcases' AHEAD of 'go_enter'; part every test ahead of the walk. -/
set_option maxRecDepth 100000 in
set_option maxHeartbeats 2000000 in
theorem walk (a0 : Option Addr) (len0 cap0 : Nat) (z0 : List Int) (w : World) (w0 : IsRow .u8 w a0 len0 cap0 z0) (r0 : cap0 ≤ 140737488351232) :
    Calls Try.prog 5 #[.slice a0 len0 cap0] w fun e w' => e = .returned (.bool true) ∧ Below w.heap.size w w' := by
  obtain ⟨hl, hn⟩ := rowInts w0
  go_enter Try.func5, Try.ntmps5
  go_wp2_with fail
  refine (d_Wrap hl (by omega)).mono ?_
  rintro e w1 ⟨vr, vp, vs, vl, vd, r, s, ld, pd, u, rfl, h0, h2, h4, h5, ⟨q0, q2, q4, q5⟩, ⟨u0, u1⟩, hB1⟩
  obtain ⟨A0, c0, rfl⟩ := shapeR h0
  obtain ⟨A2, c2, rfl⟩ := shapeR h2
  obtain ⟨A4, c4, rfl⟩ := shapeR h4
  obtain ⟨A5, c5, rfl⟩ := shapeR h5
  have hby := (slR_ints h4).1.bytes
  obtain ⟨n0, hn0⟩ : ∃ m, r.length = m := ⟨_, rfl⟩
  obtain ⟨n2, hn2⟩ : ∃ m, s.length = m := ⟨_, rfl⟩
  obtain ⟨n4, hn4⟩ : ∃ m, ld.length = m := ⟨_, rfl⟩
  obtain ⟨n5, hn5⟩ : ∃ m, pd.length = m := ⟨_, rfl⟩
  have N0 := Lib.hid hn0
  have N2 := Lib.hid hn2
  have N4 := Lib.hid hn4
  have N5 := Lib.hid hn5
  have Q0 := Lib.hid q0
  have Q2 := Lib.hid q2
  have Q4 := Lib.hid q4
  have Q5 := Lib.hid q5
  rw [hn0] at h0 q0 ⊢
  rw [hn2] at h2 q2 ⊢
  rw [hn4] at h4 q4 ⊢
  rw [hn5] at h5 q5 ⊢
  clear hn0 hn2 hn4 hn5
  go_wp2_with fail
  refine (l_at 1 (hl.below hB1) (by omega) (by omega)).mono ?_
  rintro e w' ⟨rfl, rfl⟩
  have rsd := atV_rg hl.bytes 1
  obtain ⟨sd, hsd⟩ : ∃ sd, atV (List.take len0 z0) 1 = sd := ⟨_, rfl⟩
  rw [hsd] at rsd ⊢
  clear hsd
  go_wp2_with fail
  refine (l_nodes (by omega) (by omega)).mono ?_
  rintro e w2 ⟨Aa, ca, Ab, cb, rfl, ha, hb, hb2⟩
  have h0 := tIs.reach h0 hb2
  have h2 := tIs.reach h2 hb2
  have h4 := tBy.reach h4 hb2
  have h5 := tBy.reach h5 hb2
  have hB2 := bel_trans hB1 hb2
  go_wp2_with fail
  refine (i_WrapR h0 (by have := Q0.out; omega) hb (by rw [ndP_len]; omega) h2 (by have := Q2.out; omega) (WalkArith.wf_i64 ⟨by omega, by omega⟩) h4 (by have := Q4.out; omega) h5 (by have := Q5.out; omega)).mono ?_
  rintro e w3 ⟨cs, F, rfl, hO, -, hb3⟩
  have h0 := tIs.reach h0 hb3
  have h2 := tIs.reach h2 hb3
  have h4 := tBy.reach h4 hb3
  have h5 := tBy.reach h5 hb3
  have ha := tIs.reach ha hb3
  have hb := tIs.reach hb hb3
  have hB3 := bel_trans hB2 hb3
  have hR := tCell.read hO
  obtain ⟨Ac, cc, rfl⟩ := sizeR hR
  clear hO
  by_cases ho : WrapOk r (ndP sd) s u ld pd
  · have HO := Lib.hid ho
    have HK := Lib.hid (show (fwrap r (ndP sd) s u ld pd).2 = true by rw [fwrap_t ho])
    have HW := Lib.hid (wrapped_len ho)
    rw [HK.out]
    rw [HW.out] at hR ⊢
    go_wp2_with fail
    have hx := bel_alloc (Below.refl w3.heap.size w3) (.cells #[.slice Ac 80 cc] 30)
    refine (s_WrapR (tIs.reach h0 hx) (by have := Q0.out; omega) (tIs.reach hb hx) (by rw [ndP_len]; omega) (tIs.reach h2 hx) (by have := Q2.out; omega) (WalkArith.wf_i64 ⟨by omega, by omega⟩) (tBy.reach h4 hx) (by have := Q4.out; omega) (tBy.reach h5 hx) (by have := Q5.out; omega)).mono ?_
    rintro e w4 ⟨cs', rfl, hR', hb4⟩
    rw [HK.out]
    obtain ⟨Ac', cc', rfl⟩ := sizeR hR'
    rw [HW.out]
    have hx4 := bel_trans hx hb4
    have bx := (Box.below (B := (w3.alloc (.cells #[.slice Ac 80 cc] 30)).heap.size) (Box.new w3 30 #[.slice Ac 80 cc]) hb4 (by simp)).alloc (.cells #[.slice Ac' 80 cc'] 30)
    have hx5 : Below w3.heap.size w3 (w4.alloc (.cells #[.slice Ac' 80 cc'] 30)) := bel_alloc hx4 _
    have z5 : w3.heap.size < w4.heap.size := by have h := hb4.size; simp at h; omega
    have h0 := tIs.reach h0 hx5
    have h2 := tIs.reach h2 hx5
    have h4 := tBy.reach h4 hx5
    have h5 := tBy.reach h5 hx5
    have ha := tIs.reach ha hx5
    have hb := tIs.reach hb hx5
    have hR := tCell.reach hR hx5
    have hB5 := bel_trans hB3 hx5
    obtain ⟨cl, hcl⟩ : ∃ cl, (fwrap r (ndP sd) s u ld pd).1 = cl := ⟨_, rfl⟩
    rw [hcl] at hR
    have HC := Lib.hid hcl
    have HL := Lib.hid (show cl.length = 80 by rw [← hcl]; exact HW.out)
    have k0 := bx.cell 0
    obtain ⟨wx, hwx⟩ : ∃ wx, w4.alloc (.cells #[.slice Ac' 80 cc'] 30) = wx := ⟨_, rfl⟩
    have zx : w3.heap.size < wx.heap.size := by rw [← hwx]; simp; omega
    rw [hwx] at h0 h2 h4 h5 ha hb hR hB5 bx k0
    clear hx hx4 hx5 hR' hb4 hb3 hb2 hcl ho
    have hps := nd_pubsOf sd
    have hsl := ndS_len sd
    have hsc := ndS_sec rsd
    have hfst := wrapped_first HO.out
    have hpd := HO.out.2.2.2.2.2.2
    have how := wrapped_own HO.out
    have hpe := fun c => wrapped_peel hps hsl hsc HO.out hby c pd
    rw [HC.out] at how
    obtain ⟨x0, hx0⟩ : ∃ k : Nat, r.getD 0 0 = (k : Int) := ⟨(r.getD 0 0).toNat, by omega⟩
    rw [hx0] at hfst
    have HTG := Lib.hid (fun c hc hl => wrapped_tag hps hsl hsc HO.out hby c hc hl)
    have HPE := Lib.hid hpe
    have HOW := Lib.hid how
    have HX0 := Lib.hid hx0
    have HPD := Lib.hid hpd
    obtain ⟨s0, hs0⟩ : ∃ s0, (ndS sd).getD x0 0 = s0 := ⟨_, rfl⟩
    have HS0 := Lib.hid hs0
    have x8 : x0 < 8 := by omega
    have wf0 : (Lit.int .i64 (x0 : Int)).wf = true := WalkArith.wf_i64 ⟨by omega, by omega⟩
    have wfs : (Lit.int .i64 s0).wf = true := by rw [← hs0, ndS_at sd x8]; exact WalkArith.wf_i64 ⟨by omega, by omega⟩
    have hr1 := HO.out.1.1
    rw [N0.out] at hr1
    have n01 : 1 ≤ n0 := hr1.1
    have n04 : n0 ≤ 4 := hr1.2
    have hl4 := HO.out.2.2.2.2.2.1
    rw [N4.out] at hl4
    obtain ⟨br, of, e0, -, d0, -⟩ := (slR_ints h0).1.at_ (i := 0) (by omega)
    obtain ⟨ba, oa, ea, -, d1, -⟩ := (slR_ints ha).1.at_ (i := x0) x8
    subst e0 ea
    rw [hx0, Nat.add_zero] at d0
    rw [hs0] at d1
    have p0 : (0 : Int) < (n0 : Int) := by omega
    have p1 : (0 : Int) ≤ (x0 : Int) := by omega
    have p2 : (x0 : Int) < 8 := by omega
    have pn : 0 < n0 := by omega
    clear hps hsl hsc hfst hpd how hpe hx0 hs0 hr1
    have hfs : fsize (n0 : Int) (n4 : Int) = ((12 * n0 + n4 : Nat) : Int) := by unfold fsize; rw [if_pos (by omega)]; omega
    obtain ⟨sz, hsz⟩ : ∃ sz, 12 * n0 + n4 = sz := ⟨_, rfl⟩
    have sz80 : sz ≤ 72 := by omega
    rw [hsz] at hfs
    have HFS := Lib.hid hfs
    have HSZ := Lib.hid hsz
    clear hfs hsz
    obtain ⟨i0, hi0, hz0, hz1, hz2⟩ := info_parts info_by
    go_wp2_with fail
    try rw [hwx]
    refine (i_LayerSize (n0 : Int) (n4 : Int) _).mono ?_
    rintro e w' ⟨rfl, rfl⟩
    rw [HFS.out]
    have hIc := (slR_ints hR).1
    have s1 : ¬ ((sz : Int) < 0) := by omega
    go_wp2_with (at_builtin; refine wpList_app _ rfl (.tmp 78) (.tmp 80) _ rfl wx.heap.size 5 i0 _ 1 1 Try.underlying22 hi0 hz0 hz1 hz2 rfl (by omega) _ 0 [] rfl (empty_row _ _) Ac 80 cc _ rfl (Src.of_ints (hIc.alloc (Nat.le_refl _) _)) (one_ints _ _) (by simp only [maxLen]; omega) (by omega) (by simp) ?_; intro v7 w7 hown hgr hat; have hO7 : Own .u8 5 w7 wx.heap.size v7 cl := Own.of (n := 80) (by simpa using hown) hIc.2.2; obtain ⟨g, c7, rfl, hcc, hcm, hgw, hgs, -, -⟩ := hO7.row (by rw [HL.out]; omega); rw [HL.out] at hO7 hcc ⊢)
    have hg1 : (wx.alloc (.cells #[] 5)).grownBy w7 (some wx.heap.size) := hgr
    have hg3 : wx.grownBy w7 (some wx.heap.size) := gb_trans (gb_alloc (World.grownBy.refl wx _) _) hg1
    have hb7 : Below wx.heap.size wx w7 := gb_below hg3 (Nat.le_refl _) (Nat.le_refl _)
    unfold maxLen at hcm
    clear hown hgr hat hg1 hg3
    have hbx := bel_alloc hb7 (.cells #[.slice (some ⟨g, 0, none⟩) 80 c7] 30)
    have bxx := Box.new w7 30 #[.slice (some ⟨g, 0, none⟩) 80 c7]
    have z7 := hb7.size
    go_loopw [19] (fun i wr => ∃ (k : Nat) (X : List Int), sz ≤ k ∧ k ≤ 80 ∧ i = .int .i64 k ∧ X.length = 80 ∧ X.take sz = cl.take sz ∧ Own .u8 5 wr wx.heap.size (.slice (some ⟨g, 0, none⟩) 80 c7) X ∧ Box wr w7.heap.size 30 #[.slice (some ⟨g, 0, none⟩) 80 c7] ∧ Below wx.heap.size wx wr) (fun i _ => 80 - (intOf i).toNat)
    case atStart => exact ⟨sz, cl, Nat.le_refl _, by omega, rfl, HL.out, rfl, hO7.alloc _, bxx, hbx⟩
    case round =>
      obtain ⟨k, X, hk0, hk, rfl, hXL, hXT, hOX, hBX, hB⟩ := hrel
      have HXL := Lib.hid hXL
      have HXT := Lib.hid hXT
      have kx := hBX.cell 0
      have zr := hB.size
      clear hXL hXT
      by_cases hlt : k < 80
      · have hlr := hl.below (bel_trans hB5 hB)
        obtain ⟨g', c', e1, -, -, -, hgs2, hcell, hfz⟩ := hOX.row (by rw [HXL.out]; omega)
        simp only [Value.slice.injEq, Option.some.injEq, Addr.mk.injEq, and_true] at e1
        obtain ⟨e1, -, e2⟩ := e1
        subst e1 e2
        have hc := hcell k (by rw [HXL.out]; exact hlt)
        have hf := hfz k
        have rz := atV_rg hlr.bytes (k : Int)
        obtain ⟨z, hzv⟩ : ∃ z, atV (List.take len0 z0) (k : Int) = z := ⟨_, rfl⟩
        rw [hzv] at rz
        have HZ := Lib.hid hzv
        have t1 : (0 : Int) ≤ (k : Int) := by omega
        have t2 : (k : Int) < 80 := by omega
        have z3 : IntKind.u8.wrap z = z := u8w (by omega)
        clear hcell hfz hzv
        go_wp2_with fail
        refine wp_region_still_tail 8 (by kernel_rfl) (by kernel_rfl) ?_
        change wpStill _ _ wr.drew (fun a' => wpList _ _ _ _ a' wr.drew) _ _
        simp only [List.take_succ_cons, List.take_zero, List.drop_succ_cons, List.drop_zero]
        repeat still_step
        still_call (l_at_still (k : Int) hlr.drew (by omega) (by omega) HZ.out)
        repeat still_step
        refine wpStill_nil ?_
        go_wp2_with fail
        have hP := Own.put (l := X) (c := c7) (by rw [HXL.out]; exact hOX) k z (wf8 rz)
        rw [HXL.out] at hP
        go_roundw
        case rel => exact ⟨k + 1, X.set k z, by omega, by omega, by go_num, by rw [List.length_set, HXL.out], by rw [List.take_set, List.set_eq_of_length_le (by rw [List.length_take]; omega), HXT.out], hP, (hBX.far (p := ⟨g, k, none⟩) (by show w7.heap.size ≠ g; omega) _), (hB.setCell (p := ⟨g, k, none⟩) hgw _).drew⟩
        case measure => simp [intOf]; omega
      · obtain rfl : k = 80 := by omega
        have hRX := own_R' hOX
        have hXw : ∃ t, X = wrapL (ndP sd) u ld r s ++ t := by
          obtain ⟨t, ht⟩ := HOW.out
          refine ⟨X.drop sz, ?_⟩
          have h := HXT.out
          rw [ht, List.take_left' (by rw [wrapL_len, N0.out, N4.out]; exact HSZ.out)] at h
          rw [← h, List.take_append_drop]
        have HXW := Lib.hid hXw
        have HE1 := Lib.hid (HPE.out cl HOW.out HL.out HPD.out)
        have HE2 := Lib.hid (HPE.out X hXw HXL.out HPD.out)
        obtain ⟨PE, hPE⟩ : ∃ PE : Pel, fpeel s0 cl pd = (PE, true) := ⟨_, by have h := HE1.out; rw [HX0.out, Int.toNat_natCast, HS0.out] at h; exact h⟩
        have hPE2 : fpeel s0 X pd = (PE, true) := by
          have h1 := HE1.out; have h2 := HE2.out
          rw [HX0.out, Int.toNat_natCast, HS0.out] at h1 h2
          rw [h2, ← hPE, h1]
        obtain ⟨PP, hPP⟩ : ∃ PP : DPeeled, dPl PE = PP := ⟨_, rfl⟩
        have FT1 := Lib.hid (show (fpeel s0 cl pd).2 = true by rw [hPE])
        have FT2 := Lib.hid (show (fpeel s0 X pd).2 = true by rw [hPE2])
        have FP1 := Lib.hid (show fPl s0 cl pd = PP by unfold fPl; rw [hPE]; exact hPP)
        have FP2 := Lib.hid (show fPl s0 X pd = PP by unfold fPl; rw [hPE2]; exact hPP)
        clear hXw hPE hPE2 hPP hOX hlt hIc bxx hbx hO7
        have h5 := tBy.reach h5 hB
        have hR := tCell.reach hR hB
        have d0 := cell_bel hB d0
        have d1 := cell_bel hB d1
        have kc := cell_bel hB k0
        have hBw := bel_trans hB5 hB
        have zw := hBX.size
        go_wp2_with fail
        go_cut [20, 21] (fun t20 t21 wc => ∃ (pb : Nat) (AL AC : Option Addr) (nL cL nC cC : Nat), t20 = .pointer (some ⟨pb, 0, none⟩) ∧ t21 = .bool true ∧ Box wc pb 42 #[.int .i64 PP.1, .int .i64 PP.2.1, .int .i64 PP.2.2.1, .slice AL nL cL, .slice AC nC cC] ∧ tPeeled.R wc wc.heap.size [.int .i64 PP.1, .int .i64 PP.2.1, .int .i64 PP.2.2.1, .slice AL nL cL, .slice AC nC cC] PP ∧ Below wr.heap.size wr wc ∧ wr.heap.size ≤ pb)
        case first =>
          refine wp_region_held_drew (S := (fun w' => w'.cell? ⟨br, of, none⟩ = some (.int .i64 (x0 : Int)) ∧ w'.cell? ⟨ba, oa + x0, none⟩ = some (.int .i64 s0) ∧ w'.cell? ⟨w3.heap.size, 0, none⟩ = some (.slice Ac 80 cc))) (by kernel_rfl) (by exact ⟨d0, d1, kc⟩) (fun hHeld => ?_)
          refine wpAnyH_take (i := 0) (oi := ⟨some 102, _, _, _, _, _⟩) (v := ?v57) rfl (by kernel_rfl) (by kernel_rfl) (by kernel_rfl) (fun _ _ _ h => h) (Or.inl ⟨by rfl, ?hy57⟩) (by assumption) ?_
          case hy57 => (intro w hSw; (try dsimp only at hSw); go_simp; try (with_reducible rfl))
          (try simp only [Act.put, qa_, qb_, qc_])
          refine wpAnyH_take (i := 1) (oi := ⟨some 103, _, _, _, _, _⟩) (v := ?v58) rfl (by kernel_rfl) (by kernel_rfl) (by kernel_rfl) (fun _ _ _ h => h) (Or.inl ⟨by rfl, ?hy58⟩) (by assumption) ?_
          case hy58 => (intro w hSw; (try dsimp only at hSw); go_simp; try (with_reducible rfl))
          (try simp only [Act.put, qa_, qb_, qc_])
          refine wpAnyH_take (i := 2) (oi := ⟨some 104, _, _, _, _, _⟩) (v := ?v59) rfl (by kernel_rfl) (by kernel_rfl) (by kernel_rfl) (fun _ _ _ h => h) (Or.inl ⟨by rfl, ?hy59⟩) (by assumption) ?_
          case hy59 => (intro w hSw; (try dsimp only at hSw); go_simp; try (with_reducible rfl))
          (try simp only [Act.put, qa_, qb_, qc_])
          refine wpAnyH_take (i := 3) (oi := ⟨some 105, _, _, _, _, _⟩) (v := ?v60) rfl (by kernel_rfl) (by kernel_rfl) (by kernel_rfl) (fun _ _ _ h => h) (Or.inl ⟨by rfl, ?hy60⟩) (by assumption) ?_
          case hy60 => (intro w hSw; (try dsimp only at hSw); go_simp; try (with_reducible rfl))
          (try simp only [Act.put, qa_, qb_, qc_])
          refine wpAnyH_take (i := 4) (oi := ⟨some 106, _, _, _, _, _⟩) (v := ?v61) rfl (by kernel_rfl) (by kernel_rfl) (by kernel_rfl) (fun _ _ _ h => h) (Or.inl ⟨by rfl, ?hy61⟩) (by assumption) ?_
          case hy61 => (intro w hSw; (try dsimp only at hSw); go_simp; try (with_reducible rfl))
          (try simp only [Act.put, qa_, qb_, qc_])
          refine wpAnyH_take (i := 5) (oi := ⟨some 107, _, _, _, _, _⟩) (v := ?v62) rfl (by kernel_rfl) (by kernel_rfl) (by kernel_rfl) (fun _ _ _ h => h) (Or.inl ⟨by rfl, ?hy62⟩) (by assumption) ?_
          case hy62 => (intro w hSw; (try dsimp only at hSw); go_simp; try (with_reducible rfl))
          (try simp only [Act.put, qa_, qb_, qc_])
          refine wpAnyH_take (i := 6) (oi := ⟨some 108, _, _, _, _, _⟩) (v := ?v63) rfl (by kernel_rfl) (by kernel_rfl) (by kernel_rfl) (fun _ _ _ h => h) (Or.inl ⟨by rfl, ?hy63⟩) (by assumption) ?_
          case hy63 => (intro w hSw; (try dsimp only at hSw); go_simp; try (with_reducible rfl))
          (try simp only [Act.put, qa_, qb_, qc_])
          refine wpAnyH_take (i := 7) (oi := ⟨some 109, _, _, _, _, _⟩) (v := ?v64) rfl (by kernel_rfl) (by kernel_rfl) (by kernel_rfl) (fun _ _ _ h => h) (Or.inl ⟨by rfl, ?hy64⟩) (by assumption) ?_
          case hy64 => (intro w hSw; (try dsimp only at hSw); go_simp; try (with_reducible rfl))
          (try simp only [Act.put, qa_, qb_, qc_])
          refine wpAnyH_ready (rs := [8, 12]) (by kernel_rfl) (by simp) ?_
          refine AllReadyH.cons rfl (fun K hK => ?_) ?_
          · have hX : Below wr.heap.size wr (wr.drew) := (belx)
            go_simp
            go_at_call 19
            refine (i_PeelR wfs (tCell.reach hR hX) (by show cl.length ≤ _; have := HL.out; omega) (tBy.reach h5 hX) (by have := Q5.out; omega)).mono ?_
            rintro e w2 ⟨cs2, F2, rfl, hO2, hN2, hb2⟩
            rw [FT1.out]
            rw [FP1.out] at hO2
            obtain ⟨AL, nL, cL, AC, nC, cC, rfl, -⟩ := openPeeled (tPeeled.read hO2)
            have hx : Below wr.heap.size wr w2 := bel_trans hX hb2
            go_wp2_with fail
            refine hK.out _ _ (by exact ⟨cell_bel hx d0, cell_bel hx d1, cell_bel hx kc⟩) (fun hHeld => ?_)
            clear hK K
            (try simp only [Act.put, qa_, qb_, qc_])
            refine wpAnyH_take (i := 9) (oi := ⟨some 101, _, _, _, _, _⟩) (v := ?v65) rfl (by kernel_rfl) (by kernel_rfl) (by kernel_rfl) (fun _ _ _ h => h) (Or.inl ⟨by rfl, ?hy65⟩) (by assumption) ?_
            case hy65 => (intro w hSw; (try dsimp only at hSw); go_simp; try (with_reducible rfl))
            (try simp only [Act.put, qa_, qb_, qc_])
            refine wpAnyH_take (i := 10) (oi := ⟨some 111, _, _, _, _, _⟩) (v := ?v66) rfl (by kernel_rfl) (by kernel_rfl) (by kernel_rfl) (fun _ _ _ h => h) (Or.inl ⟨by rfl, ?hy66⟩) (by assumption) ?_
            case hy66 => (intro w hSw; (try dsimp only at hSw); go_simp; try (with_reducible rfl))
            (try simp only [Act.put, qa_, qb_, qc_])
            refine wpAnyH_take (i := 11) (oi := ⟨some 112, _, _, _, _, _⟩) (v := ?v67) rfl (by kernel_rfl) (by kernel_rfl) (by kernel_rfl) (fun _ _ _ h => h) (Or.inl ⟨by rfl, ?hy67⟩) (by assumption) ?_
            case hy67 => (intro w hSw; (try dsimp only at hSw); go_simp; try (with_reducible rfl))
            (try simp only [Act.put, qa_, qb_, qc_])
            refine wpAnyH_ready (rs := [12]) (by kernel_rfl) (by simp) ?_
            refine AllReadyH.cons rfl (fun K hK => ?_) ?_
            · go_simp
              refine hK.out _ _ (by exact ⟨cell_bel (show Below wr.heap.size wr (w2.alloc (.cells #[.int .i64 0, .int .i64 0, .int .i64 0, .slice none 0 0, .slice none 0 0] 42)) from bel_alloc hx _) d0, cell_bel (show Below wr.heap.size wr (w2.alloc (.cells #[.int .i64 0, .int .i64 0, .int .i64 0, .slice none 0 0, .slice none 0 0] 42)) from bel_alloc hx _) d1, cell_bel (show Below wr.heap.size wr (w2.alloc (.cells #[.int .i64 0, .int .i64 0, .int .i64 0, .slice none 0 0, .slice none 0 0] 42)) from bel_alloc hx _) kc⟩) (fun hHeld => ?_)
              clear hK K
              (try simp only [Act.put, qa_, qb_, qc_])
              refine wpAnyH_ready (rs := [13]) (by kernel_rfl) (by simp) ?_
              refine AllReadyH.cons rfl (fun K hK => ?_) ?_
              · have Zg : Box (w2.alloc (.cells #[.int .i64 PP.1, .int .i64 PP.2.1, .int .i64 PP.2.2.1, .slice AL nL cL, .slice AC nC cC] 42)) w2.heap.size 42 #[.int .i64 PP.1, .int .i64 PP.2.1, .int .i64 PP.2.2.1, .slice AL nL cL, .slice AC nC cC] := Box.new _ _ _
                have hfin : Below wr.heap.size wr (w2.alloc (.cells #[.int .i64 PP.1, .int .i64 PP.2.1, .int .i64 PP.2.2.1, .slice AL nL cL, .slice AC nC cC] 42)) := bel_alloc hx _
                have hgl : wr.heap.size ≤ w2.heap.size := hx.size
                have hRP := tPeeled.read (Ty.below (t := tPeeled) hO2 (show Below w2.heap.size w2 (w2.alloc (.cells #[.int .i64 PP.1, .int .i64 PP.2.1, .int .i64 PP.2.2.1, .slice AL nL cL, .slice AC nC cC] 42)) from bel_alloc (Below.refl _ _) _))
                go_simp
                refine hK.out _ _ (by exact ⟨cell_bel hfin d0, cell_bel hfin d1, cell_bel hfin kc⟩) (fun hHeld => ?_)
                clear hK K
                (try simp only [Act.put, qa_, qb_, qc_])
                refine wpAnyH_take (i := 14) (oi := ⟨some 21, _, _, _, _, _⟩) (v := ?v68) rfl (by kernel_rfl) (by kernel_rfl) (by kernel_rfl) (fun _ _ _ h => h) (Or.inl ⟨by rfl, ?hy68⟩) (by assumption) ?_
                case hy68 => (intro w hSw; (try dsimp only at hSw); go_simp; try (with_reducible rfl))
                (try simp only [Act.put, qa_, qb_, qc_])
                refine wpAnyH_done (by kernel_rfl) ?_ _
                go_wp2_with fail
                go_meet
                exact ⟨_, AL, AC, nL, cL, nC, cC, rfl, rfl, by first | exact Zg | simpa using Zg, by first | exact hRP | simpa using hRP, by first | exact hfin | simpa using hfin, hgl⟩
              exact AllReadyH.nil
            exact AllReadyH.nil
          refine AllReadyH.cons rfl (fun K hK => ?_) ?_
          · go_simp
            refine hK.out _ _ (by exact ⟨cell_bel (show Below wr.heap.size wr (wr.alloc (.cells #[.int .i64 0, .int .i64 0, .int .i64 0, .slice none 0 0, .slice none 0 0] 42)).drew from (belx)) d0, cell_bel (show Below wr.heap.size wr (wr.alloc (.cells #[.int .i64 0, .int .i64 0, .int .i64 0, .slice none 0 0, .slice none 0 0] 42)).drew from (belx)) d1, cell_bel (show Below wr.heap.size wr (wr.alloc (.cells #[.int .i64 0, .int .i64 0, .int .i64 0, .slice none 0 0, .slice none 0 0] 42)).drew from (belx)) kc⟩) (fun hHeld => ?_)
            clear hK K
            (try simp only [Act.put, qa_, qb_, qc_])
            refine wpAnyH_ready (rs := [8]) (by kernel_rfl) (by simp) ?_
            refine AllReadyH.cons rfl (fun K hK => ?_) ?_
            · have hX : Below wr.heap.size wr ((wr.alloc (.cells #[.int .i64 0, .int .i64 0, .int .i64 0, .slice none 0 0, .slice none 0 0] 42)).drew) := (belx)
              go_simp
              go_at_call 19
              refine (i_PeelR wfs (tCell.reach hR hX) (by show cl.length ≤ _; have := HL.out; omega) (tBy.reach h5 hX) (by have := Q5.out; omega)).mono ?_
              rintro e w2 ⟨cs2, F2, rfl, hO2, hN2, hb2⟩
              rw [FT1.out]
              rw [FP1.out] at hO2
              obtain ⟨AL, nL, cL, AC, nC, cC, rfl, -⟩ := openPeeled (tPeeled.read hO2)
              have hx : Below wr.heap.size wr w2 := bel_trans hX hb2
              have Zb : Box w2 wr.heap.size 42 #[.int .i64 0, .int .i64 0, .int .i64 0, .slice none 0 0, .slice none 0 0] := Box.below (show Box ((wr.alloc (.cells #[.int .i64 0, .int .i64 0, .int .i64 0, .slice none 0 0, .slice none 0 0] 42)).drew) wr.heap.size 42 #[.int .i64 0, .int .i64 0, .int .i64 0, .slice none 0 0, .slice none 0 0] from Box.drew (Box.new wr 42 #[.int .i64 0, .int .i64 0, .int .i64 0, .slice none 0 0, .slice none 0 0])) hb2 (by show wr.heap.size < (World.alloc _ _).heap.size; simp)
              have zb0 := Zb.cell 0; have zf0 := Zb.frozen 0
              have zb1 := Zb.cell 1; have zf1 := Zb.frozen 1
              have zb2 := Zb.cell 2; have zf2 := Zb.frozen 2
              have zb3 := Zb.cell 3; have zf3 := Zb.frozen 3
              have zb4 := Zb.cell 4; have zf4 := Zb.frozen 4
              go_wp2_with fail
              refine hK.out _ _ (by exact ⟨cell_bel hx d0, cell_bel hx d1, cell_bel hx kc⟩) (fun hHeld => ?_)
              clear hK K
              (try simp only [Act.put, qa_, qb_, qc_])
              refine wpAnyH_take (i := 9) (oi := ⟨some 101, _, _, _, _, _⟩) (v := ?v69) rfl (by kernel_rfl) (by kernel_rfl) (by kernel_rfl) (fun _ _ _ h => h) (Or.inl ⟨by rfl, ?hy69⟩) (by assumption) ?_
              case hy69 => (intro w hSw; (try dsimp only at hSw); go_simp; try (with_reducible rfl))
              (try simp only [Act.put, qa_, qb_, qc_])
              refine wpAnyH_take (i := 10) (oi := ⟨some 111, _, _, _, _, _⟩) (v := ?v70) rfl (by kernel_rfl) (by kernel_rfl) (by kernel_rfl) (fun _ _ _ h => h) (Or.inl ⟨by rfl, ?hy70⟩) (by assumption) ?_
              case hy70 => (intro w hSw; (try dsimp only at hSw); go_simp; try (with_reducible rfl))
              (try simp only [Act.put, qa_, qb_, qc_])
              refine wpAnyH_take (i := 11) (oi := ⟨some 112, _, _, _, _, _⟩) (v := ?v71) rfl (by kernel_rfl) (by kernel_rfl) (by kernel_rfl) (fun _ _ _ h => h) (Or.inl ⟨by rfl, ?hy71⟩) (by assumption) ?_
              case hy71 => (intro w hSw; (try dsimp only at hSw); go_simp; try (with_reducible rfl))
              (try simp only [Act.put, qa_, qb_, qc_])
              refine wpAnyH_ready (rs := [13]) (by kernel_rfl) (by simp) ?_
              refine AllReadyH.cons rfl (fun K hK => ?_) ?_
              · have hgl : wr.heap.size ≤ wr.heap.size := Nat.le_refl _
                have hgB : wr.heap.size < ((wr.alloc (.cells #[.int .i64 0, .int .i64 0, .int .i64 0, .slice none 0 0, .slice none 0 0] 42)).drew).heap.size := by show wr.heap.size < (World.alloc _ _).heap.size; simp
                have hfin := (bel_put (bel_put (bel_put (bel_put (bel_put hx (p := ⟨wr.heap.size, 0, none⟩) (Nat.le_refl _) (.int .i64 PP.1)) (p := ⟨wr.heap.size, 1, none⟩) (Nat.le_refl _) (.int .i64 PP.2.1)) (p := ⟨wr.heap.size, 2, none⟩) (Nat.le_refl _) (.int .i64 PP.2.2.1)) (p := ⟨wr.heap.size, 3, none⟩) (Nat.le_refl _) (.slice AL nL cL)) (p := ⟨wr.heap.size, 4, none⟩) (Nat.le_refl _) (.slice AC nC cC))
                have Zg := (((((Zb.put 0 (.int .i64 PP.1)).put 1 (.int .i64 PP.2.1)).put 2 (.int .i64 PP.2.2.1)).put 3 (.slice AL nL cL)).put 4 (.slice AC nC cC))
                have hRP : tPeeled.R (((((w2.setCell ⟨wr.heap.size, 0, none⟩ (.int .i64 PP.1)).setCell ⟨wr.heap.size, 1, none⟩ (.int .i64 PP.2.1)).setCell ⟨wr.heap.size, 2, none⟩ (.int .i64 PP.2.2.1)).setCell ⟨wr.heap.size, 3, none⟩ (.slice AL nL cL)).setCell ⟨wr.heap.size, 4, none⟩ (.slice AC nC cC)) (((((w2.setCell ⟨wr.heap.size, 0, none⟩ (.int .i64 PP.1)).setCell ⟨wr.heap.size, 1, none⟩ (.int .i64 PP.2.1)).setCell ⟨wr.heap.size, 2, none⟩ (.int .i64 PP.2.2.1)).setCell ⟨wr.heap.size, 3, none⟩ (.slice AL nL cL)).setCell ⟨wr.heap.size, 4, none⟩ (.slice AC nC cC)).heap.size _ PP := tPeeled.read (Ty.far (t := tPeeled) (Ty.far (t := tPeeled) (Ty.far (t := tPeeled) (Ty.far (t := tPeeled) (Ty.far (t := tPeeled) hO2 hN2 (p := ⟨wr.heap.size, 0, none⟩) hgB (.int .i64 PP.1)) hN2 (p := ⟨wr.heap.size, 1, none⟩) hgB (.int .i64 PP.2.1)) hN2 (p := ⟨wr.heap.size, 2, none⟩) hgB (.int .i64 PP.2.2.1)) hN2 (p := ⟨wr.heap.size, 3, none⟩) hgB (.slice AL nL cL)) hN2 (p := ⟨wr.heap.size, 4, none⟩) hgB (.slice AC nC cC))
                go_simp
                refine hK.out _ _ (by exact ⟨cell_bel hfin d0, cell_bel hfin d1, cell_bel hfin kc⟩) (fun hHeld => ?_)
                clear hK K
                (try simp only [Act.put, qa_, qb_, qc_])
                refine wpAnyH_take (i := 14) (oi := ⟨some 21, _, _, _, _, _⟩) (v := ?v72) rfl (by kernel_rfl) (by kernel_rfl) (by kernel_rfl) (fun _ _ _ h => h) (Or.inl ⟨by rfl, ?hy72⟩) (by assumption) ?_
                case hy72 => (intro w hSw; (try dsimp only at hSw); go_simp; try (with_reducible rfl))
                (try simp only [Act.put, qa_, qb_, qc_])
                refine wpAnyH_done (by kernel_rfl) ?_ _
                go_wp2_with fail
                go_meet
                exact ⟨_, AL, AC, nL, cL, nC, cC, rfl, rfl, by first | exact Zg | simpa using Zg, by first | exact hRP | simpa using hRP, by first | exact hfin | simpa using hfin, hgl⟩
              exact AllReadyH.nil
            exact AllReadyH.nil
          exact AllReadyH.nil
        case rest =>
        obtain ⟨pa, AL, AC, nL, cL, nC, cC, rfl, rfl, Ba, ra, hba, hpa⟩ := hcut
        have h5 := tBy.reach h5 hba
        have hRX := tCell.reach hRX hba
        have d0 := cell_bel hba d0
        have d1 := cell_bel hba d1
        have kc := cell_bel hba kx
        have hBa := bel_trans hBw hba
        obtain ⟨wa, hwa⟩ : ∃ wa, wc = wa := ⟨_, rfl⟩
        rw [hwa] at h5 hRX d0 d1 kc hBa Ba ra ⊢
        clear hwa
        go_wp2_with fail
        go_cut [22, 23] (fun t22 t23 wc => ∃ (pb : Nat) (AL AC : Option Addr) (nL cL nC cC : Nat), t22 = .pointer (some ⟨pb, 0, none⟩) ∧ t23 = .bool true ∧ Box wc pb 42 #[.int .i64 PP.1, .int .i64 PP.2.1, .int .i64 PP.2.2.1, .slice AL nL cL, .slice AC nC cC] ∧ tPeeled.R wc wc.heap.size [.int .i64 PP.1, .int .i64 PP.2.1, .int .i64 PP.2.2.1, .slice AL nL cL, .slice AC nC cC] PP ∧ Below wa.heap.size wa wc ∧ wa.heap.size ≤ pb)
        case first =>
          refine wp_region_held_drew (S := (fun w' => w'.cell? ⟨br, of, none⟩ = some (.int .i64 (x0 : Int)) ∧ w'.cell? ⟨ba, oa + x0, none⟩ = some (.int .i64 s0) ∧ w'.cell? ⟨w7.heap.size, 0, none⟩ = some (.slice (some ⟨g, 0, none⟩) 80 c7))) (by kernel_rfl) (by exact ⟨d0, d1, kc⟩) (fun hHeld => ?_)
          refine wpAnyH_take (i := 0) (oi := ⟨some 114, _, _, _, _, _⟩) (v := ?v73) rfl (by kernel_rfl) (by kernel_rfl) (by kernel_rfl) (fun _ _ _ h => h) (Or.inl ⟨by rfl, ?hy73⟩) (by assumption) ?_
          case hy73 => (intro w hSw; (try dsimp only at hSw); go_simp; try (with_reducible rfl))
          (try simp only [Act.put, qa_, qb_, qc_])
          refine wpAnyH_take (i := 1) (oi := ⟨some 115, _, _, _, _, _⟩) (v := ?v74) rfl (by kernel_rfl) (by kernel_rfl) (by kernel_rfl) (fun _ _ _ h => h) (Or.inl ⟨by rfl, ?hy74⟩) (by assumption) ?_
          case hy74 => (intro w hSw; (try dsimp only at hSw); go_simp; try (with_reducible rfl))
          (try simp only [Act.put, qa_, qb_, qc_])
          refine wpAnyH_take (i := 2) (oi := ⟨some 116, _, _, _, _, _⟩) (v := ?v75) rfl (by kernel_rfl) (by kernel_rfl) (by kernel_rfl) (fun _ _ _ h => h) (Or.inl ⟨by rfl, ?hy75⟩) (by assumption) ?_
          case hy75 => (intro w hSw; (try dsimp only at hSw); go_simp; try (with_reducible rfl))
          (try simp only [Act.put, qa_, qb_, qc_])
          refine wpAnyH_take (i := 3) (oi := ⟨some 117, _, _, _, _, _⟩) (v := ?v76) rfl (by kernel_rfl) (by kernel_rfl) (by kernel_rfl) (fun _ _ _ h => h) (Or.inl ⟨by rfl, ?hy76⟩) (by assumption) ?_
          case hy76 => (intro w hSw; (try dsimp only at hSw); go_simp; try (with_reducible rfl))
          (try simp only [Act.put, qa_, qb_, qc_])
          refine wpAnyH_take (i := 4) (oi := ⟨some 118, _, _, _, _, _⟩) (v := ?v77) rfl (by kernel_rfl) (by kernel_rfl) (by kernel_rfl) (fun _ _ _ h => h) (Or.inl ⟨by rfl, ?hy77⟩) (by assumption) ?_
          case hy77 => (intro w hSw; (try dsimp only at hSw); go_simp; try (with_reducible rfl))
          (try simp only [Act.put, qa_, qb_, qc_])
          refine wpAnyH_take (i := 5) (oi := ⟨some 119, _, _, _, _, _⟩) (v := ?v78) rfl (by kernel_rfl) (by kernel_rfl) (by kernel_rfl) (fun _ _ _ h => h) (Or.inl ⟨by rfl, ?hy78⟩) (by assumption) ?_
          case hy78 => (intro w hSw; (try dsimp only at hSw); go_simp; try (with_reducible rfl))
          (try simp only [Act.put, qa_, qb_, qc_])
          refine wpAnyH_take (i := 6) (oi := ⟨some 120, _, _, _, _, _⟩) (v := ?v79) rfl (by kernel_rfl) (by kernel_rfl) (by kernel_rfl) (fun _ _ _ h => h) (Or.inl ⟨by rfl, ?hy79⟩) (by assumption) ?_
          case hy79 => (intro w hSw; (try dsimp only at hSw); go_simp; try (with_reducible rfl))
          (try simp only [Act.put, qa_, qb_, qc_])
          refine wpAnyH_take (i := 7) (oi := ⟨some 121, _, _, _, _, _⟩) (v := ?v80) rfl (by kernel_rfl) (by kernel_rfl) (by kernel_rfl) (fun _ _ _ h => h) (Or.inl ⟨by rfl, ?hy80⟩) (by assumption) ?_
          case hy80 => (intro w hSw; (try dsimp only at hSw); go_simp; try (with_reducible rfl))
          (try simp only [Act.put, qa_, qb_, qc_])
          refine wpAnyH_ready (rs := [8, 12]) (by kernel_rfl) (by simp) ?_
          refine AllReadyH.cons rfl (fun K hK => ?_) ?_
          · have hX : Below wa.heap.size wa (wa.drew) := (belx)
            go_simp
            go_at_call 19
            refine (i_PeelR wfs (tCell.reach hRX hX) (by show X.length ≤ _; have := HXL.out; omega) (tBy.reach h5 hX) (by have := Q5.out; omega)).mono ?_
            rintro e w2 ⟨cs2, F2, rfl, hO2, hN2, hb2⟩
            rw [FT2.out]
            rw [FP2.out] at hO2
            obtain ⟨AL, nL, cL, AC, nC, cC, rfl, -⟩ := openPeeled (tPeeled.read hO2)
            have hx : Below wa.heap.size wa w2 := bel_trans hX hb2
            go_wp2_with fail
            refine hK.out _ _ (by exact ⟨cell_bel hx d0, cell_bel hx d1, cell_bel hx kc⟩) (fun hHeld => ?_)
            clear hK K
            (try simp only [Act.put, qa_, qb_, qc_])
            refine wpAnyH_take (i := 9) (oi := ⟨some 113, _, _, _, _, _⟩) (v := ?v81) rfl (by kernel_rfl) (by kernel_rfl) (by kernel_rfl) (fun _ _ _ h => h) (Or.inl ⟨by rfl, ?hy81⟩) (by assumption) ?_
            case hy81 => (intro w hSw; (try dsimp only at hSw); go_simp; try (with_reducible rfl))
            (try simp only [Act.put, qa_, qb_, qc_])
            refine wpAnyH_take (i := 10) (oi := ⟨some 123, _, _, _, _, _⟩) (v := ?v82) rfl (by kernel_rfl) (by kernel_rfl) (by kernel_rfl) (fun _ _ _ h => h) (Or.inl ⟨by rfl, ?hy82⟩) (by assumption) ?_
            case hy82 => (intro w hSw; (try dsimp only at hSw); go_simp; try (with_reducible rfl))
            (try simp only [Act.put, qa_, qb_, qc_])
            refine wpAnyH_take (i := 11) (oi := ⟨some 124, _, _, _, _, _⟩) (v := ?v83) rfl (by kernel_rfl) (by kernel_rfl) (by kernel_rfl) (fun _ _ _ h => h) (Or.inl ⟨by rfl, ?hy83⟩) (by assumption) ?_
            case hy83 => (intro w hSw; (try dsimp only at hSw); go_simp; try (with_reducible rfl))
            (try simp only [Act.put, qa_, qb_, qc_])
            refine wpAnyH_ready (rs := [12]) (by kernel_rfl) (by simp) ?_
            refine AllReadyH.cons rfl (fun K hK => ?_) ?_
            · go_simp
              refine hK.out _ _ (by exact ⟨cell_bel (show Below wa.heap.size wa (w2.alloc (.cells #[.int .i64 0, .int .i64 0, .int .i64 0, .slice none 0 0, .slice none 0 0] 42)) from bel_alloc hx _) d0, cell_bel (show Below wa.heap.size wa (w2.alloc (.cells #[.int .i64 0, .int .i64 0, .int .i64 0, .slice none 0 0, .slice none 0 0] 42)) from bel_alloc hx _) d1, cell_bel (show Below wa.heap.size wa (w2.alloc (.cells #[.int .i64 0, .int .i64 0, .int .i64 0, .slice none 0 0, .slice none 0 0] 42)) from bel_alloc hx _) kc⟩) (fun hHeld => ?_)
              clear hK K
              (try simp only [Act.put, qa_, qb_, qc_])
              refine wpAnyH_ready (rs := [13]) (by kernel_rfl) (by simp) ?_
              refine AllReadyH.cons rfl (fun K hK => ?_) ?_
              · have Zg : Box (w2.alloc (.cells #[.int .i64 PP.1, .int .i64 PP.2.1, .int .i64 PP.2.2.1, .slice AL nL cL, .slice AC nC cC] 42)) w2.heap.size 42 #[.int .i64 PP.1, .int .i64 PP.2.1, .int .i64 PP.2.2.1, .slice AL nL cL, .slice AC nC cC] := Box.new _ _ _
                have hfin : Below wa.heap.size wa (w2.alloc (.cells #[.int .i64 PP.1, .int .i64 PP.2.1, .int .i64 PP.2.2.1, .slice AL nL cL, .slice AC nC cC] 42)) := bel_alloc hx _
                have hgl : wa.heap.size ≤ w2.heap.size := hx.size
                have hRP := tPeeled.read (Ty.below (t := tPeeled) hO2 (show Below w2.heap.size w2 (w2.alloc (.cells #[.int .i64 PP.1, .int .i64 PP.2.1, .int .i64 PP.2.2.1, .slice AL nL cL, .slice AC nC cC] 42)) from bel_alloc (Below.refl _ _) _))
                go_simp
                refine hK.out _ _ (by exact ⟨cell_bel hfin d0, cell_bel hfin d1, cell_bel hfin kc⟩) (fun hHeld => ?_)
                clear hK K
                (try simp only [Act.put, qa_, qb_, qc_])
                refine wpAnyH_take (i := 14) (oi := ⟨some 23, _, _, _, _, _⟩) (v := ?v84) rfl (by kernel_rfl) (by kernel_rfl) (by kernel_rfl) (fun _ _ _ h => h) (Or.inl ⟨by rfl, ?hy84⟩) (by assumption) ?_
                case hy84 => (intro w hSw; (try dsimp only at hSw); go_simp; try (with_reducible rfl))
                (try simp only [Act.put, qa_, qb_, qc_])
                refine wpAnyH_done (by kernel_rfl) ?_ _
                go_wp2_with fail
                go_meet
                exact ⟨_, AL, AC, nL, cL, nC, cC, rfl, rfl, by first | exact Zg | simpa using Zg, by first | exact hRP | simpa using hRP, by first | exact hfin | simpa using hfin, hgl⟩
              exact AllReadyH.nil
            exact AllReadyH.nil
          refine AllReadyH.cons rfl (fun K hK => ?_) ?_
          · go_simp
            refine hK.out _ _ (by exact ⟨cell_bel (show Below wa.heap.size wa (wa.alloc (.cells #[.int .i64 0, .int .i64 0, .int .i64 0, .slice none 0 0, .slice none 0 0] 42)).drew from (belx)) d0, cell_bel (show Below wa.heap.size wa (wa.alloc (.cells #[.int .i64 0, .int .i64 0, .int .i64 0, .slice none 0 0, .slice none 0 0] 42)).drew from (belx)) d1, cell_bel (show Below wa.heap.size wa (wa.alloc (.cells #[.int .i64 0, .int .i64 0, .int .i64 0, .slice none 0 0, .slice none 0 0] 42)).drew from (belx)) kc⟩) (fun hHeld => ?_)
            clear hK K
            (try simp only [Act.put, qa_, qb_, qc_])
            refine wpAnyH_ready (rs := [8]) (by kernel_rfl) (by simp) ?_
            refine AllReadyH.cons rfl (fun K hK => ?_) ?_
            · have hX : Below wa.heap.size wa ((wa.alloc (.cells #[.int .i64 0, .int .i64 0, .int .i64 0, .slice none 0 0, .slice none 0 0] 42)).drew) := (belx)
              go_simp
              go_at_call 19
              refine (i_PeelR wfs (tCell.reach hRX hX) (by show X.length ≤ _; have := HXL.out; omega) (tBy.reach h5 hX) (by have := Q5.out; omega)).mono ?_
              rintro e w2 ⟨cs2, F2, rfl, hO2, hN2, hb2⟩
              rw [FT2.out]
              rw [FP2.out] at hO2
              obtain ⟨AL, nL, cL, AC, nC, cC, rfl, -⟩ := openPeeled (tPeeled.read hO2)
              have hx : Below wa.heap.size wa w2 := bel_trans hX hb2
              have Zb : Box w2 wa.heap.size 42 #[.int .i64 0, .int .i64 0, .int .i64 0, .slice none 0 0, .slice none 0 0] := Box.below (show Box ((wa.alloc (.cells #[.int .i64 0, .int .i64 0, .int .i64 0, .slice none 0 0, .slice none 0 0] 42)).drew) wa.heap.size 42 #[.int .i64 0, .int .i64 0, .int .i64 0, .slice none 0 0, .slice none 0 0] from Box.drew (Box.new wa 42 #[.int .i64 0, .int .i64 0, .int .i64 0, .slice none 0 0, .slice none 0 0])) hb2 (by show wa.heap.size < (World.alloc _ _).heap.size; simp)
              have zb0 := Zb.cell 0; have zf0 := Zb.frozen 0
              have zb1 := Zb.cell 1; have zf1 := Zb.frozen 1
              have zb2 := Zb.cell 2; have zf2 := Zb.frozen 2
              have zb3 := Zb.cell 3; have zf3 := Zb.frozen 3
              have zb4 := Zb.cell 4; have zf4 := Zb.frozen 4
              go_wp2_with fail
              refine hK.out _ _ (by exact ⟨cell_bel hx d0, cell_bel hx d1, cell_bel hx kc⟩) (fun hHeld => ?_)
              clear hK K
              (try simp only [Act.put, qa_, qb_, qc_])
              refine wpAnyH_take (i := 9) (oi := ⟨some 113, _, _, _, _, _⟩) (v := ?v85) rfl (by kernel_rfl) (by kernel_rfl) (by kernel_rfl) (fun _ _ _ h => h) (Or.inl ⟨by rfl, ?hy85⟩) (by assumption) ?_
              case hy85 => (intro w hSw; (try dsimp only at hSw); go_simp; try (with_reducible rfl))
              (try simp only [Act.put, qa_, qb_, qc_])
              refine wpAnyH_take (i := 10) (oi := ⟨some 123, _, _, _, _, _⟩) (v := ?v86) rfl (by kernel_rfl) (by kernel_rfl) (by kernel_rfl) (fun _ _ _ h => h) (Or.inl ⟨by rfl, ?hy86⟩) (by assumption) ?_
              case hy86 => (intro w hSw; (try dsimp only at hSw); go_simp; try (with_reducible rfl))
              (try simp only [Act.put, qa_, qb_, qc_])
              refine wpAnyH_take (i := 11) (oi := ⟨some 124, _, _, _, _, _⟩) (v := ?v87) rfl (by kernel_rfl) (by kernel_rfl) (by kernel_rfl) (fun _ _ _ h => h) (Or.inl ⟨by rfl, ?hy87⟩) (by assumption) ?_
              case hy87 => (intro w hSw; (try dsimp only at hSw); go_simp; try (with_reducible rfl))
              (try simp only [Act.put, qa_, qb_, qc_])
              refine wpAnyH_ready (rs := [13]) (by kernel_rfl) (by simp) ?_
              refine AllReadyH.cons rfl (fun K hK => ?_) ?_
              · have hgl : wa.heap.size ≤ wa.heap.size := Nat.le_refl _
                have hgB : wa.heap.size < ((wa.alloc (.cells #[.int .i64 0, .int .i64 0, .int .i64 0, .slice none 0 0, .slice none 0 0] 42)).drew).heap.size := by show wa.heap.size < (World.alloc _ _).heap.size; simp
                have hfin := (bel_put (bel_put (bel_put (bel_put (bel_put hx (p := ⟨wa.heap.size, 0, none⟩) (Nat.le_refl _) (.int .i64 PP.1)) (p := ⟨wa.heap.size, 1, none⟩) (Nat.le_refl _) (.int .i64 PP.2.1)) (p := ⟨wa.heap.size, 2, none⟩) (Nat.le_refl _) (.int .i64 PP.2.2.1)) (p := ⟨wa.heap.size, 3, none⟩) (Nat.le_refl _) (.slice AL nL cL)) (p := ⟨wa.heap.size, 4, none⟩) (Nat.le_refl _) (.slice AC nC cC))
                have Zg := (((((Zb.put 0 (.int .i64 PP.1)).put 1 (.int .i64 PP.2.1)).put 2 (.int .i64 PP.2.2.1)).put 3 (.slice AL nL cL)).put 4 (.slice AC nC cC))
                have hRP : tPeeled.R (((((w2.setCell ⟨wa.heap.size, 0, none⟩ (.int .i64 PP.1)).setCell ⟨wa.heap.size, 1, none⟩ (.int .i64 PP.2.1)).setCell ⟨wa.heap.size, 2, none⟩ (.int .i64 PP.2.2.1)).setCell ⟨wa.heap.size, 3, none⟩ (.slice AL nL cL)).setCell ⟨wa.heap.size, 4, none⟩ (.slice AC nC cC)) (((((w2.setCell ⟨wa.heap.size, 0, none⟩ (.int .i64 PP.1)).setCell ⟨wa.heap.size, 1, none⟩ (.int .i64 PP.2.1)).setCell ⟨wa.heap.size, 2, none⟩ (.int .i64 PP.2.2.1)).setCell ⟨wa.heap.size, 3, none⟩ (.slice AL nL cL)).setCell ⟨wa.heap.size, 4, none⟩ (.slice AC nC cC)).heap.size _ PP := tPeeled.read (Ty.far (t := tPeeled) (Ty.far (t := tPeeled) (Ty.far (t := tPeeled) (Ty.far (t := tPeeled) (Ty.far (t := tPeeled) hO2 hN2 (p := ⟨wa.heap.size, 0, none⟩) hgB (.int .i64 PP.1)) hN2 (p := ⟨wa.heap.size, 1, none⟩) hgB (.int .i64 PP.2.1)) hN2 (p := ⟨wa.heap.size, 2, none⟩) hgB (.int .i64 PP.2.2.1)) hN2 (p := ⟨wa.heap.size, 3, none⟩) hgB (.slice AL nL cL)) hN2 (p := ⟨wa.heap.size, 4, none⟩) hgB (.slice AC nC cC))
                go_simp
                refine hK.out _ _ (by exact ⟨cell_bel hfin d0, cell_bel hfin d1, cell_bel hfin kc⟩) (fun hHeld => ?_)
                clear hK K
                (try simp only [Act.put, qa_, qb_, qc_])
                refine wpAnyH_take (i := 14) (oi := ⟨some 23, _, _, _, _, _⟩) (v := ?v88) rfl (by kernel_rfl) (by kernel_rfl) (by kernel_rfl) (fun _ _ _ h => h) (Or.inl ⟨by rfl, ?hy88⟩) (by assumption) ?_
                case hy88 => (intro w hSw; (try dsimp only at hSw); go_simp; try (with_reducible rfl))
                (try simp only [Act.put, qa_, qb_, qc_])
                refine wpAnyH_done (by kernel_rfl) ?_ _
                go_wp2_with fail
                go_meet
                exact ⟨_, AL, AC, nL, cL, nC, cC, rfl, rfl, by first | exact Zg | simpa using Zg, by first | exact hRP | simpa using hRP, by first | exact hfin | simpa using hfin, hgl⟩
              exact AllReadyH.nil
            exact AllReadyH.nil
          exact AllReadyH.nil
        case rest =>
        obtain ⟨pb, AL2, AC2, nL2, cL2, nC2, cC2, rfl, rfl, Bb, rb, hbb, hpb⟩ := hcut
        have ra := tPeeled.reach ra hbb
        obtain ⟨_, _, _, _, _, _, ea, -, -, -, -, -, -, ral, -, -, -, rac⟩ := openPeeled ra
        obtain ⟨_, _, _, _, _, _, eb, -, -, -, -, -, -, rbl, -, -, -, rbc⟩ := openPeeled rb
        simp only [List.cons.injEq, Value.slice.injEq, true_and, and_true] at ea eb
        obtain ⟨⟨rfl, rfl, rfl⟩, rfl, rfl, rfl⟩ := ea
        obtain ⟨⟨rfl, rfl, rfl⟩, rfl, rfl, rfl⟩ := eb
        have Ba := Ba.below hbb Ba.size
        have a0 := Ba.cell 0; have a2 := Ba.cell 2; have a3 := Ba.cell 3; have a4 := Ba.cell 4
        have b0 := Bb.cell 0; have b2 := Bb.cell 2; have b3 := Bb.cell 3; have b4 := Bb.cell 4
        have hBb := bel_trans hBa hbb
        go_wp2_with fail
        refine (l_same (slR_ints ral).1 (slR_ints rbl).1).mono ?_
        rintro e w' ⟨rfl, rfl⟩
        rw [show decide (PP.2.2.2.1 = PP.2.2.2.1) = true from by simp]
        go_wp2_with fail
        refine (l_same (slR_ints rac).1 (slR_ints rbc).1).mono ?_
        rintro e w' ⟨rfl, rfl⟩
        rw [show decide (PP.2.2.2.2 = PP.2.2.2.2) = true from by simp]
        go_wp2_with fail
        refine (l_onions _).mono ?_
        rintro e w9 ⟨rfl, hb9⟩
        go_wp2_with fail
        go_ret
        exact ⟨rfl, bel_trans hBb hb9⟩
  · have HK := Lib.hid (show (fwrap r (ndP sd) s u ld pd).2 = false by rw [fwrap_f ho])
    have HF := Lib.hid (show (fwrap r (ndP sd) s u ld pd).1 = [] by rw [fwrap_f ho])
    rw [HK.out]
    rw [HF.out] at hR ⊢
    rw [show (([] : List Int).length) = 0 from rfl] at hR ⊢
    go_wp2_with fail
    have hx := bel_alloc (Below.refl w3.heap.size w3) (.cells #[.slice Ac 0 cc] 30)
    refine (s_WrapR (tIs.reach h0 hx) (by have := Q0.out; omega) (tIs.reach hb hx) (by rw [ndP_len]; omega) (tIs.reach h2 hx) (by have := Q2.out; omega) (WalkArith.wf_i64 ⟨by omega, by omega⟩) (tBy.reach h4 hx) (by have := Q4.out; omega) (tBy.reach h5 hx) (by have := Q5.out; omega)).mono ?_
    rintro e w4 ⟨cs', rfl, hR', hb4⟩
    rw [HK.out]
    obtain ⟨Ac', cc', rfl⟩ := sizeR hR'
    rw [HF.out, show (([] : List Int).length) = 0 from rfl]
    have hx4 := bel_trans hx hb4
    have bx := (Box.below (B := (w3.alloc (.cells #[.slice Ac 0 cc] 30)).heap.size) (Box.new w3 30 #[.slice Ac 0 cc]) hb4 (by simp)).alloc (.cells #[.slice Ac' 0 cc'] 30)
    have hx5 : Below w3.heap.size w3 (w4.alloc (.cells #[.slice Ac' 0 cc'] 30)) := bel_alloc hx4 _
    have h5 := tBy.reach h5 hx5
    have ha := tIs.reach ha hx5
    have hR := tCell.reach hR hx5
    have hB5 := bel_trans hB3 hx5
    have k0 := bx.cell 0
    obtain ⟨wx, hwx⟩ : ∃ wx, w4.alloc (.cells #[.slice Ac' 0 cc'] 30) = wx := ⟨_, rfl⟩
    rw [hwx] at h5 ha hR hB5 bx k0
    clear hx hx4 hx5 hR' hb4 hb3 hb2 ho h0 h2 h4 hb
    go_wp2_with fail
    try rw [hwx]
    refine (i_Dummy Ints.nil (Nat.le_refl _) (by omega)).mono ?_
    rintro e w6 ⟨v6, rfl, hO6, hb6⟩
    rw [show (fdum []).2 = false from by decide]
    obtain ⟨A6, c6, rfl, -⟩ := hO6.cap
    have hB6 := bel_trans hB5 hb6
    go_wp2_with fail
    refine (l_onions _).mono ?_
    rintro e w9 ⟨rfl, hb9⟩
    go_wp2_with fail
    go_ret
    exact ⟨rfl, bel_trans (bel_alloc hB6 _) hb9⟩

/-! ### THE ROW's STEP: WRITTEN OUT: LEAVE IT -/
set_option maxRecDepth 100000 in
theorem lifted (os : Os) (started : os.Started) (H : Type) (enc : TypeId × Value → H) :
    ReturnsInHanded {} Try.checked os 5 .any (Rows.fnFillsSpec.pre6 enc Try.prog Try.f5 Rows.fnFillsRow.domain false) (Rows.fnFillsSpec.post enc Try.prog Try.f5 false true false false) := by
  refine returnsInHanded_of_change_sized (C := Try.checked) own started (by kernel_rfl) Try.func5
    (ChangeSpec.witness6 (enc := enc) (C := Try.checked) false ⟨#[], #[.slice none 0 0], []⟩ 8 (by kernel_rfl) (by kernel_rfl) (by kernel_rfl) (by kernel_rfl)) ?_
  intro W base args ds gs before hval0 hW hcnd hsz0 _
  have hval : ∀ (j : Nat) t v, Try.f5.params[j]? = some t → args[j]? = some v → Value.okWide Try.prog W .any base t v := hval0
  have hW' := hW
  obtain ⟨p, q, hA0, hV, rfl, hfz, hnd⟩ := hW
  have hA : DataW.TrodAll enc Try.prog W 0 (fun _ => true) true Try.f5.params.toList args.toList ds p := hA0
  have hsz : (DataW.weightsEach Try.prog (Try.f5.params.toList ++ Rows.fnFillsSpec.plain.varTypes Try.prog) (ds ++ gs)).all (· ≤ reachBytes) = true := hsz0
  rw [Try.params5] at hA hval hsz
  obtain ⟨v0, vs0, d0, ds0, p0, q0, hargs, rfl, rfl, h0, r0⟩ := trodAll_cons hA
  obtain ⟨rfl, rfl, rfl⟩ := trodAll_nil r0
  obtain rfl : args = #[v0] := by cases args; simp_all
  obtain ⟨rfl, rfl⟩ := trodVars_none hV
  obtain ⟨a0, len0, cap0, rfl⟩ := okWide_slice Try.underlying22 (hval 0 22 v0 rfl rfl)
  have k0 := h0
  have lt0 : ∀ x ∈ p0, x.block < W.heap.size := by obtain ⟨m, hm⟩ := k0; exact DataW.trod_lt m _ _ _ hm
  obtain ⟨z0, w0, r0⟩ : ∃ zs, IsRow .u8 W a0 len0 cap0 zs ∧ cap0 ≤ 140737488351232 := by
    obtain ⟨fuel, hf⟩ := h0
    rcases open_ints Try.underlying22 Try.underlying5 (by kernel_rfl) hf with ⟨hcs, _⟩ | ⟨x, l, c, zs, hcs, _, hl, hm, hz, hxx, hcell, hwz⟩
    · simp [Value.cells] at hcs
      obtain ⟨rfl, rfl, rfl⟩ := hcs
      exact ⟨[], .inl ⟨rfl, rfl, rfl, rfl⟩, by omega⟩
    · simp [Value.cells] at hcs
      obtain ⟨rfl, rfl, rfl⟩ := hcs
      have hz' : zs.length = cap0 := by simpa using hz
      refine ⟨zs, .inr ⟨_, rfl, hl, hm, hz', hcell, hwz⟩, ?_⟩
      simp only [Prod.mk.injEq] at hxx
      rw [hxx.1] at hsz
      have h := sized_slice hsz (j := 0) (t := 22) (e := 5) rfl rfl Try.underlying22
      rw [bytes5] at h
      simp only [lits, List.length_map, List.length_take, List.length_drop, reachBytes] at h
      omega
  clear hA0 hval0
  refine (walk a0 len0 cap0 z0 W w0 r0).mono fun e W' ⟨he, bel⟩ => ?_
  subst he
  exact ⟨_, rfl, _, _, _, [], _, [], hW', trodAll_mk1 (shut_bool Try.underlying4 _), (trodAll_cons_mk (Below.trod laidOut (by kernel_rfl) (of_decide_eq_true (by kernel_rfl)) k0 bel lt0) trodAll_mk0), rfl, bel.frame _, fun h => by cases h⟩

theorem over : Rows.fnFillsRow.holds Try.pinned (OpenSpec.ofChange Rows.fnFillsSpec) :=
  OpenClaim.holds_of_wide 5 Try.f5 rfl rfl rfl rfl rfl rfl rfl ⟨rfl, rfl, rfl, rfl, rfl⟩ rfl rfl rfl rfl rfl (by kernel_rfl) Try.func5 (by kernel_rfl)
    (of_decide_eq_true (by kernel_rfl)) (by unfold Func.isWrapper; first | (rw [if_pos (by decide +kernel)]; kernel_rfl) | (rw [if_neg (by decide +kernel)]; exact ⟨rfl, rfl⟩))
    (fun os started H enc _ => lifted os started H enc)

/-- ████ THE STATEMENT ████ -/
theorem proved : Rows.FnFillsSaid := over
#print axioms proved
end Go.Proofs.Ytnfmjgldcnokbaa.fnFills
