/-
  For every draw: a load wrapped for a route is recovered at its end if every node of the route removes a layer, and all cells have the same size. No further condition.
-/
import Derived.Test.YtnfmjgldcnokbaaKGr
import Derived.Test.YtnfmjgldcnokbaaKGv
import Derived.Test.YtnfmjgldcnokbaaKGw
import Derived.Test.YtnfmjgldcnokbaaRows
import Derived.Below
import Derived.ChangeOld
import Derived.OpenShut
import Derived.ProofKit
import Derived.ShutString
import Derived.SizedLaws
import Derived.WalkKit
namespace Go.Proofs.Ytnfmjgldcnokbaa.fnWraps
open Go.ChangeShapes Go.WideShapes Go.ChangeAt Go.RowKit
open Go.ChangeMaps (open_string shut_string)
set_option linter.unusedVariables false

theorem bytes5 : Try.prog.bytesOf 5 = 1 := by kernel_rfl
open Go.Proofs.Ytnfmjgldcnokbaa Fld
theorem own : ownKnob Try.prog.godebug = none := by kernel_rfl
theorem laidOut : laidOutB Try.prog = true := by kernel_rfl

/-- WHAT THE WALK IS TOLD OF A SLICE OF INTEGERS THAT CAME IN: it is nil; or it leads to a row of 'cap' cells, the numbers 'zs' (the first 'len' are its elements, the rest its spare room), each fitting its kind. -/
def IsRow (k : IntKind) (w : World) (a : Option Addr) (len cap : Nat) (zs : List Int) : Prop :=
  (a = none ∧ len = 0 ∧ cap = 0 ∧ zs = []) ∨
  ∃ x, a = some x ∧ len ≤ cap ∧ cap ≤ maxLen ∧ zs.length = cap ∧ (∀ i, i < zs.length → w.cell? (x.add i) = some (.int k (zs.getD i 0))) ∧ ∀ n ∈ zs, (Lit.int k n).wf = true

theorem rowInts {w : World} {a : Option Addr} {n c : Nat} {zs : List Int} (h : IsRow .u8 w a n c zs) : Ints .u8 w w.heap.size a n (zs.take n) ∧ n ≤ c := by
  rcases h with ⟨rfl, rfl, rfl, rfl⟩ | ⟨x, rfl, hl, _, hz, hc, hw⟩
  · exact ⟨Ints.nil, Nat.le_refl _⟩
  · exact ⟨Ints.ofRow (by omega) hc hw, hl⟩
theorem shapeR {K : IntKind} {w : World} {B : Nat} {v : Value} {l : List Int} (h : (tSl K).R w B [v] l) : ∃ A c, v = .slice A l.length c := by
  obtain ⟨A, n, c, e, -, -, hI⟩ := h
  injection e with e _
  subst e
  exact ⟨A, c, by rw [hI.1]⟩
theorem sizeR {w : World} {cs : List Value} {l : List Int} (h : tCell.R w w.heap.size cs l) : ∃ A c, cs = [.slice A l.length c] := by
  obtain ⟨A, n, c, e, -, -, hI⟩ := h
  exact ⟨A, c, by rw [e, hI.1]⟩

/-! ### STEP 1: THE WALK: the Go text returns true, AND WRITES NOTHING THAT WAS THERE: 'Below w.heap.size w w'' (Derived/Below.lean: '.refl', '.alloc', '.drew', '.setCell' at a new block, '.trans'). Open each 'IsRow' by 'rcases' AHEAD of 'go_enter'; part every test ahead of the walk. -/
set_option maxRecDepth 100000 in
set_option maxHeartbeats 2000000 in
theorem walk (a0 : Option Addr) (len0 cap0 : Nat) (z0 : List Int) (w : World) (w0 : IsRow .u8 w a0 len0 cap0 z0) (r0 : cap0 ≤ 140737488351232) :
    Calls Try.prog 3 #[.slice a0 len0 cap0] w fun e w' => e = .returned (.bool true) ∧ Below w.heap.size w w' := by
  obtain ⟨hl, hn⟩ := rowInts w0
  go_enter Try.func3, Try.ntmps3
  go_wp2_with fail
  refine (d_Wrap hl (by omega)).mono ?_
  rintro e w1 ⟨vr, vp, vs, vl, vd, r, s, ld, pd, u, rfl, h0, h2, h4, h5, ⟨q0, q2, q4, q5⟩, ⟨u0, u1⟩, hB1⟩
  obtain ⟨A0, c0, rfl⟩ := shapeR h0
  obtain ⟨A2, c2, rfl⟩ := shapeR h2
  obtain ⟨A4, c4, rfl⟩ := shapeR h4
  obtain ⟨A5, c5, rfl⟩ := shapeR h5
  have hby := (slR_ints h4).1.bytes
  obtain ⟨n0, hn0⟩ : ∃ m, r.length = m := ⟨_, rfl⟩
  obtain ⟨n2, hn2⟩ : ∃ m, s.length = m := ⟨_, rfl⟩
  obtain ⟨n4, hn4⟩ : ∃ m, ld.length = m := ⟨_, rfl⟩
  obtain ⟨n5, hn5⟩ : ∃ m, pd.length = m := ⟨_, rfl⟩
  have N0 := Lib.hid hn0
  have N2 := Lib.hid hn2
  have N4 := Lib.hid hn4
  have N5 := Lib.hid hn5
  have Q0 := Lib.hid q0
  have Q2 := Lib.hid q2
  have Q4 := Lib.hid q4
  have Q5 := Lib.hid q5
  rw [hn0] at h0 q0 ⊢
  rw [hn2] at h2 q2 ⊢
  rw [hn4] at h4 q4 ⊢
  rw [hn5] at h5 q5 ⊢
  clear hn0 hn2 hn4 hn5
  go_wp2_with fail
  refine (l_at 1 (hl.below hB1) (by omega) (by omega)).mono ?_
  rintro e w' ⟨rfl, rfl⟩
  have rsd := atV_rg hl.bytes 1
  obtain ⟨sd, hsd⟩ : ∃ sd, atV (List.take len0 z0) 1 = sd := ⟨_, rfl⟩
  rw [hsd] at rsd ⊢
  clear hsd
  go_wp2_with fail
  refine (l_nodes (by omega) (by omega)).mono ?_
  rintro e w2 ⟨Aa, ca, Ab, cb, rfl, ha, hb, hb2⟩
  have h0 := tIs.reach h0 hb2
  have h2 := tIs.reach h2 hb2
  have h4 := tBy.reach h4 hb2
  have h5 := tBy.reach h5 hb2
  have hB2 := bel_trans hB1 hb2
  go_wp2_with fail
  refine (i_WrapR h0 (by have := Q0.out; omega) hb (by rw [ndP_len]; omega) h2 (by have := Q2.out; omega) (WalkArith.wf_i64 ⟨by omega, by omega⟩) h4 (by have := Q4.out; omega) h5 (by have := Q5.out; omega)).mono ?_
  rintro e w3 ⟨cs, F, rfl, hO, -, hb3⟩
  have h0 := tIs.reach h0 hb3
  have h2 := tIs.reach h2 hb3
  have h4 := tBy.reach h4 hb3
  have h5 := tBy.reach h5 hb3
  have ha := tIs.reach ha hb3
  have hb := tIs.reach hb hb3
  have hB3 := bel_trans hB2 hb3
  have hR := tCell.read hO
  obtain ⟨Ac, cc, rfl⟩ := sizeR hR
  clear hO
  by_cases ho : WrapOk r (ndP sd) s u ld pd
  · have HO := Lib.hid ho
    have HK := Lib.hid (show (fwrap r (ndP sd) s u ld pd).2 = true by rw [fwrap_t ho])
    have HW := Lib.hid (wrapped_len ho)
    rw [HK.out]
    rw [HW.out] at hR ⊢
    go_wp2_with fail
    have hx := bel_alloc (Below.refl w3.heap.size w3) (.cells #[.slice Ac 80 cc] 30)
    refine (s_WrapR (tIs.reach h0 hx) (by have := Q0.out; omega) (tIs.reach hb hx) (by rw [ndP_len]; omega) (tIs.reach h2 hx) (by have := Q2.out; omega) (WalkArith.wf_i64 ⟨by omega, by omega⟩) (tBy.reach h4 hx) (by have := Q4.out; omega) (tBy.reach h5 hx) (by have := Q5.out; omega)).mono ?_
    rintro e w4 ⟨cs', rfl, hR', hb4⟩
    rw [HK.out]
    obtain ⟨Ac', cc', rfl⟩ := sizeR hR'
    rw [HW.out]
    have hx4 := bel_trans hx hb4
    have bx := (Box.below (B := (w3.alloc (.cells #[.slice Ac 80 cc] 30)).heap.size) (Box.new w3 30 #[.slice Ac 80 cc]) hb4 (by simp)).alloc (.cells #[.slice Ac' 80 cc'] 30)
    have hx5 : Below w3.heap.size w3 (w4.alloc (.cells #[.slice Ac' 80 cc'] 30)) := bel_alloc hx4 _
    have z5 : w3.heap.size < w4.heap.size := by have h := hb4.size; simp at h; omega
    have h0 := tIs.reach h0 hx5
    have h2 := tIs.reach h2 hx5
    have h4 := tBy.reach h4 hx5
    have h5 := tBy.reach h5 hx5
    have ha := tIs.reach ha hx5
    have hb := tIs.reach hb hx5
    have hR := tCell.reach hR hx5
    have hB5 := bel_trans hB3 hx5
    obtain ⟨cl, hcl⟩ : ∃ cl, (fwrap r (ndP sd) s u ld pd).1 = cl := ⟨_, rfl⟩
    rw [hcl] at hR
    have HC := Lib.hid hcl
    have HL := Lib.hid (show cl.length = 80 by rw [← hcl]; exact HW.out)
    have k0 := bx.cell 0
    obtain ⟨wx, hwx⟩ : ∃ wx, w4.alloc (.cells #[.slice Ac' 80 cc'] 30) = wx := ⟨_, rfl⟩
    have zx : w3.heap.size < wx.heap.size := by rw [← hwx]; simp; omega
    rw [hwx] at h0 h2 h4 h5 ha hb hR hB5 bx k0
    clear hx hx4 hx5 hR' hb4 hb3 hb2 hcl ho
    have HFo := Lib.hid (show ffol (ndS sd) r cl = (ld, true) by rw [← HC.out]; exact wrapped_fol (nd_pubsOf sd) (ndS_len sd) (ndS_sec rsd) HO.out hby)
    have HF1 := Lib.hid (show (ffol (ndS sd) r cl).1 = ld by rw [HFo.out])
    have HF2 := Lib.hid (show (ffol (ndS sd) r cl).2 = true by rw [HFo.out])
    go_wp2_with fail
    try rw [hwx]
    refine (i_FollowR ha (by rw [ndS_len]; omega) h0 (by have := Q0.out; omega) hR (by show cl.length ≤ _; have := HL.out; omega)).mono ?_
    rintro e w6 ⟨A6, c6, F6, rfl, hO6, -, hb6⟩
    rw [HF1.out] at hO6 ⊢
    rw [HF2.out, N4.out]
    rw [N4.out] at hO6
    have h6 := tBy.read hO6
    have h0 := tIs.reach h0 hb6
    have h4 := tBy.reach h4 hb6
    have hR := tCell.reach hR hb6
    have bx6 := bx.below hb6 bx.size
    have k6 := bx6.cell 0
    have hB6 := bel_trans hB5 hb6
    clear hO6 bx k0
    go_wp2_with fail
    refine (l_same (slR_ints h6).1 (slR_ints h4).1).mono ?_
    rintro e w' ⟨rfl, rfl⟩
    rw [show decide (ld = ld) = true from by simp]
    go_wp2_with fail
    refine (i_CellOk (slR_ints hR).1).mono ?_
    rintro e w7 ⟨rfl, hb7⟩
    rw [show decide (cl.length = 80) = true from decide_eq_true HL.out]
    have h0 := tIs.reach h0 hb7
    have hB7 := bel_trans hB6 hb7
    go_wp2_with fail
    refine (i_RouteOk (slR_ints h0).1 (by omega) (slR_ints h0).2.1 (slR_ints h0).2.2).mono ?_
    rintro e w8 ⟨rfl, hb8⟩
    rw [show decide (Route r) = true from decide_eq_true HO.out.1]
    have hB8 := bel_trans hB7 hb8
    go_wp2_with fail
    refine (i_LayerSize (n0 : Int) (n4 : Int) _).mono ?_
    rintro e w' ⟨rfl, rfl⟩
    have hfs : fsize (n0 : Int) (n4 : Int) ≤ 80 := by
      have h1 := HO.out.1.1; have h2 := HO.out.2.2.2.2.2.1
      rw [N0.out] at h1; rw [N4.out] at h2
      unfold fsize; rw [if_pos (by omega)]; omega
    go_wp2_with fail
    refine (l_onions _).mono ?_
    rintro e w9 ⟨rfl, hb9⟩
    go_wp2_with fail
    go_ret
    exact ⟨rfl, bel_trans hB8 hb9⟩
  · have HK := Lib.hid (show (fwrap r (ndP sd) s u ld pd).2 = false by rw [fwrap_f ho])
    have HF := Lib.hid (show (fwrap r (ndP sd) s u ld pd).1 = [] by rw [fwrap_f ho])
    rw [HK.out]
    rw [HF.out] at hR ⊢
    rw [show (([] : List Int).length) = 0 from rfl] at hR ⊢
    go_wp2_with fail
    have hx := bel_alloc (Below.refl w3.heap.size w3) (.cells #[.slice Ac 0 cc] 30)
    refine (s_WrapR (tIs.reach h0 hx) (by have := Q0.out; omega) (tIs.reach hb hx) (by rw [ndP_len]; omega) (tIs.reach h2 hx) (by have := Q2.out; omega) (WalkArith.wf_i64 ⟨by omega, by omega⟩) (tBy.reach h4 hx) (by have := Q4.out; omega) (tBy.reach h5 hx) (by have := Q5.out; omega)).mono ?_
    rintro e w4 ⟨cs', rfl, hR', hb4⟩
    rw [HK.out]
    obtain ⟨Ac', cc', rfl⟩ := sizeR hR'
    rw [HF.out, show (([] : List Int).length) = 0 from rfl]
    have hx4 := bel_trans hx hb4
    have bx := (Box.below (B := (w3.alloc (.cells #[.slice Ac 0 cc] 30)).heap.size) (Box.new w3 30 #[.slice Ac 0 cc]) hb4 (by simp)).alloc (.cells #[.slice Ac' 0 cc'] 30)
    have hx5 : Below w3.heap.size w3 (w4.alloc (.cells #[.slice Ac' 0 cc'] 30)) := bel_alloc hx4 _
    have h5 := tBy.reach h5 hx5
    have ha := tIs.reach ha hx5
    have hR := tCell.reach hR hx5
    have hB5 := bel_trans hB3 hx5
    have k0 := bx.cell 0
    obtain ⟨wx, hwx⟩ : ∃ wx, w4.alloc (.cells #[.slice Ac' 0 cc'] 30) = wx := ⟨_, rfl⟩
    rw [hwx] at h5 ha hR hB5 bx k0
    clear hx hx4 hx5 hR' hb4 hb3 hb2 ho h0 h2 h4 hb
    go_wp2_with fail
    try rw [hwx]
    refine (l_onions _).mono ?_
    rintro e w9 ⟨rfl, hb9⟩
    go_wp2_with fail
    go_ret
    exact ⟨rfl, bel_trans hB5 hb9⟩

/-! ### THE ROW's STEP: WRITTEN OUT: LEAVE IT -/
set_option maxRecDepth 100000 in
theorem lifted (os : Os) (started : os.Started) (H : Type) (enc : TypeId × Value → H) :
    ReturnsInHanded {} Try.checked os 3 .any (Rows.fnWrapsSpec.pre6 enc Try.prog Try.f3 Rows.fnWrapsRow.domain false) (Rows.fnWrapsSpec.post enc Try.prog Try.f3 false true false false) := by
  refine returnsInHanded_of_change_sized (C := Try.checked) own started (by kernel_rfl) Try.func3
    (ChangeSpec.witness6 (enc := enc) (C := Try.checked) false ⟨#[], #[.slice none 0 0], []⟩ 8 (by kernel_rfl) (by kernel_rfl) (by kernel_rfl) (by kernel_rfl)) ?_
  intro W base args ds gs before hval0 hW hcnd hsz0 _
  have hval : ∀ (j : Nat) t v, Try.f3.params[j]? = some t → args[j]? = some v → Value.okWide Try.prog W .any base t v := hval0
  have hW' := hW
  obtain ⟨p, q, hA0, hV, rfl, hfz, hnd⟩ := hW
  have hA : DataW.TrodAll enc Try.prog W 0 (fun _ => true) true Try.f3.params.toList args.toList ds p := hA0
  have hsz : (DataW.weightsEach Try.prog (Try.f3.params.toList ++ Rows.fnWrapsSpec.plain.varTypes Try.prog) (ds ++ gs)).all (· ≤ reachBytes) = true := hsz0
  rw [Try.params3] at hA hval hsz
  obtain ⟨v0, vs0, d0, ds0, p0, q0, hargs, rfl, rfl, h0, r0⟩ := trodAll_cons hA
  obtain ⟨rfl, rfl, rfl⟩ := trodAll_nil r0
  obtain rfl : args = #[v0] := by cases args; simp_all
  obtain ⟨rfl, rfl⟩ := trodVars_none hV
  obtain ⟨a0, len0, cap0, rfl⟩ := okWide_slice Try.underlying22 (hval 0 22 v0 rfl rfl)
  have k0 := h0
  have lt0 : ∀ x ∈ p0, x.block < W.heap.size := by obtain ⟨m, hm⟩ := k0; exact DataW.trod_lt m _ _ _ hm
  obtain ⟨z0, w0, r0⟩ : ∃ zs, IsRow .u8 W a0 len0 cap0 zs ∧ cap0 ≤ 140737488351232 := by
    obtain ⟨fuel, hf⟩ := h0
    rcases open_ints Try.underlying22 Try.underlying5 (by kernel_rfl) hf with ⟨hcs, _⟩ | ⟨x, l, c, zs, hcs, _, hl, hm, hz, hxx, hcell, hwz⟩
    · simp [Value.cells] at hcs
      obtain ⟨rfl, rfl, rfl⟩ := hcs
      exact ⟨[], .inl ⟨rfl, rfl, rfl, rfl⟩, by omega⟩
    · simp [Value.cells] at hcs
      obtain ⟨rfl, rfl, rfl⟩ := hcs
      have hz' : zs.length = cap0 := by simpa using hz
      refine ⟨zs, .inr ⟨_, rfl, hl, hm, hz', hcell, hwz⟩, ?_⟩
      simp only [Prod.mk.injEq] at hxx
      rw [hxx.1] at hsz
      have h := sized_slice hsz (j := 0) (t := 22) (e := 5) rfl rfl Try.underlying22
      rw [bytes5] at h
      simp only [lits, List.length_map, List.length_take, List.length_drop, reachBytes] at h
      omega
  clear hA0 hval0
  refine (walk a0 len0 cap0 z0 W w0 r0).mono fun e W' ⟨he, bel⟩ => ?_
  subst he
  exact ⟨_, rfl, _, _, _, [], _, [], hW', trodAll_mk1 (shut_bool Try.underlying4 _), (trodAll_cons_mk (Below.trod laidOut (by kernel_rfl) (of_decide_eq_true (by kernel_rfl)) k0 bel lt0) trodAll_mk0), rfl, bel.frame _, fun h => by cases h⟩

theorem over : Rows.fnWrapsRow.holds Try.pinned (OpenSpec.ofChange Rows.fnWrapsSpec) :=
  OpenClaim.holds_of_wide 3 Try.f3 rfl rfl rfl rfl rfl rfl rfl ⟨rfl, rfl, rfl, rfl, rfl⟩ rfl rfl rfl rfl rfl (by kernel_rfl) Try.func3 (by kernel_rfl)
    (of_decide_eq_true (by kernel_rfl)) (by unfold Func.isWrapper; first | (rw [if_pos (by decide +kernel)]; kernel_rfl) | (rw [if_neg (by decide +kernel)]; exact ⟨rfl, rfl⟩))
    (fun os started H enc _ => lifted os started H enc)

/-- ████ THE STATEMENT ████ -/
theorem proved : Rows.FnWrapsSaid := over
#print axioms proved
end Go.Proofs.Ytnfmjgldcnokbaa.fnWraps
