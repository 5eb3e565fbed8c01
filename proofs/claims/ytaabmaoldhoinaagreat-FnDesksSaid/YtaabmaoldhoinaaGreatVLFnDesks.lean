/-
  For every draw: a desk has what it has taken, names exactly its open messages in order, and lacks in all what each of them lacks. No further condition.
-/
import Derived.Test.YtaabmaoldhoinaaGreatCloFnDesks
import Derived.Test.YtaabmaoldhoinaaGreatRows
import Derived.Test.YtaabmaoldhoinaaGreatVGb
import Derived.Test.YtaabmaoldhoinaaGreatVGi
import Derived.Test.YtaabmaoldhoinaaGreatVGm
import Derived.Test.YtaabmaoldhoinaaGreatVMDkL
import Derived.Test.YtaabmaoldhoinaaGreatVMDrawDt
import Derived.Test.YtaabmaoldhoinaaGreatVMPDesk4
import Derived.Test.YtaabmaoldhoinaaGreatVMPFor
import Derived.Test.YtaabmaoldhoinaaGreatVMPHasI
import Derived.Test.YtaabmaoldhoinaaGreatVMTpL
import Derived.Below
import Derived.ChangeOld
import Derived.Deep.Cut
import Derived.Deep.CutRange
import Derived.Deep.DeepCutAuto
import Derived.OpenShut
import Derived.ProofKit
import Derived.ShutString
import Derived.SizedLaws
import Derived.WalkKit
namespace Go.Proofs.YtaabmaoldhoinaaGreat.fnDesks
open Go.ChangeShapes Go.WideShapes Go.ChangeAt Go.RowKit
open Go.ChangeMaps (open_string shut_string)
set_option linter.unusedVariables false

theorem bytes5 : Tryz.prog.bytesOf 5 = 1 := by kernel_rfl
open Go.Proofs.YtaabmaoldhoinaaGreat Fld
theorem own : ownKnob Tryz.prog.godebug = none := by kernel_rfl
theorem laidOut : laidOutB Tryz.prog = true := by kernel_rfl

/-- WHAT THE WALK IS TOLD OF A SLICE OF INTEGERS THAT CAME IN: it is nil; or it leads to a row of 'cap' cells, the numbers 'zs' (the first 'len' are its elements, the rest its spare room), each fitting its kind. -/
def IsRow (k : IntKind) (w : World) (a : Option Addr) (len cap : Nat) (zs : List Int) : Prop :=
  (a = none ∧ len = 0 ∧ cap = 0 ∧ zs = []) ∨
  ∃ x, a = some x ∧ len ≤ cap ∧ cap ≤ maxLen ∧ zs.length = cap ∧ (∀ i, i < zs.length → w.cell? (x.add i) = some (.int k (zs.getD i 0))) ∧ ∀ n ∈ zs, (Lit.int k n).wf = true

theorem rowInts {w : World} {a : Option Addr} {n c : Nat} {zs : List Int} (h : IsRow .u8 w a n c zs) : Ints .u8 w w.heap.size a n (zs.take n) ∧ n ≤ c := by
  rcases h with ⟨rfl, rfl, rfl, rfl⟩ | ⟨x, rfl, hl, _, hz, hc, hw⟩
  · exact ⟨Ints.nil, Nat.le_refl _⟩
  · exact ⟨Ints.ofRow (by omega) hc hw, hl⟩

/-! ### STEP 1: THE WALK: the Go text returns true, AND WRITES NOTHING THAT WAS THERE: 'Below w.heap.size w w'' (Derived/Below.lean: '.refl', '.alloc', '.drew', '.setCell' at a new block, '.trans'). Open each 'IsRow' by 'rcases' AHEAD of 'go_enter'; part every test ahead of the walk. -/
set_option maxRecDepth 100000 in
set_option maxHeartbeats 2000000 in
theorem walk (a0 : Option Addr) (len0 cap0 : Nat) (z0 : List Int) (w : World) (w0 : IsRow .u8 w a0 len0 cap0 z0) (r0 : cap0 ≤ 140737488351232) :
    Calls Tryz.prog 5 #[.slice a0 len0 cap0] w fun e w' => e = .returned (.bool true) ∧ Below w.heap.size w w' := by
  obtain ⟨hl, hn⟩ := rowInts w0
  go_enter Tryz.func5, Tryz.ntmps5
  go_wp2_with fail
  refine (d_TakePiece hl (by omega)).mono ?_
  rintro e w1 ⟨v0, v1, p, ch, q, x, rfl, hP, hS, hQ, hQl, hx, hB1⟩
  obtain ⟨A0, n0, c0, A1, n1, c1, e7, -, -, hn0, -, -, -, hn1, -⟩ := openDesk hP
  simp only [List.cons.injEq, and_true] at e7
  obtain ⟨rfl, rfl⟩ := e7
  obtain ⟨A3, n3, c3, rfl, -, -, -, -, -, hl3, -⟩ := openPiece hQ
  obtain ⟨y0, y1, y2, qd⟩ := q
  obtain ⟨l0, l1, l2, l3⟩ := hQl
  dsimp only at l0 l1 l2 l3 hl3 ⊢
  obtain ⟨s0, s1, s2⟩ := hS
  have hzD : szDesk p ≤ 1048576 := by omega
  have hzQ : szPiece (y0, y1, y2, qd) ≤ 1048576 := by show qd.length ≤ _; omega
  have hwx : (Lit.int .i64 x).wf = true := WalkArith.wf_i64 ⟨by omega, by omega⟩
  have hwy : (Lit.int .i64 y0).wf = true := WalkArith.wf_i64 ⟨by omega, by omega⟩
  have V1 : Box ((w1.alloc (.cells #[.slice A0 n0 c0, .slice A1 n1 c1] 33)).alloc (.cells #[.int .i64 y0, .int .i64 y1, .int .i64 y2, .slice A3 n3 c3] 37)) w1.heap.size 33 #[.slice A0 n0 c0, .slice A1 n1 c1] := (Box.new _ _ _).alloc _
  have V2 : Box ((w1.alloc (.cells #[.slice A0 n0 c0, .slice A1 n1 c1] 33)).alloc (.cells #[.int .i64 y0, .int .i64 y1, .int .i64 y2, .slice A3 n3 c3] 37)) (w1.heap.size + 1) 37 #[.int .i64 y0, .int .i64 y1, .int .i64 y2, .slice A3 n3 c3] := by simpa using Box.new (w1.alloc (.cells #[.slice A0 n0 c0, .slice A1 n1 c1] 33)) 37 #[.int .i64 y0, .int .i64 y1, .int .i64 y2, .slice A3 n3 c3]
  have hx1 : Below w1.heap.size w1 ((w1.alloc (.cells #[.slice A0 n0 c0, .slice A1 n1 c1] 33)).alloc (.cells #[.int .i64 y0, .int .i64 y1, .int .i64 y2, .slice A3 n3 c3] 37)) := (belx)
  have hP := tDesk.reach hP hx1
  have hQ := tPiece.reach hQ hx1
  have hB2 := bel_trans hB1 hx1
  go_wp2_with fail
  refine (i_TakePiece hP hzD hQ hzQ hwx).mono ?_
  rintro e w2 ⟨cs2, F1, A4, c4, F2, rfl, hO2, hb2, -, hbe⟩
  have hX := tDesk.read hO2
  have hbR := tBy.read hb2
  have hQ := tPiece.reach hQ hbe
  have V1 := V1.below hbe V1.size
  have V2 := V2.below hbe V2.size
  have hB3 := bel_trans hB2 hbe
  obtain ⟨D0, d0, -, D1, d1, -, rfl, -⟩ := openODesk hO2
  have z2 : w1.heap.size + 2 ≤ w2.heap.size := by have h : (World.alloc (World.alloc w1 _) _).heap.size ≤ w2.heap.size := hbe.size; simpa using h
  have HN1 := Lib.hid hn1
  clear hO2 hb2 hx1 hbe
  by_cases hin : TkIn p (y0, y1, y2, qd) x
  rotate_left
  · have e1 : (fTp p (y0, y1, y2, qd) x).1 = dkZ := by rw [fTp_f hin]
    have e2 : (fTp p (y0, y1, y2, qd) x).2.1 = [] := by rw [fTp_f hin]
    have e3 : (fTp p (y0, y1, y2, qd) x).2.2 = -3 := by rw [fTp_f hin]
    rw [e1, e2, e3, show dkZ.1.length = 0 from rfl, show dkZ.2.length = 0 from rfl, show ([] : List Int).length = 0 from rfl]
    clear e1 e2 e3 hin hX hbR
    go_wp2_with fail
    refine (l_desks _).mono ?_
    rintro e w9 ⟨rfl, hb9⟩
    go_wp2_with fail
    go_ret
    exact ⟨rfl, bel_trans (bel_alloc hB3 _) hb9⟩
  · have hfa := tk_facts hin
    obtain ⟨p', bb, cc, hr⟩ : ∃ p' bb cc, fTp p (y0, y1, y2, qd) x = (p', bb, cc) := ⟨_, _, _, rfl⟩
    have e1 : (fTp p (y0, y1, y2, qd) x).1 = p' := by rw [hr]
    have e2 : (fTp p (y0, y1, y2, qd) x).2.1 = bb := by rw [hr]
    have e3 : (fTp p (y0, y1, y2, qd) x).2.2 = cc := by rw [hr]
    rw [hr] at hfa
    rw [e1] at hX ⊢
    rw [e2] at hbR ⊢
    rw [e3]
    clear e1 e2 e3 hr
    obtain ⟨m0, hm0⟩ : ∃ m, p'.1.length = m := ⟨_, rfl⟩
    obtain ⟨m1, hm1⟩ : ∃ m, p'.2.length = m := ⟨_, rfl⟩
    obtain ⟨nb, hnb⟩ : ∃ m, bb.length = m := ⟨_, rfl⟩
    have M0 := Lib.hid hm0
    have M1 := Lib.hid hm1
    have NB := Lib.hid hnb
    rw [hm0, hm1] at hX ⊢
    rw [hnb] at hbR ⊢
    clear hm0 hm1 hnb
    obtain ⟨hok, hc⟩ := hfa
    dsimp only at hok hc
    have HIN := Lib.hid hin
    have HC := Lib.hid hc
    have HDK := Lib.hid (decide_eq_true hok)
    have HOK := Lib.hid hok
    have hlim := dkOk_lim hok
    have hzX : szDesk p' ≤ 1048576 := by omega
    have q0 : m0 ≤ 6 := by have := M0.out; omega
    have q1 : m1 ≤ 256 := by have := M1.out; omega
    have g3 : (cc == -3) = false := by
      rcases hc with ⟨-, -, h | h⟩ | ⟨h, -⟩ | ⟨h, -⟩ <;> rw [h] <;> rfl
    obtain ⟨w3, hw3⟩ : ∃ w3, w2.alloc (.cells #[.slice D0 m0 d0, .slice D1 m1 d1] 33) = w3 := ⟨_, rfl⟩
    have hb3 : Below w2.heap.size w2 w3 := by rw [← hw3]; exact bel_alloc (Below.refl _ _) _
    have X1 : Box w3 w2.heap.size 33 #[.slice D0 m0 d0, .slice D1 m1 d1] := by rw [← hw3]; exact Box.new _ _ _
    have V1 := V1.below hb3 V1.size
    have V2 := V2.below hb3 V2.size
    have hX := tDesk.reach hX hb3
    have hQ := tPiece.reach hQ hb3
    have hB4 := bel_trans hB3 hb3
    obtain ⟨xb, hxb⟩ : ∃ xb, w2.heap.size = xb := ⟨_, rfl⟩
    have hxb1 : w1.heap.size + 2 ≤ xb := by omega
    have hlw := reach hl hB4
    clear hc hlim hbR hB3 V1
    rw [hxb] at X1
    have k0 := V2.cell 0; have k1 := V2.cell 1; have k2 := V2.cell 2; have k3 := V2.cell 3; have x0 := X1.cell 0; have x1 := X1.cell 1
    go_upto_region 5 with fail
    clear hb3 hw3 hxb
    go_cut [62] (fun t62 wc => t62 = .bool false ∧ Below w3.heap.size w3 wc)
    case first =>
      rcases HC.out with ⟨-, -, rfl | rfl⟩ | ⟨rfl, -, -, -, hin1, hno⟩ | ⟨rfl, -, -, -, -, -, hnd, hex⟩
      · go_wp2_with fail
        go_meet
        exact ⟨rfl, (belx)⟩
      · go_wp2_with fail
        go_meet
        exact ⟨rfl, (belx)⟩
      · have HD1 := Lib.hid (show fDone p' y0 = true by rw [fDone_t HOK.out]; exact decide_eq_true hin1)
        have HH := Lib.hid (show fHas p' (y0, y1, y2, qd) = false from fHas_f (fun ⟨_, _, a, ha, hq⟩ => hno a ha (dk_pc HOK.out ha hq).2.symm))
        clear hin1 hno
        go_wp2_with fail
        refine (i_IsDone hX hzX hwy).mono ?_
        rintro e w4 ⟨rfl, hb4⟩
        rw [HD1.out]
        have V2 := V2.below hb4 V2.size
        have X1 := X1.below hb4 X1.size
        have k0 := V2.cell 0; have k1 := V2.cell 1; have k2 := V2.cell 2; have k3 := V2.cell 3; have x0 := X1.cell 0; have x1 := X1.cell 1
        go_wp2_with fail
        refine (i_Has (tDesk.reach hX hb4) hzX (tPiece.reach hQ hb4) hzQ).mono ?_
        rintro e w6 ⟨rfl, hb6⟩
        rw [HH.out]
        go_wp2_with fail
        go_meet
        exact ⟨rfl, bel_trans hb4 hb6⟩
      · have HD1 := Lib.hid (show fDone p' y0 = false by rw [fDone_t HOK.out]; exact decide_eq_false hnd)
        have HH := Lib.hid (show fHas p' (y0, y1, y2, qd) = true from fHas_t ⟨HOK.out, HIN.out.2.1, by obtain ⟨a, ha, -, hq⟩ := hex; exact ⟨a, ha, hq⟩⟩)
        clear hnd hex
        go_wp2_with fail
        refine (i_Has hX hzX hQ hzQ).mono ?_
        rintro e w4 ⟨rfl, hb4⟩
        rw [HH.out]
        have V2 := V2.below hb4 V2.size
        have X1 := X1.below hb4 X1.size
        have k0 := V2.cell 0; have k1 := V2.cell 1; have k2 := V2.cell 2; have k3 := V2.cell 3; have x0 := X1.cell 0; have x1 := X1.cell 1
        go_wp2_with fail
        refine (i_IsDone (tDesk.reach hX hb4) hzX hwy).mono ?_
        rintro e w6 ⟨rfl, hb6⟩
        rw [HD1.out]
        go_wp2_with fail
        go_meet
        exact ⟨rfl, bel_trans hb4 hb6⟩
    case rest =>
    obtain ⟨rfl, hb4⟩ := hcut
    rename World => w4
    have X1 := X1.below hb4 X1.size
    have hX := tDesk.reach hX hb4
    have hlw := reach hlw hb4
    have hB5 := bel_trans hB4 hb4
    clear hb4 V2 hQ k0 k1 k2 k3 x0 x1
    have x0 := X1.cell 0
    have x1 := X1.cell 1
    go_wp2_with fail
    refine (i_OpenIds hX hzX).mono ?_
    rintro e w5 ⟨Al, cl, Fl, rfl, hOl, -, hb5⟩
    have hIl := (slR_ints (tIs.read hOl)).1
    have X1 := X1.below hb5 X1.size
    have hX := tDesk.reach hX hb5
    have hlw := reach hlw hb5
    have hB6 := bel_trans hB5 hb5
    have HFO := Lib.hid (fOpen_t HOK.out)
    have hlen : (fOpen p').length = m0 := by rw [HFO.out, List.length_map]; exact M0.out
    rw [hlen] at hIl ⊢
    rw [HFO.out] at hIl
    have hlk := lackL_rg (l := p'.1) (fun a ha => (HOK.out.2.2.2.2 a ha).1)
    clear hOl hlen hb5 x0 x1
    go_wp2_with fail
    go_loopw [10, 11] (fun nv iv wr => ∃ i : Nat, i ≤ m0 ∧ iv = .int .i64 i ∧ nv = .int .i64 (lackL (p'.1.take i)) ∧ Below w5.heap.size w5 wr) (fun _ iv _ => m0 - (valI4 iv).toNat)
    case atStart => exact ⟨0, by omega, rfl, rfl, Below.refl _ _⟩
    case round =>
      obtain ⟨i, hi, rfl, rfl, hbr⟩ := hrel
      have X1 := X1.below hbr X1.size
      have hX := tDesk.reach hX hbr
      have hIl := hIl.below hbr
      have x0 := X1.cell 0
      have x1 := X1.cell 1
      by_cases hlt : i < m0
      · obtain ⟨a, hia⟩ : ∃ a, p'.1[i]? = some a := ⟨_, List.getElem?_eq_getElem (by rw [M0.out]; exact hlt)⟩
        have ham : a ∈ p'.1 := List.mem_of_getElem? hia
        obtain ⟨lb, lo, rfl, -, hli, hwl⟩ := hIl.at_ hlt
        have hgl : ∀ j b, p'.1[j]? = some b → (p'.1.map fun a => a.1).getD j 0 = b.1 := fun j b h => by rw [List.getD_eq_getElem?_getD, List.getElem?_map, h]; rfl
        rw [hgl i a hia] at hli hwl
        have HSN := Lib.hid (lackL_sn hia)
        have HDF := Lib.hid (show fDone p' a.1 = false by rw [fDone_t HOK.out]; exact decide_eq_false (HOK.out.2.2.2.2 a ham).2)
        have hfl := fMis_len HOK.out ham
        obtain ⟨nm, hnm⟩ : ∃ m, (fMis p' a.1).length = m := ⟨_, rfl⟩
        rw [hnm] at hfl
        have HFL := Lib.hid hnm
        have hpre := lackL_rg (l := p'.1.take i) (fun a ha => (HOK.out.2.2.2.2 a (List.mem_of_mem_take ha)).1)
        have hpl : (p'.1.take i).length = i := by rw [List.length_take, M0.out]; omega
        rw [hpl] at hpre
        have hkk := wh_rg (HOK.out.2.2.2.2 a ham).1
        have hnm8 : nm ≤ 48 := by have := fMis_le p' a.1; omega
        obtain ⟨LP, hLP⟩ : ∃ x, lackL (p'.1.take i) = x := ⟨_, rfl⟩
        rw [hLP] at hpre HSN ⊢
        rw [← hfl] at HSN
        have hwn : IntKind.i64.wrap (LP + (nm : Int)) = LP + (nm : Int) := IntWalk.i64_in _ (by omega)
        obtain ⟨li, hlie⟩ : ∃ li, a.1 = li := ⟨_, rfl⟩
        have HLI := Lib.hid hlie
        rw [hlie] at hli hwl HDF HFL
        have hi0 : (0 : Int) ≤ (i : Int) := by omega
        have hin2 : (i : Int) < (m0 : Int) := by omega
        have hdl : decide ((i : Int) < (m0 : Int)) = true := decide_eq_true hin2
        go_upto_region 12 with fail
        go_cut [92] (fun t92 wc => t92 = .bool false ∧ Below wr.heap.size wr wc)
        case first =>
          by_cases hi1 : 0 < i
          · have hd0 : decide ((0 : Int) < (i : Int)) = true := decide_eq_true (by omega)
            have hd0n : decide (0 < i) = true := decide_eq_true hi1
            obtain ⟨lb2, lo2, e2, -, hlp, -⟩ := hIl.at_ (i := i - 1) (by omega)
            injection e2 with e2
            injection e2 with e2 e3
            subst e2 e3
            obtain ⟨a2, hia2⟩ : ∃ a2, p'.1[i - 1]? = some a2 := ⟨_, List.getElem?_eq_getElem (by rw [M0.out]; omega)⟩
            rw [hgl (i - 1) a2 hia2] at hlp
            obtain ⟨lp, hlpe⟩ : ∃ lp, a2.1 = lp := ⟨_, rfl⟩
            rw [hlpe] at hlp
            have hasc : lp < li := by
              have h := HOK.out.2.2.2.1 (i - 1) (by rw [List.length_map, M0.out]; omega)
              rw [show i - 1 + 1 = i by omega, hgl (i - 1) a2 hia2, hgl i a hia, hlpe, HLI.out] at h
              exact h
            have hge : decide (li ≤ lp) = false := decide_eq_false (by omega)
            have hw1 : IntKind.i64.wrap ((i : Int) - 1) = ((i - 1 : Nat) : Int) := by
              rw [show (i : Int) - 1 = ((i - 1 : Nat) : Int) by omega]; exact IntWalk.i64_in _ (by omega)
            have hp0 : (0 : Int) ≤ ((i - 1 : Nat) : Int) := by omega
            have hp1 : ((i - 1 : Nat) : Int) < (m0 : Int) := by omega
            have hp2 : i - 1 < m0 := by omega
            clear hia hia2 ham hgl hnm hfl hkk hpl hLP hlie hlpe
            go_wp2_with fail
            refine wp_region_held_drew (S := (fun w' => w'.cell? ⟨xb, 0, none⟩ = some (.slice D0 m0 d0) ∧ w'.cell? ⟨xb, 1, none⟩ = some (.slice D1 m1 d1) ∧ w'.cell? ⟨lb, lo + i, none⟩ = some (.int .i64 li) ∧ w'.cell? ⟨lb, lo + (i - 1), none⟩ = some (.int .i64 lp))) (by kernel_rfl) (by exact ⟨x0, x1, hli, hlp⟩) (fun hHeld => ?_)
            refine wpAnyH_take (i := 0) (oi := ⟨some 71, _, _, _, _, _⟩) (v := ?v70) rfl (by kernel_rfl) (by kernel_rfl) (by kernel_rfl) (fun _ _ _ h => h) (Or.inl ⟨by rfl, ?hy70⟩) (by assumption) ?_
            case hy70 => (intro w hSw; (try dsimp only at hSw); go_simp; try (with_reducible rfl))
            (try simp only [Act.put, qa_, qb_, qc_])
            refine wpAnyH_take (i := 1) (oi := ⟨some 72, _, _, _, _, _⟩) (v := ?v71) rfl (by kernel_rfl) (by kernel_rfl) (by kernel_rfl) (fun _ _ _ h => h) (Or.inl ⟨by rfl, ?hy71⟩) (by assumption) ?_
            case hy71 => (intro w hSw; (try dsimp only at hSw); go_simp; try (with_reducible rfl))
            (try simp only [Act.put, qa_, qb_, qc_])
            refine wpAnyH_take (i := 2) (oi := ⟨some 73, _, _, _, _, _⟩) (v := ?v72) rfl (by kernel_rfl) (by kernel_rfl) (by kernel_rfl) (fun _ _ _ h => h) (Or.inl ⟨by rfl, ?hy72⟩) (by assumption) ?_
            case hy72 => (intro w hSw; (try dsimp only at hSw); go_simp; try (with_reducible rfl))
            (try simp only [Act.put, qa_, qb_, qc_])
            refine wpAnyH_take (i := 3) (oi := ⟨some 74, _, _, _, _, _⟩) (v := ?v73) rfl (by kernel_rfl) (by kernel_rfl) (by kernel_rfl) (fun _ _ _ h => h) (Or.inl ⟨by rfl, ?hy73⟩) (by assumption) ?_
            case hy73 => (intro w hSw; (try dsimp only at hSw); go_simp; try (with_reducible rfl))
            (try simp only [Act.put, qa_, qb_, qc_])
            refine wpAnyH_take (i := 4) (oi := ⟨some 75, _, _, _, _, _⟩) (v := ?v74) rfl (by kernel_rfl) (by kernel_rfl) (by kernel_rfl) (fun _ _ _ h => h) (Or.inl ⟨by rfl, ?hy74⟩) (by assumption) ?_
            case hy74 => (intro w hSw; (try dsimp only at hSw); go_simp; try (with_reducible rfl))
            (try simp only [Act.put, qa_, qb_, qc_])
            refine wpAnyH_take (i := 5) (oi := ⟨some 76, _, _, _, _, _⟩) (v := ?v75) rfl (by kernel_rfl) (by kernel_rfl) (by kernel_rfl) (fun _ _ _ h => h) (Or.inl ⟨by rfl, ?hy75⟩) (by assumption) ?_
            case hy75 => (intro w hSw; (try dsimp only at hSw); go_simp; try (with_reducible rfl))
            (try simp only [Act.put, qa_, qb_, qc_])
            refine wpAnyH_take (i := 6) (oi := ⟨some 77, _, _, _, _, _⟩) (v := ?v76) rfl (by kernel_rfl) (by kernel_rfl) (by kernel_rfl) (fun _ _ _ h => h) (Or.inl ⟨by rfl, ?hy76⟩) (by assumption) ?_
            case hy76 => (intro w hSw; (try dsimp only at hSw); go_simp; try (with_reducible rfl))
            (try simp only [Act.put, qa_, qb_, qc_])
            refine wpAnyH_take (i := 7) (oi := ⟨some 78, _, _, _, _, _⟩) (v := ?v77) rfl (by kernel_rfl) (by kernel_rfl) (by kernel_rfl) (fun _ _ _ h => h) (Or.inl ⟨by rfl, ?hy77⟩) (by assumption) ?_
            case hy77 => (intro w hSw; (try dsimp only at hSw); go_simp; try (with_reducible rfl))
            (try simp only [Act.put, qa_, qb_, qc_])
            refine wpAnyH_take (i := 8) (oi := ⟨some 79, _, _, _, _, _⟩) (v := ?v78) rfl (by kernel_rfl) (by kernel_rfl) (by kernel_rfl) (fun _ _ _ h => h) (Or.inl ⟨by rfl, ?hy78⟩) (by assumption) ?_
            case hy78 => (intro w hSw; (try dsimp only at hSw); go_simp; try (with_reducible rfl))
            (try simp only [Act.put, qa_, qb_, qc_])
            refine wpAnyH_take (i := 9) (oi := ⟨some 80, _, _, _, _, _⟩) (v := ?v79) rfl (by kernel_rfl) (by kernel_rfl) (by kernel_rfl) (fun _ _ _ h => h) (Or.inl ⟨by rfl, ?hy79⟩) (by assumption) ?_
            case hy79 => (intro w hSw; (try dsimp only at hSw); go_simp; try (with_reducible rfl))
            (try simp only [Act.put, qa_, qb_, qc_])
            refine wpAnyH_take (i := 10) (oi := ⟨some 81, _, _, _, _, _⟩) (v := ?v80) rfl (by kernel_rfl) (by kernel_rfl) (by kernel_rfl) (fun _ _ _ h => h) (Or.inl ⟨by rfl, ?hy80⟩) (by assumption) ?_
            case hy80 => (intro w hSw; (try dsimp only at hSw); go_simp; try (with_reducible rfl))
            (try simp only [Act.put, qa_, qb_, qc_])
            refine wpAnyH_take (i := 11) (oi := ⟨some 82, _, _, _, _, _⟩) (v := ?v81) rfl (by kernel_rfl) (by kernel_rfl) (by kernel_rfl) (fun _ _ _ h => h) (Or.inl ⟨by rfl, ?hy81⟩) (by assumption) ?_
            case hy81 => (intro w hSw; (try dsimp only at hSw); go_simp; try (with_reducible rfl))
            (try simp only [Act.put, qa_, qb_, qc_])
            refine wpAnyH_take (i := 12) (oi := ⟨some 83, _, _, _, _, _⟩) (v := ?v82) rfl (by kernel_rfl) (by kernel_rfl) (by kernel_rfl) (fun _ _ _ h => h) (Or.inl ⟨by rfl, ?hy82⟩) (by assumption) ?_
            case hy82 => (intro w hSw; (try dsimp only at hSw); go_simp; try (with_reducible rfl))
            (try simp only [Act.put, qa_, qb_, qc_])
            refine wpAnyH_take (i := 13) (oi := ⟨some 84, _, _, _, _, _⟩) (v := ?v83) rfl (by kernel_rfl) (by kernel_rfl) (by kernel_rfl) (fun _ _ _ h => h) (Or.inl ⟨by rfl, ?hy83⟩) (by assumption) ?_
            case hy83 => (intro w hSw; (try dsimp only at hSw); go_simp; try (with_reducible rfl))
            (try simp only [Act.put, qa_, qb_, qc_])
            refine wpAnyH_take (i := 14) (oi := ⟨some 85, _, _, _, _, _⟩) (v := ?v84) rfl (by kernel_rfl) (by kernel_rfl) (by kernel_rfl) (fun _ _ _ h => h) (Or.inl ⟨by rfl, ?hy84⟩) (by assumption) ?_
            case hy84 => (intro w hSw; (try dsimp only at hSw); go_simp; try (with_reducible rfl))
            (try simp only [Act.put, qa_, qb_, qc_])
            refine wpAnyH_take (i := 15) (oi := ⟨some 86, _, _, _, _, _⟩) (v := ?v85) rfl (by kernel_rfl) (by kernel_rfl) (by kernel_rfl) (fun _ _ _ h => h) (Or.inl ⟨by rfl, ?hy85⟩) (by assumption) ?_
            case hy85 => (intro w hSw; (try dsimp only at hSw); go_simp; try (with_reducible rfl))
            (try simp only [Act.put, qa_, qb_, qc_])
            refine wpAnyH_take (i := 16) (oi := ⟨some 87, _, _, _, _, _⟩) (v := ?v86) rfl (by kernel_rfl) (by kernel_rfl) (by kernel_rfl) (fun _ _ _ h => h) (Or.inl ⟨by rfl, ?hy86⟩) (by assumption) ?_
            case hy86 => (intro w hSw; (try dsimp only at hSw); go_simp; try (with_reducible rfl))
            (try simp only [Act.put, qa_, qb_, qc_])
            refine wpAnyH_take (i := 17) (oi := ⟨some 88, _, _, _, _, _⟩) (v := ?v87) rfl (by kernel_rfl) (by kernel_rfl) (by kernel_rfl) (fun _ _ _ h => h) (Or.inl ⟨by rfl, ?hy87⟩) (by assumption) ?_
            case hy87 => (intro w hSw; (try dsimp only at hSw); go_simp; try (with_reducible rfl))
            (try simp only [Act.put, qa_, qb_, qc_])
            refine wpAnyH_take (i := 18) (oi := ⟨some 89, _, _, _, _, _⟩) (v := ?v88) rfl (by kernel_rfl) (by kernel_rfl) (by kernel_rfl) (fun _ _ _ h => h) (Or.inl ⟨by rfl, ?hy88⟩) (by assumption) ?_
            case hy88 => (intro w hSw; (try dsimp only at hSw); go_simp; try (with_reducible rfl))
            (try simp only [Act.put, qa_, qb_, qc_])
            refine wpAnyH_take (i := 19) (oi := ⟨some 90, _, _, _, _, _⟩) (v := ?v89) rfl (by kernel_rfl) (by kernel_rfl) (by kernel_rfl) (fun _ _ _ h => h) (Or.inl ⟨by rfl, ?hy89⟩) (by assumption) ?_
            case hy89 => (intro w hSw; (try dsimp only at hSw); go_simp; try (with_reducible rfl))
            (try simp only [Act.put, qa_, qb_, qc_])
            refine wpAnyH_ready (rs := [20]) (by kernel_rfl) (by simp) ?_
            refine AllReadyH.cons rfl (fun K hK => ?_) ?_
            · go_simp
              go_at_call 28
              refine (i_IsDone (tDesk.reach hX (belx)) hzX hwl).mono ?_
              rintro e w21 ⟨rfl, hb21⟩
              rw [HDF.out]
              have hs1 : Below wr.heap.size wr w21 := bel_trans (belx) hb21
              go_wp2_with fail
              refine hK.out _ _ (by exact ⟨cell_bel hs1 x0, cell_bel hs1 x1, cell_bel hs1 hli, cell_bel hs1 hlp⟩) (fun hHeld => ?_)
              clear hK K
              (try simp only [Act.put, qa_, qb_, qc_])
              refine wpAnyH_take (i := 21) (oi := ⟨some 92, _, _, _, _, _⟩) (v := ?v90) rfl (by kernel_rfl) (by kernel_rfl) (by kernel_rfl) (fun _ _ _ h => h) (Or.inl ⟨by rfl, ?hy90⟩) (by assumption) ?_
              case hy90 => (intro w hSw; (try dsimp only at hSw); go_simp; try (with_reducible rfl))
              (try simp only [Act.put, qa_, qb_, qc_])
              refine wpAnyH_done (by kernel_rfl) ?_ _
              go_wp2_with fail
              go_meet
              exact ⟨rfl, hs1⟩
            exact AllReadyH.nil
          · have hd0 : decide ((0 : Int) < (i : Int)) = false := decide_eq_false (by omega)
            have hd0n : decide (0 < i) = false := decide_eq_false hi1
            clear hia ham hgl hnm hfl hkk hpl hLP hlie
            go_wp2_with fail
            refine wp_region_held_drew (S := (fun w' => w'.cell? ⟨xb, 0, none⟩ = some (.slice D0 m0 d0) ∧ w'.cell? ⟨xb, 1, none⟩ = some (.slice D1 m1 d1) ∧ w'.cell? ⟨lb, lo + i, none⟩ = some (.int .i64 li))) (by kernel_rfl) (by exact ⟨x0, x1, hli⟩) (fun hHeld => ?_)
            refine wpAnyH_take (i := 0) (oi := ⟨some 71, _, _, _, _, _⟩) (v := ?v91) rfl (by kernel_rfl) (by kernel_rfl) (by kernel_rfl) (fun _ _ _ h => h) (Or.inl ⟨by rfl, ?hy91⟩) (by assumption) ?_
            case hy91 => (intro w hSw; (try dsimp only at hSw); go_simp; try (with_reducible rfl))
            (try simp only [Act.put, qa_, qb_, qc_])
            refine wpAnyH_take (i := 1) (oi := ⟨some 72, _, _, _, _, _⟩) (v := ?v92) rfl (by kernel_rfl) (by kernel_rfl) (by kernel_rfl) (fun _ _ _ h => h) (Or.inl ⟨by rfl, ?hy92⟩) (by assumption) ?_
            case hy92 => (intro w hSw; (try dsimp only at hSw); go_simp; try (with_reducible rfl))
            (try simp only [Act.put, qa_, qb_, qc_])
            refine wpAnyH_take (i := 2) (oi := ⟨some 73, _, _, _, _, _⟩) (v := ?v93) rfl (by kernel_rfl) (by kernel_rfl) (by kernel_rfl) (fun _ _ _ h => h) (Or.inl ⟨by rfl, ?hy93⟩) (by assumption) ?_
            case hy93 => (intro w hSw; (try dsimp only at hSw); go_simp; try (with_reducible rfl))
            (try simp only [Act.put, qa_, qb_, qc_])
            refine wpAnyH_take (i := 3) (oi := ⟨some 74, _, _, _, _, _⟩) (v := undef) rfl (by kernel_rfl) (by kernel_rfl) (by kernel_rfl) (fun _ _ _ h => h) (Or.inr ⟨by rfl, rfl⟩) (by assumption) ?_
            (try simp only [Act.put, qa_, qb_, qc_])
            refine wpAnyH_take (i := 4) (oi := ⟨some 75, _, _, _, _, _⟩) (v := undef) rfl (by kernel_rfl) (by kernel_rfl) (by kernel_rfl) (fun _ _ _ h => h) (Or.inr ⟨by rfl, rfl⟩) (by assumption) ?_
            (try simp only [Act.put, qa_, qb_, qc_])
            refine wpAnyH_take (i := 5) (oi := ⟨some 76, _, _, _, _, _⟩) (v := undef) rfl (by kernel_rfl) (by kernel_rfl) (by kernel_rfl) (fun _ _ _ h => h) (Or.inr ⟨by rfl, rfl⟩) (by assumption) ?_
            (try simp only [Act.put, qa_, qb_, qc_])
            refine wpAnyH_take (i := 6) (oi := ⟨some 77, _, _, _, _, _⟩) (v := undef) rfl (by kernel_rfl) (by kernel_rfl) (by kernel_rfl) (fun _ _ _ h => h) (Or.inr ⟨by rfl, rfl⟩) (by assumption) ?_
            (try simp only [Act.put, qa_, qb_, qc_])
            refine wpAnyH_take (i := 7) (oi := ⟨some 78, _, _, _, _, _⟩) (v := undef) rfl (by kernel_rfl) (by kernel_rfl) (by kernel_rfl) (fun _ _ _ h => h) (Or.inr ⟨by rfl, rfl⟩) (by assumption) ?_
            (try simp only [Act.put, qa_, qb_, qc_])
            refine wpAnyH_take (i := 8) (oi := ⟨some 79, _, _, _, _, _⟩) (v := undef) rfl (by kernel_rfl) (by kernel_rfl) (by kernel_rfl) (fun _ _ _ h => h) (Or.inr ⟨by rfl, rfl⟩) (by assumption) ?_
            (try simp only [Act.put, qa_, qb_, qc_])
            refine wpAnyH_take (i := 9) (oi := ⟨some 80, _, _, _, _, _⟩) (v := undef) rfl (by kernel_rfl) (by kernel_rfl) (by kernel_rfl) (fun _ _ _ h => h) (Or.inr ⟨by rfl, rfl⟩) (by assumption) ?_
            (try simp only [Act.put, qa_, qb_, qc_])
            refine wpAnyH_take (i := 10) (oi := ⟨some 81, _, _, _, _, _⟩) (v := undef) rfl (by kernel_rfl) (by kernel_rfl) (by kernel_rfl) (fun _ _ _ h => h) (Or.inr ⟨by rfl, rfl⟩) (by assumption) ?_
            (try simp only [Act.put, qa_, qb_, qc_])
            refine wpAnyH_take (i := 11) (oi := ⟨some 82, _, _, _, _, _⟩) (v := undef) rfl (by kernel_rfl) (by kernel_rfl) (by kernel_rfl) (fun _ _ _ h => h) (Or.inr ⟨by rfl, rfl⟩) (by assumption) ?_
            (try simp only [Act.put, qa_, qb_, qc_])
            refine wpAnyH_take (i := 12) (oi := ⟨some 83, _, _, _, _, _⟩) (v := undef) rfl (by kernel_rfl) (by kernel_rfl) (by kernel_rfl) (fun _ _ _ h => h) (Or.inr ⟨by rfl, rfl⟩) (by assumption) ?_
            (try simp only [Act.put, qa_, qb_, qc_])
            refine wpAnyH_take (i := 13) (oi := ⟨some 84, _, _, _, _, _⟩) (v := ?v94) rfl (by kernel_rfl) (by kernel_rfl) (by kernel_rfl) (fun _ _ _ h => h) (Or.inl ⟨by rfl, ?hy94⟩) (by assumption) ?_
            case hy94 => (intro w hSw; (try dsimp only at hSw); go_simp; try (with_reducible rfl))
            (try simp only [Act.put, qa_, qb_, qc_])
            refine wpAnyH_take (i := 14) (oi := ⟨some 85, _, _, _, _, _⟩) (v := ?v95) rfl (by kernel_rfl) (by kernel_rfl) (by kernel_rfl) (fun _ _ _ h => h) (Or.inl ⟨by rfl, ?hy95⟩) (by assumption) ?_
            case hy95 => (intro w hSw; (try dsimp only at hSw); go_simp; try (with_reducible rfl))
            (try simp only [Act.put, qa_, qb_, qc_])
            refine wpAnyH_take (i := 15) (oi := ⟨some 86, _, _, _, _, _⟩) (v := ?v96) rfl (by kernel_rfl) (by kernel_rfl) (by kernel_rfl) (fun _ _ _ h => h) (Or.inl ⟨by rfl, ?hy96⟩) (by assumption) ?_
            case hy96 => (intro w hSw; (try dsimp only at hSw); go_simp; try (with_reducible rfl))
            (try simp only [Act.put, qa_, qb_, qc_])
            refine wpAnyH_take (i := 16) (oi := ⟨some 87, _, _, _, _, _⟩) (v := ?v97) rfl (by kernel_rfl) (by kernel_rfl) (by kernel_rfl) (fun _ _ _ h => h) (Or.inl ⟨by rfl, ?hy97⟩) (by assumption) ?_
            case hy97 => (intro w hSw; (try dsimp only at hSw); go_simp; try (with_reducible rfl))
            (try simp only [Act.put, qa_, qb_, qc_])
            refine wpAnyH_take (i := 17) (oi := ⟨some 88, _, _, _, _, _⟩) (v := ?v98) rfl (by kernel_rfl) (by kernel_rfl) (by kernel_rfl) (fun _ _ _ h => h) (Or.inl ⟨by rfl, ?hy98⟩) (by assumption) ?_
            case hy98 => (intro w hSw; (try dsimp only at hSw); go_simp; try (with_reducible rfl))
            (try simp only [Act.put, qa_, qb_, qc_])
            refine wpAnyH_take (i := 18) (oi := ⟨some 89, _, _, _, _, _⟩) (v := ?v99) rfl (by kernel_rfl) (by kernel_rfl) (by kernel_rfl) (fun _ _ _ h => h) (Or.inl ⟨by rfl, ?hy99⟩) (by assumption) ?_
            case hy99 => (intro w hSw; (try dsimp only at hSw); go_simp; try (with_reducible rfl))
            (try simp only [Act.put, qa_, qb_, qc_])
            refine wpAnyH_take (i := 19) (oi := ⟨some 90, _, _, _, _, _⟩) (v := ?v100) rfl (by kernel_rfl) (by kernel_rfl) (by kernel_rfl) (fun _ _ _ h => h) (Or.inl ⟨by rfl, ?hy100⟩) (by assumption) ?_
            case hy100 => (intro w hSw; (try dsimp only at hSw); go_simp; try (with_reducible rfl))
            (try simp only [Act.put, qa_, qb_, qc_])
            refine wpAnyH_ready (rs := [20]) (by kernel_rfl) (by simp) ?_
            refine AllReadyH.cons rfl (fun K hK => ?_) ?_
            · go_simp
              go_at_call 28
              refine (i_IsDone (tDesk.reach hX (belx)) hzX hwl).mono ?_
              rintro e w21 ⟨rfl, hb21⟩
              rw [HDF.out]
              have hs1 : Below wr.heap.size wr w21 := bel_trans (belx) hb21
              go_wp2_with fail
              refine hK.out _ _ (by exact ⟨cell_bel hs1 x0, cell_bel hs1 x1, cell_bel hs1 hli⟩) (fun hHeld => ?_)
              clear hK K
              (try simp only [Act.put, qa_, qb_, qc_])
              refine wpAnyH_take (i := 21) (oi := ⟨some 92, _, _, _, _, _⟩) (v := ?v101) rfl (by kernel_rfl) (by kernel_rfl) (by kernel_rfl) (fun _ _ _ h => h) (Or.inl ⟨by rfl, ?hy101⟩) (by assumption) ?_
              case hy101 => (intro w hSw; (try dsimp only at hSw); go_simp; try (with_reducible rfl))
              (try simp only [Act.put, qa_, qb_, qc_])
              refine wpAnyH_done (by kernel_rfl) ?_ _
              go_wp2_with fail
              go_meet
              exact ⟨rfl, hs1⟩
            exact AllReadyH.nil
        case rest =>
        obtain ⟨rfl, hby⟩ := hcut
        rename World => wy
        have hXy := tDesk.reach hX hby
        have y0_ := cell_bel hby x0
        have y1_ := cell_bel hby x1
        have hly := cell_bel hby hli
        clear hia ham hgl hnm hfl hkk hpl hLP hlie x0 x1 hli X1 hX
        go_wp2_with fail
        refine wp_region_held_drew (S := (fun w' => w'.cell? ⟨xb, 0, none⟩ = some (.slice D0 m0 d0) ∧ w'.cell? ⟨xb, 1, none⟩ = some (.slice D1 m1 d1) ∧ w'.cell? ⟨lb, lo + i, none⟩ = some (.int .i64 li))) (by kernel_rfl) (by exact ⟨y0_, y1_, hly⟩) (fun hHeld => ?_)
        refine wpAnyH_take (i := 0) (oi := ⟨some 93, _, _, _, _, _⟩) (v := ?v102) rfl (by kernel_rfl) (by kernel_rfl) (by kernel_rfl) (fun _ _ _ h => h) (Or.inl ⟨by rfl, ?hy102⟩) (by assumption) ?_
        case hy102 => (intro w hSw; (try dsimp only at hSw); go_simp; try (with_reducible rfl))
        (try simp only [Act.put, qa_, qb_, qc_])
        refine wpAnyH_take (i := 1) (oi := ⟨some 94, _, _, _, _, _⟩) (v := ?v103) rfl (by kernel_rfl) (by kernel_rfl) (by kernel_rfl) (fun _ _ _ h => h) (Or.inl ⟨by rfl, ?hy103⟩) (by assumption) ?_
        case hy103 => (intro w hSw; (try dsimp only at hSw); go_simp; try (with_reducible rfl))
        (try simp only [Act.put, qa_, qb_, qc_])
        refine wpAnyH_take (i := 2) (oi := ⟨some 95, _, _, _, _, _⟩) (v := ?v104) rfl (by kernel_rfl) (by kernel_rfl) (by kernel_rfl) (fun _ _ _ h => h) (Or.inl ⟨by rfl, ?hy104⟩) (by assumption) ?_
        case hy104 => (intro w hSw; (try dsimp only at hSw); go_simp; try (with_reducible rfl))
        (try simp only [Act.put, qa_, qb_, qc_])
        refine wpAnyH_take (i := 3) (oi := ⟨some 96, _, _, _, _, _⟩) (v := ?v105) rfl (by kernel_rfl) (by kernel_rfl) (by kernel_rfl) (fun _ _ _ h => h) (Or.inl ⟨by rfl, ?hy105⟩) (by assumption) ?_
        case hy105 => (intro w hSw; (try dsimp only at hSw); go_simp; try (with_reducible rfl))
        (try simp only [Act.put, qa_, qb_, qc_])
        refine wpAnyH_take (i := 4) (oi := ⟨some 97, _, _, _, _, _⟩) (v := ?v106) rfl (by kernel_rfl) (by kernel_rfl) (by kernel_rfl) (fun _ _ _ h => h) (Or.inl ⟨by rfl, ?hy106⟩) (by assumption) ?_
        case hy106 => (intro w hSw; (try dsimp only at hSw); go_simp; try (with_reducible rfl))
        (try simp only [Act.put, qa_, qb_, qc_])
        refine wpAnyH_take (i := 5) (oi := ⟨some 98, _, _, _, _, _⟩) (v := ?v107) rfl (by kernel_rfl) (by kernel_rfl) (by kernel_rfl) (fun _ _ _ h => h) (Or.inl ⟨by rfl, ?hy107⟩) (by assumption) ?_
        case hy107 => (intro w hSw; (try dsimp only at hSw); go_simp; try (with_reducible rfl))
        (try simp only [Act.put, qa_, qb_, qc_])
        refine wpAnyH_ready (rs := [6]) (by kernel_rfl) (by simp) ?_
        refine AllReadyH.cons rfl (fun K hK => ?_) ?_
        · go_simp
          go_at_call 30
          refine (i_Missing (tDesk.reach hXy (belx)) hzX hwl).mono ?_
          rintro e w21 ⟨Am, cm, Fm, rfl, hOm, -, hb21⟩
          rw [HFL.out]
          clear hOm
          have hs1 : Below wy.heap.size wy w21 := bel_trans (belx) hb21
          go_wp2_with fail
          refine hK.out _ _ (by exact ⟨cell_bel hs1 y0_, cell_bel hs1 y1_, cell_bel hs1 hly⟩) (fun hHeld => ?_)
          clear hK K
          (try simp only [Act.put, qa_, qb_, qc_])
          refine wpAnyH_take (i := 7) (oi := ⟨some 100, _, _, _, _, _⟩) (v := ?v108) rfl (by kernel_rfl) (by kernel_rfl) (by kernel_rfl) (fun _ _ _ h => h) (Or.inl ⟨by rfl, ?hy108⟩) (by assumption) ?_
          case hy108 => (intro w hSw; (try dsimp only at hSw); go_simp; try (with_reducible rfl))
          (try simp only [Act.put, qa_, qb_, qc_])
          refine wpAnyH_take (i := 8) (oi := ⟨some 101, _, _, _, _, _⟩) (v := ?v109) rfl (by kernel_rfl) (by kernel_rfl) (by kernel_rfl) (fun _ _ _ h => h) (Or.inl ⟨by rfl, ?hy109⟩) (by assumption) ?_
          case hy109 => (intro w hSw; (try dsimp only at hSw); go_simp; try (with_reducible rfl))
          (try simp only [Act.put, qa_, qb_, qc_])
          refine wpAnyH_take (i := 9) (oi := ⟨some 10, _, _, _, _, _⟩) (v := ?v110) rfl (by kernel_rfl) (by kernel_rfl) (by kernel_rfl) (fun _ _ _ h => h) (Or.inl ⟨by rfl, ?hy110⟩) (by assumption) ?_
          case hy110 => (intro w hSw; (try dsimp only at hSw); go_simp; try (with_reducible rfl))
          (try simp only [Act.put, qa_, qb_, qc_])
          refine wpAnyH_done (by kernel_rfl) ?_ _
          go_wp2
          go_roundw
          case rel => exact ⟨i + 1, by omega, by go_num, by rw [HSN.out], bel_trans hbr (bel_trans hby hs1)⟩
          case measure => simp [valI4]; omega
        exact AllReadyH.nil
      · obtain rfl : i = m0 := by omega
        have hdl : decide ((i : Int) < (i : Int)) = false := by simp
        rw [show p'.1.take i = p'.1 from List.take_of_length_le (Nat.le_of_eq M0.out)]
        have hlr := reach hlw hbr
        have hB7 := bel_trans hB6 hbr
        have HLK := Lib.hid (fLack_t HOK.out)
        clear x0 x1 hIl
        go_wp2_with fail
        refine (d_Split hlr (by omega)).mono ?_
        rintro e w6 ⟨id, Am, cm, m, rfl, hid, hM, hml, hb6⟩
        obtain ⟨nm, hnm⟩ : ∃ x, m.length = x := ⟨_, rfl⟩
        have HNM := Lib.hid hnm
        rw [hnm] at hM hml ⊢
        clear hnm
        have X1 := X1.below hb6 X1.size
        have hX := tDesk.reach hX hb6
        have hB8 := bel_trans hB7 hb6
        go_wp2_with fail
        refine (i_Split (WalkArith.wf_i64 ⟨by omega, by omega⟩) hM (by have := HNM.out; omega)).mono ?_
        rintro e w7 ⟨As, cs7, Fs, rfl, hOs, -, hb7⟩
        have X1 := X1.below hb7 X1.size
        have hX := tDesk.reach hX hb7
        have hB9 := bel_trans hB8 hb7
        have x0 := X1.cell 0
        have x1 := X1.cell 1
        obtain ⟨LK, hLK⟩ : ∃ x, lackL p'.1 = x := ⟨_, rfl⟩
        rw [hLK] at HLK ⊢
        obtain ⟨ns, hns⟩ : ∃ x, (fSpl id m).length = x := ⟨_, rfl⟩
        have hpf : SpOk id m → (ns : Int) = fPF (nm : Int) := fun h => by
          rw [← hns, fSpl_t h, splL_len, ← HNM.out]; exact spl_pf m h.2
        rw [hns]
        clear hns hOs hb6 hb7 hLK hM
        by_cases hs : SpOk id m
        · rw [decide_eq_true hs]
          have hpe := hpf hs
          go_wp2_with fail
          refine (i_Lacking hX hzX).mono ?_
          rintro e w8 ⟨rfl, hb8⟩
          rw [HLK.out]
          have X1 := X1.below hb8 X1.size
          have x0 := X1.cell 0
          have hBa := bel_trans hB9 hb8
          clear hpf hs
          go_wp2_with fail
          refine (i_PiecesFor (nm : Int) _).mono ?_
          rintro e w' ⟨rfl, rfl⟩
          rw [← hpe]
          clear hpe
          go_wp2_with fail
          refine (l_desks _).mono ?_
          rintro e w9 ⟨rfl, hb9⟩
          go_wp2_with fail
          go_ret
          exact ⟨rfl, bel_trans hBa hb9⟩
        · rw [decide_eq_false hs]
          go_wp2_with fail
          refine (i_Lacking hX hzX).mono ?_
          rintro e w8 ⟨rfl, hb8⟩
          rw [HLK.out]
          have X1 := X1.below hb8 X1.size
          have x0 := X1.cell 0
          have hBa := bel_trans hB9 hb8
          clear hpf hs
          go_wp2_with fail
          refine (l_desks _).mono ?_
          rintro e w9 ⟨rfl, hb9⟩
          go_wp2_with fail
          go_ret
          exact ⟨rfl, bel_trans hBa hb9⟩

/-! ### THE ROW's STEP: WRITTEN OUT: LEAVE IT -/
set_option maxRecDepth 100000 in
theorem lifted (os : Os) (started : os.Started) (H : Type) (enc : TypeId × Value → H) :
    ReturnsInHanded {} Tryz.checked os 5 .any (Rows.fnDesksSpec.pre6 enc Tryz.prog Tryz.f5 Rows.fnDesksRow.domain false) (Rows.fnDesksSpec.post enc Tryz.prog Tryz.f5 false true false false) := by
  refine returnsInHanded_of_change_sized (C := Tryz.checked) own started (by kernel_rfl) Tryz.func5
    (ChangeSpec.witness6 (enc := enc) (C := Tryz.checked) false ⟨#[], #[.slice none 0 0], []⟩ 8 (by kernel_rfl) (by kernel_rfl) (by kernel_rfl) (by kernel_rfl)) ?_
  intro W base args ds gs before hval0 hW hcnd hsz0 _
  have hval : ∀ (j : Nat) t v, Tryz.f5.params[j]? = some t → args[j]? = some v → Value.okWide Tryz.prog W .any base t v := hval0
  have hW' := hW
  obtain ⟨p, q, hA0, hV, rfl, hfz, hnd⟩ := hW
  have hA : DataW.TrodAll enc Tryz.prog W 0 (fun _ => true) true Tryz.f5.params.toList args.toList ds p := hA0
  have hsz : (DataW.weightsEach Tryz.prog (Tryz.f5.params.toList ++ Rows.fnDesksSpec.plain.varTypes Tryz.prog) (ds ++ gs)).all (· ≤ reachBytes) = true := hsz0
  rw [Tryz.params5] at hA hval hsz
  obtain ⟨v0, vs0, d0, ds0, p0, q0, hargs, rfl, rfl, h0, r0⟩ := trodAll_cons hA
  obtain ⟨rfl, rfl, rfl⟩ := trodAll_nil r0
  obtain rfl : args = #[v0] := by cases args; simp_all
  obtain ⟨rfl, rfl⟩ := trodVars_none hV
  obtain ⟨a0, len0, cap0, rfl⟩ := okWide_slice Tryz.underlying26 (hval 0 26 v0 rfl rfl)
  have k0 := h0
  have lt0 : ∀ x ∈ p0, x.block < W.heap.size := by obtain ⟨m, hm⟩ := k0; exact DataW.trod_lt m _ _ _ hm
  obtain ⟨z0, w0, r0⟩ : ∃ zs, IsRow .u8 W a0 len0 cap0 zs ∧ cap0 ≤ 140737488351232 := by
    obtain ⟨fuel, hf⟩ := h0
    rcases open_ints Tryz.underlying26 Tryz.underlying5 (by kernel_rfl) hf with ⟨hcs, _⟩ | ⟨x, l, c, zs, hcs, _, hl, hm, hz, hxx, hcell, hwz⟩
    · simp [Value.cells] at hcs
      obtain ⟨rfl, rfl, rfl⟩ := hcs
      exact ⟨[], .inl ⟨rfl, rfl, rfl, rfl⟩, by omega⟩
    · simp [Value.cells] at hcs
      obtain ⟨rfl, rfl, rfl⟩ := hcs
      have hz' : zs.length = cap0 := by simpa using hz
      refine ⟨zs, .inr ⟨_, rfl, hl, hm, hz', hcell, hwz⟩, ?_⟩
      simp only [Prod.mk.injEq] at hxx
      rw [hxx.1] at hsz
      have h := sized_slice hsz (j := 0) (t := 26) (e := 5) rfl rfl Tryz.underlying26
      rw [bytes5] at h
      simp only [lits, List.length_map, List.length_take, List.length_drop, reachBytes] at h
      omega
  clear hA0 hval0
  refine (walk a0 len0 cap0 z0 W w0 r0).mono fun e W' ⟨he, bel⟩ => ?_
  subst he
  exact ⟨_, rfl, _, _, _, [], _, [], hW', trodAll_mk1 (shut_bool Tryz.underlying4 _), (trodAll_cons_mk (Below.trod laidOut (by kernel_rfl) (of_decide_eq_true (by kernel_rfl)) k0 bel lt0) trodAll_mk0), rfl, bel.frame _, fun h => by cases h⟩

theorem over : Rows.fnDesksRow.holds Tryz.pinned (OpenSpec.ofChange Rows.fnDesksSpec) :=
  OpenClaim.holds_of_wide 5 Tryz.f5 rfl rfl rfl rfl rfl rfl rfl ⟨rfl, rfl, rfl, rfl, rfl⟩ rfl rfl rfl rfl rfl named_fnDesks Tryz.func5 closed_fnDesks
    (of_decide_eq_true (by kernel_rfl)) (by unfold Func.isWrapper; first | (rw [if_pos (by decide +kernel)]; kernel_rfl) | (rw [if_neg (by decide +kernel)]; exact ⟨rfl, rfl⟩))
    (fun os started H enc _ => lifted os started H enc)

/-- ████ THE STATEMENT ████ -/
theorem proved : Rows.FnDesksSaid := over
#print axioms proved
end Go.Proofs.YtaabmaoldhoinaaGreat.fnDesks
