/-
  For every draw: a fragment that has been taken is no longer missing, and a message that is complete is not begun again. No further condition.
-/
import Derived.Test.YtaabmaoldhoinaaRGh
import Derived.Test.YtaabmaoldhoinaaRGi
import Derived.Test.YtaabmaoldhoinaaRGl
import Derived.Test.YtaabmaoldhoinaaRGm
import Derived.Test.YtaabmaoldhoinaaRows
import Derived.Below
import Derived.ChangeOld
import Derived.Deep.Cut
import Derived.Deep.CutRange
import Derived.Deep.DeepCutAuto
import Derived.OpenShut
import Derived.ProofKit
import Derived.ShutString
import Derived.SizedLaws
import Derived.WalkKit
namespace Go.Proofs.Ytaabmaoldhoinaa.fnTakes
open Go.ChangeShapes Go.WideShapes Go.ChangeAt Go.RowKit
open Go.ChangeMaps (open_string shut_string)
set_option linter.unusedVariables false

theorem bytes5 : Try.prog.bytesOf 5 = 1 := by kernel_rfl
open Go.Proofs.Ytaabmaoldhoinaa Fld
theorem own : ownKnob Try.prog.godebug = none := by kernel_rfl
theorem laidOut : laidOutB Try.prog = true := by kernel_rfl

/-- WHAT THE WALK IS TOLD OF A SLICE OF INTEGERS THAT CAME IN: it is nil; or it leads to a row of 'cap' cells, the numbers 'zs' (the first 'len' are its elements, the rest its spare room), each fitting its kind. -/
def IsRow (k : IntKind) (w : World) (a : Option Addr) (len cap : Nat) (zs : List Int) : Prop :=
  (a = none ∧ len = 0 ∧ cap = 0 ∧ zs = []) ∨
  ∃ x, a = some x ∧ len ≤ cap ∧ cap ≤ maxLen ∧ zs.length = cap ∧ (∀ i, i < zs.length → w.cell? (x.add i) = some (.int k (zs.getD i 0))) ∧ ∀ n ∈ zs, (Lit.int k n).wf = true

theorem rowInts {w : World} {a : Option Addr} {n c : Nat} {zs : List Int} (h : IsRow .u8 w a n c zs) : Ints .u8 w w.heap.size a n (zs.take n) ∧ n ≤ c := by
  rcases h with ⟨rfl, rfl, rfl, rfl⟩ | ⟨x, rfl, hl, _, hz, hc, hw⟩
  · exact ⟨Ints.nil, Nat.le_refl _⟩
  · exact ⟨Ints.ofRow (by omega) hc hw, hl⟩

/-! ### STEP 1: THE WALK: the Go text returns true, AND WRITES NOTHING THAT WAS THERE: 'Below w.heap.size w w'' (Derived/Below.lean: '.refl', '.alloc', '.drew', '.setCell' at a new block, '.trans'). Open each 'IsRow' by 'rcases' AHEAD of 'go_enter'; part every test ahead of the walk. -/
set_option maxRecDepth 100000 in
set_option maxHeartbeats 2000000 in
theorem walk (a0 : Option Addr) (len0 cap0 : Nat) (z0 : List Int) (w : World) (w0 : IsRow .u8 w a0 len0 cap0 z0) (r0 : cap0 ≤ 140737488351232) :
    Calls Try.prog 4 #[.slice a0 len0 cap0] w fun e w' => e = .returned (.bool true) ∧ Below w.heap.size w w' := by
  obtain ⟨hl, hn⟩ := rowInts w0
  go_enter Try.func4, Try.ntmps4
  go_wp2_with fail
  refine (d_TakePiece hl (by omega)).mono ?_
  rintro e w1 ⟨v0, v1, p, ch, q, x, rfl, hP, hS, hQ, hQl, hx, hB1⟩
  obtain ⟨A0, n0, c0, A1, n1, c1, e7, -, -, hn0, -, -, -, hn1, -⟩ := openDesk hP
  simp only [List.cons.injEq, and_true] at e7
  obtain ⟨rfl, rfl⟩ := e7
  obtain ⟨A3, n3, c3, rfl, -, -, -, -, -, hl3, -⟩ := openPiece hQ
  obtain ⟨y0, y1, y2, qd⟩ := q
  obtain ⟨l0, l1, l2, l3⟩ := hQl
  dsimp only at l0 l1 l2 l3 hl3 ⊢
  obtain ⟨s0, s1, s2⟩ := hS
  have hzD : szDesk p ≤ 1048576 := by omega
  have hzQ : szPiece (y0, y1, y2, qd) ≤ 1048576 := by show qd.length ≤ _; omega
  have hwx : (Lit.int .i64 x).wf = true := WalkArith.wf_i64 ⟨by omega, by omega⟩
  have hwy : (Lit.int .i64 y0).wf = true := WalkArith.wf_i64 ⟨by omega, by omega⟩
  have V1 : Box ((w1.alloc (.cells #[.slice A0 n0 c0, .slice A1 n1 c1] 38)).alloc (.cells #[.int .i64 y0, .int .i64 y1, .int .i64 y2, .slice A3 n3 c3] 24)) w1.heap.size 38 #[.slice A0 n0 c0, .slice A1 n1 c1] := (Box.new _ _ _).alloc _
  have V2 : Box ((w1.alloc (.cells #[.slice A0 n0 c0, .slice A1 n1 c1] 38)).alloc (.cells #[.int .i64 y0, .int .i64 y1, .int .i64 y2, .slice A3 n3 c3] 24)) (w1.heap.size + 1) 24 #[.int .i64 y0, .int .i64 y1, .int .i64 y2, .slice A3 n3 c3] := by simpa using Box.new (w1.alloc (.cells #[.slice A0 n0 c0, .slice A1 n1 c1] 38)) 24 #[.int .i64 y0, .int .i64 y1, .int .i64 y2, .slice A3 n3 c3]
  have hx1 : Below w1.heap.size w1 ((w1.alloc (.cells #[.slice A0 n0 c0, .slice A1 n1 c1] 38)).alloc (.cells #[.int .i64 y0, .int .i64 y1, .int .i64 y2, .slice A3 n3 c3] 24)) := (belx)
  have hP := tDesk.reach hP hx1
  have hQ := tPiece.reach hQ hx1
  have hB2 := bel_trans hB1 hx1
  go_wp2_with fail
  refine (i_TakePiece hP hzD hQ hzQ hwx).mono ?_
  rintro e w2 ⟨cs2, F1, A4, c4, F2, rfl, hO2, hb2, -, hbe⟩
  have hX := tDesk.read hO2
  have hbR := tBy.read hb2
  have hQ := tPiece.reach hQ hbe
  have V1 := V1.below hbe V1.size
  have V2 := V2.below hbe V2.size
  have hB3 := bel_trans hB2 hbe
  obtain ⟨D0, d0, -, D1, d1, -, rfl, -⟩ := openODesk hO2
  have z2 : w1.heap.size + 2 ≤ w2.heap.size := by have h : (World.alloc (World.alloc w1 _) _).heap.size ≤ w2.heap.size := hbe.size; simpa using h
  have HN1 := Lib.hid hn1
  clear hO2 hb2 hx1 hbe
  by_cases hin : TkIn p (y0, y1, y2, qd) x
  rotate_left
  · have e1 : (fTp p (y0, y1, y2, qd) x).1 = dkZ := by rw [fTp_f hin]
    have e2 : (fTp p (y0, y1, y2, qd) x).2.1 = [] := by rw [fTp_f hin]
    have e3 : (fTp p (y0, y1, y2, qd) x).2.2 = -3 := by rw [fTp_f hin]
    rw [e1, e2, e3, show dkZ.1.length = 0 from rfl, show dkZ.2.length = 0 from rfl, show ([] : List Int).length = 0 from rfl]
    clear e1 e2 e3 hin hX hbR
    go_wp2_with fail
    refine (l_desks _).mono ?_
    rintro e w9 ⟨rfl, hb9⟩
    go_wp2_with fail
    go_ret
    exact ⟨rfl, bel_trans (bel_alloc hB3 _) hb9⟩
  · have hfa := tk_facts hin
    obtain ⟨p', bb, cc, hr⟩ : ∃ p' bb cc, fTp p (y0, y1, y2, qd) x = (p', bb, cc) := ⟨_, _, _, rfl⟩
    have e1 : (fTp p (y0, y1, y2, qd) x).1 = p' := by rw [hr]
    have e2 : (fTp p (y0, y1, y2, qd) x).2.1 = bb := by rw [hr]
    have e3 : (fTp p (y0, y1, y2, qd) x).2.2 = cc := by rw [hr]
    rw [hr] at hfa
    rw [e1] at hX ⊢
    rw [e2] at hbR ⊢
    rw [e3]
    clear e1 e2 e3 hr
    obtain ⟨m0, hm0⟩ : ∃ m, p'.1.length = m := ⟨_, rfl⟩
    obtain ⟨m1, hm1⟩ : ∃ m, p'.2.length = m := ⟨_, rfl⟩
    obtain ⟨nb, hnb⟩ : ∃ m, bb.length = m := ⟨_, rfl⟩
    have M0 := Lib.hid hm0
    have M1 := Lib.hid hm1
    have NB := Lib.hid hnb
    rw [hm0, hm1] at hX ⊢
    rw [hnb] at hbR ⊢
    clear hm0 hm1 hnb
    obtain ⟨hok, hc⟩ := hfa
    dsimp only at hok hc
    have HIN := Lib.hid hin
    have HC := Lib.hid hc
    have HDK := Lib.hid (decide_eq_true hok)
    have HOK := Lib.hid hok
    have hlim := dkOk_lim hok
    have hzX : szDesk p' ≤ 1048576 := by omega
    have q0 : m0 ≤ 6 := by have := M0.out; omega
    have q1 : m1 ≤ 256 := by have := M1.out; omega
    have g3 : (cc == -3) = false := by
      rcases hc with ⟨-, -, h | h⟩ | ⟨h, -⟩ | ⟨h, -⟩ <;> rw [h] <;> rfl
    obtain ⟨w3, hw3⟩ : ∃ w3, w2.alloc (.cells #[.slice D0 m0 d0, .slice D1 m1 d1] 38) = w3 := ⟨_, rfl⟩
    have hb3 : Below w2.heap.size w2 w3 := by rw [← hw3]; exact bel_alloc (Below.refl _ _) _
    have X1 : Box w3 w2.heap.size 38 #[.slice D0 m0 d0, .slice D1 m1 d1] := by rw [← hw3]; exact Box.new _ _ _
    have V1 := V1.below hb3 V1.size
    have V2 := V2.below hb3 V2.size
    have hX := tDesk.reach hX hb3
    have hQ := tPiece.reach hQ hb3
    have hB4 := bel_trans hB3 hb3
    obtain ⟨xb, hxb⟩ : ∃ xb, w2.heap.size = xb := ⟨_, rfl⟩
    have hxb1 : w1.heap.size + 2 ≤ xb := by omega
    have hlw := reach hl hB4
    clear hc hlim hbR hB3
    rw [hxb] at X1
    have x0 := X1.cell 0
    have x1 := X1.cell 1
    go_upto_region 5 with fail
    clear hb3 hw3 hxb
    go_cut [57] (fun t57 wc => t57 = .bool false ∧ Below w3.heap.size w3 wc)
    case first =>
      go_wp2_with fail
      refine (i_DeskOk hX hzX).mono ?_
      rintro e w4 ⟨rfl, hb4⟩
      rw [HDK.out]
      rcases HC.out with ⟨rfl, -, -⟩ | ⟨rfl, -⟩ | ⟨-, rfl, -⟩
      · have hnb : nb = 0 := NB.out.symm
        subst hnb
        go_wp2_with fail
        go_meet
        exact ⟨rfl, hb4⟩
      · by_cases hb0 : (0 : Int) < (nb : Int)
        · go_wp2_with fail
          go_meet
          exact ⟨rfl, hb4⟩
        · go_wp2_with fail
          go_meet
          exact ⟨rfl, hb4⟩
      · have hnb : nb = 0 := NB.out.symm
        subst hnb
        go_wp2_with fail
        go_meet
        exact ⟨rfl, hb4⟩
    case rest =>
    obtain ⟨rfl, hb4⟩ := hcut
    rename World => w4
    have V1 := V1.below hb4 V1.size
    have V2 := V2.below hb4 V2.size
    have X1 := X1.below hb4 X1.size
    have hX := tDesk.reach hX hb4
    have hQ := tPiece.reach hQ hb4
    have hB5 := bel_trans hB4 hb4
    have v0 := V1.cell 0; have v1 := V1.cell 1; have k0 := V2.cell 0; have k1 := V2.cell 1; have k2 := V2.cell 2; have k3 := V2.cell 3; have x0 := X1.cell 0; have x1 := X1.cell 1
    clear hb4
    go_wp2_with fail
    refine (i_Missing hX hzX hwy).mono ?_
    rintro e w5 ⟨Al, cl, Fl, rfl, hOl, -, hb5⟩
    have hIl := (slR_ints (tIs.read hOl)).1
    have V1 := V1.below hb5 V1.size
    have V2 := V2.below hb5 V2.size
    have X1 := X1.below hb5 X1.size
    have hX := tDesk.reach hX hb5
    have hQ := tPiece.reach hQ hb5
    have hB6 := bel_trans hB5 hb5
    have hml := fMis_le p' y0
    obtain ⟨ml, hmls⟩ : ∃ ml, fMis p' y0 = ml := ⟨_, rfl⟩
    have HML := Lib.hid hmls
    rw [hmls] at hIl hml ⊢
    obtain ⟨nl, hnl⟩ : ∃ m, ml.length = m := ⟨_, rfl⟩
    have NL := Lib.hid hnl
    rw [hnl] at hIl hml ⊢
    clear hOl hmls hnl hb5 v0 v1 k0 k1 k2 k3 x0 x1
    go_wp2_with fail
    go_loopw [10] (fun iv wr => ∃ i : Nat, i ≤ nl ∧ iv = .int .i64 i ∧ Below w5.heap.size w5 wr) (fun iv _ => nl - (valI4 iv).toNat)
    case atStart => exact ⟨0, by omega, rfl, Below.refl _ _⟩
    case round =>
      obtain ⟨i, hi, rfl, hbr⟩ := hrel
      have V1 := V1.below hbr V1.size
      have V2 := V2.below hbr V2.size
      have X1 := X1.below hbr X1.size
      have hX := tDesk.reach hX hbr
      have hQ := tPiece.reach hQ hbr
      have hIl := hIl.below hbr
      have hB6 := bel_trans hB6 hbr
      have v0 := V1.cell 0; have v1 := V1.cell 1; have k0 := V2.cell 0; have k1 := V2.cell 1; have k2 := V2.cell 2; have k3 := V2.cell 3; have x0 := X1.cell 0; have x1 := X1.cell 1
      by_cases hlt : i < nl
      · have hdl : decide ((i : Int) < (nl : Int)) = true := decide_eq_true (by omega)
        by_cases hc0 : 0 ≤ cc
        · have hd0 : decide (0 ≤ cc) = true := decide_eq_true hc0
          obtain ⟨lb, lo, rfl, -, hli, -⟩ := hIl.at_ hlt
          have hmem : ml.getD i 0 ∈ ml := by rw [List.getD_eq_getElem?_getD, List.getElem?_eq_getElem (by rw [NL.out]; exact hlt), Option.getD_some]; exact List.getElem_mem _
          have hne : (ml.getD i 0 == y1) = false := by
            rw [beq_eq_false_iff_ne]
            intro e
            rcases HC.out with ⟨-, -, h⟩ | ⟨-, -, -, h, -⟩ | ⟨-, -, -, -, h, -⟩
            · omega
            · have h : fMis p' y0 = [] := h
              rw [HML.out] at h; rw [h] at hmem; cases hmem
            · have h : y1 ∉ fMis p' y0 := h
              rw [HML.out] at h; exact h (e ▸ hmem)
          obtain ⟨li, hlie⟩ : ∃ li, ml.getD i 0 = li := ⟨_, rfl⟩
          rw [hlie] at hli hne
          have hi0 : (0 : Int) ≤ (i : Int) := by omega
          have hin2 : (i : Int) < (nl : Int) := by omega
          clear hmem hlie
          go_wp2_with fail
          refine wp_region_held_drew (S := (fun w' => w'.cell? ⟨lb, lo + i, none⟩ = some (.int .i64 li) ∧ w'.cell? ⟨w1.heap.size + 1, 1, none⟩ = some (.int .i64 y1))) (by kernel_rfl) (by exact ⟨hli, k1⟩) (fun hHeld => ?_)
          refine wpAnyH_take (i := 0) (oi := ⟨some 68, _, _, _, _, _⟩) (v := ?v18) rfl (by kernel_rfl) (by kernel_rfl) (by kernel_rfl) (fun _ _ _ h => h) (Or.inl ⟨by rfl, ?hy18⟩) (by assumption) ?_
          case hy18 => (intro w hSw; (try dsimp only at hSw); go_simp; try (with_reducible rfl))
          (try simp only [Act.put, qa_, qb_, qc_])
          refine wpAnyH_take (i := 1) (oi := ⟨some 69, _, _, _, _, _⟩) (v := ?v19) rfl (by kernel_rfl) (by kernel_rfl) (by kernel_rfl) (fun _ _ _ h => h) (Or.inl ⟨by rfl, ?hy19⟩) (by assumption) ?_
          case hy19 => (intro w hSw; (try dsimp only at hSw); go_simp; try (with_reducible rfl))
          (try simp only [Act.put, qa_, qb_, qc_])
          refine wpAnyH_take (i := 2) (oi := ⟨some 70, _, _, _, _, _⟩) (v := ?v20) rfl (by kernel_rfl) (by kernel_rfl) (by kernel_rfl) (fun _ _ _ h => h) (Or.inl ⟨by rfl, ?hy20⟩) (by assumption) ?_
          case hy20 => (intro w hSw; (try dsimp only at hSw); go_simp; try (with_reducible rfl))
          (try simp only [Act.put, qa_, qb_, qc_])
          refine wpAnyH_take (i := 3) (oi := ⟨some 71, _, _, _, _, _⟩) (v := ?v21) rfl (by kernel_rfl) (by kernel_rfl) (by kernel_rfl) (fun _ _ _ h => h) (Or.inl ⟨by rfl, ?hy21⟩) (by assumption) ?_
          case hy21 => (intro w hSw; (try dsimp only at hSw); go_simp; try (with_reducible rfl))
          (try simp only [Act.put, qa_, qb_, qc_])
          refine wpAnyH_take (i := 4) (oi := ⟨some 72, _, _, _, _, _⟩) (v := ?v22) rfl (by kernel_rfl) (by kernel_rfl) (by kernel_rfl) (fun _ _ _ h => h) (Or.inl ⟨by rfl, ?hy22⟩) (by assumption) ?_
          case hy22 => (intro w hSw; (try dsimp only at hSw); go_simp; try (with_reducible rfl))
          (try simp only [Act.put, qa_, qb_, qc_])
          refine wpAnyH_take (i := 5) (oi := ⟨some 73, _, _, _, _, _⟩) (v := ?v23) rfl (by kernel_rfl) (by kernel_rfl) (by kernel_rfl) (fun _ _ _ h => h) (Or.inl ⟨by rfl, ?hy23⟩) (by assumption) ?_
          case hy23 => (intro w hSw; (try dsimp only at hSw); go_simp; try (with_reducible rfl))
          (try simp only [Act.put, qa_, qb_, qc_])
          refine wpAnyH_take (i := 6) (oi := ⟨some 74, _, _, _, _, _⟩) (v := ?v24) rfl (by kernel_rfl) (by kernel_rfl) (by kernel_rfl) (fun _ _ _ h => h) (Or.inl ⟨by rfl, ?hy24⟩) (by assumption) ?_
          case hy24 => (intro w hSw; (try dsimp only at hSw); go_simp; try (with_reducible rfl))
          (try simp only [Act.put, qa_, qb_, qc_])
          refine wpAnyH_take (i := 7) (oi := ⟨some 75, _, _, _, _, _⟩) (v := ?v25) rfl (by kernel_rfl) (by kernel_rfl) (by kernel_rfl) (fun _ _ _ h => h) (Or.inl ⟨by rfl, ?hy25⟩) (by assumption) ?_
          case hy25 => (intro w hSw; (try dsimp only at hSw); go_simp; try (with_reducible rfl))
          (try simp only [Act.put, qa_, qb_, qc_])
          refine wpAnyH_take (i := 8) (oi := ⟨some 76, _, _, _, _, _⟩) (v := ?v26) rfl (by kernel_rfl) (by kernel_rfl) (by kernel_rfl) (fun _ _ _ h => h) (Or.inl ⟨by rfl, ?hy26⟩) (by assumption) ?_
          case hy26 => (intro w hSw; (try dsimp only at hSw); go_simp; try (with_reducible rfl))
          (try simp only [Act.put, qa_, qb_, qc_])
          refine wpAnyH_take (i := 9) (oi := ⟨some 77, _, _, _, _, _⟩) (v := ?v27) rfl (by kernel_rfl) (by kernel_rfl) (by kernel_rfl) (fun _ _ _ h => h) (Or.inl ⟨by rfl, ?hy27⟩) (by assumption) ?_
          case hy27 => (intro w hSw; (try dsimp only at hSw); go_simp; try (with_reducible rfl))
          (try simp only [Act.put, qa_, qb_, qc_])
          refine wpAnyH_take (i := 10) (oi := ⟨some 78, _, _, _, _, _⟩) (v := ?v28) rfl (by kernel_rfl) (by kernel_rfl) (by kernel_rfl) (fun _ _ _ h => h) (Or.inl ⟨by rfl, ?hy28⟩) (by assumption) ?_
          case hy28 => (intro w hSw; (try dsimp only at hSw); go_simp; try (with_reducible rfl))
          (try simp only [Act.put, qa_, qb_, qc_])
          refine wpAnyH_done (by kernel_rfl) ?_ _
          go_wp2
          go_roundw
          case rel => exact ⟨i + 1, by omega, by go_num, (belx)⟩
          case measure => simp [valI4]; omega
        · have hd0 : decide (0 ≤ cc) = false := decide_eq_false hc0
          go_wp2_with fail
          refine wp_region_held_drew (S := (fun _ => True)) (by kernel_rfl) (by trivial) (fun hHeld => ?_)
          refine wpAnyH_take (i := 0) (oi := ⟨some 68, _, _, _, _, _⟩) (v := ?v29) rfl (by kernel_rfl) (by kernel_rfl) (by kernel_rfl) (fun _ _ _ h => h) (Or.inl ⟨by rfl, ?hy29⟩) (by assumption) ?_
          case hy29 => (intro w hSw; (try dsimp only at hSw); go_simp; try (with_reducible rfl))
          (try simp only [Act.put, qa_, qb_, qc_])
          refine wpAnyH_take (i := 1) (oi := ⟨some 69, _, _, _, _, _⟩) (v := ?v30) rfl (by kernel_rfl) (by kernel_rfl) (by kernel_rfl) (fun _ _ _ h => h) (Or.inl ⟨by rfl, ?hy30⟩) (by assumption) ?_
          case hy30 => (intro w hSw; (try dsimp only at hSw); go_simp; try (with_reducible rfl))
          (try simp only [Act.put, qa_, qb_, qc_])
          refine wpAnyH_take (i := 2) (oi := ⟨some 70, _, _, _, _, _⟩) (v := ?v31) rfl (by kernel_rfl) (by kernel_rfl) (by kernel_rfl) (fun _ _ _ h => h) (Or.inl ⟨by rfl, ?hy31⟩) (by assumption) ?_
          case hy31 => (intro w hSw; (try dsimp only at hSw); go_simp; try (with_reducible rfl))
          (try simp only [Act.put, qa_, qb_, qc_])
          refine wpAnyH_take (i := 3) (oi := ⟨some 71, _, _, _, _, _⟩) (v := undef) rfl (by kernel_rfl) (by kernel_rfl) (by kernel_rfl) (fun _ _ _ h => h) (Or.inr ⟨by rfl, rfl⟩) (by assumption) ?_
          (try simp only [Act.put, qa_, qb_, qc_])
          refine wpAnyH_take (i := 4) (oi := ⟨some 72, _, _, _, _, _⟩) (v := undef) rfl (by kernel_rfl) (by kernel_rfl) (by kernel_rfl) (fun _ _ _ h => h) (Or.inr ⟨by rfl, rfl⟩) (by assumption) ?_
          (try simp only [Act.put, qa_, qb_, qc_])
          refine wpAnyH_take (i := 5) (oi := ⟨some 73, _, _, _, _, _⟩) (v := undef) rfl (by kernel_rfl) (by kernel_rfl) (by kernel_rfl) (fun _ _ _ h => h) (Or.inr ⟨by rfl, rfl⟩) (by assumption) ?_
          (try simp only [Act.put, qa_, qb_, qc_])
          refine wpAnyH_take (i := 6) (oi := ⟨some 74, _, _, _, _, _⟩) (v := undef) rfl (by kernel_rfl) (by kernel_rfl) (by kernel_rfl) (fun _ _ _ h => h) (Or.inr ⟨by rfl, rfl⟩) (by assumption) ?_
          (try simp only [Act.put, qa_, qb_, qc_])
          refine wpAnyH_take (i := 7) (oi := ⟨some 75, _, _, _, _, _⟩) (v := undef) rfl (by kernel_rfl) (by kernel_rfl) (by kernel_rfl) (fun _ _ _ h => h) (Or.inr ⟨by rfl, rfl⟩) (by assumption) ?_
          (try simp only [Act.put, qa_, qb_, qc_])
          refine wpAnyH_take (i := 8) (oi := ⟨some 76, _, _, _, _, _⟩) (v := undef) rfl (by kernel_rfl) (by kernel_rfl) (by kernel_rfl) (fun _ _ _ h => h) (Or.inr ⟨by rfl, rfl⟩) (by assumption) ?_
          (try simp only [Act.put, qa_, qb_, qc_])
          refine wpAnyH_take (i := 9) (oi := ⟨some 77, _, _, _, _, _⟩) (v := undef) rfl (by kernel_rfl) (by kernel_rfl) (by kernel_rfl) (fun _ _ _ h => h) (Or.inr ⟨by rfl, rfl⟩) (by assumption) ?_
          (try simp only [Act.put, qa_, qb_, qc_])
          refine wpAnyH_take (i := 10) (oi := ⟨some 78, _, _, _, _, _⟩) (v := ?v32) rfl (by kernel_rfl) (by kernel_rfl) (by kernel_rfl) (fun _ _ _ h => h) (Or.inl ⟨by rfl, ?hy32⟩) (by assumption) ?_
          case hy32 => (intro w hSw; (try dsimp only at hSw); go_simp; try (with_reducible rfl))
          (try simp only [Act.put, qa_, qb_, qc_])
          refine wpAnyH_done (by kernel_rfl) ?_ _
          go_wp2
          go_roundw
          case rel => exact ⟨i + 1, by omega, by go_num, (belx)⟩
          case measure => simp [valI4]; omega
      · obtain rfl : i = nl := by omega
        have hdl : decide ((i : Int) < (i : Int)) = false := by simp
        go_wp2_with fail
        refine (i_TakePiece hX hzX hQ hzQ hwx).mono ?_
        rintro e w6 ⟨cs6, F6, A6, c6, F7, rfl, hO6, hb6, -, hbe⟩
        have hag : 0 ≤ cc → fTp p' (y0, y1, y2, qd) x = (p', [], -1) := fun h0 => by
          rcases HC.out with ⟨-, -, h⟩ | ⟨-, -, h, -⟩ | ⟨-, -, -, h, -⟩
          · omega
          · exact tk_again HOK.out HIN.out.2.1 HIN.out.2.2 h
          · exact tk_again HOK.out HIN.out.2.1 HIN.out.2.2 h
        have V1 := V1.below hbe V1.size
        have V2 := V2.below hbe V2.size
        have X1 := X1.below hbe X1.size
        have hB7 := bel_trans hB6 hbe
        obtain ⟨E0, f0, -, E1, f1, -, rfl, -⟩ := openODesk hO6
        obtain ⟨p2, b2, kc, hr2⟩ : ∃ p2 b2 kc, fTp p' (y0, y1, y2, qd) x = (p2, b2, kc) := ⟨_, _, _, rfl⟩
        have e1 : (fTp p' (y0, y1, y2, qd) x).1 = p2 := by rw [hr2]
        have e2 : (fTp p' (y0, y1, y2, qd) x).2.1 = b2 := by rw [hr2]
        have e3 : (fTp p' (y0, y1, y2, qd) x).2.2 = kc := by rw [hr2]
        rw [hr2] at hag
        rw [e1, e2, e3]
        obtain ⟨m2, hm2⟩ : ∃ m, p2.1.length = m := ⟨_, rfl⟩
        obtain ⟨m3, hm3⟩ : ∃ m, p2.2.length = m := ⟨_, rfl⟩
        obtain ⟨n6, hn6⟩ : ∃ m, b2.length = m := ⟨_, rfl⟩
        have hag2 : 0 ≤ cc → kc = -1 ∧ n6 = 0 := fun h0 => by
          have h := hag h0
          simp only [Prod.mk.injEq] at h
          exact ⟨h.2.2, by rw [← hn6, h.2.1]; rfl⟩
        rw [hm2, hm3, hn6]
        clear e1 e2 e3 hr2 hag hm2 hm3 hn6 hO6 hb6 v0 v1 k0 k1 k2 k3 x0 x1
        have hxE : Below w6.heap.size w6 (w6.alloc (.cells #[.slice E0 m2 f0, .slice E1 m3 f1] 38)) := bel_alloc (Below.refl _ _) _
        have V1 := V1.alloc (.cells #[.slice E0 m2 f0, .slice E1 m3 f1] 38)
        have X1 := X1.alloc (.cells #[.slice E0 m2 f0, .slice E1 m3 f1] 38)
        have v1 := V1.cell 1
        have x1 := X1.cell 1
        have hB8 := bel_trans hB7 hxE
        have hwn : IntKind.i64.wrap ((n1 : Int) + 1) = (n1 : Int) + 1 := IntWalk.i64_in _ (by have := HN1.out; omega)
        clear V1 X1 V2 hX hQ hxE
        rcases HC.out with ⟨-, hpp, rfl | rfl⟩ | ⟨rfl, hlen, -⟩ | ⟨rfl, -, hpp, -, -, hpos, -⟩
        · have hm : m1 = n1 := by rw [← M1.out, ← HN1.out, hpp]
          have hf : ((m1 : Int) == (n1 : Int) + 1) = false := by rw [beq_eq_false_iff_ne]; omega
          clear hm
          go_wp2_with fail
          refine (l_desks _).mono ?_
          rintro e w9 ⟨rfl, hb9⟩
          go_wp2_with fail
          go_ret
          exact ⟨rfl, bel_trans hB8 hb9⟩
        · have hm : m1 = n1 := by rw [← M1.out, ← HN1.out, hpp]
          have hf : ((m1 : Int) == (n1 : Int) + 1) = false := by rw [beq_eq_false_iff_ne]; omega
          clear hm
          go_wp2_with fail
          refine (l_desks _).mono ?_
          rintro e w9 ⟨rfl, hb9⟩
          go_wp2_with fail
          go_ret
          exact ⟨rfl, bel_trans hB8 hb9⟩
        · obtain ⟨hk2, hn62⟩ := hag2 (by omega)
          clear hag2
          subst hk2 hn62
          have hm : m1 = n1 + 1 := by rw [← M1.out, ← HN1.out]; exact hlen
          have hf : ((m1 : Int) == (n1 : Int) + 1) = true := by rw [beq_iff_eq]; omega
          clear hm
          go_wp2_with fail
          refine (l_desks _).mono ?_
          rintro e w9 ⟨rfl, hb9⟩
          go_wp2_with fail
          go_ret
          exact ⟨rfl, bel_trans hB8 hb9⟩
        · obtain ⟨hk2, hn62⟩ := hag2 (by omega)
          clear hag2
          subst hk2 hn62
          have hm : m1 = n1 := by rw [← M1.out, ← HN1.out, hpp]
          have hf : ((m1 : Int) == (n1 : Int) + 1) = false := by rw [beq_eq_false_iff_ne]; omega
          clear hm
          have hpos : (0 : Int) < (i : Int) := by
            have h : 0 < (fMis p' y0).length := hpos
            rw [HML.out, NL.out] at h; omega
          go_wp2_with fail
          refine (l_desks _).mono ?_
          rintro e w9 ⟨rfl, hb9⟩
          go_wp2_with fail
          go_ret
          exact ⟨rfl, bel_trans hB8 hb9⟩

/-! ### THE ROW's STEP: WRITTEN OUT: LEAVE IT -/
set_option maxRecDepth 100000 in
theorem lifted (os : Os) (started : os.Started) (H : Type) (enc : TypeId × Value → H) :
    ReturnsInHanded {} Try.checked os 4 .any (Rows.fnTakesSpec.pre6 enc Try.prog Try.f4 Rows.fnTakesRow.domain false) (Rows.fnTakesSpec.post enc Try.prog Try.f4 false true false false) := by
  refine returnsInHanded_of_change_sized (C := Try.checked) own started (by kernel_rfl) Try.func4
    (ChangeSpec.witness6 (enc := enc) (C := Try.checked) false ⟨#[], #[.slice none 0 0], []⟩ 8 (by kernel_rfl) (by kernel_rfl) (by kernel_rfl) (by kernel_rfl)) ?_
  intro W base args ds gs before hval0 hW hcnd hsz0 _
  have hval : ∀ (j : Nat) t v, Try.f4.params[j]? = some t → args[j]? = some v → Value.okWide Try.prog W .any base t v := hval0
  have hW' := hW
  obtain ⟨p, q, hA0, hV, rfl, hfz, hnd⟩ := hW
  have hA : DataW.TrodAll enc Try.prog W 0 (fun _ => true) true Try.f4.params.toList args.toList ds p := hA0
  have hsz : (DataW.weightsEach Try.prog (Try.f4.params.toList ++ Rows.fnTakesSpec.plain.varTypes Try.prog) (ds ++ gs)).all (· ≤ reachBytes) = true := hsz0
  rw [Try.params4] at hA hval hsz
  obtain ⟨v0, vs0, d0, ds0, p0, q0, hargs, rfl, rfl, h0, r0⟩ := trodAll_cons hA
  obtain ⟨rfl, rfl, rfl⟩ := trodAll_nil r0
  obtain rfl : args = #[v0] := by cases args; simp_all
  obtain ⟨rfl, rfl⟩ := trodVars_none hV
  obtain ⟨a0, len0, cap0, rfl⟩ := okWide_slice Try.underlying22 (hval 0 22 v0 rfl rfl)
  have k0 := h0
  have lt0 : ∀ x ∈ p0, x.block < W.heap.size := by obtain ⟨m, hm⟩ := k0; exact DataW.trod_lt m _ _ _ hm
  obtain ⟨z0, w0, r0⟩ : ∃ zs, IsRow .u8 W a0 len0 cap0 zs ∧ cap0 ≤ 140737488351232 := by
    obtain ⟨fuel, hf⟩ := h0
    rcases open_ints Try.underlying22 Try.underlying5 (by kernel_rfl) hf with ⟨hcs, _⟩ | ⟨x, l, c, zs, hcs, _, hl, hm, hz, hxx, hcell, hwz⟩
    · simp [Value.cells] at hcs
      obtain ⟨rfl, rfl, rfl⟩ := hcs
      exact ⟨[], .inl ⟨rfl, rfl, rfl, rfl⟩, by omega⟩
    · simp [Value.cells] at hcs
      obtain ⟨rfl, rfl, rfl⟩ := hcs
      have hz' : zs.length = cap0 := by simpa using hz
      refine ⟨zs, .inr ⟨_, rfl, hl, hm, hz', hcell, hwz⟩, ?_⟩
      simp only [Prod.mk.injEq] at hxx
      rw [hxx.1] at hsz
      have h := sized_slice hsz (j := 0) (t := 22) (e := 5) rfl rfl Try.underlying22
      rw [bytes5] at h
      simp only [lits, List.length_map, List.length_take, List.length_drop, reachBytes] at h
      omega
  clear hA0 hval0
  refine (walk a0 len0 cap0 z0 W w0 r0).mono fun e W' ⟨he, bel⟩ => ?_
  subst he
  exact ⟨_, rfl, _, _, _, [], _, [], hW', trodAll_mk1 (shut_bool Try.underlying4 _), (trodAll_cons_mk (Below.trod laidOut (by kernel_rfl) (of_decide_eq_true (by kernel_rfl)) k0 bel lt0) trodAll_mk0), rfl, bel.frame _, fun h => by cases h⟩

theorem over : Rows.fnTakesRow.holds Try.pinned (OpenSpec.ofChange Rows.fnTakesSpec) :=
  OpenClaim.holds_of_wide 4 Try.f4 rfl rfl rfl rfl rfl rfl rfl ⟨rfl, rfl, rfl, rfl, rfl⟩ rfl rfl rfl rfl rfl (by kernel_rfl) Try.func4 (by kernel_rfl)
    (of_decide_eq_true (by kernel_rfl)) (by unfold Func.isWrapper; first | (rw [if_pos (by decide +kernel)]; kernel_rfl) | (rw [if_neg (by decide +kernel)]; exact ⟨rfl, rfl⟩))
    (fun os started H enc _ => lifted os started H enc)

/-- ████ THE STATEMENT ████ -/
theorem proved : Rows.FnTakesSaid := over
#print axioms proved
end Go.Proofs.Ytaabmaoldhoinaa.fnTakes
