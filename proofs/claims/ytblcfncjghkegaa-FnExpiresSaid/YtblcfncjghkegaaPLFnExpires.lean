/-
  For every draw: just cells that are due go, and of the tags the latest are kept. No further condition.
-/
import Derived.Test.YtblcfncjghkegaaPGk
import Derived.Test.YtblcfncjghkegaaPGr
import Derived.Test.YtblcfncjghkegaaRows
import Derived.Below
import Derived.ChangeOld
import Derived.OpenShut
import Derived.ProofKit
import Derived.ShutString
import Derived.SizedLaws
import Derived.WalkKit
namespace Go.Proofs.Ytblcfncjghkegaa.fnExpires
open Go.ChangeShapes Go.WideShapes Go.ChangeAt Go.RowKit
open Go.ChangeMaps (open_string shut_string)
set_option linter.unusedVariables false

theorem bytes5 : Try.prog.bytesOf 5 = 1 := by kernel_rfl
open Go.Proofs.Ytblcfncjghkegaa Fld
theorem own : ownKnob Try.prog.godebug = none := by kernel_rfl
theorem laidOut : laidOutB Try.prog = true := by kernel_rfl

/-- WHAT THE WALK IS TOLD OF A SLICE OF INTEGERS THAT CAME IN: it is nil; or it leads to a row of 'cap' cells, the numbers 'zs' (the first 'len' are its elements, the rest its spare room), each fitting its kind. -/
def IsRow (k : IntKind) (w : World) (a : Option Addr) (len cap : Nat) (zs : List Int) : Prop :=
  (a = none ∧ len = 0 ∧ cap = 0 ∧ zs = []) ∨
  ∃ x, a = some x ∧ len ≤ cap ∧ cap ≤ maxLen ∧ zs.length = cap ∧ (∀ i, i < zs.length → w.cell? (x.add i) = some (.int k (zs.getD i 0))) ∧ ∀ n ∈ zs, (Lit.int k n).wf = true

theorem rowInts {w : World} {a : Option Addr} {n c : Nat} {zs : List Int} (h : IsRow .u8 w a n c zs) : Ints .u8 w w.heap.size a n (zs.take n) ∧ n ≤ c := by
  rcases h with ⟨rfl, rfl, rfl, rfl⟩ | ⟨x, rfl, hl, _, hz, hc, hw⟩
  · exact ⟨Ints.nil, Nat.le_refl _⟩
  · exact ⟨Ints.ofRow (by omega) hc hw, hl⟩
theorem poolShape {w : World} {B : Nat} {v0 v1 : Value} {p : DPool} (h : tPool.R w B [v0, v1] p) : ∃ A0 c0 A1 c1, v0 = .slice A0 p.1.length c0 ∧ v1 = .slice A1 p.2.length c1 := by
  obtain ⟨A0, n0, c0, A1, n1, c1, e, -, -, h0, -, -, -, h1, -⟩ := openPool h
  simp only [List.cons.injEq, and_true] at e
  exact ⟨A0, c0, A1, c1, by rw [e.1, h0], by rw [e.2, h1]⟩
theorem cellsShape {w : World} {B : Nat} {cs : List Value} {p : DPool} (h : tPool.R w B cs p) : ∃ A0 c0 A1 c1, cs = [.slice A0 p.1.length c0, .slice A1 p.2.length c1] := by
  obtain ⟨A0, n0, c0, A1, n1, c1, rfl, -, -, h0, -, -, -, h1, -⟩ := openPool h
  exact ⟨A0, c0, A1, c1, by rw [h0, h1]⟩

/-! ### STEP 1: THE WALK: the Go text returns true, AND WRITES NOTHING THAT WAS THERE: 'Below w.heap.size w w'' (Derived/Below.lean: '.refl', '.alloc', '.drew', '.setCell' at a new block, '.trans'). Open each 'IsRow' by 'rcases' AHEAD of 'go_enter'; part every test ahead of the walk. -/
set_option maxRecDepth 100000 in
set_option maxHeartbeats 2000000 in
theorem walk (a0 : Option Addr) (len0 cap0 : Nat) (z0 : List Int) (w : World) (w0 : IsRow .u8 w a0 len0 cap0 z0) (r0 : cap0 ≤ 140737488351232) :
    Calls Try.prog 4 #[.slice a0 len0 cap0] w fun e w' => e = .returned (.bool true) ∧ Below w.heap.size w w' := by
  obtain ⟨hl, hn⟩ := rowInts w0
  go_enter Try.func4, Try.ntmps4
  go_wp2_with fail
  refine (d_Expire hl (by omega)).mono ?_
  rintro e w1 ⟨v0, v1, p, x, rfl, hP, hS, hxr, hB1⟩
  obtain ⟨A0, a0, A1, a1, rfl, rfl⟩ := poolShape hP
  obtain ⟨n0, hn0⟩ : ∃ m, p.1.length = m := ⟨_, rfl⟩
  obtain ⟨n1, hn1⟩ : ∃ m, p.2.length = m := ⟨_, rfl⟩
  have N0 := Lib.hid hn0
  have N1 := Lib.hid hn1
  rw [hn0, hn1] at hP ⊢
  clear hn0 hn1
  have hz := hS.sz
  have hwx : (Lit.int .i64 x).wf = true := WalkArith.wf_i64 ⟨by omega, by omega⟩
  have m0 : p.1.length ≤ 13 := hS.1
  have m1 : p.2.length ≤ 60 := hS.2.1
  rw [N0.out] at m0
  rw [N1.out] at m1
  have V1 : Box (w1.alloc (.cells #[.slice A0 n0 a0, .slice A1 n1 a1] 26)) w1.heap.size 26 #[.slice A0 n0 a0, .slice A1 n1 a1] := Box.new _ _ _
  have hx1 : Below w1.heap.size w1 (w1.alloc (.cells #[.slice A0 n0 a0, .slice A1 n1 a1] 26)) := bel_alloc (Below.refl _ _) _
  have hP := tPool.reach hP hx1
  have hB2 := bel_trans hB1 hx1
  have k0 := V1.cell 0
  have k1 := V1.cell 1
  go_wp2_with fail
  refine (i_Expire hP hz hwx).mono ?_
  rintro e w2 ⟨cs2, F2, rfl, hO2, -, hb2⟩
  have hX := tPool.read hO2
  obtain ⟨D0, d0, D1, d1, rfl⟩ := cellsShape hX
  obtain ⟨l0, hl0⟩ : ∃ m, (fExp p x).1.length = m := ⟨_, rfl⟩
  obtain ⟨l1, hl1⟩ : ∃ m, (fExp p x).2.length = m := ⟨_, rfl⟩
  have L0 := Lib.hid hl0
  have L1 := Lib.hid hl1
  rw [hl0, hl1] at hX ⊢
  obtain ⟨cN, hcN⟩ : ∃ cN, fExpN p x = cN := ⟨_, rfl⟩
  have HCN := Lib.hid hcN
  rw [hcN]
  clear hl0 hl1 hO2 hcN
  have V2 : Box (w2.alloc (.cells #[.slice D0 l0 d0, .slice D1 l1 d1] 26)) w2.heap.size 26 #[.slice D0 l0 d0, .slice D1 l1 d1] := Box.new _ _ _
  have hx2 : Below w2.heap.size w2 (w2.alloc (.cells #[.slice D0 l0 d0, .slice D1 l1 d1] 26)) := bel_alloc (Below.refl _ _) _
  have hy2 := bel_trans hb2 hx2
  have hP := tPool.reach hP hy2
  have hX := tPool.reach hX hx2
  have V1 := (V1.below hb2 V1.size).alloc (.cells #[.slice D0 l0 d0, .slice D1 l1 d1] 26)
  have hB3 := bel_trans hB2 hy2
  have hlw := reach hl hB3
  clear k0 k1
  go_wp2_with fail
  refine (d_Forget hlw (by omega)).mono ?_
  rintro e w3 ⟨v0, v1, q, kp, rfl, hQ, hT, hkr, hb3⟩
  obtain ⟨B0, c0, B1, c1, rfl, rfl⟩ := poolShape hQ
  obtain ⟨b0, hb0⟩ : ∃ m, q.1.length = m := ⟨_, rfl⟩
  obtain ⟨b1, hb1⟩ : ∃ m, q.2.length = m := ⟨_, rfl⟩
  have M0 := Lib.hid hb0
  have M1 := Lib.hid hb1
  rw [hb0, hb1] at hQ ⊢
  clear hb0 hb1
  have hzq := hT.sz
  have hwk : (Lit.int .i64 kp).wf = true := WalkArith.wf_i64 ⟨by omega, by omega⟩
  have m2 : q.2.length ≤ 60 := hT.2.1
  rw [M1.out] at m2
  have V3 : Box (w3.alloc (.cells #[.slice B0 b0 c0, .slice B1 b1 c1] 26)) w3.heap.size 26 #[.slice B0 b0 c0, .slice B1 b1 c1] := Box.new _ _ _
  have hx3 : Below w3.heap.size w3 (w3.alloc (.cells #[.slice B0 b0 c0, .slice B1 b1 c1] 26)) := bel_alloc (Below.refl _ _) _
  have hy3 := bel_trans hb3 hx3
  have hP := tPool.reach hP hy3
  have hX := tPool.reach hX hy3
  have hQ := tPool.reach hQ hx3
  have V1 := (V1.below hb3 V1.size).alloc (.cells #[.slice B0 b0 c0, .slice B1 b1 c1] 26)
  have V2 := (V2.below hb3 V2.size).alloc (.cells #[.slice B0 b0 c0, .slice B1 b1 c1] 26)
  have hB4 := bel_trans hB3 hy3
  have k0 := V3.cell 0
  have k1 := V3.cell 1
  go_wp2_with fail
  refine (i_Forget hQ hzq hwk).mono ?_
  rintro e w4 ⟨cs4, F4, rfl, hO4, -, hb4⟩
  have hY := tPool.read hO4
  obtain ⟨E0, e0, E1, e1, rfl⟩ := cellsShape hY
  obtain ⟨y0, hy0⟩ : ∃ m, (fForget q kp).1.length = m := ⟨_, rfl⟩
  obtain ⟨y1, hy1⟩ : ∃ m, (fForget q kp).2.length = m := ⟨_, rfl⟩
  have Y0 := Lib.hid hy0
  have Y1 := Lib.hid hy1
  rw [hy0, hy1] at hY ⊢
  clear hy0 hy1 hO4
  have V4 : Box (w4.alloc (.cells #[.slice E0 y0 e0, .slice E1 y1 e1] 26)) w4.heap.size 26 #[.slice E0 y0 e0, .slice E1 y1 e1] := Box.new _ _ _
  have hx4 : Below w4.heap.size w4 (w4.alloc (.cells #[.slice E0 y0 e0, .slice E1 y1 e1] 26)) := bel_alloc (Below.refl _ _) _
  have hy4 := bel_trans hb4 hx4
  have hP := tPool.reach hP hy4
  have hX := tPool.reach hX hy4
  have hQ := tPool.reach hQ hy4
  have hY := tPool.reach hY hx4
  have V1 := (V1.below hb4 V1.size).alloc (.cells #[.slice E0 y0 e0, .slice E1 y1 e1] 26)
  have V2 := (V2.below hb4 V2.size).alloc (.cells #[.slice E0 y0 e0, .slice E1 y1 e1] 26)
  have V3 := (V3.below hb4 V3.size).alloc (.cells #[.slice E0 y0 e0, .slice E1 y1 e1] 26)
  have hB5 := bel_trans hB4 hy4
  clear hx1 hx2 hx3 hy2 hy3 hb2 hb3 hb4 k0 k1 hlw
  go_upto_region 5 with fail
  obtain ⟨wA, hwA⟩ : ∃ wA, w4.alloc (.cells #[.slice E0 y0 e0, .slice E1 y1 e1] 26) = wA := ⟨_, rfl⟩
  rw [hwA] at hP hX hQ hY V1 V2 V3 V4 hB5 ⊢
  clear hwA hx4 hy4
  go_cut [38] (fun t38 wc => t38 = .bool (decide (PlOk q ∧ 0 ≤ kp)) ∧ Below wA.heap.size wA wc)
  case first =>
    have k0 := V3.cell 0
    have k1 := V3.cell 1
    go_wp2_with fail
    refine (s_PoolOk hQ hzq).mono ?_
    rintro e w5 ⟨rfl, hb5⟩
    by_cases hq : PlOk q
    · rw [decide_eq_true hq]
      by_cases hk : 0 ≤ kp
      · have hdk : decide (0 ≤ kp) = true := decide_eq_true hk
        have hQK : decide (PlOk q ∧ 0 ≤ kp) = true := decide_eq_true ⟨hq, hk⟩
        clear hq
        go_wp2_with fail
        go_meet
        exact ⟨by rw [hQK], hb5⟩
      · have hdk : decide (0 ≤ kp) = false := decide_eq_false hk
        have hQK : decide (PlOk q ∧ 0 ≤ kp) = false := decide_eq_false fun h => hk h.2
        clear hq
        go_wp2_with fail
        go_meet
        exact ⟨by rw [hQK], hb5⟩
    · have hQK : decide (PlOk q ∧ 0 ≤ kp) = false := decide_eq_false fun h => hq h.1
      rw [decide_eq_false hq]
      clear hq
      go_wp2_with fail
      go_meet
      exact ⟨by rw [hQK], hb5⟩
  case rest =>
  obtain ⟨rfl, hbA⟩ := hcut
  go_upto_if 38 with fail
  have hP := tPool.reach hP hbA
  have hX := tPool.reach hX hbA
  have hQ := tPool.reach hQ hbA
  have hY := tPool.reach hY hbA
  have V1 := V1.below hbA V1.size
  have V2 := V2.below hbA V2.size
  have V3 := V3.below hbA V3.size
  have V4 := V4.below hbA V4.size
  have hB6 := bel_trans hB5 hbA
  rename World => w5
  go_cut [] (fun wc => Below w5.heap.size w5 wc)
  case first =>
    by_cases hqk : PlOk q ∧ 0 ≤ kp
    rotate_left
    · rw [decide_eq_false hqk]
      clear hqk
      go_wp2_with fail
      go_meet
      exact Below.refl _ _
    · rw [decide_eq_true hqk]
      have hql : q.1.length ≤ 12 := hqk.1.1.1
      obtain ⟨kq, rfl⟩ : ∃ kq : Nat, kp = kq := ⟨kp.toNat, by omega⟩
      have hFg := fForget_t hqk.1 hqk.2
      rw [Int.toNat_natCast] at hFg
      have HF := Lib.hid hFg
      have yy0 : y0 = b0 := by rw [← Y0.out, ← M0.out, hFg]
      have yy1 : y1 = min kq b1 := by rw [← Y1.out, ← M1.out, hFg]; exact fgt_len _ _
      have HE : (fForget q (kq : Int)).2 = q.2.drop (b1 - kq) := by rw [hFg]; show fgt kq q.2 = _; unfold fgt; rw [M1.out]
      have HEH := Lib.hid HE
      subst yy0
      clear hFg HE hqk
      obtain ⟨_, _, _, _, _, _, ea, -, -, -, -, -, -, -, hYr⟩ := openPool hY
      simp only [List.cons.injEq, Value.slice.injEq, and_true] at ea
      obtain ⟨⟨rfl, rfl, rfl⟩, ⟨rfl, rfl, rfl⟩⟩ := ea
      have hY := (slR_ints hYr).1
      rw [HEH.out] at hY
      obtain ⟨_, _, _, _, _, _, ea, -, -, -, -, -, -, -, hQr⟩ := openPool hQ
      simp only [List.cons.injEq, Value.slice.injEq, and_true] at ea
      obtain ⟨⟨rfl, rfl, rfl⟩, ⟨rfl, rfl, rfl⟩⟩ := ea
      obtain ⟨hQi, hQc, hQm⟩ := slR_ints hQr
      have q0 := V4.cell 1
      have q1 := V4.cell 0
      have q2 := V3.cell 1
      have q3 := V3.cell 0
      have hf : (y0 == y0) = true := by simp
      have hne : ((y0 : Int) == (y0 : Int)) = true := by simp
      clear hYr hQr HEH
      by_cases hlt : kq < b1
      · obtain ⟨m, rfl⟩ : ∃ m, b1 = m + kq := ⟨b1 - kq, by omega⟩
        have yy : y1 = kq := by omega
        clear yy1
        subst yy
        obtain ⟨b, off, rfl, -⟩ := hQi.2.1 (by omega)
        have hSl := tail5 hQi m (by omega)
        rw [show m + y1 - m = y1 from by omega] at hSl
        rw [show m + y1 - y1 = m from by omega] at hY
        have hd1 : decide ((y1 : Int) < ((m + y1 : Nat) : Int)) = true := decide_eq_true (by omega)
        have hd2 : IntKind.i64.wrap (m : Int) = (m : Int) := IntWalk.i64_in _ (by omega)
        have hd4 : (m : Int) ≤ (m : Int) + (y1 : Int) := by omega
        have hd5 : m + y1 - m = y1 := by omega
        by_cases he : c1 = m
        · have hSl0 : Ints .i64 w5 w5.heap.size (some ⟨b, off, none⟩) y1 (q.2.drop m) := by
            have h0 : y1 = 0 := by omega
            have h1 : q.2.drop m = [] := List.eq_nil_of_length_eq_zero (by rw [List.length_drop, M1.out]; omega)
            rw [h1, h0]
            exact Ints.nil
          obtain rfl : m = c1 := he.symm
          have hk : ∀ W, Below w5.heap.size w5 W → (fun w' => w'.cell? ⟨w4.heap.size, 1, none⟩ = some (.slice E1 y1 e1) ∧ w'.cell? ⟨w4.heap.size, 0, none⟩ = some (.slice E0 y0 e0) ∧ w'.cell? ⟨w3.heap.size, 1, none⟩ = some (.slice (some ⟨b, off, none⟩) (m + y1) m) ∧ w'.cell? ⟨w3.heap.size, 0, none⟩ = some (.slice B0 y0 c0)) W := fun W hW => ⟨cell_bel hW q0, cell_bel hW q1, cell_bel hW q2, cell_bel hW q3⟩
          go_wp2_with fail
          refine wp_region_held_drew (S := (fun w' => w'.cell? ⟨w4.heap.size, 1, none⟩ = some (.slice E1 y1 e1) ∧ w'.cell? ⟨w4.heap.size, 0, none⟩ = some (.slice E0 y0 e0) ∧ w'.cell? ⟨w3.heap.size, 1, none⟩ = some (.slice (some ⟨b, off, none⟩) (m + y1) m) ∧ w'.cell? ⟨w3.heap.size, 0, none⟩ = some (.slice B0 y0 c0))) (by kernel_rfl) (by exact hk _ (belx)) (fun hHeld => ?_)
          refine wpAnyH_take (i := 0) (oi := ⟨some 46, _, _, _, _, _⟩) (v := ?v49) rfl (by kernel_rfl) (by kernel_rfl) (by kernel_rfl) (fun _ _ _ h => h) (Or.inl ⟨by rfl, ?hy49⟩) (by assumption) ?_
          case hy49 => (intro w hSw; (try dsimp only at hSw); go_simp; try (with_reducible rfl))
          (try simp only [Act.put, qa_, qb_, qc_])
          refine wpAnyH_take (i := 1) (oi := ⟨some 47, _, _, _, _, _⟩) (v := ?v50) rfl (by kernel_rfl) (by kernel_rfl) (by kernel_rfl) (fun _ _ _ h => h) (Or.inl ⟨by rfl, ?hy50⟩) (by assumption) ?_
          case hy50 => (intro w hSw; (try dsimp only at hSw); go_simp; try (with_reducible rfl))
          (try simp only [Act.put, qa_, qb_, qc_])
          refine wpAnyH_take (i := 2) (oi := ⟨some 48, _, _, _, _, _⟩) (v := ?v51) rfl (by kernel_rfl) (by kernel_rfl) (by kernel_rfl) (fun _ _ _ h => h) (Or.inl ⟨by rfl, ?hy51⟩) (by assumption) ?_
          case hy51 => (intro w hSw; (try dsimp only at hSw); go_simp; try (with_reducible rfl))
          (try simp only [Act.put, qa_, qb_, qc_])
          refine wpAnyH_take (i := 3) (oi := ⟨some 49, _, _, _, _, _⟩) (v := ?v52) rfl (by kernel_rfl) (by kernel_rfl) (by kernel_rfl) (fun _ _ _ h => h) (Or.inl ⟨by rfl, ?hy52⟩) (by assumption) ?_
          case hy52 => (intro w hSw; (try dsimp only at hSw); go_simp; try (with_reducible rfl))
          (try simp only [Act.put, qa_, qb_, qc_])
          refine wpAnyH_take (i := 4) (oi := ⟨some 50, _, _, _, _, _⟩) (v := ?v53) rfl (by kernel_rfl) (by kernel_rfl) (by kernel_rfl) (fun _ _ _ h => h) (Or.inl ⟨by rfl, ?hy53⟩) (by assumption) ?_
          case hy53 => (intro w hSw; (try dsimp only at hSw); go_simp; try (with_reducible rfl))
          (try simp only [Act.put, qa_, qb_, qc_])
          refine wpAnyH_take (i := 5) (oi := ⟨some 51, _, _, _, _, _⟩) (v := ?v54) rfl (by kernel_rfl) (by kernel_rfl) (by kernel_rfl) (fun _ _ _ h => h) (Or.inl ⟨by rfl, ?hy54⟩) (by assumption) ?_
          case hy54 => (intro w hSw; (try dsimp only at hSw); go_simp; try (with_reducible rfl))
          (try simp only [Act.put, qa_, qb_, qc_])
          refine wpAnyH_take (i := 6) (oi := ⟨some 52, _, _, _, _, _⟩) (v := ?v55) rfl (by kernel_rfl) (by kernel_rfl) (by kernel_rfl) (fun _ _ _ h => h) (Or.inl ⟨by rfl, ?hy55⟩) (by assumption) ?_
          case hy55 => (intro w hSw; (try dsimp only at hSw); go_simp; try (with_reducible rfl))
          (try simp only [Act.put, qa_, qb_, qc_])
          refine wpAnyH_take (i := 7) (oi := ⟨some 53, _, _, _, _, _⟩) (v := ?v56) rfl (by kernel_rfl) (by kernel_rfl) (by kernel_rfl) (fun _ _ _ h => h) (Or.inl ⟨by rfl, ?hy56⟩) (by assumption) ?_
          case hy56 => (intro w hSw; (try dsimp only at hSw); go_simp; try (with_reducible rfl))
          (try simp only [Act.put, qa_, qb_, qc_])
          refine wpAnyH_take (i := 8) (oi := ⟨some 54, _, _, _, _, _⟩) (v := ?v57) rfl (by kernel_rfl) (by kernel_rfl) (by kernel_rfl) (fun _ _ _ h => h) (Or.inl ⟨by rfl, ?hy57⟩) (by assumption) ?_
          case hy57 => (intro w hSw; (try dsimp only at hSw); go_simp; try (with_reducible rfl))
          (try simp only [Act.put, qa_, qb_, qc_])
          refine wpAnyH_take (i := 9) (oi := ⟨some 55, _, _, _, _, _⟩) (v := ?v58) rfl (by kernel_rfl) (by kernel_rfl) (by kernel_rfl) (fun _ _ _ h => h) (Or.inl ⟨by rfl, ?hy58⟩) (by assumption) ?_
          case hy58 => (intro w hSw; (try dsimp only at hSw); go_simp; try (with_reducible rfl))
          (try simp only [Act.put, qa_, qb_, qc_])
          refine wpAnyH_ready (rs := [10]) (by kernel_rfl) (by simp) ?_
          refine AllReadyH.cons rfl (fun K hK => ?_) ?_
          · go_simp
            go_at_call 21
            refine (l_sameInts (reach hY (belx)) (reach hSl0 (belx)) (by unfold maxLen; omega) (by unfold maxLen; omega)).mono ?_
            rintro e w21 ⟨rfl, hb21⟩
            rw [show decide (q.2.drop m = q.2.drop m) = true from by simp]
            have hs1 : Below w5.heap.size w5 w21 := bel_trans (belx) hb21
            go_wp2_with fail
            refine hK.out _ _ (by exact hk _ hs1) (fun hHeld => ?_)
            clear hK K
            (try simp only [Act.put, qa_, qb_, qc_])
            refine wpAnyH_take (i := 11) (oi := ⟨some 57, _, _, _, _, _⟩) (v := ?v59) rfl (by kernel_rfl) (by kernel_rfl) (by kernel_rfl) (fun _ _ _ h => h) (Or.inl ⟨by rfl, ?hy59⟩) (by assumption) ?_
            case hy59 => (intro w hSw; (try dsimp only at hSw); go_simp; try (with_reducible rfl))
            (try simp only [Act.put, qa_, qb_, qc_])
            refine wpAnyH_take (i := 12) (oi := ⟨some 58, _, _, _, _, _⟩) (v := ?v60) rfl (by kernel_rfl) (by kernel_rfl) (by kernel_rfl) (fun _ _ _ h => h) (Or.inl ⟨by rfl, ?hy60⟩) (by assumption) ?_
            case hy60 => (intro w hSw; (try dsimp only at hSw); go_simp; try (with_reducible rfl))
            (try simp only [Act.put, qa_, qb_, qc_])
            refine wpAnyH_take (i := 13) (oi := ⟨some 59, _, _, _, _, _⟩) (v := ?v61) rfl (by kernel_rfl) (by kernel_rfl) (by kernel_rfl) (fun _ _ _ h => h) (Or.inl ⟨by rfl, ?hy61⟩) (by assumption) ?_
            case hy61 => (intro w hSw; (try dsimp only at hSw); go_simp; try (with_reducible rfl))
            (try simp only [Act.put, qa_, qb_, qc_])
            refine wpAnyH_take (i := 14) (oi := ⟨some 60, _, _, _, _, _⟩) (v := ?v62) rfl (by kernel_rfl) (by kernel_rfl) (by kernel_rfl) (fun _ _ _ h => h) (Or.inl ⟨by rfl, ?hy62⟩) (by assumption) ?_
            case hy62 => (intro w hSw; (try dsimp only at hSw); go_simp; try (with_reducible rfl))
            (try simp only [Act.put, qa_, qb_, qc_])
            refine wpAnyH_take (i := 15) (oi := ⟨some 61, _, _, _, _, _⟩) (v := ?v63) rfl (by kernel_rfl) (by kernel_rfl) (by kernel_rfl) (fun _ _ _ h => h) (Or.inl ⟨by rfl, ?hy63⟩) (by assumption) ?_
            case hy63 => (intro w hSw; (try dsimp only at hSw); go_simp; try (with_reducible rfl))
            (try simp only [Act.put, qa_, qb_, qc_])
            refine wpAnyH_take (i := 16) (oi := ⟨some 62, _, _, _, _, _⟩) (v := ?v64) rfl (by kernel_rfl) (by kernel_rfl) (by kernel_rfl) (fun _ _ _ h => h) (Or.inl ⟨by rfl, ?hy64⟩) (by assumption) ?_
            case hy64 => (intro w hSw; (try dsimp only at hSw); go_simp; try (with_reducible rfl))
            (try simp only [Act.put, qa_, qb_, qc_])
            refine wpAnyH_take (i := 17) (oi := ⟨some 63, _, _, _, _, _⟩) (v := ?v65) rfl (by kernel_rfl) (by kernel_rfl) (by kernel_rfl) (fun _ _ _ h => h) (Or.inl ⟨by rfl, ?hy65⟩) (by assumption) ?_
            case hy65 => (intro w hSw; (try dsimp only at hSw); go_simp; try (with_reducible rfl))
            (try simp only [Act.put, qa_, qb_, qc_])
            refine wpAnyH_take (i := 18) (oi := ⟨some 64, _, _, _, _, _⟩) (v := ?v66) rfl (by kernel_rfl) (by kernel_rfl) (by kernel_rfl) (fun _ _ _ h => h) (Or.inl ⟨by rfl, ?hy66⟩) (by assumption) ?_
            case hy66 => (intro w hSw; (try dsimp only at hSw); go_simp; try (with_reducible rfl))
            (try simp only [Act.put, qa_, qb_, qc_])
            refine wpAnyH_take (i := 19) (oi := ⟨some 65, _, _, _, _, _⟩) (v := ?v67) rfl (by kernel_rfl) (by kernel_rfl) (by kernel_rfl) (fun _ _ _ h => h) (Or.inl ⟨by rfl, ?hy67⟩) (by assumption) ?_
            case hy67 => (intro w hSw; (try dsimp only at hSw); go_simp; try (with_reducible rfl))
            (try simp only [Act.put, qa_, qb_, qc_])
            refine wpAnyH_take (i := 20) (oi := ⟨some 66, _, _, _, _, _⟩) (v := ?v68) rfl (by kernel_rfl) (by kernel_rfl) (by kernel_rfl) (fun _ _ _ h => h) (Or.inl ⟨by rfl, ?hy68⟩) (by assumption) ?_
            case hy68 => (intro w hSw; (try dsimp only at hSw); go_simp; try (with_reducible rfl))
            (try simp only [Act.put, qa_, qb_, qc_])
            refine wpAnyH_done (by kernel_rfl) ?_ _
            go_wp2_with fail
            go_meet
            exact hs1
          exact AllReadyH.nil
        · have hk : ∀ W, Below w5.heap.size w5 W → (fun w' => w'.cell? ⟨w4.heap.size, 1, none⟩ = some (.slice E1 y1 e1) ∧ w'.cell? ⟨w4.heap.size, 0, none⟩ = some (.slice E0 y0 e0) ∧ w'.cell? ⟨w3.heap.size, 1, none⟩ = some (.slice (some ⟨b, off, none⟩) (m + y1) c1) ∧ w'.cell? ⟨w3.heap.size, 0, none⟩ = some (.slice B0 y0 c0)) W := fun W hW => ⟨cell_bel hW q0, cell_bel hW q1, cell_bel hW q2, cell_bel hW q3⟩
          go_wp2_with fail
          refine wp_region_held_drew (S := (fun w' => w'.cell? ⟨w4.heap.size, 1, none⟩ = some (.slice E1 y1 e1) ∧ w'.cell? ⟨w4.heap.size, 0, none⟩ = some (.slice E0 y0 e0) ∧ w'.cell? ⟨w3.heap.size, 1, none⟩ = some (.slice (some ⟨b, off, none⟩) (m + y1) c1) ∧ w'.cell? ⟨w3.heap.size, 0, none⟩ = some (.slice B0 y0 c0))) (by kernel_rfl) (by exact hk _ (belx)) (fun hHeld => ?_)
          refine wpAnyH_take (i := 0) (oi := ⟨some 46, _, _, _, _, _⟩) (v := ?v69) rfl (by kernel_rfl) (by kernel_rfl) (by kernel_rfl) (fun _ _ _ h => h) (Or.inl ⟨by rfl, ?hy69⟩) (by assumption) ?_
          case hy69 => (intro w hSw; (try dsimp only at hSw); go_simp; try (with_reducible rfl))
          (try simp only [Act.put, qa_, qb_, qc_])
          refine wpAnyH_take (i := 1) (oi := ⟨some 47, _, _, _, _, _⟩) (v := ?v70) rfl (by kernel_rfl) (by kernel_rfl) (by kernel_rfl) (fun _ _ _ h => h) (Or.inl ⟨by rfl, ?hy70⟩) (by assumption) ?_
          case hy70 => (intro w hSw; (try dsimp only at hSw); go_simp; try (with_reducible rfl))
          (try simp only [Act.put, qa_, qb_, qc_])
          refine wpAnyH_take (i := 2) (oi := ⟨some 48, _, _, _, _, _⟩) (v := ?v71) rfl (by kernel_rfl) (by kernel_rfl) (by kernel_rfl) (fun _ _ _ h => h) (Or.inl ⟨by rfl, ?hy71⟩) (by assumption) ?_
          case hy71 => (intro w hSw; (try dsimp only at hSw); go_simp; try (with_reducible rfl))
          (try simp only [Act.put, qa_, qb_, qc_])
          refine wpAnyH_take (i := 3) (oi := ⟨some 49, _, _, _, _, _⟩) (v := ?v72) rfl (by kernel_rfl) (by kernel_rfl) (by kernel_rfl) (fun _ _ _ h => h) (Or.inl ⟨by rfl, ?hy72⟩) (by assumption) ?_
          case hy72 => (intro w hSw; (try dsimp only at hSw); go_simp; try (with_reducible rfl))
          (try simp only [Act.put, qa_, qb_, qc_])
          refine wpAnyH_take (i := 4) (oi := ⟨some 50, _, _, _, _, _⟩) (v := ?v73) rfl (by kernel_rfl) (by kernel_rfl) (by kernel_rfl) (fun _ _ _ h => h) (Or.inl ⟨by rfl, ?hy73⟩) (by assumption) ?_
          case hy73 => (intro w hSw; (try dsimp only at hSw); go_simp; try (with_reducible rfl))
          (try simp only [Act.put, qa_, qb_, qc_])
          refine wpAnyH_take (i := 5) (oi := ⟨some 51, _, _, _, _, _⟩) (v := ?v74) rfl (by kernel_rfl) (by kernel_rfl) (by kernel_rfl) (fun _ _ _ h => h) (Or.inl ⟨by rfl, ?hy74⟩) (by assumption) ?_
          case hy74 => (intro w hSw; (try dsimp only at hSw); go_simp; try (with_reducible rfl))
          (try simp only [Act.put, qa_, qb_, qc_])
          refine wpAnyH_take (i := 6) (oi := ⟨some 52, _, _, _, _, _⟩) (v := ?v75) rfl (by kernel_rfl) (by kernel_rfl) (by kernel_rfl) (fun _ _ _ h => h) (Or.inl ⟨by rfl, ?hy75⟩) (by assumption) ?_
          case hy75 => (intro w hSw; (try dsimp only at hSw); go_simp; try (with_reducible rfl))
          (try simp only [Act.put, qa_, qb_, qc_])
          refine wpAnyH_take (i := 7) (oi := ⟨some 53, _, _, _, _, _⟩) (v := ?v76) rfl (by kernel_rfl) (by kernel_rfl) (by kernel_rfl) (fun _ _ _ h => h) (Or.inl ⟨by rfl, ?hy76⟩) (by assumption) ?_
          case hy76 => (intro w hSw; (try dsimp only at hSw); go_simp; try (with_reducible rfl))
          (try simp only [Act.put, qa_, qb_, qc_])
          refine wpAnyH_take (i := 8) (oi := ⟨some 54, _, _, _, _, _⟩) (v := ?v77) rfl (by kernel_rfl) (by kernel_rfl) (by kernel_rfl) (fun _ _ _ h => h) (Or.inl ⟨by rfl, ?hy77⟩) (by assumption) ?_
          case hy77 => (intro w hSw; (try dsimp only at hSw); go_simp; try (with_reducible rfl))
          (try simp only [Act.put, qa_, qb_, qc_])
          refine wpAnyH_take (i := 9) (oi := ⟨some 55, _, _, _, _, _⟩) (v := ?v78) rfl (by kernel_rfl) (by kernel_rfl) (by kernel_rfl) (fun _ _ _ h => h) (Or.inl ⟨by rfl, ?hy78⟩) (by assumption) ?_
          case hy78 => (intro w hSw; (try dsimp only at hSw); go_simp; try (with_reducible rfl))
          (try simp only [Act.put, qa_, qb_, qc_])
          refine wpAnyH_ready (rs := [10]) (by kernel_rfl) (by simp) ?_
          refine AllReadyH.cons rfl (fun K hK => ?_) ?_
          · go_simp
            go_at_call 21
            refine (l_sameInts (reach hY (belx)) (reach hSl (belx)) (by unfold maxLen; omega) (by unfold maxLen; omega)).mono ?_
            rintro e w21 ⟨rfl, hb21⟩
            rw [show decide (q.2.drop m = q.2.drop m) = true from by simp]
            have hs1 : Below w5.heap.size w5 w21 := bel_trans (belx) hb21
            go_wp2_with fail
            refine hK.out _ _ (by exact hk _ hs1) (fun hHeld => ?_)
            clear hK K
            (try simp only [Act.put, qa_, qb_, qc_])
            refine wpAnyH_take (i := 11) (oi := ⟨some 57, _, _, _, _, _⟩) (v := ?v79) rfl (by kernel_rfl) (by kernel_rfl) (by kernel_rfl) (fun _ _ _ h => h) (Or.inl ⟨by rfl, ?hy79⟩) (by assumption) ?_
            case hy79 => (intro w hSw; (try dsimp only at hSw); go_simp; try (with_reducible rfl))
            (try simp only [Act.put, qa_, qb_, qc_])
            refine wpAnyH_take (i := 12) (oi := ⟨some 58, _, _, _, _, _⟩) (v := ?v80) rfl (by kernel_rfl) (by kernel_rfl) (by kernel_rfl) (fun _ _ _ h => h) (Or.inl ⟨by rfl, ?hy80⟩) (by assumption) ?_
            case hy80 => (intro w hSw; (try dsimp only at hSw); go_simp; try (with_reducible rfl))
            (try simp only [Act.put, qa_, qb_, qc_])
            refine wpAnyH_take (i := 13) (oi := ⟨some 59, _, _, _, _, _⟩) (v := ?v81) rfl (by kernel_rfl) (by kernel_rfl) (by kernel_rfl) (fun _ _ _ h => h) (Or.inl ⟨by rfl, ?hy81⟩) (by assumption) ?_
            case hy81 => (intro w hSw; (try dsimp only at hSw); go_simp; try (with_reducible rfl))
            (try simp only [Act.put, qa_, qb_, qc_])
            refine wpAnyH_take (i := 14) (oi := ⟨some 60, _, _, _, _, _⟩) (v := ?v82) rfl (by kernel_rfl) (by kernel_rfl) (by kernel_rfl) (fun _ _ _ h => h) (Or.inl ⟨by rfl, ?hy82⟩) (by assumption) ?_
            case hy82 => (intro w hSw; (try dsimp only at hSw); go_simp; try (with_reducible rfl))
            (try simp only [Act.put, qa_, qb_, qc_])
            refine wpAnyH_take (i := 15) (oi := ⟨some 61, _, _, _, _, _⟩) (v := ?v83) rfl (by kernel_rfl) (by kernel_rfl) (by kernel_rfl) (fun _ _ _ h => h) (Or.inl ⟨by rfl, ?hy83⟩) (by assumption) ?_
            case hy83 => (intro w hSw; (try dsimp only at hSw); go_simp; try (with_reducible rfl))
            (try simp only [Act.put, qa_, qb_, qc_])
            refine wpAnyH_take (i := 16) (oi := ⟨some 62, _, _, _, _, _⟩) (v := ?v84) rfl (by kernel_rfl) (by kernel_rfl) (by kernel_rfl) (fun _ _ _ h => h) (Or.inl ⟨by rfl, ?hy84⟩) (by assumption) ?_
            case hy84 => (intro w hSw; (try dsimp only at hSw); go_simp; try (with_reducible rfl))
            (try simp only [Act.put, qa_, qb_, qc_])
            refine wpAnyH_take (i := 17) (oi := ⟨some 63, _, _, _, _, _⟩) (v := ?v85) rfl (by kernel_rfl) (by kernel_rfl) (by kernel_rfl) (fun _ _ _ h => h) (Or.inl ⟨by rfl, ?hy85⟩) (by assumption) ?_
            case hy85 => (intro w hSw; (try dsimp only at hSw); go_simp; try (with_reducible rfl))
            (try simp only [Act.put, qa_, qb_, qc_])
            refine wpAnyH_take (i := 18) (oi := ⟨some 64, _, _, _, _, _⟩) (v := ?v86) rfl (by kernel_rfl) (by kernel_rfl) (by kernel_rfl) (fun _ _ _ h => h) (Or.inl ⟨by rfl, ?hy86⟩) (by assumption) ?_
            case hy86 => (intro w hSw; (try dsimp only at hSw); go_simp; try (with_reducible rfl))
            (try simp only [Act.put, qa_, qb_, qc_])
            refine wpAnyH_take (i := 19) (oi := ⟨some 65, _, _, _, _, _⟩) (v := ?v87) rfl (by kernel_rfl) (by kernel_rfl) (by kernel_rfl) (fun _ _ _ h => h) (Or.inl ⟨by rfl, ?hy87⟩) (by assumption) ?_
            case hy87 => (intro w hSw; (try dsimp only at hSw); go_simp; try (with_reducible rfl))
            (try simp only [Act.put, qa_, qb_, qc_])
            refine wpAnyH_take (i := 20) (oi := ⟨some 66, _, _, _, _, _⟩) (v := ?v88) rfl (by kernel_rfl) (by kernel_rfl) (by kernel_rfl) (fun _ _ _ h => h) (Or.inl ⟨by rfl, ?hy88⟩) (by assumption) ?_
            case hy88 => (intro w hSw; (try dsimp only at hSw); go_simp; try (with_reducible rfl))
            (try simp only [Act.put, qa_, qb_, qc_])
            refine wpAnyH_done (by kernel_rfl) ?_ _
            go_wp2_with fail
            go_meet
            exact hs1
          exact AllReadyH.nil
      · have yy : y1 = b1 := by omega
        clear yy1
        subst yy
        have hd1 : decide ((kq : Int) < (y1 : Int)) = false := decide_eq_false (by omega)
        rw [show q.2.drop (y1 - kq) = q.2 from by rw [show y1 - kq = 0 from by omega]; rfl] at hY
        have hd2 : IntKind.i64.wrap 0 = 0 := IntWalk.i64_in _ (by omega)
        have hd4 : (0 : Int) ≤ (y1 : Int) := by omega
        by_cases hz0 : y1 = 0
        · have hnil : ∀ A, Ints .i64 w5 w5.heap.size A 0 q.2 := fun A => by
            rw [List.eq_nil_of_length_eq_zero (show q.2.length = 0 from by rw [M1.out]; exact hz0)]
            exact Ints.nil
          subst hz0
          by_cases he : c1 = 0
          · subst he
            have hk : ∀ W, Below w5.heap.size w5 W → (fun w' => w'.cell? ⟨w4.heap.size, 1, none⟩ = some (.slice E1 0 e1) ∧ w'.cell? ⟨w4.heap.size, 0, none⟩ = some (.slice E0 y0 e0) ∧ w'.cell? ⟨w3.heap.size, 1, none⟩ = some (.slice B1 0 0) ∧ w'.cell? ⟨w3.heap.size, 0, none⟩ = some (.slice B0 y0 c0)) W := fun W hW => ⟨cell_bel hW q0, cell_bel hW q1, cell_bel hW q2, cell_bel hW q3⟩
            go_wp2_with fail
            refine wp_region_held_drew (S := (fun w' => w'.cell? ⟨w4.heap.size, 1, none⟩ = some (.slice E1 0 e1) ∧ w'.cell? ⟨w4.heap.size, 0, none⟩ = some (.slice E0 y0 e0) ∧ w'.cell? ⟨w3.heap.size, 1, none⟩ = some (.slice B1 0 0) ∧ w'.cell? ⟨w3.heap.size, 0, none⟩ = some (.slice B0 y0 c0))) (by kernel_rfl) (by exact hk _ (belx)) (fun hHeld => ?_)
            refine wpAnyH_take (i := 0) (oi := ⟨some 46, _, _, _, _, _⟩) (v := ?v89) rfl (by kernel_rfl) (by kernel_rfl) (by kernel_rfl) (fun _ _ _ h => h) (Or.inl ⟨by rfl, ?hy89⟩) (by assumption) ?_
            case hy89 => (intro w hSw; (try dsimp only at hSw); go_simp; try (with_reducible rfl))
            (try simp only [Act.put, qa_, qb_, qc_])
            refine wpAnyH_take (i := 1) (oi := ⟨some 47, _, _, _, _, _⟩) (v := ?v90) rfl (by kernel_rfl) (by kernel_rfl) (by kernel_rfl) (fun _ _ _ h => h) (Or.inl ⟨by rfl, ?hy90⟩) (by assumption) ?_
            case hy90 => (intro w hSw; (try dsimp only at hSw); go_simp; try (with_reducible rfl))
            (try simp only [Act.put, qa_, qb_, qc_])
            refine wpAnyH_take (i := 2) (oi := ⟨some 48, _, _, _, _, _⟩) (v := ?v91) rfl (by kernel_rfl) (by kernel_rfl) (by kernel_rfl) (fun _ _ _ h => h) (Or.inl ⟨by rfl, ?hy91⟩) (by assumption) ?_
            case hy91 => (intro w hSw; (try dsimp only at hSw); go_simp; try (with_reducible rfl))
            (try simp only [Act.put, qa_, qb_, qc_])
            refine wpAnyH_take (i := 3) (oi := ⟨some 49, _, _, _, _, _⟩) (v := ?v92) rfl (by kernel_rfl) (by kernel_rfl) (by kernel_rfl) (fun _ _ _ h => h) (Or.inl ⟨by rfl, ?hy92⟩) (by assumption) ?_
            case hy92 => (intro w hSw; (try dsimp only at hSw); go_simp; try (with_reducible rfl))
            (try simp only [Act.put, qa_, qb_, qc_])
            refine wpAnyH_take (i := 4) (oi := ⟨some 50, _, _, _, _, _⟩) (v := ?v93) rfl (by kernel_rfl) (by kernel_rfl) (by kernel_rfl) (fun _ _ _ h => h) (Or.inl ⟨by rfl, ?hy93⟩) (by assumption) ?_
            case hy93 => (intro w hSw; (try dsimp only at hSw); go_simp; try (with_reducible rfl))
            (try simp only [Act.put, qa_, qb_, qc_])
            refine wpAnyH_take (i := 5) (oi := ⟨some 51, _, _, _, _, _⟩) (v := ?v94) rfl (by kernel_rfl) (by kernel_rfl) (by kernel_rfl) (fun _ _ _ h => h) (Or.inl ⟨by rfl, ?hy94⟩) (by assumption) ?_
            case hy94 => (intro w hSw; (try dsimp only at hSw); go_simp; try (with_reducible rfl))
            (try simp only [Act.put, qa_, qb_, qc_])
            refine wpAnyH_take (i := 6) (oi := ⟨some 52, _, _, _, _, _⟩) (v := ?v95) rfl (by kernel_rfl) (by kernel_rfl) (by kernel_rfl) (fun _ _ _ h => h) (Or.inl ⟨by rfl, ?hy95⟩) (by assumption) ?_
            case hy95 => (intro w hSw; (try dsimp only at hSw); go_simp; try (with_reducible rfl))
            (try simp only [Act.put, qa_, qb_, qc_])
            refine wpAnyH_take (i := 7) (oi := ⟨some 53, _, _, _, _, _⟩) (v := ?v96) rfl (by kernel_rfl) (by kernel_rfl) (by kernel_rfl) (fun _ _ _ h => h) (Or.inl ⟨by rfl, ?hy96⟩) (by assumption) ?_
            case hy96 => (intro w hSw; (try dsimp only at hSw); go_simp; try (with_reducible rfl))
            (try simp only [Act.put, qa_, qb_, qc_])
            refine wpAnyH_take (i := 8) (oi := ⟨some 54, _, _, _, _, _⟩) (v := ?v97) rfl (by kernel_rfl) (by kernel_rfl) (by kernel_rfl) (fun _ _ _ h => h) (Or.inl ⟨by rfl, ?hy97⟩) (by assumption) ?_
            case hy97 => (intro w hSw; (try dsimp only at hSw); go_simp; try (with_reducible rfl))
            (try simp only [Act.put, qa_, qb_, qc_])
            refine wpAnyH_take (i := 9) (oi := ⟨some 55, _, _, _, _, _⟩) (v := ?v98) rfl (by kernel_rfl) (by kernel_rfl) (by kernel_rfl) (fun _ _ _ h => h) (Or.inl ⟨by rfl, ?hy98⟩) (by assumption) ?_
            case hy98 => (intro w hSw; (try dsimp only at hSw); go_simp; try (with_reducible rfl))
            (try simp only [Act.put, qa_, qb_, qc_])
            refine wpAnyH_ready (rs := [10]) (by kernel_rfl) (by simp) ?_
            refine AllReadyH.cons rfl (fun K hK => ?_) ?_
            · go_simp
              go_at_call 21
              refine (l_sameInts (reach hY (belx)) (reach (hnil _) (belx)) (by unfold maxLen; omega) (by unfold maxLen; omega)).mono ?_
              rintro e w21 ⟨rfl, hb21⟩
              rw [show decide (q.2 = q.2) = true from by simp]
              have hs1 : Below w5.heap.size w5 w21 := bel_trans (belx) hb21
              go_wp2_with fail
              refine hK.out _ _ (by exact hk _ hs1) (fun hHeld => ?_)
              clear hK K
              (try simp only [Act.put, qa_, qb_, qc_])
              refine wpAnyH_take (i := 11) (oi := ⟨some 57, _, _, _, _, _⟩) (v := ?v99) rfl (by kernel_rfl) (by kernel_rfl) (by kernel_rfl) (fun _ _ _ h => h) (Or.inl ⟨by rfl, ?hy99⟩) (by assumption) ?_
              case hy99 => (intro w hSw; (try dsimp only at hSw); go_simp; try (with_reducible rfl))
              (try simp only [Act.put, qa_, qb_, qc_])
              refine wpAnyH_take (i := 12) (oi := ⟨some 58, _, _, _, _, _⟩) (v := ?v100) rfl (by kernel_rfl) (by kernel_rfl) (by kernel_rfl) (fun _ _ _ h => h) (Or.inl ⟨by rfl, ?hy100⟩) (by assumption) ?_
              case hy100 => (intro w hSw; (try dsimp only at hSw); go_simp; try (with_reducible rfl))
              (try simp only [Act.put, qa_, qb_, qc_])
              refine wpAnyH_take (i := 13) (oi := ⟨some 59, _, _, _, _, _⟩) (v := ?v101) rfl (by kernel_rfl) (by kernel_rfl) (by kernel_rfl) (fun _ _ _ h => h) (Or.inl ⟨by rfl, ?hy101⟩) (by assumption) ?_
              case hy101 => (intro w hSw; (try dsimp only at hSw); go_simp; try (with_reducible rfl))
              (try simp only [Act.put, qa_, qb_, qc_])
              refine wpAnyH_take (i := 14) (oi := ⟨some 60, _, _, _, _, _⟩) (v := ?v102) rfl (by kernel_rfl) (by kernel_rfl) (by kernel_rfl) (fun _ _ _ h => h) (Or.inl ⟨by rfl, ?hy102⟩) (by assumption) ?_
              case hy102 => (intro w hSw; (try dsimp only at hSw); go_simp; try (with_reducible rfl))
              (try simp only [Act.put, qa_, qb_, qc_])
              refine wpAnyH_take (i := 15) (oi := ⟨some 61, _, _, _, _, _⟩) (v := ?v103) rfl (by kernel_rfl) (by kernel_rfl) (by kernel_rfl) (fun _ _ _ h => h) (Or.inl ⟨by rfl, ?hy103⟩) (by assumption) ?_
              case hy103 => (intro w hSw; (try dsimp only at hSw); go_simp; try (with_reducible rfl))
              (try simp only [Act.put, qa_, qb_, qc_])
              refine wpAnyH_take (i := 16) (oi := ⟨some 62, _, _, _, _, _⟩) (v := ?v104) rfl (by kernel_rfl) (by kernel_rfl) (by kernel_rfl) (fun _ _ _ h => h) (Or.inl ⟨by rfl, ?hy104⟩) (by assumption) ?_
              case hy104 => (intro w hSw; (try dsimp only at hSw); go_simp; try (with_reducible rfl))
              (try simp only [Act.put, qa_, qb_, qc_])
              refine wpAnyH_take (i := 17) (oi := ⟨some 63, _, _, _, _, _⟩) (v := ?v105) rfl (by kernel_rfl) (by kernel_rfl) (by kernel_rfl) (fun _ _ _ h => h) (Or.inl ⟨by rfl, ?hy105⟩) (by assumption) ?_
              case hy105 => (intro w hSw; (try dsimp only at hSw); go_simp; try (with_reducible rfl))
              (try simp only [Act.put, qa_, qb_, qc_])
              refine wpAnyH_take (i := 18) (oi := ⟨some 64, _, _, _, _, _⟩) (v := ?v106) rfl (by kernel_rfl) (by kernel_rfl) (by kernel_rfl) (fun _ _ _ h => h) (Or.inl ⟨by rfl, ?hy106⟩) (by assumption) ?_
              case hy106 => (intro w hSw; (try dsimp only at hSw); go_simp; try (with_reducible rfl))
              (try simp only [Act.put, qa_, qb_, qc_])
              refine wpAnyH_take (i := 19) (oi := ⟨some 65, _, _, _, _, _⟩) (v := ?v107) rfl (by kernel_rfl) (by kernel_rfl) (by kernel_rfl) (fun _ _ _ h => h) (Or.inl ⟨by rfl, ?hy107⟩) (by assumption) ?_
              case hy107 => (intro w hSw; (try dsimp only at hSw); go_simp; try (with_reducible rfl))
              (try simp only [Act.put, qa_, qb_, qc_])
              refine wpAnyH_take (i := 20) (oi := ⟨some 66, _, _, _, _, _⟩) (v := ?v108) rfl (by kernel_rfl) (by kernel_rfl) (by kernel_rfl) (fun _ _ _ h => h) (Or.inl ⟨by rfl, ?hy108⟩) (by assumption) ?_
              case hy108 => (intro w hSw; (try dsimp only at hSw); go_simp; try (with_reducible rfl))
              (try simp only [Act.put, qa_, qb_, qc_])
              refine wpAnyH_done (by kernel_rfl) ?_ _
              go_wp2_with fail
              go_meet
              exact hs1
            exact AllReadyH.nil
          · have hk : ∀ W, Below w5.heap.size w5 W → (fun w' => w'.cell? ⟨w4.heap.size, 1, none⟩ = some (.slice E1 0 e1) ∧ w'.cell? ⟨w4.heap.size, 0, none⟩ = some (.slice E0 y0 e0) ∧ w'.cell? ⟨w3.heap.size, 1, none⟩ = some (.slice B1 0 c1) ∧ w'.cell? ⟨w3.heap.size, 0, none⟩ = some (.slice B0 y0 c0)) W := fun W hW => ⟨cell_bel hW q0, cell_bel hW q1, cell_bel hW q2, cell_bel hW q3⟩
            go_wp2_with fail
            refine wp_region_held_drew (S := (fun w' => w'.cell? ⟨w4.heap.size, 1, none⟩ = some (.slice E1 0 e1) ∧ w'.cell? ⟨w4.heap.size, 0, none⟩ = some (.slice E0 y0 e0) ∧ w'.cell? ⟨w3.heap.size, 1, none⟩ = some (.slice B1 0 c1) ∧ w'.cell? ⟨w3.heap.size, 0, none⟩ = some (.slice B0 y0 c0))) (by kernel_rfl) (by exact hk _ (belx)) (fun hHeld => ?_)
            refine wpAnyH_take (i := 0) (oi := ⟨some 46, _, _, _, _, _⟩) (v := ?v109) rfl (by kernel_rfl) (by kernel_rfl) (by kernel_rfl) (fun _ _ _ h => h) (Or.inl ⟨by rfl, ?hy109⟩) (by assumption) ?_
            case hy109 => (intro w hSw; (try dsimp only at hSw); go_simp; try (with_reducible rfl))
            (try simp only [Act.put, qa_, qb_, qc_])
            refine wpAnyH_take (i := 1) (oi := ⟨some 47, _, _, _, _, _⟩) (v := ?v110) rfl (by kernel_rfl) (by kernel_rfl) (by kernel_rfl) (fun _ _ _ h => h) (Or.inl ⟨by rfl, ?hy110⟩) (by assumption) ?_
            case hy110 => (intro w hSw; (try dsimp only at hSw); go_simp; try (with_reducible rfl))
            (try simp only [Act.put, qa_, qb_, qc_])
            refine wpAnyH_take (i := 2) (oi := ⟨some 48, _, _, _, _, _⟩) (v := ?v111) rfl (by kernel_rfl) (by kernel_rfl) (by kernel_rfl) (fun _ _ _ h => h) (Or.inl ⟨by rfl, ?hy111⟩) (by assumption) ?_
            case hy111 => (intro w hSw; (try dsimp only at hSw); go_simp; try (with_reducible rfl))
            (try simp only [Act.put, qa_, qb_, qc_])
            refine wpAnyH_take (i := 3) (oi := ⟨some 49, _, _, _, _, _⟩) (v := ?v112) rfl (by kernel_rfl) (by kernel_rfl) (by kernel_rfl) (fun _ _ _ h => h) (Or.inl ⟨by rfl, ?hy112⟩) (by assumption) ?_
            case hy112 => (intro w hSw; (try dsimp only at hSw); go_simp; try (with_reducible rfl))
            (try simp only [Act.put, qa_, qb_, qc_])
            refine wpAnyH_take (i := 4) (oi := ⟨some 50, _, _, _, _, _⟩) (v := ?v113) rfl (by kernel_rfl) (by kernel_rfl) (by kernel_rfl) (fun _ _ _ h => h) (Or.inl ⟨by rfl, ?hy113⟩) (by assumption) ?_
            case hy113 => (intro w hSw; (try dsimp only at hSw); go_simp; try (with_reducible rfl))
            (try simp only [Act.put, qa_, qb_, qc_])
            refine wpAnyH_take (i := 5) (oi := ⟨some 51, _, _, _, _, _⟩) (v := ?v114) rfl (by kernel_rfl) (by kernel_rfl) (by kernel_rfl) (fun _ _ _ h => h) (Or.inl ⟨by rfl, ?hy114⟩) (by assumption) ?_
            case hy114 => (intro w hSw; (try dsimp only at hSw); go_simp; try (with_reducible rfl))
            (try simp only [Act.put, qa_, qb_, qc_])
            refine wpAnyH_take (i := 6) (oi := ⟨some 52, _, _, _, _, _⟩) (v := ?v115) rfl (by kernel_rfl) (by kernel_rfl) (by kernel_rfl) (fun _ _ _ h => h) (Or.inl ⟨by rfl, ?hy115⟩) (by assumption) ?_
            case hy115 => (intro w hSw; (try dsimp only at hSw); go_simp; try (with_reducible rfl))
            (try simp only [Act.put, qa_, qb_, qc_])
            refine wpAnyH_take (i := 7) (oi := ⟨some 53, _, _, _, _, _⟩) (v := ?v116) rfl (by kernel_rfl) (by kernel_rfl) (by kernel_rfl) (fun _ _ _ h => h) (Or.inl ⟨by rfl, ?hy116⟩) (by assumption) ?_
            case hy116 => (intro w hSw; (try dsimp only at hSw); go_simp; try (with_reducible rfl))
            (try simp only [Act.put, qa_, qb_, qc_])
            refine wpAnyH_take (i := 8) (oi := ⟨some 54, _, _, _, _, _⟩) (v := ?v117) rfl (by kernel_rfl) (by kernel_rfl) (by kernel_rfl) (fun _ _ _ h => h) (Or.inl ⟨by rfl, ?hy117⟩) (by assumption) ?_
            case hy117 => (intro w hSw; (try dsimp only at hSw); go_simp; try (with_reducible rfl))
            (try simp only [Act.put, qa_, qb_, qc_])
            refine wpAnyH_take (i := 9) (oi := ⟨some 55, _, _, _, _, _⟩) (v := ?v118) rfl (by kernel_rfl) (by kernel_rfl) (by kernel_rfl) (fun _ _ _ h => h) (Or.inl ⟨by rfl, ?hy118⟩) (by assumption) ?_
            case hy118 => (intro w hSw; (try dsimp only at hSw); go_simp; try (with_reducible rfl))
            (try simp only [Act.put, qa_, qb_, qc_])
            refine wpAnyH_ready (rs := [10]) (by kernel_rfl) (by simp) ?_
            refine AllReadyH.cons rfl (fun K hK => ?_) ?_
            · go_simp
              go_at_call 21
              refine (l_sameInts (reach hY (belx)) (reach (hnil _) (belx)) (by unfold maxLen; omega) (by unfold maxLen; omega)).mono ?_
              rintro e w21 ⟨rfl, hb21⟩
              rw [show decide (q.2 = q.2) = true from by simp]
              have hs1 : Below w5.heap.size w5 w21 := bel_trans (belx) hb21
              go_wp2_with fail
              refine hK.out _ _ (by exact hk _ hs1) (fun hHeld => ?_)
              clear hK K
              (try simp only [Act.put, qa_, qb_, qc_])
              refine wpAnyH_take (i := 11) (oi := ⟨some 57, _, _, _, _, _⟩) (v := ?v119) rfl (by kernel_rfl) (by kernel_rfl) (by kernel_rfl) (fun _ _ _ h => h) (Or.inl ⟨by rfl, ?hy119⟩) (by assumption) ?_
              case hy119 => (intro w hSw; (try dsimp only at hSw); go_simp; try (with_reducible rfl))
              (try simp only [Act.put, qa_, qb_, qc_])
              refine wpAnyH_take (i := 12) (oi := ⟨some 58, _, _, _, _, _⟩) (v := ?v120) rfl (by kernel_rfl) (by kernel_rfl) (by kernel_rfl) (fun _ _ _ h => h) (Or.inl ⟨by rfl, ?hy120⟩) (by assumption) ?_
              case hy120 => (intro w hSw; (try dsimp only at hSw); go_simp; try (with_reducible rfl))
              (try simp only [Act.put, qa_, qb_, qc_])
              refine wpAnyH_take (i := 13) (oi := ⟨some 59, _, _, _, _, _⟩) (v := ?v121) rfl (by kernel_rfl) (by kernel_rfl) (by kernel_rfl) (fun _ _ _ h => h) (Or.inl ⟨by rfl, ?hy121⟩) (by assumption) ?_
              case hy121 => (intro w hSw; (try dsimp only at hSw); go_simp; try (with_reducible rfl))
              (try simp only [Act.put, qa_, qb_, qc_])
              refine wpAnyH_take (i := 14) (oi := ⟨some 60, _, _, _, _, _⟩) (v := ?v122) rfl (by kernel_rfl) (by kernel_rfl) (by kernel_rfl) (fun _ _ _ h => h) (Or.inl ⟨by rfl, ?hy122⟩) (by assumption) ?_
              case hy122 => (intro w hSw; (try dsimp only at hSw); go_simp; try (with_reducible rfl))
              (try simp only [Act.put, qa_, qb_, qc_])
              refine wpAnyH_take (i := 15) (oi := ⟨some 61, _, _, _, _, _⟩) (v := ?v123) rfl (by kernel_rfl) (by kernel_rfl) (by kernel_rfl) (fun _ _ _ h => h) (Or.inl ⟨by rfl, ?hy123⟩) (by assumption) ?_
              case hy123 => (intro w hSw; (try dsimp only at hSw); go_simp; try (with_reducible rfl))
              (try simp only [Act.put, qa_, qb_, qc_])
              refine wpAnyH_take (i := 16) (oi := ⟨some 62, _, _, _, _, _⟩) (v := ?v124) rfl (by kernel_rfl) (by kernel_rfl) (by kernel_rfl) (fun _ _ _ h => h) (Or.inl ⟨by rfl, ?hy124⟩) (by assumption) ?_
              case hy124 => (intro w hSw; (try dsimp only at hSw); go_simp; try (with_reducible rfl))
              (try simp only [Act.put, qa_, qb_, qc_])
              refine wpAnyH_take (i := 17) (oi := ⟨some 63, _, _, _, _, _⟩) (v := ?v125) rfl (by kernel_rfl) (by kernel_rfl) (by kernel_rfl) (fun _ _ _ h => h) (Or.inl ⟨by rfl, ?hy125⟩) (by assumption) ?_
              case hy125 => (intro w hSw; (try dsimp only at hSw); go_simp; try (with_reducible rfl))
              (try simp only [Act.put, qa_, qb_, qc_])
              refine wpAnyH_take (i := 18) (oi := ⟨some 64, _, _, _, _, _⟩) (v := ?v126) rfl (by kernel_rfl) (by kernel_rfl) (by kernel_rfl) (fun _ _ _ h => h) (Or.inl ⟨by rfl, ?hy126⟩) (by assumption) ?_
              case hy126 => (intro w hSw; (try dsimp only at hSw); go_simp; try (with_reducible rfl))
              (try simp only [Act.put, qa_, qb_, qc_])
              refine wpAnyH_take (i := 19) (oi := ⟨some 65, _, _, _, _, _⟩) (v := ?v127) rfl (by kernel_rfl) (by kernel_rfl) (by kernel_rfl) (fun _ _ _ h => h) (Or.inl ⟨by rfl, ?hy127⟩) (by assumption) ?_
              case hy127 => (intro w hSw; (try dsimp only at hSw); go_simp; try (with_reducible rfl))
              (try simp only [Act.put, qa_, qb_, qc_])
              refine wpAnyH_take (i := 20) (oi := ⟨some 66, _, _, _, _, _⟩) (v := ?v128) rfl (by kernel_rfl) (by kernel_rfl) (by kernel_rfl) (fun _ _ _ h => h) (Or.inl ⟨by rfl, ?hy128⟩) (by assumption) ?_
              case hy128 => (intro w hSw; (try dsimp only at hSw); go_simp; try (with_reducible rfl))
              (try simp only [Act.put, qa_, qb_, qc_])
              refine wpAnyH_done (by kernel_rfl) ?_ _
              go_wp2_with fail
              go_meet
              exact hs1
            exact AllReadyH.nil
        · have hd6 : ¬ c1 = 0 := by omega
          obtain ⟨b, off, rfl, -⟩ := hQi.2.1 (by omega)
          have hk : ∀ W, Below w5.heap.size w5 W → (fun w' => w'.cell? ⟨w4.heap.size, 1, none⟩ = some (.slice E1 y1 e1) ∧ w'.cell? ⟨w4.heap.size, 0, none⟩ = some (.slice E0 y0 e0) ∧ w'.cell? ⟨w3.heap.size, 1, none⟩ = some (.slice (some ⟨b, off, none⟩) y1 c1) ∧ w'.cell? ⟨w3.heap.size, 0, none⟩ = some (.slice B0 y0 c0)) W := fun W hW => ⟨cell_bel hW q0, cell_bel hW q1, cell_bel hW q2, cell_bel hW q3⟩
          go_wp2_with fail
          refine wp_region_held_drew (S := (fun w' => w'.cell? ⟨w4.heap.size, 1, none⟩ = some (.slice E1 y1 e1) ∧ w'.cell? ⟨w4.heap.size, 0, none⟩ = some (.slice E0 y0 e0) ∧ w'.cell? ⟨w3.heap.size, 1, none⟩ = some (.slice (some ⟨b, off, none⟩) y1 c1) ∧ w'.cell? ⟨w3.heap.size, 0, none⟩ = some (.slice B0 y0 c0))) (by kernel_rfl) (by exact hk _ (belx)) (fun hHeld => ?_)
          refine wpAnyH_take (i := 0) (oi := ⟨some 46, _, _, _, _, _⟩) (v := ?v129) rfl (by kernel_rfl) (by kernel_rfl) (by kernel_rfl) (fun _ _ _ h => h) (Or.inl ⟨by rfl, ?hy129⟩) (by assumption) ?_
          case hy129 => (intro w hSw; (try dsimp only at hSw); go_simp; try (with_reducible rfl))
          (try simp only [Act.put, qa_, qb_, qc_])
          refine wpAnyH_take (i := 1) (oi := ⟨some 47, _, _, _, _, _⟩) (v := ?v130) rfl (by kernel_rfl) (by kernel_rfl) (by kernel_rfl) (fun _ _ _ h => h) (Or.inl ⟨by rfl, ?hy130⟩) (by assumption) ?_
          case hy130 => (intro w hSw; (try dsimp only at hSw); go_simp; try (with_reducible rfl))
          (try simp only [Act.put, qa_, qb_, qc_])
          refine wpAnyH_take (i := 2) (oi := ⟨some 48, _, _, _, _, _⟩) (v := ?v131) rfl (by kernel_rfl) (by kernel_rfl) (by kernel_rfl) (fun _ _ _ h => h) (Or.inl ⟨by rfl, ?hy131⟩) (by assumption) ?_
          case hy131 => (intro w hSw; (try dsimp only at hSw); go_simp; try (with_reducible rfl))
          (try simp only [Act.put, qa_, qb_, qc_])
          refine wpAnyH_take (i := 3) (oi := ⟨some 49, _, _, _, _, _⟩) (v := ?v132) rfl (by kernel_rfl) (by kernel_rfl) (by kernel_rfl) (fun _ _ _ h => h) (Or.inl ⟨by rfl, ?hy132⟩) (by assumption) ?_
          case hy132 => (intro w hSw; (try dsimp only at hSw); go_simp; try (with_reducible rfl))
          (try simp only [Act.put, qa_, qb_, qc_])
          refine wpAnyH_take (i := 4) (oi := ⟨some 50, _, _, _, _, _⟩) (v := ?v133) rfl (by kernel_rfl) (by kernel_rfl) (by kernel_rfl) (fun _ _ _ h => h) (Or.inl ⟨by rfl, ?hy133⟩) (by assumption) ?_
          case hy133 => (intro w hSw; (try dsimp only at hSw); go_simp; try (with_reducible rfl))
          (try simp only [Act.put, qa_, qb_, qc_])
          refine wpAnyH_take (i := 5) (oi := ⟨some 51, _, _, _, _, _⟩) (v := ?v134) rfl (by kernel_rfl) (by kernel_rfl) (by kernel_rfl) (fun _ _ _ h => h) (Or.inl ⟨by rfl, ?hy134⟩) (by assumption) ?_
          case hy134 => (intro w hSw; (try dsimp only at hSw); go_simp; try (with_reducible rfl))
          (try simp only [Act.put, qa_, qb_, qc_])
          refine wpAnyH_take (i := 6) (oi := ⟨some 52, _, _, _, _, _⟩) (v := ?v135) rfl (by kernel_rfl) (by kernel_rfl) (by kernel_rfl) (fun _ _ _ h => h) (Or.inl ⟨by rfl, ?hy135⟩) (by assumption) ?_
          case hy135 => (intro w hSw; (try dsimp only at hSw); go_simp; try (with_reducible rfl))
          (try simp only [Act.put, qa_, qb_, qc_])
          refine wpAnyH_take (i := 7) (oi := ⟨some 53, _, _, _, _, _⟩) (v := ?v136) rfl (by kernel_rfl) (by kernel_rfl) (by kernel_rfl) (fun _ _ _ h => h) (Or.inl ⟨by rfl, ?hy136⟩) (by assumption) ?_
          case hy136 => (intro w hSw; (try dsimp only at hSw); go_simp; try (with_reducible rfl))
          (try simp only [Act.put, qa_, qb_, qc_])
          refine wpAnyH_take (i := 8) (oi := ⟨some 54, _, _, _, _, _⟩) (v := ?v137) rfl (by kernel_rfl) (by kernel_rfl) (by kernel_rfl) (fun _ _ _ h => h) (Or.inl ⟨by rfl, ?hy137⟩) (by assumption) ?_
          case hy137 => (intro w hSw; (try dsimp only at hSw); go_simp; try (with_reducible rfl))
          (try simp only [Act.put, qa_, qb_, qc_])
          refine wpAnyH_take (i := 9) (oi := ⟨some 55, _, _, _, _, _⟩) (v := ?v138) rfl (by kernel_rfl) (by kernel_rfl) (by kernel_rfl) (fun _ _ _ h => h) (Or.inl ⟨by rfl, ?hy138⟩) (by assumption) ?_
          case hy138 => (intro w hSw; (try dsimp only at hSw); go_simp; try (with_reducible rfl))
          (try simp only [Act.put, qa_, qb_, qc_])
          refine wpAnyH_ready (rs := [10]) (by kernel_rfl) (by simp) ?_
          refine AllReadyH.cons rfl (fun K hK => ?_) ?_
          · go_simp
            go_at_call 21
            refine (l_sameInts (reach hY (belx)) (reach hQi (belx)) (by unfold maxLen; omega) (by unfold maxLen; omega)).mono ?_
            rintro e w21 ⟨rfl, hb21⟩
            rw [show decide (q.2 = q.2) = true from by simp]
            have hs1 : Below w5.heap.size w5 w21 := bel_trans (belx) hb21
            go_wp2_with fail
            refine hK.out _ _ (by exact hk _ hs1) (fun hHeld => ?_)
            clear hK K
            (try simp only [Act.put, qa_, qb_, qc_])
            refine wpAnyH_take (i := 11) (oi := ⟨some 57, _, _, _, _, _⟩) (v := ?v139) rfl (by kernel_rfl) (by kernel_rfl) (by kernel_rfl) (fun _ _ _ h => h) (Or.inl ⟨by rfl, ?hy139⟩) (by assumption) ?_
            case hy139 => (intro w hSw; (try dsimp only at hSw); go_simp; try (with_reducible rfl))
            (try simp only [Act.put, qa_, qb_, qc_])
            refine wpAnyH_take (i := 12) (oi := ⟨some 58, _, _, _, _, _⟩) (v := ?v140) rfl (by kernel_rfl) (by kernel_rfl) (by kernel_rfl) (fun _ _ _ h => h) (Or.inl ⟨by rfl, ?hy140⟩) (by assumption) ?_
            case hy140 => (intro w hSw; (try dsimp only at hSw); go_simp; try (with_reducible rfl))
            (try simp only [Act.put, qa_, qb_, qc_])
            refine wpAnyH_take (i := 13) (oi := ⟨some 59, _, _, _, _, _⟩) (v := ?v141) rfl (by kernel_rfl) (by kernel_rfl) (by kernel_rfl) (fun _ _ _ h => h) (Or.inl ⟨by rfl, ?hy141⟩) (by assumption) ?_
            case hy141 => (intro w hSw; (try dsimp only at hSw); go_simp; try (with_reducible rfl))
            (try simp only [Act.put, qa_, qb_, qc_])
            refine wpAnyH_take (i := 14) (oi := ⟨some 60, _, _, _, _, _⟩) (v := ?v142) rfl (by kernel_rfl) (by kernel_rfl) (by kernel_rfl) (fun _ _ _ h => h) (Or.inl ⟨by rfl, ?hy142⟩) (by assumption) ?_
            case hy142 => (intro w hSw; (try dsimp only at hSw); go_simp; try (with_reducible rfl))
            (try simp only [Act.put, qa_, qb_, qc_])
            refine wpAnyH_take (i := 15) (oi := ⟨some 61, _, _, _, _, _⟩) (v := ?v143) rfl (by kernel_rfl) (by kernel_rfl) (by kernel_rfl) (fun _ _ _ h => h) (Or.inl ⟨by rfl, ?hy143⟩) (by assumption) ?_
            case hy143 => (intro w hSw; (try dsimp only at hSw); go_simp; try (with_reducible rfl))
            (try simp only [Act.put, qa_, qb_, qc_])
            refine wpAnyH_take (i := 16) (oi := ⟨some 62, _, _, _, _, _⟩) (v := ?v144) rfl (by kernel_rfl) (by kernel_rfl) (by kernel_rfl) (fun _ _ _ h => h) (Or.inl ⟨by rfl, ?hy144⟩) (by assumption) ?_
            case hy144 => (intro w hSw; (try dsimp only at hSw); go_simp; try (with_reducible rfl))
            (try simp only [Act.put, qa_, qb_, qc_])
            refine wpAnyH_take (i := 17) (oi := ⟨some 63, _, _, _, _, _⟩) (v := ?v145) rfl (by kernel_rfl) (by kernel_rfl) (by kernel_rfl) (fun _ _ _ h => h) (Or.inl ⟨by rfl, ?hy145⟩) (by assumption) ?_
            case hy145 => (intro w hSw; (try dsimp only at hSw); go_simp; try (with_reducible rfl))
            (try simp only [Act.put, qa_, qb_, qc_])
            refine wpAnyH_take (i := 18) (oi := ⟨some 64, _, _, _, _, _⟩) (v := ?v146) rfl (by kernel_rfl) (by kernel_rfl) (by kernel_rfl) (fun _ _ _ h => h) (Or.inl ⟨by rfl, ?hy146⟩) (by assumption) ?_
            case hy146 => (intro w hSw; (try dsimp only at hSw); go_simp; try (with_reducible rfl))
            (try simp only [Act.put, qa_, qb_, qc_])
            refine wpAnyH_take (i := 19) (oi := ⟨some 65, _, _, _, _, _⟩) (v := ?v147) rfl (by kernel_rfl) (by kernel_rfl) (by kernel_rfl) (fun _ _ _ h => h) (Or.inl ⟨by rfl, ?hy147⟩) (by assumption) ?_
            case hy147 => (intro w hSw; (try dsimp only at hSw); go_simp; try (with_reducible rfl))
            (try simp only [Act.put, qa_, qb_, qc_])
            refine wpAnyH_take (i := 20) (oi := ⟨some 66, _, _, _, _, _⟩) (v := ?v148) rfl (by kernel_rfl) (by kernel_rfl) (by kernel_rfl) (fun _ _ _ h => h) (Or.inl ⟨by rfl, ?hy148⟩) (by assumption) ?_
            case hy148 => (intro w hSw; (try dsimp only at hSw); go_simp; try (with_reducible rfl))
            (try simp only [Act.put, qa_, qb_, qc_])
            refine wpAnyH_done (by kernel_rfl) ?_ _
            go_wp2_with fail
            go_meet
            exact hs1
          exact AllReadyH.nil
  case rest =>
  rename World => w6
  have hP := tPool.reach hP hcut
  have hX := tPool.reach hX hcut
  have V1 := V1.below hcut V1.size
  have V2 := V2.below hcut V2.size
  have hB7 := bel_trans hB6 hcut
  clear V3 V4 hQ hY hcut hbA
  have k0 := V1.cell 0
  have k1 := V1.cell 1
  go_wp2_with fail
  refine (s_PoolOk hP hz).mono ?_
  rintro e w7 ⟨rfl, hb7⟩
  have hP := tPool.reach hP hb7
  have hX := tPool.reach hX hb7
  have V1 := V1.below hb7 V1.size
  have V2 := V2.below hb7 V2.size
  have hB8 := bel_trans hB7 hb7
  clear k0 k1
  by_cases hp : PlOk p
  rotate_left
  · obtain rfl : cN = -1 := by rw [← HCN.out]; exact fExpN_f hp
    obtain rfl : l0 = 0 := by rw [← L0.out, fExp_f hp]; rfl
    rw [decide_eq_false hp]
    have x0 := V2.cell 0
    clear hp
    go_wp2_with fail
    refine (l_pools _).mono ?_
    rintro e w9 ⟨rfl, hb9⟩
    go_wp2_with fail
    go_ret
    exact ⟨rfl, bel_trans hB8 hb9⟩
  · rw [decide_eq_true hp]
    rw [fExp_t hp] at hX
    have hl0 : (exf x p.1).length = l0 := by rw [← L0.out, fExp_t hp]
    have hl1 : l1 = n1 := by rw [← L1.out, ← N1.out, fExp_t hp]
    have hcN : cN = (n0 : Int) - (l0 : Int) := by rw [← HCN.out, fExpN_t hp, hl0, N0.out]
    have hle0 : l0 ≤ n0 := by rw [← hl0, ← N0.out]; exact exf_len _ _
    subst hl1
    have LL := Lib.hid hl0
    have HC := Lib.hid hcN
    clear hl0 hcN hp
    have hX2 := hX
    have hP2 := hP
    obtain ⟨_, _, _, _, _, _, ea, -, -, -, hrX, -, -, -, htX⟩ := openPool hX2
    simp only [List.cons.injEq, Value.slice.injEq, and_true] at ea
    obtain ⟨⟨rfl, rfl, rfl⟩, ⟨rfl, rfl, rfl⟩⟩ := ea
    obtain ⟨_, _, _, _, _, _, ea, -, -, -, hrP, -, -, -, htP⟩ := openPool hP2
    simp only [List.cons.injEq, Value.slice.injEq, and_true] at ea
    obtain ⟨⟨rfl, rfl, rfl⟩, ⟨rfl, rfl, rfl⟩⟩ := ea
    have hiX := (slR_ints htX).1
    have hiP := (slR_ints htP).1
    have x0 := V2.cell 0
    have x1 := V2.cell 1
    have p0 := V1.cell 0
    have p1 := V1.cell 1
    clear htX htP hX2 hP2
    go_wp2_with fail
    go_loopw [11] (fun i wr => ∃ j : Nat, i = .int .i64 j ∧ j ≤ l0 ∧ w7 = wr) (fun i _ => l0 - (intOf i).toNat)
    case atStart => exact ⟨0, rfl, by omega, rfl⟩
    case round =>
      obtain ⟨j, rfl, hj, rfl⟩ := hrel
      by_cases hlt : j < l0
      · obtain ⟨a, b', off, es, hl2, rfl, hb, hes, hR⟩ := rowR_at (K := 3) hrX hlt rfl
        obtain ⟨A9, n9, c9, rfl, -⟩ := openHeld hR
        have i1 : w7.cell? ⟨b', off + j * 3 + 1, none⟩ = some (.int .i64 a.2.1) := hes 1 (by omega)
        have hgt : x < a.2.1 := by simpa using (List.mem_filter.mp (List.mem_of_getElem? hl2)).2
        have hdl : decide (a.2.1 ≤ x) = false := decide_eq_false (by omega)
        have hdj : decide ((j : Int) < (l0 : Int)) = true := decide_eq_true (by omega)
        have hwj : IntKind.i64.wrap ((j : Int) + 1) = ((j + 1 : Nat) : Int) := IntWalk.i64_in _ (by omega)
        clear hl2 hes hR
        go_wp2
        go_roundw
        case rel => exact ⟨j + 1, by go_num, by omega, trivial⟩
        case measure => simp [intOf]; omega
      · obtain rfl : l0 = j := by omega
        go_wp2_with fail
        go_loopw [12, 13] (fun k i wr => ∃ j : Nat, k = .int .i64 ((exf x (p.1.take j)).length : Nat) ∧ i = .int .i64 j ∧ j ≤ n0 ∧ w7 = wr) (fun _ i _ => n0 - (intOf i).toNat)
        case atStart => exact ⟨0, rfl, rfl, by omega, rfl⟩
        case round =>
          obtain ⟨j, rfl, rfl, hj, rfl⟩ := hrel
          by_cases hlt : j < n0
          · obtain ⟨a, b', off, es, hl2, rfl, hb, hes, hR⟩ := rowR_at (K := 3) hrP hlt rfl
            obtain ⟨A9, n9, c9, rfl, -⟩ := openHeld hR
            have i1 : w7.cell? ⟨b', off + j * 3 + 1, none⟩ = some (.int .i64 a.2.1) := hes 1 (by omega)
            have hwj : IntKind.i64.wrap ((j : Int) + 1) = ((j + 1 : Nat) : Int) := IntWalk.i64_in _ (by omega)
            have hdj : decide ((j : Int) < (n0 : Int)) = true := decide_eq_true (by omega)
            have htl : (exf x (p.1.take j)).length ≤ j := Nat.le_trans (exf_len _ _) (by rw [List.length_take]; omega)
            by_cases ha : x < a.2.1
            · have hT := exf_t hl2 ha
              have hT2 : (exf x (p.1.take (j + 1))).length = (exf x (p.1.take j)).length + 1 := by rw [hT, List.length_append]; rfl
              have HT := Lib.hid hT2
              have hda : decide (x < a.2.1) = true := decide_eq_true ha
              obtain ⟨tl, htq⟩ : ∃ tl, (exf x (p.1.take j)).length = tl := ⟨_, rfl⟩
              have HQ := Lib.hid htq
              rw [htq] at htl ⊢
              have hwt : IntKind.i64.wrap ((tl : Int) + 1) = ((tl + 1 : Nat) : Int) := IntWalk.i64_in _ (by omega)
              clear hT hT2 htq hl2 hes hR
              go_wp2
              go_roundw
              case rel => exact ⟨j + 1, by rw [HT.out, HQ.out]; go_num, by go_num, by omega, trivial⟩
              case measure => simp [intOf]; omega
            · have HT := Lib.hid (exf_f hl2 ha)
              have hda : decide (x < a.2.1) = false := decide_eq_false ha
              clear hl2 hes hR
              go_wp2
              go_roundw
              case rel => exact ⟨j + 1, by rw [HT.out], by go_num, by omega, trivial⟩
              case measure => simp [intOf]; omega
          · obtain rfl : n0 = j := by omega
            rw [List.take_of_length_le (Nat.le_of_eq N0.out), LL.out, HC.out]
            have hwn : IntKind.i64.wrap ((n0 : Int) - (l0 : Int)) = (n0 : Int) - (l0 : Int) := IntWalk.i64_in _ (by omega)
            go_wp2_with fail
            refine (l_sameInts hiX hiP (by unfold maxLen; omega) (by unfold maxLen; omega)).mono ?_
            rintro e w8 ⟨rfl, hb8⟩
            rw [show decide (p.2 = p.2) = true from by simp]
            go_wp2_with fail
            refine (l_pools _).mono ?_
            rintro e w9 ⟨rfl, hb9⟩
            go_wp2_with fail
            go_ret
            exact ⟨rfl, bel_trans (bel_trans hB8 hb8) hb9⟩

/-! ### THE ROW's STEP: WRITTEN OUT: LEAVE IT -/
set_option maxRecDepth 100000 in
theorem lifted (os : Os) (started : os.Started) (H : Type) (enc : TypeId × Value → H) :
    ReturnsInHanded {} Try.checked os 4 .any (Rows.fnExpiresSpec.pre6 enc Try.prog Try.f4 Rows.fnExpiresRow.domain false) (Rows.fnExpiresSpec.post enc Try.prog Try.f4 false true false false) := by
  refine returnsInHanded_of_change_sized (C := Try.checked) own started (by kernel_rfl) Try.func4
    (ChangeSpec.witness6 (enc := enc) (C := Try.checked) false ⟨#[], #[.slice none 0 0], []⟩ 8 (by kernel_rfl) (by kernel_rfl) (by kernel_rfl) (by kernel_rfl)) ?_
  intro W base args ds gs before hval0 hW hcnd hsz0 _
  have hval : ∀ (j : Nat) t v, Try.f4.params[j]? = some t → args[j]? = some v → Value.okWide Try.prog W .any base t v := hval0
  have hW' := hW
  obtain ⟨p, q, hA0, hV, rfl, hfz, hnd⟩ := hW
  have hA : DataW.TrodAll enc Try.prog W 0 (fun _ => true) true Try.f4.params.toList args.toList ds p := hA0
  have hsz : (DataW.weightsEach Try.prog (Try.f4.params.toList ++ Rows.fnExpiresSpec.plain.varTypes Try.prog) (ds ++ gs)).all (· ≤ reachBytes) = true := hsz0
  rw [Try.params4] at hA hval hsz
  obtain ⟨v0, vs0, d0, ds0, p0, q0, hargs, rfl, rfl, h0, r0⟩ := trodAll_cons hA
  obtain ⟨rfl, rfl, rfl⟩ := trodAll_nil r0
  obtain rfl : args = #[v0] := by cases args; simp_all
  obtain ⟨rfl, rfl⟩ := trodVars_none hV
  obtain ⟨a0, len0, cap0, rfl⟩ := okWide_slice Try.underlying22 (hval 0 22 v0 rfl rfl)
  have k0 := h0
  have lt0 : ∀ x ∈ p0, x.block < W.heap.size := by obtain ⟨m, hm⟩ := k0; exact DataW.trod_lt m _ _ _ hm
  obtain ⟨z0, w0, r0⟩ : ∃ zs, IsRow .u8 W a0 len0 cap0 zs ∧ cap0 ≤ 140737488351232 := by
    obtain ⟨fuel, hf⟩ := h0
    rcases open_ints Try.underlying22 Try.underlying5 (by kernel_rfl) hf with ⟨hcs, _⟩ | ⟨x, l, c, zs, hcs, _, hl, hm, hz, hxx, hcell, hwz⟩
    · simp [Value.cells] at hcs
      obtain ⟨rfl, rfl, rfl⟩ := hcs
      exact ⟨[], .inl ⟨rfl, rfl, rfl, rfl⟩, by omega⟩
    · simp [Value.cells] at hcs
      obtain ⟨rfl, rfl, rfl⟩ := hcs
      have hz' : zs.length = cap0 := by simpa using hz
      refine ⟨zs, .inr ⟨_, rfl, hl, hm, hz', hcell, hwz⟩, ?_⟩
      simp only [Prod.mk.injEq] at hxx
      rw [hxx.1] at hsz
      have h := sized_slice hsz (j := 0) (t := 22) (e := 5) rfl rfl Try.underlying22
      rw [bytes5] at h
      simp only [lits, List.length_map, List.length_take, List.length_drop, reachBytes] at h
      omega
  clear hA0 hval0
  refine (walk a0 len0 cap0 z0 W w0 r0).mono fun e W' ⟨he, bel⟩ => ?_
  subst he
  exact ⟨_, rfl, _, _, _, [], _, [], hW', trodAll_mk1 (shut_bool Try.underlying4 _), (trodAll_cons_mk (Below.trod laidOut (by kernel_rfl) (of_decide_eq_true (by kernel_rfl)) k0 bel lt0) trodAll_mk0), rfl, bel.frame _, fun h => by cases h⟩

theorem over : Rows.fnExpiresRow.holds Try.pinned (OpenSpec.ofChange Rows.fnExpiresSpec) :=
  OpenClaim.holds_of_wide 4 Try.f4 rfl rfl rfl rfl rfl rfl rfl ⟨rfl, rfl, rfl, rfl, rfl⟩ rfl rfl rfl rfl rfl (by kernel_rfl) Try.func4 (by kernel_rfl)
    (of_decide_eq_true (by kernel_rfl)) (by unfold Func.isWrapper; first | (rw [if_pos (by decide +kernel)]; kernel_rfl) | (rw [if_neg (by decide +kernel)]; exact ⟨rfl, rfl⟩))
    (fun os started H enc _ => lifted os started H enc)

/-- ████ THE STATEMENT ████ -/
theorem proved : Rows.FnExpiresSaid := over
#print axioms proved
end Go.Proofs.Ytblcfncjghkegaa.fnExpires
