/-
  For every draw: exactly the messages that are due are forgotten, and completed messages stay. No further condition.
-/
import Derived.Test.YtaabmaoldhoinaaGreatCloFnLetsGo
import Derived.Test.YtaabmaoldhoinaaGreatRows
import Derived.Test.YtaabmaoldhoinaaGreatVGh
import Derived.Test.YtaabmaoldhoinaaGreatVGi
import Derived.Test.YtaabmaoldhoinaaGreatVGm
import Derived.Test.YtaabmaoldhoinaaGreatVMPDeskT
import Derived.Below
import Derived.ChangeOld
import Derived.Deep.Cut
import Derived.Deep.CutRange
import Derived.Deep.DeepCutAuto
import Derived.OpenShut
import Derived.ProofKit
import Derived.ShutString
import Derived.SizedLaws
import Derived.WalkKit
namespace Go.Proofs.YtaabmaoldhoinaaGreat.fnLetsGo
open Go.ChangeShapes Go.WideShapes Go.ChangeAt Go.RowKit
open Go.ChangeMaps (open_string shut_string)
set_option linter.unusedVariables false

theorem bytes5 : Tryz.prog.bytesOf 5 = 1 := by kernel_rfl
open Go.Proofs.YtaabmaoldhoinaaGreat Fld
theorem own : ownKnob Tryz.prog.godebug = none := by kernel_rfl
theorem laidOut : laidOutB Tryz.prog = true := by kernel_rfl

/-- WHAT THE WALK IS TOLD OF A SLICE OF INTEGERS THAT CAME IN: it is nil; or it leads to a row of 'cap' cells, the numbers 'zs' (the first 'len' are its elements, the rest its spare room), each fitting its kind. -/
def IsRow (k : IntKind) (w : World) (a : Option Addr) (len cap : Nat) (zs : List Int) : Prop :=
  (a = none ∧ len = 0 ∧ cap = 0 ∧ zs = []) ∨
  ∃ x, a = some x ∧ len ≤ cap ∧ cap ≤ maxLen ∧ zs.length = cap ∧ (∀ i, i < zs.length → w.cell? (x.add i) = some (.int k (zs.getD i 0))) ∧ ∀ n ∈ zs, (Lit.int k n).wf = true

theorem rowInts {w : World} {a : Option Addr} {n c : Nat} {zs : List Int} (h : IsRow .u8 w a n c zs) : Ints .u8 w w.heap.size a n (zs.take n) ∧ n ≤ c := by
  rcases h with ⟨rfl, rfl, rfl, rfl⟩ | ⟨x, rfl, hl, _, hz, hc, hw⟩
  · exact ⟨Ints.nil, Nat.le_refl _⟩
  · exact ⟨Ints.ofRow (by omega) hc hw, hl⟩
theorem lgf_at {x : Int} {l : List DWhole} {i : Nat} {a : DWhole} (h : l[i]? = some a) (ha : x < a.2.2.1) : (lgf x l)[(lgf x (l.take i)).length]? = some a := by
  have hi := (List.getElem?_eq_some_iff.1 h).1
  have e : l = l.take i ++ (a :: l.drop (i + 1)) := by
    have h2 : l[i] = a := (List.getElem?_eq_some_iff.1 h).2
    rw [← h2, ← List.drop_eq_getElem_cons hi, List.take_append_drop]
  have e2 : lgf x l = lgf x (l.take i) ++ (a :: lgf x (l.drop (i + 1))) := by
    conv => lhs; rw [e]
    unfold lgf
    rw [List.filter_append, List.filter_cons_of_pos (by simpa using ha)]
  rw [e2, List.getElem?_append_right (Nat.le_refl _), Nat.sub_self]
  rfl
theorem dk_lgf {x : Int} {p : DDesk} (h : DkOk p) : DkOk (lgf x p.1, p.2) :=
  ⟨Nat.le_trans (lgf_len x p.1) h.1, h.2.1, h.2.2.1, asc_filter _ h.2.2.2.1, fun w hw => h.2.2.2.2 w (List.mem_filter.1 hw).1⟩

/-! ### STEP 1: THE WALK: the Go text returns true, AND WRITES NOTHING THAT WAS THERE: 'Below w.heap.size w w'' (Derived/Below.lean: '.refl', '.alloc', '.drew', '.setCell' at a new block, '.trans'). Open each 'IsRow' by 'rcases' AHEAD of 'go_enter'; part every test ahead of the walk. -/
set_option maxRecDepth 100000 in
set_option maxHeartbeats 2000000 in
theorem walk (a0 : Option Addr) (len0 cap0 : Nat) (z0 : List Int) (w : World) (w0 : IsRow .u8 w a0 len0 cap0 z0) (r0 : cap0 ≤ 140737488351232) :
    Calls Tryz.prog 4 #[.slice a0 len0 cap0] w fun e w' => e = .returned (.bool true) ∧ Below w.heap.size w w' := by
  obtain ⟨hl, hn⟩ := rowInts w0
  go_enter Tryz.func4, Tryz.ntmps4
  go_wp2_with fail
  refine (d_LetGo hl (by omega)).mono ?_
  rintro e w1 ⟨v0, v1, p, x, rfl, hP, hS, hx, hB1⟩
  obtain ⟨A0, n0, c0, A1, n1, c1, e7, -, -, hn0, -, -, -, hn1, -⟩ := openDesk hP
  simp only [List.cons.injEq, and_true] at e7
  obtain ⟨rfl, rfl⟩ := e7
  obtain ⟨s0, s1, s2⟩ := hS
  have hzD : szDesk p ≤ 1048576 := by omega
  have hwx : (Lit.int .i64 x).wf = true := WalkArith.wf_i64 ⟨by omega, by omega⟩
  have V1 : Box (w1.alloc (.cells #[.slice A0 n0 c0, .slice A1 n1 c1] 33)) w1.heap.size 33 #[.slice A0 n0 c0, .slice A1 n1 c1] := Box.new _ _ _
  have hx1 : Below w1.heap.size w1 (w1.alloc (.cells #[.slice A0 n0 c0, .slice A1 n1 c1] 33)) := bel_alloc (Below.refl _ _) _
  have hP := tDesk.reach hP hx1
  have hB2 := bel_trans hB1 hx1
  go_wp2_with fail
  refine (i_LetGo hP hzD hwx).mono ?_
  rintro e w2 ⟨cs2, F2, rfl, hO2, -, hb2⟩
  have hX := tDesk.read hO2
  obtain ⟨D0, d0, -, D1, d1, -, rfl, -⟩ := openODesk hO2
  have V1 := V1.below hb2 V1.size
  have hP := tDesk.reach hP hb2
  have hB3 := bel_trans hB2 hb2
  have z2 : w1.heap.size < w2.heap.size := V1.size
  obtain ⟨m0, hm0⟩ : ∃ m, (fLg p x).1.length = m := ⟨_, rfl⟩
  obtain ⟨m1, hm1⟩ : ∃ m, (fLg p x).2.length = m := ⟨_, rfl⟩
  obtain ⟨nv, hnv⟩ : ∃ m, fLgN p x = m := ⟨_, rfl⟩
  have M0 := Lib.hid hm0
  have M1 := Lib.hid hm1
  have NV := Lib.hid hnv
  have HN0 := Lib.hid hn0
  have HN1 := Lib.hid hn1
  rw [hm0, hm1] at hX ⊢
  rw [hnv]
  clear hm0 hm1 hnv hO2 hb2 hx1
  obtain ⟨w3, hw3⟩ : ∃ w3, w2.alloc (.cells #[.slice D0 m0 d0, .slice D1 m1 d1] 33) = w3 := ⟨_, rfl⟩
  have hb3 : Below w2.heap.size w2 w3 := by rw [← hw3]; exact bel_alloc (Below.refl _ _) _
  have X1 : Box w3 w2.heap.size 33 #[.slice D0 m0 d0, .slice D1 m1 d1] := by rw [← hw3]; exact Box.new _ _ _
  have V1 := V1.below hb3 V1.size
  have hX := tDesk.reach hX hb3
  have hP := tDesk.reach hP hb3
  have hB4 := bel_trans hB3 hb3
  obtain ⟨xb, hxb⟩ : ∃ xb, w2.heap.size = xb := ⟨_, rfl⟩
  rw [hxb] at X1
  have dv0 := V1.cell 0
  have dv1 := V1.cell 1
  go_wp2_with fail
  clear hb3 hw3 hxb dv0 dv1
  refine (s_DeskOk hP hzD).mono ?_
  rintro e w4 ⟨rfl, hb4⟩
  have V1 := V1.below hb4 V1.size
  have X1 := X1.below hb4 X1.size
  have hX := tDesk.reach hX hb4
  have hP := tDesk.reach hP hb4
  have hB5 := bel_trans hB4 hb4
  have dv0 := V1.cell 0
  have dv1 := V1.cell 1
  have xv0 := X1.cell 0
  have xv1 := X1.cell 1
  clear hb4
  by_cases hp : DkOk p
  rotate_left
  · rw [decide_eq_false hp]
    have e1 : nv = -1 := by rw [← NV.out, fLgN_f hp]
    have e2 : m0 = 0 := by rw [← M0.out, fLg_f hp]; rfl
    subst e1 e2
    clear hX hP hp
    go_wp2_with fail
    refine (l_desks _).mono ?_
    rintro e w9 ⟨rfl, hb9⟩
    go_wp2_with fail
    go_ret
    exact ⟨rfl, bel_trans hB5 hb9⟩
  · rw [decide_eq_true hp]
    have hfl : fLg p x = (lgf x p.1, p.2) := fLg_t hp
    have HLL := Lib.hid (show (lgf x p.1).length = m0 by rw [← M0.out, hfl])
    have HNV := Lib.hid (show nv = (n0 : Int) - (m0 : Int) by rw [← NV.out, fLgN_t hp, HN0.out, HLL.out])
    rw [hfl] at hX
    have hm01 : m0 ≤ n0 := by have := lgf_len x p.1; rw [HLL.out, HN0.out] at this; exact this
    have hn7 : n0 ≤ 7 := by have := HN0.out; omega
    have HDX := Lib.hid (decide_eq_true (dk_lgf (x := x) hp))
    have hzX : szDesk (lgf x p.1, p.2) ≤ 1048576 := by have := fLg_sz p x; rw [hfl] at this; omega
    clear hp hfl dv0 dv1 xv0 xv1
    go_wp2_with fail
    go_loopw [7, 8] (fun kv iv wr => ∃ i : Nat, i ≤ n0 ∧ iv = .int .i64 i ∧ kv = .int .i64 ((lgf x (p.1.take i)).length : Nat) ∧ Below w4.heap.size w4 wr) (fun _ iv _ => n0 - (valI4 iv).toNat)
    case atStart => exact ⟨0, by omega, rfl, rfl, Below.refl _ _⟩
    case round =>
      obtain ⟨i, hi, rfl, rfl, hbr⟩ := hrel
      have V1 := V1.below hbr V1.size
      have X1 := X1.below hbr X1.size
      have hX := tDesk.reach hX hbr
      have hP := tDesk.reach hP hbr
      have hB5 := bel_trans hB5 hbr
      have dv0 := V1.cell 0
      have dv1 := V1.cell 1
      have xv0 := X1.cell 0
      have xv1 := X1.cell 1
      by_cases hlt : i < n0
      · have hdl : decide ((i : Int) < (n0 : Int)) = true := decide_eq_true (by omega)
        obtain ⟨A9, n9, c9, B9, k9, f9, e9, -, -, -, hrP, -, -, -, -⟩ := openDesk hP
        simp only [List.cons.injEq, Value.slice.injEq, and_true] at e9
        obtain ⟨⟨rfl, rfl, rfl⟩, -⟩ := e9
        obtain ⟨a, bd, od, es, hia, rfl, -, hes, hRa⟩ := rowR_at (K := 4) hrP hlt rfl
        obtain ⟨Ad, nx, cd, rfl, -, -, -, -, -, hnx, -⟩ := openWhole hRa
        have q4 : wr.cell? ⟨bd, od + i * 4, none⟩ = some (.int .i64 a.1) := hes 0 (by omega)
        have q6 : wr.cell? ⟨bd, od + i * 4 + 2, none⟩ = some (.int .i64 a.2.2.1) := hes 2 (by omega)
        have q5 : wr.cell? ⟨bd, od + i * 4 + 3, none⟩ = some (.slice Ad nx cd) := hes 3 (by omega)
        have hi0 : (0 : Int) ≤ (i : Int) := by omega
        have hin : (i : Int) < (n0 : Int) := by omega
        by_cases hd : x < a.2.2.1
        · have hdd : decide (x < a.2.2.1) = true := decide_eq_true hd
          have hat := lgf_at hia hd
          have HLT := Lib.hid (show (lgf x (p.1.take (i + 1))).length = (lgf x (p.1.take i)).length + 1 by rw [lgf_t hia hd]; simp)
          obtain ⟨kk, hkk⟩ : ∃ kk, (lgf x (p.1.take i)).length = kk := ⟨_, rfl⟩
          rw [hkk] at hat HLT ⊢
          have hkm : kk < m0 := by have := (List.getElem?_eq_some_iff.1 hat).1; rw [HLL.out] at this; exact this
          obtain ⟨A8, n8, c8, B8, k8, f8, e8, -, -, -, hrX, -, -, -, -⟩ := openDesk hX
          simp only [List.cons.injEq, Value.slice.injEq, and_true] at e8
          obtain ⟨⟨rfl, rfl, rfl⟩, -⟩ := e8
          obtain ⟨a2, bx, ox, es2, hia2, rfl, -, hes2, hRa2⟩ := rowR_at (K := 4) hrX hkm rfl
          obtain rfl : a = a2 := by
            have h := hat.symm.trans hia2
            injection h
          obtain ⟨Ax, ny, cx, rfl, -, -, -, -, -, hny, -⟩ := openWhole hRa2
          obtain rfl : nx = ny := by omega
          have q0 : wr.cell? ⟨xb, 0, none⟩ = some (.slice (some ⟨bx, ox, none⟩) m0 d0) := X1.cell 0
          have q1 : wr.cell? ⟨w1.heap.size, 0, none⟩ = some (.slice (some ⟨bd, od, none⟩) n0 c0) := V1.cell 0
          have q2 : wr.cell? ⟨bx, ox + kk * 4, none⟩ = some (.int .i64 a.1) := hes2 0 (by omega)
          have q3 : wr.cell? ⟨bx, ox + kk * 4 + 3, none⟩ = some (.slice Ax nx cx) := hes2 3 (by omega)
          have hg5 : decide ((m0 : Int) ≤ (kk : Int)) = false := decide_eq_false (by omega)
          have hg5n : decide (m0 ≤ kk) = false := decide_eq_false (by omega)
          have hg18 : (a.1 != a.1) = false := by simp
          have hk0 : (0 : Int) ≤ (kk : Int) := by omega
          have hkm2 : (kk : Int) < (m0 : Int) := by omega
          clear hat hia hia2 hes hes2 hRa hRa2 hrX hrP hkk hnx hny
          go_wp2_with fail
          refine wp_region_held_drew (S := (fun w' => w'.cell? ⟨xb, 0, none⟩ = some (.slice (some ⟨bx, ox, none⟩) m0 d0) ∧ w'.cell? ⟨w1.heap.size, 0, none⟩ = some (.slice (some ⟨bd, od, none⟩) n0 c0) ∧ w'.cell? ⟨bx, ox + kk * 4, none⟩ = some (.int .i64 a.1) ∧ w'.cell? ⟨bx, ox + kk * 4 + 3, none⟩ = some (.slice Ax nx cx) ∧ w'.cell? ⟨bd, od + i * 4, none⟩ = some (.int .i64 a.1) ∧ w'.cell? ⟨bd, od + i * 4 + 3, none⟩ = some (.slice Ad nx cd))) (by kernel_rfl) (by exact ⟨q0, q1, q2, q3, q4, q5⟩) (fun hHeld => ?_)
          refine wpAnyH_take (i := 0) (oi := ⟨some 49, _, _, _, _, _⟩) (v := ?v33) rfl (by kernel_rfl) (by kernel_rfl) (by kernel_rfl) (fun _ _ _ h => h) (Or.inl ⟨by rfl, ?hy33⟩) (by assumption) ?_
          case hy33 => (intro w hSw; (try dsimp only at hSw); go_simp; try (with_reducible rfl))
          (try simp only [Act.put, qa_, qb_, qc_])
          refine wpAnyH_take (i := 1) (oi := ⟨some 50, _, _, _, _, _⟩) (v := ?v34) rfl (by kernel_rfl) (by kernel_rfl) (by kernel_rfl) (fun _ _ _ h => h) (Or.inl ⟨by rfl, ?hy34⟩) (by assumption) ?_
          case hy34 => (intro w hSw; (try dsimp only at hSw); go_simp; try (with_reducible rfl))
          (try simp only [Act.put, qa_, qb_, qc_])
          refine wpAnyH_take (i := 2) (oi := ⟨some 51, _, _, _, _, _⟩) (v := ?v35) rfl (by kernel_rfl) (by kernel_rfl) (by kernel_rfl) (fun _ _ _ h => h) (Or.inl ⟨by rfl, ?hy35⟩) (by assumption) ?_
          case hy35 => (intro w hSw; (try dsimp only at hSw); go_simp; try (with_reducible rfl))
          (try simp only [Act.put, qa_, qb_, qc_])
          refine wpAnyH_take (i := 3) (oi := ⟨some 52, _, _, _, _, _⟩) (v := ?v36) rfl (by kernel_rfl) (by kernel_rfl) (by kernel_rfl) (fun _ _ _ h => h) (Or.inl ⟨by rfl, ?hy36⟩) (by assumption) ?_
          case hy36 => (intro w hSw; (try dsimp only at hSw); go_simp; try (with_reducible rfl))
          (try simp only [Act.put, qa_, qb_, qc_])
          refine wpAnyH_take (i := 4) (oi := ⟨some 53, _, _, _, _, _⟩) (v := ?v37) rfl (by kernel_rfl) (by kernel_rfl) (by kernel_rfl) (fun _ _ _ h => h) (Or.inl ⟨by rfl, ?hy37⟩) (by assumption) ?_
          case hy37 => (intro w hSw; (try dsimp only at hSw); go_simp; try (with_reducible rfl))
          (try simp only [Act.put, qa_, qb_, qc_])
          refine wpAnyH_take (i := 5) (oi := ⟨some 54, _, _, _, _, _⟩) (v := ?v38) rfl (by kernel_rfl) (by kernel_rfl) (by kernel_rfl) (fun _ _ _ h => h) (Or.inl ⟨by rfl, ?hy38⟩) (by assumption) ?_
          case hy38 => (intro w hSw; (try dsimp only at hSw); go_simp; try (with_reducible rfl))
          (try simp only [Act.put, qa_, qb_, qc_])
          refine wpAnyH_take (i := 6) (oi := ⟨some 55, _, _, _, _, _⟩) (v := ?v39) rfl (by kernel_rfl) (by kernel_rfl) (by kernel_rfl) (fun _ _ _ h => h) (Or.inl ⟨by rfl, ?hy39⟩) (by assumption) ?_
          case hy39 => (intro w hSw; (try dsimp only at hSw); go_simp; try (with_reducible rfl))
          (try simp only [Act.put, qa_, qb_, qc_])
          refine wpAnyH_take (i := 7) (oi := ⟨some 56, _, _, _, _, _⟩) (v := ?v40) rfl (by kernel_rfl) (by kernel_rfl) (by kernel_rfl) (fun _ _ _ h => h) (Or.inl ⟨by rfl, ?hy40⟩) (by assumption) ?_
          case hy40 => (intro w hSw; (try dsimp only at hSw); go_simp; try (with_reducible rfl))
          (try simp only [Act.put, qa_, qb_, qc_])
          refine wpAnyH_take (i := 8) (oi := ⟨some 57, _, _, _, _, _⟩) (v := ?v41) rfl (by kernel_rfl) (by kernel_rfl) (by kernel_rfl) (fun _ _ _ h => h) (Or.inl ⟨by rfl, ?hy41⟩) (by assumption) ?_
          case hy41 => (intro w hSw; (try dsimp only at hSw); go_simp; try (with_reducible rfl))
          (try simp only [Act.put, qa_, qb_, qc_])
          refine wpAnyH_take (i := 9) (oi := ⟨some 58, _, _, _, _, _⟩) (v := ?v42) rfl (by kernel_rfl) (by kernel_rfl) (by kernel_rfl) (fun _ _ _ h => h) (Or.inl ⟨by rfl, ?hy42⟩) (by assumption) ?_
          case hy42 => (intro w hSw; (try dsimp only at hSw); go_simp; try (with_reducible rfl))
          (try simp only [Act.put, qa_, qb_, qc_])
          refine wpAnyH_take (i := 10) (oi := ⟨some 59, _, _, _, _, _⟩) (v := ?v43) rfl (by kernel_rfl) (by kernel_rfl) (by kernel_rfl) (fun _ _ _ h => h) (Or.inl ⟨by rfl, ?hy43⟩) (by assumption) ?_
          case hy43 => (intro w hSw; (try dsimp only at hSw); go_simp; try (with_reducible rfl))
          (try simp only [Act.put, qa_, qb_, qc_])
          refine wpAnyH_take (i := 11) (oi := ⟨some 60, _, _, _, _, _⟩) (v := ?v44) rfl (by kernel_rfl) (by kernel_rfl) (by kernel_rfl) (fun _ _ _ h => h) (Or.inl ⟨by rfl, ?hy44⟩) (by assumption) ?_
          case hy44 => (intro w hSw; (try dsimp only at hSw); go_simp; try (with_reducible rfl))
          (try simp only [Act.put, qa_, qb_, qc_])
          refine wpAnyH_take (i := 12) (oi := ⟨some 61, _, _, _, _, _⟩) (v := ?v45) rfl (by kernel_rfl) (by kernel_rfl) (by kernel_rfl) (fun _ _ _ h => h) (Or.inl ⟨by rfl, ?hy45⟩) (by assumption) ?_
          case hy45 => (intro w hSw; (try dsimp only at hSw); go_simp; try (with_reducible rfl))
          (try simp only [Act.put, qa_, qb_, qc_])
          refine wpAnyH_take (i := 13) (oi := ⟨some 62, _, _, _, _, _⟩) (v := ?v46) rfl (by kernel_rfl) (by kernel_rfl) (by kernel_rfl) (fun _ _ _ h => h) (Or.inl ⟨by rfl, ?hy46⟩) (by assumption) ?_
          case hy46 => (intro w hSw; (try dsimp only at hSw); go_simp; try (with_reducible rfl))
          (try simp only [Act.put, qa_, qb_, qc_])
          refine wpAnyH_take (i := 14) (oi := ⟨some 63, _, _, _, _, _⟩) (v := ?v47) rfl (by kernel_rfl) (by kernel_rfl) (by kernel_rfl) (fun _ _ _ h => h) (Or.inl ⟨by rfl, ?hy47⟩) (by assumption) ?_
          case hy47 => (intro w hSw; (try dsimp only at hSw); go_simp; try (with_reducible rfl))
          (try simp only [Act.put, qa_, qb_, qc_])
          refine wpAnyH_take (i := 15) (oi := ⟨some 64, _, _, _, _, _⟩) (v := ?v48) rfl (by kernel_rfl) (by kernel_rfl) (by kernel_rfl) (fun _ _ _ h => h) (Or.inl ⟨by rfl, ?hy48⟩) (by assumption) ?_
          case hy48 => (intro w hSw; (try dsimp only at hSw); go_simp; try (with_reducible rfl))
          (try simp only [Act.put, qa_, qb_, qc_])
          refine wpAnyH_take (i := 16) (oi := ⟨some 65, _, _, _, _, _⟩) (v := ?v49) rfl (by kernel_rfl) (by kernel_rfl) (by kernel_rfl) (fun _ _ _ h => h) (Or.inl ⟨by rfl, ?hy49⟩) (by assumption) ?_
          case hy49 => (intro w hSw; (try dsimp only at hSw); go_simp; try (with_reducible rfl))
          (try simp only [Act.put, qa_, qb_, qc_])
          refine wpAnyH_take (i := 17) (oi := ⟨some 66, _, _, _, _, _⟩) (v := ?v50) rfl (by kernel_rfl) (by kernel_rfl) (by kernel_rfl) (fun _ _ _ h => h) (Or.inl ⟨by rfl, ?hy50⟩) (by assumption) ?_
          case hy50 => (intro w hSw; (try dsimp only at hSw); go_simp; try (with_reducible rfl))
          (try simp only [Act.put, qa_, qb_, qc_])
          refine wpAnyH_take (i := 18) (oi := ⟨some 67, _, _, _, _, _⟩) (v := ?v51) rfl (by kernel_rfl) (by kernel_rfl) (by kernel_rfl) (fun _ _ _ h => h) (Or.inl ⟨by rfl, ?hy51⟩) (by assumption) ?_
          case hy51 => (intro w hSw; (try dsimp only at hSw); go_simp; try (with_reducible rfl))
          (try simp only [Act.put, qa_, qb_, qc_])
          refine wpAnyH_take (i := 19) (oi := ⟨some 68, _, _, _, _, _⟩) (v := ?v52) rfl (by kernel_rfl) (by kernel_rfl) (by kernel_rfl) (fun _ _ _ h => h) (Or.inl ⟨by rfl, ?hy52⟩) (by assumption) ?_
          case hy52 => (intro w hSw; (try dsimp only at hSw); go_simp; try (with_reducible rfl))
          (try simp only [Act.put, qa_, qb_, qc_])
          refine wpAnyH_take (i := 20) (oi := ⟨some 69, _, _, _, _, _⟩) (v := ?v53) rfl (by kernel_rfl) (by kernel_rfl) (by kernel_rfl) (fun _ _ _ h => h) (Or.inl ⟨by rfl, ?hy53⟩) (by assumption) ?_
          case hy53 => (intro w hSw; (try dsimp only at hSw); go_simp; try (with_reducible rfl))
          (try simp only [Act.put, qa_, qb_, qc_])
          refine wpAnyH_take (i := 21) (oi := ⟨some 70, _, _, _, _, _⟩) (v := ?v54) rfl (by kernel_rfl) (by kernel_rfl) (by kernel_rfl) (fun _ _ _ h => h) (Or.inl ⟨by rfl, ?hy54⟩) (by assumption) ?_
          case hy54 => (intro w hSw; (try dsimp only at hSw); go_simp; try (with_reducible rfl))
          (try simp only [Act.put, qa_, qb_, qc_])
          refine wpAnyH_take (i := 22) (oi := ⟨some 71, _, _, _, _, _⟩) (v := ?v55) rfl (by kernel_rfl) (by kernel_rfl) (by kernel_rfl) (fun _ _ _ h => h) (Or.inl ⟨by rfl, ?hy55⟩) (by assumption) ?_
          case hy55 => (intro w hSw; (try dsimp only at hSw); go_simp; try (with_reducible rfl))
          (try simp only [Act.put, qa_, qb_, qc_])
          refine wpAnyH_take (i := 23) (oi := ⟨some 72, _, _, _, _, _⟩) (v := ?v56) rfl (by kernel_rfl) (by kernel_rfl) (by kernel_rfl) (fun _ _ _ h => h) (Or.inl ⟨by rfl, ?hy56⟩) (by assumption) ?_
          case hy56 => (intro w hSw; (try dsimp only at hSw); go_simp; try (with_reducible rfl))
          (try simp only [Act.put, qa_, qb_, qc_])
          refine wpAnyH_take (i := 24) (oi := ⟨some 73, _, _, _, _, _⟩) (v := ?v57) rfl (by kernel_rfl) (by kernel_rfl) (by kernel_rfl) (fun _ _ _ h => h) (Or.inl ⟨by rfl, ?hy57⟩) (by assumption) ?_
          case hy57 => (intro w hSw; (try dsimp only at hSw); go_simp; try (with_reducible rfl))
          (try simp only [Act.put, qa_, qb_, qc_])
          refine wpAnyH_take (i := 25) (oi := ⟨some 74, _, _, _, _, _⟩) (v := ?v58) rfl (by kernel_rfl) (by kernel_rfl) (by kernel_rfl) (fun _ _ _ h => h) (Or.inl ⟨by rfl, ?hy58⟩) (by assumption) ?_
          case hy58 => (intro w hSw; (try dsimp only at hSw); go_simp; try (with_reducible rfl))
          (try simp only [Act.put, qa_, qb_, qc_])
          refine wpAnyH_take (i := 26) (oi := ⟨some 75, _, _, _, _, _⟩) (v := ?v59) rfl (by kernel_rfl) (by kernel_rfl) (by kernel_rfl) (fun _ _ _ h => h) (Or.inl ⟨by rfl, ?hy59⟩) (by assumption) ?_
          case hy59 => (intro w hSw; (try dsimp only at hSw); go_simp; try (with_reducible rfl))
          (try simp only [Act.put, qa_, qb_, qc_])
          refine wpAnyH_take (i := 27) (oi := ⟨some 76, _, _, _, _, _⟩) (v := ?v60) rfl (by kernel_rfl) (by kernel_rfl) (by kernel_rfl) (fun _ _ _ h => h) (Or.inl ⟨by rfl, ?hy60⟩) (by assumption) ?_
          case hy60 => (intro w hSw; (try dsimp only at hSw); go_simp; try (with_reducible rfl))
          (try simp only [Act.put, qa_, qb_, qc_])
          refine wpAnyH_take (i := 28) (oi := ⟨some 77, _, _, _, _, _⟩) (v := ?v61) rfl (by kernel_rfl) (by kernel_rfl) (by kernel_rfl) (fun _ _ _ h => h) (Or.inl ⟨by rfl, ?hy61⟩) (by assumption) ?_
          case hy61 => (intro w hSw; (try dsimp only at hSw); go_simp; try (with_reducible rfl))
          (try simp only [Act.put, qa_, qb_, qc_])
          refine wpAnyH_take (i := 29) (oi := ⟨some 78, _, _, _, _, _⟩) (v := ?v62) rfl (by kernel_rfl) (by kernel_rfl) (by kernel_rfl) (fun _ _ _ h => h) (Or.inl ⟨by rfl, ?hy62⟩) (by assumption) ?_
          case hy62 => (intro w hSw; (try dsimp only at hSw); go_simp; try (with_reducible rfl))
          (try simp only [Act.put, qa_, qb_, qc_])
          refine wpAnyH_take (i := 30) (oi := ⟨some 79, _, _, _, _, _⟩) (v := ?v63) rfl (by kernel_rfl) (by kernel_rfl) (by kernel_rfl) (fun _ _ _ h => h) (Or.inl ⟨by rfl, ?hy63⟩) (by assumption) ?_
          case hy63 => (intro w hSw; (try dsimp only at hSw); go_simp; try (with_reducible rfl))
          (try simp only [Act.put, qa_, qb_, qc_])
          refine wpAnyH_take (i := 31) (oi := ⟨some 80, _, _, _, _, _⟩) (v := ?v64) rfl (by kernel_rfl) (by kernel_rfl) (by kernel_rfl) (fun _ _ _ h => h) (Or.inl ⟨by rfl, ?hy64⟩) (by assumption) ?_
          case hy64 => (intro w hSw; (try dsimp only at hSw); go_simp; try (with_reducible rfl))
          (try simp only [Act.put, qa_, qb_, qc_])
          refine wpAnyH_take (i := 32) (oi := ⟨some 81, _, _, _, _, _⟩) (v := ?v65) rfl (by kernel_rfl) (by kernel_rfl) (by kernel_rfl) (fun _ _ _ h => h) (Or.inl ⟨by rfl, ?hy65⟩) (by assumption) ?_
          case hy65 => (intro w hSw; (try dsimp only at hSw); go_simp; try (with_reducible rfl))
          (try simp only [Act.put, qa_, qb_, qc_])
          refine wpAnyH_take (i := 33) (oi := ⟨some 82, _, _, _, _, _⟩) (v := ?v66) rfl (by kernel_rfl) (by kernel_rfl) (by kernel_rfl) (fun _ _ _ h => h) (Or.inl ⟨by rfl, ?hy66⟩) (by assumption) ?_
          case hy66 => (intro w hSw; (try dsimp only at hSw); go_simp; try (with_reducible rfl))
          (try simp only [Act.put, qa_, qb_, qc_])
          refine wpAnyH_take (i := 34) (oi := ⟨some 83, _, _, _, _, _⟩) (v := ?v67) rfl (by kernel_rfl) (by kernel_rfl) (by kernel_rfl) (fun _ _ _ h => h) (Or.inl ⟨by rfl, ?hy67⟩) (by assumption) ?_
          case hy67 => (intro w hSw; (try dsimp only at hSw); go_simp; try (with_reducible rfl))
          (try simp only [Act.put, qa_, qb_, qc_])
          refine wpAnyH_take (i := 35) (oi := ⟨some 84, _, _, _, _, _⟩) (v := ?v68) rfl (by kernel_rfl) (by kernel_rfl) (by kernel_rfl) (fun _ _ _ h => h) (Or.inl ⟨by rfl, ?hy68⟩) (by assumption) ?_
          case hy68 => (intro w hSw; (try dsimp only at hSw); go_simp; try (with_reducible rfl))
          (try simp only [Act.put, qa_, qb_, qc_])
          refine wpAnyH_take (i := 36) (oi := ⟨some 85, _, _, _, _, _⟩) (v := ?v69) rfl (by kernel_rfl) (by kernel_rfl) (by kernel_rfl) (fun _ _ _ h => h) (Or.inl ⟨by rfl, ?hy69⟩) (by assumption) ?_
          case hy69 => (intro w hSw; (try dsimp only at hSw); go_simp; try (with_reducible rfl))
          (try simp only [Act.put, qa_, qb_, qc_])
          refine wpAnyH_done (by kernel_rfl) ?_ _
          go_wp2
          go_roundw
          case rel => exact ⟨i + 1, by omega, by go_num, by rw [HLT.out]; go_num, (belx)⟩
          case measure => simp [valI4]; omega
        · have hdd : decide (x < a.2.2.1) = false := decide_eq_false hd
          have HLF := Lib.hid (show lgf x (p.1.take (i + 1)) = lgf x (p.1.take i) from lgf_f hia hd)
          clear hes hRa hrP hia
          go_wp2_with fail
          go_roundw
          case rel => exact ⟨i + 1, by omega, by go_num, by rw [HLF.out], (belx)⟩
          case measure => simp [valI4]; omega
      · obtain rfl : i = n0 := by omega
        have hdl : decide ((i : Int) < (i : Int)) = false := by simp
        rw [show (lgf x (p.1.take i)).length = m0 by rw [List.take_of_length_le (Nat.le_of_eq HN0.out), HLL.out]]
        obtain ⟨A8, n8, c8, B8, k8, f8, e8, -, -, -, -, -, -, -, hdX⟩ := openDesk hX
        simp only [List.cons.injEq, Value.slice.injEq, and_true] at e8
        obtain ⟨-, rfl, rfl, rfl⟩ := e8
        obtain ⟨A9, n9, c9, B9, k9, f9, e9, -, -, -, -, -, -, -, hdP⟩ := openDesk hP
        simp only [List.cons.injEq, Value.slice.injEq, and_true] at e9
        obtain ⟨-, rfl, rfl, rfl⟩ := e9
        have hnv2 := HNV.out
        subst hnv2
        have hws : IntKind.i64.wrap ((i : Int) - (m0 : Int)) = (i : Int) - (m0 : Int) := IntWalk.i64_in _ (by omega)
        go_wp2_with fail
        refine (l_sameInts (slR_ints hdX).1 (slR_ints hdP).1 (by have h : p.2.length = m1 := (slR_ints hdX).1.1; unfold maxLen; omega) (by have := HN1.out; unfold maxLen; omega)).mono ?_
        rintro e w5 ⟨rfl, hb5⟩
        rw [show decide ((lgf x p.1, p.2).2 = p.2) = true from decide_eq_true rfl]
        have X1 := X1.below hb5 X1.size
        have hX := tDesk.reach hX hb5
        have hB6 := bel_trans hB5 hb5
        have xw0 := X1.cell 0
        have xw1 := X1.cell 1
        go_wp2_with fail
        refine (i_DeskOk hX hzX).mono ?_
        rintro e w6 ⟨rfl, hb6⟩
        rw [HDX.out]
        go_wp2_with fail
        refine (l_desks _).mono ?_
        rintro e w9 ⟨rfl, hb9⟩
        go_wp2_with fail
        go_ret
        exact ⟨rfl, bel_trans (bel_trans hB6 hb6) hb9⟩

/-! ### THE ROW's STEP: WRITTEN OUT: LEAVE IT -/
set_option maxRecDepth 100000 in
theorem lifted (os : Os) (started : os.Started) (H : Type) (enc : TypeId × Value → H) :
    ReturnsInHanded {} Tryz.checked os 4 .any (Rows.fnLetsGoSpec.pre6 enc Tryz.prog Tryz.f4 Rows.fnLetsGoRow.domain false) (Rows.fnLetsGoSpec.post enc Tryz.prog Tryz.f4 false true false false) := by
  refine returnsInHanded_of_change_sized (C := Tryz.checked) own started (by kernel_rfl) Tryz.func4
    (ChangeSpec.witness6 (enc := enc) (C := Tryz.checked) false ⟨#[], #[.slice none 0 0], []⟩ 8 (by kernel_rfl) (by kernel_rfl) (by kernel_rfl) (by kernel_rfl)) ?_
  intro W base args ds gs before hval0 hW hcnd hsz0 _
  have hval : ∀ (j : Nat) t v, Tryz.f4.params[j]? = some t → args[j]? = some v → Value.okWide Tryz.prog W .any base t v := hval0
  have hW' := hW
  obtain ⟨p, q, hA0, hV, rfl, hfz, hnd⟩ := hW
  have hA : DataW.TrodAll enc Tryz.prog W 0 (fun _ => true) true Tryz.f4.params.toList args.toList ds p := hA0
  have hsz : (DataW.weightsEach Tryz.prog (Tryz.f4.params.toList ++ Rows.fnLetsGoSpec.plain.varTypes Tryz.prog) (ds ++ gs)).all (· ≤ reachBytes) = true := hsz0
  rw [Tryz.params4] at hA hval hsz
  obtain ⟨v0, vs0, d0, ds0, p0, q0, hargs, rfl, rfl, h0, r0⟩ := trodAll_cons hA
  obtain ⟨rfl, rfl, rfl⟩ := trodAll_nil r0
  obtain rfl : args = #[v0] := by cases args; simp_all
  obtain ⟨rfl, rfl⟩ := trodVars_none hV
  obtain ⟨a0, len0, cap0, rfl⟩ := okWide_slice Tryz.underlying26 (hval 0 26 v0 rfl rfl)
  have k0 := h0
  have lt0 : ∀ x ∈ p0, x.block < W.heap.size := by obtain ⟨m, hm⟩ := k0; exact DataW.trod_lt m _ _ _ hm
  obtain ⟨z0, w0, r0⟩ : ∃ zs, IsRow .u8 W a0 len0 cap0 zs ∧ cap0 ≤ 140737488351232 := by
    obtain ⟨fuel, hf⟩ := h0
    rcases open_ints Tryz.underlying26 Tryz.underlying5 (by kernel_rfl) hf with ⟨hcs, _⟩ | ⟨x, l, c, zs, hcs, _, hl, hm, hz, hxx, hcell, hwz⟩
    · simp [Value.cells] at hcs
      obtain ⟨rfl, rfl, rfl⟩ := hcs
      exact ⟨[], .inl ⟨rfl, rfl, rfl, rfl⟩, by omega⟩
    · simp [Value.cells] at hcs
      obtain ⟨rfl, rfl, rfl⟩ := hcs
      have hz' : zs.length = cap0 := by simpa using hz
      refine ⟨zs, .inr ⟨_, rfl, hl, hm, hz', hcell, hwz⟩, ?_⟩
      simp only [Prod.mk.injEq] at hxx
      rw [hxx.1] at hsz
      have h := sized_slice hsz (j := 0) (t := 26) (e := 5) rfl rfl Tryz.underlying26
      rw [bytes5] at h
      simp only [lits, List.length_map, List.length_take, List.length_drop, reachBytes] at h
      omega
  clear hA0 hval0
  refine (walk a0 len0 cap0 z0 W w0 r0).mono fun e W' ⟨he, bel⟩ => ?_
  subst he
  exact ⟨_, rfl, _, _, _, [], _, [], hW', trodAll_mk1 (shut_bool Tryz.underlying4 _), (trodAll_cons_mk (Below.trod laidOut (by kernel_rfl) (of_decide_eq_true (by kernel_rfl)) k0 bel lt0) trodAll_mk0), rfl, bel.frame _, fun h => by cases h⟩

theorem over : Rows.fnLetsGoRow.holds Tryz.pinned (OpenSpec.ofChange Rows.fnLetsGoSpec) :=
  OpenClaim.holds_of_wide 4 Tryz.f4 rfl rfl rfl rfl rfl rfl rfl ⟨rfl, rfl, rfl, rfl, rfl⟩ rfl rfl rfl rfl rfl named_fnLetsGo Tryz.func4 closed_fnLetsGo
    (of_decide_eq_true (by kernel_rfl)) (by unfold Func.isWrapper; first | (rw [if_pos (by decide +kernel)]; kernel_rfl) | (rw [if_neg (by decide +kernel)]; exact ⟨rfl, rfl⟩))
    (fun os started H enc _ => lifted os started H enc)

/-- ████ THE STATEMENT ████ -/
theorem proved : Rows.FnLetsGoSaid := over
#print axioms proved
end Go.Proofs.YtaabmaoldhoinaaGreat.fnLetsGo
