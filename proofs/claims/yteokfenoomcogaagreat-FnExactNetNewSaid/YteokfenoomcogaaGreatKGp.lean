/-
  PWi, PNode2: texts joined.
-/
import Derived.Test.YteokfenoomcogaaGreatKGi
import Derived.Test.YteokfenoomcogaaGreatKGl
import Derived.Test.YteokfenoomcogaaGreatKGn
import Derived.Test.YteokfenoomcogaaGreatKGo
import Derived.Test.YteokfenoomcogaaGreatKMPNodeI
import Derived.Test.YteokfenoomcogaaGreatKX0
import Derived.Deep.RegionHeld3
namespace Go.Proofs.YteokfenoomcogaaGreat
set_option maxRecDepth 100000
set_option linter.unusedVariables false
set_option linter.unusedSimpArgs false
open Go.ChangeShapes Go.WideShapes Go.ChangeAt Go.RowKit
open Fld
theorem i_within_t (x y : Int) (w : World) (h1 : 0 ≤ x) (h2 : x ≤ y) : Calls Tryz.prog 56 #[.int .i64 x, .int .i64 y] w fun e w' => e = .returned (.bool true) ∧ w = w' := by
  go_enter Tryz.func56, Tryz.ntmps56
  go_wp2
  go_ret
  exact ⟨by first | rfl | (simp; done) | (simp; omega), rfl⟩
theorem i_within_f (x y : Int) (w : World) (h : ¬ (0 ≤ x ∧ x ≤ y)) : Calls Tryz.prog 56 #[.int .i64 x, .int .i64 y] w fun e w' => e = .returned (.bool false) ∧ w = w' := by
  by_cases h1 : 0 ≤ x
  · have h2 : ¬ x ≤ y := fun h2 => h ⟨h1, h2⟩
    clear h
    go_enter Tryz.func56, Tryz.ntmps56
    go_wp2
    go_ret
    exact ⟨by first | rfl | (simp; done) | (simp; omega), rfl⟩
  · clear h
    go_enter Tryz.func56, Tryz.ntmps56
    go_wp2
    go_ret
    exact ⟨by first | rfl | (simp; done) | (simp; omega), rfl⟩
theorem i_nodeSecret (s i : Int) (w : World) (h1 : 0 ≤ s) (h2 : s ≤ 1000) (h3 : 0 ≤ i) (h4 : i ≤ 8) : Calls Tryz.prog 94 #[.int .i64 s, .int .i64 i] w fun e w' => e = .returned (.int .i64 (nsec s i)) ∧ w = w' := by
  have HN := Lib.hid (show nsec s i = 1 + (1009 * s + 7919 * i + 12345) % 1000000000 from rfl)
  go_enter Tryz.func94, Tryz.ntmps94
  go_wp2
  go_ret
  exact ⟨by first | (rw [HN.out]; done) | (rw [HN.out]; rfl) | (refine ret_int ?_; rw [HN.out]; omega), rfl⟩
end Go.Proofs.YteokfenoomcogaaGreat
namespace Go.Proofs.YteokfenoomcogaaGreat
set_option maxRecDepth 100000
set_option linter.unusedVariables false
set_option linter.unusedSimpArgs false
open Go.ChangeShapes Go.WideShapes Go.ChangeAt Go.RowKit
def ldL (l : List DWhole) : Int := l.foldl (fun n a => n + (a.2.2.2.length : Int)) 0
theorem ldL_sn {l : List DWhole} {j : Nat} {a : DWhole} (h : l[j]? = some a) : ldL (l.take (j + 1)) = ldL (l.take j) + (a.2.2.2.length : Int) := by
  rw [take_sn h]; unfold ldL; rw [List.foldl_append]; rfl
theorem ldL_ge : ∀ (l : List DWhole) (n : Int), n ≤ l.foldl (fun n a => n + (a.2.2.2.length : Int)) n
  | [], n => Int.le_refl _
  | a :: l, n => by rw [List.foldl_cons]; have := ldL_ge l (n + (a.2.2.2.length : Int)); omega
theorem ldL_rg {l : List DWhole} (h : ∀ a ∈ l, WhN a) (j : Nat) : 0 ≤ ldL (l.take j) ∧ ldL (l.take j) ≤ 8 * (j : Int) := by
  refine ⟨ldL_ge _ _, ?_⟩
  induction j with
  | zero => simp [ldL]
  | succ j ih =>
    by_cases hj : j < l.length
    · have hl : l[j]? = some (l[j]'hj) := List.getElem?_eq_getElem hj
      have := wh_rg (h _ (List.getElem_mem hj))
      rw [ldL_sn hl]; omega
    · rw [List.take_of_length_le (by omega)]
      rw [List.take_of_length_le (by omega)] at ih
      omega
theorem ldL_pos {l : List DWhole} (h : ∀ a ∈ l, WhN a) (hl : l ≠ []) : 0 < ldL l := by
  match l, hl with
  | a :: l, _ =>
    have := wh_rg (h a (by simp))
    have h2 := ldL_ge l (0 + (a.2.2.2.length : Int))
    unfold ldL
    rw [List.foldl_cons]
    omega
noncomputable def fLoad (p : DNode) : Int := if NdOk p then (p.2.2.1.1.length : Int) + ldL p.2.2.2.1.1 else -1
theorem fLoad_t {p : DNode} (h : NdOk p) : fLoad p = (p.2.2.1.1.length : Int) + ldL p.2.2.2.1.1 := if_pos h
theorem fLoad_f {p : DNode} (h : ¬ NdOk p) : fLoad p = -1 := if_neg h
noncomputable def fIdle (p : DNode) : Bool := decide (NdOk p) && (decide (p.2.2.1.1.length = 0) && decide (p.2.2.2.1.1.length = 0))
theorem fIdle_t {p : DNode} (h : NdOk p) : fIdle p = (decide (p.2.2.1.1.length = 0) && decide (p.2.2.2.1.1.length = 0)) := by unfold fIdle; rw [decide_eq_true h]; rfl
theorem fIdle_f {p : DNode} (h : ¬ NdOk p) : fIdle p = false := by unfold fIdle; rw [decide_eq_false h]; rfl
theorem fIdle_load (p : DNode) : fIdle p = decide (fLoad p = 0) := by
  by_cases h : NdOk p
  · rw [fIdle_t h, fLoad_t h]
    have hw : ∀ a ∈ p.2.2.2.1.1, WhN a := fun a ha => (h.2.2.2.1.2.2.2.2 a ha).1
    by_cases h1 : p.2.2.1.1.length = 0 <;> by_cases h2 : p.2.2.2.1.1 = []
    · rw [h1, h2]; rfl
    · have := ldL_pos hw h2
      have h3 : p.2.2.2.1.1.length ≠ 0 := fun e => h2 (List.eq_nil_of_length_eq_zero e)
      simp [h1, h3]; omega
    · simp [h1, h2, ldL]
    · have := ldL_pos hw h2
      simp [h1]; omega
  · rw [fIdle_f h, fLoad_f h]; rfl
set_option maxHeartbeats 1000000 in
theorem i_Load {w : World} {cs : List Value} {p : DNode} (h : tNode.R w w.heap.size cs p) (hz : szNode p ≤ 1048576) :
    Calls Tryz.prog 127 #[.agg cs.toArray] w fun e w' => e = .returned (.int .i64 (fLoad p)) ∧ Below w.heap.size w w' := by
  obtain ⟨A2, n2, c2, A3, n3, c3, A4, n4, c4, A5, n5, c5, A6, n6, c6, rfl, -, -, hP, hD, hL⟩ := fopenNode h
  by_cases hp : NdOk p
  · have HP := Lib.hid (decide_eq_true hp)
    have hr2 := (prod_two rfl hP).1
    have hr4 := (prod_two rfl hD).1
    have e2 := (rowR_len hr2).1
    have e4 := (rowR_len hr4).1
    have hn2 : n2 ≤ 12 := by have := hp.2.2.1.1.1; omega
    have hn4 : n4 ≤ 6 := by have := hp.2.2.2.1.1; omega
    have HWH := Lib.hid (show ∀ a ∈ p.2.2.2.1.1, WhN a from fun a ha => (hp.2.2.2.1.2.2.2.2 a ha).1)
    rw [fLoad_t hp, e2]
    have E4 := Lib.hid e4
    clear hp e2 e4
    go_enter Tryz.func127, Tryz.ntmps127
    go_wp2_with fail
    refine (i_NodeOk (tNode.reach h ?hB) hz).mono ?_
    case hB => exact (belx)
    rintro e w1 ⟨rfl, hb1⟩
    rw [HP.out]
    have X1 : Box w1 w.heap.size 71 #[.int .i64 p.1, .int .i64 p.2.1, .slice A2 n2 c2, .slice A3 n3 c3, .slice A4 n4 c4, .slice A5 n5 c5, .slice A6 n6 c6] := (Box.new _ _ _).below hb1 (by simp)
    have k0 : w1.cell? ⟨w.heap.size, 0, none⟩ = some (.int .i64 p.1) := X1.cell 0
    have k1 : w1.cell? ⟨w.heap.size, 1, none⟩ = some (.int .i64 p.2.1) := X1.cell 1
    have k2 : w1.cell? ⟨w.heap.size, 2, none⟩ = some (.slice A2 n2 c2) := X1.cell 2
    have k3 : w1.cell? ⟨w.heap.size, 3, none⟩ = some (.slice A3 n3 c3) := X1.cell 3
    have k4 : w1.cell? ⟨w.heap.size, 4, none⟩ = some (.slice A4 n4 c4) := X1.cell 4
    have k5 : w1.cell? ⟨w.heap.size, 5, none⟩ = some (.slice A5 n5 c5) := X1.cell 5
    have k6 : w1.cell? ⟨w.heap.size, 6, none⟩ = some (.slice A6 n6 c6) := X1.cell 6
    have hB1 : Below w.heap.size w w1 := bel_trans (belx) hb1
    have z1 : w.heap.size + 1 ≤ w1.heap.size := by have := hb1.size; simpa using this
    clear hb1
    go_wp2_with fail
    go_loopw [3, 17] (fun x i wr => ∃ j : Nat, j ≤ n4 ∧ i = .int .i64 j ∧ x = .int .i64 ((n2 : Int) + ldL (p.2.2.2.1.1.take j)) ∧ Below w.heap.size w wr) (fun _ i _ => n4 - (intOf i).toNat)
    case atStart => exact ⟨0, by omega, rfl, by simp [ldL], hB1⟩
    case round =>
      obtain ⟨j, hj, rfl, rfl, hB⟩ := hrel
      have hrg := ldL_rg HWH.out j
      by_cases hlt : j < n4
      · obtain ⟨a, b', off, es, hl2, rfl, hb, hes, hR⟩ := rowR_at (K := 4) hr4 hlt rfl
        have HS := Lib.hid (ldL_sn hl2)
        have hwh := wh_rg (HWH.out a (alMem hl2))
        clear hl2
        obtain ⟨A7, n7, c7, rfl, -, -, -, -, -, hl7, -⟩ := openWhole hR
        rw [hl7] at HS hwh
        clear hl7
        have u0 : wr.cell? ⟨b', off + j * 4, none⟩ = some (.int .i64 a.1) := cell_at hB hb (hes 0 (by omega))
        have u1 : wr.cell? ⟨b', off + j * 4 + 1, none⟩ = some (.int .i64 a.2.1) := cell_at hB hb (hes 1 (by omega))
        have u2 : wr.cell? ⟨b', off + j * 4 + 2, none⟩ = some (.int .i64 a.2.2.1) := cell_at hB hb (hes 2 (by omega))
        have u3 : wr.cell? ⟨b', off + j * 4 + 3, none⟩ = some (.slice A7 n7 c7) := cell_at hB hb (hes 3 (by omega))
        clear hes hR
        obtain ⟨y, hy⟩ : ∃ y, ldL (p.2.2.2.1.1.take j) = y := ⟨_, rfl⟩
        rw [hy] at HS hrg
        rw [hy]
        clear hy
        go_wp2
        go_roundw
        case rel => exact ⟨j + 1, by omega, by go_num, by (rw [HS.out]; try go_num), (belx)⟩
        case measure => simp [intOf]; omega
      · obtain rfl : n4 = j := by omega
        have HAL := Lib.hid (show p.2.2.2.1.1.take n4 = p.2.2.2.1.1 from List.take_of_length_le (Nat.le_of_eq E4.out))
        rw [HAL.out] at hrg
        rw [HAL.out]
        obtain ⟨y, hy⟩ : ∃ y, ldL p.2.2.2.1.1 = y := ⟨_, rfl⟩
        rw [hy] at hrg
        rw [hy]
        have HY := Lib.hid hy
        clear hy
        go_wp2
        go_ret
        exact ⟨by first | rfl | (rw [HY.out]; done) | (refine ret_int ?_; rw [HY.out]; done) | (refine ret_int ?_; rw [HY.out]; omega), hB⟩
  · have HP := Lib.hid (decide_eq_false hp)
    rw [fLoad_f hp]
    clear hp
    go_enter Tryz.func127, Tryz.ntmps127
    go_wp2_with fail
    refine (i_NodeOk (tNode.reach h ?hB) hz).mono ?_
    case hB => exact (belx)
    rintro e w1 ⟨rfl, hb1⟩
    rw [HP.out]
    go_wp2
    go_ret
    exact ⟨rfl, bel_trans (belx) hb1⟩
set_option maxHeartbeats 1000000 in
theorem s_Idle {w : World} {cs : List Value} {p : DNode} (h : tNode.R w w.heap.size cs p) (hz : szNode p ≤ 1048576) :
    Calls Tryz.prog 77 #[.agg cs.toArray] w fun e w' => e = .returned (.bool (fIdle p)) ∧ Below w.heap.size w w' := by
  obtain ⟨A2, n2, c2, A3, n3, c3, A4, n4, c4, A5, n5, c5, A6, n6, c6, rfl, -, -, hP, hD, hL⟩ := fopenNode h
  by_cases hp : NdOk p
  · have HP := Lib.hid (decide_eq_true hp)
    have e2 := (rowR_len (prod_two rfl hP).1).1
    have e4 := (rowR_len (prod_two rfl hD).1).1
    rw [fIdle_t hp, e2, e4]
    clear hp e2 e4
    by_cases q2 : n2 = 0
    · by_cases q4 : n4 = 0
      · have HR := Lib.hid (show (decide (n2 = 0) && decide (n4 = 0)) = true by simp [q2, q4])
        rw [HR.out]
        have t2 : ((n2 : Int) == 0) = true := by simp [q2]
        have t4 : ((n4 : Int) == 0) = true := by simp [q4]
        clear q2 q4
        go_enter Tryz.func77, Tryz.ntmps77
        go_wp2_with fail
        refine (s_NodeOk (tNode.reach h ?hB) hz).mono ?_
        case hB => exact (belx)
        rintro e w1 ⟨rfl, hb1⟩
        rw [HP.out]
        have X1 : Box w1 w.heap.size 71 #[.int .i64 p.1, .int .i64 p.2.1, .slice A2 n2 c2, .slice A3 n3 c3, .slice A4 n4 c4, .slice A5 n5 c5, .slice A6 n6 c6] := (Box.new _ _ _).below hb1 (by simp)
        have k0 : w1.cell? ⟨w.heap.size, 0, none⟩ = some (.int .i64 p.1) := X1.cell 0
        have k1 : w1.cell? ⟨w.heap.size, 1, none⟩ = some (.int .i64 p.2.1) := X1.cell 1
        have k2 : w1.cell? ⟨w.heap.size, 2, none⟩ = some (.slice A2 n2 c2) := X1.cell 2
        have k3 : w1.cell? ⟨w.heap.size, 3, none⟩ = some (.slice A3 n3 c3) := X1.cell 3
        have k4 : w1.cell? ⟨w.heap.size, 4, none⟩ = some (.slice A4 n4 c4) := X1.cell 4
        have k5 : w1.cell? ⟨w.heap.size, 5, none⟩ = some (.slice A5 n5 c5) := X1.cell 5
        have k6 : w1.cell? ⟨w.heap.size, 6, none⟩ = some (.slice A6 n6 c6) := X1.cell 6
        have hB1 : Below w.heap.size w w1 := bel_trans (belx) hb1
        have z1 : w.heap.size + 1 ≤ w1.heap.size := by have := hb1.size; simpa using this
        clear hb1
        go_wp2
        go_ret
        exact ⟨rfl, hB1⟩
      · have HR := Lib.hid (show (decide (n2 = 0) && decide (n4 = 0)) = false by simp [q2, q4])
        rw [HR.out]
        have t2 : ((n2 : Int) == 0) = true := by simp [q2]
        have t4 : ((n4 : Int) == 0) = false := by simp [q4]
        clear q2 q4
        go_enter Tryz.func77, Tryz.ntmps77
        go_wp2_with fail
        refine (s_NodeOk (tNode.reach h ?hB) hz).mono ?_
        case hB => exact (belx)
        rintro e w1 ⟨rfl, hb1⟩
        rw [HP.out]
        have X1 : Box w1 w.heap.size 71 #[.int .i64 p.1, .int .i64 p.2.1, .slice A2 n2 c2, .slice A3 n3 c3, .slice A4 n4 c4, .slice A5 n5 c5, .slice A6 n6 c6] := (Box.new _ _ _).below hb1 (by simp)
        have k0 : w1.cell? ⟨w.heap.size, 0, none⟩ = some (.int .i64 p.1) := X1.cell 0
        have k1 : w1.cell? ⟨w.heap.size, 1, none⟩ = some (.int .i64 p.2.1) := X1.cell 1
        have k2 : w1.cell? ⟨w.heap.size, 2, none⟩ = some (.slice A2 n2 c2) := X1.cell 2
        have k3 : w1.cell? ⟨w.heap.size, 3, none⟩ = some (.slice A3 n3 c3) := X1.cell 3
        have k4 : w1.cell? ⟨w.heap.size, 4, none⟩ = some (.slice A4 n4 c4) := X1.cell 4
        have k5 : w1.cell? ⟨w.heap.size, 5, none⟩ = some (.slice A5 n5 c5) := X1.cell 5
        have k6 : w1.cell? ⟨w.heap.size, 6, none⟩ = some (.slice A6 n6 c6) := X1.cell 6
        have hB1 : Below w.heap.size w w1 := bel_trans (belx) hb1
        have z1 : w.heap.size + 1 ≤ w1.heap.size := by have := hb1.size; simpa using this
        clear hb1
        go_wp2
        go_ret
        exact ⟨rfl, hB1⟩
    · have HR := Lib.hid (show (decide (n2 = 0) && decide (n4 = 0)) = false by simp [q2])
      rw [HR.out]
      have t2 : ((n2 : Int) == 0) = false := by simp [q2]
      clear q2
      go_enter Tryz.func77, Tryz.ntmps77
      go_wp2_with fail
      refine (s_NodeOk (tNode.reach h ?hB) hz).mono ?_
      case hB => exact (belx)
      rintro e w1 ⟨rfl, hb1⟩
      rw [HP.out]
      have X1 : Box w1 w.heap.size 71 #[.int .i64 p.1, .int .i64 p.2.1, .slice A2 n2 c2, .slice A3 n3 c3, .slice A4 n4 c4, .slice A5 n5 c5, .slice A6 n6 c6] := (Box.new _ _ _).below hb1 (by simp)
      have k0 : w1.cell? ⟨w.heap.size, 0, none⟩ = some (.int .i64 p.1) := X1.cell 0
      have k1 : w1.cell? ⟨w.heap.size, 1, none⟩ = some (.int .i64 p.2.1) := X1.cell 1
      have k2 : w1.cell? ⟨w.heap.size, 2, none⟩ = some (.slice A2 n2 c2) := X1.cell 2
      have k3 : w1.cell? ⟨w.heap.size, 3, none⟩ = some (.slice A3 n3 c3) := X1.cell 3
      have k4 : w1.cell? ⟨w.heap.size, 4, none⟩ = some (.slice A4 n4 c4) := X1.cell 4
      have k5 : w1.cell? ⟨w.heap.size, 5, none⟩ = some (.slice A5 n5 c5) := X1.cell 5
      have k6 : w1.cell? ⟨w.heap.size, 6, none⟩ = some (.slice A6 n6 c6) := X1.cell 6
      have hB1 : Below w.heap.size w w1 := bel_trans (belx) hb1
      have z1 : w.heap.size + 1 ≤ w1.heap.size := by have := hb1.size; simpa using this
      clear hb1
      go_wp2
      go_ret
      exact ⟨rfl, hB1⟩
  · have HP := Lib.hid (decide_eq_false hp)
    rw [fIdle_f hp]
    clear hp
    go_enter Tryz.func77, Tryz.ntmps77
    go_wp2_with fail
    refine (s_NodeOk (tNode.reach h ?hB) hz).mono ?_
    case hB => exact (belx)
    rintro e w1 ⟨rfl, hb1⟩
    rw [HP.out]
    go_wp2
    go_ret
    exact ⟨rfl, bel_trans (belx) hb1⟩
theorem i_Idle {w : World} {cs : List Value} {p : DNode} (h : tNode.R w w.heap.size cs p) (hz : szNode p ≤ 1048576) :
    Calls Tryz.prog 79 #[.agg cs.toArray] w fun e w' => e = .returned (.bool (fIdle p)) ∧ Below w.heap.size w w' := by
  obtain ⟨A2, n2, c2, A3, n3, c3, A4, n4, c4, A5, n5, c5, A6, n6, c6, rfl, -, -, hP, hD, hL⟩ := fopenNode h
  rw [fIdle_load]
  obtain ⟨y, hy⟩ : ∃ y, fLoad p = y := ⟨_, rfl⟩
  have HY := Lib.hid hy
  rw [hy]
  clear hy
  by_cases h0 : y = 0
  · subst h0
    go_enter Tryz.func79, Tryz.ntmps79
    go_wp2_with fail
    refine (i_Load (tNode.reach h ?hB) hz).mono ?_
    case hB => exact (belx)
    rintro e w1 ⟨rfl, hb1⟩
    rw [HY.out]
    go_wp2
    go_ret
    exact ⟨rfl, bel_trans (belx) hb1⟩
  · have t : (y == 0) = false := by simp [h0]
    have HR := Lib.hid (decide_eq_false h0)
    rw [HR.out]
    clear h0
    go_enter Tryz.func79, Tryz.ntmps79
    go_wp2_with fail
    refine (i_Load (tNode.reach h ?hB) hz).mono ?_
    case hB => exact (belx)
    rintro e w1 ⟨rfl, hb1⟩
    rw [HY.out]
    go_wp2
    go_ret
    exact ⟨rfl, bel_trans (belx) hb1⟩
end Go.Proofs.YteokfenoomcogaaGreat
