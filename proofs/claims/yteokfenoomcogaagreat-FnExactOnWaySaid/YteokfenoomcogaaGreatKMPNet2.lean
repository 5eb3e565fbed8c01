/-
  PNet2: texts joined.
-/
import Derived.Test.YteokfenoomcogaaGreatKGh
import Derived.Test.YteokfenoomcogaaGreatKGi
import Derived.Test.YteokfenoomcogaaGreatKGp
import Derived.Test.YteokfenoomcogaaGreatKMPNetS
namespace Go.Proofs.YteokfenoomcogaaGreat
set_option maxRecDepth 100000
set_option linter.unusedVariables false
set_option linter.unusedSimpArgs false
open Go.ChangeShapes Go.WideShapes Go.ChangeAt Go.RowKit
open Fld
noncomputable def fRest (p : DNet) : Bool := decide (NtOk p) && (decide (p.2.2.2.2.1.length = 0) && p.2.2.2.1.all fIdle)
theorem fRest_t {p : DNet} (h : NtOk p) : fRest p = (decide (p.2.2.2.2.1.length = 0) && p.2.2.2.1.all fIdle) := by unfold fRest; rw [decide_eq_true h]; rfl
theorem fRest_f {p : DNet} (h : ¬ NtOk p) : fRest p = false := by unfold fRest; rw [decide_eq_false h]; rfl
noncomputable def fSnt (p : DNet) : List Int := if NtOk p then p.2.2.2.2.2.1.map fun s => s.1 else []
theorem fSnt_t {p : DNet} (h : NtOk p) : fSnt p = p.2.2.2.2.2.1.map fun s => s.1 := if_pos h
theorem fSnt_f {p : DNet} (h : ¬ NtOk p) : fSnt p = [] := if_neg h
theorem fSnt_le (p : DNet) : (fSnt p).length ≤ 20 := by
  unfold fSnt
  split
  · rename_i h; rw [List.length_map]; exact h.2.1.2.1
  · simp
noncomputable def fFlow (p : DNet) : List Int := if NtOk p then cntF (fun g : DGlance => g.2) p.2.2.2.2.2.2 else []
theorem fFlow_t {p : DNet} (h : NtOk p) : fFlow p = cntF (fun g : DGlance => g.2) p.2.2.2.2.2.2 := if_pos h
theorem fFlow_f {p : DNet} (h : ¬ NtOk p) : fFlow p = [] := if_neg h
theorem fFlow_le (p : DNet) : (fFlow p).length ≤ 8 := by
  unfold fFlow
  split
  · rw [cntF_len]; exact Nat.le_refl _
  · simp
def one8 (l : List DMail) (x : Int) : Int := (cntF (fun m : DMail => m.1) l).getD x.toNat 0
noncomputable def fWay (p : DNet) (x : Int) : Int := if NtOk p ∧ 0 ≤ x ∧ x < 8 then one8 p.2.2.2.2.1 x else -1
theorem fWay_t {p : DNet} {x : Int} (h : NtOk p) (h0 : 0 ≤ x) (h1 : x < 8) : fWay p x = one8 p.2.2.2.2.1 x := if_pos ⟨h, h0, h1⟩
theorem fWay_f {p : DNet} {x : Int} (h : ¬ NtOk p) : fWay p x = -1 := if_neg fun hh => h hh.1
theorem fWay_g {p : DNet} {x : Int} (h : ¬ (0 ≤ x ∧ x < 8)) : fWay p x = -1 := if_neg fun hh => h hh.2
theorem one8_zero (x : Int) (h0 : 0 ≤ x) (h1 : x < 8) : one8 [] x = 0 := by
  obtain ⟨k, rfl⟩ : ∃ k : Nat, x = k := ⟨x.toNat, by omega⟩
  have : k < 8 := by omega
  rcases (by omega : k = 0 ∨ k = 1 ∨ k = 2 ∨ k = 3 ∨ k = 4 ∨ k = 5 ∨ k = 6 ∨ k = 7) with rfl | rfl | rfl | rfl | rfl | rfl | rfl | rfl <;> rfl
theorem one8_sn {l : List DMail} {j : Nat} {a : DMail} {x : Int} (h : l[j]? = some a) (ha : 0 ≤ a.1 ∧ a.1 < 8) (hx : 0 ≤ x ∧ x < 8) : one8 (l.take (j + 1)) x = one8 (l.take j) x + (if a.1 = x then 1 else 0) := by
  unfold one8
  rw [cntF_sn (f := fun m : DMail => m.1) h]
  have hl := cntF_len (fun m : DMail => m.1) (l.take j)
  (try dsimp only)
  by_cases e : a.1 = x
  · rw [if_pos e, e]
    simp only [List.getD_eq_getElem?_getD]
    rw [List.getElem?_set_self (by omega)]
    rfl
  · rw [if_neg e]
    have : a.1.toNat ≠ x.toNat := by omega
    simp only [List.getD_eq_getElem?_getD]
    rw [List.getElem?_set_ne this]
    omega
theorem one8_rg (l : List DMail) {x : Int} (hx : 0 ≤ x ∧ x < 8) : 0 ≤ one8 l x ∧ one8 l x ≤ l.length := by
  have hl := cntF_len (fun m : DMail => m.1) l
  unfold one8
  refine cntF_le (fun m : DMail => m.1) l _ ?_
  rw [List.getD_eq_getElem?_getD, List.getElem?_eq_getElem (by omega)]
  exact List.getElem_mem _
theorem i_MlTo {w : World} {cs : List Value} {p : DMail} (h : tMail.R w w.heap.size cs p) :
    Calls Tryz.prog 72 #[.agg cs.toArray] w fun e w' => e = .returned (.int .i64 p.1) ∧ Below w.heap.size w w' := by
  obtain ⟨A1, n1, c1, rfl, -, -, -, -, -⟩ := openMail h
  go_enter Tryz.func72, Tryz.ntmps72
  go_wp2
  go_ret
  exact ⟨rfl, (belx)⟩
theorem i_GlTo {w : World} {cs : List Value} {p : DGlance} (h : tGlance.R w w.heap.size cs p) :
    Calls Tryz.prog 83 #[.agg cs.toArray] w fun e w' => e = .returned (.int .i64 p.2) ∧ Below w.heap.size w w' := by
  obtain ⟨rfl, -, -⟩ := openGlance h
  go_enter Tryz.func83, Tryz.ntmps83
  go_wp2
  go_ret
  exact ⟨rfl, (belx)⟩
set_option maxHeartbeats 2000000 in
theorem s_Resting {w : World} {cs : List Value} {p : DNet} (h : tNet.R w w.heap.size cs p) (hz : szNet p ≤ 1048576) :
    Calls Tryz.prog 26 #[.agg cs.toArray] w fun e w' => e = .returned (.bool (fRest p)) ∧ Below w.heap.size w w' := by
  obtain ⟨A3, n3, c3, A4, n4, c4, A5, n5, c5, A6, n6, c6, rfl, -, -, -, -, -, -, hN, -, -, -, hM, -, -, -, hS, -, -, -, hG⟩ := openNet h
  by_cases hp : NtOk p
  · have HP := Lib.hid (decide_eq_true hp)
    have e3 := (rowR_len hN).1
    have E4 := Lib.hid (rowR_len hM).1
    have hn3 : n3 ≤ 8 := by have := hp.2.2.1.1; omega
    have z1 : rsz szNode p.2.2.2.1 ≤ 1048576 := by unfold szNet at hz; omega
    have E3 := Lib.hid e3
    have HSZ := Lib.hid z1
    rw [fRest_t hp, E4.out]
    clear hp e3 z1
    by_cases q4 : n4 = 0
    rotate_left
    · have HR := Lib.hid (show (decide (n4 = 0) && p.2.2.2.1.all fIdle) = false by simp [q4])
      rw [HR.out]
      have t4 : (0 : Int) < (n4 : Int) := by omega
      clear q4
      go_enter Tryz.func26, Tryz.ntmps26
      go_wp2_with fail
      refine (s_NetOk (tNet.reach h ?hB) hz).mono ?_
      case hB => exact (belx)
      rintro e w1 ⟨rfl, hb1⟩
      rw [HP.out]
      have X1 : Box w1 w.heap.size 35 #[.int .i64 p.1, .int .i64 p.2.1, .int .i64 p.2.2.1, .slice A3 n3 c3, .slice A4 n4 c4, .slice A5 n5 c5, .slice A6 n6 c6] := (Box.new _ _ _).below hb1 (by simp)
      have k0 : w1.cell? ⟨w.heap.size, 0, none⟩ = some (.int .i64 p.1) := X1.cell 0
      have k1 : w1.cell? ⟨w.heap.size, 1, none⟩ = some (.int .i64 p.2.1) := X1.cell 1
      have k2 : w1.cell? ⟨w.heap.size, 2, none⟩ = some (.int .i64 p.2.2.1) := X1.cell 2
      have k3 : w1.cell? ⟨w.heap.size, 3, none⟩ = some (.slice A3 n3 c3) := X1.cell 3
      have k4 : w1.cell? ⟨w.heap.size, 4, none⟩ = some (.slice A4 n4 c4) := X1.cell 4
      have k5 : w1.cell? ⟨w.heap.size, 5, none⟩ = some (.slice A5 n5 c5) := X1.cell 5
      have k6 : w1.cell? ⟨w.heap.size, 6, none⟩ = some (.slice A6 n6 c6) := X1.cell 6
      have hB1 : Below w.heap.size w w1 := bel_trans (belx) hb1
      have z1 : w.heap.size + 1 ≤ w1.heap.size := by have := hb1.size; simpa using this
      clear hb1
      go_wp2
      go_ret
      exact ⟨rfl, hB1⟩
    obtain ⟨b, hb⟩ : ∃ b, (decide (n4 = 0) && p.2.2.2.1.all fIdle) = b := ⟨_, rfl⟩
    rw [hb]
    have HT := Lib.hid (show (∀ a ∈ p.2.2.2.1, fIdle a = true) → b = true from fun hh => by rw [← hb, q4, List.all_eq_true.2 hh]; rfl)
    have HF := Lib.hid (show ∀ a ∈ p.2.2.2.1, fIdle a = false → b = false from fun a ha hh => by rw [← hb, List.all_eq_false.2 ⟨a, ha, by rw [hh]; simp⟩]; simp)
    have t4 : ¬ (0 : Int) < (n4 : Int) := by omega
    have t5 : ¬ 0 < n4 := by omega
    have t6 : decide (0 < n4) = false := decide_eq_false t5
    clear q4 hb
    go_enter Tryz.func26, Tryz.ntmps26
    go_wp2_with fail
    refine (s_NetOk (tNet.reach h ?hB) hz).mono ?_
    case hB => exact (belx)
    rintro e w1 ⟨rfl, hb1⟩
    rw [HP.out]
    have X1 : Box w1 w.heap.size 35 #[.int .i64 p.1, .int .i64 p.2.1, .int .i64 p.2.2.1, .slice A3 n3 c3, .slice A4 n4 c4, .slice A5 n5 c5, .slice A6 n6 c6] := (Box.new _ _ _).below hb1 (by simp)
    have k0 : w1.cell? ⟨w.heap.size, 0, none⟩ = some (.int .i64 p.1) := X1.cell 0
    have k1 : w1.cell? ⟨w.heap.size, 1, none⟩ = some (.int .i64 p.2.1) := X1.cell 1
    have k2 : w1.cell? ⟨w.heap.size, 2, none⟩ = some (.int .i64 p.2.2.1) := X1.cell 2
    have k3 : w1.cell? ⟨w.heap.size, 3, none⟩ = some (.slice A3 n3 c3) := X1.cell 3
    have k4 : w1.cell? ⟨w.heap.size, 4, none⟩ = some (.slice A4 n4 c4) := X1.cell 4
    have k5 : w1.cell? ⟨w.heap.size, 5, none⟩ = some (.slice A5 n5 c5) := X1.cell 5
    have k6 : w1.cell? ⟨w.heap.size, 6, none⟩ = some (.slice A6 n6 c6) := X1.cell 6
    have hB1 : Below w.heap.size w w1 := bel_trans (belx) hb1
    have z1 : w.heap.size + 1 ≤ w1.heap.size := by have := hb1.size; simpa using this
    clear hb1
    go_wp2_with fail
    go_loopw [3] (fun i wr => ∃ j : Nat, j ≤ n3 ∧ i = .int .i64 j ∧ Below w1.heap.size w1 wr ∧ ∀ a ∈ p.2.2.2.1.take j, fIdle a = true) (fun i _ => n3 - (intOf i).toNat)
    case atStart => exact ⟨0, by omega, rfl, Below.refl _ _, al0⟩
    case round =>
      obtain ⟨j, hj, rfl, hB, hG⟩ := hrel
      have HG := Lib.hid hG
      clear hG k0 k1 k2 k3 k4 k5 k6 t4
      have X := X1.below hB X1.size
      have k3 : wr.cell? ⟨w.heap.size, 3, none⟩ = some (.slice A3 n3 c3) := X.cell 3
      have hB0 : Below w.heap.size w wr := bel_trans hB1 hB
      by_cases hlt : j < n3
      · obtain ⟨a, b', off, es, hl2, rfl, hb, hes, hR⟩ := rowR_at (K := 7) hN hlt rfl
        have HA := Lib.hid hl2
        have hza := nds_sz HSZ.out hl2
        have hRk := hR
        obtain ⟨B2, m2, d2, B3, m3, d3, B4, m4, d4, B5, m5, d5, B6, m6, d6, rfl, -⟩ := fopenNode hR
        have u0 : wr.cell? ⟨b', off + j * 7, none⟩ = some (.int .i64 a.1) := cell_at hB0 hb (hes 0 (by omega))
        have u1 : wr.cell? ⟨b', off + j * 7 + 1, none⟩ = some (.int .i64 a.2.1) := cell_at hB0 hb (hes 1 (by omega))
        have u2 : wr.cell? ⟨b', off + j * 7 + 2, none⟩ = some (.slice B2 m2 d2) := cell_at hB0 hb (hes 2 (by omega))
        have u3 : wr.cell? ⟨b', off + j * 7 + 3, none⟩ = some (.slice B3 m3 d3) := cell_at hB0 hb (hes 3 (by omega))
        have u4 : wr.cell? ⟨b', off + j * 7 + 4, none⟩ = some (.slice B4 m4 d4) := cell_at hB0 hb (hes 4 (by omega))
        have u5 : wr.cell? ⟨b', off + j * 7 + 5, none⟩ = some (.slice B5 m5 d5) := cell_at hB0 hb (hes 5 (by omega))
        have u6 : wr.cell? ⟨b', off + j * 7 + 6, none⟩ = some (.slice B6 m6 d6) := cell_at hB0 hb (hes 6 (by omega))
        have i1 : (j : Int) < (n3 : Int) := by omega
        clear hes hR hl2
        by_cases g : fIdle a = true
        · have HI := Lib.hid g
          clear g
          go_wp2_with fail
          refine (s_Idle (tNode.reach hRk ?hB) hza).mono ?_
          case hB => exact bel_trans hB0 (belx)
          rintro e w2 ⟨rfl, hb2⟩
          rw [HI.out]
          have hB2 : Below w1.heap.size w1 w2 := bel_trans hB (bel_trans (belx) hb2)
          go_wp2
          go_roundw
          case rel => first | exact ⟨j + 1, by omega, by go_num, hB2, alS HG.out HA.out HI.out⟩ | ((repeat apply Exists.intro); exact ⟨⟨j + 1, by omega, by go_num, hB2, alS HG.out HA.out HI.out⟩, rfl⟩)
          case measure => simp [intOf]; omega
        · have HI := Lib.hid (show fIdle a = false by simpa using g)
          obtain rfl := HF.out a (alMem HA.out) HI.out
          clear g HT HF
          go_wp2_with fail
          refine (s_Idle (tNode.reach hRk ?hB) hza).mono ?_
          case hB => exact bel_trans hB0 (belx)
          rintro e w2 ⟨rfl, hb2⟩
          rw [HI.out]
          go_wp2
          go_ret
          exact ⟨rfl, bel_trans hB0 (bel_trans (belx) hb2)⟩
      · obtain rfl : n3 = j := by omega
        obtain rfl := HT.out (alE HG.out (Nat.le_of_eq E3.out))
        go_wp2
        go_ret
        exact ⟨rfl, hB0⟩
  · have HP := Lib.hid (decide_eq_false hp)
    rw [fRest_f hp]
    clear hp
    go_enter Tryz.func26, Tryz.ntmps26
    go_wp2_with fail
    refine (s_NetOk (tNet.reach h ?hB) hz).mono ?_
    case hB => exact (belx)
    rintro e w1 ⟨rfl, hb1⟩
    rw [HP.out]
    go_wp2
    go_ret
    exact ⟨rfl, bel_trans (belx) hb1⟩
set_option maxHeartbeats 2000000 in
theorem i_Resting {w : World} {cs : List Value} {p : DNet} (h : tNet.R w w.heap.size cs p) (hz : szNet p ≤ 1048576) :
    Calls Tryz.prog 27 #[.agg cs.toArray] w fun e w' => e = .returned (.bool (fRest p)) ∧ Below w.heap.size w w' := by
  obtain ⟨A3, n3, c3, A4, n4, c4, A5, n5, c5, A6, n6, c6, rfl, -, -, -, -, -, -, hN, -, -, -, hM, -, -, -, hS, -, -, -, hG⟩ := openNet h
  by_cases hp : NtOk p
  · have HP := Lib.hid (decide_eq_true hp)
    have e3 := (rowR_len hN).1
    have E4 := Lib.hid (rowR_len hM).1
    have hn3 : n3 ≤ 8 := by have := hp.2.2.1.1; omega
    have z1 : rsz szNode p.2.2.2.1 ≤ 1048576 := by unfold szNet at hz; omega
    have HSZ := Lib.hid z1
    rw [fRest_t hp, E4.out]
    clear hp e3 z1
    by_cases q4 : n4 = 0
    rotate_left
    · have HR := Lib.hid (show (decide (n4 = 0) && p.2.2.2.1.all fIdle) = false by simp [q4])
      rw [HR.out]
      have t4 : ((n4 : Int) == 0) = false := by simp; omega
      clear q4
      go_enter Tryz.func27, Tryz.ntmps27
      go_wp2_with fail
      refine (i_NetOk (tNet.reach h ?hB) hz).mono ?_
      case hB => exact (belx)
      rintro e w1 ⟨rfl, hb1⟩
      rw [HP.out]
      have X1 : Box w1 w.heap.size 35 #[.int .i64 p.1, .int .i64 p.2.1, .int .i64 p.2.2.1, .slice A3 n3 c3, .slice A4 n4 c4, .slice A5 n5 c5, .slice A6 n6 c6] := (Box.new _ _ _).below hb1 (by simp)
      have k0 : w1.cell? ⟨w.heap.size, 0, none⟩ = some (.int .i64 p.1) := X1.cell 0
      have k1 : w1.cell? ⟨w.heap.size, 1, none⟩ = some (.int .i64 p.2.1) := X1.cell 1
      have k2 : w1.cell? ⟨w.heap.size, 2, none⟩ = some (.int .i64 p.2.2.1) := X1.cell 2
      have k3 : w1.cell? ⟨w.heap.size, 3, none⟩ = some (.slice A3 n3 c3) := X1.cell 3
      have k4 : w1.cell? ⟨w.heap.size, 4, none⟩ = some (.slice A4 n4 c4) := X1.cell 4
      have k5 : w1.cell? ⟨w.heap.size, 5, none⟩ = some (.slice A5 n5 c5) := X1.cell 5
      have k6 : w1.cell? ⟨w.heap.size, 6, none⟩ = some (.slice A6 n6 c6) := X1.cell 6
      have hB1 : Below w.heap.size w w1 := bel_trans (belx) hb1
      have z1 : w.heap.size + 1 ≤ w1.heap.size := by have := hb1.size; simpa using this
      clear hb1
      go_wp2
      go_ret
      exact ⟨rfl, hB1⟩
    have HR := Lib.hid (show (decide (n4 = 0) && p.2.2.2.1.all fIdle) = p.2.2.2.1.all fIdle by simp [q4])
    rw [HR.out]
    have t4 : ((n4 : Int) == 0) = true := by simp; omega
    clear q4
    go_enter Tryz.func27, Tryz.ntmps27
    go_wp2_with fail
    refine (i_NetOk (tNet.reach h ?hB) hz).mono ?_
    case hB => exact (belx)
    rintro e w1 ⟨rfl, hb1⟩
    rw [HP.out]
    have X1 : Box w1 w.heap.size 35 #[.int .i64 p.1, .int .i64 p.2.1, .int .i64 p.2.2.1, .slice A3 n3 c3, .slice A4 n4 c4, .slice A5 n5 c5, .slice A6 n6 c6] := (Box.new _ _ _).below hb1 (by simp)
    have k0 : w1.cell? ⟨w.heap.size, 0, none⟩ = some (.int .i64 p.1) := X1.cell 0
    have k1 : w1.cell? ⟨w.heap.size, 1, none⟩ = some (.int .i64 p.2.1) := X1.cell 1
    have k2 : w1.cell? ⟨w.heap.size, 2, none⟩ = some (.int .i64 p.2.2.1) := X1.cell 2
    have k3 : w1.cell? ⟨w.heap.size, 3, none⟩ = some (.slice A3 n3 c3) := X1.cell 3
    have k4 : w1.cell? ⟨w.heap.size, 4, none⟩ = some (.slice A4 n4 c4) := X1.cell 4
    have k5 : w1.cell? ⟨w.heap.size, 5, none⟩ = some (.slice A5 n5 c5) := X1.cell 5
    have k6 : w1.cell? ⟨w.heap.size, 6, none⟩ = some (.slice A6 n6 c6) := X1.cell 6
    have hB1 : Below w.heap.size w w1 := bel_trans (belx) hb1
    have z1 : w.heap.size + 1 ≤ w1.heap.size := by have := hb1.size; simpa using this
    clear hb1
    go_wp2_with fail
    refine (i_evryNode 79 fIdle (fun _ _ => rfl) (fun i a w' cs ha hB hR => i_Idle hR (nds_sz HSZ.out ha)) (tNode.row.reach hN hB1) (by omega)).mono ?_
    rintro e w2 ⟨rfl, hb2⟩
    go_wp2
    go_ret
    exact ⟨rfl, bel_trans hB1 hb2⟩
  · have HP := Lib.hid (decide_eq_false hp)
    rw [fRest_f hp]
    clear hp
    go_enter Tryz.func27, Tryz.ntmps27
    go_wp2_with fail
    refine (i_NetOk (tNet.reach h ?hB) hz).mono ?_
    case hB => exact (belx)
    rintro e w1 ⟨rfl, hb1⟩
    rw [HP.out]
    go_wp2
    go_ret
    exact ⟨rfl, bel_trans (belx) hb1⟩
set_option maxHeartbeats 2000000 in
theorem s_SentIds {w : World} {cs : List Value} {p : DNet} (h : tNet.R w w.heap.size cs p) (hz : szNet p ≤ 1048576) :
    Calls Tryz.prog 20 #[.agg cs.toArray] w fun e w' => ∃ A c, e = .returned (.slice A (fSnt p).length c) ∧ tIs.R w' w'.heap.size [.slice A (fSnt p).length c] (fSnt p) ∧ Below w.heap.size w w' := by
  obtain ⟨A3, n3, c3, A4, n4, c4, A5, n5, c5, A6, n6, c6, rfl, -, -, -, -, -, -, hN, -, -, -, hM, -, -, -, hS, -, -, -, hG⟩ := openNet h
  by_cases hp : NtOk p
  · obtain ⟨i0, hi0, hz0, hz1, hz2⟩ := info_parts info_ci
    have HP := Lib.hid (decide_eq_true hp)
    have e5 := (rowR_len hS).1
    have hn5 : n5 ≤ 20 := by have := hp.2.1.2.1; omega
    have E5 := Lib.hid e5
    have HW := Lib.hid (sns_wf hS)
    rw [fSnt_t hp]
    obtain ⟨ids, hids⟩ : ∃ L, (p.2.2.2.2.2.1.map fun s => s.1) = L := ⟨_, rfl⟩
    have HIDS := Lib.hid hids
    rw [hids]
    clear hp e5 hids
    go_enter Tryz.func20, Tryz.ntmps20
    go_wp2_with fail
    refine (s_NetOk (tNet.reach h ?hB) hz).mono ?_
    case hB => exact (belx)
    rintro e w1 ⟨rfl, hb1⟩
    rw [HP.out]
    have X1 : Box w1 w.heap.size 35 #[.int .i64 p.1, .int .i64 p.2.1, .int .i64 p.2.2.1, .slice A3 n3 c3, .slice A4 n4 c4, .slice A5 n5 c5, .slice A6 n6 c6] := (Box.new _ _ _).below hb1 (by simp)
    have k0 : w1.cell? ⟨w.heap.size, 0, none⟩ = some (.int .i64 p.1) := X1.cell 0
    have k1 : w1.cell? ⟨w.heap.size, 1, none⟩ = some (.int .i64 p.2.1) := X1.cell 1
    have k2 : w1.cell? ⟨w.heap.size, 2, none⟩ = some (.int .i64 p.2.2.1) := X1.cell 2
    have k3 : w1.cell? ⟨w.heap.size, 3, none⟩ = some (.slice A3 n3 c3) := X1.cell 3
    have k4 : w1.cell? ⟨w.heap.size, 4, none⟩ = some (.slice A4 n4 c4) := X1.cell 4
    have k5 : w1.cell? ⟨w.heap.size, 5, none⟩ = some (.slice A5 n5 c5) := X1.cell 5
    have k6 : w1.cell? ⟨w.heap.size, 6, none⟩ = some (.slice A6 n6 c6) := X1.cell 6
    have hB1 : Below w.heap.size w w1 := bel_trans (belx) hb1
    have z1 : w.heap.size + 1 ≤ w1.heap.size := by have := hb1.size; simpa using this
    clear hb1
    go_wp2_with fail
    go_loopw [3, 4] (fun v i wr => ∃ j : Nat, j ≤ n5 ∧ i = .int .i64 j ∧ Own .i64 3 wr w1.heap.size v ((p.2.2.2.2.2.1.take j).map fun a => a.1) ∧ Below w1.heap.size w1 wr) (fun _ i _ => n5 - (intOf i).toNat)
    case atStart => exact ⟨0, by omega, rfl, Own.nil _ _ _ _, (belx)⟩
    case round =>
      obtain ⟨j, hj, rfl, hO, hB⟩ := hrel
      have hX := X1.below hB X1.size
      clear k0 k1 k2 k3 k4 k5 k6
      have k5 : wr.cell? ⟨w.heap.size, 5, none⟩ = some (.slice A5 n5 c5) := hX.cell 5
      by_cases hlt : j < n5
      · obtain ⟨a, b', off, es, hl2, rfl, hb, hes, hR⟩ := rowR_at (K := 3) hS hlt rfl
        have HSN := Lib.hid (mapS (f := fun a : DSent => a.1) hl2)
        have HLN := Lib.hid (mapLen (f := fun a : DSent => a.1) (l := p.2.2.2.2.2.1) (j := j) (by rw [E5.out]; exact hj))
        have HI := Lib.hid (HW.out a (alMem hl2))
        clear hl2
        obtain ⟨A7, n7, c7, rfl, -, -, -, -, -, -⟩ := openSent hR
        have e0 : wr.cell? ⟨b', off + j * 3, none⟩ = some (.int .i64 a.1) := cell_at (bel_trans hB1 hB) hb (hes 0 (by omega))
        clear hes hR
        obtain ⟨y, hy⟩ : ∃ y, a.1 = y := ⟨_, rfl⟩
        rw [hy] at e0 HI
        simp only [hy] at HSN
        clear hy
        have zw := hB.size
        have hlen2 := HLN.out
        go_wp2_with (at_builtin; refine wpList_app _ rfl (.tmp 15) (.tmp 22) _ rfl w1.heap.size 3 i0 _ 1 8 Tryz.underlying41 hi0 hz0 hz1 hz2 rfl (by omega) _ _ _ rfl (hO.1.alloc _) _ 1 1 [.int .i64 y] rfl (Src.one _ _ _) (one_int _ _) (by simp only [maxLen]; omega) (by omega) (by simp; omega) ?_; intro v1 w3 hown hgr hat)
        go_roundw
        case rel => exact ⟨j + 1, by omega, by go_num, own_sn hO hown HSN.out HI.out, below_sn hB hO (Nat.le_refl _) hgr⟩
        case measure => simp [intOf]; omega
      · obtain rfl : n5 = j := by omega
        have HA := Lib.hid (show p.2.2.2.2.2.1.take n5 = p.2.2.2.2.2.1 from List.take_of_length_le (Nat.le_of_eq E5.out))
        rw [HA.out, HIDS.out] at hO
        obtain ⟨A8, c8, F8, rfl, hO8, hN8⟩ := own_slice hO
        go_wp2
        go_ret
        exact ⟨A8, c8, rfl, tIs.read hO8, bel_trans hB1 hB⟩
  · have HP := Lib.hid (decide_eq_false hp)
    rw [fSnt_f hp]
    clear hp
    go_enter Tryz.func20, Tryz.ntmps20
    go_wp2_with fail
    refine (s_NetOk (tNet.reach h ?hB) hz).mono ?_
    case hB => exact (belx)
    rintro e w1 ⟨rfl, hb1⟩
    rw [HP.out]
    go_wp2
    go_ret
    exact ⟨none, 0, rfl, nilR, bel_trans (belx) hb1⟩
set_option maxHeartbeats 2000000 in
theorem i_SentIds {w : World} {cs : List Value} {p : DNet} (h : tNet.R w w.heap.size cs p) (hz : szNet p ≤ 1048576) :
    Calls Tryz.prog 21 #[.agg cs.toArray] w fun e w' => ∃ A c F, e = .returned (.slice A (fSnt p).length c) ∧ tIs.O w' [.slice A (fSnt p).length c] (fSnt p) F ∧ New w.heap.size F ∧ Below w.heap.size w w' := by
  obtain ⟨A3, n3, c3, A4, n4, c4, A5, n5, c5, A6, n6, c6, rfl, -, -, -, -, -, -, hN, -, -, -, hM, -, -, -, hS, -, -, -, hG⟩ := openNet h
  by_cases hp : NtOk p
  · have HP := Lib.hid (decide_eq_true hp)
    have e5 := (rowR_len hS).1
    have hn5 : n5 ≤ 20 := by have := hp.2.1.2.1; omega
    have E5 := Lib.hid e5
    have HW := Lib.hid (sns_wf hS)
    rw [fSnt_t hp]
    obtain ⟨ids, hids⟩ : ∃ L, (p.2.2.2.2.2.1.map fun s => s.1) = L := ⟨_, rfl⟩
    have HIDS := Lib.hid hids
    rw [hids]
    clear hp e5 hids
    go_enter Tryz.func21, Tryz.ntmps21
    go_wp2_with fail
    refine (i_NetOk (tNet.reach h ?hB) hz).mono ?_
    case hB => exact (belx)
    rintro e w1 ⟨rfl, hb1⟩
    rw [HP.out]
    have X1 : Box w1 w.heap.size 35 #[.int .i64 p.1, .int .i64 p.2.1, .int .i64 p.2.2.1, .slice A3 n3 c3, .slice A4 n4 c4, .slice A5 n5 c5, .slice A6 n6 c6] := (Box.new _ _ _).below hb1 (by simp)
    have k0 : w1.cell? ⟨w.heap.size, 0, none⟩ = some (.int .i64 p.1) := X1.cell 0
    have k1 : w1.cell? ⟨w.heap.size, 1, none⟩ = some (.int .i64 p.2.1) := X1.cell 1
    have k2 : w1.cell? ⟨w.heap.size, 2, none⟩ = some (.int .i64 p.2.2.1) := X1.cell 2
    have k3 : w1.cell? ⟨w.heap.size, 3, none⟩ = some (.slice A3 n3 c3) := X1.cell 3
    have k4 : w1.cell? ⟨w.heap.size, 4, none⟩ = some (.slice A4 n4 c4) := X1.cell 4
    have k5 : w1.cell? ⟨w.heap.size, 5, none⟩ = some (.slice A5 n5 c5) := X1.cell 5
    have k6 : w1.cell? ⟨w.heap.size, 6, none⟩ = some (.slice A6 n6 c6) := X1.cell 6
    have hB1 : Below w.heap.size w w1 := bel_trans (belx) hb1
    have z1 : w.heap.size + 1 ≤ w1.heap.size := by have := hb1.size; simpa using this
    clear hb1
    go_wp2_with fail
    refine (i_sentIds (tSent.row.reach hS hB1) (by omega)).mono ?_
    rintro e w2 ⟨v, rfl, hO, hb2⟩
    rw [HIDS.out] at hO
    obtain ⟨A, c, F, rfl, hO2, hNw⟩ := own_slice hO
    go_wp2
    go_ret
    exact ⟨A, c, F, rfl, hO2, hNw.lower hB1.size, bel_trans hB1 hb2⟩
  · have HP := Lib.hid (decide_eq_false hp)
    rw [fSnt_f hp]
    clear hp
    go_enter Tryz.func21, Tryz.ntmps21
    go_wp2_with fail
    refine (i_NetOk (tNet.reach h ?hB) hz).mono ?_
    case hB => exact (belx)
    rintro e w1 ⟨rfl, hb1⟩
    rw [HP.out]
    go_wp2
    go_ret
    exact ⟨none, 0, [], rfl, nilO, New.nil _, bel_trans (belx) hb1⟩
set_option maxHeartbeats 2000000 in
theorem s_Flows {w : World} {cs : List Value} {p : DNet} (h : tNet.R w w.heap.size cs p) (hz : szNet p ≤ 1048576) :
    Calls Tryz.prog 30 #[.agg cs.toArray] w fun e w' => ∃ A c, e = .returned (.slice A (fFlow p).length c) ∧ tIs.R w' w'.heap.size [.slice A (fFlow p).length c] (fFlow p) ∧ Below w.heap.size w w' := by
  obtain ⟨A3, n3, c3, A4, n4, c4, A5, n5, c5, A6, n6, c6, rfl, -, -, -, -, -, -, hN, -, -, -, hM, -, -, -, hS, -, -, -, hG⟩ := openNet h
  by_cases hp : NtOk p
  · obtain ⟨i0, hi0, hz0, hz1, hz2⟩ := info_parts info_ci
    have HP := Lib.hid (decide_eq_true hp)
    have e6 := (rowR_len hG).1
    have hn6 : n6 ≤ 500 := by have := hp.2.1.2.2; omega
    have E6 := Lib.hid e6
    have HH := Lib.hid (show ∀ g ∈ p.2.2.2.2.2.2, 0 ≤ g.2 ∧ g.2 < 8 from fun g hg => (hp.2.2.2.2.1 g hg).2)
    rw [fFlow_t hp]
    clear hp e6
    go_enter Tryz.func30, Tryz.ntmps30
    go_wp2_with fail
    refine (s_NetOk (tNet.reach h ?hB) hz).mono ?_
    case hB => exact (belx)
    rintro e w1 ⟨rfl, hb1⟩
    rw [HP.out]
    have X1 : Box w1 w.heap.size 35 #[.int .i64 p.1, .int .i64 p.2.1, .int .i64 p.2.2.1, .slice A3 n3 c3, .slice A4 n4 c4, .slice A5 n5 c5, .slice A6 n6 c6] := (Box.new _ _ _).below hb1 (by simp)
    have k0 : w1.cell? ⟨w.heap.size, 0, none⟩ = some (.int .i64 p.1) := X1.cell 0
    have k1 : w1.cell? ⟨w.heap.size, 1, none⟩ = some (.int .i64 p.2.1) := X1.cell 1
    have k2 : w1.cell? ⟨w.heap.size, 2, none⟩ = some (.int .i64 p.2.2.1) := X1.cell 2
    have k3 : w1.cell? ⟨w.heap.size, 3, none⟩ = some (.slice A3 n3 c3) := X1.cell 3
    have k4 : w1.cell? ⟨w.heap.size, 4, none⟩ = some (.slice A4 n4 c4) := X1.cell 4
    have k5 : w1.cell? ⟨w.heap.size, 5, none⟩ = some (.slice A5 n5 c5) := X1.cell 5
    have k6 : w1.cell? ⟨w.heap.size, 6, none⟩ = some (.slice A6 n6 c6) := X1.cell 6
    have hB1 : Below w.heap.size w w1 := bel_trans (belx) hb1
    have z1 : w.heap.size + 1 ≤ w1.heap.size := by have := hb1.size; simpa using this
    clear hb1
    clear k0 k1 k2 k3 k4 k5
    go_wp2_with (at_make; refine wpList_mk _ rfl _ _ _ rfl 3 i0 _ Tryz.underlying41 hi0 hz0 rfl hz1 8 rfl rfl (by rw [hz2]; omega) (by simp only [maxLen]; omega) ?_; intro w2 hrow hB2 hsz; have X2 := X1.below hB2 X1.size; have k2 : w2.cell? ⟨w.heap.size, 6, none⟩ = some (.slice A6 n6 c6) := X2.cell 6)
    go_loopw [4] (fun i wr => ∃ j : Nat, j ≤ n6 ∧ i = .int .i64 j ∧ Own .i64 3 wr w1.heap.size (.slice (some ⟨w1.heap.size, 0, none⟩) 8 8) (cntF (fun g : DGlance => g.2) (p.2.2.2.2.2.2.take j)) ∧ Below w.heap.size w wr ∧ Box wr w.heap.size 35 #[.int .i64 p.1, .int .i64 p.2.1, .int .i64 p.2.2.1, .slice A3 n3 c3, .slice A4 n4 c4, .slice A5 n5 c5, .slice A6 n6 c6]) (fun i _ => n6 - (intOf i).toNat)
    case atStart => exact ⟨0, by omega, rfl, cntF_own _ hrow, bel_trans hB1 hB2, X2⟩
    case round =>
      obtain ⟨j, hj, rfl, hO, hB, hX⟩ := hrel
      clear k6 k2
      have k6 : wr.cell? ⟨w.heap.size, 6, none⟩ = some (.slice A6 n6 c6) := hX.cell 6
      by_cases hlt : j < n6
      · obtain ⟨a, b', off, es, hl2, rfl, hb, hes, hR⟩ := rowR_at (K := 2) hG hlt rfl
        obtain ⟨⟨q1, q2⟩, HS⟩ := (⟨HH.out a (alMem hl2), Lib.hid (cntF_sn (f := fun g : DGlance => g.2) hl2)⟩ : (0 ≤ a.2 ∧ a.2 < 8) ∧ Hid _)
        clear hl2
        obtain ⟨rfl, -, -⟩ := openGlance hR
        have e0 : wr.cell? ⟨b', off + j * 2, none⟩ = some (.int .i64 a.1) := cell_at hB hb (hes 0 (by omega))
        have e1 : wr.cell? ⟨b', off + j * 2 + 1, none⟩ = some (.int .i64 a.2) := cell_at hB hb (hes 1 (by omega))
        clear hes hR
        obtain ⟨k, hk⟩ : ∃ k : Nat, a.2 = k := ⟨a.2.toNat, by omega⟩
        simp only [hk] at e1 HS q1 q2
        have HK := Lib.hid hk
        clear hk
        have hk8 : k < 8 := by omega
        obtain ⟨g, c', ev, _, _, _, hgz, hcell, hfz⟩ := hO.row (by rw [cntF_len]; omega)
        obtain ⟨C, hC⟩ : ∃ C, cntF (fun g : DGlance => g.2) (p.2.2.2.2.2.2.take j) = C := ⟨_, rfl⟩
        have hCl : C.length = 8 := by rw [← hC]; exact cntF_len _ _
        have hCr := cntF_le (fun g : DGlance => g.2) (p.2.2.2.2.2.2.take j)
        rw [hC] at hO hcell hCr HS ev
        rw [hCl] at ev hcell
        injection ev with ev _ _
        injection ev with ev
        injection ev with ev _ _
        subst ev
        clear hC
        have hck := hcell k hk8
        have hfk := hfz k
        obtain ⟨x, hx⟩ : ∃ x, C.getD k 0 = x := ⟨_, rfl⟩
        have hxr : 0 ≤ x ∧ x ≤ 500 := by
          have h1 := hCr (C.getD k 0) (by rw [List.getD_eq_getElem?_getD, List.getElem?_eq_getElem (by omega)]; exact List.getElem_mem _)
          have h2 : (p.2.2.2.2.2.2.take j).length ≤ 500 := by rw [List.length_take, E6.out]; omega
          rw [hx] at h1; omega
        rw [hx] at hck
        have hO8 : Own .i64 3 wr w1.heap.size (.slice (some ⟨w1.heap.size, 0, none⟩) C.length 8) C := by rw [hCl]; exact hO
        have hP := hO8.put k (x + 1) (wf_i64 (by omega) (by omega))
        rw [hCl] at hP
        have hEq : cntF (fun g : DGlance => g.2) (p.2.2.2.2.2.2.take (j + 1)) = C.set k (x + 1) := by rw [HS.out, Int.toNat_natCast, hx]
        have HE := Lib.hid hEq
        clear hcell hfz hCr hx hEq hCl
        go_wp2
        go_roundw
        case rel => exact ⟨j + 1, by omega, by go_num, by rw [HE.out]; exact hP, bel_put hB (by simp; omega) _, hX.far (by simp; omega) _⟩
        case measure => simp [intOf]; omega
      · obtain rfl : n6 = j := by omega
        have HA := Lib.hid (show p.2.2.2.2.2.2.take n6 = p.2.2.2.2.2.2 from List.take_of_length_le (Nat.le_of_eq E6.out))
        rw [HA.out] at hO
        have HL := Lib.hid (cntF_len (fun g : DGlance => g.2) p.2.2.2.2.2.2)
        go_wp2
        go_ret
        obtain ⟨A, c, F, ev, hO2, hNw⟩ := own_slice hO
        exact ⟨A, c, by rw [← ev]; rw [HL.out] at *; rfl, tIs.read hO2, hB⟩
  · have HP := Lib.hid (decide_eq_false hp)
    rw [fFlow_f hp]
    clear hp
    go_enter Tryz.func30, Tryz.ntmps30
    go_wp2_with fail
    refine (s_NetOk (tNet.reach h ?hB) hz).mono ?_
    case hB => exact (belx)
    rintro e w1 ⟨rfl, hb1⟩
    rw [HP.out]
    go_wp2
    go_ret
    exact ⟨none, 0, rfl, nilR, bel_trans (belx) hb1⟩
set_option maxHeartbeats 2000000 in
theorem i_Flows {w : World} {cs : List Value} {p : DNet} (h : tNet.R w w.heap.size cs p) (hz : szNet p ≤ 1048576) :
    Calls Tryz.prog 31 #[.agg cs.toArray] w fun e w' => ∃ A c F, e = .returned (.slice A (fFlow p).length c) ∧ tIs.O w' [.slice A (fFlow p).length c] (fFlow p) F ∧ New w.heap.size F ∧ Below w.heap.size w w' := by
  obtain ⟨A3, n3, c3, A4, n4, c4, A5, n5, c5, A6, n6, c6, rfl, -, -, -, -, -, -, hN, -, -, -, hM, -, -, -, hS, -, -, -, hG⟩ := openNet h
  by_cases hp : NtOk p
  · have HP := Lib.hid (decide_eq_true hp)
    have e6 := (rowR_len hG).1
    have hn6 : n6 ≤ 500 := by have := hp.2.1.2.2; omega
    have E6 := Lib.hid e6
    have HH := Lib.hid (show ∀ g ∈ p.2.2.2.2.2.2, 0 ≤ g.2 ∧ g.2 < 8 from fun g hg => (hp.2.2.2.2.1 g hg).2)
    rw [fFlow_t hp]
    clear hp e6
    obtain ⟨C, hC⟩ : ∃ C, cntF (fun g : DGlance => g.2) p.2.2.2.2.2.2 = C := ⟨_, rfl⟩
    have HC := Lib.hid hC
    have hCl : C.length = 8 := by rw [← hC]; exact cntF_len _ _
    rw [hC]
    clear hC
    go_enter Tryz.func31, Tryz.ntmps31
    go_wp2_with fail
    refine (i_NetOk (tNet.reach h ?hB) hz).mono ?_
    case hB => exact (belx)
    rintro e w1 ⟨rfl, hb1⟩
    rw [HP.out]
    have X1 : Box w1 w.heap.size 35 #[.int .i64 p.1, .int .i64 p.2.1, .int .i64 p.2.2.1, .slice A3 n3 c3, .slice A4 n4 c4, .slice A5 n5 c5, .slice A6 n6 c6] := (Box.new _ _ _).below hb1 (by simp)
    have k0 : w1.cell? ⟨w.heap.size, 0, none⟩ = some (.int .i64 p.1) := X1.cell 0
    have k1 : w1.cell? ⟨w.heap.size, 1, none⟩ = some (.int .i64 p.2.1) := X1.cell 1
    have k2 : w1.cell? ⟨w.heap.size, 2, none⟩ = some (.int .i64 p.2.2.1) := X1.cell 2
    have k3 : w1.cell? ⟨w.heap.size, 3, none⟩ = some (.slice A3 n3 c3) := X1.cell 3
    have k4 : w1.cell? ⟨w.heap.size, 4, none⟩ = some (.slice A4 n4 c4) := X1.cell 4
    have k5 : w1.cell? ⟨w.heap.size, 5, none⟩ = some (.slice A5 n5 c5) := X1.cell 5
    have k6 : w1.cell? ⟨w.heap.size, 6, none⟩ = some (.slice A6 n6 c6) := X1.cell 6
    have hB1 : Below w.heap.size w w1 := bel_trans (belx) hb1
    have z1 : w.heap.size + 1 ≤ w1.heap.size := by have := hb1.size; simpa using this
    clear hb1
    go_wp2_with fail
    refine (i_perNodeGlance 83 (fun a => a.2) (fun _ _ => rfl) (fun i a w' cs ha hBw hR => i_GlTo hR) HH.out (tGlance.row.reach hG hB1) (by omega)).mono ?_
    rintro e w2 ⟨rfl, hO, hb2⟩
    rw [HC.out] at hO
    obtain ⟨A, c, F, ev, hO2, hNw⟩ := own_slice hO
    go_wp2
    go_ret
    exact ⟨A, c, F, by first | rfl | (rw [ev]; done) | (rw [← ev]; done) | (rw [hCl]; done) | (rw [hCl]; rfl), hO2, hNw.lower hB1.size, bel_trans hB1 hb2⟩
  · have HP := Lib.hid (decide_eq_false hp)
    rw [fFlow_f hp]
    clear hp
    go_enter Tryz.func31, Tryz.ntmps31
    go_wp2_with fail
    refine (i_NetOk (tNet.reach h ?hB) hz).mono ?_
    case hB => exact (belx)
    rintro e w1 ⟨rfl, hb1⟩
    rw [HP.out]
    go_wp2
    go_ret
    exact ⟨none, 0, [], rfl, nilO, New.nil _, bel_trans (belx) hb1⟩
set_option maxHeartbeats 2000000 in
theorem s_OnWay {w : World} {cs : List Value} {p : DNet} {x : Int} (h : tNet.R w w.heap.size cs p) (hz : szNet p ≤ 1048576) (hx : (Lit.int .i64 x).wf = true) :
    Calls Tryz.prog 18 #[.agg cs.toArray, .int .i64 x] w fun e w' => e = .returned (.int .i64 (fWay p x)) ∧ Below w.heap.size w w' := by
  obtain ⟨A3, n3, c3, A4, n4, c4, A5, n5, c5, A6, n6, c6, rfl, -, -, -, -, -, -, hN, -, -, -, hM, -, -, -, hS, -, -, -, hG⟩ := openNet h
  by_cases hp : NtOk p
  · have HP := Lib.hid (decide_eq_true hp)
    by_cases g1 : x < 0
    · rw [fWay_g (fun hh => by omega)]
      clear hp
      go_enter Tryz.func18, Tryz.ntmps18
      go_wp2_with fail
      refine (s_NetOk (tNet.reach h ?hB) hz).mono ?_
      case hB => exact (belx)
      rintro e w1 ⟨rfl, hb1⟩
      rw [HP.out]
      have X1 : Box w1 w.heap.size 35 #[.int .i64 p.1, .int .i64 p.2.1, .int .i64 p.2.2.1, .slice A3 n3 c3, .slice A4 n4 c4, .slice A5 n5 c5, .slice A6 n6 c6] := (Box.new _ _ _).below hb1 (by simp)
      have hB1 : Below w.heap.size w w1 := bel_trans (belx) hb1
      have z1 : w.heap.size + 1 ≤ w1.heap.size := by have := hb1.size; simpa using this
      clear hb1
      go_wp2
      go_ret
      exact ⟨rfl, hB1⟩
    by_cases g2 : 8 ≤ x
    · rw [fWay_g (fun hh => by omega)]
      clear hp
      go_enter Tryz.func18, Tryz.ntmps18
      go_wp2_with fail
      refine (s_NetOk (tNet.reach h ?hB) hz).mono ?_
      case hB => exact (belx)
      rintro e w1 ⟨rfl, hb1⟩
      rw [HP.out]
      have X1 : Box w1 w.heap.size 35 #[.int .i64 p.1, .int .i64 p.2.1, .int .i64 p.2.2.1, .slice A3 n3 c3, .slice A4 n4 c4, .slice A5 n5 c5, .slice A6 n6 c6] := (Box.new _ _ _).below hb1 (by simp)
      have hB1 : Below w.heap.size w w1 := bel_trans (belx) hb1
      have z1 : w.heap.size + 1 ≤ w1.heap.size := by have := hb1.size; simpa using this
      clear hb1
      go_wp2
      go_ret
      exact ⟨rfl, hB1⟩
    have e4 := (rowR_len hM).1
    have hn4 : n4 ≤ 60 := by have := hp.2.1.1; omega
    have E4 := Lib.hid e4
    have HM := Lib.hid (show ∀ m ∈ p.2.2.2.2.1, 0 ≤ m.1 ∧ m.1 < 8 from fun m hm => (hp.2.2.2.1 m hm).1)
    rw [fWay_t hp (by omega) (by omega)]
    have hx0 : 0 ≤ x := by omega
    have hx8 : x < 8 := by omega
    clear hp e4
    go_enter Tryz.func18, Tryz.ntmps18
    go_wp2_with fail
    refine (s_NetOk (tNet.reach h ?hB) hz).mono ?_
    case hB => exact (belx)
    rintro e w1 ⟨rfl, hb1⟩
    rw [HP.out]
    have X1 : Box w1 w.heap.size 35 #[.int .i64 p.1, .int .i64 p.2.1, .int .i64 p.2.2.1, .slice A3 n3 c3, .slice A4 n4 c4, .slice A5 n5 c5, .slice A6 n6 c6] := (Box.new _ _ _).below hb1 (by simp)
    have k0 : w1.cell? ⟨w.heap.size, 0, none⟩ = some (.int .i64 p.1) := X1.cell 0
    have k1 : w1.cell? ⟨w.heap.size, 1, none⟩ = some (.int .i64 p.2.1) := X1.cell 1
    have k2 : w1.cell? ⟨w.heap.size, 2, none⟩ = some (.int .i64 p.2.2.1) := X1.cell 2
    have k3 : w1.cell? ⟨w.heap.size, 3, none⟩ = some (.slice A3 n3 c3) := X1.cell 3
    have k4 : w1.cell? ⟨w.heap.size, 4, none⟩ = some (.slice A4 n4 c4) := X1.cell 4
    have k5 : w1.cell? ⟨w.heap.size, 5, none⟩ = some (.slice A5 n5 c5) := X1.cell 5
    have k6 : w1.cell? ⟨w.heap.size, 6, none⟩ = some (.slice A6 n6 c6) := X1.cell 6
    have hB1 : Below w.heap.size w w1 := bel_trans (belx) hb1
    have z1 : w.heap.size + 1 ≤ w1.heap.size := by have := hb1.size; simpa using this
    clear hb1
    go_wp2_with fail
    go_loop [5, 6] (fun k i => ∃ j : Nat, j ≤ n4 ∧ i = .int .i64 j ∧ k = .int .i64 (one8 (p.2.2.2.2.1.take j) x)) (fun _ i => n4 - (intOf i).toNat)
    case atStart => exact ⟨0, by omega, rfl, by rw [List.take_zero, one8_zero _ hx0 hx8]⟩
    case round =>
      obtain ⟨j, hj, rfl, rfl⟩ := hrel
      have hrg := one8_rg (p.2.2.2.2.1.take j) (x := x) ⟨hx0, hx8⟩
      have hrl : (p.2.2.2.2.1.take j).length ≤ 60 := by rw [List.length_take, E4.out]; omega
      by_cases hlt : j < n4
      · obtain ⟨a, b', off, es, hl2, rfl, hb, hes, hR⟩ := rowR_at (K := 2) hM hlt rfl
        have HS := Lib.hid (one8_sn hl2 (HM.out a (alMem hl2)) ⟨hx0, hx8⟩)
        clear hl2
        obtain ⟨A7, n7, c7, rfl, -, -, -, -, -⟩ := openMail hR
        have u0 : w1.cell? ⟨b', off + j * 2, none⟩ = some (.int .i64 a.1) := cell_at hB1 hb (hes 0 (by omega))
        have i1 : (j : Int) < (n4 : Int) := by omega
        clear hes hR
        obtain ⟨y, hy⟩ : ∃ y, a.1 = y := ⟨_, rfl⟩
        obtain ⟨k, hk⟩ : ∃ k, one8 (p.2.2.2.2.1.take j) x = k := ⟨_, rfl⟩
        rw [hy] at u0 HS
        rw [hk] at HS hrg
        rw [hk]
        clear hy hk
        by_cases he : y = x
        · have q : (y == x) = true := by simp [he]
          rw [if_pos he] at HS
          clear he
          go_wp2
          go_round
          case rel => exact ⟨j + 1, by omega, by go_num, by (rw [HS.out]; try go_num)⟩
          case measure => simp [intOf]; omega
        · have q : (y == x) = false := by simp [he]
          rw [if_neg he] at HS
          clear he
          go_wp2
          go_round
          case rel => exact ⟨j + 1, by omega, by go_num, by (rw [HS.out]; try go_num)⟩
          case measure => simp [intOf]; omega
      · obtain rfl : n4 = j := by omega
        have HAL := Lib.hid (show p.2.2.2.2.1.take n4 = p.2.2.2.2.1 from List.take_of_length_le (Nat.le_of_eq E4.out))
        rw [HAL.out] at hrg
        rw [HAL.out]
        go_wp2
        go_ret
        exact ⟨rfl, hB1⟩
  · have HP := Lib.hid (decide_eq_false hp)
    rw [fWay_f hp]
    clear hp
    go_enter Tryz.func18, Tryz.ntmps18
    go_wp2_with fail
    refine (s_NetOk (tNet.reach h ?hB) hz).mono ?_
    case hB => exact (belx)
    rintro e w1 ⟨rfl, hb1⟩
    rw [HP.out]
    go_wp2
    go_ret
    exact ⟨rfl, bel_trans (belx) hb1⟩
set_option maxHeartbeats 2000000 in
theorem i_OnWay {w : World} {cs : List Value} {p : DNet} {x : Int} (h : tNet.R w w.heap.size cs p) (hz : szNet p ≤ 1048576) (hx : (Lit.int .i64 x).wf = true) :
    Calls Tryz.prog 19 #[.agg cs.toArray, .int .i64 x] w fun e w' => e = .returned (.int .i64 (fWay p x)) ∧ Below w.heap.size w w' := by
  obtain ⟨A3, n3, c3, A4, n4, c4, A5, n5, c5, A6, n6, c6, rfl, -, -, -, -, -, -, hN, -, -, -, hM, -, -, -, hS, -, -, -, hG⟩ := openNet h
  by_cases hp : NtOk p
  · have HP := Lib.hid (decide_eq_true hp)
    by_cases g1 : 0 ≤ x ∧ x < 8
    rotate_left
    · rw [fWay_g g1]
      have HG := Lib.hid g1
      clear hp g1
      go_enter Tryz.func19, Tryz.ntmps19
      go_wp2_with fail
      refine (i_NetOk (tNet.reach h ?hB) hz).mono ?_
      case hB => exact (belx)
      rintro e w1 ⟨rfl, hb1⟩
      rw [HP.out]
      have X1 : Box w1 w.heap.size 35 #[.int .i64 p.1, .int .i64 p.2.1, .int .i64 p.2.2.1, .slice A3 n3 c3, .slice A4 n4 c4, .slice A5 n5 c5, .slice A6 n6 c6] := (Box.new _ _ _).below hb1 (by simp)
      have hB1 : Below w.heap.size w w1 := bel_trans (belx) hb1
      have z1 : w.heap.size + 1 ≤ w1.heap.size := by have := hb1.size; simpa using this
      clear hb1
      go_wp2_with fail
      refine (ih_isNode_f _ _ HG.out).mono ?_
      rintro e w' ⟨rfl, rfl⟩
      go_wp2
      go_ret
      exact ⟨rfl, hB1⟩
    obtain ⟨hx0, hx8⟩ := g1
    have e4 := (rowR_len hM).1
    have hn4 : n4 ≤ 60 := by have := hp.2.1.1; omega
    have E4 := Lib.hid e4
    have HM := Lib.hid (show ∀ m ∈ p.2.2.2.2.1, 0 ≤ m.1 ∧ m.1 < 8 from fun m hm => (hp.2.2.2.1 m hm).1)
    rw [fWay_t hp hx0 hx8]
    clear hp e4
    obtain ⟨k, rfl⟩ : ∃ k : Nat, x = k := ⟨x.toNat, by omega⟩
    have HR := Lib.hid (show (cntF (fun m : DMail => m.1) p.2.2.2.2.1).getD k 0 = one8 p.2.2.2.2.1 k from rfl)
    obtain ⟨y, hy⟩ : ∃ y, one8 p.2.2.2.2.1 k = y := ⟨_, rfl⟩
    rw [hy] at HR
    rw [hy]
    clear hy
    have hk8 : k < 8 := by omega
    go_enter Tryz.func19, Tryz.ntmps19
    go_wp2_with fail
    refine (i_NetOk (tNet.reach h ?hB) hz).mono ?_
    case hB => exact (belx)
    rintro e w1 ⟨rfl, hb1⟩
    rw [HP.out]
    have X1 : Box w1 w.heap.size 35 #[.int .i64 p.1, .int .i64 p.2.1, .int .i64 p.2.2.1, .slice A3 n3 c3, .slice A4 n4 c4, .slice A5 n5 c5, .slice A6 n6 c6] := (Box.new _ _ _).below hb1 (by simp)
    have k0 : w1.cell? ⟨w.heap.size, 0, none⟩ = some (.int .i64 p.1) := X1.cell 0
    have k1 : w1.cell? ⟨w.heap.size, 1, none⟩ = some (.int .i64 p.2.1) := X1.cell 1
    have k2 : w1.cell? ⟨w.heap.size, 2, none⟩ = some (.int .i64 p.2.2.1) := X1.cell 2
    have k3 : w1.cell? ⟨w.heap.size, 3, none⟩ = some (.slice A3 n3 c3) := X1.cell 3
    have k4 : w1.cell? ⟨w.heap.size, 4, none⟩ = some (.slice A4 n4 c4) := X1.cell 4
    have k5 : w1.cell? ⟨w.heap.size, 5, none⟩ = some (.slice A5 n5 c5) := X1.cell 5
    have k6 : w1.cell? ⟨w.heap.size, 6, none⟩ = some (.slice A6 n6 c6) := X1.cell 6
    have hB1 : Below w.heap.size w w1 := bel_trans (belx) hb1
    have z1 : w.heap.size + 1 ≤ w1.heap.size := by have := hb1.size; simpa using this
    clear hb1
    go_wp2_with fail
    refine (ih_isNode_t _ _ hx0 hx8).mono ?_
    rintro e w' ⟨rfl, rfl⟩
    go_wp2_with fail
    refine (i_perNodeMail 72 (fun a => a.1) (fun _ _ => rfl) (fun i a w' cs ha hBw hR => i_MlTo hR) HM.out (tMail.row.reach hM hB1) (by omega)).mono ?_
    rintro e w2 ⟨rfl, hO, hb2⟩
    obtain ⟨g, c', ev, _, _, _, hgz, hcell, hfz⟩ := hO.row (by rw [cntF_len]; omega)
    have hCl : (cntF (fun m : DMail => m.1) p.2.2.2.2.1).length = 8 := cntF_len _ _
    rw [hCl] at ev hcell
    injection ev with ev _ _
    injection ev with ev
    injection ev with ev _ _
    subst ev
    have hck := hcell k hk8
    rw [HR.out] at hck
    clear hcell hfz hO
    go_wp2
    go_ret
    exact ⟨rfl, bel_trans hB1 hb2⟩
  · have HP := Lib.hid (decide_eq_false hp)
    rw [fWay_f hp]
    clear hp
    go_enter Tryz.func19, Tryz.ntmps19
    go_wp2_with fail
    refine (i_NetOk (tNet.reach h ?hB) hz).mono ?_
    case hB => exact (belx)
    rintro e w1 ⟨rfl, hb1⟩
    rw [HP.out]
    go_wp2
    go_ret
    exact ⟨rfl, bel_trans (belx) hb1⟩
end Go.Proofs.YteokfenoomcogaaGreat
