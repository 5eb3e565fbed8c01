/-
  What a message lacks: contracts of the program's lacks, Missing.
-/
import Derived.Test.YtpapkonejkdkhaaPMisP
import Derived.Test.YtpapkonejkdkhaaPOp
import Derived.Test.YtpapkonejkdkhaaPDeskI
import Derived.Test.YtpapkonejkdkhaaSn
namespace Go.Proofs.Ytpapkonejkdkhaa
set_option maxRecDepth 100000
set_option linter.unusedVariables false
set_option linter.unusedSimpArgs false
open Go.ChangeShapes Go.WideShapes Go.ChangeAt Go.RowKit
theorem mi_int : (Try.prog.info? 3).map (fun i => (i.zero, i.size, i.bytes)) = some (some (.int .i64 0), 1, 8) := by kernel_rfl
theorem i_lacks {w : World} {cs : List Value} {a : DWhole} (x : Int) (h : tWhole.R w w.heap.size cs a) (hz : a.2.2.2.length ≤ 1048576) :
    Calls Try.prog 80 #[.agg cs.toArray, .int .i64 x] w fun e w' => e = .returned (.bool (decide (x ∉ a.2.2.2.map fun p => p.2.1))) ∧ Below w.heap.size w w' := by
  obtain ⟨A3, n3, c3, rfl, hi0, hi1, hi2, ha3, hb3, hl3, h3⟩ := openWhole h
  have hwf := Lib.hid (pcs_wf h3)
  have hn : n3 ≤ 1048576 := by omega
  have hm : (a.2.2.2.map fun p => p.2.1).length ≤ 1048576 := by rw [List.length_map]; exact hz
  have HR := Lib.hid (show (!decide (x ∈ a.2.2.2.map fun p => p.2.1)) = decide (x ∉ a.2.2.2.map fun p => p.2.1) by simp)
  rw [← HR.out]
  obtain ⟨ml, hml⟩ : ∃ y, (a.2.2.2.map fun p => p.2.1) = y := ⟨_, rfl⟩
  have HM := Lib.hid hml
  rw [hml] at hm ⊢
  clear hml hl3 hz
  go_enter Try.func80, Try.ntmps80
  go_wp2_with fail
  refine (i_eachPieceI 124 (fun p => p.2.1) (fun _ _ => rfl) (fun i a w' cs ha hBw hR => i_PcAt hR) hwf.out (tPiece.row.reach h3 ?hB) hn).mono ?_
  case hB => exact (by repeat (first | (with_reducible exact Below.refl _ _) | (with_reducible assumption) | (with_reducible refine bel_alloc ?_ _) | (with_reducible refine bel_drew ?_) | (with_reducible refine below_drewN ?_ _) | (with_reducible refine bel_put ?_ (by first | exact Nat.le_refl _ | (simp; done) | (simp; omega)) _)))
  rintro e w1 ⟨v, rfl, hO, hb1⟩
  rw [HM.out] at hO
  obtain ⟨A5, c5, rfl, _, hI5, _⟩ := hO.ints
  have hs1 : Below w.heap.size w w1 := bel_trans (by repeat (first | (with_reducible exact Below.refl _ _) | (with_reducible assumption) | (with_reducible refine bel_alloc ?_ _) | (with_reducible refine bel_drew ?_) | (with_reducible refine below_drewN ?_ _) | (with_reducible refine bel_put ?_ (by first | exact Nat.le_refl _ | (simp; done) | (simp; omega)) _))) hb1
  go_wp2_with fail
  refine (i_ContainsI x hI5 (by omega)).mono ?_
  rintro e w' ⟨rfl, rfl⟩
  go_wp2
  go_ret
  exact ⟨rfl, hs1⟩
theorem zwhole (w : World) : (zeroValue 98).run Try.prog w = .ok (.agg #[.int .i64 0, .int .i64 0, .int .i64 0, .slice none 0 0]) w := by rfl
set_option maxHeartbeats 1000000 in
theorem i_Missing {w : World} {cs : List Value} {p : DDesk} {id : Int} (h : tDesk.R w w.heap.size cs p) (hz : szDesk p ≤ 1048576) (hid : (Lit.int .i64 id).wf = true) :
    Calls Try.prog 42 #[.agg cs.toArray, .int .i64 id] w fun e w' => ∃ A c F, e = .returned (.slice A (fMis p id).length c) ∧ tIs.O w' [.slice A (fMis p id).length c] (fMis p id) F ∧ New w.heap.size F ∧ Below w.heap.size w w' := by
  obtain ⟨A0, n0, c0, A1, n1, c1, rfl, -, -, -, hr0, -, -, -, hr1⟩ := openDesk h
  by_cases hp : DkOk p
  · have HP := Lib.hid (decide_eq_true hp)
    have hn0 : n0 ≤ 6 := by have := hp.1; have := (rowR_len hr0).1; omega
    have HAP := Lib.hid (dk_apart hp)
    have HWH := Lib.hid (fun a (ha : a ∈ p.1) => dk_wh hp ha)
    have HWF := Lib.hid (whs_wf hr0)
    rw [fMis_t hp]
    clear hp
    obtain ⟨i0, hi0, hz0, hz1, hz2⟩ := info_parts mi_int
    go_enter Try.func42, Try.ntmps42
    go_wp2_with fail
    refine (i_DeskOk (tDesk.reach h ?hB) hz).mono ?_
    case hB => exact (by repeat (first | (with_reducible exact Below.refl _ _) | (with_reducible assumption) | (with_reducible refine bel_alloc ?_ _) | (with_reducible refine bel_drew ?_) | (with_reducible refine below_drewN ?_ _) | (with_reducible refine bel_put ?_ (by first | exact Nat.le_refl _ | (simp; done) | (simp; omega)) _)))
    rintro e w1 ⟨rfl, hb1⟩
    rw [HP.out]
    have X1 : Box w1 w.heap.size 61 #[.slice A0 n0 c0, .slice A1 n1 c1] := (Box.new _ _ _).below hb1 (by simp)
    have hB1 : Below w.heap.size w w1 := bel_trans (by repeat (first | (with_reducible exact Below.refl _ _) | (with_reducible assumption) | (with_reducible refine bel_alloc ?_ _) | (with_reducible refine bel_drew ?_) | (with_reducible refine below_drewN ?_ _) | (with_reducible refine bel_put ?_ (by first | exact Nat.le_refl _ | (simp; done) | (simp; omega)) _))) hb1
    have k0 := X1.cell 0; have k1 := X1.cell 1
    clear hb1
    go_wp2_with fail
    refine (i_opened (tWhole.row.reach hr0 hB1) (by omega) HAP.out HWF.out).mono ?_
    rintro e w2 ⟨b, D, rfl, hM, hW, hbb, hb2⟩
    have hB2 := bel_trans hB1 hb2
    obtain ⟨v, hrun, hv⟩ := hW.look hM Try.underlying3 Try.underlying102 (zwhole _) hid
    rcases hv with ⟨a, es, ha, hai, rfl, hRa⟩ | ⟨hno, rfl⟩
    · have HMI := Lib.hid (misL_one HAP.out ha hai)
      have hwh := HWH.out a ha
      obtain ⟨A2, n2, c2, rfl, -, -, -, -, -, hl2, h2⟩ := openWhole hRa
      obtain ⟨N, hN⟩ := Int.eq_ofNat_of_zero_le (show 0 ≤ a.2.1 by omega)
      have hN8 : N ≤ 8 := by omega
      have HNN := Lib.hid (show a.2.1.toNat = N by rw [hN]; rfl)
      have hza : a.2.2.2.length ≤ 1048576 := by omega
      rw [hN] at hrun hRa
      clear hN hwh hl2 ha hai
      have hRw : tWhole.R w2 w2.heap.size [.int .i64 a.1, .int .i64 (N : Int), .int .i64 a.2.2.1, .slice A2 n2 c2] a := tWhole.up hRa hb2.size
      have BW : Box (w2.alloc (.cells #[.int .i64 a.1, .int .i64 (N : Int), .int .i64 a.2.2.1, .slice A2 n2 c2] 98)) w2.heap.size 98 #[.int .i64 a.1, .int .i64 (N : Int), .int .i64 a.2.2.1, .slice A2 n2 c2] := Box.new _ _ _
      have y1 := BW.cell 1
      have hB3 : Below w.heap.size w (w2.alloc (.cells #[.int .i64 a.1, .int .i64 (N : Int), .int .i64 a.2.2.1, .slice A2 n2 c2] 98)) := bel_alloc hB2 _
      go_wp2_with fail
      go_loopw [6, 17] (fun v i wr => ∃ k : Nat, k ≤ N ∧ i = .int .i64 k ∧ Own .i64 3 wr (w2.heap.size + 1) v (lackAt a.2.2.2 k) ∧ Below w.heap.size w wr ∧ Below w2.heap.size w2 wr ∧ Box wr w2.heap.size 98 #[.int .i64 a.1, .int .i64 (N : Int), .int .i64 a.2.2.1, .slice A2 n2 c2]) (fun _ i _ => N - ixOf i)
      case atStart => exact ⟨0, by omega, rfl, Own.nil _ _ _ _, hB3, bel_alloc (Below.refl _ _) _, BW⟩
      case round =>
        obtain ⟨k, hk, rfl, hO, hB, hBk, hX⟩ := hrel
        have z0 := hX.cell 0; have z1 := hX.cell 1; have z2 := hX.cell 2; have z3 := hX.cell 3
        by_cases hlt : k < N
        · have q1 : (k : Int) < (N : Int) := by omega
          have hle := lackAt_le a.2.2.2 k
          by_cases hin : (k : Int) ∈ a.2.2.2.map fun p => p.2.1
          · have HC := Lib.hid (lackAt_f hin)
            have HL := Lib.hid (show decide ((k : Int) ∉ a.2.2.2.map fun p => p.2.1) = false from decide_eq_false fun h => h hin)
            clear hin
            go_wp2_with fail
            refine (i_lacks (k : Int) (tWhole.reach (tWhole.reach hRw hBk) ?hB) hza).mono ?_
            case hB => exact (by repeat (first | (with_reducible exact Below.refl _ _) | (with_reducible assumption) | (with_reducible refine bel_alloc ?_ _) | (with_reducible refine bel_drew ?_) | (with_reducible refine below_drewN ?_ _) | (with_reducible refine bel_put ?_ (by first | exact Nat.le_refl _ | (simp; done) | (simp; omega)) _)))
            rintro e w3 ⟨rfl, hb3⟩
            rw [HL.out]
            have hs3 : Below wr.heap.size wr w3 := bel_trans (by repeat (first | (with_reducible exact Below.refl _ _) | (with_reducible assumption) | (with_reducible refine bel_alloc ?_ _) | (with_reducible refine bel_drew ?_) | (with_reducible refine below_drewN ?_ _) | (with_reducible refine bel_put ?_ (by first | exact Nat.le_refl _ | (simp; done) | (simp; omega)) _))) hb3
            go_wp2
            go_roundw
            case rel => exact ⟨k + 1, by omega, by go_num, by rw [HC.out]; exact hO.below hs3, bel_trans hB hs3, bel_trans hBk hs3, hX.below hs3 hX.size⟩
            case measure => simp [ixOf]; omega
          · have HC := Lib.hid (lackAt_t hin)
            have HL := Lib.hid (show decide ((k : Int) ∉ a.2.2.2.map fun p => p.2.1) = true from decide_eq_true hin)
            clear hin
            go_wp2_with fail
            refine (i_lacks (k : Int) (tWhole.reach (tWhole.reach hRw hBk) ?hB) hza).mono ?_
            case hB => exact (by repeat (first | (with_reducible exact Below.refl _ _) | (with_reducible assumption) | (with_reducible refine bel_alloc ?_ _) | (with_reducible refine bel_drew ?_) | (with_reducible refine below_drewN ?_ _) | (with_reducible refine bel_put ?_ (by first | exact Nat.le_refl _ | (simp; done) | (simp; omega)) _)))
            rintro e w3 ⟨rfl, hb3⟩
            rw [HL.out]
            have hs3 : Below wr.heap.size wr w3 := bel_trans (by repeat (first | (with_reducible exact Below.refl _ _) | (with_reducible assumption) | (with_reducible refine bel_alloc ?_ _) | (with_reducible refine bel_drew ?_) | (with_reducible refine below_drewN ?_ _) | (with_reducible refine bel_put ?_ (by first | exact Nat.le_refl _ | (simp; done) | (simp; omega)) _))) hb3
            have hO3 := hO.below hs3
            have hsz := hX.size
            have hzz := hs3.size
            go_wp2_with (at_builtin; refine wpList_app _ rfl (.tmp 23) (.tmp 25) _ rfl (w2.heap.size + 1) 3 i0 _ 1 8 Try.underlying40 hi0 hz0 hz1 hz2 rfl (by omega) _ _ _ rfl (hO3.1.alloc _) _ 1 1 [.int .i64 (k : Int)] rfl (Src.one _ _ _) (one_int _ _) (by simp only [maxLen]; omega) (by omega) (by simp; omega) ?_; intro v1 w4 hown hgr hat)
            go_roundw
            case rel => exact ⟨k + 1, by omega, by go_num, own_sn hO3 hown HC.out (wf_i64 (by omega) (by omega)), (bel_trans hB hs3).alloc (bel_trans hB hs3).size _ |>.grown hgr (by simp; have := (bel_trans hB hs3).size; omega) (fun b hb => by have := (hO3.1.lt b hb).1; have := hB2.size; omega), below_sn (bel_trans hBk hs3) hO3 (by omega) hgr, box_sn (hX.below hs3 hX.size) hO3 (by omega) hgr⟩
            case measure => simp [ixOf]; omega
        · obtain rfl : k = N := by omega
          have q1 : ¬ (k : Int) < (k : Int) := by omega
          obtain ⟨A9, c9, F, rfl, k5, k6⟩ := own_slice hO
          go_wp2
          go_ret
          have e9 : misL id p.1 = lackAt a.2.2.2 k := by rw [HMI.out, HNN.out]
          rw [e9]
          have k7 : New w.heap.size F := k6.lower (by have := hB2.size; omega)
          first | exact ⟨A9, c9, F, rfl, k5, k7, hB⟩ | exact ⟨A9, c9, rfl, F, k5, k7, hB⟩
    · have HMI := Lib.hid (misL_none hno)
      have BW : Box (w2.alloc (.cells #[.int .i64 0, .int .i64 0, .int .i64 0, .slice none 0 0] 98)) w2.heap.size 98 #[.int .i64 0, .int .i64 0, .int .i64 0, .slice none 0 0] := Box.new _ _ _
      have y1 := BW.cell 1
      have hB3 : Below w.heap.size w (w2.alloc (.cells #[.int .i64 0, .int .i64 0, .int .i64 0, .slice none 0 0] 98)) := bel_alloc hB2 _
      go_wp2_with fail
      go_loopw [6, 17] (fun v i wr => v = .slice none 0 0 ∧ i = .int .i64 0 ∧ Below w.heap.size w wr) (fun _ i _ => 0)
      case atStart => exact ⟨rfl, rfl, hB3⟩
      case round =>
        obtain ⟨rfl, rfl, hB⟩ := hrel
        go_wp2
        go_ret
        rw [HMI.out]
        exact ⟨none, 0, [], rfl, .inl ⟨none, 0, rfl, by omega, rfl, rfl⟩, New.nil _, hB⟩
  · have HP := Lib.hid (decide_eq_false hp)
    rw [fMis_f hp]
    clear hp
    go_enter Try.func42, Try.ntmps42
    go_wp2_with fail
    refine (i_DeskOk (tDesk.reach h ?hB) hz).mono ?_
    case hB => exact (by repeat (first | (with_reducible exact Below.refl _ _) | (with_reducible assumption) | (with_reducible refine bel_alloc ?_ _) | (with_reducible refine bel_drew ?_) | (with_reducible refine below_drewN ?_ _) | (with_reducible refine bel_put ?_ (by first | exact Nat.le_refl _ | (simp; done) | (simp; omega)) _)))
    rintro e w1 ⟨rfl, hb1⟩
    rw [HP.out]
    go_wp2
    go_ret
    exact ⟨none, 0, [], rfl, .inl ⟨none, 0, rfl, by omega, rfl, rfl⟩, New.nil _, bel_trans (by repeat (first | (with_reducible exact Below.refl _ _) | (with_reducible assumption) | (with_reducible refine bel_alloc ?_ _) | (with_reducible refine bel_drew ?_) | (with_reducible refine below_drewN ?_ _) | (with_reducible refine bel_put ?_ (by first | exact Nat.le_refl _ | (simp; done) | (simp; omega)) _))) hb1⟩
end Go.Proofs.Ytpapkonejkdkhaa
