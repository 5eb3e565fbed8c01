/-
  What a message lacks: contract of the model's Missing.
-/
import Derived.Test.YtpapkonejkdkhaaPMisP
import Derived.Test.YtpapkonejkdkhaaPDeskT
import Derived.Test.YtpapkonejkdkhaaSn
namespace Go.Proofs.Ytpapkonejkdkhaa
set_option maxRecDepth 100000
set_option linter.unusedVariables false
set_option linter.unusedSimpArgs false
open Go.ChangeShapes Go.WideShapes Go.ChangeAt Go.RowKit
theorem mt_int : (Try.prog.info? 3).map (fun i => (i.zero, i.size, i.bytes)) = some (some (.int .i64 0), 1, 8) := by kernel_rfl
theorem mem_sn {G : List DPiece} {k : Nat} {x : DPiece} {q : Int} (h : G[k]? = some x) : decide (q ∈ (G.take (k + 1)).map fun p => p.2.1) = (decide (q ∈ (G.take k).map fun p => p.2.1) || (x.2.1 == q)) := by
  rw [take_snoc h, List.map_append, Bool.eq_iff_iff]
  simp
  constructor
  · rintro (h' | h')
    · exact .inl h'
    · exact .inr h'.symm
  · rintro (h' | h')
    · exact .inl h'
    · exact .inr h'.symm
set_option maxHeartbeats 2000000 in
theorem s_Missing {w : World} {cs : List Value} {p : DDesk} {id : Int} (h : tDesk.R w w.heap.size cs p) (hz : szDesk p ≤ 1048576) (hid : (Lit.int .i64 id).wf = true) :
    Calls Try.prog 41 #[.agg cs.toArray, .int .i64 id] w fun e w' => ∃ A c, e = .returned (.slice A (fMis p id).length c) ∧ tIs.R w' w'.heap.size [.slice A (fMis p id).length c] (fMis p id) ∧ Below w.heap.size w w' := by
  obtain ⟨A0, n0, c0, A1, n1, c1, rfl, -, -, -, hr0, -, -, -, hr1⟩ := openDesk h
  by_cases hp : DkOk p
  · have HP := Lib.hid (decide_eq_true hp)
    have hn0 : n0 ≤ 6 := by have := hp.1; have := (rowR_len hr0).1; omega
    have E0 := Lib.hid (rowR_len hr0).1
    have HWH := Lib.hid (fun a (ha : a ∈ p.1) => dk_wh hp ha)
    have HLE := Lib.hid (fun j => show (misL id (p.1.take j)).length ≤ 48 from by
      have h1 := misL_le hp id
      have h2 : misL id p.1 = misL id (p.1.take j) ++ misL id (p.1.drop j) := by rw [← misL_app, List.take_append_drop]
      rw [h2, List.length_append] at h1
      omega)
    rw [fMis_t hp]
    obtain ⟨i0, hi0, hz0, hz1, hz2⟩ := info_parts mt_int
    clear hp
    go_enter Try.func41, Try.ntmps41
    go_wp2_with fail
    refine (s_DeskOk (tDesk.reach h ?hB) hz).mono ?_
    case hB => exact (by repeat (first | (with_reducible exact Below.refl _ _) | (with_reducible assumption) | (with_reducible refine bel_alloc ?_ _) | (with_reducible refine bel_drew ?_) | (with_reducible refine below_drewN ?_ _) | (with_reducible refine bel_put ?_ (by first | exact Nat.le_refl _ | (simp; done) | (simp; omega)) _)))
    rintro e w1 ⟨rfl, hb1⟩
    rw [HP.out]
    have X1 : Box w1 w.heap.size 61 #[.slice A0 n0 c0, .slice A1 n1 c1] := (Box.new _ _ _).below hb1 (by simp)
    have hB1 : Below w.heap.size w w1 := bel_trans (by repeat (first | (with_reducible exact Below.refl _ _) | (with_reducible assumption) | (with_reducible refine bel_alloc ?_ _) | (with_reducible refine bel_drew ?_) | (with_reducible refine below_drewN ?_ _) | (with_reducible refine bel_put ?_ (by first | exact Nat.le_refl _ | (simp; done) | (simp; omega)) _))) hb1
    have k0 := X1.cell 0
    clear hb1
    go_wp2_with fail
    go_loopw [5, 6] (fun v i wr => ∃ j : Nat, j ≤ n0 ∧ i = .int .i64 j ∧ Own .i64 3 wr (w.heap.size + 1) v (misL id (p.1.take j)) ∧ Below w.heap.size w wr ∧ Box wr w.heap.size 61 #[.slice A0 n0 c0, .slice A1 n1 c1]) (fun _ i _ => n0 - ixOf i)
    case atStart => exact ⟨0, by omega, rfl, Own.nil _ _ _ _, hB1, X1⟩
    case round =>
      obtain ⟨j, hj, rfl, hO, hB, hX⟩ := hrel
      have x0 := hX.cell 0
      by_cases hlt : j < n0
      · obtain ⟨a, b', off, es, hl2, rfl, hb, hes, hR⟩ := rowR_at (K := 4) hr0 hlt rfl
        have hwh := HWH.out a (List.mem_of_getElem? hl2)
        have HSN := Lib.hid (misL_sn (id := id) hl2)
        have hjl := HLE.out j
        have hRk := hR
        obtain ⟨A2, n2, c2, rfl, -, -, -, -, -, hl3, h3⟩ := openWhole hR
        have h0 : wr.cell? ⟨b', off + j * 4, none⟩ = some (.int .i64 a.1) := cell_at hB hb (hes 0 (by omega))
        have h1 : wr.cell? ⟨b', off + j * 4 + 1, none⟩ = some (.int .i64 a.2.1) := cell_at hB hb (hes 1 (by omega))
        have h2 : wr.cell? ⟨b', off + j * 4 + 2, none⟩ = some (.int .i64 a.2.2.1) := cell_at hB hb (hes 2 (by omega))
        have h4 : wr.cell? ⟨b', off + j * 4 + 3, none⟩ = some (.slice A2 n2 c2) := cell_at hB hb (hes 3 (by omega))
        obtain ⟨N, hN⟩ := Int.eq_ofNat_of_zero_le (show 0 ≤ a.2.1 by omega)
        have HNN := Lib.hid (show a.2.1.toNat = N by rw [hN]; rfl)
        have hN8 : N ≤ 8 := by omega
        have hN1 : 0 < N := by omega
        have hn2 : n2 ≤ 8 := by omega
        have HL3 := Lib.hid hl3
        rw [hN] at h1
        have q1 : (j : Int) < (n0 : Int) := by omega
        have hsz := hX.size
        clear hes hR hl2 hwh hRk hN hl3
        have BW : Box (wr.alloc (.cells #[.int .i64 a.1, .int .i64 (N : Int), .int .i64 a.2.2.1, .slice A2 n2 c2] 98)) wr.heap.size 98 #[.int .i64 a.1, .int .i64 (N : Int), .int .i64 a.2.2.1, .slice A2 n2 c2] := Box.new _ _ _
        have hOa := hO.alloc (.cells #[.int .i64 a.1, .int .i64 (N : Int), .int .i64 a.2.2.1, .slice A2 n2 c2] 98)
        have hBa : Below w.heap.size w (wr.alloc (.cells #[.int .i64 a.1, .int .i64 (N : Int), .int .i64 a.2.2.1, .slice A2 n2 c2] 98)) := bel_alloc hB _
        have hXa := hX.alloc (.cells #[.int .i64 a.1, .int .i64 (N : Int), .int .i64 a.2.2.1, .slice A2 n2 c2] 98)
        have y0 := BW.cell 0; have y1 := BW.cell 1; have y3 := BW.cell 3
        go_wp2_with fail
        go_loopw [5, 8] (fun v i wq => ∃ q : Nat, q ≤ N ∧ i = .int .i64 q ∧ Own .i64 3 wq (w.heap.size + 1) v (misL id (p.1.take j) ++ (if a.1 = id then lackAt a.2.2.2 q else [])) ∧ (a.1 ≠ id → q = 0) ∧ Below w.heap.size w wq ∧ Box wq w.heap.size 61 #[.slice (some ⟨b', off, none⟩) n0 c0, .slice A1 n1 c1] ∧ Box wq wr.heap.size 98 #[.int .i64 a.1, .int .i64 (N : Int), .int .i64 a.2.2.1, .slice A2 n2 c2] ∧ (∀ b, v.ownBlock = some b → b ≠ wr.heap.size)) (fun _ i _ => N - ixOf i)
        case atStart => exact ⟨0, by omega, rfl, by
          have e : misL id (p.1.take j) ++ (if a.1 = id then lackAt a.2.2.2 0 else []) = misL id (p.1.take j) := by split <;> simp [lackAt]
          rw [e]; exact hOa, fun _ => rfl, hBa, hXa, BW, fun b hb e => by have := (hO.1.lt b hb).2; omega⟩
        case round =>
          obtain ⟨q, hq, rfl, hOq, hq0, hBq, hXq, hWq, hne⟩ := hrel
          have y0 := hWq.cell 0; have y1 := hWq.cell 1; have y3 := hWq.cell 3
          have hszq := hXq.size
          by_cases hidq : a.1 = id
          · have qid : (a.1 == id) = true := by simpa using hidq
            have HIF := Lib.hid (fun m : Nat => show (if a.1 = id then lackAt a.2.2.2 m else []) = lackAt a.2.2.2 m from if_pos hidq)
            rw [HIF.out] at hOq
            have HIQ := Lib.hid hidq
            clear hidq hq0
            by_cases hltq : q < N
            · have q2 : (q : Int) < (N : Int) := by omega
              have hlq := lackAt_le a.2.2.2 q
              go_wp2_with fail
              go_loop [9, 10] (fun f i => ∃ m : Nat, m ≤ n2 ∧ i = .int .i64 m ∧ f = .bool (decide ((q : Int) ∈ (a.2.2.2.take m).map fun p => p.2.1))) (fun _ i => n2 - ixOf i)
              case atStart => exact ⟨0, by omega, rfl, by simp⟩
              case round =>
                obtain ⟨m, hm, rfl, rfl⟩ := hrel
                by_cases hltm : m < n2
                · obtain ⟨x, b3, off3, es3, hl4, rfl, hb3, hes3, hR3⟩ := rowR_at (K := 4) h3 hltm rfl
                  have HM := Lib.hid (mem_sn (q := (q : Int)) hl4)
                  obtain ⟨A4, n4, c4, rfl, -⟩ := openPiece hR3
                  have hx1 : wr.cell? ⟨b3, off3 + m * 4 + 1, none⟩ = some (.int .i64 x.2.1) := cell_at hBq hb3 (hes3 1 (by omega))
                  have q3 : (m : Int) < (n2 : Int) := by omega
                  obtain ⟨f0, hf0⟩ : ∃ f, decide ((q : Int) ∈ (a.2.2.2.take m).map fun p => p.2.1) = f := ⟨_, rfl⟩
                  have HF0 := Lib.hid hf0
                  rw [hf0]
                  clear hes3 hR3 hl4 hf0
                  rcases f0 with _ | _
                  · rcases hxq : (x.2.1 == (q : Int)) with _ | _
                    · have HN := Lib.hid (HM.out.trans (by rw [HF0.out, hxq]; try rfl))
                      go_wp2
                      go_round
                      case rel => exact ⟨m + 1, by omega, by go_num, by rw [HN.out]; rfl⟩
                      case measure => simp [ixOf]; omega
                    · have HN := Lib.hid (HM.out.trans (by rw [HF0.out, hxq]; try rfl))
                      go_wp2
                      go_round
                      case rel => exact ⟨m + 1, by omega, by go_num, by rw [HN.out]; rfl⟩
                      case measure => simp [ixOf]; omega
                  · have HN := Lib.hid (HM.out.trans (by rw [HF0.out]; try rfl))
                    go_wp2
                    go_round
                    case rel => exact ⟨m + 1, by omega, by go_num, by rw [HN.out]; rfl⟩
                    case measure => simp [ixOf]; omega
                · obtain rfl : m = n2 := by omega
                  have HTK := Lib.hid (show a.2.2.2.take m = a.2.2.2 from List.take_of_length_le (Nat.le_of_eq HL3.out))
                  rw [HTK.out]
                  have q3 : ¬ (m : Int) < (m : Int) := by omega
                  by_cases hin : (q : Int) ∈ a.2.2.2.map fun p => p.2.1
                  · have HC := Lib.hid (lackAt_f hin)
                    have HL := Lib.hid (show decide ((q : Int) ∈ a.2.2.2.map fun p => p.2.1) = true from decide_eq_true hin)
                    rw [HL.out]
                    clear hin
                    go_wp2
                    go_roundw
                    case rel => exact ⟨q + 1, by omega, by go_num, by rw [HIF.out, HC.out]; exact hOq, fun h => absurd HIQ.out h, hBq, hXq, hWq, hne⟩
                    case measure => simp [ixOf]; omega
                  · have HC := Lib.hid (lackAt_t hin)
                    have HL := Lib.hid (show decide ((q : Int) ∈ a.2.2.2.map fun p => p.2.1) = false from decide_eq_false hin)
                    rw [HL.out]
                    clear hin
                    have hlen : (misL id (p.1.take j) ++ lackAt a.2.2.2 q).length ≤ 56 := by rw [List.length_append]; omega
                    go_wp2_with (at_builtin; refine wpList_app _ rfl (.tmp 58) (.tmp 60) _ rfl (w.heap.size + 1) 3 i0 _ 1 8 Try.underlying40 hi0 hz0 hz1 hz2 rfl (by omega) _ _ _ rfl (hOq.1.alloc _) _ 1 1 [.int .i64 (q : Int)] rfl (Src.one _ _ _) (one_int _ _) (by simp only [maxLen]; omega) (by omega) (by simp; omega) ?_; intro v1 w4 hown hgr hat)
                    have hO4 := own_sn hOq hown (rfl : (misL id (p.1.take j) ++ lackAt a.2.2.2 q) ++ [(q : Int)] = _) (wf_i64 (by omega) (by omega))
                    go_roundw
                    case rel => exact ⟨q + 1, by omega, by go_num, by rw [HIF.out, HC.out, ← List.append_assoc]; exact hO4, fun h => absurd HIQ.out h, below_sn hBq hOq (by omega) hgr, box_sn hXq hOq (by omega) hgr, (hWq.alloc _).grown hgr (fun e => hne _ e.symm rfl), by
                      intro b hb e
                      rcases hat with h' | h'
                      · exact hne b (h' ▸ hb) e
                      · rw [h'] at hb
                        have := Option.some.inj hb
                        have hw := hWq.size
                        simp at this
                        omega⟩
                    case measure => simp [ixOf]; omega
            · obtain rfl : q = N := by omega
              have q2 : ¬ (q : Int) < (q : Int) := by omega
              have HE := Lib.hid (show misL id (p.1.take (j + 1)) = misL id (p.1.take j) ++ lackAt a.2.2.2 q by rw [HSN.out, HIF.out, HNN.out])
              go_wp2
              go_roundw
              case rel => exact ⟨j + 1, by omega, by go_num, by rw [HE.out]; exact hOq, hBq, hXq⟩
              case measure => simp [ixOf]; omega
          · have qid : (a.1 == id) = false := by simpa using hidq
            obtain rfl : q = 0 := hq0 hidq
            have HE := Lib.hid (show misL id (p.1.take (j + 1)) = misL id (p.1.take j) by rw [HSN.out, if_neg hidq, List.append_nil])
            rw [if_neg hidq, List.append_nil] at hOq
            have q2 : (0 : Int) < (N : Int) := by omega
            clear hidq hq0
            go_wp2
            go_roundw
            case rel => exact ⟨j + 1, by omega, by go_num, by rw [HE.out]; exact hOq, hBq, hXq⟩
            case measure => simp [ixOf]; omega
      · obtain rfl : j = n0 := by omega
        have HT := Lib.hid (show misL id (p.1.take j) = misL id p.1 by rw [List.take_of_length_le (Nat.le_of_eq E0.out)])
        obtain ⟨A9, c9, F, rfl, k5, k6⟩ := own_slice hO
        go_wp2
        go_ret
        rw [← HT.out]
        exact ⟨A9, c9, rfl, tIs.read k5, hB⟩
  · have HP := Lib.hid (decide_eq_false hp)
    rw [fMis_f hp]
    clear hp
    go_enter Try.func41, Try.ntmps41
    go_wp2_with fail
    refine (s_DeskOk (tDesk.reach h ?hB) hz).mono ?_
    case hB => exact (by repeat (first | (with_reducible exact Below.refl _ _) | (with_reducible assumption) | (with_reducible refine bel_alloc ?_ _) | (with_reducible refine bel_drew ?_) | (with_reducible refine below_drewN ?_ _) | (with_reducible refine bel_put ?_ (by first | exact Nat.le_refl _ | (simp; done) | (simp; omega)) _)))
    rintro e w1 ⟨rfl, hb1⟩
    rw [HP.out]
    go_wp2
    go_ret
    exact ⟨none, 0, rfl, ⟨none, 0, 0, rfl, Nat.le_refl _, by omega, Ints.nil⟩, bel_trans (by repeat (first | (with_reducible exact Below.refl _ _) | (with_reducible assumption) | (with_reducible refine bel_alloc ?_ _) | (with_reducible refine bel_drew ?_) | (with_reducible refine below_drewN ?_ _) | (with_reducible refine bel_put ?_ (by first | exact Nat.le_refl _ | (simp; done) | (simp; omega)) _))) hb1⟩
end Go.Proofs.Ytpapkonejkdkhaa
