/-
  PNodeI: texts joined.
-/
import Derived.Test.YtkdanlnhdgcplaaGreatFGa
import Derived.Test.YtkdanlnhdgcplaaGreatFGe
import Derived.Test.YtkdanlnhdgcplaaGreatFMPIds
import Derived.Test.YtkdanlnhdgcplaaGreatFMPNodeS
import Derived.Deep.RegionHeld3
namespace Go.Proofs.YtkdanlnhdgcplaaGreat
set_option maxRecDepth 100000
set_option linter.unusedVariables false
set_option linter.unusedSimpArgs false
open Go.ChangeShapes Go.WideShapes Go.ChangeAt Go.RowKit
open Fld
set_option maxHeartbeats 4000000 in
theorem i_NodeOkN {w : World} {x0 x1 : Int} {A2 A3 A4 A5 A6 : Option Addr} {n2 c2 n3 c3 n4 c4 n5 c5 n6 c6 : Nat} {pl : DPool} {dk : DDesk} {got : List DLetter} (b : Bool) (T : NdOk (x0, x1, pl, dk, got) → b = true) (F : ¬ NdOk (x0, x1, pl, dk, got) → b = false)
  (hP : tPool.R w w.heap.size [.slice A2 n2 c2, .slice A3 n3 c3] pl) (hD : tDesk.R w w.heap.size [.slice A4 n4 c4, .slice A5 n5 c5] dk) (hL : tLetter.row.R w w.heap.size [.slice A6 n6 c6] got) (hzP : szPool pl ≤ 1048576) (hzD : szDesk dk ≤ 1048576) (hn6 : n6 ≤ 1048576) :
  Calls Tryz.prog 102 #[.agg #[.int .i64 x0, .int .i64 x1, .slice A2 n2 c2, .slice A3 n3 c3, .slice A4 n4 c4, .slice A5 n5 c5, .slice A6 n6 c6]] w fun e w' => e = .returned (.bool b) ∧ Bel w w' := by
 have hl5 := (slR_ints (prod_two rfl hD).2).1
 have hn5 : n5 ≤ 1048576 := by have := hl5.1; unfold szDesk at hzD; omega
 have HSL := Lib.hid (show (sIds got).length = n6 by unfold sIds; rw [srt_len, List.length_map]; exact (rowR_len hL).1)
 have HT := Lib.hid T
 have HF := Lib.hid F
 clear T F
 by_cases h0 : 0 ≤ x0 ∧ x0 < 8
 rotate_left
 ·obtain rfl := HF.out (fun h => h0 h.1)
  clear HT HF
  as_aux_lemma =>
   go_enter Tryz.func102, Tryz.ntmps102
   go_wp2_with fail
   have X0 : Box (w.alloc (.cells #[.int .i64 x0, .int .i64 x1, .slice A2 n2 c2, .slice A3 n3 c3, .slice A4 n4 c4, .slice A5 n5 c5, .slice A6 n6 c6] 109)) w.heap.size 109 #[.int .i64 x0, .int .i64 x1, .slice A2 n2 c2, .slice A3 n3 c3, .slice A4 n4 c4, .slice A5 n5 c5, .slice A6 n6 c6] := Box.new _ _ _
   refine wp_region_held_drew (S := (fun w' => w'.cell? ⟨w.heap.size, 0, none⟩ = some (.int .i64 x0) ∧ w'.cell? ⟨w.heap.size, 1, none⟩ = some (.int .i64 x1) ∧ w'.cell? ⟨w.heap.size, 2, none⟩ = some (.slice A2 n2 c2) ∧ w'.cell? ⟨w.heap.size, 3, none⟩ = some (.slice A3 n3 c3) ∧ w'.cell? ⟨w.heap.size, 4, none⟩ = some (.slice A4 n4 c4) ∧ w'.cell? ⟨w.heap.size, 5, none⟩ = some (.slice A5 n5 c5) ∧ w'.cell? ⟨w.heap.size, 6, none⟩ = some (.slice A6 n6 c6))) (by kernel_rfl) (by exact ⟨X0.cell 0, X0.cell 1, X0.cell 2, X0.cell 3, X0.cell 4, X0.cell 5, X0.cell 6⟩) (fun hHeld => ?_)
   refine tkx 0 (some 3) ?_
   refine tkx 1 (some 4) ?_
   refine rdx [2] ?_
   refine rcx (fun K hK => ?_) ?_
   ·go_simp
    go_at_call 67
    refine (ih_isNode_f _ _ h0).mono ?_
    rintro e wq ⟨rfl, rfl⟩
    go_wp2_with fail
    refine hK.out _ _ ⟨X0.cell 0, X0.cell 1, X0.cell 2, X0.cell 3, X0.cell 4, X0.cell 5, X0.cell 6⟩ (fun hHeld => ?_)
    clear hK K
    (try simp only [Act.put, qa_, qb_, qc_])
    refine tkx 3 (some 6) ?_
    refine tkn 4 (some 7) ?_
    refine tkn 5 (some 8) ?_
    refine tkn 6 (some 9) ?_
    refine tkx 7 (some 10) ?_
    refine tkx 8 (some 11) ?_
    refine tkn 9 (some 12) ?_
    refine tkn 10 (some 13) ?_
    refine tkn 11 (some 14) ?_
    refine tkx 12 (some 15) ?_
    refine tkx 13 (some 16) ?_
    refine tkn 14 (some 17) ?_
    refine tkn 15 (some 18) ?_
    refine tkn 16 (some 19) ?_
    refine tkx 17 (some 20) ?_
    refine tkx 18 (some 21) ?_
    refine tkn 19 (some 22) ?_
    refine tkn 20 (some 23) ?_
    refine tkn 21 (some 24) ?_
    refine tkx 22 (some 25) ?_
    refine tkx 23 (some 26) ?_
    refine tkn 24 (some 27) ?_
    refine tkn 25 (some 28) ?_
    refine tkn 26 (some 29) ?_
    refine tkn 27 (some 30) ?_
    refine tkn 28 (some 31) ?_
    refine tkn 29 (some 32) ?_
    refine tkn 30 (some 33) ?_
    refine tkx 31 (some 34) ?_
    refine tkx 32 (some 2) ?_
    refine rex ?_ _
    go_wp2
    go_ret
    exact ⟨rfl, (belx)⟩
   exact AllReadyH.nil
 by_cases g2 : Sec x1
 rotate_left
 ·obtain rfl := HF.out (fun h => g2 h.2.1)
  have HS := Lib.hid (noSec g2)
  clear HT HF g2
  as_aux_lemma =>
   go_enter Tryz.func102, Tryz.ntmps102
   go_wp2_with fail
   have X0 : Box (w.alloc (.cells #[.int .i64 x0, .int .i64 x1, .slice A2 n2 c2, .slice A3 n3 c3, .slice A4 n4 c4, .slice A5 n5 c5, .slice A6 n6 c6] 109)) w.heap.size 109 #[.int .i64 x0, .int .i64 x1, .slice A2 n2 c2, .slice A3 n3 c3, .slice A4 n4 c4, .slice A5 n5 c5, .slice A6 n6 c6] := Box.new _ _ _
   refine wp_region_held_drew (S := (fun w' => w'.cell? ⟨w.heap.size, 0, none⟩ = some (.int .i64 x0) ∧ w'.cell? ⟨w.heap.size, 1, none⟩ = some (.int .i64 x1) ∧ w'.cell? ⟨w.heap.size, 2, none⟩ = some (.slice A2 n2 c2) ∧ w'.cell? ⟨w.heap.size, 3, none⟩ = some (.slice A3 n3 c3) ∧ w'.cell? ⟨w.heap.size, 4, none⟩ = some (.slice A4 n4 c4) ∧ w'.cell? ⟨w.heap.size, 5, none⟩ = some (.slice A5 n5 c5) ∧ w'.cell? ⟨w.heap.size, 6, none⟩ = some (.slice A6 n6 c6))) (by kernel_rfl) (by exact ⟨X0.cell 0, X0.cell 1, X0.cell 2, X0.cell 3, X0.cell 4, X0.cell 5, X0.cell 6⟩) (fun hHeld => ?_)
   refine tkx 0 (some 3) ?_
   refine tkx 1 (some 4) ?_
   refine rdx [2] ?_
   refine rcx (fun K hK => ?_) ?_
   ·go_simp
    go_at_call 67
    refine (ih_isNode_t _ _ h0.1 h0.2).mono ?_
    rintro e wq ⟨rfl, rfl⟩
    go_wp2_with fail
    refine hK.out _ _ ⟨X0.cell 0, X0.cell 1, X0.cell 2, X0.cell 3, X0.cell 4, X0.cell 5, X0.cell 6⟩ (fun hHeld => ?_)
    clear hK K
    (try simp only [Act.put, qa_, qb_, qc_])
    refine tkx 3 (some 6) ?_
    refine tkx 4 (some 7) ?_
    refine tkx 5 (some 8) ?_
    refine rdx [6] ?_
    refine rcx (fun K hK => ?_) ?_
    ·go_simp
     go_at_call 138
     refine (i_sec_f _ _ HS.out).mono ?_
     rintro e wq ⟨rfl, rfl⟩
     go_wp2_with fail
     refine hK.out _ _ ⟨X0.cell 0, X0.cell 1, X0.cell 2, X0.cell 3, X0.cell 4, X0.cell 5, X0.cell 6⟩ (fun hHeld => ?_)
     clear hK K
     (try simp only [Act.put, qa_, qb_, qc_])
     refine tkx 7 (some 10) ?_
     refine tkx 8 (some 11) ?_
     refine tkn 9 (some 12) ?_
     refine tkn 10 (some 13) ?_
     refine tkn 11 (some 14) ?_
     refine tkx 12 (some 15) ?_
     refine tkx 13 (some 16) ?_
     refine tkn 14 (some 17) ?_
     refine tkn 15 (some 18) ?_
     refine tkn 16 (some 19) ?_
     refine tkx 17 (some 20) ?_
     refine tkx 18 (some 21) ?_
     refine tkn 19 (some 22) ?_
     refine tkn 20 (some 23) ?_
     refine tkn 21 (some 24) ?_
     refine tkx 22 (some 25) ?_
     refine tkx 23 (some 26) ?_
     refine tkn 24 (some 27) ?_
     refine tkn 25 (some 28) ?_
     refine tkn 26 (some 29) ?_
     refine tkn 27 (some 30) ?_
     refine tkn 28 (some 31) ?_
     refine tkn 29 (some 32) ?_
     refine tkn 30 (some 33) ?_
     refine tkx 31 (some 34) ?_
     refine tkx 32 (some 2) ?_
     refine rex ?_ _
     go_wp2
     go_ret
     exact ⟨rfl, (belx)⟩
    exact AllReadyH.nil
   exact AllReadyH.nil
 have HS := Lib.hid g2
 by_cases g3 : PlOk pl
 rotate_left
 ·obtain rfl := HF.out (fun h => g3 h.2.2.1)
  have HPl := Lib.hid (decide_eq_false g3)
  clear HT HF g2 g3
  as_aux_lemma =>
   go_enter Tryz.func102, Tryz.ntmps102
   go_wp2_with fail
   have X0 : Box (w.alloc (.cells #[.int .i64 x0, .int .i64 x1, .slice A2 n2 c2, .slice A3 n3 c3, .slice A4 n4 c4, .slice A5 n5 c5, .slice A6 n6 c6] 109)) w.heap.size 109 #[.int .i64 x0, .int .i64 x1, .slice A2 n2 c2, .slice A3 n3 c3, .slice A4 n4 c4, .slice A5 n5 c5, .slice A6 n6 c6] := Box.new _ _ _
   refine wp_region_held_drew (S := (fun w' => w'.cell? ⟨w.heap.size, 0, none⟩ = some (.int .i64 x0) ∧ w'.cell? ⟨w.heap.size, 1, none⟩ = some (.int .i64 x1) ∧ w'.cell? ⟨w.heap.size, 2, none⟩ = some (.slice A2 n2 c2) ∧ w'.cell? ⟨w.heap.size, 3, none⟩ = some (.slice A3 n3 c3) ∧ w'.cell? ⟨w.heap.size, 4, none⟩ = some (.slice A4 n4 c4) ∧ w'.cell? ⟨w.heap.size, 5, none⟩ = some (.slice A5 n5 c5) ∧ w'.cell? ⟨w.heap.size, 6, none⟩ = some (.slice A6 n6 c6))) (by kernel_rfl) (by exact ⟨X0.cell 0, X0.cell 1, X0.cell 2, X0.cell 3, X0.cell 4, X0.cell 5, X0.cell 6⟩) (fun hHeld => ?_)
   refine tkx 0 (some 3) ?_
   refine tkx 1 (some 4) ?_
   refine rdx [2] ?_
   refine rcx (fun K hK => ?_) ?_
   ·go_simp
    go_at_call 67
    refine (ih_isNode_t _ _ h0.1 h0.2).mono ?_
    rintro e wq ⟨rfl, rfl⟩
    go_wp2_with fail
    refine hK.out _ _ ⟨X0.cell 0, X0.cell 1, X0.cell 2, X0.cell 3, X0.cell 4, X0.cell 5, X0.cell 6⟩ (fun hHeld => ?_)
    clear hK K
    (try simp only [Act.put, qa_, qb_, qc_])
    refine tkx 3 (some 6) ?_
    refine tkx 4 (some 7) ?_
    refine tkx 5 (some 8) ?_
    refine rdx [6] ?_
    refine rcx (fun K hK => ?_) ?_
    ·go_simp
     go_at_call 138
     refine (i_sec_t _ _ HS.out).mono ?_
     rintro e wq ⟨rfl, rfl⟩
     go_wp2_with fail
     refine hK.out _ _ ⟨X0.cell 0, X0.cell 1, X0.cell 2, X0.cell 3, X0.cell 4, X0.cell 5, X0.cell 6⟩ (fun hHeld => ?_)
     clear hK K
     (try simp only [Act.put, qa_, qb_, qc_])
     refine tkx 7 (some 10) ?_
     refine tkx 8 (some 11) ?_
     refine tkx 9 (some 12) ?_
     refine tkx 10 (some 13) ?_
     refine rdx [11] ?_
     refine rcx (fun K hK => ?_) ?_
     ·go_simp
      go_at_call 139
      refine (i_PoolOk (tPool.reach hP ?hB1) hzP).mono ?_
      case hB1 => exact (belx)
      rintro e W1 ⟨rfl, hb1⟩
      rw [HPl.out]
      have X1 := Box.below (Box.drew X0) hb1 (Box.drew X0).size
      have hB1 : Bel w W1 := bel_trans (belx) hb1
      go_wp2_with fail
      refine hK.out _ _ ⟨X1.cell 0, X1.cell 1, X1.cell 2, X1.cell 3, X1.cell 4, X1.cell 5, X1.cell 6⟩ (fun hHeld => ?_)
      clear hK K
      (try simp only [Act.put, qa_, qb_, qc_])
      refine tkx 12 (some 15) ?_
      refine tkx 13 (some 16) ?_
      refine tkn 14 (some 17) ?_
      refine tkn 15 (some 18) ?_
      refine tkn 16 (some 19) ?_
      refine tkx 17 (some 20) ?_
      refine tkx 18 (some 21) ?_
      refine tkn 19 (some 22) ?_
      refine tkn 20 (some 23) ?_
      refine tkn 21 (some 24) ?_
      refine tkx 22 (some 25) ?_
      refine tkx 23 (some 26) ?_
      refine tkn 24 (some 27) ?_
      refine tkn 25 (some 28) ?_
      refine tkn 26 (some 29) ?_
      refine tkn 27 (some 30) ?_
      refine tkn 28 (some 31) ?_
      refine tkn 29 (some 32) ?_
      refine tkn 30 (some 33) ?_
      refine tkx 31 (some 34) ?_
      refine tkx 32 (some 2) ?_
      refine rex ?_ _
      go_wp2
      go_ret
      exact ⟨rfl, hB1⟩
     exact AllReadyH.nil
    exact AllReadyH.nil
   exact AllReadyH.nil
 have HPl := Lib.hid (decide_eq_true g3)
 by_cases g4 : DkOk dk
 rotate_left
 ·obtain rfl := HF.out (fun h => g4 h.2.2.2.1)
  have HDk := Lib.hid (decide_eq_false g4)
  clear HT HF g2 g3 g4
  as_aux_lemma =>
   go_enter Tryz.func102, Tryz.ntmps102
   go_wp2_with fail
   have X0 : Box (w.alloc (.cells #[.int .i64 x0, .int .i64 x1, .slice A2 n2 c2, .slice A3 n3 c3, .slice A4 n4 c4, .slice A5 n5 c5, .slice A6 n6 c6] 109)) w.heap.size 109 #[.int .i64 x0, .int .i64 x1, .slice A2 n2 c2, .slice A3 n3 c3, .slice A4 n4 c4, .slice A5 n5 c5, .slice A6 n6 c6] := Box.new _ _ _
   refine wp_region_held_drew (S := (fun w' => w'.cell? ⟨w.heap.size, 0, none⟩ = some (.int .i64 x0) ∧ w'.cell? ⟨w.heap.size, 1, none⟩ = some (.int .i64 x1) ∧ w'.cell? ⟨w.heap.size, 2, none⟩ = some (.slice A2 n2 c2) ∧ w'.cell? ⟨w.heap.size, 3, none⟩ = some (.slice A3 n3 c3) ∧ w'.cell? ⟨w.heap.size, 4, none⟩ = some (.slice A4 n4 c4) ∧ w'.cell? ⟨w.heap.size, 5, none⟩ = some (.slice A5 n5 c5) ∧ w'.cell? ⟨w.heap.size, 6, none⟩ = some (.slice A6 n6 c6))) (by kernel_rfl) (by exact ⟨X0.cell 0, X0.cell 1, X0.cell 2, X0.cell 3, X0.cell 4, X0.cell 5, X0.cell 6⟩) (fun hHeld => ?_)
   refine tkx 0 (some 3) ?_
   refine tkx 1 (some 4) ?_
   refine rdx [2] ?_
   refine rcx (fun K hK => ?_) ?_
   ·go_simp
    go_at_call 67
    refine (ih_isNode_t _ _ h0.1 h0.2).mono ?_
    rintro e wq ⟨rfl, rfl⟩
    go_wp2_with fail
    refine hK.out _ _ ⟨X0.cell 0, X0.cell 1, X0.cell 2, X0.cell 3, X0.cell 4, X0.cell 5, X0.cell 6⟩ (fun hHeld => ?_)
    clear hK K
    (try simp only [Act.put, qa_, qb_, qc_])
    refine tkx 3 (some 6) ?_
    refine tkx 4 (some 7) ?_
    refine tkx 5 (some 8) ?_
    refine rdx [6] ?_
    refine rcx (fun K hK => ?_) ?_
    ·go_simp
     go_at_call 138
     refine (i_sec_t _ _ HS.out).mono ?_
     rintro e wq ⟨rfl, rfl⟩
     go_wp2_with fail
     refine hK.out _ _ ⟨X0.cell 0, X0.cell 1, X0.cell 2, X0.cell 3, X0.cell 4, X0.cell 5, X0.cell 6⟩ (fun hHeld => ?_)
     clear hK K
     (try simp only [Act.put, qa_, qb_, qc_])
     refine tkx 7 (some 10) ?_
     refine tkx 8 (some 11) ?_
     refine tkx 9 (some 12) ?_
     refine tkx 10 (some 13) ?_
     refine rdx [11] ?_
     refine rcx (fun K hK => ?_) ?_
     ·go_simp
      go_at_call 139
      refine (i_PoolOk (tPool.reach hP ?hB1) hzP).mono ?_
      case hB1 => exact (belx)
      rintro e W1 ⟨rfl, hb1⟩
      rw [HPl.out]
      have X1 := Box.below (Box.drew X0) hb1 (Box.drew X0).size
      have hB1 : Bel w W1 := bel_trans (belx) hb1
      go_wp2_with fail
      refine hK.out _ _ ⟨X1.cell 0, X1.cell 1, X1.cell 2, X1.cell 3, X1.cell 4, X1.cell 5, X1.cell 6⟩ (fun hHeld => ?_)
      clear hK K
      (try simp only [Act.put, qa_, qb_, qc_])
      refine tkx 12 (some 15) ?_
      refine tkx 13 (some 16) ?_
      refine tkx 14 (some 17) ?_
      refine tkx 15 (some 18) ?_
      refine rdx [16] ?_
      refine rcx (fun K hK => ?_) ?_
      ·go_simp
       go_at_call 140
       refine (i_DeskOk (tDesk.reach hD ?hB2) hzD).mono ?_
       case hB2 => exact bel_trans hB1 (belx)
       rintro e W2 ⟨rfl, hb2⟩
       rw [HDk.out]
       have X2 := X1.below hb2 X1.size
       have hB2 : Bel w W2 := bel_trans hB1 hb2
       go_wp2_with fail
       refine hK.out _ _ ⟨X2.cell 0, X2.cell 1, X2.cell 2, X2.cell 3, X2.cell 4, X2.cell 5, X2.cell 6⟩ (fun hHeld => ?_)
       clear hK K
       (try simp only [Act.put, qa_, qb_, qc_])
       refine tkx 17 (some 20) ?_
       refine tkx 18 (some 21) ?_
       refine tkn 19 (some 22) ?_
       refine tkn 20 (some 23) ?_
       refine tkn 21 (some 24) ?_
       refine tkx 22 (some 25) ?_
       refine tkx 23 (some 26) ?_
       refine tkn 24 (some 27) ?_
       refine tkn 25 (some 28) ?_
       refine tkn 26 (some 29) ?_
       refine tkn 27 (some 30) ?_
       refine tkn 28 (some 31) ?_
       refine tkn 29 (some 32) ?_
       refine tkn 30 (some 33) ?_
       refine tkx 31 (some 34) ?_
       refine tkx 32 (some 2) ?_
       refine rex ?_ _
       go_wp2
       go_ret
       exact ⟨rfl, hB2⟩
      exact AllReadyH.nil
     exact AllReadyH.nil
    exact AllReadyH.nil
   exact AllReadyH.nil
 have HDk := Lib.hid (decide_eq_true g4)
 by_cases g5 : ∀ a ∈ got, a.2.length ≤ 160
 rotate_left
 ·obtain rfl := HF.out (fun h => g5 h.2.2.2.2.1)
  have HE := Lib.hid (show (got.all fun a => decide (a.2.length ≤ 160)) = false from alDecF g5)
  clear HT HF g2 g3 g4 g5
  as_aux_lemma =>
   go_enter Tryz.func102, Tryz.ntmps102
   go_wp2_with fail
   have X0 : Box (w.alloc (.cells #[.int .i64 x0, .int .i64 x1, .slice A2 n2 c2, .slice A3 n3 c3, .slice A4 n4 c4, .slice A5 n5 c5, .slice A6 n6 c6] 109)) w.heap.size 109 #[.int .i64 x0, .int .i64 x1, .slice A2 n2 c2, .slice A3 n3 c3, .slice A4 n4 c4, .slice A5 n5 c5, .slice A6 n6 c6] := Box.new _ _ _
   refine wp_region_held_drew (S := (fun w' => w'.cell? ⟨w.heap.size, 0, none⟩ = some (.int .i64 x0) ∧ w'.cell? ⟨w.heap.size, 1, none⟩ = some (.int .i64 x1) ∧ w'.cell? ⟨w.heap.size, 2, none⟩ = some (.slice A2 n2 c2) ∧ w'.cell? ⟨w.heap.size, 3, none⟩ = some (.slice A3 n3 c3) ∧ w'.cell? ⟨w.heap.size, 4, none⟩ = some (.slice A4 n4 c4) ∧ w'.cell? ⟨w.heap.size, 5, none⟩ = some (.slice A5 n5 c5) ∧ w'.cell? ⟨w.heap.size, 6, none⟩ = some (.slice A6 n6 c6))) (by kernel_rfl) (by exact ⟨X0.cell 0, X0.cell 1, X0.cell 2, X0.cell 3, X0.cell 4, X0.cell 5, X0.cell 6⟩) (fun hHeld => ?_)
   refine tkx 0 (some 3) ?_
   refine tkx 1 (some 4) ?_
   refine rdx [2] ?_
   refine rcx (fun K hK => ?_) ?_
   ·go_simp
    go_at_call 67
    refine (ih_isNode_t _ _ h0.1 h0.2).mono ?_
    rintro e wq ⟨rfl, rfl⟩
    go_wp2_with fail
    refine hK.out _ _ ⟨X0.cell 0, X0.cell 1, X0.cell 2, X0.cell 3, X0.cell 4, X0.cell 5, X0.cell 6⟩ (fun hHeld => ?_)
    clear hK K
    (try simp only [Act.put, qa_, qb_, qc_])
    refine tkx 3 (some 6) ?_
    refine tkx 4 (some 7) ?_
    refine tkx 5 (some 8) ?_
    refine rdx [6] ?_
    refine rcx (fun K hK => ?_) ?_
    ·go_simp
     go_at_call 138
     refine (i_sec_t _ _ HS.out).mono ?_
     rintro e wq ⟨rfl, rfl⟩
     go_wp2_with fail
     refine hK.out _ _ ⟨X0.cell 0, X0.cell 1, X0.cell 2, X0.cell 3, X0.cell 4, X0.cell 5, X0.cell 6⟩ (fun hHeld => ?_)
     clear hK K
     (try simp only [Act.put, qa_, qb_, qc_])
     refine tkx 7 (some 10) ?_
     refine tkx 8 (some 11) ?_
     refine tkx 9 (some 12) ?_
     refine tkx 10 (some 13) ?_
     refine rdx [11] ?_
     refine rcx (fun K hK => ?_) ?_
     ·go_simp
      go_at_call 139
      refine (i_PoolOk (tPool.reach hP ?hB1) hzP).mono ?_
      case hB1 => exact (belx)
      rintro e W1 ⟨rfl, hb1⟩
      rw [HPl.out]
      have X1 := Box.below (Box.drew X0) hb1 (Box.drew X0).size
      have hB1 : Bel w W1 := bel_trans (belx) hb1
      go_wp2_with fail
      refine hK.out _ _ ⟨X1.cell 0, X1.cell 1, X1.cell 2, X1.cell 3, X1.cell 4, X1.cell 5, X1.cell 6⟩ (fun hHeld => ?_)
      clear hK K
      (try simp only [Act.put, qa_, qb_, qc_])
      refine tkx 12 (some 15) ?_
      refine tkx 13 (some 16) ?_
      refine tkx 14 (some 17) ?_
      refine tkx 15 (some 18) ?_
      refine rdx [16] ?_
      refine rcx (fun K hK => ?_) ?_
      ·go_simp
       go_at_call 140
       refine (i_DeskOk (tDesk.reach hD ?hB2) hzD).mono ?_
       case hB2 => exact bel_trans hB1 (belx)
       rintro e W2 ⟨rfl, hb2⟩
       rw [HDk.out]
       have X2 := X1.below hb2 X1.size
       have hB2 : Bel w W2 := bel_trans hB1 hb2
       go_wp2_with fail
       refine hK.out _ _ ⟨X2.cell 0, X2.cell 1, X2.cell 2, X2.cell 3, X2.cell 4, X2.cell 5, X2.cell 6⟩ (fun hHeld => ?_)
       clear hK K
       (try simp only [Act.put, qa_, qb_, qc_])
       refine tkx 17 (some 20) ?_
       refine tkx 18 (some 21) ?_
       refine tkx 19 (some 22) ?_
       refine tkx 20 (some 23) ?_
       refine rdx [21] ?_
       refine rcx (fun K hK => ?_) ?_
       ·go_simp
        go_at_call 141
        refine (i_evryLetter 142 (fun a => decide (a.2.length ≤ 160)) (fun _ _ => rfl) (fun i a w' cs ha hB hR => i_fits hR) (tLetter.row.reach hL ?hB3) (by omega)).mono ?_
        case hB3 => exact bel_trans hB2 (belx)
        rintro e W3 ⟨rfl, hb3⟩
        rw [HE.out]
        have X3 := X2.below hb3 X2.size
        have hB3 : Bel w W3 := bel_trans hB2 hb3
        go_wp2_with fail
        refine hK.out _ _ ⟨X3.cell 0, X3.cell 1, X3.cell 2, X3.cell 3, X3.cell 4, X3.cell 5, X3.cell 6⟩ (fun hHeld => ?_)
        clear hK K
        (try simp only [Act.put, qa_, qb_, qc_])
        refine tkx 22 (some 25) ?_
        refine tkx 23 (some 26) ?_
        refine tkn 24 (some 27) ?_
        refine tkn 25 (some 28) ?_
        refine tkn 26 (some 29) ?_
        refine tkn 27 (some 30) ?_
        refine tkn 28 (some 31) ?_
        refine tkn 29 (some 32) ?_
        refine tkn 30 (some 33) ?_
        refine tkx 31 (some 34) ?_
        refine tkx 32 (some 2) ?_
        refine rex ?_ _
        go_wp2
        go_ret
        exact ⟨rfl, hB3⟩
       exact AllReadyH.nil
      exact AllReadyH.nil
     exact AllReadyH.nil
    exact AllReadyH.nil
   exact AllReadyH.nil
 have HE := Lib.hid (show (got.all fun a => decide (a.2.length ≤ 160)) = true from alDec g5)
 have HEQ := Lib.hid (show decide (sIds got = dk.2) = b from by
  by_cases g6 : (got.map fun l => l.1).Perm dk.2
  ·rw [HT.out ⟨h0, g2, g3, g4, g5, g6⟩]; exact decide_eq_true ((sorted_iff g4.2.2.1).2 g6)
  ·rw [HF.out (fun h => g6 h.2.2.2.2.2)]; exact decide_eq_false fun h => g6 ((sorted_iff g4.2.2.1).1 h))
 clear HT HF g2 g3 g4 g5
 as_aux_lemma =>
  go_enter Tryz.func102, Tryz.ntmps102
  go_wp2_with fail
  have X0 : Box (w.alloc (.cells #[.int .i64 x0, .int .i64 x1, .slice A2 n2 c2, .slice A3 n3 c3, .slice A4 n4 c4, .slice A5 n5 c5, .slice A6 n6 c6] 109)) w.heap.size 109 #[.int .i64 x0, .int .i64 x1, .slice A2 n2 c2, .slice A3 n3 c3, .slice A4 n4 c4, .slice A5 n5 c5, .slice A6 n6 c6] := Box.new _ _ _
  refine wp_region_held_drew (S := (fun w' => w'.cell? ⟨w.heap.size, 0, none⟩ = some (.int .i64 x0) ∧ w'.cell? ⟨w.heap.size, 1, none⟩ = some (.int .i64 x1) ∧ w'.cell? ⟨w.heap.size, 2, none⟩ = some (.slice A2 n2 c2) ∧ w'.cell? ⟨w.heap.size, 3, none⟩ = some (.slice A3 n3 c3) ∧ w'.cell? ⟨w.heap.size, 4, none⟩ = some (.slice A4 n4 c4) ∧ w'.cell? ⟨w.heap.size, 5, none⟩ = some (.slice A5 n5 c5) ∧ w'.cell? ⟨w.heap.size, 6, none⟩ = some (.slice A6 n6 c6))) (by kernel_rfl) (by exact ⟨X0.cell 0, X0.cell 1, X0.cell 2, X0.cell 3, X0.cell 4, X0.cell 5, X0.cell 6⟩) (fun hHeld => ?_)
  refine tkx 0 (some 3) ?_
  refine tkx 1 (some 4) ?_
  refine rdx [2] ?_
  refine rcx (fun K hK => ?_) ?_
  ·go_simp
   go_at_call 67
   refine (ih_isNode_t _ _ h0.1 h0.2).mono ?_
   rintro e wq ⟨rfl, rfl⟩
   go_wp2_with fail
   refine hK.out _ _ ⟨X0.cell 0, X0.cell 1, X0.cell 2, X0.cell 3, X0.cell 4, X0.cell 5, X0.cell 6⟩ (fun hHeld => ?_)
   clear hK K
   (try simp only [Act.put, qa_, qb_, qc_])
   refine tkx 3 (some 6) ?_
   refine tkx 4 (some 7) ?_
   refine tkx 5 (some 8) ?_
   refine rdx [6] ?_
   refine rcx (fun K hK => ?_) ?_
   ·go_simp
    go_at_call 138
    refine (i_sec_t _ _ HS.out).mono ?_
    rintro e wq ⟨rfl, rfl⟩
    go_wp2_with fail
    refine hK.out _ _ ⟨X0.cell 0, X0.cell 1, X0.cell 2, X0.cell 3, X0.cell 4, X0.cell 5, X0.cell 6⟩ (fun hHeld => ?_)
    clear hK K
    (try simp only [Act.put, qa_, qb_, qc_])
    refine tkx 7 (some 10) ?_
    refine tkx 8 (some 11) ?_
    refine tkx 9 (some 12) ?_
    refine tkx 10 (some 13) ?_
    refine rdx [11] ?_
    refine rcx (fun K hK => ?_) ?_
    ·go_simp
     go_at_call 139
     refine (i_PoolOk (tPool.reach hP ?hB1) hzP).mono ?_
     case hB1 => exact (belx)
     rintro e W1 ⟨rfl, hb1⟩
     rw [HPl.out]
     have X1 := Box.below (Box.drew X0) hb1 (Box.drew X0).size
     have hB1 : Bel w W1 := bel_trans (belx) hb1
     go_wp2_with fail
     refine hK.out _ _ ⟨X1.cell 0, X1.cell 1, X1.cell 2, X1.cell 3, X1.cell 4, X1.cell 5, X1.cell 6⟩ (fun hHeld => ?_)
     clear hK K
     (try simp only [Act.put, qa_, qb_, qc_])
     refine tkx 12 (some 15) ?_
     refine tkx 13 (some 16) ?_
     refine tkx 14 (some 17) ?_
     refine tkx 15 (some 18) ?_
     refine rdx [16] ?_
     refine rcx (fun K hK => ?_) ?_
     ·go_simp
      go_at_call 140
      refine (i_DeskOk (tDesk.reach hD ?hB2) hzD).mono ?_
      case hB2 => exact bel_trans hB1 (belx)
      rintro e W2 ⟨rfl, hb2⟩
      rw [HDk.out]
      have X2 := X1.below hb2 X1.size
      have hB2 : Bel w W2 := bel_trans hB1 hb2
      go_wp2_with fail
      refine hK.out _ _ ⟨X2.cell 0, X2.cell 1, X2.cell 2, X2.cell 3, X2.cell 4, X2.cell 5, X2.cell 6⟩ (fun hHeld => ?_)
      clear hK K
      (try simp only [Act.put, qa_, qb_, qc_])
      refine tkx 17 (some 20) ?_
      refine tkx 18 (some 21) ?_
      refine tkx 19 (some 22) ?_
      refine tkx 20 (some 23) ?_
      refine rdx [21] ?_
      refine rcx (fun K hK => ?_) ?_
      ·go_simp
       go_at_call 141
       refine (i_evryLetter 142 (fun a => decide (a.2.length ≤ 160)) (fun _ _ => rfl) (fun i a w' cs ha hB hR => i_fits hR) (tLetter.row.reach hL ?hB3) (by omega)).mono ?_
       case hB3 => exact bel_trans hB2 (belx)
       rintro e W3 ⟨rfl, hb3⟩
       rw [HE.out]
       have X3 := X2.below hb3 X2.size
       have hB3 : Bel w W3 := bel_trans hB2 hb3
       go_wp2_with fail
       refine hK.out _ _ ⟨X3.cell 0, X3.cell 1, X3.cell 2, X3.cell 3, X3.cell 4, X3.cell 5, X3.cell 6⟩ (fun hHeld => ?_)
       clear hK K
       (try simp only [Act.put, qa_, qb_, qc_])
       refine tkx 22 (some 25) ?_
       refine tkx 23 (some 26) ?_
       refine tkx 24 (some 27) ?_
       refine tkx 25 (some 28) ?_
       refine tkx 27 (some 30) ?_
       refine tkx 28 (some 31) ?_
       refine tkx 29 (some 32) ?_
       refine rdx [26] ?_
       refine rcx (fun K hK => ?_) ?_
       ·go_simp
        go_at_call 144
        refine (i_sortedIds (tLetter.row.reach hL ?hB4) (by omega)).mono ?_
        case hB4 => exact bel_trans hB3 (belx)
        rintro e W4 ⟨vI, rfl, hI, hb4⟩
        obtain ⟨AI, cI, rfl, _, hIi, _⟩ := hI.ints
        rw [HSL.out] at hIi
        rw [HSL.out]
        have X4 := X3.below hb4 X3.size
        have hB4 : Bel w W4 := bel_trans hB3 hb4
        go_wp2_with fail
        refine hK.out _ _ ⟨X4.cell 0, X4.cell 1, X4.cell 2, X4.cell 3, X4.cell 4, X4.cell 5, X4.cell 6⟩ (fun hHeld => ?_)
        clear hK K
        (try simp only [Act.put, qa_, qb_, qc_])
        refine rdx [30] ?_
        refine rcx (fun K hK => ?_) ?_
        ·go_simp
         go_at_call 143
         refine (i_EqualI hIi (hl5.below hB4) (by omega) (by omega)).mono ?_
         rintro e W5 ⟨rfl, hb5⟩
         rw [HEQ.out]
         have X5 := X4.below hb5 X4.size
         have hB5 : Bel w W5 := bel_trans hB4 hb5
         go_wp2_with fail
         refine hK.out _ _ ⟨X5.cell 0, X5.cell 1, X5.cell 2, X5.cell 3, X5.cell 4, X5.cell 5, X5.cell 6⟩ (fun hHeld => ?_)
         clear hK K
         (try simp only [Act.put, qa_, qb_, qc_])
         refine tkx 31 (some 34) ?_
         refine tkx 32 (some 2) ?_
         refine rex ?_ _
         go_wp2
         go_ret
         exact ⟨rfl, hB5⟩
        exact AllReadyH.nil
       exact AllReadyH.nil
      exact AllReadyH.nil
     exact AllReadyH.nil
    exact AllReadyH.nil
   exact AllReadyH.nil
  exact AllReadyH.nil
theorem i_NodeOk {w : World} {cs : List Value} {p : DNode} (h : tNode.R w w.heap.size cs p) (hz : szNode p ≤ 1048576) :
  Calls Tryz.prog 102 #[.agg cs.toArray] w fun e w' => e = .returned (.bool (decide (NdOk p))) ∧ Bel w w' := by
 obtain ⟨A2, n2, c2, A3, n3, c3, A4, n4, c4, A5, n5, c5, A6, n6, c6, rfl, -, -, hP, hD, hL⟩ := fopenNode h
 have h6 := (rowR_len hL).1
 have h7 := got_le (l := p.2.2.2.2)
 rw [h6] at h7
 unfold szNode at hz
 have z1 : szPool p.2.2.1 ≤ 1048576 := by omega
 have z2 : szDesk p.2.2.2.1 ≤ 1048576 := by omega
 exact i_NodeOkN _ (fun hh => decide_eq_true hh) (fun hh => decide_eq_false hh) hP hD hL z1 z2 (by omega)
end Go.Proofs.YtkdanlnhdgcplaaGreat
