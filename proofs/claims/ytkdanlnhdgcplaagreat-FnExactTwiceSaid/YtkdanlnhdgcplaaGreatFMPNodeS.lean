/-
  PNodeS: texts joined.
-/
import Derived.Test.YtkdanlnhdgcplaaGreatFGa
import Derived.Test.YtkdanlnhdgcplaaGreatFGb
import Derived.Test.YtkdanlnhdgcplaaGreatFGd
import Derived.Test.YtkdanlnhdgcplaaGreatFGf
import Derived.Test.YtkdanlnhdgcplaaGreatFMPDeskT
namespace Go.Proofs.YtkdanlnhdgcplaaGreat
set_option maxRecDepth 100000
set_option linter.unusedVariables false
set_option linter.unusedSimpArgs false
open Go.ChangeShapes Go.WideShapes Go.ChangeAt Go.RowKit
open Fld
theorem prod_two {α β : Type} {s : Ty α} {t : Ty β} {w : World} {B : Nat} {v0 v1 : Value} {p : α × β} (hs : s.k = 1) (h : (s.prod t).R w B [v0, v1] p) : s.R w B [v0] p.1 ∧ t.R w B [v1] p.2 := by
 obtain ⟨c1, c2, e, h1, h2⟩ := h
 have l1 := s.lenR h1
 rw [hs] at l1
 match c1, l1 with
 | [x], _ =>
  simp at e
  obtain ⟨rfl, rfl⟩ := e
  exact ⟨h1, h2⟩
theorem got_le {l : List DLetter} : l.length ≤ rsz szLetter l := rsz_le l
theorem noSec {x : Int} (h : ¬ Sec x) : NoSec x := h
theorem q_has4 {w : World} {B n c : Nat} {A : Option Addr} {l : List Int} {x : Int} (b : Bool) (hl : Ints .i64 w B A n l) (hn : n ≤ 17592186043904) (hx : decide (x ∈ l) = b) (m : Nat) :
  Calls Tryz.prog 95 #[.slice A n c, .int .i64 x] (w.drewN m) fun e w'' => e = .returned (.bool b) ∧ ∃ q, w'' = w.drewN q :=
 (s_has4 x (hl.drewN m) hn).mono fun e w'' h => ⟨by rw [h.1, hx], m, h.2.symm⟩
set_option maxHeartbeats 2000000 in
theorem s_NodeOkN {w : World} {x0 x1 : Int} {A2 A3 A4 A5 A6 : Option Addr} {n2 c2 n3 c3 n4 c4 n5 c5 n6 c6 : Nat} {pl : DPool} {dk : DDesk} {got : List DLetter} (b : Bool) (T : NdOk (x0, x1, pl, dk, got) → b = true) (F : ¬ NdOk (x0, x1, pl, dk, got) → b = false)
  (hP : tPool.R w w.heap.size [.slice A2 n2 c2, .slice A3 n3 c3] pl) (hD : tDesk.R w w.heap.size [.slice A4 n4 c4, .slice A5 n5 c5] dk) (hL : tLetter.row.R w w.heap.size [.slice A6 n6 c6] got) (hzP : szPool pl ≤ 1048576) (hzD : szDesk dk ≤ 1048576) (hn6 : n6 ≤ 1048576) :
  Calls Tryz.prog 50 #[.agg #[.int .i64 x0, .int .i64 x1, .slice A2 n2 c2, .slice A3 n3 c3, .slice A4 n4 c4, .slice A5 n5 c5, .slice A6 n6 c6]] w fun e w' => e = .returned (.bool b) ∧ Bel w w' := by
 have hl5 := (slR_ints (prod_two rfl hD).2).1
 have E5 := Lib.hid hl5.1
 have hn5 : n5 ≤ 1048576 := by have := hl5.1; unfold szDesk at hzD; omega
 have E6 := Lib.hid (rowR_len hL).1
 have HT := Lib.hid T
 have HF := Lib.hid F
 clear T F
 by_cases g0 : x0 < 0
 ·obtain rfl := HF.out (fun h => by have := h.1; dsimp only at this; omega)
  clear HT HF
  go_enter Tryz.func50, Tryz.ntmps50
  go_wp2
  go_ret
  exact ⟨rfl, (belx)⟩
 by_cases g1 : 8 ≤ x0
 ·obtain rfl := HF.out (fun h => by have := h.1; dsimp only at this; omega)
  clear HT HF
  go_enter Tryz.func50, Tryz.ntmps50
  go_wp2
  go_ret
  exact ⟨rfl, (belx)⟩
 by_cases g2 : Sec x1
 rotate_left
 ·obtain rfl := HF.out (fun h => g2 h.2.1)
  have HN := Lib.hid (noSec g2)
  clear HT HF g2
  go_enter Tryz.func50, Tryz.ntmps50
  go_wp2_with fail
  refine (s_sec_f _ _ HN.out).mono ?_
  rintro e w' ⟨rfl, rfl⟩
  go_wp2
  go_ret
  exact ⟨rfl, (belx)⟩
 have HS := Lib.hid g2
 by_cases g3 : PlOk pl
 rotate_left
 ·obtain rfl := HF.out (fun h => g3 h.2.2.1)
  have HPl := Lib.hid (decide_eq_false g3)
  clear HT HF g2 g3
  go_enter Tryz.func50, Tryz.ntmps50
  go_wp2_with fail
  refine (s_sec_t _ _ HS.out).mono ?_
  rintro e w' ⟨rfl, rfl⟩
  go_wp2_with fail
  refine (s_PoolOk (tPool.reach hP ?hB) hzP).mono ?_
  case hB => exact (belx)
  rintro e w1 ⟨rfl, hb1⟩
  rw [HPl.out]
  have X1 : Box w1 w.heap.size 109 #[.int .i64 x0, .int .i64 x1, .slice A2 n2 c2, .slice A3 n3 c3, .slice A4 n4 c4, .slice A5 n5 c5, .slice A6 n6 c6] := (Box.new _ _ _).below hb1 (by simp)
  have hB1 : Bel w w1 := bel_trans (belx) hb1
  have k0 := X1.cell 0
  have k1 := X1.cell 1
  have k2 := X1.cell 2
  have k3 := X1.cell 3
  have k4 := X1.cell 4
  have k5 := X1.cell 5
  have k6 := X1.cell 6
  go_wp2
  go_ret
  exact ⟨rfl, hB1⟩
 have HPl := Lib.hid (decide_eq_true g3)
 by_cases g4 : DkOk dk
 rotate_left
 ·obtain rfl := HF.out (fun h => g4 h.2.2.2.1)
  have HDk := Lib.hid (decide_eq_false g4)
  clear HT HF g2 g3 g4
  go_enter Tryz.func50, Tryz.ntmps50
  go_wp2_with fail
  refine (s_sec_t _ _ HS.out).mono ?_
  rintro e w' ⟨rfl, rfl⟩
  go_wp2_with fail
  refine (s_PoolOk (tPool.reach hP ?hB) hzP).mono ?_
  case hB => exact (belx)
  rintro e w1 ⟨rfl, hb1⟩
  rw [HPl.out]
  have X1 : Box w1 w.heap.size 109 #[.int .i64 x0, .int .i64 x1, .slice A2 n2 c2, .slice A3 n3 c3, .slice A4 n4 c4, .slice A5 n5 c5, .slice A6 n6 c6] := (Box.new _ _ _).below hb1 (by simp)
  have hB1 : Bel w w1 := bel_trans (belx) hb1
  have k0 := X1.cell 0
  have k1 := X1.cell 1
  have k2 := X1.cell 2
  have k3 := X1.cell 3
  have k4 := X1.cell 4
  have k5 := X1.cell 5
  have k6 := X1.cell 6
  go_wp2_with fail
  refine (s_DeskOk (tDesk.reach hD ?hB) hzD).mono ?_
  case hB => exact (belx)
  rintro e w2 ⟨rfl, hb2⟩
  rw [HDk.out]
  have X2 := X1.below hb2 X1.size
  have hB2 : Bel w w2 := bel_trans hB1 hb2
  clear k0 k1 k2 k3 k4 k5 k6
  have k0 := X2.cell 0
  have k1 := X2.cell 1
  have k2 := X2.cell 2
  have k3 := X2.cell 3
  have k4 := X2.cell 4
  have k5 := X2.cell 5
  have k6 := X2.cell 6
  go_wp2
  go_ret
  exact ⟨rfl, hB2⟩
 have HDk := Lib.hid (decide_eq_true g4)
 by_cases g5 : n6 = n5
 rotate_left
 ·obtain rfl := HF.out (fun h => by have := h.2.2.2.2.len; have := E5.out; have := E6.out; dsimp only at *; omega)
  have q5 : ((n6 : Int) != (n5 : Int)) = true := by simp; omega
  have q5' : (n6 != n5) = true := by simp; omega
  clear HT HF g2 g3 g4
  go_enter Tryz.func50, Tryz.ntmps50
  go_wp2_with fail
  refine (s_sec_t _ _ HS.out).mono ?_
  rintro e w' ⟨rfl, rfl⟩
  go_wp2_with fail
  refine (s_PoolOk (tPool.reach hP ?hB) hzP).mono ?_
  case hB => exact (belx)
  rintro e w1 ⟨rfl, hb1⟩
  rw [HPl.out]
  have X1 : Box w1 w.heap.size 109 #[.int .i64 x0, .int .i64 x1, .slice A2 n2 c2, .slice A3 n3 c3, .slice A4 n4 c4, .slice A5 n5 c5, .slice A6 n6 c6] := (Box.new _ _ _).below hb1 (by simp)
  have hB1 : Bel w w1 := bel_trans (belx) hb1
  have k0 := X1.cell 0
  have k1 := X1.cell 1
  have k2 := X1.cell 2
  have k3 := X1.cell 3
  have k4 := X1.cell 4
  have k5 := X1.cell 5
  have k6 := X1.cell 6
  go_wp2_with fail
  refine (s_DeskOk (tDesk.reach hD ?hB) hzD).mono ?_
  case hB => exact (belx)
  rintro e w2 ⟨rfl, hb2⟩
  rw [HDk.out]
  have X2 := X1.below hb2 X1.size
  have hB2 : Bel w w2 := bel_trans hB1 hb2
  clear k0 k1 k2 k3 k4 k5 k6
  have k0 := X2.cell 0
  have k1 := X2.cell 1
  have k2 := X2.cell 2
  have k3 := X2.cell 3
  have k4 := X2.cell 4
  have k5 := X2.cell 5
  have k6 := X2.cell 6
  go_wp2
  go_ret
  exact ⟨rfl, hB2⟩
 have q5 : ((n6 : Int) != (n5 : Int)) = false := by simp; omega
 have E56 := Lib.hid g5
 have HH := Lib.hid (show ∀ k, got.length ≤ k → LtK got dk.2 k → b = true from fun k hk hh => HT.out ⟨⟨by dsimp only; omega, by dsimp only; omega⟩, g2, g3, g4, hh.done hk (by rw [E5.out, E6.out, E56.out])⟩)
 have HA := Lib.hid (show ∀ a ∈ got, a.1 ∉ dk.2 → b = false from fun a ha hn => HF.out fun h => hn (h.2.2.2.2.has ha))
 have HB := Lib.hid (show ∀ a ∈ got, ¬ a.2.length ≤ 160 → b = false from fun a ha hn => HF.out fun h => hn (h.2.2.2.2.1 a ha))
 have HC := Lib.hid (show ∀ k i a c, k < i → got[i]? = some a → got[k]? = some c → c.1 = a.1 → b = false from fun k i a c h1 h2 h3 h4 => HF.out fun h => nd_ne (h.2.2.2.2.nodup g4.2.2.1) h1 h2 h3 h4)
 clear HT HF g2 g3 g4 g5
 go_enter Tryz.func50, Tryz.ntmps50
 go_wp2_with fail
 refine (s_sec_t _ _ HS.out).mono ?_
 rintro e w' ⟨rfl, rfl⟩
 go_wp2_with fail
 refine (s_PoolOk (tPool.reach hP ?hB) hzP).mono ?_
 case hB => exact (belx)
 rintro e w1 ⟨rfl, hb1⟩
 rw [HPl.out]
 have X1 : Box w1 w.heap.size 109 #[.int .i64 x0, .int .i64 x1, .slice A2 n2 c2, .slice A3 n3 c3, .slice A4 n4 c4, .slice A5 n5 c5, .slice A6 n6 c6] := (Box.new _ _ _).below hb1 (by simp)
 have hB1 : Bel w w1 := bel_trans (belx) hb1
 have k0 := X1.cell 0
 have k1 := X1.cell 1
 have k2 := X1.cell 2
 have k3 := X1.cell 3
 have k4 := X1.cell 4
 have k5 := X1.cell 5
 have k6 := X1.cell 6
 go_wp2_with fail
 refine (s_DeskOk (tDesk.reach hD ?hB) hzD).mono ?_
 case hB => exact (belx)
 rintro e w2 ⟨rfl, hb2⟩
 rw [HDk.out]
 have X2 := X1.below hb2 X1.size
 have hB2 : Bel w w2 := bel_trans hB1 hb2
 clear k0 k1 k2 k3 k4 k5 k6
 have k0 := X2.cell 0
 have k1 := X2.cell 1
 have k2 := X2.cell 2
 have k3 := X2.cell 3
 have k4 := X2.cell 4
 have k5 := X2.cell 5
 have k6 := X2.cell 6
 go_wp2_with fail
 go_loopw [3] (fun i wr => ∃ j : Nat, j ≤ n6 ∧ i = .int .i64 j ∧ Bel w wr ∧ Box wr w.heap.size 109 #[.int .i64 x0, .int .i64 x1, .slice A2 n2 c2, .slice A3 n3 c3, .slice A4 n4 c4, .slice A5 n5 c5, .slice A6 n6 c6] ∧ LtK got dk.2 j) (fun i _ => n6 - (RowKit.intOf i).toNat)
 case atStart => exact ⟨0, by omega, rfl, hB2, X2, LtK.zero⟩
 case round =>
  clear k0 k1 k2 k3 k4 k5 k6 X1 X2 hb1 hb2 hB1 hB2
  obtain ⟨j, hj, rfl, hB, hX, hG⟩ := hrel
  have HG := Lib.hid hG
  clear hG
  have k5 := hX.cell 5
  have k6 := hX.cell 6
  by_cases hlt : j < n6
  ·obtain ⟨a, b', off, es, hl2, rfl, hb, hes, hR⟩ := rowR_at (K := 2) hL hlt rfl
   have HAT := Lib.hid hl2
   obtain ⟨A7, n7, c7, rfl, -, -, -, hl7, -⟩ := openLetter hR
   have e0 : wr.cell? ⟨b', off + j * 2, none⟩ = some (.int .i64 a.1) := cell_at hB hb (hes 0 (by omega))
   have e1 : wr.cell? ⟨b', off + j * 2 + 1, none⟩ = some (.slice A7 n7 c7) := cell_at hB hb (hes 1 (by omega))
   have E7 := Lib.hid hl7
   have hl5r := hl5.below hB
   have i1 : (j : Int) < (n6 : Int) := by omega
   have i2 : (0 : Int) ≤ (j : Int) := by omega
   have hes0 := hes 0 (by omega)
   clear hes hR hl2 hl7
   by_cases h1 : a.1 ∈ dk.2
   rotate_left
   ·obtain rfl := HA.out a (alMem HAT.out) h1
    have HM := Lib.hid (decide_eq_false h1)
    clear h1
    go_wp2_with fail
    go_quiet ((go_at_call 95; exact q_has4 false hl5r (by omega) HM.out _))
    go_wp2
    go_ret
    exact ⟨rfl, (belx)⟩
   have HM := Lib.hid (decide_eq_true h1)
   have H1 := Lib.hid h1
   clear h1
   by_cases h2 : n7 ≤ 160
   rotate_left
   ·obtain rfl := HB.out a (alMem HAT.out) (by rw [E7.out]; exact h2)
    have q2 : (160 : Int) < (n7 : Int) := by omega
    go_wp2_with fail
    go_quiet ((go_at_call 95; exact q_has4 true hl5r (by omega) HM.out _))
    go_wp2
    go_ret
    exact ⟨rfl, (belx)⟩
   have q2 : ¬ (160 : Int) < (n7 : Int) := by omega
   go_wp2_with fail
   go_quiet ((go_at_call 95; exact q_has4 true hl5r (by omega) HM.out _))
   go_wp2_with fail
   have hBx := hB
   have hXx := hX
   go_loopw [4] (fun i wr => ∃ q : Nat, q ≤ j ∧ i = .int .i64 q ∧ Bel w wr ∧ Box wr w.heap.size 109 #[.int .i64 x0, .int .i64 x1, .slice A2 n2 c2, .slice A3 n3 c3, .slice A4 n4 c4, .slice A5 n5 c5, .slice (some ⟨b', off, none⟩) n6 c6] ∧ ∀ c ∈ got.take q, c.1 ≠ a.1) (fun i _ => j - (RowKit.intOf i).toNat)
   case atStart => exact ⟨0, by omega, rfl, (belx), hX.same rfl, al0⟩
   case round =>
    clear k5 k6 hBx hXx e0 e1 hl5r hB hX
    obtain ⟨q, hq, rfl, hB, hX, hN⟩ := hrel
    have HN := Lib.hid hN
    clear hN
    have k6 := hX.cell 6
    by_cases hq2 : q < j
    ·obtain ⟨a2, b2, off2, es2, hl3, he2, hb2, hes2, hR2⟩ := rowR_at (K := 2) hL (show q < n6 by omega) rfl
     injection he2 with he2
     injection he2 with he2 he3 _
     subst he2 he3
     have HAQ := Lib.hid hl3
     obtain ⟨A8, n8, c8, rfl, -, -, -, -, -⟩ := openLetter hR2
     have u0 : wr.cell? ⟨b', off + q * 2, none⟩ = some (.int .i64 a2.1) := cell_at hB hb2 (hes2 0 (by omega))
     have u1 : wr.cell? ⟨b', off + j * 2, none⟩ = some (.int .i64 a.1) := cell_at hB hb hes0
     clear hes2 hR2 hl3
     have j1 : (q : Int) < (n6 : Int) := by omega
     have j2 : (0 : Int) ≤ (q : Int) := by omega
     by_cases he : a2.1 = a.1
     ·obtain rfl := HC.out q j a a2 hq2 HAT.out HAQ.out he
      have q3 : (a2.1 == a.1) = true := by simp [he]
      clear he
      go_wp2_with fail
      go_quiet (fail)
      go_wp2
      go_ret
      exact ⟨rfl, below_drewN hB _⟩
     ·have q3 : (a2.1 == a.1) = false := by simp [he]
      have HNE := Lib.hid he
      clear he
      go_wp2_with fail
      go_quiet (fail)
      go_wp2
      go_roundw
      case rel => exact ⟨q + 1, by omega, by go_num, below_drewN hB _, hX.drewN _, alS HN.out HAQ.out HNE.out⟩
      case measure => simp [RowKit.intOf]; omega
    ·obtain rfl : q = j := by omega
     go_wp2
     go_roundw
     case rel => exact ⟨q + 1, by omega, by go_num, hB, hX, LtK.succ HG.out HAT.out H1.out (by rw [E7.out]; exact h2) HN.out⟩
     case measure => simp [RowKit.intOf]; omega
  ·obtain rfl : n6 = j := by omega
   obtain rfl := HH.out n6 (by rw [E6.out]; exact Nat.le_refl _) HG.out
   go_wp2
   go_ret
   exact ⟨rfl, hB⟩
theorem s_NodeOk {w : World} {cs : List Value} {p : DNode} (h : tNode.R w w.heap.size cs p) (hz : szNode p ≤ 1048576) :
  Calls Tryz.prog 50 #[.agg cs.toArray] w fun e w' => e = .returned (.bool (decide (NdOk p))) ∧ Bel w w' := by
 obtain ⟨A2, n2, c2, A3, n3, c3, A4, n4, c4, A5, n5, c5, A6, n6, c6, rfl, -, -, hP, hD, hL⟩ := fopenNode h
 have h6 := (rowR_len hL).1
 have h7 := got_le (l := p.2.2.2.2)
 rw [h6] at h7
 unfold szNode at hz
 have z1 : szPool p.2.2.1 ≤ 1048576 := by omega
 have z2 : szDesk p.2.2.2.1 ≤ 1048576 := by omega
 exact s_NodeOkN _ (fun hh => decide_eq_true hh) (fun hh => decide_eq_false hh) hP hD hL z1 z2 (by omega)
end Go.Proofs.YtkdanlnhdgcplaaGreat
