/-
  CpN: texts joined.
-/
import Derived.Test.YtkdanlnhdgcplaaGreatFGa
import Derived.Test.YtkdanlnhdgcplaaGreatFGe
import Derived.Test.YtkdanlnhdgcplaaGreatFMShs
import Derived.Test.YtkdanlnhdgcplaaGreatFX1
import Derived.Deep.Cut
import Derived.Deep.CutRange
import Derived.Deep.DeepCutAuto
namespace Go.Proofs.YtkdanlnhdgcplaaGreat
set_option maxRecDepth 100000
set_option linter.unusedVariables false
set_option linter.unusedSimpArgs false
open Go.ChangeShapes Go.WideShapes Go.ChangeAt Go.RowKit
open Fld
set_option maxHeartbeats 2000000 in
theorem s_NodeOwn {w : World} {cs : List Value} {p : DNode} (h : tNode.R w w.heap.size cs p) (hz : szNode p ≤ 1048576) :
  Calls Tryz.prog 53 #[.agg cs.toArray] w fun e w' => ∃ cs' F, e = .returned (.agg cs'.toArray) ∧ tNode.O w' cs' p F ∧ New w.heap.size F ∧ Bel w w' := by
 obtain ⟨ib, hi0, hz0, hz1, hz2⟩ := info_parts info_cb
 obtain ⟨i6i, hj06, hj16, hj26, hj36⟩ := info_parts info_Letter
 obtain ⟨A2, n2, c2, A3, n3, c3, A4, n4, c4, A5, n5, c5, A6, n6, c6, rfl, i0, i1, r2, r4, r6⟩ := fopenNode h
 have n6le : n6 ≤ 1048576 := by have := rsz_le (s := szLetter) (p.2.2.2.2); have := (rowR_len r6).1; unfold szNode at hz; omega
 have HL6 := Lib.hid (rowR_len r6).1
 have HSZ6 := Lib.hid (show ∀ (i : Nat) (a : DLetter), (p.2.2.2.2)[i]? = some a → szLetter a ≤ 1048576 from fun i a ha => by have := rsz_step (s := szLetter) ha; unfold szNode at hz; omega)
 have hzP : szPool p.2.2.1 ≤ 1048576 := by unfold szNode at hz; omega
 have hzK : szDesk p.2.2.2.1 ≤ 1048576 := by unfold szNode at hz; omega
 have PW : Box ((w.alloc (.cells #[.int .i64 p.1, .int .i64 p.2.1, .slice A2 n2 c2, .slice A3 n3 c3, .slice A4 n4 c4, .slice A5 n5 c5, .slice A6 n6 c6] 109)).alloc (.cells #[.int .i64 0, .int .i64 0, .slice none 0 0, .slice none 0 0, .slice none 0 0, .slice none 0 0, .slice none 0 0] 109)) w.heap.size 109 #[.int .i64 p.1, .int .i64 p.2.1, .slice A2 n2 c2, .slice A3 n3 c3, .slice A4 n4 c4, .slice A5 n5 c5, .slice A6 n6 c6] := (Box.new w _ _).alloc _
 have RW : Box ((w.alloc (.cells #[.int .i64 p.1, .int .i64 p.2.1, .slice A2 n2 c2, .slice A3 n3 c3, .slice A4 n4 c4, .slice A5 n5 c5, .slice A6 n6 c6] 109)).alloc (.cells #[.int .i64 0, .int .i64 0, .slice none 0 0, .slice none 0 0, .slice none 0 0, .slice none 0 0, .slice none 0 0] 109)) (w.heap.size + 1) 109 #[.int .i64 0, .int .i64 0, .slice none 0 0, .slice none 0 0, .slice none 0 0, .slice none 0 0, .slice none 0 0] := by simpa using Box.new (w.alloc (.cells #[.int .i64 p.1, .int .i64 p.2.1, .slice A2 n2 c2, .slice A3 n3 c3, .slice A4 n4 c4, .slice A5 n5 c5, .slice A6 n6 c6] 109)) 109 #[.int .i64 0, .int .i64 0, .slice none 0 0, .slice none 0 0, .slice none 0 0, .slice none 0 0, .slice none 0 0]
 have PWa := PW.alloc (.cells #[.int .i64 0, .int .i64 0, .slice none 0 0, .slice none 0 0, .slice none 0 0, .slice none 0 0, .slice none 0 0] 109)
 have RWa := RW.alloc (.cells #[.int .i64 0, .int .i64 0, .slice none 0 0, .slice none 0 0, .slice none 0 0, .slice none 0 0, .slice none 0 0] 109)
 have OWa : Box (((w.alloc (.cells #[.int .i64 p.1, .int .i64 p.2.1, .slice A2 n2 c2, .slice A3 n3 c3, .slice A4 n4 c4, .slice A5 n5 c5, .slice A6 n6 c6] 109)).alloc (.cells #[.int .i64 0, .int .i64 0, .slice none 0 0, .slice none 0 0, .slice none 0 0, .slice none 0 0, .slice none 0 0] 109)).alloc (.cells #[.int .i64 0, .int .i64 0, .slice none 0 0, .slice none 0 0, .slice none 0 0, .slice none 0 0, .slice none 0 0] 109)) (w.heap.size + 1 + 1) 109 #[.int .i64 0, .int .i64 0, .slice none 0 0, .slice none 0 0, .slice none 0 0, .slice none 0 0, .slice none 0 0] := by simpa using Box.new ((w.alloc (.cells #[.int .i64 p.1, .int .i64 p.2.1, .slice A2 n2 c2, .slice A3 n3 c3, .slice A4 n4 c4, .slice A5 n5 c5, .slice A6 n6 c6] 109)).alloc (.cells #[.int .i64 0, .int .i64 0, .slice none 0 0, .slice none 0 0, .slice none 0 0, .slice none 0 0, .slice none 0 0] 109)) 109 #[.int .i64 0, .int .i64 0, .slice none 0 0, .slice none 0 0, .slice none 0 0, .slice none 0 0, .slice none 0 0]
 have kw0 := PW.cell 0
 have kw1 := PW.cell 1
 have kw2 := PW.cell 2
 have kw3 := PW.cell 3
 have kw4 := PW.cell 4
 have kw5 := PW.cell 5
 have kw6 := PW.cell 6
 go_enter Tryz.func53, Tryz.ntmps53
 go_wp2_with fail
 go_cut [3] (fun t3 wx => ∃ (ob : Nat) (B2 : Option Addr) (e2 : Nat) (B3 : Option Addr) (e3 : Nat) (B4 : Option Addr) (e4 : Nat) (B5 : Option Addr) (e5 : Nat) (G2 G4 : List Nat), t3 = .pointer (some ⟨ob, 0, none⟩) ∧ Box wx w.heap.size 109 #[.int .i64 p.1, .int .i64 p.2.1, .slice A2 n2 c2, .slice A3 n3 c3, .slice A4 n4 c4, .slice A5 n5 c5, .slice A6 n6 c6] ∧ Box wx (w.heap.size + 1) 109 #[.int .i64 0, .int .i64 0, .slice none 0 0, .slice none 0 0, .slice none 0 0, .slice none 0 0, .slice none 0 0] ∧ Box wx ob 109 #[.int .i64 p.1, .int .i64 p.2.1, .slice B2 p.2.2.1.1.length e2, .slice B3 p.2.2.1.2.length e3, .slice B4 p.2.2.2.1.1.length e4, .slice B5 p.2.2.2.1.2.length e5, .slice none 0 0] ∧ tPool.O wx [.slice B2 p.2.2.1.1.length e2, .slice B3 p.2.2.1.2.length e3] p.2.2.1 G2 ∧ tDesk.O wx [.slice B4 p.2.2.2.1.1.length e4, .slice B5 p.2.2.2.1.2.length e5] p.2.2.2.1 G4 ∧ New (w.heap.size + 2) (G2 ++ G4) ∧ ob ∉ G2 ∧ ob ∉ G4 ∧ w.heap.size + 2 ≤ ob ∧ Bel w wx)
 case first =>
  refine wp_region_held_drew (S := (fun w' => w'.cell? ⟨w.heap.size, 0, none⟩ = some (.int .i64 p.1) ∧ w'.cell? ⟨w.heap.size, 1, none⟩ = some (.int .i64 p.2.1) ∧ w'.cell? ⟨w.heap.size, 2, none⟩ = some (.slice A2 n2 c2) ∧ w'.cell? ⟨w.heap.size, 3, none⟩ = some (.slice A3 n3 c3) ∧ w'.cell? ⟨w.heap.size, 4, none⟩ = some (.slice A4 n4 c4) ∧ w'.cell? ⟨w.heap.size, 5, none⟩ = some (.slice A5 n5 c5))) (by kernel_rfl) (by exact ⟨(PW).cell 0, (PW).cell 1, (PW).cell 2, (PW).cell 3, (PW).cell 4, (PW).cell 5⟩) (fun hHeld => ?_)
  refine tkx 0 (some 5) ?_
  refine tkx 1 (some 6) ?_
  refine tkx 2 (some 7) ?_
  refine tkx 3 (some 8) ?_
  refine tkx 4 (some 9) ?_
  refine tkx 5 (some 10) ?_
  refine tkx 7 (some 12) ?_
  refine tkx 8 (some 13) ?_
  refine rdx [6, 11] ?_
  refine rcx (fun K hK => ?_) ?_
  ·go_simp
   go_at_call 96
   refine (s_own5P (tPool.reach r2 (belx)) hzP).mono ?_
   rintro e w1 ⟨cs1, G2, rfl, hO1, hN1, hb1⟩
   have hK1 := hO1
   obtain ⟨B2, e2, Y2, B3, e3, Y3, rfl, -, -, -, -, -, -, -⟩ := openOPool hO1
   clear hO1
   have P1 : Box w1 w.heap.size 109 #[.int .i64 p.1, .int .i64 p.2.1, .slice A2 n2 c2, .slice A3 n3 c3, .slice A4 n4 c4, .slice A5 n5 c5, .slice A6 n6 c6] := Box.below (Box.drew PW) hb1 (Box.drew PW).size
   have R1 : Box w1 (w.heap.size + 1) 109 #[.int .i64 0, .int .i64 0, .slice none 0 0, .slice none 0 0, .slice none 0 0, .slice none 0 0, .slice none 0 0] := Box.below (Box.drew RW) hb1 (Box.drew RW).size
   have hB1 : Bel w w1 := bel_trans (show Bel w (((w.alloc (.cells #[.int .i64 p.1, .int .i64 p.2.1, .slice A2 n2 c2, .slice A3 n3 c3, .slice A4 n4 c4, .slice A5 n5 c5, .slice A6 n6 c6] 109)).alloc (.cells #[.int .i64 0, .int .i64 0, .slice none 0 0, .slice none 0 0, .slice none 0 0, .slice none 0 0, .slice none 0 0] 109)).drew) from (belx)) hb1
   have z1 : w.heap.size + 2 ≤ w1.heap.size := Nat.le_trans ley hb1.size
   have hM1 : New (w.heap.size + 2) G2 := hN1.lower ley
   have l1 := tPool.lt hK1
   have x10 := P1.cell 0
   have x11 := P1.cell 1
   have x12 := P1.cell 2
   have x13 := P1.cell 3
   have x14 := P1.cell 4
   have x15 := P1.cell 5
   have x16 := P1.cell 6
   go_wp2_with fail
   refine hK.out _ _ ⟨(P1).cell 0, (P1).cell 1, (P1).cell 2, (P1).cell 3, (P1).cell 4, (P1).cell 5⟩ (fun hHeld => ?_)
   clear hK K
   (try simp only [Act.put, qa_, qb_, qc_])
   refine rdx [9, 11] ?_
   refine rcx (fun K hK => ?_) ?_
   ·go_simp
    go_at_call 97
    refine (s_DeskOwn (tDesk.reach r4 (bel_trans hB1 (belx))) hzK).mono ?_
    rintro e w2 ⟨cs2, G4, rfl, hO2, hN2, hb2⟩
    have hK2 := hO2
    obtain ⟨B4, e4, Y4, B5, e5, Y5, rfl, -, -, -, -, -, -, -⟩ := openODesk hO2
    clear hO2
    have hs2 : Bel w1 w2 := bel_trans (show Bel w1 w1 from (belx)) hb2
    have P2 := P1.below hs2 P1.size
    have R2 := R1.below hs2 R1.size
    have hB2 : Bel w w2 := bel_trans hB1 hs2
    have z2 : w1.heap.size + 0 ≤ w2.heap.size := Nat.le_trans ley hb2.size
    have hM2 : New (w1.heap.size + 0) G4 := hN2.lower ley
    have l2 := tDesk.lt hK2
    have hK1b := Ty.below (t := tPool) hK1 hs2
    have x20 := P2.cell 0
    have x21 := P2.cell 1
    have x22 := P2.cell 2
    have x23 := P2.cell 3
    have x24 := P2.cell 4
    have x25 := P2.cell 5
    have x26 := P2.cell 6
    have no1 : w2.heap.size ∉ G2 := fun hx => by have h2 := l1 _ hx; omega
    have no2 : w2.heap.size ∉ G4 := fun hx => by have h1 := l2 _ hx; omega
    have PZ := P2.alloc (.cells #[.int .i64 p.1, .int .i64 p.2.1, .slice B2 p.2.2.1.1.length e2, .slice B3 p.2.2.1.2.length e3, .slice B4 p.2.2.2.1.1.length e4, .slice B5 p.2.2.2.1.2.length e5, .slice none 0 0] 109)
    have RZ := R2.alloc (.cells #[.int .i64 p.1, .int .i64 p.2.1, .slice B2 p.2.2.1.1.length e2, .slice B3 p.2.2.1.2.length e3, .slice B4 p.2.2.2.1.1.length e4, .slice B5 p.2.2.2.1.2.length e5, .slice none 0 0] 109)
    have OZ := Box.new w2 109 #[.int .i64 p.1, .int .i64 p.2.1, .slice B2 p.2.2.1.1.length e2, .slice B3 p.2.2.1.2.length e3, .slice B4 p.2.2.2.1.1.length e4, .slice B5 p.2.2.2.1.2.length e5, .slice none 0 0]
    have q1 := Ty.below (t := tPool) hK1b (show Bel w2 (w2.alloc (.cells #[.int .i64 p.1, .int .i64 p.2.1, .slice B2 p.2.2.1.1.length e2, .slice B3 p.2.2.1.2.length e3, .slice B4 p.2.2.2.1.1.length e4, .slice B5 p.2.2.2.1.2.length e5, .slice none 0 0] 109)) from (belx))
    have q2 := Ty.below (t := tDesk) hK2 (show Bel w2 (w2.alloc (.cells #[.int .i64 p.1, .int .i64 p.2.1, .slice B2 p.2.2.1.1.length e2, .slice B3 p.2.2.1.2.length e3, .slice B4 p.2.2.2.1.1.length e4, .slice B5 p.2.2.2.1.2.length e5, .slice none 0 0] 109)) from (belx))
    have BZ := bel_alloc hB2 (.cells #[.int .i64 p.1, .int .i64 p.2.1, .slice B2 p.2.2.1.1.length e2, .slice B3 p.2.2.1.2.length e3, .slice B4 p.2.2.2.1.1.length e4, .slice B5 p.2.2.2.1.2.length e5, .slice none 0 0] 109)
    go_wp2_with fail
    refine hK.out _ _ ⟨(P2).cell 0, (P2).cell 1, (P2).cell 2, (P2).cell 3, (P2).cell 4, (P2).cell 5⟩ (fun hHeld => ?_)
    clear hK K
    (try simp only [Act.put, qa_, qb_, qc_])
    refine tkx 10 (some 15) ?_
    refine rdx [11] ?_
    refine rcx (fun K hK => ?_) ?_
    ·go_simp
     refine hK.out _ _ ⟨(P2.alloc _).cell 0, (P2.alloc _).cell 1, (P2.alloc _).cell 2, (P2.alloc _).cell 3, (P2.alloc _).cell 4, (P2.alloc _).cell 5⟩ (fun hHeld => ?_)
     clear hK K
     (try simp only [Act.put, qa_, qb_, qc_])
     refine rdx [12] ?_
     refine rcx (fun K hK => ?_) ?_
     ·go_simp
      refine hK.out _ _ ⟨(PZ).cell 0, (PZ).cell 1, (PZ).cell 2, (PZ).cell 3, (PZ).cell 4, (PZ).cell 5⟩ (fun hHeld => ?_)
      clear hK K
      (try simp only [Act.put, qa_, qb_, qc_])
      refine rex ?_ _
      go_wp2_with fail
      go_meet
      exact ⟨_, _, _, _, _, _, _, _, _, _, _, rfl, PZ, RZ, by first | exact OZ | simpa using OZ, q1, q2, New.app (B' := w1.heap.size) (hM1.lower (by omega)) (hM2.lower (by omega)) (by omega) (fun f hf => l1 f hf), no1, no2, by omega, BZ⟩
     exact AllReadyH.nil
    exact AllReadyH.nil
   refine rcx (fun K hK => ?_) ?_
   ·go_simp
    refine hK.out _ _ ⟨(P1.alloc _).cell 0, (P1.alloc _).cell 1, (P1.alloc _).cell 2, (P1.alloc _).cell 3, (P1.alloc _).cell 4, (P1.alloc _).cell 5⟩ (fun hHeld => ?_)
    clear hK K
    (try simp only [Act.put, qa_, qb_, qc_])
    refine rdx [9] ?_
    refine rcx (fun K hK => ?_) ?_
    ·go_simp
     go_at_call 97
     refine (s_DeskOwn (tDesk.reach r4 (bel_trans hB1 (belx))) hzK).mono ?_
     rintro e w2 ⟨cs2, G4, rfl, hO2, hN2, hb2⟩
     have hK2 := hO2
     obtain ⟨B4, e4, Y4, B5, e5, Y5, rfl, -, -, -, -, -, -, -⟩ := openODesk hO2
     clear hO2
     have hs2 : Bel w1 w2 := bel_trans (show Bel w1 (w1.alloc (.cells #[.int .i64 0, .int .i64 0, .slice none 0 0, .slice none 0 0, .slice none 0 0, .slice none 0 0, .slice none 0 0] 109)) from (belx)) hb2
     have P2 := P1.below hs2 P1.size
     have R2 := R1.below hs2 R1.size
     have hB2 : Bel w w2 := bel_trans hB1 hs2
     have z2 : w1.heap.size + 1 ≤ w2.heap.size := Nat.le_trans ley hb2.size
     have hM2 : New (w1.heap.size + 1) G4 := hN2.lower ley
     have l2 := tDesk.lt hK2
     have hK1b := Ty.below (t := tPool) hK1 hs2
     have O2 : Box w2 w1.heap.size 109 #[.int .i64 0, .int .i64 0, .slice none 0 0, .slice none 0 0, .slice none 0 0, .slice none 0 0, .slice none 0 0] := Box.below (Box.new w1 _ _) hb2 ley
     have x20 := P2.cell 0
     have x21 := P2.cell 1
     have x22 := P2.cell 2
     have x23 := P2.cell 3
     have x24 := P2.cell 4
     have x25 := P2.cell 5
     have x26 := P2.cell 6
     have oo0 := O2.cell 0
     have oo1 := O2.cell 1
     have oo2 := O2.cell 2
     have oo3 := O2.cell 3
     have oo4 := O2.cell 4
     have oo5 := O2.cell 5
     have oo6 := O2.cell 6
     have of0 := O2.frozen 0
     have of1 := O2.frozen 1
     have of2 := O2.frozen 2
     have of3 := O2.frozen 3
     have of4 := O2.frozen 4
     have of5 := O2.frozen 5
     have of6 := O2.frozen 6
     have no1 : w1.heap.size ∉ G2 := fun hx => by have h1 := hM1.2 _ hx; have h2 := l1 _ hx; omega
     have no2 : w1.heap.size ∉ G4 := fun hx => by have h1 := hM2.2 _ hx; omega
     have PZ := (((((((P2.far (p := ⟨w1.heap.size, 0, none⟩) fsz (.int .i64 p.1)).far (p := ⟨w1.heap.size, 1, none⟩) fsz (.int .i64 p.2.1)).far (p := ⟨w1.heap.size, 2, none⟩) fsz (.slice B2 p.2.2.1.1.length e2)).far (p := ⟨w1.heap.size, 3, none⟩) fsz (.slice B3 p.2.2.1.2.length e3)).far (p := ⟨w1.heap.size, 4, none⟩) fsz (.slice B4 p.2.2.2.1.1.length e4)).far (p := ⟨w1.heap.size, 5, none⟩) fsz (.slice B5 p.2.2.2.1.2.length e5)).far (p := ⟨w1.heap.size, 6, none⟩) fsz (.slice none 0 0))
     have RZ := (((((((R2.far (p := ⟨w1.heap.size, 0, none⟩) fsz (.int .i64 p.1)).far (p := ⟨w1.heap.size, 1, none⟩) fsz (.int .i64 p.2.1)).far (p := ⟨w1.heap.size, 2, none⟩) fsz (.slice B2 p.2.2.1.1.length e2)).far (p := ⟨w1.heap.size, 3, none⟩) fsz (.slice B3 p.2.2.1.2.length e3)).far (p := ⟨w1.heap.size, 4, none⟩) fsz (.slice B4 p.2.2.2.1.1.length e4)).far (p := ⟨w1.heap.size, 5, none⟩) fsz (.slice B5 p.2.2.2.1.2.length e5)).far (p := ⟨w1.heap.size, 6, none⟩) fsz (.slice none 0 0))
     have OZ := (((((((O2.put 0 (.int .i64 p.1)).put 1 (.int .i64 p.2.1)).put 2 (.slice B2 p.2.2.1.1.length e2)).put 3 (.slice B3 p.2.2.1.2.length e3)).put 4 (.slice B4 p.2.2.2.1.1.length e4)).put 5 (.slice B5 p.2.2.2.1.2.length e5)).put 6 (.slice none 0 0))
     have q1 := (Ty.far3 (t := tPool) (Ty.far3 (t := tPool) (Ty.far3 (t := tPool) (Ty.far3 (t := tPool) (Ty.far3 (t := tPool) (Ty.far3 (t := tPool) (Ty.far3 (t := tPool) hK1b (p := ⟨w1.heap.size, 0, none⟩) no1 (.int .i64 p.1)) (p := ⟨w1.heap.size, 1, none⟩) no1 (.int .i64 p.2.1)) (p := ⟨w1.heap.size, 2, none⟩) no1 (.slice B2 p.2.2.1.1.length e2)) (p := ⟨w1.heap.size, 3, none⟩) no1 (.slice B3 p.2.2.1.2.length e3)) (p := ⟨w1.heap.size, 4, none⟩) no1 (.slice B4 p.2.2.2.1.1.length e4)) (p := ⟨w1.heap.size, 5, none⟩) no1 (.slice B5 p.2.2.2.1.2.length e5)) (p := ⟨w1.heap.size, 6, none⟩) no1 (.slice none 0 0))
     have q2 := (Ty.far3 (t := tDesk) (Ty.far3 (t := tDesk) (Ty.far3 (t := tDesk) (Ty.far3 (t := tDesk) (Ty.far3 (t := tDesk) (Ty.far3 (t := tDesk) (Ty.far3 (t := tDesk) hK2 (p := ⟨w1.heap.size, 0, none⟩) no2 (.int .i64 p.1)) (p := ⟨w1.heap.size, 1, none⟩) no2 (.int .i64 p.2.1)) (p := ⟨w1.heap.size, 2, none⟩) no2 (.slice B2 p.2.2.1.1.length e2)) (p := ⟨w1.heap.size, 3, none⟩) no2 (.slice B3 p.2.2.1.2.length e3)) (p := ⟨w1.heap.size, 4, none⟩) no2 (.slice B4 p.2.2.2.1.1.length e4)) (p := ⟨w1.heap.size, 5, none⟩) no2 (.slice B5 p.2.2.2.1.2.length e5)) (p := ⟨w1.heap.size, 6, none⟩) no2 (.slice none 0 0))
     have BZ := (bel_put (bel_put (bel_put (bel_put (bel_put (bel_put (bel_put hB2 (p := ⟨w1.heap.size, 0, none⟩) fsz (.int .i64 p.1)) (p := ⟨w1.heap.size, 1, none⟩) fsz (.int .i64 p.2.1)) (p := ⟨w1.heap.size, 2, none⟩) fsz (.slice B2 p.2.2.1.1.length e2)) (p := ⟨w1.heap.size, 3, none⟩) fsz (.slice B3 p.2.2.1.2.length e3)) (p := ⟨w1.heap.size, 4, none⟩) fsz (.slice B4 p.2.2.2.1.1.length e4)) (p := ⟨w1.heap.size, 5, none⟩) fsz (.slice B5 p.2.2.2.1.2.length e5)) (p := ⟨w1.heap.size, 6, none⟩) fsz (.slice none 0 0))
     go_wp2_with fail
     refine hK.out _ _ ⟨(P2).cell 0, (P2).cell 1, (P2).cell 2, (P2).cell 3, (P2).cell 4, (P2).cell 5⟩ (fun hHeld => ?_)
     clear hK K
     (try simp only [Act.put, qa_, qb_, qc_])
     refine tkx 10 (some 15) ?_
     refine rdx [12] ?_
     refine rcx (fun K hK => ?_) ?_
     ·go_simp
      refine hK.out _ _ ⟨(PZ).cell 0, (PZ).cell 1, (PZ).cell 2, (PZ).cell 3, (PZ).cell 4, (PZ).cell 5⟩ (fun hHeld => ?_)
      clear hK K
      (try simp only [Act.put, qa_, qb_, qc_])
      refine rex ?_ _
      go_wp2_with fail
      go_meet
      exact ⟨_, _, _, _, _, _, _, _, _, _, _, rfl, PZ, RZ, by first | exact OZ | simpa using OZ, q1, q2, New.app (B' := w1.heap.size) (hM1.lower (by omega)) (hM2.lower (by omega)) (by omega) (fun f hf => l1 f hf), no1, no2, by omega, BZ⟩
     exact AllReadyH.nil
    exact AllReadyH.nil
   exact AllReadyH.nil
  refine rcx (fun K hK => ?_) ?_
  ·go_simp
   refine hK.out _ _ ⟨(PWa).cell 0, (PWa).cell 1, (PWa).cell 2, (PWa).cell 3, (PWa).cell 4, (PWa).cell 5⟩ (fun hHeld => ?_)
   clear hK K
   (try simp only [Act.put, qa_, qb_, qc_])
   refine rdx [6] ?_
   refine rcx (fun K hK => ?_) ?_
   ·go_simp
    go_at_call 96
    refine (s_own5P (tPool.reach r2 (belx)) hzP).mono ?_
    rintro e w1 ⟨cs1, G2, rfl, hO1, hN1, hb1⟩
    have hK1 := hO1
    obtain ⟨B2, e2, Y2, B3, e3, Y3, rfl, -, -, -, -, -, -, -⟩ := openOPool hO1
    clear hO1
    have P1 : Box w1 w.heap.size 109 #[.int .i64 p.1, .int .i64 p.2.1, .slice A2 n2 c2, .slice A3 n3 c3, .slice A4 n4 c4, .slice A5 n5 c5, .slice A6 n6 c6] := Box.below (Box.drew PWa) hb1 (Box.drew PWa).size
    have R1 : Box w1 (w.heap.size + 1) 109 #[.int .i64 0, .int .i64 0, .slice none 0 0, .slice none 0 0, .slice none 0 0, .slice none 0 0, .slice none 0 0] := Box.below (Box.drew RWa) hb1 (Box.drew RWa).size
    have hB1 : Bel w w1 := bel_trans (show Bel w ((((w.alloc (.cells #[.int .i64 p.1, .int .i64 p.2.1, .slice A2 n2 c2, .slice A3 n3 c3, .slice A4 n4 c4, .slice A5 n5 c5, .slice A6 n6 c6] 109)).alloc (.cells #[.int .i64 0, .int .i64 0, .slice none 0 0, .slice none 0 0, .slice none 0 0, .slice none 0 0, .slice none 0 0] 109)).alloc (.cells #[.int .i64 0, .int .i64 0, .slice none 0 0, .slice none 0 0, .slice none 0 0, .slice none 0 0, .slice none 0 0] 109)).drew) from (belx)) hb1
    have z1 : w.heap.size + 3 ≤ w1.heap.size := Nat.le_trans ley hb1.size
    have hM1 : New (w.heap.size + 3) G2 := hN1.lower ley
    have l1 := tPool.lt hK1
    have O1 : Box w1 (w.heap.size + 1 + 1) 109 #[.int .i64 0, .int .i64 0, .slice none 0 0, .slice none 0 0, .slice none 0 0, .slice none 0 0, .slice none 0 0] := Box.below (Box.drew OWa) hb1 (Box.drew OWa).size
    have x10 := P1.cell 0
    have x11 := P1.cell 1
    have x12 := P1.cell 2
    have x13 := P1.cell 3
    have x14 := P1.cell 4
    have x15 := P1.cell 5
    have x16 := P1.cell 6
    go_wp2_with fail
    refine hK.out _ _ ⟨(P1).cell 0, (P1).cell 1, (P1).cell 2, (P1).cell 3, (P1).cell 4, (P1).cell 5⟩ (fun hHeld => ?_)
    clear hK K
    (try simp only [Act.put, qa_, qb_, qc_])
    refine rdx [9] ?_
    refine rcx (fun K hK => ?_) ?_
    ·go_simp
     go_at_call 97
     refine (s_DeskOwn (tDesk.reach r4 (bel_trans hB1 (belx))) hzK).mono ?_
     rintro e w2 ⟨cs2, G4, rfl, hO2, hN2, hb2⟩
     have hK2 := hO2
     obtain ⟨B4, e4, Y4, B5, e5, Y5, rfl, -, -, -, -, -, -, -⟩ := openODesk hO2
     clear hO2
     have hs2 : Bel w1 w2 := bel_trans (show Bel w1 w1 from (belx)) hb2
     have P2 := P1.below hs2 P1.size
     have R2 := R1.below hs2 R1.size
     have hB2 : Bel w w2 := bel_trans hB1 hs2
     have z2 : w1.heap.size + 0 ≤ w2.heap.size := Nat.le_trans ley hb2.size
     have hM2 : New (w1.heap.size + 0) G4 := hN2.lower ley
     have l2 := tDesk.lt hK2
     have hK1b := Ty.below (t := tPool) hK1 hs2
     have O2 := O1.below hs2 O1.size
     have x20 := P2.cell 0
     have x21 := P2.cell 1
     have x22 := P2.cell 2
     have x23 := P2.cell 3
     have x24 := P2.cell 4
     have x25 := P2.cell 5
     have x26 := P2.cell 6
     have oo0 := O2.cell 0
     have oo1 := O2.cell 1
     have oo2 := O2.cell 2
     have oo3 := O2.cell 3
     have oo4 := O2.cell 4
     have oo5 := O2.cell 5
     have oo6 := O2.cell 6
     have of0 := O2.frozen 0
     have of1 := O2.frozen 1
     have of2 := O2.frozen 2
     have of3 := O2.frozen 3
     have of4 := O2.frozen 4
     have of5 := O2.frozen 5
     have of6 := O2.frozen 6
     have no1 : (w.heap.size + 1 + 1) ∉ G2 := fun hx => by have h1 := hM1.2 _ hx; have h2 := l1 _ hx; omega
     have no2 : (w.heap.size + 1 + 1) ∉ G4 := fun hx => by have h1 := hM2.2 _ hx; omega
     have PZ := (((((((P2.far (p := ⟨(w.heap.size + 1 + 1), 0, none⟩) fsz (.int .i64 p.1)).far (p := ⟨(w.heap.size + 1 + 1), 1, none⟩) fsz (.int .i64 p.2.1)).far (p := ⟨(w.heap.size + 1 + 1), 2, none⟩) fsz (.slice B2 p.2.2.1.1.length e2)).far (p := ⟨(w.heap.size + 1 + 1), 3, none⟩) fsz (.slice B3 p.2.2.1.2.length e3)).far (p := ⟨(w.heap.size + 1 + 1), 4, none⟩) fsz (.slice B4 p.2.2.2.1.1.length e4)).far (p := ⟨(w.heap.size + 1 + 1), 5, none⟩) fsz (.slice B5 p.2.2.2.1.2.length e5)).far (p := ⟨(w.heap.size + 1 + 1), 6, none⟩) fsz (.slice none 0 0))
     have RZ := (((((((R2.far (p := ⟨(w.heap.size + 1 + 1), 0, none⟩) fsz (.int .i64 p.1)).far (p := ⟨(w.heap.size + 1 + 1), 1, none⟩) fsz (.int .i64 p.2.1)).far (p := ⟨(w.heap.size + 1 + 1), 2, none⟩) fsz (.slice B2 p.2.2.1.1.length e2)).far (p := ⟨(w.heap.size + 1 + 1), 3, none⟩) fsz (.slice B3 p.2.2.1.2.length e3)).far (p := ⟨(w.heap.size + 1 + 1), 4, none⟩) fsz (.slice B4 p.2.2.2.1.1.length e4)).far (p := ⟨(w.heap.size + 1 + 1), 5, none⟩) fsz (.slice B5 p.2.2.2.1.2.length e5)).far (p := ⟨(w.heap.size + 1 + 1), 6, none⟩) fsz (.slice none 0 0))
     have OZ := (((((((O2.put 0 (.int .i64 p.1)).put 1 (.int .i64 p.2.1)).put 2 (.slice B2 p.2.2.1.1.length e2)).put 3 (.slice B3 p.2.2.1.2.length e3)).put 4 (.slice B4 p.2.2.2.1.1.length e4)).put 5 (.slice B5 p.2.2.2.1.2.length e5)).put 6 (.slice none 0 0))
     have q1 := (Ty.far3 (t := tPool) (Ty.far3 (t := tPool) (Ty.far3 (t := tPool) (Ty.far3 (t := tPool) (Ty.far3 (t := tPool) (Ty.far3 (t := tPool) (Ty.far3 (t := tPool) hK1b (p := ⟨(w.heap.size + 1 + 1), 0, none⟩) no1 (.int .i64 p.1)) (p := ⟨(w.heap.size + 1 + 1), 1, none⟩) no1 (.int .i64 p.2.1)) (p := ⟨(w.heap.size + 1 + 1), 2, none⟩) no1 (.slice B2 p.2.2.1.1.length e2)) (p := ⟨(w.heap.size + 1 + 1), 3, none⟩) no1 (.slice B3 p.2.2.1.2.length e3)) (p := ⟨(w.heap.size + 1 + 1), 4, none⟩) no1 (.slice B4 p.2.2.2.1.1.length e4)) (p := ⟨(w.heap.size + 1 + 1), 5, none⟩) no1 (.slice B5 p.2.2.2.1.2.length e5)) (p := ⟨(w.heap.size + 1 + 1), 6, none⟩) no1 (.slice none 0 0))
     have q2 := (Ty.far3 (t := tDesk) (Ty.far3 (t := tDesk) (Ty.far3 (t := tDesk) (Ty.far3 (t := tDesk) (Ty.far3 (t := tDesk) (Ty.far3 (t := tDesk) (Ty.far3 (t := tDesk) hK2 (p := ⟨(w.heap.size + 1 + 1), 0, none⟩) no2 (.int .i64 p.1)) (p := ⟨(w.heap.size + 1 + 1), 1, none⟩) no2 (.int .i64 p.2.1)) (p := ⟨(w.heap.size + 1 + 1), 2, none⟩) no2 (.slice B2 p.2.2.1.1.length e2)) (p := ⟨(w.heap.size + 1 + 1), 3, none⟩) no2 (.slice B3 p.2.2.1.2.length e3)) (p := ⟨(w.heap.size + 1 + 1), 4, none⟩) no2 (.slice B4 p.2.2.2.1.1.length e4)) (p := ⟨(w.heap.size + 1 + 1), 5, none⟩) no2 (.slice B5 p.2.2.2.1.2.length e5)) (p := ⟨(w.heap.size + 1 + 1), 6, none⟩) no2 (.slice none 0 0))
     have BZ := (bel_put (bel_put (bel_put (bel_put (bel_put (bel_put (bel_put hB2 (p := ⟨(w.heap.size + 1 + 1), 0, none⟩) fsz (.int .i64 p.1)) (p := ⟨(w.heap.size + 1 + 1), 1, none⟩) fsz (.int .i64 p.2.1)) (p := ⟨(w.heap.size + 1 + 1), 2, none⟩) fsz (.slice B2 p.2.2.1.1.length e2)) (p := ⟨(w.heap.size + 1 + 1), 3, none⟩) fsz (.slice B3 p.2.2.1.2.length e3)) (p := ⟨(w.heap.size + 1 + 1), 4, none⟩) fsz (.slice B4 p.2.2.2.1.1.length e4)) (p := ⟨(w.heap.size + 1 + 1), 5, none⟩) fsz (.slice B5 p.2.2.2.1.2.length e5)) (p := ⟨(w.heap.size + 1 + 1), 6, none⟩) fsz (.slice none 0 0))
     go_wp2_with fail
     refine hK.out _ _ ⟨(P2).cell 0, (P2).cell 1, (P2).cell 2, (P2).cell 3, (P2).cell 4, (P2).cell 5⟩ (fun hHeld => ?_)
     clear hK K
     (try simp only [Act.put, qa_, qb_, qc_])
     refine tkx 10 (some 15) ?_
     refine rdx [12] ?_
     refine rcx (fun K hK => ?_) ?_
     ·go_simp
      refine hK.out _ _ ⟨(PZ).cell 0, (PZ).cell 1, (PZ).cell 2, (PZ).cell 3, (PZ).cell 4, (PZ).cell 5⟩ (fun hHeld => ?_)
      clear hK K
      (try simp only [Act.put, qa_, qb_, qc_])
      refine rex ?_ _
      go_wp2_with fail
      go_meet
      exact ⟨_, _, _, _, _, _, _, _, _, _, _, rfl, PZ, RZ, by first | exact OZ | simpa using OZ, q1, q2, New.app (B' := w1.heap.size) (hM1.lower (by omega)) (hM2.lower (by omega)) (by omega) (fun f hf => l1 f hf), no1, no2, by omega, BZ⟩
     exact AllReadyH.nil
    exact AllReadyH.nil
   exact AllReadyH.nil
  exact AllReadyH.nil
 case rest =>
 obtain ⟨ob, B2, e2, B3, e3, B4, e4, B5, e5, G2, G4, rfl, PS, RS, OS, prP, prK, hNw, prPo, prKo, zob, hS⟩ := hcut
 generalize wc = wS at *
 clear PW RW PWa RWa OWa kw0 kw1 kw2 kw3 kw4 kw5 kw6
 have prPl := tPool.lt prP
 have prKl := tDesk.lt prK
 have zo2 := OS.size
 have zS : wS.heap.size ≤ wS.heap.size := Nat.le_refl _
 have k6 := PS.cell 6
 go_wp2_with fail
 go_loopw [4] (fun i wr => ∃ (j : Nat) (F : List Nat) (v : Value), j ≤ n6 ∧ i = .int .i64 j ∧ GrowO tLetter 151 wr wS.heap.size v ((p.2.2.2.2).take j) F ∧ Box wr w.heap.size 109 #[.int .i64 p.1, .int .i64 p.2.1, .slice A2 n2 c2, .slice A3 n3 c3, .slice A4 n4 c4, .slice A5 n5 c5, .slice A6 n6 c6] ∧ Box wr (w.heap.size + 1) 109 #[.int .i64 0, .int .i64 0, .slice none 0 0, .slice none 0 0, .slice none 0 0, .slice none 0 0, .slice none 0 0] ∧ Box wr ob 109 #[.int .i64 p.1, .int .i64 p.2.1, .slice B2 p.2.2.1.1.length e2, .slice B3 p.2.2.1.2.length e3, .slice B4 p.2.2.2.1.1.length e4, .slice B5 p.2.2.2.1.2.length e5, v] ∧ (tPool).O wr [.slice B2 p.2.2.1.1.length e2, .slice B3 p.2.2.1.2.length e3] p.2.2.1 G2 ∧ (tDesk).O wr [.slice B4 p.2.2.2.1.1.length e4, .slice B5 p.2.2.2.1.2.length e5] p.2.2.2.1 G4 ∧ Bel w wr ∧ wS.heap.size ≤ wr.heap.size) (fun i _ => n6 - (RowKit.intOf i).toNat)
 case atStart => exact ⟨0, [], .slice none 0 0, by omega, rfl, GrowO.nil, PS, RS, OS, prP, prK, hS, zS⟩
 case round =>
  obtain ⟨j, F, v, hj, rfl, hG, P0, R0, O0, prP, prK, hB, zB⟩ := hrel
  clear k6 PS RS OS hS
  have k6 := P0.cell 6
  by_cases hlt : j < n6
  ·obtain ⟨a, b', off, es, hl2, rfl, hb, hes, hR⟩ := rowR_at (K := 2) r6 hlt rfl
   have HT := Lib.hid (take_sn hl2)
   have HLN := Lib.hid (show ((p.2.2.2.2).take j).length = j from by rw [List.length_take, HL6.out]; omega)
   have hsa : szLetter a ≤ 1048576 := HSZ6.out j a hl2
   clear hl2
   have hRk := hR
   obtain ⟨aA1, an1, ac1, rfl, ai0, -, -, -, ar1⟩ := openLetter hR
   have e0 : wr.cell? ⟨b', off + j * 2, none⟩ = some (.int .i64 a.1) := cell_at hB hb (hes 0 (by omega))
   have e1 : wr.cell? ⟨b', off + j * 2 + 1, none⟩ = some (.slice aA1 an1 ac1) := cell_at hB hb (hes 1 (by omega))
   have hOwn := fun b hb => (GrowO.row hG).choose_spec.1.lt b hb
   have hlt2 := hG.lt
   clear hR
   have hIr : Ints .u8 wr wr.heap.size aA1 an1 a.2 := reach (slR_ints ar1).1 hB
   have hn2 : an1 ≤ 1048576 := by rw [← hIr.1]; unfold szLetter at hsa; (try unfold szCell at hsa); exact hsa
   have PE := P0.alloc (.cells #[] 5)
   have OE := O0.alloc (.cells #[] 5)
   have oEc := OE.cell 6
   have eE0 : (wr.alloc (.cells #[] 5)).cell? ⟨b', off + j * 2, none⟩ = some (.int .i64 a.1) := cell_at (bel_alloc hB _) hb (hes 0 (by omega))
   have eE1 : (wr.alloc (.cells #[] 5)).cell? ⟨b', off + j * 2 + 1, none⟩ = some (.slice aA1 an1 ac1) := cell_at (bel_alloc hB _) hb (hes 1 (by omega))
   have o0c := O0.cell 6
   go_wp2_with fail
   refine wp_region_held_drew (S := (fun w' => w'.cell? ⟨w.heap.size, 6, none⟩ = some (.slice (some ⟨b', off, none⟩) n6 c6) ∧ w'.cell? ⟨b', off + j * 2, none⟩ = some (.int .i64 a.1) ∧ w'.cell? ⟨b', off + j * 2 + 1, none⟩ = some (.slice aA1 an1 ac1))) (by kernel_rfl) (by exact ⟨k6, e0, e1⟩) (fun hHeld => ?_)
   refine tkx 0 (some 23) ?_
   refine tkx 2 (some 25) ?_
   refine tkx 3 (some 26) ?_
   refine tkx 4 (some 27) ?_
   refine tkx 5 (some 28) ?_
   refine tkx 6 (some 29) ?_
   refine tkx 7 (some 30) ?_
   refine tkx 9 (some 32) ?_
   refine tkx 10 (some 33) ?_
   refine tkx 11 (some 34) ?_
   refine tkx 12 (some 35) ?_
   refine tkx 13 (some 36) ?_
   refine tkx 14 (some 37) ?_
   refine rdx [1, 8] ?_
   refine rcx (fun K hK => ?_) ?_
   ·go_simp
    refine hK.out _ _ ⟨k6, e0, e1⟩ (fun hHeld => ?_)
    clear hK K
    (try simp only [Act.put, qa_, qb_, qc_])
    refine rdx [8] ?_
    refine rcx (fun K hK => ?_) ?_
    ·go_simp
     refine hK.out _ _ ⟨(PE.cell 6), eE0, eE1⟩ (fun hHeld => ?_)
     clear hK K
     (try simp only [Act.put, qa_, qb_, qc_])
     refine rdx [15] ?_
     refine rcx (fun K hK => ?_) ?_
     ·have hX1 : Bel wr ((wr.alloc (.cells #[] 5)).drew) := (belx)
      have hE : Own .u8 5 ((wr.alloc (.cells #[] 5)).drew) wr.heap.size (.slice (some ⟨wr.heap.size, 0, none⟩) 0 0) [] := Own.drew (Own.empty (Nat.le_refl _))
      refine Own.stepRow (by rfl) (.tmp 31) (.tmp 37) _ (by rfl) ib _ 1 Tryz.underlying28 hi0 hz0 hz1 hz2 rfl (by rfl) hE (by rfl) (reach hIr hX1) ley (by simp only [maxLen, List.length_nil]; omega) (by simp only [List.length_nil]; omega) ?_
      intro v1 w1 hO1 hgr hat
      obtain ⟨Ad, cd, Fd, rfl, hOd, hNd⟩ := own_slice (show Own .u8 5 w1 wr.heap.size v1 a.2 from by simpa using hO1)
      have hs1 : Bel wr w1 := Below.grown hX1 hgr ley (fun b hb => by have e := Option.some.inj (show some wr.heap.size = some b from hb); omega)
      have hOk : tLetter.O w1 [.int .i64 a.1, .slice Ad a.2.length cd] a Fd := by obtain ⟨Fx, hX, ex⟩ := makeOLetter (p := a) ai0 hOd; rw [ex] at hX; exact hX
      clear hO1
      have P1 := Box.grown (Box.drew (P0.alloc _)) hgr (fun e => by have e := Option.some.inj (show some w.heap.size = some wr.heap.size from e); have := P0.size; have := O0.size; have := R0.size; omega)
      have R1 := Box.grown (Box.drew (R0.alloc _)) hgr (fun e => by have e := Option.some.inj (show some (w.heap.size + 1) = some wr.heap.size from e); have := P0.size; have := O0.size; have := R0.size; omega)
      have O1 := Box.grown (Box.drew (O0.alloc _)) hgr (fun e => by have e := Option.some.inj (show some ob = some wr.heap.size from e); have := P0.size; have := O0.size; have := R0.size; omega)
      have e10 : w1.cell? ⟨b', off + j * 2, none⟩ = some (.int .i64 a.1) := cell_at (bel_trans hB hs1) hb (hes 0 (by omega))
      have e11 : w1.cell? ⟨b', off + j * 2 + 1, none⟩ = some (.slice aA1 an1 ac1) := cell_at (bel_trans hB hs1) hb (hes 1 (by omega))
      have o1c := O1.cell 6
      have PA := P1.alloc (.cells ([.int .i64 a.1, .slice Ad a.2.length cd].toArray) 151)
      have OA := O1.alloc (.cells ([.int .i64 a.1, .slice Ad a.2.length cd].toArray) 151)
      have oAc := OA.cell 6
      have zw1 := hs1.size
      have eA0 : (w1.alloc (.cells ([.int .i64 a.1, .slice Ad a.2.length cd].toArray) 151)).cell? ⟨b', off + j * 2, none⟩ = some (.int .i64 a.1) := cell_at (bel_alloc (bel_trans hB hs1) _) hb (hes 0 (by omega))
      have eA1 : (w1.alloc (.cells ([.int .i64 a.1, .slice Ad a.2.length cd].toArray) 151)).cell? ⟨b', off + j * 2 + 1, none⟩ = some (.slice aA1 an1 ac1) := cell_at (bel_alloc (bel_trans hB hs1) _) hb (hes 1 (by omega))
      refine hK.out _ _ ⟨(P1.cell 6), e10, e11⟩ (fun hHeld => ?_)
      clear hK K
      (try simp only [Act.put, qa_, qb_, qc_])
      refine tkx 16 (some 39) ?_
      refine rdx [17] ?_
      refine rcx (fun K hK => ?_) ?_
      ·go_simp
       refine hK.out _ _ ⟨(PA.cell 6), eA0, eA1⟩ (fun hHeld => ?_)
       clear hK K
       (try simp only [Act.put, qa_, qb_, qc_])
       refine rdx [18] ?_
       refine rcx (fun K hK => ?_) ?_
       ·have hBx : Bel wr (w1.alloc (.cells ([.int .i64 a.1, .slice Ad a.2.length cd].toArray) 151)) := bel_alloc hs1 _
        obtain ⟨xs, hrow, hpush⟩ := (hG.below hBx).row
        have hS2 : Src (w1.alloc (.cells ([.int .i64 a.1, .slice Ad a.2.length cd].toArray) 151)) 2 (some ⟨w1.heap.size, 0, none⟩) 1 [.int .i64 a.1, .slice Ad a.2.length cd] := Src.of_box w1 151 [.int .i64 a.1, .slice Ad a.2.length cd] (K := 2) rfl
        have tz : (Value.agg #[Value.int .i64 0, Value.slice none 0 0]).cells.size = 2 := lev
        have t0 : ∀ u ∈ ([.int .i64 a.1, .slice Ad a.2.length cd] : List Value), u.oneCell' = true := (by intro u hu; simp only [List.mem_cons, List.not_mem_nil, or_false] at hu; rcases hu with rfl | rfl <;> rfl)
        have t1 : ((p.2.2.2.2).take j).length + 1 ≤ maxLen := (by simp only [maxLen]; have := HLN.out; omega)
        have t2 : (((p.2.2.2.2).take j).length + 1) * 32 ≤ 140737488355328 := (by have := HLN.out; omega)
        have t3 := hBx.size
        refine step_app5 _ (by rfl) (.tmp 24) (.tmp 40) _ (by rfl) wS.heap.size 151 i6i _ 2 32 Tryz.underlying107 hj06 hj16 hj26 hj36 tz (by omega) v _ xs (by rfl) hrow _ 1 1 [.int .i64 a.1, .slice Ad a.2.length cd] (by rfl) hS2 t0 t1 t2 (by omega) ?_
        intro v2 w2 hown2 hgr2 hat2
        have hOel : tLetter.O (w1.alloc (.cells ([.int .i64 a.1, .slice Ad a.2.length cd].toArray) 151)) [.int .i64 a.1, .slice Ad a.2.length cd] a Fd := Ty.below (t := tLetter) hOk (belx)
        have hNel : New wS.heap.size Fd := hNd.lower (by omega)
        have hdis : ∀ f ∈ Fd, f ∉ F := (fun f h1 h2 => by have := hNd.2 _ h1; have := hlt2 f h2; omega)
        have hod : ∀ b, v.ownBlock = some b → b ∉ Fd := (fun b hb hx => by have := (hOwn b hb).2; have := hNd.2 _ hx; omega)
        have hfin := hpush w2 v2 a _ Fd hOel hNel hdis hod hown2 hgr2 hat2
        obtain ⟨A9, n9, c9, rfl, -⟩ := hfin.shapeN
        have P2 := Box.grown (P1.alloc _) hgr2 (fun e => by have := (hOwn w.heap.size e.symm).1; omega)
        have R2 := Box.grown (R1.alloc _) hgr2 (fun e => by have := (hOwn (w.heap.size + 1) e.symm).1; omega)
        have O2 := Box.grown (O1.alloc _) hgr2 (fun e => by have := (hOwn ob e.symm).1; omega)
        have hBf : Bel w w2 := Below.grown (bel_trans hB hBx) hgr2 (by have := hBx.size; omega) (fun b hb => by have := (hOwn b hb).1; omega)
        have z2 := hgr2.size
        have o2c := O2.cell 6
        have o2f := O2.frozen 6
        have GF := hfin.put (p := ⟨ob, 6, none⟩) fsz (.slice A9 n9 c9)
        have PF := P2.far (p := ⟨ob, 6, none⟩) fsz (.slice A9 n9 c9)
        have RF := R2.far (p := ⟨ob, 6, none⟩) fsz (.slice A9 n9 c9)
        have OF : Box (w2.setCell ⟨ob, 6, none⟩ (.slice A9 n9 c9)) ob 109 #[.int .i64 p.1, .int .i64 p.2.1, .slice B2 p.2.2.1.1.length e2, .slice B3 p.2.2.1.2.length e3, .slice B4 p.2.2.2.1.1.length e4, .slice B5 p.2.2.2.1.2.length e5, .slice A9 n9 c9] := O2.put 6 (.slice A9 n9 c9)
        have prPF := Ty.far3 (own_past (w := (w1.alloc (.cells ([.int .i64 a.1, .slice Ad a.2.length cd].toArray) 151))) (Ty.below (t := tPool) prP hBx) hgr2 (fun b hb hx => by have h1 := (hOwn b hb).1; have h2 := prPl b hx; omega)) (p := ⟨ob, 6, none⟩) prPo (.slice A9 n9 c9)
        have prKF := Ty.far3 (own_past (w := (w1.alloc (.cells ([.int .i64 a.1, .slice Ad a.2.length cd].toArray) 151))) (Ty.below (t := tDesk) prK hBx) hgr2 (fun b hb hx => by have h1 := (hOwn b hb).1; have h2 := prKl b hx; omega)) (p := ⟨ob, 6, none⟩) prKo (.slice A9 n9 c9)
        have BF : Bel w (w2.setCell ⟨ob, 6, none⟩ (.slice A9 n9 c9)) := bel_put hBf fsz _
        have e20 : w2.cell? ⟨b', off + j * 2, none⟩ = some (.int .i64 a.1) := cell_at hBf hb (hes 0 (by omega))
        have e21 : w2.cell? ⟨b', off + j * 2 + 1, none⟩ = some (.slice aA1 an1 ac1) := cell_at hBf hb (hes 1 (by omega))
        have eF0 : (w2.setCell ⟨ob, 6, none⟩ (.slice A9 n9 c9)).cell? ⟨b', off + j * 2, none⟩ = some (.int .i64 a.1) := cell_at BF hb (hes 0 (by omega))
        have eF1 : (w2.setCell ⟨ob, 6, none⟩ (.slice A9 n9 c9)).cell? ⟨b', off + j * 2 + 1, none⟩ = some (.slice aA1 an1 ac1) := cell_at BF hb (hes 1 (by omega))
        refine hK.out _ _ ⟨(P2.cell 6), e20, e21⟩ (fun hHeld => ?_)
        clear hK K
        (try simp only [Act.put, qa_, qb_, qc_])
        refine tkx 19 (some 42) ?_
        refine rdx [20] ?_
        refine rcx (fun K hK => ?_) ?_
        ·go_simp
         refine hK.out _ _ ⟨(PF.cell 6), eF0, eF1⟩ (fun hHeld => ?_)
         clear hK K
         (try simp only [Act.put, qa_, qb_, qc_])
         refine rex ?_ _
         go_wp2
         go_roundw
         case rel => exact ⟨j + 1, _, _, by omega, by go_num, by rw [HT.out]; exact GF, PF, RF, OF, prPF, prKF, BF, by have h := z2; simp [World.setCell] at h ⊢; omega⟩
         case measure => simp [RowKit.intOf]; omega
        exact AllReadyH.nil
       exact AllReadyH.nil
      exact AllReadyH.nil
     exact AllReadyH.nil
    exact AllReadyH.nil
   refine rcx (fun K hK => ?_) ?_
   ·go_simp
    refine hK.out _ _ ⟨(PE.cell 6), eE0, eE1⟩ (fun hHeld => ?_)
    clear hK K
    (try simp only [Act.put, qa_, qb_, qc_])
    refine rdx [1, 15] ?_
    refine rcx (fun K hK => ?_) ?_
    ·go_simp
     refine hK.out _ _ ⟨(PE.cell 6), eE0, eE1⟩ (fun hHeld => ?_)
     clear hK K
     (try simp only [Act.put, qa_, qb_, qc_])
     refine rdx [15] ?_
     refine rcx (fun K hK => ?_) ?_
     ·have hX1 : Bel wr ((wr.alloc (.cells #[] 5)).drew) := (belx)
      have hE : Own .u8 5 ((wr.alloc (.cells #[] 5)).drew) wr.heap.size (.slice (some ⟨wr.heap.size, 0, none⟩) 0 0) [] := Own.drew (Own.empty (Nat.le_refl _))
      refine Own.stepRow (by rfl) (.tmp 31) (.tmp 37) _ (by rfl) ib _ 1 Tryz.underlying28 hi0 hz0 hz1 hz2 rfl (by rfl) hE (by rfl) (reach hIr hX1) ley (by simp only [maxLen, List.length_nil]; omega) (by simp only [List.length_nil]; omega) ?_
      intro v1 w1 hO1 hgr hat
      obtain ⟨Ad, cd, Fd, rfl, hOd, hNd⟩ := own_slice (show Own .u8 5 w1 wr.heap.size v1 a.2 from by simpa using hO1)
      have hs1 : Bel wr w1 := Below.grown hX1 hgr ley (fun b hb => by have e := Option.some.inj (show some wr.heap.size = some b from hb); omega)
      have hOk : tLetter.O w1 [.int .i64 a.1, .slice Ad a.2.length cd] a Fd := by obtain ⟨Fx, hX, ex⟩ := makeOLetter (p := a) ai0 hOd; rw [ex] at hX; exact hX
      clear hO1
      have P1 := Box.grown (Box.drew (P0.alloc _)) hgr (fun e => by have e := Option.some.inj (show some w.heap.size = some wr.heap.size from e); have := P0.size; have := O0.size; have := R0.size; omega)
      have R1 := Box.grown (Box.drew (R0.alloc _)) hgr (fun e => by have e := Option.some.inj (show some (w.heap.size + 1) = some wr.heap.size from e); have := P0.size; have := O0.size; have := R0.size; omega)
      have O1 := Box.grown (Box.drew (O0.alloc _)) hgr (fun e => by have e := Option.some.inj (show some ob = some wr.heap.size from e); have := P0.size; have := O0.size; have := R0.size; omega)
      have e10 : w1.cell? ⟨b', off + j * 2, none⟩ = some (.int .i64 a.1) := cell_at (bel_trans hB hs1) hb (hes 0 (by omega))
      have e11 : w1.cell? ⟨b', off + j * 2 + 1, none⟩ = some (.slice aA1 an1 ac1) := cell_at (bel_trans hB hs1) hb (hes 1 (by omega))
      have o1c := O1.cell 6
      have PA := P1.alloc (.cells ([.int .i64 a.1, .slice Ad a.2.length cd].toArray) 151)
      have OA := O1.alloc (.cells ([.int .i64 a.1, .slice Ad a.2.length cd].toArray) 151)
      have oAc := OA.cell 6
      have zw1 := hs1.size
      have eA0 : (w1.alloc (.cells ([.int .i64 a.1, .slice Ad a.2.length cd].toArray) 151)).cell? ⟨b', off + j * 2, none⟩ = some (.int .i64 a.1) := cell_at (bel_alloc (bel_trans hB hs1) _) hb (hes 0 (by omega))
      have eA1 : (w1.alloc (.cells ([.int .i64 a.1, .slice Ad a.2.length cd].toArray) 151)).cell? ⟨b', off + j * 2 + 1, none⟩ = some (.slice aA1 an1 ac1) := cell_at (bel_alloc (bel_trans hB hs1) _) hb (hes 1 (by omega))
      refine hK.out _ _ ⟨(P1.cell 6), e10, e11⟩ (fun hHeld => ?_)
      clear hK K
      (try simp only [Act.put, qa_, qb_, qc_])
      refine tkx 16 (some 39) ?_
      refine rdx [17] ?_
      refine rcx (fun K hK => ?_) ?_
      ·go_simp
       refine hK.out _ _ ⟨(PA.cell 6), eA0, eA1⟩ (fun hHeld => ?_)
       clear hK K
       (try simp only [Act.put, qa_, qb_, qc_])
       refine rdx [18] ?_
       refine rcx (fun K hK => ?_) ?_
       ·have hBx : Bel wr (w1.alloc (.cells ([.int .i64 a.1, .slice Ad a.2.length cd].toArray) 151)) := bel_alloc hs1 _
        obtain ⟨xs, hrow, hpush⟩ := (hG.below hBx).row
        have hS2 : Src (w1.alloc (.cells ([.int .i64 a.1, .slice Ad a.2.length cd].toArray) 151)) 2 (some ⟨w1.heap.size, 0, none⟩) 1 [.int .i64 a.1, .slice Ad a.2.length cd] := Src.of_box w1 151 [.int .i64 a.1, .slice Ad a.2.length cd] (K := 2) rfl
        have tz : (Value.agg #[Value.int .i64 0, Value.slice none 0 0]).cells.size = 2 := lev
        have t0 : ∀ u ∈ ([.int .i64 a.1, .slice Ad a.2.length cd] : List Value), u.oneCell' = true := (by intro u hu; simp only [List.mem_cons, List.not_mem_nil, or_false] at hu; rcases hu with rfl | rfl <;> rfl)
        have t1 : ((p.2.2.2.2).take j).length + 1 ≤ maxLen := (by simp only [maxLen]; have := HLN.out; omega)
        have t2 : (((p.2.2.2.2).take j).length + 1) * 32 ≤ 140737488355328 := (by have := HLN.out; omega)
        have t3 := hBx.size
        refine step_app5 _ (by rfl) (.tmp 24) (.tmp 40) _ (by rfl) wS.heap.size 151 i6i _ 2 32 Tryz.underlying107 hj06 hj16 hj26 hj36 tz (by omega) v _ xs (by rfl) hrow _ 1 1 [.int .i64 a.1, .slice Ad a.2.length cd] (by rfl) hS2 t0 t1 t2 (by omega) ?_
        intro v2 w2 hown2 hgr2 hat2
        have hOel : tLetter.O (w1.alloc (.cells ([.int .i64 a.1, .slice Ad a.2.length cd].toArray) 151)) [.int .i64 a.1, .slice Ad a.2.length cd] a Fd := Ty.below (t := tLetter) hOk (belx)
        have hNel : New wS.heap.size Fd := hNd.lower (by omega)
        have hdis : ∀ f ∈ Fd, f ∉ F := (fun f h1 h2 => by have := hNd.2 _ h1; have := hlt2 f h2; omega)
        have hod : ∀ b, v.ownBlock = some b → b ∉ Fd := (fun b hb hx => by have := (hOwn b hb).2; have := hNd.2 _ hx; omega)
        have hfin := hpush w2 v2 a _ Fd hOel hNel hdis hod hown2 hgr2 hat2
        obtain ⟨A9, n9, c9, rfl, -⟩ := hfin.shapeN
        have P2 := Box.grown (P1.alloc _) hgr2 (fun e => by have := (hOwn w.heap.size e.symm).1; omega)
        have R2 := Box.grown (R1.alloc _) hgr2 (fun e => by have := (hOwn (w.heap.size + 1) e.symm).1; omega)
        have O2 := Box.grown (O1.alloc _) hgr2 (fun e => by have := (hOwn ob e.symm).1; omega)
        have hBf : Bel w w2 := Below.grown (bel_trans hB hBx) hgr2 (by have := hBx.size; omega) (fun b hb => by have := (hOwn b hb).1; omega)
        have z2 := hgr2.size
        have o2c := O2.cell 6
        have o2f := O2.frozen 6
        have GF := hfin.put (p := ⟨ob, 6, none⟩) fsz (.slice A9 n9 c9)
        have PF := P2.far (p := ⟨ob, 6, none⟩) fsz (.slice A9 n9 c9)
        have RF := R2.far (p := ⟨ob, 6, none⟩) fsz (.slice A9 n9 c9)
        have OF : Box (w2.setCell ⟨ob, 6, none⟩ (.slice A9 n9 c9)) ob 109 #[.int .i64 p.1, .int .i64 p.2.1, .slice B2 p.2.2.1.1.length e2, .slice B3 p.2.2.1.2.length e3, .slice B4 p.2.2.2.1.1.length e4, .slice B5 p.2.2.2.1.2.length e5, .slice A9 n9 c9] := O2.put 6 (.slice A9 n9 c9)
        have prPF := Ty.far3 (own_past (w := (w1.alloc (.cells ([.int .i64 a.1, .slice Ad a.2.length cd].toArray) 151))) (Ty.below (t := tPool) prP hBx) hgr2 (fun b hb hx => by have h1 := (hOwn b hb).1; have h2 := prPl b hx; omega)) (p := ⟨ob, 6, none⟩) prPo (.slice A9 n9 c9)
        have prKF := Ty.far3 (own_past (w := (w1.alloc (.cells ([.int .i64 a.1, .slice Ad a.2.length cd].toArray) 151))) (Ty.below (t := tDesk) prK hBx) hgr2 (fun b hb hx => by have h1 := (hOwn b hb).1; have h2 := prKl b hx; omega)) (p := ⟨ob, 6, none⟩) prKo (.slice A9 n9 c9)
        have BF : Bel w (w2.setCell ⟨ob, 6, none⟩ (.slice A9 n9 c9)) := bel_put hBf fsz _
        have e20 : w2.cell? ⟨b', off + j * 2, none⟩ = some (.int .i64 a.1) := cell_at hBf hb (hes 0 (by omega))
        have e21 : w2.cell? ⟨b', off + j * 2 + 1, none⟩ = some (.slice aA1 an1 ac1) := cell_at hBf hb (hes 1 (by omega))
        have eF0 : (w2.setCell ⟨ob, 6, none⟩ (.slice A9 n9 c9)).cell? ⟨b', off + j * 2, none⟩ = some (.int .i64 a.1) := cell_at BF hb (hes 0 (by omega))
        have eF1 : (w2.setCell ⟨ob, 6, none⟩ (.slice A9 n9 c9)).cell? ⟨b', off + j * 2 + 1, none⟩ = some (.slice aA1 an1 ac1) := cell_at BF hb (hes 1 (by omega))
        refine hK.out _ _ ⟨(P2.cell 6), e20, e21⟩ (fun hHeld => ?_)
        clear hK K
        (try simp only [Act.put, qa_, qb_, qc_])
        refine tkx 19 (some 42) ?_
        refine rdx [20] ?_
        refine rcx (fun K hK => ?_) ?_
        ·go_simp
         refine hK.out _ _ ⟨(PF.cell 6), eF0, eF1⟩ (fun hHeld => ?_)
         clear hK K
         (try simp only [Act.put, qa_, qb_, qc_])
         refine rex ?_ _
         go_wp2
         go_roundw
         case rel => exact ⟨j + 1, _, _, by omega, by go_num, by rw [HT.out]; exact GF, PF, RF, OF, prPF, prKF, BF, by have h := z2; simp [World.setCell] at h ⊢; omega⟩
         case measure => simp [RowKit.intOf]; omega
        exact AllReadyH.nil
       exact AllReadyH.nil
      exact AllReadyH.nil
     exact AllReadyH.nil
    refine rcx (fun K hK => ?_) ?_
    ·have hX1 : Bel wr ((wr.alloc (.cells #[] 5)).drew) := (belx)
     have hE : Own .u8 5 ((wr.alloc (.cells #[] 5)).drew) wr.heap.size (.slice (some ⟨wr.heap.size, 0, none⟩) 0 0) [] := Own.drew (Own.empty (Nat.le_refl _))
     refine Own.stepRow (by rfl) (.tmp 31) (.tmp 37) _ (by rfl) ib _ 1 Tryz.underlying28 hi0 hz0 hz1 hz2 rfl (by rfl) hE (by rfl) (reach hIr hX1) ley (by simp only [maxLen, List.length_nil]; omega) (by simp only [List.length_nil]; omega) ?_
     intro v1 w1 hO1 hgr hat
     obtain ⟨Ad, cd, Fd, rfl, hOd, hNd⟩ := own_slice (show Own .u8 5 w1 wr.heap.size v1 a.2 from by simpa using hO1)
     have hs1 : Bel wr w1 := Below.grown hX1 hgr ley (fun b hb => by have e := Option.some.inj (show some wr.heap.size = some b from hb); omega)
     have hOk : tLetter.O w1 [.int .i64 a.1, .slice Ad a.2.length cd] a Fd := by obtain ⟨Fx, hX, ex⟩ := makeOLetter (p := a) ai0 hOd; rw [ex] at hX; exact hX
     clear hO1
     have P1 := Box.grown (Box.drew (P0.alloc _)) hgr (fun e => by have e := Option.some.inj (show some w.heap.size = some wr.heap.size from e); have := P0.size; have := O0.size; have := R0.size; omega)
     have R1 := Box.grown (Box.drew (R0.alloc _)) hgr (fun e => by have e := Option.some.inj (show some (w.heap.size + 1) = some wr.heap.size from e); have := P0.size; have := O0.size; have := R0.size; omega)
     have O1 := Box.grown (Box.drew (O0.alloc _)) hgr (fun e => by have e := Option.some.inj (show some ob = some wr.heap.size from e); have := P0.size; have := O0.size; have := R0.size; omega)
     have e10 : w1.cell? ⟨b', off + j * 2, none⟩ = some (.int .i64 a.1) := cell_at (bel_trans hB hs1) hb (hes 0 (by omega))
     have e11 : w1.cell? ⟨b', off + j * 2 + 1, none⟩ = some (.slice aA1 an1 ac1) := cell_at (bel_trans hB hs1) hb (hes 1 (by omega))
     have o1c := O1.cell 6
     have PA := P1.alloc (.cells ([.int .i64 a.1, .slice Ad a.2.length cd].toArray) 151)
     have OA := O1.alloc (.cells ([.int .i64 a.1, .slice Ad a.2.length cd].toArray) 151)
     have oAc := OA.cell 6
     have zw1 := hs1.size
     have eA0 : (w1.alloc (.cells ([.int .i64 a.1, .slice Ad a.2.length cd].toArray) 151)).cell? ⟨b', off + j * 2, none⟩ = some (.int .i64 a.1) := cell_at (bel_alloc (bel_trans hB hs1) _) hb (hes 0 (by omega))
     have eA1 : (w1.alloc (.cells ([.int .i64 a.1, .slice Ad a.2.length cd].toArray) 151)).cell? ⟨b', off + j * 2 + 1, none⟩ = some (.slice aA1 an1 ac1) := cell_at (bel_alloc (bel_trans hB hs1) _) hb (hes 1 (by omega))
     refine hK.out _ _ ⟨(P1.cell 6), e10, e11⟩ (fun hHeld => ?_)
     clear hK K
     (try simp only [Act.put, qa_, qb_, qc_])
     refine tkx 16 (some 39) ?_
     refine rdx [1, 17] ?_
     refine rcx (fun K hK => ?_) ?_
     ·go_simp
      refine hK.out _ _ ⟨(P1.cell 6), e10, e11⟩ (fun hHeld => ?_)
      clear hK K
      (try simp only [Act.put, qa_, qb_, qc_])
      refine rdx [17] ?_
      refine rcx (fun K hK => ?_) ?_
      ·go_simp
       refine hK.out _ _ ⟨(PA.cell 6), eA0, eA1⟩ (fun hHeld => ?_)
       clear hK K
       (try simp only [Act.put, qa_, qb_, qc_])
       refine rdx [18] ?_
       refine rcx (fun K hK => ?_) ?_
       ·have hBx : Bel wr (w1.alloc (.cells ([.int .i64 a.1, .slice Ad a.2.length cd].toArray) 151)) := bel_alloc hs1 _
        obtain ⟨xs, hrow, hpush⟩ := (hG.below hBx).row
        have hS2 : Src (w1.alloc (.cells ([.int .i64 a.1, .slice Ad a.2.length cd].toArray) 151)) 2 (some ⟨w1.heap.size, 0, none⟩) 1 [.int .i64 a.1, .slice Ad a.2.length cd] := Src.of_box w1 151 [.int .i64 a.1, .slice Ad a.2.length cd] (K := 2) rfl
        have tz : (Value.agg #[Value.int .i64 0, Value.slice none 0 0]).cells.size = 2 := lev
        have t0 : ∀ u ∈ ([.int .i64 a.1, .slice Ad a.2.length cd] : List Value), u.oneCell' = true := (by intro u hu; simp only [List.mem_cons, List.not_mem_nil, or_false] at hu; rcases hu with rfl | rfl <;> rfl)
        have t1 : ((p.2.2.2.2).take j).length + 1 ≤ maxLen := (by simp only [maxLen]; have := HLN.out; omega)
        have t2 : (((p.2.2.2.2).take j).length + 1) * 32 ≤ 140737488355328 := (by have := HLN.out; omega)
        have t3 := hBx.size
        refine step_app5 _ (by rfl) (.tmp 24) (.tmp 40) _ (by rfl) wS.heap.size 151 i6i _ 2 32 Tryz.underlying107 hj06 hj16 hj26 hj36 tz (by omega) v _ xs (by rfl) hrow _ 1 1 [.int .i64 a.1, .slice Ad a.2.length cd] (by rfl) hS2 t0 t1 t2 (by omega) ?_
        intro v2 w2 hown2 hgr2 hat2
        have hOel : tLetter.O (w1.alloc (.cells ([.int .i64 a.1, .slice Ad a.2.length cd].toArray) 151)) [.int .i64 a.1, .slice Ad a.2.length cd] a Fd := Ty.below (t := tLetter) hOk (belx)
        have hNel : New wS.heap.size Fd := hNd.lower (by omega)
        have hdis : ∀ f ∈ Fd, f ∉ F := (fun f h1 h2 => by have := hNd.2 _ h1; have := hlt2 f h2; omega)
        have hod : ∀ b, v.ownBlock = some b → b ∉ Fd := (fun b hb hx => by have := (hOwn b hb).2; have := hNd.2 _ hx; omega)
        have hfin := hpush w2 v2 a _ Fd hOel hNel hdis hod hown2 hgr2 hat2
        obtain ⟨A9, n9, c9, rfl, -⟩ := hfin.shapeN
        have P2 := Box.grown (P1.alloc _) hgr2 (fun e => by have := (hOwn w.heap.size e.symm).1; omega)
        have R2 := Box.grown (R1.alloc _) hgr2 (fun e => by have := (hOwn (w.heap.size + 1) e.symm).1; omega)
        have O2 := Box.grown (O1.alloc _) hgr2 (fun e => by have := (hOwn ob e.symm).1; omega)
        have hBf : Bel w w2 := Below.grown (bel_trans hB hBx) hgr2 (by have := hBx.size; omega) (fun b hb => by have := (hOwn b hb).1; omega)
        have z2 := hgr2.size
        have o2c := O2.cell 6
        have o2f := O2.frozen 6
        have GF := hfin.put (p := ⟨ob, 6, none⟩) fsz (.slice A9 n9 c9)
        have PF := P2.far (p := ⟨ob, 6, none⟩) fsz (.slice A9 n9 c9)
        have RF := R2.far (p := ⟨ob, 6, none⟩) fsz (.slice A9 n9 c9)
        have OF : Box (w2.setCell ⟨ob, 6, none⟩ (.slice A9 n9 c9)) ob 109 #[.int .i64 p.1, .int .i64 p.2.1, .slice B2 p.2.2.1.1.length e2, .slice B3 p.2.2.1.2.length e3, .slice B4 p.2.2.2.1.1.length e4, .slice B5 p.2.2.2.1.2.length e5, .slice A9 n9 c9] := O2.put 6 (.slice A9 n9 c9)
        have prPF := Ty.far3 (own_past (w := (w1.alloc (.cells ([.int .i64 a.1, .slice Ad a.2.length cd].toArray) 151))) (Ty.below (t := tPool) prP hBx) hgr2 (fun b hb hx => by have h1 := (hOwn b hb).1; have h2 := prPl b hx; omega)) (p := ⟨ob, 6, none⟩) prPo (.slice A9 n9 c9)
        have prKF := Ty.far3 (own_past (w := (w1.alloc (.cells ([.int .i64 a.1, .slice Ad a.2.length cd].toArray) 151))) (Ty.below (t := tDesk) prK hBx) hgr2 (fun b hb hx => by have h1 := (hOwn b hb).1; have h2 := prKl b hx; omega)) (p := ⟨ob, 6, none⟩) prKo (.slice A9 n9 c9)
        have BF : Bel w (w2.setCell ⟨ob, 6, none⟩ (.slice A9 n9 c9)) := bel_put hBf fsz _
        have e20 : w2.cell? ⟨b', off + j * 2, none⟩ = some (.int .i64 a.1) := cell_at hBf hb (hes 0 (by omega))
        have e21 : w2.cell? ⟨b', off + j * 2 + 1, none⟩ = some (.slice aA1 an1 ac1) := cell_at hBf hb (hes 1 (by omega))
        have eF0 : (w2.setCell ⟨ob, 6, none⟩ (.slice A9 n9 c9)).cell? ⟨b', off + j * 2, none⟩ = some (.int .i64 a.1) := cell_at BF hb (hes 0 (by omega))
        have eF1 : (w2.setCell ⟨ob, 6, none⟩ (.slice A9 n9 c9)).cell? ⟨b', off + j * 2 + 1, none⟩ = some (.slice aA1 an1 ac1) := cell_at BF hb (hes 1 (by omega))
        refine hK.out _ _ ⟨(P2.cell 6), e20, e21⟩ (fun hHeld => ?_)
        clear hK K
        (try simp only [Act.put, qa_, qb_, qc_])
        refine tkx 19 (some 42) ?_
        refine rdx [20] ?_
        refine rcx (fun K hK => ?_) ?_
        ·go_simp
         refine hK.out _ _ ⟨(PF.cell 6), eF0, eF1⟩ (fun hHeld => ?_)
         clear hK K
         (try simp only [Act.put, qa_, qb_, qc_])
         refine rex ?_ _
         go_wp2
         go_roundw
         case rel => exact ⟨j + 1, _, _, by omega, by go_num, by rw [HT.out]; exact GF, PF, RF, OF, prPF, prKF, BF, by have h := z2; simp [World.setCell] at h ⊢; omega⟩
         case measure => simp [RowKit.intOf]; omega
        exact AllReadyH.nil
       exact AllReadyH.nil
      exact AllReadyH.nil
     refine rcx (fun K hK => ?_) ?_
     ·go_simp
      refine hK.out _ _ ⟨(PA.cell 6), eA0, eA1⟩ (fun hHeld => ?_)
      clear hK K
      (try simp only [Act.put, qa_, qb_, qc_])
      refine rdx [1] ?_
      refine rcx (fun K hK => ?_) ?_
      ·go_simp
       refine hK.out _ _ ⟨(PA.cell 6), eA0, eA1⟩ (fun hHeld => ?_)
       clear hK K
       (try simp only [Act.put, qa_, qb_, qc_])
       refine rdx [18] ?_
       refine rcx (fun K hK => ?_) ?_
       ·have hBx : Bel wr (w1.alloc (.cells ([.int .i64 a.1, .slice Ad a.2.length cd].toArray) 151)) := bel_alloc hs1 _
        obtain ⟨xs, hrow, hpush⟩ := (hG.below hBx).row
        have hS2 : Src (w1.alloc (.cells ([.int .i64 a.1, .slice Ad a.2.length cd].toArray) 151)) 2 (some ⟨w1.heap.size, 0, none⟩) 1 [.int .i64 a.1, .slice Ad a.2.length cd] := Src.of_box w1 151 [.int .i64 a.1, .slice Ad a.2.length cd] (K := 2) rfl
        have tz : (Value.agg #[Value.int .i64 0, Value.slice none 0 0]).cells.size = 2 := lev
        have t0 : ∀ u ∈ ([.int .i64 a.1, .slice Ad a.2.length cd] : List Value), u.oneCell' = true := (by intro u hu; simp only [List.mem_cons, List.not_mem_nil, or_false] at hu; rcases hu with rfl | rfl <;> rfl)
        have t1 : ((p.2.2.2.2).take j).length + 1 ≤ maxLen := (by simp only [maxLen]; have := HLN.out; omega)
        have t2 : (((p.2.2.2.2).take j).length + 1) * 32 ≤ 140737488355328 := (by have := HLN.out; omega)
        have t3 := hBx.size
        refine step_app5 _ (by rfl) (.tmp 24) (.tmp 40) _ (by rfl) wS.heap.size 151 i6i _ 2 32 Tryz.underlying107 hj06 hj16 hj26 hj36 tz (by omega) v _ xs (by rfl) hrow _ 1 1 [.int .i64 a.1, .slice Ad a.2.length cd] (by rfl) hS2 t0 t1 t2 (by omega) ?_
        intro v2 w2 hown2 hgr2 hat2
        have hOel : tLetter.O (w1.alloc (.cells ([.int .i64 a.1, .slice Ad a.2.length cd].toArray) 151)) [.int .i64 a.1, .slice Ad a.2.length cd] a Fd := Ty.below (t := tLetter) hOk (belx)
        have hNel : New wS.heap.size Fd := hNd.lower (by omega)
        have hdis : ∀ f ∈ Fd, f ∉ F := (fun f h1 h2 => by have := hNd.2 _ h1; have := hlt2 f h2; omega)
        have hod : ∀ b, v.ownBlock = some b → b ∉ Fd := (fun b hb hx => by have := (hOwn b hb).2; have := hNd.2 _ hx; omega)
        have hfin := hpush w2 v2 a _ Fd hOel hNel hdis hod hown2 hgr2 hat2
        obtain ⟨A9, n9, c9, rfl, -⟩ := hfin.shapeN
        have P2 := Box.grown (P1.alloc _) hgr2 (fun e => by have := (hOwn w.heap.size e.symm).1; omega)
        have R2 := Box.grown (R1.alloc _) hgr2 (fun e => by have := (hOwn (w.heap.size + 1) e.symm).1; omega)
        have O2 := Box.grown (O1.alloc _) hgr2 (fun e => by have := (hOwn ob e.symm).1; omega)
        have hBf : Bel w w2 := Below.grown (bel_trans hB hBx) hgr2 (by have := hBx.size; omega) (fun b hb => by have := (hOwn b hb).1; omega)
        have z2 := hgr2.size
        have o2c := O2.cell 6
        have o2f := O2.frozen 6
        have GF := hfin.put (p := ⟨ob, 6, none⟩) fsz (.slice A9 n9 c9)
        have PF := P2.far (p := ⟨ob, 6, none⟩) fsz (.slice A9 n9 c9)
        have RF := R2.far (p := ⟨ob, 6, none⟩) fsz (.slice A9 n9 c9)
        have OF : Box (w2.setCell ⟨ob, 6, none⟩ (.slice A9 n9 c9)) ob 109 #[.int .i64 p.1, .int .i64 p.2.1, .slice B2 p.2.2.1.1.length e2, .slice B3 p.2.2.1.2.length e3, .slice B4 p.2.2.2.1.1.length e4, .slice B5 p.2.2.2.1.2.length e5, .slice A9 n9 c9] := O2.put 6 (.slice A9 n9 c9)
        have prPF := Ty.far3 (own_past (w := (w1.alloc (.cells ([.int .i64 a.1, .slice Ad a.2.length cd].toArray) 151))) (Ty.below (t := tPool) prP hBx) hgr2 (fun b hb hx => by have h1 := (hOwn b hb).1; have h2 := prPl b hx; omega)) (p := ⟨ob, 6, none⟩) prPo (.slice A9 n9 c9)
        have prKF := Ty.far3 (own_past (w := (w1.alloc (.cells ([.int .i64 a.1, .slice Ad a.2.length cd].toArray) 151))) (Ty.below (t := tDesk) prK hBx) hgr2 (fun b hb hx => by have h1 := (hOwn b hb).1; have h2 := prKl b hx; omega)) (p := ⟨ob, 6, none⟩) prKo (.slice A9 n9 c9)
        have BF : Bel w (w2.setCell ⟨ob, 6, none⟩ (.slice A9 n9 c9)) := bel_put hBf fsz _
        have e20 : w2.cell? ⟨b', off + j * 2, none⟩ = some (.int .i64 a.1) := cell_at hBf hb (hes 0 (by omega))
        have e21 : w2.cell? ⟨b', off + j * 2 + 1, none⟩ = some (.slice aA1 an1 ac1) := cell_at hBf hb (hes 1 (by omega))
        have eF0 : (w2.setCell ⟨ob, 6, none⟩ (.slice A9 n9 c9)).cell? ⟨b', off + j * 2, none⟩ = some (.int .i64 a.1) := cell_at BF hb (hes 0 (by omega))
        have eF1 : (w2.setCell ⟨ob, 6, none⟩ (.slice A9 n9 c9)).cell? ⟨b', off + j * 2 + 1, none⟩ = some (.slice aA1 an1 ac1) := cell_at BF hb (hes 1 (by omega))
        refine hK.out _ _ ⟨(P2.cell 6), e20, e21⟩ (fun hHeld => ?_)
        clear hK K
        (try simp only [Act.put, qa_, qb_, qc_])
        refine tkx 19 (some 42) ?_
        refine rdx [20] ?_
        refine rcx (fun K hK => ?_) ?_
        ·go_simp
         refine hK.out _ _ ⟨(PF.cell 6), eF0, eF1⟩ (fun hHeld => ?_)
         clear hK K
         (try simp only [Act.put, qa_, qb_, qc_])
         refine rex ?_ _
         go_wp2
         go_roundw
         case rel => exact ⟨j + 1, _, _, by omega, by go_num, by rw [HT.out]; exact GF, PF, RF, OF, prPF, prKF, BF, by have h := z2; simp [World.setCell] at h ⊢; omega⟩
         case measure => simp [RowKit.intOf]; omega
        exact AllReadyH.nil
       exact AllReadyH.nil
      exact AllReadyH.nil
     exact AllReadyH.nil
    exact AllReadyH.nil
   exact AllReadyH.nil
  ·obtain rfl : n6 = j := by omega
   have HA := Lib.hid (show (p.2.2.2.2).take n6 = p.2.2.2.2 from List.take_of_length_le (Nat.le_of_eq HL6.out))
   rw [HA.out] at hG
   obtain ⟨D6, g6, F6, rfl, hO6, hN6⟩ := hG.done
   have oc0 := O0.cell 0
   have oc1 := O0.cell 1
   have oc2 := O0.cell 2
   have oc3 := O0.cell 3
   have oc4 := O0.cell 4
   have oc5 := O0.cell 5
   have oc6 := O0.cell 6
   have rc0 := R0.cell 0
   have rf0 := R0.frozen 0
   have rc1 := R0.cell 1
   have rf1 := R0.frozen 1
   have rc2 := R0.cell 2
   have rf2 := R0.frozen 2
   have rc3 := R0.cell 3
   have rf3 := R0.frozen 3
   have rc4 := R0.cell 4
   have rf4 := R0.frozen 4
   have rc5 := R0.cell 5
   have rf5 := R0.frozen 5
   have rc6 := R0.cell 6
   have rf6 := R0.frozen 6
   go_wp2
   have hM6 : New (w.heap.size + 2) F6 := hN6.lower (by omega)
   have hMP : New (w.heap.size + 2) G2 := ⟨(List.nodup_append.1 hNw.1).1, fun f hf => hNw.2 f (List.mem_append.2 (.inl hf))⟩
   have hMK : New (w.heap.size + 2) G4 := ⟨(List.nodup_append.1 hNw.1).2.1, fun f hf => hNw.2 f (List.mem_append.2 (.inr hf))⟩
   have hA : New (w.heap.size + 2) (G2 ++ G4 ++ F6) := New.app hNw hN6 (by omega) (fun f hf => by rcases List.mem_append.1 hf with hf | hf; exact prPl f hf; exact prKl f hf)
   have RR := (((((((R0.put 0 (.int .i64 p.1)).put 1 (.int .i64 p.2.1)).put 2 (.slice B2 p.2.2.1.1.length e2)).put 3 (.slice B3 p.2.2.1.2.length e3)).put 4 (.slice B4 p.2.2.2.1.1.length e4)).put 5 (.slice B5 p.2.2.2.1.2.length e5)).put 6 (.slice D6 (p.2.2.2.2).length g6))
   have y0 := RR.cell 0
   have y1 := RR.cell 1
   have y2 := RR.cell 2
   have y3 := RR.cell 3
   have y4 := RR.cell 4
   have y5 := RR.cell 5
   have y6 := RR.cell 6
   have u_prP := (Ty.far (t := tPool) (Ty.far (t := tPool) (Ty.far (t := tPool) (Ty.far (t := tPool) (Ty.far (t := tPool) (Ty.far (t := tPool) (Ty.far (t := tPool) prP hMP (p := ⟨w.heap.size + 1, 0, none⟩) fsz (.int .i64 p.1)) hMP (p := ⟨w.heap.size + 1, 1, none⟩) fsz (.int .i64 p.2.1)) hMP (p := ⟨w.heap.size + 1, 2, none⟩) fsz (.slice B2 p.2.2.1.1.length e2)) hMP (p := ⟨w.heap.size + 1, 3, none⟩) fsz (.slice B3 p.2.2.1.2.length e3)) hMP (p := ⟨w.heap.size + 1, 4, none⟩) fsz (.slice B4 p.2.2.2.1.1.length e4)) hMP (p := ⟨w.heap.size + 1, 5, none⟩) fsz (.slice B5 p.2.2.2.1.2.length e5)) hMP (p := ⟨w.heap.size + 1, 6, none⟩) fsz (.slice D6 (p.2.2.2.2).length g6))
   have u_prK := (Ty.far (t := tDesk) (Ty.far (t := tDesk) (Ty.far (t := tDesk) (Ty.far (t := tDesk) (Ty.far (t := tDesk) (Ty.far (t := tDesk) (Ty.far (t := tDesk) prK hMK (p := ⟨w.heap.size + 1, 0, none⟩) fsz (.int .i64 p.1)) hMK (p := ⟨w.heap.size + 1, 1, none⟩) fsz (.int .i64 p.2.1)) hMK (p := ⟨w.heap.size + 1, 2, none⟩) fsz (.slice B2 p.2.2.1.1.length e2)) hMK (p := ⟨w.heap.size + 1, 3, none⟩) fsz (.slice B3 p.2.2.1.2.length e3)) hMK (p := ⟨w.heap.size + 1, 4, none⟩) fsz (.slice B4 p.2.2.2.1.1.length e4)) hMK (p := ⟨w.heap.size + 1, 5, none⟩) fsz (.slice B5 p.2.2.2.1.2.length e5)) hMK (p := ⟨w.heap.size + 1, 6, none⟩) fsz (.slice D6 (p.2.2.2.2).length g6))
   have u_hO6 := (Ty.far (t := tLetter.row) (Ty.far (t := tLetter.row) (Ty.far (t := tLetter.row) (Ty.far (t := tLetter.row) (Ty.far (t := tLetter.row) (Ty.far (t := tLetter.row) (Ty.far (t := tLetter.row) hO6 hM6 (p := ⟨w.heap.size + 1, 0, none⟩) fsz (.int .i64 p.1)) hM6 (p := ⟨w.heap.size + 1, 1, none⟩) fsz (.int .i64 p.2.1)) hM6 (p := ⟨w.heap.size + 1, 2, none⟩) fsz (.slice B2 p.2.2.1.1.length e2)) hM6 (p := ⟨w.heap.size + 1, 3, none⟩) fsz (.slice B3 p.2.2.1.2.length e3)) hM6 (p := ⟨w.heap.size + 1, 4, none⟩) fsz (.slice B4 p.2.2.2.1.1.length e4)) hM6 (p := ⟨w.heap.size + 1, 5, none⟩) fsz (.slice B5 p.2.2.2.1.2.length e5)) hM6 (p := ⟨w.heap.size + 1, 6, none⟩) fsz (.slice D6 (p.2.2.2.2).length g6))
   have hX := fmakeONode (p := p) i0 i1 u_prP u_prK u_hO6
   refine bodyPost_ret (v := .agg #[.int .i64 p.1, .int .i64 p.2.1, .slice B2 p.2.2.1.1.length e2, .slice B3 p.2.2.1.2.length e3, .slice B4 p.2.2.2.1.1.length e4, .slice B5 p.2.2.2.1.2.length e5, .slice D6 (p.2.2.2.2).length g6]) (by simp [results, Tryz.results53, go_sem, y0, y1, y2, y3, y4, y5, y6]) rfl ⟨_, _, rfl, hX, hA.lower (by omega), ?_⟩
   exact (bel_put (bel_put (bel_put (bel_put (bel_put (bel_put (bel_put hB (by simp) _) (by simp) _) (by simp) _) (by simp) _) (by simp) _) (by simp) _) (by simp) _)
end Go.Proofs.YtkdanlnhdgcplaaGreat
