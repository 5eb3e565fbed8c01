/-
  PFg2: texts joined.
-/
import Derived.Test.YtkdanlnhdgcplaaGreatFGa
import Derived.Test.YtkdanlnhdgcplaaGreatFGb
import Derived.Test.YtkdanlnhdgcplaaGreatFGe
import Derived.Test.YtkdanlnhdgcplaaGreatFMPFg1
import Derived.Test.YtkdanlnhdgcplaaGreatFMShs
namespace Go.Proofs.YtkdanlnhdgcplaaGreat
set_option maxRecDepth 100000
set_option linter.unusedVariables false
set_option linter.unusedSimpArgs false
open Go.ChangeShapes Go.WideShapes Go.ChangeAt Go.RowKit
open Fld
section
variable {α : Type} {t : Ty α} {e : TypeId} {w w' : World} {base B : Nat} {v : Value} {l : List α} {F : List Nat}
theorem GrowO.putN (h : GrowO t e w base v l F) {p : Addr} (hn : ¬ Blk v F p.block) (u : Value) : GrowO t e (w.setCell p u) base v l F :=
 h.past (row := some p.block) ⟨rfl, rfl, rfl, by simp [World.setCell], fun i hi hx => Below.heap_setCell w p u i (fun e => hx (by rw [e]))⟩ fun b hb hx => by injection hb with hb; subst hb; exact hn hx
end
theorem glO2 {w : World} {x y : Int} (hx : (Lit.int .i64 x).wf = true) (hy : (Lit.int .i64 y).wf = true) : tGlance.O w [.int .i64 x, .int .i64 y] (x, y) [] := by
 obtain ⟨F, hF, rfl⟩ := makeOGlance (w := w) (p := (x, y)) hx hy
 exact hF
set_option maxHeartbeats 4000000 in
theorem i_transmit_t {w : World} {lo tb : Nat} {cs : List Value} {d : DNet} {m : DMail} (hT : Trf w lo tb d) (h : tMail.R w w.heap.size cs m) (hzm : szMail m ≤ 1048576) (hlo : lo ≤ w.heap.size) (hr4 : d.2.2.2.2.1.length + 1 ≤ 60) (hr6 : d.2.2.2.2.2.2.length + 1 ≤ 500) (hd : (Lit.int .i64 d.1).wf = true) :
  Calls Tryz.prog 31 #[.pointer (some ⟨tb, 0, none⟩), .agg cs.toArray] w fun e w' => e = .returned (.bool true) ∧ Trf w' lo tb (fTr d m) ∧ Below lo w w' := by
 obtain ⟨i4, hj04, hj14, hj24, hj34⟩ := info_parts info_Mail
 obtain ⟨i6, hj06, hj16, hj26, hj36⟩ := info_parts info_Glance
 obtain ⟨v3, v4, v5, v6, F3, F4, F5, hbx, h3, h4, h5, h6, d1, d2, d3, t3, t4, t5, t6, hlt⟩ := hT
 obtain ⟨A3, n3, c3, rfl, -⟩ := h3.shapeN
 obtain ⟨A4, n4, c4, rfl, e4⟩ := h4.shapeN
 obtain ⟨A5, n5, c5, rfl, -⟩ := h5.shapeN
 obtain ⟨A6, n6, c6, rfl, e6⟩ := h6.shapeN
 have hn4 : n4 + 1 ≤ 60 := by omega
 have hn6 : n6 + 1 ≤ 500 := by omega
 have hm0 := h
 obtain ⟨A9, n9, c9, rfl, hi0, -, -, -, -⟩ := openMail h
 have HD := Lib.hid hd
 have HM := Lib.hid hi0
 have HR1 := Lib.hid (show (decide ((n4 : Int) + 1 ≤ 60) && decide ((n6 : Int) + 1 ≤ 500)) = true by rw [decide_eq_true (by omega), decide_eq_true (by omega)]; rfl)
 have l3 := h3.blk
 have l5 := h5.blk
 have l6 := h6.blk
 have own4w := h4.own
 have own6w := h6.own
 have ztb := hbx.size
 have B0 := hbx.alloc (.cells #[.int .i64 m.1, .slice A9 n9 c9] 62)
 have q0_ := B0.cell 0; have q1_ := B0.cell 1; have q2_ := B0.cell 2; have q3_ := B0.cell 3; have q4_ := B0.cell 4; have q5_ := B0.cell 5; have q6_ := B0.cell 6
 clear hd hi0 e4 e6
 go_enter Tryz.func31, Tryz.ntmps31
 go_wp2_with fail
 refine (i_hasRoom (by omega) (by omega) (by omega) (by omega)).mono ?_
 rintro e w1 ⟨rfl, hb1⟩
 rw [HR1.out]
 have hs1 : Bel w w1 := bel_trans (belx) hb1
 have X1 := hbx.below hs1 hbx.size
 have M1 : Box w1 w.heap.size 62 #[.int .i64 m.1, .slice A9 n9 c9] := (Box.new w _ _).below hb1 (by simp)
 have g3 := h3.below hs1
 have g4 := h4.below hs1
 have g5 := h5.below hs1
 have g6 := h6.below hs1
 have hm1 := tMail.reach hm0 hs1
 have own4 := g4.own
 have own6 := g6.own
 have lt4 := g4.lt
 have z1 := M1.size
 have p0_ := X1.cell 0; have p1_ := X1.cell 1; have p2_ := X1.cell 2; have p3_ := X1.cell 3; have p4_ := X1.cell 4; have p5_ := X1.cell 5; have p6_ := X1.cell 6
 clear q0_ q1_ q2_ q3_ q4_ q5_ q6_ B0 hb1
 go_wp2_with fail
 refine wp_region_held_drew (S := (fun w' => w'.cell? ⟨w.heap.size, 0, none⟩ = some (.int .i64 m.1) ∧ w'.cell? ⟨w.heap.size, 1, none⟩ = some (.slice A9 n9 c9))) (by kernel_rfl) (by exact ⟨(M1).cell 0, (M1).cell 1⟩) (fun hHeld => ?_)
 refine tkx 0 (some 11) ?_
 refine tkx 1 (some 12) ?_
 refine tkx 2 (some 13) ?_
 refine tkx 3 (some 14) ?_
 refine tkx 4 (some 15) ?_
 refine tkx 6 (some 17) ?_
 refine rdx [5, 7] ?_
 refine rcx (fun K hK => ?_) ?_
 ·go_simp
  refine hK.out _ _ ⟨(M1).cell 0, (M1).cell 1⟩ (fun hHeld => ?_)
  clear hK K
  (try simp only [Act.put, qa_, qb_, qc_])
  refine rdx [7] ?_
  refine rcx (fun K hK => ?_) ?_
  ·go_simp
   go_at_call 71
   refine (i_MailCopy (tMail.reach hm1 (belx)) hzm).mono ?_
   rintro e w2 ⟨cs1, Fd, rfl, hOd, hNd0, hb2⟩
   have hs2 : Bel w1 w2 := bel_trans (show Bel w1 w1.drew from (belx)) hb2
   have hNd : New w1.heap.size Fd := hNd0.lower (by simp)
   have hOk := hOd
   obtain ⟨oA1, oc1, oF1, rfl, -, -, -, -, -⟩ := openOMail hOd
   clear hOd hNd0
   have X2 := X1.below hs2 X1.size
   have M2 := M1.below hs2 M1.size
   have M2a := M2.alloc (.cells ([.int .i64 m.1, .slice oA1 m.2.length oc1].toArray) 62)
   have X2a := X2.alloc (.cells ([.int .i64 m.1, .slice oA1 m.2.length oc1].toArray) 62)
   have xa4 := X2.cell 4
   have xb4 := X2a.cell 4
   have zw2 := hs2.size
   go_wp2_with fail
   refine hK.out _ _ ⟨(M2).cell 0, (M2).cell 1⟩ (fun hHeld => ?_)
   clear hK K
   (try simp only [Act.put, qa_, qb_, qc_])
   refine rdx [8] ?_
   refine rcx (fun K hK => ?_) ?_
   ·go_simp
    refine hK.out _ _ ⟨(M2a).cell 0, (M2a).cell 1⟩ (fun hHeld => ?_)
    clear hK K
    (try simp only [Act.put, qa_, qb_, qc_])
    refine rdx [9] ?_
    refine rcx (fun K hK => ?_) ?_
    ·have hBx : Bel w1 (w2.alloc (.cells ([.int .i64 m.1, .slice oA1 m.2.length oc1].toArray) 62)) := bel_alloc hs2 _
     obtain ⟨xs, hrow, hpush⟩ := (g4.below hBx).row
     have hS2 : Src (w2.alloc (.cells ([.int .i64 m.1, .slice oA1 m.2.length oc1].toArray) 62)) 2 (some ⟨w2.heap.size, 0, none⟩) 1 [.int .i64 m.1, .slice oA1 m.2.length oc1] := Src.of_box w2 62 [.int .i64 m.1, .slice oA1 m.2.length oc1] (K := 2) rfl
     have tz : (Value.agg #[Value.int .i64 0, Value.slice none 0 0]).cells.size = 2 := lev
     have t0 : ∀ u ∈ ([.int .i64 m.1, .slice oA1 m.2.length oc1] : List Value), u.oneCell' = true := (by intro u hu; simp only [List.mem_cons, List.not_mem_nil, or_false] at hu; rcases hu with rfl | rfl <;> rfl)
     have tt1 : (d.2.2.2.2.1).length + 1 ≤ maxLen := (by simp only [maxLen]; omega)
     have tt2 : ((d.2.2.2.2.1).length + 1) * 32 ≤ 140737488355328 := (by omega)
     have tt3 := hBx.size
     refine step_app5 _ (by rfl) (.tmp 16) (.tmp 19) _ (by rfl) lo 62 i4 _ 2 32 Tryz.underlying31 hj04 hj14 hj24 hj34 tz (by omega) _ _ xs (by rfl) hrow _ 1 1 [.int .i64 m.1, .slice oA1 m.2.length oc1] (by rfl) hS2 t0 tt1 tt2 (by omega) ?_
     intro v2 w3 hown2 hgr2 hat2
     have hOel : tMail.O (w2.alloc (.cells ([.int .i64 m.1, .slice oA1 m.2.length oc1].toArray) 62)) [.int .i64 m.1, .slice oA1 m.2.length oc1] m Fd := Ty.below (t := tMail) hOk (belx)
     have hNel : New lo Fd := hNd.lower (by omega)
     have hdis : ∀ f ∈ Fd, f ∉ F4 := (fun f h1 h2 => by have := hNd.2 _ h1; have := lt4 f h2; omega)
     have hod : ∀ b, (Value.slice A4 n4 c4).ownBlock = some b → b ∉ Fd := (fun b hb hx => by have := (own4 b hb).2; have := hNd.2 _ hx; omega)
     have hfin := hpush w3 v2 m _ Fd hOel hNel hdis hod hown2 hgr2 hat2
     obtain ⟨A8, n8, c8, rfl, -⟩ := hfin.shapeN
     have hbk : ∀ b, Blk (.slice A8 n8 c8) (F4 ++ Fd) b → Blk (.slice A4 n4 c4) F4 b ∨ w1.heap.size ≤ b := fun b hb => by
      rcases hb with hb | hb
      ·rcases hat2 with h1 | h1
       ·exact .inl (.inl (h1.symm.trans hb))
       ·right; have e := Option.some.inj (h1.symm.trans hb); have := hBx.size; omega
      ·rcases List.mem_append.1 hb with hb | hb
       ·exact .inl (.inr hb)
       ·exact .inr (hNd.2 b hb)
     have X3 := Box.grown (X2.alloc _) hgr2 (fun e => t4 (.inl e.symm))
     have M3 := Box.grown (M2.alloc _) hgr2 (fun e => by have := (own4w _ e.symm).2; omega)
     have j3 := (g3.below hBx).past hgr2 (fun b hb hx => (d1 b hx).1 (.inl hb))
     have j5 := (g5.below hBx).past hgr2 (fun b hb hx => (d2 b (.inl hb)).1 hx)
     have j6 := (g6.below hBx).past hgr2 (fun b hb hx => (d2 b (.inl hb)).2 hx)
     have x3c := X3.cell 4
     have x3f := X3.frozen 4
     have zw3 := hgr2.size
     have nb : ¬ Blk (.slice A8 n8 c8) (F4 ++ Fd) tb := fun hx => by rcases hbk _ hx with h1 | h1; exact t4 h1; omega
     have k3 := j3.putN (p := ⟨tb, 4, none⟩) t3 (.slice A8 n8 c8)
     have k4 := hfin.putN (p := ⟨tb, 4, none⟩) nb (.slice A8 n8 c8)
     have k5 := j5.putN (p := ⟨tb, 4, none⟩) t5 (.slice A8 n8 c8)
     have k6 := j6.putN (p := ⟨tb, 4, none⟩) t6 (.slice A8 n8 c8)
     have XF : Box (w3.setCell ⟨tb, 4, none⟩ (.slice A8 n8 c8)) tb 68 #[.int .i64 d.1, .int .i64 d.2.1, .int .i64 d.2.2.1, .slice A3 n3 c3, .slice A8 n8 c8, .slice A5 n5 c5, .slice A6 n6 c6] := X3.put 4 (.slice A8 n8 c8)
     have MF := M3.far (p := ⟨tb, 4, none⟩) fsz (.slice A8 n8 c8)
     have BF : Below lo w (w3.setCell ⟨tb, 4, none⟩ (.slice A8 n8 c8)) := ((hs1.mono hlo).trans (Below.grown (hBx.mono (by omega)) hgr2 (by omega) (fun b hb => (own4 b hb).1))).setCell fsz _
     have zF : w1.heap.size ≤ (w3.setCell ⟨tb, 4, none⟩ (.slice A8 n8 c8)).heap.size := by simp [World.setCell]; omega
     refine hK.out _ _ ⟨(M3).cell 0, (M3).cell 1⟩ (fun hHeld => ?_)
     clear hK K
     (try simp only [Act.put, qa_, qb_, qc_])
     refine tkx 10 (some 21) ?_
     refine tkx 11 (some 22) ?_
     refine tkx 12 (some 23) ?_
     refine rdx [13] ?_
     refine rcx (fun K hK => ?_) ?_
     ·go_simp
      refine hK.out _ _ ⟨(MF).cell 0, (MF).cell 1⟩ (fun hHeld => ?_)
      clear hK K
      (try simp only [Act.put, qa_, qb_, qc_])
      refine rex ?_ _
      generalize (w3.setCell ⟨tb, 4, none⟩ (.slice A8 n8 c8)) = w4 at *
      have XFa := XF.alloc (.cells ([.int .i64 d.1, .int .i64 m.1].toArray) 113)
      have MFa := MF.alloc (.cells ([.int .i64 d.1, .int .i64 m.1].toArray) 113)
      have u6c := XF.cell 6
      have u6a := XFa.cell 6
      clear hHeld
      go_wp2_with fail
      refine wp_region_held_drew (S := (fun w' => w'.cell? ⟨tb, 0, none⟩ = some (.int .i64 d.1) ∧ w'.cell? ⟨w.heap.size, 0, none⟩ = some (.int .i64 m.1))) (by kernel_rfl) (by exact ⟨(XF).cell 0, (MF).cell 0⟩) (fun hHeld => ?_)
      refine tkx 0 (some 24) ?_
      refine tkx 1 (some 25) ?_
      refine tkx 2 (some 26) ?_
      refine tkx 3 (some 27) ?_
      refine tkx 4 (some 28) ?_
      refine tkx 6 (some 30) ?_
      refine tkx 7 (some 31) ?_
      refine tkx 8 (some 32) ?_
      refine tkx 9 (some 33) ?_
      refine tkx 10 (some 34) ?_
      refine tkx 11 (some 35) ?_
      refine tkx 12 (some 36) ?_
      refine tkx 13 (some 37) ?_
      refine rdx [5, 14] ?_
      refine rcx (fun K hK => ?_) ?_
      ·go_simp
       refine hK.out _ _ ⟨(XF).cell 0, (MF).cell 0⟩ (fun hHeld => ?_)
       clear hK K
       (try simp only [Act.put, qa_, qb_, qc_])
       refine rdx [14] ?_
       refine rcx (fun K hK => ?_) ?_
       ·go_simp
        refine hK.out _ _ ⟨(XFa).cell 0, (MFa).cell 0⟩ (fun hHeld => ?_)
        clear hK K
        (try simp only [Act.put, qa_, qb_, qc_])
        refine rdx [15] ?_
        refine rcx (fun K hK => ?_) ?_
        ·have hBg : Bel w4 ((w4.alloc (.cells ([.int .i64 d.1, .int .i64 m.1].toArray) 113)).drew) := (belx)
         obtain ⟨xs6, hrow6, hpush6⟩ := (k6.below hBg).row
         have hS6 : Src ((w4.alloc (.cells ([.int .i64 d.1, .int .i64 m.1].toArray) 113)).drew) 2 (some ⟨w4.heap.size, 0, none⟩) 1 [.int .i64 d.1, .int .i64 m.1] := Src.of_boxed (e := 113) (Box.drew (Box.new w4 _ _)) rfl
         have tz6 : (Value.agg #[Value.int .i64 0, Value.int .i64 0]).cells.size = 2 := lev
         have t06 : ∀ u ∈ ([.int .i64 d.1, .int .i64 m.1] : List Value), u.oneCell' = true := (by intro u hu; simp only [List.mem_cons, List.not_mem_nil, or_false] at hu; rcases hu with rfl | rfl <;> rfl)
         have tt16 : (d.2.2.2.2.2.2).length + 1 ≤ maxLen := (by simp only [maxLen]; omega)
         have tt26 : ((d.2.2.2.2.2.2).length + 1) * 16 ≤ 140737488355328 := (by omega)
         have tt36 := hBg.size
         refine step_app5 _ (by rfl) (.tmp 29) (.tmp 38) _ (by rfl) lo 113 i6 _ 2 16 Tryz.underlying33 hj06 hj16 hj26 hj36 tz6 (by omega) _ _ xs6 (by rfl) hrow6 _ 1 1 [.int .i64 d.1, .int .i64 m.1] (by rfl) hS6 t06 tt16 tt26 (by omega) ?_
         intro v6 w5 hown6 hgr6 hat6
         have hfin6 := hpush6 w5 v6 (d.1, m.1) _ [] (glO2 HD.out HM.out) (New.nil _) (fun f hf => absurd hf (by simp)) (fun b hb => by simp) hown6 hgr6 hat6
         obtain ⟨A7, n7, c7, rfl, -⟩ := hfin6.shapeN
         have hbk6 : ∀ b, Blk (.slice A7 n7 c7) [] b → Blk (.slice A6 n6 c6) [] b ∨ w4.heap.size ≤ b := fun b hb => by
          rcases hb with hb | hb
          ·rcases hat6 with h1 | h1
           ·exact .inl (.inl (h1.symm.trans hb))
           ·right; have e := Option.some.inj (h1.symm.trans hb); have := hBg.size; omega
          ·exact absurd hb (by simp)
         have X5 := Box.grown (Box.drew (XF.alloc _)) hgr6 (fun e => t6 (.inl e.symm))
         have M5 := Box.grown (Box.drew (MF.alloc _)) hgr6 (fun e => by have := (own6w _ e.symm).2; omega)
         have y3 := (k3.below hBg).past hgr6 (fun b hb hx => (d1 b hx).2.2 (.inl hb))
         have y4 := (k4.below hBg).past hgr6 (fun b hb hx => by rcases hbk b hx with h1 | h1; exact (d2 b h1).2 (.inl hb); (have := (own6w b hb).2; omega))
         have y5 := (k5.below hBg).past hgr6 (fun b hb hx => d3 b hx (.inl hb))
         have x5c := X5.cell 6
         have x5f := X5.frozen 6
         have zw5 := hgr6.size
         have nb6 : ¬ Blk (.slice A7 n7 c7) [] tb := fun hx => by rcases hbk6 _ hx with h1 | h1; exact t6 h1; omega
         have r3 := y3.putN (p := ⟨tb, 6, none⟩) t3 (.slice A7 n7 c7)
         have r4 := y4.putN (p := ⟨tb, 6, none⟩) nb (.slice A7 n7 c7)
         have r5 := y5.putN (p := ⟨tb, 6, none⟩) t5 (.slice A7 n7 c7)
         have r6 := hfin6.putN (p := ⟨tb, 6, none⟩) nb6 (.slice A7 n7 c7)
         have XG : Box (w5.setCell ⟨tb, 6, none⟩ (.slice A7 n7 c7)) tb 68 #[.int .i64 d.1, .int .i64 d.2.1, .int .i64 d.2.2.1, .slice A3 n3 c3, .slice A8 n8 c8, .slice A5 n5 c5, .slice A7 n7 c7] := X5.put 6 (.slice A7 n7 c7)
         have MG := M5.far (p := ⟨tb, 6, none⟩) fsz (.slice A7 n7 c7)
         have BG : Below lo w (w5.setCell ⟨tb, 6, none⟩ (.slice A7 n7 c7)) := (BF.trans (Below.grown (hBg.mono (by omega)) hgr6 (by omega) (fun b hb => (own6 b hb).1))).setCell fsz _
         refine hK.out _ _ ⟨(X5).cell 0, (M5).cell 0⟩ (fun hHeld => ?_)
         clear hK K
         (try simp only [Act.put, qa_, qb_, qc_])
         refine tkx 16 (some 40) ?_
         refine tkx 17 (some 41) ?_
         refine tkx 18 (some 42) ?_
         refine rdx [19] ?_
         refine rcx (fun K hK => ?_) ?_
         ·go_simp
          refine hK.out _ _ ⟨(XG).cell 0, (MG).cell 0⟩ (fun hHeld => ?_)
          clear hK K
          (try simp only [Act.put, qa_, qb_, qc_])
          refine rex ?_ _
          go_wp2
          go_ret
          refine ⟨rfl, ⟨_, _, _, _, F3, F4 ++ Fd, F5, XG, r3, r4, r5, r6, fun b hb => ⟨fun hx => ?_, (d1 b hb).2.1, fun hx => ?_⟩, fun b hb => ⟨fun hx => ?_, fun hx => ?_⟩, fun b hb hx => ?_, t3, nb, t5, nb6, hlt⟩, BG⟩
          ·rcases hbk b hx with h1 | h1
           ·exact (d1 b hb).1 h1
           ·have := (l3 b hb).2; omega
          ·rcases hbk6 b hx with h1 | h1
           ·exact (d1 b hb).2.2 h1
           ·have := (l3 b hb).2; omega
          ·rcases hbk b hb with h1 | h1
           ·exact (d2 b h1).1 hx
           ·have := (l5 b hx).2; omega
          ·rcases hbk6 b hx with h1 | h1
           ·rcases hbk b hb with h2 | h2
            ·exact (d2 b h2).2 h1
            ·have := (l6 b h1).2; omega
           ·have := (k4.blk b hb).2; omega
          ·rcases hbk6 b hx with h1 | h1
           ·exact d3 b hb h1
           ·have := (l5 b hb).2; omega
         exact AllReadyH.nil
        exact AllReadyH.nil
       exact AllReadyH.nil
      refine rcx (fun K hK => ?_) ?_
      ·go_simp
       refine hK.out _ _ ⟨(XFa).cell 0, (MFa).cell 0⟩ (fun hHeld => ?_)
       clear hK K
       (try simp only [Act.put, qa_, qb_, qc_])
       refine rdx [5] ?_
       refine rcx (fun K hK => ?_) ?_
       ·go_simp
        refine hK.out _ _ ⟨(XFa).cell 0, (MFa).cell 0⟩ (fun hHeld => ?_)
        clear hK K
        (try simp only [Act.put, qa_, qb_, qc_])
        refine rdx [15] ?_
        refine rcx (fun K hK => ?_) ?_
        ·have hBg : Bel w4 ((w4.alloc (.cells ([.int .i64 d.1, .int .i64 m.1].toArray) 113)).drew) := (belx)
         obtain ⟨xs6, hrow6, hpush6⟩ := (k6.below hBg).row
         have hS6 : Src ((w4.alloc (.cells ([.int .i64 d.1, .int .i64 m.1].toArray) 113)).drew) 2 (some ⟨w4.heap.size, 0, none⟩) 1 [.int .i64 d.1, .int .i64 m.1] := Src.of_boxed (e := 113) (Box.drew (Box.new w4 _ _)) rfl
         have tz6 : (Value.agg #[Value.int .i64 0, Value.int .i64 0]).cells.size = 2 := lev
         have t06 : ∀ u ∈ ([.int .i64 d.1, .int .i64 m.1] : List Value), u.oneCell' = true := (by intro u hu; simp only [List.mem_cons, List.not_mem_nil, or_false] at hu; rcases hu with rfl | rfl <;> rfl)
         have tt16 : (d.2.2.2.2.2.2).length + 1 ≤ maxLen := (by simp only [maxLen]; omega)
         have tt26 : ((d.2.2.2.2.2.2).length + 1) * 16 ≤ 140737488355328 := (by omega)
         have tt36 := hBg.size
         refine step_app5 _ (by rfl) (.tmp 29) (.tmp 38) _ (by rfl) lo 113 i6 _ 2 16 Tryz.underlying33 hj06 hj16 hj26 hj36 tz6 (by omega) _ _ xs6 (by rfl) hrow6 _ 1 1 [.int .i64 d.1, .int .i64 m.1] (by rfl) hS6 t06 tt16 tt26 (by omega) ?_
         intro v6 w5 hown6 hgr6 hat6
         have hfin6 := hpush6 w5 v6 (d.1, m.1) _ [] (glO2 HD.out HM.out) (New.nil _) (fun f hf => absurd hf (by simp)) (fun b hb => by simp) hown6 hgr6 hat6
         obtain ⟨A7, n7, c7, rfl, -⟩ := hfin6.shapeN
         have hbk6 : ∀ b, Blk (.slice A7 n7 c7) [] b → Blk (.slice A6 n6 c6) [] b ∨ w4.heap.size ≤ b := fun b hb => by
          rcases hb with hb | hb
          ·rcases hat6 with h1 | h1
           ·exact .inl (.inl (h1.symm.trans hb))
           ·right; have e := Option.some.inj (h1.symm.trans hb); have := hBg.size; omega
          ·exact absurd hb (by simp)
         have X5 := Box.grown (Box.drew (XF.alloc _)) hgr6 (fun e => t6 (.inl e.symm))
         have M5 := Box.grown (Box.drew (MF.alloc _)) hgr6 (fun e => by have := (own6w _ e.symm).2; omega)
         have y3 := (k3.below hBg).past hgr6 (fun b hb hx => (d1 b hx).2.2 (.inl hb))
         have y4 := (k4.below hBg).past hgr6 (fun b hb hx => by rcases hbk b hx with h1 | h1; exact (d2 b h1).2 (.inl hb); (have := (own6w b hb).2; omega))
         have y5 := (k5.below hBg).past hgr6 (fun b hb hx => d3 b hx (.inl hb))
         have x5c := X5.cell 6
         have x5f := X5.frozen 6
         have zw5 := hgr6.size
         have nb6 : ¬ Blk (.slice A7 n7 c7) [] tb := fun hx => by rcases hbk6 _ hx with h1 | h1; exact t6 h1; omega
         have r3 := y3.putN (p := ⟨tb, 6, none⟩) t3 (.slice A7 n7 c7)
         have r4 := y4.putN (p := ⟨tb, 6, none⟩) nb (.slice A7 n7 c7)
         have r5 := y5.putN (p := ⟨tb, 6, none⟩) t5 (.slice A7 n7 c7)
         have r6 := hfin6.putN (p := ⟨tb, 6, none⟩) nb6 (.slice A7 n7 c7)
         have XG : Box (w5.setCell ⟨tb, 6, none⟩ (.slice A7 n7 c7)) tb 68 #[.int .i64 d.1, .int .i64 d.2.1, .int .i64 d.2.2.1, .slice A3 n3 c3, .slice A8 n8 c8, .slice A5 n5 c5, .slice A7 n7 c7] := X5.put 6 (.slice A7 n7 c7)
         have MG := M5.far (p := ⟨tb, 6, none⟩) fsz (.slice A7 n7 c7)
         have BG : Below lo w (w5.setCell ⟨tb, 6, none⟩ (.slice A7 n7 c7)) := (BF.trans (Below.grown (hBg.mono (by omega)) hgr6 (by omega) (fun b hb => (own6 b hb).1))).setCell fsz _
         refine hK.out _ _ ⟨(X5).cell 0, (M5).cell 0⟩ (fun hHeld => ?_)
         clear hK K
         (try simp only [Act.put, qa_, qb_, qc_])
         refine tkx 16 (some 40) ?_
         refine tkx 17 (some 41) ?_
         refine tkx 18 (some 42) ?_
         refine rdx [19] ?_
         refine rcx (fun K hK => ?_) ?_
         ·go_simp
          refine hK.out _ _ ⟨(XG).cell 0, (MG).cell 0⟩ (fun hHeld => ?_)
          clear hK K
          (try simp only [Act.put, qa_, qb_, qc_])
          refine rex ?_ _
          go_wp2
          go_ret
          refine ⟨rfl, ⟨_, _, _, _, F3, F4 ++ Fd, F5, XG, r3, r4, r5, r6, fun b hb => ⟨fun hx => ?_, (d1 b hb).2.1, fun hx => ?_⟩, fun b hb => ⟨fun hx => ?_, fun hx => ?_⟩, fun b hb hx => ?_, t3, nb, t5, nb6, hlt⟩, BG⟩
          ·rcases hbk b hx with h1 | h1
           ·exact (d1 b hb).1 h1
           ·have := (l3 b hb).2; omega
          ·rcases hbk6 b hx with h1 | h1
           ·exact (d1 b hb).2.2 h1
           ·have := (l3 b hb).2; omega
          ·rcases hbk b hb with h1 | h1
           ·exact (d2 b h1).1 hx
           ·have := (l5 b hx).2; omega
          ·rcases hbk6 b hx with h1 | h1
           ·rcases hbk b hb with h2 | h2
            ·exact (d2 b h2).2 h1
            ·have := (l6 b h1).2; omega
           ·have := (k4.blk b hb).2; omega
          ·rcases hbk6 b hx with h1 | h1
           ·exact d3 b hb h1
           ·have := (l5 b hb).2; omega
         exact AllReadyH.nil
        exact AllReadyH.nil
       exact AllReadyH.nil
      exact AllReadyH.nil
     exact AllReadyH.nil
    exact AllReadyH.nil
   exact AllReadyH.nil
  exact AllReadyH.nil
 refine rcx (fun K hK => ?_) ?_
 ·go_simp
  go_at_call 71
  refine (i_MailCopy (tMail.reach hm1 (belx)) hzm).mono ?_
  rintro e w2 ⟨cs1, Fd, rfl, hOd, hNd0, hb2⟩
  have hs2 : Bel w1 w2 := bel_trans (show Bel w1 w1.drew from (belx)) hb2
  have hNd : New w1.heap.size Fd := hNd0.lower (by simp)
  have hOk := hOd
  obtain ⟨oA1, oc1, oF1, rfl, -, -, -, -, -⟩ := openOMail hOd
  clear hOd hNd0
  have X2 := X1.below hs2 X1.size
  have M2 := M1.below hs2 M1.size
  have M2a := M2.alloc (.cells ([.int .i64 m.1, .slice oA1 m.2.length oc1].toArray) 62)
  have X2a := X2.alloc (.cells ([.int .i64 m.1, .slice oA1 m.2.length oc1].toArray) 62)
  have xa4 := X2.cell 4
  have xb4 := X2a.cell 4
  have zw2 := hs2.size
  go_wp2_with fail
  refine hK.out _ _ ⟨(M2).cell 0, (M2).cell 1⟩ (fun hHeld => ?_)
  clear hK K
  (try simp only [Act.put, qa_, qb_, qc_])
  refine rdx [5, 8] ?_
  refine rcx (fun K hK => ?_) ?_
  ·go_simp
   refine hK.out _ _ ⟨(M2).cell 0, (M2).cell 1⟩ (fun hHeld => ?_)
   clear hK K
   (try simp only [Act.put, qa_, qb_, qc_])
   refine rdx [8] ?_
   refine rcx (fun K hK => ?_) ?_
   ·go_simp
    refine hK.out _ _ ⟨(M2a).cell 0, (M2a).cell 1⟩ (fun hHeld => ?_)
    clear hK K
    (try simp only [Act.put, qa_, qb_, qc_])
    refine rdx [9] ?_
    refine rcx (fun K hK => ?_) ?_
    ·have hBx : Bel w1 (w2.alloc (.cells ([.int .i64 m.1, .slice oA1 m.2.length oc1].toArray) 62)) := bel_alloc hs2 _
     obtain ⟨xs, hrow, hpush⟩ := (g4.below hBx).row
     have hS2 : Src (w2.alloc (.cells ([.int .i64 m.1, .slice oA1 m.2.length oc1].toArray) 62)) 2 (some ⟨w2.heap.size, 0, none⟩) 1 [.int .i64 m.1, .slice oA1 m.2.length oc1] := Src.of_box w2 62 [.int .i64 m.1, .slice oA1 m.2.length oc1] (K := 2) rfl
     have tz : (Value.agg #[Value.int .i64 0, Value.slice none 0 0]).cells.size = 2 := lev
     have t0 : ∀ u ∈ ([.int .i64 m.1, .slice oA1 m.2.length oc1] : List Value), u.oneCell' = true := (by intro u hu; simp only [List.mem_cons, List.not_mem_nil, or_false] at hu; rcases hu with rfl | rfl <;> rfl)
     have tt1 : (d.2.2.2.2.1).length + 1 ≤ maxLen := (by simp only [maxLen]; omega)
     have tt2 : ((d.2.2.2.2.1).length + 1) * 32 ≤ 140737488355328 := (by omega)
     have tt3 := hBx.size
     refine step_app5 _ (by rfl) (.tmp 16) (.tmp 19) _ (by rfl) lo 62 i4 _ 2 32 Tryz.underlying31 hj04 hj14 hj24 hj34 tz (by omega) _ _ xs (by rfl) hrow _ 1 1 [.int .i64 m.1, .slice oA1 m.2.length oc1] (by rfl) hS2 t0 tt1 tt2 (by omega) ?_
     intro v2 w3 hown2 hgr2 hat2
     have hOel : tMail.O (w2.alloc (.cells ([.int .i64 m.1, .slice oA1 m.2.length oc1].toArray) 62)) [.int .i64 m.1, .slice oA1 m.2.length oc1] m Fd := Ty.below (t := tMail) hOk (belx)
     have hNel : New lo Fd := hNd.lower (by omega)
     have hdis : ∀ f ∈ Fd, f ∉ F4 := (fun f h1 h2 => by have := hNd.2 _ h1; have := lt4 f h2; omega)
     have hod : ∀ b, (Value.slice A4 n4 c4).ownBlock = some b → b ∉ Fd := (fun b hb hx => by have := (own4 b hb).2; have := hNd.2 _ hx; omega)
     have hfin := hpush w3 v2 m _ Fd hOel hNel hdis hod hown2 hgr2 hat2
     obtain ⟨A8, n8, c8, rfl, -⟩ := hfin.shapeN
     have hbk : ∀ b, Blk (.slice A8 n8 c8) (F4 ++ Fd) b → Blk (.slice A4 n4 c4) F4 b ∨ w1.heap.size ≤ b := fun b hb => by
      rcases hb with hb | hb
      ·rcases hat2 with h1 | h1
       ·exact .inl (.inl (h1.symm.trans hb))
       ·right; have e := Option.some.inj (h1.symm.trans hb); have := hBx.size; omega
      ·rcases List.mem_append.1 hb with hb | hb
       ·exact .inl (.inr hb)
       ·exact .inr (hNd.2 b hb)
     have X3 := Box.grown (X2.alloc _) hgr2 (fun e => t4 (.inl e.symm))
     have M3 := Box.grown (M2.alloc _) hgr2 (fun e => by have := (own4w _ e.symm).2; omega)
     have j3 := (g3.below hBx).past hgr2 (fun b hb hx => (d1 b hx).1 (.inl hb))
     have j5 := (g5.below hBx).past hgr2 (fun b hb hx => (d2 b (.inl hb)).1 hx)
     have j6 := (g6.below hBx).past hgr2 (fun b hb hx => (d2 b (.inl hb)).2 hx)
     have x3c := X3.cell 4
     have x3f := X3.frozen 4
     have zw3 := hgr2.size
     have nb : ¬ Blk (.slice A8 n8 c8) (F4 ++ Fd) tb := fun hx => by rcases hbk _ hx with h1 | h1; exact t4 h1; omega
     have k3 := j3.putN (p := ⟨tb, 4, none⟩) t3 (.slice A8 n8 c8)
     have k4 := hfin.putN (p := ⟨tb, 4, none⟩) nb (.slice A8 n8 c8)
     have k5 := j5.putN (p := ⟨tb, 4, none⟩) t5 (.slice A8 n8 c8)
     have k6 := j6.putN (p := ⟨tb, 4, none⟩) t6 (.slice A8 n8 c8)
     have XF : Box (w3.setCell ⟨tb, 4, none⟩ (.slice A8 n8 c8)) tb 68 #[.int .i64 d.1, .int .i64 d.2.1, .int .i64 d.2.2.1, .slice A3 n3 c3, .slice A8 n8 c8, .slice A5 n5 c5, .slice A6 n6 c6] := X3.put 4 (.slice A8 n8 c8)
     have MF := M3.far (p := ⟨tb, 4, none⟩) fsz (.slice A8 n8 c8)
     have BF : Below lo w (w3.setCell ⟨tb, 4, none⟩ (.slice A8 n8 c8)) := ((hs1.mono hlo).trans (Below.grown (hBx.mono (by omega)) hgr2 (by omega) (fun b hb => (own4 b hb).1))).setCell fsz _
     have zF : w1.heap.size ≤ (w3.setCell ⟨tb, 4, none⟩ (.slice A8 n8 c8)).heap.size := by simp [World.setCell]; omega
     refine hK.out _ _ ⟨(M3).cell 0, (M3).cell 1⟩ (fun hHeld => ?_)
     clear hK K
     (try simp only [Act.put, qa_, qb_, qc_])
     refine tkx 10 (some 21) ?_
     refine tkx 11 (some 22) ?_
     refine tkx 12 (some 23) ?_
     refine rdx [13] ?_
     refine rcx (fun K hK => ?_) ?_
     ·go_simp
      refine hK.out _ _ ⟨(MF).cell 0, (MF).cell 1⟩ (fun hHeld => ?_)
      clear hK K
      (try simp only [Act.put, qa_, qb_, qc_])
      refine rex ?_ _
      generalize (w3.setCell ⟨tb, 4, none⟩ (.slice A8 n8 c8)) = w4 at *
      have XFa := XF.alloc (.cells ([.int .i64 d.1, .int .i64 m.1].toArray) 113)
      have MFa := MF.alloc (.cells ([.int .i64 d.1, .int .i64 m.1].toArray) 113)
      have u6c := XF.cell 6
      have u6a := XFa.cell 6
      clear hHeld
      go_wp2_with fail
      refine wp_region_held_drew (S := (fun w' => w'.cell? ⟨tb, 0, none⟩ = some (.int .i64 d.1) ∧ w'.cell? ⟨w.heap.size, 0, none⟩ = some (.int .i64 m.1))) (by kernel_rfl) (by exact ⟨(XF).cell 0, (MF).cell 0⟩) (fun hHeld => ?_)
      refine tkx 0 (some 24) ?_
      refine tkx 1 (some 25) ?_
      refine tkx 2 (some 26) ?_
      refine tkx 3 (some 27) ?_
      refine tkx 4 (some 28) ?_
      refine tkx 6 (some 30) ?_
      refine tkx 7 (some 31) ?_
      refine tkx 8 (some 32) ?_
      refine tkx 9 (some 33) ?_
      refine tkx 10 (some 34) ?_
      refine tkx 11 (some 35) ?_
      refine tkx 12 (some 36) ?_
      refine tkx 13 (some 37) ?_
      refine rdx [5, 14] ?_
      refine rcx (fun K hK => ?_) ?_
      ·go_simp
       refine hK.out _ _ ⟨(XF).cell 0, (MF).cell 0⟩ (fun hHeld => ?_)
       clear hK K
       (try simp only [Act.put, qa_, qb_, qc_])
       refine rdx [14] ?_
       refine rcx (fun K hK => ?_) ?_
       ·go_simp
        refine hK.out _ _ ⟨(XFa).cell 0, (MFa).cell 0⟩ (fun hHeld => ?_)
        clear hK K
        (try simp only [Act.put, qa_, qb_, qc_])
        refine rdx [15] ?_
        refine rcx (fun K hK => ?_) ?_
        ·have hBg : Bel w4 ((w4.alloc (.cells ([.int .i64 d.1, .int .i64 m.1].toArray) 113)).drew) := (belx)
         obtain ⟨xs6, hrow6, hpush6⟩ := (k6.below hBg).row
         have hS6 : Src ((w4.alloc (.cells ([.int .i64 d.1, .int .i64 m.1].toArray) 113)).drew) 2 (some ⟨w4.heap.size, 0, none⟩) 1 [.int .i64 d.1, .int .i64 m.1] := Src.of_boxed (e := 113) (Box.drew (Box.new w4 _ _)) rfl
         have tz6 : (Value.agg #[Value.int .i64 0, Value.int .i64 0]).cells.size = 2 := lev
         have t06 : ∀ u ∈ ([.int .i64 d.1, .int .i64 m.1] : List Value), u.oneCell' = true := (by intro u hu; simp only [List.mem_cons, List.not_mem_nil, or_false] at hu; rcases hu with rfl | rfl <;> rfl)
         have tt16 : (d.2.2.2.2.2.2).length + 1 ≤ maxLen := (by simp only [maxLen]; omega)
         have tt26 : ((d.2.2.2.2.2.2).length + 1) * 16 ≤ 140737488355328 := (by omega)
         have tt36 := hBg.size
         refine step_app5 _ (by rfl) (.tmp 29) (.tmp 38) _ (by rfl) lo 113 i6 _ 2 16 Tryz.underlying33 hj06 hj16 hj26 hj36 tz6 (by omega) _ _ xs6 (by rfl) hrow6 _ 1 1 [.int .i64 d.1, .int .i64 m.1] (by rfl) hS6 t06 tt16 tt26 (by omega) ?_
         intro v6 w5 hown6 hgr6 hat6
         have hfin6 := hpush6 w5 v6 (d.1, m.1) _ [] (glO2 HD.out HM.out) (New.nil _) (fun f hf => absurd hf (by simp)) (fun b hb => by simp) hown6 hgr6 hat6
         obtain ⟨A7, n7, c7, rfl, -⟩ := hfin6.shapeN
         have hbk6 : ∀ b, Blk (.slice A7 n7 c7) [] b → Blk (.slice A6 n6 c6) [] b ∨ w4.heap.size ≤ b := fun b hb => by
          rcases hb with hb | hb
          ·rcases hat6 with h1 | h1
           ·exact .inl (.inl (h1.symm.trans hb))
           ·right; have e := Option.some.inj (h1.symm.trans hb); have := hBg.size; omega
          ·exact absurd hb (by simp)
         have X5 := Box.grown (Box.drew (XF.alloc _)) hgr6 (fun e => t6 (.inl e.symm))
         have M5 := Box.grown (Box.drew (MF.alloc _)) hgr6 (fun e => by have := (own6w _ e.symm).2; omega)
         have y3 := (k3.below hBg).past hgr6 (fun b hb hx => (d1 b hx).2.2 (.inl hb))
         have y4 := (k4.below hBg).past hgr6 (fun b hb hx => by rcases hbk b hx with h1 | h1; exact (d2 b h1).2 (.inl hb); (have := (own6w b hb).2; omega))
         have y5 := (k5.below hBg).past hgr6 (fun b hb hx => d3 b hx (.inl hb))
         have x5c := X5.cell 6
         have x5f := X5.frozen 6
         have zw5 := hgr6.size
         have nb6 : ¬ Blk (.slice A7 n7 c7) [] tb := fun hx => by rcases hbk6 _ hx with h1 | h1; exact t6 h1; omega
         have r3 := y3.putN (p := ⟨tb, 6, none⟩) t3 (.slice A7 n7 c7)
         have r4 := y4.putN (p := ⟨tb, 6, none⟩) nb (.slice A7 n7 c7)
         have r5 := y5.putN (p := ⟨tb, 6, none⟩) t5 (.slice A7 n7 c7)
         have r6 := hfin6.putN (p := ⟨tb, 6, none⟩) nb6 (.slice A7 n7 c7)
         have XG : Box (w5.setCell ⟨tb, 6, none⟩ (.slice A7 n7 c7)) tb 68 #[.int .i64 d.1, .int .i64 d.2.1, .int .i64 d.2.2.1, .slice A3 n3 c3, .slice A8 n8 c8, .slice A5 n5 c5, .slice A7 n7 c7] := X5.put 6 (.slice A7 n7 c7)
         have MG := M5.far (p := ⟨tb, 6, none⟩) fsz (.slice A7 n7 c7)
         have BG : Below lo w (w5.setCell ⟨tb, 6, none⟩ (.slice A7 n7 c7)) := (BF.trans (Below.grown (hBg.mono (by omega)) hgr6 (by omega) (fun b hb => (own6 b hb).1))).setCell fsz _
         refine hK.out _ _ ⟨(X5).cell 0, (M5).cell 0⟩ (fun hHeld => ?_)
         clear hK K
         (try simp only [Act.put, qa_, qb_, qc_])
         refine tkx 16 (some 40) ?_
         refine tkx 17 (some 41) ?_
         refine tkx 18 (some 42) ?_
         refine rdx [19] ?_
         refine rcx (fun K hK => ?_) ?_
         ·go_simp
          refine hK.out _ _ ⟨(XG).cell 0, (MG).cell 0⟩ (fun hHeld => ?_)
          clear hK K
          (try simp only [Act.put, qa_, qb_, qc_])
          refine rex ?_ _
          go_wp2
          go_ret
          refine ⟨rfl, ⟨_, _, _, _, F3, F4 ++ Fd, F5, XG, r3, r4, r5, r6, fun b hb => ⟨fun hx => ?_, (d1 b hb).2.1, fun hx => ?_⟩, fun b hb => ⟨fun hx => ?_, fun hx => ?_⟩, fun b hb hx => ?_, t3, nb, t5, nb6, hlt⟩, BG⟩
          ·rcases hbk b hx with h1 | h1
           ·exact (d1 b hb).1 h1
           ·have := (l3 b hb).2; omega
          ·rcases hbk6 b hx with h1 | h1
           ·exact (d1 b hb).2.2 h1
           ·have := (l3 b hb).2; omega
          ·rcases hbk b hb with h1 | h1
           ·exact (d2 b h1).1 hx
           ·have := (l5 b hx).2; omega
          ·rcases hbk6 b hx with h1 | h1
           ·rcases hbk b hb with h2 | h2
            ·exact (d2 b h2).2 h1
            ·have := (l6 b h1).2; omega
           ·have := (k4.blk b hb).2; omega
          ·rcases hbk6 b hx with h1 | h1
           ·exact d3 b hb h1
           ·have := (l5 b hb).2; omega
         exact AllReadyH.nil
        exact AllReadyH.nil
       exact AllReadyH.nil
      refine rcx (fun K hK => ?_) ?_
      ·go_simp
       refine hK.out _ _ ⟨(XFa).cell 0, (MFa).cell 0⟩ (fun hHeld => ?_)
       clear hK K
       (try simp only [Act.put, qa_, qb_, qc_])
       refine rdx [5] ?_
       refine rcx (fun K hK => ?_) ?_
       ·go_simp
        refine hK.out _ _ ⟨(XFa).cell 0, (MFa).cell 0⟩ (fun hHeld => ?_)
        clear hK K
        (try simp only [Act.put, qa_, qb_, qc_])
        refine rdx [15] ?_
        refine rcx (fun K hK => ?_) ?_
        ·have hBg : Bel w4 ((w4.alloc (.cells ([.int .i64 d.1, .int .i64 m.1].toArray) 113)).drew) := (belx)
         obtain ⟨xs6, hrow6, hpush6⟩ := (k6.below hBg).row
         have hS6 : Src ((w4.alloc (.cells ([.int .i64 d.1, .int .i64 m.1].toArray) 113)).drew) 2 (some ⟨w4.heap.size, 0, none⟩) 1 [.int .i64 d.1, .int .i64 m.1] := Src.of_boxed (e := 113) (Box.drew (Box.new w4 _ _)) rfl
         have tz6 : (Value.agg #[Value.int .i64 0, Value.int .i64 0]).cells.size = 2 := lev
         have t06 : ∀ u ∈ ([.int .i64 d.1, .int .i64 m.1] : List Value), u.oneCell' = true := (by intro u hu; simp only [List.mem_cons, List.not_mem_nil, or_false] at hu; rcases hu with rfl | rfl <;> rfl)
         have tt16 : (d.2.2.2.2.2.2).length + 1 ≤ maxLen := (by simp only [maxLen]; omega)
         have tt26 : ((d.2.2.2.2.2.2).length + 1) * 16 ≤ 140737488355328 := (by omega)
         have tt36 := hBg.size
         refine step_app5 _ (by rfl) (.tmp 29) (.tmp 38) _ (by rfl) lo 113 i6 _ 2 16 Tryz.underlying33 hj06 hj16 hj26 hj36 tz6 (by omega) _ _ xs6 (by rfl) hrow6 _ 1 1 [.int .i64 d.1, .int .i64 m.1] (by rfl) hS6 t06 tt16 tt26 (by omega) ?_
         intro v6 w5 hown6 hgr6 hat6
         have hfin6 := hpush6 w5 v6 (d.1, m.1) _ [] (glO2 HD.out HM.out) (New.nil _) (fun f hf => absurd hf (by simp)) (fun b hb => by simp) hown6 hgr6 hat6
         obtain ⟨A7, n7, c7, rfl, -⟩ := hfin6.shapeN
         have hbk6 : ∀ b, Blk (.slice A7 n7 c7) [] b → Blk (.slice A6 n6 c6) [] b ∨ w4.heap.size ≤ b := fun b hb => by
          rcases hb with hb | hb
          ·rcases hat6 with h1 | h1
           ·exact .inl (.inl (h1.symm.trans hb))
           ·right; have e := Option.some.inj (h1.symm.trans hb); have := hBg.size; omega
          ·exact absurd hb (by simp)
         have X5 := Box.grown (Box.drew (XF.alloc _)) hgr6 (fun e => t6 (.inl e.symm))
         have M5 := Box.grown (Box.drew (MF.alloc _)) hgr6 (fun e => by have := (own6w _ e.symm).2; omega)
         have y3 := (k3.below hBg).past hgr6 (fun b hb hx => (d1 b hx).2.2 (.inl hb))
         have y4 := (k4.below hBg).past hgr6 (fun b hb hx => by rcases hbk b hx with h1 | h1; exact (d2 b h1).2 (.inl hb); (have := (own6w b hb).2; omega))
         have y5 := (k5.below hBg).past hgr6 (fun b hb hx => d3 b hx (.inl hb))
         have x5c := X5.cell 6
         have x5f := X5.frozen 6
         have zw5 := hgr6.size
         have nb6 : ¬ Blk (.slice A7 n7 c7) [] tb := fun hx => by rcases hbk6 _ hx with h1 | h1; exact t6 h1; omega
         have r3 := y3.putN (p := ⟨tb, 6, none⟩) t3 (.slice A7 n7 c7)
         have r4 := y4.putN (p := ⟨tb, 6, none⟩) nb (.slice A7 n7 c7)
         have r5 := y5.putN (p := ⟨tb, 6, none⟩) t5 (.slice A7 n7 c7)
         have r6 := hfin6.putN (p := ⟨tb, 6, none⟩) nb6 (.slice A7 n7 c7)
         have XG : Box (w5.setCell ⟨tb, 6, none⟩ (.slice A7 n7 c7)) tb 68 #[.int .i64 d.1, .int .i64 d.2.1, .int .i64 d.2.2.1, .slice A3 n3 c3, .slice A8 n8 c8, .slice A5 n5 c5, .slice A7 n7 c7] := X5.put 6 (.slice A7 n7 c7)
         have MG := M5.far (p := ⟨tb, 6, none⟩) fsz (.slice A7 n7 c7)
         have BG : Below lo w (w5.setCell ⟨tb, 6, none⟩ (.slice A7 n7 c7)) := (BF.trans (Below.grown (hBg.mono (by omega)) hgr6 (by omega) (fun b hb => (own6 b hb).1))).setCell fsz _
         refine hK.out _ _ ⟨(X5).cell 0, (M5).cell 0⟩ (fun hHeld => ?_)
         clear hK K
         (try simp only [Act.put, qa_, qb_, qc_])
         refine tkx 16 (some 40) ?_
         refine tkx 17 (some 41) ?_
         refine tkx 18 (some 42) ?_
         refine rdx [19] ?_
         refine rcx (fun K hK => ?_) ?_
         ·go_simp
          refine hK.out _ _ ⟨(XG).cell 0, (MG).cell 0⟩ (fun hHeld => ?_)
          clear hK K
          (try simp only [Act.put, qa_, qb_, qc_])
          refine rex ?_ _
          go_wp2
          go_ret
          refine ⟨rfl, ⟨_, _, _, _, F3, F4 ++ Fd, F5, XG, r3, r4, r5, r6, fun b hb => ⟨fun hx => ?_, (d1 b hb).2.1, fun hx => ?_⟩, fun b hb => ⟨fun hx => ?_, fun hx => ?_⟩, fun b hb hx => ?_, t3, nb, t5, nb6, hlt⟩, BG⟩
          ·rcases hbk b hx with h1 | h1
           ·exact (d1 b hb).1 h1
           ·have := (l3 b hb).2; omega
          ·rcases hbk6 b hx with h1 | h1
           ·exact (d1 b hb).2.2 h1
           ·have := (l3 b hb).2; omega
          ·rcases hbk b hb with h1 | h1
           ·exact (d2 b h1).1 hx
           ·have := (l5 b hx).2; omega
          ·rcases hbk6 b hx with h1 | h1
           ·rcases hbk b hb with h2 | h2
            ·exact (d2 b h2).2 h1
            ·have := (l6 b h1).2; omega
           ·have := (k4.blk b hb).2; omega
          ·rcases hbk6 b hx with h1 | h1
           ·exact d3 b hb h1
           ·have := (l5 b hb).2; omega
         exact AllReadyH.nil
        exact AllReadyH.nil
       exact AllReadyH.nil
      exact AllReadyH.nil
     exact AllReadyH.nil
    exact AllReadyH.nil
   exact AllReadyH.nil
  refine rcx (fun K hK => ?_) ?_
  ·go_simp
   refine hK.out _ _ ⟨(M2a).cell 0, (M2a).cell 1⟩ (fun hHeld => ?_)
   clear hK K
   (try simp only [Act.put, qa_, qb_, qc_])
   refine rdx [5] ?_
   refine rcx (fun K hK => ?_) ?_
   ·go_simp
    refine hK.out _ _ ⟨(M2a).cell 0, (M2a).cell 1⟩ (fun hHeld => ?_)
    clear hK K
    (try simp only [Act.put, qa_, qb_, qc_])
    refine rdx [9] ?_
    refine rcx (fun K hK => ?_) ?_
    ·have hBx : Bel w1 (w2.alloc (.cells ([.int .i64 m.1, .slice oA1 m.2.length oc1].toArray) 62)) := bel_alloc hs2 _
     obtain ⟨xs, hrow, hpush⟩ := (g4.below hBx).row
     have hS2 : Src (w2.alloc (.cells ([.int .i64 m.1, .slice oA1 m.2.length oc1].toArray) 62)) 2 (some ⟨w2.heap.size, 0, none⟩) 1 [.int .i64 m.1, .slice oA1 m.2.length oc1] := Src.of_box w2 62 [.int .i64 m.1, .slice oA1 m.2.length oc1] (K := 2) rfl
     have tz : (Value.agg #[Value.int .i64 0, Value.slice none 0 0]).cells.size = 2 := lev
     have t0 : ∀ u ∈ ([.int .i64 m.1, .slice oA1 m.2.length oc1] : List Value), u.oneCell' = true := (by intro u hu; simp only [List.mem_cons, List.not_mem_nil, or_false] at hu; rcases hu with rfl | rfl <;> rfl)
     have tt1 : (d.2.2.2.2.1).length + 1 ≤ maxLen := (by simp only [maxLen]; omega)
     have tt2 : ((d.2.2.2.2.1).length + 1) * 32 ≤ 140737488355328 := (by omega)
     have tt3 := hBx.size
     refine step_app5 _ (by rfl) (.tmp 16) (.tmp 19) _ (by rfl) lo 62 i4 _ 2 32 Tryz.underlying31 hj04 hj14 hj24 hj34 tz (by omega) _ _ xs (by rfl) hrow _ 1 1 [.int .i64 m.1, .slice oA1 m.2.length oc1] (by rfl) hS2 t0 tt1 tt2 (by omega) ?_
     intro v2 w3 hown2 hgr2 hat2
     have hOel : tMail.O (w2.alloc (.cells ([.int .i64 m.1, .slice oA1 m.2.length oc1].toArray) 62)) [.int .i64 m.1, .slice oA1 m.2.length oc1] m Fd := Ty.below (t := tMail) hOk (belx)
     have hNel : New lo Fd := hNd.lower (by omega)
     have hdis : ∀ f ∈ Fd, f ∉ F4 := (fun f h1 h2 => by have := hNd.2 _ h1; have := lt4 f h2; omega)
     have hod : ∀ b, (Value.slice A4 n4 c4).ownBlock = some b → b ∉ Fd := (fun b hb hx => by have := (own4 b hb).2; have := hNd.2 _ hx; omega)
     have hfin := hpush w3 v2 m _ Fd hOel hNel hdis hod hown2 hgr2 hat2
     obtain ⟨A8, n8, c8, rfl, -⟩ := hfin.shapeN
     have hbk : ∀ b, Blk (.slice A8 n8 c8) (F4 ++ Fd) b → Blk (.slice A4 n4 c4) F4 b ∨ w1.heap.size ≤ b := fun b hb => by
      rcases hb with hb | hb
      ·rcases hat2 with h1 | h1
       ·exact .inl (.inl (h1.symm.trans hb))
       ·right; have e := Option.some.inj (h1.symm.trans hb); have := hBx.size; omega
      ·rcases List.mem_append.1 hb with hb | hb
       ·exact .inl (.inr hb)
       ·exact .inr (hNd.2 b hb)
     have X3 := Box.grown (X2.alloc _) hgr2 (fun e => t4 (.inl e.symm))
     have M3 := Box.grown (M2.alloc _) hgr2 (fun e => by have := (own4w _ e.symm).2; omega)
     have j3 := (g3.below hBx).past hgr2 (fun b hb hx => (d1 b hx).1 (.inl hb))
     have j5 := (g5.below hBx).past hgr2 (fun b hb hx => (d2 b (.inl hb)).1 hx)
     have j6 := (g6.below hBx).past hgr2 (fun b hb hx => (d2 b (.inl hb)).2 hx)
     have x3c := X3.cell 4
     have x3f := X3.frozen 4
     have zw3 := hgr2.size
     have nb : ¬ Blk (.slice A8 n8 c8) (F4 ++ Fd) tb := fun hx => by rcases hbk _ hx with h1 | h1; exact t4 h1; omega
     have k3 := j3.putN (p := ⟨tb, 4, none⟩) t3 (.slice A8 n8 c8)
     have k4 := hfin.putN (p := ⟨tb, 4, none⟩) nb (.slice A8 n8 c8)
     have k5 := j5.putN (p := ⟨tb, 4, none⟩) t5 (.slice A8 n8 c8)
     have k6 := j6.putN (p := ⟨tb, 4, none⟩) t6 (.slice A8 n8 c8)
     have XF : Box (w3.setCell ⟨tb, 4, none⟩ (.slice A8 n8 c8)) tb 68 #[.int .i64 d.1, .int .i64 d.2.1, .int .i64 d.2.2.1, .slice A3 n3 c3, .slice A8 n8 c8, .slice A5 n5 c5, .slice A6 n6 c6] := X3.put 4 (.slice A8 n8 c8)
     have MF := M3.far (p := ⟨tb, 4, none⟩) fsz (.slice A8 n8 c8)
     have BF : Below lo w (w3.setCell ⟨tb, 4, none⟩ (.slice A8 n8 c8)) := ((hs1.mono hlo).trans (Below.grown (hBx.mono (by omega)) hgr2 (by omega) (fun b hb => (own4 b hb).1))).setCell fsz _
     have zF : w1.heap.size ≤ (w3.setCell ⟨tb, 4, none⟩ (.slice A8 n8 c8)).heap.size := by simp [World.setCell]; omega
     refine hK.out _ _ ⟨(M3).cell 0, (M3).cell 1⟩ (fun hHeld => ?_)
     clear hK K
     (try simp only [Act.put, qa_, qb_, qc_])
     refine tkx 10 (some 21) ?_
     refine tkx 11 (some 22) ?_
     refine tkx 12 (some 23) ?_
     refine rdx [13] ?_
     refine rcx (fun K hK => ?_) ?_
     ·go_simp
      refine hK.out _ _ ⟨(MF).cell 0, (MF).cell 1⟩ (fun hHeld => ?_)
      clear hK K
      (try simp only [Act.put, qa_, qb_, qc_])
      refine rex ?_ _
      generalize (w3.setCell ⟨tb, 4, none⟩ (.slice A8 n8 c8)) = w4 at *
      have XFa := XF.alloc (.cells ([.int .i64 d.1, .int .i64 m.1].toArray) 113)
      have MFa := MF.alloc (.cells ([.int .i64 d.1, .int .i64 m.1].toArray) 113)
      have u6c := XF.cell 6
      have u6a := XFa.cell 6
      clear hHeld
      go_wp2_with fail
      refine wp_region_held_drew (S := (fun w' => w'.cell? ⟨tb, 0, none⟩ = some (.int .i64 d.1) ∧ w'.cell? ⟨w.heap.size, 0, none⟩ = some (.int .i64 m.1))) (by kernel_rfl) (by exact ⟨(XF).cell 0, (MF).cell 0⟩) (fun hHeld => ?_)
      refine tkx 0 (some 24) ?_
      refine tkx 1 (some 25) ?_
      refine tkx 2 (some 26) ?_
      refine tkx 3 (some 27) ?_
      refine tkx 4 (some 28) ?_
      refine tkx 6 (some 30) ?_
      refine tkx 7 (some 31) ?_
      refine tkx 8 (some 32) ?_
      refine tkx 9 (some 33) ?_
      refine tkx 10 (some 34) ?_
      refine tkx 11 (some 35) ?_
      refine tkx 12 (some 36) ?_
      refine tkx 13 (some 37) ?_
      refine rdx [5, 14] ?_
      refine rcx (fun K hK => ?_) ?_
      ·go_simp
       refine hK.out _ _ ⟨(XF).cell 0, (MF).cell 0⟩ (fun hHeld => ?_)
       clear hK K
       (try simp only [Act.put, qa_, qb_, qc_])
       refine rdx [14] ?_
       refine rcx (fun K hK => ?_) ?_
       ·go_simp
        refine hK.out _ _ ⟨(XFa).cell 0, (MFa).cell 0⟩ (fun hHeld => ?_)
        clear hK K
        (try simp only [Act.put, qa_, qb_, qc_])
        refine rdx [15] ?_
        refine rcx (fun K hK => ?_) ?_
        ·have hBg : Bel w4 ((w4.alloc (.cells ([.int .i64 d.1, .int .i64 m.1].toArray) 113)).drew) := (belx)
         obtain ⟨xs6, hrow6, hpush6⟩ := (k6.below hBg).row
         have hS6 : Src ((w4.alloc (.cells ([.int .i64 d.1, .int .i64 m.1].toArray) 113)).drew) 2 (some ⟨w4.heap.size, 0, none⟩) 1 [.int .i64 d.1, .int .i64 m.1] := Src.of_boxed (e := 113) (Box.drew (Box.new w4 _ _)) rfl
         have tz6 : (Value.agg #[Value.int .i64 0, Value.int .i64 0]).cells.size = 2 := lev
         have t06 : ∀ u ∈ ([.int .i64 d.1, .int .i64 m.1] : List Value), u.oneCell' = true := (by intro u hu; simp only [List.mem_cons, List.not_mem_nil, or_false] at hu; rcases hu with rfl | rfl <;> rfl)
         have tt16 : (d.2.2.2.2.2.2).length + 1 ≤ maxLen := (by simp only [maxLen]; omega)
         have tt26 : ((d.2.2.2.2.2.2).length + 1) * 16 ≤ 140737488355328 := (by omega)
         have tt36 := hBg.size
         refine step_app5 _ (by rfl) (.tmp 29) (.tmp 38) _ (by rfl) lo 113 i6 _ 2 16 Tryz.underlying33 hj06 hj16 hj26 hj36 tz6 (by omega) _ _ xs6 (by rfl) hrow6 _ 1 1 [.int .i64 d.1, .int .i64 m.1] (by rfl) hS6 t06 tt16 tt26 (by omega) ?_
         intro v6 w5 hown6 hgr6 hat6
         have hfin6 := hpush6 w5 v6 (d.1, m.1) _ [] (glO2 HD.out HM.out) (New.nil _) (fun f hf => absurd hf (by simp)) (fun b hb => by simp) hown6 hgr6 hat6
         obtain ⟨A7, n7, c7, rfl, -⟩ := hfin6.shapeN
         have hbk6 : ∀ b, Blk (.slice A7 n7 c7) [] b → Blk (.slice A6 n6 c6) [] b ∨ w4.heap.size ≤ b := fun b hb => by
          rcases hb with hb | hb
          ·rcases hat6 with h1 | h1
           ·exact .inl (.inl (h1.symm.trans hb))
           ·right; have e := Option.some.inj (h1.symm.trans hb); have := hBg.size; omega
          ·exact absurd hb (by simp)
         have X5 := Box.grown (Box.drew (XF.alloc _)) hgr6 (fun e => t6 (.inl e.symm))
         have M5 := Box.grown (Box.drew (MF.alloc _)) hgr6 (fun e => by have := (own6w _ e.symm).2; omega)
         have y3 := (k3.below hBg).past hgr6 (fun b hb hx => (d1 b hx).2.2 (.inl hb))
         have y4 := (k4.below hBg).past hgr6 (fun b hb hx => by rcases hbk b hx with h1 | h1; exact (d2 b h1).2 (.inl hb); (have := (own6w b hb).2; omega))
         have y5 := (k5.below hBg).past hgr6 (fun b hb hx => d3 b hx (.inl hb))
         have x5c := X5.cell 6
         have x5f := X5.frozen 6
         have zw5 := hgr6.size
         have nb6 : ¬ Blk (.slice A7 n7 c7) [] tb := fun hx => by rcases hbk6 _ hx with h1 | h1; exact t6 h1; omega
         have r3 := y3.putN (p := ⟨tb, 6, none⟩) t3 (.slice A7 n7 c7)
         have r4 := y4.putN (p := ⟨tb, 6, none⟩) nb (.slice A7 n7 c7)
         have r5 := y5.putN (p := ⟨tb, 6, none⟩) t5 (.slice A7 n7 c7)
         have r6 := hfin6.putN (p := ⟨tb, 6, none⟩) nb6 (.slice A7 n7 c7)
         have XG : Box (w5.setCell ⟨tb, 6, none⟩ (.slice A7 n7 c7)) tb 68 #[.int .i64 d.1, .int .i64 d.2.1, .int .i64 d.2.2.1, .slice A3 n3 c3, .slice A8 n8 c8, .slice A5 n5 c5, .slice A7 n7 c7] := X5.put 6 (.slice A7 n7 c7)
         have MG := M5.far (p := ⟨tb, 6, none⟩) fsz (.slice A7 n7 c7)
         have BG : Below lo w (w5.setCell ⟨tb, 6, none⟩ (.slice A7 n7 c7)) := (BF.trans (Below.grown (hBg.mono (by omega)) hgr6 (by omega) (fun b hb => (own6 b hb).1))).setCell fsz _
         refine hK.out _ _ ⟨(X5).cell 0, (M5).cell 0⟩ (fun hHeld => ?_)
         clear hK K
         (try simp only [Act.put, qa_, qb_, qc_])
         refine tkx 16 (some 40) ?_
         refine tkx 17 (some 41) ?_
         refine tkx 18 (some 42) ?_
         refine rdx [19] ?_
         refine rcx (fun K hK => ?_) ?_
         ·go_simp
          refine hK.out _ _ ⟨(XG).cell 0, (MG).cell 0⟩ (fun hHeld => ?_)
          clear hK K
          (try simp only [Act.put, qa_, qb_, qc_])
          refine rex ?_ _
          go_wp2
          go_ret
          refine ⟨rfl, ⟨_, _, _, _, F3, F4 ++ Fd, F5, XG, r3, r4, r5, r6, fun b hb => ⟨fun hx => ?_, (d1 b hb).2.1, fun hx => ?_⟩, fun b hb => ⟨fun hx => ?_, fun hx => ?_⟩, fun b hb hx => ?_, t3, nb, t5, nb6, hlt⟩, BG⟩
          ·rcases hbk b hx with h1 | h1
           ·exact (d1 b hb).1 h1
           ·have := (l3 b hb).2; omega
          ·rcases hbk6 b hx with h1 | h1
           ·exact (d1 b hb).2.2 h1
           ·have := (l3 b hb).2; omega
          ·rcases hbk b hb with h1 | h1
           ·exact (d2 b h1).1 hx
           ·have := (l5 b hx).2; omega
          ·rcases hbk6 b hx with h1 | h1
           ·rcases hbk b hb with h2 | h2
            ·exact (d2 b h2).2 h1
            ·have := (l6 b h1).2; omega
           ·have := (k4.blk b hb).2; omega
          ·rcases hbk6 b hx with h1 | h1
           ·exact d3 b hb h1
           ·have := (l5 b hb).2; omega
         exact AllReadyH.nil
        exact AllReadyH.nil
       exact AllReadyH.nil
      refine rcx (fun K hK => ?_) ?_
      ·go_simp
       refine hK.out _ _ ⟨(XFa).cell 0, (MFa).cell 0⟩ (fun hHeld => ?_)
       clear hK K
       (try simp only [Act.put, qa_, qb_, qc_])
       refine rdx [5] ?_
       refine rcx (fun K hK => ?_) ?_
       ·go_simp
        refine hK.out _ _ ⟨(XFa).cell 0, (MFa).cell 0⟩ (fun hHeld => ?_)
        clear hK K
        (try simp only [Act.put, qa_, qb_, qc_])
        refine rdx [15] ?_
        refine rcx (fun K hK => ?_) ?_
        ·have hBg : Bel w4 ((w4.alloc (.cells ([.int .i64 d.1, .int .i64 m.1].toArray) 113)).drew) := (belx)
         obtain ⟨xs6, hrow6, hpush6⟩ := (k6.below hBg).row
         have hS6 : Src ((w4.alloc (.cells ([.int .i64 d.1, .int .i64 m.1].toArray) 113)).drew) 2 (some ⟨w4.heap.size, 0, none⟩) 1 [.int .i64 d.1, .int .i64 m.1] := Src.of_boxed (e := 113) (Box.drew (Box.new w4 _ _)) rfl
         have tz6 : (Value.agg #[Value.int .i64 0, Value.int .i64 0]).cells.size = 2 := lev
         have t06 : ∀ u ∈ ([.int .i64 d.1, .int .i64 m.1] : List Value), u.oneCell' = true := (by intro u hu; simp only [List.mem_cons, List.not_mem_nil, or_false] at hu; rcases hu with rfl | rfl <;> rfl)
         have tt16 : (d.2.2.2.2.2.2).length + 1 ≤ maxLen := (by simp only [maxLen]; omega)
         have tt26 : ((d.2.2.2.2.2.2).length + 1) * 16 ≤ 140737488355328 := (by omega)
         have tt36 := hBg.size
         refine step_app5 _ (by rfl) (.tmp 29) (.tmp 38) _ (by rfl) lo 113 i6 _ 2 16 Tryz.underlying33 hj06 hj16 hj26 hj36 tz6 (by omega) _ _ xs6 (by rfl) hrow6 _ 1 1 [.int .i64 d.1, .int .i64 m.1] (by rfl) hS6 t06 tt16 tt26 (by omega) ?_
         intro v6 w5 hown6 hgr6 hat6
         have hfin6 := hpush6 w5 v6 (d.1, m.1) _ [] (glO2 HD.out HM.out) (New.nil _) (fun f hf => absurd hf (by simp)) (fun b hb => by simp) hown6 hgr6 hat6
         obtain ⟨A7, n7, c7, rfl, -⟩ := hfin6.shapeN
         have hbk6 : ∀ b, Blk (.slice A7 n7 c7) [] b → Blk (.slice A6 n6 c6) [] b ∨ w4.heap.size ≤ b := fun b hb => by
          rcases hb with hb | hb
          ·rcases hat6 with h1 | h1
           ·exact .inl (.inl (h1.symm.trans hb))
           ·right; have e := Option.some.inj (h1.symm.trans hb); have := hBg.size; omega
          ·exact absurd hb (by simp)
         have X5 := Box.grown (Box.drew (XF.alloc _)) hgr6 (fun e => t6 (.inl e.symm))
         have M5 := Box.grown (Box.drew (MF.alloc _)) hgr6 (fun e => by have := (own6w _ e.symm).2; omega)
         have y3 := (k3.below hBg).past hgr6 (fun b hb hx => (d1 b hx).2.2 (.inl hb))
         have y4 := (k4.below hBg).past hgr6 (fun b hb hx => by rcases hbk b hx with h1 | h1; exact (d2 b h1).2 (.inl hb); (have := (own6w b hb).2; omega))
         have y5 := (k5.below hBg).past hgr6 (fun b hb hx => d3 b hx (.inl hb))
         have x5c := X5.cell 6
         have x5f := X5.frozen 6
         have zw5 := hgr6.size
         have nb6 : ¬ Blk (.slice A7 n7 c7) [] tb := fun hx => by rcases hbk6 _ hx with h1 | h1; exact t6 h1; omega
         have r3 := y3.putN (p := ⟨tb, 6, none⟩) t3 (.slice A7 n7 c7)
         have r4 := y4.putN (p := ⟨tb, 6, none⟩) nb (.slice A7 n7 c7)
         have r5 := y5.putN (p := ⟨tb, 6, none⟩) t5 (.slice A7 n7 c7)
         have r6 := hfin6.putN (p := ⟨tb, 6, none⟩) nb6 (.slice A7 n7 c7)
         have XG : Box (w5.setCell ⟨tb, 6, none⟩ (.slice A7 n7 c7)) tb 68 #[.int .i64 d.1, .int .i64 d.2.1, .int .i64 d.2.2.1, .slice A3 n3 c3, .slice A8 n8 c8, .slice A5 n5 c5, .slice A7 n7 c7] := X5.put 6 (.slice A7 n7 c7)
         have MG := M5.far (p := ⟨tb, 6, none⟩) fsz (.slice A7 n7 c7)
         have BG : Below lo w (w5.setCell ⟨tb, 6, none⟩ (.slice A7 n7 c7)) := (BF.trans (Below.grown (hBg.mono (by omega)) hgr6 (by omega) (fun b hb => (own6 b hb).1))).setCell fsz _
         refine hK.out _ _ ⟨(X5).cell 0, (M5).cell 0⟩ (fun hHeld => ?_)
         clear hK K
         (try simp only [Act.put, qa_, qb_, qc_])
         refine tkx 16 (some 40) ?_
         refine tkx 17 (some 41) ?_
         refine tkx 18 (some 42) ?_
         refine rdx [19] ?_
         refine rcx (fun K hK => ?_) ?_
         ·go_simp
          refine hK.out _ _ ⟨(XG).cell 0, (MG).cell 0⟩ (fun hHeld => ?_)
          clear hK K
          (try simp only [Act.put, qa_, qb_, qc_])
          refine rex ?_ _
          go_wp2
          go_ret
          refine ⟨rfl, ⟨_, _, _, _, F3, F4 ++ Fd, F5, XG, r3, r4, r5, r6, fun b hb => ⟨fun hx => ?_, (d1 b hb).2.1, fun hx => ?_⟩, fun b hb => ⟨fun hx => ?_, fun hx => ?_⟩, fun b hb hx => ?_, t3, nb, t5, nb6, hlt⟩, BG⟩
          ·rcases hbk b hx with h1 | h1
           ·exact (d1 b hb).1 h1
           ·have := (l3 b hb).2; omega
          ·rcases hbk6 b hx with h1 | h1
           ·exact (d1 b hb).2.2 h1
           ·have := (l3 b hb).2; omega
          ·rcases hbk b hb with h1 | h1
           ·exact (d2 b h1).1 hx
           ·have := (l5 b hx).2; omega
          ·rcases hbk6 b hx with h1 | h1
           ·rcases hbk b hb with h2 | h2
            ·exact (d2 b h2).2 h1
            ·have := (l6 b h1).2; omega
           ·have := (k4.blk b hb).2; omega
          ·rcases hbk6 b hx with h1 | h1
           ·exact d3 b hb h1
           ·have := (l5 b hb).2; omega
         exact AllReadyH.nil
        exact AllReadyH.nil
       exact AllReadyH.nil
      exact AllReadyH.nil
     exact AllReadyH.nil
    exact AllReadyH.nil
   exact AllReadyH.nil
  exact AllReadyH.nil
 exact AllReadyH.nil
end Go.Proofs.YtkdanlnhdgcplaaGreat
