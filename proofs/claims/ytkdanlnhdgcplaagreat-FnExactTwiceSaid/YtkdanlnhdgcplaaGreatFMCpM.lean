/-
  CpM: texts joined.
-/
import Derived.Test.YtkdanlnhdgcplaaGreatFGa
import Derived.Test.YtkdanlnhdgcplaaGreatFGe
import Derived.Test.YtkdanlnhdgcplaaGreatFMCpN
import Derived.Test.YtkdanlnhdgcplaaGreatFMShs
namespace Go.Proofs.YtkdanlnhdgcplaaGreat
set_option maxRecDepth 100000
set_option linter.unusedVariables false
set_option linter.unusedSimpArgs false
open Go.ChangeShapes Go.WideShapes Go.ChangeAt Go.RowKit
open Fld
theorem empty_rowK (w : World) (e : TypeId) (k base : Nat) (hb : base ≤ w.heap.size) : (w.alloc (.cells #[] e)).ownsRow base e k (.slice (some ⟨w.heap.size, 0, none⟩) 0 0) 0 [] :=
 ⟨by simp, .inr ⟨w.heap.size, 0, #[], rfl, hb, heap_alloc_new w _, Nat.le_refl _, by simp only [maxLen]; omega, by simp, by simp⟩⟩
theorem row_drew {w : World} {e : TypeId} {base k n : Nat} {v : Value} {xs : List Value} (h : w.ownsRow base e k v n xs) : w.drew.ownsRow base e k v n xs := h.kept (row := none) (gb_drew (World.grownBy.refl _ _)) (by cases v.ownBlock <;> simp)
theorem gl_own {w : World} {A : Option Addr} {n c : Nat} {l : List DGlance} {F : List Nat} (h : tGlance.row.O w [.slice A n c] l F) : ∀ f ∈ F, (Value.slice A n c).ownBlock = some f := by
 intro f hf
 rcases h with ⟨A', c', e1, _, _, rfl⟩ | ⟨g, off, cc, cur, e, Fs, e1, h0, h1, h2, h3, h4, rfl, h6⟩
 ·exact absurd hf (by simp)
 ·injection e1 with e1 _
  rw [e1]
  rcases List.mem_cons.1 hf with rfl | hf
  ·rfl
  ·obtain ⟨Fi, hFi, hfi⟩ := List.mem_flatten.1 hf
   obtain ⟨i, hi, rfl⟩ := List.getElem_of_mem hFi
   have hi' : i < l.length := by omega
   obtain ⟨es, _, k2⟩ := h6 i _ _ (List.getElem?_eq_getElem hi') (List.getElem?_eq_getElem hi)
   obtain ⟨-, e2, -, -⟩ := openOGlance k2
   rw [e2] at hfi
   exact absurd hfi (by simp)
set_option maxHeartbeats 2000000 in
theorem s_NetOwn {w : World} {cs : List Value} {p : DNet} (h : tNet.R w w.heap.size cs p) (hz : szNet p ≤ 1048576) :
  Calls Tryz.prog 22 #[.agg cs.toArray] w fun e w' => ∃ cs' F, e = .returned (.agg cs'.toArray) ∧ tNet.O w' cs' p F ∧ New w.heap.size F ∧ Bel w w' := by
 obtain ⟨ib, hi0, hz0, hz1, hz2⟩ := info_parts info_cb
 obtain ⟨ig, hg0, hg1, hg2, hg3⟩ := info_parts info_Glance
 obtain ⟨i3i, hj03, hj13, hj23, hj33⟩ := info_parts info_Node
 obtain ⟨i4i, hj04, hj14, hj24, hj34⟩ := info_parts info_Mail
 obtain ⟨i5i, hj05, hj15, hj25, hj35⟩ := info_parts info_Sent
 obtain ⟨A3, n3, c3, A4, n4, c4, A5, n5, c5, A6, n6, c6, rfl, i0, i1, i2, -, -, -, r3, -, -, -, r4, -, -, -, r5, -, -, -, r6⟩ := openNet h
 have n3le : n3 ≤ 1048576 := by have := rsz_le (s := szNode) (p.2.2.2.1); have := (rowR_len r3).1; unfold szNet at hz; omega
 have HL3 := Lib.hid (rowR_len r3).1
 have HSZ3 := Lib.hid (show ∀ (i : Nat) (a : DNode), (p.2.2.2.1)[i]? = some a → szNode a ≤ 1048576 from fun i a ha => by have := rsz_step (s := szNode) ha; unfold szNet at hz; omega)
 have n4le : n4 ≤ 1048576 := by have := rsz_le (s := szMail) (p.2.2.2.2.1); have := (rowR_len r4).1; unfold szNet at hz; omega
 have HL4 := Lib.hid (rowR_len r4).1
 have HSZ4 := Lib.hid (show ∀ (i : Nat) (a : DMail), (p.2.2.2.2.1)[i]? = some a → szMail a ≤ 1048576 from fun i a ha => by have := rsz_step (s := szMail) ha; unfold szNet at hz; omega)
 have n5le : n5 ≤ 1048576 := by have := rsz_le (s := szSent) (p.2.2.2.2.2.1); have := (rowR_len r5).1; unfold szNet at hz; omega
 have HL5 := Lib.hid (rowR_len r5).1
 have HSZ5 := Lib.hid (show ∀ (i : Nat) (a : DSent), (p.2.2.2.2.2.1)[i]? = some a → szSent a ≤ 1048576 from fun i a ha => by have := rsz_step (s := szSent) ha; unfold szNet at hz; omega)
 have n6le : n6 ≤ 1048576 := by have := rsz_le (s := szGlance) (p.2.2.2.2.2.2); have := (rowR_len r6).1; unfold szNet at hz; omega
 have HL6 := Lib.hid (rowR_len r6).1
 have PW : Box ((w.alloc (.cells #[.int .i64 p.1, .int .i64 p.2.1, .int .i64 p.2.2.1, .slice A3 n3 c3, .slice A4 n4 c4, .slice A5 n5 c5, .slice A6 n6 c6] 35)).alloc (.cells #[.int .i64 0, .int .i64 0, .int .i64 0, .slice none 0 0, .slice none 0 0, .slice none 0 0, .slice none 0 0] 35)) w.heap.size 35 #[.int .i64 p.1, .int .i64 p.2.1, .int .i64 p.2.2.1, .slice A3 n3 c3, .slice A4 n4 c4, .slice A5 n5 c5, .slice A6 n6 c6] := (Box.new w _ _).alloc _
 have RW : Box ((w.alloc (.cells #[.int .i64 p.1, .int .i64 p.2.1, .int .i64 p.2.2.1, .slice A3 n3 c3, .slice A4 n4 c4, .slice A5 n5 c5, .slice A6 n6 c6] 35)).alloc (.cells #[.int .i64 0, .int .i64 0, .int .i64 0, .slice none 0 0, .slice none 0 0, .slice none 0 0, .slice none 0 0] 35)) (w.heap.size + 1) 35 #[.int .i64 0, .int .i64 0, .int .i64 0, .slice none 0 0, .slice none 0 0, .slice none 0 0, .slice none 0 0] := by simpa using Box.new (w.alloc (.cells #[.int .i64 p.1, .int .i64 p.2.1, .int .i64 p.2.2.1, .slice A3 n3 c3, .slice A4 n4 c4, .slice A5 n5 c5, .slice A6 n6 c6] 35)) 35 #[.int .i64 0, .int .i64 0, .int .i64 0, .slice none 0 0, .slice none 0 0, .slice none 0 0, .slice none 0 0]
 have PWZ := PW.alloc (.cells #[.int .i64 0, .int .i64 0, .int .i64 0, .slice none 0 0, .slice none 0 0, .slice none 0 0, .slice none 0 0] 35)
 have RWZ := RW.alloc (.cells #[.int .i64 0, .int .i64 0, .int .i64 0, .slice none 0 0, .slice none 0 0, .slice none 0 0, .slice none 0 0] 35)
 have OWZ : Box (((w.alloc (.cells #[.int .i64 p.1, .int .i64 p.2.1, .int .i64 p.2.2.1, .slice A3 n3 c3, .slice A4 n4 c4, .slice A5 n5 c5, .slice A6 n6 c6] 35)).alloc (.cells #[.int .i64 0, .int .i64 0, .int .i64 0, .slice none 0 0, .slice none 0 0, .slice none 0 0, .slice none 0 0] 35)).alloc (.cells #[.int .i64 0, .int .i64 0, .int .i64 0, .slice none 0 0, .slice none 0 0, .slice none 0 0, .slice none 0 0] 35)) (w.heap.size + 1 + 1) 35 #[.int .i64 0, .int .i64 0, .int .i64 0, .slice none 0 0, .slice none 0 0, .slice none 0 0, .slice none 0 0] := by simpa using Box.new ((w.alloc (.cells #[.int .i64 p.1, .int .i64 p.2.1, .int .i64 p.2.2.1, .slice A3 n3 c3, .slice A4 n4 c4, .slice A5 n5 c5, .slice A6 n6 c6] 35)).alloc (.cells #[.int .i64 0, .int .i64 0, .int .i64 0, .slice none 0 0, .slice none 0 0, .slice none 0 0, .slice none 0 0] 35)) 35 #[.int .i64 0, .int .i64 0, .int .i64 0, .slice none 0 0, .slice none 0 0, .slice none 0 0, .slice none 0 0]
 have PWE := PW.alloc (.cells #[] 113)
 have RWE := RW.alloc (.cells #[] 113)
 have PWZE := PWZ.alloc (.cells #[] 113)
 have RWZE := RWZ.alloc (.cells #[] 113)
 have OWZE := OWZ.alloc (.cells #[] 113)
 have PWEZ := PWE.alloc (.cells #[.int .i64 0, .int .i64 0, .int .i64 0, .slice none 0 0, .slice none 0 0, .slice none 0 0, .slice none 0 0] 35)
 have RWEZ := RWE.alloc (.cells #[.int .i64 0, .int .i64 0, .int .i64 0, .slice none 0 0, .slice none 0 0, .slice none 0 0, .slice none 0 0] 35)
 have OWEZ : Box ((((w.alloc (.cells #[.int .i64 p.1, .int .i64 p.2.1, .int .i64 p.2.2.1, .slice A3 n3 c3, .slice A4 n4 c4, .slice A5 n5 c5, .slice A6 n6 c6] 35)).alloc (.cells #[.int .i64 0, .int .i64 0, .int .i64 0, .slice none 0 0, .slice none 0 0, .slice none 0 0, .slice none 0 0] 35)).alloc (.cells #[] 113)).alloc (.cells #[.int .i64 0, .int .i64 0, .int .i64 0, .slice none 0 0, .slice none 0 0, .slice none 0 0, .slice none 0 0] 35)) (w.heap.size + 1 + 1 + 1) 35 #[.int .i64 0, .int .i64 0, .int .i64 0, .slice none 0 0, .slice none 0 0, .slice none 0 0, .slice none 0 0] := by simpa using Box.new (((w.alloc (.cells #[.int .i64 p.1, .int .i64 p.2.1, .int .i64 p.2.2.1, .slice A3 n3 c3, .slice A4 n4 c4, .slice A5 n5 c5, .slice A6 n6 c6] 35)).alloc (.cells #[.int .i64 0, .int .i64 0, .int .i64 0, .slice none 0 0, .slice none 0 0, .slice none 0 0, .slice none 0 0] 35)).alloc (.cells #[] 113)) 35 #[.int .i64 0, .int .i64 0, .int .i64 0, .slice none 0 0, .slice none 0 0, .slice none 0 0, .slice none 0 0]
 have hE : (((w.alloc (.cells #[.int .i64 p.1, .int .i64 p.2.1, .int .i64 p.2.2.1, .slice A3 n3 c3, .slice A4 n4 c4, .slice A5 n5 c5, .slice A6 n6 c6] 35)).alloc (.cells #[.int .i64 0, .int .i64 0, .int .i64 0, .slice none 0 0, .slice none 0 0, .slice none 0 0, .slice none 0 0] 35)).alloc (.cells #[] 113)).ownsRow (w.heap.size + 2) 113 2 (.slice (some ⟨w.heap.size + 2, 0, none⟩) 0 0) 0 [] := by simpa using empty_rowK ((w.alloc (.cells #[.int .i64 p.1, .int .i64 p.2.1, .int .i64 p.2.2.1, .slice A3 n3 c3, .slice A4 n4 c4, .slice A5 n5 c5, .slice A6 n6 c6] 35)).alloc (.cells #[.int .i64 0, .int .i64 0, .int .i64 0, .slice none 0 0, .slice none 0 0, .slice none 0 0, .slice none 0 0] 35)) 113 2 (w.heap.size + 2) ley
 have hEZ := hE.alloc (.cells #[.int .i64 0, .int .i64 0, .int .i64 0, .slice none 0 0, .slice none 0 0, .slice none 0 0, .slice none 0 0] 35)
 have hZE : ((((w.alloc (.cells #[.int .i64 p.1, .int .i64 p.2.1, .int .i64 p.2.2.1, .slice A3 n3 c3, .slice A4 n4 c4, .slice A5 n5 c5, .slice A6 n6 c6] 35)).alloc (.cells #[.int .i64 0, .int .i64 0, .int .i64 0, .slice none 0 0, .slice none 0 0, .slice none 0 0, .slice none 0 0] 35)).alloc (.cells #[.int .i64 0, .int .i64 0, .int .i64 0, .slice none 0 0, .slice none 0 0, .slice none 0 0, .slice none 0 0] 35)).alloc (.cells #[] 113)).ownsRow (w.heap.size + 3) 113 2 (.slice (some ⟨w.heap.size + 3, 0, none⟩) 0 0) 0 [] := by simpa using empty_rowK (((w.alloc (.cells #[.int .i64 p.1, .int .i64 p.2.1, .int .i64 p.2.2.1, .slice A3 n3 c3, .slice A4 n4 c4, .slice A5 n5 c5, .slice A6 n6 c6] 35)).alloc (.cells #[.int .i64 0, .int .i64 0, .int .i64 0, .slice none 0 0, .slice none 0 0, .slice none 0 0, .slice none 0 0] 35)).alloc (.cells #[.int .i64 0, .int .i64 0, .int .i64 0, .slice none 0 0, .slice none 0 0, .slice none 0 0, .slice none 0 0] 35)) 113 2 (w.heap.size + 3) ley
 have kw0 := PW.cell 0
 have kw1 := PW.cell 1
 have kw2 := PW.cell 2
 have kw3 := PW.cell 3
 have kw4 := PW.cell 4
 have kw5 := PW.cell 5
 have kw6 := PW.cell 6
 go_enter Tryz.func22, Tryz.ntmps22
 go_wp2_with fail
 go_cut [3] (fun t3 wx => ∃ (ob : Nat) (AG : Option Addr) (cG : Nat) (FG : List Nat), t3 = .pointer (some ⟨ob, 0, none⟩) ∧ Box wx w.heap.size 35 #[.int .i64 p.1, .int .i64 p.2.1, .int .i64 p.2.2.1, .slice A3 n3 c3, .slice A4 n4 c4, .slice A5 n5 c5, .slice A6 n6 c6] ∧ Box wx (w.heap.size + 1) 35 #[.int .i64 0, .int .i64 0, .int .i64 0, .slice none 0 0, .slice none 0 0, .slice none 0 0, .slice none 0 0] ∧ Box wx ob 35 #[.int .i64 p.1, .int .i64 p.2.1, .int .i64 p.2.2.1, .slice none 0 0, .slice none 0 0, .slice none 0 0, .slice AG (p.2.2.2.2.2.2).length cG] ∧ tGlance.row.O wx [.slice AG (p.2.2.2.2.2.2).length cG] (p.2.2.2.2.2.2) FG ∧ New (w.heap.size + 2) FG ∧ ob ∉ FG ∧ w.heap.size + 2 ≤ ob ∧ Bel w wx)
 case first =>
  refine wp_region_held_drew (S := (fun w' => w'.cell? ⟨w.heap.size, 0, none⟩ = some (.int .i64 p.1) ∧ w'.cell? ⟨w.heap.size, 1, none⟩ = some (.int .i64 p.2.1) ∧ w'.cell? ⟨w.heap.size, 2, none⟩ = some (.int .i64 p.2.2.1) ∧ w'.cell? ⟨w.heap.size, 6, none⟩ = some (.slice A6 n6 c6))) (by kernel_rfl) (by exact ⟨(PW).cell 0, (PW).cell 1, (PW).cell 2, (PW).cell 6⟩) (fun hHeld => ?_)
  refine tkx 0 (some 8) ?_
  refine tkx 1 (some 9) ?_
  refine tkx 2 (some 10) ?_
  refine tkx 3 (some 11) ?_
  refine tkx 4 (some 12) ?_
  refine tkx 5 (some 13) ?_
  refine tkx 7 (some 15) ?_
  refine tkx 8 (some 16) ?_
  refine rdx [6, 11] ?_
  refine rcx (fun K hK => ?_) ?_
  ·go_simp
   refine hK.out _ _ ⟨(PWE).cell 0, (PWE).cell 1, (PWE).cell 2, (PWE).cell 6⟩ (fun hHeld => ?_)
   clear hK K
   (try simp only [Act.put, qa_, qb_, qc_])
   refine rdx [9, 11] ?_
   refine rcx (fun K hK => ?_) ?_
   ·obtain ⟨css, k1, k2, k3, k4⟩ := row_src (tGlance.row.reach r6 (show Bel w ((((w.alloc (.cells #[.int .i64 p.1, .int .i64 p.2.1, .int .i64 p.2.2.1, .slice A3 n3 c3, .slice A4 n4 c4, .slice A5 n5 c5, .slice A6 n6 c6] 35)).alloc (.cells #[.int .i64 0, .int .i64 0, .int .i64 0, .slice none 0 0, .slice none 0 0, .slice none 0 0, .slice none 0 0] 35)).alloc (.cells #[] 113)).drew) from (belx))) gl_one
    have HK1 := Lib.hid k1
    have HK2 := Lib.hid k2
    clear k1 k2
    have tz : (Value.agg #[Value.int .i64 0, Value.int .i64 0]).cells.size = 2 := by first | rfl | (simp [Value.cells]; done)
    refine step_app5 _ (by rfl) (.tmp 14) (.tmp 16) _ (by rfl) (w.heap.size + 2) 113 ig _ 2 16 Tryz.underlying33 hg0 hg1 hg2 hg3 tz (by omega) (.slice (some ⟨w.heap.size + 2, 0, none⟩) 0 0) 0 [] (by rfl) (row_drew hE) A6 n6 c6 css.flatten (by rfl) k3 k4 (by simp only [maxLen]; omega) (by omega) ley ?_
    intro v1 w1 hown hgr hat
    obtain ⟨AG, cG, FG, rfl, prG, hNG⟩ := (glGrow (l := p.2.2.2.2.2.2) (by rw [HL6.out]; simpa using hown) HK1.out HK2.out).done
    clear HK1 HK2 k3 k4
    have hB1 : Bel w w1 := Below.grown (belx) hgr ley (fun b hb => by have e := Option.some.inj (show some (w.heap.size + 2) = some b from hb); omega)
    have z1 : w.heap.size + 3 ≤ w1.heap.size := Nat.le_trans ley hgr.size
    have P1 := Box.grown (Box.drew PWE) hgr (fun e => by have e := Option.some.inj (show some w.heap.size = some (w.heap.size + 2) from e); omega)
    have R1 := Box.grown (Box.drew RWE) hgr (fun e => by have e := Option.some.inj (show some (w.heap.size + 1) = some (w.heap.size + 2) from e); omega)
    have gl1 := tGlance.row.lt prG
    have x10 := P1.cell 0
    have x11 := P1.cell 1
    have x12 := P1.cell 2
    have x13 := P1.cell 3
    have x14 := P1.cell 4
    have x15 := P1.cell 5
    have x16 := P1.cell 6
    have no1 : w1.heap.size ∉ FG := fun hx => by have := gl1 _ hx; omega
    have PZ := P1.alloc (.cells #[.int .i64 p.1, .int .i64 p.2.1, .int .i64 p.2.2.1, .slice none 0 0, .slice none 0 0, .slice none 0 0, .slice AG (p.2.2.2.2.2.2).length cG] 35)
    have RZ := R1.alloc (.cells #[.int .i64 p.1, .int .i64 p.2.1, .int .i64 p.2.2.1, .slice none 0 0, .slice none 0 0, .slice none 0 0, .slice AG (p.2.2.2.2.2.2).length cG] 35)
    have OZ := Box.new w1 35 #[.int .i64 p.1, .int .i64 p.2.1, .int .i64 p.2.2.1, .slice none 0 0, .slice none 0 0, .slice none 0 0, .slice AG (p.2.2.2.2.2.2).length cG]
    have q1 := Ty.below (t := tGlance.row) prG (show Bel w1 (w1.alloc (.cells #[.int .i64 p.1, .int .i64 p.2.1, .int .i64 p.2.2.1, .slice none 0 0, .slice none 0 0, .slice none 0 0, .slice AG (p.2.2.2.2.2.2).length cG] 35)) from (belx))
    have BZ := bel_alloc hB1 (.cells #[.int .i64 p.1, .int .i64 p.2.1, .int .i64 p.2.2.1, .slice none 0 0, .slice none 0 0, .slice none 0 0, .slice AG (p.2.2.2.2.2.2).length cG] 35)
    refine hK.out _ _ ⟨(P1).cell 0, (P1).cell 1, (P1).cell 2, (P1).cell 6⟩ (fun hHeld => ?_)
    clear hK K
    (try simp only [Act.put, qa_, qb_, qc_])
    refine tkx 10 (some 18) ?_
    refine rdx [11] ?_
    refine rcx (fun K hK => ?_) ?_
    ·go_simp
     refine hK.out _ _ ⟨(P1.alloc _).cell 0, (P1.alloc _).cell 1, (P1.alloc _).cell 2, (P1.alloc _).cell 6⟩ (fun hHeld => ?_)
     clear hK K
     (try simp only [Act.put, qa_, qb_, qc_])
     refine rdx [12] ?_
     refine rcx (fun K hK => ?_) ?_
     ·go_simp
      refine hK.out _ _ ⟨(PZ).cell 0, (PZ).cell 1, (PZ).cell 2, (PZ).cell 6⟩ (fun hHeld => ?_)
      clear hK K
      (try simp only [Act.put, qa_, qb_, qc_])
      refine rex ?_ _
      go_wp2_with fail
      go_meet
      exact ⟨_, _, _, _, rfl, PZ, RZ, by first | exact OZ | simpa using OZ, q1, hNG.lower (by omega), no1, by omega, BZ⟩
     exact AllReadyH.nil
    exact AllReadyH.nil
   refine rcx (fun K hK => ?_) ?_
   ·go_simp
    refine hK.out _ _ ⟨(PWEZ).cell 0, (PWEZ).cell 1, (PWEZ).cell 2, (PWEZ).cell 6⟩ (fun hHeld => ?_)
    clear hK K
    (try simp only [Act.put, qa_, qb_, qc_])
    refine rdx [9] ?_
    refine rcx (fun K hK => ?_) ?_
    ·obtain ⟨css, k1, k2, k3, k4⟩ := row_src (tGlance.row.reach r6 (show Bel w (((((w.alloc (.cells #[.int .i64 p.1, .int .i64 p.2.1, .int .i64 p.2.2.1, .slice A3 n3 c3, .slice A4 n4 c4, .slice A5 n5 c5, .slice A6 n6 c6] 35)).alloc (.cells #[.int .i64 0, .int .i64 0, .int .i64 0, .slice none 0 0, .slice none 0 0, .slice none 0 0, .slice none 0 0] 35)).alloc (.cells #[] 113)).alloc (.cells #[.int .i64 0, .int .i64 0, .int .i64 0, .slice none 0 0, .slice none 0 0, .slice none 0 0, .slice none 0 0] 35)).drew) from (belx))) gl_one
     have HK1 := Lib.hid k1
     have HK2 := Lib.hid k2
     clear k1 k2
     have tz : (Value.agg #[Value.int .i64 0, Value.int .i64 0]).cells.size = 2 := by first | rfl | (simp [Value.cells]; done)
     refine step_app5 _ (by rfl) (.tmp 14) (.tmp 16) _ (by rfl) (w.heap.size + 2) 113 ig _ 2 16 Tryz.underlying33 hg0 hg1 hg2 hg3 tz (by omega) (.slice (some ⟨w.heap.size + 2, 0, none⟩) 0 0) 0 [] (by rfl) (row_drew hEZ) A6 n6 c6 css.flatten (by rfl) k3 k4 (by simp only [maxLen]; omega) (by omega) ley ?_
     intro v1 w1 hown hgr hat
     obtain ⟨AG, cG, FG, rfl, prG, hNG⟩ := (glGrow (l := p.2.2.2.2.2.2) (by rw [HL6.out]; simpa using hown) HK1.out HK2.out).done
     clear HK1 HK2 k3 k4
     have hB1 : Bel w w1 := Below.grown (belx) hgr ley (fun b hb => by have e := Option.some.inj (show some (w.heap.size + 2) = some b from hb); omega)
     have z1 : w.heap.size + 4 ≤ w1.heap.size := Nat.le_trans ley hgr.size
     have P1 := Box.grown (Box.drew PWEZ) hgr (fun e => by have e := Option.some.inj (show some w.heap.size = some (w.heap.size + 2) from e); omega)
     have R1 := Box.grown (Box.drew RWEZ) hgr (fun e => by have e := Option.some.inj (show some (w.heap.size + 1) = some (w.heap.size + 2) from e); omega)
     have gl1 := tGlance.row.lt prG
     have O1 := Box.grown (Box.drew OWEZ) hgr (fun e => by have e := Option.some.inj (show some (w.heap.size + 1 + 1 + 1) = some (w.heap.size + 2) from e); omega)
     have x10 := P1.cell 0
     have x11 := P1.cell 1
     have x12 := P1.cell 2
     have x13 := P1.cell 3
     have x14 := P1.cell 4
     have x15 := P1.cell 5
     have x16 := P1.cell 6
     have no1 : (w.heap.size + 1 + 1 + 1) ∉ FG := fun hx => by
      have h1 := gl_own prG _ hx
      rcases hat with h2 | h2
      ·have e := Option.some.inj (h1.symm.trans (h2.trans (show _ = some (w.heap.size + 2) from rfl))); omega
      ·have e := Option.some.inj (h1.symm.trans h2); (simp at e <;> omega)
     have oo0 := O1.cell 0
     have oo1 := O1.cell 1
     have oo2 := O1.cell 2
     have oo3 := O1.cell 3
     have oo4 := O1.cell 4
     have oo5 := O1.cell 5
     have oo6 := O1.cell 6
     have of0 := O1.frozen 0
     have of1 := O1.frozen 1
     have of2 := O1.frozen 2
     have of3 := O1.frozen 3
     have of4 := O1.frozen 4
     have of5 := O1.frozen 5
     have of6 := O1.frozen 6
     have PZ := (((((((P1.far (p := ⟨(w.heap.size + 1 + 1 + 1), 0, none⟩) fsz (.int .i64 p.1)).far (p := ⟨(w.heap.size + 1 + 1 + 1), 1, none⟩) fsz (.int .i64 p.2.1)).far (p := ⟨(w.heap.size + 1 + 1 + 1), 2, none⟩) fsz (.int .i64 p.2.2.1)).far (p := ⟨(w.heap.size + 1 + 1 + 1), 3, none⟩) fsz (.slice none 0 0)).far (p := ⟨(w.heap.size + 1 + 1 + 1), 4, none⟩) fsz (.slice none 0 0)).far (p := ⟨(w.heap.size + 1 + 1 + 1), 5, none⟩) fsz (.slice none 0 0)).far (p := ⟨(w.heap.size + 1 + 1 + 1), 6, none⟩) fsz (.slice AG (p.2.2.2.2.2.2).length cG))
     have RZ := (((((((R1.far (p := ⟨(w.heap.size + 1 + 1 + 1), 0, none⟩) fsz (.int .i64 p.1)).far (p := ⟨(w.heap.size + 1 + 1 + 1), 1, none⟩) fsz (.int .i64 p.2.1)).far (p := ⟨(w.heap.size + 1 + 1 + 1), 2, none⟩) fsz (.int .i64 p.2.2.1)).far (p := ⟨(w.heap.size + 1 + 1 + 1), 3, none⟩) fsz (.slice none 0 0)).far (p := ⟨(w.heap.size + 1 + 1 + 1), 4, none⟩) fsz (.slice none 0 0)).far (p := ⟨(w.heap.size + 1 + 1 + 1), 5, none⟩) fsz (.slice none 0 0)).far (p := ⟨(w.heap.size + 1 + 1 + 1), 6, none⟩) fsz (.slice AG (p.2.2.2.2.2.2).length cG))
     have OZ := (((((((O1.put 0 (.int .i64 p.1)).put 1 (.int .i64 p.2.1)).put 2 (.int .i64 p.2.2.1)).put 3 (.slice none 0 0)).put 4 (.slice none 0 0)).put 5 (.slice none 0 0)).put 6 (.slice AG (p.2.2.2.2.2.2).length cG))
     have q1 := (Ty.far3 (t := tGlance.row) (Ty.far3 (t := tGlance.row) (Ty.far3 (t := tGlance.row) (Ty.far3 (t := tGlance.row) (Ty.far3 (t := tGlance.row) (Ty.far3 (t := tGlance.row) (Ty.far3 (t := tGlance.row) prG (p := ⟨(w.heap.size + 1 + 1 + 1), 0, none⟩) no1 (.int .i64 p.1)) (p := ⟨(w.heap.size + 1 + 1 + 1), 1, none⟩) no1 (.int .i64 p.2.1)) (p := ⟨(w.heap.size + 1 + 1 + 1), 2, none⟩) no1 (.int .i64 p.2.2.1)) (p := ⟨(w.heap.size + 1 + 1 + 1), 3, none⟩) no1 (.slice none 0 0)) (p := ⟨(w.heap.size + 1 + 1 + 1), 4, none⟩) no1 (.slice none 0 0)) (p := ⟨(w.heap.size + 1 + 1 + 1), 5, none⟩) no1 (.slice none 0 0)) (p := ⟨(w.heap.size + 1 + 1 + 1), 6, none⟩) no1 (.slice AG (p.2.2.2.2.2.2).length cG))
     have BZ := (bel_put (bel_put (bel_put (bel_put (bel_put (bel_put (bel_put hB1 (p := ⟨(w.heap.size + 1 + 1 + 1), 0, none⟩) fsz (.int .i64 p.1)) (p := ⟨(w.heap.size + 1 + 1 + 1), 1, none⟩) fsz (.int .i64 p.2.1)) (p := ⟨(w.heap.size + 1 + 1 + 1), 2, none⟩) fsz (.int .i64 p.2.2.1)) (p := ⟨(w.heap.size + 1 + 1 + 1), 3, none⟩) fsz (.slice none 0 0)) (p := ⟨(w.heap.size + 1 + 1 + 1), 4, none⟩) fsz (.slice none 0 0)) (p := ⟨(w.heap.size + 1 + 1 + 1), 5, none⟩) fsz (.slice none 0 0)) (p := ⟨(w.heap.size + 1 + 1 + 1), 6, none⟩) fsz (.slice AG (p.2.2.2.2.2.2).length cG))
     refine hK.out _ _ ⟨(P1).cell 0, (P1).cell 1, (P1).cell 2, (P1).cell 6⟩ (fun hHeld => ?_)
     clear hK K
     (try simp only [Act.put, qa_, qb_, qc_])
     refine tkx 10 (some 18) ?_
     refine rdx [12] ?_
     refine rcx (fun K hK => ?_) ?_
     ·go_simp
      refine hK.out _ _ ⟨(PZ).cell 0, (PZ).cell 1, (PZ).cell 2, (PZ).cell 6⟩ (fun hHeld => ?_)
      clear hK K
      (try simp only [Act.put, qa_, qb_, qc_])
      refine rex ?_ _
      go_wp2_with fail
      go_meet
      exact ⟨_, _, _, _, rfl, PZ, RZ, by first | exact OZ | simpa using OZ, q1, hNG.lower (by omega), no1, by omega, BZ⟩
     exact AllReadyH.nil
    exact AllReadyH.nil
   exact AllReadyH.nil
  refine rcx (fun K hK => ?_) ?_
  ·go_simp
   refine hK.out _ _ ⟨(PWZ).cell 0, (PWZ).cell 1, (PWZ).cell 2, (PWZ).cell 6⟩ (fun hHeld => ?_)
   clear hK K
   (try simp only [Act.put, qa_, qb_, qc_])
   refine rdx [6] ?_
   refine rcx (fun K hK => ?_) ?_
   ·go_simp
    refine hK.out _ _ ⟨(PWZE).cell 0, (PWZE).cell 1, (PWZE).cell 2, (PWZE).cell 6⟩ (fun hHeld => ?_)
    clear hK K
    (try simp only [Act.put, qa_, qb_, qc_])
    refine rdx [9] ?_
    refine rcx (fun K hK => ?_) ?_
    ·obtain ⟨css, k1, k2, k3, k4⟩ := row_src (tGlance.row.reach r6 (show Bel w (((((w.alloc (.cells #[.int .i64 p.1, .int .i64 p.2.1, .int .i64 p.2.2.1, .slice A3 n3 c3, .slice A4 n4 c4, .slice A5 n5 c5, .slice A6 n6 c6] 35)).alloc (.cells #[.int .i64 0, .int .i64 0, .int .i64 0, .slice none 0 0, .slice none 0 0, .slice none 0 0, .slice none 0 0] 35)).alloc (.cells #[.int .i64 0, .int .i64 0, .int .i64 0, .slice none 0 0, .slice none 0 0, .slice none 0 0, .slice none 0 0] 35)).alloc (.cells #[] 113)).drew) from (belx))) gl_one
     have HK1 := Lib.hid k1
     have HK2 := Lib.hid k2
     clear k1 k2
     have tz : (Value.agg #[Value.int .i64 0, Value.int .i64 0]).cells.size = 2 := by first | rfl | (simp [Value.cells]; done)
     refine step_app5 _ (by rfl) (.tmp 14) (.tmp 16) _ (by rfl) (w.heap.size + 3) 113 ig _ 2 16 Tryz.underlying33 hg0 hg1 hg2 hg3 tz (by omega) (.slice (some ⟨w.heap.size + 3, 0, none⟩) 0 0) 0 [] (by rfl) (row_drew hZE) A6 n6 c6 css.flatten (by rfl) k3 k4 (by simp only [maxLen]; omega) (by omega) ley ?_
     intro v1 w1 hown hgr hat
     obtain ⟨AG, cG, FG, rfl, prG, hNG⟩ := (glGrow (l := p.2.2.2.2.2.2) (by rw [HL6.out]; simpa using hown) HK1.out HK2.out).done
     clear HK1 HK2 k3 k4
     have hB1 : Bel w w1 := Below.grown (belx) hgr ley (fun b hb => by have e := Option.some.inj (show some (w.heap.size + 3) = some b from hb); omega)
     have z1 : w.heap.size + 4 ≤ w1.heap.size := Nat.le_trans ley hgr.size
     have P1 := Box.grown (Box.drew PWZE) hgr (fun e => by have e := Option.some.inj (show some w.heap.size = some (w.heap.size + 3) from e); omega)
     have R1 := Box.grown (Box.drew RWZE) hgr (fun e => by have e := Option.some.inj (show some (w.heap.size + 1) = some (w.heap.size + 3) from e); omega)
     have gl1 := tGlance.row.lt prG
     have O1 := Box.grown (Box.drew OWZE) hgr (fun e => by have e := Option.some.inj (show some (w.heap.size + 1 + 1) = some (w.heap.size + 3) from e); omega)
     have x10 := P1.cell 0
     have x11 := P1.cell 1
     have x12 := P1.cell 2
     have x13 := P1.cell 3
     have x14 := P1.cell 4
     have x15 := P1.cell 5
     have x16 := P1.cell 6
     have no1 : (w.heap.size + 1 + 1) ∉ FG := fun hx => by have := hNG.2 _ hx; omega
     have oo0 := O1.cell 0
     have oo1 := O1.cell 1
     have oo2 := O1.cell 2
     have oo3 := O1.cell 3
     have oo4 := O1.cell 4
     have oo5 := O1.cell 5
     have oo6 := O1.cell 6
     have of0 := O1.frozen 0
     have of1 := O1.frozen 1
     have of2 := O1.frozen 2
     have of3 := O1.frozen 3
     have of4 := O1.frozen 4
     have of5 := O1.frozen 5
     have of6 := O1.frozen 6
     have PZ := (((((((P1.far (p := ⟨(w.heap.size + 1 + 1), 0, none⟩) fsz (.int .i64 p.1)).far (p := ⟨(w.heap.size + 1 + 1), 1, none⟩) fsz (.int .i64 p.2.1)).far (p := ⟨(w.heap.size + 1 + 1), 2, none⟩) fsz (.int .i64 p.2.2.1)).far (p := ⟨(w.heap.size + 1 + 1), 3, none⟩) fsz (.slice none 0 0)).far (p := ⟨(w.heap.size + 1 + 1), 4, none⟩) fsz (.slice none 0 0)).far (p := ⟨(w.heap.size + 1 + 1), 5, none⟩) fsz (.slice none 0 0)).far (p := ⟨(w.heap.size + 1 + 1), 6, none⟩) fsz (.slice AG (p.2.2.2.2.2.2).length cG))
     have RZ := (((((((R1.far (p := ⟨(w.heap.size + 1 + 1), 0, none⟩) fsz (.int .i64 p.1)).far (p := ⟨(w.heap.size + 1 + 1), 1, none⟩) fsz (.int .i64 p.2.1)).far (p := ⟨(w.heap.size + 1 + 1), 2, none⟩) fsz (.int .i64 p.2.2.1)).far (p := ⟨(w.heap.size + 1 + 1), 3, none⟩) fsz (.slice none 0 0)).far (p := ⟨(w.heap.size + 1 + 1), 4, none⟩) fsz (.slice none 0 0)).far (p := ⟨(w.heap.size + 1 + 1), 5, none⟩) fsz (.slice none 0 0)).far (p := ⟨(w.heap.size + 1 + 1), 6, none⟩) fsz (.slice AG (p.2.2.2.2.2.2).length cG))
     have OZ := (((((((O1.put 0 (.int .i64 p.1)).put 1 (.int .i64 p.2.1)).put 2 (.int .i64 p.2.2.1)).put 3 (.slice none 0 0)).put 4 (.slice none 0 0)).put 5 (.slice none 0 0)).put 6 (.slice AG (p.2.2.2.2.2.2).length cG))
     have q1 := (Ty.far3 (t := tGlance.row) (Ty.far3 (t := tGlance.row) (Ty.far3 (t := tGlance.row) (Ty.far3 (t := tGlance.row) (Ty.far3 (t := tGlance.row) (Ty.far3 (t := tGlance.row) (Ty.far3 (t := tGlance.row) prG (p := ⟨(w.heap.size + 1 + 1), 0, none⟩) no1 (.int .i64 p.1)) (p := ⟨(w.heap.size + 1 + 1), 1, none⟩) no1 (.int .i64 p.2.1)) (p := ⟨(w.heap.size + 1 + 1), 2, none⟩) no1 (.int .i64 p.2.2.1)) (p := ⟨(w.heap.size + 1 + 1), 3, none⟩) no1 (.slice none 0 0)) (p := ⟨(w.heap.size + 1 + 1), 4, none⟩) no1 (.slice none 0 0)) (p := ⟨(w.heap.size + 1 + 1), 5, none⟩) no1 (.slice none 0 0)) (p := ⟨(w.heap.size + 1 + 1), 6, none⟩) no1 (.slice AG (p.2.2.2.2.2.2).length cG))
     have BZ := (bel_put (bel_put (bel_put (bel_put (bel_put (bel_put (bel_put hB1 (p := ⟨(w.heap.size + 1 + 1), 0, none⟩) fsz (.int .i64 p.1)) (p := ⟨(w.heap.size + 1 + 1), 1, none⟩) fsz (.int .i64 p.2.1)) (p := ⟨(w.heap.size + 1 + 1), 2, none⟩) fsz (.int .i64 p.2.2.1)) (p := ⟨(w.heap.size + 1 + 1), 3, none⟩) fsz (.slice none 0 0)) (p := ⟨(w.heap.size + 1 + 1), 4, none⟩) fsz (.slice none 0 0)) (p := ⟨(w.heap.size + 1 + 1), 5, none⟩) fsz (.slice none 0 0)) (p := ⟨(w.heap.size + 1 + 1), 6, none⟩) fsz (.slice AG (p.2.2.2.2.2.2).length cG))
     refine hK.out _ _ ⟨(P1).cell 0, (P1).cell 1, (P1).cell 2, (P1).cell 6⟩ (fun hHeld => ?_)
     clear hK K
     (try simp only [Act.put, qa_, qb_, qc_])
     refine tkx 10 (some 18) ?_
     refine rdx [12] ?_
     refine rcx (fun K hK => ?_) ?_
     ·go_simp
      refine hK.out _ _ ⟨(PZ).cell 0, (PZ).cell 1, (PZ).cell 2, (PZ).cell 6⟩ (fun hHeld => ?_)
      clear hK K
      (try simp only [Act.put, qa_, qb_, qc_])
      refine rex ?_ _
      go_wp2_with fail
      go_meet
      exact ⟨_, _, _, _, rfl, PZ, RZ, by first | exact OZ | simpa using OZ, q1, hNG.lower (by omega), no1, by omega, BZ⟩
     exact AllReadyH.nil
    exact AllReadyH.nil
   exact AllReadyH.nil
  exact AllReadyH.nil
 case rest =>
 obtain ⟨ob, AG, cG, FG, rfl, PS, RS, OS, prG, hNG, prGo, zob, hS⟩ := hcut
 generalize wc = wS at *
 clear PW RW PWZ RWZ OWZ PWE RWE PWZE RWZE OWZE PWEZ RWEZ OWEZ hE hEZ hZE kw0 kw1 kw2 kw3 kw4 kw5 kw6
 have prGl := tGlance.row.lt prG
 have zo2 := OS.size
 have zS : wS.heap.size ≤ wS.heap.size := Nat.le_refl _
 have k3 := PS.cell 3
 go_wp2_with fail
 go_loopw [4] (fun i wr => ∃ (j : Nat) (F : List Nat) (v : Value), j ≤ n3 ∧ i = .int .i64 j ∧ GrowO tNode 109 wr wS.heap.size v ((p.2.2.2.1).take j) F ∧ Box wr w.heap.size 35 #[.int .i64 p.1, .int .i64 p.2.1, .int .i64 p.2.2.1, .slice A3 n3 c3, .slice A4 n4 c4, .slice A5 n5 c5, .slice A6 n6 c6] ∧ Box wr (w.heap.size + 1) 35 #[.int .i64 0, .int .i64 0, .int .i64 0, .slice none 0 0, .slice none 0 0, .slice none 0 0, .slice none 0 0] ∧ Box wr ob 35 #[.int .i64 p.1, .int .i64 p.2.1, .int .i64 p.2.2.1, v, .slice none 0 0, .slice none 0 0, .slice AG (p.2.2.2.2.2.2).length cG] ∧ (tGlance.row).O wr [.slice AG (p.2.2.2.2.2.2).length cG] (p.2.2.2.2.2.2) FG ∧ Bel w wr ∧ wS.heap.size ≤ wr.heap.size) (fun i _ => n3 - (RowKit.intOf i).toNat)
 case atStart => exact ⟨0, [], .slice none 0 0, by omega, rfl, GrowO.nil, PS, RS, OS, prG, hS, zS⟩
 case round =>
  obtain ⟨j, F, v, hj, rfl, hG, P0, R0, O0, prG, hB, zB⟩ := hrel
  clear k3 PS RS OS hS
  have k3 := P0.cell 3
  by_cases hlt : j < n3
  ·obtain ⟨a, b', off, es, hl2, rfl, hb, hes, hR⟩ := rowR_at (K := 7) r3 hlt rfl
   have HT := Lib.hid (take_sn hl2)
   have HLN := Lib.hid (show ((p.2.2.2.1).take j).length = j from by rw [List.length_take, HL3.out]; omega)
   have hsa : szNode a ≤ 1048576 := HSZ3.out j a hl2
   clear hl2
   have hRk := hR
   obtain ⟨aA2, an2, ac2, aA3, an3, ac3, aA4, an4, ac4, aA5, an5, ac5, aA6, an6, ac6, rfl, ai0, ai1, ar2, ar4, ar6⟩ := fopenNode hR
   have e0 : wr.cell? ⟨b', off + j * 7, none⟩ = some (.int .i64 a.1) := cell_at hB hb (hes 0 (by omega))
   have e1 : wr.cell? ⟨b', off + j * 7 + 1, none⟩ = some (.int .i64 a.2.1) := cell_at hB hb (hes 1 (by omega))
   have e2 : wr.cell? ⟨b', off + j * 7 + 2, none⟩ = some (.slice aA2 an2 ac2) := cell_at hB hb (hes 2 (by omega))
   have e3 : wr.cell? ⟨b', off + j * 7 + 3, none⟩ = some (.slice aA3 an3 ac3) := cell_at hB hb (hes 3 (by omega))
   have e4 : wr.cell? ⟨b', off + j * 7 + 4, none⟩ = some (.slice aA4 an4 ac4) := cell_at hB hb (hes 4 (by omega))
   have e5 : wr.cell? ⟨b', off + j * 7 + 5, none⟩ = some (.slice aA5 an5 ac5) := cell_at hB hb (hes 5 (by omega))
   have e6 : wr.cell? ⟨b', off + j * 7 + 6, none⟩ = some (.slice aA6 an6 ac6) := cell_at hB hb (hes 6 (by omega))
   have hOwn := fun b hb => (GrowO.row hG).choose_spec.1.lt b hb
   have hlt2 := hG.lt
   clear hR
   have o0c := O0.cell 3
   go_wp2_with fail
   refine wp_region_held_drew (S := (fun w' => w'.cell? ⟨w.heap.size, 3, none⟩ = some (.slice (some ⟨b', off, none⟩) n3 c3) ∧ w'.cell? ⟨b', off + j * 7, none⟩ = some (.int .i64 a.1) ∧ w'.cell? ⟨b', off + j * 7 + 1, none⟩ = some (.int .i64 a.2.1) ∧ w'.cell? ⟨b', off + j * 7 + 2, none⟩ = some (.slice aA2 an2 ac2) ∧ w'.cell? ⟨b', off + j * 7 + 3, none⟩ = some (.slice aA3 an3 ac3) ∧ w'.cell? ⟨b', off + j * 7 + 4, none⟩ = some (.slice aA4 an4 ac4) ∧ w'.cell? ⟨b', off + j * 7 + 5, none⟩ = some (.slice aA5 an5 ac5) ∧ w'.cell? ⟨b', off + j * 7 + 6, none⟩ = some (.slice aA6 an6 ac6))) (by kernel_rfl) (by exact ⟨k3, e0, e1, e2, e3, e4, e5, e6⟩) (fun hHeld => ?_)
   refine tkx 0 (some 26) ?_
   refine tkx 2 (some 28) ?_
   refine tkx 3 (some 29) ?_
   refine tkx 4 (some 30) ?_
   refine tkx 5 (some 31) ?_
   refine tkx 6 (some 32) ?_
   refine rdx [1, 7] ?_
   refine rcx (fun K hK => ?_) ?_
   ·go_simp
    refine hK.out _ _ ⟨k3, e0, e1, e2, e3, e4, e5, e6⟩ (fun hHeld => ?_)
    clear hK K
    (try simp only [Act.put, qa_, qb_, qc_])
    refine rdx [7] ?_
    refine rcx (fun K hK => ?_) ?_
    ·go_simp
     go_at_call 53
     refine (s_NodeOwn (tNode.reach (tNode.reach hRk hB) (belx)) hsa).mono ?_
     rintro e w1 ⟨cs1, Fd, rfl, hOd, hNd0, hb1⟩
     have hs1 : Bel wr w1 := bel_trans (show Bel wr wr.drew from (belx)) hb1
     have hNd : New wr.heap.size Fd := hNd0.lower (by simp)
     have hOk := hOd
     obtain ⟨oA2, oc2, oA3, oc3, oA4, oc4, oA5, oc5, oA6, oc6, oG2, oG4, oG6, rfl, -, -, -, -, -, -⟩ := fopenONode hOd
     clear hOd hNd0
     have P1 := Box.below P0 hs1 P0.size
     have R1 := Box.below R0 hs1 R0.size
     have O1 := Box.below O0 hs1 O0.size
     have e10 : w1.cell? ⟨b', off + j * 7, none⟩ = some (.int .i64 a.1) := cell_at (bel_trans hB hs1) hb (hes 0 (by omega))
     have e11 : w1.cell? ⟨b', off + j * 7 + 1, none⟩ = some (.int .i64 a.2.1) := cell_at (bel_trans hB hs1) hb (hes 1 (by omega))
     have e12 : w1.cell? ⟨b', off + j * 7 + 2, none⟩ = some (.slice aA2 an2 ac2) := cell_at (bel_trans hB hs1) hb (hes 2 (by omega))
     have e13 : w1.cell? ⟨b', off + j * 7 + 3, none⟩ = some (.slice aA3 an3 ac3) := cell_at (bel_trans hB hs1) hb (hes 3 (by omega))
     have e14 : w1.cell? ⟨b', off + j * 7 + 4, none⟩ = some (.slice aA4 an4 ac4) := cell_at (bel_trans hB hs1) hb (hes 4 (by omega))
     have e15 : w1.cell? ⟨b', off + j * 7 + 5, none⟩ = some (.slice aA5 an5 ac5) := cell_at (bel_trans hB hs1) hb (hes 5 (by omega))
     have e16 : w1.cell? ⟨b', off + j * 7 + 6, none⟩ = some (.slice aA6 an6 ac6) := cell_at (bel_trans hB hs1) hb (hes 6 (by omega))
     have o1c := O1.cell 3
     have PA := P1.alloc (.cells ([.int .i64 a.1, .int .i64 a.2.1, .slice oA2 a.2.2.1.1.length oc2, .slice oA3 a.2.2.1.2.length oc3, .slice oA4 a.2.2.2.1.1.length oc4, .slice oA5 a.2.2.2.1.2.length oc5, .slice oA6 a.2.2.2.2.length oc6].toArray) 109)
     have OA := O1.alloc (.cells ([.int .i64 a.1, .int .i64 a.2.1, .slice oA2 a.2.2.1.1.length oc2, .slice oA3 a.2.2.1.2.length oc3, .slice oA4 a.2.2.2.1.1.length oc4, .slice oA5 a.2.2.2.1.2.length oc5, .slice oA6 a.2.2.2.2.length oc6].toArray) 109)
     have oAc := OA.cell 3
     have zw1 := hs1.size
     have eA0 : (w1.alloc (.cells ([.int .i64 a.1, .int .i64 a.2.1, .slice oA2 a.2.2.1.1.length oc2, .slice oA3 a.2.2.1.2.length oc3, .slice oA4 a.2.2.2.1.1.length oc4, .slice oA5 a.2.2.2.1.2.length oc5, .slice oA6 a.2.2.2.2.length oc6].toArray) 109)).cell? ⟨b', off + j * 7, none⟩ = some (.int .i64 a.1) := cell_at (bel_alloc (bel_trans hB hs1) _) hb (hes 0 (by omega))
     have eA1 : (w1.alloc (.cells ([.int .i64 a.1, .int .i64 a.2.1, .slice oA2 a.2.2.1.1.length oc2, .slice oA3 a.2.2.1.2.length oc3, .slice oA4 a.2.2.2.1.1.length oc4, .slice oA5 a.2.2.2.1.2.length oc5, .slice oA6 a.2.2.2.2.length oc6].toArray) 109)).cell? ⟨b', off + j * 7 + 1, none⟩ = some (.int .i64 a.2.1) := cell_at (bel_alloc (bel_trans hB hs1) _) hb (hes 1 (by omega))
     have eA2 : (w1.alloc (.cells ([.int .i64 a.1, .int .i64 a.2.1, .slice oA2 a.2.2.1.1.length oc2, .slice oA3 a.2.2.1.2.length oc3, .slice oA4 a.2.2.2.1.1.length oc4, .slice oA5 a.2.2.2.1.2.length oc5, .slice oA6 a.2.2.2.2.length oc6].toArray) 109)).cell? ⟨b', off + j * 7 + 2, none⟩ = some (.slice aA2 an2 ac2) := cell_at (bel_alloc (bel_trans hB hs1) _) hb (hes 2 (by omega))
     have eA3 : (w1.alloc (.cells ([.int .i64 a.1, .int .i64 a.2.1, .slice oA2 a.2.2.1.1.length oc2, .slice oA3 a.2.2.1.2.length oc3, .slice oA4 a.2.2.2.1.1.length oc4, .slice oA5 a.2.2.2.1.2.length oc5, .slice oA6 a.2.2.2.2.length oc6].toArray) 109)).cell? ⟨b', off + j * 7 + 3, none⟩ = some (.slice aA3 an3 ac3) := cell_at (bel_alloc (bel_trans hB hs1) _) hb (hes 3 (by omega))
     have eA4 : (w1.alloc (.cells ([.int .i64 a.1, .int .i64 a.2.1, .slice oA2 a.2.2.1.1.length oc2, .slice oA3 a.2.2.1.2.length oc3, .slice oA4 a.2.2.2.1.1.length oc4, .slice oA5 a.2.2.2.1.2.length oc5, .slice oA6 a.2.2.2.2.length oc6].toArray) 109)).cell? ⟨b', off + j * 7 + 4, none⟩ = some (.slice aA4 an4 ac4) := cell_at (bel_alloc (bel_trans hB hs1) _) hb (hes 4 (by omega))
     have eA5 : (w1.alloc (.cells ([.int .i64 a.1, .int .i64 a.2.1, .slice oA2 a.2.2.1.1.length oc2, .slice oA3 a.2.2.1.2.length oc3, .slice oA4 a.2.2.2.1.1.length oc4, .slice oA5 a.2.2.2.1.2.length oc5, .slice oA6 a.2.2.2.2.length oc6].toArray) 109)).cell? ⟨b', off + j * 7 + 5, none⟩ = some (.slice aA5 an5 ac5) := cell_at (bel_alloc (bel_trans hB hs1) _) hb (hes 5 (by omega))
     have eA6 : (w1.alloc (.cells ([.int .i64 a.1, .int .i64 a.2.1, .slice oA2 a.2.2.1.1.length oc2, .slice oA3 a.2.2.1.2.length oc3, .slice oA4 a.2.2.2.1.1.length oc4, .slice oA5 a.2.2.2.1.2.length oc5, .slice oA6 a.2.2.2.2.length oc6].toArray) 109)).cell? ⟨b', off + j * 7 + 6, none⟩ = some (.slice aA6 an6 ac6) := cell_at (bel_alloc (bel_trans hB hs1) _) hb (hes 6 (by omega))
     go_wp2_with fail
     refine hK.out _ _ ⟨(P1.cell 3), e10, e11, e12, e13, e14, e15, e16⟩ (fun hHeld => ?_)
     clear hK K
     (try simp only [Act.put, qa_, qb_, qc_])
     refine rdx [8] ?_
     refine rcx (fun K hK => ?_) ?_
     ·go_simp
      refine hK.out _ _ ⟨(PA.cell 3), eA0, eA1, eA2, eA3, eA4, eA5, eA6⟩ (fun hHeld => ?_)
      clear hK K
      (try simp only [Act.put, qa_, qb_, qc_])
      refine rdx [9] ?_
      refine rcx (fun K hK => ?_) ?_
      ·have hBx : Bel wr (w1.alloc (.cells ([.int .i64 a.1, .int .i64 a.2.1, .slice oA2 a.2.2.1.1.length oc2, .slice oA3 a.2.2.1.2.length oc3, .slice oA4 a.2.2.2.1.1.length oc4, .slice oA5 a.2.2.2.1.2.length oc5, .slice oA6 a.2.2.2.2.length oc6].toArray) 109)) := bel_alloc hs1 _
       obtain ⟨xs, hrow, hpush⟩ := (hG.below hBx).row
       have hS2 : Src (w1.alloc (.cells ([.int .i64 a.1, .int .i64 a.2.1, .slice oA2 a.2.2.1.1.length oc2, .slice oA3 a.2.2.1.2.length oc3, .slice oA4 a.2.2.2.1.1.length oc4, .slice oA5 a.2.2.2.1.2.length oc5, .slice oA6 a.2.2.2.2.length oc6].toArray) 109)) 7 (some ⟨w1.heap.size, 0, none⟩) 1 [.int .i64 a.1, .int .i64 a.2.1, .slice oA2 a.2.2.1.1.length oc2, .slice oA3 a.2.2.1.2.length oc3, .slice oA4 a.2.2.2.1.1.length oc4, .slice oA5 a.2.2.2.1.2.length oc5, .slice oA6 a.2.2.2.2.length oc6] := Src.of_box w1 109 [.int .i64 a.1, .int .i64 a.2.1, .slice oA2 a.2.2.1.1.length oc2, .slice oA3 a.2.2.1.2.length oc3, .slice oA4 a.2.2.2.1.1.length oc4, .slice oA5 a.2.2.2.1.2.length oc5, .slice oA6 a.2.2.2.2.length oc6] (K := 7) rfl
       have tz : (Value.agg #[Value.int .i64 0, Value.int .i64 0, Value.slice none 0 0, Value.slice none 0 0, Value.slice none 0 0, Value.slice none 0 0, Value.slice none 0 0]).cells.size = 7 := lev
       have t0 : ∀ u ∈ ([.int .i64 a.1, .int .i64 a.2.1, .slice oA2 a.2.2.1.1.length oc2, .slice oA3 a.2.2.1.2.length oc3, .slice oA4 a.2.2.2.1.1.length oc4, .slice oA5 a.2.2.2.1.2.length oc5, .slice oA6 a.2.2.2.2.length oc6] : List Value), u.oneCell' = true := (by intro u hu; simp only [List.mem_cons, List.not_mem_nil, or_false] at hu; rcases hu with rfl | rfl | rfl | rfl | rfl | rfl | rfl <;> rfl)
       have t1 : ((p.2.2.2.1).take j).length + 1 ≤ maxLen := (by simp only [maxLen]; have := HLN.out; omega)
       have t2 : (((p.2.2.2.1).take j).length + 1) * 136 ≤ 140737488355328 := (by have := HLN.out; omega)
       have t3 := hBx.size
       refine step_app5 _ (by rfl) (.tmp 27) (.tmp 34) _ (by rfl) wS.heap.size 109 i3i _ 7 136 Tryz.underlying30 hj03 hj13 hj23 hj33 tz (by omega) v _ xs (by rfl) hrow _ 1 1 [.int .i64 a.1, .int .i64 a.2.1, .slice oA2 a.2.2.1.1.length oc2, .slice oA3 a.2.2.1.2.length oc3, .slice oA4 a.2.2.2.1.1.length oc4, .slice oA5 a.2.2.2.1.2.length oc5, .slice oA6 a.2.2.2.2.length oc6] (by rfl) hS2 t0 t1 t2 (by omega) ?_
       intro v2 w2 hown2 hgr2 hat2
       have hOel : tNode.O (w1.alloc (.cells ([.int .i64 a.1, .int .i64 a.2.1, .slice oA2 a.2.2.1.1.length oc2, .slice oA3 a.2.2.1.2.length oc3, .slice oA4 a.2.2.2.1.1.length oc4, .slice oA5 a.2.2.2.1.2.length oc5, .slice oA6 a.2.2.2.2.length oc6].toArray) 109)) [.int .i64 a.1, .int .i64 a.2.1, .slice oA2 a.2.2.1.1.length oc2, .slice oA3 a.2.2.1.2.length oc3, .slice oA4 a.2.2.2.1.1.length oc4, .slice oA5 a.2.2.2.1.2.length oc5, .slice oA6 a.2.2.2.2.length oc6] a Fd := Ty.below (t := tNode) hOk (belx)
       have hNel : New wS.heap.size Fd := hNd.lower (by omega)
       have hdis : ∀ f ∈ Fd, f ∉ F := (fun f h1 h2 => by have := hNd.2 _ h1; have := hlt2 f h2; omega)
       have hod : ∀ b, v.ownBlock = some b → b ∉ Fd := (fun b hb hx => by have := (hOwn b hb).2; have := hNd.2 _ hx; omega)
       have hfin := hpush w2 v2 a _ Fd hOel hNel hdis hod hown2 hgr2 hat2
       obtain ⟨A9, n9, c9, rfl, -⟩ := hfin.shapeN
       have P2 := Box.grown (P1.alloc _) hgr2 (fun e => by have := (hOwn w.heap.size e.symm).1; omega)
       have R2 := Box.grown (R1.alloc _) hgr2 (fun e => by have := (hOwn (w.heap.size + 1) e.symm).1; omega)
       have O2 := Box.grown (O1.alloc _) hgr2 (fun e => by have := (hOwn ob e.symm).1; omega)
       have hBf : Bel w w2 := Below.grown (bel_trans hB hBx) hgr2 (by have := hBx.size; omega) (fun b hb => by have := (hOwn b hb).1; omega)
       have z2 := hgr2.size
       have o2c := O2.cell 3
       have o2f := O2.frozen 3
       have GF := hfin.put (p := ⟨ob, 3, none⟩) fsz (.slice A9 n9 c9)
       have PF := P2.far (p := ⟨ob, 3, none⟩) fsz (.slice A9 n9 c9)
       have RF := R2.far (p := ⟨ob, 3, none⟩) fsz (.slice A9 n9 c9)
       have OF : Box (w2.setCell ⟨ob, 3, none⟩ (.slice A9 n9 c9)) ob 35 #[.int .i64 p.1, .int .i64 p.2.1, .int .i64 p.2.2.1, .slice A9 n9 c9, .slice none 0 0, .slice none 0 0, .slice AG (p.2.2.2.2.2.2).length cG] := O2.put 3 (.slice A9 n9 c9)
       have prGF := Ty.far3 (own_past (w := (w1.alloc (.cells ([.int .i64 a.1, .int .i64 a.2.1, .slice oA2 a.2.2.1.1.length oc2, .slice oA3 a.2.2.1.2.length oc3, .slice oA4 a.2.2.2.1.1.length oc4, .slice oA5 a.2.2.2.1.2.length oc5, .slice oA6 a.2.2.2.2.length oc6].toArray) 109))) (Ty.below (t := tGlance.row) prG hBx) hgr2 (fun b hb hx => by have h1 := (hOwn b hb).1; have h2 := prGl b hx; omega)) (p := ⟨ob, 3, none⟩) prGo (.slice A9 n9 c9)
       have BF : Bel w (w2.setCell ⟨ob, 3, none⟩ (.slice A9 n9 c9)) := bel_put hBf fsz _
       have e20 : w2.cell? ⟨b', off + j * 7, none⟩ = some (.int .i64 a.1) := cell_at hBf hb (hes 0 (by omega))
       have e21 : w2.cell? ⟨b', off + j * 7 + 1, none⟩ = some (.int .i64 a.2.1) := cell_at hBf hb (hes 1 (by omega))
       have e22 : w2.cell? ⟨b', off + j * 7 + 2, none⟩ = some (.slice aA2 an2 ac2) := cell_at hBf hb (hes 2 (by omega))
       have e23 : w2.cell? ⟨b', off + j * 7 + 3, none⟩ = some (.slice aA3 an3 ac3) := cell_at hBf hb (hes 3 (by omega))
       have e24 : w2.cell? ⟨b', off + j * 7 + 4, none⟩ = some (.slice aA4 an4 ac4) := cell_at hBf hb (hes 4 (by omega))
       have e25 : w2.cell? ⟨b', off + j * 7 + 5, none⟩ = some (.slice aA5 an5 ac5) := cell_at hBf hb (hes 5 (by omega))
       have e26 : w2.cell? ⟨b', off + j * 7 + 6, none⟩ = some (.slice aA6 an6 ac6) := cell_at hBf hb (hes 6 (by omega))
       have eF0 : (w2.setCell ⟨ob, 3, none⟩ (.slice A9 n9 c9)).cell? ⟨b', off + j * 7, none⟩ = some (.int .i64 a.1) := cell_at BF hb (hes 0 (by omega))
       have eF1 : (w2.setCell ⟨ob, 3, none⟩ (.slice A9 n9 c9)).cell? ⟨b', off + j * 7 + 1, none⟩ = some (.int .i64 a.2.1) := cell_at BF hb (hes 1 (by omega))
       have eF2 : (w2.setCell ⟨ob, 3, none⟩ (.slice A9 n9 c9)).cell? ⟨b', off + j * 7 + 2, none⟩ = some (.slice aA2 an2 ac2) := cell_at BF hb (hes 2 (by omega))
       have eF3 : (w2.setCell ⟨ob, 3, none⟩ (.slice A9 n9 c9)).cell? ⟨b', off + j * 7 + 3, none⟩ = some (.slice aA3 an3 ac3) := cell_at BF hb (hes 3 (by omega))
       have eF4 : (w2.setCell ⟨ob, 3, none⟩ (.slice A9 n9 c9)).cell? ⟨b', off + j * 7 + 4, none⟩ = some (.slice aA4 an4 ac4) := cell_at BF hb (hes 4 (by omega))
       have eF5 : (w2.setCell ⟨ob, 3, none⟩ (.slice A9 n9 c9)).cell? ⟨b', off + j * 7 + 5, none⟩ = some (.slice aA5 an5 ac5) := cell_at BF hb (hes 5 (by omega))
       have eF6 : (w2.setCell ⟨ob, 3, none⟩ (.slice A9 n9 c9)).cell? ⟨b', off + j * 7 + 6, none⟩ = some (.slice aA6 an6 ac6) := cell_at BF hb (hes 6 (by omega))
       refine hK.out _ _ ⟨(P2.cell 3), e20, e21, e22, e23, e24, e25, e26⟩ (fun hHeld => ?_)
       clear hK K
       (try simp only [Act.put, qa_, qb_, qc_])
       refine tkx 10 (some 36) ?_
       refine rdx [11] ?_
       refine rcx (fun K hK => ?_) ?_
       ·go_simp
        refine hK.out _ _ ⟨(PF.cell 3), eF0, eF1, eF2, eF3, eF4, eF5, eF6⟩ (fun hHeld => ?_)
        clear hK K
        (try simp only [Act.put, qa_, qb_, qc_])
        refine rex ?_ _
        go_wp2
        go_roundw
        case rel => exact ⟨j + 1, _, _, by omega, by go_num, by rw [HT.out]; exact GF, PF, RF, OF, prGF, BF, by have h := z2; simp [World.setCell] at h ⊢; omega⟩
        case measure => simp [RowKit.intOf]; omega
       exact AllReadyH.nil
      exact AllReadyH.nil
     exact AllReadyH.nil
    exact AllReadyH.nil
   refine rcx (fun K hK => ?_) ?_
   ·go_simp
    go_at_call 53
    refine (s_NodeOwn (tNode.reach (tNode.reach hRk hB) (belx)) hsa).mono ?_
    rintro e w1 ⟨cs1, Fd, rfl, hOd, hNd0, hb1⟩
    have hs1 : Bel wr w1 := bel_trans (show Bel wr wr.drew from (belx)) hb1
    have hNd : New wr.heap.size Fd := hNd0.lower (by simp)
    have hOk := hOd
    obtain ⟨oA2, oc2, oA3, oc3, oA4, oc4, oA5, oc5, oA6, oc6, oG2, oG4, oG6, rfl, -, -, -, -, -, -⟩ := fopenONode hOd
    clear hOd hNd0
    have P1 := Box.below P0 hs1 P0.size
    have R1 := Box.below R0 hs1 R0.size
    have O1 := Box.below O0 hs1 O0.size
    have e10 : w1.cell? ⟨b', off + j * 7, none⟩ = some (.int .i64 a.1) := cell_at (bel_trans hB hs1) hb (hes 0 (by omega))
    have e11 : w1.cell? ⟨b', off + j * 7 + 1, none⟩ = some (.int .i64 a.2.1) := cell_at (bel_trans hB hs1) hb (hes 1 (by omega))
    have e12 : w1.cell? ⟨b', off + j * 7 + 2, none⟩ = some (.slice aA2 an2 ac2) := cell_at (bel_trans hB hs1) hb (hes 2 (by omega))
    have e13 : w1.cell? ⟨b', off + j * 7 + 3, none⟩ = some (.slice aA3 an3 ac3) := cell_at (bel_trans hB hs1) hb (hes 3 (by omega))
    have e14 : w1.cell? ⟨b', off + j * 7 + 4, none⟩ = some (.slice aA4 an4 ac4) := cell_at (bel_trans hB hs1) hb (hes 4 (by omega))
    have e15 : w1.cell? ⟨b', off + j * 7 + 5, none⟩ = some (.slice aA5 an5 ac5) := cell_at (bel_trans hB hs1) hb (hes 5 (by omega))
    have e16 : w1.cell? ⟨b', off + j * 7 + 6, none⟩ = some (.slice aA6 an6 ac6) := cell_at (bel_trans hB hs1) hb (hes 6 (by omega))
    have o1c := O1.cell 3
    have PA := P1.alloc (.cells ([.int .i64 a.1, .int .i64 a.2.1, .slice oA2 a.2.2.1.1.length oc2, .slice oA3 a.2.2.1.2.length oc3, .slice oA4 a.2.2.2.1.1.length oc4, .slice oA5 a.2.2.2.1.2.length oc5, .slice oA6 a.2.2.2.2.length oc6].toArray) 109)
    have OA := O1.alloc (.cells ([.int .i64 a.1, .int .i64 a.2.1, .slice oA2 a.2.2.1.1.length oc2, .slice oA3 a.2.2.1.2.length oc3, .slice oA4 a.2.2.2.1.1.length oc4, .slice oA5 a.2.2.2.1.2.length oc5, .slice oA6 a.2.2.2.2.length oc6].toArray) 109)
    have oAc := OA.cell 3
    have zw1 := hs1.size
    have eA0 : (w1.alloc (.cells ([.int .i64 a.1, .int .i64 a.2.1, .slice oA2 a.2.2.1.1.length oc2, .slice oA3 a.2.2.1.2.length oc3, .slice oA4 a.2.2.2.1.1.length oc4, .slice oA5 a.2.2.2.1.2.length oc5, .slice oA6 a.2.2.2.2.length oc6].toArray) 109)).cell? ⟨b', off + j * 7, none⟩ = some (.int .i64 a.1) := cell_at (bel_alloc (bel_trans hB hs1) _) hb (hes 0 (by omega))
    have eA1 : (w1.alloc (.cells ([.int .i64 a.1, .int .i64 a.2.1, .slice oA2 a.2.2.1.1.length oc2, .slice oA3 a.2.2.1.2.length oc3, .slice oA4 a.2.2.2.1.1.length oc4, .slice oA5 a.2.2.2.1.2.length oc5, .slice oA6 a.2.2.2.2.length oc6].toArray) 109)).cell? ⟨b', off + j * 7 + 1, none⟩ = some (.int .i64 a.2.1) := cell_at (bel_alloc (bel_trans hB hs1) _) hb (hes 1 (by omega))
    have eA2 : (w1.alloc (.cells ([.int .i64 a.1, .int .i64 a.2.1, .slice oA2 a.2.2.1.1.length oc2, .slice oA3 a.2.2.1.2.length oc3, .slice oA4 a.2.2.2.1.1.length oc4, .slice oA5 a.2.2.2.1.2.length oc5, .slice oA6 a.2.2.2.2.length oc6].toArray) 109)).cell? ⟨b', off + j * 7 + 2, none⟩ = some (.slice aA2 an2 ac2) := cell_at (bel_alloc (bel_trans hB hs1) _) hb (hes 2 (by omega))
    have eA3 : (w1.alloc (.cells ([.int .i64 a.1, .int .i64 a.2.1, .slice oA2 a.2.2.1.1.length oc2, .slice oA3 a.2.2.1.2.length oc3, .slice oA4 a.2.2.2.1.1.length oc4, .slice oA5 a.2.2.2.1.2.length oc5, .slice oA6 a.2.2.2.2.length oc6].toArray) 109)).cell? ⟨b', off + j * 7 + 3, none⟩ = some (.slice aA3 an3 ac3) := cell_at (bel_alloc (bel_trans hB hs1) _) hb (hes 3 (by omega))
    have eA4 : (w1.alloc (.cells ([.int .i64 a.1, .int .i64 a.2.1, .slice oA2 a.2.2.1.1.length oc2, .slice oA3 a.2.2.1.2.length oc3, .slice oA4 a.2.2.2.1.1.length oc4, .slice oA5 a.2.2.2.1.2.length oc5, .slice oA6 a.2.2.2.2.length oc6].toArray) 109)).cell? ⟨b', off + j * 7 + 4, none⟩ = some (.slice aA4 an4 ac4) := cell_at (bel_alloc (bel_trans hB hs1) _) hb (hes 4 (by omega))
    have eA5 : (w1.alloc (.cells ([.int .i64 a.1, .int .i64 a.2.1, .slice oA2 a.2.2.1.1.length oc2, .slice oA3 a.2.2.1.2.length oc3, .slice oA4 a.2.2.2.1.1.length oc4, .slice oA5 a.2.2.2.1.2.length oc5, .slice oA6 a.2.2.2.2.length oc6].toArray) 109)).cell? ⟨b', off + j * 7 + 5, none⟩ = some (.slice aA5 an5 ac5) := cell_at (bel_alloc (bel_trans hB hs1) _) hb (hes 5 (by omega))
    have eA6 : (w1.alloc (.cells ([.int .i64 a.1, .int .i64 a.2.1, .slice oA2 a.2.2.1.1.length oc2, .slice oA3 a.2.2.1.2.length oc3, .slice oA4 a.2.2.2.1.1.length oc4, .slice oA5 a.2.2.2.1.2.length oc5, .slice oA6 a.2.2.2.2.length oc6].toArray) 109)).cell? ⟨b', off + j * 7 + 6, none⟩ = some (.slice aA6 an6 ac6) := cell_at (bel_alloc (bel_trans hB hs1) _) hb (hes 6 (by omega))
    go_wp2_with fail
    refine hK.out _ _ ⟨(P1.cell 3), e10, e11, e12, e13, e14, e15, e16⟩ (fun hHeld => ?_)
    clear hK K
    (try simp only [Act.put, qa_, qb_, qc_])
    refine rdx [1, 8] ?_
    refine rcx (fun K hK => ?_) ?_
    ·go_simp
     refine hK.out _ _ ⟨(P1.cell 3), e10, e11, e12, e13, e14, e15, e16⟩ (fun hHeld => ?_)
     clear hK K
     (try simp only [Act.put, qa_, qb_, qc_])
     refine rdx [8] ?_
     refine rcx (fun K hK => ?_) ?_
     ·go_simp
      refine hK.out _ _ ⟨(PA.cell 3), eA0, eA1, eA2, eA3, eA4, eA5, eA6⟩ (fun hHeld => ?_)
      clear hK K
      (try simp only [Act.put, qa_, qb_, qc_])
      refine rdx [9] ?_
      refine rcx (fun K hK => ?_) ?_
      ·have hBx : Bel wr (w1.alloc (.cells ([.int .i64 a.1, .int .i64 a.2.1, .slice oA2 a.2.2.1.1.length oc2, .slice oA3 a.2.2.1.2.length oc3, .slice oA4 a.2.2.2.1.1.length oc4, .slice oA5 a.2.2.2.1.2.length oc5, .slice oA6 a.2.2.2.2.length oc6].toArray) 109)) := bel_alloc hs1 _
       obtain ⟨xs, hrow, hpush⟩ := (hG.below hBx).row
       have hS2 : Src (w1.alloc (.cells ([.int .i64 a.1, .int .i64 a.2.1, .slice oA2 a.2.2.1.1.length oc2, .slice oA3 a.2.2.1.2.length oc3, .slice oA4 a.2.2.2.1.1.length oc4, .slice oA5 a.2.2.2.1.2.length oc5, .slice oA6 a.2.2.2.2.length oc6].toArray) 109)) 7 (some ⟨w1.heap.size, 0, none⟩) 1 [.int .i64 a.1, .int .i64 a.2.1, .slice oA2 a.2.2.1.1.length oc2, .slice oA3 a.2.2.1.2.length oc3, .slice oA4 a.2.2.2.1.1.length oc4, .slice oA5 a.2.2.2.1.2.length oc5, .slice oA6 a.2.2.2.2.length oc6] := Src.of_box w1 109 [.int .i64 a.1, .int .i64 a.2.1, .slice oA2 a.2.2.1.1.length oc2, .slice oA3 a.2.2.1.2.length oc3, .slice oA4 a.2.2.2.1.1.length oc4, .slice oA5 a.2.2.2.1.2.length oc5, .slice oA6 a.2.2.2.2.length oc6] (K := 7) rfl
       have tz : (Value.agg #[Value.int .i64 0, Value.int .i64 0, Value.slice none 0 0, Value.slice none 0 0, Value.slice none 0 0, Value.slice none 0 0, Value.slice none 0 0]).cells.size = 7 := lev
       have t0 : ∀ u ∈ ([.int .i64 a.1, .int .i64 a.2.1, .slice oA2 a.2.2.1.1.length oc2, .slice oA3 a.2.2.1.2.length oc3, .slice oA4 a.2.2.2.1.1.length oc4, .slice oA5 a.2.2.2.1.2.length oc5, .slice oA6 a.2.2.2.2.length oc6] : List Value), u.oneCell' = true := (by intro u hu; simp only [List.mem_cons, List.not_mem_nil, or_false] at hu; rcases hu with rfl | rfl | rfl | rfl | rfl | rfl | rfl <;> rfl)
       have t1 : ((p.2.2.2.1).take j).length + 1 ≤ maxLen := (by simp only [maxLen]; have := HLN.out; omega)
       have t2 : (((p.2.2.2.1).take j).length + 1) * 136 ≤ 140737488355328 := (by have := HLN.out; omega)
       have t3 := hBx.size
       refine step_app5 _ (by rfl) (.tmp 27) (.tmp 34) _ (by rfl) wS.heap.size 109 i3i _ 7 136 Tryz.underlying30 hj03 hj13 hj23 hj33 tz (by omega) v _ xs (by rfl) hrow _ 1 1 [.int .i64 a.1, .int .i64 a.2.1, .slice oA2 a.2.2.1.1.length oc2, .slice oA3 a.2.2.1.2.length oc3, .slice oA4 a.2.2.2.1.1.length oc4, .slice oA5 a.2.2.2.1.2.length oc5, .slice oA6 a.2.2.2.2.length oc6] (by rfl) hS2 t0 t1 t2 (by omega) ?_
       intro v2 w2 hown2 hgr2 hat2
       have hOel : tNode.O (w1.alloc (.cells ([.int .i64 a.1, .int .i64 a.2.1, .slice oA2 a.2.2.1.1.length oc2, .slice oA3 a.2.2.1.2.length oc3, .slice oA4 a.2.2.2.1.1.length oc4, .slice oA5 a.2.2.2.1.2.length oc5, .slice oA6 a.2.2.2.2.length oc6].toArray) 109)) [.int .i64 a.1, .int .i64 a.2.1, .slice oA2 a.2.2.1.1.length oc2, .slice oA3 a.2.2.1.2.length oc3, .slice oA4 a.2.2.2.1.1.length oc4, .slice oA5 a.2.2.2.1.2.length oc5, .slice oA6 a.2.2.2.2.length oc6] a Fd := Ty.below (t := tNode) hOk (belx)
       have hNel : New wS.heap.size Fd := hNd.lower (by omega)
       have hdis : ∀ f ∈ Fd, f ∉ F := (fun f h1 h2 => by have := hNd.2 _ h1; have := hlt2 f h2; omega)
       have hod : ∀ b, v.ownBlock = some b → b ∉ Fd := (fun b hb hx => by have := (hOwn b hb).2; have := hNd.2 _ hx; omega)
       have hfin := hpush w2 v2 a _ Fd hOel hNel hdis hod hown2 hgr2 hat2
       obtain ⟨A9, n9, c9, rfl, -⟩ := hfin.shapeN
       have P2 := Box.grown (P1.alloc _) hgr2 (fun e => by have := (hOwn w.heap.size e.symm).1; omega)
       have R2 := Box.grown (R1.alloc _) hgr2 (fun e => by have := (hOwn (w.heap.size + 1) e.symm).1; omega)
       have O2 := Box.grown (O1.alloc _) hgr2 (fun e => by have := (hOwn ob e.symm).1; omega)
       have hBf : Bel w w2 := Below.grown (bel_trans hB hBx) hgr2 (by have := hBx.size; omega) (fun b hb => by have := (hOwn b hb).1; omega)
       have z2 := hgr2.size
       have o2c := O2.cell 3
       have o2f := O2.frozen 3
       have GF := hfin.put (p := ⟨ob, 3, none⟩) fsz (.slice A9 n9 c9)
       have PF := P2.far (p := ⟨ob, 3, none⟩) fsz (.slice A9 n9 c9)
       have RF := R2.far (p := ⟨ob, 3, none⟩) fsz (.slice A9 n9 c9)
       have OF : Box (w2.setCell ⟨ob, 3, none⟩ (.slice A9 n9 c9)) ob 35 #[.int .i64 p.1, .int .i64 p.2.1, .int .i64 p.2.2.1, .slice A9 n9 c9, .slice none 0 0, .slice none 0 0, .slice AG (p.2.2.2.2.2.2).length cG] := O2.put 3 (.slice A9 n9 c9)
       have prGF := Ty.far3 (own_past (w := (w1.alloc (.cells ([.int .i64 a.1, .int .i64 a.2.1, .slice oA2 a.2.2.1.1.length oc2, .slice oA3 a.2.2.1.2.length oc3, .slice oA4 a.2.2.2.1.1.length oc4, .slice oA5 a.2.2.2.1.2.length oc5, .slice oA6 a.2.2.2.2.length oc6].toArray) 109))) (Ty.below (t := tGlance.row) prG hBx) hgr2 (fun b hb hx => by have h1 := (hOwn b hb).1; have h2 := prGl b hx; omega)) (p := ⟨ob, 3, none⟩) prGo (.slice A9 n9 c9)
       have BF : Bel w (w2.setCell ⟨ob, 3, none⟩ (.slice A9 n9 c9)) := bel_put hBf fsz _
       have e20 : w2.cell? ⟨b', off + j * 7, none⟩ = some (.int .i64 a.1) := cell_at hBf hb (hes 0 (by omega))
       have e21 : w2.cell? ⟨b', off + j * 7 + 1, none⟩ = some (.int .i64 a.2.1) := cell_at hBf hb (hes 1 (by omega))
       have e22 : w2.cell? ⟨b', off + j * 7 + 2, none⟩ = some (.slice aA2 an2 ac2) := cell_at hBf hb (hes 2 (by omega))
       have e23 : w2.cell? ⟨b', off + j * 7 + 3, none⟩ = some (.slice aA3 an3 ac3) := cell_at hBf hb (hes 3 (by omega))
       have e24 : w2.cell? ⟨b', off + j * 7 + 4, none⟩ = some (.slice aA4 an4 ac4) := cell_at hBf hb (hes 4 (by omega))
       have e25 : w2.cell? ⟨b', off + j * 7 + 5, none⟩ = some (.slice aA5 an5 ac5) := cell_at hBf hb (hes 5 (by omega))
       have e26 : w2.cell? ⟨b', off + j * 7 + 6, none⟩ = some (.slice aA6 an6 ac6) := cell_at hBf hb (hes 6 (by omega))
       have eF0 : (w2.setCell ⟨ob, 3, none⟩ (.slice A9 n9 c9)).cell? ⟨b', off + j * 7, none⟩ = some (.int .i64 a.1) := cell_at BF hb (hes 0 (by omega))
       have eF1 : (w2.setCell ⟨ob, 3, none⟩ (.slice A9 n9 c9)).cell? ⟨b', off + j * 7 + 1, none⟩ = some (.int .i64 a.2.1) := cell_at BF hb (hes 1 (by omega))
       have eF2 : (w2.setCell ⟨ob, 3, none⟩ (.slice A9 n9 c9)).cell? ⟨b', off + j * 7 + 2, none⟩ = some (.slice aA2 an2 ac2) := cell_at BF hb (hes 2 (by omega))
       have eF3 : (w2.setCell ⟨ob, 3, none⟩ (.slice A9 n9 c9)).cell? ⟨b', off + j * 7 + 3, none⟩ = some (.slice aA3 an3 ac3) := cell_at BF hb (hes 3 (by omega))
       have eF4 : (w2.setCell ⟨ob, 3, none⟩ (.slice A9 n9 c9)).cell? ⟨b', off + j * 7 + 4, none⟩ = some (.slice aA4 an4 ac4) := cell_at BF hb (hes 4 (by omega))
       have eF5 : (w2.setCell ⟨ob, 3, none⟩ (.slice A9 n9 c9)).cell? ⟨b', off + j * 7 + 5, none⟩ = some (.slice aA5 an5 ac5) := cell_at BF hb (hes 5 (by omega))
       have eF6 : (w2.setCell ⟨ob, 3, none⟩ (.slice A9 n9 c9)).cell? ⟨b', off + j * 7 + 6, none⟩ = some (.slice aA6 an6 ac6) := cell_at BF hb (hes 6 (by omega))
       refine hK.out _ _ ⟨(P2.cell 3), e20, e21, e22, e23, e24, e25, e26⟩ (fun hHeld => ?_)
       clear hK K
       (try simp only [Act.put, qa_, qb_, qc_])
       refine tkx 10 (some 36) ?_
       refine rdx [11] ?_
       refine rcx (fun K hK => ?_) ?_
       ·go_simp
        refine hK.out _ _ ⟨(PF.cell 3), eF0, eF1, eF2, eF3, eF4, eF5, eF6⟩ (fun hHeld => ?_)
        clear hK K
        (try simp only [Act.put, qa_, qb_, qc_])
        refine rex ?_ _
        go_wp2
        go_roundw
        case rel => exact ⟨j + 1, _, _, by omega, by go_num, by rw [HT.out]; exact GF, PF, RF, OF, prGF, BF, by have h := z2; simp [World.setCell] at h ⊢; omega⟩
        case measure => simp [RowKit.intOf]; omega
       exact AllReadyH.nil
      exact AllReadyH.nil
     exact AllReadyH.nil
    refine rcx (fun K hK => ?_) ?_
    ·go_simp
     refine hK.out _ _ ⟨(PA.cell 3), eA0, eA1, eA2, eA3, eA4, eA5, eA6⟩ (fun hHeld => ?_)
     clear hK K
     (try simp only [Act.put, qa_, qb_, qc_])
     refine rdx [1] ?_
     refine rcx (fun K hK => ?_) ?_
     ·go_simp
      refine hK.out _ _ ⟨(PA.cell 3), eA0, eA1, eA2, eA3, eA4, eA5, eA6⟩ (fun hHeld => ?_)
      clear hK K
      (try simp only [Act.put, qa_, qb_, qc_])
      refine rdx [9] ?_
      refine rcx (fun K hK => ?_) ?_
      ·have hBx : Bel wr (w1.alloc (.cells ([.int .i64 a.1, .int .i64 a.2.1, .slice oA2 a.2.2.1.1.length oc2, .slice oA3 a.2.2.1.2.length oc3, .slice oA4 a.2.2.2.1.1.length oc4, .slice oA5 a.2.2.2.1.2.length oc5, .slice oA6 a.2.2.2.2.length oc6].toArray) 109)) := bel_alloc hs1 _
       obtain ⟨xs, hrow, hpush⟩ := (hG.below hBx).row
       have hS2 : Src (w1.alloc (.cells ([.int .i64 a.1, .int .i64 a.2.1, .slice oA2 a.2.2.1.1.length oc2, .slice oA3 a.2.2.1.2.length oc3, .slice oA4 a.2.2.2.1.1.length oc4, .slice oA5 a.2.2.2.1.2.length oc5, .slice oA6 a.2.2.2.2.length oc6].toArray) 109)) 7 (some ⟨w1.heap.size, 0, none⟩) 1 [.int .i64 a.1, .int .i64 a.2.1, .slice oA2 a.2.2.1.1.length oc2, .slice oA3 a.2.2.1.2.length oc3, .slice oA4 a.2.2.2.1.1.length oc4, .slice oA5 a.2.2.2.1.2.length oc5, .slice oA6 a.2.2.2.2.length oc6] := Src.of_box w1 109 [.int .i64 a.1, .int .i64 a.2.1, .slice oA2 a.2.2.1.1.length oc2, .slice oA3 a.2.2.1.2.length oc3, .slice oA4 a.2.2.2.1.1.length oc4, .slice oA5 a.2.2.2.1.2.length oc5, .slice oA6 a.2.2.2.2.length oc6] (K := 7) rfl
       have tz : (Value.agg #[Value.int .i64 0, Value.int .i64 0, Value.slice none 0 0, Value.slice none 0 0, Value.slice none 0 0, Value.slice none 0 0, Value.slice none 0 0]).cells.size = 7 := lev
       have t0 : ∀ u ∈ ([.int .i64 a.1, .int .i64 a.2.1, .slice oA2 a.2.2.1.1.length oc2, .slice oA3 a.2.2.1.2.length oc3, .slice oA4 a.2.2.2.1.1.length oc4, .slice oA5 a.2.2.2.1.2.length oc5, .slice oA6 a.2.2.2.2.length oc6] : List Value), u.oneCell' = true := (by intro u hu; simp only [List.mem_cons, List.not_mem_nil, or_false] at hu; rcases hu with rfl | rfl | rfl | rfl | rfl | rfl | rfl <;> rfl)
       have t1 : ((p.2.2.2.1).take j).length + 1 ≤ maxLen := (by simp only [maxLen]; have := HLN.out; omega)
       have t2 : (((p.2.2.2.1).take j).length + 1) * 136 ≤ 140737488355328 := (by have := HLN.out; omega)
       have t3 := hBx.size
       refine step_app5 _ (by rfl) (.tmp 27) (.tmp 34) _ (by rfl) wS.heap.size 109 i3i _ 7 136 Tryz.underlying30 hj03 hj13 hj23 hj33 tz (by omega) v _ xs (by rfl) hrow _ 1 1 [.int .i64 a.1, .int .i64 a.2.1, .slice oA2 a.2.2.1.1.length oc2, .slice oA3 a.2.2.1.2.length oc3, .slice oA4 a.2.2.2.1.1.length oc4, .slice oA5 a.2.2.2.1.2.length oc5, .slice oA6 a.2.2.2.2.length oc6] (by rfl) hS2 t0 t1 t2 (by omega) ?_
       intro v2 w2 hown2 hgr2 hat2
       have hOel : tNode.O (w1.alloc (.cells ([.int .i64 a.1, .int .i64 a.2.1, .slice oA2 a.2.2.1.1.length oc2, .slice oA3 a.2.2.1.2.length oc3, .slice oA4 a.2.2.2.1.1.length oc4, .slice oA5 a.2.2.2.1.2.length oc5, .slice oA6 a.2.2.2.2.length oc6].toArray) 109)) [.int .i64 a.1, .int .i64 a.2.1, .slice oA2 a.2.2.1.1.length oc2, .slice oA3 a.2.2.1.2.length oc3, .slice oA4 a.2.2.2.1.1.length oc4, .slice oA5 a.2.2.2.1.2.length oc5, .slice oA6 a.2.2.2.2.length oc6] a Fd := Ty.below (t := tNode) hOk (belx)
       have hNel : New wS.heap.size Fd := hNd.lower (by omega)
       have hdis : ∀ f ∈ Fd, f ∉ F := (fun f h1 h2 => by have := hNd.2 _ h1; have := hlt2 f h2; omega)
       have hod : ∀ b, v.ownBlock = some b → b ∉ Fd := (fun b hb hx => by have := (hOwn b hb).2; have := hNd.2 _ hx; omega)
       have hfin := hpush w2 v2 a _ Fd hOel hNel hdis hod hown2 hgr2 hat2
       obtain ⟨A9, n9, c9, rfl, -⟩ := hfin.shapeN
       have P2 := Box.grown (P1.alloc _) hgr2 (fun e => by have := (hOwn w.heap.size e.symm).1; omega)
       have R2 := Box.grown (R1.alloc _) hgr2 (fun e => by have := (hOwn (w.heap.size + 1) e.symm).1; omega)
       have O2 := Box.grown (O1.alloc _) hgr2 (fun e => by have := (hOwn ob e.symm).1; omega)
       have hBf : Bel w w2 := Below.grown (bel_trans hB hBx) hgr2 (by have := hBx.size; omega) (fun b hb => by have := (hOwn b hb).1; omega)
       have z2 := hgr2.size
       have o2c := O2.cell 3
       have o2f := O2.frozen 3
       have GF := hfin.put (p := ⟨ob, 3, none⟩) fsz (.slice A9 n9 c9)
       have PF := P2.far (p := ⟨ob, 3, none⟩) fsz (.slice A9 n9 c9)
       have RF := R2.far (p := ⟨ob, 3, none⟩) fsz (.slice A9 n9 c9)
       have OF : Box (w2.setCell ⟨ob, 3, none⟩ (.slice A9 n9 c9)) ob 35 #[.int .i64 p.1, .int .i64 p.2.1, .int .i64 p.2.2.1, .slice A9 n9 c9, .slice none 0 0, .slice none 0 0, .slice AG (p.2.2.2.2.2.2).length cG] := O2.put 3 (.slice A9 n9 c9)
       have prGF := Ty.far3 (own_past (w := (w1.alloc (.cells ([.int .i64 a.1, .int .i64 a.2.1, .slice oA2 a.2.2.1.1.length oc2, .slice oA3 a.2.2.1.2.length oc3, .slice oA4 a.2.2.2.1.1.length oc4, .slice oA5 a.2.2.2.1.2.length oc5, .slice oA6 a.2.2.2.2.length oc6].toArray) 109))) (Ty.below (t := tGlance.row) prG hBx) hgr2 (fun b hb hx => by have h1 := (hOwn b hb).1; have h2 := prGl b hx; omega)) (p := ⟨ob, 3, none⟩) prGo (.slice A9 n9 c9)
       have BF : Bel w (w2.setCell ⟨ob, 3, none⟩ (.slice A9 n9 c9)) := bel_put hBf fsz _
       have e20 : w2.cell? ⟨b', off + j * 7, none⟩ = some (.int .i64 a.1) := cell_at hBf hb (hes 0 (by omega))
       have e21 : w2.cell? ⟨b', off + j * 7 + 1, none⟩ = some (.int .i64 a.2.1) := cell_at hBf hb (hes 1 (by omega))
       have e22 : w2.cell? ⟨b', off + j * 7 + 2, none⟩ = some (.slice aA2 an2 ac2) := cell_at hBf hb (hes 2 (by omega))
       have e23 : w2.cell? ⟨b', off + j * 7 + 3, none⟩ = some (.slice aA3 an3 ac3) := cell_at hBf hb (hes 3 (by omega))
       have e24 : w2.cell? ⟨b', off + j * 7 + 4, none⟩ = some (.slice aA4 an4 ac4) := cell_at hBf hb (hes 4 (by omega))
       have e25 : w2.cell? ⟨b', off + j * 7 + 5, none⟩ = some (.slice aA5 an5 ac5) := cell_at hBf hb (hes 5 (by omega))
       have e26 : w2.cell? ⟨b', off + j * 7 + 6, none⟩ = some (.slice aA6 an6 ac6) := cell_at hBf hb (hes 6 (by omega))
       have eF0 : (w2.setCell ⟨ob, 3, none⟩ (.slice A9 n9 c9)).cell? ⟨b', off + j * 7, none⟩ = some (.int .i64 a.1) := cell_at BF hb (hes 0 (by omega))
       have eF1 : (w2.setCell ⟨ob, 3, none⟩ (.slice A9 n9 c9)).cell? ⟨b', off + j * 7 + 1, none⟩ = some (.int .i64 a.2.1) := cell_at BF hb (hes 1 (by omega))
       have eF2 : (w2.setCell ⟨ob, 3, none⟩ (.slice A9 n9 c9)).cell? ⟨b', off + j * 7 + 2, none⟩ = some (.slice aA2 an2 ac2) := cell_at BF hb (hes 2 (by omega))
       have eF3 : (w2.setCell ⟨ob, 3, none⟩ (.slice A9 n9 c9)).cell? ⟨b', off + j * 7 + 3, none⟩ = some (.slice aA3 an3 ac3) := cell_at BF hb (hes 3 (by omega))
       have eF4 : (w2.setCell ⟨ob, 3, none⟩ (.slice A9 n9 c9)).cell? ⟨b', off + j * 7 + 4, none⟩ = some (.slice aA4 an4 ac4) := cell_at BF hb (hes 4 (by omega))
       have eF5 : (w2.setCell ⟨ob, 3, none⟩ (.slice A9 n9 c9)).cell? ⟨b', off + j * 7 + 5, none⟩ = some (.slice aA5 an5 ac5) := cell_at BF hb (hes 5 (by omega))
       have eF6 : (w2.setCell ⟨ob, 3, none⟩ (.slice A9 n9 c9)).cell? ⟨b', off + j * 7 + 6, none⟩ = some (.slice aA6 an6 ac6) := cell_at BF hb (hes 6 (by omega))
       refine hK.out _ _ ⟨(P2.cell 3), e20, e21, e22, e23, e24, e25, e26⟩ (fun hHeld => ?_)
       clear hK K
       (try simp only [Act.put, qa_, qb_, qc_])
       refine tkx 10 (some 36) ?_
       refine rdx [11] ?_
       refine rcx (fun K hK => ?_) ?_
       ·go_simp
        refine hK.out _ _ ⟨(PF.cell 3), eF0, eF1, eF2, eF3, eF4, eF5, eF6⟩ (fun hHeld => ?_)
        clear hK K
        (try simp only [Act.put, qa_, qb_, qc_])
        refine rex ?_ _
        go_wp2
        go_roundw
        case rel => exact ⟨j + 1, _, _, by omega, by go_num, by rw [HT.out]; exact GF, PF, RF, OF, prGF, BF, by have h := z2; simp [World.setCell] at h ⊢; omega⟩
        case measure => simp [RowKit.intOf]; omega
       exact AllReadyH.nil
      exact AllReadyH.nil
     exact AllReadyH.nil
    exact AllReadyH.nil
   exact AllReadyH.nil
  ·obtain rfl : n3 = j := by omega
   have HA := Lib.hid (show (p.2.2.2.1).take n3 = p.2.2.2.1 from List.take_of_length_le (Nat.le_of_eq HL3.out))
   rw [HA.out] at hG
   obtain ⟨D3, g3, F3, rfl, hO3, hN3⟩ := hG.done
   generalize wr = wT at *
   have PS := P0
   have RS := R0
   have OS := O0
   have hS := hB
   clear P0 R0 O0 hB
   have prN := hO3
   have prNl := tNode.row.lt prN
   have prNo : ob ∉ F3 := fun hx => by have := hN3.2 _ hx; omega
   have zwT := zB
   have zS : wT.heap.size ≤ wT.heap.size := Nat.le_refl _
   clear hO3
   have k4 := PS.cell 4
   go_wp2_with fail
   go_loopw [5] (fun i wr => ∃ (j : Nat) (F : List Nat) (v : Value), j ≤ n4 ∧ i = .int .i64 j ∧ GrowO tMail 62 wr wT.heap.size v ((p.2.2.2.2.1).take j) F ∧ Box wr w.heap.size 35 #[.int .i64 p.1, .int .i64 p.2.1, .int .i64 p.2.2.1, .slice A3 n3 c3, .slice A4 n4 c4, .slice A5 n5 c5, .slice A6 n6 c6] ∧ Box wr (w.heap.size + 1) 35 #[.int .i64 0, .int .i64 0, .int .i64 0, .slice none 0 0, .slice none 0 0, .slice none 0 0, .slice none 0 0] ∧ Box wr ob 35 #[.int .i64 p.1, .int .i64 p.2.1, .int .i64 p.2.2.1, .slice D3 (p.2.2.2.1).length g3, v, .slice none 0 0, .slice AG (p.2.2.2.2.2.2).length cG] ∧ (tGlance.row).O wr [.slice AG (p.2.2.2.2.2.2).length cG] (p.2.2.2.2.2.2) FG ∧ (tNode.row).O wr [.slice D3 (p.2.2.2.1).length g3] (p.2.2.2.1) F3 ∧ Bel w wr ∧ wT.heap.size ≤ wr.heap.size) (fun i _ => n4 - (RowKit.intOf i).toNat)
   case atStart => exact ⟨0, [], .slice none 0 0, by omega, rfl, GrowO.nil, PS, RS, OS, prG, prN, hS, zS⟩
   case round =>
    obtain ⟨j, F, v, hj, rfl, hG, P0, R0, O0, prG, prN, hB, zB⟩ := hrel
    clear k4 PS RS OS hS
    have k4 := P0.cell 4
    by_cases hlt : j < n4
    ·obtain ⟨a, b', off, es, hl2, rfl, hb, hes, hR⟩ := rowR_at (K := 2) r4 hlt rfl
     have HT := Lib.hid (take_sn hl2)
     have HLN := Lib.hid (show ((p.2.2.2.2.1).take j).length = j from by rw [List.length_take, HL4.out]; omega)
     have hsa : szMail a ≤ 1048576 := HSZ4.out j a hl2
     clear hl2
     have hRk := hR
     obtain ⟨aA1, an1, ac1, rfl, ai0, -, -, -, ar1⟩ := openMail hR
     have e0 : wr.cell? ⟨b', off + j * 2, none⟩ = some (.int .i64 a.1) := cell_at hB hb (hes 0 (by omega))
     have e1 : wr.cell? ⟨b', off + j * 2 + 1, none⟩ = some (.slice aA1 an1 ac1) := cell_at hB hb (hes 1 (by omega))
     have hOwn := fun b hb => (GrowO.row hG).choose_spec.1.lt b hb
     have hlt2 := hG.lt
     clear hR
     have hIr : Ints .u8 wr wr.heap.size aA1 an1 a.2 := reach (slR_ints ar1).1 hB
     have hn2 : an1 ≤ 1048576 := by rw [← hIr.1]; unfold szMail at hsa; (try unfold szCell at hsa); exact hsa
     have PE := P0.alloc (.cells #[] 5)
     have OE := O0.alloc (.cells #[] 5)
     have oEc := OE.cell 4
     have eE0 : (wr.alloc (.cells #[] 5)).cell? ⟨b', off + j * 2, none⟩ = some (.int .i64 a.1) := cell_at (bel_alloc hB _) hb (hes 0 (by omega))
     have eE1 : (wr.alloc (.cells #[] 5)).cell? ⟨b', off + j * 2 + 1, none⟩ = some (.slice aA1 an1 ac1) := cell_at (bel_alloc hB _) hb (hes 1 (by omega))
     have o0c := O0.cell 4
     go_wp2_with fail
     refine wp_region_held_drew (S := (fun w' => w'.cell? ⟨w.heap.size, 4, none⟩ = some (.slice (some ⟨b', off, none⟩) n4 c4) ∧ w'.cell? ⟨b', off + j * 2, none⟩ = some (.int .i64 a.1) ∧ w'.cell? ⟨b', off + j * 2 + 1, none⟩ = some (.slice aA1 an1 ac1))) (by kernel_rfl) (by exact ⟨k4, e0, e1⟩) (fun hHeld => ?_)
     refine tkx 0 (some 44) ?_
     refine tkx 2 (some 46) ?_
     refine tkx 3 (some 47) ?_
     refine tkx 4 (some 48) ?_
     refine tkx 5 (some 49) ?_
     refine tkx 6 (some 50) ?_
     refine tkx 7 (some 51) ?_
     refine tkx 9 (some 53) ?_
     refine tkx 10 (some 54) ?_
     refine tkx 11 (some 55) ?_
     refine tkx 12 (some 56) ?_
     refine tkx 13 (some 57) ?_
     refine tkx 14 (some 58) ?_
     refine tkx 15 (some 59) ?_
     refine rdx [1, 8] ?_
     refine rcx (fun K hK => ?_) ?_
     ·go_simp
      refine hK.out _ _ ⟨k4, e0, e1⟩ (fun hHeld => ?_)
      clear hK K
      (try simp only [Act.put, qa_, qb_, qc_])
      refine rdx [8] ?_
      refine rcx (fun K hK => ?_) ?_
      ·go_simp
       refine hK.out _ _ ⟨(PE.cell 4), eE0, eE1⟩ (fun hHeld => ?_)
       clear hK K
       (try simp only [Act.put, qa_, qb_, qc_])
       refine rdx [16] ?_
       refine rcx (fun K hK => ?_) ?_
       ·have hX1 : Bel wr ((wr.alloc (.cells #[] 5)).drew) := (belx)
        have hE : Own .u8 5 ((wr.alloc (.cells #[] 5)).drew) wr.heap.size (.slice (some ⟨wr.heap.size, 0, none⟩) 0 0) [] := Own.drew (Own.empty (Nat.le_refl _))
        refine Own.stepRow (by rfl) (.tmp 52) (.tmp 59) _ (by rfl) ib _ 1 Tryz.underlying28 hi0 hz0 hz1 hz2 rfl (by rfl) hE (by rfl) (reach hIr hX1) ley (by simp only [maxLen, List.length_nil]; omega) (by simp only [List.length_nil]; omega) ?_
        intro v1 w1 hO1 hgr hat
        obtain ⟨Ad, cd, Fd, rfl, hOd, hNd⟩ := own_slice (show Own .u8 5 w1 wr.heap.size v1 a.2 from by simpa using hO1)
        have hs1 : Bel wr w1 := Below.grown hX1 hgr ley (fun b hb => by have e := Option.some.inj (show some wr.heap.size = some b from hb); omega)
        have hOk : tMail.O w1 [.int .i64 a.1, .slice Ad a.2.length cd] a Fd := by obtain ⟨Fx, hX, ex⟩ := makeOMail (p := a) ai0 hOd; rw [ex] at hX; exact hX
        clear hO1
        have P1 := Box.grown (Box.drew (P0.alloc _)) hgr (fun e => by have e := Option.some.inj (show some w.heap.size = some wr.heap.size from e); have := P0.size; have := O0.size; have := R0.size; omega)
        have R1 := Box.grown (Box.drew (R0.alloc _)) hgr (fun e => by have e := Option.some.inj (show some (w.heap.size + 1) = some wr.heap.size from e); have := P0.size; have := O0.size; have := R0.size; omega)
        have O1 := Box.grown (Box.drew (O0.alloc _)) hgr (fun e => by have e := Option.some.inj (show some ob = some wr.heap.size from e); have := P0.size; have := O0.size; have := R0.size; omega)
        have e10 : w1.cell? ⟨b', off + j * 2, none⟩ = some (.int .i64 a.1) := cell_at (bel_trans hB hs1) hb (hes 0 (by omega))
        have e11 : w1.cell? ⟨b', off + j * 2 + 1, none⟩ = some (.slice aA1 an1 ac1) := cell_at (bel_trans hB hs1) hb (hes 1 (by omega))
        have o1c := O1.cell 4
        have PA := P1.alloc (.cells ([.int .i64 a.1, .slice Ad a.2.length cd].toArray) 62)
        have OA := O1.alloc (.cells ([.int .i64 a.1, .slice Ad a.2.length cd].toArray) 62)
        have oAc := OA.cell 4
        have zw1 := hs1.size
        have eA0 : (w1.alloc (.cells ([.int .i64 a.1, .slice Ad a.2.length cd].toArray) 62)).cell? ⟨b', off + j * 2, none⟩ = some (.int .i64 a.1) := cell_at (bel_alloc (bel_trans hB hs1) _) hb (hes 0 (by omega))
        have eA1 : (w1.alloc (.cells ([.int .i64 a.1, .slice Ad a.2.length cd].toArray) 62)).cell? ⟨b', off + j * 2 + 1, none⟩ = some (.slice aA1 an1 ac1) := cell_at (bel_alloc (bel_trans hB hs1) _) hb (hes 1 (by omega))
        refine hK.out _ _ ⟨(P1.cell 4), e10, e11⟩ (fun hHeld => ?_)
        clear hK K
        (try simp only [Act.put, qa_, qb_, qc_])
        refine tkx 17 (some 61) ?_
        refine tkx 18 (some 62) ?_
        refine rdx [19] ?_
        refine rcx (fun K hK => ?_) ?_
        ·go_simp
         refine hK.out _ _ ⟨(PA.cell 4), eA0, eA1⟩ (fun hHeld => ?_)
         clear hK K
         (try simp only [Act.put, qa_, qb_, qc_])
         refine rdx [20] ?_
         refine rcx (fun K hK => ?_) ?_
         ·have hBx : Bel wr (w1.alloc (.cells ([.int .i64 a.1, .slice Ad a.2.length cd].toArray) 62)) := bel_alloc hs1 _
          obtain ⟨xs, hrow, hpush⟩ := (hG.below hBx).row
          have hS2 : Src (w1.alloc (.cells ([.int .i64 a.1, .slice Ad a.2.length cd].toArray) 62)) 2 (some ⟨w1.heap.size, 0, none⟩) 1 [.int .i64 a.1, .slice Ad a.2.length cd] := Src.of_box w1 62 [.int .i64 a.1, .slice Ad a.2.length cd] (K := 2) rfl
          have tz : (Value.agg #[Value.int .i64 0, Value.slice none 0 0]).cells.size = 2 := lev
          have t0 : ∀ u ∈ ([.int .i64 a.1, .slice Ad a.2.length cd] : List Value), u.oneCell' = true := (by intro u hu; simp only [List.mem_cons, List.not_mem_nil, or_false] at hu; rcases hu with rfl | rfl <;> rfl)
          have t1 : ((p.2.2.2.2.1).take j).length + 1 ≤ maxLen := (by simp only [maxLen]; have := HLN.out; omega)
          have t2 : (((p.2.2.2.2.1).take j).length + 1) * 32 ≤ 140737488355328 := (by have := HLN.out; omega)
          have t3 := hBx.size
          refine step_app5 _ (by rfl) (.tmp 45) (.tmp 63) _ (by rfl) wT.heap.size 62 i4i _ 2 32 Tryz.underlying31 hj04 hj14 hj24 hj34 tz (by omega) v _ xs (by rfl) hrow _ 1 1 [.int .i64 a.1, .slice Ad a.2.length cd] (by rfl) hS2 t0 t1 t2 (by omega) ?_
          intro v2 w2 hown2 hgr2 hat2
          have hOel : tMail.O (w1.alloc (.cells ([.int .i64 a.1, .slice Ad a.2.length cd].toArray) 62)) [.int .i64 a.1, .slice Ad a.2.length cd] a Fd := Ty.below (t := tMail) hOk (belx)
          have hNel : New wT.heap.size Fd := hNd.lower (by omega)
          have hdis : ∀ f ∈ Fd, f ∉ F := (fun f h1 h2 => by have := hNd.2 _ h1; have := hlt2 f h2; omega)
          have hod : ∀ b, v.ownBlock = some b → b ∉ Fd := (fun b hb hx => by have := (hOwn b hb).2; have := hNd.2 _ hx; omega)
          have hfin := hpush w2 v2 a _ Fd hOel hNel hdis hod hown2 hgr2 hat2
          obtain ⟨A9, n9, c9, rfl, -⟩ := hfin.shapeN
          have P2 := Box.grown (P1.alloc _) hgr2 (fun e => by have := (hOwn w.heap.size e.symm).1; omega)
          have R2 := Box.grown (R1.alloc _) hgr2 (fun e => by have := (hOwn (w.heap.size + 1) e.symm).1; omega)
          have O2 := Box.grown (O1.alloc _) hgr2 (fun e => by have := (hOwn ob e.symm).1; omega)
          have hBf : Bel w w2 := Below.grown (bel_trans hB hBx) hgr2 (by have := hBx.size; omega) (fun b hb => by have := (hOwn b hb).1; omega)
          have z2 := hgr2.size
          have o2c := O2.cell 4
          have o2f := O2.frozen 4
          have GF := hfin.put (p := ⟨ob, 4, none⟩) fsz (.slice A9 n9 c9)
          have PF := P2.far (p := ⟨ob, 4, none⟩) fsz (.slice A9 n9 c9)
          have RF := R2.far (p := ⟨ob, 4, none⟩) fsz (.slice A9 n9 c9)
          have OF : Box (w2.setCell ⟨ob, 4, none⟩ (.slice A9 n9 c9)) ob 35 #[.int .i64 p.1, .int .i64 p.2.1, .int .i64 p.2.2.1, .slice D3 (p.2.2.2.1).length g3, .slice A9 n9 c9, .slice none 0 0, .slice AG (p.2.2.2.2.2.2).length cG] := O2.put 4 (.slice A9 n9 c9)
          have prGF := Ty.far3 (own_past (w := (w1.alloc (.cells ([.int .i64 a.1, .slice Ad a.2.length cd].toArray) 62))) (Ty.below (t := tGlance.row) prG hBx) hgr2 (fun b hb hx => by have h1 := (hOwn b hb).1; have h2 := prGl b hx; omega)) (p := ⟨ob, 4, none⟩) prGo (.slice A9 n9 c9)
          have prNF := Ty.far3 (own_past (w := (w1.alloc (.cells ([.int .i64 a.1, .slice Ad a.2.length cd].toArray) 62))) (Ty.below (t := tNode.row) prN hBx) hgr2 (fun b hb hx => by have h1 := (hOwn b hb).1; have h2 := prNl b hx; omega)) (p := ⟨ob, 4, none⟩) prNo (.slice A9 n9 c9)
          have BF : Bel w (w2.setCell ⟨ob, 4, none⟩ (.slice A9 n9 c9)) := bel_put hBf fsz _
          have e20 : w2.cell? ⟨b', off + j * 2, none⟩ = some (.int .i64 a.1) := cell_at hBf hb (hes 0 (by omega))
          have e21 : w2.cell? ⟨b', off + j * 2 + 1, none⟩ = some (.slice aA1 an1 ac1) := cell_at hBf hb (hes 1 (by omega))
          have eF0 : (w2.setCell ⟨ob, 4, none⟩ (.slice A9 n9 c9)).cell? ⟨b', off + j * 2, none⟩ = some (.int .i64 a.1) := cell_at BF hb (hes 0 (by omega))
          have eF1 : (w2.setCell ⟨ob, 4, none⟩ (.slice A9 n9 c9)).cell? ⟨b', off + j * 2 + 1, none⟩ = some (.slice aA1 an1 ac1) := cell_at BF hb (hes 1 (by omega))
          refine hK.out _ _ ⟨(P2.cell 4), e20, e21⟩ (fun hHeld => ?_)
          clear hK K
          (try simp only [Act.put, qa_, qb_, qc_])
          refine tkx 21 (some 65) ?_
          refine rdx [22] ?_
          refine rcx (fun K hK => ?_) ?_
          ·go_simp
           refine hK.out _ _ ⟨(PF.cell 4), eF0, eF1⟩ (fun hHeld => ?_)
           clear hK K
           (try simp only [Act.put, qa_, qb_, qc_])
           refine rex ?_ _
           go_wp2
           go_roundw
           case rel => exact ⟨j + 1, _, _, by omega, by go_num, by rw [HT.out]; exact GF, PF, RF, OF, prGF, prNF, BF, by have h := z2; simp [World.setCell] at h ⊢; omega⟩
           case measure => simp [RowKit.intOf]; omega
          exact AllReadyH.nil
         exact AllReadyH.nil
        exact AllReadyH.nil
       exact AllReadyH.nil
      exact AllReadyH.nil
     refine rcx (fun K hK => ?_) ?_
     ·go_simp
      refine hK.out _ _ ⟨(PE.cell 4), eE0, eE1⟩ (fun hHeld => ?_)
      clear hK K
      (try simp only [Act.put, qa_, qb_, qc_])
      refine rdx [1, 16] ?_
      refine rcx (fun K hK => ?_) ?_
      ·go_simp
       refine hK.out _ _ ⟨(PE.cell 4), eE0, eE1⟩ (fun hHeld => ?_)
       clear hK K
       (try simp only [Act.put, qa_, qb_, qc_])
       refine rdx [16] ?_
       refine rcx (fun K hK => ?_) ?_
       ·have hX1 : Bel wr ((wr.alloc (.cells #[] 5)).drew) := (belx)
        have hE : Own .u8 5 ((wr.alloc (.cells #[] 5)).drew) wr.heap.size (.slice (some ⟨wr.heap.size, 0, none⟩) 0 0) [] := Own.drew (Own.empty (Nat.le_refl _))
        refine Own.stepRow (by rfl) (.tmp 52) (.tmp 59) _ (by rfl) ib _ 1 Tryz.underlying28 hi0 hz0 hz1 hz2 rfl (by rfl) hE (by rfl) (reach hIr hX1) ley (by simp only [maxLen, List.length_nil]; omega) (by simp only [List.length_nil]; omega) ?_
        intro v1 w1 hO1 hgr hat
        obtain ⟨Ad, cd, Fd, rfl, hOd, hNd⟩ := own_slice (show Own .u8 5 w1 wr.heap.size v1 a.2 from by simpa using hO1)
        have hs1 : Bel wr w1 := Below.grown hX1 hgr ley (fun b hb => by have e := Option.some.inj (show some wr.heap.size = some b from hb); omega)
        have hOk : tMail.O w1 [.int .i64 a.1, .slice Ad a.2.length cd] a Fd := by obtain ⟨Fx, hX, ex⟩ := makeOMail (p := a) ai0 hOd; rw [ex] at hX; exact hX
        clear hO1
        have P1 := Box.grown (Box.drew (P0.alloc _)) hgr (fun e => by have e := Option.some.inj (show some w.heap.size = some wr.heap.size from e); have := P0.size; have := O0.size; have := R0.size; omega)
        have R1 := Box.grown (Box.drew (R0.alloc _)) hgr (fun e => by have e := Option.some.inj (show some (w.heap.size + 1) = some wr.heap.size from e); have := P0.size; have := O0.size; have := R0.size; omega)
        have O1 := Box.grown (Box.drew (O0.alloc _)) hgr (fun e => by have e := Option.some.inj (show some ob = some wr.heap.size from e); have := P0.size; have := O0.size; have := R0.size; omega)
        have e10 : w1.cell? ⟨b', off + j * 2, none⟩ = some (.int .i64 a.1) := cell_at (bel_trans hB hs1) hb (hes 0 (by omega))
        have e11 : w1.cell? ⟨b', off + j * 2 + 1, none⟩ = some (.slice aA1 an1 ac1) := cell_at (bel_trans hB hs1) hb (hes 1 (by omega))
        have o1c := O1.cell 4
        have PA := P1.alloc (.cells ([.int .i64 a.1, .slice Ad a.2.length cd].toArray) 62)
        have OA := O1.alloc (.cells ([.int .i64 a.1, .slice Ad a.2.length cd].toArray) 62)
        have oAc := OA.cell 4
        have zw1 := hs1.size
        have eA0 : (w1.alloc (.cells ([.int .i64 a.1, .slice Ad a.2.length cd].toArray) 62)).cell? ⟨b', off + j * 2, none⟩ = some (.int .i64 a.1) := cell_at (bel_alloc (bel_trans hB hs1) _) hb (hes 0 (by omega))
        have eA1 : (w1.alloc (.cells ([.int .i64 a.1, .slice Ad a.2.length cd].toArray) 62)).cell? ⟨b', off + j * 2 + 1, none⟩ = some (.slice aA1 an1 ac1) := cell_at (bel_alloc (bel_trans hB hs1) _) hb (hes 1 (by omega))
        refine hK.out _ _ ⟨(P1.cell 4), e10, e11⟩ (fun hHeld => ?_)
        clear hK K
        (try simp only [Act.put, qa_, qb_, qc_])
        refine tkx 17 (some 61) ?_
        refine tkx 18 (some 62) ?_
        refine rdx [19] ?_
        refine rcx (fun K hK => ?_) ?_
        ·go_simp
         refine hK.out _ _ ⟨(PA.cell 4), eA0, eA1⟩ (fun hHeld => ?_)
         clear hK K
         (try simp only [Act.put, qa_, qb_, qc_])
         refine rdx [20] ?_
         refine rcx (fun K hK => ?_) ?_
         ·have hBx : Bel wr (w1.alloc (.cells ([.int .i64 a.1, .slice Ad a.2.length cd].toArray) 62)) := bel_alloc hs1 _
          obtain ⟨xs, hrow, hpush⟩ := (hG.below hBx).row
          have hS2 : Src (w1.alloc (.cells ([.int .i64 a.1, .slice Ad a.2.length cd].toArray) 62)) 2 (some ⟨w1.heap.size, 0, none⟩) 1 [.int .i64 a.1, .slice Ad a.2.length cd] := Src.of_box w1 62 [.int .i64 a.1, .slice Ad a.2.length cd] (K := 2) rfl
          have tz : (Value.agg #[Value.int .i64 0, Value.slice none 0 0]).cells.size = 2 := lev
          have t0 : ∀ u ∈ ([.int .i64 a.1, .slice Ad a.2.length cd] : List Value), u.oneCell' = true := (by intro u hu; simp only [List.mem_cons, List.not_mem_nil, or_false] at hu; rcases hu with rfl | rfl <;> rfl)
          have t1 : ((p.2.2.2.2.1).take j).length + 1 ≤ maxLen := (by simp only [maxLen]; have := HLN.out; omega)
          have t2 : (((p.2.2.2.2.1).take j).length + 1) * 32 ≤ 140737488355328 := (by have := HLN.out; omega)
          have t3 := hBx.size
          refine step_app5 _ (by rfl) (.tmp 45) (.tmp 63) _ (by rfl) wT.heap.size 62 i4i _ 2 32 Tryz.underlying31 hj04 hj14 hj24 hj34 tz (by omega) v _ xs (by rfl) hrow _ 1 1 [.int .i64 a.1, .slice Ad a.2.length cd] (by rfl) hS2 t0 t1 t2 (by omega) ?_
          intro v2 w2 hown2 hgr2 hat2
          have hOel : tMail.O (w1.alloc (.cells ([.int .i64 a.1, .slice Ad a.2.length cd].toArray) 62)) [.int .i64 a.1, .slice Ad a.2.length cd] a Fd := Ty.below (t := tMail) hOk (belx)
          have hNel : New wT.heap.size Fd := hNd.lower (by omega)
          have hdis : ∀ f ∈ Fd, f ∉ F := (fun f h1 h2 => by have := hNd.2 _ h1; have := hlt2 f h2; omega)
          have hod : ∀ b, v.ownBlock = some b → b ∉ Fd := (fun b hb hx => by have := (hOwn b hb).2; have := hNd.2 _ hx; omega)
          have hfin := hpush w2 v2 a _ Fd hOel hNel hdis hod hown2 hgr2 hat2
          obtain ⟨A9, n9, c9, rfl, -⟩ := hfin.shapeN
          have P2 := Box.grown (P1.alloc _) hgr2 (fun e => by have := (hOwn w.heap.size e.symm).1; omega)
          have R2 := Box.grown (R1.alloc _) hgr2 (fun e => by have := (hOwn (w.heap.size + 1) e.symm).1; omega)
          have O2 := Box.grown (O1.alloc _) hgr2 (fun e => by have := (hOwn ob e.symm).1; omega)
          have hBf : Bel w w2 := Below.grown (bel_trans hB hBx) hgr2 (by have := hBx.size; omega) (fun b hb => by have := (hOwn b hb).1; omega)
          have z2 := hgr2.size
          have o2c := O2.cell 4
          have o2f := O2.frozen 4
          have GF := hfin.put (p := ⟨ob, 4, none⟩) fsz (.slice A9 n9 c9)
          have PF := P2.far (p := ⟨ob, 4, none⟩) fsz (.slice A9 n9 c9)
          have RF := R2.far (p := ⟨ob, 4, none⟩) fsz (.slice A9 n9 c9)
          have OF : Box (w2.setCell ⟨ob, 4, none⟩ (.slice A9 n9 c9)) ob 35 #[.int .i64 p.1, .int .i64 p.2.1, .int .i64 p.2.2.1, .slice D3 (p.2.2.2.1).length g3, .slice A9 n9 c9, .slice none 0 0, .slice AG (p.2.2.2.2.2.2).length cG] := O2.put 4 (.slice A9 n9 c9)
          have prGF := Ty.far3 (own_past (w := (w1.alloc (.cells ([.int .i64 a.1, .slice Ad a.2.length cd].toArray) 62))) (Ty.below (t := tGlance.row) prG hBx) hgr2 (fun b hb hx => by have h1 := (hOwn b hb).1; have h2 := prGl b hx; omega)) (p := ⟨ob, 4, none⟩) prGo (.slice A9 n9 c9)
          have prNF := Ty.far3 (own_past (w := (w1.alloc (.cells ([.int .i64 a.1, .slice Ad a.2.length cd].toArray) 62))) (Ty.below (t := tNode.row) prN hBx) hgr2 (fun b hb hx => by have h1 := (hOwn b hb).1; have h2 := prNl b hx; omega)) (p := ⟨ob, 4, none⟩) prNo (.slice A9 n9 c9)
          have BF : Bel w (w2.setCell ⟨ob, 4, none⟩ (.slice A9 n9 c9)) := bel_put hBf fsz _
          have e20 : w2.cell? ⟨b', off + j * 2, none⟩ = some (.int .i64 a.1) := cell_at hBf hb (hes 0 (by omega))
          have e21 : w2.cell? ⟨b', off + j * 2 + 1, none⟩ = some (.slice aA1 an1 ac1) := cell_at hBf hb (hes 1 (by omega))
          have eF0 : (w2.setCell ⟨ob, 4, none⟩ (.slice A9 n9 c9)).cell? ⟨b', off + j * 2, none⟩ = some (.int .i64 a.1) := cell_at BF hb (hes 0 (by omega))
          have eF1 : (w2.setCell ⟨ob, 4, none⟩ (.slice A9 n9 c9)).cell? ⟨b', off + j * 2 + 1, none⟩ = some (.slice aA1 an1 ac1) := cell_at BF hb (hes 1 (by omega))
          refine hK.out _ _ ⟨(P2.cell 4), e20, e21⟩ (fun hHeld => ?_)
          clear hK K
          (try simp only [Act.put, qa_, qb_, qc_])
          refine tkx 21 (some 65) ?_
          refine rdx [22] ?_
          refine rcx (fun K hK => ?_) ?_
          ·go_simp
           refine hK.out _ _ ⟨(PF.cell 4), eF0, eF1⟩ (fun hHeld => ?_)
           clear hK K
           (try simp only [Act.put, qa_, qb_, qc_])
           refine rex ?_ _
           go_wp2
           go_roundw
           case rel => exact ⟨j + 1, _, _, by omega, by go_num, by rw [HT.out]; exact GF, PF, RF, OF, prGF, prNF, BF, by have h := z2; simp [World.setCell] at h ⊢; omega⟩
           case measure => simp [RowKit.intOf]; omega
          exact AllReadyH.nil
         exact AllReadyH.nil
        exact AllReadyH.nil
       exact AllReadyH.nil
      refine rcx (fun K hK => ?_) ?_
      ·have hX1 : Bel wr ((wr.alloc (.cells #[] 5)).drew) := (belx)
       have hE : Own .u8 5 ((wr.alloc (.cells #[] 5)).drew) wr.heap.size (.slice (some ⟨wr.heap.size, 0, none⟩) 0 0) [] := Own.drew (Own.empty (Nat.le_refl _))
       refine Own.stepRow (by rfl) (.tmp 52) (.tmp 59) _ (by rfl) ib _ 1 Tryz.underlying28 hi0 hz0 hz1 hz2 rfl (by rfl) hE (by rfl) (reach hIr hX1) ley (by simp only [maxLen, List.length_nil]; omega) (by simp only [List.length_nil]; omega) ?_
       intro v1 w1 hO1 hgr hat
       obtain ⟨Ad, cd, Fd, rfl, hOd, hNd⟩ := own_slice (show Own .u8 5 w1 wr.heap.size v1 a.2 from by simpa using hO1)
       have hs1 : Bel wr w1 := Below.grown hX1 hgr ley (fun b hb => by have e := Option.some.inj (show some wr.heap.size = some b from hb); omega)
       have hOk : tMail.O w1 [.int .i64 a.1, .slice Ad a.2.length cd] a Fd := by obtain ⟨Fx, hX, ex⟩ := makeOMail (p := a) ai0 hOd; rw [ex] at hX; exact hX
       clear hO1
       have P1 := Box.grown (Box.drew (P0.alloc _)) hgr (fun e => by have e := Option.some.inj (show some w.heap.size = some wr.heap.size from e); have := P0.size; have := O0.size; have := R0.size; omega)
       have R1 := Box.grown (Box.drew (R0.alloc _)) hgr (fun e => by have e := Option.some.inj (show some (w.heap.size + 1) = some wr.heap.size from e); have := P0.size; have := O0.size; have := R0.size; omega)
       have O1 := Box.grown (Box.drew (O0.alloc _)) hgr (fun e => by have e := Option.some.inj (show some ob = some wr.heap.size from e); have := P0.size; have := O0.size; have := R0.size; omega)
       have e10 : w1.cell? ⟨b', off + j * 2, none⟩ = some (.int .i64 a.1) := cell_at (bel_trans hB hs1) hb (hes 0 (by omega))
       have e11 : w1.cell? ⟨b', off + j * 2 + 1, none⟩ = some (.slice aA1 an1 ac1) := cell_at (bel_trans hB hs1) hb (hes 1 (by omega))
       have o1c := O1.cell 4
       have PA := P1.alloc (.cells ([.int .i64 a.1, .slice Ad a.2.length cd].toArray) 62)
       have OA := O1.alloc (.cells ([.int .i64 a.1, .slice Ad a.2.length cd].toArray) 62)
       have oAc := OA.cell 4
       have zw1 := hs1.size
       have eA0 : (w1.alloc (.cells ([.int .i64 a.1, .slice Ad a.2.length cd].toArray) 62)).cell? ⟨b', off + j * 2, none⟩ = some (.int .i64 a.1) := cell_at (bel_alloc (bel_trans hB hs1) _) hb (hes 0 (by omega))
       have eA1 : (w1.alloc (.cells ([.int .i64 a.1, .slice Ad a.2.length cd].toArray) 62)).cell? ⟨b', off + j * 2 + 1, none⟩ = some (.slice aA1 an1 ac1) := cell_at (bel_alloc (bel_trans hB hs1) _) hb (hes 1 (by omega))
       refine hK.out _ _ ⟨(P1.cell 4), e10, e11⟩ (fun hHeld => ?_)
       clear hK K
       (try simp only [Act.put, qa_, qb_, qc_])
       refine tkx 17 (some 61) ?_
       refine tkx 18 (some 62) ?_
       refine rdx [1, 19] ?_
       refine rcx (fun K hK => ?_) ?_
       ·go_simp
        refine hK.out _ _ ⟨(P1.cell 4), e10, e11⟩ (fun hHeld => ?_)
        clear hK K
        (try simp only [Act.put, qa_, qb_, qc_])
        refine rdx [19] ?_
        refine rcx (fun K hK => ?_) ?_
        ·go_simp
         refine hK.out _ _ ⟨(PA.cell 4), eA0, eA1⟩ (fun hHeld => ?_)
         clear hK K
         (try simp only [Act.put, qa_, qb_, qc_])
         refine rdx [20] ?_
         refine rcx (fun K hK => ?_) ?_
         ·have hBx : Bel wr (w1.alloc (.cells ([.int .i64 a.1, .slice Ad a.2.length cd].toArray) 62)) := bel_alloc hs1 _
          obtain ⟨xs, hrow, hpush⟩ := (hG.below hBx).row
          have hS2 : Src (w1.alloc (.cells ([.int .i64 a.1, .slice Ad a.2.length cd].toArray) 62)) 2 (some ⟨w1.heap.size, 0, none⟩) 1 [.int .i64 a.1, .slice Ad a.2.length cd] := Src.of_box w1 62 [.int .i64 a.1, .slice Ad a.2.length cd] (K := 2) rfl
          have tz : (Value.agg #[Value.int .i64 0, Value.slice none 0 0]).cells.size = 2 := lev
          have t0 : ∀ u ∈ ([.int .i64 a.1, .slice Ad a.2.length cd] : List Value), u.oneCell' = true := (by intro u hu; simp only [List.mem_cons, List.not_mem_nil, or_false] at hu; rcases hu with rfl | rfl <;> rfl)
          have t1 : ((p.2.2.2.2.1).take j).length + 1 ≤ maxLen := (by simp only [maxLen]; have := HLN.out; omega)
          have t2 : (((p.2.2.2.2.1).take j).length + 1) * 32 ≤ 140737488355328 := (by have := HLN.out; omega)
          have t3 := hBx.size
          refine step_app5 _ (by rfl) (.tmp 45) (.tmp 63) _ (by rfl) wT.heap.size 62 i4i _ 2 32 Tryz.underlying31 hj04 hj14 hj24 hj34 tz (by omega) v _ xs (by rfl) hrow _ 1 1 [.int .i64 a.1, .slice Ad a.2.length cd] (by rfl) hS2 t0 t1 t2 (by omega) ?_
          intro v2 w2 hown2 hgr2 hat2
          have hOel : tMail.O (w1.alloc (.cells ([.int .i64 a.1, .slice Ad a.2.length cd].toArray) 62)) [.int .i64 a.1, .slice Ad a.2.length cd] a Fd := Ty.below (t := tMail) hOk (belx)
          have hNel : New wT.heap.size Fd := hNd.lower (by omega)
          have hdis : ∀ f ∈ Fd, f ∉ F := (fun f h1 h2 => by have := hNd.2 _ h1; have := hlt2 f h2; omega)
          have hod : ∀ b, v.ownBlock = some b → b ∉ Fd := (fun b hb hx => by have := (hOwn b hb).2; have := hNd.2 _ hx; omega)
          have hfin := hpush w2 v2 a _ Fd hOel hNel hdis hod hown2 hgr2 hat2
          obtain ⟨A9, n9, c9, rfl, -⟩ := hfin.shapeN
          have P2 := Box.grown (P1.alloc _) hgr2 (fun e => by have := (hOwn w.heap.size e.symm).1; omega)
          have R2 := Box.grown (R1.alloc _) hgr2 (fun e => by have := (hOwn (w.heap.size + 1) e.symm).1; omega)
          have O2 := Box.grown (O1.alloc _) hgr2 (fun e => by have := (hOwn ob e.symm).1; omega)
          have hBf : Bel w w2 := Below.grown (bel_trans hB hBx) hgr2 (by have := hBx.size; omega) (fun b hb => by have := (hOwn b hb).1; omega)
          have z2 := hgr2.size
          have o2c := O2.cell 4
          have o2f := O2.frozen 4
          have GF := hfin.put (p := ⟨ob, 4, none⟩) fsz (.slice A9 n9 c9)
          have PF := P2.far (p := ⟨ob, 4, none⟩) fsz (.slice A9 n9 c9)
          have RF := R2.far (p := ⟨ob, 4, none⟩) fsz (.slice A9 n9 c9)
          have OF : Box (w2.setCell ⟨ob, 4, none⟩ (.slice A9 n9 c9)) ob 35 #[.int .i64 p.1, .int .i64 p.2.1, .int .i64 p.2.2.1, .slice D3 (p.2.2.2.1).length g3, .slice A9 n9 c9, .slice none 0 0, .slice AG (p.2.2.2.2.2.2).length cG] := O2.put 4 (.slice A9 n9 c9)
          have prGF := Ty.far3 (own_past (w := (w1.alloc (.cells ([.int .i64 a.1, .slice Ad a.2.length cd].toArray) 62))) (Ty.below (t := tGlance.row) prG hBx) hgr2 (fun b hb hx => by have h1 := (hOwn b hb).1; have h2 := prGl b hx; omega)) (p := ⟨ob, 4, none⟩) prGo (.slice A9 n9 c9)
          have prNF := Ty.far3 (own_past (w := (w1.alloc (.cells ([.int .i64 a.1, .slice Ad a.2.length cd].toArray) 62))) (Ty.below (t := tNode.row) prN hBx) hgr2 (fun b hb hx => by have h1 := (hOwn b hb).1; have h2 := prNl b hx; omega)) (p := ⟨ob, 4, none⟩) prNo (.slice A9 n9 c9)
          have BF : Bel w (w2.setCell ⟨ob, 4, none⟩ (.slice A9 n9 c9)) := bel_put hBf fsz _
          have e20 : w2.cell? ⟨b', off + j * 2, none⟩ = some (.int .i64 a.1) := cell_at hBf hb (hes 0 (by omega))
          have e21 : w2.cell? ⟨b', off + j * 2 + 1, none⟩ = some (.slice aA1 an1 ac1) := cell_at hBf hb (hes 1 (by omega))
          have eF0 : (w2.setCell ⟨ob, 4, none⟩ (.slice A9 n9 c9)).cell? ⟨b', off + j * 2, none⟩ = some (.int .i64 a.1) := cell_at BF hb (hes 0 (by omega))
          have eF1 : (w2.setCell ⟨ob, 4, none⟩ (.slice A9 n9 c9)).cell? ⟨b', off + j * 2 + 1, none⟩ = some (.slice aA1 an1 ac1) := cell_at BF hb (hes 1 (by omega))
          refine hK.out _ _ ⟨(P2.cell 4), e20, e21⟩ (fun hHeld => ?_)
          clear hK K
          (try simp only [Act.put, qa_, qb_, qc_])
          refine tkx 21 (some 65) ?_
          refine rdx [22] ?_
          refine rcx (fun K hK => ?_) ?_
          ·go_simp
           refine hK.out _ _ ⟨(PF.cell 4), eF0, eF1⟩ (fun hHeld => ?_)
           clear hK K
           (try simp only [Act.put, qa_, qb_, qc_])
           refine rex ?_ _
           go_wp2
           go_roundw
           case rel => exact ⟨j + 1, _, _, by omega, by go_num, by rw [HT.out]; exact GF, PF, RF, OF, prGF, prNF, BF, by have h := z2; simp [World.setCell] at h ⊢; omega⟩
           case measure => simp [RowKit.intOf]; omega
          exact AllReadyH.nil
         exact AllReadyH.nil
        exact AllReadyH.nil
       refine rcx (fun K hK => ?_) ?_
       ·go_simp
        refine hK.out _ _ ⟨(PA.cell 4), eA0, eA1⟩ (fun hHeld => ?_)
        clear hK K
        (try simp only [Act.put, qa_, qb_, qc_])
        refine rdx [1] ?_
        refine rcx (fun K hK => ?_) ?_
        ·go_simp
         refine hK.out _ _ ⟨(PA.cell 4), eA0, eA1⟩ (fun hHeld => ?_)
         clear hK K
         (try simp only [Act.put, qa_, qb_, qc_])
         refine rdx [20] ?_
         refine rcx (fun K hK => ?_) ?_
         ·have hBx : Bel wr (w1.alloc (.cells ([.int .i64 a.1, .slice Ad a.2.length cd].toArray) 62)) := bel_alloc hs1 _
          obtain ⟨xs, hrow, hpush⟩ := (hG.below hBx).row
          have hS2 : Src (w1.alloc (.cells ([.int .i64 a.1, .slice Ad a.2.length cd].toArray) 62)) 2 (some ⟨w1.heap.size, 0, none⟩) 1 [.int .i64 a.1, .slice Ad a.2.length cd] := Src.of_box w1 62 [.int .i64 a.1, .slice Ad a.2.length cd] (K := 2) rfl
          have tz : (Value.agg #[Value.int .i64 0, Value.slice none 0 0]).cells.size = 2 := lev
          have t0 : ∀ u ∈ ([.int .i64 a.1, .slice Ad a.2.length cd] : List Value), u.oneCell' = true := (by intro u hu; simp only [List.mem_cons, List.not_mem_nil, or_false] at hu; rcases hu with rfl | rfl <;> rfl)
          have t1 : ((p.2.2.2.2.1).take j).length + 1 ≤ maxLen := (by simp only [maxLen]; have := HLN.out; omega)
          have t2 : (((p.2.2.2.2.1).take j).length + 1) * 32 ≤ 140737488355328 := (by have := HLN.out; omega)
          have t3 := hBx.size
          refine step_app5 _ (by rfl) (.tmp 45) (.tmp 63) _ (by rfl) wT.heap.size 62 i4i _ 2 32 Tryz.underlying31 hj04 hj14 hj24 hj34 tz (by omega) v _ xs (by rfl) hrow _ 1 1 [.int .i64 a.1, .slice Ad a.2.length cd] (by rfl) hS2 t0 t1 t2 (by omega) ?_
          intro v2 w2 hown2 hgr2 hat2
          have hOel : tMail.O (w1.alloc (.cells ([.int .i64 a.1, .slice Ad a.2.length cd].toArray) 62)) [.int .i64 a.1, .slice Ad a.2.length cd] a Fd := Ty.below (t := tMail) hOk (belx)
          have hNel : New wT.heap.size Fd := hNd.lower (by omega)
          have hdis : ∀ f ∈ Fd, f ∉ F := (fun f h1 h2 => by have := hNd.2 _ h1; have := hlt2 f h2; omega)
          have hod : ∀ b, v.ownBlock = some b → b ∉ Fd := (fun b hb hx => by have := (hOwn b hb).2; have := hNd.2 _ hx; omega)
          have hfin := hpush w2 v2 a _ Fd hOel hNel hdis hod hown2 hgr2 hat2
          obtain ⟨A9, n9, c9, rfl, -⟩ := hfin.shapeN
          have P2 := Box.grown (P1.alloc _) hgr2 (fun e => by have := (hOwn w.heap.size e.symm).1; omega)
          have R2 := Box.grown (R1.alloc _) hgr2 (fun e => by have := (hOwn (w.heap.size + 1) e.symm).1; omega)
          have O2 := Box.grown (O1.alloc _) hgr2 (fun e => by have := (hOwn ob e.symm).1; omega)
          have hBf : Bel w w2 := Below.grown (bel_trans hB hBx) hgr2 (by have := hBx.size; omega) (fun b hb => by have := (hOwn b hb).1; omega)
          have z2 := hgr2.size
          have o2c := O2.cell 4
          have o2f := O2.frozen 4
          have GF := hfin.put (p := ⟨ob, 4, none⟩) fsz (.slice A9 n9 c9)
          have PF := P2.far (p := ⟨ob, 4, none⟩) fsz (.slice A9 n9 c9)
          have RF := R2.far (p := ⟨ob, 4, none⟩) fsz (.slice A9 n9 c9)
          have OF : Box (w2.setCell ⟨ob, 4, none⟩ (.slice A9 n9 c9)) ob 35 #[.int .i64 p.1, .int .i64 p.2.1, .int .i64 p.2.2.1, .slice D3 (p.2.2.2.1).length g3, .slice A9 n9 c9, .slice none 0 0, .slice AG (p.2.2.2.2.2.2).length cG] := O2.put 4 (.slice A9 n9 c9)
          have prGF := Ty.far3 (own_past (w := (w1.alloc (.cells ([.int .i64 a.1, .slice Ad a.2.length cd].toArray) 62))) (Ty.below (t := tGlance.row) prG hBx) hgr2 (fun b hb hx => by have h1 := (hOwn b hb).1; have h2 := prGl b hx; omega)) (p := ⟨ob, 4, none⟩) prGo (.slice A9 n9 c9)
          have prNF := Ty.far3 (own_past (w := (w1.alloc (.cells ([.int .i64 a.1, .slice Ad a.2.length cd].toArray) 62))) (Ty.below (t := tNode.row) prN hBx) hgr2 (fun b hb hx => by have h1 := (hOwn b hb).1; have h2 := prNl b hx; omega)) (p := ⟨ob, 4, none⟩) prNo (.slice A9 n9 c9)
          have BF : Bel w (w2.setCell ⟨ob, 4, none⟩ (.slice A9 n9 c9)) := bel_put hBf fsz _
          have e20 : w2.cell? ⟨b', off + j * 2, none⟩ = some (.int .i64 a.1) := cell_at hBf hb (hes 0 (by omega))
          have e21 : w2.cell? ⟨b', off + j * 2 + 1, none⟩ = some (.slice aA1 an1 ac1) := cell_at hBf hb (hes 1 (by omega))
          have eF0 : (w2.setCell ⟨ob, 4, none⟩ (.slice A9 n9 c9)).cell? ⟨b', off + j * 2, none⟩ = some (.int .i64 a.1) := cell_at BF hb (hes 0 (by omega))
          have eF1 : (w2.setCell ⟨ob, 4, none⟩ (.slice A9 n9 c9)).cell? ⟨b', off + j * 2 + 1, none⟩ = some (.slice aA1 an1 ac1) := cell_at BF hb (hes 1 (by omega))
          refine hK.out _ _ ⟨(P2.cell 4), e20, e21⟩ (fun hHeld => ?_)
          clear hK K
          (try simp only [Act.put, qa_, qb_, qc_])
          refine tkx 21 (some 65) ?_
          refine rdx [22] ?_
          refine rcx (fun K hK => ?_) ?_
          ·go_simp
           refine hK.out _ _ ⟨(PF.cell 4), eF0, eF1⟩ (fun hHeld => ?_)
           clear hK K
           (try simp only [Act.put, qa_, qb_, qc_])
           refine rex ?_ _
           go_wp2
           go_roundw
           case rel => exact ⟨j + 1, _, _, by omega, by go_num, by rw [HT.out]; exact GF, PF, RF, OF, prGF, prNF, BF, by have h := z2; simp [World.setCell] at h ⊢; omega⟩
           case measure => simp [RowKit.intOf]; omega
          exact AllReadyH.nil
         exact AllReadyH.nil
        exact AllReadyH.nil
       exact AllReadyH.nil
      exact AllReadyH.nil
     exact AllReadyH.nil
    ·obtain rfl : n4 = j := by omega
     have HA := Lib.hid (show (p.2.2.2.2.1).take n4 = p.2.2.2.2.1 from List.take_of_length_le (Nat.le_of_eq HL4.out))
     rw [HA.out] at hG
     obtain ⟨D4, g4, F4, rfl, hO4, hN4⟩ := hG.done
     generalize wr = wU at *
     have PS := P0
     have RS := R0
     have OS := O0
     have hS := hB
     clear P0 R0 O0 hB
     have prM := hO4
     have prMl := tMail.row.lt prM
     have prMo : ob ∉ F4 := fun hx => by have := hN4.2 _ hx; omega
     have zwU := zB
     have zS : wU.heap.size ≤ wU.heap.size := Nat.le_refl _
     clear hO4
     have k5 := PS.cell 5
     go_wp2_with fail
     go_loopw [6] (fun i wr => ∃ (j : Nat) (F : List Nat) (v : Value), j ≤ n5 ∧ i = .int .i64 j ∧ GrowO tSent 111 wr wU.heap.size v ((p.2.2.2.2.2.1).take j) F ∧ Box wr w.heap.size 35 #[.int .i64 p.1, .int .i64 p.2.1, .int .i64 p.2.2.1, .slice A3 n3 c3, .slice A4 n4 c4, .slice A5 n5 c5, .slice A6 n6 c6] ∧ Box wr (w.heap.size + 1) 35 #[.int .i64 0, .int .i64 0, .int .i64 0, .slice none 0 0, .slice none 0 0, .slice none 0 0, .slice none 0 0] ∧ Box wr ob 35 #[.int .i64 p.1, .int .i64 p.2.1, .int .i64 p.2.2.1, .slice D3 (p.2.2.2.1).length g3, .slice D4 (p.2.2.2.2.1).length g4, v, .slice AG (p.2.2.2.2.2.2).length cG] ∧ (tGlance.row).O wr [.slice AG (p.2.2.2.2.2.2).length cG] (p.2.2.2.2.2.2) FG ∧ (tNode.row).O wr [.slice D3 (p.2.2.2.1).length g3] (p.2.2.2.1) F3 ∧ (tMail.row).O wr [.slice D4 (p.2.2.2.2.1).length g4] (p.2.2.2.2.1) F4 ∧ Bel w wr ∧ wU.heap.size ≤ wr.heap.size) (fun i _ => n5 - (RowKit.intOf i).toNat)
     case atStart => exact ⟨0, [], .slice none 0 0, by omega, rfl, GrowO.nil, PS, RS, OS, prG, prN, prM, hS, zS⟩
     case round =>
      obtain ⟨j, F, v, hj, rfl, hG, P0, R0, O0, prG, prN, prM, hB, zB⟩ := hrel
      clear k5 PS RS OS hS
      have k5 := P0.cell 5
      by_cases hlt : j < n5
      ·obtain ⟨a, b', off, es, hl2, rfl, hb, hes, hR⟩ := rowR_at (K := 3) r5 hlt rfl
       have HT := Lib.hid (take_sn hl2)
       have HLN := Lib.hid (show ((p.2.2.2.2.2.1).take j).length = j from by rw [List.length_take, HL5.out]; omega)
       have hsa : szSent a ≤ 1048576 := HSZ5.out j a hl2
       clear hl2
       have hRk := hR
       obtain ⟨aA2, an2, ac2, rfl, ai0, ai1, -, -, -, ar2⟩ := openSent hR
       have e0 : wr.cell? ⟨b', off + j * 3, none⟩ = some (.int .i64 a.1) := cell_at hB hb (hes 0 (by omega))
       have e1 : wr.cell? ⟨b', off + j * 3 + 1, none⟩ = some (.int .i64 a.2.1) := cell_at hB hb (hes 1 (by omega))
       have e2 : wr.cell? ⟨b', off + j * 3 + 2, none⟩ = some (.slice aA2 an2 ac2) := cell_at hB hb (hes 2 (by omega))
       clear hes hR
       have hOwn := fun b hb => (GrowO.row hG).choose_spec.1.lt b hb
       have hlt2 := hG.lt
       have hIr : Ints .u8 wr wr.heap.size aA2 an2 a.2.2 := reach (slR_ints ar2).1 hB
       have hE : ((wr.alloc (.cells #[.int .i64 a.1, .int .i64 a.2.1, .slice aA2 an2 ac2] 111)).alloc (.cells #[] 5)).ownsRow (wr.heap.size + 1) 5 1 (.slice (some ⟨wr.heap.size + 1, 0, none⟩) 0 0) 0 [] := by simpa using empty9 (wr.alloc (.cells #[.int .i64 a.1, .int .i64 a.2.1, .slice aA2 an2 ac2] 111)) 5
       have hSr : Src ((wr.alloc (.cells #[.int .i64 a.1, .int .i64 a.2.1, .slice aA2 an2 ac2] 111)).alloc (.cells #[] 5)) 1 aA2 an2 (a.2.2.map (Value.int .u8)) := Src.of_ints (reach hIr (belx))
       have hn2 : an2 ≤ 1048576 := by rw [← hIr.1]; unfold szSent at hsa; (try unfold szCell at hsa); exact hsa
       have HIW := Lib.hid hIr.2.2
       clear ar2
       go_wp2_with (first
        | (at_builtin; refine wpList_app _ rfl (.tmp 78) (.tmp 80) _ rfl (wr.heap.size + 1) 5 ib _ 1 1 Tryz.underlying28 hi0 hz0 hz1 hz2 rfl (by omega) (.slice (some ⟨wr.heap.size + 1, 0, none⟩) 0 0) 0 [] rfl hE _ an2 ac2 (a.2.2.map (Value.int .u8)) rfl hSr (one_ints _ _) (by simp only [maxLen]; omega) (by omega) (by simp; done) ?_; intro v1 w1 hown hgr hat; obtain ⟨Ad, cd, Fd, rfl, hOd, hNd⟩ := own_slice (Own.of (n := 0 + an2) (by simpa using hown) HIW.out); have hs1 : Bel wr w1 := Below.grown (belx) hgr lez (fun b hb => by have e := Option.some.inj (show some (wr.heap.size + 1) = some b from hb); omega); have X1 : Box w1 wr.heap.size 111 #[.int .i64 a.1, .int .i64 a.2.1, .slice aA2 an2 ac2] := Box.grown ((Box.new wr 111 #[.int .i64 a.1, .int .i64 a.2.1, .slice aA2 an2 ac2]).alloc _) hgr (fun e => by have e := Option.some.inj (show some wr.heap.size = some (wr.heap.size + 1) from e); omega); have P1 := Box.grown ((P0.alloc _).alloc _) hgr (fun e => by have e := Option.some.inj (show some w.heap.size = some (wr.heap.size + 1) from e); omega); have R1 := Box.grown ((R0.alloc _).alloc _) hgr (fun e => by have e := Option.some.inj (show some (w.heap.size + 1) = some (wr.heap.size + 1) from e); omega); have O1 := Box.grown ((O0.alloc _).alloc _) hgr (fun e => by have e := Option.some.inj (show some ob = some (wr.heap.size + 1) from e); omega); have x0 := X1.cell 0; have fx0 := X1.frozen 0; have x1 := X1.cell 1; have fx1 := X1.frozen 1; have x2 := X1.cell 2; have fx2 := X1.frozen 2; have Pb := P1.far (p := ⟨wr.heap.size, 2, none⟩) fsz (.slice Ad a.2.2.length cd); have Rb := R1.far (p := ⟨wr.heap.size, 2, none⟩) fsz (.slice Ad a.2.2.length cd); have Ob := O1.far (p := ⟨wr.heap.size, 2, none⟩) fsz (.slice Ad a.2.2.length cd); have ob5 := Ob.cell 5; have zw1 := hs1.size)
        | (at_builtin; have hBx : Bel wr ((w1.setCell ⟨wr.heap.size, 2, none⟩ (.slice Ad a.2.2.length cd)).alloc (.cells [.int .i64 a.1, .int .i64 a.2.1, .slice Ad a.2.2.length cd].toArray 111)) := bel_alloc (bel_put hs1 (Nat.le_refl _) _) _; obtain ⟨xs, hrow, hpush⟩ := (hG.below hBx).row; have hsz : (w1.setCell ⟨wr.heap.size, 2, none⟩ (.slice Ad a.2.2.length cd)).heap.size = w1.heap.size := (by simp [World.setCell]); have hS2 : Src ((w1.setCell ⟨wr.heap.size, 2, none⟩ (.slice Ad a.2.2.length cd)).alloc (.cells [.int .i64 a.1, .int .i64 a.2.1, .slice Ad a.2.2.length cd].toArray 111)) 3 (some ⟨w1.heap.size, 0, none⟩) 1 [.int .i64 a.1, .int .i64 a.2.1, .slice Ad a.2.2.length cd] := (by have h := Src.of_box (w1.setCell ⟨wr.heap.size, 2, none⟩ (.slice Ad a.2.2.length cd)) 111 [.int .i64 a.1, .int .i64 a.2.1, .slice Ad a.2.2.length cd] (K := 3) rfl; rw [hsz] at h; exact h); have tz : (Value.agg #[Value.int .i64 0, Value.int .i64 0, Value.slice none 0 0]).cells.size = 3 := lev; have t0 : ∀ u ∈ ([.int .i64 a.1, .int .i64 a.2.1, .slice Ad a.2.2.length cd] : List Value), u.oneCell' = true := (by intro u hu; simp only [List.mem_cons, List.not_mem_nil, or_false] at hu; rcases hu with rfl | rfl | rfl <;> rfl); have t1 : ((p.2.2.2.2.2.1).take j).length + 1 ≤ maxLen := (by simp only [maxLen]; have := HLN.out; omega); have t2 : (((p.2.2.2.2.2.1).take j).length + 1) * 40 ≤ 140737488355328 := (by have := HLN.out; omega); have t3 := hBx.size; refine wpList_app _ rfl (.tmp 84) (.tmp 86) _ rfl wU.heap.size 111 i5i _ 3 40 Tryz.underlying32 hj05 hj15 hj25 hj35 tz (by omega) v _ xs rfl hrow _ 1 1 [.int .i64 a.1, .int .i64 a.2.1, .slice Ad a.2.2.length cd] rfl hS2 t0 t1 t2 (by omega) ?_; intro v2 w2 hown2 hgr2 hat2; have hOx : tBy.O ((w1.setCell ⟨wr.heap.size, 2, none⟩ (.slice Ad a.2.2.length cd)).alloc (.cells [.int .i64 a.1, .int .i64 a.2.1, .slice Ad a.2.2.length cd].toArray 111)) [.slice Ad a.2.2.length cd] a.2.2 Fd := Ty.below (t := tBy) (Ty.far3 (t := tBy) hOd (p := ⟨wr.heap.size, 2, none⟩) (fun hx => absurd (hNd.2 wr.heap.size hx) (by omega)) _) (belx); obtain ⟨Fx, hOel, ex⟩ := makeOSent (p := a) ai0 ai1 hOx; subst ex; have hNel : New wU.heap.size Fx := hNd.lower (by omega); have hdis : ∀ f ∈ Fx, f ∉ F := (fun f h1 h2 => by have := hNd.2 _ h1; have := hlt2 f h2; omega); have hod : ∀ b, v.ownBlock = some b → b ∉ Fx := (fun b hb hx => by have := (hOwn b hb).2; have := hNd.2 _ hx; omega); have hfin := hpush w2 v2 a _ Fx hOel hNel hdis hod hown2 hgr2 hat2; obtain ⟨A9, n9, c9, rfl, -⟩ := hfin.shapeN; have P2 := Box.grown (Pb.alloc _) hgr2 (fun e => by have := (hOwn w.heap.size e.symm).1; omega); have R2 := Box.grown (Rb.alloc _) hgr2 (fun e => by have := (hOwn (w.heap.size + 1) e.symm).1; omega); have O2 := Box.grown (Ob.alloc _) hgr2 (fun e => by have := (hOwn ob e.symm).1; omega); have hBf : Bel w w2 := Below.grown (bel_trans hB hBx) hgr2 (by have := hBx.size; omega) (fun b hb => by have := (hOwn b hb).1; omega); have z2 := hgr2.size; have o2c := O2.cell 5; have o2f := O2.frozen 5; have GF := hfin.put (p := ⟨ob, 5, none⟩) fsz (.slice A9 n9 c9); have PF := P2.far (p := ⟨ob, 5, none⟩) fsz (.slice A9 n9 c9); have RF := R2.far (p := ⟨ob, 5, none⟩) fsz (.slice A9 n9 c9); have OF : Box (w2.setCell ⟨ob, 5, none⟩ (.slice A9 n9 c9)) ob 35 #[.int .i64 p.1, .int .i64 p.2.1, .int .i64 p.2.2.1, .slice D3 (p.2.2.2.1).length g3, .slice D4 (p.2.2.2.2.1).length g4, .slice A9 n9 c9, .slice AG (p.2.2.2.2.2.2).length cG] := O2.put 5 (.slice A9 n9 c9); have prGF := Ty.far3 (own_past (w := ((w1.setCell ⟨wr.heap.size, 2, none⟩ (.slice Ad a.2.2.length cd)).alloc (.cells [.int .i64 a.1, .int .i64 a.2.1, .slice Ad a.2.2.length cd].toArray 111))) (Ty.below (t := tGlance.row) prG hBx) hgr2 (fun b hb hx => by have h1 := (hOwn b hb).1; have h2 := prGl b hx; omega)) (p := ⟨ob, 5, none⟩) prGo (.slice A9 n9 c9); have prNF := Ty.far3 (own_past (w := ((w1.setCell ⟨wr.heap.size, 2, none⟩ (.slice Ad a.2.2.length cd)).alloc (.cells [.int .i64 a.1, .int .i64 a.2.1, .slice Ad a.2.2.length cd].toArray 111))) (Ty.below (t := tNode.row) prN hBx) hgr2 (fun b hb hx => by have h1 := (hOwn b hb).1; have h2 := prNl b hx; omega)) (p := ⟨ob, 5, none⟩) prNo (.slice A9 n9 c9); have prMF := Ty.far3 (own_past (w := ((w1.setCell ⟨wr.heap.size, 2, none⟩ (.slice Ad a.2.2.length cd)).alloc (.cells [.int .i64 a.1, .int .i64 a.2.1, .slice Ad a.2.2.length cd].toArray 111))) (Ty.below (t := tMail.row) prM hBx) hgr2 (fun b hb hx => by have h1 := (hOwn b hb).1; have h2 := prMl b hx; omega)) (p := ⟨ob, 5, none⟩) prMo (.slice A9 n9 c9); have BF : Bel w (w2.setCell ⟨ob, 5, none⟩ (.slice A9 n9 c9)) := bel_put hBf fsz _))
       go_roundw
       case rel => exact ⟨j + 1, _, _, by omega, by go_num, by rw [HT.out]; exact GF, PF, RF, OF, prGF, prNF, prMF, BF, by have h := z2; simp [World.setCell] at h ⊢; omega⟩
       case measure => simp [RowKit.intOf]; omega
      ·obtain rfl : n5 = j := by omega
       have HA := Lib.hid (show (p.2.2.2.2.2.1).take n5 = p.2.2.2.2.2.1 from List.take_of_length_le (Nat.le_of_eq HL5.out))
       rw [HA.out] at hG
       obtain ⟨D5, g5, F5, rfl, hO5, hN5⟩ := hG.done
       have oc0 := O0.cell 0
       have oc1 := O0.cell 1
       have oc2 := O0.cell 2
       have oc3 := O0.cell 3
       have oc4 := O0.cell 4
       have oc5 := O0.cell 5
       have oc6 := O0.cell 6
       have rc0 := R0.cell 0
       have rf0 := R0.frozen 0
       have rc1 := R0.cell 1
       have rf1 := R0.frozen 1
       have rc2 := R0.cell 2
       have rf2 := R0.frozen 2
       have rc3 := R0.cell 3
       have rf3 := R0.frozen 3
       have rc4 := R0.cell 4
       have rf4 := R0.frozen 4
       have rc5 := R0.cell 5
       have rf5 := R0.frozen 5
       have rc6 := R0.cell 6
       have rf6 := R0.frozen 6
       go_wp2
       have hM5 : New (w.heap.size + 2) F5 := hN5.lower (by omega)
       have hMN : New (w.heap.size + 2) F3 := hN3.lower (by omega)
       have hMM : New (w.heap.size + 2) F4 := hN4.lower (by omega)
       have hA3 : New wS.heap.size (F3 ++ F4 ++ F5) := New.app (New.app hN3 hN4 (by omega) (fun f hf => prNl f hf)) hN5 (by omega) (fun f hf => by rcases List.mem_append.1 hf with hf | hf; (have := prNl f hf; omega); exact prMl f hf)
       have hA : New (w.heap.size + 2) (F3 ++ F4 ++ F5 ++ FG) := new_pair (hA3.lower (by omega)) hNG (fun f h1 h2 => by have := hA3.2 f h1; have := prGl f h2; omega)
       have RR := (((((((R0.put 0 (.int .i64 p.1)).put 1 (.int .i64 p.2.1)).put 2 (.int .i64 p.2.2.1)).put 3 (.slice D3 (p.2.2.2.1).length g3)).put 4 (.slice D4 (p.2.2.2.2.1).length g4)).put 5 (.slice D5 (p.2.2.2.2.2.1).length g5)).put 6 (.slice AG (p.2.2.2.2.2.2).length cG))
       have y0 := RR.cell 0
       have y1 := RR.cell 1
       have y2 := RR.cell 2
       have y3 := RR.cell 3
       have y4 := RR.cell 4
       have y5 := RR.cell 5
       have y6 := RR.cell 6
       have u_hO5 := (Ty.far (t := tSent.row) (Ty.far (t := tSent.row) (Ty.far (t := tSent.row) (Ty.far (t := tSent.row) (Ty.far (t := tSent.row) (Ty.far (t := tSent.row) (Ty.far (t := tSent.row) hO5 hM5 (p := ⟨w.heap.size + 1, 0, none⟩) fsz (.int .i64 p.1)) hM5 (p := ⟨w.heap.size + 1, 1, none⟩) fsz (.int .i64 p.2.1)) hM5 (p := ⟨w.heap.size + 1, 2, none⟩) fsz (.int .i64 p.2.2.1)) hM5 (p := ⟨w.heap.size + 1, 3, none⟩) fsz (.slice D3 (p.2.2.2.1).length g3)) hM5 (p := ⟨w.heap.size + 1, 4, none⟩) fsz (.slice D4 (p.2.2.2.2.1).length g4)) hM5 (p := ⟨w.heap.size + 1, 5, none⟩) fsz (.slice D5 (p.2.2.2.2.2.1).length g5)) hM5 (p := ⟨w.heap.size + 1, 6, none⟩) fsz (.slice AG (p.2.2.2.2.2.2).length cG))
       have u_prN := (Ty.far (t := tNode.row) (Ty.far (t := tNode.row) (Ty.far (t := tNode.row) (Ty.far (t := tNode.row) (Ty.far (t := tNode.row) (Ty.far (t := tNode.row) (Ty.far (t := tNode.row) prN hMN (p := ⟨w.heap.size + 1, 0, none⟩) fsz (.int .i64 p.1)) hMN (p := ⟨w.heap.size + 1, 1, none⟩) fsz (.int .i64 p.2.1)) hMN (p := ⟨w.heap.size + 1, 2, none⟩) fsz (.int .i64 p.2.2.1)) hMN (p := ⟨w.heap.size + 1, 3, none⟩) fsz (.slice D3 (p.2.2.2.1).length g3)) hMN (p := ⟨w.heap.size + 1, 4, none⟩) fsz (.slice D4 (p.2.2.2.2.1).length g4)) hMN (p := ⟨w.heap.size + 1, 5, none⟩) fsz (.slice D5 (p.2.2.2.2.2.1).length g5)) hMN (p := ⟨w.heap.size + 1, 6, none⟩) fsz (.slice AG (p.2.2.2.2.2.2).length cG))
       have u_prM := (Ty.far (t := tMail.row) (Ty.far (t := tMail.row) (Ty.far (t := tMail.row) (Ty.far (t := tMail.row) (Ty.far (t := tMail.row) (Ty.far (t := tMail.row) (Ty.far (t := tMail.row) prM hMM (p := ⟨w.heap.size + 1, 0, none⟩) fsz (.int .i64 p.1)) hMM (p := ⟨w.heap.size + 1, 1, none⟩) fsz (.int .i64 p.2.1)) hMM (p := ⟨w.heap.size + 1, 2, none⟩) fsz (.int .i64 p.2.2.1)) hMM (p := ⟨w.heap.size + 1, 3, none⟩) fsz (.slice D3 (p.2.2.2.1).length g3)) hMM (p := ⟨w.heap.size + 1, 4, none⟩) fsz (.slice D4 (p.2.2.2.2.1).length g4)) hMM (p := ⟨w.heap.size + 1, 5, none⟩) fsz (.slice D5 (p.2.2.2.2.2.1).length g5)) hMM (p := ⟨w.heap.size + 1, 6, none⟩) fsz (.slice AG (p.2.2.2.2.2.2).length cG))
       have u_prG := (Ty.far (t := tGlance.row) (Ty.far (t := tGlance.row) (Ty.far (t := tGlance.row) (Ty.far (t := tGlance.row) (Ty.far (t := tGlance.row) (Ty.far (t := tGlance.row) (Ty.far (t := tGlance.row) prG hNG (p := ⟨w.heap.size + 1, 0, none⟩) fsz (.int .i64 p.1)) hNG (p := ⟨w.heap.size + 1, 1, none⟩) fsz (.int .i64 p.2.1)) hNG (p := ⟨w.heap.size + 1, 2, none⟩) fsz (.int .i64 p.2.2.1)) hNG (p := ⟨w.heap.size + 1, 3, none⟩) fsz (.slice D3 (p.2.2.2.1).length g3)) hNG (p := ⟨w.heap.size + 1, 4, none⟩) fsz (.slice D4 (p.2.2.2.2.1).length g4)) hNG (p := ⟨w.heap.size + 1, 5, none⟩) fsz (.slice D5 (p.2.2.2.2.2.1).length g5)) hNG (p := ⟨w.heap.size + 1, 6, none⟩) fsz (.slice AG (p.2.2.2.2.2.2).length cG))
       obtain ⟨Fx, hX, rfl⟩ := makeONet (p := p) i0 i1 i2 u_prN u_prM u_hO5 u_prG
       refine bodyPost_ret (v := .agg #[.int .i64 p.1, .int .i64 p.2.1, .int .i64 p.2.2.1, .slice D3 (p.2.2.2.1).length g3, .slice D4 (p.2.2.2.2.1).length g4, .slice D5 (p.2.2.2.2.2.1).length g5, .slice AG (p.2.2.2.2.2.2).length cG]) (by simp [results, Tryz.results22, go_sem, y0, y1, y2, y3, y4, y5, y6]) rfl ⟨_, _, rfl, hX, hA.lower (by omega), ?_⟩
       exact (bel_put (bel_put (bel_put (bel_put (bel_put (bel_put (bel_put hB (by simp) _) (by simp) _) (by simp) _) (by simp) _) (by simp) _) (by simp) _) (by simp) _)
end Go.Proofs.YtkdanlnhdgcplaaGreat
