/-
  CpM: texts joined.
-/
import Derived.Test.YteokfenoomcogaaGreatJaMCpN
namespace Go.Proofs.YteokfenoomcogaaGreat
set_option maxRecDepth 100000
set_option linter.unusedVariables false
set_option linter.unusedSimpArgs false
open Go.ChangeShapes Go.WideShapes Go.ChangeAt Go.RowKit
open Fld
theorem empty_rowK (w : World) (e : TypeId) (k base : Nat) (hb : base ≤ w.heap.size) : (w.alloc (.cells #[] e)).ownsRow base e k (.slice (some ⟨w.heap.size, 0, none⟩) 0 0) 0 [] :=
  ⟨by simp, .inr ⟨w.heap.size, 0, #[], rfl, hb, heap_alloc_new w _, Nat.le_refl _, by simp only [maxLen]; omega, by simp, by simp⟩⟩
theorem row_drew {w : World} {e : TypeId} {base k n : Nat} {v : Value} {xs : List Value} (h : w.ownsRow base e k v n xs) : w.drew.ownsRow base e k v n xs := h.kept (row := none) (gb_drew (World.grownBy.refl _ _)) (by cases v.ownBlock <;> simp)
theorem gl_own {w : World} {A : Option Addr} {n c : Nat} {l : List DGlance} {F : List Nat} (h : tGlance.row.O w [.slice A n c] l F) : ∀ f ∈ F, (Value.slice A n c).ownBlock = some f := by
  intro f hf
  rcases h with ⟨A', c', e1, _, _, rfl⟩ | ⟨g, off, cc, cur, e, Fs, e1, h0, h1, h2, h3, h4, rfl, h6⟩
  · exact absurd hf (by simp)
  · injection e1 with e1 _
    rw [e1]
    rcases List.mem_cons.1 hf with rfl | hf
    · rfl
    · obtain ⟨Fi, hFi, hfi⟩ := List.mem_flatten.1 hf
      obtain ⟨i, hi, rfl⟩ := List.getElem_of_mem hFi
      have hi' : i < l.length := by omega
      obtain ⟨es, _, k2⟩ := h6 i _ _ (List.getElem?_eq_getElem hi') (List.getElem?_eq_getElem hi)
      obtain ⟨-, e2, -, -⟩ := openOGlance k2
      rw [e2] at hfi
      exact absurd hfi (by simp)
set_option maxHeartbeats 2000000 in
theorem s_NetOwn {w : World} {cs : List Value} {p : DNet} (h : tNet.R w w.heap.size cs p) (hz : szNet p ≤ 1048576) :
    Calls Tryz.prog 91 #[.agg cs.toArray] w fun e w' => ∃ cs' F, e = .returned (.agg cs'.toArray) ∧ tNet.O w' cs' p F ∧ New w.heap.size F ∧ Below w.heap.size w w' := by
  obtain ⟨ib, hi0, hz0, hz1, hz2⟩ := info_parts info_cb
  obtain ⟨ig, hg0, hg1, hg2, hg3⟩ := info_parts info_Glance
  obtain ⟨i3i, hj03, hj13, hj23, hj33⟩ := info_parts info_Node
  obtain ⟨i4i, hj04, hj14, hj24, hj34⟩ := info_parts info_Mail
  obtain ⟨i5i, hj05, hj15, hj25, hj35⟩ := info_parts info_Sent
  obtain ⟨A3, n3, c3, A4, n4, c4, A5, n5, c5, A6, n6, c6, rfl, i0, i1, i2, -, -, -, r3, -, -, -, r4, -, -, -, r5, -, -, -, r6⟩ := openNet h
  have n3le : n3 ≤ 1048576 := by have := rsz_le (s := szNode) (p.2.2.2.1); have := (rowR_len r3).1; unfold szNet at hz; omega
  have HL3 := Lib.hid (rowR_len r3).1
  have HSZ3 := Lib.hid (show ∀ (i : Nat) (a : DNode), (p.2.2.2.1)[i]? = some a → szNode a ≤ 1048576 from fun i a ha => by have := rsz_step (s := szNode) ha; unfold szNet at hz; omega)
  have n4le : n4 ≤ 1048576 := by have := rsz_le (s := szMail) (p.2.2.2.2.1); have := (rowR_len r4).1; unfold szNet at hz; omega
  have HL4 := Lib.hid (rowR_len r4).1
  have HSZ4 := Lib.hid (show ∀ (i : Nat) (a : DMail), (p.2.2.2.2.1)[i]? = some a → szMail a ≤ 1048576 from fun i a ha => by have := rsz_step (s := szMail) ha; unfold szNet at hz; omega)
  have n5le : n5 ≤ 1048576 := by have := rsz_le (s := szSent) (p.2.2.2.2.2.1); have := (rowR_len r5).1; unfold szNet at hz; omega
  have HL5 := Lib.hid (rowR_len r5).1
  have HSZ5 := Lib.hid (show ∀ (i : Nat) (a : DSent), (p.2.2.2.2.2.1)[i]? = some a → szSent a ≤ 1048576 from fun i a ha => by have := rsz_step (s := szSent) ha; unfold szNet at hz; omega)
  have n6le : n6 ≤ 1048576 := by have := rsz_le (s := szGlance) (p.2.2.2.2.2.2); have := (rowR_len r6).1; unfold szNet at hz; omega
  have HL6 := Lib.hid (rowR_len r6).1
  have PW : Box ((w.alloc (.cells #[.int .i64 p.1, .int .i64 p.2.1, .int .i64 p.2.2.1, .slice A3 n3 c3, .slice A4 n4 c4, .slice A5 n5 c5, .slice A6 n6 c6] 35)).alloc (.cells #[.int .i64 0, .int .i64 0, .int .i64 0, .slice none 0 0, .slice none 0 0, .slice none 0 0, .slice none 0 0] 35)) w.heap.size 35 #[.int .i64 p.1, .int .i64 p.2.1, .int .i64 p.2.2.1, .slice A3 n3 c3, .slice A4 n4 c4, .slice A5 n5 c5, .slice A6 n6 c6] := (Box.new w _ _).alloc _
  have RW : Box ((w.alloc (.cells #[.int .i64 p.1, .int .i64 p.2.1, .int .i64 p.2.2.1, .slice A3 n3 c3, .slice A4 n4 c4, .slice A5 n5 c5, .slice A6 n6 c6] 35)).alloc (.cells #[.int .i64 0, .int .i64 0, .int .i64 0, .slice none 0 0, .slice none 0 0, .slice none 0 0, .slice none 0 0] 35)) (w.heap.size + 1) 35 #[.int .i64 0, .int .i64 0, .int .i64 0, .slice none 0 0, .slice none 0 0, .slice none 0 0, .slice none 0 0] := by simpa using Box.new (w.alloc (.cells #[.int .i64 p.1, .int .i64 p.2.1, .int .i64 p.2.2.1, .slice A3 n3 c3, .slice A4 n4 c4, .slice A5 n5 c5, .slice A6 n6 c6] 35)) 35 #[.int .i64 0, .int .i64 0, .int .i64 0, .slice none 0 0, .slice none 0 0, .slice none 0 0, .slice none 0 0]
  have PWZ := PW.alloc (.cells #[.int .i64 0, .int .i64 0, .int .i64 0, .slice none 0 0, .slice none 0 0, .slice none 0 0, .slice none 0 0] 35)
  have RWZ := RW.alloc (.cells #[.int .i64 0, .int .i64 0, .int .i64 0, .slice none 0 0, .slice none 0 0, .slice none 0 0, .slice none 0 0] 35)
  have OWZ : Box (((w.alloc (.cells #[.int .i64 p.1, .int .i64 p.2.1, .int .i64 p.2.2.1, .slice A3 n3 c3, .slice A4 n4 c4, .slice A5 n5 c5, .slice A6 n6 c6] 35)).alloc (.cells #[.int .i64 0, .int .i64 0, .int .i64 0, .slice none 0 0, .slice none 0 0, .slice none 0 0, .slice none 0 0] 35)).alloc (.cells #[.int .i64 0, .int .i64 0, .int .i64 0, .slice none 0 0, .slice none 0 0, .slice none 0 0, .slice none 0 0] 35)) (w.heap.size + 1 + 1) 35 #[.int .i64 0, .int .i64 0, .int .i64 0, .slice none 0 0, .slice none 0 0, .slice none 0 0, .slice none 0 0] := by simpa using Box.new ((w.alloc (.cells #[.int .i64 p.1, .int .i64 p.2.1, .int .i64 p.2.2.1, .slice A3 n3 c3, .slice A4 n4 c4, .slice A5 n5 c5, .slice A6 n6 c6] 35)).alloc (.cells #[.int .i64 0, .int .i64 0, .int .i64 0, .slice none 0 0, .slice none 0 0, .slice none 0 0, .slice none 0 0] 35)) 35 #[.int .i64 0, .int .i64 0, .int .i64 0, .slice none 0 0, .slice none 0 0, .slice none 0 0, .slice none 0 0]
  have PWE := PW.alloc (.cells #[] 81)
  have RWE := RW.alloc (.cells #[] 81)
  have PWZE := PWZ.alloc (.cells #[] 81)
  have RWZE := RWZ.alloc (.cells #[] 81)
  have OWZE := OWZ.alloc (.cells #[] 81)
  have PWEZ := PWE.alloc (.cells #[.int .i64 0, .int .i64 0, .int .i64 0, .slice none 0 0, .slice none 0 0, .slice none 0 0, .slice none 0 0] 35)
  have RWEZ := RWE.alloc (.cells #[.int .i64 0, .int .i64 0, .int .i64 0, .slice none 0 0, .slice none 0 0, .slice none 0 0, .slice none 0 0] 35)
  have OWEZ : Box ((((w.alloc (.cells #[.int .i64 p.1, .int .i64 p.2.1, .int .i64 p.2.2.1, .slice A3 n3 c3, .slice A4 n4 c4, .slice A5 n5 c5, .slice A6 n6 c6] 35)).alloc (.cells #[.int .i64 0, .int .i64 0, .int .i64 0, .slice none 0 0, .slice none 0 0, .slice none 0 0, .slice none 0 0] 35)).alloc (.cells #[] 81)).alloc (.cells #[.int .i64 0, .int .i64 0, .int .i64 0, .slice none 0 0, .slice none 0 0, .slice none 0 0, .slice none 0 0] 35)) (w.heap.size + 1 + 1 + 1) 35 #[.int .i64 0, .int .i64 0, .int .i64 0, .slice none 0 0, .slice none 0 0, .slice none 0 0, .slice none 0 0] := by simpa using Box.new (((w.alloc (.cells #[.int .i64 p.1, .int .i64 p.2.1, .int .i64 p.2.2.1, .slice A3 n3 c3, .slice A4 n4 c4, .slice A5 n5 c5, .slice A6 n6 c6] 35)).alloc (.cells #[.int .i64 0, .int .i64 0, .int .i64 0, .slice none 0 0, .slice none 0 0, .slice none 0 0, .slice none 0 0] 35)).alloc (.cells #[] 81)) 35 #[.int .i64 0, .int .i64 0, .int .i64 0, .slice none 0 0, .slice none 0 0, .slice none 0 0, .slice none 0 0]
  have hE : (((w.alloc (.cells #[.int .i64 p.1, .int .i64 p.2.1, .int .i64 p.2.2.1, .slice A3 n3 c3, .slice A4 n4 c4, .slice A5 n5 c5, .slice A6 n6 c6] 35)).alloc (.cells #[.int .i64 0, .int .i64 0, .int .i64 0, .slice none 0 0, .slice none 0 0, .slice none 0 0, .slice none 0 0] 35)).alloc (.cells #[] 81)).ownsRow (w.heap.size + 2) 81 2 (.slice (some ⟨w.heap.size + 2, 0, none⟩) 0 0) 0 [] := by simpa using empty_rowK ((w.alloc (.cells #[.int .i64 p.1, .int .i64 p.2.1, .int .i64 p.2.2.1, .slice A3 n3 c3, .slice A4 n4 c4, .slice A5 n5 c5, .slice A6 n6 c6] 35)).alloc (.cells #[.int .i64 0, .int .i64 0, .int .i64 0, .slice none 0 0, .slice none 0 0, .slice none 0 0, .slice none 0 0] 35)) 81 2 (w.heap.size + 2) (by first | omega | (simp; done) | (simp; omega) | (show _ ≤ (World.alloc _ _).heap.size; simp) | (show _ ≤ (World.alloc _ _).heap.size; simp; omega))
  have hEZ := hE.alloc (.cells #[.int .i64 0, .int .i64 0, .int .i64 0, .slice none 0 0, .slice none 0 0, .slice none 0 0, .slice none 0 0] 35)
  have hZE : ((((w.alloc (.cells #[.int .i64 p.1, .int .i64 p.2.1, .int .i64 p.2.2.1, .slice A3 n3 c3, .slice A4 n4 c4, .slice A5 n5 c5, .slice A6 n6 c6] 35)).alloc (.cells #[.int .i64 0, .int .i64 0, .int .i64 0, .slice none 0 0, .slice none 0 0, .slice none 0 0, .slice none 0 0] 35)).alloc (.cells #[.int .i64 0, .int .i64 0, .int .i64 0, .slice none 0 0, .slice none 0 0, .slice none 0 0, .slice none 0 0] 35)).alloc (.cells #[] 81)).ownsRow (w.heap.size + 3) 81 2 (.slice (some ⟨w.heap.size + 3, 0, none⟩) 0 0) 0 [] := by simpa using empty_rowK (((w.alloc (.cells #[.int .i64 p.1, .int .i64 p.2.1, .int .i64 p.2.2.1, .slice A3 n3 c3, .slice A4 n4 c4, .slice A5 n5 c5, .slice A6 n6 c6] 35)).alloc (.cells #[.int .i64 0, .int .i64 0, .int .i64 0, .slice none 0 0, .slice none 0 0, .slice none 0 0, .slice none 0 0] 35)).alloc (.cells #[.int .i64 0, .int .i64 0, .int .i64 0, .slice none 0 0, .slice none 0 0, .slice none 0 0, .slice none 0 0] 35)) 81 2 (w.heap.size + 3) (by first | omega | (simp; done) | (simp; omega) | (show _ ≤ (World.alloc _ _).heap.size; simp) | (show _ ≤ (World.alloc _ _).heap.size; simp; omega))
  have kw0 := PW.cell 0
  have kw1 := PW.cell 1
  have kw2 := PW.cell 2
  have kw3 := PW.cell 3
  have kw4 := PW.cell 4
  have kw5 := PW.cell 5
  have kw6 := PW.cell 6
  go_enter Tryz.func91, Tryz.ntmps91
  go_wp2_with fail
  go_cut [3] (fun t3 wx => ∃ (ob : Nat) (AG : Option Addr) (cG : Nat) (FG : List Nat), t3 = .pointer (some ⟨ob, 0, none⟩) ∧ Box wx w.heap.size 35 #[.int .i64 p.1, .int .i64 p.2.1, .int .i64 p.2.2.1, .slice A3 n3 c3, .slice A4 n4 c4, .slice A5 n5 c5, .slice A6 n6 c6] ∧ Box wx (w.heap.size + 1) 35 #[.int .i64 0, .int .i64 0, .int .i64 0, .slice none 0 0, .slice none 0 0, .slice none 0 0, .slice none 0 0] ∧ Box wx ob 35 #[.int .i64 p.1, .int .i64 p.2.1, .int .i64 p.2.2.1, .slice none 0 0, .slice none 0 0, .slice none 0 0, .slice AG (p.2.2.2.2.2.2).length cG] ∧ tGlance.row.O wx [.slice AG (p.2.2.2.2.2.2).length cG] (p.2.2.2.2.2.2) FG ∧ New (w.heap.size + 2) FG ∧ ob ∉ FG ∧ w.heap.size + 2 ≤ ob ∧ Below w.heap.size w wx)
  case first =>
    refine wp_region_held_drew (S := (fun w' => w'.cell? ⟨w.heap.size, 0, none⟩ = some (.int .i64 p.1) ∧ w'.cell? ⟨w.heap.size, 1, none⟩ = some (.int .i64 p.2.1) ∧ w'.cell? ⟨w.heap.size, 2, none⟩ = some (.int .i64 p.2.2.1) ∧ w'.cell? ⟨w.heap.size, 6, none⟩ = some (.slice A6 n6 c6))) (by kernel_rfl) (by exact ⟨(PW).cell 0, (PW).cell 1, (PW).cell 2, (PW).cell 6⟩) (fun hHeld => ?_)
    refine wpAnyH_take (i := 0) (oi := ⟨some 8, _, _, _, _, _⟩) (v := ?v52) rfl (by kernel_rfl) (by kernel_rfl) (by kernel_rfl) (fun _ _ _ h => h) (Or.inl ⟨by rfl, ?hy52⟩) (by assumption) ?_
    case hy52 => (intro w hSw; (try dsimp only at hSw); go_simp; try (with_reducible rfl))
    (try simp only [Act.put, qa_, qb_, qc_])
    refine wpAnyH_take (i := 1) (oi := ⟨some 9, _, _, _, _, _⟩) (v := ?v53) rfl (by kernel_rfl) (by kernel_rfl) (by kernel_rfl) (fun _ _ _ h => h) (Or.inl ⟨by rfl, ?hy53⟩) (by assumption) ?_
    case hy53 => (intro w hSw; (try dsimp only at hSw); go_simp; try (with_reducible rfl))
    (try simp only [Act.put, qa_, qb_, qc_])
    refine wpAnyH_take (i := 2) (oi := ⟨some 10, _, _, _, _, _⟩) (v := ?v54) rfl (by kernel_rfl) (by kernel_rfl) (by kernel_rfl) (fun _ _ _ h => h) (Or.inl ⟨by rfl, ?hy54⟩) (by assumption) ?_
    case hy54 => (intro w hSw; (try dsimp only at hSw); go_simp; try (with_reducible rfl))
    (try simp only [Act.put, qa_, qb_, qc_])
    refine wpAnyH_take (i := 3) (oi := ⟨some 11, _, _, _, _, _⟩) (v := ?v55) rfl (by kernel_rfl) (by kernel_rfl) (by kernel_rfl) (fun _ _ _ h => h) (Or.inl ⟨by rfl, ?hy55⟩) (by assumption) ?_
    case hy55 => (intro w hSw; (try dsimp only at hSw); go_simp; try (with_reducible rfl))
    (try simp only [Act.put, qa_, qb_, qc_])
    refine wpAnyH_take (i := 4) (oi := ⟨some 12, _, _, _, _, _⟩) (v := ?v56) rfl (by kernel_rfl) (by kernel_rfl) (by kernel_rfl) (fun _ _ _ h => h) (Or.inl ⟨by rfl, ?hy56⟩) (by assumption) ?_
    case hy56 => (intro w hSw; (try dsimp only at hSw); go_simp; try (with_reducible rfl))
    (try simp only [Act.put, qa_, qb_, qc_])
    refine wpAnyH_take (i := 5) (oi := ⟨some 13, _, _, _, _, _⟩) (v := ?v57) rfl (by kernel_rfl) (by kernel_rfl) (by kernel_rfl) (fun _ _ _ h => h) (Or.inl ⟨by rfl, ?hy57⟩) (by assumption) ?_
    case hy57 => (intro w hSw; (try dsimp only at hSw); go_simp; try (with_reducible rfl))
    (try simp only [Act.put, qa_, qb_, qc_])
    refine wpAnyH_take (i := 7) (oi := ⟨some 15, _, _, _, _, _⟩) (v := ?v58) rfl (by kernel_rfl) (by kernel_rfl) (by kernel_rfl) (fun _ _ _ h => h) (Or.inl ⟨by rfl, ?hy58⟩) (by assumption) ?_
    case hy58 => (intro w hSw; (try dsimp only at hSw); go_simp; try (with_reducible rfl))
    (try simp only [Act.put, qa_, qb_, qc_])
    refine wpAnyH_take (i := 8) (oi := ⟨some 16, _, _, _, _, _⟩) (v := ?v59) rfl (by kernel_rfl) (by kernel_rfl) (by kernel_rfl) (fun _ _ _ h => h) (Or.inl ⟨by rfl, ?hy59⟩) (by assumption) ?_
    case hy59 => (intro w hSw; (try dsimp only at hSw); go_simp; try (with_reducible rfl))
    (try simp only [Act.put, qa_, qb_, qc_])
    refine wpAnyH_ready (rs := [6, 11]) (by kernel_rfl) (by simp) ?_
    refine AllReadyH.cons rfl (fun K hK => ?_) ?_
    · go_simp
      refine hK.out _ _ (by exact ⟨(PWE).cell 0, (PWE).cell 1, (PWE).cell 2, (PWE).cell 6⟩) (fun hHeld => ?_)
      clear hK K
      (try simp only [Act.put, qa_, qb_, qc_])
      refine wpAnyH_ready (rs := [9, 11]) (by kernel_rfl) (by simp) ?_
      refine AllReadyH.cons rfl (fun K hK => ?_) ?_
      · obtain ⟨css, k1, k2, k3, k4⟩ := row_src (tGlance.row.reach r6 (show Below w.heap.size w ((((w.alloc (.cells #[.int .i64 p.1, .int .i64 p.2.1, .int .i64 p.2.2.1, .slice A3 n3 c3, .slice A4 n4 c4, .slice A5 n5 c5, .slice A6 n6 c6] 35)).alloc (.cells #[.int .i64 0, .int .i64 0, .int .i64 0, .slice none 0 0, .slice none 0 0, .slice none 0 0, .slice none 0 0] 35)).alloc (.cells #[] 81)).drew) from (belx))) gl_one
        have HK1 := Lib.hid k1
        have HK2 := Lib.hid k2
        clear k1 k2
        have tz : (Value.agg #[Value.int .i64 0, Value.int .i64 0]).cells.size = 2 := by first | rfl | (simp [Value.cells]; done)
        refine step_app5 _ (by rfl) (.tmp 14) (.tmp 16) _ (by rfl) (w.heap.size + 2) 81 ig _ 2 16 Tryz.underlying33 hg0 hg1 hg2 hg3 tz (by omega) (.slice (some ⟨w.heap.size + 2, 0, none⟩) 0 0) 0 [] (by rfl) (row_drew hE) A6 n6 c6 css.flatten (by rfl) k3 k4 (by simp only [maxLen]; omega) (by omega) (by first | omega | (simp; done) | (simp; omega) | (show _ ≤ (World.alloc _ _).heap.size; simp) | (show _ ≤ (World.alloc _ _).heap.size; simp; omega)) ?_
        intro v1 w1 hown hgr hat
        obtain ⟨AG, cG, FG, rfl, prG, hNG⟩ := (glGrow (l := p.2.2.2.2.2.2) (by rw [HL6.out]; simpa using hown) HK1.out HK2.out).done
        clear HK1 HK2 k3 k4
        have hB1 : Below w.heap.size w w1 := Below.grown (w := ((((w.alloc (.cells #[.int .i64 p.1, .int .i64 p.2.1, .int .i64 p.2.2.1, .slice A3 n3 c3, .slice A4 n4 c4, .slice A5 n5 c5, .slice A6 n6 c6] 35)).alloc (.cells #[.int .i64 0, .int .i64 0, .int .i64 0, .slice none 0 0, .slice none 0 0, .slice none 0 0, .slice none 0 0] 35)).alloc (.cells #[] 81)).drew)) (belx) hgr (by first | omega | (simp; done) | (simp; omega) | (show _ ≤ (World.alloc _ _).heap.size; simp) | (show _ ≤ (World.alloc _ _).heap.size; simp; omega)) (fun b hb => by have e := Option.some.inj (show some (w.heap.size + 2) = some b from hb); omega)
        have z1 : w.heap.size + 3 ≤ w1.heap.size := Nat.le_trans (by first | omega | (simp; done) | (simp; omega) | (show _ ≤ (World.alloc _ _).heap.size; simp) | (show _ ≤ (World.alloc _ _).heap.size; simp; omega)) hgr.size
        have P1 := Box.grown (w := ((((w.alloc (.cells #[.int .i64 p.1, .int .i64 p.2.1, .int .i64 p.2.2.1, .slice A3 n3 c3, .slice A4 n4 c4, .slice A5 n5 c5, .slice A6 n6 c6] 35)).alloc (.cells #[.int .i64 0, .int .i64 0, .int .i64 0, .slice none 0 0, .slice none 0 0, .slice none 0 0, .slice none 0 0] 35)).alloc (.cells #[] 81)).drew)) (Box.drew PWE) hgr (fun e => by have e := Option.some.inj (show some w.heap.size = some (w.heap.size + 2) from e); omega)
        have R1 := Box.grown (w := ((((w.alloc (.cells #[.int .i64 p.1, .int .i64 p.2.1, .int .i64 p.2.2.1, .slice A3 n3 c3, .slice A4 n4 c4, .slice A5 n5 c5, .slice A6 n6 c6] 35)).alloc (.cells #[.int .i64 0, .int .i64 0, .int .i64 0, .slice none 0 0, .slice none 0 0, .slice none 0 0, .slice none 0 0] 35)).alloc (.cells #[] 81)).drew)) (Box.drew RWE) hgr (fun e => by have e := Option.some.inj (show some (w.heap.size + 1) = some (w.heap.size + 2) from e); omega)
        have gl1 := tGlance.row.lt prG
        have x10 := P1.cell 0
        have x11 := P1.cell 1
        have x12 := P1.cell 2
        have x13 := P1.cell 3
        have x14 := P1.cell 4
        have x15 := P1.cell 5
        have x16 := P1.cell 6
        have no1 : w1.heap.size ∉ FG := fun hx => by have := gl1 _ hx; omega
        have PZ := P1.alloc (.cells #[.int .i64 p.1, .int .i64 p.2.1, .int .i64 p.2.2.1, .slice none 0 0, .slice none 0 0, .slice none 0 0, .slice AG (p.2.2.2.2.2.2).length cG] 35)
        have RZ := R1.alloc (.cells #[.int .i64 p.1, .int .i64 p.2.1, .int .i64 p.2.2.1, .slice none 0 0, .slice none 0 0, .slice none 0 0, .slice AG (p.2.2.2.2.2.2).length cG] 35)
        have OZ := Box.new w1 35 #[.int .i64 p.1, .int .i64 p.2.1, .int .i64 p.2.2.1, .slice none 0 0, .slice none 0 0, .slice none 0 0, .slice AG (p.2.2.2.2.2.2).length cG]
        have q1 := Ty.below (t := tGlance.row) prG (show Below w1.heap.size w1 (w1.alloc (.cells #[.int .i64 p.1, .int .i64 p.2.1, .int .i64 p.2.2.1, .slice none 0 0, .slice none 0 0, .slice none 0 0, .slice AG (p.2.2.2.2.2.2).length cG] 35)) from (belx))
        have BZ := bel_alloc hB1 (.cells #[.int .i64 p.1, .int .i64 p.2.1, .int .i64 p.2.2.1, .slice none 0 0, .slice none 0 0, .slice none 0 0, .slice AG (p.2.2.2.2.2.2).length cG] 35)
        refine hK.out _ _ (by exact ⟨(P1).cell 0, (P1).cell 1, (P1).cell 2, (P1).cell 6⟩) (fun hHeld => ?_)
        clear hK K
        (try simp only [Act.put, qa_, qb_, qc_])
        refine wpAnyH_take (i := 10) (oi := ⟨some 18, _, _, _, _, _⟩) (v := ?v60) rfl (by kernel_rfl) (by kernel_rfl) (by kernel_rfl) (fun _ _ _ h => h) (Or.inl ⟨by rfl, ?hy60⟩) (by assumption) ?_
        case hy60 => (intro w hSw; (try dsimp only at hSw); go_simp; try (with_reducible rfl))
        (try simp only [Act.put, qa_, qb_, qc_])
        refine wpAnyH_ready (rs := [11]) (by kernel_rfl) (by simp) ?_
        refine AllReadyH.cons rfl (fun K hK => ?_) ?_
        · go_simp
          refine hK.out _ _ (by exact ⟨(P1.alloc _).cell 0, (P1.alloc _).cell 1, (P1.alloc _).cell 2, (P1.alloc _).cell 6⟩) (fun hHeld => ?_)
          clear hK K
          (try simp only [Act.put, qa_, qb_, qc_])
          refine wpAnyH_ready (rs := [12]) (by kernel_rfl) (by simp) ?_
          refine AllReadyH.cons rfl (fun K hK => ?_) ?_
          · go_simp
            refine hK.out _ _ (by exact ⟨(PZ).cell 0, (PZ).cell 1, (PZ).cell 2, (PZ).cell 6⟩) (fun hHeld => ?_)
            clear hK K
            (try simp only [Act.put, qa_, qb_, qc_])
            refine wpAnyH_done (by kernel_rfl) ?_ _
            go_wp2_with fail
            go_meet
            exact ⟨_, _, _, _, rfl, PZ, RZ, by first | exact OZ | simpa using OZ, q1, hNG.lower (by omega), no1, by omega, BZ⟩
          exact AllReadyH.nil
        exact AllReadyH.nil
      refine AllReadyH.cons rfl (fun K hK => ?_) ?_
      · go_simp
        refine hK.out _ _ (by exact ⟨(PWEZ).cell 0, (PWEZ).cell 1, (PWEZ).cell 2, (PWEZ).cell 6⟩) (fun hHeld => ?_)
        clear hK K
        (try simp only [Act.put, qa_, qb_, qc_])
        refine wpAnyH_ready (rs := [9]) (by kernel_rfl) (by simp) ?_
        refine AllReadyH.cons rfl (fun K hK => ?_) ?_
        · obtain ⟨css, k1, k2, k3, k4⟩ := row_src (tGlance.row.reach r6 (show Below w.heap.size w (((((w.alloc (.cells #[.int .i64 p.1, .int .i64 p.2.1, .int .i64 p.2.2.1, .slice A3 n3 c3, .slice A4 n4 c4, .slice A5 n5 c5, .slice A6 n6 c6] 35)).alloc (.cells #[.int .i64 0, .int .i64 0, .int .i64 0, .slice none 0 0, .slice none 0 0, .slice none 0 0, .slice none 0 0] 35)).alloc (.cells #[] 81)).alloc (.cells #[.int .i64 0, .int .i64 0, .int .i64 0, .slice none 0 0, .slice none 0 0, .slice none 0 0, .slice none 0 0] 35)).drew) from (belx))) gl_one
          have HK1 := Lib.hid k1
          have HK2 := Lib.hid k2
          clear k1 k2
          have tz : (Value.agg #[Value.int .i64 0, Value.int .i64 0]).cells.size = 2 := by first | rfl | (simp [Value.cells]; done)
          refine step_app5 _ (by rfl) (.tmp 14) (.tmp 16) _ (by rfl) (w.heap.size + 2) 81 ig _ 2 16 Tryz.underlying33 hg0 hg1 hg2 hg3 tz (by omega) (.slice (some ⟨w.heap.size + 2, 0, none⟩) 0 0) 0 [] (by rfl) (row_drew hEZ) A6 n6 c6 css.flatten (by rfl) k3 k4 (by simp only [maxLen]; omega) (by omega) (by first | omega | (simp; done) | (simp; omega) | (show _ ≤ (World.alloc _ _).heap.size; simp) | (show _ ≤ (World.alloc _ _).heap.size; simp; omega)) ?_
          intro v1 w1 hown hgr hat
          obtain ⟨AG, cG, FG, rfl, prG, hNG⟩ := (glGrow (l := p.2.2.2.2.2.2) (by rw [HL6.out]; simpa using hown) HK1.out HK2.out).done
          clear HK1 HK2 k3 k4
          have hB1 : Below w.heap.size w w1 := Below.grown (w := (((((w.alloc (.cells #[.int .i64 p.1, .int .i64 p.2.1, .int .i64 p.2.2.1, .slice A3 n3 c3, .slice A4 n4 c4, .slice A5 n5 c5, .slice A6 n6 c6] 35)).alloc (.cells #[.int .i64 0, .int .i64 0, .int .i64 0, .slice none 0 0, .slice none 0 0, .slice none 0 0, .slice none 0 0] 35)).alloc (.cells #[] 81)).alloc (.cells #[.int .i64 0, .int .i64 0, .int .i64 0, .slice none 0 0, .slice none 0 0, .slice none 0 0, .slice none 0 0] 35)).drew)) (belx) hgr (by first | omega | (simp; done) | (simp; omega) | (show _ ≤ (World.alloc _ _).heap.size; simp) | (show _ ≤ (World.alloc _ _).heap.size; simp; omega)) (fun b hb => by have e := Option.some.inj (show some (w.heap.size + 2) = some b from hb); omega)
          have z1 : w.heap.size + 4 ≤ w1.heap.size := Nat.le_trans (by first | omega | (simp; done) | (simp; omega) | (show _ ≤ (World.alloc _ _).heap.size; simp) | (show _ ≤ (World.alloc _ _).heap.size; simp; omega)) hgr.size
          have P1 := Box.grown (w := (((((w.alloc (.cells #[.int .i64 p.1, .int .i64 p.2.1, .int .i64 p.2.2.1, .slice A3 n3 c3, .slice A4 n4 c4, .slice A5 n5 c5, .slice A6 n6 c6] 35)).alloc (.cells #[.int .i64 0, .int .i64 0, .int .i64 0, .slice none 0 0, .slice none 0 0, .slice none 0 0, .slice none 0 0] 35)).alloc (.cells #[] 81)).alloc (.cells #[.int .i64 0, .int .i64 0, .int .i64 0, .slice none 0 0, .slice none 0 0, .slice none 0 0, .slice none 0 0] 35)).drew)) (Box.drew PWEZ) hgr (fun e => by have e := Option.some.inj (show some w.heap.size = some (w.heap.size + 2) from e); omega)
          have R1 := Box.grown (w := (((((w.alloc (.cells #[.int .i64 p.1, .int .i64 p.2.1, .int .i64 p.2.2.1, .slice A3 n3 c3, .slice A4 n4 c4, .slice A5 n5 c5, .slice A6 n6 c6] 35)).alloc (.cells #[.int .i64 0, .int .i64 0, .int .i64 0, .slice none 0 0, .slice none 0 0, .slice none 0 0, .slice none 0 0] 35)).alloc (.cells #[] 81)).alloc (.cells #[.int .i64 0, .int .i64 0, .int .i64 0, .slice none 0 0, .slice none 0 0, .slice none 0 0, .slice none 0 0] 35)).drew)) (Box.drew RWEZ) hgr (fun e => by have e := Option.some.inj (show some (w.heap.size + 1) = some (w.heap.size + 2) from e); omega)
          have gl1 := tGlance.row.lt prG
          have O1 := Box.grown (w := (((((w.alloc (.cells #[.int .i64 p.1, .int .i64 p.2.1, .int .i64 p.2.2.1, .slice A3 n3 c3, .slice A4 n4 c4, .slice A5 n5 c5, .slice A6 n6 c6] 35)).alloc (.cells #[.int .i64 0, .int .i64 0, .int .i64 0, .slice none 0 0, .slice none 0 0, .slice none 0 0, .slice none 0 0] 35)).alloc (.cells #[] 81)).alloc (.cells #[.int .i64 0, .int .i64 0, .int .i64 0, .slice none 0 0, .slice none 0 0, .slice none 0 0, .slice none 0 0] 35)).drew)) (Box.drew OWEZ) hgr (fun e => by have e := Option.some.inj (show some (w.heap.size + 1 + 1 + 1) = some (w.heap.size + 2) from e); omega)
          have x10 := P1.cell 0
          have x11 := P1.cell 1
          have x12 := P1.cell 2
          have x13 := P1.cell 3
          have x14 := P1.cell 4
          have x15 := P1.cell 5
          have x16 := P1.cell 6
          have no1 : (w.heap.size + 1 + 1 + 1) ∉ FG := fun hx => by
            have h1 := gl_own prG _ hx
            rcases hat with h2 | h2
            · have e := Option.some.inj (h1.symm.trans (h2.trans (show _ = some (w.heap.size + 2) from rfl))); omega
            · have e := Option.some.inj (h1.symm.trans h2); (simp at e <;> omega)
          have oo0 := O1.cell 0
          have oo1 := O1.cell 1
          have oo2 := O1.cell 2
          have oo3 := O1.cell 3
          have oo4 := O1.cell 4
          have oo5 := O1.cell 5
          have oo6 := O1.cell 6
          have of0 := O1.frozen 0
          have of1 := O1.frozen 1
          have of2 := O1.frozen 2
          have of3 := O1.frozen 3
          have of4 := O1.frozen 4
          have of5 := O1.frozen 5
          have of6 := O1.frozen 6
          have PZ := (((((((P1.far (p := ⟨(w.heap.size + 1 + 1 + 1), 0, none⟩) (by show ¬ w.heap.size = (w.heap.size + 1 + 1 + 1); omega) (.int .i64 p.1)).far (p := ⟨(w.heap.size + 1 + 1 + 1), 1, none⟩) (by show ¬ w.heap.size = (w.heap.size + 1 + 1 + 1); omega) (.int .i64 p.2.1)).far (p := ⟨(w.heap.size + 1 + 1 + 1), 2, none⟩) (by show ¬ w.heap.size = (w.heap.size + 1 + 1 + 1); omega) (.int .i64 p.2.2.1)).far (p := ⟨(w.heap.size + 1 + 1 + 1), 3, none⟩) (by show ¬ w.heap.size = (w.heap.size + 1 + 1 + 1); omega) (.slice none 0 0)).far (p := ⟨(w.heap.size + 1 + 1 + 1), 4, none⟩) (by show ¬ w.heap.size = (w.heap.size + 1 + 1 + 1); omega) (.slice none 0 0)).far (p := ⟨(w.heap.size + 1 + 1 + 1), 5, none⟩) (by show ¬ w.heap.size = (w.heap.size + 1 + 1 + 1); omega) (.slice none 0 0)).far (p := ⟨(w.heap.size + 1 + 1 + 1), 6, none⟩) (by show ¬ w.heap.size = (w.heap.size + 1 + 1 + 1); omega) (.slice AG (p.2.2.2.2.2.2).length cG))
          have RZ := (((((((R1.far (p := ⟨(w.heap.size + 1 + 1 + 1), 0, none⟩) (by show ¬ w.heap.size + 1 = (w.heap.size + 1 + 1 + 1); omega) (.int .i64 p.1)).far (p := ⟨(w.heap.size + 1 + 1 + 1), 1, none⟩) (by show ¬ w.heap.size + 1 = (w.heap.size + 1 + 1 + 1); omega) (.int .i64 p.2.1)).far (p := ⟨(w.heap.size + 1 + 1 + 1), 2, none⟩) (by show ¬ w.heap.size + 1 = (w.heap.size + 1 + 1 + 1); omega) (.int .i64 p.2.2.1)).far (p := ⟨(w.heap.size + 1 + 1 + 1), 3, none⟩) (by show ¬ w.heap.size + 1 = (w.heap.size + 1 + 1 + 1); omega) (.slice none 0 0)).far (p := ⟨(w.heap.size + 1 + 1 + 1), 4, none⟩) (by show ¬ w.heap.size + 1 = (w.heap.size + 1 + 1 + 1); omega) (.slice none 0 0)).far (p := ⟨(w.heap.size + 1 + 1 + 1), 5, none⟩) (by show ¬ w.heap.size + 1 = (w.heap.size + 1 + 1 + 1); omega) (.slice none 0 0)).far (p := ⟨(w.heap.size + 1 + 1 + 1), 6, none⟩) (by show ¬ w.heap.size + 1 = (w.heap.size + 1 + 1 + 1); omega) (.slice AG (p.2.2.2.2.2.2).length cG))
          have OZ := (((((((O1.put 0 (.int .i64 p.1)).put 1 (.int .i64 p.2.1)).put 2 (.int .i64 p.2.2.1)).put 3 (.slice none 0 0)).put 4 (.slice none 0 0)).put 5 (.slice none 0 0)).put 6 (.slice AG (p.2.2.2.2.2.2).length cG))
          have q1 := (Ty.far3 (t := tGlance.row) (Ty.far3 (t := tGlance.row) (Ty.far3 (t := tGlance.row) (Ty.far3 (t := tGlance.row) (Ty.far3 (t := tGlance.row) (Ty.far3 (t := tGlance.row) (Ty.far3 (t := tGlance.row) prG (p := ⟨(w.heap.size + 1 + 1 + 1), 0, none⟩) no1 (.int .i64 p.1)) (p := ⟨(w.heap.size + 1 + 1 + 1), 1, none⟩) no1 (.int .i64 p.2.1)) (p := ⟨(w.heap.size + 1 + 1 + 1), 2, none⟩) no1 (.int .i64 p.2.2.1)) (p := ⟨(w.heap.size + 1 + 1 + 1), 3, none⟩) no1 (.slice none 0 0)) (p := ⟨(w.heap.size + 1 + 1 + 1), 4, none⟩) no1 (.slice none 0 0)) (p := ⟨(w.heap.size + 1 + 1 + 1), 5, none⟩) no1 (.slice none 0 0)) (p := ⟨(w.heap.size + 1 + 1 + 1), 6, none⟩) no1 (.slice AG (p.2.2.2.2.2.2).length cG))
          have BZ := (bel_put (bel_put (bel_put (bel_put (bel_put (bel_put (bel_put hB1 (p := ⟨(w.heap.size + 1 + 1 + 1), 0, none⟩) (by show w.heap.size ≤ (w.heap.size + 1 + 1 + 1); omega) (.int .i64 p.1)) (p := ⟨(w.heap.size + 1 + 1 + 1), 1, none⟩) (by show w.heap.size ≤ (w.heap.size + 1 + 1 + 1); omega) (.int .i64 p.2.1)) (p := ⟨(w.heap.size + 1 + 1 + 1), 2, none⟩) (by show w.heap.size ≤ (w.heap.size + 1 + 1 + 1); omega) (.int .i64 p.2.2.1)) (p := ⟨(w.heap.size + 1 + 1 + 1), 3, none⟩) (by show w.heap.size ≤ (w.heap.size + 1 + 1 + 1); omega) (.slice none 0 0)) (p := ⟨(w.heap.size + 1 + 1 + 1), 4, none⟩) (by show w.heap.size ≤ (w.heap.size + 1 + 1 + 1); omega) (.slice none 0 0)) (p := ⟨(w.heap.size + 1 + 1 + 1), 5, none⟩) (by show w.heap.size ≤ (w.heap.size + 1 + 1 + 1); omega) (.slice none 0 0)) (p := ⟨(w.heap.size + 1 + 1 + 1), 6, none⟩) (by show w.heap.size ≤ (w.heap.size + 1 + 1 + 1); omega) (.slice AG (p.2.2.2.2.2.2).length cG))
          refine hK.out _ _ (by exact ⟨(P1).cell 0, (P1).cell 1, (P1).cell 2, (P1).cell 6⟩) (fun hHeld => ?_)
          clear hK K
          (try simp only [Act.put, qa_, qb_, qc_])
          refine wpAnyH_take (i := 10) (oi := ⟨some 18, _, _, _, _, _⟩) (v := ?v61) rfl (by kernel_rfl) (by kernel_rfl) (by kernel_rfl) (fun _ _ _ h => h) (Or.inl ⟨by rfl, ?hy61⟩) (by assumption) ?_
          case hy61 => (intro w hSw; (try dsimp only at hSw); go_simp; try (with_reducible rfl))
          (try simp only [Act.put, qa_, qb_, qc_])
          refine wpAnyH_ready (rs := [12]) (by kernel_rfl) (by simp) ?_
          refine AllReadyH.cons rfl (fun K hK => ?_) ?_
          · go_simp
            refine hK.out _ _ (by exact ⟨(PZ).cell 0, (PZ).cell 1, (PZ).cell 2, (PZ).cell 6⟩) (fun hHeld => ?_)
            clear hK K
            (try simp only [Act.put, qa_, qb_, qc_])
            refine wpAnyH_done (by kernel_rfl) ?_ _
            go_wp2_with fail
            go_meet
            exact ⟨_, _, _, _, rfl, PZ, RZ, by first | exact OZ | simpa using OZ, q1, hNG.lower (by omega), no1, by omega, BZ⟩
          exact AllReadyH.nil
        exact AllReadyH.nil
      exact AllReadyH.nil
    refine AllReadyH.cons rfl (fun K hK => ?_) ?_
    · go_simp
      refine hK.out _ _ (by exact ⟨(PWZ).cell 0, (PWZ).cell 1, (PWZ).cell 2, (PWZ).cell 6⟩) (fun hHeld => ?_)
      clear hK K
      (try simp only [Act.put, qa_, qb_, qc_])
      refine wpAnyH_ready (rs := [6]) (by kernel_rfl) (by simp) ?_
      refine AllReadyH.cons rfl (fun K hK => ?_) ?_
      · go_simp
        refine hK.out _ _ (by exact ⟨(PWZE).cell 0, (PWZE).cell 1, (PWZE).cell 2, (PWZE).cell 6⟩) (fun hHeld => ?_)
        clear hK K
        (try simp only [Act.put, qa_, qb_, qc_])
        refine wpAnyH_ready (rs := [9]) (by kernel_rfl) (by simp) ?_
        refine AllReadyH.cons rfl (fun K hK => ?_) ?_
        · obtain ⟨css, k1, k2, k3, k4⟩ := row_src (tGlance.row.reach r6 (show Below w.heap.size w (((((w.alloc (.cells #[.int .i64 p.1, .int .i64 p.2.1, .int .i64 p.2.2.1, .slice A3 n3 c3, .slice A4 n4 c4, .slice A5 n5 c5, .slice A6 n6 c6] 35)).alloc (.cells #[.int .i64 0, .int .i64 0, .int .i64 0, .slice none 0 0, .slice none 0 0, .slice none 0 0, .slice none 0 0] 35)).alloc (.cells #[.int .i64 0, .int .i64 0, .int .i64 0, .slice none 0 0, .slice none 0 0, .slice none 0 0, .slice none 0 0] 35)).alloc (.cells #[] 81)).drew) from (belx))) gl_one
          have HK1 := Lib.hid k1
          have HK2 := Lib.hid k2
          clear k1 k2
          have tz : (Value.agg #[Value.int .i64 0, Value.int .i64 0]).cells.size = 2 := by first | rfl | (simp [Value.cells]; done)
          refine step_app5 _ (by rfl) (.tmp 14) (.tmp 16) _ (by rfl) (w.heap.size + 3) 81 ig _ 2 16 Tryz.underlying33 hg0 hg1 hg2 hg3 tz (by omega) (.slice (some ⟨w.heap.size + 3, 0, none⟩) 0 0) 0 [] (by rfl) (row_drew hZE) A6 n6 c6 css.flatten (by rfl) k3 k4 (by simp only [maxLen]; omega) (by omega) (by first | omega | (simp; done) | (simp; omega) | (show _ ≤ (World.alloc _ _).heap.size; simp) | (show _ ≤ (World.alloc _ _).heap.size; simp; omega)) ?_
          intro v1 w1 hown hgr hat
          obtain ⟨AG, cG, FG, rfl, prG, hNG⟩ := (glGrow (l := p.2.2.2.2.2.2) (by rw [HL6.out]; simpa using hown) HK1.out HK2.out).done
          clear HK1 HK2 k3 k4
          have hB1 : Below w.heap.size w w1 := Below.grown (w := (((((w.alloc (.cells #[.int .i64 p.1, .int .i64 p.2.1, .int .i64 p.2.2.1, .slice A3 n3 c3, .slice A4 n4 c4, .slice A5 n5 c5, .slice A6 n6 c6] 35)).alloc (.cells #[.int .i64 0, .int .i64 0, .int .i64 0, .slice none 0 0, .slice none 0 0, .slice none 0 0, .slice none 0 0] 35)).alloc (.cells #[.int .i64 0, .int .i64 0, .int .i64 0, .slice none 0 0, .slice none 0 0, .slice none 0 0, .slice none 0 0] 35)).alloc (.cells #[] 81)).drew)) (belx) hgr (by first | omega | (simp; done) | (simp; omega) | (show _ ≤ (World.alloc _ _).heap.size; simp) | (show _ ≤ (World.alloc _ _).heap.size; simp; omega)) (fun b hb => by have e := Option.some.inj (show some (w.heap.size + 3) = some b from hb); omega)
          have z1 : w.heap.size + 4 ≤ w1.heap.size := Nat.le_trans (by first | omega | (simp; done) | (simp; omega) | (show _ ≤ (World.alloc _ _).heap.size; simp) | (show _ ≤ (World.alloc _ _).heap.size; simp; omega)) hgr.size
          have P1 := Box.grown (w := (((((w.alloc (.cells #[.int .i64 p.1, .int .i64 p.2.1, .int .i64 p.2.2.1, .slice A3 n3 c3, .slice A4 n4 c4, .slice A5 n5 c5, .slice A6 n6 c6] 35)).alloc (.cells #[.int .i64 0, .int .i64 0, .int .i64 0, .slice none 0 0, .slice none 0 0, .slice none 0 0, .slice none 0 0] 35)).alloc (.cells #[.int .i64 0, .int .i64 0, .int .i64 0, .slice none 0 0, .slice none 0 0, .slice none 0 0, .slice none 0 0] 35)).alloc (.cells #[] 81)).drew)) (Box.drew PWZE) hgr (fun e => by have e := Option.some.inj (show some w.heap.size = some (w.heap.size + 3) from e); omega)
          have R1 := Box.grown (w := (((((w.alloc (.cells #[.int .i64 p.1, .int .i64 p.2.1, .int .i64 p.2.2.1, .slice A3 n3 c3, .slice A4 n4 c4, .slice A5 n5 c5, .slice A6 n6 c6] 35)).alloc (.cells #[.int .i64 0, .int .i64 0, .int .i64 0, .slice none 0 0, .slice none 0 0, .slice none 0 0, .slice none 0 0] 35)).alloc (.cells #[.int .i64 0, .int .i64 0, .int .i64 0, .slice none 0 0, .slice none 0 0, .slice none 0 0, .slice none 0 0] 35)).alloc (.cells #[] 81)).drew)) (Box.drew RWZE) hgr (fun e => by have e := Option.some.inj (show some (w.heap.size + 1) = some (w.heap.size + 3) from e); omega)
          have gl1 := tGlance.row.lt prG
          have O1 := Box.grown (w := (((((w.alloc (.cells #[.int .i64 p.1, .int .i64 p.2.1, .int .i64 p.2.2.1, .slice A3 n3 c3, .slice A4 n4 c4, .slice A5 n5 c5, .slice A6 n6 c6] 35)).alloc (.cells #[.int .i64 0, .int .i64 0, .int .i64 0, .slice none 0 0, .slice none 0 0, .slice none 0 0, .slice none 0 0] 35)).alloc (.cells #[.int .i64 0, .int .i64 0, .int .i64 0, .slice none 0 0, .slice none 0 0, .slice none 0 0, .slice none 0 0] 35)).alloc (.cells #[] 81)).drew)) (Box.drew OWZE) hgr (fun e => by have e := Option.some.inj (show some (w.heap.size + 1 + 1) = some (w.heap.size + 3) from e); omega)
          have x10 := P1.cell 0
          have x11 := P1.cell 1
          have x12 := P1.cell 2
          have x13 := P1.cell 3
          have x14 := P1.cell 4
          have x15 := P1.cell 5
          have x16 := P1.cell 6
          have no1 : (w.heap.size + 1 + 1) ∉ FG := fun hx => by have := hNG.2 _ hx; omega
          have oo0 := O1.cell 0
          have oo1 := O1.cell 1
          have oo2 := O1.cell 2
          have oo3 := O1.cell 3
          have oo4 := O1.cell 4
          have oo5 := O1.cell 5
          have oo6 := O1.cell 6
          have of0 := O1.frozen 0
          have of1 := O1.frozen 1
          have of2 := O1.frozen 2
          have of3 := O1.frozen 3
          have of4 := O1.frozen 4
          have of5 := O1.frozen 5
          have of6 := O1.frozen 6
          have PZ := (((((((P1.far (p := ⟨(w.heap.size + 1 + 1), 0, none⟩) (by show ¬ w.heap.size = (w.heap.size + 1 + 1); omega) (.int .i64 p.1)).far (p := ⟨(w.heap.size + 1 + 1), 1, none⟩) (by show ¬ w.heap.size = (w.heap.size + 1 + 1); omega) (.int .i64 p.2.1)).far (p := ⟨(w.heap.size + 1 + 1), 2, none⟩) (by show ¬ w.heap.size = (w.heap.size + 1 + 1); omega) (.int .i64 p.2.2.1)).far (p := ⟨(w.heap.size + 1 + 1), 3, none⟩) (by show ¬ w.heap.size = (w.heap.size + 1 + 1); omega) (.slice none 0 0)).far (p := ⟨(w.heap.size + 1 + 1), 4, none⟩) (by show ¬ w.heap.size = (w.heap.size + 1 + 1); omega) (.slice none 0 0)).far (p := ⟨(w.heap.size + 1 + 1), 5, none⟩) (by show ¬ w.heap.size = (w.heap.size + 1 + 1); omega) (.slice none 0 0)).far (p := ⟨(w.heap.size + 1 + 1), 6, none⟩) (by show ¬ w.heap.size = (w.heap.size + 1 + 1); omega) (.slice AG (p.2.2.2.2.2.2).length cG))
          have RZ := (((((((R1.far (p := ⟨(w.heap.size + 1 + 1), 0, none⟩) (by show ¬ w.heap.size + 1 = (w.heap.size + 1 + 1); omega) (.int .i64 p.1)).far (p := ⟨(w.heap.size + 1 + 1), 1, none⟩) (by show ¬ w.heap.size + 1 = (w.heap.size + 1 + 1); omega) (.int .i64 p.2.1)).far (p := ⟨(w.heap.size + 1 + 1), 2, none⟩) (by show ¬ w.heap.size + 1 = (w.heap.size + 1 + 1); omega) (.int .i64 p.2.2.1)).far (p := ⟨(w.heap.size + 1 + 1), 3, none⟩) (by show ¬ w.heap.size + 1 = (w.heap.size + 1 + 1); omega) (.slice none 0 0)).far (p := ⟨(w.heap.size + 1 + 1), 4, none⟩) (by show ¬ w.heap.size + 1 = (w.heap.size + 1 + 1); omega) (.slice none 0 0)).far (p := ⟨(w.heap.size + 1 + 1), 5, none⟩) (by show ¬ w.heap.size + 1 = (w.heap.size + 1 + 1); omega) (.slice none 0 0)).far (p := ⟨(w.heap.size + 1 + 1), 6, none⟩) (by show ¬ w.heap.size + 1 = (w.heap.size + 1 + 1); omega) (.slice AG (p.2.2.2.2.2.2).length cG))
          have OZ := (((((((O1.put 0 (.int .i64 p.1)).put 1 (.int .i64 p.2.1)).put 2 (.int .i64 p.2.2.1)).put 3 (.slice none 0 0)).put 4 (.slice none 0 0)).put 5 (.slice none 0 0)).put 6 (.slice AG (p.2.2.2.2.2.2).length cG))
          have q1 := (Ty.far3 (t := tGlance.row) (Ty.far3 (t := tGlance.row) (Ty.far3 (t := tGlance.row) (Ty.far3 (t := tGlance.row) (Ty.far3 (t := tGlance.row) (Ty.far3 (t := tGlance.row) (Ty.far3 (t := tGlance.row) prG (p := ⟨(w.heap.size + 1 + 1), 0, none⟩) no1 (.int .i64 p.1)) (p := ⟨(w.heap.size + 1 + 1), 1, none⟩) no1 (.int .i64 p.2.1)) (p := ⟨(w.heap.size + 1 + 1), 2, none⟩) no1 (.int .i64 p.2.2.1)) (p := ⟨(w.heap.size + 1 + 1), 3, none⟩) no1 (.slice none 0 0)) (p := ⟨(w.heap.size + 1 + 1), 4, none⟩) no1 (.slice none 0 0)) (p := ⟨(w.heap.size + 1 + 1), 5, none⟩) no1 (.slice none 0 0)) (p := ⟨(w.heap.size + 1 + 1), 6, none⟩) no1 (.slice AG (p.2.2.2.2.2.2).length cG))
          have BZ := (bel_put (bel_put (bel_put (bel_put (bel_put (bel_put (bel_put hB1 (p := ⟨(w.heap.size + 1 + 1), 0, none⟩) (by show w.heap.size ≤ (w.heap.size + 1 + 1); omega) (.int .i64 p.1)) (p := ⟨(w.heap.size + 1 + 1), 1, none⟩) (by show w.heap.size ≤ (w.heap.size + 1 + 1); omega) (.int .i64 p.2.1)) (p := ⟨(w.heap.size + 1 + 1), 2, none⟩) (by show w.heap.size ≤ (w.heap.size + 1 + 1); omega) (.int .i64 p.2.2.1)) (p := ⟨(w.heap.size + 1 + 1), 3, none⟩) (by show w.heap.size ≤ (w.heap.size + 1 + 1); omega) (.slice none 0 0)) (p := ⟨(w.heap.size + 1 + 1), 4, none⟩) (by show w.heap.size ≤ (w.heap.size + 1 + 1); omega) (.slice none 0 0)) (p := ⟨(w.heap.size + 1 + 1), 5, none⟩) (by show w.heap.size ≤ (w.heap.size + 1 + 1); omega) (.slice none 0 0)) (p := ⟨(w.heap.size + 1 + 1), 6, none⟩) (by show w.heap.size ≤ (w.heap.size + 1 + 1); omega) (.slice AG (p.2.2.2.2.2.2).length cG))
          refine hK.out _ _ (by exact ⟨(P1).cell 0, (P1).cell 1, (P1).cell 2, (P1).cell 6⟩) (fun hHeld => ?_)
          clear hK K
          (try simp only [Act.put, qa_, qb_, qc_])
          refine wpAnyH_take (i := 10) (oi := ⟨some 18, _, _, _, _, _⟩) (v := ?v62) rfl (by kernel_rfl) (by kernel_rfl) (by kernel_rfl) (fun _ _ _ h => h) (Or.inl ⟨by rfl, ?hy62⟩) (by assumption) ?_
          case hy62 => (intro w hSw; (try dsimp only at hSw); go_simp; try (with_reducible rfl))
          (try simp only [Act.put, qa_, qb_, qc_])
          refine wpAnyH_ready (rs := [12]) (by kernel_rfl) (by simp) ?_
          refine AllReadyH.cons rfl (fun K hK => ?_) ?_
          · go_simp
            refine hK.out _ _ (by exact ⟨(PZ).cell 0, (PZ).cell 1, (PZ).cell 2, (PZ).cell 6⟩) (fun hHeld => ?_)
            clear hK K
            (try simp only [Act.put, qa_, qb_, qc_])
            refine wpAnyH_done (by kernel_rfl) ?_ _
            go_wp2_with fail
            go_meet
            exact ⟨_, _, _, _, rfl, PZ, RZ, by first | exact OZ | simpa using OZ, q1, hNG.lower (by omega), no1, by omega, BZ⟩
          exact AllReadyH.nil
        exact AllReadyH.nil
      exact AllReadyH.nil
    exact AllReadyH.nil
  case rest =>
  obtain ⟨ob, AG, cG, FG, rfl, PS, RS, OS, prG, hNG, prGo, zob, hS⟩ := hcut
  generalize wc = wS at *
  clear PW RW PWZ RWZ OWZ PWE RWE PWZE RWZE OWZE PWEZ RWEZ OWEZ hE hEZ hZE kw0 kw1 kw2 kw3 kw4 kw5 kw6
  have prGl := tGlance.row.lt prG
  have zo2 := OS.size
  have zS : wS.heap.size ≤ wS.heap.size := Nat.le_refl _
  have k3 : wS.cell? ⟨w.heap.size, 3, none⟩ = some (.slice A3 n3 c3) := PS.cell 3
  go_wp2_with fail
  go_loopw [4] (fun i wr => ∃ (j : Nat) (F : List Nat) (v : Value), j ≤ n3 ∧ i = .int .i64 j ∧ GrowO tNode 71 wr wS.heap.size v ((p.2.2.2.1).take j) F ∧ Box wr w.heap.size 35 #[.int .i64 p.1, .int .i64 p.2.1, .int .i64 p.2.2.1, .slice A3 n3 c3, .slice A4 n4 c4, .slice A5 n5 c5, .slice A6 n6 c6] ∧ Box wr (w.heap.size + 1) 35 #[.int .i64 0, .int .i64 0, .int .i64 0, .slice none 0 0, .slice none 0 0, .slice none 0 0, .slice none 0 0] ∧ Box wr ob 35 #[.int .i64 p.1, .int .i64 p.2.1, .int .i64 p.2.2.1, v, .slice none 0 0, .slice none 0 0, .slice AG (p.2.2.2.2.2.2).length cG] ∧ (tGlance.row).O wr [.slice AG (p.2.2.2.2.2.2).length cG] (p.2.2.2.2.2.2) FG ∧ Below w.heap.size w wr ∧ wS.heap.size ≤ wr.heap.size) (fun i _ => n3 - (intOf i).toNat)
  case atStart => exact ⟨0, [], .slice none 0 0, by omega, rfl, GrowO.nil, PS, RS, OS, prG, hS, zS⟩
  case round =>
    obtain ⟨j, F, v, hj, rfl, hG, P0, R0, O0, prG, hB, zB⟩ := hrel
    clear k3 PS RS OS hS
    have k3 : wr.cell? ⟨w.heap.size, 3, none⟩ = some (.slice A3 n3 c3) := P0.cell 3
    by_cases hlt : j < n3
    · obtain ⟨a, b', off, es, hl2, rfl, hb, hes, hR⟩ := rowR_at (K := 7) r3 hlt rfl
      have HT := Lib.hid (take_sn hl2)
      have HLN := Lib.hid (show ((p.2.2.2.1).take j).length = j from by rw [List.length_take, HL3.out]; omega)
      have hsa : szNode a ≤ 1048576 := HSZ3.out j a hl2
      clear hl2
      have hRk := hR
      obtain ⟨aA2, an2, ac2, aA3, an3, ac3, aA4, an4, ac4, aA5, an5, ac5, aA6, an6, ac6, rfl, ai0, ai1, ar2, ar4, ar6⟩ := fopenNode hR
      have e0 : wr.cell? ⟨b', off + j * 7, none⟩ = some (.int .i64 a.1) := cell_at hB hb (hes 0 (by omega))
      have e1 : wr.cell? ⟨b', off + j * 7 + 1, none⟩ = some (.int .i64 a.2.1) := cell_at hB hb (hes 1 (by omega))
      have e2 : wr.cell? ⟨b', off + j * 7 + 2, none⟩ = some (.slice aA2 an2 ac2) := cell_at hB hb (hes 2 (by omega))
      have e3 : wr.cell? ⟨b', off + j * 7 + 3, none⟩ = some (.slice aA3 an3 ac3) := cell_at hB hb (hes 3 (by omega))
      have e4 : wr.cell? ⟨b', off + j * 7 + 4, none⟩ = some (.slice aA4 an4 ac4) := cell_at hB hb (hes 4 (by omega))
      have e5 : wr.cell? ⟨b', off + j * 7 + 5, none⟩ = some (.slice aA5 an5 ac5) := cell_at hB hb (hes 5 (by omega))
      have e6 : wr.cell? ⟨b', off + j * 7 + 6, none⟩ = some (.slice aA6 an6 ac6) := cell_at hB hb (hes 6 (by omega))
      have hOwn := fun b hb => (GrowO.row hG).choose_spec.1.lt b hb
      have hlt2 := hG.lt
      clear hR
      have o0c : wr.cell? ⟨ob, 3, none⟩ = some v := O0.cell 3
      go_wp2_with fail
      refine wp_region_held_drew (S := (fun w' => w'.cell? ⟨w.heap.size, 3, none⟩ = some (.slice (some ⟨b', off, none⟩) n3 c3) ∧ w'.cell? ⟨b', off + j * 7, none⟩ = some (.int .i64 a.1) ∧ w'.cell? ⟨b', off + j * 7 + 1, none⟩ = some (.int .i64 a.2.1) ∧ w'.cell? ⟨b', off + j * 7 + 2, none⟩ = some (.slice aA2 an2 ac2) ∧ w'.cell? ⟨b', off + j * 7 + 3, none⟩ = some (.slice aA3 an3 ac3) ∧ w'.cell? ⟨b', off + j * 7 + 4, none⟩ = some (.slice aA4 an4 ac4) ∧ w'.cell? ⟨b', off + j * 7 + 5, none⟩ = some (.slice aA5 an5 ac5) ∧ w'.cell? ⟨b', off + j * 7 + 6, none⟩ = some (.slice aA6 an6 ac6))) (by kernel_rfl) (by exact ⟨k3, e0, e1, e2, e3, e4, e5, e6⟩) (fun hHeld => ?_)
      refine wpAnyH_take (i := 0) (oi := ⟨some 26, _, _, _, _, _⟩) (v := ?v63) rfl (by kernel_rfl) (by kernel_rfl) (by kernel_rfl) (fun _ _ _ h => h) (Or.inl ⟨by rfl, ?hy63⟩) (by assumption) ?_
      case hy63 => (intro w hSw; (try dsimp only at hSw); go_simp; try (with_reducible rfl))
      (try simp only [Act.put, qa_, qb_, qc_])
      refine wpAnyH_take (i := 2) (oi := ⟨some 28, _, _, _, _, _⟩) (v := ?v64) rfl (by kernel_rfl) (by kernel_rfl) (by kernel_rfl) (fun _ _ _ h => h) (Or.inl ⟨by rfl, ?hy64⟩) (by assumption) ?_
      case hy64 => (intro w hSw; (try dsimp only at hSw); go_simp; try (with_reducible rfl))
      (try simp only [Act.put, qa_, qb_, qc_])
      refine wpAnyH_take (i := 3) (oi := ⟨some 29, _, _, _, _, _⟩) (v := ?v65) rfl (by kernel_rfl) (by kernel_rfl) (by kernel_rfl) (fun _ _ _ h => h) (Or.inl ⟨by rfl, ?hy65⟩) (by assumption) ?_
      case hy65 => (intro w hSw; (try dsimp only at hSw); go_simp; try (with_reducible rfl))
      (try simp only [Act.put, qa_, qb_, qc_])
      refine wpAnyH_take (i := 4) (oi := ⟨some 30, _, _, _, _, _⟩) (v := ?v66) rfl (by kernel_rfl) (by kernel_rfl) (by kernel_rfl) (fun _ _ _ h => h) (Or.inl ⟨by rfl, ?hy66⟩) (by assumption) ?_
      case hy66 => (intro w hSw; (try dsimp only at hSw); go_simp; try (with_reducible rfl))
      (try simp only [Act.put, qa_, qb_, qc_])
      refine wpAnyH_take (i := 5) (oi := ⟨some 31, _, _, _, _, _⟩) (v := ?v67) rfl (by kernel_rfl) (by kernel_rfl) (by kernel_rfl) (fun _ _ _ h => h) (Or.inl ⟨by rfl, ?hy67⟩) (by assumption) ?_
      case hy67 => (intro w hSw; (try dsimp only at hSw); go_simp; try (with_reducible rfl))
      (try simp only [Act.put, qa_, qb_, qc_])
      refine wpAnyH_take (i := 6) (oi := ⟨some 32, _, _, _, _, _⟩) (v := ?v68) rfl (by kernel_rfl) (by kernel_rfl) (by kernel_rfl) (fun _ _ _ h => h) (Or.inl ⟨by rfl, ?hy68⟩) (by assumption) ?_
      case hy68 => (intro w hSw; (try dsimp only at hSw); go_simp; try (with_reducible rfl))
      (try simp only [Act.put, qa_, qb_, qc_])
      refine wpAnyH_ready (rs := [1, 7]) (by kernel_rfl) (by simp) ?_
      refine AllReadyH.cons rfl (fun K hK => ?_) ?_
      · go_simp
        refine hK.out _ _ (by exact ⟨k3, e0, e1, e2, e3, e4, e5, e6⟩) (fun hHeld => ?_)
        clear hK K
        (try simp only [Act.put, qa_, qb_, qc_])
        refine wpAnyH_ready (rs := [7]) (by kernel_rfl) (by simp) ?_
        refine AllReadyH.cons rfl (fun K hK => ?_) ?_
        · go_simp
          go_at_call 132
          refine (s_NodeOwn (tNode.reach (tNode.reach hRk hB) (belx)) hsa).mono ?_
          rintro e w1 ⟨cs1, Fd, rfl, hOd, hNd0, hb1⟩
          have hs1 : Below wr.heap.size wr w1 := bel_trans (show Below wr.heap.size wr wr.drew from (belx)) hb1
          have hNd : New wr.heap.size Fd := hNd0.lower (by simp)
          have hOk := hOd
          obtain ⟨oA2, oc2, oA3, oc3, oA4, oc4, oA5, oc5, oA6, oc6, oG2, oG4, oG6, rfl, -, -, -, -, -, -⟩ := fopenONode hOd
          clear hOd hNd0
          have P1 := Box.below P0 hs1 P0.size
          have R1 := Box.below R0 hs1 R0.size
          have O1 := Box.below O0 hs1 O0.size
          have e10 : w1.cell? ⟨b', off + j * 7, none⟩ = some (.int .i64 a.1) := cell_at (bel_trans hB hs1) hb (hes 0 (by omega))
          have e11 : w1.cell? ⟨b', off + j * 7 + 1, none⟩ = some (.int .i64 a.2.1) := cell_at (bel_trans hB hs1) hb (hes 1 (by omega))
          have e12 : w1.cell? ⟨b', off + j * 7 + 2, none⟩ = some (.slice aA2 an2 ac2) := cell_at (bel_trans hB hs1) hb (hes 2 (by omega))
          have e13 : w1.cell? ⟨b', off + j * 7 + 3, none⟩ = some (.slice aA3 an3 ac3) := cell_at (bel_trans hB hs1) hb (hes 3 (by omega))
          have e14 : w1.cell? ⟨b', off + j * 7 + 4, none⟩ = some (.slice aA4 an4 ac4) := cell_at (bel_trans hB hs1) hb (hes 4 (by omega))
          have e15 : w1.cell? ⟨b', off + j * 7 + 5, none⟩ = some (.slice aA5 an5 ac5) := cell_at (bel_trans hB hs1) hb (hes 5 (by omega))
          have e16 : w1.cell? ⟨b', off + j * 7 + 6, none⟩ = some (.slice aA6 an6 ac6) := cell_at (bel_trans hB hs1) hb (hes 6 (by omega))
          have o1c := O1.cell 3
          have PA := P1.alloc (.cells ([.int .i64 a.1, .int .i64 a.2.1, .slice oA2 a.2.2.1.1.length oc2, .slice oA3 a.2.2.1.2.length oc3, .slice oA4 a.2.2.2.1.1.length oc4, .slice oA5 a.2.2.2.1.2.length oc5, .slice oA6 a.2.2.2.2.length oc6].toArray) 71)
          have OA := O1.alloc (.cells ([.int .i64 a.1, .int .i64 a.2.1, .slice oA2 a.2.2.1.1.length oc2, .slice oA3 a.2.2.1.2.length oc3, .slice oA4 a.2.2.2.1.1.length oc4, .slice oA5 a.2.2.2.1.2.length oc5, .slice oA6 a.2.2.2.2.length oc6].toArray) 71)
          have oAc := OA.cell 3
          have zw1 := hs1.size
          have eA0 : (w1.alloc (.cells ([.int .i64 a.1, .int .i64 a.2.1, .slice oA2 a.2.2.1.1.length oc2, .slice oA3 a.2.2.1.2.length oc3, .slice oA4 a.2.2.2.1.1.length oc4, .slice oA5 a.2.2.2.1.2.length oc5, .slice oA6 a.2.2.2.2.length oc6].toArray) 71)).cell? ⟨b', off + j * 7, none⟩ = some (.int .i64 a.1) := cell_at (bel_alloc (bel_trans hB hs1) _) hb (hes 0 (by omega))
          have eA1 : (w1.alloc (.cells ([.int .i64 a.1, .int .i64 a.2.1, .slice oA2 a.2.2.1.1.length oc2, .slice oA3 a.2.2.1.2.length oc3, .slice oA4 a.2.2.2.1.1.length oc4, .slice oA5 a.2.2.2.1.2.length oc5, .slice oA6 a.2.2.2.2.length oc6].toArray) 71)).cell? ⟨b', off + j * 7 + 1, none⟩ = some (.int .i64 a.2.1) := cell_at (bel_alloc (bel_trans hB hs1) _) hb (hes 1 (by omega))
          have eA2 : (w1.alloc (.cells ([.int .i64 a.1, .int .i64 a.2.1, .slice oA2 a.2.2.1.1.length oc2, .slice oA3 a.2.2.1.2.length oc3, .slice oA4 a.2.2.2.1.1.length oc4, .slice oA5 a.2.2.2.1.2.length oc5, .slice oA6 a.2.2.2.2.length oc6].toArray) 71)).cell? ⟨b', off + j * 7 + 2, none⟩ = some (.slice aA2 an2 ac2) := cell_at (bel_alloc (bel_trans hB hs1) _) hb (hes 2 (by omega))
          have eA3 : (w1.alloc (.cells ([.int .i64 a.1, .int .i64 a.2.1, .slice oA2 a.2.2.1.1.length oc2, .slice oA3 a.2.2.1.2.length oc3, .slice oA4 a.2.2.2.1.1.length oc4, .slice oA5 a.2.2.2.1.2.length oc5, .slice oA6 a.2.2.2.2.length oc6].toArray) 71)).cell? ⟨b', off + j * 7 + 3, none⟩ = some (.slice aA3 an3 ac3) := cell_at (bel_alloc (bel_trans hB hs1) _) hb (hes 3 (by omega))
          have eA4 : (w1.alloc (.cells ([.int .i64 a.1, .int .i64 a.2.1, .slice oA2 a.2.2.1.1.length oc2, .slice oA3 a.2.2.1.2.length oc3, .slice oA4 a.2.2.2.1.1.length oc4, .slice oA5 a.2.2.2.1.2.length oc5, .slice oA6 a.2.2.2.2.length oc6].toArray) 71)).cell? ⟨b', off + j * 7 + 4, none⟩ = some (.slice aA4 an4 ac4) := cell_at (bel_alloc (bel_trans hB hs1) _) hb (hes 4 (by omega))
          have eA5 : (w1.alloc (.cells ([.int .i64 a.1, .int .i64 a.2.1, .slice oA2 a.2.2.1.1.length oc2, .slice oA3 a.2.2.1.2.length oc3, .slice oA4 a.2.2.2.1.1.length oc4, .slice oA5 a.2.2.2.1.2.length oc5, .slice oA6 a.2.2.2.2.length oc6].toArray) 71)).cell? ⟨b', off + j * 7 + 5, none⟩ = some (.slice aA5 an5 ac5) := cell_at (bel_alloc (bel_trans hB hs1) _) hb (hes 5 (by omega))
          have eA6 : (w1.alloc (.cells ([.int .i64 a.1, .int .i64 a.2.1, .slice oA2 a.2.2.1.1.length oc2, .slice oA3 a.2.2.1.2.length oc3, .slice oA4 a.2.2.2.1.1.length oc4, .slice oA5 a.2.2.2.1.2.length oc5, .slice oA6 a.2.2.2.2.length oc6].toArray) 71)).cell? ⟨b', off + j * 7 + 6, none⟩ = some (.slice aA6 an6 ac6) := cell_at (bel_alloc (bel_trans hB hs1) _) hb (hes 6 (by omega))
          go_wp2_with fail
          refine hK.out _ _ (by exact ⟨(P1.cell 3), e10, e11, e12, e13, e14, e15, e16⟩) (fun hHeld => ?_)
          clear hK K
          (try simp only [Act.put, qa_, qb_, qc_])
          refine wpAnyH_ready (rs := [8]) (by kernel_rfl) (by simp) ?_
          refine AllReadyH.cons rfl (fun K hK => ?_) ?_
          · go_simp
            refine hK.out _ _ (by exact ⟨(PA.cell 3), eA0, eA1, eA2, eA3, eA4, eA5, eA6⟩) (fun hHeld => ?_)
            clear hK K
            (try simp only [Act.put, qa_, qb_, qc_])
            refine wpAnyH_ready (rs := [9]) (by kernel_rfl) (by simp) ?_
            refine AllReadyH.cons rfl (fun K hK => ?_) ?_
            · have hBx : Below wr.heap.size wr (w1.alloc (.cells ([.int .i64 a.1, .int .i64 a.2.1, .slice oA2 a.2.2.1.1.length oc2, .slice oA3 a.2.2.1.2.length oc3, .slice oA4 a.2.2.2.1.1.length oc4, .slice oA5 a.2.2.2.1.2.length oc5, .slice oA6 a.2.2.2.2.length oc6].toArray) 71)) := bel_alloc hs1 _
              obtain ⟨xs, hrow, hpush⟩ := (hG.below hBx).row
              have hS2 : Src (w1.alloc (.cells ([.int .i64 a.1, .int .i64 a.2.1, .slice oA2 a.2.2.1.1.length oc2, .slice oA3 a.2.2.1.2.length oc3, .slice oA4 a.2.2.2.1.1.length oc4, .slice oA5 a.2.2.2.1.2.length oc5, .slice oA6 a.2.2.2.2.length oc6].toArray) 71)) 7 (some ⟨w1.heap.size, 0, none⟩) 1 [.int .i64 a.1, .int .i64 a.2.1, .slice oA2 a.2.2.1.1.length oc2, .slice oA3 a.2.2.1.2.length oc3, .slice oA4 a.2.2.2.1.1.length oc4, .slice oA5 a.2.2.2.1.2.length oc5, .slice oA6 a.2.2.2.2.length oc6] := Src.of_box w1 71 [.int .i64 a.1, .int .i64 a.2.1, .slice oA2 a.2.2.1.1.length oc2, .slice oA3 a.2.2.1.2.length oc3, .slice oA4 a.2.2.2.1.1.length oc4, .slice oA5 a.2.2.2.1.2.length oc5, .slice oA6 a.2.2.2.2.length oc6] (K := 7) rfl
              have tz : (Value.agg #[Value.int .i64 0, Value.int .i64 0, Value.slice none 0 0, Value.slice none 0 0, Value.slice none 0 0, Value.slice none 0 0, Value.slice none 0 0]).cells.size = 7 := (by first | rfl | (simp [Value.cells]; done))
              have t0 : ∀ u ∈ ([.int .i64 a.1, .int .i64 a.2.1, .slice oA2 a.2.2.1.1.length oc2, .slice oA3 a.2.2.1.2.length oc3, .slice oA4 a.2.2.2.1.1.length oc4, .slice oA5 a.2.2.2.1.2.length oc5, .slice oA6 a.2.2.2.2.length oc6] : List Value), u.oneCell' = true := (by intro u hu; simp only [List.mem_cons, List.not_mem_nil, or_false] at hu; rcases hu with rfl | rfl | rfl | rfl | rfl | rfl | rfl <;> rfl)
              have t1 : ((p.2.2.2.1).take j).length + 1 ≤ maxLen := (by simp only [maxLen]; have := HLN.out; omega)
              have t2 : (((p.2.2.2.1).take j).length + 1) * 136 ≤ 140737488355328 := (by have := HLN.out; omega)
              have t3 := hBx.size
              refine step_app5 _ (by rfl) (.tmp 27) (.tmp 34) _ (by rfl) wS.heap.size 71 i3i _ 7 136 Tryz.underlying30 hj03 hj13 hj23 hj33 tz (by omega) v _ xs (by rfl) hrow _ 1 1 [.int .i64 a.1, .int .i64 a.2.1, .slice oA2 a.2.2.1.1.length oc2, .slice oA3 a.2.2.1.2.length oc3, .slice oA4 a.2.2.2.1.1.length oc4, .slice oA5 a.2.2.2.1.2.length oc5, .slice oA6 a.2.2.2.2.length oc6] (by rfl) hS2 t0 t1 t2 (by omega) ?_
              intro v2 w2 hown2 hgr2 hat2
              have hOel : tNode.O (w1.alloc (.cells ([.int .i64 a.1, .int .i64 a.2.1, .slice oA2 a.2.2.1.1.length oc2, .slice oA3 a.2.2.1.2.length oc3, .slice oA4 a.2.2.2.1.1.length oc4, .slice oA5 a.2.2.2.1.2.length oc5, .slice oA6 a.2.2.2.2.length oc6].toArray) 71)) [.int .i64 a.1, .int .i64 a.2.1, .slice oA2 a.2.2.1.1.length oc2, .slice oA3 a.2.2.1.2.length oc3, .slice oA4 a.2.2.2.1.1.length oc4, .slice oA5 a.2.2.2.1.2.length oc5, .slice oA6 a.2.2.2.2.length oc6] a Fd := Ty.below (t := tNode) hOk (belx)
              have hNel : New wS.heap.size Fd := hNd.lower (by omega)
              have hdis : ∀ f ∈ Fd, f ∉ F := (fun f h1 h2 => by have := hNd.2 _ h1; have := hlt2 f h2; omega)
              have hod : ∀ b, v.ownBlock = some b → b ∉ Fd := (fun b hb hx => by have := (hOwn b hb).2; have := hNd.2 _ hx; omega)
              have hfin := hpush w2 v2 a _ Fd hOel hNel hdis hod hown2 hgr2 hat2
              obtain ⟨A9, n9, c9, rfl, -⟩ := hfin.shapeN
              have P2 := Box.grown (w := (w1.alloc (.cells ([.int .i64 a.1, .int .i64 a.2.1, .slice oA2 a.2.2.1.1.length oc2, .slice oA3 a.2.2.1.2.length oc3, .slice oA4 a.2.2.2.1.1.length oc4, .slice oA5 a.2.2.2.1.2.length oc5, .slice oA6 a.2.2.2.2.length oc6].toArray) 71))) (P1.alloc _) hgr2 (fun e => by have := (hOwn w.heap.size e.symm).1; omega)
              have R2 := Box.grown (w := (w1.alloc (.cells ([.int .i64 a.1, .int .i64 a.2.1, .slice oA2 a.2.2.1.1.length oc2, .slice oA3 a.2.2.1.2.length oc3, .slice oA4 a.2.2.2.1.1.length oc4, .slice oA5 a.2.2.2.1.2.length oc5, .slice oA6 a.2.2.2.2.length oc6].toArray) 71))) (R1.alloc _) hgr2 (fun e => by have := (hOwn (w.heap.size + 1) e.symm).1; omega)
              have O2 := Box.grown (w := (w1.alloc (.cells ([.int .i64 a.1, .int .i64 a.2.1, .slice oA2 a.2.2.1.1.length oc2, .slice oA3 a.2.2.1.2.length oc3, .slice oA4 a.2.2.2.1.1.length oc4, .slice oA5 a.2.2.2.1.2.length oc5, .slice oA6 a.2.2.2.2.length oc6].toArray) 71))) (O1.alloc _) hgr2 (fun e => by have := (hOwn ob e.symm).1; omega)
              have hBf : Below w.heap.size w w2 := Below.grown (w := (w1.alloc (.cells ([.int .i64 a.1, .int .i64 a.2.1, .slice oA2 a.2.2.1.1.length oc2, .slice oA3 a.2.2.1.2.length oc3, .slice oA4 a.2.2.2.1.1.length oc4, .slice oA5 a.2.2.2.1.2.length oc5, .slice oA6 a.2.2.2.2.length oc6].toArray) 71))) (bel_trans hB hBx) hgr2 (by have := hBx.size; omega) (fun b hb => by have := (hOwn b hb).1; omega)
              have z2 := hgr2.size
              have o2c := O2.cell 3
              have o2f := O2.frozen 3
              have GF := hfin.put (p := ⟨ob, 3, none⟩) (by show ob < wS.heap.size; omega) (.slice A9 n9 c9)
              have PF := P2.far (p := ⟨ob, 3, none⟩) (by show ¬ w.heap.size = ob; omega) (.slice A9 n9 c9)
              have RF := R2.far (p := ⟨ob, 3, none⟩) (by show ¬ w.heap.size + 1 = ob; omega) (.slice A9 n9 c9)
              have OF : Box (w2.setCell ⟨ob, 3, none⟩ (.slice A9 n9 c9)) ob 35 #[.int .i64 p.1, .int .i64 p.2.1, .int .i64 p.2.2.1, .slice A9 n9 c9, .slice none 0 0, .slice none 0 0, .slice AG (p.2.2.2.2.2.2).length cG] := O2.put 3 (.slice A9 n9 c9)
              have prGF := Ty.far3 (own_past (w := (w1.alloc (.cells ([.int .i64 a.1, .int .i64 a.2.1, .slice oA2 a.2.2.1.1.length oc2, .slice oA3 a.2.2.1.2.length oc3, .slice oA4 a.2.2.2.1.1.length oc4, .slice oA5 a.2.2.2.1.2.length oc5, .slice oA6 a.2.2.2.2.length oc6].toArray) 71))) (Ty.below (t := tGlance.row) prG hBx) hgr2 (fun b hb hx => by have h1 := (hOwn b hb).1; have h2 := prGl b hx; omega)) (p := ⟨ob, 3, none⟩) prGo (.slice A9 n9 c9)
              have BF : Below w.heap.size w (w2.setCell ⟨ob, 3, none⟩ (.slice A9 n9 c9)) := bel_put hBf (by show w.heap.size ≤ ob; omega) _
              have e20 : w2.cell? ⟨b', off + j * 7, none⟩ = some (.int .i64 a.1) := cell_at hBf hb (hes 0 (by omega))
              have e21 : w2.cell? ⟨b', off + j * 7 + 1, none⟩ = some (.int .i64 a.2.1) := cell_at hBf hb (hes 1 (by omega))
              have e22 : w2.cell? ⟨b', off + j * 7 + 2, none⟩ = some (.slice aA2 an2 ac2) := cell_at hBf hb (hes 2 (by omega))
              have e23 : w2.cell? ⟨b', off + j * 7 + 3, none⟩ = some (.slice aA3 an3 ac3) := cell_at hBf hb (hes 3 (by omega))
              have e24 : w2.cell? ⟨b', off + j * 7 + 4, none⟩ = some (.slice aA4 an4 ac4) := cell_at hBf hb (hes 4 (by omega))
              have e25 : w2.cell? ⟨b', off + j * 7 + 5, none⟩ = some (.slice aA5 an5 ac5) := cell_at hBf hb (hes 5 (by omega))
              have e26 : w2.cell? ⟨b', off + j * 7 + 6, none⟩ = some (.slice aA6 an6 ac6) := cell_at hBf hb (hes 6 (by omega))
              have eF0 : (w2.setCell ⟨ob, 3, none⟩ (.slice A9 n9 c9)).cell? ⟨b', off + j * 7, none⟩ = some (.int .i64 a.1) := cell_at BF hb (hes 0 (by omega))
              have eF1 : (w2.setCell ⟨ob, 3, none⟩ (.slice A9 n9 c9)).cell? ⟨b', off + j * 7 + 1, none⟩ = some (.int .i64 a.2.1) := cell_at BF hb (hes 1 (by omega))
              have eF2 : (w2.setCell ⟨ob, 3, none⟩ (.slice A9 n9 c9)).cell? ⟨b', off + j * 7 + 2, none⟩ = some (.slice aA2 an2 ac2) := cell_at BF hb (hes 2 (by omega))
              have eF3 : (w2.setCell ⟨ob, 3, none⟩ (.slice A9 n9 c9)).cell? ⟨b', off + j * 7 + 3, none⟩ = some (.slice aA3 an3 ac3) := cell_at BF hb (hes 3 (by omega))
              have eF4 : (w2.setCell ⟨ob, 3, none⟩ (.slice A9 n9 c9)).cell? ⟨b', off + j * 7 + 4, none⟩ = some (.slice aA4 an4 ac4) := cell_at BF hb (hes 4 (by omega))
              have eF5 : (w2.setCell ⟨ob, 3, none⟩ (.slice A9 n9 c9)).cell? ⟨b', off + j * 7 + 5, none⟩ = some (.slice aA5 an5 ac5) := cell_at BF hb (hes 5 (by omega))
              have eF6 : (w2.setCell ⟨ob, 3, none⟩ (.slice A9 n9 c9)).cell? ⟨b', off + j * 7 + 6, none⟩ = some (.slice aA6 an6 ac6) := cell_at BF hb (hes 6 (by omega))
              refine hK.out _ _ (by exact ⟨(P2.cell 3), e20, e21, e22, e23, e24, e25, e26⟩) (fun hHeld => ?_)
              clear hK K
              (try simp only [Act.put, qa_, qb_, qc_])
              refine wpAnyH_take (i := 10) (oi := ⟨some 36, _, _, _, _, _⟩) (v := ?v69) rfl (by kernel_rfl) (by kernel_rfl) (by kernel_rfl) (fun _ _ _ h => h) (Or.inl ⟨by rfl, ?hy69⟩) (by assumption) ?_
              case hy69 => (intro w hSw; (try dsimp only at hSw); go_simp; try (with_reducible rfl))
              (try simp only [Act.put, qa_, qb_, qc_])
              refine wpAnyH_ready (rs := [11]) (by kernel_rfl) (by simp) ?_
              refine AllReadyH.cons rfl (fun K hK => ?_) ?_
              · go_simp
                refine hK.out _ _ (by exact ⟨(PF.cell 3), eF0, eF1, eF2, eF3, eF4, eF5, eF6⟩) (fun hHeld => ?_)
                clear hK K
                (try simp only [Act.put, qa_, qb_, qc_])
                refine wpAnyH_done (by kernel_rfl) ?_ _
                go_wp2
                go_roundw
                case rel => exact ⟨j + 1, _, _, by omega, by go_num, by rw [HT.out]; exact GF, PF, RF, OF, prGF, BF, by have h := z2; simp [World.setCell] at h ⊢; omega⟩
                case measure => simp [intOf]; omega
              exact AllReadyH.nil
            exact AllReadyH.nil
          exact AllReadyH.nil
        exact AllReadyH.nil
      refine AllReadyH.cons rfl (fun K hK => ?_) ?_
      · go_simp
        go_at_call 132
        refine (s_NodeOwn (tNode.reach (tNode.reach hRk hB) (belx)) hsa).mono ?_
        rintro e w1 ⟨cs1, Fd, rfl, hOd, hNd0, hb1⟩
        have hs1 : Below wr.heap.size wr w1 := bel_trans (show Below wr.heap.size wr wr.drew from (belx)) hb1
        have hNd : New wr.heap.size Fd := hNd0.lower (by simp)
        have hOk := hOd
        obtain ⟨oA2, oc2, oA3, oc3, oA4, oc4, oA5, oc5, oA6, oc6, oG2, oG4, oG6, rfl, -, -, -, -, -, -⟩ := fopenONode hOd
        clear hOd hNd0
        have P1 := Box.below P0 hs1 P0.size
        have R1 := Box.below R0 hs1 R0.size
        have O1 := Box.below O0 hs1 O0.size
        have e10 : w1.cell? ⟨b', off + j * 7, none⟩ = some (.int .i64 a.1) := cell_at (bel_trans hB hs1) hb (hes 0 (by omega))
        have e11 : w1.cell? ⟨b', off + j * 7 + 1, none⟩ = some (.int .i64 a.2.1) := cell_at (bel_trans hB hs1) hb (hes 1 (by omega))
        have e12 : w1.cell? ⟨b', off + j * 7 + 2, none⟩ = some (.slice aA2 an2 ac2) := cell_at (bel_trans hB hs1) hb (hes 2 (by omega))
        have e13 : w1.cell? ⟨b', off + j * 7 + 3, none⟩ = some (.slice aA3 an3 ac3) := cell_at (bel_trans hB hs1) hb (hes 3 (by omega))
        have e14 : w1.cell? ⟨b', off + j * 7 + 4, none⟩ = some (.slice aA4 an4 ac4) := cell_at (bel_trans hB hs1) hb (hes 4 (by omega))
        have e15 : w1.cell? ⟨b', off + j * 7 + 5, none⟩ = some (.slice aA5 an5 ac5) := cell_at (bel_trans hB hs1) hb (hes 5 (by omega))
        have e16 : w1.cell? ⟨b', off + j * 7 + 6, none⟩ = some (.slice aA6 an6 ac6) := cell_at (bel_trans hB hs1) hb (hes 6 (by omega))
        have o1c := O1.cell 3
        have PA := P1.alloc (.cells ([.int .i64 a.1, .int .i64 a.2.1, .slice oA2 a.2.2.1.1.length oc2, .slice oA3 a.2.2.1.2.length oc3, .slice oA4 a.2.2.2.1.1.length oc4, .slice oA5 a.2.2.2.1.2.length oc5, .slice oA6 a.2.2.2.2.length oc6].toArray) 71)
        have OA := O1.alloc (.cells ([.int .i64 a.1, .int .i64 a.2.1, .slice oA2 a.2.2.1.1.length oc2, .slice oA3 a.2.2.1.2.length oc3, .slice oA4 a.2.2.2.1.1.length oc4, .slice oA5 a.2.2.2.1.2.length oc5, .slice oA6 a.2.2.2.2.length oc6].toArray) 71)
        have oAc := OA.cell 3
        have zw1 := hs1.size
        have eA0 : (w1.alloc (.cells ([.int .i64 a.1, .int .i64 a.2.1, .slice oA2 a.2.2.1.1.length oc2, .slice oA3 a.2.2.1.2.length oc3, .slice oA4 a.2.2.2.1.1.length oc4, .slice oA5 a.2.2.2.1.2.length oc5, .slice oA6 a.2.2.2.2.length oc6].toArray) 71)).cell? ⟨b', off + j * 7, none⟩ = some (.int .i64 a.1) := cell_at (bel_alloc (bel_trans hB hs1) _) hb (hes 0 (by omega))
        have eA1 : (w1.alloc (.cells ([.int .i64 a.1, .int .i64 a.2.1, .slice oA2 a.2.2.1.1.length oc2, .slice oA3 a.2.2.1.2.length oc3, .slice oA4 a.2.2.2.1.1.length oc4, .slice oA5 a.2.2.2.1.2.length oc5, .slice oA6 a.2.2.2.2.length oc6].toArray) 71)).cell? ⟨b', off + j * 7 + 1, none⟩ = some (.int .i64 a.2.1) := cell_at (bel_alloc (bel_trans hB hs1) _) hb (hes 1 (by omega))
        have eA2 : (w1.alloc (.cells ([.int .i64 a.1, .int .i64 a.2.1, .slice oA2 a.2.2.1.1.length oc2, .slice oA3 a.2.2.1.2.length oc3, .slice oA4 a.2.2.2.1.1.length oc4, .slice oA5 a.2.2.2.1.2.length oc5, .slice oA6 a.2.2.2.2.length oc6].toArray) 71)).cell? ⟨b', off + j * 7 + 2, none⟩ = some (.slice aA2 an2 ac2) := cell_at (bel_alloc (bel_trans hB hs1) _) hb (hes 2 (by omega))
        have eA3 : (w1.alloc (.cells ([.int .i64 a.1, .int .i64 a.2.1, .slice oA2 a.2.2.1.1.length oc2, .slice oA3 a.2.2.1.2.length oc3, .slice oA4 a.2.2.2.1.1.length oc4, .slice oA5 a.2.2.2.1.2.length oc5, .slice oA6 a.2.2.2.2.length oc6].toArray) 71)).cell? ⟨b', off + j * 7 + 3, none⟩ = some (.slice aA3 an3 ac3) := cell_at (bel_alloc (bel_trans hB hs1) _) hb (hes 3 (by omega))
        have eA4 : (w1.alloc (.cells ([.int .i64 a.1, .int .i64 a.2.1, .slice oA2 a.2.2.1.1.length oc2, .slice oA3 a.2.2.1.2.length oc3, .slice oA4 a.2.2.2.1.1.length oc4, .slice oA5 a.2.2.2.1.2.length oc5, .slice oA6 a.2.2.2.2.length oc6].toArray) 71)).cell? ⟨b', off + j * 7 + 4, none⟩ = some (.slice aA4 an4 ac4) := cell_at (bel_alloc (bel_trans hB hs1) _) hb (hes 4 (by omega))
        have eA5 : (w1.alloc (.cells ([.int .i64 a.1, .int .i64 a.2.1, .slice oA2 a.2.2.1.1.length oc2, .slice oA3 a.2.2.1.2.length oc3, .slice oA4 a.2.2.2.1.1.length oc4, .slice oA5 a.2.2.2.1.2.length oc5, .slice oA6 a.2.2.2.2.length oc6].toArray) 71)).cell? ⟨b', off + j * 7 + 5, none⟩ = some (.slice aA5 an5 ac5) := cell_at (bel_alloc (bel_trans hB hs1) _) hb (hes 5 (by omega))
        have eA6 : (w1.alloc (.cells ([.int .i64 a.1, .int .i64 a.2.1, .slice oA2 a.2.2.1.1.length oc2, .slice oA3 a.2.2.1.2.length oc3, .slice oA4 a.2.2.2.1.1.length oc4, .slice oA5 a.2.2.2.1.2.length oc5, .slice oA6 a.2.2.2.2.length oc6].toArray) 71)).cell? ⟨b', off + j * 7 + 6, none⟩ = some (.slice aA6 an6 ac6) := cell_at (bel_alloc (bel_trans hB hs1) _) hb (hes 6 (by omega))
        go_wp2_with fail
        refine hK.out _ _ (by exact ⟨(P1.cell 3), e10, e11, e12, e13, e14, e15, e16⟩) (fun hHeld => ?_)
        clear hK K
        (try simp only [Act.put, qa_, qb_, qc_])
        refine wpAnyH_ready (rs := [1, 8]) (by kernel_rfl) (by simp) ?_
        refine AllReadyH.cons rfl (fun K hK => ?_) ?_
        · go_simp
          refine hK.out _ _ (by exact ⟨(P1.cell 3), e10, e11, e12, e13, e14, e15, e16⟩) (fun hHeld => ?_)
          clear hK K
          (try simp only [Act.put, qa_, qb_, qc_])
          refine wpAnyH_ready (rs := [8]) (by kernel_rfl) (by simp) ?_
          refine AllReadyH.cons rfl (fun K hK => ?_) ?_
          · go_simp
            refine hK.out _ _ (by exact ⟨(PA.cell 3), eA0, eA1, eA2, eA3, eA4, eA5, eA6⟩) (fun hHeld => ?_)
            clear hK K
            (try simp only [Act.put, qa_, qb_, qc_])
            refine wpAnyH_ready (rs := [9]) (by kernel_rfl) (by simp) ?_
            refine AllReadyH.cons rfl (fun K hK => ?_) ?_
            · have hBx : Below wr.heap.size wr (w1.alloc (.cells ([.int .i64 a.1, .int .i64 a.2.1, .slice oA2 a.2.2.1.1.length oc2, .slice oA3 a.2.2.1.2.length oc3, .slice oA4 a.2.2.2.1.1.length oc4, .slice oA5 a.2.2.2.1.2.length oc5, .slice oA6 a.2.2.2.2.length oc6].toArray) 71)) := bel_alloc hs1 _
              obtain ⟨xs, hrow, hpush⟩ := (hG.below hBx).row
              have hS2 : Src (w1.alloc (.cells ([.int .i64 a.1, .int .i64 a.2.1, .slice oA2 a.2.2.1.1.length oc2, .slice oA3 a.2.2.1.2.length oc3, .slice oA4 a.2.2.2.1.1.length oc4, .slice oA5 a.2.2.2.1.2.length oc5, .slice oA6 a.2.2.2.2.length oc6].toArray) 71)) 7 (some ⟨w1.heap.size, 0, none⟩) 1 [.int .i64 a.1, .int .i64 a.2.1, .slice oA2 a.2.2.1.1.length oc2, .slice oA3 a.2.2.1.2.length oc3, .slice oA4 a.2.2.2.1.1.length oc4, .slice oA5 a.2.2.2.1.2.length oc5, .slice oA6 a.2.2.2.2.length oc6] := Src.of_box w1 71 [.int .i64 a.1, .int .i64 a.2.1, .slice oA2 a.2.2.1.1.length oc2, .slice oA3 a.2.2.1.2.length oc3, .slice oA4 a.2.2.2.1.1.length oc4, .slice oA5 a.2.2.2.1.2.length oc5, .slice oA6 a.2.2.2.2.length oc6] (K := 7) rfl
              have tz : (Value.agg #[Value.int .i64 0, Value.int .i64 0, Value.slice none 0 0, Value.slice none 0 0, Value.slice none 0 0, Value.slice none 0 0, Value.slice none 0 0]).cells.size = 7 := (by first | rfl | (simp [Value.cells]; done))
              have t0 : ∀ u ∈ ([.int .i64 a.1, .int .i64 a.2.1, .slice oA2 a.2.2.1.1.length oc2, .slice oA3 a.2.2.1.2.length oc3, .slice oA4 a.2.2.2.1.1.length oc4, .slice oA5 a.2.2.2.1.2.length oc5, .slice oA6 a.2.2.2.2.length oc6] : List Value), u.oneCell' = true := (by intro u hu; simp only [List.mem_cons, List.not_mem_nil, or_false] at hu; rcases hu with rfl | rfl | rfl | rfl | rfl | rfl | rfl <;> rfl)
              have t1 : ((p.2.2.2.1).take j).length + 1 ≤ maxLen := (by simp only [maxLen]; have := HLN.out; omega)
              have t2 : (((p.2.2.2.1).take j).length + 1) * 136 ≤ 140737488355328 := (by have := HLN.out; omega)
              have t3 := hBx.size
              refine step_app5 _ (by rfl) (.tmp 27) (.tmp 34) _ (by rfl) wS.heap.size 71 i3i _ 7 136 Tryz.underlying30 hj03 hj13 hj23 hj33 tz (by omega) v _ xs (by rfl) hrow _ 1 1 [.int .i64 a.1, .int .i64 a.2.1, .slice oA2 a.2.2.1.1.length oc2, .slice oA3 a.2.2.1.2.length oc3, .slice oA4 a.2.2.2.1.1.length oc4, .slice oA5 a.2.2.2.1.2.length oc5, .slice oA6 a.2.2.2.2.length oc6] (by rfl) hS2 t0 t1 t2 (by omega) ?_
              intro v2 w2 hown2 hgr2 hat2
              have hOel : tNode.O (w1.alloc (.cells ([.int .i64 a.1, .int .i64 a.2.1, .slice oA2 a.2.2.1.1.length oc2, .slice oA3 a.2.2.1.2.length oc3, .slice oA4 a.2.2.2.1.1.length oc4, .slice oA5 a.2.2.2.1.2.length oc5, .slice oA6 a.2.2.2.2.length oc6].toArray) 71)) [.int .i64 a.1, .int .i64 a.2.1, .slice oA2 a.2.2.1.1.length oc2, .slice oA3 a.2.2.1.2.length oc3, .slice oA4 a.2.2.2.1.1.length oc4, .slice oA5 a.2.2.2.1.2.length oc5, .slice oA6 a.2.2.2.2.length oc6] a Fd := Ty.below (t := tNode) hOk (belx)
              have hNel : New wS.heap.size Fd := hNd.lower (by omega)
              have hdis : ∀ f ∈ Fd, f ∉ F := (fun f h1 h2 => by have := hNd.2 _ h1; have := hlt2 f h2; omega)
              have hod : ∀ b, v.ownBlock = some b → b ∉ Fd := (fun b hb hx => by have := (hOwn b hb).2; have := hNd.2 _ hx; omega)
              have hfin := hpush w2 v2 a _ Fd hOel hNel hdis hod hown2 hgr2 hat2
              obtain ⟨A9, n9, c9, rfl, -⟩ := hfin.shapeN
              have P2 := Box.grown (w := (w1.alloc (.cells ([.int .i64 a.1, .int .i64 a.2.1, .slice oA2 a.2.2.1.1.length oc2, .slice oA3 a.2.2.1.2.length oc3, .slice oA4 a.2.2.2.1.1.length oc4, .slice oA5 a.2.2.2.1.2.length oc5, .slice oA6 a.2.2.2.2.length oc6].toArray) 71))) (P1.alloc _) hgr2 (fun e => by have := (hOwn w.heap.size e.symm).1; omega)
              have R2 := Box.grown (w := (w1.alloc (.cells ([.int .i64 a.1, .int .i64 a.2.1, .slice oA2 a.2.2.1.1.length oc2, .slice oA3 a.2.2.1.2.length oc3, .slice oA4 a.2.2.2.1.1.length oc4, .slice oA5 a.2.2.2.1.2.length oc5, .slice oA6 a.2.2.2.2.length oc6].toArray) 71))) (R1.alloc _) hgr2 (fun e => by have := (hOwn (w.heap.size + 1) e.symm).1; omega)
              have O2 := Box.grown (w := (w1.alloc (.cells ([.int .i64 a.1, .int .i64 a.2.1, .slice oA2 a.2.2.1.1.length oc2, .slice oA3 a.2.2.1.2.length oc3, .slice oA4 a.2.2.2.1.1.length oc4, .slice oA5 a.2.2.2.1.2.length oc5, .slice oA6 a.2.2.2.2.length oc6].toArray) 71))) (O1.alloc _) hgr2 (fun e => by have := (hOwn ob e.symm).1; omega)
              have hBf : Below w.heap.size w w2 := Below.grown (w := (w1.alloc (.cells ([.int .i64 a.1, .int .i64 a.2.1, .slice oA2 a.2.2.1.1.length oc2, .slice oA3 a.2.2.1.2.length oc3, .slice oA4 a.2.2.2.1.1.length oc4, .slice oA5 a.2.2.2.1.2.length oc5, .slice oA6 a.2.2.2.2.length oc6].toArray) 71))) (bel_trans hB hBx) hgr2 (by have := hBx.size; omega) (fun b hb => by have := (hOwn b hb).1; omega)
              have z2 := hgr2.size
              have o2c := O2.cell 3
              have o2f := O2.frozen 3
              have GF := hfin.put (p := ⟨ob, 3, none⟩) (by show ob < wS.heap.size; omega) (.slice A9 n9 c9)
              have PF := P2.far (p := ⟨ob, 3, none⟩) (by show ¬ w.heap.size = ob; omega) (.slice A9 n9 c9)
              have RF := R2.far (p := ⟨ob, 3, none⟩) (by show ¬ w.heap.size + 1 = ob; omega) (.slice A9 n9 c9)
              have OF : Box (w2.setCell ⟨ob, 3, none⟩ (.slice A9 n9 c9)) ob 35 #[.int .i64 p.1, .int .i64 p.2.1, .int .i64 p.2.2.1, .slice A9 n9 c9, .slice none 0 0, .slice none 0 0, .slice AG (p.2.2.2.2.2.2).length cG] := O2.put 3 (.slice A9 n9 c9)
              have prGF := Ty.far3 (own_past (w := (w1.alloc (.cells ([.int .i64 a.1, .int .i64 a.2.1, .slice oA2 a.2.2.1.1.length oc2, .slice oA3 a.2.2.1.2.length oc3, .slice oA4 a.2.2.2.1.1.length oc4, .slice oA5 a.2.2.2.1.2.length oc5, .slice oA6 a.2.2.2.2.length oc6].toArray) 71))) (Ty.below (t := tGlance.row) prG hBx) hgr2 (fun b hb hx => by have h1 := (hOwn b hb).1; have h2 := prGl b hx; omega)) (p := ⟨ob, 3, none⟩) prGo (.slice A9 n9 c9)
              have BF : Below w.heap.size w (w2.setCell ⟨ob, 3, none⟩ (.slice A9 n9 c9)) := bel_put hBf (by show w.heap.size ≤ ob; omega) _
              have e20 : w2.cell? ⟨b', off + j * 7, none⟩ = some (.int .i64 a.1) := cell_at hBf hb (hes 0 (by omega))
              have e21 : w2.cell? ⟨b', off + j * 7 + 1, none⟩ = some (.int .i64 a.2.1) := cell_at hBf hb (hes 1 (by omega))
              have e22 : w2.cell? ⟨b', off + j * 7 + 2, none⟩ = some (.slice aA2 an2 ac2) := cell_at hBf hb (hes 2 (by omega))
              have e23 : w2.cell? ⟨b', off + j * 7 + 3, none⟩ = some (.slice aA3 an3 ac3) := cell_at hBf hb (hes 3 (by omega))
              have e24 : w2.cell? ⟨b', off + j * 7 + 4, none⟩ = some (.slice aA4 an4 ac4) := cell_at hBf hb (hes 4 (by omega))
              have e25 : w2.cell? ⟨b', off + j * 7 + 5, none⟩ = some (.slice aA5 an5 ac5) := cell_at hBf hb (hes 5 (by omega))
              have e26 : w2.cell? ⟨b', off + j * 7 + 6, none⟩ = some (.slice aA6 an6 ac6) := cell_at hBf hb (hes 6 (by omega))
              have eF0 : (w2.setCell ⟨ob, 3, none⟩ (.slice A9 n9 c9)).cell? ⟨b', off + j * 7, none⟩ = some (.int .i64 a.1) := cell_at BF hb (hes 0 (by omega))
              have eF1 : (w2.setCell ⟨ob, 3, none⟩ (.slice A9 n9 c9)).cell? ⟨b', off + j * 7 + 1, none⟩ = some (.int .i64 a.2.1) := cell_at BF hb (hes 1 (by omega))
              have eF2 : (w2.setCell ⟨ob, 3, none⟩ (.slice A9 n9 c9)).cell? ⟨b', off + j * 7 + 2, none⟩ = some (.slice aA2 an2 ac2) := cell_at BF hb (hes 2 (by omega))
              have eF3 : (w2.setCell ⟨ob, 3, none⟩ (.slice A9 n9 c9)).cell? ⟨b', off + j * 7 + 3, none⟩ = some (.slice aA3 an3 ac3) := cell_at BF hb (hes 3 (by omega))
              have eF4 : (w2.setCell ⟨ob, 3, none⟩ (.slice A9 n9 c9)).cell? ⟨b', off + j * 7 + 4, none⟩ = some (.slice aA4 an4 ac4) := cell_at BF hb (hes 4 (by omega))
              have eF5 : (w2.setCell ⟨ob, 3, none⟩ (.slice A9 n9 c9)).cell? ⟨b', off + j * 7 + 5, none⟩ = some (.slice aA5 an5 ac5) := cell_at BF hb (hes 5 (by omega))
              have eF6 : (w2.setCell ⟨ob, 3, none⟩ (.slice A9 n9 c9)).cell? ⟨b', off + j * 7 + 6, none⟩ = some (.slice aA6 an6 ac6) := cell_at BF hb (hes 6 (by omega))
              refine hK.out _ _ (by exact ⟨(P2.cell 3), e20, e21, e22, e23, e24, e25, e26⟩) (fun hHeld => ?_)
              clear hK K
              (try simp only [Act.put, qa_, qb_, qc_])
              refine wpAnyH_take (i := 10) (oi := ⟨some 36, _, _, _, _, _⟩) (v := ?v70) rfl (by kernel_rfl) (by kernel_rfl) (by kernel_rfl) (fun _ _ _ h => h) (Or.inl ⟨by rfl, ?hy70⟩) (by assumption) ?_
              case hy70 => (intro w hSw; (try dsimp only at hSw); go_simp; try (with_reducible rfl))
              (try simp only [Act.put, qa_, qb_, qc_])
              refine wpAnyH_ready (rs := [11]) (by kernel_rfl) (by simp) ?_
              refine AllReadyH.cons rfl (fun K hK => ?_) ?_
              · go_simp
                refine hK.out _ _ (by exact ⟨(PF.cell 3), eF0, eF1, eF2, eF3, eF4, eF5, eF6⟩) (fun hHeld => ?_)
                clear hK K
                (try simp only [Act.put, qa_, qb_, qc_])
                refine wpAnyH_done (by kernel_rfl) ?_ _
                go_wp2
                go_roundw
                case rel => exact ⟨j + 1, _, _, by omega, by go_num, by rw [HT.out]; exact GF, PF, RF, OF, prGF, BF, by have h := z2; simp [World.setCell] at h ⊢; omega⟩
                case measure => simp [intOf]; omega
              exact AllReadyH.nil
            exact AllReadyH.nil
          exact AllReadyH.nil
        refine AllReadyH.cons rfl (fun K hK => ?_) ?_
        · go_simp
          refine hK.out _ _ (by exact ⟨(PA.cell 3), eA0, eA1, eA2, eA3, eA4, eA5, eA6⟩) (fun hHeld => ?_)
          clear hK K
          (try simp only [Act.put, qa_, qb_, qc_])
          refine wpAnyH_ready (rs := [1]) (by kernel_rfl) (by simp) ?_
          refine AllReadyH.cons rfl (fun K hK => ?_) ?_
          · go_simp
            refine hK.out _ _ (by exact ⟨(PA.cell 3), eA0, eA1, eA2, eA3, eA4, eA5, eA6⟩) (fun hHeld => ?_)
            clear hK K
            (try simp only [Act.put, qa_, qb_, qc_])
            refine wpAnyH_ready (rs := [9]) (by kernel_rfl) (by simp) ?_
            refine AllReadyH.cons rfl (fun K hK => ?_) ?_
            · have hBx : Below wr.heap.size wr (w1.alloc (.cells ([.int .i64 a.1, .int .i64 a.2.1, .slice oA2 a.2.2.1.1.length oc2, .slice oA3 a.2.2.1.2.length oc3, .slice oA4 a.2.2.2.1.1.length oc4, .slice oA5 a.2.2.2.1.2.length oc5, .slice oA6 a.2.2.2.2.length oc6].toArray) 71)) := bel_alloc hs1 _
              obtain ⟨xs, hrow, hpush⟩ := (hG.below hBx).row
              have hS2 : Src (w1.alloc (.cells ([.int .i64 a.1, .int .i64 a.2.1, .slice oA2 a.2.2.1.1.length oc2, .slice oA3 a.2.2.1.2.length oc3, .slice oA4 a.2.2.2.1.1.length oc4, .slice oA5 a.2.2.2.1.2.length oc5, .slice oA6 a.2.2.2.2.length oc6].toArray) 71)) 7 (some ⟨w1.heap.size, 0, none⟩) 1 [.int .i64 a.1, .int .i64 a.2.1, .slice oA2 a.2.2.1.1.length oc2, .slice oA3 a.2.2.1.2.length oc3, .slice oA4 a.2.2.2.1.1.length oc4, .slice oA5 a.2.2.2.1.2.length oc5, .slice oA6 a.2.2.2.2.length oc6] := Src.of_box w1 71 [.int .i64 a.1, .int .i64 a.2.1, .slice oA2 a.2.2.1.1.length oc2, .slice oA3 a.2.2.1.2.length oc3, .slice oA4 a.2.2.2.1.1.length oc4, .slice oA5 a.2.2.2.1.2.length oc5, .slice oA6 a.2.2.2.2.length oc6] (K := 7) rfl
              have tz : (Value.agg #[Value.int .i64 0, Value.int .i64 0, Value.slice none 0 0, Value.slice none 0 0, Value.slice none 0 0, Value.slice none 0 0, Value.slice none 0 0]).cells.size = 7 := (by first | rfl | (simp [Value.cells]; done))
              have t0 : ∀ u ∈ ([.int .i64 a.1, .int .i64 a.2.1, .slice oA2 a.2.2.1.1.length oc2, .slice oA3 a.2.2.1.2.length oc3, .slice oA4 a.2.2.2.1.1.length oc4, .slice oA5 a.2.2.2.1.2.length oc5, .slice oA6 a.2.2.2.2.length oc6] : List Value), u.oneCell' = true := (by intro u hu; simp only [List.mem_cons, List.not_mem_nil, or_false] at hu; rcases hu with rfl | rfl | rfl | rfl | rfl | rfl | rfl <;> rfl)
              have t1 : ((p.2.2.2.1).take j).length + 1 ≤ maxLen := (by simp only [maxLen]; have := HLN.out; omega)
              have t2 : (((p.2.2.2.1).take j).length + 1) * 136 ≤ 140737488355328 := (by have := HLN.out; omega)
              have t3 := hBx.size
              refine step_app5 _ (by rfl) (.tmp 27) (.tmp 34) _ (by rfl) wS.heap.size 71 i3i _ 7 136 Tryz.underlying30 hj03 hj13 hj23 hj33 tz (by omega) v _ xs (by rfl) hrow _ 1 1 [.int .i64 a.1, .int .i64 a.2.1, .slice oA2 a.2.2.1.1.length oc2, .slice oA3 a.2.2.1.2.length oc3, .slice oA4 a.2.2.2.1.1.length oc4, .slice oA5 a.2.2.2.1.2.length oc5, .slice oA6 a.2.2.2.2.length oc6] (by rfl) hS2 t0 t1 t2 (by omega) ?_
              intro v2 w2 hown2 hgr2 hat2
              have hOel : tNode.O (w1.alloc (.cells ([.int .i64 a.1, .int .i64 a.2.1, .slice oA2 a.2.2.1.1.length oc2, .slice oA3 a.2.2.1.2.length oc3, .slice oA4 a.2.2.2.1.1.length oc4, .slice oA5 a.2.2.2.1.2.length oc5, .slice oA6 a.2.2.2.2.length oc6].toArray) 71)) [.int .i64 a.1, .int .i64 a.2.1, .slice oA2 a.2.2.1.1.length oc2, .slice oA3 a.2.2.1.2.length oc3, .slice oA4 a.2.2.2.1.1.length oc4, .slice oA5 a.2.2.2.1.2.length oc5, .slice oA6 a.2.2.2.2.length oc6] a Fd := Ty.below (t := tNode) hOk (belx)
              have hNel : New wS.heap.size Fd := hNd.lower (by omega)
              have hdis : ∀ f ∈ Fd, f ∉ F := (fun f h1 h2 => by have := hNd.2 _ h1; have := hlt2 f h2; omega)
              have hod : ∀ b, v.ownBlock = some b → b ∉ Fd := (fun b hb hx => by have := (hOwn b hb).2; have := hNd.2 _ hx; omega)
              have hfin := hpush w2 v2 a _ Fd hOel hNel hdis hod hown2 hgr2 hat2
              obtain ⟨A9, n9, c9, rfl, -⟩ := hfin.shapeN
              have P2 := Box.grown (w := (w1.alloc (.cells ([.int .i64 a.1, .int .i64 a.2.1, .slice oA2 a.2.2.1.1.length oc2, .slice oA3 a.2.2.1.2.length oc3, .slice oA4 a.2.2.2.1.1.length oc4, .slice oA5 a.2.2.2.1.2.length oc5, .slice oA6 a.2.2.2.2.length oc6].toArray) 71))) (P1.alloc _) hgr2 (fun e => by have := (hOwn w.heap.size e.symm).1; omega)
              have R2 := Box.grown (w := (w1.alloc (.cells ([.int .i64 a.1, .int .i64 a.2.1, .slice oA2 a.2.2.1.1.length oc2, .slice oA3 a.2.2.1.2.length oc3, .slice oA4 a.2.2.2.1.1.length oc4, .slice oA5 a.2.2.2.1.2.length oc5, .slice oA6 a.2.2.2.2.length oc6].toArray) 71))) (R1.alloc _) hgr2 (fun e => by have := (hOwn (w.heap.size + 1) e.symm).1; omega)
              have O2 := Box.grown (w := (w1.alloc (.cells ([.int .i64 a.1, .int .i64 a.2.1, .slice oA2 a.2.2.1.1.length oc2, .slice oA3 a.2.2.1.2.length oc3, .slice oA4 a.2.2.2.1.1.length oc4, .slice oA5 a.2.2.2.1.2.length oc5, .slice oA6 a.2.2.2.2.length oc6].toArray) 71))) (O1.alloc _) hgr2 (fun e => by have := (hOwn ob e.symm).1; omega)
              have hBf : Below w.heap.size w w2 := Below.grown (w := (w1.alloc (.cells ([.int .i64 a.1, .int .i64 a.2.1, .slice oA2 a.2.2.1.1.length oc2, .slice oA3 a.2.2.1.2.length oc3, .slice oA4 a.2.2.2.1.1.length oc4, .slice oA5 a.2.2.2.1.2.length oc5, .slice oA6 a.2.2.2.2.length oc6].toArray) 71))) (bel_trans hB hBx) hgr2 (by have := hBx.size; omega) (fun b hb => by have := (hOwn b hb).1; omega)
              have z2 := hgr2.size
              have o2c := O2.cell 3
              have o2f := O2.frozen 3
              have GF := hfin.put (p := ⟨ob, 3, none⟩) (by show ob < wS.heap.size; omega) (.slice A9 n9 c9)
              have PF := P2.far (p := ⟨ob, 3, none⟩) (by show ¬ w.heap.size = ob; omega) (.slice A9 n9 c9)
              have RF := R2.far (p := ⟨ob, 3, none⟩) (by show ¬ w.heap.size + 1 = ob; omega) (.slice A9 n9 c9)
              have OF : Box (w2.setCell ⟨ob, 3, none⟩ (.slice A9 n9 c9)) ob 35 #[.int .i64 p.1, .int .i64 p.2.1, .int .i64 p.2.2.1, .slice A9 n9 c9, .slice none 0 0, .slice none 0 0, .slice AG (p.2.2.2.2.2.2).length cG] := O2.put 3 (.slice A9 n9 c9)
              have prGF := Ty.far3 (own_past (w := (w1.alloc (.cells ([.int .i64 a.1, .int .i64 a.2.1, .slice oA2 a.2.2.1.1.length oc2, .slice oA3 a.2.2.1.2.length oc3, .slice oA4 a.2.2.2.1.1.length oc4, .slice oA5 a.2.2.2.1.2.length oc5, .slice oA6 a.2.2.2.2.length oc6].toArray) 71))) (Ty.below (t := tGlance.row) prG hBx) hgr2 (fun b hb hx => by have h1 := (hOwn b hb).1; have h2 := prGl b hx; omega)) (p := ⟨ob, 3, none⟩) prGo (.slice A9 n9 c9)
              have BF : Below w.heap.size w (w2.setCell ⟨ob, 3, none⟩ (.slice A9 n9 c9)) := bel_put hBf (by show w.heap.size ≤ ob; omega) _
              have e20 : w2.cell? ⟨b', off + j * 7, none⟩ = some (.int .i64 a.1) := cell_at hBf hb (hes 0 (by omega))
              have e21 : w2.cell? ⟨b', off + j * 7 + 1, none⟩ = some (.int .i64 a.2.1) := cell_at hBf hb (hes 1 (by omega))
              have e22 : w2.cell? ⟨b', off + j * 7 + 2, none⟩ = some (.slice aA2 an2 ac2) := cell_at hBf hb (hes 2 (by omega))
              have e23 : w2.cell? ⟨b', off + j * 7 + 3, none⟩ = some (.slice aA3 an3 ac3) := cell_at hBf hb (hes 3 (by omega))
              have e24 : w2.cell? ⟨b', off + j * 7 + 4, none⟩ = some (.slice aA4 an4 ac4) := cell_at hBf hb (hes 4 (by omega))
              have e25 : w2.cell? ⟨b', off + j * 7 + 5, none⟩ = some (.slice aA5 an5 ac5) := cell_at hBf hb (hes 5 (by omega))
              have e26 : w2.cell? ⟨b', off + j * 7 + 6, none⟩ = some (.slice aA6 an6 ac6) := cell_at hBf hb (hes 6 (by omega))
              have eF0 : (w2.setCell ⟨ob, 3, none⟩ (.slice A9 n9 c9)).cell? ⟨b', off + j * 7, none⟩ = some (.int .i64 a.1) := cell_at BF hb (hes 0 (by omega))
              have eF1 : (w2.setCell ⟨ob, 3, none⟩ (.slice A9 n9 c9)).cell? ⟨b', off + j * 7 + 1, none⟩ = some (.int .i64 a.2.1) := cell_at BF hb (hes 1 (by omega))
              have eF2 : (w2.setCell ⟨ob, 3, none⟩ (.slice A9 n9 c9)).cell? ⟨b', off + j * 7 + 2, none⟩ = some (.slice aA2 an2 ac2) := cell_at BF hb (hes 2 (by omega))
              have eF3 : (w2.setCell ⟨ob, 3, none⟩ (.slice A9 n9 c9)).cell? ⟨b', off + j * 7 + 3, none⟩ = some (.slice aA3 an3 ac3) := cell_at BF hb (hes 3 (by omega))
              have eF4 : (w2.setCell ⟨ob, 3, none⟩ (.slice A9 n9 c9)).cell? ⟨b', off + j * 7 + 4, none⟩ = some (.slice aA4 an4 ac4) := cell_at BF hb (hes 4 (by omega))
              have eF5 : (w2.setCell ⟨ob, 3, none⟩ (.slice A9 n9 c9)).cell? ⟨b', off + j * 7 + 5, none⟩ = some (.slice aA5 an5 ac5) := cell_at BF hb (hes 5 (by omega))
              have eF6 : (w2.setCell ⟨ob, 3, none⟩ (.slice A9 n9 c9)).cell? ⟨b', off + j * 7 + 6, none⟩ = some (.slice aA6 an6 ac6) := cell_at BF hb (hes 6 (by omega))
              refine hK.out _ _ (by exact ⟨(P2.cell 3), e20, e21, e22, e23, e24, e25, e26⟩) (fun hHeld => ?_)
              clear hK K
              (try simp only [Act.put, qa_, qb_, qc_])
              refine wpAnyH_take (i := 10) (oi := ⟨some 36, _, _, _, _, _⟩) (v := ?v71) rfl (by kernel_rfl) (by kernel_rfl) (by kernel_rfl) (fun _ _ _ h => h) (Or.inl ⟨by rfl, ?hy71⟩) (by assumption) ?_
              case hy71 => (intro w hSw; (try dsimp only at hSw); go_simp; try (with_reducible rfl))
              (try simp only [Act.put, qa_, qb_, qc_])
              refine wpAnyH_ready (rs := [11]) (by kernel_rfl) (by simp) ?_
              refine AllReadyH.cons rfl (fun K hK => ?_) ?_
              · go_simp
                refine hK.out _ _ (by exact ⟨(PF.cell 3), eF0, eF1, eF2, eF3, eF4, eF5, eF6⟩) (fun hHeld => ?_)
                clear hK K
                (try simp only [Act.put, qa_, qb_, qc_])
                refine wpAnyH_done (by kernel_rfl) ?_ _
                go_wp2
                go_roundw
                case rel => exact ⟨j + 1, _, _, by omega, by go_num, by rw [HT.out]; exact GF, PF, RF, OF, prGF, BF, by have h := z2; simp [World.setCell] at h ⊢; omega⟩
                case measure => simp [intOf]; omega
              exact AllReadyH.nil
            exact AllReadyH.nil
          exact AllReadyH.nil
        exact AllReadyH.nil
      exact AllReadyH.nil
    · obtain rfl : n3 = j := by omega
      have HA := Lib.hid (show (p.2.2.2.1).take n3 = p.2.2.2.1 from List.take_of_length_le (Nat.le_of_eq HL3.out))
      rw [HA.out] at hG
      obtain ⟨D3, g3, F3, rfl, hO3, hN3⟩ := hG.done
      generalize wr = wT at *
      have PS := P0
      have RS := R0
      have OS := O0
      have hS := hB
      clear P0 R0 O0 hB
      have prN := hO3
      have prNl := tNode.row.lt prN
      have prNo : ob ∉ F3 := fun hx => by have := hN3.2 _ hx; omega
      have zwT := zB
      have zS : wT.heap.size ≤ wT.heap.size := Nat.le_refl _
      clear hO3
      have k4 : wT.cell? ⟨w.heap.size, 4, none⟩ = some (.slice A4 n4 c4) := PS.cell 4
      go_wp2_with fail
      go_loopw [5] (fun i wr => ∃ (j : Nat) (F : List Nat) (v : Value), j ≤ n4 ∧ i = .int .i64 j ∧ GrowO tMail 75 wr wT.heap.size v ((p.2.2.2.2.1).take j) F ∧ Box wr w.heap.size 35 #[.int .i64 p.1, .int .i64 p.2.1, .int .i64 p.2.2.1, .slice A3 n3 c3, .slice A4 n4 c4, .slice A5 n5 c5, .slice A6 n6 c6] ∧ Box wr (w.heap.size + 1) 35 #[.int .i64 0, .int .i64 0, .int .i64 0, .slice none 0 0, .slice none 0 0, .slice none 0 0, .slice none 0 0] ∧ Box wr ob 35 #[.int .i64 p.1, .int .i64 p.2.1, .int .i64 p.2.2.1, .slice D3 (p.2.2.2.1).length g3, v, .slice none 0 0, .slice AG (p.2.2.2.2.2.2).length cG] ∧ (tGlance.row).O wr [.slice AG (p.2.2.2.2.2.2).length cG] (p.2.2.2.2.2.2) FG ∧ (tNode.row).O wr [.slice D3 (p.2.2.2.1).length g3] (p.2.2.2.1) F3 ∧ Below w.heap.size w wr ∧ wT.heap.size ≤ wr.heap.size) (fun i _ => n4 - (intOf i).toNat)
      case atStart => exact ⟨0, [], .slice none 0 0, by omega, rfl, GrowO.nil, PS, RS, OS, prG, prN, hS, zS⟩
      case round =>
        obtain ⟨j, F, v, hj, rfl, hG, P0, R0, O0, prG, prN, hB, zB⟩ := hrel
        clear k4 PS RS OS hS
        have k4 : wr.cell? ⟨w.heap.size, 4, none⟩ = some (.slice A4 n4 c4) := P0.cell 4
        by_cases hlt : j < n4
        · obtain ⟨a, b', off, es, hl2, rfl, hb, hes, hR⟩ := rowR_at (K := 2) r4 hlt rfl
          have HT := Lib.hid (take_sn hl2)
          have HLN := Lib.hid (show ((p.2.2.2.2.1).take j).length = j from by rw [List.length_take, HL4.out]; omega)
          have hsa : szMail a ≤ 1048576 := HSZ4.out j a hl2
          clear hl2
          have hRk := hR
          obtain ⟨aA1, an1, ac1, rfl, ai0, -, -, -, ar1⟩ := openMail hR
          have e0 : wr.cell? ⟨b', off + j * 2, none⟩ = some (.int .i64 a.1) := cell_at hB hb (hes 0 (by omega))
          have e1 : wr.cell? ⟨b', off + j * 2 + 1, none⟩ = some (.slice aA1 an1 ac1) := cell_at hB hb (hes 1 (by omega))
          have hOwn := fun b hb => (GrowO.row hG).choose_spec.1.lt b hb
          have hlt2 := hG.lt
          clear hR
          have hIr : Ints .u8 wr wr.heap.size aA1 an1 a.2 := reach (slR_ints ar1).1 hB
          have hn2 : an1 ≤ 1048576 := by rw [← hIr.1]; unfold szMail at hsa; (try unfold szCell at hsa); exact hsa
          have PE := P0.alloc (.cells #[] 5)
          have OE := O0.alloc (.cells #[] 5)
          have oEc := OE.cell 4
          have eE0 : (wr.alloc (.cells #[] 5)).cell? ⟨b', off + j * 2, none⟩ = some (.int .i64 a.1) := cell_at (bel_alloc hB _) hb (hes 0 (by omega))
          have eE1 : (wr.alloc (.cells #[] 5)).cell? ⟨b', off + j * 2 + 1, none⟩ = some (.slice aA1 an1 ac1) := cell_at (bel_alloc hB _) hb (hes 1 (by omega))
          have o0c : wr.cell? ⟨ob, 4, none⟩ = some v := O0.cell 4
          go_wp2_with fail
          refine wp_region_held_drew (S := (fun w' => w'.cell? ⟨w.heap.size, 4, none⟩ = some (.slice (some ⟨b', off, none⟩) n4 c4) ∧ w'.cell? ⟨b', off + j * 2, none⟩ = some (.int .i64 a.1) ∧ w'.cell? ⟨b', off + j * 2 + 1, none⟩ = some (.slice aA1 an1 ac1))) (by kernel_rfl) (by exact ⟨k4, e0, e1⟩) (fun hHeld => ?_)
          refine wpAnyH_take (i := 0) (oi := ⟨some 44, _, _, _, _, _⟩) (v := ?v72) rfl (by kernel_rfl) (by kernel_rfl) (by kernel_rfl) (fun _ _ _ h => h) (Or.inl ⟨by rfl, ?hy72⟩) (by assumption) ?_
          case hy72 => (intro w hSw; (try dsimp only at hSw); go_simp; try (with_reducible rfl))
          (try simp only [Act.put, qa_, qb_, qc_])
          refine wpAnyH_take (i := 2) (oi := ⟨some 46, _, _, _, _, _⟩) (v := ?v73) rfl (by kernel_rfl) (by kernel_rfl) (by kernel_rfl) (fun _ _ _ h => h) (Or.inl ⟨by rfl, ?hy73⟩) (by assumption) ?_
          case hy73 => (intro w hSw; (try dsimp only at hSw); go_simp; try (with_reducible rfl))
          (try simp only [Act.put, qa_, qb_, qc_])
          refine wpAnyH_take (i := 3) (oi := ⟨some 47, _, _, _, _, _⟩) (v := ?v74) rfl (by kernel_rfl) (by kernel_rfl) (by kernel_rfl) (fun _ _ _ h => h) (Or.inl ⟨by rfl, ?hy74⟩) (by assumption) ?_
          case hy74 => (intro w hSw; (try dsimp only at hSw); go_simp; try (with_reducible rfl))
          (try simp only [Act.put, qa_, qb_, qc_])
          refine wpAnyH_take (i := 4) (oi := ⟨some 48, _, _, _, _, _⟩) (v := ?v75) rfl (by kernel_rfl) (by kernel_rfl) (by kernel_rfl) (fun _ _ _ h => h) (Or.inl ⟨by rfl, ?hy75⟩) (by assumption) ?_
          case hy75 => (intro w hSw; (try dsimp only at hSw); go_simp; try (with_reducible rfl))
          (try simp only [Act.put, qa_, qb_, qc_])
          refine wpAnyH_take (i := 5) (oi := ⟨some 49, _, _, _, _, _⟩) (v := ?v76) rfl (by kernel_rfl) (by kernel_rfl) (by kernel_rfl) (fun _ _ _ h => h) (Or.inl ⟨by rfl, ?hy76⟩) (by assumption) ?_
          case hy76 => (intro w hSw; (try dsimp only at hSw); go_simp; try (with_reducible rfl))
          (try simp only [Act.put, qa_, qb_, qc_])
          refine wpAnyH_take (i := 6) (oi := ⟨some 50, _, _, _, _, _⟩) (v := ?v77) rfl (by kernel_rfl) (by kernel_rfl) (by kernel_rfl) (fun _ _ _ h => h) (Or.inl ⟨by rfl, ?hy77⟩) (by assumption) ?_
          case hy77 => (intro w hSw; (try dsimp only at hSw); go_simp; try (with_reducible rfl))
          (try simp only [Act.put, qa_, qb_, qc_])
          refine wpAnyH_take (i := 7) (oi := ⟨some 51, _, _, _, _, _⟩) (v := ?v78) rfl (by kernel_rfl) (by kernel_rfl) (by kernel_rfl) (fun _ _ _ h => h) (Or.inl ⟨by rfl, ?hy78⟩) (by assumption) ?_
          case hy78 => (intro w hSw; (try dsimp only at hSw); go_simp; try (with_reducible rfl))
          (try simp only [Act.put, qa_, qb_, qc_])
          refine wpAnyH_take (i := 9) (oi := ⟨some 53, _, _, _, _, _⟩) (v := ?v79) rfl (by kernel_rfl) (by kernel_rfl) (by kernel_rfl) (fun _ _ _ h => h) (Or.inl ⟨by rfl, ?hy79⟩) (by assumption) ?_
          case hy79 => (intro w hSw; (try dsimp only at hSw); go_simp; try (with_reducible rfl))
          (try simp only [Act.put, qa_, qb_, qc_])
          refine wpAnyH_take (i := 10) (oi := ⟨some 54, _, _, _, _, _⟩) (v := ?v80) rfl (by kernel_rfl) (by kernel_rfl) (by kernel_rfl) (fun _ _ _ h => h) (Or.inl ⟨by rfl, ?hy80⟩) (by assumption) ?_
          case hy80 => (intro w hSw; (try dsimp only at hSw); go_simp; try (with_reducible rfl))
          (try simp only [Act.put, qa_, qb_, qc_])
          refine wpAnyH_take (i := 11) (oi := ⟨some 55, _, _, _, _, _⟩) (v := ?v81) rfl (by kernel_rfl) (by kernel_rfl) (by kernel_rfl) (fun _ _ _ h => h) (Or.inl ⟨by rfl, ?hy81⟩) (by assumption) ?_
          case hy81 => (intro w hSw; (try dsimp only at hSw); go_simp; try (with_reducible rfl))
          (try simp only [Act.put, qa_, qb_, qc_])
          refine wpAnyH_take (i := 12) (oi := ⟨some 56, _, _, _, _, _⟩) (v := ?v82) rfl (by kernel_rfl) (by kernel_rfl) (by kernel_rfl) (fun _ _ _ h => h) (Or.inl ⟨by rfl, ?hy82⟩) (by assumption) ?_
          case hy82 => (intro w hSw; (try dsimp only at hSw); go_simp; try (with_reducible rfl))
          (try simp only [Act.put, qa_, qb_, qc_])
          refine wpAnyH_take (i := 13) (oi := ⟨some 57, _, _, _, _, _⟩) (v := ?v83) rfl (by kernel_rfl) (by kernel_rfl) (by kernel_rfl) (fun _ _ _ h => h) (Or.inl ⟨by rfl, ?hy83⟩) (by assumption) ?_
          case hy83 => (intro w hSw; (try dsimp only at hSw); go_simp; try (with_reducible rfl))
          (try simp only [Act.put, qa_, qb_, qc_])
          refine wpAnyH_take (i := 14) (oi := ⟨some 58, _, _, _, _, _⟩) (v := ?v84) rfl (by kernel_rfl) (by kernel_rfl) (by kernel_rfl) (fun _ _ _ h => h) (Or.inl ⟨by rfl, ?hy84⟩) (by assumption) ?_
          case hy84 => (intro w hSw; (try dsimp only at hSw); go_simp; try (with_reducible rfl))
          (try simp only [Act.put, qa_, qb_, qc_])
          refine wpAnyH_take (i := 15) (oi := ⟨some 59, _, _, _, _, _⟩) (v := ?v85) rfl (by kernel_rfl) (by kernel_rfl) (by kernel_rfl) (fun _ _ _ h => h) (Or.inl ⟨by rfl, ?hy85⟩) (by assumption) ?_
          case hy85 => (intro w hSw; (try dsimp only at hSw); go_simp; try (with_reducible rfl))
          (try simp only [Act.put, qa_, qb_, qc_])
          refine wpAnyH_ready (rs := [1, 8]) (by kernel_rfl) (by simp) ?_
          refine AllReadyH.cons rfl (fun K hK => ?_) ?_
          · go_simp
            refine hK.out _ _ (by exact ⟨k4, e0, e1⟩) (fun hHeld => ?_)
            clear hK K
            (try simp only [Act.put, qa_, qb_, qc_])
            refine wpAnyH_ready (rs := [8]) (by kernel_rfl) (by simp) ?_
            refine AllReadyH.cons rfl (fun K hK => ?_) ?_
            · go_simp
              refine hK.out _ _ (by exact ⟨(PE.cell 4), eE0, eE1⟩) (fun hHeld => ?_)
              clear hK K
              (try simp only [Act.put, qa_, qb_, qc_])
              refine wpAnyH_ready (rs := [16]) (by kernel_rfl) (by simp) ?_
              refine AllReadyH.cons rfl (fun K hK => ?_) ?_
              · have hX1 : Below wr.heap.size wr ((wr.alloc (.cells #[] 5)).drew) := (belx)
                have hE : Own .u8 5 ((wr.alloc (.cells #[] 5)).drew) wr.heap.size (.slice (some ⟨wr.heap.size, 0, none⟩) 0 0) [] := Own.drew (Own.empty (Nat.le_refl _))
                refine Own.stepRow (by rfl) (.tmp 52) (.tmp 59) _ (by rfl) ib _ 1 Tryz.underlying50 hi0 hz0 hz1 hz2 rfl (by rfl) hE (by rfl) (reach hIr hX1) (by first | omega | (simp; done) | (simp; omega) | (show _ ≤ (World.alloc _ _).heap.size; simp) | (show _ ≤ (World.alloc _ _).heap.size; simp; omega)) (by simp only [maxLen, List.length_nil]; omega) (by simp only [List.length_nil]; omega) ?_
                intro v1 w1 hO1 hgr hat
                obtain ⟨Ad, cd, Fd, rfl, hOd, hNd⟩ := own_slice (show Own .u8 5 w1 wr.heap.size v1 a.2 from by simpa using hO1)
                have hs1 : Below wr.heap.size wr w1 := Below.grown (w := (wr.alloc (.cells #[] 5)).drew) hX1 hgr (by first | omega | (simp; done) | (simp; omega) | (show _ ≤ (World.alloc _ _).heap.size; simp) | (show _ ≤ (World.alloc _ _).heap.size; simp; omega)) (fun b hb => by have e := Option.some.inj (show some wr.heap.size = some b from hb); omega)
                have hOk : tMail.O w1 [.int .i64 a.1, .slice Ad a.2.length cd] a Fd := by obtain ⟨Fx, hX, ex⟩ := makeOMail (p := a) ai0 hOd; rw [ex] at hX; exact hX
                clear hO1
                have P1 := Box.grown (w := (wr.alloc (.cells #[] 5)).drew) (Box.drew (P0.alloc _)) hgr (fun e => by have e := Option.some.inj (show some w.heap.size = some wr.heap.size from e); have := P0.size; have := O0.size; have := R0.size; omega)
                have R1 := Box.grown (w := (wr.alloc (.cells #[] 5)).drew) (Box.drew (R0.alloc _)) hgr (fun e => by have e := Option.some.inj (show some (w.heap.size + 1) = some wr.heap.size from e); have := P0.size; have := O0.size; have := R0.size; omega)
                have O1 := Box.grown (w := (wr.alloc (.cells #[] 5)).drew) (Box.drew (O0.alloc _)) hgr (fun e => by have e := Option.some.inj (show some ob = some wr.heap.size from e); have := P0.size; have := O0.size; have := R0.size; omega)
                have e10 : w1.cell? ⟨b', off + j * 2, none⟩ = some (.int .i64 a.1) := cell_at (bel_trans hB hs1) hb (hes 0 (by omega))
                have e11 : w1.cell? ⟨b', off + j * 2 + 1, none⟩ = some (.slice aA1 an1 ac1) := cell_at (bel_trans hB hs1) hb (hes 1 (by omega))
                have o1c := O1.cell 4
                have PA := P1.alloc (.cells ([.int .i64 a.1, .slice Ad a.2.length cd].toArray) 75)
                have OA := O1.alloc (.cells ([.int .i64 a.1, .slice Ad a.2.length cd].toArray) 75)
                have oAc := OA.cell 4
                have zw1 := hs1.size
                have eA0 : (w1.alloc (.cells ([.int .i64 a.1, .slice Ad a.2.length cd].toArray) 75)).cell? ⟨b', off + j * 2, none⟩ = some (.int .i64 a.1) := cell_at (bel_alloc (bel_trans hB hs1) _) hb (hes 0 (by omega))
                have eA1 : (w1.alloc (.cells ([.int .i64 a.1, .slice Ad a.2.length cd].toArray) 75)).cell? ⟨b', off + j * 2 + 1, none⟩ = some (.slice aA1 an1 ac1) := cell_at (bel_alloc (bel_trans hB hs1) _) hb (hes 1 (by omega))
                refine hK.out _ _ (by exact ⟨(P1.cell 4), e10, e11⟩) (fun hHeld => ?_)
                clear hK K
                (try simp only [Act.put, qa_, qb_, qc_])
                refine wpAnyH_take (i := 17) (oi := ⟨some 61, _, _, _, _, _⟩) (v := ?v86) rfl (by kernel_rfl) (by kernel_rfl) (by kernel_rfl) (fun _ _ _ h => h) (Or.inl ⟨by rfl, ?hy86⟩) (by assumption) ?_
                case hy86 => (intro w hSw; (try dsimp only at hSw); go_simp; try (with_reducible rfl))
                (try simp only [Act.put, qa_, qb_, qc_])
                refine wpAnyH_take (i := 18) (oi := ⟨some 62, _, _, _, _, _⟩) (v := ?v87) rfl (by kernel_rfl) (by kernel_rfl) (by kernel_rfl) (fun _ _ _ h => h) (Or.inl ⟨by rfl, ?hy87⟩) (by assumption) ?_
                case hy87 => (intro w hSw; (try dsimp only at hSw); go_simp; try (with_reducible rfl))
                (try simp only [Act.put, qa_, qb_, qc_])
                refine wpAnyH_ready (rs := [19]) (by kernel_rfl) (by simp) ?_
                refine AllReadyH.cons rfl (fun K hK => ?_) ?_
                · go_simp
                  refine hK.out _ _ (by exact ⟨(PA.cell 4), eA0, eA1⟩) (fun hHeld => ?_)
                  clear hK K
                  (try simp only [Act.put, qa_, qb_, qc_])
                  refine wpAnyH_ready (rs := [20]) (by kernel_rfl) (by simp) ?_
                  refine AllReadyH.cons rfl (fun K hK => ?_) ?_
                  · have hBx : Below wr.heap.size wr (w1.alloc (.cells ([.int .i64 a.1, .slice Ad a.2.length cd].toArray) 75)) := bel_alloc hs1 _
                    obtain ⟨xs, hrow, hpush⟩ := (hG.below hBx).row
                    have hS2 : Src (w1.alloc (.cells ([.int .i64 a.1, .slice Ad a.2.length cd].toArray) 75)) 2 (some ⟨w1.heap.size, 0, none⟩) 1 [.int .i64 a.1, .slice Ad a.2.length cd] := Src.of_box w1 75 [.int .i64 a.1, .slice Ad a.2.length cd] (K := 2) rfl
                    have tz : (Value.agg #[Value.int .i64 0, Value.slice none 0 0]).cells.size = 2 := (by first | rfl | (simp [Value.cells]; done))
                    have t0 : ∀ u ∈ ([.int .i64 a.1, .slice Ad a.2.length cd] : List Value), u.oneCell' = true := (by intro u hu; simp only [List.mem_cons, List.not_mem_nil, or_false] at hu; rcases hu with rfl | rfl <;> rfl)
                    have t1 : ((p.2.2.2.2.1).take j).length + 1 ≤ maxLen := (by simp only [maxLen]; have := HLN.out; omega)
                    have t2 : (((p.2.2.2.2.1).take j).length + 1) * 32 ≤ 140737488355328 := (by have := HLN.out; omega)
                    have t3 := hBx.size
                    refine step_app5 _ (by rfl) (.tmp 45) (.tmp 63) _ (by rfl) wT.heap.size 75 i4i _ 2 32 Tryz.underlying31 hj04 hj14 hj24 hj34 tz (by omega) v _ xs (by rfl) hrow _ 1 1 [.int .i64 a.1, .slice Ad a.2.length cd] (by rfl) hS2 t0 t1 t2 (by omega) ?_
                    intro v2 w2 hown2 hgr2 hat2
                    have hOel : tMail.O (w1.alloc (.cells ([.int .i64 a.1, .slice Ad a.2.length cd].toArray) 75)) [.int .i64 a.1, .slice Ad a.2.length cd] a Fd := Ty.below (t := tMail) hOk (belx)
                    have hNel : New wT.heap.size Fd := hNd.lower (by omega)
                    have hdis : ∀ f ∈ Fd, f ∉ F := (fun f h1 h2 => by have := hNd.2 _ h1; have := hlt2 f h2; omega)
                    have hod : ∀ b, v.ownBlock = some b → b ∉ Fd := (fun b hb hx => by have := (hOwn b hb).2; have := hNd.2 _ hx; omega)
                    have hfin := hpush w2 v2 a _ Fd hOel hNel hdis hod hown2 hgr2 hat2
                    obtain ⟨A9, n9, c9, rfl, -⟩ := hfin.shapeN
                    have P2 := Box.grown (w := (w1.alloc (.cells ([.int .i64 a.1, .slice Ad a.2.length cd].toArray) 75))) (P1.alloc _) hgr2 (fun e => by have := (hOwn w.heap.size e.symm).1; omega)
                    have R2 := Box.grown (w := (w1.alloc (.cells ([.int .i64 a.1, .slice Ad a.2.length cd].toArray) 75))) (R1.alloc _) hgr2 (fun e => by have := (hOwn (w.heap.size + 1) e.symm).1; omega)
                    have O2 := Box.grown (w := (w1.alloc (.cells ([.int .i64 a.1, .slice Ad a.2.length cd].toArray) 75))) (O1.alloc _) hgr2 (fun e => by have := (hOwn ob e.symm).1; omega)
                    have hBf : Below w.heap.size w w2 := Below.grown (w := (w1.alloc (.cells ([.int .i64 a.1, .slice Ad a.2.length cd].toArray) 75))) (bel_trans hB hBx) hgr2 (by have := hBx.size; omega) (fun b hb => by have := (hOwn b hb).1; omega)
                    have z2 := hgr2.size
                    have o2c := O2.cell 4
                    have o2f := O2.frozen 4
                    have GF := hfin.put (p := ⟨ob, 4, none⟩) (by show ob < wT.heap.size; omega) (.slice A9 n9 c9)
                    have PF := P2.far (p := ⟨ob, 4, none⟩) (by show ¬ w.heap.size = ob; omega) (.slice A9 n9 c9)
                    have RF := R2.far (p := ⟨ob, 4, none⟩) (by show ¬ w.heap.size + 1 = ob; omega) (.slice A9 n9 c9)
                    have OF : Box (w2.setCell ⟨ob, 4, none⟩ (.slice A9 n9 c9)) ob 35 #[.int .i64 p.1, .int .i64 p.2.1, .int .i64 p.2.2.1, .slice D3 (p.2.2.2.1).length g3, .slice A9 n9 c9, .slice none 0 0, .slice AG (p.2.2.2.2.2.2).length cG] := O2.put 4 (.slice A9 n9 c9)
                    have prGF := Ty.far3 (own_past (w := (w1.alloc (.cells ([.int .i64 a.1, .slice Ad a.2.length cd].toArray) 75))) (Ty.below (t := tGlance.row) prG hBx) hgr2 (fun b hb hx => by have h1 := (hOwn b hb).1; have h2 := prGl b hx; omega)) (p := ⟨ob, 4, none⟩) prGo (.slice A9 n9 c9)
                    have prNF := Ty.far3 (own_past (w := (w1.alloc (.cells ([.int .i64 a.1, .slice Ad a.2.length cd].toArray) 75))) (Ty.below (t := tNode.row) prN hBx) hgr2 (fun b hb hx => by have h1 := (hOwn b hb).1; have h2 := prNl b hx; omega)) (p := ⟨ob, 4, none⟩) prNo (.slice A9 n9 c9)
                    have BF : Below w.heap.size w (w2.setCell ⟨ob, 4, none⟩ (.slice A9 n9 c9)) := bel_put hBf (by show w.heap.size ≤ ob; omega) _
                    have e20 : w2.cell? ⟨b', off + j * 2, none⟩ = some (.int .i64 a.1) := cell_at hBf hb (hes 0 (by omega))
                    have e21 : w2.cell? ⟨b', off + j * 2 + 1, none⟩ = some (.slice aA1 an1 ac1) := cell_at hBf hb (hes 1 (by omega))
                    have eF0 : (w2.setCell ⟨ob, 4, none⟩ (.slice A9 n9 c9)).cell? ⟨b', off + j * 2, none⟩ = some (.int .i64 a.1) := cell_at BF hb (hes 0 (by omega))
                    have eF1 : (w2.setCell ⟨ob, 4, none⟩ (.slice A9 n9 c9)).cell? ⟨b', off + j * 2 + 1, none⟩ = some (.slice aA1 an1 ac1) := cell_at BF hb (hes 1 (by omega))
                    refine hK.out _ _ (by exact ⟨(P2.cell 4), e20, e21⟩) (fun hHeld => ?_)
                    clear hK K
                    (try simp only [Act.put, qa_, qb_, qc_])
                    refine wpAnyH_take (i := 21) (oi := ⟨some 65, _, _, _, _, _⟩) (v := ?v88) rfl (by kernel_rfl) (by kernel_rfl) (by kernel_rfl) (fun _ _ _ h => h) (Or.inl ⟨by rfl, ?hy88⟩) (by assumption) ?_
                    case hy88 => (intro w hSw; (try dsimp only at hSw); go_simp; try (with_reducible rfl))
                    (try simp only [Act.put, qa_, qb_, qc_])
                    refine wpAnyH_ready (rs := [22]) (by kernel_rfl) (by simp) ?_
                    refine AllReadyH.cons rfl (fun K hK => ?_) ?_
                    · go_simp
                      refine hK.out _ _ (by exact ⟨(PF.cell 4), eF0, eF1⟩) (fun hHeld => ?_)
                      clear hK K
                      (try simp only [Act.put, qa_, qb_, qc_])
                      refine wpAnyH_done (by kernel_rfl) ?_ _
                      go_wp2
                      go_roundw
                      case rel => exact ⟨j + 1, _, _, by omega, by go_num, by rw [HT.out]; exact GF, PF, RF, OF, prGF, prNF, BF, by have h := z2; simp [World.setCell] at h ⊢; omega⟩
                      case measure => simp [intOf]; omega
                    exact AllReadyH.nil
                  exact AllReadyH.nil
                exact AllReadyH.nil
              exact AllReadyH.nil
            exact AllReadyH.nil
          refine AllReadyH.cons rfl (fun K hK => ?_) ?_
          · go_simp
            refine hK.out _ _ (by exact ⟨(PE.cell 4), eE0, eE1⟩) (fun hHeld => ?_)
            clear hK K
            (try simp only [Act.put, qa_, qb_, qc_])
            refine wpAnyH_ready (rs := [1, 16]) (by kernel_rfl) (by simp) ?_
            refine AllReadyH.cons rfl (fun K hK => ?_) ?_
            · go_simp
              refine hK.out _ _ (by exact ⟨(PE.cell 4), eE0, eE1⟩) (fun hHeld => ?_)
              clear hK K
              (try simp only [Act.put, qa_, qb_, qc_])
              refine wpAnyH_ready (rs := [16]) (by kernel_rfl) (by simp) ?_
              refine AllReadyH.cons rfl (fun K hK => ?_) ?_
              · have hX1 : Below wr.heap.size wr ((wr.alloc (.cells #[] 5)).drew) := (belx)
                have hE : Own .u8 5 ((wr.alloc (.cells #[] 5)).drew) wr.heap.size (.slice (some ⟨wr.heap.size, 0, none⟩) 0 0) [] := Own.drew (Own.empty (Nat.le_refl _))
                refine Own.stepRow (by rfl) (.tmp 52) (.tmp 59) _ (by rfl) ib _ 1 Tryz.underlying50 hi0 hz0 hz1 hz2 rfl (by rfl) hE (by rfl) (reach hIr hX1) (by first | omega | (simp; done) | (simp; omega) | (show _ ≤ (World.alloc _ _).heap.size; simp) | (show _ ≤ (World.alloc _ _).heap.size; simp; omega)) (by simp only [maxLen, List.length_nil]; omega) (by simp only [List.length_nil]; omega) ?_
                intro v1 w1 hO1 hgr hat
                obtain ⟨Ad, cd, Fd, rfl, hOd, hNd⟩ := own_slice (show Own .u8 5 w1 wr.heap.size v1 a.2 from by simpa using hO1)
                have hs1 : Below wr.heap.size wr w1 := Below.grown (w := (wr.alloc (.cells #[] 5)).drew) hX1 hgr (by first | omega | (simp; done) | (simp; omega) | (show _ ≤ (World.alloc _ _).heap.size; simp) | (show _ ≤ (World.alloc _ _).heap.size; simp; omega)) (fun b hb => by have e := Option.some.inj (show some wr.heap.size = some b from hb); omega)
                have hOk : tMail.O w1 [.int .i64 a.1, .slice Ad a.2.length cd] a Fd := by obtain ⟨Fx, hX, ex⟩ := makeOMail (p := a) ai0 hOd; rw [ex] at hX; exact hX
                clear hO1
                have P1 := Box.grown (w := (wr.alloc (.cells #[] 5)).drew) (Box.drew (P0.alloc _)) hgr (fun e => by have e := Option.some.inj (show some w.heap.size = some wr.heap.size from e); have := P0.size; have := O0.size; have := R0.size; omega)
                have R1 := Box.grown (w := (wr.alloc (.cells #[] 5)).drew) (Box.drew (R0.alloc _)) hgr (fun e => by have e := Option.some.inj (show some (w.heap.size + 1) = some wr.heap.size from e); have := P0.size; have := O0.size; have := R0.size; omega)
                have O1 := Box.grown (w := (wr.alloc (.cells #[] 5)).drew) (Box.drew (O0.alloc _)) hgr (fun e => by have e := Option.some.inj (show some ob = some wr.heap.size from e); have := P0.size; have := O0.size; have := R0.size; omega)
                have e10 : w1.cell? ⟨b', off + j * 2, none⟩ = some (.int .i64 a.1) := cell_at (bel_trans hB hs1) hb (hes 0 (by omega))
                have e11 : w1.cell? ⟨b', off + j * 2 + 1, none⟩ = some (.slice aA1 an1 ac1) := cell_at (bel_trans hB hs1) hb (hes 1 (by omega))
                have o1c := O1.cell 4
                have PA := P1.alloc (.cells ([.int .i64 a.1, .slice Ad a.2.length cd].toArray) 75)
                have OA := O1.alloc (.cells ([.int .i64 a.1, .slice Ad a.2.length cd].toArray) 75)
                have oAc := OA.cell 4
                have zw1 := hs1.size
                have eA0 : (w1.alloc (.cells ([.int .i64 a.1, .slice Ad a.2.length cd].toArray) 75)).cell? ⟨b', off + j * 2, none⟩ = some (.int .i64 a.1) := cell_at (bel_alloc (bel_trans hB hs1) _) hb (hes 0 (by omega))
                have eA1 : (w1.alloc (.cells ([.int .i64 a.1, .slice Ad a.2.length cd].toArray) 75)).cell? ⟨b', off + j * 2 + 1, none⟩ = some (.slice aA1 an1 ac1) := cell_at (bel_alloc (bel_trans hB hs1) _) hb (hes 1 (by omega))
                refine hK.out _ _ (by exact ⟨(P1.cell 4), e10, e11⟩) (fun hHeld => ?_)
                clear hK K
                (try simp only [Act.put, qa_, qb_, qc_])
                refine wpAnyH_take (i := 17) (oi := ⟨some 61, _, _, _, _, _⟩) (v := ?v89) rfl (by kernel_rfl) (by kernel_rfl) (by kernel_rfl) (fun _ _ _ h => h) (Or.inl ⟨by rfl, ?hy89⟩) (by assumption) ?_
                case hy89 => (intro w hSw; (try dsimp only at hSw); go_simp; try (with_reducible rfl))
                (try simp only [Act.put, qa_, qb_, qc_])
                refine wpAnyH_take (i := 18) (oi := ⟨some 62, _, _, _, _, _⟩) (v := ?v90) rfl (by kernel_rfl) (by kernel_rfl) (by kernel_rfl) (fun _ _ _ h => h) (Or.inl ⟨by rfl, ?hy90⟩) (by assumption) ?_
                case hy90 => (intro w hSw; (try dsimp only at hSw); go_simp; try (with_reducible rfl))
                (try simp only [Act.put, qa_, qb_, qc_])
                refine wpAnyH_ready (rs := [19]) (by kernel_rfl) (by simp) ?_
                refine AllReadyH.cons rfl (fun K hK => ?_) ?_
                · go_simp
                  refine hK.out _ _ (by exact ⟨(PA.cell 4), eA0, eA1⟩) (fun hHeld => ?_)
                  clear hK K
                  (try simp only [Act.put, qa_, qb_, qc_])
                  refine wpAnyH_ready (rs := [20]) (by kernel_rfl) (by simp) ?_
                  refine AllReadyH.cons rfl (fun K hK => ?_) ?_
                  · have hBx : Below wr.heap.size wr (w1.alloc (.cells ([.int .i64 a.1, .slice Ad a.2.length cd].toArray) 75)) := bel_alloc hs1 _
                    obtain ⟨xs, hrow, hpush⟩ := (hG.below hBx).row
                    have hS2 : Src (w1.alloc (.cells ([.int .i64 a.1, .slice Ad a.2.length cd].toArray) 75)) 2 (some ⟨w1.heap.size, 0, none⟩) 1 [.int .i64 a.1, .slice Ad a.2.length cd] := Src.of_box w1 75 [.int .i64 a.1, .slice Ad a.2.length cd] (K := 2) rfl
                    have tz : (Value.agg #[Value.int .i64 0, Value.slice none 0 0]).cells.size = 2 := (by first | rfl | (simp [Value.cells]; done))
                    have t0 : ∀ u ∈ ([.int .i64 a.1, .slice Ad a.2.length cd] : List Value), u.oneCell' = true := (by intro u hu; simp only [List.mem_cons, List.not_mem_nil, or_false] at hu; rcases hu with rfl | rfl <;> rfl)
                    have t1 : ((p.2.2.2.2.1).take j).length + 1 ≤ maxLen := (by simp only [maxLen]; have := HLN.out; omega)
                    have t2 : (((p.2.2.2.2.1).take j).length + 1) * 32 ≤ 140737488355328 := (by have := HLN.out; omega)
                    have t3 := hBx.size
                    refine step_app5 _ (by rfl) (.tmp 45) (.tmp 63) _ (by rfl) wT.heap.size 75 i4i _ 2 32 Tryz.underlying31 hj04 hj14 hj24 hj34 tz (by omega) v _ xs (by rfl) hrow _ 1 1 [.int .i64 a.1, .slice Ad a.2.length cd] (by rfl) hS2 t0 t1 t2 (by omega) ?_
                    intro v2 w2 hown2 hgr2 hat2
                    have hOel : tMail.O (w1.alloc (.cells ([.int .i64 a.1, .slice Ad a.2.length cd].toArray) 75)) [.int .i64 a.1, .slice Ad a.2.length cd] a Fd := Ty.below (t := tMail) hOk (belx)
                    have hNel : New wT.heap.size Fd := hNd.lower (by omega)
                    have hdis : ∀ f ∈ Fd, f ∉ F := (fun f h1 h2 => by have := hNd.2 _ h1; have := hlt2 f h2; omega)
                    have hod : ∀ b, v.ownBlock = some b → b ∉ Fd := (fun b hb hx => by have := (hOwn b hb).2; have := hNd.2 _ hx; omega)
                    have hfin := hpush w2 v2 a _ Fd hOel hNel hdis hod hown2 hgr2 hat2
                    obtain ⟨A9, n9, c9, rfl, -⟩ := hfin.shapeN
                    have P2 := Box.grown (w := (w1.alloc (.cells ([.int .i64 a.1, .slice Ad a.2.length cd].toArray) 75))) (P1.alloc _) hgr2 (fun e => by have := (hOwn w.heap.size e.symm).1; omega)
                    have R2 := Box.grown (w := (w1.alloc (.cells ([.int .i64 a.1, .slice Ad a.2.length cd].toArray) 75))) (R1.alloc _) hgr2 (fun e => by have := (hOwn (w.heap.size + 1) e.symm).1; omega)
                    have O2 := Box.grown (w := (w1.alloc (.cells ([.int .i64 a.1, .slice Ad a.2.length cd].toArray) 75))) (O1.alloc _) hgr2 (fun e => by have := (hOwn ob e.symm).1; omega)
                    have hBf : Below w.heap.size w w2 := Below.grown (w := (w1.alloc (.cells ([.int .i64 a.1, .slice Ad a.2.length cd].toArray) 75))) (bel_trans hB hBx) hgr2 (by have := hBx.size; omega) (fun b hb => by have := (hOwn b hb).1; omega)
                    have z2 := hgr2.size
                    have o2c := O2.cell 4
                    have o2f := O2.frozen 4
                    have GF := hfin.put (p := ⟨ob, 4, none⟩) (by show ob < wT.heap.size; omega) (.slice A9 n9 c9)
                    have PF := P2.far (p := ⟨ob, 4, none⟩) (by show ¬ w.heap.size = ob; omega) (.slice A9 n9 c9)
                    have RF := R2.far (p := ⟨ob, 4, none⟩) (by show ¬ w.heap.size + 1 = ob; omega) (.slice A9 n9 c9)
                    have OF : Box (w2.setCell ⟨ob, 4, none⟩ (.slice A9 n9 c9)) ob 35 #[.int .i64 p.1, .int .i64 p.2.1, .int .i64 p.2.2.1, .slice D3 (p.2.2.2.1).length g3, .slice A9 n9 c9, .slice none 0 0, .slice AG (p.2.2.2.2.2.2).length cG] := O2.put 4 (.slice A9 n9 c9)
                    have prGF := Ty.far3 (own_past (w := (w1.alloc (.cells ([.int .i64 a.1, .slice Ad a.2.length cd].toArray) 75))) (Ty.below (t := tGlance.row) prG hBx) hgr2 (fun b hb hx => by have h1 := (hOwn b hb).1; have h2 := prGl b hx; omega)) (p := ⟨ob, 4, none⟩) prGo (.slice A9 n9 c9)
                    have prNF := Ty.far3 (own_past (w := (w1.alloc (.cells ([.int .i64 a.1, .slice Ad a.2.length cd].toArray) 75))) (Ty.below (t := tNode.row) prN hBx) hgr2 (fun b hb hx => by have h1 := (hOwn b hb).1; have h2 := prNl b hx; omega)) (p := ⟨ob, 4, none⟩) prNo (.slice A9 n9 c9)
                    have BF : Below w.heap.size w (w2.setCell ⟨ob, 4, none⟩ (.slice A9 n9 c9)) := bel_put hBf (by show w.heap.size ≤ ob; omega) _
                    have e20 : w2.cell? ⟨b', off + j * 2, none⟩ = some (.int .i64 a.1) := cell_at hBf hb (hes 0 (by omega))
                    have e21 : w2.cell? ⟨b', off + j * 2 + 1, none⟩ = some (.slice aA1 an1 ac1) := cell_at hBf hb (hes 1 (by omega))
                    have eF0 : (w2.setCell ⟨ob, 4, none⟩ (.slice A9 n9 c9)).cell? ⟨b', off + j * 2, none⟩ = some (.int .i64 a.1) := cell_at BF hb (hes 0 (by omega))
                    have eF1 : (w2.setCell ⟨ob, 4, none⟩ (.slice A9 n9 c9)).cell? ⟨b', off + j * 2 + 1, none⟩ = some (.slice aA1 an1 ac1) := cell_at BF hb (hes 1 (by omega))
                    refine hK.out _ _ (by exact ⟨(P2.cell 4), e20, e21⟩) (fun hHeld => ?_)
                    clear hK K
                    (try simp only [Act.put, qa_, qb_, qc_])
                    refine wpAnyH_take (i := 21) (oi := ⟨some 65, _, _, _, _, _⟩) (v := ?v91) rfl (by kernel_rfl) (by kernel_rfl) (by kernel_rfl) (fun _ _ _ h => h) (Or.inl ⟨by rfl, ?hy91⟩) (by assumption) ?_
                    case hy91 => (intro w hSw; (try dsimp only at hSw); go_simp; try (with_reducible rfl))
                    (try simp only [Act.put, qa_, qb_, qc_])
                    refine wpAnyH_ready (rs := [22]) (by kernel_rfl) (by simp) ?_
                    refine AllReadyH.cons rfl (fun K hK => ?_) ?_
                    · go_simp
                      refine hK.out _ _ (by exact ⟨(PF.cell 4), eF0, eF1⟩) (fun hHeld => ?_)
                      clear hK K
                      (try simp only [Act.put, qa_, qb_, qc_])
                      refine wpAnyH_done (by kernel_rfl) ?_ _
                      go_wp2
                      go_roundw
                      case rel => exact ⟨j + 1, _, _, by omega, by go_num, by rw [HT.out]; exact GF, PF, RF, OF, prGF, prNF, BF, by have h := z2; simp [World.setCell] at h ⊢; omega⟩
                      case measure => simp [intOf]; omega
                    exact AllReadyH.nil
                  exact AllReadyH.nil
                exact AllReadyH.nil
              exact AllReadyH.nil
            refine AllReadyH.cons rfl (fun K hK => ?_) ?_
            · have hX1 : Below wr.heap.size wr ((wr.alloc (.cells #[] 5)).drew) := (belx)
              have hE : Own .u8 5 ((wr.alloc (.cells #[] 5)).drew) wr.heap.size (.slice (some ⟨wr.heap.size, 0, none⟩) 0 0) [] := Own.drew (Own.empty (Nat.le_refl _))
              refine Own.stepRow (by rfl) (.tmp 52) (.tmp 59) _ (by rfl) ib _ 1 Tryz.underlying50 hi0 hz0 hz1 hz2 rfl (by rfl) hE (by rfl) (reach hIr hX1) (by first | omega | (simp; done) | (simp; omega) | (show _ ≤ (World.alloc _ _).heap.size; simp) | (show _ ≤ (World.alloc _ _).heap.size; simp; omega)) (by simp only [maxLen, List.length_nil]; omega) (by simp only [List.length_nil]; omega) ?_
              intro v1 w1 hO1 hgr hat
              obtain ⟨Ad, cd, Fd, rfl, hOd, hNd⟩ := own_slice (show Own .u8 5 w1 wr.heap.size v1 a.2 from by simpa using hO1)
              have hs1 : Below wr.heap.size wr w1 := Below.grown (w := (wr.alloc (.cells #[] 5)).drew) hX1 hgr (by first | omega | (simp; done) | (simp; omega) | (show _ ≤ (World.alloc _ _).heap.size; simp) | (show _ ≤ (World.alloc _ _).heap.size; simp; omega)) (fun b hb => by have e := Option.some.inj (show some wr.heap.size = some b from hb); omega)
              have hOk : tMail.O w1 [.int .i64 a.1, .slice Ad a.2.length cd] a Fd := by obtain ⟨Fx, hX, ex⟩ := makeOMail (p := a) ai0 hOd; rw [ex] at hX; exact hX
              clear hO1
              have P1 := Box.grown (w := (wr.alloc (.cells #[] 5)).drew) (Box.drew (P0.alloc _)) hgr (fun e => by have e := Option.some.inj (show some w.heap.size = some wr.heap.size from e); have := P0.size; have := O0.size; have := R0.size; omega)
              have R1 := Box.grown (w := (wr.alloc (.cells #[] 5)).drew) (Box.drew (R0.alloc _)) hgr (fun e => by have e := Option.some.inj (show some (w.heap.size + 1) = some wr.heap.size from e); have := P0.size; have := O0.size; have := R0.size; omega)
              have O1 := Box.grown (w := (wr.alloc (.cells #[] 5)).drew) (Box.drew (O0.alloc _)) hgr (fun e => by have e := Option.some.inj (show some ob = some wr.heap.size from e); have := P0.size; have := O0.size; have := R0.size; omega)
              have e10 : w1.cell? ⟨b', off + j * 2, none⟩ = some (.int .i64 a.1) := cell_at (bel_trans hB hs1) hb (hes 0 (by omega))
              have e11 : w1.cell? ⟨b', off + j * 2 + 1, none⟩ = some (.slice aA1 an1 ac1) := cell_at (bel_trans hB hs1) hb (hes 1 (by omega))
              have o1c := O1.cell 4
              have PA := P1.alloc (.cells ([.int .i64 a.1, .slice Ad a.2.length cd].toArray) 75)
              have OA := O1.alloc (.cells ([.int .i64 a.1, .slice Ad a.2.length cd].toArray) 75)
              have oAc := OA.cell 4
              have zw1 := hs1.size
              have eA0 : (w1.alloc (.cells ([.int .i64 a.1, .slice Ad a.2.length cd].toArray) 75)).cell? ⟨b', off + j * 2, none⟩ = some (.int .i64 a.1) := cell_at (bel_alloc (bel_trans hB hs1) _) hb (hes 0 (by omega))
              have eA1 : (w1.alloc (.cells ([.int .i64 a.1, .slice Ad a.2.length cd].toArray) 75)).cell? ⟨b', off + j * 2 + 1, none⟩ = some (.slice aA1 an1 ac1) := cell_at (bel_alloc (bel_trans hB hs1) _) hb (hes 1 (by omega))
              refine hK.out _ _ (by exact ⟨(P1.cell 4), e10, e11⟩) (fun hHeld => ?_)
              clear hK K
              (try simp only [Act.put, qa_, qb_, qc_])
              refine wpAnyH_take (i := 17) (oi := ⟨some 61, _, _, _, _, _⟩) (v := ?v92) rfl (by kernel_rfl) (by kernel_rfl) (by kernel_rfl) (fun _ _ _ h => h) (Or.inl ⟨by rfl, ?hy92⟩) (by assumption) ?_
              case hy92 => (intro w hSw; (try dsimp only at hSw); go_simp; try (with_reducible rfl))
              (try simp only [Act.put, qa_, qb_, qc_])
              refine wpAnyH_take (i := 18) (oi := ⟨some 62, _, _, _, _, _⟩) (v := ?v93) rfl (by kernel_rfl) (by kernel_rfl) (by kernel_rfl) (fun _ _ _ h => h) (Or.inl ⟨by rfl, ?hy93⟩) (by assumption) ?_
              case hy93 => (intro w hSw; (try dsimp only at hSw); go_simp; try (with_reducible rfl))
              (try simp only [Act.put, qa_, qb_, qc_])
              refine wpAnyH_ready (rs := [1, 19]) (by kernel_rfl) (by simp) ?_
              refine AllReadyH.cons rfl (fun K hK => ?_) ?_
              · go_simp
                refine hK.out _ _ (by exact ⟨(P1.cell 4), e10, e11⟩) (fun hHeld => ?_)
                clear hK K
                (try simp only [Act.put, qa_, qb_, qc_])
                refine wpAnyH_ready (rs := [19]) (by kernel_rfl) (by simp) ?_
                refine AllReadyH.cons rfl (fun K hK => ?_) ?_
                · go_simp
                  refine hK.out _ _ (by exact ⟨(PA.cell 4), eA0, eA1⟩) (fun hHeld => ?_)
                  clear hK K
                  (try simp only [Act.put, qa_, qb_, qc_])
                  refine wpAnyH_ready (rs := [20]) (by kernel_rfl) (by simp) ?_
                  refine AllReadyH.cons rfl (fun K hK => ?_) ?_
                  · have hBx : Below wr.heap.size wr (w1.alloc (.cells ([.int .i64 a.1, .slice Ad a.2.length cd].toArray) 75)) := bel_alloc hs1 _
                    obtain ⟨xs, hrow, hpush⟩ := (hG.below hBx).row
                    have hS2 : Src (w1.alloc (.cells ([.int .i64 a.1, .slice Ad a.2.length cd].toArray) 75)) 2 (some ⟨w1.heap.size, 0, none⟩) 1 [.int .i64 a.1, .slice Ad a.2.length cd] := Src.of_box w1 75 [.int .i64 a.1, .slice Ad a.2.length cd] (K := 2) rfl
                    have tz : (Value.agg #[Value.int .i64 0, Value.slice none 0 0]).cells.size = 2 := (by first | rfl | (simp [Value.cells]; done))
                    have t0 : ∀ u ∈ ([.int .i64 a.1, .slice Ad a.2.length cd] : List Value), u.oneCell' = true := (by intro u hu; simp only [List.mem_cons, List.not_mem_nil, or_false] at hu; rcases hu with rfl | rfl <;> rfl)
                    have t1 : ((p.2.2.2.2.1).take j).length + 1 ≤ maxLen := (by simp only [maxLen]; have := HLN.out; omega)
                    have t2 : (((p.2.2.2.2.1).take j).length + 1) * 32 ≤ 140737488355328 := (by have := HLN.out; omega)
                    have t3 := hBx.size
                    refine step_app5 _ (by rfl) (.tmp 45) (.tmp 63) _ (by rfl) wT.heap.size 75 i4i _ 2 32 Tryz.underlying31 hj04 hj14 hj24 hj34 tz (by omega) v _ xs (by rfl) hrow _ 1 1 [.int .i64 a.1, .slice Ad a.2.length cd] (by rfl) hS2 t0 t1 t2 (by omega) ?_
                    intro v2 w2 hown2 hgr2 hat2
                    have hOel : tMail.O (w1.alloc (.cells ([.int .i64 a.1, .slice Ad a.2.length cd].toArray) 75)) [.int .i64 a.1, .slice Ad a.2.length cd] a Fd := Ty.below (t := tMail) hOk (belx)
                    have hNel : New wT.heap.size Fd := hNd.lower (by omega)
                    have hdis : ∀ f ∈ Fd, f ∉ F := (fun f h1 h2 => by have := hNd.2 _ h1; have := hlt2 f h2; omega)
                    have hod : ∀ b, v.ownBlock = some b → b ∉ Fd := (fun b hb hx => by have := (hOwn b hb).2; have := hNd.2 _ hx; omega)
                    have hfin := hpush w2 v2 a _ Fd hOel hNel hdis hod hown2 hgr2 hat2
                    obtain ⟨A9, n9, c9, rfl, -⟩ := hfin.shapeN
                    have P2 := Box.grown (w := (w1.alloc (.cells ([.int .i64 a.1, .slice Ad a.2.length cd].toArray) 75))) (P1.alloc _) hgr2 (fun e => by have := (hOwn w.heap.size e.symm).1; omega)
                    have R2 := Box.grown (w := (w1.alloc (.cells ([.int .i64 a.1, .slice Ad a.2.length cd].toArray) 75))) (R1.alloc _) hgr2 (fun e => by have := (hOwn (w.heap.size + 1) e.symm).1; omega)
                    have O2 := Box.grown (w := (w1.alloc (.cells ([.int .i64 a.1, .slice Ad a.2.length cd].toArray) 75))) (O1.alloc _) hgr2 (fun e => by have := (hOwn ob e.symm).1; omega)
                    have hBf : Below w.heap.size w w2 := Below.grown (w := (w1.alloc (.cells ([.int .i64 a.1, .slice Ad a.2.length cd].toArray) 75))) (bel_trans hB hBx) hgr2 (by have := hBx.size; omega) (fun b hb => by have := (hOwn b hb).1; omega)
                    have z2 := hgr2.size
                    have o2c := O2.cell 4
                    have o2f := O2.frozen 4
                    have GF := hfin.put (p := ⟨ob, 4, none⟩) (by show ob < wT.heap.size; omega) (.slice A9 n9 c9)
                    have PF := P2.far (p := ⟨ob, 4, none⟩) (by show ¬ w.heap.size = ob; omega) (.slice A9 n9 c9)
                    have RF := R2.far (p := ⟨ob, 4, none⟩) (by show ¬ w.heap.size + 1 = ob; omega) (.slice A9 n9 c9)
                    have OF : Box (w2.setCell ⟨ob, 4, none⟩ (.slice A9 n9 c9)) ob 35 #[.int .i64 p.1, .int .i64 p.2.1, .int .i64 p.2.2.1, .slice D3 (p.2.2.2.1).length g3, .slice A9 n9 c9, .slice none 0 0, .slice AG (p.2.2.2.2.2.2).length cG] := O2.put 4 (.slice A9 n9 c9)
                    have prGF := Ty.far3 (own_past (w := (w1.alloc (.cells ([.int .i64 a.1, .slice Ad a.2.length cd].toArray) 75))) (Ty.below (t := tGlance.row) prG hBx) hgr2 (fun b hb hx => by have h1 := (hOwn b hb).1; have h2 := prGl b hx; omega)) (p := ⟨ob, 4, none⟩) prGo (.slice A9 n9 c9)
                    have prNF := Ty.far3 (own_past (w := (w1.alloc (.cells ([.int .i64 a.1, .slice Ad a.2.length cd].toArray) 75))) (Ty.below (t := tNode.row) prN hBx) hgr2 (fun b hb hx => by have h1 := (hOwn b hb).1; have h2 := prNl b hx; omega)) (p := ⟨ob, 4, none⟩) prNo (.slice A9 n9 c9)
                    have BF : Below w.heap.size w (w2.setCell ⟨ob, 4, none⟩ (.slice A9 n9 c9)) := bel_put hBf (by show w.heap.size ≤ ob; omega) _
                    have e20 : w2.cell? ⟨b', off + j * 2, none⟩ = some (.int .i64 a.1) := cell_at hBf hb (hes 0 (by omega))
                    have e21 : w2.cell? ⟨b', off + j * 2 + 1, none⟩ = some (.slice aA1 an1 ac1) := cell_at hBf hb (hes 1 (by omega))
                    have eF0 : (w2.setCell ⟨ob, 4, none⟩ (.slice A9 n9 c9)).cell? ⟨b', off + j * 2, none⟩ = some (.int .i64 a.1) := cell_at BF hb (hes 0 (by omega))
                    have eF1 : (w2.setCell ⟨ob, 4, none⟩ (.slice A9 n9 c9)).cell? ⟨b', off + j * 2 + 1, none⟩ = some (.slice aA1 an1 ac1) := cell_at BF hb (hes 1 (by omega))
                    refine hK.out _ _ (by exact ⟨(P2.cell 4), e20, e21⟩) (fun hHeld => ?_)
                    clear hK K
                    (try simp only [Act.put, qa_, qb_, qc_])
                    refine wpAnyH_take (i := 21) (oi := ⟨some 65, _, _, _, _, _⟩) (v := ?v94) rfl (by kernel_rfl) (by kernel_rfl) (by kernel_rfl) (fun _ _ _ h => h) (Or.inl ⟨by rfl, ?hy94⟩) (by assumption) ?_
                    case hy94 => (intro w hSw; (try dsimp only at hSw); go_simp; try (with_reducible rfl))
                    (try simp only [Act.put, qa_, qb_, qc_])
                    refine wpAnyH_ready (rs := [22]) (by kernel_rfl) (by simp) ?_
                    refine AllReadyH.cons rfl (fun K hK => ?_) ?_
                    · go_simp
                      refine hK.out _ _ (by exact ⟨(PF.cell 4), eF0, eF1⟩) (fun hHeld => ?_)
                      clear hK K
                      (try simp only [Act.put, qa_, qb_, qc_])
                      refine wpAnyH_done (by kernel_rfl) ?_ _
                      go_wp2
                      go_roundw
                      case rel => exact ⟨j + 1, _, _, by omega, by go_num, by rw [HT.out]; exact GF, PF, RF, OF, prGF, prNF, BF, by have h := z2; simp [World.setCell] at h ⊢; omega⟩
                      case measure => simp [intOf]; omega
                    exact AllReadyH.nil
                  exact AllReadyH.nil
                exact AllReadyH.nil
              refine AllReadyH.cons rfl (fun K hK => ?_) ?_
              · go_simp
                refine hK.out _ _ (by exact ⟨(PA.cell 4), eA0, eA1⟩) (fun hHeld => ?_)
                clear hK K
                (try simp only [Act.put, qa_, qb_, qc_])
                refine wpAnyH_ready (rs := [1]) (by kernel_rfl) (by simp) ?_
                refine AllReadyH.cons rfl (fun K hK => ?_) ?_
                · go_simp
                  refine hK.out _ _ (by exact ⟨(PA.cell 4), eA0, eA1⟩) (fun hHeld => ?_)
                  clear hK K
                  (try simp only [Act.put, qa_, qb_, qc_])
                  refine wpAnyH_ready (rs := [20]) (by kernel_rfl) (by simp) ?_
                  refine AllReadyH.cons rfl (fun K hK => ?_) ?_
                  · have hBx : Below wr.heap.size wr (w1.alloc (.cells ([.int .i64 a.1, .slice Ad a.2.length cd].toArray) 75)) := bel_alloc hs1 _
                    obtain ⟨xs, hrow, hpush⟩ := (hG.below hBx).row
                    have hS2 : Src (w1.alloc (.cells ([.int .i64 a.1, .slice Ad a.2.length cd].toArray) 75)) 2 (some ⟨w1.heap.size, 0, none⟩) 1 [.int .i64 a.1, .slice Ad a.2.length cd] := Src.of_box w1 75 [.int .i64 a.1, .slice Ad a.2.length cd] (K := 2) rfl
                    have tz : (Value.agg #[Value.int .i64 0, Value.slice none 0 0]).cells.size = 2 := (by first | rfl | (simp [Value.cells]; done))
                    have t0 : ∀ u ∈ ([.int .i64 a.1, .slice Ad a.2.length cd] : List Value), u.oneCell' = true := (by intro u hu; simp only [List.mem_cons, List.not_mem_nil, or_false] at hu; rcases hu with rfl | rfl <;> rfl)
                    have t1 : ((p.2.2.2.2.1).take j).length + 1 ≤ maxLen := (by simp only [maxLen]; have := HLN.out; omega)
                    have t2 : (((p.2.2.2.2.1).take j).length + 1) * 32 ≤ 140737488355328 := (by have := HLN.out; omega)
                    have t3 := hBx.size
                    refine step_app5 _ (by rfl) (.tmp 45) (.tmp 63) _ (by rfl) wT.heap.size 75 i4i _ 2 32 Tryz.underlying31 hj04 hj14 hj24 hj34 tz (by omega) v _ xs (by rfl) hrow _ 1 1 [.int .i64 a.1, .slice Ad a.2.length cd] (by rfl) hS2 t0 t1 t2 (by omega) ?_
                    intro v2 w2 hown2 hgr2 hat2
                    have hOel : tMail.O (w1.alloc (.cells ([.int .i64 a.1, .slice Ad a.2.length cd].toArray) 75)) [.int .i64 a.1, .slice Ad a.2.length cd] a Fd := Ty.below (t := tMail) hOk (belx)
                    have hNel : New wT.heap.size Fd := hNd.lower (by omega)
                    have hdis : ∀ f ∈ Fd, f ∉ F := (fun f h1 h2 => by have := hNd.2 _ h1; have := hlt2 f h2; omega)
                    have hod : ∀ b, v.ownBlock = some b → b ∉ Fd := (fun b hb hx => by have := (hOwn b hb).2; have := hNd.2 _ hx; omega)
                    have hfin := hpush w2 v2 a _ Fd hOel hNel hdis hod hown2 hgr2 hat2
                    obtain ⟨A9, n9, c9, rfl, -⟩ := hfin.shapeN
                    have P2 := Box.grown (w := (w1.alloc (.cells ([.int .i64 a.1, .slice Ad a.2.length cd].toArray) 75))) (P1.alloc _) hgr2 (fun e => by have := (hOwn w.heap.size e.symm).1; omega)
                    have R2 := Box.grown (w := (w1.alloc (.cells ([.int .i64 a.1, .slice Ad a.2.length cd].toArray) 75))) (R1.alloc _) hgr2 (fun e => by have := (hOwn (w.heap.size + 1) e.symm).1; omega)
                    have O2 := Box.grown (w := (w1.alloc (.cells ([.int .i64 a.1, .slice Ad a.2.length cd].toArray) 75))) (O1.alloc _) hgr2 (fun e => by have := (hOwn ob e.symm).1; omega)
                    have hBf : Below w.heap.size w w2 := Below.grown (w := (w1.alloc (.cells ([.int .i64 a.1, .slice Ad a.2.length cd].toArray) 75))) (bel_trans hB hBx) hgr2 (by have := hBx.size; omega) (fun b hb => by have := (hOwn b hb).1; omega)
                    have z2 := hgr2.size
                    have o2c := O2.cell 4
                    have o2f := O2.frozen 4
                    have GF := hfin.put (p := ⟨ob, 4, none⟩) (by show ob < wT.heap.size; omega) (.slice A9 n9 c9)
                    have PF := P2.far (p := ⟨ob, 4, none⟩) (by show ¬ w.heap.size = ob; omega) (.slice A9 n9 c9)
                    have RF := R2.far (p := ⟨ob, 4, none⟩) (by show ¬ w.heap.size + 1 = ob; omega) (.slice A9 n9 c9)
                    have OF : Box (w2.setCell ⟨ob, 4, none⟩ (.slice A9 n9 c9)) ob 35 #[.int .i64 p.1, .int .i64 p.2.1, .int .i64 p.2.2.1, .slice D3 (p.2.2.2.1).length g3, .slice A9 n9 c9, .slice none 0 0, .slice AG (p.2.2.2.2.2.2).length cG] := O2.put 4 (.slice A9 n9 c9)
                    have prGF := Ty.far3 (own_past (w := (w1.alloc (.cells ([.int .i64 a.1, .slice Ad a.2.length cd].toArray) 75))) (Ty.below (t := tGlance.row) prG hBx) hgr2 (fun b hb hx => by have h1 := (hOwn b hb).1; have h2 := prGl b hx; omega)) (p := ⟨ob, 4, none⟩) prGo (.slice A9 n9 c9)
                    have prNF := Ty.far3 (own_past (w := (w1.alloc (.cells ([.int .i64 a.1, .slice Ad a.2.length cd].toArray) 75))) (Ty.below (t := tNode.row) prN hBx) hgr2 (fun b hb hx => by have h1 := (hOwn b hb).1; have h2 := prNl b hx; omega)) (p := ⟨ob, 4, none⟩) prNo (.slice A9 n9 c9)
                    have BF : Below w.heap.size w (w2.setCell ⟨ob, 4, none⟩ (.slice A9 n9 c9)) := bel_put hBf (by show w.heap.size ≤ ob; omega) _
                    have e20 : w2.cell? ⟨b', off + j * 2, none⟩ = some (.int .i64 a.1) := cell_at hBf hb (hes 0 (by omega))
                    have e21 : w2.cell? ⟨b', off + j * 2 + 1, none⟩ = some (.slice aA1 an1 ac1) := cell_at hBf hb (hes 1 (by omega))
                    have eF0 : (w2.setCell ⟨ob, 4, none⟩ (.slice A9 n9 c9)).cell? ⟨b', off + j * 2, none⟩ = some (.int .i64 a.1) := cell_at BF hb (hes 0 (by omega))
                    have eF1 : (w2.setCell ⟨ob, 4, none⟩ (.slice A9 n9 c9)).cell? ⟨b', off + j * 2 + 1, none⟩ = some (.slice aA1 an1 ac1) := cell_at BF hb (hes 1 (by omega))
                    refine hK.out _ _ (by exact ⟨(P2.cell 4), e20, e21⟩) (fun hHeld => ?_)
                    clear hK K
                    (try simp only [Act.put, qa_, qb_, qc_])
                    refine wpAnyH_take (i := 21) (oi := ⟨some 65, _, _, _, _, _⟩) (v := ?v95) rfl (by kernel_rfl) (by kernel_rfl) (by kernel_rfl) (fun _ _ _ h => h) (Or.inl ⟨by rfl, ?hy95⟩) (by assumption) ?_
                    case hy95 => (intro w hSw; (try dsimp only at hSw); go_simp; try (with_reducible rfl))
                    (try simp only [Act.put, qa_, qb_, qc_])
                    refine wpAnyH_ready (rs := [22]) (by kernel_rfl) (by simp) ?_
                    refine AllReadyH.cons rfl (fun K hK => ?_) ?_
                    · go_simp
                      refine hK.out _ _ (by exact ⟨(PF.cell 4), eF0, eF1⟩) (fun hHeld => ?_)
                      clear hK K
                      (try simp only [Act.put, qa_, qb_, qc_])
                      refine wpAnyH_done (by kernel_rfl) ?_ _
                      go_wp2
                      go_roundw
                      case rel => exact ⟨j + 1, _, _, by omega, by go_num, by rw [HT.out]; exact GF, PF, RF, OF, prGF, prNF, BF, by have h := z2; simp [World.setCell] at h ⊢; omega⟩
                      case measure => simp [intOf]; omega
                    exact AllReadyH.nil
                  exact AllReadyH.nil
                exact AllReadyH.nil
              exact AllReadyH.nil
            exact AllReadyH.nil
          exact AllReadyH.nil
        · obtain rfl : n4 = j := by omega
          have HA := Lib.hid (show (p.2.2.2.2.1).take n4 = p.2.2.2.2.1 from List.take_of_length_le (Nat.le_of_eq HL4.out))
          rw [HA.out] at hG
          obtain ⟨D4, g4, F4, rfl, hO4, hN4⟩ := hG.done
          generalize wr = wU at *
          have PS := P0
          have RS := R0
          have OS := O0
          have hS := hB
          clear P0 R0 O0 hB
          have prM := hO4
          have prMl := tMail.row.lt prM
          have prMo : ob ∉ F4 := fun hx => by have := hN4.2 _ hx; omega
          have zwU := zB
          have zS : wU.heap.size ≤ wU.heap.size := Nat.le_refl _
          clear hO4
          have k5 : wU.cell? ⟨w.heap.size, 5, none⟩ = some (.slice A5 n5 c5) := PS.cell 5
          go_wp2_with fail
          go_loopw [6] (fun i wr => ∃ (j : Nat) (F : List Nat) (v : Value), j ≤ n5 ∧ i = .int .i64 j ∧ GrowO tSent 78 wr wU.heap.size v ((p.2.2.2.2.2.1).take j) F ∧ Box wr w.heap.size 35 #[.int .i64 p.1, .int .i64 p.2.1, .int .i64 p.2.2.1, .slice A3 n3 c3, .slice A4 n4 c4, .slice A5 n5 c5, .slice A6 n6 c6] ∧ Box wr (w.heap.size + 1) 35 #[.int .i64 0, .int .i64 0, .int .i64 0, .slice none 0 0, .slice none 0 0, .slice none 0 0, .slice none 0 0] ∧ Box wr ob 35 #[.int .i64 p.1, .int .i64 p.2.1, .int .i64 p.2.2.1, .slice D3 (p.2.2.2.1).length g3, .slice D4 (p.2.2.2.2.1).length g4, v, .slice AG (p.2.2.2.2.2.2).length cG] ∧ (tGlance.row).O wr [.slice AG (p.2.2.2.2.2.2).length cG] (p.2.2.2.2.2.2) FG ∧ (tNode.row).O wr [.slice D3 (p.2.2.2.1).length g3] (p.2.2.2.1) F3 ∧ (tMail.row).O wr [.slice D4 (p.2.2.2.2.1).length g4] (p.2.2.2.2.1) F4 ∧ Below w.heap.size w wr ∧ wU.heap.size ≤ wr.heap.size) (fun i _ => n5 - (intOf i).toNat)
          case atStart => exact ⟨0, [], .slice none 0 0, by omega, rfl, GrowO.nil, PS, RS, OS, prG, prN, prM, hS, zS⟩
          case round =>
            obtain ⟨j, F, v, hj, rfl, hG, P0, R0, O0, prG, prN, prM, hB, zB⟩ := hrel
            clear k5 PS RS OS hS
            have k5 : wr.cell? ⟨w.heap.size, 5, none⟩ = some (.slice A5 n5 c5) := P0.cell 5
            by_cases hlt : j < n5
            · obtain ⟨a, b', off, es, hl2, rfl, hb, hes, hR⟩ := rowR_at (K := 3) r5 hlt rfl
              have HT := Lib.hid (take_sn hl2)
              have HLN := Lib.hid (show ((p.2.2.2.2.2.1).take j).length = j from by rw [List.length_take, HL5.out]; omega)
              have hsa : szSent a ≤ 1048576 := HSZ5.out j a hl2
              clear hl2
              have hRk := hR
              obtain ⟨aA2, an2, ac2, rfl, ai0, ai1, -, -, -, ar2⟩ := openSent hR
              have e0 : wr.cell? ⟨b', off + j * 3, none⟩ = some (.int .i64 a.1) := cell_at hB hb (hes 0 (by omega))
              have e1 : wr.cell? ⟨b', off + j * 3 + 1, none⟩ = some (.int .i64 a.2.1) := cell_at hB hb (hes 1 (by omega))
              have e2 : wr.cell? ⟨b', off + j * 3 + 2, none⟩ = some (.slice aA2 an2 ac2) := cell_at hB hb (hes 2 (by omega))
              clear hes hR
              have hOwn := fun b hb => (GrowO.row hG).choose_spec.1.lt b hb
              have hlt2 := hG.lt
              have hIr : Ints .u8 wr wr.heap.size aA2 an2 a.2.2 := reach (slR_ints ar2).1 hB
              have hE : ((wr.alloc (.cells #[.int .i64 a.1, .int .i64 a.2.1, .slice aA2 an2 ac2] 78)).alloc (.cells #[] 5)).ownsRow (wr.heap.size + 1) 5 1 (.slice (some ⟨wr.heap.size + 1, 0, none⟩) 0 0) 0 [] := by simpa using empty9 (wr.alloc (.cells #[.int .i64 a.1, .int .i64 a.2.1, .slice aA2 an2 ac2] 78)) 5
              have hSr : Src ((wr.alloc (.cells #[.int .i64 a.1, .int .i64 a.2.1, .slice aA2 an2 ac2] 78)).alloc (.cells #[] 5)) 1 aA2 an2 (a.2.2.map (Value.int .u8)) := Src.of_ints (reach hIr (belx))
              have hn2 : an2 ≤ 1048576 := by rw [← hIr.1]; unfold szSent at hsa; (try unfold szCell at hsa); exact hsa
              have HIW := Lib.hid hIr.2.2
              clear ar2
              go_wp2_with (first
                | (at_builtin; refine wpList_app _ rfl (.tmp 78) (.tmp 80) _ rfl (wr.heap.size + 1) 5 ib _ 1 1 Tryz.underlying50 hi0 hz0 hz1 hz2 rfl (by omega) (.slice (some ⟨wr.heap.size + 1, 0, none⟩) 0 0) 0 [] rfl hE _ an2 ac2 (a.2.2.map (Value.int .u8)) rfl hSr (one_ints _ _) (by simp only [maxLen]; omega) (by omega) (by simp; done) ?_; intro v1 w1 hown hgr hat; obtain ⟨Ad, cd, Fd, rfl, hOd, hNd⟩ := own_slice (Own.of (n := 0 + an2) (by simpa using hown) HIW.out); have hs1 : Below wr.heap.size wr w1 := Below.grown (w := ((wr.alloc (.cells #[.int .i64 a.1, .int .i64 a.2.1, .slice aA2 an2 ac2] 78)).alloc (.cells #[] 5))) (belx) hgr (by first | (simp; done) | (simp; omega)) (fun b hb => by have e := Option.some.inj (show some (wr.heap.size + 1) = some b from hb); omega); have X1 : Box w1 wr.heap.size 78 #[.int .i64 a.1, .int .i64 a.2.1, .slice aA2 an2 ac2] := Box.grown (w := ((wr.alloc (.cells #[.int .i64 a.1, .int .i64 a.2.1, .slice aA2 an2 ac2] 78)).alloc (.cells #[] 5))) ((Box.new wr 78 #[.int .i64 a.1, .int .i64 a.2.1, .slice aA2 an2 ac2]).alloc _) hgr (fun e => by have e := Option.some.inj (show some wr.heap.size = some (wr.heap.size + 1) from e); omega); have P1 := Box.grown (w := ((wr.alloc (.cells #[.int .i64 a.1, .int .i64 a.2.1, .slice aA2 an2 ac2] 78)).alloc (.cells #[] 5))) ((P0.alloc _).alloc _) hgr (fun e => by have e := Option.some.inj (show some w.heap.size = some (wr.heap.size + 1) from e); omega); have R1 := Box.grown (w := ((wr.alloc (.cells #[.int .i64 a.1, .int .i64 a.2.1, .slice aA2 an2 ac2] 78)).alloc (.cells #[] 5))) ((R0.alloc _).alloc _) hgr (fun e => by have e := Option.some.inj (show some (w.heap.size + 1) = some (wr.heap.size + 1) from e); omega); have O1 := Box.grown (w := ((wr.alloc (.cells #[.int .i64 a.1, .int .i64 a.2.1, .slice aA2 an2 ac2] 78)).alloc (.cells #[] 5))) ((O0.alloc _).alloc _) hgr (fun e => by have e := Option.some.inj (show some ob = some (wr.heap.size + 1) from e); omega); have x0 := X1.cell 0; have fx0 := X1.frozen 0; have x1 := X1.cell 1; have fx1 := X1.frozen 1; have x2 := X1.cell 2; have fx2 := X1.frozen 2; have Pb := P1.far (p := ⟨wr.heap.size, 2, none⟩) (by show ¬ w.heap.size = wr.heap.size; omega) (.slice Ad a.2.2.length cd); have Rb := R1.far (p := ⟨wr.heap.size, 2, none⟩) (by show ¬ (w.heap.size + 1) = wr.heap.size; omega) (.slice Ad a.2.2.length cd); have Ob := O1.far (p := ⟨wr.heap.size, 2, none⟩) (by show ¬ ob = wr.heap.size; omega) (.slice Ad a.2.2.length cd); have ob5 : (w1.setCell ⟨wr.heap.size, 2, none⟩ (.slice Ad a.2.2.length cd)).cell? ⟨ob, 5, none⟩ = some v := Ob.cell 5; have zw1 := hs1.size)
                | (at_builtin; have hBx : Below wr.heap.size wr ((w1.setCell ⟨wr.heap.size, 2, none⟩ (.slice Ad a.2.2.length cd)).alloc (.cells [.int .i64 a.1, .int .i64 a.2.1, .slice Ad a.2.2.length cd].toArray 78)) := bel_alloc (bel_put hs1 (Nat.le_refl _) _) _; obtain ⟨xs, hrow, hpush⟩ := (hG.below hBx).row; have hsz : (w1.setCell ⟨wr.heap.size, 2, none⟩ (.slice Ad a.2.2.length cd)).heap.size = w1.heap.size := (by simp [World.setCell]); have hS2 : Src ((w1.setCell ⟨wr.heap.size, 2, none⟩ (.slice Ad a.2.2.length cd)).alloc (.cells [.int .i64 a.1, .int .i64 a.2.1, .slice Ad a.2.2.length cd].toArray 78)) 3 (some ⟨w1.heap.size, 0, none⟩) 1 [.int .i64 a.1, .int .i64 a.2.1, .slice Ad a.2.2.length cd] := (by have h := Src.of_box (w1.setCell ⟨wr.heap.size, 2, none⟩ (.slice Ad a.2.2.length cd)) 78 [.int .i64 a.1, .int .i64 a.2.1, .slice Ad a.2.2.length cd] (K := 3) rfl; rw [hsz] at h; exact h); have tz : (Value.agg #[Value.int .i64 0, Value.int .i64 0, Value.slice none 0 0]).cells.size = 3 := (by first | rfl | (simp [Value.cells]; done)); have t0 : ∀ u ∈ ([.int .i64 a.1, .int .i64 a.2.1, .slice Ad a.2.2.length cd] : List Value), u.oneCell' = true := (by intro u hu; simp only [List.mem_cons, List.not_mem_nil, or_false] at hu; rcases hu with rfl | rfl | rfl <;> rfl); have t1 : ((p.2.2.2.2.2.1).take j).length + 1 ≤ maxLen := (by simp only [maxLen]; have := HLN.out; omega); have t2 : (((p.2.2.2.2.2.1).take j).length + 1) * 40 ≤ 140737488355328 := (by have := HLN.out; omega); have t3 := hBx.size; refine wpList_app _ rfl (.tmp 84) (.tmp 86) _ rfl wU.heap.size 78 i5i _ 3 40 Tryz.underlying32 hj05 hj15 hj25 hj35 tz (by omega) v _ xs rfl hrow _ 1 1 [.int .i64 a.1, .int .i64 a.2.1, .slice Ad a.2.2.length cd] rfl hS2 t0 t1 t2 (by omega) ?_; intro v2 w2 hown2 hgr2 hat2; have hOx : tBy.O ((w1.setCell ⟨wr.heap.size, 2, none⟩ (.slice Ad a.2.2.length cd)).alloc (.cells [.int .i64 a.1, .int .i64 a.2.1, .slice Ad a.2.2.length cd].toArray 78)) [.slice Ad a.2.2.length cd] a.2.2 Fd := Ty.below (t := tBy) (Ty.far3 (t := tBy) hOd (p := ⟨wr.heap.size, 2, none⟩) (fun hx => absurd (hNd.2 wr.heap.size hx) (by omega)) _) (belx); obtain ⟨Fx, hOel, ex⟩ := makeOSent (p := a) ai0 ai1 hOx; subst ex; have hNel : New wU.heap.size Fx := hNd.lower (by omega); have hdis : ∀ f ∈ Fx, f ∉ F := (fun f h1 h2 => by have := hNd.2 _ h1; have := hlt2 f h2; omega); have hod : ∀ b, v.ownBlock = some b → b ∉ Fx := (fun b hb hx => by have := (hOwn b hb).2; have := hNd.2 _ hx; omega); have hfin := hpush w2 v2 a _ Fx hOel hNel hdis hod hown2 hgr2 hat2; obtain ⟨A9, n9, c9, rfl, -⟩ := hfin.shapeN; have P2 := Box.grown (w := ((w1.setCell ⟨wr.heap.size, 2, none⟩ (.slice Ad a.2.2.length cd)).alloc (.cells [.int .i64 a.1, .int .i64 a.2.1, .slice Ad a.2.2.length cd].toArray 78))) (Pb.alloc _) hgr2 (fun e => by have := (hOwn w.heap.size e.symm).1; omega); have R2 := Box.grown (w := ((w1.setCell ⟨wr.heap.size, 2, none⟩ (.slice Ad a.2.2.length cd)).alloc (.cells [.int .i64 a.1, .int .i64 a.2.1, .slice Ad a.2.2.length cd].toArray 78))) (Rb.alloc _) hgr2 (fun e => by have := (hOwn (w.heap.size + 1) e.symm).1; omega); have O2 := Box.grown (w := ((w1.setCell ⟨wr.heap.size, 2, none⟩ (.slice Ad a.2.2.length cd)).alloc (.cells [.int .i64 a.1, .int .i64 a.2.1, .slice Ad a.2.2.length cd].toArray 78))) (Ob.alloc _) hgr2 (fun e => by have := (hOwn ob e.symm).1; omega); have hBf : Below w.heap.size w w2 := Below.grown (w := ((w1.setCell ⟨wr.heap.size, 2, none⟩ (.slice Ad a.2.2.length cd)).alloc (.cells [.int .i64 a.1, .int .i64 a.2.1, .slice Ad a.2.2.length cd].toArray 78))) (bel_trans hB hBx) hgr2 (by have := hBx.size; omega) (fun b hb => by have := (hOwn b hb).1; omega); have z2 := hgr2.size; have o2c := O2.cell 5; have o2f := O2.frozen 5; have GF := hfin.put (p := ⟨ob, 5, none⟩) (by show ob < wU.heap.size; omega) (.slice A9 n9 c9); have PF := P2.far (p := ⟨ob, 5, none⟩) (by show ¬ w.heap.size = ob; omega) (.slice A9 n9 c9); have RF := R2.far (p := ⟨ob, 5, none⟩) (by show ¬ w.heap.size + 1 = ob; omega) (.slice A9 n9 c9); have OF : Box (w2.setCell ⟨ob, 5, none⟩ (.slice A9 n9 c9)) ob 35 #[.int .i64 p.1, .int .i64 p.2.1, .int .i64 p.2.2.1, .slice D3 (p.2.2.2.1).length g3, .slice D4 (p.2.2.2.2.1).length g4, .slice A9 n9 c9, .slice AG (p.2.2.2.2.2.2).length cG] := O2.put 5 (.slice A9 n9 c9); have prGF := Ty.far3 (own_past (w := ((w1.setCell ⟨wr.heap.size, 2, none⟩ (.slice Ad a.2.2.length cd)).alloc (.cells [.int .i64 a.1, .int .i64 a.2.1, .slice Ad a.2.2.length cd].toArray 78))) (Ty.below (t := tGlance.row) prG hBx) hgr2 (fun b hb hx => by have h1 := (hOwn b hb).1; have h2 := prGl b hx; omega)) (p := ⟨ob, 5, none⟩) prGo (.slice A9 n9 c9); have prNF := Ty.far3 (own_past (w := ((w1.setCell ⟨wr.heap.size, 2, none⟩ (.slice Ad a.2.2.length cd)).alloc (.cells [.int .i64 a.1, .int .i64 a.2.1, .slice Ad a.2.2.length cd].toArray 78))) (Ty.below (t := tNode.row) prN hBx) hgr2 (fun b hb hx => by have h1 := (hOwn b hb).1; have h2 := prNl b hx; omega)) (p := ⟨ob, 5, none⟩) prNo (.slice A9 n9 c9); have prMF := Ty.far3 (own_past (w := ((w1.setCell ⟨wr.heap.size, 2, none⟩ (.slice Ad a.2.2.length cd)).alloc (.cells [.int .i64 a.1, .int .i64 a.2.1, .slice Ad a.2.2.length cd].toArray 78))) (Ty.below (t := tMail.row) prM hBx) hgr2 (fun b hb hx => by have h1 := (hOwn b hb).1; have h2 := prMl b hx; omega)) (p := ⟨ob, 5, none⟩) prMo (.slice A9 n9 c9); have BF : Below w.heap.size w (w2.setCell ⟨ob, 5, none⟩ (.slice A9 n9 c9)) := bel_put hBf (by show w.heap.size ≤ ob; omega) _))
              go_roundw
              case rel => exact ⟨j + 1, _, _, by omega, by go_num, by rw [HT.out]; exact GF, PF, RF, OF, prGF, prNF, prMF, BF, by have h := z2; simp [World.setCell] at h ⊢; omega⟩
              case measure => simp [intOf]; omega
            · obtain rfl : n5 = j := by omega
              have HA := Lib.hid (show (p.2.2.2.2.2.1).take n5 = p.2.2.2.2.2.1 from List.take_of_length_le (Nat.le_of_eq HL5.out))
              rw [HA.out] at hG
              obtain ⟨D5, g5, F5, rfl, hO5, hN5⟩ := hG.done
              have oc0 := O0.cell 0
              have oc1 := O0.cell 1
              have oc2 := O0.cell 2
              have oc3 := O0.cell 3
              have oc4 := O0.cell 4
              have oc5 := O0.cell 5
              have oc6 := O0.cell 6
              have rc0 := R0.cell 0
              have rf0 := R0.frozen 0
              have rc1 := R0.cell 1
              have rf1 := R0.frozen 1
              have rc2 := R0.cell 2
              have rf2 := R0.frozen 2
              have rc3 := R0.cell 3
              have rf3 := R0.frozen 3
              have rc4 := R0.cell 4
              have rf4 := R0.frozen 4
              have rc5 := R0.cell 5
              have rf5 := R0.frozen 5
              have rc6 := R0.cell 6
              have rf6 := R0.frozen 6
              go_wp2
              have hM5 : New (w.heap.size + 2) F5 := hN5.lower (by omega)
              have hMN : New (w.heap.size + 2) F3 := hN3.lower (by omega)
              have hMM : New (w.heap.size + 2) F4 := hN4.lower (by omega)
              have hA3 : New wS.heap.size (F3 ++ F4 ++ F5) := New.app (New.app hN3 hN4 (by omega) (fun f hf => prNl f hf)) hN5 (by omega) (fun f hf => by rcases List.mem_append.1 hf with hf | hf; (have := prNl f hf; omega); exact prMl f hf)
              have hA : New (w.heap.size + 2) (F3 ++ F4 ++ F5 ++ FG) := new_pair (hA3.lower (by omega)) hNG (fun f h1 h2 => by have := hA3.2 f h1; have := prGl f h2; omega)
              have RR := (((((((R0.put 0 (.int .i64 p.1)).put 1 (.int .i64 p.2.1)).put 2 (.int .i64 p.2.2.1)).put 3 (.slice D3 (p.2.2.2.1).length g3)).put 4 (.slice D4 (p.2.2.2.2.1).length g4)).put 5 (.slice D5 (p.2.2.2.2.2.1).length g5)).put 6 (.slice AG (p.2.2.2.2.2.2).length cG))
              have y0 := RR.cell 0
              have y1 := RR.cell 1
              have y2 := RR.cell 2
              have y3 := RR.cell 3
              have y4 := RR.cell 4
              have y5 := RR.cell 5
              have y6 := RR.cell 6
              have u_hO5 := (Ty.far (t := tSent.row) (Ty.far (t := tSent.row) (Ty.far (t := tSent.row) (Ty.far (t := tSent.row) (Ty.far (t := tSent.row) (Ty.far (t := tSent.row) (Ty.far (t := tSent.row) hO5 hM5 (p := ⟨w.heap.size + 1, 0, none⟩) (by show w.heap.size + 1 < _; omega) (.int .i64 p.1)) hM5 (p := ⟨w.heap.size + 1, 1, none⟩) (by show w.heap.size + 1 < _; omega) (.int .i64 p.2.1)) hM5 (p := ⟨w.heap.size + 1, 2, none⟩) (by show w.heap.size + 1 < _; omega) (.int .i64 p.2.2.1)) hM5 (p := ⟨w.heap.size + 1, 3, none⟩) (by show w.heap.size + 1 < _; omega) (.slice D3 (p.2.2.2.1).length g3)) hM5 (p := ⟨w.heap.size + 1, 4, none⟩) (by show w.heap.size + 1 < _; omega) (.slice D4 (p.2.2.2.2.1).length g4)) hM5 (p := ⟨w.heap.size + 1, 5, none⟩) (by show w.heap.size + 1 < _; omega) (.slice D5 (p.2.2.2.2.2.1).length g5)) hM5 (p := ⟨w.heap.size + 1, 6, none⟩) (by show w.heap.size + 1 < _; omega) (.slice AG (p.2.2.2.2.2.2).length cG))
              have u_prN := (Ty.far (t := tNode.row) (Ty.far (t := tNode.row) (Ty.far (t := tNode.row) (Ty.far (t := tNode.row) (Ty.far (t := tNode.row) (Ty.far (t := tNode.row) (Ty.far (t := tNode.row) prN hMN (p := ⟨w.heap.size + 1, 0, none⟩) (by show w.heap.size + 1 < _; omega) (.int .i64 p.1)) hMN (p := ⟨w.heap.size + 1, 1, none⟩) (by show w.heap.size + 1 < _; omega) (.int .i64 p.2.1)) hMN (p := ⟨w.heap.size + 1, 2, none⟩) (by show w.heap.size + 1 < _; omega) (.int .i64 p.2.2.1)) hMN (p := ⟨w.heap.size + 1, 3, none⟩) (by show w.heap.size + 1 < _; omega) (.slice D3 (p.2.2.2.1).length g3)) hMN (p := ⟨w.heap.size + 1, 4, none⟩) (by show w.heap.size + 1 < _; omega) (.slice D4 (p.2.2.2.2.1).length g4)) hMN (p := ⟨w.heap.size + 1, 5, none⟩) (by show w.heap.size + 1 < _; omega) (.slice D5 (p.2.2.2.2.2.1).length g5)) hMN (p := ⟨w.heap.size + 1, 6, none⟩) (by show w.heap.size + 1 < _; omega) (.slice AG (p.2.2.2.2.2.2).length cG))
              have u_prM := (Ty.far (t := tMail.row) (Ty.far (t := tMail.row) (Ty.far (t := tMail.row) (Ty.far (t := tMail.row) (Ty.far (t := tMail.row) (Ty.far (t := tMail.row) (Ty.far (t := tMail.row) prM hMM (p := ⟨w.heap.size + 1, 0, none⟩) (by show w.heap.size + 1 < _; omega) (.int .i64 p.1)) hMM (p := ⟨w.heap.size + 1, 1, none⟩) (by show w.heap.size + 1 < _; omega) (.int .i64 p.2.1)) hMM (p := ⟨w.heap.size + 1, 2, none⟩) (by show w.heap.size + 1 < _; omega) (.int .i64 p.2.2.1)) hMM (p := ⟨w.heap.size + 1, 3, none⟩) (by show w.heap.size + 1 < _; omega) (.slice D3 (p.2.2.2.1).length g3)) hMM (p := ⟨w.heap.size + 1, 4, none⟩) (by show w.heap.size + 1 < _; omega) (.slice D4 (p.2.2.2.2.1).length g4)) hMM (p := ⟨w.heap.size + 1, 5, none⟩) (by show w.heap.size + 1 < _; omega) (.slice D5 (p.2.2.2.2.2.1).length g5)) hMM (p := ⟨w.heap.size + 1, 6, none⟩) (by show w.heap.size + 1 < _; omega) (.slice AG (p.2.2.2.2.2.2).length cG))
              have u_prG := (Ty.far (t := tGlance.row) (Ty.far (t := tGlance.row) (Ty.far (t := tGlance.row) (Ty.far (t := tGlance.row) (Ty.far (t := tGlance.row) (Ty.far (t := tGlance.row) (Ty.far (t := tGlance.row) prG hNG (p := ⟨w.heap.size + 1, 0, none⟩) (by show w.heap.size + 1 < _; omega) (.int .i64 p.1)) hNG (p := ⟨w.heap.size + 1, 1, none⟩) (by show w.heap.size + 1 < _; omega) (.int .i64 p.2.1)) hNG (p := ⟨w.heap.size + 1, 2, none⟩) (by show w.heap.size + 1 < _; omega) (.int .i64 p.2.2.1)) hNG (p := ⟨w.heap.size + 1, 3, none⟩) (by show w.heap.size + 1 < _; omega) (.slice D3 (p.2.2.2.1).length g3)) hNG (p := ⟨w.heap.size + 1, 4, none⟩) (by show w.heap.size + 1 < _; omega) (.slice D4 (p.2.2.2.2.1).length g4)) hNG (p := ⟨w.heap.size + 1, 5, none⟩) (by show w.heap.size + 1 < _; omega) (.slice D5 (p.2.2.2.2.2.1).length g5)) hNG (p := ⟨w.heap.size + 1, 6, none⟩) (by show w.heap.size + 1 < _; omega) (.slice AG (p.2.2.2.2.2.2).length cG))
              obtain ⟨Fx, hX, rfl⟩ := makeONet (p := p) i0 i1 i2 u_prN u_prM u_hO5 u_prG
              refine bodyPost_ret (v := .agg #[.int .i64 p.1, .int .i64 p.2.1, .int .i64 p.2.2.1, .slice D3 (p.2.2.2.1).length g3, .slice D4 (p.2.2.2.2.1).length g4, .slice D5 (p.2.2.2.2.2.1).length g5, .slice AG (p.2.2.2.2.2.2).length cG]) (by simp [results, Tryz.results91, go_sem, y0, y1, y2, y3, y4, y5, y6]) rfl ⟨_, _, rfl, hX, hA.lower (by omega), ?_⟩
              exact (bel_put (bel_put (bel_put (bel_put (bel_put (bel_put (bel_put hB (by simp) _) (by simp) _) (by simp) _) (by simp) _) (by simp) _) (by simp) _) (by simp) _)
end Go.Proofs.YteokfenoomcogaaGreat
