/-
  PRdS: texts joined.
-/
import Derived.Test.YtnfmjgldcnokbaaPGh
import Derived.Test.YtnfmjgldcnokbaaPGj
import Derived.Test.YtnfmjgldcnokbaaPGl
import Derived.Test.YtnfmjgldcnokbaaPGm
import Derived.Test.YtnfmjgldcnokbaaPX0
namespace Go.Proofs.Ytnfmjgldcnokbaa
set_option maxRecDepth 100000
set_option linter.unusedVariables false
set_option linter.unusedSimpArgs false
open Go.ChangeShapes Go.WideShapes Go.ChangeAt Go.RowKit
open Fld
theorem empty8 (w : World) (t : TypeId) : (w.alloc (.cells #[] t)).ownsRow w.heap.size t 1 (.slice (some ⟨w.heap.size, 0, none⟩) 0 0) 0 [] :=
  ⟨rfl, .inr ⟨w.heap.size, 0, #[], rfl, Nat.le_refl _, heap_alloc_new w _, Nat.le_refl _, by simp only [maxLen]; omega, rfl, rfl⟩⟩
theorem tail8 {K : IntKind} {w : World} {B n b off : Nat} {l : List Int} (h : Ints K w B (some ⟨b, off, none⟩) n l) (m : Nat) (hm : m ≤ n) : Ints K w B (some ⟨b, off + m, none⟩) (n - m) (l.drop m) := by
  refine ⟨by rw [List.length_drop, h.1], fun h0 => ?_, fun x hx => h.2.2 x (List.mem_of_mem_drop hx)⟩
  obtain ⟨b', off', e, hb, hc⟩ := h.2.1 (by omega)
  injection e with e
  injection e with e1 e2 _
  subst e1 e2
  refine ⟨b, off + m, rfl, hb, fun i hi => ?_⟩
  rw [Nat.add_assoc, hc (m + i) (by omega), List.getD_eq_getElem?_getD, List.getD_eq_getElem?_getD, List.getElem?_drop]
theorem head8 {K : IntKind} {w : World} {B n : Nat} {A : Option Addr} {l : List Int} (h : Ints K w B A n l) (m : Nat) (hm : m ≤ n) : Ints K w B A m (l.take m) := by
  refine ⟨by rw [List.length_take, h.1]; omega, fun h0 => ?_, fun x hx => h.2.2 x (List.mem_of_mem_take hx)⟩
  obtain ⟨b', off', e, hb, hc⟩ := h.2.1 (by omega)
  exact ⟨b', off', e, hb, fun i hi => by rw [hc i (by omega), getDtk hi]⟩
theorem u8_rg' {x : Int} (h : (Lit.int .u8 x).wf = true) : 0 ≤ x ∧ x ≤ 255 := by
  simp [Lit.wf] at h
  have e1 : IntKind.u8.min = 0 := by decide
  have e2 : IntKind.u8.max = 255 := by decide
  omega
theorem GrowO.putB {α : Type} {t : Ty α} {e : TypeId} {w : World} {base : Nat} {v : Value} {l : List α} {F : List Nat} (h : GrowO t e w base v l F) {p : Addr} (h1 : p.block < base) (u : Value) : GrowO t e (w.setCell p u) base v l F := by
  obtain ⟨⟨css, Fs, k1, k2, k3, rfl, k5⟩, k6, k7⟩ := h
  refine ⟨⟨css, Fs, k1.kept (row := some p.block) ⟨rfl, rfl, rfl, by simp [World.setCell], fun i hi hn => Below.heap_setCell w p u i (fun e => hn (by rw [e]))⟩ ?_, k2, k3, rfl, fun i a es Fi q1 q2 q3 => Ty.far3 (k5 i a es Fi q1 q2 q3) (fun hx => by have := k6.2 _ (mem_flat q3 hx); omega) u⟩, k6, k7⟩
  refine .inr fun e => ?_
  have := (k1.lt _ e).1
  omega
theorem info_it : (Try.prog.info? 3).map (fun i => (i.zero, i.size, i.bytes)) = some (some (.int .i64 0), 1, 8) := by kernel_rfl
theorem Own.put1 {k : IntKind} {e : TypeId} {w : World} {base : Nat} {v : Value} {l : List Int} (h : Own k e w base v l) {p : Addr} (h1 : p.block < base) (u : Value) : Own k e (w.setCell p u) base v l := by
  refine h.kept (row := some p.block) ⟨rfl, rfl, rfl, by simp [World.setCell], fun i hi hn => Below.heap_setCell w p u i (fun e => hn (by rw [e]))⟩ (.inr fun e => ?_)
  have := (h.1.lt _ e).1
  omega
set_option maxHeartbeats 4000000 in
theorem s_l5readA {w : World} {n c : Nat} {A : Option Addr} {l : List Int} (hd : tBy.R w w.heap.size [.slice A n c] l) (hn : n ≤ 1048576) (h2 : 2 ≤ n) (hs : rdSz l ≤ n) (hc2 : ¬ c = 2) :
    Calls Try.prog 69 #[.slice A n c] w fun e w' => ∃ cs A' c' F, e = .returned (.tuple #[.agg cs.toArray, .slice A' (n - rdSz l) c', .bool (decide (PlOk (rdP l)))]) ∧ tPool.O w' cs (rdP l) F ∧ New w.heap.size F ∧ Below w.heap.size w w' := by
  obtain ⟨i0, hi0, hz0, hz1, hz2⟩ := info_parts info_cb
  obtain ⟨i1, hj0, hj1, hj2, hj3⟩ := info_parts info_Held
  obtain ⟨k0, hk0, hk1, hk2, hk3⟩ := info_parts info_it
  obtain ⟨hI0, hnc, hcm⟩ := slR_ints hd
  obtain ⟨ba, of0, rfl, hba, hc0, hw0⟩ := hI0.at_ (i := 0) (by omega)
  obtain ⟨bb, of1, e1, -, hc1, hw1⟩ := hI0.at_ (i := 1) (by omega)
  injection e1 with e1; injection e1 with e1 e1' _; subst e1 e1'
  rw [Nat.add_zero] at hc0
  have r0 := u8_rg' hw0
  have r1 := u8_rg' hw1
  obtain ⟨N, hN⟩ : ∃ N : Nat, rdN l = N := ⟨_, rfl⟩
  obtain ⟨M, hM⟩ : ∃ M : Nat, rdM l = M := ⟨_, rfl⟩
  have e0 : l.getD 0 0 = (N : Int) := by rw [← hN]; unfold rdN; omega
  have e1 : l.getD 1 0 = (M : Int) := by rw [← hM]; unfold rdM; omega
  have HSZ : rdSz l = 2 + 83 * N + 4 * M := by unfold rdSz; rw [hN, hM]
  have HP := Lib.hid (show rdP l = (rdL l N, rdT l N M) by unfold rdP; rw [hN, hM])
  rw [e0] at hc0 r0; rw [e1] at hc1 r1
  rw [HSZ] at hs ⊢
  rw [HP.out]
  obtain ⟨bok, hbok⟩ : ∃ b, decide (PlOk (rdL l N, rdT l N M)) = b := ⟨_, rfl⟩
  rw [hbok]
  have HBK := Lib.hid hbok
  obtain ⟨rr, hrr⟩ : ∃ r, n - (2 + 83 * N + 4 * M) = r := ⟨_, rfl⟩
  rw [hrr]
  have HRR := Lib.hid hrr
  clear hw0 hw1 e0 e1 hN hM HSZ hd hbok hrr
  have p1 : ¬ (n : Int) < 2 := by omega
  have p2 : ¬ (n : Int) < 2 + (N : Int) * 83 + 4 * (M : Int) := by omega
  have p3 : (0 : Int) < (n : Int) := by omega
  have p4 : (1 : Int) < (n : Int) := by omega
  have p5 : (2 : Int) ≤ (n : Int) := by omega
  have v1 : IntKind.i64.wrap ((N : Int) * 83) = (N : Int) * 83 := IntWalk.i64_in _ (by omega)
  have v2 : IntKind.i64.wrap (2 + (N : Int) * 83) = 2 + (N : Int) * 83 := IntWalk.i64_in _ (by omega)
  have v3 : IntKind.i64.wrap (4 * (M : Int)) = 4 * (M : Int) := IntWalk.i64_in _ (by omega)
  have v4 : IntKind.i64.wrap (2 + (N : Int) * 83 + 4 * (M : Int)) = 2 + (N : Int) * 83 + 4 * (M : Int) := IntWalk.i64_in _ (by omega)
  have B1 : Box ((w.alloc (.cells #[.slice none 0 0, .slice none 0 0] 54)).alloc (.cells #[.slice none 0 0, .slice none 0 0] 54)) w.heap.size 54 #[.slice none 0 0, .slice none 0 0] := (Box.new _ _ _).alloc _
  have B2 : Box ((w.alloc (.cells #[.slice none 0 0, .slice none 0 0] 54)).alloc (.cells #[.slice none 0 0, .slice none 0 0] 54)) (w.heap.size + 1) 54 #[.slice none 0 0, .slice none 0 0] := by simpa using Box.new (w.alloc (.cells #[.slice none 0 0, .slice none 0 0] 54)) 54 #[.slice none 0 0, .slice none 0 0]
  have d0 : ((w.alloc (.cells #[.slice none 0 0, .slice none 0 0] 54)).alloc (.cells #[.slice none 0 0, .slice none 0 0] 54)).cell? ⟨ba, of0, none⟩ = some (.int .u8 (N : Int)) := cell_bel (belx) hc0
  have d1 : ((w.alloc (.cells #[.slice none 0 0, .slice none 0 0] 54)).alloc (.cells #[.slice none 0 0, .slice none 0 0] 54)).cell? ⟨ba, of0 + 1, none⟩ = some (.int .u8 (M : Int)) := cell_bel (belx) hc1
  have hJ : Ints .u8 w w.heap.size (some ⟨ba, of0 + 2, none⟩) (n - 2) (l.drop 2) := tail8 hI0 2 h2
  have hc2' : ¬ 2 = c := fun e => hc2 e.symm
  go_enter Try.func69, Try.ntmps69
  go_wp2_with fail
  go_quiet (fail)
  go_wp2_with fail
  go_loopw [0, 8] (fun t i wr => ∃ (j : Nat) (A' : Option Addr) (n' c' : Nat) (v : Value) (F : List Nat), j ≤ N ∧ i = .int .i64 j ∧ t = .slice A' n' c' ∧ n' + 2 + 83 * j = n ∧ n' ≤ c' ∧ c' ≤ 9223372036854775807 ∧ Ints .u8 w w.heap.size A' n' (l.drop (2 + 83 * j)) ∧ GrowO tHeld 98 wr (w.heap.size + 2) v (rdL l j) F ∧ Box wr (w.heap.size + 1) 54 #[v, .slice none 0 0] ∧ Box wr w.heap.size 54 #[.slice none 0 0, .slice none 0 0] ∧ Below w.heap.size w wr ∧ w.heap.size + 2 ≤ wr.heap.size) (fun _ i _ => N - (intOf i).toNat)
  case atStart => exact ⟨0, _, _, _, .slice none 0 0, [], by omega, rfl, rfl, by omega, by omega, by omega, hJ, GrowO.nil, B2, B1, (belx), by simp⟩
  case round =>
    obtain ⟨j, A', n', c', v, F, hj, rfl, rfl, hn', hnc', hcm', hI, hG, O4, Y4, hB, zr⟩ := hrel
    by_cases hlt : j < N
    · obtain ⟨k, hk⟩ : ∃ k, 2 + 83 * j = k := ⟨_, rfl⟩
      have HT := Lib.hid (rdL_snoc l j)
      rw [hk] at hI HT
      have HLL := Lib.hid (rdL_len l j)
      have hn83 : 83 ≤ n' := by omega
      obtain ⟨bb, off, rfl, hbb, hb0, hw0⟩ := hI.at_ (i := 0) (by omega)
      obtain ⟨b1, off1, e1, -, hb1, hw1⟩ := hI.at_ (i := 1) (by omega)
      obtain ⟨b2, off2, e2, -, hb2, hw2⟩ := hI.at_ (i := 2) (by omega)
      injection e1 with e1; injection e1 with e1 e1' _; subst e1 e1'
      injection e2 with e2; injection e2 with e2 e2' _; subst e2 e2'
      rw [Nat.add_zero] at hb0
      obtain ⟨x0, hx0⟩ : ∃ x, (l.drop k).getD 0 0 = x := ⟨_, rfl⟩
      obtain ⟨x1, hx1⟩ : ∃ x, (l.drop k).getD 1 0 = x := ⟨_, rfl⟩
      obtain ⟨x2, hx2⟩ : ∃ x, (l.drop k).getD 2 0 = x := ⟨_, rfl⟩
      have hI3' := head8 (tail8 hI 3 (by omega)) 80 (by omega)
      obtain ⟨x3, hx3⟩ : ∃ x, ((l.drop k).drop 3).take 80 = x := ⟨_, rfl⟩
      rw [hx3] at hI3'
      have hI3 : Ints .u8 w w.heap.size (some ⟨bb, off + 3, none⟩) 80 x3 := hI3'
      have HA := Lib.hid (show heldOf (l.drop k) = (x0, x1 * 256 + x2, x3) by unfold heldOf; rw [hx0, hx1, hx2, hx3])
      rw [hx0] at hb0 hw0; rw [hx1] at hb1 hw1; rw [hx2] at hb2 hw2
      have g0 := u8_rg' hw0; have g1 := u8_rg' hw1; have g2 := u8_rg' hw2
      have wf0 : (Lit.int .i64 x0).wf = true := wf_i64 (by omega) (by omega)
      have wf1 : (Lit.int .i64 (x1 * 256 + x2)).wf = true := wf_i64 (by omega) (by omega)
      have wx0 : IntKind.i64.wrap x0 = x0 := IntWalk.i64_in _ (by omega)
      have wx1 : IntKind.i64.wrap x1 = x1 := IntWalk.i64_in _ (by omega)
      have wx2 : IntKind.i64.wrap x2 = x2 := IntWalk.i64_in _ (by omega)
      have wr1 : IntKind.i64.wrap (x1 * 256) = x1 * 256 := IntWalk.i64_in _ (by omega)
      have wr2 : IntKind.i64.wrap (x1 * 256 + x2) = x1 * 256 + x2 := IntWalk.i64_in _ (by omega)
      have kk : ∀ W : World, Below w.heap.size w W → W.cell? ⟨bb, off, none⟩ = some (.int .u8 x0) ∧ W.cell? ⟨bb, off + 1, none⟩ = some (.int .u8 x1) ∧ W.cell? ⟨bb, off + 2, none⟩ = some (.int .u8 x2) := fun W hW => ⟨cell_bel hW hb0, cell_bel hW hb1, cell_bel hW hb2⟩
      have HIN := Lib.hid (show ∀ A2 : Option Addr, (n' - 83 = 0 ∨ A2 = some ⟨bb, off + 83, none⟩) → Ints .u8 w w.heap.size A2 (n' - 83) (l.drop (2 + 83 * (j + 1))) from by
        intro A2 hA2
        have h := tail8 hI 83 hn83
        rw [List.drop_drop, show k + 83 = 2 + 83 * (j + 1) from by omega] at h
        rcases hA2 with h0 | rfl
        · rw [h0] at h ⊢; exact ⟨h.1, fun h => absurd h (by omega), h.2.2⟩
        · exact h)
      have o4c := O4.cell 0
      have OE := O4.alloc (.cells #[] 5)
      have oEc := OE.cell 0
      have hOwn := fun b hb => (GrowO.row hG).choose_spec.1.lt b hb
      have hlt2 := hG.lt
      have q1 : (j : Int) < (N : Int) := by omega
      have q2 : (0 : Int) < (n' : Int) := by omega
      have q3 : (1 : Int) < (n' : Int) := by omega
      have q4 : (2 : Int) < (n' : Int) := by omega
      have q5 : (83 : Int) ≤ (c' : Int) := by omega
      have q6 : (83 : Int) ≤ (n' : Int) := by omega
      have q7 : ¬ c' = 3 := by omega
      have m0 : 0 < n' := by omega
      have m1 : 1 < n' := by omega
      have m2 : 2 < n' := by omega
      have m3 : 3 ≤ n' := by omega
      have m4 : 83 ≤ c' := by omega
      have q8 : ¬ 3 = c' := by omega
      clear hx0 hx1 hx2 hx3 hI hb0 hb1 hb2 hw0 hw1 hw2 hI3'
      go_wp2_with fail
      refine wp_region_held_drew (S := (fun w' => w'.cell? ⟨bb, off, none⟩ = some (.int .u8 x0) ∧ w'.cell? ⟨bb, off + 1, none⟩ = some (.int .u8 x1) ∧ w'.cell? ⟨bb, off + 2, none⟩ = some (.int .u8 x2))) (by kernel_rfl) (by exact kk _ (bel_drew hB)) (fun hHeld => ?_)
      refine wpAnyH_take (i := 0) (oi := ⟨some 39, _, _, _, _, _⟩) (v := ?v1) rfl (by kernel_rfl) (by kernel_rfl) (by kernel_rfl) (fun _ _ _ h => h) (Or.inl ⟨by rfl, ?hy1⟩) (by assumption) ?_
      case hy1 => (intro w hSw; (try dsimp only at hSw); go_simp; try (with_reducible rfl))
      (try simp only [Act.put, qa_, qb_, qc_])
      refine wpAnyH_take (i := 2) (oi := ⟨some 41, _, _, _, _, _⟩) (v := ?v2) rfl (by kernel_rfl) (by kernel_rfl) (by kernel_rfl) (fun _ _ _ h => h) (Or.inl ⟨by rfl, ?hy2⟩) (by assumption) ?_
      case hy2 => (intro w hSw; (try dsimp only at hSw); go_simp; try (with_reducible rfl))
      (try simp only [Act.put, qa_, qb_, qc_])
      refine wpAnyH_take (i := 3) (oi := ⟨some 42, _, _, _, _, _⟩) (v := ?v3) rfl (by kernel_rfl) (by kernel_rfl) (by kernel_rfl) (fun _ _ _ h => h) (Or.inl ⟨by rfl, ?hy3⟩) (by assumption) ?_
      case hy3 => (intro w hSw; (try dsimp only at hSw); go_simp; try (with_reducible rfl))
      (try simp only [Act.put, qa_, qb_, qc_])
      refine wpAnyH_take (i := 4) (oi := ⟨some 43, _, _, _, _, _⟩) (v := ?v4) rfl (by kernel_rfl) (by kernel_rfl) (by kernel_rfl) (fun _ _ _ h => h) (Or.inl ⟨by rfl, ?hy4⟩) (by assumption) ?_
      case hy4 => (intro w hSw; (try dsimp only at hSw); go_simp; try (with_reducible rfl))
      (try simp only [Act.put, qa_, qb_, qc_])
      refine wpAnyH_take (i := 5) (oi := ⟨some 44, _, _, _, _, _⟩) (v := ?v5) rfl (by kernel_rfl) (by kernel_rfl) (by kernel_rfl) (fun _ _ _ h => h) (Or.inl ⟨by rfl, ?hy5⟩) (by assumption) ?_
      case hy5 => (intro w hSw; (try dsimp only at hSw); go_simp; try (with_reducible rfl))
      (try simp only [Act.put, qa_, qb_, qc_])
      refine wpAnyH_take (i := 6) (oi := ⟨some 45, _, _, _, _, _⟩) (v := ?v6) rfl (by kernel_rfl) (by kernel_rfl) (by kernel_rfl) (fun _ _ _ h => h) (Or.inl ⟨by rfl, ?hy6⟩) (by assumption) ?_
      case hy6 => (intro w hSw; (try dsimp only at hSw); go_simp; try (with_reducible rfl))
      (try simp only [Act.put, qa_, qb_, qc_])
      refine wpAnyH_take (i := 7) (oi := ⟨some 46, _, _, _, _, _⟩) (v := ?v7) rfl (by kernel_rfl) (by kernel_rfl) (by kernel_rfl) (fun _ _ _ h => h) (Or.inl ⟨by rfl, ?hy7⟩) (by assumption) ?_
      case hy7 => (intro w hSw; (try dsimp only at hSw); go_simp; try (with_reducible rfl))
      (try simp only [Act.put, qa_, qb_, qc_])
      refine wpAnyH_take (i := 8) (oi := ⟨some 47, _, _, _, _, _⟩) (v := ?v8) rfl (by kernel_rfl) (by kernel_rfl) (by kernel_rfl) (fun _ _ _ h => h) (Or.inl ⟨by rfl, ?hy8⟩) (by assumption) ?_
      case hy8 => (intro w hSw; (try dsimp only at hSw); go_simp; try (with_reducible rfl))
      (try simp only [Act.put, qa_, qb_, qc_])
      refine wpAnyH_take (i := 9) (oi := ⟨some 48, _, _, _, _, _⟩) (v := ?v9) rfl (by kernel_rfl) (by kernel_rfl) (by kernel_rfl) (fun _ _ _ h => h) (Or.inl ⟨by rfl, ?hy9⟩) (by assumption) ?_
      case hy9 => (intro w hSw; (try dsimp only at hSw); go_simp; try (with_reducible rfl))
      (try simp only [Act.put, qa_, qb_, qc_])
      refine wpAnyH_take (i := 10) (oi := ⟨some 49, _, _, _, _, _⟩) (v := ?v10) rfl (by kernel_rfl) (by kernel_rfl) (by kernel_rfl) (fun _ _ _ h => h) (Or.inl ⟨by rfl, ?hy10⟩) (by assumption) ?_
      case hy10 => (intro w hSw; (try dsimp only at hSw); go_simp; try (with_reducible rfl))
      (try simp only [Act.put, qa_, qb_, qc_])
      refine wpAnyH_take (i := 11) (oi := ⟨some 50, _, _, _, _, _⟩) (v := ?v11) rfl (by kernel_rfl) (by kernel_rfl) (by kernel_rfl) (fun _ _ _ h => h) (Or.inl ⟨by rfl, ?hy11⟩) (by assumption) ?_
      case hy11 => (intro w hSw; (try dsimp only at hSw); go_simp; try (with_reducible rfl))
      (try simp only [Act.put, qa_, qb_, qc_])
      refine wpAnyH_take (i := 12) (oi := ⟨some 51, _, _, _, _, _⟩) (v := ?v12) rfl (by kernel_rfl) (by kernel_rfl) (by kernel_rfl) (fun _ _ _ h => h) (Or.inl ⟨by rfl, ?hy12⟩) (by assumption) ?_
      case hy12 => (intro w hSw; (try dsimp only at hSw); go_simp; try (with_reducible rfl))
      (try simp only [Act.put, qa_, qb_, qc_])
      refine wpAnyH_take (i := 13) (oi := ⟨some 52, _, _, _, _, _⟩) (v := ?v13) rfl (by kernel_rfl) (by kernel_rfl) (by kernel_rfl) (fun _ _ _ h => h) (Or.inl ⟨by rfl, ?hy13⟩) (by assumption) ?_
      case hy13 => (intro w hSw; (try dsimp only at hSw); go_simp; try (with_reducible rfl))
      (try simp only [Act.put, qa_, qb_, qc_])
      refine wpAnyH_take (i := 14) (oi := ⟨some 53, _, _, _, _, _⟩) (v := ?v14) rfl (by kernel_rfl) (by kernel_rfl) (by kernel_rfl) (fun _ _ _ h => h) (Or.inl ⟨by rfl, ?hy14⟩) (by assumption) ?_
      case hy14 => (intro w hSw; (try dsimp only at hSw); go_simp; try (with_reducible rfl))
      (try simp only [Act.put, qa_, qb_, qc_])
      refine wpAnyH_take (i := 15) (oi := ⟨some 54, _, _, _, _, _⟩) (v := ?v15) rfl (by kernel_rfl) (by kernel_rfl) (by kernel_rfl) (fun _ _ _ h => h) (Or.inl ⟨by rfl, ?hy15⟩) (by assumption) ?_
      case hy15 => (intro w hSw; (try dsimp only at hSw); go_simp; try (with_reducible rfl))
      (try simp only [Act.put, qa_, qb_, qc_])
      refine wpAnyH_take (i := 17) (oi := ⟨some 56, _, _, _, _, _⟩) (v := ?v16) rfl (by kernel_rfl) (by kernel_rfl) (by kernel_rfl) (fun _ _ _ h => h) (Or.inl ⟨by rfl, ?hy16⟩) (by assumption) ?_
      case hy16 => (intro w hSw; (try dsimp only at hSw); go_simp; try (with_reducible rfl))
      (try simp only [Act.put, qa_, qb_, qc_])
      refine wpAnyH_take (i := 18) (oi := ⟨some 57, _, _, _, _, _⟩) (v := ?v17) rfl (by kernel_rfl) (by kernel_rfl) (by kernel_rfl) (fun _ _ _ h => h) (Or.inl ⟨by rfl, ?hy17⟩) (by assumption) ?_
      case hy17 => (intro w hSw; (try dsimp only at hSw); go_simp; try (with_reducible rfl))
      (try simp only [Act.put, qa_, qb_, qc_])
      refine wpAnyH_ready (rs := [1, 16]) (by kernel_rfl) (by simp) ?_
      refine AllReadyH.cons rfl (fun K hK => ?_) ?_
      · go_simp
        refine hK.out _ _ (by exact kk _ (bel_drew hB)) (fun hHeld => ?_)
        clear hK K
        (try simp only [Act.put, qa_, qb_, qc_])
        refine wpAnyH_ready (rs := [16]) (by kernel_rfl) (by simp) ?_
        refine AllReadyH.cons rfl (fun K hK => ?_) ?_
        · go_simp
          refine hK.out _ _ (by exact kk _ (show Below w.heap.size w ((wr.alloc (.cells #[] 5)).drew) from bel_drew (bel_alloc hB _))) (fun hHeld => ?_)
          clear hK K
          (try simp only [Act.put, qa_, qb_, qc_])
          refine wpAnyH_ready (rs := [19]) (by kernel_rfl) (by simp) ?_
          refine AllReadyH.cons rfl (fun K hK => ?_) ?_
          · have hE : ((wr.alloc (.cells #[] 5)).drew).ownsRow wr.heap.size 5 1 (.slice (some ⟨wr.heap.size, 0, none⟩) 0 0) 0 [] := World.ownsRow.kept (empty8 wr 5) (row := none) (gb_drew (World.grownBy.refl _ _)) (.inr (by simp [Value.ownBlock]))
            have hS1 : Src ((wr.alloc (.cells #[] 5)).drew) 1 (some ⟨bb, off + 3, none⟩) 80 (x3.map (Value.int .u8)) := Src.of_ints (reach hI3 (bel_trans hB (belx)))
            refine step_app5 _ (by rfl) (.tmp 55) (.tmp 57) _ (by rfl) wr.heap.size 5 i0 _ 1 1 Try.underlying22 hi0 hz0 hz1 hz2 rfl (by omega) (.slice (some ⟨wr.heap.size, 0, none⟩) 0 0) 0 [] (by rfl) hE _ 80 _ (x3.map (Value.int .u8)) (by rfl) hS1 (one_ints _ _) (by simp only [maxLen]; omega) (by omega) (by show _ ≤ (World.alloc _ _).heap.size; simp) ?_
            intro v1 w3 hown hgr hat
            obtain ⟨A2, c2, Fd, rfl, hO1, hN1⟩ := own_slice (Own.of (n := 0 + 80) (by simpa using hown) hI3.2.2)
            have hs1 : Below wr.heap.size wr w3 := Below.grown (w := (wr.alloc (.cells #[] 5)).drew) (belx) hgr (by show _ ≤ (World.alloc _ _).heap.size; simp) (fun b hb => by have e := Option.some.inj (show some wr.heap.size = some b from hb); omega)
            have O3 := Box.below O4 hs1 O4.size
            have Y3 := Box.below Y4 hs1 Y4.size
            have o3c := O3.cell 0
            have OA := O3.alloc (.cells ([.int .i64 x0, .int .i64 (x1 * 256 + x2), .slice A2 x3.length c2].toArray) 98)
            have oAc := OA.cell 0
            have zw1 := hs1.size
            refine hK.out _ _ (by exact kk _ (bel_trans hB hs1)) (fun hHeld => ?_)
            clear hK K
            (try simp only [Act.put, qa_, qb_, qc_])
            refine wpAnyH_take (i := 20) (oi := ⟨some 59, _, _, _, _, _⟩) (v := ?v18) rfl (by kernel_rfl) (by kernel_rfl) (by kernel_rfl) (fun _ _ _ h => h) (Or.inl ⟨by rfl, ?hy18⟩) (by assumption) ?_
            case hy18 => (intro w hSw; (try dsimp only at hSw); go_simp; try (with_reducible rfl))
            (try simp only [Act.put, qa_, qb_, qc_])
            refine wpAnyH_take (i := 21) (oi := ⟨some 60, _, _, _, _, _⟩) (v := ?v19) rfl (by kernel_rfl) (by kernel_rfl) (by kernel_rfl) (fun _ _ _ h => h) (Or.inl ⟨by rfl, ?hy19⟩) (by assumption) ?_
            case hy19 => (intro w hSw; (try dsimp only at hSw); go_simp; try (with_reducible rfl))
            (try simp only [Act.put, qa_, qb_, qc_])
            refine wpAnyH_ready (rs := [22]) (by kernel_rfl) (by simp) ?_
            refine AllReadyH.cons rfl (fun K hK => ?_) ?_
            · go_simp
              refine hK.out _ _ (by exact kk _ (show Below w.heap.size w (w3.alloc (.cells ([.int .i64 x0, .int .i64 (x1 * 256 + x2), .slice A2 x3.length c2].toArray) 98)) from bel_alloc (bel_trans hB hs1) _)) (fun hHeld => ?_)
              clear hK K
              (try simp only [Act.put, qa_, qb_, qc_])
              refine wpAnyH_ready (rs := [23]) (by kernel_rfl) (by simp) ?_
              refine AllReadyH.cons rfl (fun K hK => ?_) ?_
              · obtain ⟨Fx, hX, eF⟩ := makeOHeld (p := heldOf (l.drop k)) (v2 := .slice A2 x3.length c2) (by rw [HA.out]; exact wf0) (by rw [HA.out]; exact wf1) (by rw [HA.out]; exact hO1)
                rw [HA.out] at hX
                have hBx : Below wr.heap.size wr (w3.alloc (.cells ([.int .i64 x0, .int .i64 (x1 * 256 + x2), .slice A2 x3.length c2].toArray) 98)) := bel_alloc hs1 _
                obtain ⟨xs, hrow, hpush⟩ := (hG.below hBx).row
                have hS2 : Src (w3.alloc (.cells ([.int .i64 x0, .int .i64 (x1 * 256 + x2), .slice A2 x3.length c2].toArray) 98)) 3 (some ⟨w3.heap.size, 0, none⟩) 1 [.int .i64 x0, .int .i64 (x1 * 256 + x2), .slice A2 x3.length c2] := Src.of_box w3 98 [.int .i64 x0, .int .i64 (x1 * 256 + x2), .slice A2 x3.length c2] (K := 3) rfl
                have tz : (Value.agg #[Value.int .i64 0, Value.int .i64 0, Value.slice none 0 0]).cells.size = 3 := (by first | rfl | (simp [Value.cells]; done))
                have t0 : ∀ u ∈ ([.int .i64 x0, .int .i64 (x1 * 256 + x2), .slice A2 x3.length c2] : List Value), u.oneCell' = true := (by intro u hu; simp only [List.mem_cons, List.not_mem_nil, or_false] at hu; rcases hu with rfl | rfl | rfl <;> rfl)
                have t1 : (rdL l j).length + 1 ≤ maxLen := (by simp only [maxLen]; rw [HLL.out]; omega)
                have t2 : ((rdL l j).length + 1) * 40 ≤ 140737488355328 := (by rw [HLL.out]; omega)
                have t3 := hBx.size
                refine step_app5 _ (by rfl) (.tmp 40) (.tmp 61) _ (by rfl) (w.heap.size + 2) 98 i1 _ 3 40 Try.underlying52 hj0 hj1 hj2 hj3 tz (by omega) v _ xs (by rfl) hrow _ 1 1 [.int .i64 x0, .int .i64 (x1 * 256 + x2), .slice A2 x3.length c2] (by rfl) hS2 t0 t1 t2 (by omega) ?_
                intro v2 w2 hown2 hgr2 hat2
                have hOel : tHeld.O (w3.alloc (.cells ([.int .i64 x0, .int .i64 (x1 * 256 + x2), .slice A2 x3.length c2].toArray) 98)) [.int .i64 x0, .int .i64 (x1 * 256 + x2), .slice A2 x3.length c2] (x0, x1 * 256 + x2, x3) Fx := Ty.below (t := tHeld) hX (belx)
                have hNel : New (w.heap.size + 2) Fx := by rw [eF]; exact hN1.lower (by omega)
                have hdis : ∀ f ∈ Fx, f ∉ F := (fun f h1 h2 => by rw [eF] at h1; have := hN1.2 _ h1; have := hlt2 f h2; omega)
                have hod : ∀ b, v.ownBlock = some b → b ∉ Fx := (fun b hb hx => by rw [eF] at hx; have := (hOwn b hb).2; have := hN1.2 _ hx; omega)
                have hfin := hpush w2 v2 (x0, x1 * 256 + x2, x3) _ Fx hOel hNel hdis hod hown2 hgr2 hat2
                obtain ⟨A9, n9, c9, rfl, -⟩ := hfin.shapeN
                have O2 := Box.grown (w := (w3.alloc (.cells ([.int .i64 x0, .int .i64 (x1 * 256 + x2), .slice A2 x3.length c2].toArray) 98))) (O3.alloc _) hgr2 (fun e => by have := (hOwn (w.heap.size + 1) e.symm).1; omega)
                have Y2 := Box.grown (w := (w3.alloc (.cells ([.int .i64 x0, .int .i64 (x1 * 256 + x2), .slice A2 x3.length c2].toArray) 98))) (Y3.alloc _) hgr2 (fun e => by have := (hOwn w.heap.size e.symm).1; omega)
                have hBf : Below w.heap.size w w2 := Below.grown (w := (w3.alloc (.cells ([.int .i64 x0, .int .i64 (x1 * 256 + x2), .slice A2 x3.length c2].toArray) 98))) (bel_trans hB hBx) hgr2 (by have := hBx.size; omega) (fun b hb => by have := (hOwn b hb).1; omega)
                have z2 := hgr2.size
                have o2c := O2.cell 0
                have o2f := O2.frozen 0
                have GF := hfin.putB (p := ⟨(w.heap.size + 1), 0, none⟩) (by show w.heap.size + 1 < w.heap.size + 2; omega) (.slice A9 n9 c9)
                have OF : Box (w2.setCell ⟨(w.heap.size + 1), 0, none⟩ (.slice A9 n9 c9)) (w.heap.size + 1) 54 #[.slice A9 n9 c9, .slice none 0 0] := O2.put 0 (.slice A9 n9 c9)
                have YF := Y2.far (p := ⟨(w.heap.size + 1), 0, none⟩) (by show ¬ w.heap.size = w.heap.size + 1; omega) (.slice A9 n9 c9)
                have BF : Below w.heap.size w (w2.setCell ⟨(w.heap.size + 1), 0, none⟩ (.slice A9 n9 c9)) := bel_put hBf (by show w.heap.size ≤ w.heap.size + 1; omega) _
                refine hK.out _ _ (by exact kk _ hBf) (fun hHeld => ?_)
                clear hK K
                (try simp only [Act.put, qa_, qb_, qc_])
                refine wpAnyH_take (i := 24) (oi := ⟨some 63, _, _, _, _, _⟩) (v := ?v20) rfl (by kernel_rfl) (by kernel_rfl) (by kernel_rfl) (fun _ _ _ h => h) (Or.inl ⟨by rfl, ?hy20⟩) (by assumption) ?_
                case hy20 => (intro w hSw; (try dsimp only at hSw); go_simp; try (with_reducible rfl))
                (try simp only [Act.put, qa_, qb_, qc_])
                refine wpAnyH_ready (rs := [25]) (by kernel_rfl) (by simp) ?_
                refine AllReadyH.cons rfl (fun K hK => ?_) ?_
                · go_simp
                  refine hK.out _ _ (by exact kk _ BF) (fun hHeld => ?_)
                  clear hK K
                  (try simp only [Act.put, qa_, qb_, qc_])
                  refine wpAnyH_done (by kernel_rfl) ?_ _
                  by_cases hcc : c' = 83
                  · subst hcc
                    obtain rfl : n' = 83 := by omega
                    go_wp2
                    go_roundw
                    case rel => exact ⟨j + 1, _, _, _, _, _, by omega, by go_num, rfl, by omega, by omega, by omega, HIN.out _ (.inl rfl), by rw [HT.out, HA.out]; exact GF, OF, YF, BF, by have h := z2; simp [World.setCell] at h ⊢; omega⟩
                    case measure => simp [intOf]; omega
                  · have nc : ¬ 83 = c' := fun e => hcc e.symm
                    go_wp2
                    go_roundw
                    case rel => exact ⟨j + 1, _, _, _, _, _, by omega, by go_num, rfl, by omega, by omega, by omega, HIN.out _ (.inr rfl), by rw [HT.out, HA.out]; exact GF, OF, YF, BF, by have h := z2; simp [World.setCell] at h ⊢; omega⟩
                    case measure => simp [intOf]; omega
                exact AllReadyH.nil
              exact AllReadyH.nil
            exact AllReadyH.nil
          exact AllReadyH.nil
        exact AllReadyH.nil
      refine AllReadyH.cons rfl (fun K hK => ?_) ?_
      · go_simp
        refine hK.out _ _ (by exact kk _ (show Below w.heap.size w ((wr.alloc (.cells #[] 5)).drew) from bel_drew (bel_alloc hB _))) (fun hHeld => ?_)
        clear hK K
        (try simp only [Act.put, qa_, qb_, qc_])
        refine wpAnyH_ready (rs := [1, 19]) (by kernel_rfl) (by simp) ?_
        refine AllReadyH.cons rfl (fun K hK => ?_) ?_
        · go_simp
          refine hK.out _ _ (by exact kk _ (show Below w.heap.size w ((wr.alloc (.cells #[] 5)).drew) from bel_drew (bel_alloc hB _))) (fun hHeld => ?_)
          clear hK K
          (try simp only [Act.put, qa_, qb_, qc_])
          refine wpAnyH_ready (rs := [19]) (by kernel_rfl) (by simp) ?_
          refine AllReadyH.cons rfl (fun K hK => ?_) ?_
          · have hE : ((wr.alloc (.cells #[] 5)).drew).ownsRow wr.heap.size 5 1 (.slice (some ⟨wr.heap.size, 0, none⟩) 0 0) 0 [] := World.ownsRow.kept (empty8 wr 5) (row := none) (gb_drew (World.grownBy.refl _ _)) (.inr (by simp [Value.ownBlock]))
            have hS1 : Src ((wr.alloc (.cells #[] 5)).drew) 1 (some ⟨bb, off + 3, none⟩) 80 (x3.map (Value.int .u8)) := Src.of_ints (reach hI3 (bel_trans hB (belx)))
            refine step_app5 _ (by rfl) (.tmp 55) (.tmp 57) _ (by rfl) wr.heap.size 5 i0 _ 1 1 Try.underlying22 hi0 hz0 hz1 hz2 rfl (by omega) (.slice (some ⟨wr.heap.size, 0, none⟩) 0 0) 0 [] (by rfl) hE _ 80 _ (x3.map (Value.int .u8)) (by rfl) hS1 (one_ints _ _) (by simp only [maxLen]; omega) (by omega) (by show _ ≤ (World.alloc _ _).heap.size; simp) ?_
            intro v1 w3 hown hgr hat
            obtain ⟨A2, c2, Fd, rfl, hO1, hN1⟩ := own_slice (Own.of (n := 0 + 80) (by simpa using hown) hI3.2.2)
            have hs1 : Below wr.heap.size wr w3 := Below.grown (w := (wr.alloc (.cells #[] 5)).drew) (belx) hgr (by show _ ≤ (World.alloc _ _).heap.size; simp) (fun b hb => by have e := Option.some.inj (show some wr.heap.size = some b from hb); omega)
            have O3 := Box.below O4 hs1 O4.size
            have Y3 := Box.below Y4 hs1 Y4.size
            have o3c := O3.cell 0
            have OA := O3.alloc (.cells ([.int .i64 x0, .int .i64 (x1 * 256 + x2), .slice A2 x3.length c2].toArray) 98)
            have oAc := OA.cell 0
            have zw1 := hs1.size
            refine hK.out _ _ (by exact kk _ (bel_trans hB hs1)) (fun hHeld => ?_)
            clear hK K
            (try simp only [Act.put, qa_, qb_, qc_])
            refine wpAnyH_take (i := 20) (oi := ⟨some 59, _, _, _, _, _⟩) (v := ?v21) rfl (by kernel_rfl) (by kernel_rfl) (by kernel_rfl) (fun _ _ _ h => h) (Or.inl ⟨by rfl, ?hy21⟩) (by assumption) ?_
            case hy21 => (intro w hSw; (try dsimp only at hSw); go_simp; try (with_reducible rfl))
            (try simp only [Act.put, qa_, qb_, qc_])
            refine wpAnyH_take (i := 21) (oi := ⟨some 60, _, _, _, _, _⟩) (v := ?v22) rfl (by kernel_rfl) (by kernel_rfl) (by kernel_rfl) (fun _ _ _ h => h) (Or.inl ⟨by rfl, ?hy22⟩) (by assumption) ?_
            case hy22 => (intro w hSw; (try dsimp only at hSw); go_simp; try (with_reducible rfl))
            (try simp only [Act.put, qa_, qb_, qc_])
            refine wpAnyH_ready (rs := [22]) (by kernel_rfl) (by simp) ?_
            refine AllReadyH.cons rfl (fun K hK => ?_) ?_
            · go_simp
              refine hK.out _ _ (by exact kk _ (show Below w.heap.size w (w3.alloc (.cells ([.int .i64 x0, .int .i64 (x1 * 256 + x2), .slice A2 x3.length c2].toArray) 98)) from bel_alloc (bel_trans hB hs1) _)) (fun hHeld => ?_)
              clear hK K
              (try simp only [Act.put, qa_, qb_, qc_])
              refine wpAnyH_ready (rs := [23]) (by kernel_rfl) (by simp) ?_
              refine AllReadyH.cons rfl (fun K hK => ?_) ?_
              · obtain ⟨Fx, hX, eF⟩ := makeOHeld (p := heldOf (l.drop k)) (v2 := .slice A2 x3.length c2) (by rw [HA.out]; exact wf0) (by rw [HA.out]; exact wf1) (by rw [HA.out]; exact hO1)
                rw [HA.out] at hX
                have hBx : Below wr.heap.size wr (w3.alloc (.cells ([.int .i64 x0, .int .i64 (x1 * 256 + x2), .slice A2 x3.length c2].toArray) 98)) := bel_alloc hs1 _
                obtain ⟨xs, hrow, hpush⟩ := (hG.below hBx).row
                have hS2 : Src (w3.alloc (.cells ([.int .i64 x0, .int .i64 (x1 * 256 + x2), .slice A2 x3.length c2].toArray) 98)) 3 (some ⟨w3.heap.size, 0, none⟩) 1 [.int .i64 x0, .int .i64 (x1 * 256 + x2), .slice A2 x3.length c2] := Src.of_box w3 98 [.int .i64 x0, .int .i64 (x1 * 256 + x2), .slice A2 x3.length c2] (K := 3) rfl
                have tz : (Value.agg #[Value.int .i64 0, Value.int .i64 0, Value.slice none 0 0]).cells.size = 3 := (by first | rfl | (simp [Value.cells]; done))
                have t0 : ∀ u ∈ ([.int .i64 x0, .int .i64 (x1 * 256 + x2), .slice A2 x3.length c2] : List Value), u.oneCell' = true := (by intro u hu; simp only [List.mem_cons, List.not_mem_nil, or_false] at hu; rcases hu with rfl | rfl | rfl <;> rfl)
                have t1 : (rdL l j).length + 1 ≤ maxLen := (by simp only [maxLen]; rw [HLL.out]; omega)
                have t2 : ((rdL l j).length + 1) * 40 ≤ 140737488355328 := (by rw [HLL.out]; omega)
                have t3 := hBx.size
                refine step_app5 _ (by rfl) (.tmp 40) (.tmp 61) _ (by rfl) (w.heap.size + 2) 98 i1 _ 3 40 Try.underlying52 hj0 hj1 hj2 hj3 tz (by omega) v _ xs (by rfl) hrow _ 1 1 [.int .i64 x0, .int .i64 (x1 * 256 + x2), .slice A2 x3.length c2] (by rfl) hS2 t0 t1 t2 (by omega) ?_
                intro v2 w2 hown2 hgr2 hat2
                have hOel : tHeld.O (w3.alloc (.cells ([.int .i64 x0, .int .i64 (x1 * 256 + x2), .slice A2 x3.length c2].toArray) 98)) [.int .i64 x0, .int .i64 (x1 * 256 + x2), .slice A2 x3.length c2] (x0, x1 * 256 + x2, x3) Fx := Ty.below (t := tHeld) hX (belx)
                have hNel : New (w.heap.size + 2) Fx := by rw [eF]; exact hN1.lower (by omega)
                have hdis : ∀ f ∈ Fx, f ∉ F := (fun f h1 h2 => by rw [eF] at h1; have := hN1.2 _ h1; have := hlt2 f h2; omega)
                have hod : ∀ b, v.ownBlock = some b → b ∉ Fx := (fun b hb hx => by rw [eF] at hx; have := (hOwn b hb).2; have := hN1.2 _ hx; omega)
                have hfin := hpush w2 v2 (x0, x1 * 256 + x2, x3) _ Fx hOel hNel hdis hod hown2 hgr2 hat2
                obtain ⟨A9, n9, c9, rfl, -⟩ := hfin.shapeN
                have O2 := Box.grown (w := (w3.alloc (.cells ([.int .i64 x0, .int .i64 (x1 * 256 + x2), .slice A2 x3.length c2].toArray) 98))) (O3.alloc _) hgr2 (fun e => by have := (hOwn (w.heap.size + 1) e.symm).1; omega)
                have Y2 := Box.grown (w := (w3.alloc (.cells ([.int .i64 x0, .int .i64 (x1 * 256 + x2), .slice A2 x3.length c2].toArray) 98))) (Y3.alloc _) hgr2 (fun e => by have := (hOwn w.heap.size e.symm).1; omega)
                have hBf : Below w.heap.size w w2 := Below.grown (w := (w3.alloc (.cells ([.int .i64 x0, .int .i64 (x1 * 256 + x2), .slice A2 x3.length c2].toArray) 98))) (bel_trans hB hBx) hgr2 (by have := hBx.size; omega) (fun b hb => by have := (hOwn b hb).1; omega)
                have z2 := hgr2.size
                have o2c := O2.cell 0
                have o2f := O2.frozen 0
                have GF := hfin.putB (p := ⟨(w.heap.size + 1), 0, none⟩) (by show w.heap.size + 1 < w.heap.size + 2; omega) (.slice A9 n9 c9)
                have OF : Box (w2.setCell ⟨(w.heap.size + 1), 0, none⟩ (.slice A9 n9 c9)) (w.heap.size + 1) 54 #[.slice A9 n9 c9, .slice none 0 0] := O2.put 0 (.slice A9 n9 c9)
                have YF := Y2.far (p := ⟨(w.heap.size + 1), 0, none⟩) (by show ¬ w.heap.size = w.heap.size + 1; omega) (.slice A9 n9 c9)
                have BF : Below w.heap.size w (w2.setCell ⟨(w.heap.size + 1), 0, none⟩ (.slice A9 n9 c9)) := bel_put hBf (by show w.heap.size ≤ w.heap.size + 1; omega) _
                refine hK.out _ _ (by exact kk _ hBf) (fun hHeld => ?_)
                clear hK K
                (try simp only [Act.put, qa_, qb_, qc_])
                refine wpAnyH_take (i := 24) (oi := ⟨some 63, _, _, _, _, _⟩) (v := ?v23) rfl (by kernel_rfl) (by kernel_rfl) (by kernel_rfl) (fun _ _ _ h => h) (Or.inl ⟨by rfl, ?hy23⟩) (by assumption) ?_
                case hy23 => (intro w hSw; (try dsimp only at hSw); go_simp; try (with_reducible rfl))
                (try simp only [Act.put, qa_, qb_, qc_])
                refine wpAnyH_ready (rs := [25]) (by kernel_rfl) (by simp) ?_
                refine AllReadyH.cons rfl (fun K hK => ?_) ?_
                · go_simp
                  refine hK.out _ _ (by exact kk _ BF) (fun hHeld => ?_)
                  clear hK K
                  (try simp only [Act.put, qa_, qb_, qc_])
                  refine wpAnyH_done (by kernel_rfl) ?_ _
                  by_cases hcc : c' = 83
                  · subst hcc
                    obtain rfl : n' = 83 := by omega
                    go_wp2
                    go_roundw
                    case rel => exact ⟨j + 1, _, _, _, _, _, by omega, by go_num, rfl, by omega, by omega, by omega, HIN.out _ (.inl rfl), by rw [HT.out, HA.out]; exact GF, OF, YF, BF, by have h := z2; simp [World.setCell] at h ⊢; omega⟩
                    case measure => simp [intOf]; omega
                  · have nc : ¬ 83 = c' := fun e => hcc e.symm
                    go_wp2
                    go_roundw
                    case rel => exact ⟨j + 1, _, _, _, _, _, by omega, by go_num, rfl, by omega, by omega, by omega, HIN.out _ (.inr rfl), by rw [HT.out, HA.out]; exact GF, OF, YF, BF, by have h := z2; simp [World.setCell] at h ⊢; omega⟩
                    case measure => simp [intOf]; omega
                exact AllReadyH.nil
              exact AllReadyH.nil
            exact AllReadyH.nil
          exact AllReadyH.nil
        refine AllReadyH.cons rfl (fun K hK => ?_) ?_
        · have hE : ((wr.alloc (.cells #[] 5)).drew).ownsRow wr.heap.size 5 1 (.slice (some ⟨wr.heap.size, 0, none⟩) 0 0) 0 [] := World.ownsRow.kept (empty8 wr 5) (row := none) (gb_drew (World.grownBy.refl _ _)) (.inr (by simp [Value.ownBlock]))
          have hS1 : Src ((wr.alloc (.cells #[] 5)).drew) 1 (some ⟨bb, off + 3, none⟩) 80 (x3.map (Value.int .u8)) := Src.of_ints (reach hI3 (bel_trans hB (belx)))
          refine step_app5 _ (by rfl) (.tmp 55) (.tmp 57) _ (by rfl) wr.heap.size 5 i0 _ 1 1 Try.underlying22 hi0 hz0 hz1 hz2 rfl (by omega) (.slice (some ⟨wr.heap.size, 0, none⟩) 0 0) 0 [] (by rfl) hE _ 80 _ (x3.map (Value.int .u8)) (by rfl) hS1 (one_ints _ _) (by simp only [maxLen]; omega) (by omega) (by show _ ≤ (World.alloc _ _).heap.size; simp) ?_
          intro v1 w3 hown hgr hat
          obtain ⟨A2, c2, Fd, rfl, hO1, hN1⟩ := own_slice (Own.of (n := 0 + 80) (by simpa using hown) hI3.2.2)
          have hs1 : Below wr.heap.size wr w3 := Below.grown (w := (wr.alloc (.cells #[] 5)).drew) (belx) hgr (by show _ ≤ (World.alloc _ _).heap.size; simp) (fun b hb => by have e := Option.some.inj (show some wr.heap.size = some b from hb); omega)
          have O3 := Box.below O4 hs1 O4.size
          have Y3 := Box.below Y4 hs1 Y4.size
          have o3c := O3.cell 0
          have OA := O3.alloc (.cells ([.int .i64 x0, .int .i64 (x1 * 256 + x2), .slice A2 x3.length c2].toArray) 98)
          have oAc := OA.cell 0
          have zw1 := hs1.size
          refine hK.out _ _ (by exact kk _ (bel_trans hB hs1)) (fun hHeld => ?_)
          clear hK K
          (try simp only [Act.put, qa_, qb_, qc_])
          refine wpAnyH_take (i := 20) (oi := ⟨some 59, _, _, _, _, _⟩) (v := ?v24) rfl (by kernel_rfl) (by kernel_rfl) (by kernel_rfl) (fun _ _ _ h => h) (Or.inl ⟨by rfl, ?hy24⟩) (by assumption) ?_
          case hy24 => (intro w hSw; (try dsimp only at hSw); go_simp; try (with_reducible rfl))
          (try simp only [Act.put, qa_, qb_, qc_])
          refine wpAnyH_take (i := 21) (oi := ⟨some 60, _, _, _, _, _⟩) (v := ?v25) rfl (by kernel_rfl) (by kernel_rfl) (by kernel_rfl) (fun _ _ _ h => h) (Or.inl ⟨by rfl, ?hy25⟩) (by assumption) ?_
          case hy25 => (intro w hSw; (try dsimp only at hSw); go_simp; try (with_reducible rfl))
          (try simp only [Act.put, qa_, qb_, qc_])
          refine wpAnyH_ready (rs := [1, 22]) (by kernel_rfl) (by simp) ?_
          refine AllReadyH.cons rfl (fun K hK => ?_) ?_
          · go_simp
            refine hK.out _ _ (by exact kk _ (bel_trans hB hs1)) (fun hHeld => ?_)
            clear hK K
            (try simp only [Act.put, qa_, qb_, qc_])
            refine wpAnyH_ready (rs := [22]) (by kernel_rfl) (by simp) ?_
            refine AllReadyH.cons rfl (fun K hK => ?_) ?_
            · go_simp
              refine hK.out _ _ (by exact kk _ (show Below w.heap.size w (w3.alloc (.cells ([.int .i64 x0, .int .i64 (x1 * 256 + x2), .slice A2 x3.length c2].toArray) 98)) from bel_alloc (bel_trans hB hs1) _)) (fun hHeld => ?_)
              clear hK K
              (try simp only [Act.put, qa_, qb_, qc_])
              refine wpAnyH_ready (rs := [23]) (by kernel_rfl) (by simp) ?_
              refine AllReadyH.cons rfl (fun K hK => ?_) ?_
              · obtain ⟨Fx, hX, eF⟩ := makeOHeld (p := heldOf (l.drop k)) (v2 := .slice A2 x3.length c2) (by rw [HA.out]; exact wf0) (by rw [HA.out]; exact wf1) (by rw [HA.out]; exact hO1)
                rw [HA.out] at hX
                have hBx : Below wr.heap.size wr (w3.alloc (.cells ([.int .i64 x0, .int .i64 (x1 * 256 + x2), .slice A2 x3.length c2].toArray) 98)) := bel_alloc hs1 _
                obtain ⟨xs, hrow, hpush⟩ := (hG.below hBx).row
                have hS2 : Src (w3.alloc (.cells ([.int .i64 x0, .int .i64 (x1 * 256 + x2), .slice A2 x3.length c2].toArray) 98)) 3 (some ⟨w3.heap.size, 0, none⟩) 1 [.int .i64 x0, .int .i64 (x1 * 256 + x2), .slice A2 x3.length c2] := Src.of_box w3 98 [.int .i64 x0, .int .i64 (x1 * 256 + x2), .slice A2 x3.length c2] (K := 3) rfl
                have tz : (Value.agg #[Value.int .i64 0, Value.int .i64 0, Value.slice none 0 0]).cells.size = 3 := (by first | rfl | (simp [Value.cells]; done))
                have t0 : ∀ u ∈ ([.int .i64 x0, .int .i64 (x1 * 256 + x2), .slice A2 x3.length c2] : List Value), u.oneCell' = true := (by intro u hu; simp only [List.mem_cons, List.not_mem_nil, or_false] at hu; rcases hu with rfl | rfl | rfl <;> rfl)
                have t1 : (rdL l j).length + 1 ≤ maxLen := (by simp only [maxLen]; rw [HLL.out]; omega)
                have t2 : ((rdL l j).length + 1) * 40 ≤ 140737488355328 := (by rw [HLL.out]; omega)
                have t3 := hBx.size
                refine step_app5 _ (by rfl) (.tmp 40) (.tmp 61) _ (by rfl) (w.heap.size + 2) 98 i1 _ 3 40 Try.underlying52 hj0 hj1 hj2 hj3 tz (by omega) v _ xs (by rfl) hrow _ 1 1 [.int .i64 x0, .int .i64 (x1 * 256 + x2), .slice A2 x3.length c2] (by rfl) hS2 t0 t1 t2 (by omega) ?_
                intro v2 w2 hown2 hgr2 hat2
                have hOel : tHeld.O (w3.alloc (.cells ([.int .i64 x0, .int .i64 (x1 * 256 + x2), .slice A2 x3.length c2].toArray) 98)) [.int .i64 x0, .int .i64 (x1 * 256 + x2), .slice A2 x3.length c2] (x0, x1 * 256 + x2, x3) Fx := Ty.below (t := tHeld) hX (belx)
                have hNel : New (w.heap.size + 2) Fx := by rw [eF]; exact hN1.lower (by omega)
                have hdis : ∀ f ∈ Fx, f ∉ F := (fun f h1 h2 => by rw [eF] at h1; have := hN1.2 _ h1; have := hlt2 f h2; omega)
                have hod : ∀ b, v.ownBlock = some b → b ∉ Fx := (fun b hb hx => by rw [eF] at hx; have := (hOwn b hb).2; have := hN1.2 _ hx; omega)
                have hfin := hpush w2 v2 (x0, x1 * 256 + x2, x3) _ Fx hOel hNel hdis hod hown2 hgr2 hat2
                obtain ⟨A9, n9, c9, rfl, -⟩ := hfin.shapeN
                have O2 := Box.grown (w := (w3.alloc (.cells ([.int .i64 x0, .int .i64 (x1 * 256 + x2), .slice A2 x3.length c2].toArray) 98))) (O3.alloc _) hgr2 (fun e => by have := (hOwn (w.heap.size + 1) e.symm).1; omega)
                have Y2 := Box.grown (w := (w3.alloc (.cells ([.int .i64 x0, .int .i64 (x1 * 256 + x2), .slice A2 x3.length c2].toArray) 98))) (Y3.alloc _) hgr2 (fun e => by have := (hOwn w.heap.size e.symm).1; omega)
                have hBf : Below w.heap.size w w2 := Below.grown (w := (w3.alloc (.cells ([.int .i64 x0, .int .i64 (x1 * 256 + x2), .slice A2 x3.length c2].toArray) 98))) (bel_trans hB hBx) hgr2 (by have := hBx.size; omega) (fun b hb => by have := (hOwn b hb).1; omega)
                have z2 := hgr2.size
                have o2c := O2.cell 0
                have o2f := O2.frozen 0
                have GF := hfin.putB (p := ⟨(w.heap.size + 1), 0, none⟩) (by show w.heap.size + 1 < w.heap.size + 2; omega) (.slice A9 n9 c9)
                have OF : Box (w2.setCell ⟨(w.heap.size + 1), 0, none⟩ (.slice A9 n9 c9)) (w.heap.size + 1) 54 #[.slice A9 n9 c9, .slice none 0 0] := O2.put 0 (.slice A9 n9 c9)
                have YF := Y2.far (p := ⟨(w.heap.size + 1), 0, none⟩) (by show ¬ w.heap.size = w.heap.size + 1; omega) (.slice A9 n9 c9)
                have BF : Below w.heap.size w (w2.setCell ⟨(w.heap.size + 1), 0, none⟩ (.slice A9 n9 c9)) := bel_put hBf (by show w.heap.size ≤ w.heap.size + 1; omega) _
                refine hK.out _ _ (by exact kk _ hBf) (fun hHeld => ?_)
                clear hK K
                (try simp only [Act.put, qa_, qb_, qc_])
                refine wpAnyH_take (i := 24) (oi := ⟨some 63, _, _, _, _, _⟩) (v := ?v26) rfl (by kernel_rfl) (by kernel_rfl) (by kernel_rfl) (fun _ _ _ h => h) (Or.inl ⟨by rfl, ?hy26⟩) (by assumption) ?_
                case hy26 => (intro w hSw; (try dsimp only at hSw); go_simp; try (with_reducible rfl))
                (try simp only [Act.put, qa_, qb_, qc_])
                refine wpAnyH_ready (rs := [25]) (by kernel_rfl) (by simp) ?_
                refine AllReadyH.cons rfl (fun K hK => ?_) ?_
                · go_simp
                  refine hK.out _ _ (by exact kk _ BF) (fun hHeld => ?_)
                  clear hK K
                  (try simp only [Act.put, qa_, qb_, qc_])
                  refine wpAnyH_done (by kernel_rfl) ?_ _
                  by_cases hcc : c' = 83
                  · subst hcc
                    obtain rfl : n' = 83 := by omega
                    go_wp2
                    go_roundw
                    case rel => exact ⟨j + 1, _, _, _, _, _, by omega, by go_num, rfl, by omega, by omega, by omega, HIN.out _ (.inl rfl), by rw [HT.out, HA.out]; exact GF, OF, YF, BF, by have h := z2; simp [World.setCell] at h ⊢; omega⟩
                    case measure => simp [intOf]; omega
                  · have nc : ¬ 83 = c' := fun e => hcc e.symm
                    go_wp2
                    go_roundw
                    case rel => exact ⟨j + 1, _, _, _, _, _, by omega, by go_num, rfl, by omega, by omega, by omega, HIN.out _ (.inr rfl), by rw [HT.out, HA.out]; exact GF, OF, YF, BF, by have h := z2; simp [World.setCell] at h ⊢; omega⟩
                    case measure => simp [intOf]; omega
                exact AllReadyH.nil
              exact AllReadyH.nil
            exact AllReadyH.nil
          refine AllReadyH.cons rfl (fun K hK => ?_) ?_
          · go_simp
            refine hK.out _ _ (by exact kk _ (show Below w.heap.size w (w3.alloc (.cells ([.int .i64 x0, .int .i64 (x1 * 256 + x2), .slice A2 x3.length c2].toArray) 98)) from bel_alloc (bel_trans hB hs1) _)) (fun hHeld => ?_)
            clear hK K
            (try simp only [Act.put, qa_, qb_, qc_])
            refine wpAnyH_ready (rs := [1]) (by kernel_rfl) (by simp) ?_
            refine AllReadyH.cons rfl (fun K hK => ?_) ?_
            · go_simp
              refine hK.out _ _ (by exact kk _ (show Below w.heap.size w (w3.alloc (.cells ([.int .i64 x0, .int .i64 (x1 * 256 + x2), .slice A2 x3.length c2].toArray) 98)) from bel_alloc (bel_trans hB hs1) _)) (fun hHeld => ?_)
              clear hK K
              (try simp only [Act.put, qa_, qb_, qc_])
              refine wpAnyH_ready (rs := [23]) (by kernel_rfl) (by simp) ?_
              refine AllReadyH.cons rfl (fun K hK => ?_) ?_
              · obtain ⟨Fx, hX, eF⟩ := makeOHeld (p := heldOf (l.drop k)) (v2 := .slice A2 x3.length c2) (by rw [HA.out]; exact wf0) (by rw [HA.out]; exact wf1) (by rw [HA.out]; exact hO1)
                rw [HA.out] at hX
                have hBx : Below wr.heap.size wr (w3.alloc (.cells ([.int .i64 x0, .int .i64 (x1 * 256 + x2), .slice A2 x3.length c2].toArray) 98)) := bel_alloc hs1 _
                obtain ⟨xs, hrow, hpush⟩ := (hG.below hBx).row
                have hS2 : Src (w3.alloc (.cells ([.int .i64 x0, .int .i64 (x1 * 256 + x2), .slice A2 x3.length c2].toArray) 98)) 3 (some ⟨w3.heap.size, 0, none⟩) 1 [.int .i64 x0, .int .i64 (x1 * 256 + x2), .slice A2 x3.length c2] := Src.of_box w3 98 [.int .i64 x0, .int .i64 (x1 * 256 + x2), .slice A2 x3.length c2] (K := 3) rfl
                have tz : (Value.agg #[Value.int .i64 0, Value.int .i64 0, Value.slice none 0 0]).cells.size = 3 := (by first | rfl | (simp [Value.cells]; done))
                have t0 : ∀ u ∈ ([.int .i64 x0, .int .i64 (x1 * 256 + x2), .slice A2 x3.length c2] : List Value), u.oneCell' = true := (by intro u hu; simp only [List.mem_cons, List.not_mem_nil, or_false] at hu; rcases hu with rfl | rfl | rfl <;> rfl)
                have t1 : (rdL l j).length + 1 ≤ maxLen := (by simp only [maxLen]; rw [HLL.out]; omega)
                have t2 : ((rdL l j).length + 1) * 40 ≤ 140737488355328 := (by rw [HLL.out]; omega)
                have t3 := hBx.size
                refine step_app5 _ (by rfl) (.tmp 40) (.tmp 61) _ (by rfl) (w.heap.size + 2) 98 i1 _ 3 40 Try.underlying52 hj0 hj1 hj2 hj3 tz (by omega) v _ xs (by rfl) hrow _ 1 1 [.int .i64 x0, .int .i64 (x1 * 256 + x2), .slice A2 x3.length c2] (by rfl) hS2 t0 t1 t2 (by omega) ?_
                intro v2 w2 hown2 hgr2 hat2
                have hOel : tHeld.O (w3.alloc (.cells ([.int .i64 x0, .int .i64 (x1 * 256 + x2), .slice A2 x3.length c2].toArray) 98)) [.int .i64 x0, .int .i64 (x1 * 256 + x2), .slice A2 x3.length c2] (x0, x1 * 256 + x2, x3) Fx := Ty.below (t := tHeld) hX (belx)
                have hNel : New (w.heap.size + 2) Fx := by rw [eF]; exact hN1.lower (by omega)
                have hdis : ∀ f ∈ Fx, f ∉ F := (fun f h1 h2 => by rw [eF] at h1; have := hN1.2 _ h1; have := hlt2 f h2; omega)
                have hod : ∀ b, v.ownBlock = some b → b ∉ Fx := (fun b hb hx => by rw [eF] at hx; have := (hOwn b hb).2; have := hN1.2 _ hx; omega)
                have hfin := hpush w2 v2 (x0, x1 * 256 + x2, x3) _ Fx hOel hNel hdis hod hown2 hgr2 hat2
                obtain ⟨A9, n9, c9, rfl, -⟩ := hfin.shapeN
                have O2 := Box.grown (w := (w3.alloc (.cells ([.int .i64 x0, .int .i64 (x1 * 256 + x2), .slice A2 x3.length c2].toArray) 98))) (O3.alloc _) hgr2 (fun e => by have := (hOwn (w.heap.size + 1) e.symm).1; omega)
                have Y2 := Box.grown (w := (w3.alloc (.cells ([.int .i64 x0, .int .i64 (x1 * 256 + x2), .slice A2 x3.length c2].toArray) 98))) (Y3.alloc _) hgr2 (fun e => by have := (hOwn w.heap.size e.symm).1; omega)
                have hBf : Below w.heap.size w w2 := Below.grown (w := (w3.alloc (.cells ([.int .i64 x0, .int .i64 (x1 * 256 + x2), .slice A2 x3.length c2].toArray) 98))) (bel_trans hB hBx) hgr2 (by have := hBx.size; omega) (fun b hb => by have := (hOwn b hb).1; omega)
                have z2 := hgr2.size
                have o2c := O2.cell 0
                have o2f := O2.frozen 0
                have GF := hfin.putB (p := ⟨(w.heap.size + 1), 0, none⟩) (by show w.heap.size + 1 < w.heap.size + 2; omega) (.slice A9 n9 c9)
                have OF : Box (w2.setCell ⟨(w.heap.size + 1), 0, none⟩ (.slice A9 n9 c9)) (w.heap.size + 1) 54 #[.slice A9 n9 c9, .slice none 0 0] := O2.put 0 (.slice A9 n9 c9)
                have YF := Y2.far (p := ⟨(w.heap.size + 1), 0, none⟩) (by show ¬ w.heap.size = w.heap.size + 1; omega) (.slice A9 n9 c9)
                have BF : Below w.heap.size w (w2.setCell ⟨(w.heap.size + 1), 0, none⟩ (.slice A9 n9 c9)) := bel_put hBf (by show w.heap.size ≤ w.heap.size + 1; omega) _
                refine hK.out _ _ (by exact kk _ hBf) (fun hHeld => ?_)
                clear hK K
                (try simp only [Act.put, qa_, qb_, qc_])
                refine wpAnyH_take (i := 24) (oi := ⟨some 63, _, _, _, _, _⟩) (v := ?v27) rfl (by kernel_rfl) (by kernel_rfl) (by kernel_rfl) (fun _ _ _ h => h) (Or.inl ⟨by rfl, ?hy27⟩) (by assumption) ?_
                case hy27 => (intro w hSw; (try dsimp only at hSw); go_simp; try (with_reducible rfl))
                (try simp only [Act.put, qa_, qb_, qc_])
                refine wpAnyH_ready (rs := [25]) (by kernel_rfl) (by simp) ?_
                refine AllReadyH.cons rfl (fun K hK => ?_) ?_
                · go_simp
                  refine hK.out _ _ (by exact kk _ BF) (fun hHeld => ?_)
                  clear hK K
                  (try simp only [Act.put, qa_, qb_, qc_])
                  refine wpAnyH_done (by kernel_rfl) ?_ _
                  by_cases hcc : c' = 83
                  · subst hcc
                    obtain rfl : n' = 83 := by omega
                    go_wp2
                    go_roundw
                    case rel => exact ⟨j + 1, _, _, _, _, _, by omega, by go_num, rfl, by omega, by omega, by omega, HIN.out _ (.inl rfl), by rw [HT.out, HA.out]; exact GF, OF, YF, BF, by have h := z2; simp [World.setCell] at h ⊢; omega⟩
                    case measure => simp [intOf]; omega
                  · have nc : ¬ 83 = c' := fun e => hcc e.symm
                    go_wp2
                    go_roundw
                    case rel => exact ⟨j + 1, _, _, _, _, _, by omega, by go_num, rfl, by omega, by omega, by omega, HIN.out _ (.inr rfl), by rw [HT.out, HA.out]; exact GF, OF, YF, BF, by have h := z2; simp [World.setCell] at h ⊢; omega⟩
                    case measure => simp [intOf]; omega
                exact AllReadyH.nil
              exact AllReadyH.nil
            exact AllReadyH.nil
          exact AllReadyH.nil
        exact AllReadyH.nil
      exact AllReadyH.nil
    · obtain rfl : N = j := by omega
      obtain ⟨A9, c9, F9, rfl, hO9, hN9⟩ := hG.done
      have q1 : ¬ (N : Int) < (N : Int) := by omega
      have h9b : w.heap.size + 1 ∉ F9 := fun h => by have := hN9.2 _ h; omega
      obtain ⟨w1, hw1⟩ : ∃ x, x = wr := ⟨_, rfl⟩
      subst hw1
      have h9l : ∀ f ∈ F9, f < w1.heap.size := fun f hf => tHeld.row.lt hO9 f hf
      clear hG
      go_wp2_with fail
      go_loopw [0, 9] (fun t i wr => ∃ (j : Nat) (A' : Option Addr) (n' c' : Nat) (u : Value), j ≤ M ∧ i = .int .i64 j ∧ t = .slice A' n' c' ∧ n' + 2 + 83 * N + 4 * j = n ∧ n' ≤ c' ∧ c' ≤ 9223372036854775807 ∧ Ints .u8 w w.heap.size A' n' (l.drop (2 + 83 * N + 4 * j)) ∧ tHeld.row.O wr [.slice A9 (rdL l N).length c9] (rdL l N) F9 ∧ Own .i64 3 wr w1.heap.size u (rdT l N j) ∧ Box wr (w.heap.size + 1) 54 #[.slice A9 (rdL l N).length c9, u] ∧ Box wr w.heap.size 54 #[.slice none 0 0, .slice none 0 0] ∧ Below w.heap.size w wr ∧ w1.heap.size ≤ wr.heap.size) (fun _ i _ => M - (intOf i).toNat)
      case atStart => exact ⟨0, A', n', c', .slice none 0 0, by omega, rfl, rfl, by omega, by omega, by omega, hI, hO9, Own.nil _ _ _ _, O4, Y4, hB, Nat.le_refl _⟩
      case round =>
        clear hO9 O4 Y4 hB hI hn' hnc' hcm'
        obtain ⟨j, A', n', c', u, hj, rfl, rfl, hn', hnc', hcm', hI, hO9, hU, O4, Y4, hB, zr2⟩ := hrel
        by_cases hlt : j < M
        · obtain ⟨k, hk⟩ : ∃ k, 2 + 83 * N + 4 * j = k := ⟨_, rfl⟩
          have HT := Lib.hid (rdT_snoc l N j)
          rw [hk] at hI HT
          have HTL := Lib.hid (rdT_len l N j)
          have hn4 : 4 ≤ n' := by omega
          obtain ⟨bb, off, rfl, -, -, -⟩ := hI.at_ (i := 0) (by omega)
          obtain ⟨y, hy⟩ : ∃ y, get4 (l.drop k) = y := ⟨_, rfl⟩
          have HY := Lib.hid hy
          have wfy : (Lit.int .i64 y).wf = true := by
            have h := hI.bytes
            have b0 := h.at_ 0; have b1 := h.at_ 1; have b2 := h.at_ 2; have b3 := h.at_ 3
            rw [← hy]; unfold get4
            exact wf_i64 (by omega) (by omega)
          have HIN := Lib.hid (show ∀ A2 : Option Addr, (n' - 4 = 0 ∨ A2 = some ⟨bb, off + 4, none⟩) → Ints .u8 w w.heap.size A2 (n' - 4) (l.drop (2 + 83 * N + 4 * (j + 1))) from by
            intro A2 hA2
            have h := tail8 hI 4 hn4
            rw [List.drop_drop, show k + 4 = 2 + 83 * N + 4 * (j + 1) from by omega] at h
            rcases hA2 with h0 | rfl
            · rw [h0] at h ⊢; exact ⟨h.1, fun h => absurd h (by omega), h.2.2⟩
            · exact h)
          have o4c := O4.cell 1
          have hUo := hU.1.lt
          have q1 : (j : Int) < (M : Int) := by omega
          have q5 : (4 : Int) ≤ (c' : Int) := by omega
          have q6 : (4 : Int) ≤ (n' : Int) := by omega
          clear hy
          go_wp2_with fail
          refine wp_region_held_drew (S := (fun _ => True)) (by kernel_rfl) (by trivial) (fun hHeld => ?_)
          refine wpAnyH_take (i := 0) (oi := ⟨some 71, _, _, _, _, _⟩) (v := ?v28) rfl (by kernel_rfl) (by kernel_rfl) (by kernel_rfl) (fun _ _ _ h => h) (Or.inl ⟨by rfl, ?hy28⟩) (by assumption) ?_
          case hy28 => (intro w hSw; (try dsimp only at hSw); go_simp; try (with_reducible rfl))
          (try simp only [Act.put, qa_, qb_, qc_])
          refine wpAnyH_take (i := 2) (oi := ⟨some 73, _, _, _, _, _⟩) (v := ?v29) rfl (by kernel_rfl) (by kernel_rfl) (by kernel_rfl) (fun _ _ _ h => h) (Or.inl ⟨by rfl, ?hy29⟩) (by assumption) ?_
          case hy29 => (intro w hSw; (try dsimp only at hSw); go_simp; try (with_reducible rfl))
          (try simp only [Act.put, qa_, qb_, qc_])
          refine wpAnyH_ready (rs := [1, 3]) (by kernel_rfl) (by simp) ?_
          refine AllReadyH.cons rfl (fun K hK => ?_) ?_
          · go_simp
            refine hK.out _ _ (by trivial) (fun hHeld => ?_)
            clear hK K
            (try simp only [Act.put, qa_, qb_, qc_])
            refine wpAnyH_ready (rs := [3]) (by kernel_rfl) (by simp) ?_
            refine AllReadyH.cons rfl (fun K hK => ?_) ?_
            · go_simp
              go_at_call 102
              refine (s_get (hI.below (show Below w.heap.size w wr.drew from bel_drew hB)) (by omega) (by omega)).mono ?_
              rintro e w5 ⟨he, q, hq⟩
              rw [HY.out] at he
              subst he
              have hs1 : Below wr.heap.size wr w5 := by rw [hq]; exact (belx)
              clear hq
              have O5 := Box.below O4 hs1 O4.size
              have Y5 := Box.below Y4 hs1 Y4.size
              have o5c := O5.cell 1
              have oAc := (O5.alloc (.cells #[.int .i64 y] 3)).cell 1
              have zw1 := hs1.size
              go_wp2_with fail
              refine hK.out _ _ (by trivial) (fun hHeld => ?_)
              clear hK K
              (try simp only [Act.put, qa_, qb_, qc_])
              refine wpAnyH_ready (rs := [4]) (by kernel_rfl) (by simp) ?_
              refine AllReadyH.cons rfl (fun K hK => ?_) ?_
              · go_simp
                refine hK.out _ _ (by trivial) (fun hHeld => ?_)
                clear hK K
                (try simp only [Act.put, qa_, qb_, qc_])
                refine wpAnyH_ready (rs := [5]) (by kernel_rfl) (by simp) ?_
                refine AllReadyH.cons rfl (fun K hK => ?_) ?_
                · have hBx : Below wr.heap.size wr (w5.alloc (.cells #[.int .i64 y] 3)) := bel_alloc hs1 _
                  have hU5 := hU.below hBx
                  have hS2 : Src (w5.alloc (.cells #[.int .i64 y] 3)) 1 (some ⟨w5.heap.size, 0, none⟩) 1 ([y].map (Value.int .i64)) := Src.of_box w5 3 [.int .i64 y] (K := 1) rfl
                  have t3 := hBx.size
                  refine step_app5 _ (by rfl) (.tmp 72) (.tmp 75) _ (by rfl) w1.heap.size 3 k0 _ 1 8 Try.underlying23 hk0 hk1 hk2 hk3 rfl (by omega) u _ _ (by rfl) hU5.1 _ 1 1 ([y].map (Value.int .i64)) (by rfl) hS2 (one_ints _ _) (by simp only [maxLen]; rw [HTL.out]; omega) (by rw [HTL.out]; omega) (by omega) ?_
                  intro v2 w2 hown2 hgr2 hat2
                  have hU2 := Own.of (k := .i64) (l := rdT l N j ++ [y]) (by rw [List.map_append]; exact hown2) (fun x hx => by rcases List.mem_append.1 hx with hx | hx; exact hU.2 x hx; rw [List.mem_singleton.1 hx]; exact wfy)
                  obtain ⟨A7, c7, hv, -, -, -⟩ := hU2.ints
                  obtain ⟨m7, hm7⟩ : ∃ m, (rdT l N j ++ [y]).length = m := ⟨_, rfl⟩
                  rw [hm7] at hv
                  subst hv
                  clear hm7
                  have O2 := Box.grown (w := (w5.alloc (.cells #[.int .i64 y] 3))) (O5.alloc _) hgr2 (fun e => by have := (hUo (w.heap.size + 1) e.symm).1; omega)
                  have Y2 := Box.grown (w := (w5.alloc (.cells #[.int .i64 y] 3))) (Y5.alloc _) hgr2 (fun e => by have := (hUo w.heap.size e.symm).1; omega)
                  have hBf : Below w.heap.size w w2 := Below.grown (w := (w5.alloc (.cells #[.int .i64 y] 3))) (bel_trans hB hBx) hgr2 (by have := hBx.size; omega) (fun b hb => by have := (hUo b hb).1; omega)
                  have z2 := hgr2.size
                  have o2c := O2.cell 1
                  have o2f := O2.frozen 1
                  have HL2 := own_past (w := (w5.alloc (.cells #[.int .i64 y] 3))) (Ty.below (t := tHeld.row) hO9 hBx) hgr2 (fun b hb hx => by have h1 := (hUo b hb).1; have h2 := h9l b hx; omega)
                  have HLF := Ty.far3 (t := tHeld.row) HL2 (p := ⟨(w.heap.size + 1), 1, none⟩) h9b (.slice A7 m7 c7)
                  have UF := hU2.put1 (p := ⟨(w.heap.size + 1), 1, none⟩) (by show w.heap.size + 1 < w1.heap.size; omega) (.slice A7 m7 c7)
                  have OF : Box (w2.setCell ⟨(w.heap.size + 1), 1, none⟩ (.slice A7 m7 c7)) (w.heap.size + 1) 54 #[.slice A9 (rdL l N).length c9, .slice A7 m7 c7] := O2.put 1 _
                  have YF := Y2.far (p := ⟨(w.heap.size + 1), 1, none⟩) (by show ¬ w.heap.size = w.heap.size + 1; omega) (.slice A7 m7 c7)
                  have BF : Below w.heap.size w (w2.setCell ⟨(w.heap.size + 1), 1, none⟩ (.slice A7 m7 c7)) := bel_put hBf (by show w.heap.size ≤ w.heap.size + 1; omega) _
                  refine hK.out _ _ (by trivial) (fun hHeld => ?_)
                  clear hK K
                  (try simp only [Act.put, qa_, qb_, qc_])
                  refine wpAnyH_take (i := 6) (oi := ⟨some 77, _, _, _, _, _⟩) (v := ?v30) rfl (by kernel_rfl) (by kernel_rfl) (by kernel_rfl) (fun _ _ _ h => h) (Or.inl ⟨by rfl, ?hy30⟩) (by assumption) ?_
                  case hy30 => (intro w hSw; (try dsimp only at hSw); go_simp; try (with_reducible rfl))
                  (try simp only [Act.put, qa_, qb_, qc_])
                  refine wpAnyH_ready (rs := [7]) (by kernel_rfl) (by simp) ?_
                  refine AllReadyH.cons rfl (fun K hK => ?_) ?_
                  · go_simp
                    refine hK.out _ _ (by trivial) (fun hHeld => ?_)
                    clear hK K
                    (try simp only [Act.put, qa_, qb_, qc_])
                    refine wpAnyH_done (by kernel_rfl) ?_ _
                    by_cases hcc : c' = 4
                    · subst hcc
                      obtain rfl : n' = 4 := by omega
                      go_wp2
                      go_roundw
                      case rel => exact ⟨j + 1, _, _, _, _, by omega, by go_num, rfl, by omega, by omega, by omega, HIN.out _ (.inl rfl), HLF, by rw [HT.out, HY.out]; exact UF, OF, YF, BF, by have h := z2; simp [World.setCell] at h ⊢; omega⟩
                      case measure => simp [intOf]; omega
                    · have nc : ¬ 4 = c' := fun e => hcc e.symm
                      go_wp2
                      go_roundw
                      case rel => exact ⟨j + 1, _, _, _, _, by omega, by go_num, rfl, by omega, by omega, by omega, HIN.out _ (.inr rfl), HLF, by rw [HT.out, HY.out]; exact UF, OF, YF, BF, by have h := z2; simp [World.setCell] at h ⊢; omega⟩
                      case measure => simp [intOf]; omega
                  exact AllReadyH.nil
                exact AllReadyH.nil
              exact AllReadyH.nil
            exact AllReadyH.nil
          refine AllReadyH.cons rfl (fun K hK => ?_) ?_
          · go_simp
            go_at_call 102
            refine (s_get (hI.below (show Below w.heap.size w wr.drew from bel_drew hB)) (by omega) (by omega)).mono ?_
            rintro e w5 ⟨he, q, hq⟩
            rw [HY.out] at he
            subst he
            have hs1 : Below wr.heap.size wr w5 := by rw [hq]; exact (belx)
            clear hq
            have O5 := Box.below O4 hs1 O4.size
            have Y5 := Box.below Y4 hs1 Y4.size
            have o5c := O5.cell 1
            have oAc := (O5.alloc (.cells #[.int .i64 y] 3)).cell 1
            have zw1 := hs1.size
            go_wp2_with fail
            refine hK.out _ _ (by trivial) (fun hHeld => ?_)
            clear hK K
            (try simp only [Act.put, qa_, qb_, qc_])
            refine wpAnyH_ready (rs := [1, 4]) (by kernel_rfl) (by simp) ?_
            refine AllReadyH.cons rfl (fun K hK => ?_) ?_
            · go_simp
              refine hK.out _ _ (by trivial) (fun hHeld => ?_)
              clear hK K
              (try simp only [Act.put, qa_, qb_, qc_])
              refine wpAnyH_ready (rs := [4]) (by kernel_rfl) (by simp) ?_
              refine AllReadyH.cons rfl (fun K hK => ?_) ?_
              · go_simp
                refine hK.out _ _ (by trivial) (fun hHeld => ?_)
                clear hK K
                (try simp only [Act.put, qa_, qb_, qc_])
                refine wpAnyH_ready (rs := [5]) (by kernel_rfl) (by simp) ?_
                refine AllReadyH.cons rfl (fun K hK => ?_) ?_
                · have hBx : Below wr.heap.size wr (w5.alloc (.cells #[.int .i64 y] 3)) := bel_alloc hs1 _
                  have hU5 := hU.below hBx
                  have hS2 : Src (w5.alloc (.cells #[.int .i64 y] 3)) 1 (some ⟨w5.heap.size, 0, none⟩) 1 ([y].map (Value.int .i64)) := Src.of_box w5 3 [.int .i64 y] (K := 1) rfl
                  have t3 := hBx.size
                  refine step_app5 _ (by rfl) (.tmp 72) (.tmp 75) _ (by rfl) w1.heap.size 3 k0 _ 1 8 Try.underlying23 hk0 hk1 hk2 hk3 rfl (by omega) u _ _ (by rfl) hU5.1 _ 1 1 ([y].map (Value.int .i64)) (by rfl) hS2 (one_ints _ _) (by simp only [maxLen]; rw [HTL.out]; omega) (by rw [HTL.out]; omega) (by omega) ?_
                  intro v2 w2 hown2 hgr2 hat2
                  have hU2 := Own.of (k := .i64) (l := rdT l N j ++ [y]) (by rw [List.map_append]; exact hown2) (fun x hx => by rcases List.mem_append.1 hx with hx | hx; exact hU.2 x hx; rw [List.mem_singleton.1 hx]; exact wfy)
                  obtain ⟨A7, c7, hv, -, -, -⟩ := hU2.ints
                  obtain ⟨m7, hm7⟩ : ∃ m, (rdT l N j ++ [y]).length = m := ⟨_, rfl⟩
                  rw [hm7] at hv
                  subst hv
                  clear hm7
                  have O2 := Box.grown (w := (w5.alloc (.cells #[.int .i64 y] 3))) (O5.alloc _) hgr2 (fun e => by have := (hUo (w.heap.size + 1) e.symm).1; omega)
                  have Y2 := Box.grown (w := (w5.alloc (.cells #[.int .i64 y] 3))) (Y5.alloc _) hgr2 (fun e => by have := (hUo w.heap.size e.symm).1; omega)
                  have hBf : Below w.heap.size w w2 := Below.grown (w := (w5.alloc (.cells #[.int .i64 y] 3))) (bel_trans hB hBx) hgr2 (by have := hBx.size; omega) (fun b hb => by have := (hUo b hb).1; omega)
                  have z2 := hgr2.size
                  have o2c := O2.cell 1
                  have o2f := O2.frozen 1
                  have HL2 := own_past (w := (w5.alloc (.cells #[.int .i64 y] 3))) (Ty.below (t := tHeld.row) hO9 hBx) hgr2 (fun b hb hx => by have h1 := (hUo b hb).1; have h2 := h9l b hx; omega)
                  have HLF := Ty.far3 (t := tHeld.row) HL2 (p := ⟨(w.heap.size + 1), 1, none⟩) h9b (.slice A7 m7 c7)
                  have UF := hU2.put1 (p := ⟨(w.heap.size + 1), 1, none⟩) (by show w.heap.size + 1 < w1.heap.size; omega) (.slice A7 m7 c7)
                  have OF : Box (w2.setCell ⟨(w.heap.size + 1), 1, none⟩ (.slice A7 m7 c7)) (w.heap.size + 1) 54 #[.slice A9 (rdL l N).length c9, .slice A7 m7 c7] := O2.put 1 _
                  have YF := Y2.far (p := ⟨(w.heap.size + 1), 1, none⟩) (by show ¬ w.heap.size = w.heap.size + 1; omega) (.slice A7 m7 c7)
                  have BF : Below w.heap.size w (w2.setCell ⟨(w.heap.size + 1), 1, none⟩ (.slice A7 m7 c7)) := bel_put hBf (by show w.heap.size ≤ w.heap.size + 1; omega) _
                  refine hK.out _ _ (by trivial) (fun hHeld => ?_)
                  clear hK K
                  (try simp only [Act.put, qa_, qb_, qc_])
                  refine wpAnyH_take (i := 6) (oi := ⟨some 77, _, _, _, _, _⟩) (v := ?v31) rfl (by kernel_rfl) (by kernel_rfl) (by kernel_rfl) (fun _ _ _ h => h) (Or.inl ⟨by rfl, ?hy31⟩) (by assumption) ?_
                  case hy31 => (intro w hSw; (try dsimp only at hSw); go_simp; try (with_reducible rfl))
                  (try simp only [Act.put, qa_, qb_, qc_])
                  refine wpAnyH_ready (rs := [7]) (by kernel_rfl) (by simp) ?_
                  refine AllReadyH.cons rfl (fun K hK => ?_) ?_
                  · go_simp
                    refine hK.out _ _ (by trivial) (fun hHeld => ?_)
                    clear hK K
                    (try simp only [Act.put, qa_, qb_, qc_])
                    refine wpAnyH_done (by kernel_rfl) ?_ _
                    by_cases hcc : c' = 4
                    · subst hcc
                      obtain rfl : n' = 4 := by omega
                      go_wp2
                      go_roundw
                      case rel => exact ⟨j + 1, _, _, _, _, by omega, by go_num, rfl, by omega, by omega, by omega, HIN.out _ (.inl rfl), HLF, by rw [HT.out, HY.out]; exact UF, OF, YF, BF, by have h := z2; simp [World.setCell] at h ⊢; omega⟩
                      case measure => simp [intOf]; omega
                    · have nc : ¬ 4 = c' := fun e => hcc e.symm
                      go_wp2
                      go_roundw
                      case rel => exact ⟨j + 1, _, _, _, _, by omega, by go_num, rfl, by omega, by omega, by omega, HIN.out _ (.inr rfl), HLF, by rw [HT.out, HY.out]; exact UF, OF, YF, BF, by have h := z2; simp [World.setCell] at h ⊢; omega⟩
                      case measure => simp [intOf]; omega
                  exact AllReadyH.nil
                exact AllReadyH.nil
              exact AllReadyH.nil
            refine AllReadyH.cons rfl (fun K hK => ?_) ?_
            · go_simp
              refine hK.out _ _ (by trivial) (fun hHeld => ?_)
              clear hK K
              (try simp only [Act.put, qa_, qb_, qc_])
              refine wpAnyH_ready (rs := [1]) (by kernel_rfl) (by simp) ?_
              refine AllReadyH.cons rfl (fun K hK => ?_) ?_
              · go_simp
                refine hK.out _ _ (by trivial) (fun hHeld => ?_)
                clear hK K
                (try simp only [Act.put, qa_, qb_, qc_])
                refine wpAnyH_ready (rs := [5]) (by kernel_rfl) (by simp) ?_
                refine AllReadyH.cons rfl (fun K hK => ?_) ?_
                · have hBx : Below wr.heap.size wr (w5.alloc (.cells #[.int .i64 y] 3)) := bel_alloc hs1 _
                  have hU5 := hU.below hBx
                  have hS2 : Src (w5.alloc (.cells #[.int .i64 y] 3)) 1 (some ⟨w5.heap.size, 0, none⟩) 1 ([y].map (Value.int .i64)) := Src.of_box w5 3 [.int .i64 y] (K := 1) rfl
                  have t3 := hBx.size
                  refine step_app5 _ (by rfl) (.tmp 72) (.tmp 75) _ (by rfl) w1.heap.size 3 k0 _ 1 8 Try.underlying23 hk0 hk1 hk2 hk3 rfl (by omega) u _ _ (by rfl) hU5.1 _ 1 1 ([y].map (Value.int .i64)) (by rfl) hS2 (one_ints _ _) (by simp only [maxLen]; rw [HTL.out]; omega) (by rw [HTL.out]; omega) (by omega) ?_
                  intro v2 w2 hown2 hgr2 hat2
                  have hU2 := Own.of (k := .i64) (l := rdT l N j ++ [y]) (by rw [List.map_append]; exact hown2) (fun x hx => by rcases List.mem_append.1 hx with hx | hx; exact hU.2 x hx; rw [List.mem_singleton.1 hx]; exact wfy)
                  obtain ⟨A7, c7, hv, -, -, -⟩ := hU2.ints
                  obtain ⟨m7, hm7⟩ : ∃ m, (rdT l N j ++ [y]).length = m := ⟨_, rfl⟩
                  rw [hm7] at hv
                  subst hv
                  clear hm7
                  have O2 := Box.grown (w := (w5.alloc (.cells #[.int .i64 y] 3))) (O5.alloc _) hgr2 (fun e => by have := (hUo (w.heap.size + 1) e.symm).1; omega)
                  have Y2 := Box.grown (w := (w5.alloc (.cells #[.int .i64 y] 3))) (Y5.alloc _) hgr2 (fun e => by have := (hUo w.heap.size e.symm).1; omega)
                  have hBf : Below w.heap.size w w2 := Below.grown (w := (w5.alloc (.cells #[.int .i64 y] 3))) (bel_trans hB hBx) hgr2 (by have := hBx.size; omega) (fun b hb => by have := (hUo b hb).1; omega)
                  have z2 := hgr2.size
                  have o2c := O2.cell 1
                  have o2f := O2.frozen 1
                  have HL2 := own_past (w := (w5.alloc (.cells #[.int .i64 y] 3))) (Ty.below (t := tHeld.row) hO9 hBx) hgr2 (fun b hb hx => by have h1 := (hUo b hb).1; have h2 := h9l b hx; omega)
                  have HLF := Ty.far3 (t := tHeld.row) HL2 (p := ⟨(w.heap.size + 1), 1, none⟩) h9b (.slice A7 m7 c7)
                  have UF := hU2.put1 (p := ⟨(w.heap.size + 1), 1, none⟩) (by show w.heap.size + 1 < w1.heap.size; omega) (.slice A7 m7 c7)
                  have OF : Box (w2.setCell ⟨(w.heap.size + 1), 1, none⟩ (.slice A7 m7 c7)) (w.heap.size + 1) 54 #[.slice A9 (rdL l N).length c9, .slice A7 m7 c7] := O2.put 1 _
                  have YF := Y2.far (p := ⟨(w.heap.size + 1), 1, none⟩) (by show ¬ w.heap.size = w.heap.size + 1; omega) (.slice A7 m7 c7)
                  have BF : Below w.heap.size w (w2.setCell ⟨(w.heap.size + 1), 1, none⟩ (.slice A7 m7 c7)) := bel_put hBf (by show w.heap.size ≤ w.heap.size + 1; omega) _
                  refine hK.out _ _ (by trivial) (fun hHeld => ?_)
                  clear hK K
                  (try simp only [Act.put, qa_, qb_, qc_])
                  refine wpAnyH_take (i := 6) (oi := ⟨some 77, _, _, _, _, _⟩) (v := ?v32) rfl (by kernel_rfl) (by kernel_rfl) (by kernel_rfl) (fun _ _ _ h => h) (Or.inl ⟨by rfl, ?hy32⟩) (by assumption) ?_
                  case hy32 => (intro w hSw; (try dsimp only at hSw); go_simp; try (with_reducible rfl))
                  (try simp only [Act.put, qa_, qb_, qc_])
                  refine wpAnyH_ready (rs := [7]) (by kernel_rfl) (by simp) ?_
                  refine AllReadyH.cons rfl (fun K hK => ?_) ?_
                  · go_simp
                    refine hK.out _ _ (by trivial) (fun hHeld => ?_)
                    clear hK K
                    (try simp only [Act.put, qa_, qb_, qc_])
                    refine wpAnyH_done (by kernel_rfl) ?_ _
                    by_cases hcc : c' = 4
                    · subst hcc
                      obtain rfl : n' = 4 := by omega
                      go_wp2
                      go_roundw
                      case rel => exact ⟨j + 1, _, _, _, _, by omega, by go_num, rfl, by omega, by omega, by omega, HIN.out _ (.inl rfl), HLF, by rw [HT.out, HY.out]; exact UF, OF, YF, BF, by have h := z2; simp [World.setCell] at h ⊢; omega⟩
                      case measure => simp [intOf]; omega
                    · have nc : ¬ 4 = c' := fun e => hcc e.symm
                      go_wp2
                      go_roundw
                      case rel => exact ⟨j + 1, _, _, _, _, by omega, by go_num, rfl, by omega, by omega, by omega, HIN.out _ (.inr rfl), HLF, by rw [HT.out, HY.out]; exact UF, OF, YF, BF, by have h := z2; simp [World.setCell] at h ⊢; omega⟩
                      case measure => simp [intOf]; omega
                  exact AllReadyH.nil
                exact AllReadyH.nil
              exact AllReadyH.nil
            exact AllReadyH.nil
          exact AllReadyH.nil
        · obtain rfl : M = j := by omega
          have q1 : ¬ (M : Int) < (M : Int) := by omega
          obtain ⟨A7, c7, F7, rfl, hO7, hN7⟩ := own_slice hU
          obtain rfl : n' = rr := by have := HRR.out; omega
          have hRP : tPool.R wr.drew wr.drew.heap.size [.slice A9 (rdL l N).length c9, .slice A7 (rdT l N M).length c7] (rdL l N, rdT l N M) := tPool.keep (makePool (p := (rdL l N, rdT l N M)) (tHeld.row.read hO9) (tIs.read hO7)) (fun _ _ => rfl)
          have hzP : szPool (rdL l N, rdT l N M) ≤ 1048576 := by
            have a1 := rdL_sz l N; have a2 := rdT_len l N M
            show rsz szHeld (rdL l N) + (rdT l N M).length ≤ _
            omega
          have o0 := O4.cell 0; have o1 := O4.cell 1
          clear hU
          go_wp2_with fail
          refine wp_region_held_drew (S := (fun w' => w'.cell? ⟨(w.heap.size + 1), 0, none⟩ = some (.slice A9 (rdL l N).length c9) ∧ w'.cell? ⟨(w.heap.size + 1), 1, none⟩ = some (.slice A7 (rdT l N M).length c7))) (by kernel_rfl) (by exact ⟨o0, o1⟩) (fun hHeld => ?_)
          refine wpAnyH_take (i := 0) (oi := ⟨some 80, _, _, _, _, _⟩) (v := ?v33) rfl (by kernel_rfl) (by kernel_rfl) (by kernel_rfl) (fun _ _ _ h => h) (Or.inl ⟨by rfl, ?hy33⟩) (by assumption) ?_
          case hy33 => (intro w hSw; (try dsimp only at hSw); go_simp; try (with_reducible rfl))
          (try simp only [Act.put, qa_, qb_, qc_])
          refine wpAnyH_take (i := 1) (oi := ⟨some 81, _, _, _, _, _⟩) (v := ?v34) rfl (by kernel_rfl) (by kernel_rfl) (by kernel_rfl) (fun _ _ _ h => h) (Or.inl ⟨by rfl, ?hy34⟩) (by assumption) ?_
          case hy34 => (intro w hSw; (try dsimp only at hSw); go_simp; try (with_reducible rfl))
          (try simp only [Act.put, qa_, qb_, qc_])
          refine wpAnyH_take (i := 2) (oi := ⟨some 82, _, _, _, _, _⟩) (v := ?v35) rfl (by kernel_rfl) (by kernel_rfl) (by kernel_rfl) (fun _ _ _ h => h) (Or.inl ⟨by rfl, ?hy35⟩) (by assumption) ?_
          case hy35 => (intro w hSw; (try dsimp only at hSw); go_simp; try (with_reducible rfl))
          (try simp only [Act.put, qa_, qb_, qc_])
          refine wpAnyH_ready (rs := [3]) (by kernel_rfl) (by simp) ?_
          refine AllReadyH.cons rfl (fun K hK => ?_) ?_
          · go_simp
            go_at_call 103
            refine (s_PoolOk (cs := [.slice A9 (rdL l N).length c9, .slice A7 (rdT l N M).length c7]) hRP hzP).mono ?_
            rintro e w5 ⟨rfl, hb5⟩
            rw [HBK.out]
            have hs1 : Below wr.heap.size wr w5 := bel_trans (show Below wr.heap.size wr wr.drew from (belx)) hb5
            have O5 := Box.below O4 hs1 O4.size
            have Y5 := Box.below Y4 hs1 Y4.size
            have q0 := Y5.cell 0
            have q1_ := Y5.cell 1
            have f0 := Y5.frozen 0
            have f1 := Y5.frozen 1
            have O8 := (O5.far (p := ⟨w.heap.size, 0, none⟩) (by show ¬ w.heap.size + 1 = w.heap.size; omega) (.slice A9 (rdL l N).length c9)).far (p := ⟨w.heap.size, 1, none⟩) (by show ¬ w.heap.size + 1 = w.heap.size; omega) (.slice A7 (rdT l N M).length c7)
            go_wp2_with fail
            refine hK.out _ _ (by exact ⟨O5.cell 0, O5.cell 1⟩) (fun hHeld => ?_)
            clear hK K
            (try simp only [Act.put, qa_, qb_, qc_])
            refine wpAnyH_ready (rs := [4]) (by kernel_rfl) (by simp) ?_
            refine AllReadyH.cons rfl (fun K hK => ?_) ?_
            · go_simp
              refine hK.out _ _ (by exact ⟨O8.cell 0, O8.cell 1⟩) (fun hHeld => ?_)
              clear hK K
              (try simp only [Act.put, qa_, qb_, qc_])
              refine wpAnyH_take (i := 5) (oi := ⟨some 3, _, _, _, _, _⟩) (v := ?v36) rfl (by kernel_rfl) (by kernel_rfl) (by kernel_rfl) (fun _ _ _ h => h) (Or.inl ⟨by rfl, ?hy36⟩) (by assumption) ?_
              case hy36 => (intro w hSw; (try dsimp only at hSw); go_simp; try (with_reducible rfl))
              (try simp only [Act.put, qa_, qb_, qc_])
              refine wpAnyH_take (i := 6) (oi := ⟨some 4, _, _, _, _, _⟩) (v := ?v37) rfl (by kernel_rfl) (by kernel_rfl) (by kernel_rfl) (fun _ _ _ h => h) (Or.inl ⟨by rfl, ?hy37⟩) (by assumption) ?_
              case hy37 => (intro w hSw; (try dsimp only at hSw); go_simp; try (with_reducible rfl))
              (try simp only [Act.put, qa_, qb_, qc_])
              refine wpAnyH_done (by kernel_rfl) ?_ _
              go_wp2
              have RR := (Y5.put 0 (.slice A9 (rdL l N).length c9)).put 1 (.slice A7 (rdT l N M).length c7)
              have e0 := RR.cell 0
              have e1 := RR.cell 1
              have h7l : ∀ f ∈ F7, w1.heap.size ≤ f := fun f hf => hN7.2 f hf
              have hM : New (w.heap.size + 2) (F9 ++ F7) := new_pair (hN9.lower (by omega)) (hN7.lower (by omega)) (fun f h1 h2 => by have a1 := h9l f h1; have a2 := h7l f h2; omega)
              have hX := put2_Pool (r0 := rdL l N) (l1 := rdT l N M) (F0 := F9) (F1 := F7) (g := w.heap.size) (w := w5) (Ty.below (t := tHeld.row) hO9 hs1) (Ty.below (t := tIs) hO7 hs1) (hM.not (by omega))
              refine bodyPost_ret (v := .tuple #[.agg #[.slice A9 (rdL l N).length c9, .slice A7 (rdT l N M).length c7], .slice A' n' c', .bool bok]) (by simp [results, Try.results69, go_sem, e0, e1]) rfl ⟨[.slice A9 (rdL l N).length c9, .slice A7 (rdT l N M).length c7], A', c', F9 ++ F7, rfl, hX, hM.lower (by omega), ?_⟩
              exact bel_put (bel_put (bel_trans hB hs1) (Nat.le_refl _) _) (Nat.le_refl _) _
            exact AllReadyH.nil
          exact AllReadyH.nil
set_option maxHeartbeats 4000000 in
theorem s_l5readB {w : World} {n c : Nat} {A : Option Addr} {l : List Int} (hd : tBy.R w w.heap.size [.slice A n c] l) (hn : n ≤ 1048576) (h2 : 2 ≤ n) (hs : rdSz l ≤ n) (hc2 : c = 2) :
    Calls Try.prog 69 #[.slice A n c] w fun e w' => ∃ cs A' c' F, e = .returned (.tuple #[.agg cs.toArray, .slice A' (n - rdSz l) c', .bool (decide (PlOk (rdP l)))]) ∧ tPool.O w' cs (rdP l) F ∧ New w.heap.size F ∧ Below w.heap.size w w' := by
  obtain ⟨i0, hi0, hz0, hz1, hz2⟩ := info_parts info_cb
  obtain ⟨i1, hj0, hj1, hj2, hj3⟩ := info_parts info_Held
  obtain ⟨k0, hk0, hk1, hk2, hk3⟩ := info_parts info_it
  obtain ⟨hI0, hnc, hcm⟩ := slR_ints hd
  obtain ⟨ba, of0, rfl, hba, hc0, hw0⟩ := hI0.at_ (i := 0) (by omega)
  obtain ⟨bb, of1, e1, -, hc1, hw1⟩ := hI0.at_ (i := 1) (by omega)
  injection e1 with e1; injection e1 with e1 e1' _; subst e1 e1'
  rw [Nat.add_zero] at hc0
  have r0 := u8_rg' hw0
  have r1 := u8_rg' hw1
  obtain ⟨N, hN⟩ : ∃ N : Nat, rdN l = N := ⟨_, rfl⟩
  obtain ⟨M, hM⟩ : ∃ M : Nat, rdM l = M := ⟨_, rfl⟩
  have e0 : l.getD 0 0 = (N : Int) := by rw [← hN]; unfold rdN; omega
  have e1 : l.getD 1 0 = (M : Int) := by rw [← hM]; unfold rdM; omega
  have HSZ : rdSz l = 2 + 83 * N + 4 * M := by unfold rdSz; rw [hN, hM]
  have HP := Lib.hid (show rdP l = (rdL l N, rdT l N M) by unfold rdP; rw [hN, hM])
  rw [e0] at hc0 r0; rw [e1] at hc1 r1
  rw [HSZ] at hs ⊢
  rw [HP.out]
  obtain ⟨bok, hbok⟩ : ∃ b, decide (PlOk (rdL l N, rdT l N M)) = b := ⟨_, rfl⟩
  rw [hbok]
  have HBK := Lib.hid hbok
  obtain ⟨rr, hrr⟩ : ∃ r, n - (2 + 83 * N + 4 * M) = r := ⟨_, rfl⟩
  rw [hrr]
  have HRR := Lib.hid hrr
  clear hw0 hw1 e0 e1 hN hM HSZ hd hbok hrr
  have p1 : ¬ (n : Int) < 2 := by omega
  have p2 : ¬ (n : Int) < 2 + (N : Int) * 83 + 4 * (M : Int) := by omega
  have p3 : (0 : Int) < (n : Int) := by omega
  have p4 : (1 : Int) < (n : Int) := by omega
  have p5 : (2 : Int) ≤ (n : Int) := by omega
  have v1 : IntKind.i64.wrap ((N : Int) * 83) = (N : Int) * 83 := IntWalk.i64_in _ (by omega)
  have v2 : IntKind.i64.wrap (2 + (N : Int) * 83) = 2 + (N : Int) * 83 := IntWalk.i64_in _ (by omega)
  have v3 : IntKind.i64.wrap (4 * (M : Int)) = 4 * (M : Int) := IntWalk.i64_in _ (by omega)
  have v4 : IntKind.i64.wrap (2 + (N : Int) * 83 + 4 * (M : Int)) = 2 + (N : Int) * 83 + 4 * (M : Int) := IntWalk.i64_in _ (by omega)
  have B1 : Box ((w.alloc (.cells #[.slice none 0 0, .slice none 0 0] 54)).alloc (.cells #[.slice none 0 0, .slice none 0 0] 54)) w.heap.size 54 #[.slice none 0 0, .slice none 0 0] := (Box.new _ _ _).alloc _
  have B2 : Box ((w.alloc (.cells #[.slice none 0 0, .slice none 0 0] 54)).alloc (.cells #[.slice none 0 0, .slice none 0 0] 54)) (w.heap.size + 1) 54 #[.slice none 0 0, .slice none 0 0] := by simpa using Box.new (w.alloc (.cells #[.slice none 0 0, .slice none 0 0] 54)) 54 #[.slice none 0 0, .slice none 0 0]
  have d0 : ((w.alloc (.cells #[.slice none 0 0, .slice none 0 0] 54)).alloc (.cells #[.slice none 0 0, .slice none 0 0] 54)).cell? ⟨ba, of0, none⟩ = some (.int .u8 (N : Int)) := cell_bel (belx) hc0
  have d1 : ((w.alloc (.cells #[.slice none 0 0, .slice none 0 0] 54)).alloc (.cells #[.slice none 0 0, .slice none 0 0] 54)).cell? ⟨ba, of0 + 1, none⟩ = some (.int .u8 (M : Int)) := cell_bel (belx) hc1
  subst hc2
  have hJ : Ints .u8 w w.heap.size (some ⟨ba, of0, none⟩) 0 (l.drop 2) := ⟨by rw [List.length_drop, hI0.1]; omega, fun h => absurd h (by omega), fun y hy => hI0.2.2 y (List.mem_of_mem_drop hy)⟩
  go_enter Try.func69, Try.ntmps69
  go_wp2_with fail
  go_quiet (fail)
  go_wp2_with fail
  go_loopw [0, 8] (fun t i wr => ∃ (j : Nat) (A' : Option Addr) (n' c' : Nat) (v : Value) (F : List Nat), j ≤ N ∧ i = .int .i64 j ∧ t = .slice A' n' c' ∧ n' + 2 + 83 * j = n ∧ n' ≤ c' ∧ c' ≤ 9223372036854775807 ∧ Ints .u8 w w.heap.size A' n' (l.drop (2 + 83 * j)) ∧ GrowO tHeld 98 wr (w.heap.size + 2) v (rdL l j) F ∧ Box wr (w.heap.size + 1) 54 #[v, .slice none 0 0] ∧ Box wr w.heap.size 54 #[.slice none 0 0, .slice none 0 0] ∧ Below w.heap.size w wr ∧ w.heap.size + 2 ≤ wr.heap.size) (fun _ i _ => N - (intOf i).toNat)
  case atStart => exact ⟨0, _, _, _, .slice none 0 0, [], by omega, rfl, rfl, by omega, by omega, by omega, hJ, GrowO.nil, B2, B1, (belx), by simp⟩
  case round =>
    obtain ⟨j, A', n', c', v, F, hj, rfl, rfl, hn', hnc', hcm', hI, hG, O4, Y4, hB, zr⟩ := hrel
    by_cases hlt : j < N
    · obtain ⟨k, hk⟩ : ∃ k, 2 + 83 * j = k := ⟨_, rfl⟩
      have HT := Lib.hid (rdL_snoc l j)
      rw [hk] at hI HT
      have HLL := Lib.hid (rdL_len l j)
      have hn83 : 83 ≤ n' := by omega
      obtain ⟨bb, off, rfl, hbb, hb0, hw0⟩ := hI.at_ (i := 0) (by omega)
      obtain ⟨b1, off1, e1, -, hb1, hw1⟩ := hI.at_ (i := 1) (by omega)
      obtain ⟨b2, off2, e2, -, hb2, hw2⟩ := hI.at_ (i := 2) (by omega)
      injection e1 with e1; injection e1 with e1 e1' _; subst e1 e1'
      injection e2 with e2; injection e2 with e2 e2' _; subst e2 e2'
      rw [Nat.add_zero] at hb0
      obtain ⟨x0, hx0⟩ : ∃ x, (l.drop k).getD 0 0 = x := ⟨_, rfl⟩
      obtain ⟨x1, hx1⟩ : ∃ x, (l.drop k).getD 1 0 = x := ⟨_, rfl⟩
      obtain ⟨x2, hx2⟩ : ∃ x, (l.drop k).getD 2 0 = x := ⟨_, rfl⟩
      have hI3' := head8 (tail8 hI 3 (by omega)) 80 (by omega)
      obtain ⟨x3, hx3⟩ : ∃ x, ((l.drop k).drop 3).take 80 = x := ⟨_, rfl⟩
      rw [hx3] at hI3'
      have hI3 : Ints .u8 w w.heap.size (some ⟨bb, off + 3, none⟩) 80 x3 := hI3'
      have HA := Lib.hid (show heldOf (l.drop k) = (x0, x1 * 256 + x2, x3) by unfold heldOf; rw [hx0, hx1, hx2, hx3])
      rw [hx0] at hb0 hw0; rw [hx1] at hb1 hw1; rw [hx2] at hb2 hw2
      have g0 := u8_rg' hw0; have g1 := u8_rg' hw1; have g2 := u8_rg' hw2
      have wf0 : (Lit.int .i64 x0).wf = true := wf_i64 (by omega) (by omega)
      have wf1 : (Lit.int .i64 (x1 * 256 + x2)).wf = true := wf_i64 (by omega) (by omega)
      have wx0 : IntKind.i64.wrap x0 = x0 := IntWalk.i64_in _ (by omega)
      have wx1 : IntKind.i64.wrap x1 = x1 := IntWalk.i64_in _ (by omega)
      have wx2 : IntKind.i64.wrap x2 = x2 := IntWalk.i64_in _ (by omega)
      have wr1 : IntKind.i64.wrap (x1 * 256) = x1 * 256 := IntWalk.i64_in _ (by omega)
      have wr2 : IntKind.i64.wrap (x1 * 256 + x2) = x1 * 256 + x2 := IntWalk.i64_in _ (by omega)
      have kk : ∀ W : World, Below w.heap.size w W → W.cell? ⟨bb, off, none⟩ = some (.int .u8 x0) ∧ W.cell? ⟨bb, off + 1, none⟩ = some (.int .u8 x1) ∧ W.cell? ⟨bb, off + 2, none⟩ = some (.int .u8 x2) := fun W hW => ⟨cell_bel hW hb0, cell_bel hW hb1, cell_bel hW hb2⟩
      have HIN := Lib.hid (show ∀ A2 : Option Addr, (n' - 83 = 0 ∨ A2 = some ⟨bb, off + 83, none⟩) → Ints .u8 w w.heap.size A2 (n' - 83) (l.drop (2 + 83 * (j + 1))) from by
        intro A2 hA2
        have h := tail8 hI 83 hn83
        rw [List.drop_drop, show k + 83 = 2 + 83 * (j + 1) from by omega] at h
        rcases hA2 with h0 | rfl
        · rw [h0] at h ⊢; exact ⟨h.1, fun h => absurd h (by omega), h.2.2⟩
        · exact h)
      have o4c := O4.cell 0
      have OE := O4.alloc (.cells #[] 5)
      have oEc := OE.cell 0
      have hOwn := fun b hb => (GrowO.row hG).choose_spec.1.lt b hb
      have hlt2 := hG.lt
      have q1 : (j : Int) < (N : Int) := by omega
      have q2 : (0 : Int) < (n' : Int) := by omega
      have q3 : (1 : Int) < (n' : Int) := by omega
      have q4 : (2 : Int) < (n' : Int) := by omega
      have q5 : (83 : Int) ≤ (c' : Int) := by omega
      have q6 : (83 : Int) ≤ (n' : Int) := by omega
      have q7 : ¬ c' = 3 := by omega
      have m0 : 0 < n' := by omega
      have m1 : 1 < n' := by omega
      have m2 : 2 < n' := by omega
      have m3 : 3 ≤ n' := by omega
      have m4 : 83 ≤ c' := by omega
      have q8 : ¬ 3 = c' := by omega
      clear hx0 hx1 hx2 hx3 hI hb0 hb1 hb2 hw0 hw1 hw2 hI3'
      go_wp2_with fail
      refine wp_region_held_drew (S := (fun w' => w'.cell? ⟨bb, off, none⟩ = some (.int .u8 x0) ∧ w'.cell? ⟨bb, off + 1, none⟩ = some (.int .u8 x1) ∧ w'.cell? ⟨bb, off + 2, none⟩ = some (.int .u8 x2))) (by kernel_rfl) (by exact kk _ (bel_drew hB)) (fun hHeld => ?_)
      refine wpAnyH_take (i := 0) (oi := ⟨some 39, _, _, _, _, _⟩) (v := ?v1) rfl (by kernel_rfl) (by kernel_rfl) (by kernel_rfl) (fun _ _ _ h => h) (Or.inl ⟨by rfl, ?hy1⟩) (by assumption) ?_
      case hy1 => (intro w hSw; (try dsimp only at hSw); go_simp; try (with_reducible rfl))
      (try simp only [Act.put, qa_, qb_, qc_])
      refine wpAnyH_take (i := 2) (oi := ⟨some 41, _, _, _, _, _⟩) (v := ?v2) rfl (by kernel_rfl) (by kernel_rfl) (by kernel_rfl) (fun _ _ _ h => h) (Or.inl ⟨by rfl, ?hy2⟩) (by assumption) ?_
      case hy2 => (intro w hSw; (try dsimp only at hSw); go_simp; try (with_reducible rfl))
      (try simp only [Act.put, qa_, qb_, qc_])
      refine wpAnyH_take (i := 3) (oi := ⟨some 42, _, _, _, _, _⟩) (v := ?v3) rfl (by kernel_rfl) (by kernel_rfl) (by kernel_rfl) (fun _ _ _ h => h) (Or.inl ⟨by rfl, ?hy3⟩) (by assumption) ?_
      case hy3 => (intro w hSw; (try dsimp only at hSw); go_simp; try (with_reducible rfl))
      (try simp only [Act.put, qa_, qb_, qc_])
      refine wpAnyH_take (i := 4) (oi := ⟨some 43, _, _, _, _, _⟩) (v := ?v4) rfl (by kernel_rfl) (by kernel_rfl) (by kernel_rfl) (fun _ _ _ h => h) (Or.inl ⟨by rfl, ?hy4⟩) (by assumption) ?_
      case hy4 => (intro w hSw; (try dsimp only at hSw); go_simp; try (with_reducible rfl))
      (try simp only [Act.put, qa_, qb_, qc_])
      refine wpAnyH_take (i := 5) (oi := ⟨some 44, _, _, _, _, _⟩) (v := ?v5) rfl (by kernel_rfl) (by kernel_rfl) (by kernel_rfl) (fun _ _ _ h => h) (Or.inl ⟨by rfl, ?hy5⟩) (by assumption) ?_
      case hy5 => (intro w hSw; (try dsimp only at hSw); go_simp; try (with_reducible rfl))
      (try simp only [Act.put, qa_, qb_, qc_])
      refine wpAnyH_take (i := 6) (oi := ⟨some 45, _, _, _, _, _⟩) (v := ?v6) rfl (by kernel_rfl) (by kernel_rfl) (by kernel_rfl) (fun _ _ _ h => h) (Or.inl ⟨by rfl, ?hy6⟩) (by assumption) ?_
      case hy6 => (intro w hSw; (try dsimp only at hSw); go_simp; try (with_reducible rfl))
      (try simp only [Act.put, qa_, qb_, qc_])
      refine wpAnyH_take (i := 7) (oi := ⟨some 46, _, _, _, _, _⟩) (v := ?v7) rfl (by kernel_rfl) (by kernel_rfl) (by kernel_rfl) (fun _ _ _ h => h) (Or.inl ⟨by rfl, ?hy7⟩) (by assumption) ?_
      case hy7 => (intro w hSw; (try dsimp only at hSw); go_simp; try (with_reducible rfl))
      (try simp only [Act.put, qa_, qb_, qc_])
      refine wpAnyH_take (i := 8) (oi := ⟨some 47, _, _, _, _, _⟩) (v := ?v8) rfl (by kernel_rfl) (by kernel_rfl) (by kernel_rfl) (fun _ _ _ h => h) (Or.inl ⟨by rfl, ?hy8⟩) (by assumption) ?_
      case hy8 => (intro w hSw; (try dsimp only at hSw); go_simp; try (with_reducible rfl))
      (try simp only [Act.put, qa_, qb_, qc_])
      refine wpAnyH_take (i := 9) (oi := ⟨some 48, _, _, _, _, _⟩) (v := ?v9) rfl (by kernel_rfl) (by kernel_rfl) (by kernel_rfl) (fun _ _ _ h => h) (Or.inl ⟨by rfl, ?hy9⟩) (by assumption) ?_
      case hy9 => (intro w hSw; (try dsimp only at hSw); go_simp; try (with_reducible rfl))
      (try simp only [Act.put, qa_, qb_, qc_])
      refine wpAnyH_take (i := 10) (oi := ⟨some 49, _, _, _, _, _⟩) (v := ?v10) rfl (by kernel_rfl) (by kernel_rfl) (by kernel_rfl) (fun _ _ _ h => h) (Or.inl ⟨by rfl, ?hy10⟩) (by assumption) ?_
      case hy10 => (intro w hSw; (try dsimp only at hSw); go_simp; try (with_reducible rfl))
      (try simp only [Act.put, qa_, qb_, qc_])
      refine wpAnyH_take (i := 11) (oi := ⟨some 50, _, _, _, _, _⟩) (v := ?v11) rfl (by kernel_rfl) (by kernel_rfl) (by kernel_rfl) (fun _ _ _ h => h) (Or.inl ⟨by rfl, ?hy11⟩) (by assumption) ?_
      case hy11 => (intro w hSw; (try dsimp only at hSw); go_simp; try (with_reducible rfl))
      (try simp only [Act.put, qa_, qb_, qc_])
      refine wpAnyH_take (i := 12) (oi := ⟨some 51, _, _, _, _, _⟩) (v := ?v12) rfl (by kernel_rfl) (by kernel_rfl) (by kernel_rfl) (fun _ _ _ h => h) (Or.inl ⟨by rfl, ?hy12⟩) (by assumption) ?_
      case hy12 => (intro w hSw; (try dsimp only at hSw); go_simp; try (with_reducible rfl))
      (try simp only [Act.put, qa_, qb_, qc_])
      refine wpAnyH_take (i := 13) (oi := ⟨some 52, _, _, _, _, _⟩) (v := ?v13) rfl (by kernel_rfl) (by kernel_rfl) (by kernel_rfl) (fun _ _ _ h => h) (Or.inl ⟨by rfl, ?hy13⟩) (by assumption) ?_
      case hy13 => (intro w hSw; (try dsimp only at hSw); go_simp; try (with_reducible rfl))
      (try simp only [Act.put, qa_, qb_, qc_])
      refine wpAnyH_take (i := 14) (oi := ⟨some 53, _, _, _, _, _⟩) (v := ?v14) rfl (by kernel_rfl) (by kernel_rfl) (by kernel_rfl) (fun _ _ _ h => h) (Or.inl ⟨by rfl, ?hy14⟩) (by assumption) ?_
      case hy14 => (intro w hSw; (try dsimp only at hSw); go_simp; try (with_reducible rfl))
      (try simp only [Act.put, qa_, qb_, qc_])
      refine wpAnyH_take (i := 15) (oi := ⟨some 54, _, _, _, _, _⟩) (v := ?v15) rfl (by kernel_rfl) (by kernel_rfl) (by kernel_rfl) (fun _ _ _ h => h) (Or.inl ⟨by rfl, ?hy15⟩) (by assumption) ?_
      case hy15 => (intro w hSw; (try dsimp only at hSw); go_simp; try (with_reducible rfl))
      (try simp only [Act.put, qa_, qb_, qc_])
      refine wpAnyH_take (i := 17) (oi := ⟨some 56, _, _, _, _, _⟩) (v := ?v16) rfl (by kernel_rfl) (by kernel_rfl) (by kernel_rfl) (fun _ _ _ h => h) (Or.inl ⟨by rfl, ?hy16⟩) (by assumption) ?_
      case hy16 => (intro w hSw; (try dsimp only at hSw); go_simp; try (with_reducible rfl))
      (try simp only [Act.put, qa_, qb_, qc_])
      refine wpAnyH_take (i := 18) (oi := ⟨some 57, _, _, _, _, _⟩) (v := ?v17) rfl (by kernel_rfl) (by kernel_rfl) (by kernel_rfl) (fun _ _ _ h => h) (Or.inl ⟨by rfl, ?hy17⟩) (by assumption) ?_
      case hy17 => (intro w hSw; (try dsimp only at hSw); go_simp; try (with_reducible rfl))
      (try simp only [Act.put, qa_, qb_, qc_])
      refine wpAnyH_ready (rs := [1, 16]) (by kernel_rfl) (by simp) ?_
      refine AllReadyH.cons rfl (fun K hK => ?_) ?_
      · go_simp
        refine hK.out _ _ (by exact kk _ (bel_drew hB)) (fun hHeld => ?_)
        clear hK K
        (try simp only [Act.put, qa_, qb_, qc_])
        refine wpAnyH_ready (rs := [16]) (by kernel_rfl) (by simp) ?_
        refine AllReadyH.cons rfl (fun K hK => ?_) ?_
        · go_simp
          refine hK.out _ _ (by exact kk _ (show Below w.heap.size w ((wr.alloc (.cells #[] 5)).drew) from bel_drew (bel_alloc hB _))) (fun hHeld => ?_)
          clear hK K
          (try simp only [Act.put, qa_, qb_, qc_])
          refine wpAnyH_ready (rs := [19]) (by kernel_rfl) (by simp) ?_
          refine AllReadyH.cons rfl (fun K hK => ?_) ?_
          · have hE : ((wr.alloc (.cells #[] 5)).drew).ownsRow wr.heap.size 5 1 (.slice (some ⟨wr.heap.size, 0, none⟩) 0 0) 0 [] := World.ownsRow.kept (empty8 wr 5) (row := none) (gb_drew (World.grownBy.refl _ _)) (.inr (by simp [Value.ownBlock]))
            have hS1 : Src ((wr.alloc (.cells #[] 5)).drew) 1 (some ⟨bb, off + 3, none⟩) 80 (x3.map (Value.int .u8)) := Src.of_ints (reach hI3 (bel_trans hB (belx)))
            refine step_app5 _ (by rfl) (.tmp 55) (.tmp 57) _ (by rfl) wr.heap.size 5 i0 _ 1 1 Try.underlying22 hi0 hz0 hz1 hz2 rfl (by omega) (.slice (some ⟨wr.heap.size, 0, none⟩) 0 0) 0 [] (by rfl) hE _ 80 _ (x3.map (Value.int .u8)) (by rfl) hS1 (one_ints _ _) (by simp only [maxLen]; omega) (by omega) (by show _ ≤ (World.alloc _ _).heap.size; simp) ?_
            intro v1 w3 hown hgr hat
            obtain ⟨A2, c2, Fd, rfl, hO1, hN1⟩ := own_slice (Own.of (n := 0 + 80) (by simpa using hown) hI3.2.2)
            have hs1 : Below wr.heap.size wr w3 := Below.grown (w := (wr.alloc (.cells #[] 5)).drew) (belx) hgr (by show _ ≤ (World.alloc _ _).heap.size; simp) (fun b hb => by have e := Option.some.inj (show some wr.heap.size = some b from hb); omega)
            have O3 := Box.below O4 hs1 O4.size
            have Y3 := Box.below Y4 hs1 Y4.size
            have o3c := O3.cell 0
            have OA := O3.alloc (.cells ([.int .i64 x0, .int .i64 (x1 * 256 + x2), .slice A2 x3.length c2].toArray) 98)
            have oAc := OA.cell 0
            have zw1 := hs1.size
            refine hK.out _ _ (by exact kk _ (bel_trans hB hs1)) (fun hHeld => ?_)
            clear hK K
            (try simp only [Act.put, qa_, qb_, qc_])
            refine wpAnyH_take (i := 20) (oi := ⟨some 59, _, _, _, _, _⟩) (v := ?v18) rfl (by kernel_rfl) (by kernel_rfl) (by kernel_rfl) (fun _ _ _ h => h) (Or.inl ⟨by rfl, ?hy18⟩) (by assumption) ?_
            case hy18 => (intro w hSw; (try dsimp only at hSw); go_simp; try (with_reducible rfl))
            (try simp only [Act.put, qa_, qb_, qc_])
            refine wpAnyH_take (i := 21) (oi := ⟨some 60, _, _, _, _, _⟩) (v := ?v19) rfl (by kernel_rfl) (by kernel_rfl) (by kernel_rfl) (fun _ _ _ h => h) (Or.inl ⟨by rfl, ?hy19⟩) (by assumption) ?_
            case hy19 => (intro w hSw; (try dsimp only at hSw); go_simp; try (with_reducible rfl))
            (try simp only [Act.put, qa_, qb_, qc_])
            refine wpAnyH_ready (rs := [22]) (by kernel_rfl) (by simp) ?_
            refine AllReadyH.cons rfl (fun K hK => ?_) ?_
            · go_simp
              refine hK.out _ _ (by exact kk _ (show Below w.heap.size w (w3.alloc (.cells ([.int .i64 x0, .int .i64 (x1 * 256 + x2), .slice A2 x3.length c2].toArray) 98)) from bel_alloc (bel_trans hB hs1) _)) (fun hHeld => ?_)
              clear hK K
              (try simp only [Act.put, qa_, qb_, qc_])
              refine wpAnyH_ready (rs := [23]) (by kernel_rfl) (by simp) ?_
              refine AllReadyH.cons rfl (fun K hK => ?_) ?_
              · obtain ⟨Fx, hX, eF⟩ := makeOHeld (p := heldOf (l.drop k)) (v2 := .slice A2 x3.length c2) (by rw [HA.out]; exact wf0) (by rw [HA.out]; exact wf1) (by rw [HA.out]; exact hO1)
                rw [HA.out] at hX
                have hBx : Below wr.heap.size wr (w3.alloc (.cells ([.int .i64 x0, .int .i64 (x1 * 256 + x2), .slice A2 x3.length c2].toArray) 98)) := bel_alloc hs1 _
                obtain ⟨xs, hrow, hpush⟩ := (hG.below hBx).row
                have hS2 : Src (w3.alloc (.cells ([.int .i64 x0, .int .i64 (x1 * 256 + x2), .slice A2 x3.length c2].toArray) 98)) 3 (some ⟨w3.heap.size, 0, none⟩) 1 [.int .i64 x0, .int .i64 (x1 * 256 + x2), .slice A2 x3.length c2] := Src.of_box w3 98 [.int .i64 x0, .int .i64 (x1 * 256 + x2), .slice A2 x3.length c2] (K := 3) rfl
                have tz : (Value.agg #[Value.int .i64 0, Value.int .i64 0, Value.slice none 0 0]).cells.size = 3 := (by first | rfl | (simp [Value.cells]; done))
                have t0 : ∀ u ∈ ([.int .i64 x0, .int .i64 (x1 * 256 + x2), .slice A2 x3.length c2] : List Value), u.oneCell' = true := (by intro u hu; simp only [List.mem_cons, List.not_mem_nil, or_false] at hu; rcases hu with rfl | rfl | rfl <;> rfl)
                have t1 : (rdL l j).length + 1 ≤ maxLen := (by simp only [maxLen]; rw [HLL.out]; omega)
                have t2 : ((rdL l j).length + 1) * 40 ≤ 140737488355328 := (by rw [HLL.out]; omega)
                have t3 := hBx.size
                refine step_app5 _ (by rfl) (.tmp 40) (.tmp 61) _ (by rfl) (w.heap.size + 2) 98 i1 _ 3 40 Try.underlying52 hj0 hj1 hj2 hj3 tz (by omega) v _ xs (by rfl) hrow _ 1 1 [.int .i64 x0, .int .i64 (x1 * 256 + x2), .slice A2 x3.length c2] (by rfl) hS2 t0 t1 t2 (by omega) ?_
                intro v2 w2 hown2 hgr2 hat2
                have hOel : tHeld.O (w3.alloc (.cells ([.int .i64 x0, .int .i64 (x1 * 256 + x2), .slice A2 x3.length c2].toArray) 98)) [.int .i64 x0, .int .i64 (x1 * 256 + x2), .slice A2 x3.length c2] (x0, x1 * 256 + x2, x3) Fx := Ty.below (t := tHeld) hX (belx)
                have hNel : New (w.heap.size + 2) Fx := by rw [eF]; exact hN1.lower (by omega)
                have hdis : ∀ f ∈ Fx, f ∉ F := (fun f h1 h2 => by rw [eF] at h1; have := hN1.2 _ h1; have := hlt2 f h2; omega)
                have hod : ∀ b, v.ownBlock = some b → b ∉ Fx := (fun b hb hx => by rw [eF] at hx; have := (hOwn b hb).2; have := hN1.2 _ hx; omega)
                have hfin := hpush w2 v2 (x0, x1 * 256 + x2, x3) _ Fx hOel hNel hdis hod hown2 hgr2 hat2
                obtain ⟨A9, n9, c9, rfl, -⟩ := hfin.shapeN
                have O2 := Box.grown (w := (w3.alloc (.cells ([.int .i64 x0, .int .i64 (x1 * 256 + x2), .slice A2 x3.length c2].toArray) 98))) (O3.alloc _) hgr2 (fun e => by have := (hOwn (w.heap.size + 1) e.symm).1; omega)
                have Y2 := Box.grown (w := (w3.alloc (.cells ([.int .i64 x0, .int .i64 (x1 * 256 + x2), .slice A2 x3.length c2].toArray) 98))) (Y3.alloc _) hgr2 (fun e => by have := (hOwn w.heap.size e.symm).1; omega)
                have hBf : Below w.heap.size w w2 := Below.grown (w := (w3.alloc (.cells ([.int .i64 x0, .int .i64 (x1 * 256 + x2), .slice A2 x3.length c2].toArray) 98))) (bel_trans hB hBx) hgr2 (by have := hBx.size; omega) (fun b hb => by have := (hOwn b hb).1; omega)
                have z2 := hgr2.size
                have o2c := O2.cell 0
                have o2f := O2.frozen 0
                have GF := hfin.putB (p := ⟨(w.heap.size + 1), 0, none⟩) (by show w.heap.size + 1 < w.heap.size + 2; omega) (.slice A9 n9 c9)
                have OF : Box (w2.setCell ⟨(w.heap.size + 1), 0, none⟩ (.slice A9 n9 c9)) (w.heap.size + 1) 54 #[.slice A9 n9 c9, .slice none 0 0] := O2.put 0 (.slice A9 n9 c9)
                have YF := Y2.far (p := ⟨(w.heap.size + 1), 0, none⟩) (by show ¬ w.heap.size = w.heap.size + 1; omega) (.slice A9 n9 c9)
                have BF : Below w.heap.size w (w2.setCell ⟨(w.heap.size + 1), 0, none⟩ (.slice A9 n9 c9)) := bel_put hBf (by show w.heap.size ≤ w.heap.size + 1; omega) _
                refine hK.out _ _ (by exact kk _ hBf) (fun hHeld => ?_)
                clear hK K
                (try simp only [Act.put, qa_, qb_, qc_])
                refine wpAnyH_take (i := 24) (oi := ⟨some 63, _, _, _, _, _⟩) (v := ?v20) rfl (by kernel_rfl) (by kernel_rfl) (by kernel_rfl) (fun _ _ _ h => h) (Or.inl ⟨by rfl, ?hy20⟩) (by assumption) ?_
                case hy20 => (intro w hSw; (try dsimp only at hSw); go_simp; try (with_reducible rfl))
                (try simp only [Act.put, qa_, qb_, qc_])
                refine wpAnyH_ready (rs := [25]) (by kernel_rfl) (by simp) ?_
                refine AllReadyH.cons rfl (fun K hK => ?_) ?_
                · go_simp
                  refine hK.out _ _ (by exact kk _ BF) (fun hHeld => ?_)
                  clear hK K
                  (try simp only [Act.put, qa_, qb_, qc_])
                  refine wpAnyH_done (by kernel_rfl) ?_ _
                  by_cases hcc : c' = 83
                  · subst hcc
                    obtain rfl : n' = 83 := by omega
                    go_wp2
                    go_roundw
                    case rel => exact ⟨j + 1, _, _, _, _, _, by omega, by go_num, rfl, by omega, by omega, by omega, HIN.out _ (.inl rfl), by rw [HT.out, HA.out]; exact GF, OF, YF, BF, by have h := z2; simp [World.setCell] at h ⊢; omega⟩
                    case measure => simp [intOf]; omega
                  · have nc : ¬ 83 = c' := fun e => hcc e.symm
                    go_wp2
                    go_roundw
                    case rel => exact ⟨j + 1, _, _, _, _, _, by omega, by go_num, rfl, by omega, by omega, by omega, HIN.out _ (.inr rfl), by rw [HT.out, HA.out]; exact GF, OF, YF, BF, by have h := z2; simp [World.setCell] at h ⊢; omega⟩
                    case measure => simp [intOf]; omega
                exact AllReadyH.nil
              exact AllReadyH.nil
            exact AllReadyH.nil
          exact AllReadyH.nil
        exact AllReadyH.nil
      refine AllReadyH.cons rfl (fun K hK => ?_) ?_
      · go_simp
        refine hK.out _ _ (by exact kk _ (show Below w.heap.size w ((wr.alloc (.cells #[] 5)).drew) from bel_drew (bel_alloc hB _))) (fun hHeld => ?_)
        clear hK K
        (try simp only [Act.put, qa_, qb_, qc_])
        refine wpAnyH_ready (rs := [1, 19]) (by kernel_rfl) (by simp) ?_
        refine AllReadyH.cons rfl (fun K hK => ?_) ?_
        · go_simp
          refine hK.out _ _ (by exact kk _ (show Below w.heap.size w ((wr.alloc (.cells #[] 5)).drew) from bel_drew (bel_alloc hB _))) (fun hHeld => ?_)
          clear hK K
          (try simp only [Act.put, qa_, qb_, qc_])
          refine wpAnyH_ready (rs := [19]) (by kernel_rfl) (by simp) ?_
          refine AllReadyH.cons rfl (fun K hK => ?_) ?_
          · have hE : ((wr.alloc (.cells #[] 5)).drew).ownsRow wr.heap.size 5 1 (.slice (some ⟨wr.heap.size, 0, none⟩) 0 0) 0 [] := World.ownsRow.kept (empty8 wr 5) (row := none) (gb_drew (World.grownBy.refl _ _)) (.inr (by simp [Value.ownBlock]))
            have hS1 : Src ((wr.alloc (.cells #[] 5)).drew) 1 (some ⟨bb, off + 3, none⟩) 80 (x3.map (Value.int .u8)) := Src.of_ints (reach hI3 (bel_trans hB (belx)))
            refine step_app5 _ (by rfl) (.tmp 55) (.tmp 57) _ (by rfl) wr.heap.size 5 i0 _ 1 1 Try.underlying22 hi0 hz0 hz1 hz2 rfl (by omega) (.slice (some ⟨wr.heap.size, 0, none⟩) 0 0) 0 [] (by rfl) hE _ 80 _ (x3.map (Value.int .u8)) (by rfl) hS1 (one_ints _ _) (by simp only [maxLen]; omega) (by omega) (by show _ ≤ (World.alloc _ _).heap.size; simp) ?_
            intro v1 w3 hown hgr hat
            obtain ⟨A2, c2, Fd, rfl, hO1, hN1⟩ := own_slice (Own.of (n := 0 + 80) (by simpa using hown) hI3.2.2)
            have hs1 : Below wr.heap.size wr w3 := Below.grown (w := (wr.alloc (.cells #[] 5)).drew) (belx) hgr (by show _ ≤ (World.alloc _ _).heap.size; simp) (fun b hb => by have e := Option.some.inj (show some wr.heap.size = some b from hb); omega)
            have O3 := Box.below O4 hs1 O4.size
            have Y3 := Box.below Y4 hs1 Y4.size
            have o3c := O3.cell 0
            have OA := O3.alloc (.cells ([.int .i64 x0, .int .i64 (x1 * 256 + x2), .slice A2 x3.length c2].toArray) 98)
            have oAc := OA.cell 0
            have zw1 := hs1.size
            refine hK.out _ _ (by exact kk _ (bel_trans hB hs1)) (fun hHeld => ?_)
            clear hK K
            (try simp only [Act.put, qa_, qb_, qc_])
            refine wpAnyH_take (i := 20) (oi := ⟨some 59, _, _, _, _, _⟩) (v := ?v21) rfl (by kernel_rfl) (by kernel_rfl) (by kernel_rfl) (fun _ _ _ h => h) (Or.inl ⟨by rfl, ?hy21⟩) (by assumption) ?_
            case hy21 => (intro w hSw; (try dsimp only at hSw); go_simp; try (with_reducible rfl))
            (try simp only [Act.put, qa_, qb_, qc_])
            refine wpAnyH_take (i := 21) (oi := ⟨some 60, _, _, _, _, _⟩) (v := ?v22) rfl (by kernel_rfl) (by kernel_rfl) (by kernel_rfl) (fun _ _ _ h => h) (Or.inl ⟨by rfl, ?hy22⟩) (by assumption) ?_
            case hy22 => (intro w hSw; (try dsimp only at hSw); go_simp; try (with_reducible rfl))
            (try simp only [Act.put, qa_, qb_, qc_])
            refine wpAnyH_ready (rs := [22]) (by kernel_rfl) (by simp) ?_
            refine AllReadyH.cons rfl (fun K hK => ?_) ?_
            · go_simp
              refine hK.out _ _ (by exact kk _ (show Below w.heap.size w (w3.alloc (.cells ([.int .i64 x0, .int .i64 (x1 * 256 + x2), .slice A2 x3.length c2].toArray) 98)) from bel_alloc (bel_trans hB hs1) _)) (fun hHeld => ?_)
              clear hK K
              (try simp only [Act.put, qa_, qb_, qc_])
              refine wpAnyH_ready (rs := [23]) (by kernel_rfl) (by simp) ?_
              refine AllReadyH.cons rfl (fun K hK => ?_) ?_
              · obtain ⟨Fx, hX, eF⟩ := makeOHeld (p := heldOf (l.drop k)) (v2 := .slice A2 x3.length c2) (by rw [HA.out]; exact wf0) (by rw [HA.out]; exact wf1) (by rw [HA.out]; exact hO1)
                rw [HA.out] at hX
                have hBx : Below wr.heap.size wr (w3.alloc (.cells ([.int .i64 x0, .int .i64 (x1 * 256 + x2), .slice A2 x3.length c2].toArray) 98)) := bel_alloc hs1 _
                obtain ⟨xs, hrow, hpush⟩ := (hG.below hBx).row
                have hS2 : Src (w3.alloc (.cells ([.int .i64 x0, .int .i64 (x1 * 256 + x2), .slice A2 x3.length c2].toArray) 98)) 3 (some ⟨w3.heap.size, 0, none⟩) 1 [.int .i64 x0, .int .i64 (x1 * 256 + x2), .slice A2 x3.length c2] := Src.of_box w3 98 [.int .i64 x0, .int .i64 (x1 * 256 + x2), .slice A2 x3.length c2] (K := 3) rfl
                have tz : (Value.agg #[Value.int .i64 0, Value.int .i64 0, Value.slice none 0 0]).cells.size = 3 := (by first | rfl | (simp [Value.cells]; done))
                have t0 : ∀ u ∈ ([.int .i64 x0, .int .i64 (x1 * 256 + x2), .slice A2 x3.length c2] : List Value), u.oneCell' = true := (by intro u hu; simp only [List.mem_cons, List.not_mem_nil, or_false] at hu; rcases hu with rfl | rfl | rfl <;> rfl)
                have t1 : (rdL l j).length + 1 ≤ maxLen := (by simp only [maxLen]; rw [HLL.out]; omega)
                have t2 : ((rdL l j).length + 1) * 40 ≤ 140737488355328 := (by rw [HLL.out]; omega)
                have t3 := hBx.size
                refine step_app5 _ (by rfl) (.tmp 40) (.tmp 61) _ (by rfl) (w.heap.size + 2) 98 i1 _ 3 40 Try.underlying52 hj0 hj1 hj2 hj3 tz (by omega) v _ xs (by rfl) hrow _ 1 1 [.int .i64 x0, .int .i64 (x1 * 256 + x2), .slice A2 x3.length c2] (by rfl) hS2 t0 t1 t2 (by omega) ?_
                intro v2 w2 hown2 hgr2 hat2
                have hOel : tHeld.O (w3.alloc (.cells ([.int .i64 x0, .int .i64 (x1 * 256 + x2), .slice A2 x3.length c2].toArray) 98)) [.int .i64 x0, .int .i64 (x1 * 256 + x2), .slice A2 x3.length c2] (x0, x1 * 256 + x2, x3) Fx := Ty.below (t := tHeld) hX (belx)
                have hNel : New (w.heap.size + 2) Fx := by rw [eF]; exact hN1.lower (by omega)
                have hdis : ∀ f ∈ Fx, f ∉ F := (fun f h1 h2 => by rw [eF] at h1; have := hN1.2 _ h1; have := hlt2 f h2; omega)
                have hod : ∀ b, v.ownBlock = some b → b ∉ Fx := (fun b hb hx => by rw [eF] at hx; have := (hOwn b hb).2; have := hN1.2 _ hx; omega)
                have hfin := hpush w2 v2 (x0, x1 * 256 + x2, x3) _ Fx hOel hNel hdis hod hown2 hgr2 hat2
                obtain ⟨A9, n9, c9, rfl, -⟩ := hfin.shapeN
                have O2 := Box.grown (w := (w3.alloc (.cells ([.int .i64 x0, .int .i64 (x1 * 256 + x2), .slice A2 x3.length c2].toArray) 98))) (O3.alloc _) hgr2 (fun e => by have := (hOwn (w.heap.size + 1) e.symm).1; omega)
                have Y2 := Box.grown (w := (w3.alloc (.cells ([.int .i64 x0, .int .i64 (x1 * 256 + x2), .slice A2 x3.length c2].toArray) 98))) (Y3.alloc _) hgr2 (fun e => by have := (hOwn w.heap.size e.symm).1; omega)
                have hBf : Below w.heap.size w w2 := Below.grown (w := (w3.alloc (.cells ([.int .i64 x0, .int .i64 (x1 * 256 + x2), .slice A2 x3.length c2].toArray) 98))) (bel_trans hB hBx) hgr2 (by have := hBx.size; omega) (fun b hb => by have := (hOwn b hb).1; omega)
                have z2 := hgr2.size
                have o2c := O2.cell 0
                have o2f := O2.frozen 0
                have GF := hfin.putB (p := ⟨(w.heap.size + 1), 0, none⟩) (by show w.heap.size + 1 < w.heap.size + 2; omega) (.slice A9 n9 c9)
                have OF : Box (w2.setCell ⟨(w.heap.size + 1), 0, none⟩ (.slice A9 n9 c9)) (w.heap.size + 1) 54 #[.slice A9 n9 c9, .slice none 0 0] := O2.put 0 (.slice A9 n9 c9)
                have YF := Y2.far (p := ⟨(w.heap.size + 1), 0, none⟩) (by show ¬ w.heap.size = w.heap.size + 1; omega) (.slice A9 n9 c9)
                have BF : Below w.heap.size w (w2.setCell ⟨(w.heap.size + 1), 0, none⟩ (.slice A9 n9 c9)) := bel_put hBf (by show w.heap.size ≤ w.heap.size + 1; omega) _
                refine hK.out _ _ (by exact kk _ hBf) (fun hHeld => ?_)
                clear hK K
                (try simp only [Act.put, qa_, qb_, qc_])
                refine wpAnyH_take (i := 24) (oi := ⟨some 63, _, _, _, _, _⟩) (v := ?v23) rfl (by kernel_rfl) (by kernel_rfl) (by kernel_rfl) (fun _ _ _ h => h) (Or.inl ⟨by rfl, ?hy23⟩) (by assumption) ?_
                case hy23 => (intro w hSw; (try dsimp only at hSw); go_simp; try (with_reducible rfl))
                (try simp only [Act.put, qa_, qb_, qc_])
                refine wpAnyH_ready (rs := [25]) (by kernel_rfl) (by simp) ?_
                refine AllReadyH.cons rfl (fun K hK => ?_) ?_
                · go_simp
                  refine hK.out _ _ (by exact kk _ BF) (fun hHeld => ?_)
                  clear hK K
                  (try simp only [Act.put, qa_, qb_, qc_])
                  refine wpAnyH_done (by kernel_rfl) ?_ _
                  by_cases hcc : c' = 83
                  · subst hcc
                    obtain rfl : n' = 83 := by omega
                    go_wp2
                    go_roundw
                    case rel => exact ⟨j + 1, _, _, _, _, _, by omega, by go_num, rfl, by omega, by omega, by omega, HIN.out _ (.inl rfl), by rw [HT.out, HA.out]; exact GF, OF, YF, BF, by have h := z2; simp [World.setCell] at h ⊢; omega⟩
                    case measure => simp [intOf]; omega
                  · have nc : ¬ 83 = c' := fun e => hcc e.symm
                    go_wp2
                    go_roundw
                    case rel => exact ⟨j + 1, _, _, _, _, _, by omega, by go_num, rfl, by omega, by omega, by omega, HIN.out _ (.inr rfl), by rw [HT.out, HA.out]; exact GF, OF, YF, BF, by have h := z2; simp [World.setCell] at h ⊢; omega⟩
                    case measure => simp [intOf]; omega
                exact AllReadyH.nil
              exact AllReadyH.nil
            exact AllReadyH.nil
          exact AllReadyH.nil
        refine AllReadyH.cons rfl (fun K hK => ?_) ?_
        · have hE : ((wr.alloc (.cells #[] 5)).drew).ownsRow wr.heap.size 5 1 (.slice (some ⟨wr.heap.size, 0, none⟩) 0 0) 0 [] := World.ownsRow.kept (empty8 wr 5) (row := none) (gb_drew (World.grownBy.refl _ _)) (.inr (by simp [Value.ownBlock]))
          have hS1 : Src ((wr.alloc (.cells #[] 5)).drew) 1 (some ⟨bb, off + 3, none⟩) 80 (x3.map (Value.int .u8)) := Src.of_ints (reach hI3 (bel_trans hB (belx)))
          refine step_app5 _ (by rfl) (.tmp 55) (.tmp 57) _ (by rfl) wr.heap.size 5 i0 _ 1 1 Try.underlying22 hi0 hz0 hz1 hz2 rfl (by omega) (.slice (some ⟨wr.heap.size, 0, none⟩) 0 0) 0 [] (by rfl) hE _ 80 _ (x3.map (Value.int .u8)) (by rfl) hS1 (one_ints _ _) (by simp only [maxLen]; omega) (by omega) (by show _ ≤ (World.alloc _ _).heap.size; simp) ?_
          intro v1 w3 hown hgr hat
          obtain ⟨A2, c2, Fd, rfl, hO1, hN1⟩ := own_slice (Own.of (n := 0 + 80) (by simpa using hown) hI3.2.2)
          have hs1 : Below wr.heap.size wr w3 := Below.grown (w := (wr.alloc (.cells #[] 5)).drew) (belx) hgr (by show _ ≤ (World.alloc _ _).heap.size; simp) (fun b hb => by have e := Option.some.inj (show some wr.heap.size = some b from hb); omega)
          have O3 := Box.below O4 hs1 O4.size
          have Y3 := Box.below Y4 hs1 Y4.size
          have o3c := O3.cell 0
          have OA := O3.alloc (.cells ([.int .i64 x0, .int .i64 (x1 * 256 + x2), .slice A2 x3.length c2].toArray) 98)
          have oAc := OA.cell 0
          have zw1 := hs1.size
          refine hK.out _ _ (by exact kk _ (bel_trans hB hs1)) (fun hHeld => ?_)
          clear hK K
          (try simp only [Act.put, qa_, qb_, qc_])
          refine wpAnyH_take (i := 20) (oi := ⟨some 59, _, _, _, _, _⟩) (v := ?v24) rfl (by kernel_rfl) (by kernel_rfl) (by kernel_rfl) (fun _ _ _ h => h) (Or.inl ⟨by rfl, ?hy24⟩) (by assumption) ?_
          case hy24 => (intro w hSw; (try dsimp only at hSw); go_simp; try (with_reducible rfl))
          (try simp only [Act.put, qa_, qb_, qc_])
          refine wpAnyH_take (i := 21) (oi := ⟨some 60, _, _, _, _, _⟩) (v := ?v25) rfl (by kernel_rfl) (by kernel_rfl) (by kernel_rfl) (fun _ _ _ h => h) (Or.inl ⟨by rfl, ?hy25⟩) (by assumption) ?_
          case hy25 => (intro w hSw; (try dsimp only at hSw); go_simp; try (with_reducible rfl))
          (try simp only [Act.put, qa_, qb_, qc_])
          refine wpAnyH_ready (rs := [1, 22]) (by kernel_rfl) (by simp) ?_
          refine AllReadyH.cons rfl (fun K hK => ?_) ?_
          · go_simp
            refine hK.out _ _ (by exact kk _ (bel_trans hB hs1)) (fun hHeld => ?_)
            clear hK K
            (try simp only [Act.put, qa_, qb_, qc_])
            refine wpAnyH_ready (rs := [22]) (by kernel_rfl) (by simp) ?_
            refine AllReadyH.cons rfl (fun K hK => ?_) ?_
            · go_simp
              refine hK.out _ _ (by exact kk _ (show Below w.heap.size w (w3.alloc (.cells ([.int .i64 x0, .int .i64 (x1 * 256 + x2), .slice A2 x3.length c2].toArray) 98)) from bel_alloc (bel_trans hB hs1) _)) (fun hHeld => ?_)
              clear hK K
              (try simp only [Act.put, qa_, qb_, qc_])
              refine wpAnyH_ready (rs := [23]) (by kernel_rfl) (by simp) ?_
              refine AllReadyH.cons rfl (fun K hK => ?_) ?_
              · obtain ⟨Fx, hX, eF⟩ := makeOHeld (p := heldOf (l.drop k)) (v2 := .slice A2 x3.length c2) (by rw [HA.out]; exact wf0) (by rw [HA.out]; exact wf1) (by rw [HA.out]; exact hO1)
                rw [HA.out] at hX
                have hBx : Below wr.heap.size wr (w3.alloc (.cells ([.int .i64 x0, .int .i64 (x1 * 256 + x2), .slice A2 x3.length c2].toArray) 98)) := bel_alloc hs1 _
                obtain ⟨xs, hrow, hpush⟩ := (hG.below hBx).row
                have hS2 : Src (w3.alloc (.cells ([.int .i64 x0, .int .i64 (x1 * 256 + x2), .slice A2 x3.length c2].toArray) 98)) 3 (some ⟨w3.heap.size, 0, none⟩) 1 [.int .i64 x0, .int .i64 (x1 * 256 + x2), .slice A2 x3.length c2] := Src.of_box w3 98 [.int .i64 x0, .int .i64 (x1 * 256 + x2), .slice A2 x3.length c2] (K := 3) rfl
                have tz : (Value.agg #[Value.int .i64 0, Value.int .i64 0, Value.slice none 0 0]).cells.size = 3 := (by first | rfl | (simp [Value.cells]; done))
                have t0 : ∀ u ∈ ([.int .i64 x0, .int .i64 (x1 * 256 + x2), .slice A2 x3.length c2] : List Value), u.oneCell' = true := (by intro u hu; simp only [List.mem_cons, List.not_mem_nil, or_false] at hu; rcases hu with rfl | rfl | rfl <;> rfl)
                have t1 : (rdL l j).length + 1 ≤ maxLen := (by simp only [maxLen]; rw [HLL.out]; omega)
                have t2 : ((rdL l j).length + 1) * 40 ≤ 140737488355328 := (by rw [HLL.out]; omega)
                have t3 := hBx.size
                refine step_app5 _ (by rfl) (.tmp 40) (.tmp 61) _ (by rfl) (w.heap.size + 2) 98 i1 _ 3 40 Try.underlying52 hj0 hj1 hj2 hj3 tz (by omega) v _ xs (by rfl) hrow _ 1 1 [.int .i64 x0, .int .i64 (x1 * 256 + x2), .slice A2 x3.length c2] (by rfl) hS2 t0 t1 t2 (by omega) ?_
                intro v2 w2 hown2 hgr2 hat2
                have hOel : tHeld.O (w3.alloc (.cells ([.int .i64 x0, .int .i64 (x1 * 256 + x2), .slice A2 x3.length c2].toArray) 98)) [.int .i64 x0, .int .i64 (x1 * 256 + x2), .slice A2 x3.length c2] (x0, x1 * 256 + x2, x3) Fx := Ty.below (t := tHeld) hX (belx)
                have hNel : New (w.heap.size + 2) Fx := by rw [eF]; exact hN1.lower (by omega)
                have hdis : ∀ f ∈ Fx, f ∉ F := (fun f h1 h2 => by rw [eF] at h1; have := hN1.2 _ h1; have := hlt2 f h2; omega)
                have hod : ∀ b, v.ownBlock = some b → b ∉ Fx := (fun b hb hx => by rw [eF] at hx; have := (hOwn b hb).2; have := hN1.2 _ hx; omega)
                have hfin := hpush w2 v2 (x0, x1 * 256 + x2, x3) _ Fx hOel hNel hdis hod hown2 hgr2 hat2
                obtain ⟨A9, n9, c9, rfl, -⟩ := hfin.shapeN
                have O2 := Box.grown (w := (w3.alloc (.cells ([.int .i64 x0, .int .i64 (x1 * 256 + x2), .slice A2 x3.length c2].toArray) 98))) (O3.alloc _) hgr2 (fun e => by have := (hOwn (w.heap.size + 1) e.symm).1; omega)
                have Y2 := Box.grown (w := (w3.alloc (.cells ([.int .i64 x0, .int .i64 (x1 * 256 + x2), .slice A2 x3.length c2].toArray) 98))) (Y3.alloc _) hgr2 (fun e => by have := (hOwn w.heap.size e.symm).1; omega)
                have hBf : Below w.heap.size w w2 := Below.grown (w := (w3.alloc (.cells ([.int .i64 x0, .int .i64 (x1 * 256 + x2), .slice A2 x3.length c2].toArray) 98))) (bel_trans hB hBx) hgr2 (by have := hBx.size; omega) (fun b hb => by have := (hOwn b hb).1; omega)
                have z2 := hgr2.size
                have o2c := O2.cell 0
                have o2f := O2.frozen 0
                have GF := hfin.putB (p := ⟨(w.heap.size + 1), 0, none⟩) (by show w.heap.size + 1 < w.heap.size + 2; omega) (.slice A9 n9 c9)
                have OF : Box (w2.setCell ⟨(w.heap.size + 1), 0, none⟩ (.slice A9 n9 c9)) (w.heap.size + 1) 54 #[.slice A9 n9 c9, .slice none 0 0] := O2.put 0 (.slice A9 n9 c9)
                have YF := Y2.far (p := ⟨(w.heap.size + 1), 0, none⟩) (by show ¬ w.heap.size = w.heap.size + 1; omega) (.slice A9 n9 c9)
                have BF : Below w.heap.size w (w2.setCell ⟨(w.heap.size + 1), 0, none⟩ (.slice A9 n9 c9)) := bel_put hBf (by show w.heap.size ≤ w.heap.size + 1; omega) _
                refine hK.out _ _ (by exact kk _ hBf) (fun hHeld => ?_)
                clear hK K
                (try simp only [Act.put, qa_, qb_, qc_])
                refine wpAnyH_take (i := 24) (oi := ⟨some 63, _, _, _, _, _⟩) (v := ?v26) rfl (by kernel_rfl) (by kernel_rfl) (by kernel_rfl) (fun _ _ _ h => h) (Or.inl ⟨by rfl, ?hy26⟩) (by assumption) ?_
                case hy26 => (intro w hSw; (try dsimp only at hSw); go_simp; try (with_reducible rfl))
                (try simp only [Act.put, qa_, qb_, qc_])
                refine wpAnyH_ready (rs := [25]) (by kernel_rfl) (by simp) ?_
                refine AllReadyH.cons rfl (fun K hK => ?_) ?_
                · go_simp
                  refine hK.out _ _ (by exact kk _ BF) (fun hHeld => ?_)
                  clear hK K
                  (try simp only [Act.put, qa_, qb_, qc_])
                  refine wpAnyH_done (by kernel_rfl) ?_ _
                  by_cases hcc : c' = 83
                  · subst hcc
                    obtain rfl : n' = 83 := by omega
                    go_wp2
                    go_roundw
                    case rel => exact ⟨j + 1, _, _, _, _, _, by omega, by go_num, rfl, by omega, by omega, by omega, HIN.out _ (.inl rfl), by rw [HT.out, HA.out]; exact GF, OF, YF, BF, by have h := z2; simp [World.setCell] at h ⊢; omega⟩
                    case measure => simp [intOf]; omega
                  · have nc : ¬ 83 = c' := fun e => hcc e.symm
                    go_wp2
                    go_roundw
                    case rel => exact ⟨j + 1, _, _, _, _, _, by omega, by go_num, rfl, by omega, by omega, by omega, HIN.out _ (.inr rfl), by rw [HT.out, HA.out]; exact GF, OF, YF, BF, by have h := z2; simp [World.setCell] at h ⊢; omega⟩
                    case measure => simp [intOf]; omega
                exact AllReadyH.nil
              exact AllReadyH.nil
            exact AllReadyH.nil
          refine AllReadyH.cons rfl (fun K hK => ?_) ?_
          · go_simp
            refine hK.out _ _ (by exact kk _ (show Below w.heap.size w (w3.alloc (.cells ([.int .i64 x0, .int .i64 (x1 * 256 + x2), .slice A2 x3.length c2].toArray) 98)) from bel_alloc (bel_trans hB hs1) _)) (fun hHeld => ?_)
            clear hK K
            (try simp only [Act.put, qa_, qb_, qc_])
            refine wpAnyH_ready (rs := [1]) (by kernel_rfl) (by simp) ?_
            refine AllReadyH.cons rfl (fun K hK => ?_) ?_
            · go_simp
              refine hK.out _ _ (by exact kk _ (show Below w.heap.size w (w3.alloc (.cells ([.int .i64 x0, .int .i64 (x1 * 256 + x2), .slice A2 x3.length c2].toArray) 98)) from bel_alloc (bel_trans hB hs1) _)) (fun hHeld => ?_)
              clear hK K
              (try simp only [Act.put, qa_, qb_, qc_])
              refine wpAnyH_ready (rs := [23]) (by kernel_rfl) (by simp) ?_
              refine AllReadyH.cons rfl (fun K hK => ?_) ?_
              · obtain ⟨Fx, hX, eF⟩ := makeOHeld (p := heldOf (l.drop k)) (v2 := .slice A2 x3.length c2) (by rw [HA.out]; exact wf0) (by rw [HA.out]; exact wf1) (by rw [HA.out]; exact hO1)
                rw [HA.out] at hX
                have hBx : Below wr.heap.size wr (w3.alloc (.cells ([.int .i64 x0, .int .i64 (x1 * 256 + x2), .slice A2 x3.length c2].toArray) 98)) := bel_alloc hs1 _
                obtain ⟨xs, hrow, hpush⟩ := (hG.below hBx).row
                have hS2 : Src (w3.alloc (.cells ([.int .i64 x0, .int .i64 (x1 * 256 + x2), .slice A2 x3.length c2].toArray) 98)) 3 (some ⟨w3.heap.size, 0, none⟩) 1 [.int .i64 x0, .int .i64 (x1 * 256 + x2), .slice A2 x3.length c2] := Src.of_box w3 98 [.int .i64 x0, .int .i64 (x1 * 256 + x2), .slice A2 x3.length c2] (K := 3) rfl
                have tz : (Value.agg #[Value.int .i64 0, Value.int .i64 0, Value.slice none 0 0]).cells.size = 3 := (by first | rfl | (simp [Value.cells]; done))
                have t0 : ∀ u ∈ ([.int .i64 x0, .int .i64 (x1 * 256 + x2), .slice A2 x3.length c2] : List Value), u.oneCell' = true := (by intro u hu; simp only [List.mem_cons, List.not_mem_nil, or_false] at hu; rcases hu with rfl | rfl | rfl <;> rfl)
                have t1 : (rdL l j).length + 1 ≤ maxLen := (by simp only [maxLen]; rw [HLL.out]; omega)
                have t2 : ((rdL l j).length + 1) * 40 ≤ 140737488355328 := (by rw [HLL.out]; omega)
                have t3 := hBx.size
                refine step_app5 _ (by rfl) (.tmp 40) (.tmp 61) _ (by rfl) (w.heap.size + 2) 98 i1 _ 3 40 Try.underlying52 hj0 hj1 hj2 hj3 tz (by omega) v _ xs (by rfl) hrow _ 1 1 [.int .i64 x0, .int .i64 (x1 * 256 + x2), .slice A2 x3.length c2] (by rfl) hS2 t0 t1 t2 (by omega) ?_
                intro v2 w2 hown2 hgr2 hat2
                have hOel : tHeld.O (w3.alloc (.cells ([.int .i64 x0, .int .i64 (x1 * 256 + x2), .slice A2 x3.length c2].toArray) 98)) [.int .i64 x0, .int .i64 (x1 * 256 + x2), .slice A2 x3.length c2] (x0, x1 * 256 + x2, x3) Fx := Ty.below (t := tHeld) hX (belx)
                have hNel : New (w.heap.size + 2) Fx := by rw [eF]; exact hN1.lower (by omega)
                have hdis : ∀ f ∈ Fx, f ∉ F := (fun f h1 h2 => by rw [eF] at h1; have := hN1.2 _ h1; have := hlt2 f h2; omega)
                have hod : ∀ b, v.ownBlock = some b → b ∉ Fx := (fun b hb hx => by rw [eF] at hx; have := (hOwn b hb).2; have := hN1.2 _ hx; omega)
                have hfin := hpush w2 v2 (x0, x1 * 256 + x2, x3) _ Fx hOel hNel hdis hod hown2 hgr2 hat2
                obtain ⟨A9, n9, c9, rfl, -⟩ := hfin.shapeN
                have O2 := Box.grown (w := (w3.alloc (.cells ([.int .i64 x0, .int .i64 (x1 * 256 + x2), .slice A2 x3.length c2].toArray) 98))) (O3.alloc _) hgr2 (fun e => by have := (hOwn (w.heap.size + 1) e.symm).1; omega)
                have Y2 := Box.grown (w := (w3.alloc (.cells ([.int .i64 x0, .int .i64 (x1 * 256 + x2), .slice A2 x3.length c2].toArray) 98))) (Y3.alloc _) hgr2 (fun e => by have := (hOwn w.heap.size e.symm).1; omega)
                have hBf : Below w.heap.size w w2 := Below.grown (w := (w3.alloc (.cells ([.int .i64 x0, .int .i64 (x1 * 256 + x2), .slice A2 x3.length c2].toArray) 98))) (bel_trans hB hBx) hgr2 (by have := hBx.size; omega) (fun b hb => by have := (hOwn b hb).1; omega)
                have z2 := hgr2.size
                have o2c := O2.cell 0
                have o2f := O2.frozen 0
                have GF := hfin.putB (p := ⟨(w.heap.size + 1), 0, none⟩) (by show w.heap.size + 1 < w.heap.size + 2; omega) (.slice A9 n9 c9)
                have OF : Box (w2.setCell ⟨(w.heap.size + 1), 0, none⟩ (.slice A9 n9 c9)) (w.heap.size + 1) 54 #[.slice A9 n9 c9, .slice none 0 0] := O2.put 0 (.slice A9 n9 c9)
                have YF := Y2.far (p := ⟨(w.heap.size + 1), 0, none⟩) (by show ¬ w.heap.size = w.heap.size + 1; omega) (.slice A9 n9 c9)
                have BF : Below w.heap.size w (w2.setCell ⟨(w.heap.size + 1), 0, none⟩ (.slice A9 n9 c9)) := bel_put hBf (by show w.heap.size ≤ w.heap.size + 1; omega) _
                refine hK.out _ _ (by exact kk _ hBf) (fun hHeld => ?_)
                clear hK K
                (try simp only [Act.put, qa_, qb_, qc_])
                refine wpAnyH_take (i := 24) (oi := ⟨some 63, _, _, _, _, _⟩) (v := ?v27) rfl (by kernel_rfl) (by kernel_rfl) (by kernel_rfl) (fun _ _ _ h => h) (Or.inl ⟨by rfl, ?hy27⟩) (by assumption) ?_
                case hy27 => (intro w hSw; (try dsimp only at hSw); go_simp; try (with_reducible rfl))
                (try simp only [Act.put, qa_, qb_, qc_])
                refine wpAnyH_ready (rs := [25]) (by kernel_rfl) (by simp) ?_
                refine AllReadyH.cons rfl (fun K hK => ?_) ?_
                · go_simp
                  refine hK.out _ _ (by exact kk _ BF) (fun hHeld => ?_)
                  clear hK K
                  (try simp only [Act.put, qa_, qb_, qc_])
                  refine wpAnyH_done (by kernel_rfl) ?_ _
                  by_cases hcc : c' = 83
                  · subst hcc
                    obtain rfl : n' = 83 := by omega
                    go_wp2
                    go_roundw
                    case rel => exact ⟨j + 1, _, _, _, _, _, by omega, by go_num, rfl, by omega, by omega, by omega, HIN.out _ (.inl rfl), by rw [HT.out, HA.out]; exact GF, OF, YF, BF, by have h := z2; simp [World.setCell] at h ⊢; omega⟩
                    case measure => simp [intOf]; omega
                  · have nc : ¬ 83 = c' := fun e => hcc e.symm
                    go_wp2
                    go_roundw
                    case rel => exact ⟨j + 1, _, _, _, _, _, by omega, by go_num, rfl, by omega, by omega, by omega, HIN.out _ (.inr rfl), by rw [HT.out, HA.out]; exact GF, OF, YF, BF, by have h := z2; simp [World.setCell] at h ⊢; omega⟩
                    case measure => simp [intOf]; omega
                exact AllReadyH.nil
              exact AllReadyH.nil
            exact AllReadyH.nil
          exact AllReadyH.nil
        exact AllReadyH.nil
      exact AllReadyH.nil
    · obtain rfl : N = j := by omega
      obtain ⟨A9, c9, F9, rfl, hO9, hN9⟩ := hG.done
      have q1 : ¬ (N : Int) < (N : Int) := by omega
      have h9b : w.heap.size + 1 ∉ F9 := fun h => by have := hN9.2 _ h; omega
      obtain ⟨w1, hw1⟩ : ∃ x, x = wr := ⟨_, rfl⟩
      subst hw1
      have h9l : ∀ f ∈ F9, f < w1.heap.size := fun f hf => tHeld.row.lt hO9 f hf
      clear hG
      go_wp2_with fail
      go_loopw [0, 9] (fun t i wr => ∃ (j : Nat) (A' : Option Addr) (n' c' : Nat) (u : Value), j ≤ M ∧ i = .int .i64 j ∧ t = .slice A' n' c' ∧ n' + 2 + 83 * N + 4 * j = n ∧ n' ≤ c' ∧ c' ≤ 9223372036854775807 ∧ Ints .u8 w w.heap.size A' n' (l.drop (2 + 83 * N + 4 * j)) ∧ tHeld.row.O wr [.slice A9 (rdL l N).length c9] (rdL l N) F9 ∧ Own .i64 3 wr w1.heap.size u (rdT l N j) ∧ Box wr (w.heap.size + 1) 54 #[.slice A9 (rdL l N).length c9, u] ∧ Box wr w.heap.size 54 #[.slice none 0 0, .slice none 0 0] ∧ Below w.heap.size w wr ∧ w1.heap.size ≤ wr.heap.size) (fun _ i _ => M - (intOf i).toNat)
      case atStart => exact ⟨0, A', n', c', .slice none 0 0, by omega, rfl, rfl, by omega, by omega, by omega, hI, hO9, Own.nil _ _ _ _, O4, Y4, hB, Nat.le_refl _⟩
      case round =>
        clear hO9 O4 Y4 hB hI hn' hnc' hcm'
        obtain ⟨j, A', n', c', u, hj, rfl, rfl, hn', hnc', hcm', hI, hO9, hU, O4, Y4, hB, zr2⟩ := hrel
        by_cases hlt : j < M
        · obtain ⟨k, hk⟩ : ∃ k, 2 + 83 * N + 4 * j = k := ⟨_, rfl⟩
          have HT := Lib.hid (rdT_snoc l N j)
          rw [hk] at hI HT
          have HTL := Lib.hid (rdT_len l N j)
          have hn4 : 4 ≤ n' := by omega
          obtain ⟨bb, off, rfl, -, -, -⟩ := hI.at_ (i := 0) (by omega)
          obtain ⟨y, hy⟩ : ∃ y, get4 (l.drop k) = y := ⟨_, rfl⟩
          have HY := Lib.hid hy
          have wfy : (Lit.int .i64 y).wf = true := by
            have h := hI.bytes
            have b0 := h.at_ 0; have b1 := h.at_ 1; have b2 := h.at_ 2; have b3 := h.at_ 3
            rw [← hy]; unfold get4
            exact wf_i64 (by omega) (by omega)
          have HIN := Lib.hid (show ∀ A2 : Option Addr, (n' - 4 = 0 ∨ A2 = some ⟨bb, off + 4, none⟩) → Ints .u8 w w.heap.size A2 (n' - 4) (l.drop (2 + 83 * N + 4 * (j + 1))) from by
            intro A2 hA2
            have h := tail8 hI 4 hn4
            rw [List.drop_drop, show k + 4 = 2 + 83 * N + 4 * (j + 1) from by omega] at h
            rcases hA2 with h0 | rfl
            · rw [h0] at h ⊢; exact ⟨h.1, fun h => absurd h (by omega), h.2.2⟩
            · exact h)
          have o4c := O4.cell 1
          have hUo := hU.1.lt
          have q1 : (j : Int) < (M : Int) := by omega
          have q5 : (4 : Int) ≤ (c' : Int) := by omega
          have q6 : (4 : Int) ≤ (n' : Int) := by omega
          clear hy
          go_wp2_with fail
          refine wp_region_held_drew (S := (fun _ => True)) (by kernel_rfl) (by trivial) (fun hHeld => ?_)
          refine wpAnyH_take (i := 0) (oi := ⟨some 71, _, _, _, _, _⟩) (v := ?v28) rfl (by kernel_rfl) (by kernel_rfl) (by kernel_rfl) (fun _ _ _ h => h) (Or.inl ⟨by rfl, ?hy28⟩) (by assumption) ?_
          case hy28 => (intro w hSw; (try dsimp only at hSw); go_simp; try (with_reducible rfl))
          (try simp only [Act.put, qa_, qb_, qc_])
          refine wpAnyH_take (i := 2) (oi := ⟨some 73, _, _, _, _, _⟩) (v := ?v29) rfl (by kernel_rfl) (by kernel_rfl) (by kernel_rfl) (fun _ _ _ h => h) (Or.inl ⟨by rfl, ?hy29⟩) (by assumption) ?_
          case hy29 => (intro w hSw; (try dsimp only at hSw); go_simp; try (with_reducible rfl))
          (try simp only [Act.put, qa_, qb_, qc_])
          refine wpAnyH_ready (rs := [1, 3]) (by kernel_rfl) (by simp) ?_
          refine AllReadyH.cons rfl (fun K hK => ?_) ?_
          · go_simp
            refine hK.out _ _ (by trivial) (fun hHeld => ?_)
            clear hK K
            (try simp only [Act.put, qa_, qb_, qc_])
            refine wpAnyH_ready (rs := [3]) (by kernel_rfl) (by simp) ?_
            refine AllReadyH.cons rfl (fun K hK => ?_) ?_
            · go_simp
              go_at_call 102
              refine (s_get (hI.below (show Below w.heap.size w wr.drew from bel_drew hB)) (by omega) (by omega)).mono ?_
              rintro e w5 ⟨he, q, hq⟩
              rw [HY.out] at he
              subst he
              have hs1 : Below wr.heap.size wr w5 := by rw [hq]; exact (belx)
              clear hq
              have O5 := Box.below O4 hs1 O4.size
              have Y5 := Box.below Y4 hs1 Y4.size
              have o5c := O5.cell 1
              have oAc := (O5.alloc (.cells #[.int .i64 y] 3)).cell 1
              have zw1 := hs1.size
              go_wp2_with fail
              refine hK.out _ _ (by trivial) (fun hHeld => ?_)
              clear hK K
              (try simp only [Act.put, qa_, qb_, qc_])
              refine wpAnyH_ready (rs := [4]) (by kernel_rfl) (by simp) ?_
              refine AllReadyH.cons rfl (fun K hK => ?_) ?_
              · go_simp
                refine hK.out _ _ (by trivial) (fun hHeld => ?_)
                clear hK K
                (try simp only [Act.put, qa_, qb_, qc_])
                refine wpAnyH_ready (rs := [5]) (by kernel_rfl) (by simp) ?_
                refine AllReadyH.cons rfl (fun K hK => ?_) ?_
                · have hBx : Below wr.heap.size wr (w5.alloc (.cells #[.int .i64 y] 3)) := bel_alloc hs1 _
                  have hU5 := hU.below hBx
                  have hS2 : Src (w5.alloc (.cells #[.int .i64 y] 3)) 1 (some ⟨w5.heap.size, 0, none⟩) 1 ([y].map (Value.int .i64)) := Src.of_box w5 3 [.int .i64 y] (K := 1) rfl
                  have t3 := hBx.size
                  refine step_app5 _ (by rfl) (.tmp 72) (.tmp 75) _ (by rfl) w1.heap.size 3 k0 _ 1 8 Try.underlying23 hk0 hk1 hk2 hk3 rfl (by omega) u _ _ (by rfl) hU5.1 _ 1 1 ([y].map (Value.int .i64)) (by rfl) hS2 (one_ints _ _) (by simp only [maxLen]; rw [HTL.out]; omega) (by rw [HTL.out]; omega) (by omega) ?_
                  intro v2 w2 hown2 hgr2 hat2
                  have hU2 := Own.of (k := .i64) (l := rdT l N j ++ [y]) (by rw [List.map_append]; exact hown2) (fun x hx => by rcases List.mem_append.1 hx with hx | hx; exact hU.2 x hx; rw [List.mem_singleton.1 hx]; exact wfy)
                  obtain ⟨A7, c7, hv, -, -, -⟩ := hU2.ints
                  obtain ⟨m7, hm7⟩ : ∃ m, (rdT l N j ++ [y]).length = m := ⟨_, rfl⟩
                  rw [hm7] at hv
                  subst hv
                  clear hm7
                  have O2 := Box.grown (w := (w5.alloc (.cells #[.int .i64 y] 3))) (O5.alloc _) hgr2 (fun e => by have := (hUo (w.heap.size + 1) e.symm).1; omega)
                  have Y2 := Box.grown (w := (w5.alloc (.cells #[.int .i64 y] 3))) (Y5.alloc _) hgr2 (fun e => by have := (hUo w.heap.size e.symm).1; omega)
                  have hBf : Below w.heap.size w w2 := Below.grown (w := (w5.alloc (.cells #[.int .i64 y] 3))) (bel_trans hB hBx) hgr2 (by have := hBx.size; omega) (fun b hb => by have := (hUo b hb).1; omega)
                  have z2 := hgr2.size
                  have o2c := O2.cell 1
                  have o2f := O2.frozen 1
                  have HL2 := own_past (w := (w5.alloc (.cells #[.int .i64 y] 3))) (Ty.below (t := tHeld.row) hO9 hBx) hgr2 (fun b hb hx => by have h1 := (hUo b hb).1; have h2 := h9l b hx; omega)
                  have HLF := Ty.far3 (t := tHeld.row) HL2 (p := ⟨(w.heap.size + 1), 1, none⟩) h9b (.slice A7 m7 c7)
                  have UF := hU2.put1 (p := ⟨(w.heap.size + 1), 1, none⟩) (by show w.heap.size + 1 < w1.heap.size; omega) (.slice A7 m7 c7)
                  have OF : Box (w2.setCell ⟨(w.heap.size + 1), 1, none⟩ (.slice A7 m7 c7)) (w.heap.size + 1) 54 #[.slice A9 (rdL l N).length c9, .slice A7 m7 c7] := O2.put 1 _
                  have YF := Y2.far (p := ⟨(w.heap.size + 1), 1, none⟩) (by show ¬ w.heap.size = w.heap.size + 1; omega) (.slice A7 m7 c7)
                  have BF : Below w.heap.size w (w2.setCell ⟨(w.heap.size + 1), 1, none⟩ (.slice A7 m7 c7)) := bel_put hBf (by show w.heap.size ≤ w.heap.size + 1; omega) _
                  refine hK.out _ _ (by trivial) (fun hHeld => ?_)
                  clear hK K
                  (try simp only [Act.put, qa_, qb_, qc_])
                  refine wpAnyH_take (i := 6) (oi := ⟨some 77, _, _, _, _, _⟩) (v := ?v30) rfl (by kernel_rfl) (by kernel_rfl) (by kernel_rfl) (fun _ _ _ h => h) (Or.inl ⟨by rfl, ?hy30⟩) (by assumption) ?_
                  case hy30 => (intro w hSw; (try dsimp only at hSw); go_simp; try (with_reducible rfl))
                  (try simp only [Act.put, qa_, qb_, qc_])
                  refine wpAnyH_ready (rs := [7]) (by kernel_rfl) (by simp) ?_
                  refine AllReadyH.cons rfl (fun K hK => ?_) ?_
                  · go_simp
                    refine hK.out _ _ (by trivial) (fun hHeld => ?_)
                    clear hK K
                    (try simp only [Act.put, qa_, qb_, qc_])
                    refine wpAnyH_done (by kernel_rfl) ?_ _
                    by_cases hcc : c' = 4
                    · subst hcc
                      obtain rfl : n' = 4 := by omega
                      go_wp2
                      go_roundw
                      case rel => exact ⟨j + 1, _, _, _, _, by omega, by go_num, rfl, by omega, by omega, by omega, HIN.out _ (.inl rfl), HLF, by rw [HT.out, HY.out]; exact UF, OF, YF, BF, by have h := z2; simp [World.setCell] at h ⊢; omega⟩
                      case measure => simp [intOf]; omega
                    · have nc : ¬ 4 = c' := fun e => hcc e.symm
                      go_wp2
                      go_roundw
                      case rel => exact ⟨j + 1, _, _, _, _, by omega, by go_num, rfl, by omega, by omega, by omega, HIN.out _ (.inr rfl), HLF, by rw [HT.out, HY.out]; exact UF, OF, YF, BF, by have h := z2; simp [World.setCell] at h ⊢; omega⟩
                      case measure => simp [intOf]; omega
                  exact AllReadyH.nil
                exact AllReadyH.nil
              exact AllReadyH.nil
            exact AllReadyH.nil
          refine AllReadyH.cons rfl (fun K hK => ?_) ?_
          · go_simp
            go_at_call 102
            refine (s_get (hI.below (show Below w.heap.size w wr.drew from bel_drew hB)) (by omega) (by omega)).mono ?_
            rintro e w5 ⟨he, q, hq⟩
            rw [HY.out] at he
            subst he
            have hs1 : Below wr.heap.size wr w5 := by rw [hq]; exact (belx)
            clear hq
            have O5 := Box.below O4 hs1 O4.size
            have Y5 := Box.below Y4 hs1 Y4.size
            have o5c := O5.cell 1
            have oAc := (O5.alloc (.cells #[.int .i64 y] 3)).cell 1
            have zw1 := hs1.size
            go_wp2_with fail
            refine hK.out _ _ (by trivial) (fun hHeld => ?_)
            clear hK K
            (try simp only [Act.put, qa_, qb_, qc_])
            refine wpAnyH_ready (rs := [1, 4]) (by kernel_rfl) (by simp) ?_
            refine AllReadyH.cons rfl (fun K hK => ?_) ?_
            · go_simp
              refine hK.out _ _ (by trivial) (fun hHeld => ?_)
              clear hK K
              (try simp only [Act.put, qa_, qb_, qc_])
              refine wpAnyH_ready (rs := [4]) (by kernel_rfl) (by simp) ?_
              refine AllReadyH.cons rfl (fun K hK => ?_) ?_
              · go_simp
                refine hK.out _ _ (by trivial) (fun hHeld => ?_)
                clear hK K
                (try simp only [Act.put, qa_, qb_, qc_])
                refine wpAnyH_ready (rs := [5]) (by kernel_rfl) (by simp) ?_
                refine AllReadyH.cons rfl (fun K hK => ?_) ?_
                · have hBx : Below wr.heap.size wr (w5.alloc (.cells #[.int .i64 y] 3)) := bel_alloc hs1 _
                  have hU5 := hU.below hBx
                  have hS2 : Src (w5.alloc (.cells #[.int .i64 y] 3)) 1 (some ⟨w5.heap.size, 0, none⟩) 1 ([y].map (Value.int .i64)) := Src.of_box w5 3 [.int .i64 y] (K := 1) rfl
                  have t3 := hBx.size
                  refine step_app5 _ (by rfl) (.tmp 72) (.tmp 75) _ (by rfl) w1.heap.size 3 k0 _ 1 8 Try.underlying23 hk0 hk1 hk2 hk3 rfl (by omega) u _ _ (by rfl) hU5.1 _ 1 1 ([y].map (Value.int .i64)) (by rfl) hS2 (one_ints _ _) (by simp only [maxLen]; rw [HTL.out]; omega) (by rw [HTL.out]; omega) (by omega) ?_
                  intro v2 w2 hown2 hgr2 hat2
                  have hU2 := Own.of (k := .i64) (l := rdT l N j ++ [y]) (by rw [List.map_append]; exact hown2) (fun x hx => by rcases List.mem_append.1 hx with hx | hx; exact hU.2 x hx; rw [List.mem_singleton.1 hx]; exact wfy)
                  obtain ⟨A7, c7, hv, -, -, -⟩ := hU2.ints
                  obtain ⟨m7, hm7⟩ : ∃ m, (rdT l N j ++ [y]).length = m := ⟨_, rfl⟩
                  rw [hm7] at hv
                  subst hv
                  clear hm7
                  have O2 := Box.grown (w := (w5.alloc (.cells #[.int .i64 y] 3))) (O5.alloc _) hgr2 (fun e => by have := (hUo (w.heap.size + 1) e.symm).1; omega)
                  have Y2 := Box.grown (w := (w5.alloc (.cells #[.int .i64 y] 3))) (Y5.alloc _) hgr2 (fun e => by have := (hUo w.heap.size e.symm).1; omega)
                  have hBf : Below w.heap.size w w2 := Below.grown (w := (w5.alloc (.cells #[.int .i64 y] 3))) (bel_trans hB hBx) hgr2 (by have := hBx.size; omega) (fun b hb => by have := (hUo b hb).1; omega)
                  have z2 := hgr2.size
                  have o2c := O2.cell 1
                  have o2f := O2.frozen 1
                  have HL2 := own_past (w := (w5.alloc (.cells #[.int .i64 y] 3))) (Ty.below (t := tHeld.row) hO9 hBx) hgr2 (fun b hb hx => by have h1 := (hUo b hb).1; have h2 := h9l b hx; omega)
                  have HLF := Ty.far3 (t := tHeld.row) HL2 (p := ⟨(w.heap.size + 1), 1, none⟩) h9b (.slice A7 m7 c7)
                  have UF := hU2.put1 (p := ⟨(w.heap.size + 1), 1, none⟩) (by show w.heap.size + 1 < w1.heap.size; omega) (.slice A7 m7 c7)
                  have OF : Box (w2.setCell ⟨(w.heap.size + 1), 1, none⟩ (.slice A7 m7 c7)) (w.heap.size + 1) 54 #[.slice A9 (rdL l N).length c9, .slice A7 m7 c7] := O2.put 1 _
                  have YF := Y2.far (p := ⟨(w.heap.size + 1), 1, none⟩) (by show ¬ w.heap.size = w.heap.size + 1; omega) (.slice A7 m7 c7)
                  have BF : Below w.heap.size w (w2.setCell ⟨(w.heap.size + 1), 1, none⟩ (.slice A7 m7 c7)) := bel_put hBf (by show w.heap.size ≤ w.heap.size + 1; omega) _
                  refine hK.out _ _ (by trivial) (fun hHeld => ?_)
                  clear hK K
                  (try simp only [Act.put, qa_, qb_, qc_])
                  refine wpAnyH_take (i := 6) (oi := ⟨some 77, _, _, _, _, _⟩) (v := ?v31) rfl (by kernel_rfl) (by kernel_rfl) (by kernel_rfl) (fun _ _ _ h => h) (Or.inl ⟨by rfl, ?hy31⟩) (by assumption) ?_
                  case hy31 => (intro w hSw; (try dsimp only at hSw); go_simp; try (with_reducible rfl))
                  (try simp only [Act.put, qa_, qb_, qc_])
                  refine wpAnyH_ready (rs := [7]) (by kernel_rfl) (by simp) ?_
                  refine AllReadyH.cons rfl (fun K hK => ?_) ?_
                  · go_simp
                    refine hK.out _ _ (by trivial) (fun hHeld => ?_)
                    clear hK K
                    (try simp only [Act.put, qa_, qb_, qc_])
                    refine wpAnyH_done (by kernel_rfl) ?_ _
                    by_cases hcc : c' = 4
                    · subst hcc
                      obtain rfl : n' = 4 := by omega
                      go_wp2
                      go_roundw
                      case rel => exact ⟨j + 1, _, _, _, _, by omega, by go_num, rfl, by omega, by omega, by omega, HIN.out _ (.inl rfl), HLF, by rw [HT.out, HY.out]; exact UF, OF, YF, BF, by have h := z2; simp [World.setCell] at h ⊢; omega⟩
                      case measure => simp [intOf]; omega
                    · have nc : ¬ 4 = c' := fun e => hcc e.symm
                      go_wp2
                      go_roundw
                      case rel => exact ⟨j + 1, _, _, _, _, by omega, by go_num, rfl, by omega, by omega, by omega, HIN.out _ (.inr rfl), HLF, by rw [HT.out, HY.out]; exact UF, OF, YF, BF, by have h := z2; simp [World.setCell] at h ⊢; omega⟩
                      case measure => simp [intOf]; omega
                  exact AllReadyH.nil
                exact AllReadyH.nil
              exact AllReadyH.nil
            refine AllReadyH.cons rfl (fun K hK => ?_) ?_
            · go_simp
              refine hK.out _ _ (by trivial) (fun hHeld => ?_)
              clear hK K
              (try simp only [Act.put, qa_, qb_, qc_])
              refine wpAnyH_ready (rs := [1]) (by kernel_rfl) (by simp) ?_
              refine AllReadyH.cons rfl (fun K hK => ?_) ?_
              · go_simp
                refine hK.out _ _ (by trivial) (fun hHeld => ?_)
                clear hK K
                (try simp only [Act.put, qa_, qb_, qc_])
                refine wpAnyH_ready (rs := [5]) (by kernel_rfl) (by simp) ?_
                refine AllReadyH.cons rfl (fun K hK => ?_) ?_
                · have hBx : Below wr.heap.size wr (w5.alloc (.cells #[.int .i64 y] 3)) := bel_alloc hs1 _
                  have hU5 := hU.below hBx
                  have hS2 : Src (w5.alloc (.cells #[.int .i64 y] 3)) 1 (some ⟨w5.heap.size, 0, none⟩) 1 ([y].map (Value.int .i64)) := Src.of_box w5 3 [.int .i64 y] (K := 1) rfl
                  have t3 := hBx.size
                  refine step_app5 _ (by rfl) (.tmp 72) (.tmp 75) _ (by rfl) w1.heap.size 3 k0 _ 1 8 Try.underlying23 hk0 hk1 hk2 hk3 rfl (by omega) u _ _ (by rfl) hU5.1 _ 1 1 ([y].map (Value.int .i64)) (by rfl) hS2 (one_ints _ _) (by simp only [maxLen]; rw [HTL.out]; omega) (by rw [HTL.out]; omega) (by omega) ?_
                  intro v2 w2 hown2 hgr2 hat2
                  have hU2 := Own.of (k := .i64) (l := rdT l N j ++ [y]) (by rw [List.map_append]; exact hown2) (fun x hx => by rcases List.mem_append.1 hx with hx | hx; exact hU.2 x hx; rw [List.mem_singleton.1 hx]; exact wfy)
                  obtain ⟨A7, c7, hv, -, -, -⟩ := hU2.ints
                  obtain ⟨m7, hm7⟩ : ∃ m, (rdT l N j ++ [y]).length = m := ⟨_, rfl⟩
                  rw [hm7] at hv
                  subst hv
                  clear hm7
                  have O2 := Box.grown (w := (w5.alloc (.cells #[.int .i64 y] 3))) (O5.alloc _) hgr2 (fun e => by have := (hUo (w.heap.size + 1) e.symm).1; omega)
                  have Y2 := Box.grown (w := (w5.alloc (.cells #[.int .i64 y] 3))) (Y5.alloc _) hgr2 (fun e => by have := (hUo w.heap.size e.symm).1; omega)
                  have hBf : Below w.heap.size w w2 := Below.grown (w := (w5.alloc (.cells #[.int .i64 y] 3))) (bel_trans hB hBx) hgr2 (by have := hBx.size; omega) (fun b hb => by have := (hUo b hb).1; omega)
                  have z2 := hgr2.size
                  have o2c := O2.cell 1
                  have o2f := O2.frozen 1
                  have HL2 := own_past (w := (w5.alloc (.cells #[.int .i64 y] 3))) (Ty.below (t := tHeld.row) hO9 hBx) hgr2 (fun b hb hx => by have h1 := (hUo b hb).1; have h2 := h9l b hx; omega)
                  have HLF := Ty.far3 (t := tHeld.row) HL2 (p := ⟨(w.heap.size + 1), 1, none⟩) h9b (.slice A7 m7 c7)
                  have UF := hU2.put1 (p := ⟨(w.heap.size + 1), 1, none⟩) (by show w.heap.size + 1 < w1.heap.size; omega) (.slice A7 m7 c7)
                  have OF : Box (w2.setCell ⟨(w.heap.size + 1), 1, none⟩ (.slice A7 m7 c7)) (w.heap.size + 1) 54 #[.slice A9 (rdL l N).length c9, .slice A7 m7 c7] := O2.put 1 _
                  have YF := Y2.far (p := ⟨(w.heap.size + 1), 1, none⟩) (by show ¬ w.heap.size = w.heap.size + 1; omega) (.slice A7 m7 c7)
                  have BF : Below w.heap.size w (w2.setCell ⟨(w.heap.size + 1), 1, none⟩ (.slice A7 m7 c7)) := bel_put hBf (by show w.heap.size ≤ w.heap.size + 1; omega) _
                  refine hK.out _ _ (by trivial) (fun hHeld => ?_)
                  clear hK K
                  (try simp only [Act.put, qa_, qb_, qc_])
                  refine wpAnyH_take (i := 6) (oi := ⟨some 77, _, _, _, _, _⟩) (v := ?v32) rfl (by kernel_rfl) (by kernel_rfl) (by kernel_rfl) (fun _ _ _ h => h) (Or.inl ⟨by rfl, ?hy32⟩) (by assumption) ?_
                  case hy32 => (intro w hSw; (try dsimp only at hSw); go_simp; try (with_reducible rfl))
                  (try simp only [Act.put, qa_, qb_, qc_])
                  refine wpAnyH_ready (rs := [7]) (by kernel_rfl) (by simp) ?_
                  refine AllReadyH.cons rfl (fun K hK => ?_) ?_
                  · go_simp
                    refine hK.out _ _ (by trivial) (fun hHeld => ?_)
                    clear hK K
                    (try simp only [Act.put, qa_, qb_, qc_])
                    refine wpAnyH_done (by kernel_rfl) ?_ _
                    by_cases hcc : c' = 4
                    · subst hcc
                      obtain rfl : n' = 4 := by omega
                      go_wp2
                      go_roundw
                      case rel => exact ⟨j + 1, _, _, _, _, by omega, by go_num, rfl, by omega, by omega, by omega, HIN.out _ (.inl rfl), HLF, by rw [HT.out, HY.out]; exact UF, OF, YF, BF, by have h := z2; simp [World.setCell] at h ⊢; omega⟩
                      case measure => simp [intOf]; omega
                    · have nc : ¬ 4 = c' := fun e => hcc e.symm
                      go_wp2
                      go_roundw
                      case rel => exact ⟨j + 1, _, _, _, _, by omega, by go_num, rfl, by omega, by omega, by omega, HIN.out _ (.inr rfl), HLF, by rw [HT.out, HY.out]; exact UF, OF, YF, BF, by have h := z2; simp [World.setCell] at h ⊢; omega⟩
                      case measure => simp [intOf]; omega
                  exact AllReadyH.nil
                exact AllReadyH.nil
              exact AllReadyH.nil
            exact AllReadyH.nil
          exact AllReadyH.nil
        · obtain rfl : M = j := by omega
          have q1 : ¬ (M : Int) < (M : Int) := by omega
          obtain ⟨A7, c7, F7, rfl, hO7, hN7⟩ := own_slice hU
          obtain rfl : n' = rr := by have := HRR.out; omega
          have hRP : tPool.R wr.drew wr.drew.heap.size [.slice A9 (rdL l N).length c9, .slice A7 (rdT l N M).length c7] (rdL l N, rdT l N M) := tPool.keep (makePool (p := (rdL l N, rdT l N M)) (tHeld.row.read hO9) (tIs.read hO7)) (fun _ _ => rfl)
          have hzP : szPool (rdL l N, rdT l N M) ≤ 1048576 := by
            have a1 := rdL_sz l N; have a2 := rdT_len l N M
            show rsz szHeld (rdL l N) + (rdT l N M).length ≤ _
            omega
          have o0 := O4.cell 0; have o1 := O4.cell 1
          clear hU
          go_wp2_with fail
          refine wp_region_held_drew (S := (fun w' => w'.cell? ⟨(w.heap.size + 1), 0, none⟩ = some (.slice A9 (rdL l N).length c9) ∧ w'.cell? ⟨(w.heap.size + 1), 1, none⟩ = some (.slice A7 (rdT l N M).length c7))) (by kernel_rfl) (by exact ⟨o0, o1⟩) (fun hHeld => ?_)
          refine wpAnyH_take (i := 0) (oi := ⟨some 80, _, _, _, _, _⟩) (v := ?v33) rfl (by kernel_rfl) (by kernel_rfl) (by kernel_rfl) (fun _ _ _ h => h) (Or.inl ⟨by rfl, ?hy33⟩) (by assumption) ?_
          case hy33 => (intro w hSw; (try dsimp only at hSw); go_simp; try (with_reducible rfl))
          (try simp only [Act.put, qa_, qb_, qc_])
          refine wpAnyH_take (i := 1) (oi := ⟨some 81, _, _, _, _, _⟩) (v := ?v34) rfl (by kernel_rfl) (by kernel_rfl) (by kernel_rfl) (fun _ _ _ h => h) (Or.inl ⟨by rfl, ?hy34⟩) (by assumption) ?_
          case hy34 => (intro w hSw; (try dsimp only at hSw); go_simp; try (with_reducible rfl))
          (try simp only [Act.put, qa_, qb_, qc_])
          refine wpAnyH_take (i := 2) (oi := ⟨some 82, _, _, _, _, _⟩) (v := ?v35) rfl (by kernel_rfl) (by kernel_rfl) (by kernel_rfl) (fun _ _ _ h => h) (Or.inl ⟨by rfl, ?hy35⟩) (by assumption) ?_
          case hy35 => (intro w hSw; (try dsimp only at hSw); go_simp; try (with_reducible rfl))
          (try simp only [Act.put, qa_, qb_, qc_])
          refine wpAnyH_ready (rs := [3]) (by kernel_rfl) (by simp) ?_
          refine AllReadyH.cons rfl (fun K hK => ?_) ?_
          · go_simp
            go_at_call 103
            refine (s_PoolOk (cs := [.slice A9 (rdL l N).length c9, .slice A7 (rdT l N M).length c7]) hRP hzP).mono ?_
            rintro e w5 ⟨rfl, hb5⟩
            rw [HBK.out]
            have hs1 : Below wr.heap.size wr w5 := bel_trans (show Below wr.heap.size wr wr.drew from (belx)) hb5
            have O5 := Box.below O4 hs1 O4.size
            have Y5 := Box.below Y4 hs1 Y4.size
            have q0 := Y5.cell 0
            have q1_ := Y5.cell 1
            have f0 := Y5.frozen 0
            have f1 := Y5.frozen 1
            have O8 := (O5.far (p := ⟨w.heap.size, 0, none⟩) (by show ¬ w.heap.size + 1 = w.heap.size; omega) (.slice A9 (rdL l N).length c9)).far (p := ⟨w.heap.size, 1, none⟩) (by show ¬ w.heap.size + 1 = w.heap.size; omega) (.slice A7 (rdT l N M).length c7)
            go_wp2_with fail
            refine hK.out _ _ (by exact ⟨O5.cell 0, O5.cell 1⟩) (fun hHeld => ?_)
            clear hK K
            (try simp only [Act.put, qa_, qb_, qc_])
            refine wpAnyH_ready (rs := [4]) (by kernel_rfl) (by simp) ?_
            refine AllReadyH.cons rfl (fun K hK => ?_) ?_
            · go_simp
              refine hK.out _ _ (by exact ⟨O8.cell 0, O8.cell 1⟩) (fun hHeld => ?_)
              clear hK K
              (try simp only [Act.put, qa_, qb_, qc_])
              refine wpAnyH_take (i := 5) (oi := ⟨some 3, _, _, _, _, _⟩) (v := ?v36) rfl (by kernel_rfl) (by kernel_rfl) (by kernel_rfl) (fun _ _ _ h => h) (Or.inl ⟨by rfl, ?hy36⟩) (by assumption) ?_
              case hy36 => (intro w hSw; (try dsimp only at hSw); go_simp; try (with_reducible rfl))
              (try simp only [Act.put, qa_, qb_, qc_])
              refine wpAnyH_take (i := 6) (oi := ⟨some 4, _, _, _, _, _⟩) (v := ?v37) rfl (by kernel_rfl) (by kernel_rfl) (by kernel_rfl) (fun _ _ _ h => h) (Or.inl ⟨by rfl, ?hy37⟩) (by assumption) ?_
              case hy37 => (intro w hSw; (try dsimp only at hSw); go_simp; try (with_reducible rfl))
              (try simp only [Act.put, qa_, qb_, qc_])
              refine wpAnyH_done (by kernel_rfl) ?_ _
              go_wp2
              have RR := (Y5.put 0 (.slice A9 (rdL l N).length c9)).put 1 (.slice A7 (rdT l N M).length c7)
              have e0 := RR.cell 0
              have e1 := RR.cell 1
              have h7l : ∀ f ∈ F7, w1.heap.size ≤ f := fun f hf => hN7.2 f hf
              have hM : New (w.heap.size + 2) (F9 ++ F7) := new_pair (hN9.lower (by omega)) (hN7.lower (by omega)) (fun f h1 h2 => by have a1 := h9l f h1; have a2 := h7l f h2; omega)
              have hX := put2_Pool (r0 := rdL l N) (l1 := rdT l N M) (F0 := F9) (F1 := F7) (g := w.heap.size) (w := w5) (Ty.below (t := tHeld.row) hO9 hs1) (Ty.below (t := tIs) hO7 hs1) (hM.not (by omega))
              refine bodyPost_ret (v := .tuple #[.agg #[.slice A9 (rdL l N).length c9, .slice A7 (rdT l N M).length c7], .slice A' n' c', .bool bok]) (by simp [results, Try.results69, go_sem, e0, e1]) rfl ⟨[.slice A9 (rdL l N).length c9, .slice A7 (rdT l N M).length c7], A', c', F9 ++ F7, rfl, hX, hM.lower (by omega), ?_⟩
              exact bel_put (bel_put (bel_trans hB hs1) (Nat.le_refl _) _) (Nat.le_refl _) _
            exact AllReadyH.nil
          exact AllReadyH.nil
theorem s_l5read {w : World} {n c : Nat} {A : Option Addr} {l : List Int} (hd : tBy.R w w.heap.size [.slice A n c] l) (hn : n ≤ 1048576) (h2 : 2 ≤ n) (hs : rdSz l ≤ n) :
    Calls Try.prog 69 #[.slice A n c] w fun e w' => ∃ cs A' c' F, e = .returned (.tuple #[.agg cs.toArray, .slice A' (n - rdSz l) c', .bool (decide (PlOk (rdP l)))]) ∧ tPool.O w' cs (rdP l) F ∧ New w.heap.size F ∧ Below w.heap.size w w' := by
  by_cases hc2 : c = 2
  · exact s_l5readB hd hn h2 hs hc2
  · exact s_l5readA hd hn h2 hs hc2
end Go.Proofs.Ytnfmjgldcnokbaa
