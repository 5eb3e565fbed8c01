/-
  PFlS: texts joined.
-/
import Derived.Test.YtojbicecopkfbaaGreatFGl
import Derived.Test.YtojbicecopkfbaaGreatFGn
import Derived.Test.YtojbicecopkfbaaGreatFGo
import Derived.Test.YtojbicecopkfbaaGreatFX0
namespace Go.Proofs.YtojbicecopkfbaaGreat
set_option maxRecDepth 100000
set_option linter.unusedVariables false
set_option linter.unusedSimpArgs false
open Go.ChangeShapes Go.WideShapes Go.ChangeAt Go.RowKit
open Fld
theorem ints_by {w : World} {B n : Nat} {A : Option Addr} {l : List Int} (h : Ints .u8 w B A n l) : Bytes l := fun x hx => by
  have := h.2.2 x hx
  simp [Lit.wf] at this
  have e1 : IntKind.u8.min = 0 := by decide
  have e2 : IntKind.u8.max = 255 := by decide
  omega
theorem GrowR.low {α : Type} {t : Ty α} {e : TypeId} {w : World} {base base' B : Nat} {v : Value} {l : List α} (h : GrowR t e w base B v l) (hb : base' ≤ base) : GrowR t e w base' B v l := by
  obtain ⟨css, h1, h2, h3⟩ := h
  obtain ⟨a1, a2⟩ := h1
  exact ⟨css, ⟨a1, a2.imp id fun ⟨g, cap, cur, q1, q2, q3⟩ => ⟨g, cap, cur, q1, Nat.le_trans hb q2, q3⟩⟩, h2, h3⟩
theorem s_flush_few {w : World} {A0 A1 A3 : Option Addr} {n0 c0 n1 c1 n3 c3 : Nat} {x : Int} (hx : (n0 : Int) < x) (hn0 : n0 ≤ 12) :
    Calls Tryz.prog 83 #[.agg #[.slice A0 n0 c0, .slice A1 n1 c1], .int .i64 x, .slice A3 n3 c3] w fun e w' => e = .returned (.tuple #[.agg #[.slice A0 n0 c0, .slice A1 n1 c1], .slice none 0 0, .int .i64 0]) ∧ Below w.heap.size w w' := by
  have q0 : IntKind.i64.wrap ((n0 : Int) - 1) = (n0 : Int) - 1 := IntWalk.i64_in _ (by omega)
  have B1 : Box ((w.alloc (.cells #[.slice A0 n0 c0, .slice A1 n1 c1] 55)).alloc (.cells #[.slice none 0 0, .slice none 0 0] 55)) w.heap.size 55 #[.slice A0 n0 c0, .slice A1 n1 c1] := (Box.new _ _ _).alloc _
  have B2 : Box ((w.alloc (.cells #[.slice A0 n0 c0, .slice A1 n1 c1] 55)).alloc (.cells #[.slice none 0 0, .slice none 0 0] 55)) (w.heap.size + 1) 55 #[.slice none 0 0, .slice none 0 0] := by simpa using Box.new (w.alloc (.cells #[.slice A0 n0 c0, .slice A1 n1 c1] 55)) 55 #[.slice none 0 0, .slice none 0 0]
  have y0 := B2.cell 0; have y1 := B2.cell 1; have y2 := B2.frozen 0; have y3 := B2.frozen 1
  have qd : decide ((n0 : Int) < x) = true := decide_eq_true hx
  have B3 : Box ((w.alloc (.cells #[.slice A0 n0 c0, .slice A1 n1 c1] 55)).alloc (.cells #[.slice A0 n0 c0, .slice A1 n1 c1] 55)) (w.heap.size + 1) 55 #[.slice A0 n0 c0, .slice A1 n1 c1] := by simpa using Box.new (w.alloc (.cells #[.slice A0 n0 c0, .slice A1 n1 c1] 55)) 55 #[.slice A0 n0 c0, .slice A1 n1 c1]
  have g0 := B3.cell 0; have g1 := B3.cell 1
  go_enter Tryz.func83, Tryz.ntmps83
  go_wp2
  have RR := (B2.put 0 (.slice A0 n0 c0)).put 1 (.slice A1 n1 c1)
  have e0 := RR.cell 0; have e1 := RR.cell 1
  refine bodyPost_ret (v := .tuple #[.agg #[.slice A0 n0 c0, .slice A1 n1 c1], .slice none 0 0, .int .i64 0]) (by simp [results, Tryz.results83, go_sem, g0, g1]) rfl ⟨rfl, ?_⟩
  exact (belx)
theorem s_flush_no {w : World} {A0 A1 A3 : Option Addr} {n0 c0 n1 c1 n3 c3 : Nat} {x : Int} {d : List Int} (hx : ¬ (n0 : Int) < x) (hx1 : 1 ≤ x) (hn0 : n0 ≤ 12) (hd : Ints .u8 w w.heap.size A3 n3 d) (hn3 : n3 ≤ 140737488355328) (hs : shuf d (n0 - 1) (iota n0) 0 = none) :
    Calls Tryz.prog 83 #[.agg #[.slice A0 n0 c0, .slice A1 n1 c1], .int .i64 x, .slice A3 n3 c3] w fun e w' => e = .returned (.tuple #[.agg #[.slice A0 n0 c0, .slice A1 n1 c1], .slice none 0 0, .int .i64 (-1)]) ∧ Below w.heap.size w w' := by
  have qz : ((n0 : Int) == 0) = false := by rw [beq_eq_false_iff_ne]; omega
  have qd : decide ((n0 : Int) < x) = false := decide_eq_false hx
  have q0 : IntKind.i64.wrap ((n0 : Int) - 1) = (n0 : Int) - 1 := IntWalk.i64_in _ (by omega)
  have B1 : Box ((w.alloc (.cells #[.slice A0 n0 c0, .slice A1 n1 c1] 55)).alloc (.cells #[.slice none 0 0, .slice none 0 0] 55)) w.heap.size 55 #[.slice A0 n0 c0, .slice A1 n1 c1] := (Box.new _ _ _).alloc _
  have B2 : Box ((w.alloc (.cells #[.slice A0 n0 c0, .slice A1 n1 c1] 55)).alloc (.cells #[.slice none 0 0, .slice none 0 0] 55)) (w.heap.size + 1) 55 #[.slice none 0 0, .slice none 0 0] := by simpa using Box.new (w.alloc (.cells #[.slice A0 n0 c0, .slice A1 n1 c1] 55)) 55 #[.slice none 0 0, .slice none 0 0]
  have y0 := B2.cell 0; have y1 := B2.cell 1; have y2 := B2.frozen 0; have y3 := B2.frozen 1
  have hn1 : 1 ≤ n0 := by omega
  clear hx1
  go_enter Tryz.func83, Tryz.ntmps83
  go_wp2_with fail
  refine (s_shuffle_f n0 (reach hd ?hB) hn3 (by omega) hs).mono ?_
  case hB => exact (belx)
  rintro e w1 ⟨rfl, hb1⟩
  have X1 := B1.below hb1 B1.size
  have Y1 := B2.below hb1 B2.size
  have hB1 : Below w.heap.size w w1 := bel_trans (belx) hb1
  clear y0 y1 y2 y3 B1 B2
  have x0 := X1.cell 0; have x1 := X1.cell 1
  have y0 := Y1.cell 0; have y1 := Y1.cell 1; have y2 := Y1.frozen 0; have y3 := Y1.frozen 1
  go_wp2
  have RR := (Y1.put 0 (.slice A0 n0 c0)).put 1 (.slice A1 n1 c1)
  have e0 := RR.cell 0; have e1 := RR.cell 1
  refine bodyPost_ret (v := .tuple #[.agg #[.slice A0 n0 c0, .slice A1 n1 c1], .slice none 0 0, .int .i64 (-1)]) (by simp [results, Tryz.results83, go_sem, e0, e1]) rfl ⟨rfl, ?_⟩
  exact bel_put (bel_put hB1 (by simp) _) (by simp) _
set_option maxHeartbeats 4000000 in
theorem s_flush_yesG {w : World} {B : Nat} (hB0 : B ≤ w.heap.size) {A0 A1 A3 : Option Addr} {n0 c0 n1 c1 n3 c3 : Nat} {x : Int} {d L : List Int} {U : Nat} {r0 : List DHeld} (hr0 : tHeld.row.R w B [.slice A0 n0 c0] r0) (hx : ¬ (n0 : Int) < x) (hx1 : 1 ≤ x) (hn0 : n0 ≤ 12) (hd : Ints .u8 w w.heap.size A3 n3 d) (hn3 : n3 ≤ 140737488355328) (hs : shuf d (n0 - 1) (iota n0) 0 = some (L, U)) :
    Calls Tryz.prog 83 #[.agg #[.slice A0 n0 c0, .slice A1 n1 c1], .int .i64 x, .slice A3 n3 c3] w fun e w' => ∃ A c, e = .returned (.tuple #[.agg #[.slice none 0 0, .slice A1 n1 c1], .slice A (pmut r0 L).length c, .int .i64 U]) ∧ GrowR tHeld 121 w' w.heap.size B (.slice A (pmut r0 L).length c) (pmut r0 L) ∧ Below w.heap.size w w' := by
  have qz : ((n0 : Int) == 0) = false := by rw [beq_eq_false_iff_ne]; omega
  have qd : decide ((n0 : Int) < x) = false := decide_eq_false hx
  obtain ⟨i1, hj0, hj1, hj2, hj3⟩ := info_parts info_Held
  have HOP := Lib.hid (ord_place (ints_by hd) hs)
  have E0 := Lib.hid (rowR_len hr0).1
  have q0 : IntKind.i64.wrap ((n0 : Int) - 1) = (n0 : Int) - 1 := IntWalk.i64_in _ (by omega)
  have B1 : Box ((w.alloc (.cells #[.slice A0 n0 c0, .slice A1 n1 c1] 55)).alloc (.cells #[.slice none 0 0, .slice none 0 0] 55)) w.heap.size 55 #[.slice A0 n0 c0, .slice A1 n1 c1] := (Box.new _ _ _).alloc _
  have B2 : Box ((w.alloc (.cells #[.slice A0 n0 c0, .slice A1 n1 c1] 55)).alloc (.cells #[.slice none 0 0, .slice none 0 0] 55)) (w.heap.size + 1) 55 #[.slice none 0 0, .slice none 0 0] := by simpa using Box.new (w.alloc (.cells #[.slice A0 n0 c0, .slice A1 n1 c1] 55)) 55 #[.slice none 0 0, .slice none 0 0]
  have y0 := B2.cell 0; have y1 := B2.cell 1; have y2 := B2.frozen 0; have y3 := B2.frozen 1
  have hn1 : 1 ≤ n0 := by omega
  clear hx1
  go_enter Tryz.func83, Tryz.ntmps83
  go_wp2_with fail
  refine (s_shuffle_t n0 (reach hd ?hB) hn3 (by omega) hs).mono ?_
  case hB => exact (belx)
  rintro e w1 ⟨v, rfl, hOL, hb1⟩
  have X1 := B1.below hb1 B1.size
  have Y1 := B2.below hb1 B2.size
  have hB1 : Below w.heap.size w w1 := bel_trans (belx) hb1
  have z1 : w.heap.size + 2 ≤ w1.heap.size := by have := hb1.size; simpa using this
  clear y0 y1 y2 y3 B1 B2 hb1 q0
  obtain ⟨Ao, co, rfl, -, hIo, -⟩ := hOL.ints
  obtain ⟨nL, hnL⟩ : ∃ n, L.length = n := ⟨_, rfl⟩
  have hnL0 : nL = n0 := by rw [← hnL]; exact HOP.out.1
  rw [hnL] at hIo ⊢
  have HNL := Lib.hid hnL
  have hle1 : nL ≤ n0 := by omega
  have HEQ := Lib.hid hnL0
  clear hnL hnL0 hOL
  have x1 := X1.cell 1
  go_wp2_with fail
  go_loopw [11, 12] (fun v i wr => ∃ j : Nat, j ≤ nL ∧ i = .int .i64 j ∧ GrowR tHeld 121 wr w1.heap.size B v (pmut r0 (L.take j)) ∧ Below w1.heap.size w1 wr) (fun _ i _ => nL - (intOf i).toNat)
  case atStart => exact ⟨0, by omega, rfl, GrowR.nil, Below.refl _ _⟩
  case round =>
    obtain ⟨j, hj, rfl, hG, hC⟩ := hrel
    have hB := bel_trans hB1 hC
    by_cases hlt : j < nL
    · obtain ⟨bo, offo, rfl, hbo, hoc0, -⟩ := hIo.at_ hlt
      obtain ⟨m, hm, hmj⟩ := HOP.out.2 j (by omega)
      rw [hmj] at hoc0
      obtain ⟨a, b', off, es, hl2, rfl, hb, hes, hR⟩ := rowR_at (K := 3) hr0 hm rfl
      have HT := Lib.hid (pmut_snoc (l := r0) (o := L) (j := j) (by rw [HNL.out]; exact hlt) hmj hl2)
      obtain ⟨A2, n2, c2, rfl, -, -, -, -, -, -⟩ := openHeld hR
      have e0 : wr.cell? ⟨b', off + m * 3, none⟩ = some (.int .i64 a.1) := cell_at hB (Nat.lt_of_lt_of_le hb hB0) (hes 0 (by omega))
      have e1 : wr.cell? ⟨b', off + m * 3 + 1, none⟩ = some (.int .i64 a.2.1) := cell_at hB (Nat.lt_of_lt_of_le hb hB0) (hes 1 (by omega))
      have e2 : wr.cell? ⟨b', off + m * 3 + 2, none⟩ = some (.slice A2 n2 c2) := cell_at hB (Nat.lt_of_lt_of_le hb hB0) (hes 2 (by omega))
      have HE0 := Lib.hid (show w.cell? ⟨b', off + m * 3, none⟩ = some (.int .i64 a.1) from hes 0 (by omega))
      have HE1 := Lib.hid (show w.cell? ⟨b', off + m * 3 + 1, none⟩ = some (.int .i64 a.2.1) from hes 1 (by omega))
      have HE2 := Lib.hid (show w.cell? ⟨b', off + m * 3 + 2, none⟩ = some (.slice A2 n2 c2) from hes 2 (by omega))
      have k0 : wr.cell? ⟨w.heap.size, 0, none⟩ = some (.slice (some ⟨b', off, none⟩) n0 c0) := (X1.below hC X1.size).cell 0
      have hoc : w1.cell? ⟨bo, offo + j, none⟩ = some (.int .i64 (m : Int)) := hoc0
      have ok : wr.cell? ⟨bo, offo + j, none⟩ = some (.int .i64 (m : Int)) := cell_bel hC hoc
      have hRr : tHeld.R wr B [.int .i64 a.1, .int .i64 a.2.1, .slice A2 n2 c2] a := tHeld.keep hR (fun b hb => hB.block b (Nat.lt_of_lt_of_le hb hB0))
      have hlf : (pmut r0 (L.take j)).length ≤ 12 := by rw [pmut_len, List.length_take]; omega
      have p1 : (0 : Int) ≤ (j : Int) := by omega
      have p2 : (j : Int) < (nL : Int) := by omega
      have p3 : (0 : Int) ≤ (m : Int) := by omega
      have p4 : (m : Int) < (n0 : Int) := by omega
      have hOwn := hG.own
      have zC := hC.size
      have tz : (Value.agg #[Value.int .i64 0, Value.int .i64 0, Value.slice none 0 0]).cells.size = 3 := by first | rfl | (simp [Value.cells]; done)
      have j0 : (wr.alloc (.cells [.int .i64 a.1, .int .i64 a.2.1, .slice A2 n2 c2].toArray 121)).cell? ⟨w.heap.size, 0, none⟩ = some (.slice (some ⟨b', off, none⟩) n0 c0) := ((X1.below hC X1.size).alloc _).cell 0
      have j1 := cell_bel (w' := (wr.alloc (.cells [.int .i64 a.1, .int .i64 a.2.1, .slice A2 n2 c2].toArray 121))) (belx) ok
      have j2 := cell_bel (w' := (wr.alloc (.cells [.int .i64 a.1, .int .i64 a.2.1, .slice A2 n2 c2].toArray 121))) (belx) e0
      have j3 := cell_bel (w' := (wr.alloc (.cells [.int .i64 a.1, .int .i64 a.2.1, .slice A2 n2 c2].toArray 121))) (belx) e1
      have j4 := cell_bel (w' := (wr.alloc (.cells [.int .i64 a.1, .int .i64 a.2.1, .slice A2 n2 c2].toArray 121))) (belx) e2
      clear hes hl2 hR hoc0 hmj
      go_wp2_with fail
      refine wp_region_held_drew (S := (fun w' => w'.cell? ⟨w.heap.size, 0, none⟩ = some (.slice (some ⟨b', off, none⟩) n0 c0) ∧ w'.cell? ⟨bo, offo + j, none⟩ = some (.int .i64 (m : Int)) ∧ w'.cell? ⟨b', off + m * 3, none⟩ = some (.int .i64 a.1) ∧ w'.cell? ⟨b', off + m * 3 + 1, none⟩ = some (.int .i64 a.2.1) ∧ w'.cell? ⟨b', off + m * 3 + 2, none⟩ = some (.slice A2 n2 c2))) (by kernel_rfl) (by exact ⟨k0, ok, e0, e1, e2⟩) (fun hHeld => ?_)
      refine wpAnyH_take (i := 0) (oi := ⟨some 42, _, _, _, _, _⟩) (v := ?v1) rfl (by kernel_rfl) (by kernel_rfl) (by kernel_rfl) (fun _ _ _ h => h) (Or.inl ⟨by rfl, ?hy1⟩) (by assumption) ?_
      case hy1 => (intro w hSw; (try dsimp only at hSw); go_simp; try (with_reducible rfl))
      (try simp only [Act.put, qa_, qb_, qc_])
      refine wpAnyH_take (i := 1) (oi := ⟨some 43, _, _, _, _, _⟩) (v := ?v2) rfl (by kernel_rfl) (by kernel_rfl) (by kernel_rfl) (fun _ _ _ h => h) (Or.inl ⟨by rfl, ?hy2⟩) (by assumption) ?_
      case hy2 => (intro w hSw; (try dsimp only at hSw); go_simp; try (with_reducible rfl))
      (try simp only [Act.put, qa_, qb_, qc_])
      refine wpAnyH_take (i := 2) (oi := ⟨some 44, _, _, _, _, _⟩) (v := ?v3) rfl (by kernel_rfl) (by kernel_rfl) (by kernel_rfl) (fun _ _ _ h => h) (Or.inl ⟨by rfl, ?hy3⟩) (by assumption) ?_
      case hy3 => (intro w hSw; (try dsimp only at hSw); go_simp; try (with_reducible rfl))
      (try simp only [Act.put, qa_, qb_, qc_])
      refine wpAnyH_take (i := 3) (oi := ⟨some 45, _, _, _, _, _⟩) (v := ?v4) rfl (by kernel_rfl) (by kernel_rfl) (by kernel_rfl) (fun _ _ _ h => h) (Or.inl ⟨by rfl, ?hy4⟩) (by assumption) ?_
      case hy4 => (intro w hSw; (try dsimp only at hSw); go_simp; try (with_reducible rfl))
      (try simp only [Act.put, qa_, qb_, qc_])
      refine wpAnyH_take (i := 4) (oi := ⟨some 46, _, _, _, _, _⟩) (v := ?v5) rfl (by kernel_rfl) (by kernel_rfl) (by kernel_rfl) (fun _ _ _ h => h) (Or.inl ⟨by rfl, ?hy5⟩) (by assumption) ?_
      case hy5 => (intro w hSw; (try dsimp only at hSw); go_simp; try (with_reducible rfl))
      (try simp only [Act.put, qa_, qb_, qc_])
      refine wpAnyH_take (i := 5) (oi := ⟨some 47, _, _, _, _, _⟩) (v := ?v6) rfl (by kernel_rfl) (by kernel_rfl) (by kernel_rfl) (fun _ _ _ h => h) (Or.inl ⟨by rfl, ?hy6⟩) (by assumption) ?_
      case hy6 => (intro w hSw; (try dsimp only at hSw); go_simp; try (with_reducible rfl))
      (try simp only [Act.put, qa_, qb_, qc_])
      refine wpAnyH_take (i := 6) (oi := ⟨some 48, _, _, _, _, _⟩) (v := ?v7) rfl (by kernel_rfl) (by kernel_rfl) (by kernel_rfl) (fun _ _ _ h => h) (Or.inl ⟨by rfl, ?hy7⟩) (by assumption) ?_
      case hy7 => (intro w hSw; (try dsimp only at hSw); go_simp; try (with_reducible rfl))
      (try simp only [Act.put, qa_, qb_, qc_])
      refine wpAnyH_take (i := 7) (oi := ⟨some 49, _, _, _, _, _⟩) (v := ?v8) rfl (by kernel_rfl) (by kernel_rfl) (by kernel_rfl) (fun _ _ _ h => h) (Or.inl ⟨by rfl, ?hy8⟩) (by assumption) ?_
      case hy8 => (intro w hSw; (try dsimp only at hSw); go_simp; try (with_reducible rfl))
      (try simp only [Act.put, qa_, qb_, qc_])
      refine wpAnyH_take (i := 8) (oi := ⟨some 50, _, _, _, _, _⟩) (v := ?v9) rfl (by kernel_rfl) (by kernel_rfl) (by kernel_rfl) (fun _ _ _ h => h) (Or.inl ⟨by rfl, ?hy9⟩) (by assumption) ?_
      case hy9 => (intro w hSw; (try dsimp only at hSw); go_simp; try (with_reducible rfl))
      (try simp only [Act.put, qa_, qb_, qc_])
      refine wpAnyH_ready (rs := [9]) (by kernel_rfl) (by simp) ?_
      refine AllReadyH.cons rfl (fun K hK => ?_) ?_
      · go_simp
        refine hK.out _ _ (by exact ⟨j0, j1, j2, j3, j4⟩) (fun hHeld => ?_)
        clear hK K
        (try simp only [Act.put, qa_, qb_, qc_])
        refine wpAnyH_ready (rs := [10]) (by kernel_rfl) (by simp) ?_
        refine AllReadyH.cons rfl (fun K hK => ?_) ?_
        · apply GrowR.step (t := tHeld) (e := 121) (w := (wr.alloc (.cells [.int .i64 a.1, .int .i64 a.2.1, .slice A2 n2 c2].toArray 121)).drew) (base := w1.heap.size) (B := B) (s := .tmp 42) (x := .tmp 51) (ty := 53) (i := i1) (z := .agg #[.int .i64 0, .int .i64 0, .slice none 0 0]) (size := 3) (bytes := 40) (g := wr.heap.size) (es := [.int .i64 a.1, .int .i64 a.2.1, .slice A2 n2 c2]) (el := a)
          case hgd => rfl
          case ho => rfl
          case ht => exact Tryz.underlying53
          case hi => exact hj0
          case hz => exact hj1
          case hsize => exact hj2
          case hby => exact hj3
          case hzs => exact tz
          case hsz => omega
          case hk => rfl
          case hs => rfl
          case hG => exact hG.below (belx) (by omega)
          case hx => rfl
          case hb => exact Box.drew (Box.new wr _ _)
          case hR => exact tHeld.keep hRr (fun b hb => (Below.heap_alloc wr _ b (by omega)))
          case h1 => exact one_held _ _ _ _ _
          case hB => omega
          case hw => show _ ≤ (World.alloc _ _).heap.size; simp; omega
          case h63 => simp only [maxLen]; omega
          case hbytes => omega
          intro v2 w2 hG2 hgr2
          have hCf : Below w1.heap.size w1 w2 := Below.grown (w := (wr.alloc (.cells [.int .i64 a.1, .int .i64 a.2.1, .slice A2 n2 c2].toArray 121)).drew) (bel_trans hC (belx)) hgr2 (by show _ ≤ (World.alloc _ _).heap.size; simp; omega) (fun b hb => (hOwn b hb).1)
          have hBf : Below w.heap.size w w2 := bel_trans hB1 hCf
          have k2 : w2.cell? ⟨w.heap.size, 0, none⟩ = some (.slice (some ⟨b', off, none⟩) n0 c0) := (X1.below hCf X1.size).cell 0
          have o2 : w2.cell? ⟨bo, offo + j, none⟩ = some (.int .i64 (m : Int)) := cell_bel hCf hoc
          refine hK.out _ _ (by exact ⟨k2, o2, cell_at hBf (Nat.lt_of_lt_of_le hb hB0) HE0.out, cell_at hBf (Nat.lt_of_lt_of_le hb hB0) HE1.out, cell_at hBf (Nat.lt_of_lt_of_le hb hB0) HE2.out⟩) (fun hHeld => ?_)
          clear hK K
          (try simp only [Act.put, qa_, qb_, qc_])
          refine wpAnyH_take (i := 11) (oi := ⟨some 11, _, _, _, _, _⟩) (v := ?v10) rfl (by kernel_rfl) (by kernel_rfl) (by kernel_rfl) (fun _ _ _ h => h) (Or.inl ⟨by rfl, ?hy10⟩) (by assumption) ?_
          case hy10 => (intro w hSw; (try dsimp only at hSw); go_simp; try (with_reducible rfl))
          (try simp only [Act.put, qa_, qb_, qc_])
          refine wpAnyH_done (by kernel_rfl) ?_ _
          go_wp2
          go_roundw
          case rel => exact ⟨j + 1, by omega, by go_num, by rw [HT.out]; exact hG2, hCf⟩
          case measure => simp [intOf]; omega
        exact AllReadyH.nil
      exact AllReadyH.nil
    · obtain rfl : nL = j := by omega
      have HA := Lib.hid (show L.take nL = L from List.take_of_length_le (Nat.le_of_eq HNL.out))
      rw [HA.out] at hG
      obtain ⟨A3', c3', rfl⟩ := hG.shape
      have p2 : ¬ (nL : Int) < (nL : Int) := by omega
      have X2 := X1.below hC X1.size
      have Y2 := Y1.below hC Y1.size
      have x1 := X2.cell 1
      have y0 := Y2.cell 0; have y1 := Y2.cell 1; have y2 := Y2.frozen 0; have y3 := Y2.frozen 1
      go_wp2
      have RR := (Y2.put 0 (.slice none 0 0)).put 1 (.slice A1 n1 c1)
      have e0 := RR.cell 0; have e1 := RR.cell 1
      have zC := hC.size
      have hG2 := (hG.put (p := ⟨w.heap.size + 1, 0, none⟩) (by show w.heap.size + 1 < _; omega) (by show _ ≤ w.heap.size + 1; omega) (.slice none 0 0)).put (p := ⟨w.heap.size + 1, 1, none⟩) (by show w.heap.size + 1 < _; omega) (by show _ ≤ w.heap.size + 1; omega) (.slice A1 n1 c1)
      refine bodyPost_ret (v := .tuple #[.agg #[.slice none 0 0, .slice A1 n1 c1], .slice A3' (pmut r0 L).length c3', .int .i64 U]) (by simp [results, Tryz.results83, go_sem, e0, e1]) rfl ⟨A3', c3', rfl, hG2.low (by omega), ?_⟩
      exact bel_put (bel_put hB (by simp) _) (by simp) _
theorem nilRwR {w : World} {B : Nat} : tHeld.row.R w B [.slice none 0 0] [] := ⟨none, 0, 0, rfl, Nat.le_refl _, by omega, rfl, fun h => absurd h (by omega)⟩
theorem s_flushAll {w : World} {B : Nat} (hB0 : B ≤ w.heap.size) {A0 A1 A3 : Option Addr} {n0 c0 n1 c1 n3 c3 : Nat} {x : Int} {d : List Int} {p : DPool} (h : tPool.R w B [.slice A0 n0 c0, .slice A1 n1 c1] p) (hfo : FlOk p x) (hd : Ints .u8 w w.heap.size A3 n3 d) (hn3 : n3 ≤ 140737488355328) :
    Calls Tryz.prog 83 #[.agg #[.slice A0 n0 c0, .slice A1 n1 c1], .int .i64 x, .slice A3 n3 c3] w fun e w' => ∃ B0 m0 d0 A c, e = .returned (.tuple #[.agg #[.slice B0 m0 d0, .slice A1 n1 c1], .slice A (fFlL p x d).length c, .int .i64 (fFlN p x d)]) ∧ (∀ w3 : World, (∀ b, b < B → w3.heap[b]? = w.heap[b]?) → tPool.R w3 B [.slice B0 m0 d0, .slice A1 n1 c1] (fFlP p x d)) ∧ GrowR tHeld 121 w' w.heap.size B (.slice A (fFlL p x d).length c) (fFlL p x d) ∧ Below w.heap.size w w' := by
  obtain ⟨a0, m0, e0, a1, m1, e1, hcs, -, -, l0, hr0, -, -, -, hr1⟩ := openPool h
  simp only [List.cons.injEq, Value.slice.injEq, and_true] at hcs
  obtain ⟨⟨rfl, rfl, rfl⟩, ⟨rfl, rfl, rfl⟩⟩ := hcs
  have hn0 : n0 ≤ 12 := by have := hfo.1.1; omega
  have hx1 := hfo.2.1
  by_cases hfew : (p.1.length : Int) < x
  · obtain ⟨f1, f2, f3⟩ := fl_few (d := d) hfo hfew
    rw [f1, f2, f3]
    rw [l0] at hfew
    exact (s_flush_few hfew hn0).mono fun e w' ⟨he, hB⟩ => ⟨_, _, _, _, _, he, fun w3 hk => tPool.keep h hk, GrowR.nil, hB⟩
  cases hsh : shuf d (p.1.length - 1) (iota p.1.length) 0 with
  | none =>
    obtain ⟨f1, f2, f3⟩ := fl_no (d := d) hfo hfew hsh
    rw [f1, f2, f3]
    rw [l0] at hfew hsh
    exact (s_flush_no hfew hx1 hn0 hd hn3 hsh).mono fun e w' ⟨he, hB⟩ => ⟨_, _, _, _, _, he, fun w3 hk => tPool.keep h hk, GrowR.nil, hB⟩
  | some r =>
    obtain ⟨L, U⟩ := r
    obtain ⟨f1, f2, f3⟩ := fl_yes (d := d) hfo hfew hsh
    rw [f1, f2, f3]
    rw [l0] at hfew hsh
    exact (s_flush_yesG hB0 hr0 hfew hx1 hn0 hd hn3 hsh).mono fun e w' ⟨A, c, he, hG, hB⟩ => ⟨_, _, _, A, c, he, fun w3 hk => makePool (p := ([], p.2)) nilRwR (tIs.keep hr1 hk), hG, hB⟩
end Go.Proofs.YtojbicecopkfbaaGreat
