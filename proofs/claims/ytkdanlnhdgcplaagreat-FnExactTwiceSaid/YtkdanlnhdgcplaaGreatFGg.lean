/-
  PWi, SpecTwo, SpecThree, POwn, PMv5: texts joined.
-/
import Derived.Test.YtkdanlnhdgcplaaGreatFGa
import Derived.Test.YtkdanlnhdgcplaaGreatFGb
import Derived.Test.YtkdanlnhdgcplaaGreatFGd
import Derived.Test.YtkdanlnhdgcplaaGreatFGe
import Derived.Test.YtkdanlnhdgcplaaGreatFGf
import Derived.Test.YtkdanlnhdgcplaaGreatFMPNodeI
import Derived.BigQuiet
import Derived.Deep.DrawnRows
import Derived.Deep.QuietTactic
import Derived.Deep.RegionHeld3
import Derived.Outline
namespace Go.Proofs.YtkdanlnhdgcplaaGreat
set_option maxRecDepth 100000
set_option linter.unusedVariables false
set_option linter.unusedSimpArgs false
open Go.ChangeShapes Go.WideShapes Go.ChangeAt Go.RowKit
open Fld
theorem i_within_t (x y : Int) (w : World) (h1 : 0 ≤ x) (h2 : x ≤ y) : Calls Tryz.prog 58 #[.int .i64 x, .int .i64 y] w fun e w' => e = .returned (.bool true) ∧ w = w' := by
 go_enter Tryz.func58, Tryz.ntmps58
 go_wp2
 go_ret
 exact ⟨by first | rfl | (simp; done) | (simp; omega), rfl⟩
theorem i_within_f (x y : Int) (w : World) (h : ¬ (0 ≤ x ∧ x ≤ y)) : Calls Tryz.prog 58 #[.int .i64 x, .int .i64 y] w fun e w' => e = .returned (.bool false) ∧ w = w' := by
 by_cases h1 : 0 ≤ x
 ·have h2 : ¬ x ≤ y := fun h2 => h ⟨h1, h2⟩
  clear h
  go_enter Tryz.func58, Tryz.ntmps58
  go_wp2
  go_ret
  exact ⟨by first | rfl | (simp; done) | (simp; omega), rfl⟩
 ·clear h
  go_enter Tryz.func58, Tryz.ntmps58
  go_wp2
  go_ret
  exact ⟨by first | rfl | (simp; done) | (simp; omega), rfl⟩
theorem i_nodeSecret (s i : Int) (w : World) (h1 : 0 ≤ s) (h2 : s ≤ 1000) (h3 : 0 ≤ i) (h4 : i ≤ 8) : Calls Tryz.prog 103 #[.int .i64 s, .int .i64 i] w fun e w' => e = .returned (.int .i64 (nsec s i)) ∧ w = w' := by
 have HN := Lib.hid (show nsec s i = 1 + (1009 * s + 7919 * i + 12345) % 1000000000 from rfl)
 go_enter Tryz.func103, Tryz.ntmps103
 go_wp2
 go_ret
 exact ⟨by first | (rw [HN.out]; done) | (rw [HN.out]; rfl) | (refine ret_int ?_; rw [HN.out]; omega), rfl⟩
end Go.Proofs.YtkdanlnhdgcplaaGreat
namespace Go.Proofs.YtkdanlnhdgcplaaGreat
set_option maxRecDepth 100000
open Go.ChangeShapes Go.WideShapes Go.ChangeAt Go.RowKit
open Fld
attribute [local go_sem ↓] Go.wp_at_zero Go.wp_at_succ

theorem Ints.bytes {w : World} {B n : Nat} {A : Option Addr} {l : List Int} (h : Ints .u8 w B A n l) : Bytes l := fun x hx => by
 have := h.2.2 x hx
 simp [Lit.wf] at this
 have e1 : IntKind.u8.min = 0 := by decide
 have e2 : IntKind.u8.max = 255 := by decide
 omega
theorem Own.not {k : IntKind} {e : TypeId} {w : World} {base b : Nat} {v : Value} {l : List Int} (h : Own k e w base v l) (hb : b < base) : some b ≠ v.ownBlock := fun e => by
 have := (h.block e.symm).1; omega

theorem Src.four (w : World) (t : TypeId) (x0 x1 x2 x3 : Int) : Src (w.alloc (.cells #[.int .u8 x0, .int .u8 x1, .int .u8 x2, .int .u8 x3] t)) 1 (some ⟨w.heap.size, 0, none⟩) 4 ([x0, x1, x2, x3].map (Value.int .u8)) := by
 refine ⟨rfl, fun _ => ⟨_, 0, rfl, fun j v hj => ?_⟩⟩
 rw [(Box.new w t _).cell]
 match j, hj with
 | 0, hj => exact hj
 | 1, hj => exact hj
 | 2, hj => exact hj
 | 3, hj => exact hj
theorem Ints.tail {w : World} {B n b off : Nat} {l : List Int} (h : Ints .u8 w B (some ⟨b, off, none⟩) n l) (m : Nat) (hm : m ≤ n) : Ints .u8 w B (some ⟨b, off + m, none⟩) (n - m) (l.drop m) := by
 refine ⟨by rw [List.length_drop, h.1], fun h0 => ?_, fun x hx => h.2.2 x (List.mem_of_mem_drop hx)⟩
 obtain ⟨b', off', e, hb, hc⟩ := h.2.1 (by omega)
 simp only [Option.some.injEq, Addr.mk.injEq, and_true] at e
 obtain ⟨rfl, rfl⟩ := e
 refine ⟨b, off + m, rfl, hb, fun i hi => ?_⟩
 rw [getD_drop, Nat.add_assoc]
 exact hc (m + i) (by omega)
end Go.Proofs.YtkdanlnhdgcplaaGreat
namespace Go.Proofs.YtkdanlnhdgcplaaGreat
set_option maxRecDepth 100000
open Go.ChangeShapes Go.WideShapes Go.ChangeAt Go.RowKit
open Fld
attribute [local go_sem ↓] Go.wp_at_zero Go.wp_at_succ

theorem s_CellOk_t (A : Option Addr) (n c : Nat) (w : World) (h : n = 80) :
  Calls Tryz.prog 51 #[.agg #[.slice A n c]] w fun e w' => e = .returned (.bool true) ∧ Bel w w' := by
 subst h
 go_enter Tryz.func51, Tryz.ntmps51
 go_wp2
 go_ret
 exact ⟨rfl, (belx)⟩
theorem s_CellOk_f (A : Option Addr) (n c : Nat) (w : World) (h : ¬ n = 80) :
  Calls Tryz.prog 51 #[.agg #[.slice A n c]] w fun e w' => e = .returned (.bool false) ∧ Bel w w' := by
 have d : ((n : Int) == 80) = false := by simp; omega
 clear h
 go_enter Tryz.func51, Tryz.ntmps51
 go_wp2
 go_ret
 exact ⟨by first | rfl | simp [d], (belx)⟩
end Go.Proofs.YtkdanlnhdgcplaaGreat
namespace Go.Proofs.YtkdanlnhdgcplaaGreat
set_option maxRecDepth 100000
set_option linter.unusedVariables false
set_option linter.unusedSimpArgs false
open Go.ChangeShapes Go.WideShapes Go.ChangeAt Go.RowKit
open Fld
theorem empty9 (w : World) (t : TypeId) : (w.alloc (.cells #[] t)).ownsRow w.heap.size t 1 (.slice (some ⟨w.heap.size, 0, none⟩) 0 0) 0 [] :=
 ⟨rfl, .inr ⟨w.heap.size, 0, #[], rfl, Nat.le_refl _, heap_alloc_new w _, Nat.le_refl _, by simp only [maxLen]; omega, rfl, rfl⟩⟩
theorem Ty.far3 {α : Type} {t : Ty α} {w : World} {cs : List Value} {a : α} {F : List Nat} (h : t.O w cs a F) {p : Addr} (hp : p.block ∉ F) (u : Value) : t.O (w.setCell p u) cs a F :=
 t.kept h fun f hf => Below.heap_setCell w p u f (by rintro rfl; exact hp hf)
theorem one_held (x0 x1 : Int) (A : Option Addr) (n c : Nat) : ∀ u ∈ [Value.int .i64 x0, .int .i64 x1, .slice A n c], u.oneCell' = true := by
 intro u hu
 simp only [List.mem_cons, List.not_mem_nil, or_false] at hu
 rcases hu with rfl | rfl | rfl <;> rfl
set_option maxHeartbeats 2000000 in
theorem s_ownHeld {w : World} {n c : Nat} {A : Option Addr} {l : List DHeld} (h : tHeld.row.R w w.heap.size [.slice A n c] l) (hz : rsz szHeld l ≤ 1048576) :
  Calls Tryz.prog 132 #[.slice A n c] w fun e w' => ∃ A' c' F, e = .returned (.slice A' l.length c') ∧ tHeld.row.O w' [.slice A' l.length c'] l F ∧ New w.heap.size F ∧ Bel w w' := by
 obtain ⟨i0, hi0, hz0, hz1, hz2⟩ := info_parts info_cb
 obtain ⟨i1, hj0, hj1, hj2, hj3⟩ := info_parts info_Held
 obtain ⟨e0, _, _⟩ := rowR_len h
 have hn : n ≤ 1048576 := by have := rsz_le (s := szHeld) l; omega
 have HL := Lib.hid e0
 have HZ := Lib.hid hz
 clear e0 hz
 go_enter Tryz.func132, Tryz.ntmps132
 go_wp2_with fail
 go_loopw [3, 4] (fun v i wr => ∃ (j : Nat) (F : List Nat), j ≤ n ∧ i = .int .i64 j ∧ GrowO tHeld 174 wr w.heap.size v (l.take j) F ∧ Bel w wr) (fun _ i _ => n - (RowKit.intOf i).toNat)
 case atStart => exact ⟨0, [], by omega, rfl, GrowO.nil, (belx)⟩
 case round =>
  obtain ⟨j, F, hj, rfl, hG, hB⟩ := hrel
  by_cases hlt : j < n
  ·obtain ⟨a, b', off, es, hl2, rfl, hb, hes, hR⟩ := rowR_at (K := 3) h hlt rfl
   have HT := Lib.hid (take_sn hl2)
   have HLN := Lib.hid (show (l.take j).length = j from by rw [List.length_take, HL.out]; omega)
   have hsa : a.2.2.length ≤ 1048576 := by have := rsz_step (s := szHeld) hl2; have := HZ.out; unfold szHeld szCell at *; omega
   clear hl2
   obtain ⟨A2, n2, c2, rfl, hi0', hi1', -, -, -, hr2⟩ := openHeld hR
   have hI2 := (slR_ints hr2).1
   have e0 : wr.cell? ⟨b', off + j * 3, none⟩ = some (.int .i64 a.1) := cell_at hB hb (hes 0 (by omega))
   have e1 : wr.cell? ⟨b', off + j * 3 + 1, none⟩ = some (.int .i64 a.2.1) := cell_at hB hb (hes 1 (by omega))
   have e2 : wr.cell? ⟨b', off + j * 3 + 2, none⟩ = some (.slice A2 n2 c2) := cell_at hB hb (hes 2 (by omega))
   clear hes hR
   have zB := hB.size
   have hIr : Ints .u8 wr wr.heap.size A2 n2 a.2.2 := reach hI2 hB
   have hE : ((wr.alloc (.cells #[.int .i64 a.1, .int .i64 a.2.1, .slice A2 n2 c2] 174)).alloc (.cells #[] 5)).ownsRow (wr.heap.size + 1) 5 1 (.slice (some ⟨wr.heap.size + 1, 0, none⟩) 0 0) 0 [] := by simpa using empty9 (wr.alloc (.cells #[.int .i64 a.1, .int .i64 a.2.1, .slice A2 n2 c2] 174)) 5
   have hS : Src ((wr.alloc (.cells #[.int .i64 a.1, .int .i64 a.2.1, .slice A2 n2 c2] 174)).alloc (.cells #[] 5)) 1 A2 n2 (a.2.2.map (Value.int .u8)) := Src.of_ints (reach hIr (belx))
   have hn2 : n2 ≤ 1048576 := by rw [← hIr.1]; exact hsa
   have hOwn := fun b hb => (GrowO.row hG).choose_spec.1.lt b hb
   have hlt2 := hG.lt
   have HIW := Lib.hid hIr.2.2
   have HI1 := Lib.hid hIr.1
   clear hr2 hI2
   go_wp2_with (first
    | (at_builtin; refine wpList_app _ rfl (.tmp 16) (.tmp 19) _ rfl (wr.heap.size + 1) 5 i0 _ 1 1 Tryz.underlying28 hi0 hz0 hz1 hz2 rfl (by omega) (.slice (some ⟨wr.heap.size + 1, 0, none⟩) 0 0) 0 [] rfl hE _ n2 c2 (a.2.2.map (Value.int .u8)) rfl hS (one_ints _ _) (by simp only [maxLen]; omega) (by omega) (by simp; done) ?_; intro v1 w1 hown hgr hat; obtain ⟨Ad, cd, Fd, rfl, hOd, hNd⟩ := own_slice (Own.of (n := 0 + n2) (by simpa using hown) HIW.out); have hs1 : Bel wr w1 := Below.grown (w := ((wr.alloc (.cells #[.int .i64 a.1, .int .i64 a.2.1, .slice A2 n2 c2] 174)).alloc (.cells #[] 5))) (belx) hgr lez (fun b hb => by have e := Option.some.inj (show some (wr.heap.size + 1) = some b from hb); omega); have X1 : Box w1 wr.heap.size 174 #[.int .i64 a.1, .int .i64 a.2.1, .slice A2 n2 c2] := Box.grown (w := ((wr.alloc (.cells #[.int .i64 a.1, .int .i64 a.2.1, .slice A2 n2 c2] 174)).alloc (.cells #[] 5))) ((Box.new wr 174 #[.int .i64 a.1, .int .i64 a.2.1, .slice A2 n2 c2]).alloc _) hgr (fun e => by have e := Option.some.inj (show some wr.heap.size = some (wr.heap.size + 1) from e); omega); have x0 := X1.cell 0; have x1 := X1.cell 1; have x2 := X1.cell 2; have fx2 := X1.frozen 2; have fx0 := X1.frozen 0; have fx1 := X1.frozen 1)
    | (at_builtin; have hBx : Bel wr ((w1.setCell ⟨wr.heap.size, 2, none⟩ (.slice Ad a.2.2.length cd)).alloc (.cells [.int .i64 a.1, .int .i64 a.2.1, .slice Ad a.2.2.length cd].toArray 174)) := bel_alloc (bel_put hs1 (Nat.le_refl _) _) _; obtain ⟨xs, hrow, hpush⟩ := (hG.below hBx).row; have hsz : (w1.setCell ⟨wr.heap.size, 2, none⟩ (.slice Ad a.2.2.length cd)).heap.size = w1.heap.size := (by simp [World.setCell]); have hS2 : Src ((w1.setCell ⟨wr.heap.size, 2, none⟩ (.slice Ad a.2.2.length cd)).alloc (.cells [.int .i64 a.1, .int .i64 a.2.1, .slice Ad a.2.2.length cd].toArray 174)) 3 (some ⟨w1.heap.size, 0, none⟩) 1 [.int .i64 a.1, .int .i64 a.2.1, .slice Ad a.2.2.length cd] := (by have h := Src.of_box (w1.setCell ⟨wr.heap.size, 2, none⟩ (.slice Ad a.2.2.length cd)) 174 [.int .i64 a.1, .int .i64 a.2.1, .slice Ad a.2.2.length cd] (K := 3) rfl; rw [hsz] at h; exact h); have tz : (Value.agg #[Value.int .i64 0, Value.int .i64 0, Value.slice none 0 0]).cells.size = 3 := lev; have t0 := one_held a.1 a.2.1 Ad a.2.2.length cd; have t1 : (l.take j).length + 1 ≤ maxLen := (by simp only [maxLen]; have := HLN.out; omega); have t2 : ((l.take j).length + 1) * 40 ≤ 140737488355328 := (by have := HLN.out; omega); have t3 := hBx.size; refine wpList_app _ rfl (.tmp 23) (.tmp 25) _ rfl w.heap.size 174 i1 _ 3 40 Tryz.underlying101 hj0 hj1 hj2 hj3 tz (by omega) u3 _ xs rfl hrow _ 1 1 [.int .i64 a.1, .int .i64 a.2.1, .slice Ad a.2.2.length cd] rfl hS2 t0 t1 t2 (by omega) ?_; intro v2 w2 hown2 hgr2 hat2; have hOx : tBy.O ((w1.setCell ⟨wr.heap.size, 2, none⟩ (.slice Ad a.2.2.length cd)).alloc (.cells [.int .i64 a.1, .int .i64 a.2.1, .slice Ad a.2.2.length cd].toArray 174)) [.slice Ad a.2.2.length cd] a.2.2 Fd := Ty.below (t := tBy) (Ty.far3 (t := tBy) hOd (p := ⟨wr.heap.size, 2, none⟩) (fun hx => absurd (hNd.2 wr.heap.size hx) (by omega)) _) (belx); obtain ⟨Fx, hOel, ex⟩ := makeOHeld (p := a) hi0' hi1' hOx; subst ex; have hNel : New w.heap.size Fx := hNd.lower (by omega); have hdis : ∀ f ∈ Fx, f ∉ F := (fun f h1 h2 => by have := hNd.2 _ h1; have := hlt2 f h2; omega); have hod : ∀ b, u3.ownBlock = some b → b ∉ Fx := (fun b hb hx => by have := (hOwn b hb).2; have := hNd.2 _ hx; omega); have hfin := hpush w2 v2 a _ Fx hOel hNel hdis hod hown2 hgr2 hat2; have hBf : Bel w w2 := Below.grown (w := ((w1.setCell ⟨wr.heap.size, 2, none⟩ (.slice Ad a.2.2.length cd)).alloc (.cells [.int .i64 a.1, .int .i64 a.2.1, .slice Ad a.2.2.length cd].toArray 174))) (bel_trans hB hBx) hgr2 (by have := hBx.size; omega) (fun b hb => (hOwn b hb).1)))
   go_roundw
   case rel => exact ⟨j + 1, _, by omega, by go_num, by rw [HT.out]; exact hfin, hBf⟩
   case measure => simp [RowKit.intOf]; omega
  ·obtain rfl : n = j := by omega
   have HA := Lib.hid (show l.take n = l from List.take_of_length_le (Nat.le_of_eq HL.out))
   rw [HA.out] at hG
   go_wp2
   go_ret
   obtain ⟨A3, c3, F3, rfl, hO3, hN3⟩ := hG.done
   exact ⟨A3, c3, F3, rfl, hO3, hN3, hB⟩
theorem i_copiedB5 {w : World} {n c : Nat} {A : Option Addr} {l : List Int} (hl : Ints .u8 w w.heap.size A n l) (hn : n ≤ 1048576) :
  Calls Tryz.prog 114 #[.slice A n c] w fun e w' => ∃ v, e = .returned v ∧ Own .u8 5 w' w.heap.size v l ∧ Bel w w' := by
 obtain ⟨i0, hi0, hz0, hz1, hz2⟩ := info_parts info_cb
 go_enter Tryz.func114, Tryz.ntmps114
 go_wp2_with (at_builtin; refine wpList_app _ rfl _ (.tmp 3) _ rfl w.heap.size 5 i0 _ 1 1 Tryz.underlying28 hi0 hz0 hz1 hz2 rfl (by omega) (.slice none 0 0) 0 [] rfl (World.ownsRow_nil _ _ _ _) _ n c (l.map (Value.int .u8)) rfl (Src.of_ints hl) (one_ints _ _) (by simp only [maxLen]; omega) (by omega) (Nat.le_refl _) ?_; intro v1 w1 hown hgr hat)
 go_ret
 exact ⟨v1, rfl, Own.of (n := 0 + n) (by simpa using hown) hl.2.2, Below.grown (Below.refl _ _) hgr (Nat.le_refl _) fun b hb => by simp [Value.ownBlock] at hb⟩
set_option maxHeartbeats 1000000 in
theorem i_HdCopy {w : World} {A2 : Option Addr} {n2 c2 : Nat} {x0 x1 : Int} {l2 : List Int} (hl : Ints .u8 w w.heap.size A2 n2 l2) (hn : n2 ≤ 1048576) :
  Calls Tryz.prog 179 #[.agg #[.int .i64 x0, .int .i64 x1, .slice A2 n2 c2]] w fun e w' => ∃ A c F, e = .returned (.agg #[.int .i64 x0, .int .i64 x1, .slice A l2.length c]) ∧ tBy.O w' [.slice A l2.length c] l2 F ∧ New w.heap.size F ∧ Bel w w' := by
 go_enter Tryz.func179, Tryz.ntmps179
 go_wp2_with fail
 refine (i_copiedB5 (reach hl ?hB) hn).mono ?_
 case hB => exact (belx)
 rintro e w1 ⟨v, rfl, hO, hb1⟩
 obtain ⟨A, c, F, rfl, hO3, hN⟩ := own_slice hO
 clear hO
 have z1 : w.heap.size + 2 ≤ w1.heap.size := by have := hb1.size; simpa using this
 have P1 : Box w1 w.heap.size 174 #[.int .i64 x0, .int .i64 x1, .slice A2 n2 c2] := Box.below ((Box.new w _ _).alloc _) hb1 (by simp; omega)
 have R1 : Box w1 (w.heap.size + 1) 174 #[.int .i64 0, .int .i64 0, .slice none 0 0] := Box.below (by simpa using Box.new (w.alloc _) 174 #[.int .i64 0, .int .i64 0, .slice none 0 0]) hb1 (by simp)
 have hM : New (w.heap.size + 2) F := hN.lower (by simp)
 have hB1 : Bel w w1 := bel_trans (belx) hb1
 have p0 := P1.cell 0; have p1 := P1.cell 1; have p2 := P1.cell 2
 have f2 := P1.frozen 2
 have r0 := R1.cell 0; have r1 := R1.cell 1; have r2 := R1.cell 2
 have g0 := R1.frozen 0; have g1 := R1.frozen 1; have g2 := R1.frozen 2
 go_wp2
 have RR := (((R1.far (p := ⟨w.heap.size, 2, none⟩) (by simp) (.slice A l2.length c)).put 0 (.int .i64 x0)).put 1 (.int .i64 x1)).put 2 (.slice A l2.length c)
 have e0 := RR.cell 0; have e1 := RR.cell 1; have e2 := RR.cell 2
 have u := Ty.far (t := tBy) (Ty.far (t := tBy) (Ty.far (t := tBy) (Ty.far (t := tBy) hO3 hM (p := ⟨w.heap.size, 2, none⟩) (by show w.heap.size < _; omega) (.slice A l2.length c)) hM (p := ⟨w.heap.size + 1, 0, none⟩) (by show w.heap.size + 1 < _; omega) (.int .i64 x0)) hM (p := ⟨w.heap.size + 1, 1, none⟩) (by show w.heap.size + 1 < _; omega) (.int .i64 x1)) hM (p := ⟨w.heap.size + 1, 2, none⟩) (by show w.heap.size + 1 < _; omega) (.slice A l2.length c)
 refine bodyPost_ret (v := .agg #[.int .i64 x0, .int .i64 x1, .slice A l2.length c]) (by simp [results, Tryz.results179, go_sem, e0, e1, e2]) rfl ⟨A, c, F, rfl, u, hM.lower (by omega), ?_⟩
 exact bel_put (bel_put (bel_put (bel_put hB1 (by simp) _) (by simp) _) (by simp) _) (by simp) _
set_option maxHeartbeats 2000000 in
theorem i_eachCopy {w : World} {n c : Nat} {A : Option Addr} {l : List DHeld} (h : tHeld.row.R w w.heap.size [.slice A n c] l) (hz : rsz szHeld l ≤ 1048576) :
  Calls Tryz.prog 178 #[.slice A n c, .func (.func 179) #[] #[]] w fun e w' => ∃ A' c' F, e = .returned (.slice A' l.length c') ∧ tHeld.row.O w' [.slice A' l.length c'] l F ∧ New w.heap.size F ∧ Bel w w' := by
 obtain ⟨i1, hj0, hj1, hj2, hj3⟩ := info_parts info_Held
 obtain ⟨e0, _, _⟩ := rowR_len h
 have hn : n ≤ 1048576 := by have := rsz_le (s := szHeld) l; omega
 have HL := Lib.hid e0
 have HZ := Lib.hid hz
 clear e0 hz
 go_enter Tryz.func178, Tryz.ntmps178
 go_wp2_with fail
 go_loopw [5, 10] (fun v i wr => ∃ (j : Nat) (F : List Nat), j ≤ n ∧ i = .int .i64 j ∧ GrowO tHeld 174 wr w.heap.size v (l.take j) F ∧ Bel w wr) (fun _ i _ => n - (RowKit.intOf i).toNat)
 case atStart => exact ⟨0, [], by omega, rfl, GrowO.nil, (belx)⟩
 case round =>
  obtain ⟨j, F, hj, rfl, hG, hB⟩ := hrel
  by_cases hlt : j < n
  ·obtain ⟨a, b', off, es, hl2, rfl, hb, hes, hR⟩ := rowR_at (K := 3) h hlt rfl
   have HT := Lib.hid (take_sn hl2)
   have HLN := Lib.hid (show (l.take j).length = j from by rw [List.length_take, HL.out]; omega)
   have hsa : a.2.2.length ≤ 1048576 := by have := rsz_step (s := szHeld) hl2; have := HZ.out; unfold szHeld szCell at *; omega
   clear hl2
   obtain ⟨A2, n2, c2, rfl, hi0', hi1', -, -, -, hr2⟩ := openHeld hR
   have hI2 := (slR_ints hr2).1
   have e0 : wr.cell? ⟨b', off + j * 3, none⟩ = some (.int .i64 a.1) := cell_at hB hb (hes 0 (by omega))
   have e1 : wr.cell? ⟨b', off + j * 3 + 1, none⟩ = some (.int .i64 a.2.1) := cell_at hB hb (hes 1 (by omega))
   have e2 : wr.cell? ⟨b', off + j * 3 + 2, none⟩ = some (.slice A2 n2 c2) := cell_at hB hb (hes 2 (by omega))
   clear hes hR
   have zB := hB.size
   have hIr : Ints .u8 wr wr.heap.size A2 n2 a.2.2 := reach hI2 hB
   have hn2 : n2 ≤ 1048576 := by rw [← hIr.1]; exact hsa
   have hOwn := fun b hb => (GrowO.row hG).choose_spec.1.lt b hb
   have hlt2 := hG.lt
   clear hr2 hI2
   go_wp2_with fail
   first | (rw [show ∀ cs w, Sem.run Tryz.prog (callFunc 179 #[Value.agg cs]) w = .ok (.enter 179 #[Value.agg cs]) w from fun _ _ => rfl, Oper.upon_enter]) | skip
   refine (i_HdCopy (reach hIr ?hB) hn2).mono ?_
   case hB => exact (belx)
   rintro e w1 ⟨Ad, cd, Fd, rfl, hOd, hNd', hb1⟩
   have hNd : New (wr.heap.size + 1) Fd := hNd'.lower (by simp)
   have hs1 : Bel wr w1 := bel_trans (belx) hb1
   clear hNd'
   go_wp2_with (at_builtin; have hBx : Bel wr (w1.alloc (.cells [.int .i64 a.1, .int .i64 a.2.1, .slice Ad a.2.2.length cd].toArray 174)) := bel_alloc hs1 _; obtain ⟨xs, hrow, hpush⟩ := (hG.below hBx).row; have tz : (Value.agg #[Value.int .i64 0, Value.int .i64 0, Value.slice none 0 0]).cells.size = 3 := lev; have t0 := one_held a.1 a.2.1 Ad a.2.2.length cd; have t1 : (l.take j).length + 1 ≤ maxLen := (by simp only [maxLen]; have := HLN.out; omega); have t2 : ((l.take j).length + 1) * 40 ≤ 140737488355328 := (by have := HLN.out; omega); have t3 := hBx.size; have hS2 : Src (w1.alloc (.cells [.int .i64 a.1, .int .i64 a.2.1, .slice Ad a.2.2.length cd].toArray 174)) 3 (some ⟨w1.heap.size, 0, none⟩) 1 [.int .i64 a.1, .int .i64 a.2.1, .slice Ad a.2.2.length cd] := Src.of_box w1 174 [.int .i64 a.1, .int .i64 a.2.1, .slice Ad a.2.2.length cd] (K := 3) rfl; refine wpList_app _ rfl (.tmp 14) (.tmp 18) _ rfl w.heap.size 174 i1 _ 3 40 Tryz.underlying101 hj0 hj1 hj2 hj3 tz (by omega) u5 _ xs rfl hrow _ 1 1 [.int .i64 a.1, .int .i64 a.2.1, .slice Ad a.2.2.length cd] rfl hS2 t0 t1 t2 (by omega) ?_; intro v2 w2 hown2 hgr2 hat2; have hOx : tBy.O (w1.alloc (.cells [.int .i64 a.1, .int .i64 a.2.1, .slice Ad a.2.2.length cd].toArray 174)) [.slice Ad a.2.2.length cd] a.2.2 Fd := Ty.below (t := tBy) hOd (belx); obtain ⟨Fx, hOel, ex⟩ := makeOHeld (p := a) hi0' hi1' hOx; subst ex; have hNel : New w.heap.size Fx := hNd.lower (by omega); have hdis : ∀ f ∈ Fx, f ∉ F := (fun f h1 h2 => by have := hNd.2 _ h1; have := hlt2 f h2; omega); have hod : ∀ b, u5.ownBlock = some b → b ∉ Fx := (fun b hb hx => by have := (hOwn b hb).2; have := hNd.2 _ hx; omega); have hfin := hpush w2 v2 a _ Fx hOel hNel hdis hod hown2 hgr2 hat2; have hBf : Bel w w2 := Below.grown (w := (w1.alloc (.cells [.int .i64 a.1, .int .i64 a.2.1, .slice Ad a.2.2.length cd].toArray 174))) (bel_trans hB hBx) hgr2 (by have := hBx.size; omega) (fun b hb => (hOwn b hb).1))
   go_roundw
   case rel => exact ⟨j + 1, _, by omega, by go_num, by rw [HT.out]; exact hfin, hBf⟩
   case measure => simp [RowKit.intOf]; omega
  ·obtain rfl : n = j := by omega
   have HA := Lib.hid (show l.take n = l from List.take_of_length_le (Nat.le_of_eq HL.out))
   rw [HA.out] at hG
   go_wp2
   go_ret
   obtain ⟨A3, c3, F3, rfl, hO3, hN3⟩ := hG.done
   exact ⟨A3, c3, F3, rfl, hO3, hN3, hB⟩
end Go.Proofs.YtkdanlnhdgcplaaGreat
namespace Go.Proofs.YtkdanlnhdgcplaaGreat
set_option maxRecDepth 100000
set_option linter.unusedVariables false
set_option linter.unusedSimpArgs false
open Go.ChangeShapes Go.WideShapes Go.ChangeAt Go.RowKit
open Fld
theorem slO_own {K : IntKind} {w : World} {v : Value} {l : List Int} {F : List Nat} (h : (tSl K).O w [v] l F) : ∀ f ∈ F, v.ownBlock = some f := by
 intro f hf
 rcases h with ⟨A, c, _, _, _, rfl⟩ | ⟨g, off, c, cur, t, h1, h2, h3, h4, h5, h6, h7, rfl⟩
 ·exact absurd hf (by simp)
 ·injection h1 with h1 _
  rw [List.mem_singleton] at hf
  rw [h1, hf]; rfl
theorem put2_Pool {w : World} {g : Nat} {v0 v1 : Value} {r0 : List DHeld} {l1 : List Int} {F0 F1 : List Nat} (h0 : tHeld.row.O w [v0] r0 F0) (h1 : tIs.O w [v1] l1 F1) (hg : g ∉ F0 ++ F1) :
  tPool.O ((w.setCell ⟨g, 0, none⟩ v0).setCell ⟨g, 1, none⟩ v1) [v0, v1] (r0, l1) (F0 ++ F1) := by
 have g0 : g ∉ F0 := fun h => hg (List.mem_append.2 (.inl h))
 have g1 : g ∉ F1 := fun h => hg (List.mem_append.2 (.inr h))
 obtain ⟨F, hF, rfl⟩ := makeOPool (p := (r0, l1)) (Ty.far3 (t := tHeld.row) (Ty.far3 (t := tHeld.row) h0 (p := ⟨g, 0, none⟩) g0 v0) (p := ⟨g, 1, none⟩) g0 v1) (Ty.far3 (t := tIs) (Ty.far3 (t := tIs) h1 (p := ⟨g, 0, none⟩) g1 v0) (p := ⟨g, 1, none⟩) g1 v1)
 exact hF
theorem own_past {α : Type} {t : Ty α} {w w' : World} {cs : List Value} {a : α} {F : List Nat} {row : Option Nat} (h : t.O w cs a F) (hg : w.grownBy w' row) (hr : ∀ b, row = some b → b ∉ F) : t.O w' cs a F :=
 t.kept h fun f hf => hg.block f (t.lt h f hf) fun e => hr f e.symm hf
theorem new_pair {B : Nat} {F G : List Nat} (hF : New B F) (hG : New B G) (hd : ∀ f ∈ F, f ∉ G) : New B (F ++ G) :=
 ⟨List.nodup_append.2 ⟨hF.1, hG.1, fun x hx y hy e => hd x hx (e ▸ hy)⟩, fun f hf => by
  rcases List.mem_append.1 hf with h | h
  ·exact hF.2 f h
  ·exact hG.2 f h⟩
theorem i_copiedI5 {w : World} {n c : Nat} {A : Option Addr} {l : List Int} (hl : Ints .i64 w w.heap.size A n l) (hn : n ≤ 1048576) :
  Calls Tryz.prog 180 #[.slice A n c] w fun e w' => ∃ v, e = .returned v ∧ Own .i64 3 w' w.heap.size v l ∧ Bel w w' := by
 obtain ⟨i0, hi0, hz0, hz1, hz2⟩ := info_parts info_ci
 go_enter Tryz.func180, Tryz.ntmps180
 go_wp2_with (at_builtin; refine wpList_app _ rfl _ (.tmp 3) _ rfl w.heap.size 3 i0 _ 1 8 Tryz.underlying82 hi0 hz0 hz1 hz2 rfl (by omega) (.slice none 0 0) 0 [] rfl (World.ownsRow_nil _ _ _ _) _ n c (l.map (Value.int .i64)) rfl (Src.of_ints hl) (one_ints _ _) (by simp only [maxLen]; omega) (by omega) (Nat.le_refl _) ?_; intro v1 w1 hown hgr hat)
 go_ret
 exact ⟨v1, rfl, Own.of (n := 0 + n) (by simpa using hown) hl.2.2, Below.grown (Below.refl _ _) hgr (Nat.le_refl _) fun b hb => by simp [Value.ownBlock] at hb⟩
set_option maxHeartbeats 2000000 in
theorem i_PlCopy {w : World} {A0 A1 : Option Addr} {n0 c0 n1 c1 : Nat} {r0 : List DHeld} {l1 : List Int} (h0 : tHeld.row.R w w.heap.size [.slice A0 n0 c0] r0) (h1 : tIs.R w w.heap.size [.slice A1 n1 c1] l1) (hz : rsz szHeld r0 + l1.length ≤ 1048576) :
  Calls Tryz.prog 146 #[.agg #[.slice A0 n0 c0, .slice A1 n1 c1]] w fun e w' => ∃ A0' c0' A1' c1' F, e = .returned (.agg #[.slice A0' r0.length c0', .slice A1' l1.length c1']) ∧ tPool.O w' [.slice A0' r0.length c0', .slice A1' l1.length c1'] (r0, l1) F ∧ New w.heap.size F ∧ Bel w w' := by
 have hI1 := (slR_ints h1).1
 have hn1 : n1 ≤ 1048576 := by have := hI1.1; omega
 have k0 : ((w.alloc (.cells #[.slice A0 n0 c0, .slice A1 n1 c1] 103)).alloc (.cells #[.slice none 0 0, .slice none 0 0] 103)).cell? ⟨w.heap.size, 0, none⟩ = some (.slice A0 n0 c0) := ((Box.new w _ _).alloc _).cell 0
 have k1 : ((w.alloc (.cells #[.slice A0 n0 c0, .slice A1 n1 c1] 103)).alloc (.cells #[.slice none 0 0, .slice none 0 0] 103)).cell? ⟨w.heap.size, 1, none⟩ = some (.slice A1 n1 c1) := ((Box.new w _ _).alloc _).cell 1
 clear h1
 go_enter Tryz.func146, Tryz.ntmps146
 go_wp2_with fail
 go_region_held3 (fun w' => w'.cell? ⟨w.heap.size, 0, none⟩ = some (.slice A0 n0 c0) ∧ w'.cell? ⟨w.heap.size, 1, none⟩ = some (.slice A1 n1 c1)) (first | (exact ⟨k0, k1⟩) | (exact ⟨x0, x1⟩) | (exact ⟨y0, y1⟩) | go_keep)
  (first
   | (go_at_call 178; refine (i_eachCopy (tHeld.row.reach h0 (belx)) (by omega)).mono ?_; rintro e w1 ⟨B0, d0, F0, rfl, hO0, hN0, hb1⟩; have X1 : Box w1 w.heap.size 103 #[.slice A0 n0 c0, .slice A1 n1 c1] := Box.below (Box.drew ((Box.new w _ _).alloc _)) hb1 (by show _ < (World.alloc _ _).heap.size; simp; omega); have Y1 : Box w1 (w.heap.size + 1) 103 #[.slice none 0 0, .slice none 0 0] := Box.below (Box.drew (by simpa using Box.new (w.alloc _) 103 #[.slice none 0 0, .slice none 0 0])) hb1 (by show _ < (World.alloc _ _).heap.size; simp); have x0 := X1.cell 0; have x1 := X1.cell 1; have hB1 : Bel w w1 := bel_trans (belx) hb1; have z1 : w.heap.size + 2 ≤ w1.heap.size := (by have : (World.alloc (World.alloc w _) _).heap.size ≤ w1.heap.size := hb1.size; simpa using this))
   | (go_at_call 180; refine (i_copiedI5 (reach hI1 (bel_trans hB1 (belx))) hn1).mono ?_; rintro e w2 ⟨v2, rfl, hO1, hb2⟩; obtain ⟨B1, d1, F1, rfl, hOd, hNd⟩ := own_slice hO1; have X2 := X1.below hb2 X1.size; have y0 := X2.cell 0; have y1 := X2.cell 1; have Y2 := Y1.below hb2 Y1.size; have q0 := Y2.cell 0; have q1 := Y2.cell 1; have f0 := Y2.frozen 0; have f1 := Y2.frozen 1))
 go_wp2
 have RR := (Y2.put 0 (.slice B0 r0.length d0)).put 1 (.slice B1 l1.length d1)
 have e0 := RR.cell 0; have e1 := RR.cell 1
 have hM : New (w.heap.size + 2) (F0 ++ F1) := New.app (hN0.lower (by show _ ≤ (World.alloc _ _).heap.size; first | (simp; done) | (simp; omega))) (hNd.lower (Nat.le_refl _)) (by omega) (fun f hf => tHeld.row.lt hO0 f hf)
 refine bodyPost_ret (v := .agg #[.slice B0 r0.length d0, .slice B1 l1.length d1]) (by simp [results, Tryz.results146, go_sem, e0, e1]) rfl ⟨B0, d0, B1, d1, F0 ++ F1, rfl, put2_Pool (Ty.below (t := tHeld.row) hO0 hb2) hOd (hM.not (by omega)), hM.lower (by omega), ?_⟩
 exact bel_put (bel_put (bel_trans hB1 hb2) (by simp) _) (by simp) _
theorem i_PlCopyP {w : World} {cs : List Value} {p : DPool} (h : tPool.R w w.heap.size cs p) (hz : szPool p ≤ 1048576) :
  Calls Tryz.prog 146 #[.agg cs.toArray] w fun e w' => ∃ cs' F, e = .returned (.agg cs'.toArray) ∧ tPool.O w' cs' p F ∧ New w.heap.size F ∧ Bel w w' := by
 obtain ⟨A0, n0, c0, A1, n1, c1, rfl, -, -, -, hr0, -, -, -, hr1⟩ := openPool h
 refine (i_PlCopy hr0 hr1 hz).mono ?_
 rintro e w' ⟨A0', c0', A1', c1', F, rfl, hO, hN, hB⟩
 exact ⟨_, F, rfl, hO, hN, hB⟩
set_option maxHeartbeats 2000000 in
theorem s_own5 {w : World} {A0 A1 : Option Addr} {n0 c0 n1 c1 : Nat} {r0 : List DHeld} {l1 : List Int} (h0 : tHeld.row.R w w.heap.size [.slice A0 n0 c0] r0) (h1 : tIs.R w w.heap.size [.slice A1 n1 c1] l1) (hz : rsz szHeld r0 + l1.length ≤ 1048576) :
  Calls Tryz.prog 96 #[.agg #[.slice A0 n0 c0, .slice A1 n1 c1]] w fun e w' => ∃ A0' c0' A1' c1' F, e = .returned (.agg #[.slice A0' r0.length c0', .slice A1' l1.length c1']) ∧ tPool.O w' [.slice A0' r0.length c0', .slice A1' l1.length c1'] (r0, l1) F ∧ New w.heap.size F ∧ Bel w w' := by
 obtain ⟨i0, hi0, hz0, hz1, hz2⟩ := info_parts info_ci
 have hI1 := (slR_ints h1).1
 have hn1 : n1 ≤ 1048576 := by have := hI1.1; omega
 have k0 : ((w.alloc (.cells #[.slice A0 n0 c0, .slice A1 n1 c1] 103)).alloc (.cells #[.slice none 0 0, .slice none 0 0] 103)).cell? ⟨w.heap.size, 0, none⟩ = some (.slice A0 n0 c0) := ((Box.new w _ _).alloc _).cell 0
 have k1 : ((w.alloc (.cells #[.slice A0 n0 c0, .slice A1 n1 c1] 103)).alloc (.cells #[.slice none 0 0, .slice none 0 0] 103)).cell? ⟨w.heap.size, 1, none⟩ = some (.slice A1 n1 c1) := ((Box.new w _ _).alloc _).cell 1
 clear h1
 go_enter Tryz.func96, Tryz.ntmps96
 go_wp2_with fail
 go_region_held3 (fun w' => w'.cell? ⟨w.heap.size, 0, none⟩ = some (.slice A0 n0 c0) ∧ w'.cell? ⟨w.heap.size, 1, none⟩ = some (.slice A1 n1 c1)) (first | (exact ⟨k0, k1⟩) | (exact ⟨x0, x1⟩) | (exact ⟨y0, y1⟩) | go_keep)
  (first
   | (go_at_call 132; refine (s_ownHeld (tHeld.row.reach h0 (belx)) (by omega)).mono ?_; rintro e w1 ⟨B0, d0, F0, rfl, hO0, hN0, hb1⟩; have X1 : Box w1 w.heap.size 103 #[.slice A0 n0 c0, .slice A1 n1 c1] := Box.below (by first | exact Box.drew ((Box.new w _ _).alloc _) | exact Box.drew (((Box.new w _ _).alloc _).alloc _)) hb1 (by show _ < (World.alloc _ _).heap.size; simp; omega); have Y1 : Box w1 (w.heap.size + 1) 103 #[.slice none 0 0, .slice none 0 0] := Box.below (by first | exact Box.drew (by simpa using Box.new (w.alloc _) 103 #[.slice none 0 0, .slice none 0 0]) | exact Box.drew (Box.alloc (by simpa using Box.new (w.alloc _) 103 #[.slice none 0 0, .slice none 0 0]) _)) hb1 (by show _ < (World.alloc _ _).heap.size; first | (simp; done) | (simp; omega)); have x0 := X1.cell 0; have x1 := X1.cell 1; have hB1 : Bel w w1 := bel_trans (belx) hb1; have z1 : w.heap.size + 2 ≤ w1.heap.size := (by first | (have : (World.alloc (World.alloc w _) _).heap.size ≤ w1.heap.size := hb1.size; simpa using this) | (have : (World.alloc (World.alloc (World.alloc w _) _) _).heap.size ≤ w1.heap.size := hb1.size; simp at this; omega)); have hEA := empty9 w1 3; have hSA : Src (w1.alloc (.cells #[] 3)) 1 A1 n1 (l1.map (Value.int .i64)) := Src.of_ints (reach (reach hI1 hB1) (belx)); have hSB : Src w1 1 A1 n1 (l1.map (Value.int .i64)) := Src.of_ints (reach hI1 hB1))
   | (refine step_app5 _ (by rfl) (.tmp 6) (.tmp 8) _ (by rfl) w1.heap.size 3 i0 _ 1 8 Tryz.underlying82 hi0 hz0 hz1 hz2 rfl (by omega) (.slice (some ⟨w1.heap.size, 0, none⟩) 0 0) 0 [] (by rfl) hEA _ n1 c1 (l1.map (Value.int .i64)) (by rfl) hSA (one_ints _ _) (by simp only [maxLen]; omega) (by omega) (by first | omega | (simp; done) | (simp; omega)) ?_; intro v1 w2 hown hgr hat; obtain ⟨B1, d1, F1, rfl, hOd, hNd0⟩ := own_slice (Own.of (n := 0 + n1) (by simpa using hown) hI1.2.2); have hNd : New (w.heap.size + 2) F1 := hNd0.lower (by omega); have hO2 : tHeld.row.O w2 _ r0 F0 := own_past (w := (w1.alloc (.cells #[] 3))) (Ty.below (t := tHeld.row) hO0 (belx)) hgr (fun b hb hx => by have e := Option.some.inj (show some (w1.heap.size) = some b from hb); have h1 := tHeld.row.lt hO0 b hx; have h2 := hN0.2 b hx; omega); have hdis : ∀ f ∈ F0, f ∉ F1 := (fun f h1 h2 => by have := tHeld.row.lt hO0 f h1; have := hNd0.2 f h2; omega); have hs2 : Bel w w2 := Below.grown (w := (w1.alloc (.cells #[] 3))) (bel_trans hB1 (belx)) hgr (by first | omega | (simp; done) | (simp; omega)) (fun b hb => by have e := Option.some.inj (show some (w1.heap.size) = some b from hb); omega); have X2 : Box w2 w.heap.size 103 #[.slice A0 n0 c0, .slice A1 n1 c1] := Box.grown (w := (w1.alloc (.cells #[] 3))) (X1.alloc _) hgr (fun e => by have e := Option.some.inj (show some w.heap.size = some (w1.heap.size) from e); omega); have Y2 : Box w2 (w.heap.size + 1) 103 #[.slice none 0 0, .slice none 0 0] := Box.grown (w := (w1.alloc (.cells #[] 3))) (Y1.alloc _) hgr (fun e => by have e := Option.some.inj (show some (w.heap.size + 1) = some (w1.heap.size) from e); omega); have y0 := X2.cell 0; have y1 := X2.cell 1; have q0 := Y2.cell 0; have q1 := Y2.cell 1; have f0 := Y2.frozen 0; have f1 := Y2.frozen 1)
   | (have hEB : w1.ownsRow (w.heap.size + 2) 3 1 (.slice (some ⟨w.heap.size + 2, 0, none⟩) 0 0) 0 [] := (World.ownsRow.kept (w := (((w.alloc (.cells #[.slice A0 n0 c0, .slice A1 n1 c1] 103)).alloc (.cells #[.slice none 0 0, .slice none 0 0] 103)).alloc (.cells #[] 3)).drew) (World.ownsRow.kept (w := ((w.alloc (.cells #[.slice A0 n0 c0, .slice A1 n1 c1] 103)).alloc (.cells #[.slice none 0 0, .slice none 0 0] 103)).alloc (.cells #[] 3)) (by simpa using empty9 ((w.alloc (.cells #[.slice A0 n0 c0, .slice A1 n1 c1] 103)).alloc (.cells #[.slice none 0 0, .slice none 0 0] 103)) 3) (row := none) (gb_drew (World.grownBy.refl _ _)) (.inr (by simp [Value.ownBlock]))) (row := none) (below_grownBy hb1) (.inr (by simp [Value.ownBlock]))); refine step_app5 _ (by rfl) (.tmp 6) (.tmp 8) _ (by rfl) (w.heap.size + 2) 3 i0 _ 1 8 Tryz.underlying82 hi0 hz0 hz1 hz2 rfl (by omega) (.slice (some ⟨(w.heap.size + 2), 0, none⟩) 0 0) 0 [] (by rfl) hEB _ n1 c1 (l1.map (Value.int .i64)) (by rfl) hSB (one_ints _ _) (by simp only [maxLen]; omega) (by omega) (by first | omega | (simp; done) | (simp; omega)) ?_; intro v1 w2 hown hgr hat; obtain ⟨B1, d1, F1, rfl, hOd, hNd0⟩ := own_slice (Own.of (n := 0 + n1) (by simpa using hown) hI1.2.2); have hNd : New (w.heap.size + 2) F1 := hNd0.lower (by omega); have hO2 : tHeld.row.O w2 _ r0 F0 := own_past (w := w1) (hO0) hgr (fun b hb hx => by have e := Option.some.inj (show some ((w.heap.size + 2)) = some b from hb); have h1 := tHeld.row.lt hO0 b hx; have h2 := hN0.2 b hx; have h3 : w.heap.size + 3 ≤ b := Nat.le_trans (by show _ ≤ (World.alloc _ _).heap.size; simp) h2; omega); have hdis : ∀ f ∈ F0, f ∉ F1 := (fun f h1 h2 => by have h3 := slO_own hOd f h2; have h4 := tHeld.row.lt hO0 f h1; have h5 : w.heap.size + 3 ≤ f := Nat.le_trans (by show _ ≤ (World.alloc _ _).heap.size; simp) (hN0.2 f h1); rcases hat with h6 | h6 <;> rw [h3] at h6; (have h7 := Option.some.inj (show some f = some (w.heap.size + 2) from h6); omega); (have h7 := Option.some.inj h6; omega)); have hs2 : Bel w w2 := Below.grown (w := w1) hB1 hgr (by first | omega | (simp; done) | (simp; omega)) (fun b hb => by have e := Option.some.inj (show some ((w.heap.size + 2)) = some b from hb); omega); have X2 : Box w2 w.heap.size 103 #[.slice A0 n0 c0, .slice A1 n1 c1] := Box.grown (w := w1) (X1) hgr (fun e => by have e := Option.some.inj (show some w.heap.size = some ((w.heap.size + 2)) from e); omega); have Y2 : Box w2 (w.heap.size + 1) 103 #[.slice none 0 0, .slice none 0 0] := Box.grown (w := w1) (Y1) hgr (fun e => by have e := Option.some.inj (show some (w.heap.size + 1) = some ((w.heap.size + 2)) from e); omega); have y0 := X2.cell 0; have y1 := X2.cell 1; have q0 := Y2.cell 0; have q1 := Y2.cell 1; have f0 := Y2.frozen 0; have f1 := Y2.frozen 1))
 all_goals go_wp2
 all_goals
  have RR := (Y2.put 0 (.slice B0 r0.length d0)).put 1 (.slice B1 l1.length d1)
  have e0 := RR.cell 0
  have e1 := RR.cell 1
  have hM : New (w.heap.size + 2) (F0 ++ F1) := new_pair (hN0.lower (by show _ ≤ (World.alloc _ _).heap.size; first | (simp; done) | (simp; omega))) hNd hdis
  refine bodyPost_ret (v := .agg #[.slice B0 r0.length d0, .slice B1 l1.length d1]) (by simp [results, Tryz.results96, go_sem, e0, e1]) rfl ⟨B0, d0, B1, d1, F0 ++ F1, rfl, put2_Pool hO2 hOd (hM.not (by omega)), hM.lower (by omega), ?_⟩
  exact bel_put (bel_put hs2 (by simp) _) (by simp) _
theorem s_own5P {w : World} {cs : List Value} {p : DPool} (h : tPool.R w w.heap.size cs p) (hz : szPool p ≤ 1048576) :
  Calls Tryz.prog 96 #[.agg cs.toArray] w fun e w' => ∃ cs' F, e = .returned (.agg cs'.toArray) ∧ tPool.O w' cs' p F ∧ New w.heap.size F ∧ Bel w w' := by
 obtain ⟨A0, n0, c0, A1, n1, c1, rfl, -, -, -, hr0, -, -, -, hr1⟩ := openPool h
 refine (s_own5 hr0 hr1 hz).mono ?_
 rintro e w' ⟨A0', c0', A1', c1', F, rfl, hO, hN, hB⟩
 exact ⟨_, F, rfl, hO, hN, hB⟩

end Go.Proofs.YtkdanlnhdgcplaaGreat
