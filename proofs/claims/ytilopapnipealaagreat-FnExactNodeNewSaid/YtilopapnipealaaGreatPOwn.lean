/-
  Copies of held cells: contracts of l5ownHeld (the model's), of Held.copy and each over it (the program's).
-/
import Derived.Test.YtilopapnipealaaGreatPPool
import Derived.Test.YtilopapnipealaaGreatPNil
import Derived.Test.YtilopapnipealaaGreatGrow
import Derived.Test.YtilopapnipealaaGreatLHeldS
namespace Go.Proofs.YtilopapnipealaaGreat
set_option maxRecDepth 100000
set_option linter.unusedVariables false
set_option linter.unusedSimpArgs false
open Go.ChangeShapes Go.WideShapes Go.ChangeAt Go.RowKit
open Fld
theorem empty9 (w : World) (t : TypeId) : (w.alloc (.cells #[] t)).ownsRow w.heap.size t 1 (.slice (some ⟨w.heap.size, 0, none⟩) 0 0) 0 [] :=
  ⟨rfl, .inr ⟨w.heap.size, 0, #[], rfl, Nat.le_refl _, heap_alloc_new w _, Nat.le_refl _, by simp only [maxLen]; omega, rfl, rfl⟩⟩
theorem Ty.far3 {α : Type} {t : Ty α} {w : World} {cs : List Value} {a : α} {F : List Nat} (h : t.O w cs a F) {p : Addr} (hp : p.block ∉ F) (u : Value) : t.O (w.setCell p u) cs a F :=
  t.kept h fun f hf => Below.heap_setCell w p u f (by rintro rfl; exact hp hf)
theorem one_held (x0 x1 : Int) (A : Option Addr) (n c : Nat) : ∀ u ∈ [Value.int .i64 x0, .int .i64 x1, .slice A n c], u.oneCell' = true := by
  intro u hu
  simp only [List.mem_cons, List.not_mem_nil, or_false] at hu
  rcases hu with rfl | rfl | rfl <;> rfl
set_option maxHeartbeats 2000000 in
theorem s_ownHeld {w : World} {n c : Nat} {A : Option Addr} {l : List DHeld} (h : tHeld.row.R w w.heap.size [.slice A n c] l) (hz : rsz szHeld l ≤ 1048576) :
    Calls Tryz.prog 188 #[.slice A n c] w fun e w' => ∃ A' c' F, e = .returned (.slice A' l.length c') ∧ tHeld.row.O w' [.slice A' l.length c'] l F ∧ New w.heap.size F ∧ Below w.heap.size w w' := by
  obtain ⟨i0, hi0, hz0, hz1, hz2⟩ := info_parts info_cb
  obtain ⟨i1, hj0, hj1, hj2, hj3⟩ := info_parts info_Held
  obtain ⟨e0, _, _⟩ := rowR_len h
  have hn : n ≤ 1048576 := by have := rsz_le (s := szHeld) l; omega
  have HL := Lib.hid e0
  have HZ := Lib.hid hz
  clear e0 hz
  go_enter Tryz.func188, Tryz.ntmps188
  go_wp2_with fail
  go_loopw [3, 4] (fun v i wr => ∃ (j : Nat) (F : List Nat), j ≤ n ∧ i = .int .i64 j ∧ GrowO tHeld 128 wr w.heap.size v (l.take j) F ∧ Below w.heap.size w wr) (fun _ i _ => n - (intOf i).toNat)
  case atStart => exact ⟨0, [], by omega, rfl, GrowO.nil, (by repeat (first | (with_reducible exact Below.refl _ _) | (with_reducible assumption) | (with_reducible refine bel_alloc ?_ _) | (with_reducible refine bel_drew ?_) | (with_reducible refine below_drewN ?_ _) | (with_reducible refine bel_put ?_ (by first | exact Nat.le_refl _ | (simp; done) | (simp; omega)) _)))⟩
  case round =>
    obtain ⟨j, F, hj, rfl, hG, hB⟩ := hrel
    by_cases hlt : j < n
    · obtain ⟨a, b', off, es, hl2, rfl, hb, hes, hR⟩ := rowR_at (K := 3) h hlt rfl
      have HT := Lib.hid (take_sn hl2)
      have HLN := Lib.hid (show (l.take j).length = j from by rw [List.length_take, HL.out]; omega)
      have hsa : a.2.2.length ≤ 1048576 := by have := rsz_step (s := szHeld) hl2; have := HZ.out; unfold szHeld szCell at *; omega
      clear hl2
      obtain ⟨A2, n2, c2, rfl, hi0', hi1', -, -, -, hr2⟩ := openHeld hR
      have hI2 := (slR_ints hr2).1
      have e0 : wr.cell? ⟨b', off + j * 3, none⟩ = some (.int .i64 a.1) := cell_at hB hb (hes 0 (by omega))
      have e1 : wr.cell? ⟨b', off + j * 3 + 1, none⟩ = some (.int .i64 a.2.1) := cell_at hB hb (hes 1 (by omega))
      have e2 : wr.cell? ⟨b', off + j * 3 + 2, none⟩ = some (.slice A2 n2 c2) := cell_at hB hb (hes 2 (by omega))
      clear hes hR
      have zB := hB.size
      have hIr : Ints .u8 wr wr.heap.size A2 n2 a.2.2 := reach hI2 hB
      have hE : ((wr.alloc (.cells #[.int .i64 a.1, .int .i64 a.2.1, .slice A2 n2 c2] 128)).alloc (.cells #[] 5)).ownsRow (wr.heap.size + 1) 5 1 (.slice (some ⟨wr.heap.size + 1, 0, none⟩) 0 0) 0 [] := by simpa using empty9 (wr.alloc (.cells #[.int .i64 a.1, .int .i64 a.2.1, .slice A2 n2 c2] 128)) 5
      have hS : Src ((wr.alloc (.cells #[.int .i64 a.1, .int .i64 a.2.1, .slice A2 n2 c2] 128)).alloc (.cells #[] 5)) 1 A2 n2 (a.2.2.map (Value.int .u8)) := Src.of_ints (reach hIr (by repeat (first | (with_reducible exact Below.refl _ _) | (with_reducible assumption) | (with_reducible refine bel_alloc ?_ _) | (with_reducible refine bel_drew ?_) | (with_reducible refine below_drewN ?_ _) | (with_reducible refine bel_put ?_ (by first | exact Nat.le_refl _ | (simp; done) | (simp; omega)) _))))
      have hn2 : n2 ≤ 1048576 := by rw [← hIr.1]; exact hsa
      have hOwn := fun b hb => (GrowO.row hG).choose_spec.1.lt b hb
      have hlt2 := hG.lt
      have HIW := Lib.hid hIr.2.2
      have HI1 := Lib.hid hIr.1
      clear hr2 hI2
      go_wp2_with (first
        | (at_builtin; refine wpList_app _ rfl (.tmp 16) (.tmp 19) _ rfl (wr.heap.size + 1) 5 i0 _ 1 1 Tryz.underlying50 hi0 hz0 hz1 hz2 rfl (by omega) (.slice (some ⟨wr.heap.size + 1, 0, none⟩) 0 0) 0 [] rfl hE _ n2 c2 (a.2.2.map (Value.int .u8)) rfl hS (one_ints _ _) (by simp only [maxLen]; omega) (by omega) (by simp; done) ?_; intro v1 w1 hown hgr hat; obtain ⟨Ad, cd, Fd, rfl, hOd, hNd⟩ := own_slice (Own.of (n := 0 + n2) (by simpa using hown) HIW.out); have hs1 : Below wr.heap.size wr w1 := Below.grown (w := ((wr.alloc (.cells #[.int .i64 a.1, .int .i64 a.2.1, .slice A2 n2 c2] 128)).alloc (.cells #[] 5))) (by repeat (first | (with_reducible exact Below.refl _ _) | (with_reducible assumption) | (with_reducible refine bel_alloc ?_ _) | (with_reducible refine bel_drew ?_) | (with_reducible refine below_drewN ?_ _) | (with_reducible refine bel_put ?_ (by first | exact Nat.le_refl _ | (simp; done) | (simp; omega)) _))) hgr (by first | (simp; done) | (simp; omega)) (fun b hb => by have e := Option.some.inj (show some (wr.heap.size + 1) = some b from hb); omega); have X1 : Box w1 wr.heap.size 128 #[.int .i64 a.1, .int .i64 a.2.1, .slice A2 n2 c2] := Box.grown (w := ((wr.alloc (.cells #[.int .i64 a.1, .int .i64 a.2.1, .slice A2 n2 c2] 128)).alloc (.cells #[] 5))) ((Box.new wr 128 #[.int .i64 a.1, .int .i64 a.2.1, .slice A2 n2 c2]).alloc _) hgr (fun e => by have e := Option.some.inj (show some wr.heap.size = some (wr.heap.size + 1) from e); omega); have x0 : w1.cell? ⟨wr.heap.size, 0, none⟩ = some (.int .i64 a.1) := X1.cell 0; have x1 : w1.cell? ⟨wr.heap.size, 1, none⟩ = some (.int .i64 a.2.1) := X1.cell 1; have x2 : w1.cell? ⟨wr.heap.size, 2, none⟩ = some (.slice A2 n2 c2) := X1.cell 2; have fx2 := X1.frozen 2; have fx0 := X1.frozen 0; have fx1 := X1.frozen 1)
        | (at_builtin; have hBx : Below wr.heap.size wr ((w1.setCell ⟨wr.heap.size, 2, none⟩ (.slice Ad a.2.2.length cd)).alloc (.cells [.int .i64 a.1, .int .i64 a.2.1, .slice Ad a.2.2.length cd].toArray 128)) := bel_alloc (bel_put hs1 (Nat.le_refl _) _) _; obtain ⟨xs, hrow, hpush⟩ := (hG.below hBx).row; have hsz : (w1.setCell ⟨wr.heap.size, 2, none⟩ (.slice Ad a.2.2.length cd)).heap.size = w1.heap.size := (by simp [World.setCell]); have hS2 : Src ((w1.setCell ⟨wr.heap.size, 2, none⟩ (.slice Ad a.2.2.length cd)).alloc (.cells [.int .i64 a.1, .int .i64 a.2.1, .slice Ad a.2.2.length cd].toArray 128)) 3 (some ⟨w1.heap.size, 0, none⟩) 1 [.int .i64 a.1, .int .i64 a.2.1, .slice Ad a.2.2.length cd] := (by have h := Src.of_box (w1.setCell ⟨wr.heap.size, 2, none⟩ (.slice Ad a.2.2.length cd)) 128 [.int .i64 a.1, .int .i64 a.2.1, .slice Ad a.2.2.length cd] (K := 3) rfl; rw [hsz] at h; exact h); have tz : (Value.agg #[Value.int .i64 0, Value.int .i64 0, Value.slice none 0 0]).cells.size = 3 := (by first | rfl | (simp [Value.cells]; done)); have t0 := one_held a.1 a.2.1 Ad a.2.2.length cd; have t1 : (l.take j).length + 1 ≤ maxLen := (by simp only [maxLen]; have := HLN.out; omega); have t2 : ((l.take j).length + 1) * 40 ≤ 140737488355328 := (by have := HLN.out; omega); have t3 := hBx.size; refine wpList_app _ rfl (.tmp 23) (.tmp 25) _ rfl w.heap.size 128 i1 _ 3 40 Tryz.underlying34 hj0 hj1 hj2 hj3 tz (by omega) u3 _ xs rfl hrow _ 1 1 [.int .i64 a.1, .int .i64 a.2.1, .slice Ad a.2.2.length cd] rfl hS2 t0 t1 t2 (by omega) ?_; intro v2 w2 hown2 hgr2 hat2; have hOx : tBy.O ((w1.setCell ⟨wr.heap.size, 2, none⟩ (.slice Ad a.2.2.length cd)).alloc (.cells [.int .i64 a.1, .int .i64 a.2.1, .slice Ad a.2.2.length cd].toArray 128)) [.slice Ad a.2.2.length cd] a.2.2 Fd := Ty.below (t := tBy) (Ty.far3 (t := tBy) hOd (p := ⟨wr.heap.size, 2, none⟩) (fun hx => absurd (hNd.2 wr.heap.size hx) (by omega)) _) (by repeat (first | (with_reducible exact Below.refl _ _) | (with_reducible assumption) | (with_reducible refine bel_alloc ?_ _) | (with_reducible refine bel_drew ?_) | (with_reducible refine below_drewN ?_ _) | (with_reducible refine bel_put ?_ (by first | exact Nat.le_refl _ | (simp; done) | (simp; omega)) _))); obtain ⟨Fx, hOel, ex⟩ := makeOHeld (p := a) hi0' hi1' hOx; subst ex; have hNel : New w.heap.size Fx := hNd.lower (by omega); have hdis : ∀ f ∈ Fx, f ∉ F := (fun f h1 h2 => by have := hNd.2 _ h1; have := hlt2 f h2; omega); have hod : ∀ b, u3.ownBlock = some b → b ∉ Fx := (fun b hb hx => by have := (hOwn b hb).2; have := hNd.2 _ hx; omega); have hfin := hpush w2 v2 a _ Fx hOel hNel hdis hod hown2 hgr2 hat2; have hBf : Below w.heap.size w w2 := Below.grown (w := ((w1.setCell ⟨wr.heap.size, 2, none⟩ (.slice Ad a.2.2.length cd)).alloc (.cells [.int .i64 a.1, .int .i64 a.2.1, .slice Ad a.2.2.length cd].toArray 128))) (bel_trans hB hBx) hgr2 (by have := hBx.size; omega) (fun b hb => (hOwn b hb).1)))
      go_roundw
      case rel => exact ⟨j + 1, _, by omega, by go_num, by rw [HT.out]; exact hfin, hBf⟩
      case measure => simp [intOf]; omega
    · obtain rfl : n = j := by omega
      have HA := Lib.hid (show l.take n = l from List.take_of_length_le (Nat.le_of_eq HL.out))
      rw [HA.out] at hG
      go_wp2
      go_ret
      obtain ⟨A3, c3, F3, rfl, hO3, hN3⟩ := hG.done
      exact ⟨A3, c3, F3, rfl, hO3, hN3, hB⟩
theorem i_copiedB5 {w : World} {n c : Nat} {A : Option Addr} {l : List Int} (hl : Ints .u8 w w.heap.size A n l) (hn : n ≤ 1048576) :
    Calls Tryz.prog 69 #[.slice A n c] w fun e w' => ∃ v, e = .returned v ∧ Own .u8 5 w' w.heap.size v l ∧ Below w.heap.size w w' := by
  obtain ⟨i0, hi0, hz0, hz1, hz2⟩ := info_parts info_cb
  go_enter Tryz.func69, Tryz.ntmps69
  go_wp2_with (at_builtin; refine wpList_app _ rfl _ (.tmp 3) _ rfl w.heap.size 5 i0 _ 1 1 Tryz.underlying50 hi0 hz0 hz1 hz2 rfl (by omega) (.slice none 0 0) 0 [] rfl (World.ownsRow_nil _ _ _ _) _ n c (l.map (Value.int .u8)) rfl (Src.of_ints hl) (one_ints _ _) (by simp only [maxLen]; omega) (by omega) (Nat.le_refl _) ?_; intro v1 w1 hown hgr hat)
  go_ret
  exact ⟨v1, rfl, Own.of (n := 0 + n) (by simpa using hown) hl.2.2, Below.grown (Below.refl _ _) hgr (Nat.le_refl _) fun b hb => by simp [Value.ownBlock] at hb⟩
set_option maxHeartbeats 1000000 in
theorem i_HdCopy {w : World} {A2 : Option Addr} {n2 c2 : Nat} {x0 x1 : Int} {l2 : List Int} (hl : Ints .u8 w w.heap.size A2 n2 l2) (hn : n2 ≤ 1048576) :
    Calls Tryz.prog 190 #[.agg #[.int .i64 x0, .int .i64 x1, .slice A2 n2 c2]] w fun e w' => ∃ A c F, e = .returned (.agg #[.int .i64 x0, .int .i64 x1, .slice A l2.length c]) ∧ tBy.O w' [.slice A l2.length c] l2 F ∧ New w.heap.size F ∧ Below w.heap.size w w' := by
  go_enter Tryz.func190, Tryz.ntmps190
  go_wp2_with fail
  refine (i_copiedB5 (reach hl ?hB) hn).mono ?_
  case hB => exact (by repeat (first | (with_reducible exact Below.refl _ _) | (with_reducible assumption) | (with_reducible refine bel_alloc ?_ _) | (with_reducible refine bel_drew ?_) | (with_reducible refine below_drewN ?_ _) | (with_reducible refine bel_put ?_ (by first | exact Nat.le_refl _ | (simp; done) | (simp; omega)) _)))
  rintro e w1 ⟨v, rfl, hO, hb1⟩
  obtain ⟨A, c, F, rfl, hO3, hN⟩ := own_slice hO
  clear hO
  have z1 : w.heap.size + 2 ≤ w1.heap.size := by have := hb1.size; simpa using this
  have P1 : Box w1 w.heap.size 128 #[.int .i64 x0, .int .i64 x1, .slice A2 n2 c2] := Box.below ((Box.new w _ _).alloc _) hb1 (by simp; omega)
  have R1 : Box w1 (w.heap.size + 1) 128 #[.int .i64 0, .int .i64 0, .slice none 0 0] := Box.below (by simpa using Box.new (w.alloc _) 128 #[.int .i64 0, .int .i64 0, .slice none 0 0]) hb1 (by simp)
  have hM : New (w.heap.size + 2) F := hN.lower (by simp)
  have hB1 : Below w.heap.size w w1 := bel_trans (by repeat (first | (with_reducible exact Below.refl _ _) | (with_reducible assumption) | (with_reducible refine bel_alloc ?_ _) | (with_reducible refine bel_drew ?_) | (with_reducible refine below_drewN ?_ _) | (with_reducible refine bel_put ?_ (by first | exact Nat.le_refl _ | (simp; done) | (simp; omega)) _))) hb1
  have p0 := P1.cell 0; have p1 := P1.cell 1; have p2 := P1.cell 2
  have f2 := P1.frozen 2
  have r0 := R1.cell 0; have r1 := R1.cell 1; have r2 := R1.cell 2
  have g0 := R1.frozen 0; have g1 := R1.frozen 1; have g2 := R1.frozen 2
  go_wp2
  have RR := (((R1.far (p := ⟨w.heap.size, 2, none⟩) (by simp) (.slice A l2.length c)).put 0 (.int .i64 x0)).put 1 (.int .i64 x1)).put 2 (.slice A l2.length c)
  have e0 := RR.cell 0; have e1 := RR.cell 1; have e2 := RR.cell 2
  have u := Ty.far (t := tBy) (Ty.far (t := tBy) (Ty.far (t := tBy) (Ty.far (t := tBy) hO3 hM (p := ⟨w.heap.size, 2, none⟩) (by show w.heap.size < _; omega) (.slice A l2.length c)) hM (p := ⟨w.heap.size + 1, 0, none⟩) (by show w.heap.size + 1 < _; omega) (.int .i64 x0)) hM (p := ⟨w.heap.size + 1, 1, none⟩) (by show w.heap.size + 1 < _; omega) (.int .i64 x1)) hM (p := ⟨w.heap.size + 1, 2, none⟩) (by show w.heap.size + 1 < _; omega) (.slice A l2.length c)
  refine bodyPost_ret (v := .agg #[.int .i64 x0, .int .i64 x1, .slice A l2.length c]) (by simp [results, Tryz.results190, go_sem, e0, e1, e2]) rfl ⟨A, c, F, rfl, u, hM.lower (by omega), ?_⟩
  exact bel_put (bel_put (bel_put (bel_put hB1 (by simp) _) (by simp) _) (by simp) _) (by simp) _
set_option maxHeartbeats 2000000 in
theorem i_eachCopy {w : World} {n c : Nat} {A : Option Addr} {l : List DHeld} (h : tHeld.row.R w w.heap.size [.slice A n c] l) (hz : rsz szHeld l ≤ 1048576) :
    Calls Tryz.prog 189 #[.slice A n c, .func (.func 190) #[] #[]] w fun e w' => ∃ A' c' F, e = .returned (.slice A' l.length c') ∧ tHeld.row.O w' [.slice A' l.length c'] l F ∧ New w.heap.size F ∧ Below w.heap.size w w' := by
  obtain ⟨i1, hj0, hj1, hj2, hj3⟩ := info_parts info_Held
  obtain ⟨e0, _, _⟩ := rowR_len h
  have hn : n ≤ 1048576 := by have := rsz_le (s := szHeld) l; omega
  have HL := Lib.hid e0
  have HZ := Lib.hid hz
  clear e0 hz
  go_enter Tryz.func189, Tryz.ntmps189
  go_wp2_with fail
  go_loopw [5, 10] (fun v i wr => ∃ (j : Nat) (F : List Nat), j ≤ n ∧ i = .int .i64 j ∧ GrowO tHeld 128 wr w.heap.size v (l.take j) F ∧ Below w.heap.size w wr) (fun _ i _ => n - (intOf i).toNat)
  case atStart => exact ⟨0, [], by omega, rfl, GrowO.nil, (by repeat (first | (with_reducible exact Below.refl _ _) | (with_reducible assumption) | (with_reducible refine bel_alloc ?_ _) | (with_reducible refine bel_drew ?_) | (with_reducible refine below_drewN ?_ _) | (with_reducible refine bel_put ?_ (by first | exact Nat.le_refl _ | (simp; done) | (simp; omega)) _)))⟩
  case round =>
    obtain ⟨j, F, hj, rfl, hG, hB⟩ := hrel
    by_cases hlt : j < n
    · obtain ⟨a, b', off, es, hl2, rfl, hb, hes, hR⟩ := rowR_at (K := 3) h hlt rfl
      have HT := Lib.hid (take_sn hl2)
      have HLN := Lib.hid (show (l.take j).length = j from by rw [List.length_take, HL.out]; omega)
      have hsa : a.2.2.length ≤ 1048576 := by have := rsz_step (s := szHeld) hl2; have := HZ.out; unfold szHeld szCell at *; omega
      clear hl2
      obtain ⟨A2, n2, c2, rfl, hi0', hi1', -, -, -, hr2⟩ := openHeld hR
      have hI2 := (slR_ints hr2).1
      have e0 : wr.cell? ⟨b', off + j * 3, none⟩ = some (.int .i64 a.1) := cell_at hB hb (hes 0 (by omega))
      have e1 : wr.cell? ⟨b', off + j * 3 + 1, none⟩ = some (.int .i64 a.2.1) := cell_at hB hb (hes 1 (by omega))
      have e2 : wr.cell? ⟨b', off + j * 3 + 2, none⟩ = some (.slice A2 n2 c2) := cell_at hB hb (hes 2 (by omega))
      clear hes hR
      have zB := hB.size
      have hIr : Ints .u8 wr wr.heap.size A2 n2 a.2.2 := reach hI2 hB
      have hn2 : n2 ≤ 1048576 := by rw [← hIr.1]; exact hsa
      have hOwn := fun b hb => (GrowO.row hG).choose_spec.1.lt b hb
      have hlt2 := hG.lt
      clear hr2 hI2
      go_wp2_with fail
      first | (rw [show ∀ cs w, Sem.run Tryz.prog (callFunc 190 #[Value.agg cs]) w = .ok (.enter 190 #[Value.agg cs]) w from fun _ _ => rfl, Oper.upon_enter]) | skip
      refine (i_HdCopy (reach hIr ?hB) hn2).mono ?_
      case hB => exact (by repeat (first | (with_reducible exact Below.refl _ _) | (with_reducible assumption) | (with_reducible refine bel_alloc ?_ _) | (with_reducible refine bel_drew ?_) | (with_reducible refine below_drewN ?_ _) | (with_reducible refine bel_put ?_ (by first | exact Nat.le_refl _ | (simp; done) | (simp; omega)) _)))
      rintro e w1 ⟨Ad, cd, Fd, rfl, hOd, hNd', hb1⟩
      have hNd : New (wr.heap.size + 1) Fd := hNd'.lower (by simp)
      have hs1 : Below wr.heap.size wr w1 := bel_trans (by repeat (first | (with_reducible exact Below.refl _ _) | (with_reducible assumption) | (with_reducible refine bel_alloc ?_ _) | (with_reducible refine bel_drew ?_) | (with_reducible refine below_drewN ?_ _) | (with_reducible refine bel_put ?_ (by first | exact Nat.le_refl _ | (simp; done) | (simp; omega)) _))) hb1
      clear hNd'
      go_wp2_with (at_builtin; have hBx : Below wr.heap.size wr (w1.alloc (.cells [.int .i64 a.1, .int .i64 a.2.1, .slice Ad a.2.2.length cd].toArray 128)) := bel_alloc hs1 _; obtain ⟨xs, hrow, hpush⟩ := (hG.below hBx).row; have tz : (Value.agg #[Value.int .i64 0, Value.int .i64 0, Value.slice none 0 0]).cells.size = 3 := (by first | rfl | (simp [Value.cells]; done)); have t0 := one_held a.1 a.2.1 Ad a.2.2.length cd; have t1 : (l.take j).length + 1 ≤ maxLen := (by simp only [maxLen]; have := HLN.out; omega); have t2 : ((l.take j).length + 1) * 40 ≤ 140737488355328 := (by have := HLN.out; omega); have t3 := hBx.size; have hS2 : Src (w1.alloc (.cells [.int .i64 a.1, .int .i64 a.2.1, .slice Ad a.2.2.length cd].toArray 128)) 3 (some ⟨w1.heap.size, 0, none⟩) 1 [.int .i64 a.1, .int .i64 a.2.1, .slice Ad a.2.2.length cd] := Src.of_box w1 128 [.int .i64 a.1, .int .i64 a.2.1, .slice Ad a.2.2.length cd] (K := 3) rfl; refine wpList_app _ rfl (.tmp 14) (.tmp 18) _ rfl w.heap.size 128 i1 _ 3 40 Tryz.underlying34 hj0 hj1 hj2 hj3 tz (by omega) u5 _ xs rfl hrow _ 1 1 [.int .i64 a.1, .int .i64 a.2.1, .slice Ad a.2.2.length cd] rfl hS2 t0 t1 t2 (by omega) ?_; intro v2 w2 hown2 hgr2 hat2; have hOx : tBy.O (w1.alloc (.cells [.int .i64 a.1, .int .i64 a.2.1, .slice Ad a.2.2.length cd].toArray 128)) [.slice Ad a.2.2.length cd] a.2.2 Fd := Ty.below (t := tBy) hOd (by repeat (first | (with_reducible exact Below.refl _ _) | (with_reducible assumption) | (with_reducible refine bel_alloc ?_ _) | (with_reducible refine bel_drew ?_) | (with_reducible refine below_drewN ?_ _) | (with_reducible refine bel_put ?_ (by first | exact Nat.le_refl _ | (simp; done) | (simp; omega)) _))); obtain ⟨Fx, hOel, ex⟩ := makeOHeld (p := a) hi0' hi1' hOx; subst ex; have hNel : New w.heap.size Fx := hNd.lower (by omega); have hdis : ∀ f ∈ Fx, f ∉ F := (fun f h1 h2 => by have := hNd.2 _ h1; have := hlt2 f h2; omega); have hod : ∀ b, u5.ownBlock = some b → b ∉ Fx := (fun b hb hx => by have := (hOwn b hb).2; have := hNd.2 _ hx; omega); have hfin := hpush w2 v2 a _ Fx hOel hNel hdis hod hown2 hgr2 hat2; have hBf : Below w.heap.size w w2 := Below.grown (w := (w1.alloc (.cells [.int .i64 a.1, .int .i64 a.2.1, .slice Ad a.2.2.length cd].toArray 128))) (bel_trans hB hBx) hgr2 (by have := hBx.size; omega) (fun b hb => (hOwn b hb).1))
      go_roundw
      case rel => exact ⟨j + 1, _, by omega, by go_num, by rw [HT.out]; exact hfin, hBf⟩
      case measure => simp [intOf]; omega
    · obtain rfl : n = j := by omega
      have HA := Lib.hid (show l.take n = l from List.take_of_length_le (Nat.le_of_eq HL.out))
      rw [HA.out] at hG
      go_wp2
      go_ret
      obtain ⟨A3, c3, F3, rfl, hO3, hN3⟩ := hG.done
      exact ⟨A3, c3, F3, rfl, hO3, hN3, hB⟩
end Go.Proofs.YtilopapnipealaaGreat
