/-
  The cells of a pool that wait for one node: contracts of For, of both sides.
-/
import Derived.Test.YtconcboeojpmdacPOwn
namespace Go.Proofs.Ytconcboeojpmdac
set_option maxRecDepth 100000
set_option linter.unusedVariables false
set_option linter.unusedSimpArgs false
open Go.ChangeShapes Go.WideShapes Go.ChangeAt Go.RowKit
open Fld
def filt (x : Int) (l : List DHeld) : List DHeld := l.filter fun h => decide (h.1 = x)
theorem filt_t {x : Int} {l : List DHeld} {j : Nat} {a : DHeld} (h : l[j]? = some a) (ha : a.1 = x) : filt x (l.take (j + 1)) = filt x (l.take j) ++ [a] := by
  unfold filt; rw [take_sn h, List.filter_append, List.filter_cons_of_pos (by simpa using ha)]; rfl
theorem filt_f {x : Int} {l : List DHeld} {j : Nat} {a : DHeld} (h : l[j]? = some a) (ha : ¬ a.1 = x) : filt x (l.take (j + 1)) = filt x (l.take j) := by
  unfold filt; rw [take_sn h, List.filter_append, List.filter_cons_of_neg (by simpa using ha)]; simp
theorem filt_len (x : Int) (l : List DHeld) : (filt x l).length ≤ l.length := List.length_filter_le _ _
theorem filt_sz (x : Int) (l : List DHeld) : rsz szHeld (filt x l) ≤ rsz szHeld l := by
  induction l with
  | nil => exact Nat.le_refl _
  | cons a l ih =>
    unfold filt rsz at *
    by_cases ha : a.1 = x
    · rw [List.filter_cons_of_pos (by simpa using ha)]; simp only [List.length_cons, rsum]; omega
    · rw [List.filter_cons_of_neg (by simpa using ha)]; simp only [List.length_cons, rsum]; omega
def fFor (p : DPool) (x : Int) : List DHeld := if PlOk p then filt x p.1 else []
theorem fFor_t {p : DPool} {x : Int} (h : PlOk p) : fFor p x = filt x p.1 := if_pos h
theorem fFor_f {p : DPool} {x : Int} (h : ¬ PlOk p) : fFor p x = [] := if_neg h
theorem fFor_sz (p : DPool) (x : Int) : rsz szHeld (fFor p x) ≤ rsz szHeld p.1 := by
  unfold fFor
  split
  · exact filt_sz _ _
  · exact Nat.zero_le _
theorem rnilR {w : World} {B : Nat} : tHeld.row.R w B [.slice none 0 0] [] := ⟨none, 0, 0, rfl, Nat.le_refl _, by omega, rfl, fun h => absurd h (by omega)⟩
theorem rnilO {w : World} : tHeld.row.O w [.slice none 0 0] [] [] := .inl ⟨none, 0, rfl, by omega, rfl, rfl⟩
set_option maxHeartbeats 2000000 in
theorem s_For {w : World} {cs : List Value} {p : DPool} {x : Int} (h : tPool.R w w.heap.size cs p) (hz : szPool p ≤ 1048576) (hx : (Lit.int .i64 x).wf = true) :
    Calls Try.prog 56 #[.agg cs.toArray, .int .i64 x] w fun e w' => ∃ A c, e = .returned (.slice A (fFor p x).length c) ∧ tHeld.row.R w' w'.heap.size [.slice A (fFor p x).length c] (fFor p x) ∧ Below w.heap.size w w' := by
  obtain ⟨i1, hj0, hj1, hj2, hj3⟩ := info_parts info_Held
  obtain ⟨A0, n0, c0, A1, n1, c1, rfl, -, -, -, hr0, -, -, -, hr1⟩ := openPool h
  by_cases hp : PlOk p
  · have HP := Lib.hid (decide_eq_true hp)
    obtain ⟨e0, _, _⟩ := rowR_len hr0
    have hn0 : n0 ≤ 12 := by have := hp.1.1; omega
    have E0 := Lib.hid e0
    rw [fFor_t hp]
    obtain ⟨r0, l1⟩ := p
    dsimp only at *
    have HZ := Lib.hid (show rsz szHeld r0 ≤ 1048576 from by unfold szPool at hz; dsimp only at hz; omega)
    clear hp e0
    go_enter Try.func56, Try.ntmps56
    go_wp2_with fail
    refine (s_PoolOk (tPool.reach h ?hB) hz).mono ?_
    case hB => exact (by repeat (first | (with_reducible exact Below.refl _ _) | (with_reducible assumption) | (with_reducible refine bel_alloc ?_ _) | (with_reducible refine bel_drew ?_) | (with_reducible refine below_drewN ?_ _) | (with_reducible refine bel_put ?_ (by first | exact Nat.le_refl _ | (simp; done) | (simp; omega)) _)))
    rintro e w1 ⟨rfl, hb1⟩
    rw [HP.out]
    have X1 : Box w1 w.heap.size 43 #[.slice A0 n0 c0, .slice A1 n1 c1] := (Box.new _ _ _).below hb1 (by simp)
    have k0 : w1.cell? ⟨w.heap.size, 0, none⟩ = some (.slice A0 n0 c0) := X1.cell 0
    have hB1 : Below w.heap.size w w1 := bel_trans (by repeat (first | (with_reducible exact Below.refl _ _) | (with_reducible assumption) | (with_reducible refine bel_alloc ?_ _) | (with_reducible refine bel_drew ?_) | (with_reducible refine below_drewN ?_ _) | (with_reducible refine bel_put ?_ (by first | exact Nat.le_refl _ | (simp; done) | (simp; omega)) _))) hb1
    have z1 : w.heap.size + 1 ≤ w1.heap.size := by have := hb1.size; simpa using this
    clear hb1
    go_wp2_with fail
    go_loopw [5, 6] (fun v i wr => ∃ j : Nat, j ≤ n0 ∧ i = .int .i64 j ∧ GrowR tHeld 31 wr w1.heap.size w.heap.size v (filt x (r0.take j)) ∧ Below w.heap.size w wr ∧ Box wr w.heap.size 43 #[.slice A0 n0 c0, .slice A1 n1 c1] ∧ w1.heap.size ≤ wr.heap.size) (fun _ i _ => n0 - (intOf i).toNat)
    case atStart => exact ⟨0, by omega, rfl, GrowR.nil, hB1, X1, Nat.le_refl _⟩
    case round =>
      obtain ⟨j, hj, rfl, hG, hB, hX, hzr⟩ := hrel
      clear k0
      have k0 : wr.cell? ⟨w.heap.size, 0, none⟩ = some (.slice A0 n0 c0) := hX.cell 0
      by_cases hlt : j < n0
      · obtain ⟨a, b', off, es, hl2, rfl, hb, hes, hR⟩ := rowR_at (K := 3) hr0 hlt rfl
        obtain ⟨A2, n2, c2, rfl, -, -, -, -, -, -⟩ := openHeld hR
        have e0 : wr.cell? ⟨b', off + j * 3, none⟩ = some (.int .i64 a.1) := cell_at hB hb (hes 0 (by omega))
        have e1 : wr.cell? ⟨b', off + j * 3 + 1, none⟩ = some (.int .i64 a.2.1) := cell_at hB hb (hes 1 (by omega))
        have e2 : wr.cell? ⟨b', off + j * 3 + 2, none⟩ = some (.slice A2 n2 c2) := cell_at hB hb (hes 2 (by omega))
        clear hes
        have hRr : tHeld.R wr w.heap.size [.int .i64 a.1, .int .i64 a.2.1, .slice A2 n2 c2] a := tHeld.keep hR hB.block
        have hlf : (filt x (r0.take j)).length ≤ 12 := by have := filt_len x (r0.take j); rw [List.length_take] at this; omega
        by_cases ha : a.1 = x
        · have HT := Lib.hid (filt_t hl2 ha)
          clear hl2 hR
          have qa : (a.1 == x) = true := by simpa using ha
          have hBx : Below wr.heap.size wr (wr.alloc (.cells [.int .i64 a.1, .int .i64 a.2.1, .slice A2 n2 c2].toArray 31)) := (by repeat (first | (with_reducible exact Below.refl _ _) | (with_reducible assumption) | (with_reducible refine bel_alloc ?_ _) | (with_reducible refine bel_drew ?_) | (with_reducible refine below_drewN ?_ _) | (with_reducible refine bel_put ?_ (by first | exact Nat.le_refl _ | (simp; done) | (simp; omega)) _)))
          have hOwn := fun b hb => (GrowR.row hG (by omega) (by omega)).choose_spec.1.lt b hb
          obtain ⟨xs, hrow, hpush⟩ := (hG.below hBx (by omega)).row (by omega) (by have := hBx.size; omega)
          have tz : (Value.agg #[Value.int .i64 0, Value.int .i64 0, Value.slice none 0 0]).cells.size = 3 := by first | rfl | (simp [Value.cells]; done)
          have t0 := one_held a.1 a.2.1 A2 n2 c2
          have t1 : (filt x (r0.take j)).length + 1 ≤ maxLen := by simp only [maxLen]; omega
          have t2 : ((filt x (r0.take j)).length + 1) * 40 ≤ 140737488355328 := by omega
          have hS2 : Src (wr.alloc (.cells [.int .i64 a.1, .int .i64 a.2.1, .slice A2 n2 c2].toArray 31)) 3 (some ⟨wr.heap.size, 0, none⟩) 1 [.int .i64 a.1, .int .i64 a.2.1, .slice A2 n2 c2] := Src.of_box wr 31 [.int .i64 a.1, .int .i64 a.2.1, .slice A2 n2 c2] (K := 3) rfl
          have t3 := hBx.size
          have HA := Lib.hid ha
          clear ha
          go_wp2_with (at_builtin; refine wpList_app _ rfl (.tmp 25) (.tmp 31) _ rfl w1.heap.size 31 i1 _ 3 40 Try.underlying41 hj0 hj1 hj2 hj3 tz (by omega) u5 _ xs rfl hrow _ 1 1 [.int .i64 a.1, .int .i64 a.2.1, .slice A2 n2 c2] rfl hS2 t0 t1 t2 (by omega) ?_; intro v2 w2 hown2 hgr2 hat2)
          have hfin := hpush w2 v2 a _ (tHeld.keep hRr fun b hlt => hBx.block b (by omega)) hown2 hgr2
          have hBf : Below w.heap.size w w2 := Below.grown (w := (wr.alloc (.cells [.int .i64 a.1, .int .i64 a.2.1, .slice A2 n2 c2].toArray 31))) (bel_trans hB hBx) hgr2 (by omega) (fun b hb => by have := (hOwn b hb).1; omega)
          have hXf : Box w2 w.heap.size 43 #[.slice (some ⟨b', off, none⟩) n0 c0, .slice A1 n1 c1] := (hX.alloc _).grown hgr2 (fun e => by have := (hOwn _ e.symm).1; omega)
          have zf := hgr2.size
          go_roundw
          case rel => exact ⟨j + 1, by omega, by go_num, by rw [HT.out]; exact hfin, hBf, hXf, by omega⟩
          case measure => simp [intOf]; omega
        · have HT := Lib.hid (filt_f hl2 ha)
          have qa : (a.1 == x) = false := by simpa using ha
          clear hl2 hR ha
          go_wp2
          go_roundw
          case rel => exact ⟨j + 1, by omega, by go_num, by rw [HT.out]; exact hG, hB, hX, hzr⟩
          case measure => simp [intOf]; omega
      · obtain rfl : n0 = j := by omega
        have HA := Lib.hid (show r0.take n0 = r0 from List.take_of_length_le (Nat.le_of_eq E0.out))
        rw [HA.out] at hG
        obtain ⟨A3, c3, rfl, hRf⟩ := hG.done (by omega)
        have hzf : rsz szHeld (filt x r0) ≤ 1048576 := Nat.le_trans (filt_sz _ _) HZ.out
        go_wp2_with fail
        refine (s_ownHeld hRf hzf).mono ?_
        rintro e w2 ⟨A4, c4, F4, rfl, hO4, hN4, hb2⟩
        go_wp2
        go_ret
        exact ⟨A4, c4, rfl, tHeld.row.read hO4, bel_trans hB hb2⟩
  · have HP := Lib.hid (decide_eq_false hp)
    rw [fFor_f hp]
    clear hp
    go_enter Try.func56, Try.ntmps56
    go_wp2_with fail
    refine (s_PoolOk (tPool.reach h ?hB) hz).mono ?_
    case hB => exact (by repeat (first | (with_reducible exact Below.refl _ _) | (with_reducible assumption) | (with_reducible refine bel_alloc ?_ _) | (with_reducible refine bel_drew ?_) | (with_reducible refine below_drewN ?_ _) | (with_reducible refine bel_put ?_ (by first | exact Nat.le_refl _ | (simp; done) | (simp; omega)) _)))
    rintro e w1 ⟨rfl, hb1⟩
    rw [HP.out]
    go_wp2
    go_ret
    exact ⟨none, 0, rfl, rnilR, bel_trans (by repeat (first | (with_reducible exact Below.refl _ _) | (with_reducible assumption) | (with_reducible refine bel_alloc ?_ _) | (with_reducible refine bel_drew ?_) | (with_reducible refine below_drewN ?_ _) | (with_reducible refine bel_put ?_ (by first | exact Nat.le_refl _ | (simp; done) | (simp; omega)) _))) hb1⟩
theorem i_For1 (A2 : Option Addr) (n2 c2 g : Nat) (x0 x1 x : Int) (w : World) (hg : w.cell? ⟨g, 0, none⟩ = some (.int .i64 x)) :
    Calls Try.prog 108 #[.agg #[.int .i64 x0, .int .i64 x1, .slice A2 n2 c2], .pointer (some ⟨g, 0, none⟩)] w fun e w' => e = .returned (.bool (decide (x0 = x))) ∧ Below w.heap.size w w' := by
  have hg2 : (w.alloc (.cells #[.int .i64 x0, .int .i64 x1, .slice A2 n2 c2] 31)).cell? ⟨g, 0, none⟩ = some (.int .i64 x) := cell_bel (by repeat (first | (with_reducible exact Below.refl _ _) | (with_reducible assumption) | (with_reducible refine bel_alloc ?_ _) | (with_reducible refine bel_drew ?_) | (with_reducible refine below_drewN ?_ _) | (with_reducible refine bel_put ?_ (by first | exact Nat.le_refl _ | (simp; done) | (simp; omega)) _))) hg
  by_cases h : x0 = x
  · have HR := Lib.hid (show decide (x0 = x) = true from decide_eq_true h)
    have q : (x0 == x) = true := by simpa using h
    clear h
    go_enter Try.func108, Try.ntmps108
    go_wp2
    go_ret
    exact ⟨ret_bool (by first | (rw [HR.out]; exact q) | exact HR.out.symm), (by repeat (first | (with_reducible exact Below.refl _ _) | (with_reducible assumption) | (with_reducible refine bel_alloc ?_ _) | (with_reducible refine bel_drew ?_) | (with_reducible refine below_drewN ?_ _) | (with_reducible refine bel_put ?_ (by first | exact Nat.le_refl _ | (simp; done) | (simp; omega)) _)))⟩
  · have HR := Lib.hid (show decide (x0 = x) = false from decide_eq_false h)
    have q : (x0 == x) = false := by simpa using h
    clear h
    go_enter Try.func108, Try.ntmps108
    go_wp2
    go_ret
    exact ⟨ret_bool (by first | (rw [HR.out]; exact q) | exact HR.out.symm), (by repeat (first | (with_reducible exact Below.refl _ _) | (with_reducible assumption) | (with_reducible refine bel_alloc ?_ _) | (with_reducible refine bel_drew ?_) | (with_reducible refine below_drewN ?_ _) | (with_reducible refine bel_put ?_ (by first | exact Nat.le_refl _ | (simp; done) | (simp; omega)) _)))⟩
set_option maxHeartbeats 2000000 in
theorem i_onlyFor {w : World} {n c g : Nat} {A : Option Addr} {l : List DHeld} {x : Int} (h : tHeld.row.R w w.heap.size [.slice A n c] l) (hn : n ≤ 1048576) (hg : w.cell? ⟨g, 0, none⟩ = some (.int .i64 x)) :
    Calls Try.prog 83 #[.slice A n c, .func (.func 108) #[] #[.pointer (some ⟨g, 0, none⟩)]] w fun e w' => ∃ A' c', e = .returned (.slice A' (filt x l).length c') ∧ tHeld.row.R w' w'.heap.size [.slice A' (filt x l).length c'] (filt x l) ∧ Below w.heap.size w w' := by
  obtain ⟨i1, hj0, hj1, hj2, hj3⟩ := info_parts info_Held
  obtain ⟨e0, _, _⟩ := rowR_len h
  have HL := Lib.hid e0
  have hgs : g < w.heap.size := World.block_lt_of_cell? w _ hg
  clear e0
  go_enter Try.func83, Try.ntmps83
  go_wp2_with fail
  go_loopw [5, 10] (fun v i wr => ∃ j : Nat, j ≤ n ∧ i = .int .i64 j ∧ GrowR tHeld 31 wr w.heap.size w.heap.size v (filt x (l.take j)) ∧ Below w.heap.size w wr) (fun _ i _ => n - (intOf i).toNat)
  case atStart => exact ⟨0, by omega, rfl, GrowR.nil, (by repeat (first | (with_reducible exact Below.refl _ _) | (with_reducible assumption) | (with_reducible refine bel_alloc ?_ _) | (with_reducible refine bel_drew ?_) | (with_reducible refine below_drewN ?_ _) | (with_reducible refine bel_put ?_ (by first | exact Nat.le_refl _ | (simp; done) | (simp; omega)) _)))⟩
  case round =>
    obtain ⟨j, hj, rfl, hG, hB⟩ := hrel
    by_cases hlt : j < n
    · obtain ⟨a, b', off, es, hl2, rfl, hb, hes, hR⟩ := rowR_at (K := 3) h hlt rfl
      obtain ⟨A2, n2, c2, rfl, -, -, -, -, -, -⟩ := openHeld hR
      have e0 : wr.cell? ⟨b', off + j * 3, none⟩ = some (.int .i64 a.1) := cell_at hB hb (hes 0 (by omega))
      have e1 : wr.cell? ⟨b', off + j * 3 + 1, none⟩ = some (.int .i64 a.2.1) := cell_at hB hb (hes 1 (by omega))
      have e2 : wr.cell? ⟨b', off + j * 3 + 2, none⟩ = some (.slice A2 n2 c2) := cell_at hB hb (hes 2 (by omega))
      clear hes
      have hRr : tHeld.R wr w.heap.size [.int .i64 a.1, .int .i64 a.2.1, .slice A2 n2 c2] a := tHeld.keep hR hB.block
      have hgr : wr.cell? ⟨g, 0, none⟩ = some (.int .i64 x) := cell_bel hB hg
      have hgr2 : (wr.alloc (.cells #[.int .i64 a.1, .int .i64 a.2.1, .slice A2 n2 c2] 31)).cell? ⟨g, 0, none⟩ = some (.int .i64 x) := cell_bel (by repeat (first | (with_reducible exact Below.refl _ _) | (with_reducible assumption) | (with_reducible refine bel_alloc ?_ _) | (with_reducible refine bel_drew ?_) | (with_reducible refine below_drewN ?_ _) | (with_reducible refine bel_put ?_ (by first | exact Nat.le_refl _ | (simp; done) | (simp; omega)) _))) hgr
      have hll : (filt x (l.take j)).length ≤ n := by have := filt_len x (l.take j); rw [List.length_take] at this; omega
      have zB := hB.size
      by_cases ha : a.1 = x
      · have HT := Lib.hid (filt_t hl2 ha)
        have HD := Lib.hid (show decide (a.1 = x) = true from decide_eq_true ha)
        clear hl2 hR
        have hOwn := fun b hb => (GrowR.row hG (Nat.le_refl _) (by omega)).choose_spec.1.lt b hb
        have tz : (Value.agg #[Value.int .i64 0, Value.int .i64 0, Value.slice none 0 0]).cells.size = 3 := by first | rfl | (simp [Value.cells]; done)
        have t0 := one_held a.1 a.2.1 A2 n2 c2
        have t1 : (filt x (l.take j)).length + 1 ≤ maxLen := by simp only [maxLen]; omega
        have t2 : ((filt x (l.take j)).length + 1) * 40 ≤ 140737488355328 := by omega
        clear ha
        go_wp2_with fail
        refine (i_For1 _ _ _ _ _ _ _ _ hgr2).mono ?_
        rintro e w1 ⟨rfl, hb1⟩
        rw [HD.out]
        have hs1 : Below wr.heap.size wr w1 := bel_trans (by repeat (first | (with_reducible exact Below.refl _ _) | (with_reducible assumption) | (with_reducible refine bel_alloc ?_ _) | (with_reducible refine bel_drew ?_) | (with_reducible refine below_drewN ?_ _) | (with_reducible refine bel_put ?_ (by first | exact Nat.le_refl _ | (simp; done) | (simp; omega)) _))) hb1
        have X1 : Box w1 wr.heap.size 31 #[.int .i64 a.1, .int .i64 a.2.1, .slice A2 n2 c2] := (Box.new _ _ _).below hb1 (by simp)
        have x0 : w1.cell? ⟨wr.heap.size, 0, none⟩ = some (.int .i64 a.1) := X1.cell 0
        have x1 : w1.cell? ⟨wr.heap.size, 1, none⟩ = some (.int .i64 a.2.1) := X1.cell 1
        have x2 : w1.cell? ⟨wr.heap.size, 2, none⟩ = some (.slice A2 n2 c2) := X1.cell 2
        have hBx : Below wr.heap.size wr (w1.alloc (.cells [.int .i64 a.1, .int .i64 a.2.1, .slice A2 n2 c2].toArray 31)) := bel_alloc hs1 _
        obtain ⟨xs, hrow, hpush⟩ := (hG.below hBx (by omega)).row (Nat.le_refl _) (by have := hBx.size; omega)
        have hS2 : Src (w1.alloc (.cells [.int .i64 a.1, .int .i64 a.2.1, .slice A2 n2 c2].toArray 31)) 3 (some ⟨w1.heap.size, 0, none⟩) 1 [.int .i64 a.1, .int .i64 a.2.1, .slice A2 n2 c2] := Src.of_box w1 31 [.int .i64 a.1, .int .i64 a.2.1, .slice A2 n2 c2] (K := 3) rfl
        have t3 := hBx.size
        go_wp2_with (at_builtin; refine wpList_app _ rfl (.tmp 17) (.tmp 19) _ rfl w.heap.size 31 i1 _ 3 40 Try.underlying41 hj0 hj1 hj2 hj3 tz (by omega) u5 _ xs rfl hrow _ 1 1 [.int .i64 a.1, .int .i64 a.2.1, .slice A2 n2 c2] rfl hS2 t0 t1 t2 (by omega) ?_; intro v2 w2 hown2 hgr2' hat2)
        have hfin := hpush w2 v2 a _ (tHeld.keep hRr fun b hlt => hBx.block b (by omega)) hown2 hgr2'
        have hBf : Below w.heap.size w w2 := Below.grown (w := (w1.alloc (.cells [.int .i64 a.1, .int .i64 a.2.1, .slice A2 n2 c2].toArray 31))) (bel_trans hB hBx) hgr2' (by omega) (fun b hb => (hOwn b hb).1)
        go_roundw
        case rel => exact ⟨j + 1, by omega, by go_num, by rw [HT.out]; exact hfin, hBf⟩
        case measure => simp [intOf]; omega
      · have HT := Lib.hid (filt_f hl2 ha)
        have HD := Lib.hid (show decide (a.1 = x) = false from decide_eq_false ha)
        clear hl2 hR ha
        go_wp2_with fail
        refine (i_For1 _ _ _ _ _ _ _ _ hgr2).mono ?_
        rintro e w1 ⟨rfl, hb1⟩
        rw [HD.out]
        have hs1 : Below wr.heap.size wr w1 := bel_trans (by repeat (first | (with_reducible exact Below.refl _ _) | (with_reducible assumption) | (with_reducible refine bel_alloc ?_ _) | (with_reducible refine bel_drew ?_) | (with_reducible refine below_drewN ?_ _) | (with_reducible refine bel_put ?_ (by first | exact Nat.le_refl _ | (simp; done) | (simp; omega)) _))) hb1
        go_wp2
        go_roundw
        case rel => exact ⟨j + 1, by omega, by go_num, by rw [HT.out]; exact hG.below hs1 (by omega), bel_trans hB hs1⟩
        case measure => simp [intOf]; omega
    · obtain rfl : n = j := by omega
      have HA := Lib.hid (show l.take n = l from List.take_of_length_le (Nat.le_of_eq HL.out))
      rw [HA.out] at hG
      obtain ⟨A3, c3, rfl, hRf⟩ := hG.done hB.size
      go_wp2
      go_ret
      exact ⟨A3, c3, rfl, hRf, hB⟩
set_option maxHeartbeats 1000000 in
theorem i_For {w : World} {cs : List Value} {p : DPool} {x : Int} (h : tPool.R w w.heap.size cs p) (hz : szPool p ≤ 1048576) (hx : (Lit.int .i64 x).wf = true) :
    Calls Try.prog 57 #[.agg cs.toArray, .int .i64 x] w fun e w' => ∃ A c F, e = .returned (.slice A (fFor p x).length c) ∧ tHeld.row.O w' [.slice A (fFor p x).length c] (fFor p x) F ∧ New w.heap.size F ∧ Below w.heap.size w w' := by
  obtain ⟨A0, n0, c0, A1, n1, c1, rfl, -, -, -, hr0, -, -, -, hr1⟩ := openPool h
  by_cases hp : PlOk p
  · have HP := Lib.hid (decide_eq_true hp)
    obtain ⟨e0, _, _⟩ := rowR_len hr0
    have hn0 : n0 ≤ 12 := by have := hp.1.1; omega
    rw [fFor_t hp]
    obtain ⟨r0, l1⟩ := p
    dsimp only at *
    have HZ := Lib.hid (show rsz szHeld r0 ≤ 1048576 from by unfold szPool at hz; dsimp only at hz; omega)
    clear hp e0
    go_enter Try.func57, Try.ntmps57
    go_wp2_with fail
    refine (i_PoolOk (tPool.reach h ?hB) hz).mono ?_
    case hB => exact (by repeat (first | (with_reducible exact Below.refl _ _) | (with_reducible assumption) | (with_reducible refine bel_alloc ?_ _) | (with_reducible refine bel_drew ?_) | (with_reducible refine below_drewN ?_ _) | (with_reducible refine bel_put ?_ (by first | exact Nat.le_refl _ | (simp; done) | (simp; omega)) _)))
    rintro e w1 ⟨rfl, hb1⟩
    rw [HP.out]
    have X1 : Box w1 w.heap.size 43 #[.slice A0 n0 c0, .slice A1 n1 c1] := Box.below ((Box.new w _ _).alloc _) hb1 (by first | (simp; done) | (simp; omega))
    have Y1 : Box w1 (w.heap.size + 1) 3 #[.int .i64 x] := Box.below (by simpa using Box.new (w.alloc _) 3 #[.int .i64 x]) hb1 (by first | (simp; done) | (simp; omega))
    have k0 : w1.cell? ⟨w.heap.size, 0, none⟩ = some (.slice A0 n0 c0) := X1.cell 0
    have y0 : w1.cell? ⟨w.heap.size + 1, 0, none⟩ = some (.int .i64 x) := Y1.cell 0
    have hB1 : Below w.heap.size w w1 := bel_trans (by repeat (first | (with_reducible exact Below.refl _ _) | (with_reducible assumption) | (with_reducible refine bel_alloc ?_ _) | (with_reducible refine bel_drew ?_) | (with_reducible refine below_drewN ?_ _) | (with_reducible refine bel_put ?_ (by first | exact Nat.le_refl _ | (simp; done) | (simp; omega)) _))) hb1
    clear hb1
    go_wp2_with fail
    refine (i_onlyFor (tHeld.row.reach hr0 hB1) (by omega) y0).mono ?_
    rintro e w2 ⟨A2, c2, rfl, hR2, hb2⟩
    have hB2 : Below w.heap.size w w2 := bel_trans hB1 hb2
    go_wp2_with fail
    refine (i_eachCopy hR2 (Nat.le_trans (filt_sz _ _) HZ.out)).mono ?_
    rintro e w3 ⟨A3, c3, F3, rfl, hO3, hN3, hb3⟩
    go_wp2
    go_ret
    exact ⟨A3, c3, F3, rfl, hO3, hN3.lower hB2.size, bel_trans hB2 hb3⟩
  · have HP := Lib.hid (decide_eq_false hp)
    rw [fFor_f hp]
    clear hp
    go_enter Try.func57, Try.ntmps57
    go_wp2_with fail
    refine (i_PoolOk (tPool.reach h ?hB) hz).mono ?_
    case hB => exact (by repeat (first | (with_reducible exact Below.refl _ _) | (with_reducible assumption) | (with_reducible refine bel_alloc ?_ _) | (with_reducible refine bel_drew ?_) | (with_reducible refine below_drewN ?_ _) | (with_reducible refine bel_put ?_ (by first | exact Nat.le_refl _ | (simp; done) | (simp; omega)) _)))
    rintro e w1 ⟨rfl, hb1⟩
    rw [HP.out]
    go_wp2
    go_ret
    exact ⟨none, 0, [], rfl, rnilO, New.nil _, bel_trans (by repeat (first | (with_reducible exact Below.refl _ _) | (with_reducible assumption) | (with_reducible refine bel_alloc ?_ _) | (with_reducible refine bel_drew ?_) | (with_reducible refine below_drewN ?_ _) | (with_reducible refine bel_put ?_ (by first | exact Nat.le_refl _ | (simp; done) | (simp; omega)) _))) hb1⟩
end Go.Proofs.Ytconcboeojpmdac
