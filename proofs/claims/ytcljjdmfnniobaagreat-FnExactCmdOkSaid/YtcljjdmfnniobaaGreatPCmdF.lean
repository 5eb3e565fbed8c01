/-
  What the fields of each kind of command have to be: contracts of the program's six tests.
-/
import Derived.Test.YtcljjdmfnniobaaGreatCm
import Derived.Test.YtcljjdmfnniobaaGreatRoute
import Derived.Test.YtcljjdmfnniobaaGreatImplThree
namespace Go.Proofs.YtcljjdmfnniobaaGreat
set_option maxRecDepth 100000
set_option linter.unusedVariables false
set_option linter.unusedSimpArgs false
open Go.ChangeShapes Go.WideShapes Go.ChangeAt Go.RowKit
open Fld
attribute [local go_sem ↓] Go.wp_at_zero Go.wp_at_succ
theorem c_isId (x : Int) (w : World) : Calls Tryz.prog 33 #[.int .i64 x] w fun e w' => e = .returned (.bool (decide (0 ≤ x ∧ x ≤ 255))) ∧ w = w' := by
  by_cases h1 : 0 ≤ x
  · by_cases h2 : x ≤ 255
    · rw [decide_eq_true (show 0 ≤ x ∧ x ≤ 255 from ⟨h1, h2⟩)]
      have h3 : ¬ 255 < x := by omega
      have h4 : x < 256 := by omega
      go_enter Tryz.func33, Tryz.ntmps33
      go_wp2
      go_ret
      exact ⟨by first | rfl | (simp; done) | (simp; omega), rfl⟩
    · rw [decide_eq_false (fun h : 0 ≤ x ∧ x ≤ 255 => h2 h.2)]
      have h3 : 255 < x := by omega
      have h4 : ¬ x < 256 := by omega
      go_enter Tryz.func33, Tryz.ntmps33
      go_wp2
      go_ret
      exact ⟨by first | rfl | (simp; done) | (simp; omega), rfl⟩
  · rw [decide_eq_false (fun h : 0 ≤ x ∧ x ≤ 255 => h1 h.1)]
    go_enter Tryz.func33, Tryz.ntmps33
    go_wp2
    go_ret
    exact ⟨by first | rfl | (simp; done) | (simp; omega), rfl⟩
theorem c_isDue (x : Int) (w : World) : Calls Tryz.prog 34 #[.int .i64 x] w fun e w' => e = .returned (.bool (decide (0 ≤ x ∧ x ≤ 65535))) ∧ w = w' := by
  by_cases h1 : 0 ≤ x
  · by_cases h2 : x ≤ 65535
    · rw [decide_eq_true (show 0 ≤ x ∧ x ≤ 65535 from ⟨h1, h2⟩)]
      have h3 : ¬ 65535 < x := by omega
      have h4 : x < 65536 := by omega
      go_enter Tryz.func34, Tryz.ntmps34
      go_wp2
      go_ret
      exact ⟨by first | rfl | (simp; done) | (simp; omega), rfl⟩
    · rw [decide_eq_false (fun h : 0 ≤ x ∧ x ≤ 65535 => h2 h.2)]
      have h3 : 65535 < x := by omega
      have h4 : ¬ x < 65536 := by omega
      go_enter Tryz.func34, Tryz.ntmps34
      go_wp2
      go_ret
      exact ⟨by first | rfl | (simp; done) | (simp; omega), rfl⟩
  · rw [decide_eq_false (fun h : 0 ≤ x ∧ x ≤ 65535 => h1 h.1)]
    go_enter Tryz.func34, Tryz.ntmps34
    go_wp2
    go_ret
    exact ⟨by first | rfl | (simp; done) | (simp; omega), rfl⟩
theorem c_isNode (x : Int) (w : World) : Calls Tryz.prog 40 #[.int .i64 x] w fun e w' => e = .returned (.bool (decide (0 ≤ x ∧ x ≤ 7))) ∧ w = w' := by
  by_cases h1 : 0 ≤ x
  · by_cases h2 : x ≤ 7
    · rw [decide_eq_true (show 0 ≤ x ∧ x ≤ 7 from ⟨h1, h2⟩)]
      have h3 : ¬ 7 < x := by omega
      have h4 : x < 8 := by omega
      go_enter Tryz.func40, Tryz.ntmps40
      go_wp2
      go_ret
      exact ⟨by first | rfl | (simp; done) | (simp; omega), rfl⟩
    · rw [decide_eq_false (fun h : 0 ≤ x ∧ x ≤ 7 => h2 h.2)]
      have h3 : 7 < x := by omega
      have h4 : ¬ x < 8 := by omega
      go_enter Tryz.func40, Tryz.ntmps40
      go_wp2
      go_ret
      exact ⟨by first | rfl | (simp; done) | (simp; omega), rfl⟩
  · rw [decide_eq_false (fun h : 0 ≤ x ∧ x ≤ 7 => h1 h.1)]
    go_enter Tryz.func40, Tryz.ntmps40
    go_wp2
    go_ret
    exact ⟨by first | rfl | (simp; done) | (simp; omega), rfl⟩
theorem c_isNeed (x : Int) (w : World) : Calls Tryz.prog 41 #[.int .i64 x] w fun e w' => e = .returned (.bool (decide (1 ≤ x ∧ x ≤ 12))) ∧ w = w' := by
  by_cases h1 : 1 ≤ x
  · by_cases h2 : x ≤ 12
    · rw [decide_eq_true (show 1 ≤ x ∧ x ≤ 12 from ⟨h1, h2⟩)]
      have h3 : ¬ 12 < x := by omega
      have h4 : x < 13 := by omega
      go_enter Tryz.func41, Tryz.ntmps41
      go_wp2
      go_ret
      exact ⟨by first | rfl | (simp; done) | (simp; omega), rfl⟩
    · rw [decide_eq_false (fun h : 1 ≤ x ∧ x ≤ 12 => h2 h.2)]
      have h3 : 12 < x := by omega
      have h4 : ¬ x < 13 := by omega
      go_enter Tryz.func41, Tryz.ntmps41
      go_wp2
      go_ret
      exact ⟨by first | rfl | (simp; done) | (simp; omega), rfl⟩
  · rw [decide_eq_false (fun h : 1 ≤ x ∧ x ≤ 12 => h1 h.1)]
    go_enter Tryz.func41, Tryz.ntmps41
    go_wp2
    go_ret
    exact ⟨by first | rfl | (simp; done) | (simp; omega), rfl⟩
theorem c_within7 (x : Int) (w : World) : Calls Tryz.prog 14 #[.int .i64 x, .int .i64 7] w fun e w' => e = .returned (.bool (decide (0 ≤ x ∧ x ≤ 7))) ∧ w = w' := by
  by_cases h1 : 0 ≤ x
  · by_cases h2 : x ≤ 7
    · rw [decide_eq_true (show 0 ≤ x ∧ x ≤ 7 from ⟨h1, h2⟩)]
      have h3 : ¬ 7 < x := by omega
      have h4 : x < 8 := by omega
      go_enter Tryz.func14, Tryz.ntmps14
      go_wp2
      go_ret
      exact ⟨by first | rfl | (simp; done) | (simp; omega), rfl⟩
    · rw [decide_eq_false (fun h : 0 ≤ x ∧ x ≤ 7 => h2 h.2)]
      have h3 : 7 < x := by omega
      have h4 : ¬ x < 8 := by omega
      go_enter Tryz.func14, Tryz.ntmps14
      go_wp2
      go_ret
      exact ⟨by first | rfl | (simp; done) | (simp; omega), rfl⟩
  · rw [decide_eq_false (fun h : 0 ≤ x ∧ x ≤ 7 => h1 h.1)]
    go_enter Tryz.func14, Tryz.ntmps14
    go_wp2
    go_ret
    exact ⟨by first | rfl | (simp; done) | (simp; omega), rfl⟩
set_option maxHeartbeats 1000000 in
theorem i_hasOnlyAt {w : World} {A3 A4 : Option Addr} {n3 c3 n4 c4 : Nat} {x0 x1 x2 : Int} {r : List Int} (hr : Ints .i64 w w.heap.size A3 n3 r) (hn3 : n3 ≤ 1048576) (hc3 : n3 ≤ c3) (hd3 : c3 ≤ 9223372036854775807) (b : Bool) (T : (x2 = 0) ∧ (n3 = 0) ∧ (n4 = 0) → b = true) (F : ¬ ((x2 = 0) ∧ (n3 = 0) ∧ (n4 = 0)) → b = false) :
    Calls Tryz.prog 20 #[.agg #[.int .i64 x0, .int .i64 x1, .int .i64 x2, .slice A3 n3 c3, .slice A4 n4 c4]] w fun e w' => e = .returned (.bool b) ∧ Below w.heap.size w w' := by
  have HT := Lib.hid T
  have HF := Lib.hid F
  clear T F
  by_cases g0 : x2 = 0
  rotate_left
  · obtain rfl := HF.out (fun h => g0 (h.1))
    clear HT HF
    have pn : (x2 == 0) = false := by simp; omega
    have pn2 : (x2 != 0) = true := by simp; omega
    go_enter Tryz.func20, Tryz.ntmps20
    go_wp2
    go_ret
    exact ⟨by first | rfl | (simp; done) | (simp; omega), by first | exact (by repeat (first | (with_reducible exact Below.refl _ _) | (with_reducible assumption) | (with_reducible refine bel_alloc ?_ _) | (with_reducible refine bel_drew ?_) | (with_reducible refine below_drewN ?_ _) | (with_reducible refine bel_put ?_ (by first | exact Nat.le_refl _ | (simp; done) | (simp; omega)) _))) | exact hs1⟩
  have pn : (x2 == 0) = true := by simp; omega
  have pn2 : (x2 != 0) = false := by simp; omega
  by_cases g1 : n3 = 0
  rotate_left
  · obtain rfl := HF.out (fun h => g1 (h.2.1))
    clear HT HF
    have pr : ((n3 : Int) == 0) = false := by simp; omega
    go_enter Tryz.func20, Tryz.ntmps20
    go_wp2
    go_ret
    exact ⟨by first | rfl | (simp; done) | (simp; omega), by first | exact (by repeat (first | (with_reducible exact Below.refl _ _) | (with_reducible assumption) | (with_reducible refine bel_alloc ?_ _) | (with_reducible refine bel_drew ?_) | (with_reducible refine below_drewN ?_ _) | (with_reducible refine bel_put ?_ (by first | exact Nat.le_refl _ | (simp; done) | (simp; omega)) _))) | exact hs1⟩
  have pr : ((n3 : Int) == 0) = true := by simp; omega
  by_cases g2 : n4 = 0
  rotate_left
  · obtain rfl := HF.out (fun h => g2 (h.2.2))
    clear HT HF
    have pb : ((n4 : Int) == 0) = false := by simp; omega
    go_enter Tryz.func20, Tryz.ntmps20
    go_wp2
    go_ret
    exact ⟨by first | rfl | (simp; done) | (simp; omega), by first | exact (by repeat (first | (with_reducible exact Below.refl _ _) | (with_reducible assumption) | (with_reducible refine bel_alloc ?_ _) | (with_reducible refine bel_drew ?_) | (with_reducible refine below_drewN ?_ _) | (with_reducible refine bel_put ?_ (by first | exact Nat.le_refl _ | (simp; done) | (simp; omega)) _))) | exact hs1⟩
  have pb : ((n4 : Int) == 0) = true := by simp; omega
  obtain rfl := HT.out ⟨g0, g1, g2⟩
  clear HT HF
  go_enter Tryz.func20, Tryz.ntmps20
  go_wp2
  go_ret
  exact ⟨by first | rfl | (simp; done) | (simp; omega), by first | exact (by repeat (first | (with_reducible exact Below.refl _ _) | (with_reducible assumption) | (with_reducible refine bel_alloc ?_ _) | (with_reducible refine bel_drew ?_) | (with_reducible refine below_drewN ?_ _) | (with_reducible refine bel_put ?_ (by first | exact Nat.le_refl _ | (simp; done) | (simp; omega)) _))) | exact hs1⟩
set_option maxHeartbeats 1000000 in
theorem i_fitsSend {w : World} {A3 A4 : Option Addr} {n3 c3 n4 c4 : Nat} {x0 x1 x2 : Int} {r : List Int} (hr : Ints .i64 w w.heap.size A3 n3 r) (hn3 : n3 ≤ 1048576) (hc3 : n3 ≤ c3) (hd3 : c3 ≤ 9223372036854775807) (b : Bool) (T : (Route r) ∧ (0 ≤ x1 ∧ x1 ≤ 255) ∧ (0 ≤ x2 ∧ x2 ≤ 65535) → b = true) (F : ¬ ((Route r) ∧ (0 ≤ x1 ∧ x1 ≤ 255) ∧ (0 ≤ x2 ∧ x2 ≤ 65535)) → b = false) :
    Calls Tryz.prog 18 #[.agg #[.int .i64 x0, .int .i64 x1, .int .i64 x2, .slice A3 n3 c3, .slice A4 n4 c4]] w fun e w' => e = .returned (.bool b) ∧ Below w.heap.size w w' := by
  have HT := Lib.hid T
  have HF := Lib.hid F
  clear T F
  by_cases g0 : Route r
  rotate_left
  · obtain rfl := HF.out (fun h => g0 (h.1))
    clear HT HF
    have HRt := Lib.hid (decide_eq_false g0)
    go_enter Tryz.func18, Tryz.ntmps18
    go_wp2_with (first | (go_at_call 32; refine (i_RouteOk (reach hr (by repeat (first | (with_reducible exact Below.refl _ _) | (with_reducible assumption) | (with_reducible refine bel_alloc ?_ _) | (with_reducible refine bel_drew ?_) | (with_reducible refine below_drewN ?_ _) | (with_reducible refine bel_put ?_ (by first | exact Nat.le_refl _ | (simp; done) | (simp; omega)) _)))) (by omega) hc3 hd3).mono ?_; rintro e w1 ⟨rfl, hb1⟩; rw [HRt.out]; have hs1 : Below w.heap.size w w1 := bel_trans (by repeat (first | (with_reducible exact Below.refl _ _) | (with_reducible assumption) | (with_reducible refine bel_alloc ?_ _) | (with_reducible refine bel_drew ?_) | (with_reducible refine below_drewN ?_ _) | (with_reducible refine bel_put ?_ (by first | exact Nat.le_refl _ | (simp; done) | (simp; omega)) _))) hb1; have bx1 : Box w1 w.heap.size 28 #[.int .i64 x0, .int .i64 x1, .int .i64 x2, .slice A3 n3 c3, .slice A4 n4 c4] := (Box.new w _ _).below hb1 (by simp); have k1 := bx1.cell 1; have k2 := bx1.cell 2) | (go_at_call 33; refine (c_isId _ _).mono ?_; rintro e w' ⟨rfl, rfl⟩; rw [HId.out]) | (go_at_call 34; refine (c_isDue _ _).mono ?_; rintro e w' ⟨rfl, rfl⟩; rw [HDue.out]))
    go_ret
    exact ⟨by first | rfl | (simp; done) | (simp; omega), by first | exact (by repeat (first | (with_reducible exact Below.refl _ _) | (with_reducible assumption) | (with_reducible refine bel_alloc ?_ _) | (with_reducible refine bel_drew ?_) | (with_reducible refine below_drewN ?_ _) | (with_reducible refine bel_put ?_ (by first | exact Nat.le_refl _ | (simp; done) | (simp; omega)) _))) | exact hs1⟩
  have HRt := Lib.hid (decide_eq_true g0)
  by_cases g1 : 0 ≤ x1 ∧ x1 ≤ 255
  rotate_left
  · obtain rfl := HF.out (fun h => g1 (h.2.1))
    clear HT HF
    have HId := Lib.hid (decide_eq_false g1)
    go_enter Tryz.func18, Tryz.ntmps18
    go_wp2_with (first | (go_at_call 32; refine (i_RouteOk (reach hr (by repeat (first | (with_reducible exact Below.refl _ _) | (with_reducible assumption) | (with_reducible refine bel_alloc ?_ _) | (with_reducible refine bel_drew ?_) | (with_reducible refine below_drewN ?_ _) | (with_reducible refine bel_put ?_ (by first | exact Nat.le_refl _ | (simp; done) | (simp; omega)) _)))) (by omega) hc3 hd3).mono ?_; rintro e w1 ⟨rfl, hb1⟩; rw [HRt.out]; have hs1 : Below w.heap.size w w1 := bel_trans (by repeat (first | (with_reducible exact Below.refl _ _) | (with_reducible assumption) | (with_reducible refine bel_alloc ?_ _) | (with_reducible refine bel_drew ?_) | (with_reducible refine below_drewN ?_ _) | (with_reducible refine bel_put ?_ (by first | exact Nat.le_refl _ | (simp; done) | (simp; omega)) _))) hb1; have bx1 : Box w1 w.heap.size 28 #[.int .i64 x0, .int .i64 x1, .int .i64 x2, .slice A3 n3 c3, .slice A4 n4 c4] := (Box.new w _ _).below hb1 (by simp); have k1 := bx1.cell 1; have k2 := bx1.cell 2) | (go_at_call 33; refine (c_isId _ _).mono ?_; rintro e w' ⟨rfl, rfl⟩; rw [HId.out]) | (go_at_call 34; refine (c_isDue _ _).mono ?_; rintro e w' ⟨rfl, rfl⟩; rw [HDue.out]))
    go_ret
    exact ⟨by first | rfl | (simp; done) | (simp; omega), by first | exact (by repeat (first | (with_reducible exact Below.refl _ _) | (with_reducible assumption) | (with_reducible refine bel_alloc ?_ _) | (with_reducible refine bel_drew ?_) | (with_reducible refine below_drewN ?_ _) | (with_reducible refine bel_put ?_ (by first | exact Nat.le_refl _ | (simp; done) | (simp; omega)) _))) | exact hs1⟩
  have HId := Lib.hid (decide_eq_true g1)
  by_cases g2 : 0 ≤ x2 ∧ x2 ≤ 65535
  rotate_left
  · obtain rfl := HF.out (fun h => g2 (h.2.2))
    clear HT HF
    have HDue := Lib.hid (decide_eq_false g2)
    go_enter Tryz.func18, Tryz.ntmps18
    go_wp2_with (first | (go_at_call 32; refine (i_RouteOk (reach hr (by repeat (first | (with_reducible exact Below.refl _ _) | (with_reducible assumption) | (with_reducible refine bel_alloc ?_ _) | (with_reducible refine bel_drew ?_) | (with_reducible refine below_drewN ?_ _) | (with_reducible refine bel_put ?_ (by first | exact Nat.le_refl _ | (simp; done) | (simp; omega)) _)))) (by omega) hc3 hd3).mono ?_; rintro e w1 ⟨rfl, hb1⟩; rw [HRt.out]; have hs1 : Below w.heap.size w w1 := bel_trans (by repeat (first | (with_reducible exact Below.refl _ _) | (with_reducible assumption) | (with_reducible refine bel_alloc ?_ _) | (with_reducible refine bel_drew ?_) | (with_reducible refine below_drewN ?_ _) | (with_reducible refine bel_put ?_ (by first | exact Nat.le_refl _ | (simp; done) | (simp; omega)) _))) hb1; have bx1 : Box w1 w.heap.size 28 #[.int .i64 x0, .int .i64 x1, .int .i64 x2, .slice A3 n3 c3, .slice A4 n4 c4] := (Box.new w _ _).below hb1 (by simp); have k1 := bx1.cell 1; have k2 := bx1.cell 2) | (go_at_call 33; refine (c_isId _ _).mono ?_; rintro e w' ⟨rfl, rfl⟩; rw [HId.out]) | (go_at_call 34; refine (c_isDue _ _).mono ?_; rintro e w' ⟨rfl, rfl⟩; rw [HDue.out]))
    go_ret
    exact ⟨by first | rfl | (simp; done) | (simp; omega), by first | exact (by repeat (first | (with_reducible exact Below.refl _ _) | (with_reducible assumption) | (with_reducible refine bel_alloc ?_ _) | (with_reducible refine bel_drew ?_) | (with_reducible refine below_drewN ?_ _) | (with_reducible refine bel_put ?_ (by first | exact Nat.le_refl _ | (simp; done) | (simp; omega)) _))) | exact hs1⟩
  have HDue := Lib.hid (decide_eq_true g2)
  obtain rfl := HT.out ⟨g0, g1, g2⟩
  clear HT HF
  go_enter Tryz.func18, Tryz.ntmps18
  go_wp2_with (first | (go_at_call 32; refine (i_RouteOk (reach hr (by repeat (first | (with_reducible exact Below.refl _ _) | (with_reducible assumption) | (with_reducible refine bel_alloc ?_ _) | (with_reducible refine bel_drew ?_) | (with_reducible refine below_drewN ?_ _) | (with_reducible refine bel_put ?_ (by first | exact Nat.le_refl _ | (simp; done) | (simp; omega)) _)))) (by omega) hc3 hd3).mono ?_; rintro e w1 ⟨rfl, hb1⟩; rw [HRt.out]; have hs1 : Below w.heap.size w w1 := bel_trans (by repeat (first | (with_reducible exact Below.refl _ _) | (with_reducible assumption) | (with_reducible refine bel_alloc ?_ _) | (with_reducible refine bel_drew ?_) | (with_reducible refine below_drewN ?_ _) | (with_reducible refine bel_put ?_ (by first | exact Nat.le_refl _ | (simp; done) | (simp; omega)) _))) hb1; have bx1 : Box w1 w.heap.size 28 #[.int .i64 x0, .int .i64 x1, .int .i64 x2, .slice A3 n3 c3, .slice A4 n4 c4] := (Box.new w _ _).below hb1 (by simp); have k1 := bx1.cell 1; have k2 := bx1.cell 2) | (go_at_call 33; refine (c_isId _ _).mono ?_; rintro e w' ⟨rfl, rfl⟩; rw [HId.out]) | (go_at_call 34; refine (c_isDue _ _).mono ?_; rintro e w' ⟨rfl, rfl⟩; rw [HDue.out]))
  go_ret
  exact ⟨by first | rfl | (simp; done) | (simp; omega), by first | exact (by repeat (first | (with_reducible exact Below.refl _ _) | (with_reducible assumption) | (with_reducible refine bel_alloc ?_ _) | (with_reducible refine bel_drew ?_) | (with_reducible refine below_drewN ?_ _) | (with_reducible refine bel_put ?_ (by first | exact Nat.le_refl _ | (simp; done) | (simp; omega)) _))) | exact hs1⟩
set_option maxHeartbeats 1000000 in
theorem i_fitsFlush {w : World} {A3 A4 : Option Addr} {n3 c3 n4 c4 : Nat} {x0 x1 x2 : Int} {r : List Int} (hr : Ints .i64 w w.heap.size A3 n3 r) (hn3 : n3 ≤ 1048576) (hc3 : n3 ≤ c3) (hd3 : c3 ≤ 9223372036854775807) (b : Bool) (T : (0 ≤ x1 ∧ x1 ≤ 7) ∧ (1 ≤ x2 ∧ x2 ≤ 12) ∧ (n3 = 0) → b = true) (F : ¬ ((0 ≤ x1 ∧ x1 ≤ 7) ∧ (1 ≤ x2 ∧ x2 ≤ 12) ∧ (n3 = 0)) → b = false) :
    Calls Tryz.prog 26 #[.agg #[.int .i64 x0, .int .i64 x1, .int .i64 x2, .slice A3 n3 c3, .slice A4 n4 c4]] w fun e w' => e = .returned (.bool b) ∧ Below w.heap.size w w' := by
  have HT := Lib.hid T
  have HF := Lib.hid F
  clear T F
  by_cases g0 : 0 ≤ x1 ∧ x1 ≤ 7
  rotate_left
  · obtain rfl := HF.out (fun h => g0 (h.1))
    clear HT HF
    have HNode := Lib.hid (decide_eq_false g0)
    go_enter Tryz.func26, Tryz.ntmps26
    go_wp2_with (first | (go_at_call 40; refine (c_isNode _ _).mono ?_; rintro e w' ⟨rfl, rfl⟩; rw [HNode.out]) | (go_at_call 41; refine (c_isNeed _ _).mono ?_; rintro e w' ⟨rfl, rfl⟩; rw [HNeed.out]))
    go_ret
    exact ⟨by first | rfl | (simp; done) | (simp; omega), by first | exact (by repeat (first | (with_reducible exact Below.refl _ _) | (with_reducible assumption) | (with_reducible refine bel_alloc ?_ _) | (with_reducible refine bel_drew ?_) | (with_reducible refine below_drewN ?_ _) | (with_reducible refine bel_put ?_ (by first | exact Nat.le_refl _ | (simp; done) | (simp; omega)) _))) | exact hs1⟩
  have HNode := Lib.hid (decide_eq_true g0)
  by_cases g1 : 1 ≤ x2 ∧ x2 ≤ 12
  rotate_left
  · obtain rfl := HF.out (fun h => g1 (h.2.1))
    clear HT HF
    have HNeed := Lib.hid (decide_eq_false g1)
    go_enter Tryz.func26, Tryz.ntmps26
    go_wp2_with (first | (go_at_call 40; refine (c_isNode _ _).mono ?_; rintro e w' ⟨rfl, rfl⟩; rw [HNode.out]) | (go_at_call 41; refine (c_isNeed _ _).mono ?_; rintro e w' ⟨rfl, rfl⟩; rw [HNeed.out]))
    go_ret
    exact ⟨by first | rfl | (simp; done) | (simp; omega), by first | exact (by repeat (first | (with_reducible exact Below.refl _ _) | (with_reducible assumption) | (with_reducible refine bel_alloc ?_ _) | (with_reducible refine bel_drew ?_) | (with_reducible refine below_drewN ?_ _) | (with_reducible refine bel_put ?_ (by first | exact Nat.le_refl _ | (simp; done) | (simp; omega)) _))) | exact hs1⟩
  have HNeed := Lib.hid (decide_eq_true g1)
  by_cases g2 : n3 = 0
  rotate_left
  · obtain rfl := HF.out (fun h => g2 (h.2.2))
    clear HT HF
    have pr : ((n3 : Int) == 0) = false := by simp; omega
    go_enter Tryz.func26, Tryz.ntmps26
    go_wp2_with (first | (go_at_call 40; refine (c_isNode _ _).mono ?_; rintro e w' ⟨rfl, rfl⟩; rw [HNode.out]) | (go_at_call 41; refine (c_isNeed _ _).mono ?_; rintro e w' ⟨rfl, rfl⟩; rw [HNeed.out]))
    go_ret
    exact ⟨by first | rfl | (simp; done) | (simp; omega), by first | exact (by repeat (first | (with_reducible exact Below.refl _ _) | (with_reducible assumption) | (with_reducible refine bel_alloc ?_ _) | (with_reducible refine bel_drew ?_) | (with_reducible refine below_drewN ?_ _) | (with_reducible refine bel_put ?_ (by first | exact Nat.le_refl _ | (simp; done) | (simp; omega)) _))) | exact hs1⟩
  have pr : ((n3 : Int) == 0) = true := by simp; omega
  obtain rfl := HT.out ⟨g0, g1, g2⟩
  clear HT HF
  go_enter Tryz.func26, Tryz.ntmps26
  go_wp2_with (first | (go_at_call 40; refine (c_isNode _ _).mono ?_; rintro e w' ⟨rfl, rfl⟩; rw [HNode.out]) | (go_at_call 41; refine (c_isNeed _ _).mono ?_; rintro e w' ⟨rfl, rfl⟩; rw [HNeed.out]))
  go_ret
  exact ⟨by first | rfl | (simp; done) | (simp; omega), by first | exact (by repeat (first | (with_reducible exact Below.refl _ _) | (with_reducible assumption) | (with_reducible refine bel_alloc ?_ _) | (with_reducible refine bel_drew ?_) | (with_reducible refine below_drewN ?_ _) | (with_reducible refine bel_put ?_ (by first | exact Nat.le_refl _ | (simp; done) | (simp; omega)) _))) | exact hs1⟩
set_option maxHeartbeats 1000000 in
theorem i_hasNothing {w : World} {A3 A4 : Option Addr} {n3 c3 n4 c4 : Nat} {x0 x1 x2 : Int} {r : List Int} (hr : Ints .i64 w w.heap.size A3 n3 r) (hn3 : n3 ≤ 1048576) (hc3 : n3 ≤ c3) (hd3 : c3 ≤ 9223372036854775807) (b : Bool) (T : (x1 = 0) ∧ (x2 = 0) ∧ (n3 = 0) ∧ (n4 = 0) → b = true) (F : ¬ ((x1 = 0) ∧ (x2 = 0) ∧ (n3 = 0) ∧ (n4 = 0)) → b = false) :
    Calls Tryz.prog 24 #[.agg #[.int .i64 x0, .int .i64 x1, .int .i64 x2, .slice A3 n3 c3, .slice A4 n4 c4]] w fun e w' => e = .returned (.bool b) ∧ Below w.heap.size w w' := by
  have HT := Lib.hid T
  have HF := Lib.hid F
  clear T F
  by_cases g0 : x1 = 0
  · have pz : (x1 == 0) = true := by simp; omega
    go_enter Tryz.func24, Tryz.ntmps24
    go_wp2_with (first | (go_at_call 20; refine (i_hasOnlyAt (reach hr (by repeat (first | (with_reducible exact Below.refl _ _) | (with_reducible assumption) | (with_reducible refine bel_alloc ?_ _) | (with_reducible refine bel_drew ?_) | (with_reducible refine below_drewN ?_ _) | (with_reducible refine bel_put ?_ (by first | exact Nat.le_refl _ | (simp; done) | (simp; omega)) _)))) hn3 hc3 hd3 b (fun h => HT.out ⟨g0, h⟩) (fun h => HF.out (fun h2 => h h2.2))).mono ?_; rintro e w1 ⟨rfl, hb1⟩; have hs1 : Below w.heap.size w w1 := bel_trans (by repeat (first | (with_reducible exact Below.refl _ _) | (with_reducible assumption) | (with_reducible refine bel_alloc ?_ _) | (with_reducible refine bel_drew ?_) | (with_reducible refine below_drewN ?_ _) | (with_reducible refine bel_put ?_ (by first | exact Nat.le_refl _ | (simp; done) | (simp; omega)) _))) hb1))
    go_ret
    exact ⟨by first | rfl | (simp; done), hs1⟩
  · obtain rfl := HF.out (fun h => g0 h.1)
    clear HT HF
    have pz : (x1 == 0) = false := by simp; omega
    go_enter Tryz.func24, Tryz.ntmps24
    go_wp2
    go_ret
    exact ⟨by first | rfl | (simp; done) | (simp; omega), (by repeat (first | (with_reducible exact Below.refl _ _) | (with_reducible assumption) | (with_reducible refine bel_alloc ?_ _) | (with_reducible refine bel_drew ?_) | (with_reducible refine below_drewN ?_ _) | (with_reducible refine bel_put ?_ (by first | exact Nat.le_refl _ | (simp; done) | (simp; omega)) _)))⟩
set_option maxHeartbeats 1000000 in
theorem i_hasOnlyNode {w : World} {A3 A4 : Option Addr} {n3 c3 n4 c4 : Nat} {x0 x1 x2 : Int} {r : List Int} (hr : Ints .i64 w w.heap.size A3 n3 r) (hn3 : n3 ≤ 1048576) (hc3 : n3 ≤ c3) (hd3 : c3 ≤ 9223372036854775807) (b : Bool) (T : (0 ≤ x1 ∧ x1 ≤ 7) ∧ (x2 = 0) ∧ (n3 = 0) ∧ (n4 = 0) → b = true) (F : ¬ ((0 ≤ x1 ∧ x1 ≤ 7) ∧ (x2 = 0) ∧ (n3 = 0) ∧ (n4 = 0)) → b = false) :
    Calls Tryz.prog 30 #[.agg #[.int .i64 x0, .int .i64 x1, .int .i64 x2, .slice A3 n3 c3, .slice A4 n4 c4]] w fun e w' => e = .returned (.bool b) ∧ Below w.heap.size w w' := by
  have HT := Lib.hid T
  have HF := Lib.hid F
  clear T F
  by_cases g0 : 0 ≤ x1 ∧ x1 ≤ 7
  · have HNode := Lib.hid (decide_eq_true g0)
    go_enter Tryz.func30, Tryz.ntmps30
    go_wp2_with (first | (go_at_call 40; refine (c_isNode _ _).mono ?_; rintro e w' ⟨rfl, rfl⟩; rw [HNode.out]) | (go_at_call 20; refine (i_hasOnlyAt (reach hr (by repeat (first | (with_reducible exact Below.refl _ _) | (with_reducible assumption) | (with_reducible refine bel_alloc ?_ _) | (with_reducible refine bel_drew ?_) | (with_reducible refine below_drewN ?_ _) | (with_reducible refine bel_put ?_ (by first | exact Nat.le_refl _ | (simp; done) | (simp; omega)) _)))) hn3 hc3 hd3 b (fun h => HT.out ⟨g0, h⟩) (fun h => HF.out (fun h2 => h h2.2))).mono ?_; rintro e w1 ⟨rfl, hb1⟩; have hs1 : Below w.heap.size w w1 := bel_trans (by repeat (first | (with_reducible exact Below.refl _ _) | (with_reducible assumption) | (with_reducible refine bel_alloc ?_ _) | (with_reducible refine bel_drew ?_) | (with_reducible refine below_drewN ?_ _) | (with_reducible refine bel_put ?_ (by first | exact Nat.le_refl _ | (simp; done) | (simp; omega)) _))) hb1))
    go_ret
    exact ⟨by first | rfl | (simp; done), hs1⟩
  · obtain rfl := HF.out (fun h => g0 h.1)
    clear HT HF
    have HNode := Lib.hid (decide_eq_false g0)
    go_enter Tryz.func30, Tryz.ntmps30
    go_wp2_with (go_at_call 40; refine (c_isNode _ _).mono ?_; rintro e w' ⟨rfl, rfl⟩; rw [HNode.out])
    go_ret
    exact ⟨by first | rfl | (simp; done) | (simp; omega), (by repeat (first | (with_reducible exact Below.refl _ _) | (with_reducible assumption) | (with_reducible refine bel_alloc ?_ _) | (with_reducible refine bel_drew ?_) | (with_reducible refine below_drewN ?_ _) | (with_reducible refine bel_put ?_ (by first | exact Nat.le_refl _ | (simp; done) | (simp; omega)) _)))⟩
theorem i_CellOkB (A : Option Addr) (n c : Nat) (w : World) : Calls Tryz.prog 43 #[.agg #[.slice A n c]] w fun e w' => e = .returned (.bool (decide (n = 80))) ∧ Below w.heap.size w w' := by
  by_cases h : n = 80
  · rw [decide_eq_true h]; exact i_CellOk_t _ _ _ _ h
  · rw [decide_eq_false h]; exact i_CellOk_f _ _ _ _ h
set_option maxHeartbeats 1000000 in
theorem i_fitsForge {w : World} {A3 A4 : Option Addr} {n3 c3 n4 c4 : Nat} {x0 x1 x2 : Int} {r : List Int} (hr : Ints .i64 w w.heap.size A3 n3 r) (hn3 : n3 ≤ 1048576) (hc3 : n3 ≤ c3) (hd3 : c3 ≤ 9223372036854775807) (b : Bool) (T : (0 ≤ x1 ∧ x1 ≤ 7) ∧ (x2 = 0) ∧ (n3 = 0) ∧ (n4 = 80) → b = true) (F : ¬ ((0 ≤ x1 ∧ x1 ≤ 7) ∧ (x2 = 0) ∧ (n3 = 0) ∧ (n4 = 80)) → b = false) :
    Calls Tryz.prog 28 #[.agg #[.int .i64 x0, .int .i64 x1, .int .i64 x2, .slice A3 n3 c3, .slice A4 n4 c4]] w fun e w' => e = .returned (.bool b) ∧ Below w.heap.size w w' := by
  have HT := Lib.hid T
  have HF := Lib.hid F
  clear T F
  by_cases g0 : 0 ≤ x1 ∧ x1 ≤ 7
  rotate_left
  · obtain rfl := HF.out (fun h => g0 (h.1))
    clear HT HF
    have HNode := Lib.hid (decide_eq_false g0)
    go_enter Tryz.func28, Tryz.ntmps28
    go_wp2_with (first | (go_at_call 40; refine (c_isNode _ _).mono ?_; rintro e w' ⟨rfl, rfl⟩; rw [HNode.out]) | (go_at_call 43; refine (i_CellOkB _ _ _ _).mono ?_; rintro e w1 ⟨rfl, hb1⟩; rw [HCell.out]; have hs1 : Below w.heap.size w w1 := bel_trans (by repeat (first | (with_reducible exact Below.refl _ _) | (with_reducible assumption) | (with_reducible refine bel_alloc ?_ _) | (with_reducible refine bel_drew ?_) | (with_reducible refine below_drewN ?_ _) | (with_reducible refine bel_put ?_ (by first | exact Nat.le_refl _ | (simp; done) | (simp; omega)) _))) hb1))
    go_ret
    exact ⟨by first | rfl | (simp; done) | (simp; omega), by first | exact (by repeat (first | (with_reducible exact Below.refl _ _) | (with_reducible assumption) | (with_reducible refine bel_alloc ?_ _) | (with_reducible refine bel_drew ?_) | (with_reducible refine below_drewN ?_ _) | (with_reducible refine bel_put ?_ (by first | exact Nat.le_refl _ | (simp; done) | (simp; omega)) _))) | exact hs1⟩
  have HNode := Lib.hid (decide_eq_true g0)
  by_cases g1 : x2 = 0
  rotate_left
  · obtain rfl := HF.out (fun h => g1 (h.2.1))
    clear HT HF
    have pn : (x2 == 0) = false := by simp; omega
    have pn2 : (x2 != 0) = true := by simp; omega
    go_enter Tryz.func28, Tryz.ntmps28
    go_wp2_with (first | (go_at_call 40; refine (c_isNode _ _).mono ?_; rintro e w' ⟨rfl, rfl⟩; rw [HNode.out]) | (go_at_call 43; refine (i_CellOkB _ _ _ _).mono ?_; rintro e w1 ⟨rfl, hb1⟩; rw [HCell.out]; have hs1 : Below w.heap.size w w1 := bel_trans (by repeat (first | (with_reducible exact Below.refl _ _) | (with_reducible assumption) | (with_reducible refine bel_alloc ?_ _) | (with_reducible refine bel_drew ?_) | (with_reducible refine below_drewN ?_ _) | (with_reducible refine bel_put ?_ (by first | exact Nat.le_refl _ | (simp; done) | (simp; omega)) _))) hb1))
    go_ret
    exact ⟨by first | rfl | (simp; done) | (simp; omega), by first | exact (by repeat (first | (with_reducible exact Below.refl _ _) | (with_reducible assumption) | (with_reducible refine bel_alloc ?_ _) | (with_reducible refine bel_drew ?_) | (with_reducible refine below_drewN ?_ _) | (with_reducible refine bel_put ?_ (by first | exact Nat.le_refl _ | (simp; done) | (simp; omega)) _))) | exact hs1⟩
  have pn : (x2 == 0) = true := by simp; omega
  have pn2 : (x2 != 0) = false := by simp; omega
  by_cases g2 : n3 = 0
  rotate_left
  · obtain rfl := HF.out (fun h => g2 (h.2.2.1))
    clear HT HF
    have pr : ((n3 : Int) == 0) = false := by simp; omega
    go_enter Tryz.func28, Tryz.ntmps28
    go_wp2_with (first | (go_at_call 40; refine (c_isNode _ _).mono ?_; rintro e w' ⟨rfl, rfl⟩; rw [HNode.out]) | (go_at_call 43; refine (i_CellOkB _ _ _ _).mono ?_; rintro e w1 ⟨rfl, hb1⟩; rw [HCell.out]; have hs1 : Below w.heap.size w w1 := bel_trans (by repeat (first | (with_reducible exact Below.refl _ _) | (with_reducible assumption) | (with_reducible refine bel_alloc ?_ _) | (with_reducible refine bel_drew ?_) | (with_reducible refine below_drewN ?_ _) | (with_reducible refine bel_put ?_ (by first | exact Nat.le_refl _ | (simp; done) | (simp; omega)) _))) hb1))
    go_ret
    exact ⟨by first | rfl | (simp; done) | (simp; omega), by first | exact (by repeat (first | (with_reducible exact Below.refl _ _) | (with_reducible assumption) | (with_reducible refine bel_alloc ?_ _) | (with_reducible refine bel_drew ?_) | (with_reducible refine below_drewN ?_ _) | (with_reducible refine bel_put ?_ (by first | exact Nat.le_refl _ | (simp; done) | (simp; omega)) _))) | exact hs1⟩
  have pr : ((n3 : Int) == 0) = true := by simp; omega
  by_cases g3 : n4 = 80
  rotate_left
  · obtain rfl := HF.out (fun h => g3 (h.2.2.2))
    clear HT HF
    have HCell := Lib.hid (decide_eq_false g3)
    go_enter Tryz.func28, Tryz.ntmps28
    go_wp2_with (first | (go_at_call 40; refine (c_isNode _ _).mono ?_; rintro e w' ⟨rfl, rfl⟩; rw [HNode.out]) | (go_at_call 43; refine (i_CellOkB _ _ _ _).mono ?_; rintro e w1 ⟨rfl, hb1⟩; rw [HCell.out]; have hs1 : Below w.heap.size w w1 := bel_trans (by repeat (first | (with_reducible exact Below.refl _ _) | (with_reducible assumption) | (with_reducible refine bel_alloc ?_ _) | (with_reducible refine bel_drew ?_) | (with_reducible refine below_drewN ?_ _) | (with_reducible refine bel_put ?_ (by first | exact Nat.le_refl _ | (simp; done) | (simp; omega)) _))) hb1))
    go_ret
    exact ⟨by first | rfl | (simp; done) | (simp; omega), by first | exact (by repeat (first | (with_reducible exact Below.refl _ _) | (with_reducible assumption) | (with_reducible refine bel_alloc ?_ _) | (with_reducible refine bel_drew ?_) | (with_reducible refine below_drewN ?_ _) | (with_reducible refine bel_put ?_ (by first | exact Nat.le_refl _ | (simp; done) | (simp; omega)) _))) | exact hs1⟩
  have HCell := Lib.hid (decide_eq_true g3)
  obtain rfl := HT.out ⟨g0, g1, g2, g3⟩
  clear HT HF
  clear g3
  go_enter Tryz.func28, Tryz.ntmps28
  go_wp2_with (first | (go_at_call 40; refine (c_isNode _ _).mono ?_; rintro e w' ⟨rfl, rfl⟩; rw [HNode.out]) | (go_at_call 43; refine (i_CellOkB _ _ _ _).mono ?_; rintro e w1 ⟨rfl, hb1⟩; rw [HCell.out]; have hs1 : Below w.heap.size w w1 := bel_trans (by repeat (first | (with_reducible exact Below.refl _ _) | (with_reducible assumption) | (with_reducible refine bel_alloc ?_ _) | (with_reducible refine bel_drew ?_) | (with_reducible refine below_drewN ?_ _) | (with_reducible refine bel_put ?_ (by first | exact Nat.le_refl _ | (simp; done) | (simp; omega)) _))) hb1))
  go_ret
  exact ⟨by first | rfl | (simp; done) | (simp; omega), by first | exact (by repeat (first | (with_reducible exact Below.refl _ _) | (with_reducible assumption) | (with_reducible refine bel_alloc ?_ _) | (with_reducible refine bel_drew ?_) | (with_reducible refine below_drewN ?_ _) | (with_reducible refine bel_put ?_ (by first | exact Nat.le_refl _ | (simp; done) | (simp; omega)) _))) | exact hs1⟩
end Go.Proofs.YtcljjdmfnniobaaGreat
