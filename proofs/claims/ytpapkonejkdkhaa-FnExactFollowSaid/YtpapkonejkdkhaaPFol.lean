/-
  Following a route: contracts of both sides for the law.
-/
import Derived.Test.YtpapkonejkdkhaaFol1
import Derived.Test.YtpapkonejkdkhaaFol2
import Derived.Test.YtpapkonejkdkhaaFolS
import Derived.Test.YtpapkonejkdkhaaMk
namespace Go.Proofs.Ytpapkonejkdkhaa
set_option maxRecDepth 100000
set_option linter.unusedVariables false
set_option linter.unusedSimpArgs false
open Go.ChangeShapes Go.WideShapes Go.ChangeAt Go.RowKit
open Fld
attribute [local go_sem ↓] Go.wp_at_zero Go.wp_at_succ
theorem i_Follow_f {w : World} {n c n2 c2 m d : Nat} {A A2 A' : Option Addr} {l R cl : List Int} (hl : Ints .i64 w w.heap.size A n l) (hn : n ≤ 17592186043904) (hR : Ints .i64 w w.heap.size A2 n2 R) (hn2 : n2 ≤ 17592186043904) (hnc : n2 ≤ c2) (hcm : c2 ≤ 9223372036854775807) (hc : Ints .u8 w w.heap.size A' m cl) (hf : ¬ FolOk l R cl) :
    Calls Try.prog 31 #[.slice A n c, .slice A2 n2 c2, .agg #[.slice A' m d]] w fun e w' => e = .returned (.tuple #[.slice none 0 0, .bool false]) ∧ Below w.heap.size w w' := by
  by_cases hr : Route R
  · have HR := Lib.hid (show decide (Route R) = true from decide_eq_true hr)
    have HF := Lib.hid (show decide (CanF l cl) = false from decide_eq_false fun h => hf ⟨hr, h⟩)
    clear hf hr
    go_enter Try.func31, Try.ntmps31
    go_wp2_with (first
      | (go_at_call 67; refine (i_RouteOk (reach hR (by repeat (first | (with_reducible exact Below.refl _ _) | (with_reducible assumption) | (with_reducible refine bel_alloc ?_ _) | (with_reducible refine bel_drew ?_) | (with_reducible refine below_drewN ?_ _) | (with_reducible refine bel_put ?_ (by first | exact Nat.le_refl _ | (simp; done) | (simp; omega)) _)))) hn2 hnc hcm).mono ?_; rintro e w1 ⟨rfl, hb1⟩; rw [HR.out]; have hs1 : Below w.heap.size w w1 := bel_trans (by repeat (first | (with_reducible exact Below.refl _ _) | (with_reducible assumption) | (with_reducible refine bel_alloc ?_ _) | (with_reducible refine bel_drew ?_) | (with_reducible refine below_drewN ?_ _) | (with_reducible refine bel_put ?_ (by first | exact Nat.le_refl _ | (simp; done) | (simp; omega)) _))) hb1; have bx1 : Box w1 w.heap.size 26 #[.slice A' m d] := (Box.new w _ _).below hb1 (by simp); have k1 := bx1.cell 0)
      | (go_at_call 63; refine (i_canFollow (reach hl hs1) hn (reach hc hs1)).mono ?_; rintro e w2 ⟨rfl, hb2'⟩; rw [HF.out]; have hs2 : Below w.heap.size w w2 := bel_trans hs1 hb2'))
    refine bodyPost_ret (v := .tuple #[.slice none 0 0, .bool false]) (by simp [results, Try.results31, go_sem]) rfl ?_
    exact ⟨rfl, hs2⟩
  · have HR := Lib.hid (show decide (Route R) = false from decide_eq_false hr)
    clear hf hr
    go_enter Try.func31, Try.ntmps31
    go_wp2_with (go_at_call 67; refine (i_RouteOk (reach hR (by repeat (first | (with_reducible exact Below.refl _ _) | (with_reducible assumption) | (with_reducible refine bel_alloc ?_ _) | (with_reducible refine bel_drew ?_) | (with_reducible refine below_drewN ?_ _) | (with_reducible refine bel_put ?_ (by first | exact Nat.le_refl _ | (simp; done) | (simp; omega)) _)))) hn2 hnc hcm).mono ?_; rintro e w1 ⟨rfl, hb1⟩; rw [HR.out]; have hs1 : Below w.heap.size w w1 := bel_trans (by repeat (first | (with_reducible exact Below.refl _ _) | (with_reducible assumption) | (with_reducible refine bel_alloc ?_ _) | (with_reducible refine bel_drew ?_) | (with_reducible refine below_drewN ?_ _) | (with_reducible refine bel_put ?_ (by first | exact Nat.le_refl _ | (simp; done) | (simp; omega)) _))) hb1)
    refine bodyPost_ret (v := .tuple #[.slice none 0 0, .bool false]) (by simp [results, Try.results31, go_sem]) rfl ?_
    exact ⟨rfl, hs1⟩
theorem i_FollowR {w : World} {A A2 : Option Addr} {n c n2 c2 : Nat} {l R : List Int} {cc : List Value} {p : DCell} (h1 : tIs.R w w.heap.size [.slice A n c] l) (hz1 : l.length ≤ 1048576) (h2 : tIs.R w w.heap.size [.slice A2 n2 c2] R) (hz2 : R.length ≤ 1048576) (h3 : tCell.R w w.heap.size cc p) (hz3 : szCell p ≤ 1048576) :
    Calls Try.prog 31 #[.slice A n c, .slice A2 n2 c2, .agg cc.toArray] w fun e w' => ∃ A' c' F, e = .returned (.tuple #[.slice A' ((ffol l R p).1).length c', .bool (ffol l R p).2]) ∧ tBy.O w' [.slice A' ((ffol l R p).1).length c'] (ffol l R p).1 F ∧ New w.heap.size F ∧ Below w.heap.size w w' := by
  obtain ⟨A1, n1, c1, rfl, hc, hcm, hI⟩ := h3
  have hI1 := (slR_ints h1).1
  obtain ⟨hI2, hn2, hc2⟩ := slR_ints h2
  have e1 := hI1.1
  have e2 := hI2.1
  have main : Calls Try.prog 31 #[.slice A n c, .slice A2 n2 c2, .agg #[.slice A1 n1 c1]] w fun e w' => ∃ v, e = .returned (.tuple #[v, .bool (ffol l R p).2]) ∧ ReadsF w.heap.size w' v (ffol l R p).1 ∧ Below w.heap.size w w' := by
    by_cases hf : FolOk l R p
    · rw [ffol_t hf]
      by_cases hc1 : c2 = 1
      · exact i_Follow_1 hI1 hI2 hn2 hc2 hI hc hcm hf hc1
      · exact i_Follow_2 hI1 hI2 hn2 hc2 hI hc hcm hf hc1
    · rw [ffol_f hf]
      exact (i_Follow_f hI1 (by omega) hI2 (by omega) hn2 hc2 hI hf).mono fun e w' hh => ⟨_, hh.1, ReadsF.nil _ _, hh.2⟩
  refine main.mono ?_
  rintro e w' ⟨v, rfl, hV, hB⟩
  obtain ⟨A9, n9, c9, rfl, k1, k2, k3, k4, F, k5, k6⟩ := hV
  have e9 := k3.1
  rw [← e9] at k5 ⊢
  exact ⟨A9, c9, F, rfl, k5, k6, hB⟩
theorem s_Follow_f {w : World} {n c n2 c2 m d : Nat} {A A2 A' : Option Addr} {l R cl : List Int} (hl : Ints .i64 w w.heap.size A n l) (hn : n ≤ 17592186043904) (hR : Ints .i64 w w.heap.size A2 n2 R) (hn2 : n2 ≤ 17592186043904) (hc : Ints .u8 w w.heap.size A' m cl) (hf : ¬ FolOk l R cl) :
    Calls Try.prog 30 #[.slice A n c, .slice A2 n2 c2, .agg #[.slice A' m d]] w fun e w' => e = .returned (.tuple #[.slice none 0 0, .bool false]) ∧ Below w.heap.size w w' := by
  by_cases hr : Route R
  · have HR := Lib.hid (show decide (Route R) = true from decide_eq_true hr)
    by_cases h8 : n = 8
    · subst h8
      by_cases hS : Secs l
      · have HS := Lib.hid (show decide (Secs l) = true from decide_eq_true hS)
        have h80 : ¬ m = 80 := fun h => hf ⟨hr, by rw [hl.1], hS, by rw [hc.1]; exact h⟩
        clear hf hS hr
        go_enter Try.func30, Try.ntmps30
        go_wp2_with (first
          | (go_at_call 66; refine (s_RouteOk (reach hR (by repeat (first | (with_reducible exact Below.refl _ _) | (with_reducible assumption) | (with_reducible refine bel_alloc ?_ _) | (with_reducible refine bel_drew ?_) | (with_reducible refine below_drewN ?_ _) | (with_reducible refine bel_put ?_ (by first | exact Nat.le_refl _ | (simp; done) | (simp; omega)) _)))) hn2).mono ?_; rintro e w1 ⟨rfl, hb1⟩; rw [HR.out]; have hs1 : Below w.heap.size w w1 := bel_trans (by repeat (first | (with_reducible exact Below.refl _ _) | (with_reducible assumption) | (with_reducible refine bel_alloc ?_ _) | (with_reducible refine bel_drew ?_) | (with_reducible refine below_drewN ?_ _) | (with_reducible refine bel_put ?_ (by first | exact Nat.le_refl _ | (simp; done) | (simp; omega)) _))) hb1; have bx1 : Box w1 w.heap.size 26 #[.slice A' m d] := (Box.new w _ _).below hb1 (by simp); have k1 := bx1.cell 0)
          | (go_at_call 62; refine (s_secs (reach hl hs1) (by omega)).mono ?_; rintro e w' ⟨rfl, rfl⟩; rw [HS.out])
          | (go_at_call 49; refine (s_CellOk_f _ _ _ _ h80).mono ?_; rintro e w2 ⟨rfl, hb2'⟩; have hs2 : Below w.heap.size w w2 := bel_trans hs1 hb2'))
        refine bodyPost_ret (v := .tuple #[.slice none 0 0, .bool false]) (by simp [results, Try.results30, go_sem]) rfl ?_
        exact ⟨rfl, hs2⟩
      · have HS := Lib.hid (show decide (Secs l) = false from decide_eq_false hS)
        clear hf hS hr
        go_enter Try.func30, Try.ntmps30
        go_wp2_with (first
          | (go_at_call 66; refine (s_RouteOk (reach hR (by repeat (first | (with_reducible exact Below.refl _ _) | (with_reducible assumption) | (with_reducible refine bel_alloc ?_ _) | (with_reducible refine bel_drew ?_) | (with_reducible refine below_drewN ?_ _) | (with_reducible refine bel_put ?_ (by first | exact Nat.le_refl _ | (simp; done) | (simp; omega)) _)))) hn2).mono ?_; rintro e w1 ⟨rfl, hb1⟩; rw [HR.out]; have hs1 : Below w.heap.size w w1 := bel_trans (by repeat (first | (with_reducible exact Below.refl _ _) | (with_reducible assumption) | (with_reducible refine bel_alloc ?_ _) | (with_reducible refine bel_drew ?_) | (with_reducible refine below_drewN ?_ _) | (with_reducible refine bel_put ?_ (by first | exact Nat.le_refl _ | (simp; done) | (simp; omega)) _))) hb1)
          | (go_at_call 62; refine (s_secs (reach hl hs1) (by omega)).mono ?_; rintro e w' ⟨rfl, rfl⟩; rw [HS.out]))
        refine bodyPost_ret (v := .tuple #[.slice none 0 0, .bool false]) (by simp [results, Try.results30, go_sem]) rfl ?_
        exact ⟨rfl, hs1⟩
    · have q8 : ((n : Int) != 8) = true := by simp; omega
      clear hf hr h8
      go_enter Try.func30, Try.ntmps30
      go_wp2_with (go_at_call 66; refine (s_RouteOk (reach hR (by repeat (first | (with_reducible exact Below.refl _ _) | (with_reducible assumption) | (with_reducible refine bel_alloc ?_ _) | (with_reducible refine bel_drew ?_) | (with_reducible refine below_drewN ?_ _) | (with_reducible refine bel_put ?_ (by first | exact Nat.le_refl _ | (simp; done) | (simp; omega)) _)))) hn2).mono ?_; rintro e w1 ⟨rfl, hb1⟩; rw [HR.out]; have hs1 : Below w.heap.size w w1 := bel_trans (by repeat (first | (with_reducible exact Below.refl _ _) | (with_reducible assumption) | (with_reducible refine bel_alloc ?_ _) | (with_reducible refine bel_drew ?_) | (with_reducible refine below_drewN ?_ _) | (with_reducible refine bel_put ?_ (by first | exact Nat.le_refl _ | (simp; done) | (simp; omega)) _))) hb1)
      refine bodyPost_ret (v := .tuple #[.slice none 0 0, .bool false]) (by simp [results, Try.results30, go_sem]) rfl ?_
      exact ⟨rfl, hs1⟩
  · have HR := Lib.hid (show decide (Route R) = false from decide_eq_false hr)
    clear hf hr
    go_enter Try.func30, Try.ntmps30
    go_wp2_with (go_at_call 66; refine (s_RouteOk (reach hR (by repeat (first | (with_reducible exact Below.refl _ _) | (with_reducible assumption) | (with_reducible refine bel_alloc ?_ _) | (with_reducible refine bel_drew ?_) | (with_reducible refine below_drewN ?_ _) | (with_reducible refine bel_put ?_ (by first | exact Nat.le_refl _ | (simp; done) | (simp; omega)) _)))) hn2).mono ?_; rintro e w1 ⟨rfl, hb1⟩; rw [HR.out]; have hs1 : Below w.heap.size w w1 := bel_trans (by repeat (first | (with_reducible exact Below.refl _ _) | (with_reducible assumption) | (with_reducible refine bel_alloc ?_ _) | (with_reducible refine bel_drew ?_) | (with_reducible refine below_drewN ?_ _) | (with_reducible refine bel_put ?_ (by first | exact Nat.le_refl _ | (simp; done) | (simp; omega)) _))) hb1)
    refine bodyPost_ret (v := .tuple #[.slice none 0 0, .bool false]) (by simp [results, Try.results30, go_sem]) rfl ?_
    exact ⟨rfl, hs1⟩
theorem s_FollowR {w : World} {A A2 : Option Addr} {n c n2 c2 : Nat} {l R : List Int} {cc : List Value} {p : DCell} (h1 : tIs.R w w.heap.size [.slice A n c] l) (hz1 : l.length ≤ 1048576) (h2 : tIs.R w w.heap.size [.slice A2 n2 c2] R) (hz2 : R.length ≤ 1048576) (h3 : tCell.R w w.heap.size cc p) (hz3 : szCell p ≤ 1048576) :
    Calls Try.prog 30 #[.slice A n c, .slice A2 n2 c2, .agg cc.toArray] w fun e w' => ∃ A' c', e = .returned (.tuple #[.slice A' ((ffol l R p).1).length c', .bool (ffol l R p).2]) ∧ tBy.R w' w'.heap.size [.slice A' ((ffol l R p).1).length c'] (ffol l R p).1 ∧ Below w.heap.size w w' := by
  obtain ⟨A1, n1, c1, rfl, hc, hcm, hI⟩ := h3
  have hI1 := (slR_ints h1).1
  have hI2 := (slR_ints h2).1
  have e1 := hI1.1
  have e2 := hI2.1
  have main : Calls Try.prog 30 #[.slice A n c, .slice A2 n2 c2, .agg #[.slice A1 n1 c1]] w fun e w' => ∃ v, e = .returned (.tuple #[v, .bool (ffol l R p).2]) ∧ ReadsF w.heap.size w' v (ffol l R p).1 ∧ Below w.heap.size w w' := by
    by_cases hf : FolOk l R p
    · rw [ffol_t hf]
      exact s_Follow_t hI1 hI2 hI hc hcm hf
    · rw [ffol_f hf]
      exact (s_Follow_f hI1 (by omega) hI2 (by omega) hI hf).mono fun e w' hh => ⟨_, hh.1, ReadsF.nil _ _, hh.2⟩
  refine main.mono ?_
  rintro e w' ⟨v, rfl, hV, hB⟩
  obtain ⟨A9, n9, c9, rfl, k1, k2, k3, k4, F, k5, k6⟩ := hV
  have e9 := k3.1
  rw [← e9] at k5 ⊢
  exact ⟨A9, c9, rfl, tBy.read k5, hB⟩
end Go.Proofs.Ytpapkonejkdkhaa
