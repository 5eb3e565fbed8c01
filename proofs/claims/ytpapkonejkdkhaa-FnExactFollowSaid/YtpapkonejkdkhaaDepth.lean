/-
  Reach where nothing can be followed; Depth of both sides over whatever contract Reach has.
-/
import Derived.Test.YtpapkonejkdkhaaCan
namespace Go.Proofs.Ytpapkonejkdkhaa
open Go.ChangeShapes Go.WideShapes Go.ChangeAt Go.RowKit
open Fld
set_option maxRecDepth 100000

/-- Reach's contract, of either side. -/
def ReachC (f : FuncId) : Prop := ∀ {w : World} {n c m d : Nat} {A A' : Option Addr} {l cl : List Int} (a : Int), Ints .i64 w w.heap.size A n l → n ≤ 17592186043904 → Ints .u8 w w.heap.size A' m cl → m ≤ d → d ≤ 9223372036854775807 → (Lit.int .i64 a).wf = true →
  Calls Try.prog f #[.slice A n c, .int .i64 a, .agg #[.slice A' m d]] w fun e w' => ∃ v, e = .returned v ∧ Own .i64 3 w' w.heap.size v (freach l a cl) ∧ Below w.heap.size w w'
theorem i_Reach_f {w : World} {n c m d : Nat} {A A' : Option Addr} {l cl : List Int} (a : Int) (hl : Ints .i64 w w.heap.size A n l) (hn : n ≤ 17592186043904) (hc : Ints .u8 w w.heap.size A' m cl) (hf : ¬ CanF l cl) :
    Calls Try.prog 27 #[.slice A n c, .int .i64 a, .agg #[.slice A' m d]] w fun e w' => e = .returned (.slice none 0 0) ∧ Below w.heap.size w w' := by
  have HF := Lib.hid (decide_eq_false hf)
  clear hf
  go_enter Try.func27, Try.ntmps27
  go_wp2_with (go_at_call 63; refine (i_canFollow (reach hl (by repeat (first | (with_reducible exact Below.refl _ _) | (with_reducible assumption) | (with_reducible refine bel_alloc ?_ _) | (with_reducible refine bel_drew ?_) | (with_reducible refine below_drewN ?_ _) | (with_reducible refine bel_put ?_ (by first | exact Nat.le_refl _ | (simp; done) | (simp; omega)) _)))) hn (reach hc (by repeat (first | (with_reducible exact Below.refl _ _) | (with_reducible assumption) | (with_reducible refine bel_alloc ?_ _) | (with_reducible refine bel_drew ?_) | (with_reducible refine below_drewN ?_ _) | (with_reducible refine bel_put ?_ (by first | exact Nat.le_refl _ | (simp; done) | (simp; omega)) _))))).mono ?_; rintro e w1 ⟨rfl, hB1⟩; rw [HF.out])
  go_ret
  exact ⟨rfl, bel_trans (a := w) (by repeat (first | (with_reducible exact Below.refl _ _) | (with_reducible assumption) | (with_reducible refine bel_alloc ?_ _) | (with_reducible refine bel_drew ?_) | (with_reducible refine below_drewN ?_ _) | (with_reducible refine bel_put ?_ (by first | exact Nat.le_refl _ | (simp; done) | (simp; omega)) _))) hB1⟩
theorem i_Depth (hR : ReachC 27) {w : World} {n c m d : Nat} {A A' : Option Addr} {l cl : List Int} (hl : Ints .i64 w w.heap.size A n l) (hn : n ≤ 17592186043904) (hc : Ints .u8 w w.heap.size A' m cl) (hmd : m ≤ d) (hd : d ≤ 9223372036854775807) :
    Calls Try.prog 24 #[.slice A n c, .agg #[.slice A' m d]] w fun e w' => e = .returned (.int .i64 (fdepth l cl)) ∧ Below w.heap.size w w' := by
  have hle := fcan_le l cl
  go_enter Try.func24, Try.ntmps24
  go_wp2_with fail
  refine (i_CanPeel (reach hl (by repeat (first | (with_reducible exact Below.refl _ _) | (with_reducible assumption) | (with_reducible refine bel_alloc ?_ _) | (with_reducible refine bel_drew ?_) | (with_reducible refine below_drewN ?_ _) | (with_reducible refine bel_put ?_ (by first | exact Nat.le_refl _ | (simp; done) | (simp; omega)) _)))) hn (reach hc (by repeat (first | (with_reducible exact Below.refl _ _) | (with_reducible assumption) | (with_reducible refine bel_alloc ?_ _) | (with_reducible refine bel_drew ?_) | (with_reducible refine below_drewN ?_ _) | (with_reducible refine bel_put ?_ (by first | exact Nat.le_refl _ | (simp; done) | (simp; omega)) _)))) hmd hd).mono ?_
  rintro e w1 ⟨v, rfl, hO, hB1⟩
  have bx : Box w1 w.heap.size 26 #[.slice A' m d] := (Box.new w _ _).below hB1 (by simp)
  have hBw : Below w.heap.size w w1 := bel_trans (a := w) (by repeat (first | (with_reducible exact Below.refl _ _) | (with_reducible assumption) | (with_reducible refine bel_alloc ?_ _) | (with_reducible refine bel_drew ?_) | (with_reducible refine below_drewN ?_ _) | (with_reducible refine bel_put ?_ (by first | exact Nat.le_refl _ | (simp; done) | (simp; omega)) _))) hB1
  rcases Nat.eq_zero_or_pos (fcan l cl).length with h0 | hp
  · have HD := Lib.hid (fdepth_nil (List.eq_nil_of_length_eq_zero h0))
    obtain ⟨A1, c1, rfl, _⟩ := hO.shape
    rw [h0]
    go_wp2
    go_ret
    exact ⟨ret_i64 HD.out.symm, hBw⟩
  · have HD := Lib.hid (fdepth_cons hp)
    have hfl := freach_le l ((fcan l cl).getD 0 0) cl
    obtain ⟨g, c1, rfl, _, _, _, _, hcc, _⟩ := hO.row hp
    have h1 := hcc 0 hp
    have hw := wf_getD hO.2 hp
    have cx : w1.cell? ⟨w.heap.size, 0, none⟩ = some (.slice A' m d) := bx.cell 0
    obtain ⟨y, hy⟩ : ∃ y, (fcan l cl).getD 0 0 = y := ⟨_, rfl⟩
    obtain ⟨N, hN⟩ : ∃ N, (fcan l cl).length = N := ⟨_, rfl⟩
    rw [hy] at h1 hw hfl HD
    rw [hN] at hp hle ⊢
    clear hcc hy hN hO bx
    go_wp2_with fail
    go_region_held3 (fun w' => w'.cell? ⟨w.heap.size, 0, none⟩ = some (.slice A' m d) ∧ w'.cell? ⟨g, 0, none⟩ = some (.int .i64 y)) (first | (exact ⟨cx, h1⟩) | (exact ⟨cell_bel hs2 cx, cell_bel hs2 h1⟩) | go_keep) ((go_at_call 27; refine (hR y (reach (reach hl hBw) (by repeat (first | (with_reducible exact Below.refl _ _) | (with_reducible assumption) | (with_reducible refine bel_alloc ?_ _) | (with_reducible refine bel_drew ?_) | (with_reducible refine below_drewN ?_ _) | (with_reducible refine bel_put ?_ (by first | exact Nat.le_refl _ | (simp; done) | (simp; omega)) _)))) hn (reach (reach hc hBw) (by repeat (first | (with_reducible exact Below.refl _ _) | (with_reducible assumption) | (with_reducible refine bel_alloc ?_ _) | (with_reducible refine bel_drew ?_) | (with_reducible refine below_drewN ?_ _) | (with_reducible refine bel_put ?_ (by first | exact Nat.le_refl _ | (simp; done) | (simp; omega)) _)))) hmd hd hw).mono ?_; rintro e w2 ⟨v2, rfl, hO2, hB2⟩; obtain ⟨A2, c2, rfl, _⟩ := hO2.shape; have hs2 : Below w1.heap.size w1 w2 := bel_trans (by repeat (first | (with_reducible exact Below.refl _ _) | (with_reducible assumption) | (with_reducible refine bel_alloc ?_ _) | (with_reducible refine bel_drew ?_) | (with_reducible refine below_drewN ?_ _) | (with_reducible refine bel_put ?_ (by first | exact Nat.le_refl _ | (simp; done) | (simp; omega)) _))) hB2))
    go_wp2
    go_ret
    exact ⟨ret_i64 HD.out.symm, hBw.trans (hs2.mono hBw.size)⟩
theorem s_Depth (hR : ReachC 26) {w : World} {n c m d : Nat} {A A' : Option Addr} {l cl : List Int} (hl : Ints .i64 w w.heap.size A n l) (hn : n ≤ 17592186043904) (hc : Ints .u8 w w.heap.size A' m cl) (hmd : m ≤ d) (hd : d ≤ 9223372036854775807) :
    Calls Try.prog 22 #[.slice A n c, .agg #[.slice A' m d]] w fun e w' => e = .returned (.int .i64 (fdepth l cl)) ∧ Below w.heap.size w w' := by
  have hle := fcan_le l cl
  go_enter Try.func22, Try.ntmps22
  go_wp2_with fail
  refine (s_CanPeel (reach hl (by repeat (first | (with_reducible exact Below.refl _ _) | (with_reducible assumption) | (with_reducible refine bel_alloc ?_ _) | (with_reducible refine bel_drew ?_) | (with_reducible refine below_drewN ?_ _) | (with_reducible refine bel_put ?_ (by first | exact Nat.le_refl _ | (simp; done) | (simp; omega)) _)))) hn (reach hc (by repeat (first | (with_reducible exact Below.refl _ _) | (with_reducible assumption) | (with_reducible refine bel_alloc ?_ _) | (with_reducible refine bel_drew ?_) | (with_reducible refine below_drewN ?_ _) | (with_reducible refine bel_put ?_ (by first | exact Nat.le_refl _ | (simp; done) | (simp; omega)) _)))) hmd hd).mono ?_
  rintro e w1 ⟨v, rfl, hO, hB1⟩
  have bx : Box w1 w.heap.size 26 #[.slice A' m d] := (Box.new w _ _).below hB1 (by simp)
  have hBw : Below w.heap.size w w1 := bel_trans (a := w) (by repeat (first | (with_reducible exact Below.refl _ _) | (with_reducible assumption) | (with_reducible refine bel_alloc ?_ _) | (with_reducible refine bel_drew ?_) | (with_reducible refine below_drewN ?_ _) | (with_reducible refine bel_put ?_ (by first | exact Nat.le_refl _ | (simp; done) | (simp; omega)) _))) hB1
  rcases Nat.eq_zero_or_pos (fcan l cl).length with h0 | hp
  · have HD := Lib.hid (fdepth_nil (List.eq_nil_of_length_eq_zero h0))
    obtain ⟨A1, c1, rfl, _⟩ := hO.shape
    rw [h0]
    go_wp2
    go_ret
    exact ⟨ret_i64 HD.out.symm, hBw⟩
  · have HD := Lib.hid (fdepth_cons hp)
    have hfl := freach_le l ((fcan l cl).getD 0 0) cl
    obtain ⟨g, c1, rfl, _, _, _, _, hcc, _⟩ := hO.row hp
    have h1 := hcc 0 hp
    have hw := wf_getD hO.2 hp
    have cx : w1.cell? ⟨w.heap.size, 0, none⟩ = some (.slice A' m d) := bx.cell 0
    obtain ⟨y, hy⟩ : ∃ y, (fcan l cl).getD 0 0 = y := ⟨_, rfl⟩
    obtain ⟨N, hN⟩ : ∃ N, (fcan l cl).length = N := ⟨_, rfl⟩
    rw [hy] at h1 hw hfl HD
    rw [hN] at hp hle ⊢
    clear hcc hy hN hO bx
    go_wp2_with fail
    go_region_held3 (fun w' => w'.cell? ⟨w.heap.size, 0, none⟩ = some (.slice A' m d) ∧ w'.cell? ⟨g, 0, none⟩ = some (.int .i64 y)) (first | (exact ⟨cx, h1⟩) | (exact ⟨cell_bel hs2 cx, cell_bel hs2 h1⟩) | go_keep) ((go_at_call 26; refine (hR y (reach (reach hl hBw) (by repeat (first | (with_reducible exact Below.refl _ _) | (with_reducible assumption) | (with_reducible refine bel_alloc ?_ _) | (with_reducible refine bel_drew ?_) | (with_reducible refine below_drewN ?_ _) | (with_reducible refine bel_put ?_ (by first | exact Nat.le_refl _ | (simp; done) | (simp; omega)) _)))) hn (reach (reach hc hBw) (by repeat (first | (with_reducible exact Below.refl _ _) | (with_reducible assumption) | (with_reducible refine bel_alloc ?_ _) | (with_reducible refine bel_drew ?_) | (with_reducible refine below_drewN ?_ _) | (with_reducible refine bel_put ?_ (by first | exact Nat.le_refl _ | (simp; done) | (simp; omega)) _)))) hmd hd hw).mono ?_; rintro e w2 ⟨v2, rfl, hO2, hB2⟩; obtain ⟨A2, c2, rfl, _⟩ := hO2.shape; have hs2 : Below w1.heap.size w1 w2 := bel_trans (by repeat (first | (with_reducible exact Below.refl _ _) | (with_reducible assumption) | (with_reducible refine bel_alloc ?_ _) | (with_reducible refine bel_drew ?_) | (with_reducible refine below_drewN ?_ _) | (with_reducible refine bel_put ?_ (by first | exact Nat.le_refl _ | (simp; done) | (simp; omega)) _))) hB2))
    go_wp2
    go_ret
    exact ⟨ret_i64 HD.out.symm, hBw.trans (hs2.mono hBw.size)⟩
end Go.Proofs.Ytpapkonejkdkhaa
