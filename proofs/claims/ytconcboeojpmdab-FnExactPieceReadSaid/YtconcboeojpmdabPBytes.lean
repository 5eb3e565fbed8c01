/-
  A fragment's bytes: contracts of PieceBytes, of both sides.
-/
import Derived.Test.YtconcboeojpmdabPPiece
namespace Go.Proofs.Ytconcboeojpmdab
set_option maxRecDepth 100000
set_option linter.unusedVariables false
set_option linter.unusedSimpArgs false
open Go.ChangeShapes Go.WideShapes Go.ChangeAt Go.RowKit
def fPB (p : DPiece) : List Int := if PcOk p then p.1 :: p.2.1 :: p.2.2.1 :: p.2.2.2 else []
theorem fPB_t {p : DPiece} (h : PcOk p) : fPB p = p.1 :: p.2.1 :: p.2.2.1 :: p.2.2.2 := if_pos h
theorem fPB_f {p : DPiece} (h : ¬ PcOk p) : fPB p = [] := if_neg h
theorem fPB_le (p : DPiece) : (fPB p).length ≤ 23 := by
  by_cases h : PcOk p
  · rw [fPB_t h]; have := h.2.2.2.2.2.1; simp only [List.length_cons]; omega
  · rw [fPB_f h]; simp
/-- Three cells that have just been laid. -/
theorem three_row (w : World) (t : TypeId) (u v x : Value) : (w.alloc (.cells #[u, v, x] t)).ownsRow w.heap.size t 1 (.slice (some ⟨w.heap.size, 0, none⟩) 3 3) 3 [u, v, x] :=
  ⟨rfl, .inr ⟨w.heap.size, 3, #[u, v, x], rfl, Nat.le_refl _, heap_alloc_new w _, Nat.le_refl _, by simp only [maxLen]; omega, rfl, rfl⟩⟩
theorem own_slice {K : IntKind} {e : TypeId} {w : World} {base : Nat} {v : Value} {l : List Int} (h : Own K e w base v l) : ∃ A c F, v = .slice A l.length c ∧ (tSl K).O w [.slice A l.length c] l F ∧ New base F := by
  obtain ⟨F, hF, hN⟩ := h.tSl
  obtain ⟨A, c, e1, _, _⟩ := slO_one hF
  injection e1 with e1 _
  subst e1
  exact ⟨A, c, F, rfl, hF, hN⟩
theorem nilR {K : IntKind} {w : World} {B : Nat} : (tSl K).R w B [.slice none 0 0] [] := ⟨none, 0, 0, rfl, Nat.le_refl _, by omega, Ints.nil⟩
theorem nilO {K : IntKind} {w : World} : (tSl K).O w [.slice none 0 0] [] [] := .inl ⟨none, 0, rfl, by omega, rfl, rfl⟩
set_option maxHeartbeats 400000 in
theorem s_l4bytes {w : World} {A3 : Option Addr} {n3 c3 : Nat} {x0 x1 x2 : Int} {l3 : List Int} (h0 : 0 ≤ x0 ∧ x0 ≤ 255) (h1 : 0 ≤ x1 ∧ x1 ≤ 255) (h2 : 0 ≤ x2 ∧ x2 ≤ 255) (hn : n3 ≤ 1048576) (hl : Ints .u8 w w.heap.size A3 n3 l3) :
    Calls Try.prog 58 #[.agg #[.int .i64 x0, .int .i64 x1, .int .i64 x2, .slice A3 n3 c3]] w fun e w' => ∃ v, e = .returned v ∧ Own .u8 5 w' w.heap.size v (x0 :: x1 :: x2 :: l3) ∧ Below w.heap.size w w' := by
  obtain ⟨i0, hi0, hz0, hz1, hz2⟩ := info_parts info_cb
  have HL := Lib.hid hl.1
  go_enter Try.func58, Try.ntmps58
  have hrow : ((w.alloc (.cells #[.int .i64 x0, .int .i64 x1, .int .i64 x2, .slice A3 n3 c3] 27)).alloc (.cells #[.int .u8 x0, .int .u8 x1, .int .u8 x2] 5)).ownsRow (w.heap.size + 1) 5 1 (.slice (some ⟨w.heap.size + 1, 0, none⟩) 3 3) 3 [.int .u8 x0, .int .u8 x1, .int .u8 x2] := by
    simpa using three_row (w.alloc (.cells #[.int .i64 x0, .int .i64 x1, .int .i64 x2, .slice A3 n3 c3] 27)) 5 (.int .u8 x0) (.int .u8 x1) (.int .u8 x2)
  have hsrc : Src ((w.alloc (.cells #[.int .i64 x0, .int .i64 x1, .int .i64 x2, .slice A3 n3 c3] 27)).alloc (.cells #[.int .u8 x0, .int .u8 x1, .int .u8 x2] 5)) 1 A3 n3 (l3.map (Value.int .u8)) := Src.of_ints (reach hl (by repeat (first | (with_reducible exact Below.refl _ _) | (with_reducible assumption) | (with_reducible refine bel_alloc ?_ _) | (with_reducible refine bel_drew ?_) | (with_reducible refine below_drewN ?_ _) | (with_reducible refine bel_put ?_ (by first | exact Nat.le_refl _ | (simp; done) | (simp; omega)) _))))
  go_wp2_with (at_builtin; refine wpList_app _ rfl (.tmp 12) (.tmp 14) _ rfl (w.heap.size + 1) 5 i0 _ 1 1 Try.underlying22 hi0 hz0 hz1 hz2 rfl (by omega) _ _ _ rfl hrow _ n3 c3 (l3.map (Value.int .u8)) rfl hsrc (one_ints _ _) (by simp only [maxLen]; omega) (by omega) (by simp; done) ?_; intro v1 w1 hown hgr hat)
  go_ret
  refine ⟨v1, rfl, Own.lower (base := w.heap.size + 1) (Own.of (n := 3 + n3) (by simpa using hown) ?_) (by omega), Below.grown (by repeat (first | (with_reducible exact Below.refl _ _) | (with_reducible assumption) | (with_reducible refine bel_alloc ?_ _) | (with_reducible refine bel_drew ?_) | (with_reducible refine below_drewN ?_ _) | (with_reducible refine bel_put ?_ (by first | exact Nat.le_refl _ | (simp; done) | (simp; omega)) _))) hgr (by simp; omega) fun b hb => ?_⟩
  · intro y hy
    simp only [List.mem_cons] at hy
    rcases hy with rfl | rfl | rfl | hy
    · exact WalkArith.wf_u8 h0
    · exact WalkArith.wf_u8 h1
    · exact WalkArith.wf_u8 h2
    · exact hl.2.2 y hy
  · have e := Option.some.inj (show some (w.heap.size + 1) = some b from hb)
    omega
theorem s_PieceBytes {w : World} {cs : List Value} {p : DPiece} (h : tPiece.R w w.heap.size cs p) (hz : szPiece p ≤ 1048576) :
    Calls Try.prog 19 #[.agg cs.toArray] w fun e w' => ∃ A c, e = .returned (.tuple #[.slice A (fPB p).length c, .bool (decide (PcOk p))]) ∧ tBy.R w' w'.heap.size [.slice A (fPB p).length c] (fPB p) ∧ Below w.heap.size w w' := by
  by_cases hp : PcOk p
  · have HP := Lib.hid (decide_eq_true hp)
    rw [HP.out]
    have HF := Lib.hid (fPB_t hp)
    obtain ⟨A3, n3, c3, rfl, hi0, hi1, hi2, ha3, hb3, hl3, hr3⟩ := openPiece h
    obtain ⟨q1, q2, q3, q4, q5, q6, _, _⟩ := hp
    have hi3 := (slR_ints hr3).1
    clear hl3
    go_enter Try.func19, Try.ntmps19
    go_wp2_with fail
    refine (s_PieceOk (tPiece.reach h ?hB) hz).mono ?_
    case hB => exact (by repeat (first | (with_reducible exact Below.refl _ _) | (with_reducible assumption) | (with_reducible refine bel_alloc ?_ _) | (with_reducible refine bel_drew ?_) | (with_reducible refine below_drewN ?_ _) | (with_reducible refine bel_put ?_ (by first | exact Nat.le_refl _ | (simp; done) | (simp; omega)) _)))
    rintro e w1 ⟨rfl, hb1⟩
    rw [HP.out]
    have B1 : Box w1 w.heap.size 27 #[.int .i64 p.1, .int .i64 p.2.1, .int .i64 p.2.2.1, .slice A3 n3 c3] := (Box.new _ _ _).below hb1 (by simp)
    have k0 := B1.cell 0; have k1 := B1.cell 1; have k2 := B1.cell 2; have k3 := B1.cell 3
    have hB1 : Below w.heap.size w w1 := bel_trans (by repeat (first | (with_reducible exact Below.refl _ _) | (with_reducible assumption) | (with_reducible refine bel_alloc ?_ _) | (with_reducible refine bel_drew ?_) | (with_reducible refine below_drewN ?_ _) | (with_reducible refine bel_put ?_ (by first | exact Nat.le_refl _ | (simp; done) | (simp; omega)) _))) hb1
    go_wp2_with fail
    refine (s_l4bytes ⟨q1, q2⟩ ⟨q4, by omega⟩ ⟨by omega, by omega⟩ (by have := hi3.1; unfold szPiece at hz; omega) (reach hi3 hB1)).mono ?_
    rintro e w2 ⟨v, rfl, hO, hb2⟩
    obtain ⟨A, c, F, rfl, hO2, _⟩ := own_slice hO
    rw [← HF.out] at hO2 ⊢
    go_wp2
    go_ret2
    exact ⟨A, c, rfl, tBy.read hO2, bel_trans hB1 hb2⟩
  · have HP := Lib.hid (decide_eq_false hp)
    rw [HP.out]
    obtain ⟨A3, n3, c3, rfl, hi0, hi1, hi2, ha3, hb3, hl3, hr3⟩ := openPiece h
    clear hl3
    rw [fPB_f hp]
    clear hp
    go_enter Try.func19, Try.ntmps19
    go_wp2_with fail
    refine (s_PieceOk (tPiece.reach h ?hB) hz).mono ?_
    case hB => exact (by repeat (first | (with_reducible exact Below.refl _ _) | (with_reducible assumption) | (with_reducible refine bel_alloc ?_ _) | (with_reducible refine bel_drew ?_) | (with_reducible refine below_drewN ?_ _) | (with_reducible refine bel_put ?_ (by first | exact Nat.le_refl _ | (simp; done) | (simp; omega)) _)))
    rintro e w1 ⟨rfl, hb1⟩
    rw [HP.out]
    go_wp2
    go_ret2
    exact ⟨none, 0, rfl, nilR, bel_trans (by repeat (first | (with_reducible exact Below.refl _ _) | (with_reducible assumption) | (with_reducible refine bel_alloc ?_ _) | (with_reducible refine bel_drew ?_) | (with_reducible refine below_drewN ?_ _) | (with_reducible refine bel_put ?_ (by first | exact Nat.le_refl _ | (simp; done) | (simp; omega)) _))) hb1⟩
set_option maxHeartbeats 400000 in
theorem i_PieceBytes {w : World} {cs : List Value} {p : DPiece} (h : tPiece.R w w.heap.size cs p) (hz : szPiece p ≤ 1048576) :
    Calls Try.prog 20 #[.agg cs.toArray] w fun e w' => ∃ A c F, e = .returned (.tuple #[.slice A (fPB p).length c, .bool (decide (PcOk p))]) ∧ tBy.O w' [.slice A (fPB p).length c] (fPB p) F ∧ New w.heap.size F ∧ Below w.heap.size w w' := by
  by_cases hp : PcOk p
  · have HP := Lib.hid (decide_eq_true hp)
    rw [HP.out]
    have HF := Lib.hid (fPB_t hp)
    obtain ⟨i0, hi0', hz0, hz1, hz2⟩ := info_parts info_cb
    obtain ⟨A3, n3, c3, rfl, hi0, hi1, hi2, ha3, hb3, hl3, hr3⟩ := openPiece h
    obtain ⟨q1, q2, q3, q4, q5, q6, _, _⟩ := hp
    have hi3 := (slR_ints hr3).1
    obtain ⟨x0, x1, x2, l3⟩ := p
    dsimp only [szPiece] at *
    have HL := Lib.hid hl3
    have q7 : 0 ≤ x2 := by omega
    have q8 : x2 ≤ 255 := by omega
    have q9 : x1 ≤ 255 := by omega
    have hn : n3 ≤ 1048576 := by omega
    clear hl3 hi0 hi1 hi2
    go_enter Try.func20, Try.ntmps20
    go_wp2_with fail
    refine (i_PieceOk (tPiece.reach h ?hB) hz).mono ?_
    case hB => exact (by repeat (first | (with_reducible exact Below.refl _ _) | (with_reducible assumption) | (with_reducible refine bel_alloc ?_ _) | (with_reducible refine bel_drew ?_) | (with_reducible refine below_drewN ?_ _) | (with_reducible refine bel_put ?_ (by first | exact Nat.le_refl _ | (simp; done) | (simp; omega)) _)))
    rintro e w1 ⟨rfl, hb1⟩
    rw [HP.out]
    have B1 : Box w1 w.heap.size 27 #[.int .i64 x0, .int .i64 x1, .int .i64 x2, .slice A3 n3 c3] := (Box.new _ _ _).below hb1 (by simp)
    have k0 := B1.cell 0; have k1 := B1.cell 1; have k2 := B1.cell 2; have k3 := B1.cell 3
    have hB1 : Below w.heap.size w w1 := bel_trans (by repeat (first | (with_reducible exact Below.refl _ _) | (with_reducible assumption) | (with_reducible refine bel_alloc ?_ _) | (with_reducible refine bel_drew ?_) | (with_reducible refine below_drewN ?_ _) | (with_reducible refine bel_put ?_ (by first | exact Nat.le_refl _ | (simp; done) | (simp; omega)) _))) hb1
    have hrow : (w1.alloc (.cells #[.int .u8 x0, .int .u8 x1, .int .u8 x2] 5)).ownsRow w1.heap.size 5 1 (.slice (some ⟨w1.heap.size, 0, none⟩) 3 3) 3 [.int .u8 x0, .int .u8 x1, .int .u8 x2] := three_row w1 _ _ _ _
    have hsrc : Src (w1.alloc (.cells #[.int .u8 x0, .int .u8 x1, .int .u8 x2] 5)) 1 A3 n3 (l3.map (Value.int .u8)) := Src.of_ints (reach (reach hi3 hB1) (by repeat (first | (with_reducible exact Below.refl _ _) | (with_reducible assumption) | (with_reducible refine bel_alloc ?_ _) | (with_reducible refine bel_drew ?_) | (with_reducible refine below_drewN ?_ _) | (with_reducible refine bel_put ?_ (by first | exact Nat.le_refl _ | (simp; done) | (simp; omega)) _))))
    have z1 : w.heap.size ≤ w1.heap.size := hB1.size
    have d3 : (w1.alloc (.cells #[.int .u8 x0, .int .u8 x1, .int .u8 x2] 5)).cell? ⟨w.heap.size, 3, none⟩ = some (.slice A3 n3 c3) := (B1.alloc _).cell 3
    go_wp2_with (at_builtin; refine wpList_app _ rfl (.tmp 16) (.tmp 18) _ rfl w1.heap.size 5 i0 _ 1 1 Try.underlying22 hi0' hz0 hz1 hz2 rfl (by omega) _ _ _ rfl hrow _ n3 c3 (l3.map (Value.int .u8)) rfl hsrc (one_ints _ _) (by simp only [maxLen]; omega) (by omega) (by simp; done) ?_; intro v1 w2 hown hgr hat)
    go_ret2
    have hO : Own .u8 5 w2 w1.heap.size v1 (x0 :: x1 :: x2 :: l3) := Own.of (n := 3 + n3) (by simpa using hown) (by
      intro y hy
      simp only [List.mem_cons] at hy
      rcases hy with rfl | rfl | rfl | hy
      · exact WalkArith.wf_u8 ⟨by omega, by omega⟩
      · exact WalkArith.wf_u8 ⟨by omega, by omega⟩
      · exact WalkArith.wf_u8 ⟨by omega, by omega⟩
      · exact hi3.2.2 y hy)
    obtain ⟨A, c, F, rfl, hO2, hN⟩ := own_slice hO
    have e := HF.out
    try dsimp only at e
    rw [← e] at hO2 ⊢
    refine ⟨A, c, F, rfl, hO2, hN.lower z1, Below.grown (by exact (by repeat (first | (with_reducible exact Below.refl _ _) | (with_reducible assumption) | (with_reducible refine bel_alloc ?_ _) | (with_reducible refine bel_drew ?_) | (with_reducible refine below_drewN ?_ _) | (with_reducible refine bel_put ?_ (by first | exact Nat.le_refl _ | (simp; done) | (simp; omega)) _)))) hgr (by simp; omega) fun b hb => ?_⟩
    have e := Option.some.inj (show some w1.heap.size = some b from hb)
    omega
  · have HP := Lib.hid (decide_eq_false hp)
    rw [HP.out]
    obtain ⟨A3, n3, c3, rfl, hi0, hi1, hi2, ha3, hb3, hl3, hr3⟩ := openPiece h
    clear hl3
    rw [fPB_f hp]
    clear hp
    go_enter Try.func20, Try.ntmps20
    go_wp2_with fail
    refine (i_PieceOk (tPiece.reach h ?hB) hz).mono ?_
    case hB => exact (by repeat (first | (with_reducible exact Below.refl _ _) | (with_reducible assumption) | (with_reducible refine bel_alloc ?_ _) | (with_reducible refine bel_drew ?_) | (with_reducible refine below_drewN ?_ _) | (with_reducible refine bel_put ?_ (by first | exact Nat.le_refl _ | (simp; done) | (simp; omega)) _)))
    rintro e w1 ⟨rfl, hb1⟩
    rw [HP.out]
    go_wp2
    go_ret2
    exact ⟨none, 0, [], rfl, nilO, New.nil _, bel_trans (by repeat (first | (with_reducible exact Below.refl _ _) | (with_reducible assumption) | (with_reducible refine bel_alloc ?_ _) | (with_reducible refine bel_drew ?_) | (with_reducible refine below_drewN ?_ _) | (with_reducible refine bel_put ?_ (by first | exact Nat.le_refl _ | (simp; done) | (simp; omega)) _))) hb1⟩
end Go.Proofs.Ytconcboeojpmdab
