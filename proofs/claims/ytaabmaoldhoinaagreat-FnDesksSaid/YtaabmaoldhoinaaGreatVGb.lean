/-
  PPiece, PSplit, SpZ, CpG, Cip, SpecTwo, DrawTwo, Op0, PDk, PMisP: texts joined.
-/
import Derived.Test.YtaabmaoldhoinaaGreatVGa
import Derived.Test.YtaabmaoldhoinaaGreatVMPFor
import Derived.Test.YtaabmaoldhoinaaGreatVX1
import Derived.BigQuiet
import Derived.Deep.DrawnRows
import Derived.Deep.QuietTactic
import Derived.Deep.RegionHeld3
import Derived.Laws.BitsAllLaws
import Derived.Outline
namespace Go.Proofs.YtaabmaoldhoinaaGreat
set_option maxRecDepth 100000
set_option linter.unusedVariables false
set_option linter.unusedSimpArgs false
open Go.ChangeShapes Go.WideShapes Go.ChangeAt Go.RowKit
/-- A fragment in order: its number, place, total, and so many bytes. -/
def PcN (i a t : Int) (n : Nat) : Prop := 0 ≤ i ∧ i ≤ 255 ∧ t ≤ 8 ∧ 0 ≤ a ∧ a < t ∧ n ≤ 20 ∧ (a < t - 1 → n = 20) ∧ (a = t - 1 → 0 < n ∨ t = 1)
instance (i a t : Int) (n : Nat) : Decidable (PcN i a t n) := by unfold PcN; infer_instance
def PcOk (p : DPiece) : Prop := PcN p.1 p.2.1 p.2.2.1 p.2.2.2.length
instance (p : DPiece) : Decidable (PcOk p) := by unfold PcOk; infer_instance
set_option maxHeartbeats 1000000 in
theorem s_PieceOkN (w : World) (A3 : Option Addr) (n3 c3 : Nat) (x0 x1 x2 : Int) (b : Bool) (rg1 : -9223372036854775808 ≤ x2 ∧ x2 ≤ 9223372036854775807) (T : PcN x0 x1 x2 n3 → b = true) (F : ¬ PcN x0 x1 x2 n3 → b = false) :
    Calls Tryz.prog 38 #[.agg #[.int .i64 x0, .int .i64 x1, .int .i64 x2, .slice A3 n3 c3]] w fun e w' => e = .returned (.bool b) ∧ Below w.heap.size w w' := by
  unfold PcN at T F
  by_cases h1 : x0 < 0
  · have := F (by omega); subst this; clear F T
    go_enter Tryz.func38, Tryz.ntmps38
    go_wp2
    go_ret
    exact ⟨rfl, (belx)⟩
  by_cases h2 : 255 < x0
  · have := F (by omega); subst this; clear F T
    go_enter Tryz.func38, Tryz.ntmps38
    go_wp2
    go_ret
    exact ⟨rfl, (belx)⟩
  by_cases h3 : x2 < 1
  · have := F (by omega); subst this; clear F T
    go_enter Tryz.func38, Tryz.ntmps38
    go_wp2
    go_ret
    exact ⟨rfl, (belx)⟩
  by_cases h4 : 8 < x2
  · have := F (by omega); subst this; clear F T
    go_enter Tryz.func38, Tryz.ntmps38
    go_wp2
    go_ret
    exact ⟨rfl, (belx)⟩
  by_cases h5 : x1 < 0
  · have := F (by omega); subst this; clear F T
    go_enter Tryz.func38, Tryz.ntmps38
    go_wp2
    go_ret
    exact ⟨rfl, (belx)⟩
  by_cases h6 : x2 ≤ x1
  · have := F (by omega); subst this; clear F T
    go_enter Tryz.func38, Tryz.ntmps38
    go_wp2
    go_ret
    exact ⟨rfl, (belx)⟩
  by_cases h7 : 20 < n3
  · have := F (by omega); subst this; clear F T
    have q : (20 : Int) < n3 := by omega
    go_enter Tryz.func38, Tryz.ntmps38
    go_wp2
    go_ret
    exact ⟨rfl, (belx)⟩
  have q7 : ¬ (20 : Int) < n3 := by omega
  by_cases h8 : x1 < x2 - 1
  · by_cases h9 : n3 = 20
    · have := T (by omega); subst this h9; clear F T
      go_enter Tryz.func38, Tryz.ntmps38
      go_wp2
      go_ret
      exact ⟨rfl, (belx)⟩
    · have := F (by omega); subst this; clear F T
      have q9 : ((n3 : Int) == 20) = false := by simp; omega
      go_enter Tryz.func38, Tryz.ntmps38
      go_wp2
      go_ret
      exact ⟨by first | (simp; done) | (simp; omega), (belx)⟩
  · by_cases h9 : 0 < n3
    · have := T (by omega); subst this; clear F T
      have q9 : (0 : Int) < n3 := by omega
      go_enter Tryz.func38, Tryz.ntmps38
      go_wp2
      go_ret
      exact ⟨rfl, (belx)⟩
    · have q9 : ¬ (0 : Int) < n3 := by omega
      by_cases h10 : x2 = 1
      · have := T (by omega); subst this h10; clear F T
        go_enter Tryz.func38, Tryz.ntmps38
        go_wp2
        go_ret
        exact ⟨rfl, (belx)⟩
      · have := F (by omega); subst this; clear F T
        have q10 : (x2 == 1) = false := by simpa using h10
        go_enter Tryz.func38, Tryz.ntmps38
        go_wp2
        go_ret
        exact ⟨by first | (simp; done) | (simp; omega), (belx)⟩
theorem s_PieceOk {w : World} {cs : List Value} {p : DPiece} (h : tPiece.R w w.heap.size cs p) (hz : szPiece p ≤ 1048576) :
    Calls Tryz.prog 38 #[.agg cs.toArray] w fun e w' => e = .returned (.bool (decide (PcOk p))) ∧ Below w.heap.size w w' := by
  obtain ⟨A3, n3, c3, rfl, hi0, hi1, hi2, ha3, hb3, hl3, hr3⟩ := openPiece h
  have rg := i64_rg hi2
  exact s_PieceOkN w A3 n3 c3 _ _ _ _ ⟨by omega, by omega⟩ (fun hh => decide_eq_true (by unfold PcOk; rw [hl3]; exact hh)) (fun hh => decide_eq_false (by unfold PcOk; rw [hl3]; exact hh))
theorem i_isId_t (x : Int) (w : World) (h1 : 0 ≤ x) (h2 : x ≤ 255) : Calls Tryz.prog 70 #[.int .i64 x] w fun e w' => e = .returned (.bool true) ∧ w = w' := by
  go_enter Tryz.func70, Tryz.ntmps70
  go_wp2
  go_ret
  exact ⟨rfl, rfl⟩
theorem i_isId_f (x : Int) (w : World) (h : ¬ (0 ≤ x ∧ x ≤ 255)) : Calls Tryz.prog 70 #[.int .i64 x] w fun e w' => e = .returned (.bool false) ∧ w = w' := by
  by_cases h1 : x < 0
  · clear h
    go_enter Tryz.func70, Tryz.ntmps70
    go_wp2
    go_ret
    exact ⟨rfl, rfl⟩
  · have h2 : 255 < x := by omega
    clear h
    go_enter Tryz.func70, Tryz.ntmps70
    go_wp2
    go_ret
    exact ⟨ret_bool (by simp; omega), rfl⟩
set_option maxHeartbeats 1000000 in
theorem i_PieceOkN (w : World) (A3 : Option Addr) (n3 c3 : Nat) (x0 x1 x2 : Int) (b : Bool) (rg1 : -9223372036854775808 ≤ x2 ∧ x2 ≤ 9223372036854775807) (T : PcN x0 x1 x2 n3 → b = true) (F : ¬ PcN x0 x1 x2 n3 → b = false) :
    Calls Tryz.prog 44 #[.agg #[.int .i64 x0, .int .i64 x1, .int .i64 x2, .slice A3 n3 c3]] w fun e w' => e = .returned (.bool b) ∧ Below w.heap.size w w' := by
  unfold PcN at T F
  by_cases h1 : ¬ (0 ≤ x0 ∧ x0 ≤ 255)
  · have := F (by omega); subst this; clear F T
    go_enter Tryz.func44, Tryz.ntmps44
    go_wp2_with (go_at_call 70; refine (i_isId_f _ _ (by omega)).mono ?_; rintro e w' ⟨rfl, rfl⟩)
    go_ret
    exact ⟨rfl, (belx)⟩
  by_cases h4 : 8 < x2
  · have := F (by omega); subst this; clear F T
    go_enter Tryz.func44, Tryz.ntmps44
    go_wp2_with (go_at_call 70; refine (i_isId_t _ _ (by omega) (by omega)).mono ?_; rintro e w' ⟨rfl, rfl⟩)
    go_ret
    exact ⟨rfl, (belx)⟩
  by_cases h5 : x1 < 0
  · have := F (by omega); subst this; clear F T
    go_enter Tryz.func44, Tryz.ntmps44
    go_wp2_with (go_at_call 70; refine (i_isId_t _ _ (by omega) (by omega)).mono ?_; rintro e w' ⟨rfl, rfl⟩)
    go_ret
    exact ⟨rfl, (belx)⟩
  by_cases h6 : x2 ≤ x1
  · have := F (by omega); subst this; clear F T
    go_enter Tryz.func44, Tryz.ntmps44
    go_wp2_with (go_at_call 70; refine (i_isId_t _ _ (by omega) (by omega)).mono ?_; rintro e w' ⟨rfl, rfl⟩)
    go_ret
    exact ⟨rfl, (belx)⟩
  by_cases h8 : x1 < x2 - 1
  · by_cases h9 : n3 = 20
    · have := T (by omega); subst this; clear F T; subst h9
      go_enter Tryz.func44, Tryz.ntmps44
      go_wp2_with (go_at_call 70; refine (i_isId_t _ _ (by omega) (by omega)).mono ?_; rintro e w' ⟨rfl, rfl⟩)
      go_ret
      exact ⟨rfl, (belx)⟩
    · have := F (by omega); subst this; clear F T
      have q9 : ((n3 : Int) == 20) = false := by simp; omega
      go_enter Tryz.func44, Tryz.ntmps44
      go_wp2_with (go_at_call 70; refine (i_isId_t _ _ (by omega) (by omega)).mono ?_; rintro e w' ⟨rfl, rfl⟩)
      go_ret
      exact ⟨by first | (simp; done) | (simp; omega), (belx)⟩
  · by_cases h7 : 20 < n3
    · have := F (by omega); subst this; clear F T
      have q : ¬ (n3 : Int) ≤ 20 := by omega
      go_enter Tryz.func44, Tryz.ntmps44
      go_wp2_with (go_at_call 70; refine (i_isId_t _ _ (by omega) (by omega)).mono ?_; rintro e w' ⟨rfl, rfl⟩)
      go_ret
      exact ⟨rfl, (belx)⟩
    have q7 : (n3 : Int) ≤ 20 := by omega
    by_cases h9 : 0 < n3
    · have := T (by omega); subst this; clear F T
      have q9 : (0 : Int) < n3 := by omega
      go_enter Tryz.func44, Tryz.ntmps44
      go_wp2_with (go_at_call 70; refine (i_isId_t _ _ (by omega) (by omega)).mono ?_; rintro e w' ⟨rfl, rfl⟩)
      go_ret
      exact ⟨rfl, (belx)⟩
    · have q9 : ¬ (0 : Int) < n3 := by omega
      by_cases h10 : x2 = 1
      · have := T (by omega); subst this; clear F T; subst h10
        go_enter Tryz.func44, Tryz.ntmps44
        go_wp2_with (go_at_call 70; refine (i_isId_t _ _ (by omega) (by omega)).mono ?_; rintro e w' ⟨rfl, rfl⟩)
        go_ret
        exact ⟨rfl, (belx)⟩
      · have := F (by omega); subst this; clear F T
        have q10 : (x2 == 1) = false := by simpa using h10
        go_enter Tryz.func44, Tryz.ntmps44
        go_wp2_with (go_at_call 70; refine (i_isId_t _ _ (by omega) (by omega)).mono ?_; rintro e w' ⟨rfl, rfl⟩)
        go_ret
        exact ⟨by first | (simp; done) | (simp; omega), (belx)⟩
theorem i_PieceOk {w : World} {cs : List Value} {p : DPiece} (h : tPiece.R w w.heap.size cs p) (hz : szPiece p ≤ 1048576) :
    Calls Tryz.prog 44 #[.agg cs.toArray] w fun e w' => e = .returned (.bool (decide (PcOk p))) ∧ Below w.heap.size w w' := by
  obtain ⟨A3, n3, c3, rfl, hi0, hi1, hi2, ha3, hb3, hl3, hr3⟩ := openPiece h
  have rg := i64_rg hi2
  exact i_PieceOkN w A3 n3 c3 _ _ _ _ ⟨by omega, by omega⟩ (fun hh => decide_eq_true (by unfold PcOk; rw [hl3]; exact hh)) (fun hh => decide_eq_false (by unfold PcOk; rw [hl3]; exact hh))
end Go.Proofs.YtaabmaoldhoinaaGreat
namespace Go.Proofs.YtaabmaoldhoinaaGreat
set_option maxRecDepth 100000
set_option linter.unusedVariables false
set_option linter.unusedSimpArgs false
open Go.ChangeShapes Go.WideShapes Go.ChangeAt Go.RowKit
def splN (len : Nat) : Nat := if len = 0 then 1 else (len + 19) / 20
def pcAt (id : Int) (N : Nat) (msg : List Int) (i : Nat) : DPiece := (id, (i : Int), (N : Int), (msg.drop (i * 20)).take 20)
def splL (id : Int) (msg : List Int) : List DPiece := (List.range (splN msg.length)).map (pcAt id (splN msg.length) msg)
def SpOk (id : Int) (msg : List Int) : Prop := (0 ≤ id ∧ id ≤ 255) ∧ msg.length ≤ 160
instance (id : Int) (msg : List Int) : Decidable (SpOk id msg) := by unfold SpOk; infer_instance
def fSpl (id : Int) (msg : List Int) : List DPiece := if SpOk id msg then splL id msg else []
theorem fSpl_t {id : Int} {msg : List Int} (h : SpOk id msg) : fSpl id msg = splL id msg := if_pos h
theorem fSpl_f {id : Int} {msg : List Int} (h : ¬ SpOk id msg) : fSpl id msg = [] := if_neg h
theorem splN_le {n : Nat} (h : n ≤ 160) : 1 ≤ splN n ∧ splN n ≤ 8 := by unfold splN; split <;> omega
theorem splL_len (id : Int) (msg : List Int) : (splL id msg).length = splN msg.length := by unfold splL; rw [List.length_map, List.length_range]
theorem splL_at {id : Int} {msg : List Int} {N j : Nat} (hN : splN msg.length = N) (hj : j < N) : (splL id msg)[j]? = some (id, (j : Int), (N : Int), (msg.drop (j * 20)).take 20) := by
  unfold splL; rw [hN, List.getElem?_map, List.getElem?_range hj]; rfl
/-- A part of a slice of bytes. -/
theorem ints_mid {K : IntKind} {w : World} {B n b off : Nat} {l : List Int} (h : Ints K w B (some ⟨b, off, none⟩) n l) {lo m : Nat} (hm : lo + m ≤ n) : Ints K w B (some ⟨b, off + lo, none⟩) m ((l.drop lo).take m) := by
  refine ⟨by rw [List.length_take, List.length_drop, h.1]; omega, fun h0 => ?_, fun x hx => h.2.2 x (List.mem_of_mem_drop (List.mem_of_mem_take hx))⟩
  obtain ⟨b', off', e, hb, hc⟩ := h.2.1 (by omega)
  injection e with e
  injection e with e1 e2 _
  subst e1 e2
  refine ⟨b, off + lo, rfl, hb, fun i hi => ?_⟩
  rw [Nat.add_assoc, hc (lo + i) (by omega), List.getD_eq_getElem?_getD, List.getD_eq_getElem?_getD, List.getElem?_take, if_pos hi, List.getElem?_drop]
theorem empty4 (w : World) (t : TypeId) : (w.alloc (.cells #[] t)).ownsRow w.heap.size t 1 (.slice (some ⟨w.heap.size, 0, none⟩) 0 0) 0 [] :=
  ⟨rfl, .inr ⟨w.heap.size, 0, #[], rfl, Nat.le_refl _, heap_alloc_new w _, Nat.le_refl _, by simp only [maxLen]; omega, rfl, rfl⟩⟩
theorem one_piece (x0 x1 x2 : Int) (A : Option Addr) (n c : Nat) : ∀ u ∈ [Value.int .i64 x0, .int .i64 x1, .int .i64 x2, .slice A n c], u.oneCell' = true := by
  intro u hu
  simp only [List.mem_cons, List.not_mem_nil, or_false] at hu
  rcases hu with rfl | rfl | rfl | rfl <;> rfl
theorem own_sl4 {K : IntKind} {e : TypeId} {w : World} {base : Nat} {v : Value} {l : List Int} (h : Own K e w base v l) : ∃ A c F, v = .slice A l.length c ∧ (tSl K).O w [.slice A l.length c] l F ∧ New base F := by
  obtain ⟨F, hF, hN⟩ := h.tSl
  obtain ⟨A, c, e1, _, _⟩ := slO_one hF
  injection e1 with e1 _
  subst e1
  exact ⟨A, c, F, rfl, hF, hN⟩
theorem i_copied4 {w : World} {n c : Nat} {A : Option Addr} {l : List Int} (hl : Ints .u8 w w.heap.size A n l) (hn : n ≤ 1048576) :
    Calls Tryz.prog 82 #[.slice A n c] w fun e w' => ∃ v, e = .returned v ∧ Own .u8 5 w' w.heap.size v l ∧ Below w.heap.size w w' := by
  obtain ⟨i0, hi0, hz0, hz1, hz2⟩ := info_parts info_cb
  go_enter Tryz.func82, Tryz.ntmps82
  go_wp2_with (at_builtin; refine wpList_app _ rfl _ (.tmp 3) _ rfl w.heap.size 5 i0 _ 1 1 Tryz.underlying26 hi0 hz0 hz1 hz2 rfl (by omega) (.slice none 0 0) 0 [] rfl (World.ownsRow_nil _ _ _ _) _ n c (l.map (Value.int .u8)) rfl (Src.of_ints hl) (one_ints _ _) (by simp only [maxLen]; omega) (by omega) (Nat.le_refl _) ?_; intro v1 w1 hown hgr hat)
  go_ret
  exact ⟨v1, rfl, Own.of (n := 0 + n) (by simpa using hown) hl.2.2, Below.grown (Below.refl _ _) hgr (Nat.le_refl _) fun b hb => by simp [Value.ownBlock] at hb⟩
theorem split_subS {w : World} {n b off : Nat} {x : _} {msg : List Int} (hl : Ints .u8 w w.heap.size (some ⟨b, off, x⟩) n msg) {j : Nat} : Ints .u8 w w.heap.size (some ⟨b, off + j * 20, x⟩) (min 20 (n - j * 20)) ((msg.drop (j * 20)).take 20) := by
  by_cases hn : j * 20 < n
  · obtain ⟨b', off', e, hb, -⟩ := hl.2.1 (by omega)
    injection e with e
    injection e with e1 e2 e3
    subst e1 e2 e3
    have hI := ints_mid hl (lo := j * 20) (m := min 20 (n - j * 20)) (by omega)
    have e : (msg.drop (j * 20)).take (min 20 (n - j * 20)) = (msg.drop (j * 20)).take 20 := by
      by_cases h20 : min 20 (n - j * 20) = 20
      · rw [h20]
      · rw [List.take_of_length_le (by rw [List.length_drop, hl.1]; omega), List.take_of_length_le (by rw [List.length_drop, hl.1]; omega)]
    rwa [e] at hI
  · rw [show min 20 (n - j * 20) = 0 by omega, List.drop_eq_nil_of_le (by rw [hl.1]; omega)]
    exact Ints.nil
theorem split_sub0 {w : World} {n : Nat} {A : Option Addr} {msg : List Int} (hl : Ints .u8 w w.heap.size A n msg) (hn : n = 0) {j : Nat} : ∀ (W : World) (A' : Option Addr), Ints .u8 W W.heap.size A' (min 20 (n - j * 20)) ((msg.drop (j * 20)).take 20) := by
  intro W A'
  rw [show min 20 (n - j * 20) = 0 by omega, List.drop_eq_nil_of_le (by rw [hl.1]; omega)]
  exact Ints.nil
set_option maxHeartbeats 4000000 in
theorem i_Split {w : World} {id : Int} {A : Option Addr} {n c : Nat} {msg : List Int} (hid : (Lit.int .i64 id).wf = true) (h : tBy.R w w.heap.size [.slice A n c] msg) (hz : msg.length ≤ 1048576) :
    Calls Tryz.prog 32 #[.int .i64 id, .slice A n c] w fun e w' => ∃ A' c' F, e = .returned (.tuple #[.slice A' (fSpl id msg).length c', .bool (decide (SpOk id msg))]) ∧ tPiece.row.O w' [.slice A' (fSpl id msg).length c'] (fSpl id msg) F ∧ New w.heap.size F ∧ Below w.heap.size w w' := by
  obtain ⟨i1, hj0, hj1, hj2, hj3⟩ := info_parts info_Piece
  obtain ⟨hl, hnc, hcm⟩ := slR_ints h
  have hlen := hl.1
  by_cases hs : SpOk id msg
  rotate_left
  · rw [fSpl_f hs, decide_eq_false hs]
    have hnil : tPiece.row.O w [.slice none 0 0] [] [] := .inl ⟨none, 0, rfl, by omega, rfl, rfl⟩
    by_cases h1 : 0 ≤ id ∧ id ≤ 255
    · have h3 : (160 : Int) < (n : Int) := by unfold SpOk at hs; omega
      clear hs
      go_enter Tryz.func32, Tryz.ntmps32
      go_wp2_with (go_at_call 70; refine (i_isId_t _ _ h1.1 h1.2).mono ?_; rintro e w' ⟨rfl, rfl⟩)
      go_ret2
      exact ⟨none, 0, [], rfl, hnil, New.nil _, (belx)⟩
    · clear hs
      go_enter Tryz.func32, Tryz.ntmps32
      go_wp2_with (go_at_call 70; refine (i_isId_f _ _ h1).mono ?_; rintro e w' ⟨rfl, rfl⟩)
      go_ret2
      exact ⟨none, 0, [], rfl, hnil, New.nil _, (belx)⟩
  rw [fSpl_t hs, decide_eq_true hs]
  obtain ⟨⟨g1, g2⟩, g3⟩ := hs
  have hn : n ≤ 160 := by omega
  have q3 : ¬ (160 : Int) < (n : Int) := by omega
  obtain ⟨N, hN⟩ : ∃ N, splN msg.length = N := ⟨_, rfl⟩
  have hN8 : 1 ≤ N ∧ N ≤ 8 := by rw [← hN]; exact splN_le g3
  have HN := Lib.hid hN
  have HID := Lib.hid hid
  have HL := Lib.hid hlen
  have HNW := Lib.hid (show (Lit.int .i64 (N : Int)).wf = true from WalkArith.wf_i64 ⟨by omega, by omega⟩)
  have HLL := Lib.hid (show (splL id msg).length = N from by rw [splL_len, hN])
  have hNn : (n = 0 ∧ N = 1) ∨ (1 ≤ n ∧ N = (n + 19) / 20) := by
    rw [hlen] at hN; unfold splN at hN; split at hN <;> omega
  have HPF := Lib.hid (show fPF (n : Int) = (N : Int) from by
    rcases hNn with ⟨rfl, rfl⟩ | ⟨h1, h2⟩
    · rfl
    · rw [fPF_q (by omega) (by omega)]; omega)
  have HNN := Lib.hid hNn
  clear hid hlen g3 hz hN hNn
  rw [HLL.out]
  by_cases hn0 : n = 0
  · have HN0 := Lib.hid hn0
    clear hn0
    rcases A with _ | a
    · go_enter Tryz.func32, Tryz.ntmps32
      go_wp2_with (first
        | (go_at_call 70; refine (i_isId_t _ _ g1 g2).mono ?_; rintro e w' ⟨rfl, rfl⟩)
        | (go_at_call 34; refine (i_PiecesFor _ _).mono ?_; rintro e w' ⟨rfl, rfl⟩; rw [HPF.out])
        | (at_make; refine wpList_mkS _ rfl (.tmp 20) (.tmp 20) _ rfl 37 i1 _ 4 Tryz.underlying51 hj0 hj1 hj2 N rfl rfl (by rw [hj3]; omega) (by simp only [maxLen]; omega) ?_; intro w1 cur hcur hsz hB1 hgr))
      go_loopw [24] (fun i wr => ∃ j : Nat, j ≤ N ∧ i = .int .i64 j ∧ Below w.heap.size w wr ∧ ∃ F, Fill tPiece wr w.heap.size 37 N ((splL id msg).take j) F ∧ New (w.heap.size + 1) F) (fun i _ => N - (RowKit.intOf i).toNat)
      case atStart => exact ⟨0, by omega, rfl, hB1, [], Fill.start hcur hsz, New.nil _⟩
      case round =>
        obtain ⟨j, hj, rfl, hB, F, hf, hNF⟩ := hrel
        by_cases hlt : j < N
        · have hl2 := splL_at (id := id) HN.out hlt
          have HT := Lib.hid (take_sn hl2)
          have HLN := Lib.hid (show ((splL id msg).take j).length = j from by rw [List.length_take, HLL.out]; omega)
          have HJW := Lib.hid (show (Lit.int .i64 (j : Int)).wf = true from WalkArith.wf_i64 ⟨by omega, by omega⟩)
          have jN : (j : Int) < (N : Int) := by omega
          have jj := HNN.out
          have hI := split_sub0 hl HN0.out (j := j)
          skip
          skip
          obtain ⟨sub, hsub⟩ : ∃ sub, (msg.drop (j * 20)).take 20 = sub := ⟨_, rfl⟩
          obtain ⟨m, hm⟩ : ∃ m, min 20 (n - j * 20) = m := ⟨_, rfl⟩
          rw [hsub] at HT
          rw [hsub, hm] at hI
          have i3 : (0 : Int) ≤ (j : Int) * 20 := by omega
          have i4 : (j : Int) * 20 ≤ (n : Int) := by omega
          have i5 : (n : Int) ≤ ((c : Nat) : Int) := by omega
          have p1 : IntKind.i64.wrap ((j : Int) * 20) = (j : Int) * 20 := IntWalk.i64_in _ (by omega)
          have i2 : IntKind.i64.wrap ((j : Int) * 20 + 20) = (j : Int) * 20 + 20 := IntWalk.i64_in _ (by omega)
          have t1 : ((j : Int) * 20).toNat = j * 20 := by omega
          have hm2 : m ≤ 20 := by omega
          by_cases hend : (n : Int) < (j : Int) * 20 + 20
          · skip
            have t2 : ((n : Int) - (j : Int) * 20).toNat = m := by omega
            have t3 : n - j * 20 = m := by omega
            have q7 : ¬ (j : Int) * 20 + 20 ≤ (n : Int) := by omega
            clear hl2 hsub hm jj
            go_wp2_with fail
            refine (i_copied4 (hI _ _) (by omega)).mono ?_
            rintro e w2 ⟨v2, rfl, hO2, hb2⟩
            obtain ⟨Ad, cd, Fd, rfl, hOd, hNd⟩ := own_sl4 hO2
            obtain ⟨Fx, hOel, ex⟩ := makeOPiece (p := (id, ((j : Nat) : Int), ((N : Nat) : Int), sub)) HID.out HJW.out HNW.out hOd
            subst ex
            have hgs := hf.size
            have hf2 := hf.below hb2
            have hsz2 := hb2.size
            have hP := Fill.push (K := 4) hf2 (by rw [HLN.out]; exact hlt) hOel (hNF.not (by omega)) (hNd.not hgs) rfl
            rw [HLN.out, ← HT.out] at hP
            have hM : New (w.heap.size + 1) (F ++ Fx) := New.app hNF hNd (by omega) hf.lt
            obtain ⟨u0, k0⟩ := hf2.cell (K := 4) (j := 0) (by rw [HLN.out]; exact hlt) rfl (by omega)
            rw [HLN.out] at k0
            replace k0 : w2.cell? ⟨w.heap.size, j * 4, none⟩ = some u0 := k0
            have f0 := hf2.frozen (j * 4)
            obtain ⟨u1, k1⟩ := hf2.cell (K := 4) (j := 1) (by rw [HLN.out]; exact hlt) rfl (by omega)
            rw [HLN.out] at k1
            replace k1 : w2.cell? ⟨w.heap.size, j * 4 + 1, none⟩ = some u1 := k1
            have f1 := hf2.frozen (j * 4 + 1)
            obtain ⟨u2, k2⟩ := hf2.cell (K := 4) (j := 2) (by rw [HLN.out]; exact hlt) rfl (by omega)
            rw [HLN.out] at k2
            replace k2 : w2.cell? ⟨w.heap.size, j * 4 + 2, none⟩ = some u2 := k2
            have f2 := hf2.frozen (j * 4 + 2)
            obtain ⟨u3, k3⟩ := hf2.cell (K := 4) (j := 3) (by rw [HLN.out]; exact hlt) rfl (by omega)
            rw [HLN.out] at k3
            replace k3 : w2.cell? ⟨w.heap.size, j * 4 + 3, none⟩ = some u3 := k3
            have f3 := hf2.frozen (j * 4 + 3)
            go_wp2
            go_roundw
            case rel => exact ⟨j + 1, by omega, by go_num, below_puts (bel_trans hB hb2) (Nat.le_refl _) (off := j * 4) (vs := [.int .i64 id, .int .i64 ((j : Nat) : Int), .int .i64 ((N : Nat) : Int), .slice Ad sub.length cd]), _, hP, hM⟩
            case measure => first | (simp [RowKit.intOf]; done) | (simp [RowKit.intOf]; omega)
          · exact absurd (show (n : Int) < (j : Int) * 20 + 20 by have h1 := HN0.out; omega) hend
        · obtain rfl : j = N := by omega
          have HA := Lib.hid (show (splL id msg).take j = splL id msg from List.take_of_length_le (Nat.le_of_eq HLL.out))
          rw [HA.out] at hf
          obtain ⟨F', hO, hF'⟩ := hf.done HLL.out (by omega)
          rw [HLL.out] at hO
          go_wp2
          go_ret2
          exact ⟨_, _, F', rfl, hO, New.cons hNF hF', hB⟩
    · by_cases hc0 : c = 0
      · subst hc0
        go_enter Tryz.func32, Tryz.ntmps32
        go_wp2_with (first
          | (go_at_call 70; refine (i_isId_t _ _ g1 g2).mono ?_; rintro e w' ⟨rfl, rfl⟩)
          | (go_at_call 34; refine (i_PiecesFor _ _).mono ?_; rintro e w' ⟨rfl, rfl⟩; rw [HPF.out])
          | (at_make; refine wpList_mkS _ rfl (.tmp 20) (.tmp 20) _ rfl 37 i1 _ 4 Tryz.underlying51 hj0 hj1 hj2 N rfl rfl (by rw [hj3]; omega) (by simp only [maxLen]; omega) ?_; intro w1 cur hcur hsz hB1 hgr))
        go_loopw [24] (fun i wr => ∃ j : Nat, j ≤ N ∧ i = .int .i64 j ∧ Below w.heap.size w wr ∧ ∃ F, Fill tPiece wr w.heap.size 37 N ((splL id msg).take j) F ∧ New (w.heap.size + 1) F) (fun i _ => N - (RowKit.intOf i).toNat)
        case atStart => exact ⟨0, by omega, rfl, hB1, [], Fill.start hcur hsz, New.nil _⟩
        case round =>
          obtain ⟨j, hj, rfl, hB, F, hf, hNF⟩ := hrel
          by_cases hlt : j < N
          · have hl2 := splL_at (id := id) HN.out hlt
            have HT := Lib.hid (take_sn hl2)
            have HLN := Lib.hid (show ((splL id msg).take j).length = j from by rw [List.length_take, HLL.out]; omega)
            have HJW := Lib.hid (show (Lit.int .i64 (j : Int)).wf = true from WalkArith.wf_i64 ⟨by omega, by omega⟩)
            have jN : (j : Int) < (N : Int) := by omega
            have jj := HNN.out
            have hI := split_sub0 hl HN0.out (j := j)
            skip
            skip
            obtain ⟨sub, hsub⟩ : ∃ sub, (msg.drop (j * 20)).take 20 = sub := ⟨_, rfl⟩
            obtain ⟨m, hm⟩ : ∃ m, min 20 (n - j * 20) = m := ⟨_, rfl⟩
            rw [hsub] at HT
            rw [hsub, hm] at hI
            have i3 : (0 : Int) ≤ (j : Int) * 20 := by omega
            have i4 : (j : Int) * 20 ≤ (n : Int) := by omega
            have i5 : (n : Int) ≤ ((0 : Nat) : Int) := by omega
            have p1 : IntKind.i64.wrap ((j : Int) * 20) = (j : Int) * 20 := IntWalk.i64_in _ (by omega)
            have i2 : IntKind.i64.wrap ((j : Int) * 20 + 20) = (j : Int) * 20 + 20 := IntWalk.i64_in _ (by omega)
            have t1 : ((j : Int) * 20).toNat = j * 20 := by omega
            have hm2 : m ≤ 20 := by omega
            by_cases hend : (n : Int) < (j : Int) * 20 + 20
            · skip
              have t2 : ((n : Int) - (j : Int) * 20).toNat = m := by omega
              have t3 : n - j * 20 = m := by omega
              have q7 : ¬ (j : Int) * 20 + 20 ≤ (n : Int) := by omega
              clear hl2 hsub hm jj
              go_wp2_with fail
              refine (i_copied4 (hI _ _) (by omega)).mono ?_
              rintro e w2 ⟨v2, rfl, hO2, hb2⟩
              obtain ⟨Ad, cd, Fd, rfl, hOd, hNd⟩ := own_sl4 hO2
              obtain ⟨Fx, hOel, ex⟩ := makeOPiece (p := (id, ((j : Nat) : Int), ((N : Nat) : Int), sub)) HID.out HJW.out HNW.out hOd
              subst ex
              have hgs := hf.size
              have hf2 := hf.below hb2
              have hsz2 := hb2.size
              have hP := Fill.push (K := 4) hf2 (by rw [HLN.out]; exact hlt) hOel (hNF.not (by omega)) (hNd.not hgs) rfl
              rw [HLN.out, ← HT.out] at hP
              have hM : New (w.heap.size + 1) (F ++ Fx) := New.app hNF hNd (by omega) hf.lt
              obtain ⟨u0, k0⟩ := hf2.cell (K := 4) (j := 0) (by rw [HLN.out]; exact hlt) rfl (by omega)
              rw [HLN.out] at k0
              replace k0 : w2.cell? ⟨w.heap.size, j * 4, none⟩ = some u0 := k0
              have f0 := hf2.frozen (j * 4)
              obtain ⟨u1, k1⟩ := hf2.cell (K := 4) (j := 1) (by rw [HLN.out]; exact hlt) rfl (by omega)
              rw [HLN.out] at k1
              replace k1 : w2.cell? ⟨w.heap.size, j * 4 + 1, none⟩ = some u1 := k1
              have f1 := hf2.frozen (j * 4 + 1)
              obtain ⟨u2, k2⟩ := hf2.cell (K := 4) (j := 2) (by rw [HLN.out]; exact hlt) rfl (by omega)
              rw [HLN.out] at k2
              replace k2 : w2.cell? ⟨w.heap.size, j * 4 + 2, none⟩ = some u2 := k2
              have f2 := hf2.frozen (j * 4 + 2)
              obtain ⟨u3, k3⟩ := hf2.cell (K := 4) (j := 3) (by rw [HLN.out]; exact hlt) rfl (by omega)
              rw [HLN.out] at k3
              replace k3 : w2.cell? ⟨w.heap.size, j * 4 + 3, none⟩ = some u3 := k3
              have f3 := hf2.frozen (j * 4 + 3)
              go_wp2
              go_roundw
              case rel => exact ⟨j + 1, by omega, by go_num, below_puts (bel_trans hB hb2) (Nat.le_refl _) (off := j * 4) (vs := [.int .i64 id, .int .i64 ((j : Nat) : Int), .int .i64 ((N : Nat) : Int), .slice Ad sub.length cd]), _, hP, hM⟩
              case measure => first | (simp [RowKit.intOf]; done) | (simp [RowKit.intOf]; omega)
            · exact absurd (show (n : Int) < (j : Int) * 20 + 20 by have h1 := HN0.out; omega) hend
          · obtain rfl : j = N := by omega
            have HA := Lib.hid (show (splL id msg).take j = splL id msg from List.take_of_length_le (Nat.le_of_eq HLL.out))
            rw [HA.out] at hf
            obtain ⟨F', hO, hF'⟩ := hf.done HLL.out (by omega)
            rw [HLL.out] at hO
            go_wp2
            go_ret2
            exact ⟨_, _, F', rfl, hO, New.cons hNF hF', hB⟩
      · have HC0 := Lib.hid hc0
        clear hc0
        go_enter Tryz.func32, Tryz.ntmps32
        go_wp2_with (first
          | (go_at_call 70; refine (i_isId_t _ _ g1 g2).mono ?_; rintro e w' ⟨rfl, rfl⟩)
          | (go_at_call 34; refine (i_PiecesFor _ _).mono ?_; rintro e w' ⟨rfl, rfl⟩; rw [HPF.out])
          | (at_make; refine wpList_mkS _ rfl (.tmp 20) (.tmp 20) _ rfl 37 i1 _ 4 Tryz.underlying51 hj0 hj1 hj2 N rfl rfl (by rw [hj3]; omega) (by simp only [maxLen]; omega) ?_; intro w1 cur hcur hsz hB1 hgr))
        go_loopw [24] (fun i wr => ∃ j : Nat, j ≤ N ∧ i = .int .i64 j ∧ Below w.heap.size w wr ∧ ∃ F, Fill tPiece wr w.heap.size 37 N ((splL id msg).take j) F ∧ New (w.heap.size + 1) F) (fun i _ => N - (RowKit.intOf i).toNat)
        case atStart => exact ⟨0, by omega, rfl, hB1, [], Fill.start hcur hsz, New.nil _⟩
        case round =>
          obtain ⟨j, hj, rfl, hB, F, hf, hNF⟩ := hrel
          by_cases hlt : j < N
          · have hl2 := splL_at (id := id) HN.out hlt
            have HT := Lib.hid (take_sn hl2)
            have HLN := Lib.hid (show ((splL id msg).take j).length = j from by rw [List.length_take, HLL.out]; omega)
            have HJW := Lib.hid (show (Lit.int .i64 (j : Int)).wf = true from WalkArith.wf_i64 ⟨by omega, by omega⟩)
            have jN : (j : Int) < (N : Int) := by omega
            have jj := HNN.out
            have hI := split_sub0 hl HN0.out (j := j)
            have k1 : j * 20 < c := by (have h1 := HN0.out; have h2 := HC0.out; have h3 := HNN.out; omega)
            have k2 : ¬ c - j * 20 = 0 := by omega
            obtain ⟨sub, hsub⟩ : ∃ sub, (msg.drop (j * 20)).take 20 = sub := ⟨_, rfl⟩
            obtain ⟨m, hm⟩ : ∃ m, min 20 (n - j * 20) = m := ⟨_, rfl⟩
            rw [hsub] at HT
            rw [hsub, hm] at hI
            have i3 : (0 : Int) ≤ (j : Int) * 20 := by omega
            have i4 : (j : Int) * 20 ≤ (n : Int) := by omega
            have i5 : (n : Int) ≤ ((c : Nat) : Int) := by omega
            have p1 : IntKind.i64.wrap ((j : Int) * 20) = (j : Int) * 20 := IntWalk.i64_in _ (by omega)
            have i2 : IntKind.i64.wrap ((j : Int) * 20 + 20) = (j : Int) * 20 + 20 := IntWalk.i64_in _ (by omega)
            have t1 : ((j : Int) * 20).toNat = j * 20 := by omega
            have hm2 : m ≤ 20 := by omega
            by_cases hend : (n : Int) < (j : Int) * 20 + 20
            · skip
              have t2 : ((n : Int) - (j : Int) * 20).toNat = m := by omega
              have t3 : n - j * 20 = m := by omega
              have q7 : ¬ (j : Int) * 20 + 20 ≤ (n : Int) := by omega
              clear hl2 hsub hm jj
              go_wp2_with fail
              refine (i_copied4 (hI _ _) (by omega)).mono ?_
              rintro e w2 ⟨v2, rfl, hO2, hb2⟩
              obtain ⟨Ad, cd, Fd, rfl, hOd, hNd⟩ := own_sl4 hO2
              obtain ⟨Fx, hOel, ex⟩ := makeOPiece (p := (id, ((j : Nat) : Int), ((N : Nat) : Int), sub)) HID.out HJW.out HNW.out hOd
              subst ex
              have hgs := hf.size
              have hf2 := hf.below hb2
              have hsz2 := hb2.size
              have hP := Fill.push (K := 4) hf2 (by rw [HLN.out]; exact hlt) hOel (hNF.not (by omega)) (hNd.not hgs) rfl
              rw [HLN.out, ← HT.out] at hP
              have hM : New (w.heap.size + 1) (F ++ Fx) := New.app hNF hNd (by omega) hf.lt
              obtain ⟨u0, k0⟩ := hf2.cell (K := 4) (j := 0) (by rw [HLN.out]; exact hlt) rfl (by omega)
              rw [HLN.out] at k0
              replace k0 : w2.cell? ⟨w.heap.size, j * 4, none⟩ = some u0 := k0
              have f0 := hf2.frozen (j * 4)
              obtain ⟨u1, k1⟩ := hf2.cell (K := 4) (j := 1) (by rw [HLN.out]; exact hlt) rfl (by omega)
              rw [HLN.out] at k1
              replace k1 : w2.cell? ⟨w.heap.size, j * 4 + 1, none⟩ = some u1 := k1
              have f1 := hf2.frozen (j * 4 + 1)
              obtain ⟨u2, k2⟩ := hf2.cell (K := 4) (j := 2) (by rw [HLN.out]; exact hlt) rfl (by omega)
              rw [HLN.out] at k2
              replace k2 : w2.cell? ⟨w.heap.size, j * 4 + 2, none⟩ = some u2 := k2
              have f2 := hf2.frozen (j * 4 + 2)
              obtain ⟨u3, k3⟩ := hf2.cell (K := 4) (j := 3) (by rw [HLN.out]; exact hlt) rfl (by omega)
              rw [HLN.out] at k3
              replace k3 : w2.cell? ⟨w.heap.size, j * 4 + 3, none⟩ = some u3 := k3
              have f3 := hf2.frozen (j * 4 + 3)
              go_wp2
              go_roundw
              case rel => exact ⟨j + 1, by omega, by go_num, below_puts (bel_trans hB hb2) (Nat.le_refl _) (off := j * 4) (vs := [.int .i64 id, .int .i64 ((j : Nat) : Int), .int .i64 ((N : Nat) : Int), .slice Ad sub.length cd]), _, hP, hM⟩
              case measure => first | (simp [RowKit.intOf]; done) | (simp [RowKit.intOf]; omega)
            · exact absurd (show (n : Int) < (j : Int) * 20 + 20 by have h1 := HN0.out; omega) hend
          · obtain rfl : j = N := by omega
            have HA := Lib.hid (show (splL id msg).take j = splL id msg from List.take_of_length_le (Nat.le_of_eq HLL.out))
            rw [HA.out] at hf
            obtain ⟨F', hO, hF'⟩ := hf.done HLL.out (by omega)
            rw [HLL.out] at hO
            go_wp2
            go_ret2
            exact ⟨_, _, F', rfl, hO, New.cons hNF hF', hB⟩
  · obtain ⟨b, off, rfl, hb, -⟩ := hl.2.1 (by omega)
    go_enter Tryz.func32, Tryz.ntmps32
    go_wp2_with (first
      | (go_at_call 70; refine (i_isId_t _ _ g1 g2).mono ?_; rintro e w' ⟨rfl, rfl⟩)
      | (go_at_call 34; refine (i_PiecesFor _ _).mono ?_; rintro e w' ⟨rfl, rfl⟩; rw [HPF.out])
      | (at_make; refine wpList_mkS _ rfl (.tmp 20) (.tmp 20) _ rfl 37 i1 _ 4 Tryz.underlying51 hj0 hj1 hj2 N rfl rfl (by rw [hj3]; omega) (by simp only [maxLen]; omega) ?_; intro w1 cur hcur hsz hB1 hgr))
    go_loopw [24] (fun i wr => ∃ j : Nat, j ≤ N ∧ i = .int .i64 j ∧ Below w.heap.size w wr ∧ ∃ F, Fill tPiece wr w.heap.size 37 N ((splL id msg).take j) F ∧ New (w.heap.size + 1) F) (fun i _ => N - (RowKit.intOf i).toNat)
    case atStart => exact ⟨0, by omega, rfl, hB1, [], Fill.start hcur hsz, New.nil _⟩
    case round =>
      obtain ⟨j, hj, rfl, hB, F, hf, hNF⟩ := hrel
      by_cases hlt : j < N
      · have hl2 := splL_at (id := id) HN.out hlt
        have HT := Lib.hid (take_sn hl2)
        have HLN := Lib.hid (show ((splL id msg).take j).length = j from by rw [List.length_take, HLL.out]; omega)
        have HJW := Lib.hid (show (Lit.int .i64 (j : Int)).wf = true from WalkArith.wf_i64 ⟨by omega, by omega⟩)
        have jN : (j : Int) < (N : Int) := by omega
        have jj := HNN.out
        have hI := split_subS hl (j := j)
        have k1 : j * 20 < c := by (have h3 := HNN.out; omega)
        have k2 : ¬ c - j * 20 = 0 := by omega
        obtain ⟨sub, hsub⟩ : ∃ sub, (msg.drop (j * 20)).take 20 = sub := ⟨_, rfl⟩
        obtain ⟨m, hm⟩ : ∃ m, min 20 (n - j * 20) = m := ⟨_, rfl⟩
        rw [hsub] at HT
        rw [hsub, hm] at hI
        have i3 : (0 : Int) ≤ (j : Int) * 20 := by omega
        have i4 : (j : Int) * 20 ≤ (n : Int) := by omega
        have i5 : (n : Int) ≤ ((c : Nat) : Int) := by omega
        have p1 : IntKind.i64.wrap ((j : Int) * 20) = (j : Int) * 20 := IntWalk.i64_in _ (by omega)
        have i2 : IntKind.i64.wrap ((j : Int) * 20 + 20) = (j : Int) * 20 + 20 := IntWalk.i64_in _ (by omega)
        have t1 : ((j : Int) * 20).toNat = j * 20 := by omega
        have hm2 : m ≤ 20 := by omega
        by_cases hend : (n : Int) < (j : Int) * 20 + 20
        · skip
          have t2 : ((n : Int) - (j : Int) * 20).toNat = m := by omega
          have t3 : n - j * 20 = m := by omega
          have q7 : ¬ (j : Int) * 20 + 20 ≤ (n : Int) := by omega
          clear hl2 hsub hm jj
          go_wp2_with fail
          refine (i_copied4 (reach hI hB) (by omega)).mono ?_
          rintro e w2 ⟨v2, rfl, hO2, hb2⟩
          obtain ⟨Ad, cd, Fd, rfl, hOd, hNd⟩ := own_sl4 hO2
          obtain ⟨Fx, hOel, ex⟩ := makeOPiece (p := (id, ((j : Nat) : Int), ((N : Nat) : Int), sub)) HID.out HJW.out HNW.out hOd
          subst ex
          have hgs := hf.size
          have hf2 := hf.below hb2
          have hsz2 := hb2.size
          have hP := Fill.push (K := 4) hf2 (by rw [HLN.out]; exact hlt) hOel (hNF.not (by omega)) (hNd.not hgs) rfl
          rw [HLN.out, ← HT.out] at hP
          have hM : New (w.heap.size + 1) (F ++ Fx) := New.app hNF hNd (by omega) hf.lt
          obtain ⟨u0, k0⟩ := hf2.cell (K := 4) (j := 0) (by rw [HLN.out]; exact hlt) rfl (by omega)
          rw [HLN.out] at k0
          replace k0 : w2.cell? ⟨w.heap.size, j * 4, none⟩ = some u0 := k0
          have f0 := hf2.frozen (j * 4)
          obtain ⟨u1, k1⟩ := hf2.cell (K := 4) (j := 1) (by rw [HLN.out]; exact hlt) rfl (by omega)
          rw [HLN.out] at k1
          replace k1 : w2.cell? ⟨w.heap.size, j * 4 + 1, none⟩ = some u1 := k1
          have f1 := hf2.frozen (j * 4 + 1)
          obtain ⟨u2, k2⟩ := hf2.cell (K := 4) (j := 2) (by rw [HLN.out]; exact hlt) rfl (by omega)
          rw [HLN.out] at k2
          replace k2 : w2.cell? ⟨w.heap.size, j * 4 + 2, none⟩ = some u2 := k2
          have f2 := hf2.frozen (j * 4 + 2)
          obtain ⟨u3, k3⟩ := hf2.cell (K := 4) (j := 3) (by rw [HLN.out]; exact hlt) rfl (by omega)
          rw [HLN.out] at k3
          replace k3 : w2.cell? ⟨w.heap.size, j * 4 + 3, none⟩ = some u3 := k3
          have f3 := hf2.frozen (j * 4 + 3)
          go_wp2
          go_roundw
          case rel => exact ⟨j + 1, by omega, by go_num, below_puts (bel_trans hB hb2) (Nat.le_refl _) (off := j * 4) (vs := [.int .i64 id, .int .i64 ((j : Nat) : Int), .int .i64 ((N : Nat) : Int), .slice Ad sub.length cd]), _, hP, hM⟩
          case measure => first | (simp [RowKit.intOf]; done) | (simp [RowKit.intOf]; omega)
        · have i6 : (j : Int) * 20 + 20 ≤ ((c : Nat) : Int) := by omega
          have q7 : (j : Int) * 20 + 20 ≤ (n : Int) := by omega
          obtain rfl : m = 20 := by omega
          have t2 : ((j : Int) * 20 + 20 - (j : Int) * 20).toNat = 20 := by omega
          have t3 : j * 20 + 20 - j * 20 = 20 := by omega
          clear hl2 hsub hm jj
          go_wp2_with fail
          refine (i_copied4 (reach hI hB) (by omega)).mono ?_
          rintro e w2 ⟨v2, rfl, hO2, hb2⟩
          obtain ⟨Ad, cd, Fd, rfl, hOd, hNd⟩ := own_sl4 hO2
          obtain ⟨Fx, hOel, ex⟩ := makeOPiece (p := (id, ((j : Nat) : Int), ((N : Nat) : Int), sub)) HID.out HJW.out HNW.out hOd
          subst ex
          have hgs := hf.size
          have hf2 := hf.below hb2
          have hsz2 := hb2.size
          have hP := Fill.push (K := 4) hf2 (by rw [HLN.out]; exact hlt) hOel (hNF.not (by omega)) (hNd.not hgs) rfl
          rw [HLN.out, ← HT.out] at hP
          have hM : New (w.heap.size + 1) (F ++ Fx) := New.app hNF hNd (by omega) hf.lt
          obtain ⟨u0, k0⟩ := hf2.cell (K := 4) (j := 0) (by rw [HLN.out]; exact hlt) rfl (by omega)
          rw [HLN.out] at k0
          replace k0 : w2.cell? ⟨w.heap.size, j * 4, none⟩ = some u0 := k0
          have f0 := hf2.frozen (j * 4)
          obtain ⟨u1, k1⟩ := hf2.cell (K := 4) (j := 1) (by rw [HLN.out]; exact hlt) rfl (by omega)
          rw [HLN.out] at k1
          replace k1 : w2.cell? ⟨w.heap.size, j * 4 + 1, none⟩ = some u1 := k1
          have f1 := hf2.frozen (j * 4 + 1)
          obtain ⟨u2, k2⟩ := hf2.cell (K := 4) (j := 2) (by rw [HLN.out]; exact hlt) rfl (by omega)
          rw [HLN.out] at k2
          replace k2 : w2.cell? ⟨w.heap.size, j * 4 + 2, none⟩ = some u2 := k2
          have f2 := hf2.frozen (j * 4 + 2)
          obtain ⟨u3, k3⟩ := hf2.cell (K := 4) (j := 3) (by rw [HLN.out]; exact hlt) rfl (by omega)
          rw [HLN.out] at k3
          replace k3 : w2.cell? ⟨w.heap.size, j * 4 + 3, none⟩ = some u3 := k3
          have f3 := hf2.frozen (j * 4 + 3)
          go_wp2
          go_roundw
          case rel => exact ⟨j + 1, by omega, by go_num, below_puts (bel_trans hB hb2) (Nat.le_refl _) (off := j * 4) (vs := [.int .i64 id, .int .i64 ((j : Nat) : Int), .int .i64 ((N : Nat) : Int), .slice Ad sub.length cd]), _, hP, hM⟩
          case measure => first | (simp [RowKit.intOf]; done) | (simp [RowKit.intOf]; omega)
      · obtain rfl : j = N := by omega
        have HA := Lib.hid (show (splL id msg).take j = splL id msg from List.take_of_length_le (Nat.le_of_eq HLL.out))
        rw [HA.out] at hf
        obtain ⟨F', hO, hF'⟩ := hf.done HLL.out (by omega)
        rw [HLL.out] at hO
        go_wp2
        go_ret2
        exact ⟨_, _, F', rfl, hO, New.cons hNF hF', hB⟩
end Go.Proofs.YtaabmaoldhoinaaGreat
namespace Go.Proofs.YtaabmaoldhoinaaGreat
set_option maxRecDepth 100000
set_option linter.unusedVariables false
set_option linter.unusedSimpArgs false
open Go.ChangeShapes Go.WideShapes Go.ChangeAt Go.RowKit
theorem Own.keptZ {k : IntKind} {e : TypeId} {w w' : World} {base : Nat} {v : Value} {l : List Int} (h : Own k e w base v l) (hk : ∀ b, v.ownBlock = some b → w'.heap[b]? = w.heap[b]?) : Own k e w' base v l := by
  obtain ⟨⟨h1, h2⟩, h3⟩ := h
  refine ⟨⟨h1, ?_⟩, h3⟩
  rcases h2 with h2 | ⟨g, cap, cur, hv, hg, hh, r⟩
  · exact .inl h2
  · exact .inr ⟨g, cap, cur, hv, hg, (hk g (by rw [hv]; rfl)).trans hh, r⟩
theorem Own.raise {k : IntKind} {e : TypeId} {w : World} {base base' : Nat} {v : Value} {l : List Int} (h : Own k e w base v l) (hb : ∀ b, v.ownBlock = some b → base' ≤ b) : Own k e w base' v l := by
  obtain ⟨⟨h1, h2⟩, h3⟩ := h
  refine ⟨⟨h1, ?_⟩, h3⟩
  rcases h2 with h2 | ⟨g, cap, cur, hv, hg, r⟩
  · exact .inl h2
  · exact .inr ⟨g, cap, cur, hv, hb g (by rw [hv]; rfl), r⟩
theorem toList_some {b : Nat} {o : Option Nat} : b ∈ o.toList ↔ o = some b := by cases o <;> simp [eq_comm]
def tByZ : Ty (List Int) where
  k := 1
  R := (tSl .u8).R
  O := fun w cs l F => ∃ v, cs = [v] ∧ Own .u8 5 w 0 v l ∧ F = v.ownBlock.toList
  lenR := (tSl .u8).lenR
  lenO := fun h => by obtain ⟨v, rfl, -⟩ := h; rfl
  keep := (tSl .u8).keep
  up := (tSl .u8).up
  kept := fun h hk => by
    obtain ⟨v, rfl, hO, rfl⟩ := h
    exact ⟨v, rfl, hO.keptZ fun b hb => hk b (toList_some.2 hb), rfl⟩
  lt := fun h f hf => by
    obtain ⟨v, rfl, hO, rfl⟩ := h
    exact (hO.block (toList_some.1 hf)).2
  read := fun h => by
    obtain ⟨v, rfl, hO, rfl⟩ := h
    obtain ⟨F, hF, -⟩ := hO.tSl
    exact (tSl .u8).read hF
abbrev tPieceZ : Ty DPiece := tInt.prod (tInt.prod (tInt.prod tByZ))
theorem own_slZ {w : World} {base : Nat} {v : Value} {l : List Int} (h : Own .u8 5 w base v l) : ∃ A c F, v = .slice A l.length c ∧ tByZ.O w [.slice A l.length c] l F ∧ New base F := by
  obtain ⟨A, c, rfl, -⟩ := h.shape
  refine ⟨A, c, _, rfl, ⟨_, rfl, h.lower (Nat.zero_le _), rfl⟩, ?_, fun f hf => (h.block (toList_some.1 hf)).1⟩
  cases Value.ownBlock (.slice A l.length c) <;> simp
theorem makeOPieceZ {w : World} {p : DPiece} {v3 : Value} {F3 : List Nat} (h0 : (Lit.int .i64 (p.1)).wf = true) (h1 : (Lit.int .i64 (p.2.1)).wf = true) (h2 : (Lit.int .i64 (p.2.2.1)).wf = true) (h3 : tByZ.O w [v3] (p.2.2.2) F3) : ∃ F, tPieceZ.O w [.int .i64 (p.1), .int .i64 (p.2.1), .int .i64 (p.2.2.1), v3] p F ∧ F = F3 := ⟨_, ⟨_, _, _, _, rfl, rfl, ⟨rfl, h0, rfl⟩, ⟨_, _, _, _, rfl, rfl, ⟨rfl, h1, rfl⟩, ⟨_, _, _, _, rfl, rfl, ⟨rfl, h2, rfl⟩, h3⟩⟩⟩, by simp⟩
theorem openOPieceZ {w : World} {cs : List Value} {p : DPiece} {F : List Nat} (h : tPieceZ.O w cs p F) : ∃ v3, cs = [.int .i64 (p.1), .int .i64 (p.2.1), .int .i64 (p.2.2.1), v3] ∧ Own .u8 5 w 0 v3 p.2.2.2 ∧ ∀ b, v3.ownBlock = some b → b ∈ F := by
  obtain ⟨ca1, cb1, Fa1, Fb1, rfl, rfl, ha1, hb1⟩ := h
  obtain ⟨rfl, hi2, rfl⟩ := ha1
  obtain ⟨ca3, cb3, Fa3, Fb3, rfl, rfl, ha3, hb3⟩ := hb1
  obtain ⟨rfl, hi4, rfl⟩ := ha3
  obtain ⟨ca5, cb5, Fa5, Fb5, rfl, rfl, ha5, hb5⟩ := hb3
  obtain ⟨rfl, hi6, rfl⟩ := ha5
  obtain ⟨v, rfl, hO, rfl⟩ := hb5
  exact ⟨v, rfl, hO, fun b hb => by simpa using hb⟩
set_option maxHeartbeats 4000000 in
theorem s_SplitZ {w : World} {id : Int} {A : Option Addr} {n c : Nat} {msg : List Int} (hid : (Lit.int .i64 id).wf = true) (h : tBy.R w w.heap.size [.slice A n c] msg) (hz : msg.length ≤ 1048576) :
    Calls Tryz.prog 132 #[.int .i64 id, .slice A n c] w fun e w' => ∃ A' c' F, e = .returned (.tuple #[.slice A' (fSpl id msg).length c', .bool (decide (SpOk id msg))]) ∧ tPieceZ.row.O w' [.slice A' (fSpl id msg).length c'] (fSpl id msg) F ∧ New w.heap.size F ∧ Below w.heap.size w w' := by
  obtain ⟨i0, hi0, hz0, hz1, hz2⟩ := info_parts info_cb
  obtain ⟨i1, hj0, hj1, hj2, hj3⟩ := info_parts info_Piece
  obtain ⟨hl, hnc, hcm⟩ := slR_ints h
  have hlen := hl.1
  by_cases hs : SpOk id msg
  rotate_left
  · rw [fSpl_f hs, decide_eq_false hs]
    have hnil : tPieceZ.row.O w [.slice none 0 0] [] [] := .inl ⟨none, 0, rfl, by omega, rfl, rfl⟩
    by_cases h1 : id < 0
    · clear hs
      go_enter Tryz.func132, Tryz.ntmps132
      go_wp2
      go_ret2
      first | exact ⟨none, 0, [], rfl, hnil, New.nil _, (belx)⟩ | exact ⟨none, 0, rfl, [], hnil, New.nil _, (belx)⟩
    by_cases h2 : 255 < id
    · clear hs
      go_enter Tryz.func132, Tryz.ntmps132
      go_wp2
      go_ret2
      first | exact ⟨none, 0, [], rfl, hnil, New.nil _, (belx)⟩ | exact ⟨none, 0, rfl, [], hnil, New.nil _, (belx)⟩
    have h3 : (160 : Int) < (n : Int) := by unfold SpOk at hs; omega
    clear hs
    go_enter Tryz.func132, Tryz.ntmps132
    go_wp2
    go_ret2
    first | exact ⟨none, 0, [], rfl, hnil, New.nil _, (belx)⟩ | exact ⟨none, 0, rfl, [], hnil, New.nil _, (belx)⟩
  rw [fSpl_t hs, decide_eq_true hs]
  obtain ⟨⟨g1, g2⟩, g3⟩ := hs
  have hn : n ≤ 160 := by omega
  have q3 : ¬ (160 : Int) < (n : Int) := by omega
  obtain ⟨N, hN⟩ : ∃ N, splN msg.length = N := ⟨_, rfl⟩
  have hN8 : 1 ≤ N ∧ N ≤ 8 := by rw [← hN]; exact splN_le g3
  have HN := Lib.hid hN
  have HID := Lib.hid hid
  have HL := Lib.hid hlen
  have HNW := Lib.hid (show (Lit.int .i64 (N : Int)).wf = true from WalkArith.wf_i64 ⟨by omega, by omega⟩)
  have HLL := Lib.hid (show (splL id msg).length = N from by rw [splL_len, hN])
  have hNn : (n = 0 ∧ N = 1) ∨ (1 ≤ n ∧ N = (n + 19) / 20) := by
    rw [hlen] at hN; unfold splN at hN; split at hN <;> omega
  clear hid hlen g3 hz hN
  rw [HLL.out]
  have q5 : n = 0 ∨ (((n : Int) + 20 - 1) / 20 = (N : Int) ∧ ((N : Int) == 0) = false) := by
    rcases hNn with h | h
    · exact .inl h.1
    · exact .inr ⟨by omega, by simp; omega⟩
  have d1 : decide (id < 0) = false := decide_eq_false (by omega)
  have d2 : decide (255 < id) = false := decide_eq_false (by omega)
  rcases q5 with rfl | ⟨q5, q6⟩
  · obtain rfl : N = 1 := by omega
    go_enter Tryz.func132, Tryz.ntmps132
    go_wp2_with fail
    go_loopw [7, 8] (fun v i wr => ∃ (j : Nat) (F : List Nat), j ≤ 1 ∧ i = .int .i64 j ∧ GrowO tPieceZ 37 wr w.heap.size v ((splL id msg).take j) F ∧ Below w.heap.size w wr) (fun _ i _ => 1 - (RowKit.intOf i).toNat)
    case atStart => exact ⟨0, [], by omega, rfl, GrowO.nil, (belx)⟩
    case round =>
      obtain ⟨j, F, hj, rfl, hG, hB⟩ := hrel
      by_cases hlt : j < 1
      · obtain rfl : j = 0 := by omega
        have hl2 := splL_at (id := id) HN.out hlt
        have HT := Lib.hid (take_sn hl2)
        have HLN := Lib.hid (show ((splL id msg).take 0).length = 0 from rfl)
        have HJW := Lib.hid (show (Lit.int .i64 ((0 : Nat) : Int)).wf = true from rfl)
        obtain ⟨sub, hsub⟩ : ∃ sub : List Int, sub = [] := ⟨_, rfl⟩
        have HSL := Lib.hid (show sub.length = 0 from by rw [hsub]; rfl)
        have HSW := Lib.hid (show ∀ x ∈ sub, (Lit.int .u8 x).wf = true from by rw [hsub]; simp)
        have HSB := Lib.hid hsub
        have hm0 : (msg.drop (0 * 20)).take 20 = sub := by rw [hsub, List.eq_nil_of_length_eq_zero HL.out]; rfl
        rw [hm0] at HT
        clear hl2 hsub hm0 hlt
        rcases A with _ | a
        · have hE : (wr.alloc (.cells #[] 5)).ownsRow wr.heap.size 5 1 (.slice (some ⟨wr.heap.size, 0, none⟩) 0 0) 0 [] := empty4 wr 5
          have hS : Src (wr.alloc (.cells #[] 5)) 1 none 0 (sub.map (Value.int .u8)) := by rw [HSB.out]; exact Src.nil _ _ _
          have hOwn := fun b hb => (GrowO.row hG).choose_spec.1.lt b hb
          have hlt2 := hG.lt
          have zB := hB.size
          go_wp2_with (first
            | (at_builtin; refine wpList_app _ rfl (.tmp 46) (.tmp 51) _ rfl wr.heap.size 5 i0 _ 1 1 Tryz.underlying26 hi0 hz0 hz1 hz2 rfl (by omega) (.slice (some ⟨wr.heap.size, 0, none⟩) 0 0) 0 [] rfl hE none 0 _ (sub.map (Value.int .u8)) rfl hS (one_ints _ _) (by simp only [maxLen]; omega) (by omega) (by simp; done) ?_; intro v1 w1 hown hgr hat; obtain ⟨Ad, cd, Fd, rfl, hOd, hNd⟩ := own_slZ (Own.of (n := 0 + 0) (by simpa using hown) HSW.out); have hs1 : Below wr.heap.size wr w1 := Below.grown (w := wr.alloc (.cells #[] 5)) (belx) hgr (by simp) (fun b hb => by have e := Option.some.inj (show some wr.heap.size = some b from hb); omega))
            | (at_builtin; have hBx : Below wr.heap.size wr (w1.alloc (.cells [.int .i64 id, .int .i64 (0 : Int), .int .i64 (1 : Int), .slice Ad sub.length cd].toArray 37)) := bel_alloc hs1 _; have tz : (Value.agg #[Value.int .i64 0, Value.int .i64 0, Value.int .i64 0, Value.slice none 0 0]).cells.size = 4 := (by first | rfl | (simp [Value.cells]; done)); have t1 : ((splL id msg).take 0).length + 1 ≤ maxLen := (by simp only [maxLen]; have := HLN.out; omega); have t2 : ((splL id msg).take 0).length + 1 ≤ 9 := (by have := HLN.out; omega); have t3 := hBx.size; have hOx : tByZ.O (w1.alloc (.cells [.int .i64 id, .int .i64 (0 : Int), .int .i64 (1 : Int), .slice Ad sub.length cd].toArray 37)) [.slice Ad sub.length cd] sub Fd := Ty.below (t := tByZ) hOd (belx); obtain ⟨Fx, hOel, ex⟩ := makeOPieceZ (p := (id, (0 : Int), (1 : Int), sub)) HID.out HJW.out HNW.out hOx; subst ex; refine GrowO.push rfl (.tmp 42) (.tmp 54) _ rfl i1 _ 4 48 Tryz.underlying51 hj0 hj1 hj2 hj3 tz (by omega) rfl rfl (hG.below hBx) w1.heap.size [.int .i64 id, .int .i64 (0 : Int), .int .i64 (1 : Int), .slice Ad sub.length cd] (id, (0 : Int), (1 : Int), sub) rfl (Box.new w1 37 _) hOel (hNd.lower (by omega)) (fun f h1 h2 => by have := hNd.2 _ h1; have := hlt2 f h2; omega) (fun b hb hx => by have := (hOwn b hb).2; have := hNd.2 _ hx; omega) (one_piece _ _ _ _ _ _) (by omega) t1 (by omega) ?_; intro v2 w2 hG2 hgr2; have hBf : Below w.heap.size w w2 := Below.grown (w := (w1.alloc (.cells [.int .i64 id, .int .i64 (0 : Int), .int .i64 (1 : Int), .slice Ad sub.length cd].toArray 37))) (bel_trans hB hBx) hgr2 (by omega) (fun b hb => (hOwn b hb).1)))
          go_roundw
          case rel => exact ⟨0 + 1, _, by omega, by go_num, by rw [HT.out]; exact hG2, hBf⟩
          case measure => first | (simp [RowKit.intOf]; done) | (simp [RowKit.intOf]; omega)
        · have hE : (wr.alloc (.cells #[] 5)).ownsRow wr.heap.size 5 1 (.slice (some ⟨wr.heap.size, 0, none⟩) 0 0) 0 [] := empty4 wr 5
          have hS : Src (wr.alloc (.cells #[] 5)) 1 (some a) 0 (sub.map (Value.int .u8)) := by rw [HSB.out]; exact Src.nil _ _ _
          have hOwn := fun b hb => (GrowO.row hG).choose_spec.1.lt b hb
          have hlt2 := hG.lt
          have zB := hB.size
          go_wp2_with (first
            | (at_builtin; refine wpList_app _ rfl (.tmp 46) (.tmp 51) _ rfl wr.heap.size 5 i0 _ 1 1 Tryz.underlying26 hi0 hz0 hz1 hz2 rfl (by omega) (.slice (some ⟨wr.heap.size, 0, none⟩) 0 0) 0 [] rfl hE (some a) 0 _ (sub.map (Value.int .u8)) rfl hS (one_ints _ _) (by simp only [maxLen]; omega) (by omega) (by simp; done) ?_; intro v1 w1 hown hgr hat; obtain ⟨Ad, cd, Fd, rfl, hOd, hNd⟩ := own_slZ (Own.of (n := 0 + 0) (by simpa using hown) HSW.out); have hs1 : Below wr.heap.size wr w1 := Below.grown (w := wr.alloc (.cells #[] 5)) (belx) hgr (by simp) (fun b hb => by have e := Option.some.inj (show some wr.heap.size = some b from hb); omega))
            | (at_builtin; have hBx : Below wr.heap.size wr (w1.alloc (.cells [.int .i64 id, .int .i64 (0 : Int), .int .i64 (1 : Int), .slice Ad sub.length cd].toArray 37)) := bel_alloc hs1 _; have tz : (Value.agg #[Value.int .i64 0, Value.int .i64 0, Value.int .i64 0, Value.slice none 0 0]).cells.size = 4 := (by first | rfl | (simp [Value.cells]; done)); have t1 : ((splL id msg).take 0).length + 1 ≤ maxLen := (by simp only [maxLen]; have := HLN.out; omega); have t2 : ((splL id msg).take 0).length + 1 ≤ 9 := (by have := HLN.out; omega); have t3 := hBx.size; have hOx : tByZ.O (w1.alloc (.cells [.int .i64 id, .int .i64 (0 : Int), .int .i64 (1 : Int), .slice Ad sub.length cd].toArray 37)) [.slice Ad sub.length cd] sub Fd := Ty.below (t := tByZ) hOd (belx); obtain ⟨Fx, hOel, ex⟩ := makeOPieceZ (p := (id, (0 : Int), (1 : Int), sub)) HID.out HJW.out HNW.out hOx; subst ex; refine GrowO.push rfl (.tmp 42) (.tmp 54) _ rfl i1 _ 4 48 Tryz.underlying51 hj0 hj1 hj2 hj3 tz (by omega) rfl rfl (hG.below hBx) w1.heap.size [.int .i64 id, .int .i64 (0 : Int), .int .i64 (1 : Int), .slice Ad sub.length cd] (id, (0 : Int), (1 : Int), sub) rfl (Box.new w1 37 _) hOel (hNd.lower (by omega)) (fun f h1 h2 => by have := hNd.2 _ h1; have := hlt2 f h2; omega) (fun b hb hx => by have := (hOwn b hb).2; have := hNd.2 _ hx; omega) (one_piece _ _ _ _ _ _) (by omega) t1 (by omega) ?_; intro v2 w2 hG2 hgr2; have hBf : Below w.heap.size w w2 := Below.grown (w := (w1.alloc (.cells [.int .i64 id, .int .i64 (0 : Int), .int .i64 (1 : Int), .slice Ad sub.length cd].toArray 37))) (bel_trans hB hBx) hgr2 (by omega) (fun b hb => (hOwn b hb).1)))
          go_roundw
          case rel => exact ⟨0 + 1, _, by omega, by go_num, by rw [HT.out]; exact hG2, hBf⟩
          case measure => first | (simp [RowKit.intOf]; done) | (simp [RowKit.intOf]; omega)
      · obtain rfl : j = 1 := by omega
        have HA := Lib.hid (show (splL id msg).take 1 = splL id msg from List.take_of_length_le (Nat.le_of_eq HLL.out))
        rw [HA.out] at hG
        obtain ⟨A3, c3, F3, hv, hO3, hN3⟩ := hG.done
        rw [HLL.out] at hv hO3
        subst hv
        go_wp2
        go_ret2
        exact ⟨A3, c3, F3, rfl, hO3, hN3, hB⟩
  · go_enter Tryz.func132, Tryz.ntmps132
    go_wp2_with fail
    go_loopw [7, 8] (fun v i wr => ∃ (j : Nat) (F : List Nat), j ≤ N ∧ i = .int .i64 j ∧ GrowO tPieceZ 37 wr w.heap.size v ((splL id msg).take j) F ∧ Below w.heap.size w wr) (fun _ i _ => N - (RowKit.intOf i).toNat)
    case atStart => exact ⟨0, [], by omega, rfl, GrowO.nil, (belx)⟩
    case round =>
      obtain ⟨j, F, hj, rfl, hG, hB⟩ := hrel
      by_cases hlt : j < N
      · have hl2 := splL_at (id := id) HN.out hlt
        have HT := Lib.hid (take_sn hl2)
        have HLN := Lib.hid (show ((splL id msg).take j).length = j from by rw [List.length_take, HLL.out]; omega)
        have HJW := Lib.hid (show (Lit.int .i64 (j : Int)).wf = true from WalkArith.wf_i64 ⟨by omega, by omega⟩)
        obtain ⟨b, off, rfl, hb, -⟩ := hl.2.1 (by omega)
        obtain ⟨m, hm, hm20⟩ : ∃ m, m = min 20 (n - j * 20) ∧ j * 20 + m ≤ n := ⟨_, rfl, by omega⟩
        obtain ⟨sub, hsub⟩ : ∃ sub, (msg.drop (j * 20)).take 20 = sub := ⟨_, rfl⟩
        have hmid : (msg.drop (j * 20)).take m = sub := by
          rw [← hsub]
          by_cases h20 : m = 20
          · rw [h20]
          · rw [List.take_of_length_le (by rw [List.length_drop, HL.out]; omega), List.take_of_length_le (by rw [List.length_drop, HL.out]; omega)]
        have hI := ints_mid hl hm20
        rw [hmid] at hI
        rw [hsub] at HT
        have HSL := Lib.hid hI.1
        have HSW := Lib.hid hI.2.2
        clear hl2 hsub hmid
        have p1 : IntKind.i64.wrap ((j : Int) * 20) = (j : Int) * 20 := IntWalk.i64_in _ (by omega)
        have i2 : IntKind.i64.wrap (((j : Int) + 1) * 20) = ((j : Int) + 1) * 20 := IntWalk.i64_in _ (by omega)
        have i3 : (0 : Int) ≤ (j : Int) * 20 := by omega
        have i4 : (j : Int) * 20 ≤ (n : Int) := by omega
        have i5 : (n : Int) ≤ (c : Int) := by omega
        by_cases hend : (n : Int) < ((j : Int) + 1) * 20
        · have t1 : ((j : Int) * 20).toNat = j * 20 := by omega
          have t2 : ((n : Int) - (j : Int) * 20).toNat = m := by omega
          have t3 : n - j * 20 = m := by omega
          clear hm
          have hE : (wr.alloc (.cells #[] 5)).ownsRow wr.heap.size 5 1 (.slice (some ⟨wr.heap.size, 0, none⟩) 0 0) 0 [] := empty4 wr 5
          have hS : Src (wr.alloc (.cells #[] 5)) 1 (some ⟨b, off + j * 20, none⟩) m (sub.map (Value.int .u8)) := Src.of_ints (reach (reach hI hB) (belx))
          have hOwn := fun b hb => (GrowO.row hG).choose_spec.1.lt b hb
          have hlt2 := hG.lt
          have zB := hB.size
          go_wp2_with (first
            | (at_builtin; refine wpList_app _ rfl (.tmp 46) (.tmp 51) _ rfl wr.heap.size 5 i0 _ 1 1 Tryz.underlying26 hi0 hz0 hz1 hz2 rfl (by omega) (.slice (some ⟨wr.heap.size, 0, none⟩) 0 0) 0 [] rfl hE (some ⟨b, off + j * 20, none⟩) m _ (sub.map (Value.int .u8)) rfl hS (one_ints _ _) (by simp only [maxLen]; omega) (by omega) (by simp; done) ?_; intro v1 w1 hown hgr hat; obtain ⟨Ad, cd, Fd, rfl, hOd, hNd⟩ := own_slZ (Own.of (n := 0 + m) (by simpa using hown) HSW.out); have hs1 : Below wr.heap.size wr w1 := Below.grown (w := wr.alloc (.cells #[] 5)) (belx) hgr (by simp) (fun b hb => by have e := Option.some.inj (show some wr.heap.size = some b from hb); omega))
            | (at_builtin; have hBx : Below wr.heap.size wr (w1.alloc (.cells [.int .i64 id, .int .i64 (j : Int), .int .i64 (N : Int), .slice Ad sub.length cd].toArray 37)) := bel_alloc hs1 _; have tz : (Value.agg #[Value.int .i64 0, Value.int .i64 0, Value.int .i64 0, Value.slice none 0 0]).cells.size = 4 := (by first | rfl | (simp [Value.cells]; done)); have t1 : ((splL id msg).take j).length + 1 ≤ maxLen := (by simp only [maxLen]; have := HLN.out; omega); have t2 : ((splL id msg).take j).length + 1 ≤ 9 := (by have := HLN.out; omega); have t3 := hBx.size; have hOx : tByZ.O (w1.alloc (.cells [.int .i64 id, .int .i64 (j : Int), .int .i64 (N : Int), .slice Ad sub.length cd].toArray 37)) [.slice Ad sub.length cd] sub Fd := Ty.below (t := tByZ) hOd (belx); obtain ⟨Fx, hOel, ex⟩ := makeOPieceZ (p := (id, (j : Int), (N : Int), sub)) HID.out HJW.out HNW.out hOx; subst ex; refine GrowO.push rfl (.tmp 42) (.tmp 54) _ rfl i1 _ 4 48 Tryz.underlying51 hj0 hj1 hj2 hj3 tz (by omega) rfl rfl (hG.below hBx) w1.heap.size [.int .i64 id, .int .i64 (j : Int), .int .i64 (N : Int), .slice Ad sub.length cd] (id, (j : Int), (N : Int), sub) rfl (Box.new w1 37 _) hOel (hNd.lower (by omega)) (fun f h1 h2 => by have := hNd.2 _ h1; have := hlt2 f h2; omega) (fun b hb hx => by have := (hOwn b hb).2; have := hNd.2 _ hx; omega) (one_piece _ _ _ _ _ _) (by omega) t1 (by omega) ?_; intro v2 w2 hG2 hgr2; have hBf : Below w.heap.size w w2 := Below.grown (w := (w1.alloc (.cells [.int .i64 id, .int .i64 (j : Int), .int .i64 (N : Int), .slice Ad sub.length cd].toArray 37))) (bel_trans hB hBx) hgr2 (by omega) (fun b hb => (hOwn b hb).1)))
          go_roundw
          case rel => exact ⟨j + 1, _, by omega, by go_num, by rw [HT.out]; exact hG2, hBf⟩
          case measure => first | (simp [RowKit.intOf]; done) | (simp [RowKit.intOf]; omega)
        · have i6 : ((j : Int) + 1) * 20 ≤ (c : Int) := by omega
          have t1 : ((j : Int) * 20).toNat = j * 20 := by omega
          obtain rfl : m = 20 := by omega
          have t2 : (((j : Int) + 1) * 20 - (j : Int) * 20).toNat = 20 := by omega
          have h20 : (j + 1) * 20 - j * 20 = 20 := by omega
          have HH := Lib.hid (show Ints .u8 w w.heap.size (some ⟨b, off + j * 20, none⟩) ((j + 1) * 20 - j * 20) sub from by rw [h20]; exact hI)
          have H20 := Lib.hid h20
          clear hm t2 h20 hI
          have hE : (wr.alloc (.cells #[] 5)).ownsRow wr.heap.size 5 1 (.slice (some ⟨wr.heap.size, 0, none⟩) 0 0) 0 [] := empty4 wr 5
          have hS : Src (wr.alloc (.cells #[] 5)) 1 (some ⟨b, off + j * 20, none⟩) ((j + 1) * 20 - j * 20) (sub.map (Value.int .u8)) := Src.of_ints (reach (reach HH.out hB) (belx))
          have hOwn := fun b hb => (GrowO.row hG).choose_spec.1.lt b hb
          have hlt2 := hG.lt
          have zB := hB.size
          go_wp2_with (first
            | (at_builtin; refine wpList_app _ rfl (.tmp 46) (.tmp 51) _ rfl wr.heap.size 5 i0 _ 1 1 Tryz.underlying26 hi0 hz0 hz1 hz2 rfl (by omega) (.slice (some ⟨wr.heap.size, 0, none⟩) 0 0) 0 [] rfl hE (some ⟨b, off + j * 20, none⟩) ((j + 1) * 20 - j * 20) _ (sub.map (Value.int .u8)) rfl hS (one_ints _ _) (by simp only [maxLen]; omega) (by omega) (by simp; done) ?_; intro v1 w1 hown hgr hat; obtain ⟨Ad, cd, Fd, rfl, hOd, hNd⟩ := own_slZ (Own.of (n := 0 + ((j + 1) * 20 - j * 20)) (by simpa using hown) HSW.out); have hs1 : Below wr.heap.size wr w1 := Below.grown (w := wr.alloc (.cells #[] 5)) (belx) hgr (by simp) (fun b hb => by have e := Option.some.inj (show some wr.heap.size = some b from hb); omega))
            | (at_builtin; have hBx : Below wr.heap.size wr (w1.alloc (.cells [.int .i64 id, .int .i64 (j : Int), .int .i64 (N : Int), .slice Ad sub.length cd].toArray 37)) := bel_alloc hs1 _; have tz : (Value.agg #[Value.int .i64 0, Value.int .i64 0, Value.int .i64 0, Value.slice none 0 0]).cells.size = 4 := (by first | rfl | (simp [Value.cells]; done)); have t1 : ((splL id msg).take j).length + 1 ≤ maxLen := (by simp only [maxLen]; have := HLN.out; omega); have t2 : ((splL id msg).take j).length + 1 ≤ 9 := (by have := HLN.out; omega); have t3 := hBx.size; have hOx : tByZ.O (w1.alloc (.cells [.int .i64 id, .int .i64 (j : Int), .int .i64 (N : Int), .slice Ad sub.length cd].toArray 37)) [.slice Ad sub.length cd] sub Fd := Ty.below (t := tByZ) hOd (belx); obtain ⟨Fx, hOel, ex⟩ := makeOPieceZ (p := (id, (j : Int), (N : Int), sub)) HID.out HJW.out HNW.out hOx; subst ex; refine GrowO.push rfl (.tmp 42) (.tmp 54) _ rfl i1 _ 4 48 Tryz.underlying51 hj0 hj1 hj2 hj3 tz (by omega) rfl rfl (hG.below hBx) w1.heap.size [.int .i64 id, .int .i64 (j : Int), .int .i64 (N : Int), .slice Ad sub.length cd] (id, (j : Int), (N : Int), sub) rfl (Box.new w1 37 _) hOel (hNd.lower (by omega)) (fun f h1 h2 => by have := hNd.2 _ h1; have := hlt2 f h2; omega) (fun b hb hx => by have := (hOwn b hb).2; have := hNd.2 _ hx; omega) (one_piece _ _ _ _ _ _) (by omega) t1 (by omega) ?_; intro v2 w2 hG2 hgr2; have hBf : Below w.heap.size w w2 := Below.grown (w := (w1.alloc (.cells [.int .i64 id, .int .i64 (j : Int), .int .i64 (N : Int), .slice Ad sub.length cd].toArray 37))) (bel_trans hB hBx) hgr2 (by omega) (fun b hb => (hOwn b hb).1)))
          go_roundw
          case rel => exact ⟨j + 1, _, by omega, by go_num, by rw [HT.out]; exact hG2, hBf⟩
          case measure => first | (simp [RowKit.intOf]; done) | (simp [RowKit.intOf]; omega)
      · obtain rfl : j = N := by omega
        have HA := Lib.hid (show (splL id msg).take j = splL id msg from List.take_of_length_le (Nat.le_of_eq HLL.out))
        rw [HA.out] at hG
        obtain ⟨A3, c3, F3, hv, hO3, hN3⟩ := hG.done
        rw [HLL.out] at hv hO3
        subst hv
        go_wp2
        go_ret2
        exact ⟨A3, c3, F3, rfl, hO3, hN3, hB⟩
end Go.Proofs.YtaabmaoldhoinaaGreat
namespace Go.Proofs.YtaabmaoldhoinaaGreat
set_option maxRecDepth 100000
set_option linter.unusedVariables false
set_option linter.unusedSimpArgs false
open Go.ChangeShapes Go.WideShapes Go.ChangeAt Go.RowKit
def tIsZ : Ty (List Int) where
  k := 1
  R := (tSl .i64).R
  O := fun w cs l F => ∃ v, cs = [v] ∧ Own .i64 3 w 0 v l ∧ F = v.ownBlock.toList
  lenR := (tSl .i64).lenR
  lenO := fun h => by obtain ⟨v, rfl, -⟩ := h; rfl
  keep := (tSl .i64).keep
  up := (tSl .i64).up
  kept := fun h hk => by
    obtain ⟨v, rfl, hO, rfl⟩ := h
    exact ⟨v, rfl, hO.keptZ fun b hb => hk b (toList_some.2 hb), rfl⟩
  lt := fun h f hf => by
    obtain ⟨v, rfl, hO, rfl⟩ := h
    exact (hO.block (toList_some.1 hf)).2
  read := fun h => by
    obtain ⟨v, rfl, hO, rfl⟩ := h
    obtain ⟨F, hF, -⟩ := hO.tSl
    exact (tSl .i64).read hF
theorem own_slI {w : World} {base : Nat} {v : Value} {l : List Int} (h : Own .i64 3 w base v l) : ∃ A c F, v = .slice A l.length c ∧ tIsZ.O w [.slice A l.length c] l F ∧ New base F := by
  obtain ⟨A, c, rfl, -⟩ := h.shape
  refine ⟨A, c, _, rfl, ⟨_, rfl, h.lower (Nat.zero_le _), rfl⟩, ?_, fun f hf => (h.block (toList_some.1 hf)).1⟩
  cases Value.ownBlock (.slice A l.length c) <;> simp
set_option maxHeartbeats 2000000 in
theorem s_DeskOwnG {w : World} {cs : List Value} {p : DDesk} (h : tDesk.R w w.heap.size cs p) (hz : szDesk p ≤ 1048576) :
    Calls Tryz.prog 40 #[.agg cs.toArray] w fun e w' => ∃ v0 v1 F0 FD K, e = .returned (.agg #[v0, v1]) ∧ GrowO tWhole 53 w' K v0 p.1 F0 ∧ tIsZ.O w' [v1] p.2 FD ∧ New w.heap.size FD ∧ (∀ f ∈ FD, f < K) ∧ w.heap.size ≤ K ∧ K ≤ w'.heap.size ∧ Below w.heap.size w w' := by
  obtain ⟨ib, hi0, hz0, hz1, hz2⟩ := info_parts info_ci
  obtain ⟨i0i, hj00, hj10, hj20, hj30⟩ := info_parts info_Whole
  obtain ⟨A0, n0, c0, A1, n1, c1, rfl, -, -, -, r0, -, -, -, r1⟩ := openDesk h
  have n0le : n0 ≤ 1048576 := by have := rsz_le (s := szWhole) (p.1); have := (rowR_len r0).1; unfold szDesk at hz; omega
  have HL0 := Lib.hid (rowR_len r0).1
  have HSZ0 := Lib.hid (show ∀ (i : Nat) (a : DWhole), (p.1)[i]? = some a → szWhole a ≤ 1048576 from fun i a ha => by have := rsz_step (s := szWhole) ha; unfold szDesk at hz; omega)
  have hI1 := (slR_ints r1).1
  have hn1 : n1 ≤ 1048576 := by have := hI1.1; unfold szDesk at hz; omega
  have hE : (((w.alloc (.cells #[.slice A0 n0 c0, .slice A1 n1 c1] 33)).alloc (.cells #[.slice none 0 0, .slice none 0 0] 33)).alloc (.cells #[] 3)).ownsRow (w.heap.size + 2) 3 1 (.slice (some ⟨w.heap.size + 2, 0, none⟩) 0 0) 0 [] := by simpa using empty9 ((w.alloc (.cells #[.slice A0 n0 c0, .slice A1 n1 c1] 33)).alloc (.cells #[.slice none 0 0, .slice none 0 0] 33)) 3
  have hSr : Src (((w.alloc (.cells #[.slice A0 n0 c0, .slice A1 n1 c1] 33)).alloc (.cells #[.slice none 0 0, .slice none 0 0] 33)).alloc (.cells #[] 3)) 1 A1 n1 (p.2.map (Value.int .i64)) := Src.of_ints (reach hI1 (belx))
  go_enter Tryz.func40, Tryz.ntmps40
  go_wp2_with (at_builtin; refine wpList_app _ rfl (.tmp 5) (.tmp 7) _ rfl (w.heap.size + 2) 3 ib _ 1 8 Tryz.underlying23 hi0 hz0 hz1 hz2 rfl (by omega) (.slice (some ⟨w.heap.size + 2, 0, none⟩) 0 0) 0 [] rfl hE _ n1 c1 (p.2.map (Value.int .i64)) rfl hSr (one_ints _ _) (by simp only [maxLen]; omega) (by omega) (by simp; done) ?_; intro v1 wd hown hgr hat; obtain ⟨AD, cD, FD, rfl, hOd, hNd⟩ := own_slI (Own.of (n := 0 + n1) (by simpa using hown) hI1.2.2); have hs1 : Below w.heap.size w wd := Below.grown (w := (((w.alloc (.cells #[.slice A0 n0 c0, .slice A1 n1 c1] 33)).alloc (.cells #[.slice none 0 0, .slice none 0 0] 33)).alloc (.cells #[] 3))) (belx) hgr (by first | (simp; done) | (simp; omega)) (fun b hb => by have e := Option.some.inj (show some (w.heap.size + 2) = some b from hb); omega); have z1 : w.heap.size + 3 ≤ wd.heap.size := (by have := hgr.size; simpa using this); have P1 : Box wd w.heap.size 33 #[.slice A0 n0 c0, .slice A1 n1 c1] := Box.grown (w := (((w.alloc (.cells #[.slice A0 n0 c0, .slice A1 n1 c1] 33)).alloc (.cells #[.slice none 0 0, .slice none 0 0] 33)).alloc (.cells #[] 3))) (((Box.new w _ _).alloc _).alloc _) hgr (fun e => by have e := Option.some.inj (show some w.heap.size = some (w.heap.size + 2) from e); omega); have R1 : Box wd (w.heap.size + 1) 33 #[.slice none 0 0, .slice none 0 0] := Box.grown (w := (((w.alloc (.cells #[.slice A0 n0 c0, .slice A1 n1 c1] 33)).alloc (.cells #[.slice none 0 0, .slice none 0 0] 33)).alloc (.cells #[] 3))) (Box.alloc (by simpa using Box.new (w.alloc (.cells #[.slice A0 n0 c0, .slice A1 n1 c1] 33)) 33 #[.slice none 0 0, .slice none 0 0]) _) hgr (fun e => by have e := Option.some.inj (show some (w.heap.size + 1) = some (w.heap.size + 2) from e); omega); have prDl := tIsZ.lt hOd; have prDo : wd.heap.size ∉ FD := (fun hx => by have := prDl _ hx; omega); have p10 := P1.cell 0; have p11 := P1.cell 1; have PS := P1.alloc (.cells #[.slice none 0 0, .slice AD p.2.length cD] 33); have RS := R1.alloc (.cells #[.slice none 0 0, .slice AD p.2.length cD] 33); have OS := Box.new wd 33 #[.slice none 0 0, .slice AD p.2.length cD]; have prD : tIsZ.O (wd.alloc (.cells #[.slice none 0 0, .slice AD p.2.length cD] 33)) [.slice AD p.2.length cD] p.2 FD := Ty.below (t := tIsZ) hOd (belx); have hS : Below w.heap.size w (wd.alloc (.cells #[.slice none 0 0, .slice AD p.2.length cD] 33)) := bel_alloc hs1 _; have zS : (wd.heap.size + 1) ≤ (wd.alloc (.cells #[.slice none 0 0, .slice AD p.2.length cD] 33)).heap.size := (by simp); have k0 : (wd.alloc (.cells #[.slice none 0 0, .slice AD p.2.length cD] 33)).cell? ⟨w.heap.size, 0, none⟩ = some (.slice A0 n0 c0) := PS.cell 0)
  go_loopw [4] (fun i wr => ∃ (j : Nat) (F : List Nat) (v : Value), j ≤ n0 ∧ i = .int .i64 j ∧ GrowO tWhole 53 wr (wd.heap.size + 1) v ((p.1).take j) F ∧ Box wr w.heap.size 33 #[.slice A0 n0 c0, .slice A1 n1 c1] ∧ Box wr (w.heap.size + 1) 33 #[.slice none 0 0, .slice none 0 0] ∧ Box wr wd.heap.size 33 #[v, .slice AD p.2.length cD] ∧ tIsZ.O wr [.slice AD p.2.length cD] p.2 FD ∧ Below w.heap.size w wr ∧ (wd.heap.size + 1) ≤ wr.heap.size) (fun i _ => n0 - (RowKit.intOf i).toNat)
  case atStart => exact ⟨0, [], .slice none 0 0, by omega, rfl, GrowO.nil, PS, RS, OS, prD, hS, zS⟩
  case round =>
    obtain ⟨j, F, v, hj, rfl, hG, P0, R0, O0, prD, hB, zB⟩ := hrel
    clear k0 PS RS OS hS
    have k0 : wr.cell? ⟨w.heap.size, 0, none⟩ = some (.slice A0 n0 c0) := P0.cell 0
    by_cases hlt : j < n0
    · obtain ⟨a, b', off, es, hl2, rfl, hb, hes, hR⟩ := rowR_at (K := 4) r0 hlt rfl
      have HT := Lib.hid (take_sn hl2)
      have HLN := Lib.hid (show ((p.1).take j).length = j from by rw [List.length_take, HL0.out]; omega)
      have hsa : szWhole a ≤ 1048576 := HSZ0.out j a hl2
      clear hl2
      have hRk := hR
      obtain ⟨aA3, an3, ac3, rfl, ai0, ai1, ai2, -, -, -, ar3⟩ := openWhole hR
      have e0 : wr.cell? ⟨b', off + j * 4, none⟩ = some (.int .i64 a.1) := cell_at hB hb (hes 0 (by omega))
      have e1 : wr.cell? ⟨b', off + j * 4 + 1, none⟩ = some (.int .i64 a.2.1) := cell_at hB hb (hes 1 (by omega))
      have e2 : wr.cell? ⟨b', off + j * 4 + 2, none⟩ = some (.int .i64 a.2.2.1) := cell_at hB hb (hes 2 (by omega))
      have e3 : wr.cell? ⟨b', off + j * 4 + 3, none⟩ = some (.slice aA3 an3 ac3) := cell_at hB hb (hes 3 (by omega))
      have hOwn := fun b hb => (GrowO.row hG).choose_spec.1.lt b hb
      have hlt2 := hG.lt
      clear hR
      have o0c : wr.cell? ⟨wd.heap.size, 0, none⟩ = some v := O0.cell 0
      go_wp2_with fail
      refine wp_region_held_drew (S := (fun w' => w'.cell? ⟨w.heap.size, 0, none⟩ = some (.slice (some ⟨b', off, none⟩) n0 c0) ∧ w'.cell? ⟨b', off + j * 4, none⟩ = some (.int .i64 a.1) ∧ w'.cell? ⟨b', off + j * 4 + 1, none⟩ = some (.int .i64 a.2.1) ∧ w'.cell? ⟨b', off + j * 4 + 2, none⟩ = some (.int .i64 a.2.2.1) ∧ w'.cell? ⟨b', off + j * 4 + 3, none⟩ = some (.slice aA3 an3 ac3))) (by kernel_rfl) (by exact ⟨k0, e0, e1, e2, e3⟩) (fun hHeld => ?_)
      refine wpAnyH_take (i := 0) (oi := ⟨some 17, _, _, _, _, _⟩) (v := ?v12) rfl (by kernel_rfl) (by kernel_rfl) (by kernel_rfl) (fun _ _ _ h => h) (Or.inl ⟨by rfl, ?hy12⟩) (by assumption) ?_
      case hy12 => (intro w hSw; (try dsimp only at hSw); go_simp; try (with_reducible rfl))
      (try simp only [Act.put, qa_, qb_, qc_])
      refine wpAnyH_take (i := 2) (oi := ⟨some 19, _, _, _, _, _⟩) (v := ?v13) rfl (by kernel_rfl) (by kernel_rfl) (by kernel_rfl) (fun _ _ _ h => h) (Or.inl ⟨by rfl, ?hy13⟩) (by assumption) ?_
      case hy13 => (intro w hSw; (try dsimp only at hSw); go_simp; try (with_reducible rfl))
      (try simp only [Act.put, qa_, qb_, qc_])
      refine wpAnyH_take (i := 3) (oi := ⟨some 20, _, _, _, _, _⟩) (v := ?v14) rfl (by kernel_rfl) (by kernel_rfl) (by kernel_rfl) (fun _ _ _ h => h) (Or.inl ⟨by rfl, ?hy14⟩) (by assumption) ?_
      case hy14 => (intro w hSw; (try dsimp only at hSw); go_simp; try (with_reducible rfl))
      (try simp only [Act.put, qa_, qb_, qc_])
      refine wpAnyH_take (i := 4) (oi := ⟨some 21, _, _, _, _, _⟩) (v := ?v15) rfl (by kernel_rfl) (by kernel_rfl) (by kernel_rfl) (fun _ _ _ h => h) (Or.inl ⟨by rfl, ?hy15⟩) (by assumption) ?_
      case hy15 => (intro w hSw; (try dsimp only at hSw); go_simp; try (with_reducible rfl))
      (try simp only [Act.put, qa_, qb_, qc_])
      refine wpAnyH_take (i := 5) (oi := ⟨some 22, _, _, _, _, _⟩) (v := ?v16) rfl (by kernel_rfl) (by kernel_rfl) (by kernel_rfl) (fun _ _ _ h => h) (Or.inl ⟨by rfl, ?hy16⟩) (by assumption) ?_
      case hy16 => (intro w hSw; (try dsimp only at hSw); go_simp; try (with_reducible rfl))
      (try simp only [Act.put, qa_, qb_, qc_])
      refine wpAnyH_take (i := 6) (oi := ⟨some 23, _, _, _, _, _⟩) (v := ?v17) rfl (by kernel_rfl) (by kernel_rfl) (by kernel_rfl) (fun _ _ _ h => h) (Or.inl ⟨by rfl, ?hy17⟩) (by assumption) ?_
      case hy17 => (intro w hSw; (try dsimp only at hSw); go_simp; try (with_reducible rfl))
      (try simp only [Act.put, qa_, qb_, qc_])
      refine wpAnyH_ready (rs := [1, 7]) (by kernel_rfl) (by simp) ?_
      refine AllReadyH.cons rfl (fun K hK => ?_) ?_
      · go_simp
        refine hK.out _ _ (by exact ⟨k0, e0, e1, e2, e3⟩) (fun hHeld => ?_)
        clear hK K
        (try simp only [Act.put, qa_, qb_, qc_])
        refine wpAnyH_ready (rs := [7]) (by kernel_rfl) (by simp) ?_
        refine AllReadyH.cons rfl (fun K hK => ?_) ?_
        · go_simp
          go_at_call 87
          refine (s_WholeOwn (tWhole.reach (tWhole.reach hRk hB) (belx)) hsa).mono ?_
          rintro e w1 ⟨cs1, Fd, rfl, hOd, hNd0, hb1⟩
          have hs1 : Below wr.heap.size wr w1 := bel_trans (show Below wr.heap.size wr wr.drew from (belx)) hb1
          have hNd : New wr.heap.size Fd := hNd0.lower (by simp)
          have hOk := hOd
          obtain ⟨oA3, oc3, oF3, rfl, -, -, -, -, -, -, -⟩ := openOWhole hOd
          clear hOd hNd0
          have P1 := Box.below P0 hs1 P0.size
          have R1 := Box.below R0 hs1 R0.size
          have O1 := Box.below O0 hs1 O0.size
          have e10 : w1.cell? ⟨b', off + j * 4, none⟩ = some (.int .i64 a.1) := cell_at (bel_trans hB hs1) hb (hes 0 (by omega))
          have e11 : w1.cell? ⟨b', off + j * 4 + 1, none⟩ = some (.int .i64 a.2.1) := cell_at (bel_trans hB hs1) hb (hes 1 (by omega))
          have e12 : w1.cell? ⟨b', off + j * 4 + 2, none⟩ = some (.int .i64 a.2.2.1) := cell_at (bel_trans hB hs1) hb (hes 2 (by omega))
          have e13 : w1.cell? ⟨b', off + j * 4 + 3, none⟩ = some (.slice aA3 an3 ac3) := cell_at (bel_trans hB hs1) hb (hes 3 (by omega))
          have o1c := O1.cell 0
          have PA := P1.alloc (.cells ([.int .i64 a.1, .int .i64 a.2.1, .int .i64 a.2.2.1, .slice oA3 a.2.2.2.length oc3].toArray) 53)
          have OA := O1.alloc (.cells ([.int .i64 a.1, .int .i64 a.2.1, .int .i64 a.2.2.1, .slice oA3 a.2.2.2.length oc3].toArray) 53)
          have oAc := OA.cell 0
          have zw1 := hs1.size
          have eA0 : (w1.alloc (.cells ([.int .i64 a.1, .int .i64 a.2.1, .int .i64 a.2.2.1, .slice oA3 a.2.2.2.length oc3].toArray) 53)).cell? ⟨b', off + j * 4, none⟩ = some (.int .i64 a.1) := cell_at (bel_alloc (bel_trans hB hs1) _) hb (hes 0 (by omega))
          have eA1 : (w1.alloc (.cells ([.int .i64 a.1, .int .i64 a.2.1, .int .i64 a.2.2.1, .slice oA3 a.2.2.2.length oc3].toArray) 53)).cell? ⟨b', off + j * 4 + 1, none⟩ = some (.int .i64 a.2.1) := cell_at (bel_alloc (bel_trans hB hs1) _) hb (hes 1 (by omega))
          have eA2 : (w1.alloc (.cells ([.int .i64 a.1, .int .i64 a.2.1, .int .i64 a.2.2.1, .slice oA3 a.2.2.2.length oc3].toArray) 53)).cell? ⟨b', off + j * 4 + 2, none⟩ = some (.int .i64 a.2.2.1) := cell_at (bel_alloc (bel_trans hB hs1) _) hb (hes 2 (by omega))
          have eA3 : (w1.alloc (.cells ([.int .i64 a.1, .int .i64 a.2.1, .int .i64 a.2.2.1, .slice oA3 a.2.2.2.length oc3].toArray) 53)).cell? ⟨b', off + j * 4 + 3, none⟩ = some (.slice aA3 an3 ac3) := cell_at (bel_alloc (bel_trans hB hs1) _) hb (hes 3 (by omega))
          go_wp2_with fail
          refine hK.out _ _ (by exact ⟨(P1.cell 0), e10, e11, e12, e13⟩) (fun hHeld => ?_)
          clear hK K
          (try simp only [Act.put, qa_, qb_, qc_])
          refine wpAnyH_ready (rs := [8]) (by kernel_rfl) (by simp) ?_
          refine AllReadyH.cons rfl (fun K hK => ?_) ?_
          · go_simp
            refine hK.out _ _ (by exact ⟨(PA.cell 0), eA0, eA1, eA2, eA3⟩) (fun hHeld => ?_)
            clear hK K
            (try simp only [Act.put, qa_, qb_, qc_])
            refine wpAnyH_ready (rs := [9]) (by kernel_rfl) (by simp) ?_
            refine AllReadyH.cons rfl (fun K hK => ?_) ?_
            · have hBx : Below wr.heap.size wr (w1.alloc (.cells ([.int .i64 a.1, .int .i64 a.2.1, .int .i64 a.2.2.1, .slice oA3 a.2.2.2.length oc3].toArray) 53)) := bel_alloc hs1 _
              obtain ⟨xs, hrow, hpush⟩ := (hG.below hBx).row
              have hS2 : Src (w1.alloc (.cells ([.int .i64 a.1, .int .i64 a.2.1, .int .i64 a.2.2.1, .slice oA3 a.2.2.2.length oc3].toArray) 53)) 4 (some ⟨w1.heap.size, 0, none⟩) 1 [.int .i64 a.1, .int .i64 a.2.1, .int .i64 a.2.2.1, .slice oA3 a.2.2.2.length oc3] := Src.of_box w1 53 [.int .i64 a.1, .int .i64 a.2.1, .int .i64 a.2.2.1, .slice oA3 a.2.2.2.length oc3] (K := 4) rfl
              have tz : (Value.agg #[Value.int .i64 0, Value.int .i64 0, Value.int .i64 0, Value.slice none 0 0]).cells.size = 4 := (by first | rfl | (simp [Value.cells]; done))
              have t0 : ∀ u ∈ ([.int .i64 a.1, .int .i64 a.2.1, .int .i64 a.2.2.1, .slice oA3 a.2.2.2.length oc3] : List Value), u.oneCell' = true := (by intro u hu; simp only [List.mem_cons, List.not_mem_nil, or_false] at hu; rcases hu with rfl | rfl | rfl | rfl <;> rfl)
              have t1 : ((p.1).take j).length + 1 ≤ maxLen := (by simp only [maxLen]; have := HLN.out; omega)
              have t2 : (((p.1).take j).length + 1) * 48 ≤ 140737488355328 := (by have := HLN.out; omega)
              have t3 := hBx.size
              refine step_app5 _ (by rfl) (.tmp 18) (.tmp 25) _ (by rfl) (wd.heap.size + 1) 53 i0i _ 4 48 Tryz.underlying31 hj00 hj10 hj20 hj30 tz (by omega) v _ xs (by rfl) hrow _ 1 1 [.int .i64 a.1, .int .i64 a.2.1, .int .i64 a.2.2.1, .slice oA3 a.2.2.2.length oc3] (by rfl) hS2 t0 t1 t2 (by omega) ?_
              intro v2 w2 hown2 hgr2 hat2
              have hOel : tWhole.O (w1.alloc (.cells ([.int .i64 a.1, .int .i64 a.2.1, .int .i64 a.2.2.1, .slice oA3 a.2.2.2.length oc3].toArray) 53)) [.int .i64 a.1, .int .i64 a.2.1, .int .i64 a.2.2.1, .slice oA3 a.2.2.2.length oc3] a Fd := Ty.below (t := tWhole) hOk (belx)
              have hNel : New (wd.heap.size + 1) Fd := hNd.lower (by omega)
              have hdis : ∀ f ∈ Fd, f ∉ F := (fun f h1 h2 => by have := hNd.2 _ h1; have := hlt2 f h2; omega)
              have hod : ∀ b, v.ownBlock = some b → b ∉ Fd := (fun b hb hx => by have := (hOwn b hb).2; have := hNd.2 _ hx; omega)
              have hfin := hpush w2 v2 a _ Fd hOel hNel hdis hod hown2 hgr2 hat2
              obtain ⟨A9, n9, c9, rfl, -⟩ := hfin.shapeN
              have P2 := Box.grown (w := (w1.alloc (.cells ([.int .i64 a.1, .int .i64 a.2.1, .int .i64 a.2.2.1, .slice oA3 a.2.2.2.length oc3].toArray) 53))) (P1.alloc _) hgr2 (fun e => by have := (hOwn w.heap.size e.symm).1; omega)
              have R2 := Box.grown (w := (w1.alloc (.cells ([.int .i64 a.1, .int .i64 a.2.1, .int .i64 a.2.2.1, .slice oA3 a.2.2.2.length oc3].toArray) 53))) (R1.alloc _) hgr2 (fun e => by have := (hOwn (w.heap.size + 1) e.symm).1; omega)
              have O2 := Box.grown (w := (w1.alloc (.cells ([.int .i64 a.1, .int .i64 a.2.1, .int .i64 a.2.2.1, .slice oA3 a.2.2.2.length oc3].toArray) 53))) (O1.alloc _) hgr2 (fun e => by have := (hOwn wd.heap.size e.symm).1; omega)
              have hBf : Below w.heap.size w w2 := Below.grown (w := (w1.alloc (.cells ([.int .i64 a.1, .int .i64 a.2.1, .int .i64 a.2.2.1, .slice oA3 a.2.2.2.length oc3].toArray) 53))) (bel_trans hB hBx) hgr2 (by have := hBx.size; omega) (fun b hb => by have := (hOwn b hb).1; omega)
              have z2 := hgr2.size
              have o2c := O2.cell 0
              have o2f := O2.frozen 0
              have GF := hfin.put (p := ⟨wd.heap.size, 0, none⟩) (by show wd.heap.size < (wd.heap.size + 1); omega) (.slice A9 n9 c9)
              have PF := P2.far (p := ⟨wd.heap.size, 0, none⟩) (by show ¬ w.heap.size = wd.heap.size; omega) (.slice A9 n9 c9)
              have RF := R2.far (p := ⟨wd.heap.size, 0, none⟩) (by show ¬ w.heap.size + 1 = wd.heap.size; omega) (.slice A9 n9 c9)
              have OF : Box (w2.setCell ⟨wd.heap.size, 0, none⟩ (.slice A9 n9 c9)) wd.heap.size 33 #[.slice A9 n9 c9, .slice AD p.2.length cD] := O2.put 0 (.slice A9 n9 c9)
              have prDF := Ty.far3 (own_past (w := (w1.alloc (.cells ([.int .i64 a.1, .int .i64 a.2.1, .int .i64 a.2.2.1, .slice oA3 a.2.2.2.length oc3].toArray) 53))) (Ty.below (t := tIsZ) prD hBx) hgr2 (fun b hb hx => by have h1 := (hOwn b hb).1; have h2 := prDl b hx; omega)) (p := ⟨wd.heap.size, 0, none⟩) prDo (.slice A9 n9 c9)
              have BF : Below w.heap.size w (w2.setCell ⟨wd.heap.size, 0, none⟩ (.slice A9 n9 c9)) := bel_put hBf (by show w.heap.size ≤ wd.heap.size; omega) _
              have e20 : w2.cell? ⟨b', off + j * 4, none⟩ = some (.int .i64 a.1) := cell_at hBf hb (hes 0 (by omega))
              have e21 : w2.cell? ⟨b', off + j * 4 + 1, none⟩ = some (.int .i64 a.2.1) := cell_at hBf hb (hes 1 (by omega))
              have e22 : w2.cell? ⟨b', off + j * 4 + 2, none⟩ = some (.int .i64 a.2.2.1) := cell_at hBf hb (hes 2 (by omega))
              have e23 : w2.cell? ⟨b', off + j * 4 + 3, none⟩ = some (.slice aA3 an3 ac3) := cell_at hBf hb (hes 3 (by omega))
              have eF0 : (w2.setCell ⟨wd.heap.size, 0, none⟩ (.slice A9 n9 c9)).cell? ⟨b', off + j * 4, none⟩ = some (.int .i64 a.1) := cell_at BF hb (hes 0 (by omega))
              have eF1 : (w2.setCell ⟨wd.heap.size, 0, none⟩ (.slice A9 n9 c9)).cell? ⟨b', off + j * 4 + 1, none⟩ = some (.int .i64 a.2.1) := cell_at BF hb (hes 1 (by omega))
              have eF2 : (w2.setCell ⟨wd.heap.size, 0, none⟩ (.slice A9 n9 c9)).cell? ⟨b', off + j * 4 + 2, none⟩ = some (.int .i64 a.2.2.1) := cell_at BF hb (hes 2 (by omega))
              have eF3 : (w2.setCell ⟨wd.heap.size, 0, none⟩ (.slice A9 n9 c9)).cell? ⟨b', off + j * 4 + 3, none⟩ = some (.slice aA3 an3 ac3) := cell_at BF hb (hes 3 (by omega))
              refine hK.out _ _ (by exact ⟨(P2.cell 0), e20, e21, e22, e23⟩) (fun hHeld => ?_)
              clear hK K
              (try simp only [Act.put, qa_, qb_, qc_])
              refine wpAnyH_take (i := 10) (oi := ⟨some 27, _, _, _, _, _⟩) (v := ?v18) rfl (by kernel_rfl) (by kernel_rfl) (by kernel_rfl) (fun _ _ _ h => h) (Or.inl ⟨by rfl, ?hy18⟩) (by assumption) ?_
              case hy18 => (intro w hSw; (try dsimp only at hSw); go_simp; try (with_reducible rfl))
              (try simp only [Act.put, qa_, qb_, qc_])
              refine wpAnyH_ready (rs := [11]) (by kernel_rfl) (by simp) ?_
              refine AllReadyH.cons rfl (fun K hK => ?_) ?_
              · go_simp
                refine hK.out _ _ (by exact ⟨(PF.cell 0), eF0, eF1, eF2, eF3⟩) (fun hHeld => ?_)
                clear hK K
                (try simp only [Act.put, qa_, qb_, qc_])
                refine wpAnyH_done (by kernel_rfl) ?_ _
                go_wp2
                go_roundw
                case rel => exact ⟨j + 1, _, _, by omega, by go_num, by rw [HT.out]; exact GF, PF, RF, OF, prDF, BF, by have h := z2; simp [World.setCell] at h ⊢; omega⟩
                case measure => simp [RowKit.intOf]; omega
              exact AllReadyH.nil
            exact AllReadyH.nil
          exact AllReadyH.nil
        exact AllReadyH.nil
      refine AllReadyH.cons rfl (fun K hK => ?_) ?_
      · go_simp
        go_at_call 87
        refine (s_WholeOwn (tWhole.reach (tWhole.reach hRk hB) (belx)) hsa).mono ?_
        rintro e w1 ⟨cs1, Fd, rfl, hOd, hNd0, hb1⟩
        have hs1 : Below wr.heap.size wr w1 := bel_trans (show Below wr.heap.size wr wr.drew from (belx)) hb1
        have hNd : New wr.heap.size Fd := hNd0.lower (by simp)
        have hOk := hOd
        obtain ⟨oA3, oc3, oF3, rfl, -, -, -, -, -, -, -⟩ := openOWhole hOd
        clear hOd hNd0
        have P1 := Box.below P0 hs1 P0.size
        have R1 := Box.below R0 hs1 R0.size
        have O1 := Box.below O0 hs1 O0.size
        have e10 : w1.cell? ⟨b', off + j * 4, none⟩ = some (.int .i64 a.1) := cell_at (bel_trans hB hs1) hb (hes 0 (by omega))
        have e11 : w1.cell? ⟨b', off + j * 4 + 1, none⟩ = some (.int .i64 a.2.1) := cell_at (bel_trans hB hs1) hb (hes 1 (by omega))
        have e12 : w1.cell? ⟨b', off + j * 4 + 2, none⟩ = some (.int .i64 a.2.2.1) := cell_at (bel_trans hB hs1) hb (hes 2 (by omega))
        have e13 : w1.cell? ⟨b', off + j * 4 + 3, none⟩ = some (.slice aA3 an3 ac3) := cell_at (bel_trans hB hs1) hb (hes 3 (by omega))
        have o1c := O1.cell 0
        have PA := P1.alloc (.cells ([.int .i64 a.1, .int .i64 a.2.1, .int .i64 a.2.2.1, .slice oA3 a.2.2.2.length oc3].toArray) 53)
        have OA := O1.alloc (.cells ([.int .i64 a.1, .int .i64 a.2.1, .int .i64 a.2.2.1, .slice oA3 a.2.2.2.length oc3].toArray) 53)
        have oAc := OA.cell 0
        have zw1 := hs1.size
        have eA0 : (w1.alloc (.cells ([.int .i64 a.1, .int .i64 a.2.1, .int .i64 a.2.2.1, .slice oA3 a.2.2.2.length oc3].toArray) 53)).cell? ⟨b', off + j * 4, none⟩ = some (.int .i64 a.1) := cell_at (bel_alloc (bel_trans hB hs1) _) hb (hes 0 (by omega))
        have eA1 : (w1.alloc (.cells ([.int .i64 a.1, .int .i64 a.2.1, .int .i64 a.2.2.1, .slice oA3 a.2.2.2.length oc3].toArray) 53)).cell? ⟨b', off + j * 4 + 1, none⟩ = some (.int .i64 a.2.1) := cell_at (bel_alloc (bel_trans hB hs1) _) hb (hes 1 (by omega))
        have eA2 : (w1.alloc (.cells ([.int .i64 a.1, .int .i64 a.2.1, .int .i64 a.2.2.1, .slice oA3 a.2.2.2.length oc3].toArray) 53)).cell? ⟨b', off + j * 4 + 2, none⟩ = some (.int .i64 a.2.2.1) := cell_at (bel_alloc (bel_trans hB hs1) _) hb (hes 2 (by omega))
        have eA3 : (w1.alloc (.cells ([.int .i64 a.1, .int .i64 a.2.1, .int .i64 a.2.2.1, .slice oA3 a.2.2.2.length oc3].toArray) 53)).cell? ⟨b', off + j * 4 + 3, none⟩ = some (.slice aA3 an3 ac3) := cell_at (bel_alloc (bel_trans hB hs1) _) hb (hes 3 (by omega))
        go_wp2_with fail
        refine hK.out _ _ (by exact ⟨(P1.cell 0), e10, e11, e12, e13⟩) (fun hHeld => ?_)
        clear hK K
        (try simp only [Act.put, qa_, qb_, qc_])
        refine wpAnyH_ready (rs := [1, 8]) (by kernel_rfl) (by simp) ?_
        refine AllReadyH.cons rfl (fun K hK => ?_) ?_
        · go_simp
          refine hK.out _ _ (by exact ⟨(P1.cell 0), e10, e11, e12, e13⟩) (fun hHeld => ?_)
          clear hK K
          (try simp only [Act.put, qa_, qb_, qc_])
          refine wpAnyH_ready (rs := [8]) (by kernel_rfl) (by simp) ?_
          refine AllReadyH.cons rfl (fun K hK => ?_) ?_
          · go_simp
            refine hK.out _ _ (by exact ⟨(PA.cell 0), eA0, eA1, eA2, eA3⟩) (fun hHeld => ?_)
            clear hK K
            (try simp only [Act.put, qa_, qb_, qc_])
            refine wpAnyH_ready (rs := [9]) (by kernel_rfl) (by simp) ?_
            refine AllReadyH.cons rfl (fun K hK => ?_) ?_
            · have hBx : Below wr.heap.size wr (w1.alloc (.cells ([.int .i64 a.1, .int .i64 a.2.1, .int .i64 a.2.2.1, .slice oA3 a.2.2.2.length oc3].toArray) 53)) := bel_alloc hs1 _
              obtain ⟨xs, hrow, hpush⟩ := (hG.below hBx).row
              have hS2 : Src (w1.alloc (.cells ([.int .i64 a.1, .int .i64 a.2.1, .int .i64 a.2.2.1, .slice oA3 a.2.2.2.length oc3].toArray) 53)) 4 (some ⟨w1.heap.size, 0, none⟩) 1 [.int .i64 a.1, .int .i64 a.2.1, .int .i64 a.2.2.1, .slice oA3 a.2.2.2.length oc3] := Src.of_box w1 53 [.int .i64 a.1, .int .i64 a.2.1, .int .i64 a.2.2.1, .slice oA3 a.2.2.2.length oc3] (K := 4) rfl
              have tz : (Value.agg #[Value.int .i64 0, Value.int .i64 0, Value.int .i64 0, Value.slice none 0 0]).cells.size = 4 := (by first | rfl | (simp [Value.cells]; done))
              have t0 : ∀ u ∈ ([.int .i64 a.1, .int .i64 a.2.1, .int .i64 a.2.2.1, .slice oA3 a.2.2.2.length oc3] : List Value), u.oneCell' = true := (by intro u hu; simp only [List.mem_cons, List.not_mem_nil, or_false] at hu; rcases hu with rfl | rfl | rfl | rfl <;> rfl)
              have t1 : ((p.1).take j).length + 1 ≤ maxLen := (by simp only [maxLen]; have := HLN.out; omega)
              have t2 : (((p.1).take j).length + 1) * 48 ≤ 140737488355328 := (by have := HLN.out; omega)
              have t3 := hBx.size
              refine step_app5 _ (by rfl) (.tmp 18) (.tmp 25) _ (by rfl) (wd.heap.size + 1) 53 i0i _ 4 48 Tryz.underlying31 hj00 hj10 hj20 hj30 tz (by omega) v _ xs (by rfl) hrow _ 1 1 [.int .i64 a.1, .int .i64 a.2.1, .int .i64 a.2.2.1, .slice oA3 a.2.2.2.length oc3] (by rfl) hS2 t0 t1 t2 (by omega) ?_
              intro v2 w2 hown2 hgr2 hat2
              have hOel : tWhole.O (w1.alloc (.cells ([.int .i64 a.1, .int .i64 a.2.1, .int .i64 a.2.2.1, .slice oA3 a.2.2.2.length oc3].toArray) 53)) [.int .i64 a.1, .int .i64 a.2.1, .int .i64 a.2.2.1, .slice oA3 a.2.2.2.length oc3] a Fd := Ty.below (t := tWhole) hOk (belx)
              have hNel : New (wd.heap.size + 1) Fd := hNd.lower (by omega)
              have hdis : ∀ f ∈ Fd, f ∉ F := (fun f h1 h2 => by have := hNd.2 _ h1; have := hlt2 f h2; omega)
              have hod : ∀ b, v.ownBlock = some b → b ∉ Fd := (fun b hb hx => by have := (hOwn b hb).2; have := hNd.2 _ hx; omega)
              have hfin := hpush w2 v2 a _ Fd hOel hNel hdis hod hown2 hgr2 hat2
              obtain ⟨A9, n9, c9, rfl, -⟩ := hfin.shapeN
              have P2 := Box.grown (w := (w1.alloc (.cells ([.int .i64 a.1, .int .i64 a.2.1, .int .i64 a.2.2.1, .slice oA3 a.2.2.2.length oc3].toArray) 53))) (P1.alloc _) hgr2 (fun e => by have := (hOwn w.heap.size e.symm).1; omega)
              have R2 := Box.grown (w := (w1.alloc (.cells ([.int .i64 a.1, .int .i64 a.2.1, .int .i64 a.2.2.1, .slice oA3 a.2.2.2.length oc3].toArray) 53))) (R1.alloc _) hgr2 (fun e => by have := (hOwn (w.heap.size + 1) e.symm).1; omega)
              have O2 := Box.grown (w := (w1.alloc (.cells ([.int .i64 a.1, .int .i64 a.2.1, .int .i64 a.2.2.1, .slice oA3 a.2.2.2.length oc3].toArray) 53))) (O1.alloc _) hgr2 (fun e => by have := (hOwn wd.heap.size e.symm).1; omega)
              have hBf : Below w.heap.size w w2 := Below.grown (w := (w1.alloc (.cells ([.int .i64 a.1, .int .i64 a.2.1, .int .i64 a.2.2.1, .slice oA3 a.2.2.2.length oc3].toArray) 53))) (bel_trans hB hBx) hgr2 (by have := hBx.size; omega) (fun b hb => by have := (hOwn b hb).1; omega)
              have z2 := hgr2.size
              have o2c := O2.cell 0
              have o2f := O2.frozen 0
              have GF := hfin.put (p := ⟨wd.heap.size, 0, none⟩) (by show wd.heap.size < (wd.heap.size + 1); omega) (.slice A9 n9 c9)
              have PF := P2.far (p := ⟨wd.heap.size, 0, none⟩) (by show ¬ w.heap.size = wd.heap.size; omega) (.slice A9 n9 c9)
              have RF := R2.far (p := ⟨wd.heap.size, 0, none⟩) (by show ¬ w.heap.size + 1 = wd.heap.size; omega) (.slice A9 n9 c9)
              have OF : Box (w2.setCell ⟨wd.heap.size, 0, none⟩ (.slice A9 n9 c9)) wd.heap.size 33 #[.slice A9 n9 c9, .slice AD p.2.length cD] := O2.put 0 (.slice A9 n9 c9)
              have prDF := Ty.far3 (own_past (w := (w1.alloc (.cells ([.int .i64 a.1, .int .i64 a.2.1, .int .i64 a.2.2.1, .slice oA3 a.2.2.2.length oc3].toArray) 53))) (Ty.below (t := tIsZ) prD hBx) hgr2 (fun b hb hx => by have h1 := (hOwn b hb).1; have h2 := prDl b hx; omega)) (p := ⟨wd.heap.size, 0, none⟩) prDo (.slice A9 n9 c9)
              have BF : Below w.heap.size w (w2.setCell ⟨wd.heap.size, 0, none⟩ (.slice A9 n9 c9)) := bel_put hBf (by show w.heap.size ≤ wd.heap.size; omega) _
              have e20 : w2.cell? ⟨b', off + j * 4, none⟩ = some (.int .i64 a.1) := cell_at hBf hb (hes 0 (by omega))
              have e21 : w2.cell? ⟨b', off + j * 4 + 1, none⟩ = some (.int .i64 a.2.1) := cell_at hBf hb (hes 1 (by omega))
              have e22 : w2.cell? ⟨b', off + j * 4 + 2, none⟩ = some (.int .i64 a.2.2.1) := cell_at hBf hb (hes 2 (by omega))
              have e23 : w2.cell? ⟨b', off + j * 4 + 3, none⟩ = some (.slice aA3 an3 ac3) := cell_at hBf hb (hes 3 (by omega))
              have eF0 : (w2.setCell ⟨wd.heap.size, 0, none⟩ (.slice A9 n9 c9)).cell? ⟨b', off + j * 4, none⟩ = some (.int .i64 a.1) := cell_at BF hb (hes 0 (by omega))
              have eF1 : (w2.setCell ⟨wd.heap.size, 0, none⟩ (.slice A9 n9 c9)).cell? ⟨b', off + j * 4 + 1, none⟩ = some (.int .i64 a.2.1) := cell_at BF hb (hes 1 (by omega))
              have eF2 : (w2.setCell ⟨wd.heap.size, 0, none⟩ (.slice A9 n9 c9)).cell? ⟨b', off + j * 4 + 2, none⟩ = some (.int .i64 a.2.2.1) := cell_at BF hb (hes 2 (by omega))
              have eF3 : (w2.setCell ⟨wd.heap.size, 0, none⟩ (.slice A9 n9 c9)).cell? ⟨b', off + j * 4 + 3, none⟩ = some (.slice aA3 an3 ac3) := cell_at BF hb (hes 3 (by omega))
              refine hK.out _ _ (by exact ⟨(P2.cell 0), e20, e21, e22, e23⟩) (fun hHeld => ?_)
              clear hK K
              (try simp only [Act.put, qa_, qb_, qc_])
              refine wpAnyH_take (i := 10) (oi := ⟨some 27, _, _, _, _, _⟩) (v := ?v19) rfl (by kernel_rfl) (by kernel_rfl) (by kernel_rfl) (fun _ _ _ h => h) (Or.inl ⟨by rfl, ?hy19⟩) (by assumption) ?_
              case hy19 => (intro w hSw; (try dsimp only at hSw); go_simp; try (with_reducible rfl))
              (try simp only [Act.put, qa_, qb_, qc_])
              refine wpAnyH_ready (rs := [11]) (by kernel_rfl) (by simp) ?_
              refine AllReadyH.cons rfl (fun K hK => ?_) ?_
              · go_simp
                refine hK.out _ _ (by exact ⟨(PF.cell 0), eF0, eF1, eF2, eF3⟩) (fun hHeld => ?_)
                clear hK K
                (try simp only [Act.put, qa_, qb_, qc_])
                refine wpAnyH_done (by kernel_rfl) ?_ _
                go_wp2
                go_roundw
                case rel => exact ⟨j + 1, _, _, by omega, by go_num, by rw [HT.out]; exact GF, PF, RF, OF, prDF, BF, by have h := z2; simp [World.setCell] at h ⊢; omega⟩
                case measure => simp [RowKit.intOf]; omega
              exact AllReadyH.nil
            exact AllReadyH.nil
          exact AllReadyH.nil
        refine AllReadyH.cons rfl (fun K hK => ?_) ?_
        · go_simp
          refine hK.out _ _ (by exact ⟨(PA.cell 0), eA0, eA1, eA2, eA3⟩) (fun hHeld => ?_)
          clear hK K
          (try simp only [Act.put, qa_, qb_, qc_])
          refine wpAnyH_ready (rs := [1]) (by kernel_rfl) (by simp) ?_
          refine AllReadyH.cons rfl (fun K hK => ?_) ?_
          · go_simp
            refine hK.out _ _ (by exact ⟨(PA.cell 0), eA0, eA1, eA2, eA3⟩) (fun hHeld => ?_)
            clear hK K
            (try simp only [Act.put, qa_, qb_, qc_])
            refine wpAnyH_ready (rs := [9]) (by kernel_rfl) (by simp) ?_
            refine AllReadyH.cons rfl (fun K hK => ?_) ?_
            · have hBx : Below wr.heap.size wr (w1.alloc (.cells ([.int .i64 a.1, .int .i64 a.2.1, .int .i64 a.2.2.1, .slice oA3 a.2.2.2.length oc3].toArray) 53)) := bel_alloc hs1 _
              obtain ⟨xs, hrow, hpush⟩ := (hG.below hBx).row
              have hS2 : Src (w1.alloc (.cells ([.int .i64 a.1, .int .i64 a.2.1, .int .i64 a.2.2.1, .slice oA3 a.2.2.2.length oc3].toArray) 53)) 4 (some ⟨w1.heap.size, 0, none⟩) 1 [.int .i64 a.1, .int .i64 a.2.1, .int .i64 a.2.2.1, .slice oA3 a.2.2.2.length oc3] := Src.of_box w1 53 [.int .i64 a.1, .int .i64 a.2.1, .int .i64 a.2.2.1, .slice oA3 a.2.2.2.length oc3] (K := 4) rfl
              have tz : (Value.agg #[Value.int .i64 0, Value.int .i64 0, Value.int .i64 0, Value.slice none 0 0]).cells.size = 4 := (by first | rfl | (simp [Value.cells]; done))
              have t0 : ∀ u ∈ ([.int .i64 a.1, .int .i64 a.2.1, .int .i64 a.2.2.1, .slice oA3 a.2.2.2.length oc3] : List Value), u.oneCell' = true := (by intro u hu; simp only [List.mem_cons, List.not_mem_nil, or_false] at hu; rcases hu with rfl | rfl | rfl | rfl <;> rfl)
              have t1 : ((p.1).take j).length + 1 ≤ maxLen := (by simp only [maxLen]; have := HLN.out; omega)
              have t2 : (((p.1).take j).length + 1) * 48 ≤ 140737488355328 := (by have := HLN.out; omega)
              have t3 := hBx.size
              refine step_app5 _ (by rfl) (.tmp 18) (.tmp 25) _ (by rfl) (wd.heap.size + 1) 53 i0i _ 4 48 Tryz.underlying31 hj00 hj10 hj20 hj30 tz (by omega) v _ xs (by rfl) hrow _ 1 1 [.int .i64 a.1, .int .i64 a.2.1, .int .i64 a.2.2.1, .slice oA3 a.2.2.2.length oc3] (by rfl) hS2 t0 t1 t2 (by omega) ?_
              intro v2 w2 hown2 hgr2 hat2
              have hOel : tWhole.O (w1.alloc (.cells ([.int .i64 a.1, .int .i64 a.2.1, .int .i64 a.2.2.1, .slice oA3 a.2.2.2.length oc3].toArray) 53)) [.int .i64 a.1, .int .i64 a.2.1, .int .i64 a.2.2.1, .slice oA3 a.2.2.2.length oc3] a Fd := Ty.below (t := tWhole) hOk (belx)
              have hNel : New (wd.heap.size + 1) Fd := hNd.lower (by omega)
              have hdis : ∀ f ∈ Fd, f ∉ F := (fun f h1 h2 => by have := hNd.2 _ h1; have := hlt2 f h2; omega)
              have hod : ∀ b, v.ownBlock = some b → b ∉ Fd := (fun b hb hx => by have := (hOwn b hb).2; have := hNd.2 _ hx; omega)
              have hfin := hpush w2 v2 a _ Fd hOel hNel hdis hod hown2 hgr2 hat2
              obtain ⟨A9, n9, c9, rfl, -⟩ := hfin.shapeN
              have P2 := Box.grown (w := (w1.alloc (.cells ([.int .i64 a.1, .int .i64 a.2.1, .int .i64 a.2.2.1, .slice oA3 a.2.2.2.length oc3].toArray) 53))) (P1.alloc _) hgr2 (fun e => by have := (hOwn w.heap.size e.symm).1; omega)
              have R2 := Box.grown (w := (w1.alloc (.cells ([.int .i64 a.1, .int .i64 a.2.1, .int .i64 a.2.2.1, .slice oA3 a.2.2.2.length oc3].toArray) 53))) (R1.alloc _) hgr2 (fun e => by have := (hOwn (w.heap.size + 1) e.symm).1; omega)
              have O2 := Box.grown (w := (w1.alloc (.cells ([.int .i64 a.1, .int .i64 a.2.1, .int .i64 a.2.2.1, .slice oA3 a.2.2.2.length oc3].toArray) 53))) (O1.alloc _) hgr2 (fun e => by have := (hOwn wd.heap.size e.symm).1; omega)
              have hBf : Below w.heap.size w w2 := Below.grown (w := (w1.alloc (.cells ([.int .i64 a.1, .int .i64 a.2.1, .int .i64 a.2.2.1, .slice oA3 a.2.2.2.length oc3].toArray) 53))) (bel_trans hB hBx) hgr2 (by have := hBx.size; omega) (fun b hb => by have := (hOwn b hb).1; omega)
              have z2 := hgr2.size
              have o2c := O2.cell 0
              have o2f := O2.frozen 0
              have GF := hfin.put (p := ⟨wd.heap.size, 0, none⟩) (by show wd.heap.size < (wd.heap.size + 1); omega) (.slice A9 n9 c9)
              have PF := P2.far (p := ⟨wd.heap.size, 0, none⟩) (by show ¬ w.heap.size = wd.heap.size; omega) (.slice A9 n9 c9)
              have RF := R2.far (p := ⟨wd.heap.size, 0, none⟩) (by show ¬ w.heap.size + 1 = wd.heap.size; omega) (.slice A9 n9 c9)
              have OF : Box (w2.setCell ⟨wd.heap.size, 0, none⟩ (.slice A9 n9 c9)) wd.heap.size 33 #[.slice A9 n9 c9, .slice AD p.2.length cD] := O2.put 0 (.slice A9 n9 c9)
              have prDF := Ty.far3 (own_past (w := (w1.alloc (.cells ([.int .i64 a.1, .int .i64 a.2.1, .int .i64 a.2.2.1, .slice oA3 a.2.2.2.length oc3].toArray) 53))) (Ty.below (t := tIsZ) prD hBx) hgr2 (fun b hb hx => by have h1 := (hOwn b hb).1; have h2 := prDl b hx; omega)) (p := ⟨wd.heap.size, 0, none⟩) prDo (.slice A9 n9 c9)
              have BF : Below w.heap.size w (w2.setCell ⟨wd.heap.size, 0, none⟩ (.slice A9 n9 c9)) := bel_put hBf (by show w.heap.size ≤ wd.heap.size; omega) _
              have e20 : w2.cell? ⟨b', off + j * 4, none⟩ = some (.int .i64 a.1) := cell_at hBf hb (hes 0 (by omega))
              have e21 : w2.cell? ⟨b', off + j * 4 + 1, none⟩ = some (.int .i64 a.2.1) := cell_at hBf hb (hes 1 (by omega))
              have e22 : w2.cell? ⟨b', off + j * 4 + 2, none⟩ = some (.int .i64 a.2.2.1) := cell_at hBf hb (hes 2 (by omega))
              have e23 : w2.cell? ⟨b', off + j * 4 + 3, none⟩ = some (.slice aA3 an3 ac3) := cell_at hBf hb (hes 3 (by omega))
              have eF0 : (w2.setCell ⟨wd.heap.size, 0, none⟩ (.slice A9 n9 c9)).cell? ⟨b', off + j * 4, none⟩ = some (.int .i64 a.1) := cell_at BF hb (hes 0 (by omega))
              have eF1 : (w2.setCell ⟨wd.heap.size, 0, none⟩ (.slice A9 n9 c9)).cell? ⟨b', off + j * 4 + 1, none⟩ = some (.int .i64 a.2.1) := cell_at BF hb (hes 1 (by omega))
              have eF2 : (w2.setCell ⟨wd.heap.size, 0, none⟩ (.slice A9 n9 c9)).cell? ⟨b', off + j * 4 + 2, none⟩ = some (.int .i64 a.2.2.1) := cell_at BF hb (hes 2 (by omega))
              have eF3 : (w2.setCell ⟨wd.heap.size, 0, none⟩ (.slice A9 n9 c9)).cell? ⟨b', off + j * 4 + 3, none⟩ = some (.slice aA3 an3 ac3) := cell_at BF hb (hes 3 (by omega))
              refine hK.out _ _ (by exact ⟨(P2.cell 0), e20, e21, e22, e23⟩) (fun hHeld => ?_)
              clear hK K
              (try simp only [Act.put, qa_, qb_, qc_])
              refine wpAnyH_take (i := 10) (oi := ⟨some 27, _, _, _, _, _⟩) (v := ?v20) rfl (by kernel_rfl) (by kernel_rfl) (by kernel_rfl) (fun _ _ _ h => h) (Or.inl ⟨by rfl, ?hy20⟩) (by assumption) ?_
              case hy20 => (intro w hSw; (try dsimp only at hSw); go_simp; try (with_reducible rfl))
              (try simp only [Act.put, qa_, qb_, qc_])
              refine wpAnyH_ready (rs := [11]) (by kernel_rfl) (by simp) ?_
              refine AllReadyH.cons rfl (fun K hK => ?_) ?_
              · go_simp
                refine hK.out _ _ (by exact ⟨(PF.cell 0), eF0, eF1, eF2, eF3⟩) (fun hHeld => ?_)
                clear hK K
                (try simp only [Act.put, qa_, qb_, qc_])
                refine wpAnyH_done (by kernel_rfl) ?_ _
                go_wp2
                go_roundw
                case rel => exact ⟨j + 1, _, _, by omega, by go_num, by rw [HT.out]; exact GF, PF, RF, OF, prDF, BF, by have h := z2; simp [World.setCell] at h ⊢; omega⟩
                case measure => simp [RowKit.intOf]; omega
              exact AllReadyH.nil
            exact AllReadyH.nil
          exact AllReadyH.nil
        exact AllReadyH.nil
      exact AllReadyH.nil
    · obtain rfl : n0 = j := by omega
      have HA := Lib.hid (show (p.1).take n0 = p.1 from List.take_of_length_le (Nat.le_of_eq HL0.out))
      rw [HA.out] at hG
      have hGG := hG
      obtain ⟨D0, g0, F0, rfl, hO0, hN0⟩ := hG.done
      have oc0 := O0.cell 0
      have oc1 := O0.cell 1
      have rc0 := R0.cell 0
      have rf0 := R0.frozen 0
      have rc1 := R0.cell 1
      have rf1 := R0.frozen 1
      go_wp2
      have hM0 : New (w.heap.size + 2) F0 := hN0.lower (by omega)
      have hMD : New (w.heap.size + 2) FD := hNd
      have hA : New (w.heap.size + 2) (F0 ++ FD) := new_pair hM0 hMD (fun f h1 h2 => by have := hN0.2 f h1; have := prDl f h2; omega)
      have RR := ((R0.put 0 (.slice D0 (p.1).length g0)).put 1 (.slice AD p.2.length cD))
      have y0 := RR.cell 0
      have y1 := RR.cell 1
      have u_G := (hGG.put (p := ⟨w.heap.size + 1, 0, none⟩) (by show w.heap.size + 1 < wd.heap.size + 1; omega) (.slice D0 (p.1).length g0)).put (p := ⟨w.heap.size + 1, 1, none⟩) (by show w.heap.size + 1 < wd.heap.size + 1; omega) (.slice AD p.2.length cD)
      have u_prD := (Ty.far (t := tIsZ) (Ty.far (t := tIsZ) prD hMD (p := ⟨w.heap.size + 1, 0, none⟩) (by show w.heap.size + 1 < _; omega) (.slice D0 (p.1).length g0)) hMD (p := ⟨w.heap.size + 1, 1, none⟩) (by show w.heap.size + 1 < _; omega) (.slice AD p.2.length cD))
      refine bodyPost_ret (v := .agg #[.slice D0 (p.1).length g0, .slice AD p.2.length cD]) (by simp [results, Tryz.results40, go_sem, y0, y1]) rfl ⟨_, _, _, _, wd.heap.size + 1, rfl, u_G, u_prD, hMD.lower (by omega), fun f hf => Nat.lt_succ_of_lt (prDl _ hf), by omega, by have h := zB; simp [World.setCell] at h ⊢; omega, ?_⟩
      exact (bel_put (bel_put hB (by simp) _) (by simp) _)
end Go.Proofs.YtaabmaoldhoinaaGreat
namespace Go.Proofs.YtaabmaoldhoinaaGreat
open Fld

/-! ### bytes -/
def Bytes (l : List Int) : Prop := ∀ x ∈ l, 0 ≤ x ∧ x < 256
theorem Bytes.at_ {l : List Int} (h : Bytes l) (i : Nat) : 0 ≤ l.getD i 0 ∧ l.getD i 0 < 256 := by
  rw [List.getD_eq_getElem?_getD]
  by_cases hi : i < l.length
  · rw [List.getElem?_eq_getElem hi, Option.getD_some]; exact h _ (List.getElem_mem _)
  · rw [List.getElem?_eq_none (by omega)]; exact ⟨Int.le_refl _, by decide⟩
theorem Bytes.take {l : List Int} (h : Bytes l) (n : Nat) : Bytes (l.take n) := fun x hx => h x (List.mem_of_mem_take hx)
theorem Bytes.drop {l : List Int} (h : Bytes l) (n : Nat) : Bytes (l.drop n) := fun x hx => h x (List.mem_of_mem_drop hx)
theorem Bytes.app {l r : List Int} (h : Bytes l) (h' : Bytes r) : Bytes (l ++ r) := fun x hx => (List.mem_append.1 hx).elim (h x) (h' x)
theorem Bytes.set {l : List Int} (h : Bytes l) (i : Nat) {x : Int} (hx : 0 ≤ x ∧ x < 256) : Bytes (l.set i x) := fun y hy => by
  rcases List.mem_or_eq_of_mem_set hy with h' | rfl
  · exact h y h'
  · exact hx
theorem getD_lt {l : List Int} {i : Nat} (h : i < l.length) : l.getD i 0 = l[i] := by rw [List.getD_eq_getElem?_getD, List.getElem?_eq_getElem h]; rfl
theorem ext_getD {l r : List Int} (hl : l.length = r.length) (h : ∀ i, i < l.length → l.getD i 0 = r.getD i 0) : l = r := by
  apply List.ext_getElem hl
  intro i h1 h2
  rw [← getD_lt h1, ← getD_lt h2]; exact h i h1
/-! ### the key stream -/
/-! ### the code -/
def macR (k : Int) : Int := 1 + keyP k 71 % 2147483646
/-- What the code is when j bytes are over. -/
def macN (r n : Int) (l : List Int) (j : Nat) : Int := (l.take j).foldl (fun n b => addP (addP (mulP n r) b) 1) n
def macV (k : Int) (l : List Int) : Int := macN (macR k) (l.length + 1) l l.length
def mac (k : Int) (l : List Int) : Int := addP (mulP (macV k l) (macR k)) (keyP k 72)
/-! ### sealing -/
def get4 (l : List Int) : Int := l.getD 0 0 * 16777216 + l.getD 1 0 * 65536 + l.getD 2 0 * 256 + l.getD 3 0
def opens (k : Int) (l : List Int) : Prop := 4 ≤ l.length ∧ get4 l = mac (keyP k 2) (l.drop 4)
instance (k : Int) (l : List Int) : Decidable (opens k l) := by unfold opens; infer_instance
end Go.Proofs.YtaabmaoldhoinaaGreat
namespace Go.Proofs.YtaabmaoldhoinaaGreat
set_option maxRecDepth 100000
open Go.ChangeShapes Go.WideShapes Go.ChangeAt Go.RowKit
open Fld
attribute [local go_sem ↓] Go.wp_at_zero Go.wp_at_succ

theorem info_by : (Tryz.prog.info? 5).map (fun i => (i.zero, i.size, i.bytes)) = some (some (.int .u8 0), 1, 1) := by kernel_rfl
theorem wf8 {x : Int} (h : 0 ≤ x ∧ x < 256) : (Lit.int .u8 x).wf = true := WalkArith.wf_u8 (by omega)
theorem Ints.bytes {w : World} {B n : Nat} {A : Option Addr} {l : List Int} (h : Ints .u8 w B A n l) : Bytes l := fun x hx => by
  have := h.2.2 x hx
  simp [Lit.wf] at this
  have e1 : IntKind.u8.min = 0 := by decide
  have e2 : IntKind.u8.max = 255 := by decide
  omega
theorem Own.not {k : IntKind} {e : TypeId} {w : World} {base b : Nat} {v : Value} {l : List Int} (h : Own k e w base v l) (hb : b < base) : some b ≠ v.ownBlock := fun e => by
  have := (h.block e.symm).1; omega

end Go.Proofs.YtaabmaoldhoinaaGreat
namespace Go.Proofs.YtaabmaoldhoinaaGreat
open Go.ChangeShapes Go.WideShapes Go.ChangeAt Go.RowKit

theorem below_gb2 {a w w' : World} {g : Nat} (h : Below a.heap.size a w) (hg : a.heap.size ≤ g) (hG : w.grownBy w' (some g)) : Below a.heap.size a w' :=
  h.trans (gb_below hG h.size hg)
theorem k_Once (a : World) {w : World} {g n c : Nat} {A : Option Addr} {l : List Int} (m : Int) (h : Curs w g A n c l) (hG : a.grownBy w (some g)) (h1 : 1 ≤ m) (h2 : m ≤ 9223372036854775807) :
    Calls Tryz.prog 81 #[.pointer (some ⟨g, 0, none⟩), .int .i64 m] w fun e w' => ∃ b : Bool, e = .returned (.bool b) ∧ Curs w' g A n c l ∧ a.grownBy w' (some g) := by
  go_enter Tryz.func81, Tryz.ntmps81
  go_wp2_with (go_at_call 105; refine (k_Below a _ h hG h1 h2).mono ?_; rintro e w1 ⟨x, rfl, hx0, hx1, hC1, hG1⟩)
  go_ret
  exact ⟨_, rfl, hC1, hG1⟩
end Go.Proofs.YtaabmaoldhoinaaGreat
namespace Go.Proofs.YtaabmaoldhoinaaGreat
set_option linter.unusedVariables false
open Go.RowKit
def ixOf : Value → Nat | .int _ x => x.toNat | _ => 0
/-- No two have the same number. -/
def Apart {α : Type} (f : α → Int) (r : List α) : Prop := ∀ (i j : Nat) (a b : α), i < j → r[i]? = some a → r[j]? = some b → f a ≠ f b
theorem Apart.take {α : Type} {f : α → Int} {r : List α} (h : Apart f r) {j : Nat} {a : α} (ha : r[j]? = some a) : ∀ b ∈ r.take j, f b ≠ f a := by
  intro b hb
  obtain ⟨i, hi, rfl⟩ := List.getElem_of_mem hb
  rw [List.length_take] at hi
  exact h i j _ _ (by omega) (by rw [List.getElem_take]; exact List.getElem?_eq_getElem (by omega)) ha
theorem take_snoc {α : Type} {r : List α} {j : Nat} {a : α} (ha : r[j]? = some a) : r.take (j + 1) = r.take j ++ [a] := by
  rw [List.take_add_one, ha]; rfl
end Go.Proofs.YtaabmaoldhoinaaGreat
namespace Go.Proofs.YtaabmaoldhoinaaGreat
set_option linter.unusedVariables false
/-- Ascending. -/
def Asc (l : List Int) : Prop := ∀ i, i + 1 < l.length → l.getD i 0 < l.getD (i + 1) 0
/-- A message that lacks something. -/
def WhN (w : DWhole) : Prop := (0 ≤ w.2.2.1 ∧ w.2.2.1 ≤ 65535) ∧ (1 ≤ w.2.2.2.length ∧ (w.2.2.2.length : Int) < w.2.1) ∧ (∀ p ∈ w.2.2.2, PcOk p ∧ p.1 = w.1 ∧ p.2.2.1 = w.2.1) ∧ Asc (w.2.2.2.map fun p => p.2.1)
/-- A desk in order. -/
def DkOk (d : DDesk) : Prop := d.1.length ≤ 6 ∧ (∀ x ∈ d.2, 0 ≤ x ∧ x ≤ 255) ∧ Asc d.2 ∧ Asc (d.1.map fun w => w.1) ∧ ∀ w ∈ d.1, WhN w ∧ w.1 ∉ d.2
noncomputable instance (w : DWhole) : Decidable (WhN w) := Classical.propDecidable _
noncomputable instance (d : DDesk) : Decidable (DkOk d) := Classical.propDecidable _
theorem map_at {α : Type} {f : α → Int} {l : List α} {i : Nat} {a : α} (h : l[i]? = some a) : (l.map f).getD i 0 = f a := by
  rw [List.getD_eq_getElem?_getD, List.getElem?_map, h]; rfl
theorem asc_ge {l : List Int} (h : Asc l) (h0 : ∀ x ∈ l, 0 ≤ x) : ∀ i, i < l.length → (i : Int) ≤ l.getD i 0 := by
  intro i
  induction i with
  | zero =>
    intro hi
    have : l.getD 0 0 ∈ l := by rw [List.getD_eq_getElem?_getD, List.getElem?_eq_getElem hi]; exact List.getElem_mem _
    simpa using h0 _ this
  | succ i ih =>
    intro hi
    have := h i hi
    have := ih (by omega)
    omega
theorem asc_len {l : List Int} (h : Asc l) (h0 : ∀ x ∈ l, 0 ≤ x ∧ x ≤ 255) : l.length ≤ 256 := by
  by_cases hl : l.length ≤ 256
  · exact hl
  · have h1 := asc_ge h (fun x hx => (h0 x hx).1) 256 (by omega)
    have h2 : l.getD 256 0 ∈ l := by rw [List.getD_eq_getElem?_getD, List.getElem?_eq_getElem (by omega)]; exact List.getElem_mem _
    have := (h0 _ h2).2
    omega
/-- The first k numbers are names, ascending. -/
def DnK (l : List Int) (k : Nat) : Prop := ∀ i, i < k → (0 ≤ l.getD i 0 ∧ l.getD i 0 ≤ 255) ∧ ∀ q, i = q + 1 → l.getD q 0 < l.getD i 0
theorem DnK.zero {l : List Int} : DnK l 0 := fun i h => absurd h (by omega)
theorem DnK.succ {l : List Int} {k : Nat} (h : DnK l k) (h1 : 0 ≤ l.getD k 0) (h2 : l.getD k 0 ≤ 255) (h3 : ∀ q, k = q + 1 → l.getD q 0 < l.getD k 0) : DnK l (k + 1) := fun i hi => by
  rcases Nat.lt_succ_iff_lt_or_eq.1 hi with h' | rfl
  · exact h i h'
  · exact ⟨⟨h1, h2⟩, h3⟩
theorem DnK.done {l : List Int} {k : Nat} (h : DnK l k) (hk : l.length ≤ k) : (∀ x ∈ l, 0 ≤ x ∧ x ≤ 255) ∧ Asc l := by
  refine ⟨fun x hx => ?_, fun i hi => (h (i + 1) (by omega)).2 i rfl⟩
  obtain ⟨i, hi, rfl⟩ := List.getElem_of_mem hx
  have := (h i (by omega)).1
  rwa [List.getD_eq_getElem?_getD, List.getElem?_eq_getElem hi] at this
/-- The first k things: each meets P, and f ascends. -/
def RwK {α : Type} (P : α → Prop) (f : α → Int) (l : List α) (k : Nat) : Prop := ∀ i a, i < k → l[i]? = some a → P a ∧ ∀ q b, i = q + 1 → l[q]? = some b → f b < f a
theorem RwK.zero {α : Type} {P : α → Prop} {f : α → Int} {l : List α} : RwK P f l 0 := fun i a h => absurd h (by omega)
theorem RwK.succ {α : Type} {P : α → Prop} {f : α → Int} {l : List α} {k : Nat} {a : α} (h : RwK P f l k) (hl : l[k]? = some a) (hP : P a) (h3 : ∀ q b, k = q + 1 → l[q]? = some b → f b < f a) : RwK P f l (k + 1) := fun i x hi hx => by
  rcases Nat.lt_succ_iff_lt_or_eq.1 hi with h' | rfl
  · exact h i x h' hx
  · rw [hl] at hx; injection hx with hx; subst hx; exact ⟨hP, h3⟩
theorem RwK.done {α : Type} {P : α → Prop} {f : α → Int} {l : List α} {k : Nat} (h : RwK P f l k) (hk : l.length ≤ k) : (∀ a ∈ l, P a) ∧ Asc (l.map f) := by
  refine ⟨fun a ha => ?_, fun i hi => ?_⟩
  · obtain ⟨i, hi, rfl⟩ := List.getElem_of_mem ha
    exact (h i _ (by omega) (List.getElem?_eq_getElem hi)).1
  · rw [List.length_map] at hi
    rw [map_at (List.getElem?_eq_getElem (show i < l.length by omega)), map_at (List.getElem?_eq_getElem hi)]
    exact (h (i + 1) _ (by omega) (List.getElem?_eq_getElem hi)).2 i _ rfl (List.getElem?_eq_getElem (by omega))
theorem asc_at {α : Type} {f : α → Int} {l : List α} {q : Nat} {a b : α} (h : Asc (l.map f)) (ha : l[q + 1]? = some a) (hb : l[q]? = some b) : f b < f a := by
  have hq := (List.getElem?_eq_some_iff.1 ha).1
  have := h q (by rw [List.length_map]; exact hq)
  rwa [map_at ha, map_at hb] at this
end Go.Proofs.YtaabmaoldhoinaaGreat
namespace Go.Proofs.YtaabmaoldhoinaaGreat
set_option linter.unusedVariables false
def lackAt (g : List DPiece) (n : Nat) : List Int := ((List.range n).map fun i : Nat => (i : Int)).filter fun x => decide (x ∉ g.map fun p => p.2.1)
theorem lackAt_t {g : List DPiece} {n : Nat} (h : (n : Int) ∉ g.map fun p => p.2.1) : lackAt g (n + 1) = lackAt g n ++ [(n : Int)] := by
  unfold lackAt
  rw [List.range_succ, List.map_append, List.filter_append, List.map_singleton, List.filter_cons_of_pos (by exact decide_eq_true h)]
  rfl
theorem lackAt_f {g : List DPiece} {n : Nat} (h : (n : Int) ∈ g.map fun p => p.2.1) : lackAt g (n + 1) = lackAt g n := by
  unfold lackAt
  rw [List.range_succ, List.map_append, List.filter_append, List.map_singleton, List.filter_cons_of_neg (by rw [decide_eq_true_iff]; exact fun x => x h)]
  simp
theorem lackAt_le (g : List DPiece) (n : Nat) : (lackAt g n).length ≤ n := by
  unfold lackAt
  exact Nat.le_trans (List.length_filter_le _ _) (by simp)
def misL (id : Int) : List DWhole → List Int
  | [] => []
  | a :: l => (if a.1 = id then lackAt a.2.2.2 a.2.1.toNat else []) ++ misL id l
theorem misL_app (id : Int) : ∀ (l r : List DWhole), misL id (l ++ r) = misL id l ++ misL id r
  | [], r => rfl
  | a :: l, r => by
    show (if a.1 = id then lackAt a.2.2.2 a.2.1.toNat else []) ++ misL id (l ++ r) = _
    rw [misL_app id l r, ← List.append_assoc]
    rfl
theorem misL_none {id : Int} : ∀ {l : List DWhole}, (∀ a ∈ l, a.1 ≠ id) → misL id l = []
  | [], _ => rfl
  | a :: l, h => by
    show (if a.1 = id then lackAt a.2.2.2 a.2.1.toNat else []) ++ misL id l = []
    rw [if_neg (h a (by simp)), misL_none (fun b hb => h b (List.mem_cons_of_mem _ hb))]
    rfl
theorem misL_one {id : Int} {r : List DWhole} {a : DWhole} (hap : Apart (fun a : DWhole => a.1) r) (ha : a ∈ r) (hid : a.1 = id) : misL id r = lackAt a.2.2.2 a.2.1.toNat := by
  obtain ⟨j, hj, rfl⟩ := List.getElem_of_mem ha
  have h1 : r[j]? = some r[j] := List.getElem?_eq_getElem hj
  have e : r = r.take j ++ r[j] :: r.drop (j + 1) := by rw [← List.drop_eq_getElem_cons hj, List.take_append_drop]
  have n1 : ∀ b ∈ r.take j, b.1 ≠ id := fun b hb => by rw [← hid]; exact hap.take h1 b hb
  have n2 : ∀ b ∈ r.drop (j + 1), b.1 ≠ id := fun b hb => by
    obtain ⟨i, hi, rfl⟩ := List.getElem_of_mem hb
    rw [List.length_drop] at hi
    rw [← hid]
    exact (hap j (j + 1 + i) _ _ (by omega) h1 (by rw [List.getElem_drop]; exact List.getElem?_eq_getElem (by omega))).symm
  generalize r[j] = a at *
  rw [e, misL_app, misL_none n1]
  show [] ++ ((if a.1 = id then lackAt a.2.2.2 a.2.1.toNat else []) ++ misL id _) = _
  rw [if_pos hid, misL_none n2]
  simp
noncomputable def fMis (p : DDesk) (id : Int) : List Int := if DkOk p then misL id p.1 else []
theorem fMis_t {p : DDesk} {id : Int} (h : DkOk p) : fMis p id = misL id p.1 := if_pos h
theorem fMis_f {p : DDesk} {id : Int} (h : ¬ DkOk p) : fMis p id = [] := if_neg h
theorem asc_lt {l : List Int} (h : Asc l) : ∀ i j, i < j → j < l.length → l.getD i 0 < l.getD j 0 := by
  intro i j hij
  induction j with
  | zero => omega
  | succ j ih =>
    intro hj
    have h1 := h j hj
    rcases Nat.lt_succ_iff_lt_or_eq.1 hij with h' | rfl
    · have := ih h' (by omega); omega
    · exact h1
theorem dk_apart {p : DDesk} (h : DkOk p) : Apart (fun a : DWhole => a.1) p.1 := by
  intro i j a b hij ha hb
  have h1 := asc_lt h.2.2.2.1 i j hij (by rw [List.length_map]; exact (List.getElem?_eq_some_iff.1 hb).1)
  rw [map_at ha, map_at hb] at h1
  exact fun e => by have e' : a.1 = b.1 := e; have h1' : a.1 < b.1 := h1; omega
theorem dk_wh {p : DDesk} (h : DkOk p) {a : DWhole} (ha : a ∈ p.1) : 1 ≤ a.2.2.2.length ∧ (a.2.2.2.length : Int) < a.2.1 ∧ a.2.1 ≤ 8 := by
  obtain ⟨-, ⟨h1, h2⟩, h3, -⟩ := (h.2.2.2.2 a ha).1
  refine ⟨h1, h2, ?_⟩
  have hm := List.getElem_mem (l := a.2.2.2) (n := 0) (by omega)
  have h4 := h3 _ hm
  have h5 := h4.1.2.2.1
  omega
theorem misL_le {p : DDesk} (h : DkOk p) (id : Int) : (misL id p.1).length ≤ 48 := by
  have h6 := h.1
  have hw : ∀ a ∈ p.1, a.2.1 ≤ 8 := fun a ha => (dk_wh h ha).2.2
  generalize p.1 = l at *
  have : ∀ l : List DWhole, (∀ a ∈ l, a.2.1 ≤ 8) → (misL id l).length ≤ 8 * l.length := by
    intro l
    induction l with
    | nil => intro _; simp [misL]
    | cons a l ih =>
      intro hl
      show ((if a.1 = id then lackAt a.2.2.2 a.2.1.toNat else []) ++ misL id l).length ≤ _
      rw [List.length_append, List.length_cons]
      have h1 := ih fun b hb => hl b (List.mem_cons_of_mem _ hb)
      have h2 := hl a (by simp)
      split
      · have := lackAt_le a.2.2.2 a.2.1.toNat; omega
      · simp; omega
  have := this l hw
  omega
theorem fMis_le (p : DDesk) (id : Int) : (fMis p id).length ≤ 48 := by
  unfold fMis
  split
  · exact misL_le ‹_› id
  · simp
end Go.Proofs.YtaabmaoldhoinaaGreat
