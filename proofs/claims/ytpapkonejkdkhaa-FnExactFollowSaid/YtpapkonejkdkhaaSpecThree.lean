/-
  Contracts of the model's layers of chapter 3: the small functions.
-/
import Derived.Test.YtpapkonejkdkhaaSpecTwo
import Derived.Test.YtpapkonejkdkhaaOnion
import Derived.Test.YtpapkonejkdkhaaCell
namespace Go.Proofs.Ytpapkonejkdkhaa
set_option maxRecDepth 100000
open Go.ChangeShapes Go.WideShapes Go.ChangeAt Go.RowKit
open Fld
attribute [local go_sem ↓] Go.wp_at_zero Go.wp_at_succ

theorem empty_row (w : World) (t : TypeId) : (w.alloc (.cells #[] t)).ownsRow w.heap.size t 1 (.slice (some ⟨w.heap.size, 0, none⟩) 0 0) 0 [] :=
  ⟨rfl, .inr ⟨w.heap.size, 0, #[], rfl, Nat.le_refl _, heap_alloc_new w _, Nat.le_refl _, by simp only [maxLen]; omega, rfl, rfl⟩⟩
theorem s_CellOk_t (A : Option Addr) (n c : Nat) (w : World) (h : n = 80) :
    Calls Try.prog 49 #[.agg #[.slice A n c]] w fun e w' => e = .returned (.bool true) ∧ Below w.heap.size w w' := by
  subst h
  go_enter Try.func49, Try.ntmps49
  go_wp2
  go_ret
  exact ⟨rfl, (by repeat (first | (with_reducible exact Below.refl _ _) | (with_reducible assumption) | (with_reducible refine bel_alloc ?_ _) | (with_reducible refine bel_drew ?_) | (with_reducible refine below_drewN ?_ _) | (with_reducible refine bel_put ?_ (by first | exact Nat.le_refl _ | (simp; done) | (simp; omega)) _)))⟩
theorem s_CellOk_f (A : Option Addr) (n c : Nat) (w : World) (h : ¬ n = 80) :
    Calls Try.prog 49 #[.agg #[.slice A n c]] w fun e w' => e = .returned (.bool false) ∧ Below w.heap.size w w' := by
  have d : ((n : Int) == 80) = false := by simp; omega
  clear h
  go_enter Try.func49, Try.ntmps49
  go_wp2
  go_ret
  exact ⟨by first | rfl | simp [d], (by repeat (first | (with_reducible exact Below.refl _ _) | (with_reducible assumption) | (with_reducible refine bel_alloc ?_ _) | (with_reducible refine bel_drew ?_) | (with_reducible refine below_drewN ?_ _) | (with_reducible refine bel_put ?_ (by first | exact Nat.le_refl _ | (simp; done) | (simp; omega)) _)))⟩
theorem s_CellOk {w : World} {n c : Nat} {A : Option Addr} {l : List Int} (hl : Ints .u8 w w.heap.size A n l) :
    Calls Try.prog 49 #[.agg #[.slice A n c]] w fun e w' => e = .returned (.bool (decide (l.length = 80))) ∧ Below w.heap.size w w' := by
  rw [hl.1]
  by_cases h : n = 80
  · rw [decide_eq_true h]; exact s_CellOk_t _ _ _ _ h
  · rw [decide_eq_false h]; exact s_CellOk_f _ _ _ _ h
theorem s_fill {w : World} {n c m d : Nat} {A A' : Option Addr} {l pad : List Int} (hl : Ints .u8 w w.heap.size A n l) (hp : Ints .u8 w w.heap.size A' m pad) (hn : n ≤ 80) (hm : 80 ≤ m) (hm2 : m ≤ 140737488355328) :
    Calls Try.prog 92 #[.slice A n c, .slice A' m d] w fun e w' => ∃ v, e = .returned (.agg #[v]) ∧ Own .u8 5 w' w.heap.size v (padL l pad) ∧ Below w.heap.size w w' := by
  obtain ⟨i0, hi0, hz0, hz1, hz2⟩ := info_parts info_by
  have HL := Lib.hid hl.1
  have HP := Lib.hid hp.1
  have hby := hl.bytes
  have hpy := hp.bytes
  go_enter Try.func92, Try.ntmps92
  have hE : ((w.alloc (.cells #[.slice none 0 0] 26)).alloc (.cells #[] 5)).ownsRow (w.heap.size + 1) 5 1 (.slice (some ⟨w.heap.size + 1, 0, none⟩) 0 0) 0 [] := by simpa using empty_row (w.alloc (.cells #[.slice none 0 0] 26)) 5
  go_wp2_with (at_builtin; refine wpList_app _ rfl (.tmp 7) (.tmp 8) _ rfl (w.heap.size + 1) 5 i0 _ 1 1 Try.underlying22 hi0 hz0 hz1 hz2 rfl (by omega) (.slice (some ⟨w.heap.size + 1, 0, none⟩) 0 0) 0 [] rfl hE A n c _ rfl (Src.of_ints (reach hl (by repeat (first | (with_reducible exact Below.refl _ _) | (with_reducible assumption) | (with_reducible refine bel_alloc ?_ _) | (with_reducible refine bel_drew ?_) | (with_reducible refine below_drewN ?_ _) | (with_reducible refine bel_put ?_ (by first | exact Nat.le_refl _ | (simp; done) | (simp; omega)) _))))) (one_ints _ _) (by simp only [maxLen]; omega) (by omega) (by simp) ?_; intro v1 w1 hown hg hat)
  have hB1 : Below w.heap.size w w1 := Below.grown (a := w) (by repeat (first | (with_reducible exact Below.refl _ _) | (with_reducible assumption) | (with_reducible refine bel_alloc ?_ _) | (with_reducible refine bel_drew ?_) | (with_reducible refine below_drewN ?_ _) | (with_reducible refine bel_put ?_ (by first | exact Nat.le_refl _ | (simp; done) | (simp; omega)) _))) hg (by simp; omega) (by intro b hb; simp [Value.ownBlock] at hb; omega)
  have b1 : Box w1 w.heap.size 26 #[.slice none 0 0] := Box.grown ((Box.new _ _ _).alloc _) hg (by simp [Value.ownBlock])
  have hO1 : Own .u8 5 w1 (w.heap.size + 1) v1 l := Own.of (n := n) (by simpa using hown) hl.2.2
  clear hown hg hat
  go_loopw [5, 6] (fun v i wr => ∃ j : Nat, n + j ≤ 80 ∧ i = .int .i64 j ∧ Own .u8 5 wr (w.heap.size + 1) v (l ++ pad.take j) ∧ Below w.heap.size w wr ∧ Box wr w.heap.size 26 #[.slice none 0 0]) (fun _ i _ => 80 - n - (intOf i).toNat)
  case atStart => exact ⟨0, by omega, rfl, by simpa using hO1, hB1, b1⟩
  case round =>
    clear hO1 b1
    obtain ⟨j, hj, rfl, hO, hB, hX⟩ := hrel
    have hlen : (l ++ pad.take j).length = n + j := by rw [List.length_append, List.length_take, HL.out, HP.out]; omega
    by_cases hlt : n + j < 80
    · obtain ⟨b, off, rfl, hb, hcell, _⟩ := (hp.below hB).at_ (show j < m by omega)
      have HS := Lib.hid (show l ++ pad.take (j + 1) = (l ++ pad.take j) ++ [pad.getD j 0] by rw [List.take_succ_eq_append_getElem (by rw [HP.out]; omega), getD_lt (by rw [HP.out]; omega), List.append_assoc])
      have rx := hpy.at_ j
      obtain ⟨x, hx⟩ : ∃ x, pad.getD j 0 = x := ⟨_, rfl⟩
      rw [hx] at hcell rx
      have HX := Lib.hid hx
      clear hx
      obtain ⟨xs, hxs⟩ : ∃ xs, l ++ pad.take j = xs := ⟨_, rfl⟩
      rw [hxs] at hO hlen
      have HY := Lib.hid hxs
      clear hxs
      obtain ⟨A1, c1, rfl, _⟩ := hO.ints
      have q1 : (0 : Int) ≤ (j : Int) := Int.natCast_nonneg _
      have q2 : (j : Int) < (m : Int) := by omega
      have q3 : (xs.length : Int) < 80 := by omega
      have q4 : xs.length ≤ 80 := by omega
      clear hlen
      go_wp2_with (at_builtin; refine wpList_app _ rfl (.tmp 15) (.tmp 20) _ rfl (w.heap.size + 1) 5 i0 _ 1 1 Try.underlying22 hi0 hz0 hz1 hz2 rfl (by omega) (.slice A1 xs.length c1) xs.length (xs.map (Value.int .u8)) rfl (hO.1.alloc _) (some ⟨wr.heap.size, 0, none⟩) 1 1 [.int .u8 x] rfl (Src.one wr _ _) (one_int _ _) (by simp only [maxLen]; omega) (by omega) (by have := hX.size; simp; omega) ?_; intro v1 w1 hown hg hat)
      go_roundw
      case rel => exact ⟨j + 1, by omega, by go_num, own_snoc hO hown (by rw [HS.out, HY.out, HX.out]) rx, (bel_alloc hB _).grown hg (by have := hX.size; simp; omega) (fun b hb => by have := (hO.block hb).1; omega), (hX.alloc _).grown hg (fun e => by have := (hO.block e.symm).1; omega)⟩
      case measure => simp [intOf]; omega
    · have HE := Lib.hid (show padL l pad = l ++ pad.take j by unfold padL; rw [HL.out, show 80 - n = j by omega])
      obtain ⟨xs, hxs⟩ : ∃ xs, l ++ pad.take j = xs := ⟨_, rfl⟩
      rw [hxs] at hO hlen
      have HY := Lib.hid hxs
      clear hxs
      obtain ⟨A1, c1, rfl, _⟩ := hO.ints
      have q3 : ¬ (xs.length : Int) < 80 := by omega
      clear hlen
      have c1' := hX.cell 0; have f1 := hX.frozen 0
      have e := (hX.put 0 (.slice A1 xs.length c1)).cell 0
      go_wp2
      refine bodyPost_ret (v := .agg #[.slice A1 xs.length c1]) (by simp [results, Try.results92, go_sem, e]) rfl ⟨_, rfl, ?_, bel_put hB (Nat.le_refl _) _⟩
      rw [HE.out, HY.out]
      exact (hO.far (by omega) 0 _).lower (by omega)
theorem s_shared_t {w : World} {n c : Nat} {A : Option Addr} {l : List Int} (s : Int) (hl : Ints .u8 w w.heap.size A n l) (hn : 4 ≤ n) (hm : n ≤ 140737488355328) (hs : Sec s) (hp : Pub (get4 l)) :
    Calls Try.prog 88 #[.int .i64 s, .slice A n c] w fun e w' => e = .returned (.int .i64 (powP (get4 l) s.toNat)) ∧ Below w.heap.size w w' := by
  have h1 := hs.lo; have h2 := hs.hi; have h3 := hp.lo; have h4 := hp.hi
  go_enter Try.func88, Try.ntmps88
  go_wp2_with fail
  refine (s_get hl hn hm).mono ?_
  rintro e w1 ⟨rfl, q, rfl⟩
  go_wp2_with (first | (go_at_call 104; with_reducible refine (s_pub_t _ _ (by assumption)).mono ?_; rintro e w' ⟨rfl, rfl⟩) | (go_at_call 105; refine (s_pow _ _ _ (by omega) (by omega) (by omega) (by omega)).mono ?_; rintro e w' ⟨rfl, rfl⟩))
  go_ret
  exact ⟨rfl, below_drewN (Below.refl _ _) _⟩
theorem s_shared_f {w : World} {n c : Nat} {A : Option Addr} {l : List Int} (s : Int) (hl : Ints .u8 w w.heap.size A n l) (hn : 4 ≤ n) (hm : n ≤ 140737488355328) (hp : NoPub (get4 l)) :
    Calls Try.prog 88 #[.int .i64 s, .slice A n c] w fun e w' => e = .returned (.int .i64 (-1)) ∧ Below w.heap.size w w' := by
  go_enter Try.func88, Try.ntmps88
  go_wp2_with fail
  refine (s_get hl hn hm).mono ?_
  rintro e w1 ⟨rfl, q, rfl⟩
  go_wp2_with (go_at_call 104; with_reducible refine (s_pub_f _ _ (by assumption)).mono ?_; rintro e w' ⟨rfl, rfl⟩)
  go_ret
  exact ⟨rfl, below_drewN (Below.refl _ _) _⟩
end Go.Proofs.Ytpapkonejkdkhaa
