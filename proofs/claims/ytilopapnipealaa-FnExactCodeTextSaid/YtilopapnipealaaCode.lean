/-
  The words of the codes: contracts of CodeText, of both sides.
-/
import Derived.Test.YtilopapnipealaaMark
import Derived.Test.YtilopapnipealaaCell
import Derived.Laws.IdiomStrings
namespace Go.Proofs.Ytilopapnipealaa
set_option maxRecDepth 100000
set_option linter.unusedVariables false
set_option linter.unusedSimpArgs false
open Go.ChangeShapes Go.WideShapes Go.ChangeAt Go.RowKit
def fCode (a : Int) : List Int :=
  if a = 0 then [104, 101, 108, 100] else if a = 1 then [112, 105, 101, 99, 101] else if a = 2 then [119, 104, 111, 108, 101] else if a = 3 then [115, 101, 101, 110]
  else if a = 4 then [98, 97, 100] else if a = 5 then [111, 108, 100] else if a = 6 then [102, 117, 108, 108] else if a = 7 then [111, 100, 100] else []
theorem fCode_le (a : Int) : (fCode a).length ≤ 5 := by
  unfold fCode
  repeat' split
  all_goals decide
theorem code_cases (a : Int) : (a < 0 ∨ 7 < a) ∨ a = 0 ∨ a = 1 ∨ a = 2 ∨ a = 3 ∨ a = 4 ∨ a = 5 ∨ a = 6 ∨ a = 7 := by omega
theorem fCode_out {a : Int} (h : a < 0 ∨ 7 < a) : fCode a = [] := by
  unfold fCode
  repeat' split
  all_goals first | rfl | omega
/-- Block g begins with the bytes l; just one place behind them may be frozen. -/
def FrB (w : World) (g : Nat) (l : List Int) : Prop :=
  ∃ cur e z, w.heap[g]? = some (.cells cur e (z, z + 1)) ∧ l.length ≤ z ∧ (∀ i, i < l.length → cur[i]? = some (.int .u8 (l.getD i 0))) ∧ ∀ x ∈ l, (Lit.int .u8 x).wf = true
section
variable {w w' : World} {g : Nat} {l : List Int}
theorem FrB.size (h : FrB w g l) : g < w.heap.size := by
  obtain ⟨cur, e, z, h1, _⟩ := h
  by_cases hl : g < w.heap.size
  · exact hl
  · rw [Array.getElem?_eq_none (by omega)] at h1; cases h1
theorem FrB.cell (h : FrB w g l) {i : Nat} (hi : i < l.length) : w.cell? ⟨g, i, none⟩ = some (.int .u8 (l.getD i 0)) := by
  obtain ⟨cur, e, z, h1, h2, h3, _⟩ := h
  rw [cell_of_row w g i cur e (z, z + 1) h1]; exact h3 i hi
theorem FrB.frozen (h : FrB w g l) {i : Nat} (hi : i < l.length) : w.frozen? ⟨g, i, none⟩ = false := by
  obtain ⟨cur, e, z, h1, h2, _⟩ := h
  simp [World.frozen?, h1]; omega
theorem FrB.ints (h : FrB w g l) : Ints .u8 w w.heap.size (some ⟨g, 0, none⟩) l.length l :=
  ⟨rfl, fun _ => ⟨g, 0, rfl, h.size, fun i hi => by rw [Nat.zero_add]; exact h.cell hi⟩, by obtain ⟨_, _, _, _, _, _, h4⟩ := h; exact h4⟩
theorem FrB.same (h : FrB w g l) (e : w'.heap[g]? = w.heap[g]?) : FrB w' g l := by
  obtain ⟨cur, t, z, h1, h2⟩ := h; exact ⟨cur, t, z, e.trans h1, h2⟩
theorem FrB.below {B : Nat} (h : FrB w g l) (hb : Below B w w') (hg : g < B) : FrB w' g l := h.same (hb.block g hg)
theorem FrB.put (h : FrB w g l) {i : Nat} (hi : i < l.length) {x : Int} (hx : (Lit.int .u8 x).wf = true) : FrB (w.setCell ⟨g, i, none⟩ (.int .u8 x)) g (l.set i x) := by
  obtain ⟨cur, t, z, h1, h2, h3, h4⟩ := h
  refine ⟨cur.setIfInBounds i (.int .u8 x), t, z, by simp [World.setCell, Array.getElem?_modify, h1], by rw [List.length_set]; exact h2, fun j hj => ?_, fun y hy => ?_⟩
  · rw [List.length_set] at hj
    have hs : i < cur.size := by
      by_cases hs : i < cur.size
      · exact hs
      · have := h3 i hi; rw [Array.getElem?_eq_none (by omega)] at this; cases this
    rw [Array.getElem?_setIfInBounds]
    by_cases hij : i = j
    · subst hij
      rw [if_pos rfl, if_pos hs, List.getD_eq_getElem?_getD, List.getElem?_set_self hj]; rfl
    · rw [if_neg hij, h3 j hj, List.getD_eq_getElem?_getD, List.getD_eq_getElem?_getD, List.getElem?_set_ne hij]
  · rcases List.mem_or_eq_of_mem_set hy with h' | rfl
    · exact h4 y h'
    · exact hx
end
/-- The bytes of a string, laid anew. -/
noncomputable def capC (w : World) (s : ByteArray) (e : TypeId) : Nat := grownCap w s.size 0 e
noncomputable def objC (w : World) (s : ByteArray) (e : TypeId) : Obj := .cells (bytesRow s (grownCap w s.size 0 e)) e ((bytesRow s (grownCap w s.size 0 e)).size, (bytesRow s (grownCap w s.size 0 e)).size + 1)
theorem run_conv {P : Program} {src dst e : TypeId} (hs : P.underlying src = some .string) (hd : P.underlying dst = some (.slice e)) (he : P.underlying e = some (.int .u8)) (w : World) (s : ByteArray) :
    (convert src dst (.string s)).run P w = .ok (.slice (some ⟨w.heap.size, 0, none⟩) s.size (capC w s e)) (w.drew.alloc (objC w s e)) := run_bytes_of_string w src dst e s hs hd he
theorem FrB.conv {w : World} {s : ByteArray} {e : TypeId} {g : Nat} {l : List Int} (hg : w.heap.size = g) (hl : l = s.data.toList.map fun b => (b.toNat : Int)) : FrB ((w.alloc (objC w s e)).drew) g l := by
  subst hl hg
  refine ⟨_, e, _, heap_alloc_new w _, by simp [bytesRow], fun i hi => ?_, fun x hx => ?_⟩
  · simp at hi
    simp [bytesRow, Array.getElem?_append_left, hi, List.getD_eq_getElem?_getD]
  · obtain ⟨b, _, rfl⟩ := List.mem_map.1 hx
    have := b.toNat_lt
    exact WalkArith.wf_u8 (by omega)
theorem capC_ge {w : World} {s : ByteArray} {e : TypeId} {n : Nat} (hn : s.size = n) : n ≤ capC w s e := by subst hn; exact grownCap_ge _ _ _ _
theorem capC_le {w : World} {s : ByteArray} {e : TypeId} (hn : s.size ≤ 1000) : capC w s e ≤ 9223372036854775807 := by
  have := grownCap_le_maxLen w s.size 0 e (by simp only [maxLen]; omega)
  simpa only [maxLen, capC] using this
theorem l_markF {w : World} {g n c : Nat} {l : List Int} (k : Int) (h : FrB w g l) (hn : l.length = n) (hnc : n ≤ c) (hcm : c ≤ 9223372036854775807) (h0 : 0 ≤ k) (hk : k + n ≤ 4611686018427387904) :
    Calls Try.prog 10 #[.slice (some ⟨g, 0, none⟩) n c, .int .i64 k] w fun e w' => e = .returned (.int .i64 (k + n)) ∧ FrB w' g (marks8 k n) ∧ w.grownBy w' (some g) := by
  have HN := Lib.hid hn
  have HZ := Lib.hid (mks_zero (fun i : Nat => (k + (i : Int)) % 256) l)
  clear hn
  go_enter Try.func10, Try.ntmps10
  go_wp2
  go_loopw [1, 5] (fun x i wr => ∃ j : Nat, j ≤ n ∧ x = .int .i64 (k + j) ∧ i = .int .i64 j ∧ FrB wr g (mks (fun i : Nat => (k + (i : Int)) % 256) l j) ∧ w.grownBy wr (some g)) (fun _ i _ => n - (intOf i).toNat)
  case atStart => exact ⟨0, by omega, by go_num, rfl, by rw [HZ.out]; exact h, World.grownBy.refl _ _⟩
  case round =>
    obtain ⟨j, hj, rfl, rfl, hO, hG⟩ := hrel
    by_cases hlt : j < n
    · have hml : (mks (fun i : Nat => (k + (i : Int)) % 256) l j).length = n := by rw [mks_len]; exact HN.out
      have HS := Lib.hid (mks_set (fun i : Nat => (k + (i : Int)) % 256) l j)
      have hc1 := hO.cell (i := j) (by omega)
      have hf1 := hO.frozen (i := j) (by omega)
      have hP := hO.put (i := j) (by omega) (x := (k + (j : Int)) % 256) (WalkArith.wf_u8 (by omega))
      rw [HS.out] at hP
      clear hml
      go_wp2
      go_roundw
      case rel => exact ⟨j + 1, by omega, by go_num, by go_num, hP, only_put hG _ _⟩
      case measure => simp [intOf]; omega
    · obtain rfl : j = n := by omega
      have HA := Lib.hid (show mks (fun i : Nat => (k + (i : Int)) % 256) l j = marks8 k j from by rw [← HN.out]; exact mks_all _ _)
      go_wp2
      go_ret
      exact ⟨rfl, by rw [← HA.out]; exact hO, hG⟩
set_option maxHeartbeats 1000000 in
theorem s_CodeText_n (a : Int) (w : World) (h : a < 0 ∨ 7 < a) :
    Calls Try.prog 7 #[.int .i64 a] w fun e w' => e = .returned (.slice none 0 0) ∧ Below w.heap.size w w' := by
  rcases h with h | h
  · go_enter Try.func7, Try.ntmps7
    go_wp2
    go_ret
    exact ⟨rfl, (by repeat (first | (with_reducible exact Below.refl _ _) | (with_reducible assumption) | (with_reducible refine bel_alloc ?_ _) | (with_reducible refine bel_drew ?_) | (with_reducible refine below_drewN ?_ _) | (with_reducible refine bel_put ?_ (by first | exact Nat.le_refl _ | (simp; done) | (simp; omega)) _)))⟩
  · have h2 : ¬ a < 0 := by omega
    go_enter Try.func7, Try.ntmps7
    go_wp2
    go_ret
    exact ⟨rfl, (by repeat (first | (with_reducible exact Below.refl _ _) | (with_reducible assumption) | (with_reducible refine bel_alloc ?_ _) | (with_reducible refine bel_drew ?_) | (with_reducible refine below_drewN ?_ _) | (with_reducible refine bel_put ?_ (by first | exact Nat.le_refl _ | (simp; done) | (simp; omega)) _)))⟩
set_option maxHeartbeats 1000000 in
theorem s_CodeText (a : Int) (w : World) (h : 0 ≤ a ∧ a ≤ 7) :
    Calls Try.prog 7 #[.int .i64 a] w fun e w' => ∃ g c, e = .returned (.slice (some ⟨g, 0, none⟩) (fCode a).length c) ∧ w.heap.size ≤ g ∧ FrB w' g (fCode a) ∧ (fCode a).length ≤ c ∧ c ≤ 9223372036854775807 ∧ Below w.heap.size w w' := by
  have hcv := run_conv (P := Try.prog) (src := 9) (dst := 22) (e := 5) Try.underlying9 Try.underlying22 Try.underlying5
  rcases (by omega : a = 0 ∨ a = 1 ∨ a = 2 ∨ a = 3 ∨ a = 4 ∨ a = 5 ∨ a = 6 ∨ a = 7) with h | h | h | h | h | h | h | h
  all_goals
    subst h
    go_enter Try.func7, Try.ntmps7
    go_wp2
    go_ret
    exact ⟨_, _, rfl, by simp, FrB.conv (by simp) (by decide +kernel), capC_ge (by decide +kernel), capC_le (by decide +kernel), by exact (by repeat (first | (with_reducible exact Below.refl _ _) | (with_reducible assumption) | (with_reducible refine bel_alloc ?_ _) | (with_reducible refine bel_drew ?_) | (with_reducible refine below_drewN ?_ _) | (with_reducible refine bel_put ?_ (by first | exact Nat.le_refl _ | (simp; done) | (simp; omega)) _)))⟩
theorem i_within (x y : Int) (w : World) : Calls Try.prog 29 #[.int .i64 x, .int .i64 y] w fun e w' => e = .returned (.bool (decide (0 ≤ x ∧ x ≤ y))) ∧ w = w' := by
  by_cases h1 : 0 ≤ x
  · by_cases h2 : x ≤ y
    · rw [decide_eq_true ⟨h1, h2⟩]
      go_enter Try.func29, Try.ntmps29
      go_wp2
      go_ret
      exact ⟨by first | rfl | (simp; done) | (simp; omega), rfl⟩
    · rw [decide_eq_false (fun h => h2 h.2)]
      go_enter Try.func29, Try.ntmps29
      go_wp2
      go_ret
      exact ⟨by first | rfl | (simp; done) | (simp; omega), rfl⟩
  · rw [decide_eq_false (fun h => h1 h.1)]
    go_enter Try.func29, Try.ntmps29
    go_wp2
    go_ret
    exact ⟨by first | rfl | (simp; done) | (simp; omega), rfl⟩
theorem i_within_f (x y : Int) (w : World) (h : x < 0 ∨ y < x) : Calls Try.prog 29 #[.int .i64 x, .int .i64 y] w fun e w' => e = .returned (.bool false) ∧ w = w' :=
  (i_within x y w).mono fun e w' hh => ⟨by rw [hh.1, decide_eq_false (by omega)], hh.2⟩
set_option maxHeartbeats 1000000 in
theorem i_CodeText_n (a : Int) (w : World) (h : a < 0 ∨ 7 < a) :
    Calls Try.prog 8 #[.int .i64 a] w fun e w' => e = .returned (.slice none 0 0) ∧ Below w.heap.size w w' := by
  rcases h with h | h
  · go_enter Try.func8, Try.ntmps8
    go_wp2_with (go_at_call 29; refine (i_within_f _ _ _ (by omega)).mono ?_; rintro e w' ⟨rfl, rfl⟩)
    go_ret
    exact ⟨rfl, (by repeat (first | (with_reducible exact Below.refl _ _) | (with_reducible assumption) | (with_reducible refine bel_alloc ?_ _) | (with_reducible refine bel_drew ?_) | (with_reducible refine below_drewN ?_ _) | (with_reducible refine bel_put ?_ (by first | exact Nat.le_refl _ | (simp; done) | (simp; omega)) _)))⟩
  · have h2 : ¬ a < 0 := by omega
    go_enter Try.func8, Try.ntmps8
    go_wp2_with (go_at_call 29; refine (i_within_f _ _ _ (by omega)).mono ?_; rintro e w' ⟨rfl, rfl⟩)
    go_ret
    exact ⟨rfl, (by repeat (first | (with_reducible exact Below.refl _ _) | (with_reducible assumption) | (with_reducible refine bel_alloc ?_ _) | (with_reducible refine bel_drew ?_) | (with_reducible refine below_drewN ?_ _) | (with_reducible refine bel_put ?_ (by first | exact Nat.le_refl _ | (simp; done) | (simp; omega)) _)))⟩
set_option maxHeartbeats 1000000 in
theorem i_CodeText (a : Int) (w : World) (h : 0 ≤ a ∧ a ≤ 7) :
    Calls Try.prog 8 #[.int .i64 a] w fun e w' => ∃ g c, e = .returned (.slice (some ⟨g, 0, none⟩) (fCode a).length c) ∧ w.heap.size ≤ g ∧ FrB w' g (fCode a) ∧ (fCode a).length ≤ c ∧ c ≤ 9223372036854775807 ∧ Below w.heap.size w w' := by
  have hcv := run_conv (P := Try.prog) (src := 9) (dst := 22) (e := 5) Try.underlying9 Try.underlying22 Try.underlying5
  rcases (by omega : a = 0 ∨ a = 1 ∨ a = 2 ∨ a = 3 ∨ a = 4 ∨ a = 5 ∨ a = 6 ∨ a = 7) with h | h | h | h | h | h | h | h
  all_goals
    subst h
    go_enter Try.func8, Try.ntmps8
    go_wp2_with (go_at_call 29; refine (i_within _ _ _).mono ?_; rintro e w' ⟨rfl, rfl⟩)
    go_ret
    exact ⟨_, _, rfl, by simp, FrB.conv (by simp) (by decide +kernel), capC_ge (by decide +kernel), capC_le (by decide +kernel), by exact (by repeat (first | (with_reducible exact Below.refl _ _) | (with_reducible assumption) | (with_reducible refine bel_alloc ?_ _) | (with_reducible refine bel_drew ?_) | (with_reducible refine below_drewN ?_ _) | (with_reducible refine bel_put ?_ (by first | exact Nat.le_refl _ | (simp; done) | (simp; omega)) _)))⟩
end Go.Proofs.Ytilopapnipealaa
