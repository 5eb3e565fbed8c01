/-
  PPiece, PDk, ImplOne, PHeld, PPool, Nd, Onion, PD5, PL4b, PNil, PBytes, PRead, Op0, PMisP, PHasP: texts joined.
-/
import Derived.Test.YtelbckpplckofaaGreatBGa
import Derived.Test.YtelbckpplckofaaGreatBGc
import Derived.BigQuiet
import Derived.Deep.QuietTactic
import Derived.Deep.RegionHeld3
import Derived.Outline
import Derived.ScopeJumps
import Derived.WalkMore
namespace Go.Proofs.YtelbckpplckofaaGreat
set_option maxRecDepth 100000
set_option linter.unusedVariables false
set_option linter.unusedSimpArgs false
open Go.ChangeShapes Go.WideShapes Go.ChangeAt Go.RowKit
/-- A fragment in order: its number, place, total, and so many bytes. -/
def PcN (i a t : Int) (n : Nat) : Prop := 0 ≤ i ∧ i ≤ 255 ∧ t ≤ 8 ∧ 0 ≤ a ∧ a < t ∧ n ≤ 20 ∧ (a < t - 1 → n = 20) ∧ (a = t - 1 → 0 < n ∨ t = 1)
instance (i a t : Int) (n : Nat) : Decidable (PcN i a t n) := by unfold PcN; infer_instance
def PcOk (p : DPiece) : Prop := PcN p.1 p.2.1 p.2.2.1 p.2.2.2.length
instance (p : DPiece) : Decidable (PcOk p) := by unfold PcOk; infer_instance
set_option maxHeartbeats 1000000 in
theorem s_PieceOkN (w : World) (A3 : Option Addr) (n3 c3 : Nat) (x0 x1 x2 : Int) (b : Bool) (rg1 : -9223372036854775808 ≤ x2 ∧ x2 ≤ 9223372036854775807) (T : PcN x0 x1 x2 n3 → b = true) (F : ¬ PcN x0 x1 x2 n3 → b = false) :
    Calls Tryz.prog 112 #[.agg #[.int .i64 x0, .int .i64 x1, .int .i64 x2, .slice A3 n3 c3]] w fun e w' => e = .returned (.bool b) ∧ Below w.heap.size w w' := by
  unfold PcN at T F
  by_cases h1 : x0 < 0
  · have := F (by omega); subst this; clear F T
    go_enter Tryz.func112, Tryz.ntmps112
    go_wp2
    go_ret
    exact ⟨rfl, (belx)⟩
  by_cases h2 : 255 < x0
  · have := F (by omega); subst this; clear F T
    go_enter Tryz.func112, Tryz.ntmps112
    go_wp2
    go_ret
    exact ⟨rfl, (belx)⟩
  by_cases h3 : x2 < 1
  · have := F (by omega); subst this; clear F T
    go_enter Tryz.func112, Tryz.ntmps112
    go_wp2
    go_ret
    exact ⟨rfl, (belx)⟩
  by_cases h4 : 8 < x2
  · have := F (by omega); subst this; clear F T
    go_enter Tryz.func112, Tryz.ntmps112
    go_wp2
    go_ret
    exact ⟨rfl, (belx)⟩
  by_cases h5 : x1 < 0
  · have := F (by omega); subst this; clear F T
    go_enter Tryz.func112, Tryz.ntmps112
    go_wp2
    go_ret
    exact ⟨rfl, (belx)⟩
  by_cases h6 : x2 ≤ x1
  · have := F (by omega); subst this; clear F T
    go_enter Tryz.func112, Tryz.ntmps112
    go_wp2
    go_ret
    exact ⟨rfl, (belx)⟩
  by_cases h7 : 20 < n3
  · have := F (by omega); subst this; clear F T
    have q : (20 : Int) < n3 := by omega
    go_enter Tryz.func112, Tryz.ntmps112
    go_wp2
    go_ret
    exact ⟨rfl, (belx)⟩
  have q7 : ¬ (20 : Int) < n3 := by omega
  by_cases h8 : x1 < x2 - 1
  · by_cases h9 : n3 = 20
    · have := T (by omega); subst this h9; clear F T
      go_enter Tryz.func112, Tryz.ntmps112
      go_wp2
      go_ret
      exact ⟨rfl, (belx)⟩
    · have := F (by omega); subst this; clear F T
      have q9 : ((n3 : Int) == 20) = false := by simp; omega
      go_enter Tryz.func112, Tryz.ntmps112
      go_wp2
      go_ret
      exact ⟨by first | (simp; done) | (simp; omega), (belx)⟩
  · by_cases h9 : 0 < n3
    · have := T (by omega); subst this; clear F T
      have q9 : (0 : Int) < n3 := by omega
      go_enter Tryz.func112, Tryz.ntmps112
      go_wp2
      go_ret
      exact ⟨rfl, (belx)⟩
    · have q9 : ¬ (0 : Int) < n3 := by omega
      by_cases h10 : x2 = 1
      · have := T (by omega); subst this h10; clear F T
        go_enter Tryz.func112, Tryz.ntmps112
        go_wp2
        go_ret
        exact ⟨rfl, (belx)⟩
      · have := F (by omega); subst this; clear F T
        have q10 : (x2 == 1) = false := by simpa using h10
        go_enter Tryz.func112, Tryz.ntmps112
        go_wp2
        go_ret
        exact ⟨by first | (simp; done) | (simp; omega), (belx)⟩
theorem s_PieceOk {w : World} {cs : List Value} {p : DPiece} (h : tPiece.R w w.heap.size cs p) (hz : szPiece p ≤ 1048576) :
    Calls Tryz.prog 112 #[.agg cs.toArray] w fun e w' => e = .returned (.bool (decide (PcOk p))) ∧ Below w.heap.size w w' := by
  obtain ⟨A3, n3, c3, rfl, hi0, hi1, hi2, ha3, hb3, hl3, hr3⟩ := openPiece h
  have rg := i64_rg hi2
  exact s_PieceOkN w A3 n3 c3 _ _ _ _ ⟨by omega, by omega⟩ (fun hh => decide_eq_true (by unfold PcOk; rw [hl3]; exact hh)) (fun hh => decide_eq_false (by unfold PcOk; rw [hl3]; exact hh))
theorem i_isId_t (x : Int) (w : World) (h1 : 0 ≤ x) (h2 : x ≤ 255) : Calls Tryz.prog 131 #[.int .i64 x] w fun e w' => e = .returned (.bool true) ∧ w = w' := by
  go_enter Tryz.func131, Tryz.ntmps131
  go_wp2
  go_ret
  exact ⟨rfl, rfl⟩
theorem i_isId_f (x : Int) (w : World) (h : ¬ (0 ≤ x ∧ x ≤ 255)) : Calls Tryz.prog 131 #[.int .i64 x] w fun e w' => e = .returned (.bool false) ∧ w = w' := by
  by_cases h1 : x < 0
  · clear h
    go_enter Tryz.func131, Tryz.ntmps131
    go_wp2
    go_ret
    exact ⟨rfl, rfl⟩
  · have h2 : 255 < x := by omega
    clear h
    go_enter Tryz.func131, Tryz.ntmps131
    go_wp2
    go_ret
    exact ⟨ret_bool (by simp; omega), rfl⟩
set_option maxHeartbeats 1000000 in
theorem i_PieceOkN (w : World) (A3 : Option Addr) (n3 c3 : Nat) (x0 x1 x2 : Int) (b : Bool) (rg1 : -9223372036854775808 ≤ x2 ∧ x2 ≤ 9223372036854775807) (T : PcN x0 x1 x2 n3 → b = true) (F : ¬ PcN x0 x1 x2 n3 → b = false) :
    Calls Tryz.prog 179 #[.agg #[.int .i64 x0, .int .i64 x1, .int .i64 x2, .slice A3 n3 c3]] w fun e w' => e = .returned (.bool b) ∧ Below w.heap.size w w' := by
  unfold PcN at T F
  by_cases h1 : ¬ (0 ≤ x0 ∧ x0 ≤ 255)
  · have := F (by omega); subst this; clear F T
    go_enter Tryz.func179, Tryz.ntmps179
    go_wp2_with (go_at_call 131; refine (i_isId_f _ _ (by omega)).mono ?_; rintro e w' ⟨rfl, rfl⟩)
    go_ret
    exact ⟨rfl, (belx)⟩
  by_cases h4 : 8 < x2
  · have := F (by omega); subst this; clear F T
    go_enter Tryz.func179, Tryz.ntmps179
    go_wp2_with (go_at_call 131; refine (i_isId_t _ _ (by omega) (by omega)).mono ?_; rintro e w' ⟨rfl, rfl⟩)
    go_ret
    exact ⟨rfl, (belx)⟩
  by_cases h5 : x1 < 0
  · have := F (by omega); subst this; clear F T
    go_enter Tryz.func179, Tryz.ntmps179
    go_wp2_with (go_at_call 131; refine (i_isId_t _ _ (by omega) (by omega)).mono ?_; rintro e w' ⟨rfl, rfl⟩)
    go_ret
    exact ⟨rfl, (belx)⟩
  by_cases h6 : x2 ≤ x1
  · have := F (by omega); subst this; clear F T
    go_enter Tryz.func179, Tryz.ntmps179
    go_wp2_with (go_at_call 131; refine (i_isId_t _ _ (by omega) (by omega)).mono ?_; rintro e w' ⟨rfl, rfl⟩)
    go_ret
    exact ⟨rfl, (belx)⟩
  by_cases h8 : x1 < x2 - 1
  · by_cases h9 : n3 = 20
    · have := T (by omega); subst this; clear F T; subst h9
      go_enter Tryz.func179, Tryz.ntmps179
      go_wp2_with (go_at_call 131; refine (i_isId_t _ _ (by omega) (by omega)).mono ?_; rintro e w' ⟨rfl, rfl⟩)
      go_ret
      exact ⟨rfl, (belx)⟩
    · have := F (by omega); subst this; clear F T
      have q9 : ((n3 : Int) == 20) = false := by simp; omega
      go_enter Tryz.func179, Tryz.ntmps179
      go_wp2_with (go_at_call 131; refine (i_isId_t _ _ (by omega) (by omega)).mono ?_; rintro e w' ⟨rfl, rfl⟩)
      go_ret
      exact ⟨by first | (simp; done) | (simp; omega), (belx)⟩
  · by_cases h7 : 20 < n3
    · have := F (by omega); subst this; clear F T
      have q : ¬ (n3 : Int) ≤ 20 := by omega
      go_enter Tryz.func179, Tryz.ntmps179
      go_wp2_with (go_at_call 131; refine (i_isId_t _ _ (by omega) (by omega)).mono ?_; rintro e w' ⟨rfl, rfl⟩)
      go_ret
      exact ⟨rfl, (belx)⟩
    have q7 : (n3 : Int) ≤ 20 := by omega
    by_cases h9 : 0 < n3
    · have := T (by omega); subst this; clear F T
      have q9 : (0 : Int) < n3 := by omega
      go_enter Tryz.func179, Tryz.ntmps179
      go_wp2_with (go_at_call 131; refine (i_isId_t _ _ (by omega) (by omega)).mono ?_; rintro e w' ⟨rfl, rfl⟩)
      go_ret
      exact ⟨rfl, (belx)⟩
    · have q9 : ¬ (0 : Int) < n3 := by omega
      by_cases h10 : x2 = 1
      · have := T (by omega); subst this; clear F T; subst h10
        go_enter Tryz.func179, Tryz.ntmps179
        go_wp2_with (go_at_call 131; refine (i_isId_t _ _ (by omega) (by omega)).mono ?_; rintro e w' ⟨rfl, rfl⟩)
        go_ret
        exact ⟨rfl, (belx)⟩
      · have := F (by omega); subst this; clear F T
        have q10 : (x2 == 1) = false := by simpa using h10
        go_enter Tryz.func179, Tryz.ntmps179
        go_wp2_with (go_at_call 131; refine (i_isId_t _ _ (by omega) (by omega)).mono ?_; rintro e w' ⟨rfl, rfl⟩)
        go_ret
        exact ⟨by first | (simp; done) | (simp; omega), (belx)⟩
theorem i_PieceOk {w : World} {cs : List Value} {p : DPiece} (h : tPiece.R w w.heap.size cs p) (hz : szPiece p ≤ 1048576) :
    Calls Tryz.prog 179 #[.agg cs.toArray] w fun e w' => e = .returned (.bool (decide (PcOk p))) ∧ Below w.heap.size w w' := by
  obtain ⟨A3, n3, c3, rfl, hi0, hi1, hi2, ha3, hb3, hl3, hr3⟩ := openPiece h
  have rg := i64_rg hi2
  exact i_PieceOkN w A3 n3 c3 _ _ _ _ ⟨by omega, by omega⟩ (fun hh => decide_eq_true (by unfold PcOk; rw [hl3]; exact hh)) (fun hh => decide_eq_false (by unfold PcOk; rw [hl3]; exact hh))
end Go.Proofs.YtelbckpplckofaaGreat
namespace Go.Proofs.YtelbckpplckofaaGreat
set_option linter.unusedVariables false
/-- Ascending. -/
def Asc (l : List Int) : Prop := ∀ i, i + 1 < l.length → l.getD i 0 < l.getD (i + 1) 0
/-- A message that lacks something. -/
def WhN (w : DWhole) : Prop := (0 ≤ w.2.2.1 ∧ w.2.2.1 ≤ 65535) ∧ (1 ≤ w.2.2.2.length ∧ (w.2.2.2.length : Int) < w.2.1) ∧ (∀ p ∈ w.2.2.2, PcOk p ∧ p.1 = w.1 ∧ p.2.2.1 = w.2.1) ∧ Asc (w.2.2.2.map fun p => p.2.1)
/-- A desk in order. -/
def DkOk (d : DDesk) : Prop := d.1.length ≤ 6 ∧ (∀ x ∈ d.2, 0 ≤ x ∧ x ≤ 255) ∧ Asc d.2 ∧ Asc (d.1.map fun w => w.1) ∧ ∀ w ∈ d.1, WhN w ∧ w.1 ∉ d.2
noncomputable instance (w : DWhole) : Decidable (WhN w) := Classical.propDecidable _
noncomputable instance (d : DDesk) : Decidable (DkOk d) := Classical.propDecidable _
theorem map_at {α : Type} {f : α → Int} {l : List α} {i : Nat} {a : α} (h : l[i]? = some a) : (l.map f).getD i 0 = f a := by
  rw [List.getD_eq_getElem?_getD, List.getElem?_map, h]; rfl
theorem asc_ge {l : List Int} (h : Asc l) (h0 : ∀ x ∈ l, 0 ≤ x) : ∀ i, i < l.length → (i : Int) ≤ l.getD i 0 := by
  intro i
  induction i with
  | zero =>
    intro hi
    have : l.getD 0 0 ∈ l := by rw [List.getD_eq_getElem?_getD, List.getElem?_eq_getElem hi]; exact List.getElem_mem _
    simpa using h0 _ this
  | succ i ih =>
    intro hi
    have := h i hi
    have := ih (by omega)
    omega
theorem asc_len {l : List Int} (h : Asc l) (h0 : ∀ x ∈ l, 0 ≤ x ∧ x ≤ 255) : l.length ≤ 256 := by
  by_cases hl : l.length ≤ 256
  · exact hl
  · have h1 := asc_ge h (fun x hx => (h0 x hx).1) 256 (by omega)
    have h2 : l.getD 256 0 ∈ l := by rw [List.getD_eq_getElem?_getD, List.getElem?_eq_getElem (by omega)]; exact List.getElem_mem _
    have := (h0 _ h2).2
    omega
/-- The first k numbers are names, ascending. -/
def DnK (l : List Int) (k : Nat) : Prop := ∀ i, i < k → (0 ≤ l.getD i 0 ∧ l.getD i 0 ≤ 255) ∧ ∀ q, i = q + 1 → l.getD q 0 < l.getD i 0
theorem DnK.zero {l : List Int} : DnK l 0 := fun i h => absurd h (by omega)
theorem DnK.succ {l : List Int} {k : Nat} (h : DnK l k) (h1 : 0 ≤ l.getD k 0) (h2 : l.getD k 0 ≤ 255) (h3 : ∀ q, k = q + 1 → l.getD q 0 < l.getD k 0) : DnK l (k + 1) := fun i hi => by
  rcases Nat.lt_succ_iff_lt_or_eq.1 hi with h' | rfl
  · exact h i h'
  · exact ⟨⟨h1, h2⟩, h3⟩
theorem DnK.done {l : List Int} {k : Nat} (h : DnK l k) (hk : l.length ≤ k) : (∀ x ∈ l, 0 ≤ x ∧ x ≤ 255) ∧ Asc l := by
  refine ⟨fun x hx => ?_, fun i hi => (h (i + 1) (by omega)).2 i rfl⟩
  obtain ⟨i, hi, rfl⟩ := List.getElem_of_mem hx
  have := (h i (by omega)).1
  rwa [List.getD_eq_getElem?_getD, List.getElem?_eq_getElem hi] at this
/-- The first k things: each meets P, and f ascends. -/
def RwK {α : Type} (P : α → Prop) (f : α → Int) (l : List α) (k : Nat) : Prop := ∀ i a, i < k → l[i]? = some a → P a ∧ ∀ q b, i = q + 1 → l[q]? = some b → f b < f a
theorem RwK.zero {α : Type} {P : α → Prop} {f : α → Int} {l : List α} : RwK P f l 0 := fun i a h => absurd h (by omega)
theorem RwK.succ {α : Type} {P : α → Prop} {f : α → Int} {l : List α} {k : Nat} {a : α} (h : RwK P f l k) (hl : l[k]? = some a) (hP : P a) (h3 : ∀ q b, k = q + 1 → l[q]? = some b → f b < f a) : RwK P f l (k + 1) := fun i x hi hx => by
  rcases Nat.lt_succ_iff_lt_or_eq.1 hi with h' | rfl
  · exact h i x h' hx
  · rw [hl] at hx; injection hx with hx; subst hx; exact ⟨hP, h3⟩
theorem RwK.done {α : Type} {P : α → Prop} {f : α → Int} {l : List α} {k : Nat} (h : RwK P f l k) (hk : l.length ≤ k) : (∀ a ∈ l, P a) ∧ Asc (l.map f) := by
  refine ⟨fun a ha => ?_, fun i hi => ?_⟩
  · obtain ⟨i, hi, rfl⟩ := List.getElem_of_mem ha
    exact (h i _ (by omega) (List.getElem?_eq_getElem hi)).1
  · rw [List.length_map] at hi
    rw [map_at (List.getElem?_eq_getElem (show i < l.length by omega)), map_at (List.getElem?_eq_getElem hi)]
    exact (h (i + 1) _ (by omega) (List.getElem?_eq_getElem hi)).2 i _ rfl (List.getElem?_eq_getElem (by omega))
theorem asc_at {α : Type} {f : α → Int} {l : List α} {q : Nat} {a b : α} (h : Asc (l.map f)) (ha : l[q + 1]? = some a) (hb : l[q]? = some b) : f b < f a := by
  have hq := (List.getElem?_eq_some_iff.1 ha).1
  have := h q (by rw [List.length_map]; exact hq)
  rwa [map_at ha, map_at hb] at this
end Go.Proofs.YtelbckpplckofaaGreat
namespace Go.Proofs.YtelbckpplckofaaGreat
set_option maxRecDepth 100000
open Go.ChangeShapes Go.WideShapes Go.ChangeAt Go.RowKit
open Fld

theorem i_FOk_t (a : Int) (w : World) (h : Ok a) :
    Calls Tryz.prog 128 #[.int .i64 a] w fun e w' => e = .returned (.bool true) ∧ w = w' := by
  have h1 := h.lo
  have h2 := h.hi
  go_enter Tryz.func128, Tryz.ntmps128
  go_wp2
  go_ret
  exact ⟨rfl, rfl⟩
theorem i_FOk_f (a : Int) (w : World) (h : Bad a) :
    Calls Tryz.prog 128 #[.int .i64 a] w fun e w' => e = .returned (.bool false) ∧ w = w' := by
  by_cases h1 : 0 ≤ a
  · have h2 : ¬ a < 2147483647 := fun x => h ⟨h1, x⟩
    go_enter Tryz.func128, Tryz.ntmps128
    go_wp2
    go_ret
    exact ⟨rfl, rfl⟩
  · go_enter Tryz.func128, Tryz.ntmps128
    go_wp2
    go_ret
    exact ⟨rfl, rfl⟩
theorem i_sec_t (a : Int) (w : World) (h : Sec a) :
    Calls Tryz.prog 78 #[.int .i64 a] w fun e w' => e = .returned (.bool true) ∧ w = w' := by
  have h1 := h.lo
  have h2 := h.hi
  go_enter Tryz.func78, Tryz.ntmps78
  go_wp2
  go_ret
  exact ⟨ret_bool (by simp; try omega), rfl⟩
theorem i_sec_f (a : Int) (w : World) (h : NoSec a) :
    Calls Tryz.prog 78 #[.int .i64 a] w fun e w' => e = .returned (.bool false) ∧ w = w' := by
  by_cases h1 : 1 ≤ a
  · have h2 : ¬ a < 2147483646 := fun x => h ⟨h1, x⟩
    go_enter Tryz.func78, Tryz.ntmps78
    go_wp2
    go_ret
    exact ⟨ret_bool (by simp; try omega), rfl⟩
  · go_enter Tryz.func78, Tryz.ntmps78
    go_wp2
    go_ret
    exact ⟨ret_bool (by simp; try omega), rfl⟩
end Go.Proofs.YtelbckpplckofaaGreat
namespace Go.Proofs.YtelbckpplckofaaGreat
set_option maxRecDepth 100000
set_option linter.unusedVariables false
set_option linter.unusedSimpArgs false
open Go.ChangeShapes Go.WideShapes Go.ChangeAt Go.RowKit
/-- A held cell in order: its next node, its time, and so many bytes. -/
def HdN (a d : Int) (n : Nat) : Prop := 0 ≤ a ∧ a < 8 ∧ 0 ≤ d ∧ d ≤ 65535 ∧ n = 80
instance (a d : Int) (n : Nat) : Decidable (HdN a d n) := by unfold HdN; infer_instance
def HdOk (p : DHeld) : Prop := HdN p.1 p.2.1 p.2.2.length
instance (p : DHeld) : Decidable (HdOk p) := by unfold HdOk; infer_instance
theorem sh_CellOk_t (A : Option Addr) (c : Nat) (w : World) :
    Calls Tryz.prog 28 #[.agg #[.slice A 80 c]] w fun e w' => e = .returned (.bool true) ∧ Below w.heap.size w w' := by
  go_enter Tryz.func28, Tryz.ntmps28
  go_wp2
  go_ret
  exact ⟨rfl, (belx)⟩
theorem sh_CellOk_f (A : Option Addr) (n c : Nat) (w : World) (h : ¬ n = 80) :
    Calls Tryz.prog 28 #[.agg #[.slice A n c]] w fun e w' => e = .returned (.bool false) ∧ Below w.heap.size w w' := by
  have q : ((n : Int) == 80) = false := by simp; omega
  go_enter Tryz.func28, Tryz.ntmps28
  go_wp2
  go_ret
  exact ⟨ret_bool (by first | exact q | (simp; done) | (simp; omega)), (belx)⟩
theorem s_HeldOkN (w : World) (A2 : Option Addr) (n2 c2 : Nat) (x0 x1 : Int) (b : Bool) (T : HdN x0 x1 n2 → b = true) (F : ¬ HdN x0 x1 n2 → b = false) :
    Calls Tryz.prog 110 #[.agg #[.int .i64 x0, .int .i64 x1, .slice A2 n2 c2]] w fun e w' => e = .returned (.bool b) ∧ Below w.heap.size w w' := by
  unfold HdN at T F
  by_cases h1 : x0 < 0
  · have := F (by omega); subst this; clear F T
    go_enter Tryz.func110, Tryz.ntmps110
    go_wp2
    go_ret
    exact ⟨rfl, (belx)⟩
  by_cases h2 : 8 ≤ x0
  · have := F (by omega); subst this; clear F T
    go_enter Tryz.func110, Tryz.ntmps110
    go_wp2
    go_ret
    exact ⟨rfl, (belx)⟩
  by_cases h3 : x1 < 0
  · have := F (by omega); subst this; clear F T
    go_enter Tryz.func110, Tryz.ntmps110
    go_wp2
    go_ret
    exact ⟨rfl, (belx)⟩
  by_cases h4 : 65535 < x1
  · have := F (by omega); subst this; clear F T
    go_enter Tryz.func110, Tryz.ntmps110
    go_wp2
    go_ret
    exact ⟨rfl, (belx)⟩
  by_cases h5 : n2 = 80
  · have := T (by omega); subst this; clear F T; subst h5
    go_enter Tryz.func110, Tryz.ntmps110
    go_wp2_with ((go_at_call 28; refine (sh_CellOk_t _ _ _).mono ?_; rintro e w1 ⟨rfl, hb1⟩))
    go_ret
    exact ⟨rfl, bel_trans (belx) hb1⟩
  · have := F (by omega); subst this; clear F T
    go_enter Tryz.func110, Tryz.ntmps110
    go_wp2_with ((go_at_call 28; refine (sh_CellOk_f _ _ _ _ (by omega)).mono ?_; rintro e w1 ⟨rfl, hb1⟩))
    go_ret
    exact ⟨rfl, bel_trans (belx) hb1⟩
theorem s_HeldOkR {w : World} {cs : List Value} {p : DHeld} (h : tHeld.R w w.heap.size cs p) :
    Calls Tryz.prog 110 #[.agg cs.toArray] w fun e w' => e = .returned (.bool (decide (HdOk p))) ∧ Below w.heap.size w w' := by
  obtain ⟨A2, n2, c2, rfl, hi0, hi1, ha2, hb2, hl2, hr2⟩ := openHeld h
  exact s_HeldOkN w A2 n2 c2 _ _ _ (fun hh => decide_eq_true (by unfold HdOk; rw [hl2]; exact hh)) (fun hh => decide_eq_false (by unfold HdOk; rw [hl2]; exact hh))
theorem ih_CellOk_t (A : Option Addr) (c : Nat) (w : World) :
    Calls Tryz.prog 36 #[.agg #[.slice A 80 c]] w fun e w' => e = .returned (.bool true) ∧ Below w.heap.size w w' := by
  go_enter Tryz.func36, Tryz.ntmps36
  go_wp2
  go_ret
  exact ⟨rfl, (belx)⟩
theorem ih_CellOk_f (A : Option Addr) (n c : Nat) (w : World) (h : ¬ n = 80) :
    Calls Tryz.prog 36 #[.agg #[.slice A n c]] w fun e w' => e = .returned (.bool false) ∧ Below w.heap.size w w' := by
  have q : ((n : Int) == 80) = false := by simp; omega
  go_enter Tryz.func36, Tryz.ntmps36
  go_wp2
  go_ret
  exact ⟨ret_bool (by first | exact q | (simp; done) | (simp; omega)), (belx)⟩
theorem ih_isNode_t (x : Int) (w : World) (h1 : 0 ≤ x) (h2 : x < 8) : Calls Tryz.prog 77 #[.int .i64 x] w fun e w' => e = .returned (.bool true) ∧ w = w' := by
  go_enter Tryz.func77, Tryz.ntmps77
  go_wp2
  go_ret
  exact ⟨ret_bool (by first | (simp; done) | (simp; omega)), rfl⟩
theorem ih_isNode_f (x : Int) (w : World) (h : ¬ (0 ≤ x ∧ x < 8)) : Calls Tryz.prog 77 #[.int .i64 x] w fun e w' => e = .returned (.bool false) ∧ w = w' := by
  by_cases h1 : x < 0
  · clear h
    go_enter Tryz.func77, Tryz.ntmps77
    go_wp2
    go_ret
    exact ⟨rfl, rfl⟩
  · have h2 : 8 ≤ x := by omega
    clear h
    go_enter Tryz.func77, Tryz.ntmps77
    go_wp2
    go_ret
    exact ⟨ret_bool (by first | (simp; done) | (simp; omega)), rfl⟩
theorem ih_isDue_t (x : Int) (w : World) (h1 : 0 ≤ x) (h2 : x ≤ 65535) : Calls Tryz.prog 174 #[.int .i64 x] w fun e w' => e = .returned (.bool true) ∧ w = w' := by
  go_enter Tryz.func174, Tryz.ntmps174
  go_wp2
  go_ret
  exact ⟨ret_bool (by first | (simp; done) | (simp; omega)), rfl⟩
theorem ih_isDue_f (x : Int) (w : World) (h : ¬ (0 ≤ x ∧ x ≤ 65535)) : Calls Tryz.prog 174 #[.int .i64 x] w fun e w' => e = .returned (.bool false) ∧ w = w' := by
  by_cases h1 : x < 0
  · clear h
    go_enter Tryz.func174, Tryz.ntmps174
    go_wp2
    go_ret
    exact ⟨rfl, rfl⟩
  · have h2 : 65535 < x := by omega
    clear h
    go_enter Tryz.func174, Tryz.ntmps174
    go_wp2
    go_ret
    exact ⟨ret_bool (by first | (simp; done) | (simp; omega)), rfl⟩
theorem i_HeldOkN (w : World) (A2 : Option Addr) (n2 c2 : Nat) (x0 x1 : Int) (b : Bool) (T : HdN x0 x1 n2 → b = true) (F : ¬ HdN x0 x1 n2 → b = false) :
    Calls Tryz.prog 126 #[.agg #[.int .i64 x0, .int .i64 x1, .slice A2 n2 c2]] w fun e w' => e = .returned (.bool b) ∧ Below w.heap.size w w' := by
  unfold HdN at T F
  by_cases h1 : ¬ (0 ≤ x0 ∧ x0 < 8)
  · have := F (by omega); subst this; clear F T
    go_enter Tryz.func126, Tryz.ntmps126
    go_wp2_with ((go_at_call 77; refine (ih_isNode_f _ _ (by omega)).mono ?_; rintro e w' ⟨rfl, rfl⟩))
    go_ret
    exact ⟨rfl, (belx)⟩
  by_cases h3 : ¬ (0 ≤ x1 ∧ x1 ≤ 65535)
  · have := F (by omega); subst this; clear F T
    go_enter Tryz.func126, Tryz.ntmps126
    go_wp2_with (first
        | (go_at_call 77; refine (ih_isNode_t _ _ (by omega) (by omega)).mono ?_; rintro e w' ⟨rfl, rfl⟩)
        | (go_at_call 174; refine (ih_isDue_f _ _ (by omega)).mono ?_; rintro e w' ⟨rfl, rfl⟩))
    go_ret
    exact ⟨rfl, (belx)⟩
  by_cases h5 : n2 = 80
  · have := T (by omega); subst this; clear F T; subst h5
    go_enter Tryz.func126, Tryz.ntmps126
    go_wp2_with (first
        | (go_at_call 77; refine (ih_isNode_t _ _ (by omega) (by omega)).mono ?_; rintro e w' ⟨rfl, rfl⟩)
        | (go_at_call 174; refine (ih_isDue_t _ _ (by omega) (by omega)).mono ?_; rintro e w' ⟨rfl, rfl⟩)
        | (go_at_call 36; refine (ih_CellOk_t _ _ _).mono ?_; rintro e w1 ⟨rfl, hb1⟩))
    go_ret
    exact ⟨rfl, bel_trans (belx) hb1⟩
  · have := F (by omega); subst this; clear F T
    go_enter Tryz.func126, Tryz.ntmps126
    go_wp2_with (first
        | (go_at_call 77; refine (ih_isNode_t _ _ (by omega) (by omega)).mono ?_; rintro e w' ⟨rfl, rfl⟩)
        | (go_at_call 174; refine (ih_isDue_t _ _ (by omega) (by omega)).mono ?_; rintro e w' ⟨rfl, rfl⟩)
        | (go_at_call 36; refine (ih_CellOk_f _ _ _ _ (by omega)).mono ?_; rintro e w1 ⟨rfl, hb1⟩))
    go_ret
    exact ⟨rfl, bel_trans (belx) hb1⟩
theorem i_HeldOkR {w : World} {cs : List Value} {p : DHeld} (h : tHeld.R w w.heap.size cs p) :
    Calls Tryz.prog 126 #[.agg cs.toArray] w fun e w' => e = .returned (.bool (decide (HdOk p))) ∧ Below w.heap.size w w' := by
  obtain ⟨A2, n2, c2, rfl, hi0, hi1, ha2, hb2, hl2, hr2⟩ := openHeld h
  exact i_HeldOkN w A2 n2 c2 _ _ _ (fun hh => decide_eq_true (by unfold HdOk; rw [hl2]; exact hh)) (fun hh => decide_eq_false (by unfold HdOk; rw [hl2]; exact hh))
end Go.Proofs.YtelbckpplckofaaGreat
namespace Go.Proofs.YtelbckpplckofaaGreat
set_option maxRecDepth 100000
set_option linter.unusedVariables false
set_option linter.unusedSimpArgs false
open Go.ChangeShapes Go.WideShapes Go.ChangeAt Go.RowKit
open Fld
instance (a : Int) : Decidable (Ok a) := by unfold Ok; infer_instance
/-- A pool in order. -/
def PlOk (p : DPool) : Prop := (p.1.length ≤ 12 ∧ p.2.length ≤ 60) ∧ (∀ h ∈ p.1, HdOk h) ∧ (∀ x ∈ p.2, Ok x) ∧ p.2.Nodup
instance (p : DPool) : Decidable (PlOk p) := by unfold PlOk; infer_instance
section
variable {α : Type} {P : α → Prop} {l : List α} {a : α} {j : Nat}
theorem all_zero : ∀ h ∈ l.take 0, P h := fun h hh => absurd hh (by simp)
theorem all_sn (h : ∀ x ∈ l.take j, P x) (hl : l[j]? = some a) (ha : P a) : ∀ x ∈ l.take (j + 1), P x := by
  rw [take_sn hl]
  intro x hx
  rcases List.mem_append.1 hx with h' | h'
  · exact h x h'
  · rw [List.mem_singleton] at h'; rw [h']; exact ha
theorem all_end (h : ∀ x ∈ l.take j, P x) (hj : l.length ≤ j) : ∀ x ∈ l, P x := by rwa [List.take_of_length_le hj] at h
theorem nd_sn (h : (l.take j).Nodup) (hl : l[j]? = some a) (ha : a ∉ l.take j) : (l.take (j + 1)).Nodup := by
  rw [take_sn hl, List.nodup_append]
  refine ⟨h, by simp, fun x hx y hy e => ?_⟩
  rw [List.mem_singleton] at hy
  subst hy e
  exact ha hx
theorem nd_end (h : (l.take j).Nodup) (hj : l.length ≤ j) : l.Nodup := by rwa [List.take_of_length_le hj] at h
theorem nd_no (hl : l[j]? = some a) (ha : a ∈ l.take j) : ¬ l.Nodup := by
  intro h
  have h2 : (l.take (j + 1)).Nodup := h.sublist (List.take_sublist _ _)
  rw [take_sn hl, List.nodup_append] at h2
  exact h2.2.2 a ha a (by simp) rfl
theorem mem_at (hl : l[j]? = some a) : a ∈ l := List.mem_of_getElem? hl
end
theorem get_at {l : List Int} {n j : Nat} (h : l.length = n) (hj : j < n) : l[j]? = some (l.getD j 0) := by
  rw [List.getD_eq_getElem?_getD, List.getElem?_eq_getElem (by omega)]; rfl
theorem s_l4has {w : World} {B n c : Nat} {A : Option Addr} {l : List Int} (x : Int) (hl : Ints .i64 w B A n l) (hn : n ≤ 17592186043904) :
    Calls Tryz.prog 66 #[.slice A n c, .int .i64 x] w fun e w' => e = .returned (.bool (decide (x ∈ l))) ∧ w = w' := by
  have HL := Lib.hid hl.1
  go_enter Tryz.func66, Tryz.ntmps66
  go_wp2_with fail
  go_loop [5] (fun i => ∃ j : Nat, j ≤ n ∧ i = .int .i64 j ∧ ∀ y ∈ l.take j, y ≠ x) (fun i => n - (RowKit.intOf i).toNat)
  case atStart => exact ⟨0, by omega, rfl, all_zero⟩
  case round =>
    obtain ⟨j, hj, rfl, hG⟩ := hrel
    have HG := Lib.hid hG
    clear hG
    by_cases hlt : j < n
    · obtain ⟨b, off, rfl, hb, hcell, hwf⟩ := hl.at_ hlt
      have HA := Lib.hid (get_at HL.out hlt)
      obtain ⟨y, hy⟩ : ∃ y, l.getD j 0 = y := ⟨_, rfl⟩
      rw [hy] at hcell HA
      clear hy hwf
      by_cases he : y = x
      · subst he
        have HR := Lib.hid (show decide (y ∈ l) = true from decide_eq_true (mem_at HA.out))
        go_wp2
        go_ret
        exact ⟨ret_bool HR.out.symm, rfl⟩
      · have q : (y == x) = false := by simpa using he
        have HN := Lib.hid he
        clear he
        go_wp2
        go_round
        case rel => exact ⟨j + 1, by omega, by go_num, all_sn HG.out HA.out HN.out⟩
        case measure => simp [RowKit.intOf]; omega
    · obtain rfl : j = n := by omega
      have HR := Lib.hid (show decide (x ∈ l) = false from decide_eq_false fun hx => all_end HG.out (Nat.le_of_eq HL.out) x hx rfl)
      go_wp2
      go_ret
      exact ⟨ret_bool HR.out.symm, rfl⟩
set_option maxHeartbeats 2000000 in
theorem s_PoolOkN {w : World} {A0 A1 : Option Addr} {n0 c0 n1 c1 : Nat} {r0 : List DHeld} {l1 : List Int} (b : Bool) (T : PlOk (r0, l1) → b = true) (F : ¬ PlOk (r0, l1) → b = false)
    (h0 : tHeld.row.R w w.heap.size [.slice A0 n0 c0] r0) (h1 : tIs.R w w.heap.size [.slice A1 n1 c1] l1) :
    Calls Tryz.prog 64 #[.agg #[.slice A0 n0 c0, .slice A1 n1 c1]] w fun e w' => e = .returned (.bool b) ∧ Below w.heap.size w w' := by
  obtain ⟨e0, hnc0, hcm0⟩ := rowR_len h0
  have hl1 := (slR_ints h1).1
  have hcc := (slR_ints h1).2
  have E0 := Lib.hid e0
  have E1 := Lib.hid hl1.1
  have HT := Lib.hid T
  have HF := Lib.hid F
  clear T F e0 h1
  by_cases g0 : n0 ≤ 12
  rotate_left
  · obtain rfl := HF.out (fun h => by have := h.1.1; have := E0.out; dsimp only at *; omega)
    have q : (12 : Int) < (n0 : Int) := by omega
    clear HT HF
    go_enter Tryz.func64, Tryz.ntmps64
    go_wp2
    go_ret
    exact ⟨rfl, (belx)⟩
  have q0 : ¬ (12 : Int) < (n0 : Int) := by omega
  by_cases g1 : n1 ≤ 60
  rotate_left
  · obtain rfl := HF.out (fun h => by have := h.1.2; have := E1.out; dsimp only at *; omega)
    have q : (60 : Int) < (n1 : Int) := by omega
    clear HT HF
    go_enter Tryz.func64, Tryz.ntmps64
    go_wp2
    go_ret
    exact ⟨rfl, (belx)⟩
  have q1 : ¬ (60 : Int) < (n1 : Int) := by omega
  go_enter Tryz.func64, Tryz.ntmps64
  go_wp2_with fail
  go_loopw [3] (fun i wr => ∃ j : Nat, j ≤ n0 ∧ i = .int .i64 j ∧ Below w.heap.size w wr ∧ Box wr w.heap.size 39 #[.slice A0 n0 c0, .slice A1 n1 c1] ∧ ∀ h ∈ r0.take j, HdOk h) (fun i _ => n0 - (RowKit.intOf i).toNat)
  case atStart => exact ⟨0, by omega, rfl, (belx), Box.new _ _ _, all_zero⟩
  case round =>
    obtain ⟨j, hj, rfl, hB, hX, hG⟩ := hrel
    have HG := Lib.hid hG
    clear hG
    have k0 : wr.cell? ⟨w.heap.size, 0, none⟩ = some (.slice A0 n0 c0) := hX.cell 0
    have k1 : wr.cell? ⟨w.heap.size, 1, none⟩ = some (.slice A1 n1 c1) := hX.cell 1
    by_cases hlt : j < n0
    · obtain ⟨a, b', off, es, hl, rfl, hb, hes, hR⟩ := rowR_at (K := 3) h0 hlt rfl
      have HA := Lib.hid hl
      clear hl
      obtain ⟨A2, n2, c2, rfl, -, -, -, -, -, -⟩ := openHeld hR
      have e0 : wr.cell? ⟨b', off + j * 3, none⟩ = some (.int .i64 a.1) := cell_at hB hb (hes 0 (by omega))
      have e1 : wr.cell? ⟨b', off + j * 3 + 1, none⟩ = some (.int .i64 a.2.1) := cell_at hB hb (hes 1 (by omega))
      have e2 : wr.cell? ⟨b', off + j * 3 + 2, none⟩ = some (.slice A2 n2 c2) := cell_at hB hb (hes 2 (by omega))
      clear hes
      go_wp2_with fail
      refine (s_HeldOkR (tHeld.reach hR ?hB)).mono ?_
      case hB => exact (belx)
      rintro e w1 ⟨rfl, hb1⟩
      by_cases ha : HdOk a
      · rw [decide_eq_true ha]
        have HN := Lib.hid ha
        clear ha
        go_wp2
        go_roundw
        case rel => exact ⟨j + 1, by omega, by go_num, bel_trans hB hb1, hX.below hb1 hX.size, all_sn HG.out HA.out HN.out⟩
        case measure => simp [RowKit.intOf]; omega
      · rw [decide_eq_false ha]
        obtain rfl := HF.out (fun h => ha (h.2.1 a (mem_at HA.out)))
        clear ha
        go_wp2
        go_ret
        exact ⟨rfl, bel_trans hB hb1⟩
    · have HG0 := Lib.hid (all_end HG.out (by rw [E0.out]; omega))
      obtain rfl : n0 = j := by omega
      clear hlt HG
      go_wp2_with fail
      go_loopw [4] (fun i wr => ∃ j : Nat, j ≤ n1 ∧ i = .int .i64 j ∧ Below w.heap.size w wr ∧ Box wr w.heap.size 39 #[.slice A0 n0 c0, .slice A1 n1 c1] ∧ (∀ x ∈ l1.take j, Ok x) ∧ (l1.take j).Nodup) (fun i _ => n1 - (RowKit.intOf i).toNat)
      case atStart => exact ⟨0, by omega, rfl, hB, hX, all_zero, by simp⟩
      case round =>
        clear k0 k1 hB hX
        obtain ⟨i, hi, rfl, hB, hX, hO, hD⟩ := hrel
        have HO := Lib.hid hO
        have HD := Lib.hid hD
        clear hO hD
        have k0 : wr.cell? ⟨w.heap.size, 0, none⟩ = some (.slice A0 n0 c0) := hX.cell 0
        have k1 : wr.cell? ⟨w.heap.size, 1, none⟩ = some (.slice A1 n1 c1) := hX.cell 1
        by_cases hlt : i < n1
        · obtain ⟨b', off, rfl, hb, hcell, hwf⟩ := (hl1.below hB).at_ hlt
          have HA := Lib.hid (get_at E1.out hlt)
          have hsl : Ints .i64 wr w.heap.size (some ⟨b', off, none⟩) i (l1.take i) := (hl1.below hB).head i (by omega)
          obtain ⟨y, hy⟩ : ∃ y, l1.getD i 0 = y := ⟨_, rfl⟩
          rw [hy] at hcell HA
          clear hy hwf
          have i1 : (i : Int) < (n1 : Int) := by omega
          have i2 : (i : Int) ≤ (c1 : Int) := by omega
          by_cases ho : Ok y
          · by_cases hm : y ∈ l1.take i
            · obtain rfl := HF.out (fun h => nd_no HA.out hm h.2.2.2)
              have HM := Lib.hid (decide_eq_true hm)
              clear hm HT HF
              go_wp2_with fail
              go_region_held3 (fun w' => w'.cell? ⟨w.heap.size, 1, none⟩ = some (.slice (some ⟨b', off, none⟩) n1 c1) ∧ w'.cell? ⟨b', off + i, none⟩ = some (.int .i64 y)) (first | (exact ⟨k1, hcell⟩) | go_keep)
                (first
                  | (go_at_call 111; refine (s_FOk_t y _ ho).mono ?_; rintro e w' ⟨rfl, rfl⟩)
                  | (go_at_call 66; refine (s_l4has y hsl.drew (by omega)).mono ?_; rintro e w' ⟨rfl, rfl⟩; rw [HM.out]))
              go_wp2
              go_ret
              exact ⟨rfl, (belx)⟩
            · have HM := Lib.hid (decide_eq_false hm)
              have HN := Lib.hid hm
              have HK := Lib.hid ho
              clear hm
              go_wp2_with fail
              go_region_held3 (fun w' => w'.cell? ⟨w.heap.size, 1, none⟩ = some (.slice (some ⟨b', off, none⟩) n1 c1) ∧ w'.cell? ⟨b', off + i, none⟩ = some (.int .i64 y)) (first | (exact ⟨k1, hcell⟩) | go_keep)
                (first
                  | (go_at_call 111; refine (s_FOk_t y _ ho).mono ?_; rintro e w' ⟨rfl, rfl⟩)
                  | (go_at_call 66; refine (s_l4has y hsl.drew (by omega)).mono ?_; rintro e w' ⟨rfl, rfl⟩; rw [HM.out]))
              go_wp2
              go_roundw
              case rel => exact ⟨i + 1, by omega, by go_num, (belx), hX.same rfl, all_sn HO.out HA.out HK.out, nd_sn HD.out HA.out HN.out⟩
              case measure => simp [RowKit.intOf]; omega
          · obtain rfl := HF.out (fun h => ho (h.2.2.1 y (mem_at HA.out)))
            clear HT HF
            go_wp2_with fail
            go_quiet ((go_at_call 111; exact q_same (fun W => s_FOk_f y W ho)))
            go_wp2
            go_ret
            exact ⟨rfl, below_drewN hB _⟩
        · have hi1 : i = n1 := by omega
          obtain rfl := HT.out ⟨⟨by have := E0.out; dsimp only; omega, by have := E1.out; dsimp only; omega⟩, HG0.out, all_end HO.out (by rw [E1.out]; omega), nd_end HD.out (by rw [E1.out]; omega)⟩
          go_wp2
          go_ret
          exact ⟨rfl, hB⟩
theorem s_PoolOk {w : World} {cs : List Value} {p : DPool} (h : tPool.R w w.heap.size cs p) (hz : szPool p ≤ 1048576) :
    Calls Tryz.prog 64 #[.agg cs.toArray] w fun e w' => e = .returned (.bool (decide (PlOk p))) ∧ Below w.heap.size w w' := by
  obtain ⟨A0, n0, c0, A1, n1, c1, rfl, -, -, -, hr0, -, -, -, hr1⟩ := openPool h
  exact s_PoolOkN _ (fun hh => decide_eq_true hh) (fun hh => decide_eq_false hh) hr0 hr1
theorem i_Index_t {w : World} {B n c : Nat} {A : Option Addr} {l : List Int} (x : Int) (hl : Ints .i64 w B A n l) (hn : n ≤ 17592186043904) (hx : x ∈ l) :
    Calls Tryz.prog 228 #[.slice A n c, .int .i64 x] w fun e w' => (∃ k : Nat, e = .returned (.int .i64 k) ∧ k < 17592186043904) ∧ w = w' := by
  have HL := Lib.hid hl.1
  go_enter Tryz.func228, Tryz.ntmps228
  go_wp2_with fail
  go_loop [8] (fun i => ∃ j : Nat, j ≤ n ∧ i = .int .i64 j ∧ ∀ y ∈ l.take j, y ≠ x) (fun i => n - (RowKit.intOf i).toNat)
  case atStart => exact ⟨0, by omega, rfl, all_zero⟩
  case round =>
    obtain ⟨j, hj, rfl, hG⟩ := hrel
    have HG := Lib.hid hG
    clear hG
    by_cases hlt : j < n
    · obtain ⟨b, off, rfl, hb, hcell, hwf⟩ := hl.at_ hlt
      have HA := Lib.hid (get_at HL.out hlt)
      obtain ⟨y, hy⟩ : ∃ y, l.getD j 0 = y := ⟨_, rfl⟩
      rw [hy] at hcell HA
      clear hy hwf
      by_cases he : x = y
      · subst he
        go_wp2
        go_ret
        exact ⟨⟨j, rfl, by omega⟩, rfl⟩
      · have q : (x == y) = false := by simpa using he
        have HN := Lib.hid (fun e : y = x => he e.symm)
        clear he
        go_wp2
        go_round
        case rel => exact ⟨j + 1, by omega, by go_num, all_sn HG.out HA.out HN.out⟩
        case measure => simp [RowKit.intOf]; omega
    · exact absurd rfl (all_end HG.out (by rw [HL.out]; omega) x hx)
theorem i_Index_f {w : World} {B n c : Nat} {A : Option Addr} {l : List Int} (x : Int) (hl : Ints .i64 w B A n l) (hn : n ≤ 17592186043904) (hx : x ∉ l) :
    Calls Tryz.prog 228 #[.slice A n c, .int .i64 x] w fun e w' => e = .returned (.int .i64 (-1)) ∧ w = w' := by
  have HL := Lib.hid hl.1
  have HX := Lib.hid hx
  clear hx
  go_enter Tryz.func228, Tryz.ntmps228
  go_wp2_with fail
  go_loop [8] (fun i => ∃ j : Nat, j ≤ n ∧ i = .int .i64 j) (fun i => n - (RowKit.intOf i).toNat)
  case atStart => exact ⟨0, by omega, rfl⟩
  case round =>
    obtain ⟨j, hj, rfl⟩ := hrel
    by_cases hlt : j < n
    · obtain ⟨b, off, rfl, hb, hcell, hwf⟩ := hl.at_ hlt
      have HA := Lib.hid (get_at HL.out hlt)
      obtain ⟨y, hy⟩ : ∃ y, l.getD j 0 = y := ⟨_, rfl⟩
      rw [hy] at hcell HA
      clear hy hwf
      have q : (x == y) = false := by simp; rintro rfl; exact HX.out (mem_at HA.out)
      go_wp2
      go_round
      case rel => exact ⟨j + 1, by omega, by go_num⟩
      case measure => simp [RowKit.intOf]; omega
    · obtain rfl : n = j := by omega
      go_wp2
      go_ret
      exact ⟨rfl, rfl⟩
theorem i_has {w : World} {B n c : Nat} {A : Option Addr} {l : List Int} (x : Int) (hl : Ints .i64 w B A n l) (hn : n ≤ 17592186043904) :
    Calls Tryz.prog 175 #[.slice A n c, .int .i64 x] w fun e w' => e = .returned (.bool (decide (x ∈ l))) ∧ w = w' := by
  by_cases hx : x ∈ l
  · have HR := Lib.hid (show decide (x ∈ l) = true from decide_eq_true hx)
    have hc : Calls Tryz.prog 211 #[.slice A n c, .int .i64 x] w fun e w' => e = .returned (.bool true) ∧ w = w' := by
      go_enter Tryz.func211, Tryz.ntmps211
      go_wp2_with fail
      refine (i_Index_t x hl hn hx).mono ?_
      rintro e w' ⟨⟨k, rfl, hk⟩, rfl⟩
      go_wp2
      go_ret
      exact ⟨ret_bool (by first | (simp; done) | (simp; omega)), rfl⟩
    have HC := Lib.hid hc
    clear hx hc
    go_enter Tryz.func175, Tryz.ntmps175
    go_wp2_with fail
    refine HC.out.mono ?_
    rintro e w' ⟨rfl, rfl⟩
    go_wp2
    go_ret
    exact ⟨ret_bool HR.out.symm, rfl⟩
  · have HR := Lib.hid (show decide (x ∈ l) = false from decide_eq_false hx)
    have hc : Calls Tryz.prog 211 #[.slice A n c, .int .i64 x] w fun e w' => e = .returned (.bool false) ∧ w = w' := by
      go_enter Tryz.func211, Tryz.ntmps211
      go_wp2_with fail
      refine (i_Index_f x hl hn hx).mono ?_
      rintro e w' ⟨rfl, rfl⟩
      go_wp2
      go_ret
      exact ⟨rfl, rfl⟩
    have HC := Lib.hid hc
    clear hx hc
    go_enter Tryz.func175, Tryz.ntmps175
    go_wp2_with fail
    refine HC.out.mono ?_
    rintro e w' ⟨rfl, rfl⟩
    go_wp2
    go_ret
    exact ⟨ret_bool HR.out.symm, rfl⟩
theorem i_isDistinct {w : World} {B n c : Nat} {A : Option Addr} {l : List Int} (hl : Ints .i64 w B A n l) (hn : n ≤ 17592186043904) (hnc : n ≤ c) (hc : c ≤ 9223372036854775807) :
    Calls Tryz.prog 130 #[.slice A n c] w fun e w' => e = .returned (.bool (decide l.Nodup)) ∧ w = w' := by
  have HL := Lib.hid hl.1
  go_enter Tryz.func130, Tryz.ntmps130
  go_wp2_with fail
  go_loop [7] (fun i => ∃ j : Nat, j ≤ n ∧ i = .int .i64 j ∧ (l.take j).Nodup) (fun i => n - (RowKit.intOf i).toNat)
  case atStart => exact ⟨0, by omega, rfl, by simp⟩
  case round =>
    obtain ⟨j, hj, rfl, hD⟩ := hrel
    have HD := Lib.hid hD
    clear hD
    by_cases hlt : j < n
    · obtain ⟨b, off, rfl, hb, hcell, hwf⟩ := hl.at_ hlt
      have HA := Lib.hid (get_at HL.out hlt)
      have hsl : Ints .i64 w B (some ⟨b, off, none⟩) j (l.take j) := hl.head j (by omega)
      obtain ⟨y, hy⟩ : ∃ y, l.getD j 0 = y := ⟨_, rfl⟩
      rw [hy] at hcell HA
      clear hy hwf
      have i2 : (j : Int) ≤ (c : Int) := by omega
      by_cases hm : y ∈ l.take j
      · have HM := Lib.hid (decide_eq_true hm)
        have HR := Lib.hid (show decide l.Nodup = false from decide_eq_false (nd_no HA.out hm))
        clear hm
        go_wp2_with (go_at_call 175; refine (i_has y hsl (by omega)).mono ?_; rintro e w' ⟨rfl, rfl⟩; rw [HM.out])
        go_ret
        exact ⟨ret_bool HR.out.symm, rfl⟩
      · have HM := Lib.hid (decide_eq_false hm)
        have HN := Lib.hid hm
        clear hm
        go_wp2_with (go_at_call 175; refine (i_has y hsl (by omega)).mono ?_; rintro e w' ⟨rfl, rfl⟩; rw [HM.out])
        go_round
        case rel => exact ⟨j + 1, by omega, by go_num, nd_sn HD.out HA.out HN.out⟩
        case measure => simp [RowKit.intOf]; omega
    · obtain rfl : n = j := by omega
      have HR := Lib.hid (show decide l.Nodup = true from decide_eq_true (nd_end HD.out (Nat.le_of_eq HL.out)))
      go_wp2
      go_ret
      exact ⟨ret_bool HR.out.symm, rfl⟩
set_option maxHeartbeats 400000 in
theorem i_everyHeld {w : World} {n c : Nat} {A : Option Addr} {l : List DHeld} (hl : tHeld.row.R w w.heap.size [.slice A n c] l) (hn : n ≤ 17592186043904) :
    Calls Tryz.prog 125 #[.slice A n c, .func (.func 126) #[] #[]] w fun e w' => e = .returned (.bool (l.all fun h => decide (HdOk h))) ∧ Below w.heap.size w w' := by
  obtain ⟨e0, _, _⟩ := rowR_len hl
  have HL := Lib.hid e0
  clear e0
  go_enter Tryz.func125, Tryz.ntmps125
  go_wp2_with fail
  go_loopw [9] (fun i wr => ∃ j : Nat, j ≤ n ∧ i = .int .i64 j ∧ Below w.heap.size w wr ∧ ∀ h ∈ l.take j, HdOk h) (fun i _ => n - (RowKit.intOf i).toNat)
  case atStart => exact ⟨0, by omega, rfl, (belx), all_zero⟩
  case round =>
    obtain ⟨j, hj, rfl, hB, hG⟩ := hrel
    have HG := Lib.hid hG
    clear hG
    by_cases hlt : j < n
    · obtain ⟨a, b', off, es, hl2, rfl, hb, hes, hR⟩ := rowR_at (K := 3) hl hlt rfl
      have HA := Lib.hid hl2
      clear hl2
      obtain ⟨A2, n2, c2, rfl, -, -, -, -, -, -⟩ := openHeld hR
      have e0 : wr.cell? ⟨b', off + j * 3, none⟩ = some (.int .i64 a.1) := cell_at hB hb (hes 0 (by omega))
      have e1 : wr.cell? ⟨b', off + j * 3 + 1, none⟩ = some (.int .i64 a.2.1) := cell_at hB hb (hes 1 (by omega))
      have e2 : wr.cell? ⟨b', off + j * 3 + 2, none⟩ = some (.slice A2 n2 c2) := cell_at hB hb (hes 2 (by omega))
      clear hes
      go_wp2_with fail
      first | (rw [show ∀ cs w, Sem.run Tryz.prog (callFunc 126 #[Value.agg cs]) w = .ok (.enter 126 #[Value.agg cs]) w from fun _ _ => rfl, Oper.upon_enter]) | skip
      refine (i_HeldOkR (tHeld.reach hR ?hB)).mono ?_
      case hB => exact bel_trans (a := w) hB (belx)
      rintro e w1 ⟨rfl, hb1⟩
      have hB1 : Below w.heap.size w w1 := bel_trans (belx) hb1
      by_cases ha : HdOk a
      · rw [decide_eq_true ha]
        have HN := Lib.hid ha
        clear ha
        go_wp2
        go_roundw
        case rel => exact ⟨j + 1, by omega, by go_num, hB1, all_sn HG.out HA.out HN.out⟩
        case measure => simp [RowKit.intOf]; omega
      · rw [decide_eq_false ha]
        have HR := Lib.hid (show (l.all fun h => decide (HdOk h)) = false from List.all_eq_false.2 ⟨a, mem_at HA.out, by simpa using ha⟩)
        clear ha
        go_wp2
        go_ret
        exact ⟨ret_bool HR.out.symm, hB1⟩
    · obtain rfl : n = j := by omega
      have HR := Lib.hid (show (l.all fun h => decide (HdOk h)) = true from List.all_eq_true.2 fun h hh => decide_eq_true (all_end HG.out (Nat.le_of_eq HL.out) h hh))
      go_wp2
      go_ret
      exact ⟨ret_bool HR.out.symm, hB⟩
theorem i_everyFOk {w : World} {B n c : Nat} {A : Option Addr} {l : List Int} (hl : Ints .i64 w B A n l) (hn : n ≤ 17592186043904) :
    Calls Tryz.prog 127 #[.slice A n c, .func (.func 128) #[] #[]] w fun e w' => e = .returned (.bool (l.all fun x => decide (Ok x))) ∧ w = w' := by
  have HL := Lib.hid hl.1
  go_enter Tryz.func127, Tryz.ntmps127
  go_wp2_with fail
  go_loop [9] (fun i => ∃ j : Nat, j ≤ n ∧ i = .int .i64 j ∧ ∀ x ∈ l.take j, Ok x) (fun i => n - (RowKit.intOf i).toNat)
  case atStart => exact ⟨0, by omega, rfl, all_zero⟩
  case round =>
    obtain ⟨j, hj, rfl, hG⟩ := hrel
    have HG := Lib.hid hG
    clear hG
    by_cases hlt : j < n
    · obtain ⟨b, off, rfl, hb, hcell, hwf⟩ := hl.at_ hlt
      have HA := Lib.hid (get_at HL.out hlt)
      obtain ⟨y, hy⟩ : ∃ y, l.getD j 0 = y := ⟨_, rfl⟩
      rw [hy] at hcell HA
      clear hy hwf
      have q2 : (j : Int) < (n : Int) := by omega
      by_cases ha : Ok y
      · have HN := Lib.hid ha
        go_wp2_with fail
        first | (rw [show ∀ (x : Int) w, Sem.run Tryz.prog (callFunc 128 #[Value.int .i64 x]) w = .ok (.enter 128 #[Value.int .i64 x]) w from fun _ _ => rfl, Oper.upon_enter]) | skip
        refine (i_FOk_t _ _ ha).mono ?_
        rintro e w' ⟨rfl, rfl⟩
        clear ha
        go_wp2
        go_round
        case rel => exact ⟨j + 1, by omega, by go_num, all_sn HG.out HA.out HN.out⟩
        case measure => simp [RowKit.intOf]; omega
      · have HR := Lib.hid (show (l.all fun x => decide (Ok x)) = false from List.all_eq_false.2 ⟨y, mem_at HA.out, by simpa using ha⟩)
        go_wp2_with fail
        first | (rw [show ∀ (x : Int) w, Sem.run Tryz.prog (callFunc 128 #[Value.int .i64 x]) w = .ok (.enter 128 #[Value.int .i64 x]) w from fun _ _ => rfl, Oper.upon_enter]) | skip
        refine (i_FOk_f _ _ ha).mono ?_
        rintro e w' ⟨rfl, rfl⟩
        clear ha
        go_wp2
        go_ret
        exact ⟨ret_bool HR.out.symm, rfl⟩
    · obtain rfl : n = j := by omega
      have HR := Lib.hid (show (l.all fun x => decide (Ok x)) = true from List.all_eq_true.2 fun h hh => decide_eq_true (all_end HG.out (Nat.le_of_eq HL.out) h hh))
      go_wp2
      go_ret
      exact ⟨ret_bool HR.out.symm, rfl⟩
theorem i_tags (A0 A1 : Option Addr) (n0 c0 n1 c1 : Nat) (w : World) : Calls Tryz.prog 129 #[.agg #[.slice A0 n0 c0, .slice A1 n1 c1]] w fun e w' => e = .returned (.slice A1 n1 c1) ∧ Below w.heap.size w w' := by
  go_enter Tryz.func129, Tryz.ntmps129
  go_wp2
  go_ret
  exact ⟨rfl, (belx)⟩
set_option maxHeartbeats 2000000 in
theorem i_PoolOkN {w : World} {A0 A1 : Option Addr} {n0 c0 n1 c1 : Nat} {r0 : List DHeld} {l1 : List Int} (b : Bool) (T : PlOk (r0, l1) → b = true) (F : ¬ PlOk (r0, l1) → b = false)
    (h0 : tHeld.row.R w w.heap.size [.slice A0 n0 c0] r0) (h1 : tIs.R w w.heap.size [.slice A1 n1 c1] l1) :
    Calls Tryz.prog 79 #[.agg #[.slice A0 n0 c0, .slice A1 n1 c1]] w fun e w' => e = .returned (.bool b) ∧ Below w.heap.size w w' := by
  obtain ⟨e0, hnc0, hcm0⟩ := rowR_len h0
  have hl1 := (slR_ints h1).1
  have hcc := (slR_ints h1).2
  have E0 := Lib.hid e0
  have E1 := Lib.hid hl1.1
  clear e0 h1
  by_cases g0 : n0 ≤ 12
  rotate_left
  · obtain rfl := F (fun h => by have := h.1.1; have := E0.out; dsimp only at *; omega)
    have q : ¬ (n0 : Int) ≤ 12 := by omega
    clear T F
    go_enter Tryz.func79, Tryz.ntmps79
    go_wp2
    go_ret
    exact ⟨rfl, (belx)⟩
  have q0 : (n0 : Int) ≤ 12 := by omega
  by_cases g1 : n1 ≤ 60
  rotate_left
  · obtain rfl := F (fun h => by have := h.1.2; have := E1.out; dsimp only at *; omega)
    have q : ¬ (n1 : Int) ≤ 60 := by omega
    clear T F
    go_enter Tryz.func79, Tryz.ntmps79
    go_wp2
    go_ret
    exact ⟨rfl, (belx)⟩
  have q1 : (n1 : Int) ≤ 60 := by omega
  by_cases a0 : ∀ h ∈ r0, HdOk h
  rotate_left
  · obtain rfl := F (fun h => a0 h.2.1)
    have HA0 := Lib.hid (show (r0.all fun h => decide (HdOk h)) = false from Bool.eq_false_iff.2 fun h => a0 fun x hx => of_decide_eq_true (List.all_eq_true.1 h x hx))
    clear T F a0
    go_enter Tryz.func79, Tryz.ntmps79
    go_wp2_with fail
    refine (i_everyHeld (tHeld.row.reach h0 ?hB) (by omega)).mono ?_
    case hB => exact (belx)
    rintro e w1 ⟨rfl, hb1⟩
    rw [HA0.out]
    have X1 : Box w1 w.heap.size 39 #[.slice A0 n0 c0, .slice A1 n1 c1] := (Box.new _ _ _).below hb1 (by simp)
    have k0 : w1.cell? ⟨w.heap.size, 0, none⟩ = some (.slice A0 n0 c0) := X1.cell 0
    have k1 : w1.cell? ⟨w.heap.size, 1, none⟩ = some (.slice A1 n1 c1) := X1.cell 1
    have hB1 : Below w.heap.size w w1 := bel_trans (belx) hb1
    go_wp2
    go_ret
    exact ⟨rfl, hB1⟩
  have HA0 := Lib.hid (show (r0.all fun h => decide (HdOk h)) = true from List.all_eq_true.2 fun x hx => decide_eq_true (a0 x hx))
  by_cases a1 : ∀ x ∈ l1, Ok x
  rotate_left
  · obtain rfl := F (fun h => a1 h.2.2.1)
    have HA1 := Lib.hid (show (l1.all fun x => decide (Ok x)) = false from Bool.eq_false_iff.2 fun h => a1 fun x hx => of_decide_eq_true (List.all_eq_true.1 h x hx))
    clear T F a0 a1
    go_enter Tryz.func79, Tryz.ntmps79
    go_wp2_with fail
    refine (i_everyHeld (tHeld.row.reach h0 ?hB) (by omega)).mono ?_
    case hB => exact (belx)
    rintro e w1 ⟨rfl, hb1⟩
    rw [HA0.out]
    have X1 : Box w1 w.heap.size 39 #[.slice A0 n0 c0, .slice A1 n1 c1] := (Box.new _ _ _).below hb1 (by simp)
    have k0 : w1.cell? ⟨w.heap.size, 0, none⟩ = some (.slice A0 n0 c0) := X1.cell 0
    have k1 : w1.cell? ⟨w.heap.size, 1, none⟩ = some (.slice A1 n1 c1) := X1.cell 1
    have hB1 : Below w.heap.size w w1 := bel_trans (belx) hb1
    go_wp2_with fail
    refine (i_everyFOk (reach hl1 hB1) (by omega)).mono ?_
    rintro e w2 ⟨rfl, rfl⟩
    rw [HA1.out]
    go_wp2
    go_ret
    exact ⟨rfl, hB1⟩
  have HA1 := Lib.hid (show (l1.all fun x => decide (Ok x)) = true from List.all_eq_true.2 fun x hx => decide_eq_true (a1 x hx))
  by_cases a2 : l1.Nodup
  rotate_left
  · obtain rfl := F (fun h => a2 h.2.2.2)
    have HA2 := Lib.hid (decide_eq_false a2)
    clear T F a0 a1 a2
    go_enter Tryz.func79, Tryz.ntmps79
    go_wp2_with fail
    refine (i_everyHeld (tHeld.row.reach h0 ?hB) (by omega)).mono ?_
    case hB => exact (belx)
    rintro e w1 ⟨rfl, hb1⟩
    rw [HA0.out]
    have X1 : Box w1 w.heap.size 39 #[.slice A0 n0 c0, .slice A1 n1 c1] := (Box.new _ _ _).below hb1 (by simp)
    have k0 : w1.cell? ⟨w.heap.size, 0, none⟩ = some (.slice A0 n0 c0) := X1.cell 0
    have k1 : w1.cell? ⟨w.heap.size, 1, none⟩ = some (.slice A1 n1 c1) := X1.cell 1
    have hB1 : Below w.heap.size w w1 := bel_trans (belx) hb1
    go_wp2_with fail
    refine (i_everyFOk (reach hl1 hB1) (by omega)).mono ?_
    rintro e w2 ⟨rfl, rfl⟩
    rw [HA1.out]
    go_wp2_with fail
    refine (i_tags _ _ _ _ _ _ _).mono ?_
    rintro e w2 ⟨rfl, hb2⟩
    have hB2 : Below w.heap.size w w2 := bel_trans hB1 hb2
    go_wp2_with fail
    refine (i_isDistinct (reach hl1 hB2) (by omega) (by omega) (by omega)).mono ?_
    rintro e w3 ⟨rfl, rfl⟩
    rw [HA2.out]
    go_wp2
    go_ret
    exact ⟨rfl, hB2⟩
  have HA2 := Lib.hid (decide_eq_true a2)
  obtain rfl := T ⟨⟨by have := E0.out; dsimp only; omega, by have := E1.out; dsimp only; omega⟩, a0, a1, a2⟩
  clear T F a0 a1 a2
  go_enter Tryz.func79, Tryz.ntmps79
  go_wp2_with fail
  refine (i_everyHeld (tHeld.row.reach h0 ?hB) (by omega)).mono ?_
  case hB => exact (belx)
  rintro e w1 ⟨rfl, hb1⟩
  rw [HA0.out]
  have X1 : Box w1 w.heap.size 39 #[.slice A0 n0 c0, .slice A1 n1 c1] := (Box.new _ _ _).below hb1 (by simp)
  have k0 : w1.cell? ⟨w.heap.size, 0, none⟩ = some (.slice A0 n0 c0) := X1.cell 0
  have k1 : w1.cell? ⟨w.heap.size, 1, none⟩ = some (.slice A1 n1 c1) := X1.cell 1
  have hB1 : Below w.heap.size w w1 := bel_trans (belx) hb1
  go_wp2_with fail
  refine (i_everyFOk (reach hl1 hB1) (by omega)).mono ?_
  rintro e w2 ⟨rfl, rfl⟩
  rw [HA1.out]
  go_wp2_with fail
  refine (i_tags _ _ _ _ _ _ _).mono ?_
  rintro e w2 ⟨rfl, hb2⟩
  have hB2 : Below w.heap.size w w2 := bel_trans hB1 hb2
  go_wp2_with fail
  refine (i_isDistinct (reach hl1 hB2) (by omega) (by omega) (by omega)).mono ?_
  rintro e w3 ⟨rfl, rfl⟩
  rw [HA2.out]
  go_wp2
  go_ret
  exact ⟨rfl, hB2⟩
theorem i_PoolOk {w : World} {cs : List Value} {p : DPool} (h : tPool.R w w.heap.size cs p) (hz : szPool p ≤ 1048576) :
    Calls Tryz.prog 79 #[.agg cs.toArray] w fun e w' => e = .returned (.bool (decide (PlOk p))) ∧ Below w.heap.size w w' := by
  obtain ⟨A0, n0, c0, A1, n1, c1, rfl, -, -, -, hr0, -, -, -, hr1⟩ := openPool h
  exact i_PoolOkN _ (fun hh => decide_eq_true hh) (fun hh => decide_eq_false hh) hr0 hr1
end Go.Proofs.YtelbckpplckofaaGreat
namespace Go.Proofs.YtelbckpplckofaaGreat
set_option linter.unusedVariables false
open Fld
/-- What came whole: short enough, and its names are just the done ones. -/
def NdGot (got : List DLetter) (done : List Int) : Prop := (∀ l ∈ got, l.2.length ≤ 160) ∧ (got.map fun l => l.1).Perm done
/-- A node in order. -/
def NdOk (p : DNode) : Prop := (0 ≤ p.1 ∧ p.1 < 8) ∧ Sec p.2.1 ∧ PlOk p.2.2.1 ∧ DkOk p.2.2.2.1 ∧ NdGot p.2.2.2.2 p.2.2.2.1.2
noncomputable instance (p : DNode) : Decidable (NdOk p) := Classical.propDecidable _
noncomputable instance (l : List DLetter) (d : List Int) : Decidable (NdGot l d) := Classical.propDecidable _
/-- Distinct, all of them there, and as many: the same. -/
theorem perm_of_sub : ∀ (l d : List Int), l.Nodup → (∀ x ∈ l, x ∈ d) → d.length ≤ l.length → l.Perm d
  | [], d, _, _, h => by
    have : d = [] := List.eq_nil_of_length_eq_zero (by simpa using h)
    rw [this]
  | a :: l, d, hn, hs, hl => by
    have ha := hs a (by simp)
    refine List.Perm.trans (List.Perm.cons a ?_) (List.perm_cons_erase ha).symm
    rw [List.nodup_cons] at hn
    refine perm_of_sub l (d.erase a) hn.2 (fun x hx => ?_) ?_
    · refine (List.mem_erase_of_ne ?_).2 (hs x (by simp [hx]))
      rintro rfl; exact hn.1 hx
    · have := List.length_erase_of_mem ha
      simp at hl; omega
theorem asc_pair : ∀ {l : List Int}, Asc l → l.Pairwise (· < ·) := by
  intro l h
  have key : ∀ d i, i + d + 1 < l.length → l.getD i 0 < l.getD (i + d + 1) 0 := by
    intro d
    induction d with
    | zero => intro i hi; exact h i hi
    | succ d ih =>
      intro i hi
      have h1 := ih i (by omega)
      have h2 := h (i + d + 1) (by omega)
      rw [show i + (d + 1) + 1 = i + d + 1 + 1 by omega]
      omega
  rw [List.pairwise_iff_getElem]
  intro i j hi hj hij
  have := key (j - i - 1) i (by omega)
  rw [show i + (j - i - 1) + 1 = j by omega] at this
  rwa [List.getD_eq_getElem?_getD, List.getD_eq_getElem?_getD, List.getElem?_eq_getElem hi, List.getElem?_eq_getElem hj] at this
theorem asc_nodupN {l : List Int} (h : Asc l) : l.Nodup := (asc_pair h).imp fun h => by omega
/-- Sorted names are the done ones just where they are the same. -/
theorem sorted_iff {l d : List Int} (h : Asc d) : l.mergeSort (fun x y => decide (x ≤ y)) = d ↔ l.Perm d := by
  constructor
  · rintro rfl; exact (List.mergeSort_perm l _).symm
  · intro hp
    refine List.Perm.eq_of_pairwise (le := fun x y : Int => x ≤ y) (fun a b _ _ h1 h2 => by omega) ?_ ?_ ((List.mergeSort_perm l _).trans hp)
    · refine (List.pairwise_mergeSort (le := fun x y : Int => decide (x ≤ y)) (fun a b c h1 h2 => by simp at *; omega) (fun a b => by simp; omega) l).imp fun h => by simpa using h
    · exact (asc_pair h).imp fun h => by omega
/-- The first k letters: each of the done ones, short enough, none twice. -/
def LtK (got : List DLetter) (done : List Int) (k : Nat) : Prop := (∀ l ∈ got.take k, l.1 ∈ done ∧ l.2.length ≤ 160) ∧ ((got.take k).map fun l => l.1).Nodup
theorem LtK.zero {got : List DLetter} {done : List Int} : LtK got done 0 := ⟨al0, by simp⟩
theorem LtK.succ {got : List DLetter} {done : List Int} {k : Nat} {a : DLetter} (h : LtK got done k) (hl : got[k]? = some a) (h1 : a.1 ∈ done) (h2 : a.2.length ≤ 160) (h3 : ∀ b ∈ got.take k, b.1 ≠ a.1) : LtK got done (k + 1) := by
  refine ⟨alS h.1 hl ⟨h1, h2⟩, ?_⟩
  rw [take_sn hl, List.map_append, List.nodup_append]
  refine ⟨h.2, by simp, fun x hx y hy e => ?_⟩
  simp only [List.map_cons, List.map_nil, List.mem_singleton] at hy
  obtain ⟨b, hb, rfl⟩ := List.mem_map.1 hx
  exact h3 b hb (e.trans hy)
theorem LtK.done {got : List DLetter} {done : List Int} {k : Nat} (h : LtK got done k) (hk : got.length ≤ k) (hl : got.length = done.length) : NdGot got done := by
  have h1 := h.1; have h2 := h.2
  rw [List.take_of_length_le hk] at h1 h2
  refine ⟨fun l hl => (h1 l hl).2, perm_of_sub _ _ h2 (fun x hx => ?_) (by rw [List.length_map]; omega)⟩
  obtain ⟨l, hl, rfl⟩ := List.mem_map.1 hx
  exact (h1 l hl).1
theorem NdGot.len {got : List DLetter} {done : List Int} (h : NdGot got done) : got.length = done.length := by
  have := h.2.length_eq; rwa [List.length_map] at this
theorem NdGot.has {got : List DLetter} {done : List Int} (h : NdGot got done) {l : DLetter} (hl : l ∈ got) : l.1 ∈ done := h.2.mem_iff.1 (List.mem_map.2 ⟨l, hl, rfl⟩)
theorem NdGot.nodup {got : List DLetter} {done : List Int} (h : NdGot got done) (hd : Asc done) : (got.map fun l => l.1).Nodup := h.2.nodup_iff.2 (asc_nodupN hd)
theorem nd_ne {got : List DLetter} {k i : Nat} {a b : DLetter} (h : (got.map fun l => l.1).Nodup) (hk : k < i) (ha : got[i]? = some a) (hb : got[k]? = some b) : b.1 ≠ a.1 := by
  intro e
  rw [List.nodup_iff_pairwise_ne, List.pairwise_iff_getElem] at h
  have hi := (List.getElem?_eq_some_iff.1 ha).1
  refine h k i (by rw [List.length_map]; omega) (by rw [List.length_map]; exact hi) hk ?_
  rw [List.getElem_map, List.getElem_map, (List.getElem?_eq_some_iff.1 ha).2, (List.getElem?_eq_some_iff.1 hb).2, e]
end Go.Proofs.YtelbckpplckofaaGreat
namespace Go.Proofs.YtelbckpplckofaaGreat
open Fld

/-! ### routes, keys -/
def Node (n : Int) : Prop := 0 ≤ n ∧ n < 8
def Route (l : List Int) : Prop := (1 ≤ l.length ∧ l.length ≤ 4) ∧ (∀ x ∈ l, 0 ≤ x ∧ x < 8) ∧ ∀ i, i < l.length - 1 → l.getD i 0 ≠ l.getD (i + 1) 0
def Pubs (l : List Int) : Prop := l.length = 8 ∧ ∀ x ∈ l, 2 ≤ x ∧ x < 2147483646
def LaySec (x : Int) : Prop := (1 ≤ x ∧ x < 2147483646) ∧ (2 ≤ powP 7 x.toNat ∧ powP 7 x.toNat < 2147483646)
instance (x : Int) : Decidable (LaySec x) := by unfold LaySec; infer_instance
def Secs (l : List Int) : Prop := ∀ x ∈ l, LaySec x
instance (l : List Int) : Decidable (Route l) := by unfold Route; infer_instance
instance (l : List Int) : Decidable (Pubs l) := by unfold Pubs; infer_instance
instance (l : List Int) : Decidable (Secs l) := by unfold Secs; infer_instance
/-! ### sizes -/
/-! ### cells -/
/-! ### layers -/
def WrapOk (route pubs secrets : List Int) (due : Int) (load pad : List Int) : Prop :=
  Route route ∧ Pubs pubs ∧ secrets.length = route.length ∧ Secs secrets ∧ (0 ≤ due ∧ due ≤ 65535) ∧ load.length ≤ 24 ∧ 80 ≤ pad.length
instance (route pubs secrets : List Int) (due : Int) (load pad : List Int) : Decidable (WrapOk route pubs secrets due load pad) := by unfold WrapOk; infer_instance
/-! ### what is peeled -/
structure Pel where
  next : Int
  due : Int
  tag : Int
  load : List Int
  cell : List Int
def Pel.zero : Pel := ⟨0, 0, 0, [], []⟩
def peelS (s : Int) (c : List Int) : Int := powP (get4 c) s.toNat
def peelK (s : Int) (c : List Int) : Int := keyP (peelS s c) 5
/-- The four bytes ahead of the content. -/
def peelH (s : Int) (c : List Int) : List Int := xorl (keyP (peelK s c) 1) ((c.drop 8).take 4)
def peelN (s : Int) (c : List Int) : Nat := ((peelH s c).getD 3 0).toNat
/-- What is sealed. -/
def peelB (s : Int) (c : List Int) : List Int := (c.drop 4).take (8 + peelN s c)
def peelX (s : Int) (c : List Int) : List Int := openL (peelK s c) (peelB s c)
def LayOk (next : Int) (n : Nat) : Prop := (next = 255 ∧ n ≤ 24) ∨ (next < 8 ∧ 12 ≤ n)
instance (next : Int) (n : Nat) : Decidable (LayOk next n) := by unfold LayOk; infer_instance
def peels (s : Int) (c : List Int) : Prop := (2 ≤ get4 c ∧ get4 c < 2147483646) ∧ peelN s c ≤ 68 ∧ opens (peelK s c) (peelB s c) ∧ LayOk ((peelX s c).getD 0 0) (peelN s c)
instance (s : Int) (c : List Int) : Decidable (peels s c) := by unfold peels; infer_instance
def PeelOk (s : Int) (c pad : List Int) : Prop := ((1 ≤ s ∧ s < 2147483646) ∧ c.length = 80 ∧ 80 ≤ pad.length) ∧ peels s c
instance (s : Int) (c pad : List Int) : Decidable (PeelOk s c pad) := by unfold PeelOk; infer_instance
/-! ### what is wrapped is peeled -/
section
variable {s s' next due : Int} {inner tail : List Int}
end
end Go.Proofs.YtelbckpplckofaaGreat
namespace Go.Proofs.YtelbckpplckofaaGreat
set_option linter.unusedVariables false
open Fld
/-! ### Forget -/
/-! ### Expire -/
/-! ### Admit -/
def AdOk (p : DPool) (h : DHeld) (tag : Int) : Prop := PlOk p ∧ HdOk h ∧ Ok tag
instance (p : DPool) (h : DHeld) (tag : Int) : Decidable (AdOk p h tag) := by unfold AdOk; infer_instance
end Go.Proofs.YtelbckpplckofaaGreat
namespace Go.Proofs.YtelbckpplckofaaGreat
set_option maxRecDepth 100000
set_option linter.unusedVariables false
set_option linter.unusedSimpArgs false
open Go.ChangeShapes Go.WideShapes Go.ChangeAt Go.RowKit
theorem three_row (w : World) (t : TypeId) (u v x : Value) : (w.alloc (.cells #[u, v, x] t)).ownsRow w.heap.size t 1 (.slice (some ⟨w.heap.size, 0, none⟩) 3 3) 3 [u, v, x] :=
  ⟨rfl, .inr ⟨w.heap.size, 3, #[u, v, x], rfl, Nat.le_refl _, heap_alloc_new w _, Nat.le_refl _, by simp only [maxLen]; omega, rfl, rfl⟩⟩
set_option maxHeartbeats 400000 in
theorem s_l4bytes {w : World} {A3 : Option Addr} {n3 c3 : Nat} {x0 x1 x2 : Int} {l3 : List Int} (h0 : 0 ≤ x0 ∧ x0 ≤ 255) (h1 : 0 ≤ x1 ∧ x1 ≤ 255) (h2 : 0 ≤ x2 ∧ x2 ≤ 255) (hn : n3 ≤ 1048576) (hl : Ints .u8 w w.heap.size A3 n3 l3) :
    Calls Tryz.prog 101 #[.agg #[.int .i64 x0, .int .i64 x1, .int .i64 x2, .slice A3 n3 c3]] w fun e w' => ∃ v, e = .returned v ∧ Own .u8 5 w' w.heap.size v (x0 :: x1 :: x2 :: l3) ∧ Below w.heap.size w w' := by
  obtain ⟨i0, hi0, hz0, hz1, hz2⟩ := info_parts info_cb
  have HL := Lib.hid hl.1
  go_enter Tryz.func101, Tryz.ntmps101
  have hrow : ((w.alloc (.cells #[.int .i64 x0, .int .i64 x1, .int .i64 x2, .slice A3 n3 c3] 141)).alloc (.cells #[.int .u8 x0, .int .u8 x1, .int .u8 x2] 5)).ownsRow (w.heap.size + 1) 5 1 (.slice (some ⟨w.heap.size + 1, 0, none⟩) 3 3) 3 [.int .u8 x0, .int .u8 x1, .int .u8 x2] := by
    simpa using three_row (w.alloc (.cells #[.int .i64 x0, .int .i64 x1, .int .i64 x2, .slice A3 n3 c3] 141)) 5 (.int .u8 x0) (.int .u8 x1) (.int .u8 x2)
  have hsrc : Src ((w.alloc (.cells #[.int .i64 x0, .int .i64 x1, .int .i64 x2, .slice A3 n3 c3] 141)).alloc (.cells #[.int .u8 x0, .int .u8 x1, .int .u8 x2] 5)) 1 A3 n3 (l3.map (Value.int .u8)) := Src.of_ints (reach hl (belx))
  go_wp2_with (at_builtin; refine wpList_app _ rfl (.tmp 12) (.tmp 14) _ rfl (w.heap.size + 1) 5 i0 _ 1 1 Tryz.underlying32 hi0 hz0 hz1 hz2 rfl (by omega) _ _ _ rfl hrow _ n3 c3 (l3.map (Value.int .u8)) rfl hsrc (one_ints _ _) (by simp only [maxLen]; omega) (by omega) (by simp; done) ?_; intro v1 w1 hown hgr hat)
  go_ret
  refine ⟨v1, rfl, Own.lower (base := w.heap.size + 1) (Own.of (n := 3 + n3) (by simpa using hown) ?_) (by omega), Below.grown (belx) hgr (by simp; omega) fun b hb => ?_⟩
  · intro y hy
    simp only [List.mem_cons] at hy
    rcases hy with rfl | rfl | rfl | hy
    · exact WalkArith.wf_u8 h0
    · exact WalkArith.wf_u8 h1
    · exact WalkArith.wf_u8 h2
    · exact hl.2.2 y hy
  · have e := Option.some.inj (show some (w.heap.size + 1) = some b from hb)
    omega
end Go.Proofs.YtelbckpplckofaaGreat
namespace Go.Proofs.YtelbckpplckofaaGreat
open Go.RowKit
theorem own_slice {K : IntKind} {e : TypeId} {w : World} {base : Nat} {v : Value} {l : List Int} (h : Own K e w base v l) : ∃ A c F, v = .slice A l.length c ∧ (tSl K).O w [.slice A l.length c] l F ∧ New base F := by
  obtain ⟨F, hF, hN⟩ := h.tSl
  obtain ⟨A, c, e1, _, _⟩ := slO_one hF
  injection e1 with e1 _
  subst e1
  exact ⟨A, c, F, rfl, hF, hN⟩
theorem nilR {K : IntKind} {w : World} {B : Nat} : (tSl K).R w B [.slice none 0 0] [] := ⟨none, 0, 0, rfl, Nat.le_refl _, by omega, Ints.nil⟩
theorem nilO {K : IntKind} {w : World} : (tSl K).O w [.slice none 0 0] [] [] := .inl ⟨none, 0, rfl, by omega, rfl, rfl⟩
end Go.Proofs.YtelbckpplckofaaGreat
namespace Go.Proofs.YtelbckpplckofaaGreat
set_option maxRecDepth 100000
set_option linter.unusedVariables false
set_option linter.unusedSimpArgs false
open Go.ChangeShapes Go.WideShapes Go.ChangeAt Go.RowKit
def fPB (p : DPiece) : List Int := if PcOk p then p.1 :: p.2.1 :: p.2.2.1 :: p.2.2.2 else []
theorem fPB_t {p : DPiece} (h : PcOk p) : fPB p = p.1 :: p.2.1 :: p.2.2.1 :: p.2.2.2 := if_pos h
theorem fPB_f {p : DPiece} (h : ¬ PcOk p) : fPB p = [] := if_neg h
theorem fPB_le (p : DPiece) : (fPB p).length ≤ 23 := by
  by_cases h : PcOk p
  · rw [fPB_t h]; have := h.2.2.2.2.2.1; simp only [List.length_cons]; omega
  · rw [fPB_f h]; simp
set_option maxHeartbeats 400000 in
theorem i_PieceBytes {w : World} {cs : List Value} {p : DPiece} (h : tPiece.R w w.heap.size cs p) (hz : szPiece p ≤ 1048576) :
    Calls Tryz.prog 162 #[.agg cs.toArray] w fun e w' => ∃ A c F, e = .returned (.tuple #[.slice A (fPB p).length c, .bool (decide (PcOk p))]) ∧ tBy.O w' [.slice A (fPB p).length c] (fPB p) F ∧ New w.heap.size F ∧ Below w.heap.size w w' := by
  by_cases hp : PcOk p
  · have HP := Lib.hid (decide_eq_true hp)
    rw [HP.out]
    have HF := Lib.hid (fPB_t hp)
    obtain ⟨i0, hi0', hz0, hz1, hz2⟩ := info_parts info_cb
    obtain ⟨A3, n3, c3, rfl, hi0, hi1, hi2, ha3, hb3, hl3, hr3⟩ := openPiece h
    obtain ⟨q1, q2, q3, q4, q5, q6, _, _⟩ := hp
    have hi3 := (slR_ints hr3).1
    obtain ⟨x0, x1, x2, l3⟩ := p
    dsimp only [szPiece] at *
    have HL := Lib.hid hl3
    have q7 : 0 ≤ x2 := by omega
    have q8 : x2 ≤ 255 := by omega
    have q9 : x1 ≤ 255 := by omega
    have hn : n3 ≤ 1048576 := by omega
    clear hl3 hi0 hi1 hi2
    go_enter Tryz.func162, Tryz.ntmps162
    go_wp2_with fail
    refine (i_PieceOk (tPiece.reach h ?hB) hz).mono ?_
    case hB => exact (belx)
    rintro e w1 ⟨rfl, hb1⟩
    rw [HP.out]
    have B1 : Box w1 w.heap.size 141 #[.int .i64 x0, .int .i64 x1, .int .i64 x2, .slice A3 n3 c3] := (Box.new _ _ _).below hb1 (by simp)
    have k0 := B1.cell 0; have k1 := B1.cell 1; have k2 := B1.cell 2; have k3 := B1.cell 3
    have hB1 : Below w.heap.size w w1 := bel_trans (belx) hb1
    have hrow : (w1.alloc (.cells #[.int .u8 x0, .int .u8 x1, .int .u8 x2] 5)).ownsRow w1.heap.size 5 1 (.slice (some ⟨w1.heap.size, 0, none⟩) 3 3) 3 [.int .u8 x0, .int .u8 x1, .int .u8 x2] := three_row w1 _ _ _ _
    have hsrc : Src (w1.alloc (.cells #[.int .u8 x0, .int .u8 x1, .int .u8 x2] 5)) 1 A3 n3 (l3.map (Value.int .u8)) := Src.of_ints (reach (reach hi3 hB1) (belx))
    have z1 : w.heap.size ≤ w1.heap.size := hB1.size
    have d3 : (w1.alloc (.cells #[.int .u8 x0, .int .u8 x1, .int .u8 x2] 5)).cell? ⟨w.heap.size, 3, none⟩ = some (.slice A3 n3 c3) := (B1.alloc _).cell 3
    go_wp2_with (at_builtin; refine wpList_app _ rfl (.tmp 16) (.tmp 18) _ rfl w1.heap.size 5 i0 _ 1 1 Tryz.underlying32 hi0' hz0 hz1 hz2 rfl (by omega) _ _ _ rfl hrow _ n3 c3 (l3.map (Value.int .u8)) rfl hsrc (one_ints _ _) (by simp only [maxLen]; omega) (by omega) (by simp; done) ?_; intro v1 w2 hown hgr hat)
    go_ret2
    have hO : Own .u8 5 w2 w1.heap.size v1 (x0 :: x1 :: x2 :: l3) := Own.of (n := 3 + n3) (by simpa using hown) (by
      intro y hy
      simp only [List.mem_cons] at hy
      rcases hy with rfl | rfl | rfl | hy
      · exact WalkArith.wf_u8 ⟨by omega, by omega⟩
      · exact WalkArith.wf_u8 ⟨by omega, by omega⟩
      · exact WalkArith.wf_u8 ⟨by omega, by omega⟩
      · exact hi3.2.2 y hy)
    obtain ⟨A, c, F, rfl, hO2, hN⟩ := own_slice hO
    have e := HF.out
    try dsimp only at e
    rw [← e] at hO2 ⊢
    refine ⟨A, c, F, rfl, hO2, hN.lower z1, Below.grown (by exact (belx)) hgr (by simp; omega) fun b hb => ?_⟩
    have e := Option.some.inj (show some w1.heap.size = some b from hb)
    omega
  · have HP := Lib.hid (decide_eq_false hp)
    rw [HP.out]
    obtain ⟨A3, n3, c3, rfl, hi0, hi1, hi2, ha3, hb3, hl3, hr3⟩ := openPiece h
    clear hl3
    rw [fPB_f hp]
    clear hp
    go_enter Tryz.func162, Tryz.ntmps162
    go_wp2_with fail
    refine (i_PieceOk (tPiece.reach h ?hB) hz).mono ?_
    case hB => exact (belx)
    rintro e w1 ⟨rfl, hb1⟩
    rw [HP.out]
    go_wp2
    go_ret2
    exact ⟨none, 0, [], rfl, nilO, New.nil _, bel_trans (belx) hb1⟩
end Go.Proofs.YtelbckpplckofaaGreat
namespace Go.Proofs.YtelbckpplckofaaGreat
set_option maxRecDepth 100000
set_option linter.unusedVariables false
set_option linter.unusedSimpArgs false
open Go.ChangeShapes Go.WideShapes Go.ChangeAt Go.RowKit
def pcIn (l : List Int) : DPiece := (l.getD 0 0, l.getD 1 0, l.getD 2 0, l.drop 3)
def PrOk (l : List Int) : Prop := 3 ≤ l.length ∧ PcOk (pcIn l)
instance (l : List Int) : Decidable (PrOk l) := by unfold PrOk; infer_instance
end Go.Proofs.YtelbckpplckofaaGreat
namespace Go.Proofs.YtelbckpplckofaaGreat
set_option linter.unusedVariables false
open Go.RowKit
/-- No two have the same number. -/
def Apart {α : Type} (f : α → Int) (r : List α) : Prop := ∀ (i j : Nat) (a b : α), i < j → r[i]? = some a → r[j]? = some b → f a ≠ f b
theorem Apart.take {α : Type} {f : α → Int} {r : List α} (h : Apart f r) {j : Nat} {a : α} (ha : r[j]? = some a) : ∀ b ∈ r.take j, f b ≠ f a := by
  intro b hb
  obtain ⟨i, hi, rfl⟩ := List.getElem_of_mem hb
  rw [List.length_take] at hi
  exact h i j _ _ (by omega) (by rw [List.getElem_take]; exact List.getElem?_eq_getElem (by omega)) ha
end Go.Proofs.YtelbckpplckofaaGreat
namespace Go.Proofs.YtelbckpplckofaaGreat
set_option linter.unusedVariables false
theorem asc_lt {l : List Int} (h : Asc l) : ∀ i j, i < j → j < l.length → l.getD i 0 < l.getD j 0 := by
  intro i j hij
  induction j with
  | zero => omega
  | succ j ih =>
    intro hj
    have h1 := h j hj
    rcases Nat.lt_succ_iff_lt_or_eq.1 hij with h' | rfl
    · have := ih h' (by omega); omega
    · exact h1
end Go.Proofs.YtelbckpplckofaaGreat
namespace Go.Proofs.YtelbckpplckofaaGreat
set_option linter.unusedVariables false
def HasIn (p : DDesk) (q : DPiece) : Prop := DkOk p ∧ PcOk q ∧ ∃ a ∈ p.1, q ∈ a.2.2.2
noncomputable instance (p : DDesk) (q : DPiece) : Decidable (HasIn p q) := Classical.propDecidable _
end Go.Proofs.YtelbckpplckofaaGreat
