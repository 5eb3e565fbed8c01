/-
  Route: texts joined.
-/
import Derived.Test.YtnfmjgldcnokbaaKGj
import Derived.Test.YtnfmjgldcnokbaaKGp
import Derived.Test.YtnfmjgldcnokbaaShelf
import Derived.Lib.RowBridge
import Derived.Lib.SlBuf
namespace Go.Proofs.Ytnfmjgldcnokbaa
set_option maxRecDepth 100000
set_option linter.unusedSimpArgs false
set_option linter.unusedVariables false
open Go.ChangeShapes Go.WideShapes Go.ChangeAt Go.RowKit
open Fld
attribute [local go_sem ↓] Go.wp_at_zero Go.wp_at_succ

theorem getBang (l : List Int) (j : Nat) : l.toArray[j]! = l.getD j 0 := by
  simp [List.getD_eq_getElem?_getD]
theorem compact_len (l : List Int) : (Go.Lib.compact l).length = l.length ↔ ∀ i, i < l.length - 1 → l.getD i 0 ≠ l.getD (i + 1) 0 := by
  unfold Go.Lib.compact Go.Lib.compactUpTo
  rw [List.length_map]
  have h := List.length_filter_eq_length_iff (p := Go.Lib.keeps l.toArray) (l := List.range l.length)
  rw [List.length_range] at h
  rw [h]
  constructor
  · intro h i hi e
    have := h (i + 1) (List.mem_range.2 (by omega))
    simp only [Go.Lib.keeps, decide_eq_true_eq, getBang, Nat.add_sub_cancel] at this
    rcases this with h' | h'
    · omega
    · exact h' e.symm
  · intro h j hj
    have hj := List.mem_range.1 hj
    simp only [Go.Lib.keeps, decide_eq_true_eq, getBang]
    by_cases h0 : j = 0
    · exact .inl h0
    · have := h (j - 1) (by omega)
      rw [show j - 1 + 1 = j by omega] at this
      exact .inr this.symm
theorem route_iff {l : List Int} (h1 : 1 ≤ l.length) (h4 : l.length ≤ 4) (hn : ∀ x ∈ l, 0 ≤ x ∧ x < 8) : decide (Route l) = decide ((Go.Lib.compact l).length = l.length) := by
  rw [decide_eq_decide, compact_len]
  exact ⟨fun h => h.2.2, fun h => ⟨⟨h1, h4⟩, hn, h⟩⟩
theorem i_clone {w : World} {n c : Nat} {A : Option Addr} {l : List Int} (hl : Ints .i64 w w.heap.size A n l) (hn : n ≤ 17592186043904) :
    Calls Try.prog 58 #[.slice A n c] w fun e w' => ∃ v, e = .returned v ∧ Own .i64 3 w' w.heap.size v l ∧ Below w.heap.size w w' := by
  by_cases h0 : n = 0
  · subst h0
    have : l = [] := List.eq_nil_of_length_eq_zero hl.1
    subst this
    cases A with
    | none => exact (Try.slices_Clone_int_nil 0 c w).mono fun e w' hh => ⟨_, hh.1, Own.nil _ _ _ _, by rw [hh.2]; exact Below.refl _ _⟩
    | some a => exact (Try.slices_Clone_int_zero a c w).mono fun e w' ⟨v, h1, h2, _, h3⟩ => ⟨v, h1, ⟨h2, fun x hx => absurd hx (by simp)⟩, h3⟩
  · obtain ⟨b, off, rfl, hb, hc⟩ := hl.2.1 (by omega)
    refine (Try.slices_Clone_int b off n c l w (Nat.le_of_eq hl.1.symm) (by omega) (fun j hj => hc j (by rw [← hl.1]; exact hj))).mono fun e w' ⟨v, h1, h2, _, h3⟩ => ⟨v, h1, Own.of (n := n) ?_ hl.2.2, h3⟩
    rwa [List.take_of_length_le (by rw [hl.1]; exact Nat.le_refl _)] at h2
theorem i_compact {w : World} {base n c : Nat} {A : Option Addr} {l : List Int} (hO : Own .i64 3 w base (.slice A n c) l) :
    Calls Try.prog 61 #[.slice A n c] w fun e w' => e = .returned (.slice A (Go.Lib.compact l).length c) ∧ Below base w w' := by
  by_cases h0 : n = 0
  · subst h0
    have : l = [] := List.eq_nil_of_length_eq_zero hO.intsAt.2
    subst this
    exact (Try.slices_Compact_int_empty A c w).mono fun e w' hh => ⟨hh.1, by rw [hh.2]; exact Below.refl _ _⟩
  · have hl := hO.intsAt.2
    obtain ⟨g, c', e1, h1, h2, h3, h4, h5, h6⟩ := hO.row (by omega)
    injection e1 with e1 e2 e3
    subst e1 e2 e3
    refine (Try.slices_Compact_int_cells g 0 l.length c l w (Nat.le_refl _) (by unfold maxLen at h2; omega) h1 (fun j hj => by rw [Nat.zero_add]; exact h5 j hj) (fun j hj => h6 _)).mono fun e w' ⟨k1, q, k2⟩ => ⟨?_, ?_⟩
    · rwa [List.take_length] at k1
    · rw [k2]
      exact Go.Lib.below_setCells _ h3 _ _ (below_drewN (Below.refl _ _) _)
theorem i_RouteOk {w : World} {n c : Nat} {A : Option Addr} {l : List Int} (hl : Ints .i64 w w.heap.size A n l) (hn : n ≤ 17592186043904) (hnc : n ≤ c) (hc : c ≤ 9223372036854775807) :
    Calls Try.prog 17 #[.slice A n c] w fun e w' => e = .returned (.bool (decide (Route l))) ∧ Below w.heap.size w w' := by
  have HL := Lib.hid hl.1
  by_cases h1 : n < 1
  · have HF := Lib.hid (show decide (Route l) = false from decide_eq_false fun h => by have := h.1.1; rw [HL.out] at this; omega)
    have hle : (n : Int) < 1 := by omega
    rw [HF.out]
    go_enter Try.func17, Try.ntmps17
    go_wp2
    go_ret
    exact ⟨rfl, Below.refl _ _⟩
  · by_cases h4 : 4 < n
    · have HF := Lib.hid (show decide (Route l) = false from decide_eq_false fun h => by have := h.1.2; rw [HL.out] at this; omega)
      have hle : ¬ (n : Int) < 1 := by omega
      have hle2 : (4 : Int) < n := by omega
      rw [HF.out]
      go_enter Try.func17, Try.ntmps17
      go_wp2
      go_ret
      exact ⟨rfl, Below.refl _ _⟩
    · have hle : ¬ (n : Int) < 1 := by omega
      have hle2 : ¬ (4 : Int) < n := by omega
      by_cases hN : ∀ x ∈ l, 0 ≤ x ∧ x < 8
      · have HA := Lib.hid (show (l.all fun x => decide (0 ≤ x ∧ x < 8)) = true by rw [List.all_eq_true]; intro x hx; exact decide_eq_true (hN x hx))
        have HR := Lib.hid (route_iff (l := l) (by rw [HL.out]; omega) (by rw [HL.out]; omega) hN)
        clear hN
        obtain ⟨b, off, rfl, hb, hcell⟩ := hl.2.1 (by omega)
        rw [HR.out]
        go_enter Try.func17, Try.ntmps17
        go_wp2_with (first | (go_at_call 46; refine (i_every_node hl hn).mono ?_; rintro e w' ⟨rfl, rfl⟩; rw [HA.out]) | (go_at_call 58; refine (i_clone hl hn).mono ?_; rintro e w1 ⟨v, rfl, hO, hB⟩; obtain ⟨A1, c1, rfl, _⟩ := hO.ints) | (go_at_call 61; refine (i_compact hO).mono ?_; rintro e w2 ⟨rfl, hB2⟩))
        go_ret
        exact ⟨ret_bool (by rw [HL.out, Bool.eq_iff_iff]; simp; omega), hB.trans hB2⟩
      · have HA := Lib.hid (show (l.all fun x => decide (0 ≤ x ∧ x < 8)) = false by rw [List.all_eq_false]; obtain ⟨x, hx⟩ := Classical.not_forall.1 hN; obtain ⟨hx, hx2⟩ := Classical.not_imp.1 hx; exact ⟨x, hx, by rw [decide_eq_false hx2]; decide⟩)
        have HF := Lib.hid (show decide (Route l) = false from decide_eq_false fun h => hN h.2.1)
        clear hN
        rw [HF.out]
        go_enter Try.func17, Try.ntmps17
        go_wp2_with (go_at_call 46; refine (i_every_node hl hn).mono ?_; rintro e w' ⟨rfl, rfl⟩; rw [HA.out])
        go_ret
        exact ⟨rfl, Below.refl _ _⟩
set_option maxHeartbeats 4000000 in
theorem s_RouteOk {w : World} {n c : Nat} {A : Option Addr} {l : List Int} (hl : Ints .i64 w w.heap.size A n l) (hn : n ≤ 17592186043904) :
    Calls Try.prog 53 #[.slice A n c] w fun e w' => e = .returned (.bool (decide (Route l))) ∧ Below w.heap.size w w' := by
  have HL := Lib.hid hl.1
  go_enter Try.func53, Try.ntmps53
  go_wp2_with fail
  go_loopw [3] (fun i wr => ∃ k q : Nat, k ≤ n ∧ i = .int .i64 k ∧ Good l k ∧ wr = w.drewN q) (fun i _ => n - (intOf i).toNat)
  case atStart => exact ⟨0, 0, by omega, rfl, Good.zero l, rfl⟩
  case round =>
    obtain ⟨k, q, hk, rfl, hG, rfl⟩ := hrel
    have HG := Lib.hid hG
    clear hG
    by_cases hlt : k < n
    · obtain ⟨b, off, rfl, hb, hcell, hwf⟩ := hl.at_ hlt
      have q1 : (0 : Int) ≤ (k : Int) := Int.natCast_nonneg _
      have q2 : (k : Int) < (n : Int) := by omega
      obtain ⟨x, hx⟩ : ∃ x, l.getD k 0 = x := ⟨_, rfl⟩
      rw [hx] at hcell
      have HX := Lib.hid hx
      clear hx hwf
      by_cases h1 : x < 0
      · have HF := Lib.hid (show decide (Route l) = false from decide_eq_false fun hr => by have := (route_good hr).1 k (by rw [HL.out]; exact hlt); rw [HX.out] at this; omega)
        have d1 : decide (x < 0) = true := decide_eq_true h1
        clear h1
        go_wp2_with fail
        go_quiet (fail)
        go_wp2
        go_ret
        exact ⟨by rw [HF.out]; rfl, by first | exact below_drewN (Below.refl _ _) _ | exact below_drewN (below_drewN (Below.refl _ _) _) _⟩
      · have d1 : decide (x < 0) = false := decide_eq_false h1
        by_cases h2 : 8 ≤ x
        · have HF := Lib.hid (show decide (Route l) = false from decide_eq_false fun hr => by have := (route_good hr).1 k (by rw [HL.out]; exact hlt); rw [HX.out] at this; omega)
          have d2 : decide (8 ≤ x) = true := decide_eq_true h2
          clear h1 h2
          go_wp2_with fail
          go_quiet (fail)
          go_wp2
          go_ret
          exact ⟨by rw [HF.out]; rfl, by first | exact below_drewN (Below.refl _ _) _ | exact below_drewN (below_drewN (Below.refl _ _) _) _⟩
        · have d2 : decide (8 ≤ x) = false := decide_eq_false h2
          have HR := Lib.hid (show 0 ≤ x ∧ x < 8 from ⟨by omega, by omega⟩)
          clear h1 h2
          by_cases h0 : k = 0
          · have d3 : decide (0 < k) = false := by simp; omega
            have HG1 := Lib.hid (show Good l (k + 1) from HG.out.succ (by rw [HX.out]; exact HR.out.1) (by rw [HX.out]; exact HR.out.2) (fun h => absurd h (by omega)))
            clear h0
            go_wp2_with fail
            go_quiet (fail)
            go_wp2
            go_roundw
            case rel => exact ⟨k + 1, _, by omega, by go_num, HG1.out, rfl⟩
            case measure => simp [intOf]; omega
          · have d3 : decide (0 < k) = true := by simp; omega
            obtain ⟨b', off', e', hb', hcell', hwf'⟩ := hl.at_ (show k - 1 < n by omega)
            cases e'
            obtain ⟨y, hy⟩ : ∃ x, l.getD (k - 1) 0 = x := ⟨_, rfl⟩
            rw [hy] at hcell'
            have HY := Lib.hid hy
            have HK := Lib.hid h0
            clear hy hwf' h0
            have q5 : (0 : Int) ≤ (k : Int) - 1 := by have := HK.out; omega
            have q6 : (1 : Int) ≤ (k : Int) := by have := HK.out; omega
            have q7 : (k : Int) - 1 < (n : Int) := by omega
            have q8 : ((k : Int) - 1).toNat = k - 1 := by omega
            by_cases hxy : y = x
            · have HF := Lib.hid (show decide (Route l) = false from decide_eq_false fun hr => by have := (route_good hr).2 (k - 1) (by rw [HL.out]; omega); rw [show k - 1 + 1 = k by omega, HX.out, HY.out] at this; exact this hxy)
              have d4 : (y == x) = true := by simpa using hxy
              clear hxy
              go_wp2_with fail
              go_quiet (fail)
              go_wp2
              go_ret
              exact ⟨by rw [HF.out]; rfl, by first | exact below_drewN (Below.refl _ _) _ | exact below_drewN (below_drewN (Below.refl _ _) _) _⟩
            · have HG1 := Lib.hid (show Good l (k + 1) from HG.out.succ (by rw [HX.out]; exact HR.out.1) (by rw [HX.out]; exact HR.out.2) (fun _ => by rw [HX.out, HY.out]; exact hxy))
              have d4 : (y == x) = false := by simpa using hxy
              clear hxy
              go_wp2_with fail
              go_quiet (fail)
              go_wp2
              go_roundw
              case rel => exact ⟨k + 1, _, by omega, by go_num, HG1.out, rfl⟩
              case measure => simp [intOf]; omega
    · obtain rfl : k = n := by omega
      have e : k = l.length := HL.out.symm
      by_cases h1 : 1 ≤ k
      · by_cases h4 : k ≤ 4
        · have HF := Lib.hid (show decide (Route l) = true from decide_eq_true (Good.route (by rw [← e]; exact HG.out) (by omega) (by omega)))
          have q3 : (1 : Int) ≤ (k : Int) := by omega
          have q4 : (k : Int) ≤ 4 := by omega
          clear e
          go_wp2
          go_ret
          exact ⟨by rw [HF.out]; rfl, below_drewN (Below.refl _ _) _⟩
        · have HF := Lib.hid (show decide (Route l) = false from decide_eq_false fun h => by have := h.1.2; omega)
          have q3 : (1 : Int) ≤ (k : Int) := by omega
          have q4 : ¬ (k : Int) ≤ 4 := by omega
          clear e
          go_wp2
          go_ret
          exact ⟨by rw [HF.out]; rfl, below_drewN (Below.refl _ _) _⟩
      · have HF := Lib.hid (show decide (Route l) = false from decide_eq_false fun h => by have := h.1.1; omega)
        have q3 : ¬ (1 : Int) ≤ (k : Int) := by omega
        clear e
        go_wp2
        go_ret
        exact ⟨by rw [HF.out]; rfl, below_drewN (Below.refl _ _) _⟩
end Go.Proofs.Ytnfmjgldcnokbaa
