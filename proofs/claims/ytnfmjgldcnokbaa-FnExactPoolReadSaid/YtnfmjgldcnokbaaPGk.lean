/-
  PPool: texts joined.
-/
import Derived.Test.YtnfmjgldcnokbaaPGe
import Derived.Test.YtnfmjgldcnokbaaPGh
import Derived.BigQuiet
import Derived.Deep.QuietTactic
import Derived.Deep.RegionHeld3
import Derived.Outline
namespace Go.Proofs.Ytnfmjgldcnokbaa
set_option maxRecDepth 100000
set_option linter.unusedVariables false
set_option linter.unusedSimpArgs false
open Go.ChangeShapes Go.WideShapes Go.ChangeAt Go.RowKit
open Fld
instance (a : Int) : Decidable (Ok a) := by unfold Ok; infer_instance
/-- A pool in order. -/
def PlOk (p : DPool) : Prop := (p.1.length ≤ 12 ∧ p.2.length ≤ 60) ∧ (∀ h ∈ p.1, HdOk h) ∧ (∀ x ∈ p.2, Ok x) ∧ p.2.Nodup
instance (p : DPool) : Decidable (PlOk p) := by unfold PlOk; infer_instance
section
variable {α : Type} {P : α → Prop} {l : List α} {a : α} {j : Nat}
theorem all_zero : ∀ h ∈ l.take 0, P h := fun h hh => absurd hh (by simp)
theorem all_sn (h : ∀ x ∈ l.take j, P x) (hl : l[j]? = some a) (ha : P a) : ∀ x ∈ l.take (j + 1), P x := by
  rw [take_sn hl]
  intro x hx
  rcases List.mem_append.1 hx with h' | h'
  · exact h x h'
  · rw [List.mem_singleton] at h'; rw [h']; exact ha
theorem all_end (h : ∀ x ∈ l.take j, P x) (hj : l.length ≤ j) : ∀ x ∈ l, P x := by rwa [List.take_of_length_le hj] at h
theorem nd_sn (h : (l.take j).Nodup) (hl : l[j]? = some a) (ha : a ∉ l.take j) : (l.take (j + 1)).Nodup := by
  rw [take_sn hl, List.nodup_append]
  refine ⟨h, by simp, fun x hx y hy e => ?_⟩
  rw [List.mem_singleton] at hy
  subst hy e
  exact ha hx
theorem nd_end (h : (l.take j).Nodup) (hj : l.length ≤ j) : l.Nodup := by rwa [List.take_of_length_le hj] at h
theorem nd_no (hl : l[j]? = some a) (ha : a ∈ l.take j) : ¬ l.Nodup := by
  intro h
  have h2 : (l.take (j + 1)).Nodup := h.sublist (List.take_sublist _ _)
  rw [take_sn hl, List.nodup_append] at h2
  exact h2.2.2 a ha a (by simp) rfl
theorem mem_at (hl : l[j]? = some a) : a ∈ l := List.mem_of_getElem? hl
end
theorem get_at {l : List Int} {n j : Nat} (h : l.length = n) (hj : j < n) : l[j]? = some (l.getD j 0) := by
  rw [List.getD_eq_getElem?_getD, List.getElem?_eq_getElem (by omega)]; rfl
theorem s_l4has {w : World} {B n c : Nat} {A : Option Addr} {l : List Int} (x : Int) (hl : Ints .i64 w B A n l) (hn : n ≤ 17592186043904) :
    Calls Try.prog 129 #[.slice A n c, .int .i64 x] w fun e w' => e = .returned (.bool (decide (x ∈ l))) ∧ w = w' := by
  have HL := Lib.hid hl.1
  go_enter Try.func129, Try.ntmps129
  go_wp2_with fail
  go_loop [5] (fun i => ∃ j : Nat, j ≤ n ∧ i = .int .i64 j ∧ ∀ y ∈ l.take j, y ≠ x) (fun i => n - (intOf i).toNat)
  case atStart => exact ⟨0, by omega, rfl, all_zero⟩
  case round =>
    obtain ⟨j, hj, rfl, hG⟩ := hrel
    have HG := Lib.hid hG
    clear hG
    by_cases hlt : j < n
    · obtain ⟨b, off, rfl, hb, hcell, hwf⟩ := hl.at_ hlt
      have HA := Lib.hid (get_at HL.out hlt)
      obtain ⟨y, hy⟩ : ∃ y, l.getD j 0 = y := ⟨_, rfl⟩
      rw [hy] at hcell HA
      clear hy hwf
      by_cases he : y = x
      · subst he
        have HR := Lib.hid (show decide (y ∈ l) = true from decide_eq_true (mem_at HA.out))
        go_wp2
        go_ret
        exact ⟨ret_bool HR.out.symm, rfl⟩
      · have q : (y == x) = false := by simpa using he
        have HN := Lib.hid he
        clear he
        go_wp2
        go_round
        case rel => exact ⟨j + 1, by omega, by go_num, all_sn HG.out HA.out HN.out⟩
        case measure => simp [intOf]; omega
    · obtain rfl : j = n := by omega
      have HR := Lib.hid (show decide (x ∈ l) = false from decide_eq_false fun hx => all_end HG.out (Nat.le_of_eq HL.out) x hx rfl)
      go_wp2
      go_ret
      exact ⟨ret_bool HR.out.symm, rfl⟩
set_option maxHeartbeats 2000000 in
theorem s_PoolOkN {w : World} {A0 A1 : Option Addr} {n0 c0 n1 c1 : Nat} {r0 : List DHeld} {l1 : List Int} (b : Bool) (T : PlOk (r0, l1) → b = true) (F : ¬ PlOk (r0, l1) → b = false)
    (h0 : tHeld.row.R w w.heap.size [.slice A0 n0 c0] r0) (h1 : tIs.R w w.heap.size [.slice A1 n1 c1] l1) :
    Calls Try.prog 103 #[.agg #[.slice A0 n0 c0, .slice A1 n1 c1]] w fun e w' => e = .returned (.bool b) ∧ Below w.heap.size w w' := by
  obtain ⟨e0, hnc0, hcm0⟩ := rowR_len h0
  have hl1 := (slR_ints h1).1
  have hcc := (slR_ints h1).2
  have E0 := Lib.hid e0
  have E1 := Lib.hid hl1.1
  have HT := Lib.hid T
  have HF := Lib.hid F
  clear T F e0 h1
  by_cases g0 : n0 ≤ 12
  rotate_left
  · obtain rfl := HF.out (fun h => by have := h.1.1; have := E0.out; dsimp only at *; omega)
    have q : (12 : Int) < (n0 : Int) := by omega
    clear HT HF
    go_enter Try.func103, Try.ntmps103
    go_wp2
    go_ret
    exact ⟨rfl, (belx)⟩
  have q0 : ¬ (12 : Int) < (n0 : Int) := by omega
  by_cases g1 : n1 ≤ 60
  rotate_left
  · obtain rfl := HF.out (fun h => by have := h.1.2; have := E1.out; dsimp only at *; omega)
    have q : (60 : Int) < (n1 : Int) := by omega
    clear HT HF
    go_enter Try.func103, Try.ntmps103
    go_wp2
    go_ret
    exact ⟨rfl, (belx)⟩
  have q1 : ¬ (60 : Int) < (n1 : Int) := by omega
  go_enter Try.func103, Try.ntmps103
  go_wp2_with fail
  go_loopw [3] (fun i wr => ∃ j : Nat, j ≤ n0 ∧ i = .int .i64 j ∧ Below w.heap.size w wr ∧ Box wr w.heap.size 54 #[.slice A0 n0 c0, .slice A1 n1 c1] ∧ ∀ h ∈ r0.take j, HdOk h) (fun i _ => n0 - (intOf i).toNat)
  case atStart => exact ⟨0, by omega, rfl, (belx), Box.new _ _ _, all_zero⟩
  case round =>
    obtain ⟨j, hj, rfl, hB, hX, hG⟩ := hrel
    have HG := Lib.hid hG
    clear hG
    have k0 : wr.cell? ⟨w.heap.size, 0, none⟩ = some (.slice A0 n0 c0) := hX.cell 0
    have k1 : wr.cell? ⟨w.heap.size, 1, none⟩ = some (.slice A1 n1 c1) := hX.cell 1
    by_cases hlt : j < n0
    · obtain ⟨a, b', off, es, hl, rfl, hb, hes, hR⟩ := rowR_at (K := 3) h0 hlt rfl
      have HA := Lib.hid hl
      clear hl
      obtain ⟨A2, n2, c2, rfl, -, -, -, -, -, -⟩ := openHeld hR
      have e0 : wr.cell? ⟨b', off + j * 3, none⟩ = some (.int .i64 a.1) := cell_at hB hb (hes 0 (by omega))
      have e1 : wr.cell? ⟨b', off + j * 3 + 1, none⟩ = some (.int .i64 a.2.1) := cell_at hB hb (hes 1 (by omega))
      have e2 : wr.cell? ⟨b', off + j * 3 + 2, none⟩ = some (.slice A2 n2 c2) := cell_at hB hb (hes 2 (by omega))
      clear hes
      go_wp2_with fail
      refine (s_HeldOkR (tHeld.reach hR ?hB)).mono ?_
      case hB => exact (belx)
      rintro e w1 ⟨rfl, hb1⟩
      by_cases ha : HdOk a
      · rw [decide_eq_true ha]
        have HN := Lib.hid ha
        clear ha
        go_wp2
        go_roundw
        case rel => exact ⟨j + 1, by omega, by go_num, bel_trans hB hb1, hX.below hb1 hX.size, all_sn HG.out HA.out HN.out⟩
        case measure => simp [intOf]; omega
      · rw [decide_eq_false ha]
        obtain rfl := HF.out (fun h => ha (h.2.1 a (mem_at HA.out)))
        clear ha
        go_wp2
        go_ret
        exact ⟨rfl, bel_trans hB hb1⟩
    · have HG0 := Lib.hid (all_end HG.out (by rw [E0.out]; omega))
      obtain rfl : n0 = j := by omega
      clear hlt HG
      go_wp2_with fail
      go_loopw [4] (fun i wr => ∃ j : Nat, j ≤ n1 ∧ i = .int .i64 j ∧ Below w.heap.size w wr ∧ Box wr w.heap.size 54 #[.slice A0 n0 c0, .slice A1 n1 c1] ∧ (∀ x ∈ l1.take j, Ok x) ∧ (l1.take j).Nodup) (fun i _ => n1 - (intOf i).toNat)
      case atStart => exact ⟨0, by omega, rfl, hB, hX, all_zero, by simp⟩
      case round =>
        clear k0 k1 hB hX
        obtain ⟨i, hi, rfl, hB, hX, hO, hD⟩ := hrel
        have HO := Lib.hid hO
        have HD := Lib.hid hD
        clear hO hD
        have k0 : wr.cell? ⟨w.heap.size, 0, none⟩ = some (.slice A0 n0 c0) := hX.cell 0
        have k1 : wr.cell? ⟨w.heap.size, 1, none⟩ = some (.slice A1 n1 c1) := hX.cell 1
        by_cases hlt : i < n1
        · obtain ⟨b', off, rfl, hb, hcell, hwf⟩ := (hl1.below hB).at_ hlt
          have HA := Lib.hid (get_at E1.out hlt)
          have hsl : Ints .i64 wr w.heap.size (some ⟨b', off, none⟩) i (l1.take i) := (hl1.below hB).head i (by omega)
          obtain ⟨y, hy⟩ : ∃ y, l1.getD i 0 = y := ⟨_, rfl⟩
          rw [hy] at hcell HA
          clear hy hwf
          have i1 : (i : Int) < (n1 : Int) := by omega
          have i2 : (i : Int) ≤ (c1 : Int) := by omega
          by_cases ho : Ok y
          · by_cases hm : y ∈ l1.take i
            · obtain rfl := HF.out (fun h => nd_no HA.out hm h.2.2.2)
              have HM := Lib.hid (decide_eq_true hm)
              clear hm HT HF
              go_wp2_with fail
              go_region_held3 (fun w' => w'.cell? ⟨w.heap.size, 1, none⟩ = some (.slice (some ⟨b', off, none⟩) n1 c1) ∧ w'.cell? ⟨b', off + i, none⟩ = some (.int .i64 y)) (first | (exact ⟨k1, hcell⟩) | go_keep)
                (first
                  | (go_at_call 128; refine (s_FOk_t y _ ho).mono ?_; rintro e w' ⟨rfl, rfl⟩)
                  | (go_at_call 129; refine (s_l4has y hsl.drew (by omega)).mono ?_; rintro e w' ⟨rfl, rfl⟩; rw [HM.out]))
              go_wp2
              go_ret
              exact ⟨rfl, (belx)⟩
            · have HM := Lib.hid (decide_eq_false hm)
              have HN := Lib.hid hm
              have HK := Lib.hid ho
              clear hm
              go_wp2_with fail
              go_region_held3 (fun w' => w'.cell? ⟨w.heap.size, 1, none⟩ = some (.slice (some ⟨b', off, none⟩) n1 c1) ∧ w'.cell? ⟨b', off + i, none⟩ = some (.int .i64 y)) (first | (exact ⟨k1, hcell⟩) | go_keep)
                (first
                  | (go_at_call 128; refine (s_FOk_t y _ ho).mono ?_; rintro e w' ⟨rfl, rfl⟩)
                  | (go_at_call 129; refine (s_l4has y hsl.drew (by omega)).mono ?_; rintro e w' ⟨rfl, rfl⟩; rw [HM.out]))
              go_wp2
              go_roundw
              case rel => exact ⟨i + 1, by omega, by go_num, (belx), hX.same rfl, all_sn HO.out HA.out HK.out, nd_sn HD.out HA.out HN.out⟩
              case measure => simp [intOf]; omega
          · obtain rfl := HF.out (fun h => ho (h.2.2.1 y (mem_at HA.out)))
            clear HT HF
            go_wp2_with fail
            go_quiet ((go_at_call 128; exact q_same (fun W => s_FOk_f y W ho)))
            go_wp2
            go_ret
            exact ⟨rfl, below_drewN hB _⟩
        · have hi1 : i = n1 := by omega
          obtain rfl := HT.out ⟨⟨by have := E0.out; dsimp only; omega, by have := E1.out; dsimp only; omega⟩, HG0.out, all_end HO.out (by rw [E1.out]; omega), nd_end HD.out (by rw [E1.out]; omega)⟩
          go_wp2
          go_ret
          exact ⟨rfl, hB⟩
theorem s_PoolOk {w : World} {cs : List Value} {p : DPool} (h : tPool.R w w.heap.size cs p) (hz : szPool p ≤ 1048576) :
    Calls Try.prog 103 #[.agg cs.toArray] w fun e w' => e = .returned (.bool (decide (PlOk p))) ∧ Below w.heap.size w w' := by
  obtain ⟨A0, n0, c0, A1, n1, c1, rfl, -, -, -, hr0, -, -, -, hr1⟩ := openPool h
  exact s_PoolOkN _ (fun hh => decide_eq_true hh) (fun hh => decide_eq_false hh) hr0 hr1
theorem i_Index_t {w : World} {B n c : Nat} {A : Option Addr} {l : List Int} (x : Int) (hl : Ints .i64 w B A n l) (hn : n ≤ 17592186043904) (hx : x ∈ l) :
    Calls Try.prog 143 #[.slice A n c, .int .i64 x] w fun e w' => (∃ k : Nat, e = .returned (.int .i64 k) ∧ k < 17592186043904) ∧ w = w' := by
  have HL := Lib.hid hl.1
  go_enter Try.func143, Try.ntmps143
  go_wp2_with fail
  go_loop [8] (fun i => ∃ j : Nat, j ≤ n ∧ i = .int .i64 j ∧ ∀ y ∈ l.take j, y ≠ x) (fun i => n - (intOf i).toNat)
  case atStart => exact ⟨0, by omega, rfl, all_zero⟩
  case round =>
    obtain ⟨j, hj, rfl, hG⟩ := hrel
    have HG := Lib.hid hG
    clear hG
    by_cases hlt : j < n
    · obtain ⟨b, off, rfl, hb, hcell, hwf⟩ := hl.at_ hlt
      have HA := Lib.hid (get_at HL.out hlt)
      obtain ⟨y, hy⟩ : ∃ y, l.getD j 0 = y := ⟨_, rfl⟩
      rw [hy] at hcell HA
      clear hy hwf
      by_cases he : x = y
      · subst he
        go_wp2
        go_ret
        exact ⟨⟨j, rfl, by omega⟩, rfl⟩
      · have q : (x == y) = false := by simpa using he
        have HN := Lib.hid (fun e : y = x => he e.symm)
        clear he
        go_wp2
        go_round
        case rel => exact ⟨j + 1, by omega, by go_num, all_sn HG.out HA.out HN.out⟩
        case measure => simp [intOf]; omega
    · exact absurd rfl (all_end HG.out (by rw [HL.out]; omega) x hx)
theorem i_Index_f {w : World} {B n c : Nat} {A : Option Addr} {l : List Int} (x : Int) (hl : Ints .i64 w B A n l) (hn : n ≤ 17592186043904) (hx : x ∉ l) :
    Calls Try.prog 143 #[.slice A n c, .int .i64 x] w fun e w' => e = .returned (.int .i64 (-1)) ∧ w = w' := by
  have HL := Lib.hid hl.1
  have HX := Lib.hid hx
  clear hx
  go_enter Try.func143, Try.ntmps143
  go_wp2_with fail
  go_loop [8] (fun i => ∃ j : Nat, j ≤ n ∧ i = .int .i64 j) (fun i => n - (intOf i).toNat)
  case atStart => exact ⟨0, by omega, rfl⟩
  case round =>
    obtain ⟨j, hj, rfl⟩ := hrel
    by_cases hlt : j < n
    · obtain ⟨b, off, rfl, hb, hcell, hwf⟩ := hl.at_ hlt
      have HA := Lib.hid (get_at HL.out hlt)
      obtain ⟨y, hy⟩ : ∃ y, l.getD j 0 = y := ⟨_, rfl⟩
      rw [hy] at hcell HA
      clear hy hwf
      have q : (x == y) = false := by simp; rintro rfl; exact HX.out (mem_at HA.out)
      go_wp2
      go_round
      case rel => exact ⟨j + 1, by omega, by go_num⟩
      case measure => simp [intOf]; omega
    · obtain rfl : n = j := by omega
      go_wp2
      go_ret
      exact ⟨rfl, rfl⟩
theorem i_has {w : World} {B n c : Nat} {A : Option Addr} {l : List Int} (x : Int) (hl : Ints .i64 w B A n l) (hn : n ≤ 17592186043904) :
    Calls Try.prog 132 #[.slice A n c, .int .i64 x] w fun e w' => e = .returned (.bool (decide (x ∈ l))) ∧ w = w' := by
  by_cases hx : x ∈ l
  · have HR := Lib.hid (show decide (x ∈ l) = true from decide_eq_true hx)
    have hc : Calls Try.prog 139 #[.slice A n c, .int .i64 x] w fun e w' => e = .returned (.bool true) ∧ w = w' := by
      go_enter Try.func139, Try.ntmps139
      go_wp2_with fail
      refine (i_Index_t x hl hn hx).mono ?_
      rintro e w' ⟨⟨k, rfl, hk⟩, rfl⟩
      go_wp2
      go_ret
      exact ⟨ret_bool (by first | (simp; done) | (simp; omega)), rfl⟩
    have HC := Lib.hid hc
    clear hx hc
    go_enter Try.func132, Try.ntmps132
    go_wp2_with fail
    refine HC.out.mono ?_
    rintro e w' ⟨rfl, rfl⟩
    go_wp2
    go_ret
    exact ⟨ret_bool HR.out.symm, rfl⟩
  · have HR := Lib.hid (show decide (x ∈ l) = false from decide_eq_false hx)
    have hc : Calls Try.prog 139 #[.slice A n c, .int .i64 x] w fun e w' => e = .returned (.bool false) ∧ w = w' := by
      go_enter Try.func139, Try.ntmps139
      go_wp2_with fail
      refine (i_Index_f x hl hn hx).mono ?_
      rintro e w' ⟨rfl, rfl⟩
      go_wp2
      go_ret
      exact ⟨rfl, rfl⟩
    have HC := Lib.hid hc
    clear hx hc
    go_enter Try.func132, Try.ntmps132
    go_wp2_with fail
    refine HC.out.mono ?_
    rintro e w' ⟨rfl, rfl⟩
    go_wp2
    go_ret
    exact ⟨ret_bool HR.out.symm, rfl⟩
theorem i_isDistinct {w : World} {B n c : Nat} {A : Option Addr} {l : List Int} (hl : Ints .i64 w B A n l) (hn : n ≤ 17592186043904) (hnc : n ≤ c) (hc : c ≤ 9223372036854775807) :
    Calls Try.prog 111 #[.slice A n c] w fun e w' => e = .returned (.bool (decide l.Nodup)) ∧ w = w' := by
  have HL := Lib.hid hl.1
  go_enter Try.func111, Try.ntmps111
  go_wp2_with fail
  go_loop [7] (fun i => ∃ j : Nat, j ≤ n ∧ i = .int .i64 j ∧ (l.take j).Nodup) (fun i => n - (intOf i).toNat)
  case atStart => exact ⟨0, by omega, rfl, by simp⟩
  case round =>
    obtain ⟨j, hj, rfl, hD⟩ := hrel
    have HD := Lib.hid hD
    clear hD
    by_cases hlt : j < n
    · obtain ⟨b, off, rfl, hb, hcell, hwf⟩ := hl.at_ hlt
      have HA := Lib.hid (get_at HL.out hlt)
      have hsl : Ints .i64 w B (some ⟨b, off, none⟩) j (l.take j) := hl.head j (by omega)
      obtain ⟨y, hy⟩ : ∃ y, l.getD j 0 = y := ⟨_, rfl⟩
      rw [hy] at hcell HA
      clear hy hwf
      have i2 : (j : Int) ≤ (c : Int) := by omega
      by_cases hm : y ∈ l.take j
      · have HM := Lib.hid (decide_eq_true hm)
        have HR := Lib.hid (show decide l.Nodup = false from decide_eq_false (nd_no HA.out hm))
        clear hm
        go_wp2_with (go_at_call 132; refine (i_has y hsl (by omega)).mono ?_; rintro e w' ⟨rfl, rfl⟩; rw [HM.out])
        go_ret
        exact ⟨ret_bool HR.out.symm, rfl⟩
      · have HM := Lib.hid (decide_eq_false hm)
        have HN := Lib.hid hm
        clear hm
        go_wp2_with (go_at_call 132; refine (i_has y hsl (by omega)).mono ?_; rintro e w' ⟨rfl, rfl⟩; rw [HM.out])
        go_round
        case rel => exact ⟨j + 1, by omega, by go_num, nd_sn HD.out HA.out HN.out⟩
        case measure => simp [intOf]; omega
    · obtain rfl : n = j := by omega
      have HR := Lib.hid (show decide l.Nodup = true from decide_eq_true (nd_end HD.out (Nat.le_of_eq HL.out)))
      go_wp2
      go_ret
      exact ⟨ret_bool HR.out.symm, rfl⟩
set_option maxHeartbeats 400000 in
theorem i_everyHeld {w : World} {n c : Nat} {A : Option Addr} {l : List DHeld} (hl : tHeld.row.R w w.heap.size [.slice A n c] l) (hn : n ≤ 17592186043904) :
    Calls Try.prog 108 #[.slice A n c, .func (.func 109) #[] #[]] w fun e w' => e = .returned (.bool (l.all fun h => decide (HdOk h))) ∧ Below w.heap.size w w' := by
  obtain ⟨e0, _, _⟩ := rowR_len hl
  have HL := Lib.hid e0
  clear e0
  go_enter Try.func108, Try.ntmps108
  go_wp2_with fail
  go_loopw [9] (fun i wr => ∃ j : Nat, j ≤ n ∧ i = .int .i64 j ∧ Below w.heap.size w wr ∧ ∀ h ∈ l.take j, HdOk h) (fun i _ => n - (intOf i).toNat)
  case atStart => exact ⟨0, by omega, rfl, (belx), all_zero⟩
  case round =>
    obtain ⟨j, hj, rfl, hB, hG⟩ := hrel
    have HG := Lib.hid hG
    clear hG
    by_cases hlt : j < n
    · obtain ⟨a, b', off, es, hl2, rfl, hb, hes, hR⟩ := rowR_at (K := 3) hl hlt rfl
      have HA := Lib.hid hl2
      clear hl2
      obtain ⟨A2, n2, c2, rfl, -, -, -, -, -, -⟩ := openHeld hR
      have e0 : wr.cell? ⟨b', off + j * 3, none⟩ = some (.int .i64 a.1) := cell_at hB hb (hes 0 (by omega))
      have e1 : wr.cell? ⟨b', off + j * 3 + 1, none⟩ = some (.int .i64 a.2.1) := cell_at hB hb (hes 1 (by omega))
      have e2 : wr.cell? ⟨b', off + j * 3 + 2, none⟩ = some (.slice A2 n2 c2) := cell_at hB hb (hes 2 (by omega))
      clear hes
      go_wp2_with fail
      first | (rw [show ∀ cs w, Sem.run Try.prog (callFunc 109 #[Value.agg cs]) w = .ok (.enter 109 #[Value.agg cs]) w from fun _ _ => rfl, Oper.upon_enter]) | skip
      refine (i_HeldOkR (tHeld.reach hR ?hB)).mono ?_
      case hB => exact bel_trans (a := w) hB (belx)
      rintro e w1 ⟨rfl, hb1⟩
      have hB1 : Below w.heap.size w w1 := bel_trans (belx) hb1
      by_cases ha : HdOk a
      · rw [decide_eq_true ha]
        have HN := Lib.hid ha
        clear ha
        go_wp2
        go_roundw
        case rel => exact ⟨j + 1, by omega, by go_num, hB1, all_sn HG.out HA.out HN.out⟩
        case measure => simp [intOf]; omega
      · rw [decide_eq_false ha]
        have HR := Lib.hid (show (l.all fun h => decide (HdOk h)) = false from List.all_eq_false.2 ⟨a, mem_at HA.out, by simpa using ha⟩)
        clear ha
        go_wp2
        go_ret
        exact ⟨ret_bool HR.out.symm, hB1⟩
    · obtain rfl : n = j := by omega
      have HR := Lib.hid (show (l.all fun h => decide (HdOk h)) = true from List.all_eq_true.2 fun h hh => decide_eq_true (all_end HG.out (Nat.le_of_eq HL.out) h hh))
      go_wp2
      go_ret
      exact ⟨ret_bool HR.out.symm, hB⟩
theorem i_everyFOk {w : World} {B n c : Nat} {A : Option Addr} {l : List Int} (hl : Ints .i64 w B A n l) (hn : n ≤ 17592186043904) :
    Calls Try.prog 46 #[.slice A n c, .func (.func 99) #[] #[]] w fun e w' => e = .returned (.bool (l.all fun x => decide (Ok x))) ∧ w = w' := by
  have HL := Lib.hid hl.1
  go_enter Try.func46, Try.ntmps46
  go_wp2_with fail
  go_loop [9] (fun i => ∃ j : Nat, j ≤ n ∧ i = .int .i64 j ∧ ∀ x ∈ l.take j, Ok x) (fun i => n - (intOf i).toNat)
  case atStart => exact ⟨0, by omega, rfl, all_zero⟩
  case round =>
    obtain ⟨j, hj, rfl, hG⟩ := hrel
    have HG := Lib.hid hG
    clear hG
    by_cases hlt : j < n
    · obtain ⟨b, off, rfl, hb, hcell, hwf⟩ := hl.at_ hlt
      have HA := Lib.hid (get_at HL.out hlt)
      obtain ⟨y, hy⟩ : ∃ y, l.getD j 0 = y := ⟨_, rfl⟩
      rw [hy] at hcell HA
      clear hy hwf
      have q2 : (j : Int) < (n : Int) := by omega
      by_cases ha : Ok y
      · have HN := Lib.hid ha
        go_wp2_with fail
        first | (rw [show ∀ (x : Int) w, Sem.run Try.prog (callFunc 99 #[Value.int .i64 x]) w = .ok (.enter 99 #[Value.int .i64 x]) w from fun _ _ => rfl, Oper.upon_enter]) | skip
        refine (i_FOk_t _ _ ha).mono ?_
        rintro e w' ⟨rfl, rfl⟩
        clear ha
        go_wp2
        go_round
        case rel => exact ⟨j + 1, by omega, by go_num, all_sn HG.out HA.out HN.out⟩
        case measure => simp [intOf]; omega
      · have HR := Lib.hid (show (l.all fun x => decide (Ok x)) = false from List.all_eq_false.2 ⟨y, mem_at HA.out, by simpa using ha⟩)
        go_wp2_with fail
        first | (rw [show ∀ (x : Int) w, Sem.run Try.prog (callFunc 99 #[Value.int .i64 x]) w = .ok (.enter 99 #[Value.int .i64 x]) w from fun _ _ => rfl, Oper.upon_enter]) | skip
        refine (i_FOk_f _ _ ha).mono ?_
        rintro e w' ⟨rfl, rfl⟩
        clear ha
        go_wp2
        go_ret
        exact ⟨ret_bool HR.out.symm, rfl⟩
    · obtain rfl : n = j := by omega
      have HR := Lib.hid (show (l.all fun x => decide (Ok x)) = true from List.all_eq_true.2 fun h hh => decide_eq_true (all_end HG.out (Nat.le_of_eq HL.out) h hh))
      go_wp2
      go_ret
      exact ⟨ret_bool HR.out.symm, rfl⟩
theorem i_tags (A0 A1 : Option Addr) (n0 c0 n1 c1 : Nat) (w : World) : Calls Try.prog 110 #[.agg #[.slice A0 n0 c0, .slice A1 n1 c1]] w fun e w' => e = .returned (.slice A1 n1 c1) ∧ Below w.heap.size w w' := by
  go_enter Try.func110, Try.ntmps110
  go_wp2
  go_ret
  exact ⟨rfl, (belx)⟩
set_option maxHeartbeats 2000000 in
theorem i_PoolOkN {w : World} {A0 A1 : Option Addr} {n0 c0 n1 c1 : Nat} {r0 : List DHeld} {l1 : List Int} (b : Bool) (T : PlOk (r0, l1) → b = true) (F : ¬ PlOk (r0, l1) → b = false)
    (h0 : tHeld.row.R w w.heap.size [.slice A0 n0 c0] r0) (h1 : tIs.R w w.heap.size [.slice A1 n1 c1] l1) :
    Calls Try.prog 75 #[.agg #[.slice A0 n0 c0, .slice A1 n1 c1]] w fun e w' => e = .returned (.bool b) ∧ Below w.heap.size w w' := by
  obtain ⟨e0, hnc0, hcm0⟩ := rowR_len h0
  have hl1 := (slR_ints h1).1
  have hcc := (slR_ints h1).2
  have E0 := Lib.hid e0
  have E1 := Lib.hid hl1.1
  clear e0 h1
  by_cases g0 : n0 ≤ 12
  rotate_left
  · obtain rfl := F (fun h => by have := h.1.1; have := E0.out; dsimp only at *; omega)
    have q : ¬ (n0 : Int) ≤ 12 := by omega
    clear T F
    go_enter Try.func75, Try.ntmps75
    go_wp2
    go_ret
    exact ⟨rfl, (belx)⟩
  have q0 : (n0 : Int) ≤ 12 := by omega
  by_cases g1 : n1 ≤ 60
  rotate_left
  · obtain rfl := F (fun h => by have := h.1.2; have := E1.out; dsimp only at *; omega)
    have q : ¬ (n1 : Int) ≤ 60 := by omega
    clear T F
    go_enter Try.func75, Try.ntmps75
    go_wp2
    go_ret
    exact ⟨rfl, (belx)⟩
  have q1 : (n1 : Int) ≤ 60 := by omega
  by_cases a0 : ∀ h ∈ r0, HdOk h
  rotate_left
  · obtain rfl := F (fun h => a0 h.2.1)
    have HA0 := Lib.hid (show (r0.all fun h => decide (HdOk h)) = false from Bool.eq_false_iff.2 fun h => a0 fun x hx => of_decide_eq_true (List.all_eq_true.1 h x hx))
    clear T F a0
    go_enter Try.func75, Try.ntmps75
    go_wp2_with fail
    refine (i_everyHeld (tHeld.row.reach h0 ?hB) (by omega)).mono ?_
    case hB => exact (belx)
    rintro e w1 ⟨rfl, hb1⟩
    rw [HA0.out]
    have X1 : Box w1 w.heap.size 54 #[.slice A0 n0 c0, .slice A1 n1 c1] := (Box.new _ _ _).below hb1 (by simp)
    have k0 : w1.cell? ⟨w.heap.size, 0, none⟩ = some (.slice A0 n0 c0) := X1.cell 0
    have k1 : w1.cell? ⟨w.heap.size, 1, none⟩ = some (.slice A1 n1 c1) := X1.cell 1
    have hB1 : Below w.heap.size w w1 := bel_trans (belx) hb1
    go_wp2
    go_ret
    exact ⟨rfl, hB1⟩
  have HA0 := Lib.hid (show (r0.all fun h => decide (HdOk h)) = true from List.all_eq_true.2 fun x hx => decide_eq_true (a0 x hx))
  by_cases a1 : ∀ x ∈ l1, Ok x
  rotate_left
  · obtain rfl := F (fun h => a1 h.2.2.1)
    have HA1 := Lib.hid (show (l1.all fun x => decide (Ok x)) = false from Bool.eq_false_iff.2 fun h => a1 fun x hx => of_decide_eq_true (List.all_eq_true.1 h x hx))
    clear T F a0 a1
    go_enter Try.func75, Try.ntmps75
    go_wp2_with fail
    refine (i_everyHeld (tHeld.row.reach h0 ?hB) (by omega)).mono ?_
    case hB => exact (belx)
    rintro e w1 ⟨rfl, hb1⟩
    rw [HA0.out]
    have X1 : Box w1 w.heap.size 54 #[.slice A0 n0 c0, .slice A1 n1 c1] := (Box.new _ _ _).below hb1 (by simp)
    have k0 : w1.cell? ⟨w.heap.size, 0, none⟩ = some (.slice A0 n0 c0) := X1.cell 0
    have k1 : w1.cell? ⟨w.heap.size, 1, none⟩ = some (.slice A1 n1 c1) := X1.cell 1
    have hB1 : Below w.heap.size w w1 := bel_trans (belx) hb1
    go_wp2_with fail
    refine (i_everyFOk (reach hl1 hB1) (by omega)).mono ?_
    rintro e w2 ⟨rfl, rfl⟩
    rw [HA1.out]
    go_wp2
    go_ret
    exact ⟨rfl, hB1⟩
  have HA1 := Lib.hid (show (l1.all fun x => decide (Ok x)) = true from List.all_eq_true.2 fun x hx => decide_eq_true (a1 x hx))
  by_cases a2 : l1.Nodup
  rotate_left
  · obtain rfl := F (fun h => a2 h.2.2.2)
    have HA2 := Lib.hid (decide_eq_false a2)
    clear T F a0 a1 a2
    go_enter Try.func75, Try.ntmps75
    go_wp2_with fail
    refine (i_everyHeld (tHeld.row.reach h0 ?hB) (by omega)).mono ?_
    case hB => exact (belx)
    rintro e w1 ⟨rfl, hb1⟩
    rw [HA0.out]
    have X1 : Box w1 w.heap.size 54 #[.slice A0 n0 c0, .slice A1 n1 c1] := (Box.new _ _ _).below hb1 (by simp)
    have k0 : w1.cell? ⟨w.heap.size, 0, none⟩ = some (.slice A0 n0 c0) := X1.cell 0
    have k1 : w1.cell? ⟨w.heap.size, 1, none⟩ = some (.slice A1 n1 c1) := X1.cell 1
    have hB1 : Below w.heap.size w w1 := bel_trans (belx) hb1
    go_wp2_with fail
    refine (i_everyFOk (reach hl1 hB1) (by omega)).mono ?_
    rintro e w2 ⟨rfl, rfl⟩
    rw [HA1.out]
    go_wp2_with fail
    refine (i_tags _ _ _ _ _ _ _).mono ?_
    rintro e w2 ⟨rfl, hb2⟩
    have hB2 : Below w.heap.size w w2 := bel_trans hB1 hb2
    go_wp2_with fail
    refine (i_isDistinct (reach hl1 hB2) (by omega) (by omega) (by omega)).mono ?_
    rintro e w3 ⟨rfl, rfl⟩
    rw [HA2.out]
    go_wp2
    go_ret
    exact ⟨rfl, hB2⟩
  have HA2 := Lib.hid (decide_eq_true a2)
  obtain rfl := T ⟨⟨by have := E0.out; dsimp only; omega, by have := E1.out; dsimp only; omega⟩, a0, a1, a2⟩
  clear T F a0 a1 a2
  go_enter Try.func75, Try.ntmps75
  go_wp2_with fail
  refine (i_everyHeld (tHeld.row.reach h0 ?hB) (by omega)).mono ?_
  case hB => exact (belx)
  rintro e w1 ⟨rfl, hb1⟩
  rw [HA0.out]
  have X1 : Box w1 w.heap.size 54 #[.slice A0 n0 c0, .slice A1 n1 c1] := (Box.new _ _ _).below hb1 (by simp)
  have k0 : w1.cell? ⟨w.heap.size, 0, none⟩ = some (.slice A0 n0 c0) := X1.cell 0
  have k1 : w1.cell? ⟨w.heap.size, 1, none⟩ = some (.slice A1 n1 c1) := X1.cell 1
  have hB1 : Below w.heap.size w w1 := bel_trans (belx) hb1
  go_wp2_with fail
  refine (i_everyFOk (reach hl1 hB1) (by omega)).mono ?_
  rintro e w2 ⟨rfl, rfl⟩
  rw [HA1.out]
  go_wp2_with fail
  refine (i_tags _ _ _ _ _ _ _).mono ?_
  rintro e w2 ⟨rfl, hb2⟩
  have hB2 : Below w.heap.size w w2 := bel_trans hB1 hb2
  go_wp2_with fail
  refine (i_isDistinct (reach hl1 hB2) (by omega) (by omega) (by omega)).mono ?_
  rintro e w3 ⟨rfl, rfl⟩
  rw [HA2.out]
  go_wp2
  go_ret
  exact ⟨rfl, hB2⟩
theorem i_PoolOk {w : World} {cs : List Value} {p : DPool} (h : tPool.R w w.heap.size cs p) (hz : szPool p ≤ 1048576) :
    Calls Try.prog 75 #[.agg cs.toArray] w fun e w' => e = .returned (.bool (decide (PlOk p))) ∧ Below w.heap.size w w' := by
  obtain ⟨A0, n0, c0, A1, n1, c1, rfl, -, -, -, hr0, -, -, -, hr1⟩ := openPool h
  exact i_PoolOkN _ (fun hh => decide_eq_true hh) (fun hh => decide_eq_false hh) hr0 hr1
end Go.Proofs.Ytnfmjgldcnokbaa
