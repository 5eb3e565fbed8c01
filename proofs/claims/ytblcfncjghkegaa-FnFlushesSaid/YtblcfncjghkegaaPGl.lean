/-
  PPool, PD5, DrawThr, POwn, PMv5, PFgt5, PAdm5, PAdm6: texts joined.
-/
import Derived.Test.YtblcfncjghkegaaPGf
import Derived.Test.YtblcfncjghkegaaPGh
import Derived.Test.YtblcfncjghkegaaPGi
import Derived.Test.YtblcfncjghkegaaPGj
import Derived.Test.YtblcfncjghkegaaPGk
import Derived.BigQuiet
import Derived.Deep.QuietTactic
import Derived.Deep.RegionHeld3
import Derived.Outline
namespace Go.Proofs.Ytblcfncjghkegaa
set_option maxRecDepth 100000
set_option linter.unusedVariables false
set_option linter.unusedSimpArgs false
open Go.ChangeShapes Go.WideShapes Go.ChangeAt Go.RowKit
open Fld
instance (a : Int) : Decidable (Ok a) := by unfold Ok; infer_instance
/-- A pool in order. -/
def PlOk (p : DPool) : Prop := (p.1.length ≤ 12 ∧ p.2.length ≤ 60) ∧ (∀ h ∈ p.1, HdOk h) ∧ (∀ x ∈ p.2, Ok x) ∧ p.2.Nodup
instance (p : DPool) : Decidable (PlOk p) := by unfold PlOk; infer_instance
section
variable {α : Type} {P : α → Prop} {l : List α} {a : α} {j : Nat}
theorem all_zero : ∀ h ∈ l.take 0, P h := fun h hh => absurd hh (by simp)
theorem all_sn (h : ∀ x ∈ l.take j, P x) (hl : l[j]? = some a) (ha : P a) : ∀ x ∈ l.take (j + 1), P x := by
  rw [take_sn hl]
  intro x hx
  rcases List.mem_append.1 hx with h' | h'
  · exact h x h'
  · rw [List.mem_singleton] at h'; rw [h']; exact ha
theorem all_end (h : ∀ x ∈ l.take j, P x) (hj : l.length ≤ j) : ∀ x ∈ l, P x := by rwa [List.take_of_length_le hj] at h
theorem nd_sn (h : (l.take j).Nodup) (hl : l[j]? = some a) (ha : a ∉ l.take j) : (l.take (j + 1)).Nodup := by
  rw [take_sn hl, List.nodup_append]
  refine ⟨h, by simp, fun x hx y hy e => ?_⟩
  rw [List.mem_singleton] at hy
  subst hy e
  exact ha hx
theorem nd_end (h : (l.take j).Nodup) (hj : l.length ≤ j) : l.Nodup := by rwa [List.take_of_length_le hj] at h
theorem nd_no (hl : l[j]? = some a) (ha : a ∈ l.take j) : ¬ l.Nodup := by
  intro h
  have h2 : (l.take (j + 1)).Nodup := h.sublist (List.take_sublist _ _)
  rw [take_sn hl, List.nodup_append] at h2
  exact h2.2.2 a ha a (by simp) rfl
theorem mem_at (hl : l[j]? = some a) : a ∈ l := List.mem_of_getElem? hl
end
theorem get_at {l : List Int} {n j : Nat} (h : l.length = n) (hj : j < n) : l[j]? = some (l.getD j 0) := by
  rw [List.getD_eq_getElem?_getD, List.getElem?_eq_getElem (by omega)]; rfl
theorem s_l4has {w : World} {B n c : Nat} {A : Option Addr} {l : List Int} (x : Int) (hl : Ints .i64 w B A n l) (hn : n ≤ 17592186043904) :
    Calls Try.prog 57 #[.slice A n c, .int .i64 x] w fun e w' => e = .returned (.bool (decide (x ∈ l))) ∧ w = w' := by
  have HL := Lib.hid hl.1
  go_enter Try.func57, Try.ntmps57
  go_wp2_with fail
  go_loop [5] (fun i => ∃ j : Nat, j ≤ n ∧ i = .int .i64 j ∧ ∀ y ∈ l.take j, y ≠ x) (fun i => n - (intOf i).toNat)
  case atStart => exact ⟨0, by omega, rfl, all_zero⟩
  case round =>
    obtain ⟨j, hj, rfl, hG⟩ := hrel
    have HG := Lib.hid hG
    clear hG
    by_cases hlt : j < n
    · obtain ⟨b, off, rfl, hb, hcell, hwf⟩ := hl.at_ hlt
      have HA := Lib.hid (get_at HL.out hlt)
      obtain ⟨y, hy⟩ : ∃ y, l.getD j 0 = y := ⟨_, rfl⟩
      rw [hy] at hcell HA
      clear hy hwf
      by_cases he : y = x
      · subst he
        have HR := Lib.hid (show decide (y ∈ l) = true from decide_eq_true (mem_at HA.out))
        go_wp2
        go_ret
        exact ⟨ret_bool HR.out.symm, rfl⟩
      · have q : (y == x) = false := by simpa using he
        have HN := Lib.hid he
        clear he
        go_wp2
        go_round
        case rel => exact ⟨j + 1, by omega, by go_num, all_sn HG.out HA.out HN.out⟩
        case measure => simp [intOf]; omega
    · obtain rfl : j = n := by omega
      have HR := Lib.hid (show decide (x ∈ l) = false from decide_eq_false fun hx => all_end HG.out (Nat.le_of_eq HL.out) x hx rfl)
      go_wp2
      go_ret
      exact ⟨ret_bool HR.out.symm, rfl⟩
set_option maxHeartbeats 2000000 in
theorem s_PoolOkN {w : World} {A0 A1 : Option Addr} {n0 c0 n1 c1 : Nat} {r0 : List DHeld} {l1 : List Int} (b : Bool) (T : PlOk (r0, l1) → b = true) (F : ¬ PlOk (r0, l1) → b = false)
    (h0 : tHeld.row.R w w.heap.size [.slice A0 n0 c0] r0) (h1 : tIs.R w w.heap.size [.slice A1 n1 c1] l1) :
    Calls Try.prog 20 #[.agg #[.slice A0 n0 c0, .slice A1 n1 c1]] w fun e w' => e = .returned (.bool b) ∧ Below w.heap.size w w' := by
  obtain ⟨e0, hnc0, hcm0⟩ := rowR_len h0
  have hl1 := (slR_ints h1).1
  have hcc := (slR_ints h1).2
  have E0 := Lib.hid e0
  have E1 := Lib.hid hl1.1
  have HT := Lib.hid T
  have HF := Lib.hid F
  clear T F e0 h1
  by_cases g0 : n0 ≤ 12
  rotate_left
  · obtain rfl := HF.out (fun h => by have := h.1.1; have := E0.out; dsimp only at *; omega)
    have q : (12 : Int) < (n0 : Int) := by omega
    clear HT HF
    go_enter Try.func20, Try.ntmps20
    go_wp2
    go_ret
    exact ⟨rfl, (belx)⟩
  have q0 : ¬ (12 : Int) < (n0 : Int) := by omega
  by_cases g1 : n1 ≤ 60
  rotate_left
  · obtain rfl := HF.out (fun h => by have := h.1.2; have := E1.out; dsimp only at *; omega)
    have q : (60 : Int) < (n1 : Int) := by omega
    clear HT HF
    go_enter Try.func20, Try.ntmps20
    go_wp2
    go_ret
    exact ⟨rfl, (belx)⟩
  have q1 : ¬ (60 : Int) < (n1 : Int) := by omega
  go_enter Try.func20, Try.ntmps20
  go_wp2_with fail
  go_loopw [3] (fun i wr => ∃ j : Nat, j ≤ n0 ∧ i = .int .i64 j ∧ Below w.heap.size w wr ∧ Box wr w.heap.size 26 #[.slice A0 n0 c0, .slice A1 n1 c1] ∧ ∀ h ∈ r0.take j, HdOk h) (fun i _ => n0 - (intOf i).toNat)
  case atStart => exact ⟨0, by omega, rfl, (belx), Box.new _ _ _, all_zero⟩
  case round =>
    obtain ⟨j, hj, rfl, hB, hX, hG⟩ := hrel
    have HG := Lib.hid hG
    clear hG
    have k0 : wr.cell? ⟨w.heap.size, 0, none⟩ = some (.slice A0 n0 c0) := hX.cell 0
    have k1 : wr.cell? ⟨w.heap.size, 1, none⟩ = some (.slice A1 n1 c1) := hX.cell 1
    by_cases hlt : j < n0
    · obtain ⟨a, b', off, es, hl, rfl, hb, hes, hR⟩ := rowR_at (K := 3) h0 hlt rfl
      have HA := Lib.hid hl
      clear hl
      obtain ⟨A2, n2, c2, rfl, -, -, -, -, -, -⟩ := openHeld hR
      have e0 : wr.cell? ⟨b', off + j * 3, none⟩ = some (.int .i64 a.1) := cell_at hB hb (hes 0 (by omega))
      have e1 : wr.cell? ⟨b', off + j * 3 + 1, none⟩ = some (.int .i64 a.2.1) := cell_at hB hb (hes 1 (by omega))
      have e2 : wr.cell? ⟨b', off + j * 3 + 2, none⟩ = some (.slice A2 n2 c2) := cell_at hB hb (hes 2 (by omega))
      clear hes
      go_wp2_with fail
      refine (s_HeldOkR (tHeld.reach hR ?hB)).mono ?_
      case hB => exact (belx)
      rintro e w1 ⟨rfl, hb1⟩
      by_cases ha : HdOk a
      · rw [decide_eq_true ha]
        have HN := Lib.hid ha
        clear ha
        go_wp2
        go_roundw
        case rel => exact ⟨j + 1, by omega, by go_num, bel_trans hB hb1, hX.below hb1 hX.size, all_sn HG.out HA.out HN.out⟩
        case measure => simp [intOf]; omega
      · rw [decide_eq_false ha]
        obtain rfl := HF.out (fun h => ha (h.2.1 a (mem_at HA.out)))
        clear ha
        go_wp2
        go_ret
        exact ⟨rfl, bel_trans hB hb1⟩
    · have HG0 := Lib.hid (all_end HG.out (by rw [E0.out]; omega))
      obtain rfl : n0 = j := by omega
      clear hlt HG
      go_wp2_with fail
      go_loopw [4] (fun i wr => ∃ j : Nat, j ≤ n1 ∧ i = .int .i64 j ∧ Below w.heap.size w wr ∧ Box wr w.heap.size 26 #[.slice A0 n0 c0, .slice A1 n1 c1] ∧ (∀ x ∈ l1.take j, Ok x) ∧ (l1.take j).Nodup) (fun i _ => n1 - (intOf i).toNat)
      case atStart => exact ⟨0, by omega, rfl, hB, hX, all_zero, by simp⟩
      case round =>
        clear k0 k1 hB hX
        obtain ⟨i, hi, rfl, hB, hX, hO, hD⟩ := hrel
        have HO := Lib.hid hO
        have HD := Lib.hid hD
        clear hO hD
        have k0 : wr.cell? ⟨w.heap.size, 0, none⟩ = some (.slice A0 n0 c0) := hX.cell 0
        have k1 : wr.cell? ⟨w.heap.size, 1, none⟩ = some (.slice A1 n1 c1) := hX.cell 1
        by_cases hlt : i < n1
        · obtain ⟨b', off, rfl, hb, hcell, hwf⟩ := (hl1.below hB).at_ hlt
          have HA := Lib.hid (get_at E1.out hlt)
          have hsl : Ints .i64 wr w.heap.size (some ⟨b', off, none⟩) i (l1.take i) := (hl1.below hB).head i (by omega)
          obtain ⟨y, hy⟩ : ∃ y, l1.getD i 0 = y := ⟨_, rfl⟩
          rw [hy] at hcell HA
          clear hy hwf
          have i1 : (i : Int) < (n1 : Int) := by omega
          have i2 : (i : Int) ≤ (c1 : Int) := by omega
          by_cases ho : Ok y
          · by_cases hm : y ∈ l1.take i
            · obtain rfl := HF.out (fun h => nd_no HA.out hm h.2.2.2)
              have HM := Lib.hid (decide_eq_true hm)
              clear hm HT HF
              go_wp2_with fail
              go_region_held3 (fun w' => w'.cell? ⟨w.heap.size, 1, none⟩ = some (.slice (some ⟨b', off, none⟩) n1 c1) ∧ w'.cell? ⟨b', off + i, none⟩ = some (.int .i64 y)) (first | (exact ⟨k1, hcell⟩) | go_keep)
                (first
                  | (go_at_call 56; refine (s_FOk_t y _ ho).mono ?_; rintro e w' ⟨rfl, rfl⟩)
                  | (go_at_call 57; refine (s_l4has y hsl.drew (by omega)).mono ?_; rintro e w' ⟨rfl, rfl⟩; rw [HM.out]))
              go_wp2
              go_ret
              exact ⟨rfl, (belx)⟩
            · have HM := Lib.hid (decide_eq_false hm)
              have HN := Lib.hid hm
              have HK := Lib.hid ho
              clear hm
              go_wp2_with fail
              go_region_held3 (fun w' => w'.cell? ⟨w.heap.size, 1, none⟩ = some (.slice (some ⟨b', off, none⟩) n1 c1) ∧ w'.cell? ⟨b', off + i, none⟩ = some (.int .i64 y)) (first | (exact ⟨k1, hcell⟩) | go_keep)
                (first
                  | (go_at_call 56; refine (s_FOk_t y _ ho).mono ?_; rintro e w' ⟨rfl, rfl⟩)
                  | (go_at_call 57; refine (s_l4has y hsl.drew (by omega)).mono ?_; rintro e w' ⟨rfl, rfl⟩; rw [HM.out]))
              go_wp2
              go_roundw
              case rel => exact ⟨i + 1, by omega, by go_num, (belx), hX.same rfl, all_sn HO.out HA.out HK.out, nd_sn HD.out HA.out HN.out⟩
              case measure => simp [intOf]; omega
          · obtain rfl := HF.out (fun h => ho (h.2.2.1 y (mem_at HA.out)))
            clear HT HF
            go_wp2_with fail
            go_quiet ((go_at_call 56; exact q_same (fun W => s_FOk_f y W ho)))
            go_wp2
            go_ret
            exact ⟨rfl, below_drewN hB _⟩
        · have hi1 : i = n1 := by omega
          obtain rfl := HT.out ⟨⟨by have := E0.out; dsimp only; omega, by have := E1.out; dsimp only; omega⟩, HG0.out, all_end HO.out (by rw [E1.out]; omega), nd_end HD.out (by rw [E1.out]; omega)⟩
          go_wp2
          go_ret
          exact ⟨rfl, hB⟩
theorem s_PoolOk {w : World} {cs : List Value} {p : DPool} (h : tPool.R w w.heap.size cs p) (hz : szPool p ≤ 1048576) :
    Calls Try.prog 20 #[.agg cs.toArray] w fun e w' => e = .returned (.bool (decide (PlOk p))) ∧ Below w.heap.size w w' := by
  obtain ⟨A0, n0, c0, A1, n1, c1, rfl, -, -, -, hr0, -, -, -, hr1⟩ := openPool h
  exact s_PoolOkN _ (fun hh => decide_eq_true hh) (fun hh => decide_eq_false hh) hr0 hr1
theorem i_Index_t {w : World} {B n c : Nat} {A : Option Addr} {l : List Int} (x : Int) (hl : Ints .i64 w B A n l) (hn : n ≤ 17592186043904) (hx : x ∈ l) :
    Calls Try.prog 110 #[.slice A n c, .int .i64 x] w fun e w' => (∃ k : Nat, e = .returned (.int .i64 k) ∧ k < 17592186043904) ∧ w = w' := by
  have HL := Lib.hid hl.1
  go_enter Try.func110, Try.ntmps110
  go_wp2_with fail
  go_loop [8] (fun i => ∃ j : Nat, j ≤ n ∧ i = .int .i64 j ∧ ∀ y ∈ l.take j, y ≠ x) (fun i => n - (intOf i).toNat)
  case atStart => exact ⟨0, by omega, rfl, all_zero⟩
  case round =>
    obtain ⟨j, hj, rfl, hG⟩ := hrel
    have HG := Lib.hid hG
    clear hG
    by_cases hlt : j < n
    · obtain ⟨b, off, rfl, hb, hcell, hwf⟩ := hl.at_ hlt
      have HA := Lib.hid (get_at HL.out hlt)
      obtain ⟨y, hy⟩ : ∃ y, l.getD j 0 = y := ⟨_, rfl⟩
      rw [hy] at hcell HA
      clear hy hwf
      by_cases he : x = y
      · subst he
        go_wp2
        go_ret
        exact ⟨⟨j, rfl, by omega⟩, rfl⟩
      · have q : (x == y) = false := by simpa using he
        have HN := Lib.hid (fun e : y = x => he e.symm)
        clear he
        go_wp2
        go_round
        case rel => exact ⟨j + 1, by omega, by go_num, all_sn HG.out HA.out HN.out⟩
        case measure => simp [intOf]; omega
    · exact absurd rfl (all_end HG.out (by rw [HL.out]; omega) x hx)
theorem i_Index_f {w : World} {B n c : Nat} {A : Option Addr} {l : List Int} (x : Int) (hl : Ints .i64 w B A n l) (hn : n ≤ 17592186043904) (hx : x ∉ l) :
    Calls Try.prog 110 #[.slice A n c, .int .i64 x] w fun e w' => e = .returned (.int .i64 (-1)) ∧ w = w' := by
  have HL := Lib.hid hl.1
  have HX := Lib.hid hx
  clear hx
  go_enter Try.func110, Try.ntmps110
  go_wp2_with fail
  go_loop [8] (fun i => ∃ j : Nat, j ≤ n ∧ i = .int .i64 j) (fun i => n - (intOf i).toNat)
  case atStart => exact ⟨0, by omega, rfl⟩
  case round =>
    obtain ⟨j, hj, rfl⟩ := hrel
    by_cases hlt : j < n
    · obtain ⟨b, off, rfl, hb, hcell, hwf⟩ := hl.at_ hlt
      have HA := Lib.hid (get_at HL.out hlt)
      obtain ⟨y, hy⟩ : ∃ y, l.getD j 0 = y := ⟨_, rfl⟩
      rw [hy] at hcell HA
      clear hy hwf
      have q : (x == y) = false := by simp; rintro rfl; exact HX.out (mem_at HA.out)
      go_wp2
      go_round
      case rel => exact ⟨j + 1, by omega, by go_num⟩
      case measure => simp [intOf]; omega
    · obtain rfl : n = j := by omega
      go_wp2
      go_ret
      exact ⟨rfl, rfl⟩
theorem i_has {w : World} {B n c : Nat} {A : Option Addr} {l : List Int} (x : Int) (hl : Ints .i64 w B A n l) (hn : n ≤ 17592186043904) :
    Calls Try.prog 85 #[.slice A n c, .int .i64 x] w fun e w' => e = .returned (.bool (decide (x ∈ l))) ∧ w = w' := by
  by_cases hx : x ∈ l
  · have HR := Lib.hid (show decide (x ∈ l) = true from decide_eq_true hx)
    have hc : Calls Try.prog 103 #[.slice A n c, .int .i64 x] w fun e w' => e = .returned (.bool true) ∧ w = w' := by
      go_enter Try.func103, Try.ntmps103
      go_wp2_with fail
      refine (i_Index_t x hl hn hx).mono ?_
      rintro e w' ⟨⟨k, rfl, hk⟩, rfl⟩
      go_wp2
      go_ret
      exact ⟨ret_bool (by first | (simp; done) | (simp; omega)), rfl⟩
    have HC := Lib.hid hc
    clear hx hc
    go_enter Try.func85, Try.ntmps85
    go_wp2_with fail
    refine HC.out.mono ?_
    rintro e w' ⟨rfl, rfl⟩
    go_wp2
    go_ret
    exact ⟨ret_bool HR.out.symm, rfl⟩
  · have HR := Lib.hid (show decide (x ∈ l) = false from decide_eq_false hx)
    have hc : Calls Try.prog 103 #[.slice A n c, .int .i64 x] w fun e w' => e = .returned (.bool false) ∧ w = w' := by
      go_enter Try.func103, Try.ntmps103
      go_wp2_with fail
      refine (i_Index_f x hl hn hx).mono ?_
      rintro e w' ⟨rfl, rfl⟩
      go_wp2
      go_ret
      exact ⟨rfl, rfl⟩
    have HC := Lib.hid hc
    clear hx hc
    go_enter Try.func85, Try.ntmps85
    go_wp2_with fail
    refine HC.out.mono ?_
    rintro e w' ⟨rfl, rfl⟩
    go_wp2
    go_ret
    exact ⟨ret_bool HR.out.symm, rfl⟩
theorem i_isDistinct {w : World} {B n c : Nat} {A : Option Addr} {l : List Int} (hl : Ints .i64 w B A n l) (hn : n ≤ 17592186043904) (hnc : n ≤ c) (hc : c ≤ 9223372036854775807) :
    Calls Try.prog 48 #[.slice A n c] w fun e w' => e = .returned (.bool (decide l.Nodup)) ∧ w = w' := by
  have HL := Lib.hid hl.1
  go_enter Try.func48, Try.ntmps48
  go_wp2_with fail
  go_loop [7] (fun i => ∃ j : Nat, j ≤ n ∧ i = .int .i64 j ∧ (l.take j).Nodup) (fun i => n - (intOf i).toNat)
  case atStart => exact ⟨0, by omega, rfl, by simp⟩
  case round =>
    obtain ⟨j, hj, rfl, hD⟩ := hrel
    have HD := Lib.hid hD
    clear hD
    by_cases hlt : j < n
    · obtain ⟨b, off, rfl, hb, hcell, hwf⟩ := hl.at_ hlt
      have HA := Lib.hid (get_at HL.out hlt)
      have hsl : Ints .i64 w B (some ⟨b, off, none⟩) j (l.take j) := hl.head j (by omega)
      obtain ⟨y, hy⟩ : ∃ y, l.getD j 0 = y := ⟨_, rfl⟩
      rw [hy] at hcell HA
      clear hy hwf
      have i2 : (j : Int) ≤ (c : Int) := by omega
      by_cases hm : y ∈ l.take j
      · have HM := Lib.hid (decide_eq_true hm)
        have HR := Lib.hid (show decide l.Nodup = false from decide_eq_false (nd_no HA.out hm))
        clear hm
        go_wp2_with (go_at_call 85; refine (i_has y hsl (by omega)).mono ?_; rintro e w' ⟨rfl, rfl⟩; rw [HM.out])
        go_ret
        exact ⟨ret_bool HR.out.symm, rfl⟩
      · have HM := Lib.hid (decide_eq_false hm)
        have HN := Lib.hid hm
        clear hm
        go_wp2_with (go_at_call 85; refine (i_has y hsl (by omega)).mono ?_; rintro e w' ⟨rfl, rfl⟩; rw [HM.out])
        go_round
        case rel => exact ⟨j + 1, by omega, by go_num, nd_sn HD.out HA.out HN.out⟩
        case measure => simp [intOf]; omega
    · obtain rfl : n = j := by omega
      have HR := Lib.hid (show decide l.Nodup = true from decide_eq_true (nd_end HD.out (Nat.le_of_eq HL.out)))
      go_wp2
      go_ret
      exact ⟨ret_bool HR.out.symm, rfl⟩
set_option maxHeartbeats 400000 in
theorem i_everyHeld {w : World} {n c : Nat} {A : Option Addr} {l : List DHeld} (hl : tHeld.row.R w w.heap.size [.slice A n c] l) (hn : n ≤ 17592186043904) :
    Calls Try.prog 45 #[.slice A n c, .func (.func 15) #[] #[]] w fun e w' => e = .returned (.bool (l.all fun h => decide (HdOk h))) ∧ Below w.heap.size w w' := by
  obtain ⟨e0, _, _⟩ := rowR_len hl
  have HL := Lib.hid e0
  clear e0
  go_enter Try.func45, Try.ntmps45
  go_wp2_with fail
  go_loopw [9] (fun i wr => ∃ j : Nat, j ≤ n ∧ i = .int .i64 j ∧ Below w.heap.size w wr ∧ ∀ h ∈ l.take j, HdOk h) (fun i _ => n - (intOf i).toNat)
  case atStart => exact ⟨0, by omega, rfl, (belx), all_zero⟩
  case round =>
    obtain ⟨j, hj, rfl, hB, hG⟩ := hrel
    have HG := Lib.hid hG
    clear hG
    by_cases hlt : j < n
    · obtain ⟨a, b', off, es, hl2, rfl, hb, hes, hR⟩ := rowR_at (K := 3) hl hlt rfl
      have HA := Lib.hid hl2
      clear hl2
      obtain ⟨A2, n2, c2, rfl, -, -, -, -, -, -⟩ := openHeld hR
      have e0 : wr.cell? ⟨b', off + j * 3, none⟩ = some (.int .i64 a.1) := cell_at hB hb (hes 0 (by omega))
      have e1 : wr.cell? ⟨b', off + j * 3 + 1, none⟩ = some (.int .i64 a.2.1) := cell_at hB hb (hes 1 (by omega))
      have e2 : wr.cell? ⟨b', off + j * 3 + 2, none⟩ = some (.slice A2 n2 c2) := cell_at hB hb (hes 2 (by omega))
      clear hes
      go_wp2_with fail
      first | (rw [show ∀ cs w, Sem.run Try.prog (callFunc 15 #[Value.agg cs]) w = .ok (.enter 15 #[Value.agg cs]) w from fun _ _ => rfl, Oper.upon_enter]) | skip
      refine (i_HeldOkR (tHeld.reach hR ?hB)).mono ?_
      case hB => exact bel_trans (a := w) hB (belx)
      rintro e w1 ⟨rfl, hb1⟩
      have hB1 : Below w.heap.size w w1 := bel_trans (belx) hb1
      by_cases ha : HdOk a
      · rw [decide_eq_true ha]
        have HN := Lib.hid ha
        clear ha
        go_wp2
        go_roundw
        case rel => exact ⟨j + 1, by omega, by go_num, hB1, all_sn HG.out HA.out HN.out⟩
        case measure => simp [intOf]; omega
      · rw [decide_eq_false ha]
        have HR := Lib.hid (show (l.all fun h => decide (HdOk h)) = false from List.all_eq_false.2 ⟨a, mem_at HA.out, by simpa using ha⟩)
        clear ha
        go_wp2
        go_ret
        exact ⟨ret_bool HR.out.symm, hB1⟩
    · obtain rfl : n = j := by omega
      have HR := Lib.hid (show (l.all fun h => decide (HdOk h)) = true from List.all_eq_true.2 fun h hh => decide_eq_true (all_end HG.out (Nat.le_of_eq HL.out) h hh))
      go_wp2
      go_ret
      exact ⟨ret_bool HR.out.symm, hB⟩
theorem i_everyFOk {w : World} {B n c : Nat} {A : Option Addr} {l : List Int} (hl : Ints .i64 w B A n l) (hn : n ≤ 17592186043904) :
    Calls Try.prog 46 #[.slice A n c, .func (.func 39) #[] #[]] w fun e w' => e = .returned (.bool (l.all fun x => decide (Ok x))) ∧ w = w' := by
  have HL := Lib.hid hl.1
  go_enter Try.func46, Try.ntmps46
  go_wp2_with fail
  go_loop [9] (fun i => ∃ j : Nat, j ≤ n ∧ i = .int .i64 j ∧ ∀ x ∈ l.take j, Ok x) (fun i => n - (intOf i).toNat)
  case atStart => exact ⟨0, by omega, rfl, all_zero⟩
  case round =>
    obtain ⟨j, hj, rfl, hG⟩ := hrel
    have HG := Lib.hid hG
    clear hG
    by_cases hlt : j < n
    · obtain ⟨b, off, rfl, hb, hcell, hwf⟩ := hl.at_ hlt
      have HA := Lib.hid (get_at HL.out hlt)
      obtain ⟨y, hy⟩ : ∃ y, l.getD j 0 = y := ⟨_, rfl⟩
      rw [hy] at hcell HA
      clear hy hwf
      have q2 : (j : Int) < (n : Int) := by omega
      by_cases ha : Ok y
      · have HN := Lib.hid ha
        go_wp2_with fail
        first | (rw [show ∀ (x : Int) w, Sem.run Try.prog (callFunc 39 #[Value.int .i64 x]) w = .ok (.enter 39 #[Value.int .i64 x]) w from fun _ _ => rfl, Oper.upon_enter]) | skip
        refine (i_FOk_t _ _ ha).mono ?_
        rintro e w' ⟨rfl, rfl⟩
        clear ha
        go_wp2
        go_round
        case rel => exact ⟨j + 1, by omega, by go_num, all_sn HG.out HA.out HN.out⟩
        case measure => simp [intOf]; omega
      · have HR := Lib.hid (show (l.all fun x => decide (Ok x)) = false from List.all_eq_false.2 ⟨y, mem_at HA.out, by simpa using ha⟩)
        go_wp2_with fail
        first | (rw [show ∀ (x : Int) w, Sem.run Try.prog (callFunc 39 #[Value.int .i64 x]) w = .ok (.enter 39 #[Value.int .i64 x]) w from fun _ _ => rfl, Oper.upon_enter]) | skip
        refine (i_FOk_f _ _ ha).mono ?_
        rintro e w' ⟨rfl, rfl⟩
        clear ha
        go_wp2
        go_ret
        exact ⟨ret_bool HR.out.symm, rfl⟩
    · obtain rfl : n = j := by omega
      have HR := Lib.hid (show (l.all fun x => decide (Ok x)) = true from List.all_eq_true.2 fun h hh => decide_eq_true (all_end HG.out (Nat.le_of_eq HL.out) h hh))
      go_wp2
      go_ret
      exact ⟨ret_bool HR.out.symm, rfl⟩
theorem i_tags (A0 A1 : Option Addr) (n0 c0 n1 c1 : Nat) (w : World) : Calls Try.prog 47 #[.agg #[.slice A0 n0 c0, .slice A1 n1 c1]] w fun e w' => e = .returned (.slice A1 n1 c1) ∧ Below w.heap.size w w' := by
  go_enter Try.func47, Try.ntmps47
  go_wp2
  go_ret
  exact ⟨rfl, (belx)⟩
set_option maxHeartbeats 2000000 in
theorem i_PoolOkN {w : World} {A0 A1 : Option Addr} {n0 c0 n1 c1 : Nat} {r0 : List DHeld} {l1 : List Int} (b : Bool) (T : PlOk (r0, l1) → b = true) (F : ¬ PlOk (r0, l1) → b = false)
    (h0 : tHeld.row.R w w.heap.size [.slice A0 n0 c0] r0) (h1 : tIs.R w w.heap.size [.slice A1 n1 c1] l1) :
    Calls Try.prog 14 #[.agg #[.slice A0 n0 c0, .slice A1 n1 c1]] w fun e w' => e = .returned (.bool b) ∧ Below w.heap.size w w' := by
  obtain ⟨e0, hnc0, hcm0⟩ := rowR_len h0
  have hl1 := (slR_ints h1).1
  have hcc := (slR_ints h1).2
  have E0 := Lib.hid e0
  have E1 := Lib.hid hl1.1
  clear e0 h1
  by_cases g0 : n0 ≤ 12
  rotate_left
  · obtain rfl := F (fun h => by have := h.1.1; have := E0.out; dsimp only at *; omega)
    have q : ¬ (n0 : Int) ≤ 12 := by omega
    clear T F
    go_enter Try.func14, Try.ntmps14
    go_wp2
    go_ret
    exact ⟨rfl, (belx)⟩
  have q0 : (n0 : Int) ≤ 12 := by omega
  by_cases g1 : n1 ≤ 60
  rotate_left
  · obtain rfl := F (fun h => by have := h.1.2; have := E1.out; dsimp only at *; omega)
    have q : ¬ (n1 : Int) ≤ 60 := by omega
    clear T F
    go_enter Try.func14, Try.ntmps14
    go_wp2
    go_ret
    exact ⟨rfl, (belx)⟩
  have q1 : (n1 : Int) ≤ 60 := by omega
  by_cases a0 : ∀ h ∈ r0, HdOk h
  rotate_left
  · obtain rfl := F (fun h => a0 h.2.1)
    have HA0 := Lib.hid (show (r0.all fun h => decide (HdOk h)) = false from Bool.eq_false_iff.2 fun h => a0 fun x hx => of_decide_eq_true (List.all_eq_true.1 h x hx))
    clear T F a0
    go_enter Try.func14, Try.ntmps14
    go_wp2_with fail
    refine (i_everyHeld (tHeld.row.reach h0 ?hB) (by omega)).mono ?_
    case hB => exact (belx)
    rintro e w1 ⟨rfl, hb1⟩
    rw [HA0.out]
    have X1 : Box w1 w.heap.size 26 #[.slice A0 n0 c0, .slice A1 n1 c1] := (Box.new _ _ _).below hb1 (by simp)
    have k0 : w1.cell? ⟨w.heap.size, 0, none⟩ = some (.slice A0 n0 c0) := X1.cell 0
    have k1 : w1.cell? ⟨w.heap.size, 1, none⟩ = some (.slice A1 n1 c1) := X1.cell 1
    have hB1 : Below w.heap.size w w1 := bel_trans (belx) hb1
    go_wp2
    go_ret
    exact ⟨rfl, hB1⟩
  have HA0 := Lib.hid (show (r0.all fun h => decide (HdOk h)) = true from List.all_eq_true.2 fun x hx => decide_eq_true (a0 x hx))
  by_cases a1 : ∀ x ∈ l1, Ok x
  rotate_left
  · obtain rfl := F (fun h => a1 h.2.2.1)
    have HA1 := Lib.hid (show (l1.all fun x => decide (Ok x)) = false from Bool.eq_false_iff.2 fun h => a1 fun x hx => of_decide_eq_true (List.all_eq_true.1 h x hx))
    clear T F a0 a1
    go_enter Try.func14, Try.ntmps14
    go_wp2_with fail
    refine (i_everyHeld (tHeld.row.reach h0 ?hB) (by omega)).mono ?_
    case hB => exact (belx)
    rintro e w1 ⟨rfl, hb1⟩
    rw [HA0.out]
    have X1 : Box w1 w.heap.size 26 #[.slice A0 n0 c0, .slice A1 n1 c1] := (Box.new _ _ _).below hb1 (by simp)
    have k0 : w1.cell? ⟨w.heap.size, 0, none⟩ = some (.slice A0 n0 c0) := X1.cell 0
    have k1 : w1.cell? ⟨w.heap.size, 1, none⟩ = some (.slice A1 n1 c1) := X1.cell 1
    have hB1 : Below w.heap.size w w1 := bel_trans (belx) hb1
    go_wp2_with fail
    refine (i_everyFOk (reach hl1 hB1) (by omega)).mono ?_
    rintro e w2 ⟨rfl, rfl⟩
    rw [HA1.out]
    go_wp2
    go_ret
    exact ⟨rfl, hB1⟩
  have HA1 := Lib.hid (show (l1.all fun x => decide (Ok x)) = true from List.all_eq_true.2 fun x hx => decide_eq_true (a1 x hx))
  by_cases a2 : l1.Nodup
  rotate_left
  · obtain rfl := F (fun h => a2 h.2.2.2)
    have HA2 := Lib.hid (decide_eq_false a2)
    clear T F a0 a1 a2
    go_enter Try.func14, Try.ntmps14
    go_wp2_with fail
    refine (i_everyHeld (tHeld.row.reach h0 ?hB) (by omega)).mono ?_
    case hB => exact (belx)
    rintro e w1 ⟨rfl, hb1⟩
    rw [HA0.out]
    have X1 : Box w1 w.heap.size 26 #[.slice A0 n0 c0, .slice A1 n1 c1] := (Box.new _ _ _).below hb1 (by simp)
    have k0 : w1.cell? ⟨w.heap.size, 0, none⟩ = some (.slice A0 n0 c0) := X1.cell 0
    have k1 : w1.cell? ⟨w.heap.size, 1, none⟩ = some (.slice A1 n1 c1) := X1.cell 1
    have hB1 : Below w.heap.size w w1 := bel_trans (belx) hb1
    go_wp2_with fail
    refine (i_everyFOk (reach hl1 hB1) (by omega)).mono ?_
    rintro e w2 ⟨rfl, rfl⟩
    rw [HA1.out]
    go_wp2_with fail
    refine (i_tags _ _ _ _ _ _ _).mono ?_
    rintro e w2 ⟨rfl, hb2⟩
    have hB2 : Below w.heap.size w w2 := bel_trans hB1 hb2
    go_wp2_with fail
    refine (i_isDistinct (reach hl1 hB2) (by omega) (by omega) (by omega)).mono ?_
    rintro e w3 ⟨rfl, rfl⟩
    rw [HA2.out]
    go_wp2
    go_ret
    exact ⟨rfl, hB2⟩
  have HA2 := Lib.hid (decide_eq_true a2)
  obtain rfl := T ⟨⟨by have := E0.out; dsimp only; omega, by have := E1.out; dsimp only; omega⟩, a0, a1, a2⟩
  clear T F a0 a1 a2
  go_enter Try.func14, Try.ntmps14
  go_wp2_with fail
  refine (i_everyHeld (tHeld.row.reach h0 ?hB) (by omega)).mono ?_
  case hB => exact (belx)
  rintro e w1 ⟨rfl, hb1⟩
  rw [HA0.out]
  have X1 : Box w1 w.heap.size 26 #[.slice A0 n0 c0, .slice A1 n1 c1] := (Box.new _ _ _).below hb1 (by simp)
  have k0 : w1.cell? ⟨w.heap.size, 0, none⟩ = some (.slice A0 n0 c0) := X1.cell 0
  have k1 : w1.cell? ⟨w.heap.size, 1, none⟩ = some (.slice A1 n1 c1) := X1.cell 1
  have hB1 : Below w.heap.size w w1 := bel_trans (belx) hb1
  go_wp2_with fail
  refine (i_everyFOk (reach hl1 hB1) (by omega)).mono ?_
  rintro e w2 ⟨rfl, rfl⟩
  rw [HA1.out]
  go_wp2_with fail
  refine (i_tags _ _ _ _ _ _ _).mono ?_
  rintro e w2 ⟨rfl, hb2⟩
  have hB2 : Below w.heap.size w w2 := bel_trans hB1 hb2
  go_wp2_with fail
  refine (i_isDistinct (reach hl1 hB2) (by omega) (by omega) (by omega)).mono ?_
  rintro e w3 ⟨rfl, rfl⟩
  rw [HA2.out]
  go_wp2
  go_ret
  exact ⟨rfl, hB2⟩
theorem i_PoolOk {w : World} {cs : List Value} {p : DPool} (h : tPool.R w w.heap.size cs p) (hz : szPool p ≤ 1048576) :
    Calls Try.prog 14 #[.agg cs.toArray] w fun e w' => e = .returned (.bool (decide (PlOk p))) ∧ Below w.heap.size w w' := by
  obtain ⟨A0, n0, c0, A1, n1, c1, rfl, -, -, -, hr0, -, -, -, hr1⟩ := openPool h
  exact i_PoolOkN _ (fun hh => decide_eq_true hh) (fun hh => decide_eq_false hh) hr0 hr1
end Go.Proofs.Ytblcfncjghkegaa
namespace Go.Proofs.Ytblcfncjghkegaa
set_option linter.unusedVariables false
open Fld
def plZ : DPool := ([], [])
/-! ### Forget -/
/-! ### Expire -/
/-! ### Admit -/
/-- 0: the tag is new and there is room; -1: it was seen; -2: no room. -/
def recN (l : List Int) (tag : Int) : Int := if tag ∈ l then -1 else if l.length = 60 then -2 else 0
def AdOk (p : DPool) (h : DHeld) (tag : Int) : Prop := PlOk p ∧ HdOk h ∧ Ok tag
instance (p : DPool) (h : DHeld) (tag : Int) : Decidable (AdOk p h tag) := by unfold AdOk; infer_instance
def fAdmN (p : DPool) (h : DHeld) (tag : Int) : Int := if AdOk p h tag then (if p.1.length = 12 then -2 else recN p.2 tag) else -3
def fAdm (p : DPool) (h : DHeld) (tag : Int) : DPool := if AdOk p h tag then (if p.1.length = 12 ∨ ¬ recN p.2 tag = 0 then p else (p.1 ++ [h], p.2 ++ [tag])) else plZ
theorem recN_le (l : List Int) (tag : Int) : recN l tag = 0 ∨ recN l tag = -1 ∨ recN l tag = -2 := by unfold recN; split; omega; split <;> omega
theorem recN_seen {l : List Int} {tag : Int} (h : tag ∈ l) : recN l tag = -1 := if_pos h
theorem recN_full {l : List Int} {tag : Int} (h : ¬ tag ∈ l) (h2 : l.length = 60) : recN l tag = -2 := by unfold recN; rw [if_neg h, if_pos h2]
theorem recN_ok {l : List Int} {tag : Int} (h : ¬ tag ∈ l) (h2 : ¬ l.length = 60) : recN l tag = 0 := by unfold recN; rw [if_neg h, if_neg h2]
theorem fAdm_f {p : DPool} {h : DHeld} {tag : Int} (hn : ¬ AdOk p h tag) : fAdm p h tag = plZ := if_neg hn
theorem fAdmN_f {p : DPool} {h : DHeld} {tag : Int} (hn : ¬ AdOk p h tag) : fAdmN p h tag = -3 := if_neg hn
theorem fAdm_no {p : DPool} {h : DHeld} {tag : Int} (ho : AdOk p h tag) (h2 : ¬ recN p.2 tag = 0) : fAdm p h tag = p := by unfold fAdm; rw [if_pos ho, if_pos (.inr h2)]
theorem fAdmN_no {p : DPool} {h : DHeld} {tag : Int} (ho : AdOk p h tag) (h2 : ¬ p.1.length = 12) : fAdmN p h tag = recN p.2 tag := by unfold fAdmN; rw [if_pos ho, if_neg h2]
theorem fAdm_ok {p : DPool} {h : DHeld} {tag : Int} (ho : AdOk p h tag) (h1 : ¬ p.1.length = 12) (h2 : recN p.2 tag = 0) : fAdm p h tag = (p.1 ++ [h], p.2 ++ [tag]) := by
  unfold fAdm; rw [if_pos ho, if_neg (by rintro (x | x); exact h1 x; exact x h2)]
theorem rsz_app {α : Type} {s : α → Nat} (l l' : List α) : rsz s (l ++ l') = rsz s l + rsz s l' := by unfold rsz; rw [rsum_app, List.length_append]; omega
end Go.Proofs.Ytblcfncjghkegaa
namespace Go.Proofs.Ytblcfncjghkegaa
set_option maxRecDepth 100000
set_option linter.unusedVariables false
set_option linter.unusedSimpArgs false
open Go.ChangeShapes Go.WideShapes Go.ChangeAt Go.RowKit
open Fld
theorem gb_over {a b c : World} {g : Nat} {row : Option Nat} (h : a.grownBy b (some g)) (k : b.grownBy c row) (hr : ∀ r, row = some r → a.heap.size ≤ r) : a.grownBy c (some g) :=
  ⟨k.os.trans h.os, k.tape.trans h.tape, k.output.trans h.output, Nat.le_trans h.size k.size, fun i hi hn => (k.block i (Nat.lt_of_lt_of_le hi h.size) (fun e => by have := hr i e.symm; omega)).trans (h.block i hi hn)⟩
/-- What a draw leaves alone: all but the cursor's block. -/
theorem own_draw {K : IntKind} {e : TypeId} {w w' : World} {base g : Nat} {v : Value} {l : List Int} (h : Own K e w base v l) (hg : w.grownBy w' (some g)) (hb : g < base) : Own K e w' base v l :=
  h.kept hg (.inr (fun e => by have := (h.block e).1; omega))
theorem gb_new {a w w' : World} {g : Nat} {o : Obj} {row : Option Nat} (h : a.grownBy w (some g)) (k : (w.alloc o).grownBy w' row) (hr : ∀ r, row = some r → a.heap.size ≤ r) : a.grownBy w' (some g) := gb_over (gb_alloc h o) k hr
theorem curs_new {w w' : World} {g n c B : Nat} {A : Option Addr} {l : List Int} {o : Obj} {row : Option Nat} (h : Curs w g A n c l) (k : (w.alloc o).grownBy w' row) (hB : g < B) (hBw : B ≤ w.heap.size) (hr : ∀ r, row = some r → B ≤ r) : Curs w' g A n c l :=
  (h.alloc o).below (B := B) ((Below.refl _ _).grown k (by simp; omega) (fun b hb => hr b hb)) hB
theorem info_c3 : (Try.prog.info? 3).map (fun i => (i.zero, i.size, i.bytes)) = some (some (.int .i64 0), 1, 8) := by kernel_rfl
theorem u8_modT (d : Int) : IntKind.u8.wrap d = d % 256 := by
  unfold IntKind.wrap IntKind.bits IntKind.signed; simp
theorem k_mul3 (a : Int) (w : World) (h1 : 0 ≤ a) (h2 : a ≤ 2147484000) :
    Calls Try.prog 104 #[.int .i64 a, .int .i64 48271] w fun e w' => ∃ y : Int, e = .returned (.int .i64 y) ∧ 0 ≤ y ∧ y < 2147483647 ∧ w = w' := by
  go_enter Try.func104, Try.ntmps104
  go_wp2
  go_ret
  exact ⟨_, rfl, by omega, by omega, rfl⟩
set_option maxHeartbeats 1000000 in
theorem k_someG {w : World} {g n c : Nat} {A : Option Addr} {l : List Int} (m : Int) (h : Curs w g A n c l) (h0 : 0 ≤ m) (h1 : m ≤ 200) :
    Calls Try.prog 58 #[.pointer (some ⟨g, 0, none⟩), .int .i64 m] w fun e w' => ∃ v l', e = .returned v ∧ Own .u8 5 w' w.heap.size v l' ∧ (l'.length : Int) ≤ m ∧ Curs w' g A n c l ∧ w.grownBy w' (some g) := by
  obtain ⟨i0, hi0, hz0, hz1, hz2⟩ := info_parts info_by
  have hgs := h.size
  go_enter Try.func58, Try.ntmps58
  go_wp2_with (go_at_call 38; refine (k_Below w _ h (gb_self w g) (by omega) (by omega)).mono ?_; rintro e w1 ⟨x, rfl, hx0, hx1, hC1, hG1⟩; obtain ⟨p, rfl⟩ := Int.eq_ofNat_of_zero_le hx0)
  go_loopw [5, 7] (fun v i wr => ∃ (k : Nat) (l' : List Int), k ≤ p ∧ i = .int .i64 k ∧ l'.length = k ∧ Own .u8 5 wr w.heap.size v l' ∧ Curs wr g A n c l ∧ w.grownBy wr (some g)) (fun _ i _ => p - (intOf i).toNat)
  case atStart => exact ⟨0, [], by omega, rfl, rfl, Own.nil _ _ _ _, hC1, hG1⟩
  case round =>
    obtain ⟨k, l', hk, rfl, hlen, hO, hC, hG⟩ := hrel
    have HL := Lib.hid hlen
    have zw := hG.size
    clear hlen
    by_cases hlt : k < p
    · go_wp2_with (first
        | (go_at_call 76; refine (k_Byte hC).mono ?_; rintro e w2 ⟨y, rfl, hy0, hy1, hC2, hG2⟩; have hO2 := own_draw hO hG2 hgs; have zw2 := hG2.size)
        | (at_builtin; refine wpList_app _ rfl (.tmp 17) (.tmp 21) _ rfl w.heap.size 5 i0 _ 1 1 Try.underlying22 hi0 hz0 hz1 hz2 rfl (by omega) _ _ _ rfl (hO2.1.alloc _) _ 1 1 [.int .u8 y] rfl (Src.one _ _ _) (one_int _ _) (by simp only [maxLen]; rw [HL.out]; omega) (by rw [HL.out]; omega) (by simp; omega) ?_; intro v3 w3 hown hgr hat))
      have hGw := gb_trans hG hG2
      have hO3 := own_sn hO2 hown rfl (wf8 (by omega))
      go_roundw
      case rel => exact ⟨k + 1, l' ++ [y], by omega, by go_num, by rw [List.length_append, HL.out]; rfl, hO3, curs_new hC2 hgr hgs (by omega) (fun r hr => (hO2.block hr).1), gb_new hGw hgr (fun r hr => (hO2.block hr).1)⟩
      case measure => simp [intOf]; omega
    · obtain rfl : k = p := by omega
      go_wp2
      go_ret
      exact ⟨_, _, rfl, hO, by rw [HL.out]; omega, hC, hG⟩
set_option maxHeartbeats 1000000 in
theorem k_pad3 {w : World} {g n c : Nat} {A : Option Addr} {l : List Int} (h : Curs w g A n c l) :
    Calls Try.prog 87 #[.pointer (some ⟨g, 0, none⟩)] w fun e w' => ∃ v l', e = .returned v ∧ Own .u8 5 w' w.heap.size v l' ∧ l'.length = 80 ∧ Curs w' g A n c l ∧ w.grownBy w' (some g) := by
  obtain ⟨i0, hi0, hz0, hz1, hz2⟩ := info_parts info_by
  have hgs := h.size
  go_enter Try.func87, Try.ntmps87
  go_wp2_with (go_at_call 38; refine (k_Below w _ h (gb_self w g) (by omega) (by omega)).mono ?_; rintro e w1 ⟨x, rfl, hx0, hx1, hC1, hG1⟩)
  go_loopw [3, 4, 5] (fun v xv i wr => ∃ (k : Nat) (l' : List Int) (x : Int), k ≤ 80 ∧ i = .int .i64 k ∧ l'.length = k ∧ Own .u8 5 wr w.heap.size v l' ∧ Curs wr g A n c l ∧ w.grownBy wr (some g) ∧ xv = .int .i64 x ∧ 0 ≤ x ∧ x < 2147483647) (fun _ _ i _ => 80 - (intOf i).toNat)
  case atStart => exact ⟨0, [], _, by omega, rfl, rfl, Own.nil _ _ _ _, hC1, hG1, rfl, by omega, by omega⟩
  case round =>
    obtain ⟨k, l', x, hk, rfl, hlen, hO, hC, hG, rfl, hx0, hx1⟩ := hrel
    have HL := Lib.hid hlen
    have zw := hG.size
    clear hlen
    by_cases hlt : k < 80
    · go_wp2_with (first
        | (go_at_call 104; refine (k_mul3 _ _ (by omega) (by omega)).mono ?_; rintro e w2 ⟨y, rfl, hy0, hy1, rfl⟩; have q1 : y.tdiv 64 = y / 64 := Int.tdiv_eq_ediv_of_nonneg hy0; have q2 : IntKind.i64.wrap (y / 64) = y / 64 := IntWalk.i64_in _ (by omega))
        | (at_builtin; refine wpList_app _ rfl (.tmp 17) (.tmp 21) _ rfl w.heap.size 5 i0 _ 1 1 Try.underlying22 hi0 hz0 hz1 hz2 rfl (by omega) _ _ _ rfl (hO.1.alloc _) _ 1 1 [.int .u8 (IntKind.u8.wrap (y / 64))] rfl (Src.one _ _ _) (one_int _ _) (by simp only [maxLen]; rw [HL.out]; omega) (by rw [HL.out]; omega) (by simp; omega) ?_; intro v3 w3 hown hgr hat))
      have hO3 := own_sn hO hown rfl (wf8 (by rw [u8_modT]; omega))
      go_roundw
      case rel => exact ⟨k + 1, l' ++ [IntKind.u8.wrap (y / 64)], y, by omega, by go_num, by rw [List.length_append, HL.out]; rfl, hO3, curs_new hC hgr hgs (by omega) (fun r hr => (hO.block hr).1), gb_new hG hgr (fun r hr => (hO.block hr).1), rfl, hy0, hy1⟩
      case measure => simp [intOf]; omega
    · obtain rfl : k = 80 := by omega
      go_wp2
      go_ret
      exact ⟨_, _, rfl, hO, HL.out, hC, hG⟩
theorem apart_sy3 {a b : Option Nat} (h : a = none ∨ a ≠ b) : b = none ∨ b ≠ a := by
  rcases h with rfl | h
  · cases b <;> simp
  · exact .inr (Ne.symm h)
end Go.Proofs.Ytblcfncjghkegaa
namespace Go.Proofs.Ytblcfncjghkegaa
set_option maxRecDepth 100000
set_option linter.unusedVariables false
set_option linter.unusedSimpArgs false
open Go.ChangeShapes Go.WideShapes Go.ChangeAt Go.RowKit
open Fld
theorem empty9 (w : World) (t : TypeId) : (w.alloc (.cells #[] t)).ownsRow w.heap.size t 1 (.slice (some ⟨w.heap.size, 0, none⟩) 0 0) 0 [] :=
  ⟨rfl, .inr ⟨w.heap.size, 0, #[], rfl, Nat.le_refl _, heap_alloc_new w _, Nat.le_refl _, by simp only [maxLen]; omega, rfl, rfl⟩⟩
theorem Ty.far3 {α : Type} {t : Ty α} {w : World} {cs : List Value} {a : α} {F : List Nat} (h : t.O w cs a F) {p : Addr} (hp : p.block ∉ F) (u : Value) : t.O (w.setCell p u) cs a F :=
  t.kept h fun f hf => Below.heap_setCell w p u f (by rintro rfl; exact hp hf)
theorem one_held (x0 x1 : Int) (A : Option Addr) (n c : Nat) : ∀ u ∈ [Value.int .i64 x0, .int .i64 x1, .slice A n c], u.oneCell' = true := by
  intro u hu
  simp only [List.mem_cons, List.not_mem_nil, or_false] at hu
  rcases hu with rfl | rfl | rfl <;> rfl
theorem i_copiedB5 {w : World} {n c : Nat} {A : Option Addr} {l : List Int} (hl : Ints .u8 w w.heap.size A n l) (hn : n ≤ 1048576) :
    Calls Try.prog 102 #[.slice A n c] w fun e w' => ∃ v, e = .returned v ∧ Own .u8 5 w' w.heap.size v l ∧ Below w.heap.size w w' := by
  obtain ⟨i0, hi0, hz0, hz1, hz2⟩ := info_parts info_cb
  go_enter Try.func102, Try.ntmps102
  go_wp2_with (at_builtin; refine wpList_app _ rfl _ (.tmp 3) _ rfl w.heap.size 5 i0 _ 1 1 Try.underlying22 hi0 hz0 hz1 hz2 rfl (by omega) (.slice none 0 0) 0 [] rfl (World.ownsRow_nil _ _ _ _) _ n c (l.map (Value.int .u8)) rfl (Src.of_ints hl) (one_ints _ _) (by simp only [maxLen]; omega) (by omega) (Nat.le_refl _) ?_; intro v1 w1 hown hgr hat)
  go_ret
  exact ⟨v1, rfl, Own.of (n := 0 + n) (by simpa using hown) hl.2.2, Below.grown (Below.refl _ _) hgr (Nat.le_refl _) fun b hb => by simp [Value.ownBlock] at hb⟩
set_option maxHeartbeats 1000000 in
theorem i_HdCopy {w : World} {A2 : Option Addr} {n2 c2 : Nat} {x0 x1 : Int} {l2 : List Int} (hl : Ints .u8 w w.heap.size A2 n2 l2) (hn : n2 ≤ 1048576) :
    Calls Try.prog 84 #[.agg #[.int .i64 x0, .int .i64 x1, .slice A2 n2 c2]] w fun e w' => ∃ A c F, e = .returned (.agg #[.int .i64 x0, .int .i64 x1, .slice A l2.length c]) ∧ tBy.O w' [.slice A l2.length c] l2 F ∧ New w.heap.size F ∧ Below w.heap.size w w' := by
  go_enter Try.func84, Try.ntmps84
  go_wp2_with fail
  refine (i_copiedB5 (reach hl ?hB) hn).mono ?_
  case hB => exact (belx)
  rintro e w1 ⟨v, rfl, hO, hb1⟩
  obtain ⟨A, c, F, rfl, hO3, hN⟩ := own_slice hO
  clear hO
  have z1 : w.heap.size + 2 ≤ w1.heap.size := by have := hb1.size; simpa using this
  have P1 : Box w1 w.heap.size 30 #[.int .i64 x0, .int .i64 x1, .slice A2 n2 c2] := Box.below ((Box.new w _ _).alloc _) hb1 (by simp; omega)
  have R1 : Box w1 (w.heap.size + 1) 30 #[.int .i64 0, .int .i64 0, .slice none 0 0] := Box.below (by simpa using Box.new (w.alloc _) 30 #[.int .i64 0, .int .i64 0, .slice none 0 0]) hb1 (by simp)
  have hM : New (w.heap.size + 2) F := hN.lower (by simp)
  have hB1 : Below w.heap.size w w1 := bel_trans (belx) hb1
  have p0 := P1.cell 0; have p1 := P1.cell 1; have p2 := P1.cell 2
  have f2 := P1.frozen 2
  have r0 := R1.cell 0; have r1 := R1.cell 1; have r2 := R1.cell 2
  have g0 := R1.frozen 0; have g1 := R1.frozen 1; have g2 := R1.frozen 2
  go_wp2
  have RR := (((R1.far (p := ⟨w.heap.size, 2, none⟩) (by simp) (.slice A l2.length c)).put 0 (.int .i64 x0)).put 1 (.int .i64 x1)).put 2 (.slice A l2.length c)
  have e0 := RR.cell 0; have e1 := RR.cell 1; have e2 := RR.cell 2
  have u := Ty.far (t := tBy) (Ty.far (t := tBy) (Ty.far (t := tBy) (Ty.far (t := tBy) hO3 hM (p := ⟨w.heap.size, 2, none⟩) (by show w.heap.size < _; omega) (.slice A l2.length c)) hM (p := ⟨w.heap.size + 1, 0, none⟩) (by show w.heap.size + 1 < _; omega) (.int .i64 x0)) hM (p := ⟨w.heap.size + 1, 1, none⟩) (by show w.heap.size + 1 < _; omega) (.int .i64 x1)) hM (p := ⟨w.heap.size + 1, 2, none⟩) (by show w.heap.size + 1 < _; omega) (.slice A l2.length c)
  refine bodyPost_ret (v := .agg #[.int .i64 x0, .int .i64 x1, .slice A l2.length c]) (by simp [results, Try.results84, go_sem, e0, e1, e2]) rfl ⟨A, c, F, rfl, u, hM.lower (by omega), ?_⟩
  exact bel_put (bel_put (bel_put (bel_put hB1 (by simp) _) (by simp) _) (by simp) _) (by simp) _
set_option maxHeartbeats 2000000 in
theorem i_eachCopy {w : World} {n c : Nat} {A : Option Addr} {l : List DHeld} (h : tHeld.row.R w w.heap.size [.slice A n c] l) (hz : rsz szHeld l ≤ 1048576) :
    Calls Try.prog 82 #[.slice A n c, .func (.func 84) #[] #[]] w fun e w' => ∃ A' c' F, e = .returned (.slice A' l.length c') ∧ tHeld.row.O w' [.slice A' l.length c'] l F ∧ New w.heap.size F ∧ Below w.heap.size w w' := by
  obtain ⟨i1, hj0, hj1, hj2, hj3⟩ := info_parts info_Held
  obtain ⟨e0, _, _⟩ := rowR_len h
  have hn : n ≤ 1048576 := by have := rsz_le (s := szHeld) l; omega
  have HL := Lib.hid e0
  have HZ := Lib.hid hz
  clear e0 hz
  go_enter Try.func82, Try.ntmps82
  go_wp2_with fail
  go_loopw [5, 10] (fun v i wr => ∃ (j : Nat) (F : List Nat), j ≤ n ∧ i = .int .i64 j ∧ GrowO tHeld 30 wr w.heap.size v (l.take j) F ∧ Below w.heap.size w wr) (fun _ i _ => n - (intOf i).toNat)
  case atStart => exact ⟨0, [], by omega, rfl, GrowO.nil, (belx)⟩
  case round =>
    obtain ⟨j, F, hj, rfl, hG, hB⟩ := hrel
    by_cases hlt : j < n
    · obtain ⟨a, b', off, es, hl2, rfl, hb, hes, hR⟩ := rowR_at (K := 3) h hlt rfl
      have HT := Lib.hid (take_sn hl2)
      have HLN := Lib.hid (show (l.take j).length = j from by rw [List.length_take, HL.out]; omega)
      have hsa : a.2.2.length ≤ 1048576 := by have := rsz_step (s := szHeld) hl2; have := HZ.out; unfold szHeld szCell at *; omega
      clear hl2
      obtain ⟨A2, n2, c2, rfl, hi0', hi1', -, -, -, hr2⟩ := openHeld hR
      have hI2 := (slR_ints hr2).1
      have e0 : wr.cell? ⟨b', off + j * 3, none⟩ = some (.int .i64 a.1) := cell_at hB hb (hes 0 (by omega))
      have e1 : wr.cell? ⟨b', off + j * 3 + 1, none⟩ = some (.int .i64 a.2.1) := cell_at hB hb (hes 1 (by omega))
      have e2 : wr.cell? ⟨b', off + j * 3 + 2, none⟩ = some (.slice A2 n2 c2) := cell_at hB hb (hes 2 (by omega))
      clear hes hR
      have zB := hB.size
      have hIr : Ints .u8 wr wr.heap.size A2 n2 a.2.2 := reach hI2 hB
      have hn2 : n2 ≤ 1048576 := by rw [← hIr.1]; exact hsa
      have hOwn := fun b hb => (GrowO.row hG).choose_spec.1.lt b hb
      have hlt2 := hG.lt
      clear hr2 hI2
      go_wp2_with fail
      first | (rw [show ∀ cs w, Sem.run Try.prog (callFunc 84 #[Value.agg cs]) w = .ok (.enter 84 #[Value.agg cs]) w from fun _ _ => rfl, Oper.upon_enter]) | skip
      refine (i_HdCopy (reach hIr ?hB) hn2).mono ?_
      case hB => exact (belx)
      rintro e w1 ⟨Ad, cd, Fd, rfl, hOd, hNd', hb1⟩
      have hNd : New (wr.heap.size + 1) Fd := hNd'.lower (by simp)
      have hs1 : Below wr.heap.size wr w1 := bel_trans (belx) hb1
      clear hNd'
      go_wp2_with (at_builtin; have hBx : Below wr.heap.size wr (w1.alloc (.cells [.int .i64 a.1, .int .i64 a.2.1, .slice Ad a.2.2.length cd].toArray 30)) := bel_alloc hs1 _; obtain ⟨xs, hrow, hpush⟩ := (hG.below hBx).row; have tz : (Value.agg #[Value.int .i64 0, Value.int .i64 0, Value.slice none 0 0]).cells.size = 3 := (by first | rfl | (simp [Value.cells]; done)); have t0 := one_held a.1 a.2.1 Ad a.2.2.length cd; have t1 : (l.take j).length + 1 ≤ maxLen := (by simp only [maxLen]; have := HLN.out; omega); have t2 : ((l.take j).length + 1) * 40 ≤ 140737488355328 := (by have := HLN.out; omega); have t3 := hBx.size; have hS2 : Src (w1.alloc (.cells [.int .i64 a.1, .int .i64 a.2.1, .slice Ad a.2.2.length cd].toArray 30)) 3 (some ⟨w1.heap.size, 0, none⟩) 1 [.int .i64 a.1, .int .i64 a.2.1, .slice Ad a.2.2.length cd] := Src.of_box w1 30 [.int .i64 a.1, .int .i64 a.2.1, .slice Ad a.2.2.length cd] (K := 3) rfl; refine wpList_app _ rfl (.tmp 14) (.tmp 18) _ rfl w.heap.size 30 i1 _ 3 40 Try.underlying23 hj0 hj1 hj2 hj3 tz (by omega) u5 _ xs rfl hrow _ 1 1 [.int .i64 a.1, .int .i64 a.2.1, .slice Ad a.2.2.length cd] rfl hS2 t0 t1 t2 (by omega) ?_; intro v2 w2 hown2 hgr2 hat2; have hOx : tBy.O (w1.alloc (.cells [.int .i64 a.1, .int .i64 a.2.1, .slice Ad a.2.2.length cd].toArray 30)) [.slice Ad a.2.2.length cd] a.2.2 Fd := Ty.below (t := tBy) hOd (belx); obtain ⟨Fx, hOel, ex⟩ := makeOHeld (p := a) hi0' hi1' hOx; subst ex; have hNel : New w.heap.size Fx := hNd.lower (by omega); have hdis : ∀ f ∈ Fx, f ∉ F := (fun f h1 h2 => by have := hNd.2 _ h1; have := hlt2 f h2; omega); have hod : ∀ b, u5.ownBlock = some b → b ∉ Fx := (fun b hb hx => by have := (hOwn b hb).2; have := hNd.2 _ hx; omega); have hfin := hpush w2 v2 a _ Fx hOel hNel hdis hod hown2 hgr2 hat2; have hBf : Below w.heap.size w w2 := Below.grown (w := (w1.alloc (.cells [.int .i64 a.1, .int .i64 a.2.1, .slice Ad a.2.2.length cd].toArray 30))) (bel_trans hB hBx) hgr2 (by have := hBx.size; omega) (fun b hb => (hOwn b hb).1))
      go_roundw
      case rel => exact ⟨j + 1, _, by omega, by go_num, by rw [HT.out]; exact hfin, hBf⟩
      case measure => simp [intOf]; omega
    · obtain rfl : n = j := by omega
      have HA := Lib.hid (show l.take n = l from List.take_of_length_le (Nat.le_of_eq HL.out))
      rw [HA.out] at hG
      go_wp2
      go_ret
      obtain ⟨A3, c3, F3, rfl, hO3, hN3⟩ := hG.done
      exact ⟨A3, c3, F3, rfl, hO3, hN3, hB⟩
end Go.Proofs.Ytblcfncjghkegaa
namespace Go.Proofs.Ytblcfncjghkegaa
set_option maxRecDepth 100000
set_option linter.unusedVariables false
set_option linter.unusedSimpArgs false
open Go.ChangeShapes Go.WideShapes Go.ChangeAt Go.RowKit
open Fld
theorem slO_own {K : IntKind} {w : World} {v : Value} {l : List Int} {F : List Nat} (h : (tSl K).O w [v] l F) : ∀ f ∈ F, v.ownBlock = some f := by
  intro f hf
  rcases h with ⟨A, c, _, _, _, rfl⟩ | ⟨g, off, c, cur, t, h1, h2, h3, h4, h5, h6, h7, rfl⟩
  · exact absurd hf (by simp)
  · injection h1 with h1 _
    rw [List.mem_singleton] at hf
    rw [h1, hf]; rfl
/-- Two stores into a result's block. -/
theorem put2_Pool {w : World} {g : Nat} {v0 v1 : Value} {r0 : List DHeld} {l1 : List Int} {F0 F1 : List Nat} (h0 : tHeld.row.O w [v0] r0 F0) (h1 : tIs.O w [v1] l1 F1) (hg : g ∉ F0 ++ F1) :
    tPool.O ((w.setCell ⟨g, 0, none⟩ v0).setCell ⟨g, 1, none⟩ v1) [v0, v1] (r0, l1) (F0 ++ F1) := by
  have g0 : g ∉ F0 := fun h => hg (List.mem_append.2 (.inl h))
  have g1 : g ∉ F1 := fun h => hg (List.mem_append.2 (.inr h))
  obtain ⟨F, hF, rfl⟩ := makeOPool (p := (r0, l1)) (Ty.far3 (t := tHeld.row) (Ty.far3 (t := tHeld.row) h0 (p := ⟨g, 0, none⟩) g0 v0) (p := ⟨g, 1, none⟩) g0 v1) (Ty.far3 (t := tIs) (Ty.far3 (t := tIs) h1 (p := ⟨g, 0, none⟩) g1 v0) (p := ⟨g, 1, none⟩) g1 v1)
  exact hF
/-- What an append of integers leaves of another's blocks. -/
theorem own_past {α : Type} {t : Ty α} {w w' : World} {cs : List Value} {a : α} {F : List Nat} {row : Option Nat} (h : t.O w cs a F) (hg : w.grownBy w' row) (hr : ∀ b, row = some b → b ∉ F) : t.O w' cs a F :=
  t.kept h fun f hf => hg.block f (t.lt h f hf) fun e => hr f e.symm hf
theorem new_pair {B : Nat} {F G : List Nat} (hF : New B F) (hG : New B G) (hd : ∀ f ∈ F, f ∉ G) : New B (F ++ G) :=
  ⟨List.nodup_append.2 ⟨hF.1, hG.1, fun x hx y hy e => hd x hx (e ▸ hy)⟩, fun f hf => by
    rcases List.mem_append.1 hf with h | h
    · exact hF.2 f h
    · exact hG.2 f h⟩
theorem i_copiedI5 {w : World} {n c : Nat} {A : Option Addr} {l : List Int} (hl : Ints .i64 w w.heap.size A n l) (hn : n ≤ 1048576) :
    Calls Try.prog 61 #[.slice A n c] w fun e w' => ∃ v, e = .returned v ∧ Own .i64 3 w' w.heap.size v l ∧ Below w.heap.size w w' := by
  obtain ⟨i0, hi0, hz0, hz1, hz2⟩ := info_parts info_ci
  go_enter Try.func61, Try.ntmps61
  go_wp2_with (at_builtin; refine wpList_app _ rfl _ (.tmp 3) _ rfl w.heap.size 3 i0 _ 1 8 Try.underlying24 hi0 hz0 hz1 hz2 rfl (by omega) (.slice none 0 0) 0 [] rfl (World.ownsRow_nil _ _ _ _) _ n c (l.map (Value.int .i64)) rfl (Src.of_ints hl) (one_ints _ _) (by simp only [maxLen]; omega) (by omega) (Nat.le_refl _) ?_; intro v1 w1 hown hgr hat)
  go_ret
  exact ⟨v1, rfl, Own.of (n := 0 + n) (by simpa using hown) hl.2.2, Below.grown (Below.refl _ _) hgr (Nat.le_refl _) fun b hb => by simp [Value.ownBlock] at hb⟩
set_option maxHeartbeats 2000000 in
theorem i_PlCopy {w : World} {A0 A1 : Option Addr} {n0 c0 n1 c1 : Nat} {r0 : List DHeld} {l1 : List Int} (h0 : tHeld.row.R w w.heap.size [.slice A0 n0 c0] r0) (h1 : tIs.R w w.heap.size [.slice A1 n1 c1] l1) (hz : rsz szHeld r0 + l1.length ≤ 1048576) :
    Calls Try.prog 40 #[.agg #[.slice A0 n0 c0, .slice A1 n1 c1]] w fun e w' => ∃ A0' c0' A1' c1' F, e = .returned (.agg #[.slice A0' r0.length c0', .slice A1' l1.length c1']) ∧ tPool.O w' [.slice A0' r0.length c0', .slice A1' l1.length c1'] (r0, l1) F ∧ New w.heap.size F ∧ Below w.heap.size w w' := by
  have hI1 := (slR_ints h1).1
  have hn1 : n1 ≤ 1048576 := by have := hI1.1; omega
  have k0 : ((w.alloc (.cells #[.slice A0 n0 c0, .slice A1 n1 c1] 26)).alloc (.cells #[.slice none 0 0, .slice none 0 0] 26)).cell? ⟨w.heap.size, 0, none⟩ = some (.slice A0 n0 c0) := ((Box.new w _ _).alloc _).cell 0
  have k1 : ((w.alloc (.cells #[.slice A0 n0 c0, .slice A1 n1 c1] 26)).alloc (.cells #[.slice none 0 0, .slice none 0 0] 26)).cell? ⟨w.heap.size, 1, none⟩ = some (.slice A1 n1 c1) := ((Box.new w _ _).alloc _).cell 1
  clear h1
  go_enter Try.func40, Try.ntmps40
  go_wp2_with fail
  go_region_held3 (fun w' => w'.cell? ⟨w.heap.size, 0, none⟩ = some (.slice A0 n0 c0) ∧ w'.cell? ⟨w.heap.size, 1, none⟩ = some (.slice A1 n1 c1)) (first | (exact ⟨k0, k1⟩) | (exact ⟨x0, x1⟩) | (exact ⟨y0, y1⟩) | go_keep)
    (first
      | (go_at_call 82; refine (i_eachCopy (tHeld.row.reach h0 (belx)) (by omega)).mono ?_; rintro e w1 ⟨B0, d0, F0, rfl, hO0, hN0, hb1⟩; have X1 : Box w1 w.heap.size 26 #[.slice A0 n0 c0, .slice A1 n1 c1] := Box.below (Box.drew ((Box.new w _ _).alloc _)) hb1 (by show _ < (World.alloc _ _).heap.size; simp; omega); have Y1 : Box w1 (w.heap.size + 1) 26 #[.slice none 0 0, .slice none 0 0] := Box.below (Box.drew (by simpa using Box.new (w.alloc _) 26 #[.slice none 0 0, .slice none 0 0])) hb1 (by show _ < (World.alloc _ _).heap.size; simp); have x0 := X1.cell 0; have x1 := X1.cell 1; have hB1 : Below w.heap.size w w1 := bel_trans (belx) hb1; have z1 : w.heap.size + 2 ≤ w1.heap.size := (by have : (World.alloc (World.alloc w _) _).heap.size ≤ w1.heap.size := hb1.size; simpa using this))
      | (go_at_call 61; refine (i_copiedI5 (reach hI1 (bel_trans hB1 (belx))) hn1).mono ?_; rintro e w2 ⟨v2, rfl, hO1, hb2⟩; obtain ⟨B1, d1, F1, rfl, hOd, hNd⟩ := own_slice hO1; have X2 := X1.below hb2 X1.size; have y0 := X2.cell 0; have y1 := X2.cell 1; have Y2 := Y1.below hb2 Y1.size; have q0 := Y2.cell 0; have q1 := Y2.cell 1; have f0 := Y2.frozen 0; have f1 := Y2.frozen 1))
  go_wp2
  have RR := (Y2.put 0 (.slice B0 r0.length d0)).put 1 (.slice B1 l1.length d1)
  have e0 := RR.cell 0; have e1 := RR.cell 1
  have hM : New (w.heap.size + 2) (F0 ++ F1) := New.app (hN0.lower (by show _ ≤ (World.alloc _ _).heap.size; first | (simp; done) | (simp; omega))) (hNd.lower (Nat.le_refl _)) (by omega) (fun f hf => tHeld.row.lt hO0 f hf)
  refine bodyPost_ret (v := .agg #[.slice B0 r0.length d0, .slice B1 l1.length d1]) (by simp [results, Try.results40, go_sem, e0, e1]) rfl ⟨B0, d0, B1, d1, F0 ++ F1, rfl, put2_Pool (Ty.below (t := tHeld.row) hO0 hb2) hOd (hM.not (by omega)), hM.lower (by omega), ?_⟩
  exact bel_put (bel_put (bel_trans hB1 hb2) (by simp) _) (by simp) _
end Go.Proofs.Ytblcfncjghkegaa
namespace Go.Proofs.Ytblcfncjghkegaa
set_option maxRecDepth 100000
set_option linter.unusedVariables false
set_option linter.unusedSimpArgs false
open Go.ChangeShapes Go.WideShapes Go.ChangeAt Go.RowKit
open Fld
theorem plzO {w : World} : tPool.O w [.slice none 0 0, .slice none 0 0] plZ [] := by
  obtain ⟨F, h, rfl⟩ := makeOPool (w := w) (p := plZ) (v0 := .slice none 0 0) (v1 := .slice none 0 0) (F0 := []) (F1 := []) (.inl ⟨none, 0, rfl, by omega, rfl, rfl⟩) nilO
  exact h
/-- A result's two cells, stored into its block. -/
theorem put2_O {w : World} {g : Nat} {v0 v1 : Value} {p : DPool} {F : List Nat} (h : tPool.O w [v0, v1] p F) (hg : g ∉ F) : tPool.O ((w.setCell ⟨g, 0, none⟩ v0).setCell ⟨g, 1, none⟩ v1) [v0, v1] p F :=
  Ty.far3 (t := tPool) (Ty.far3 (t := tPool) h (p := ⟨g, 0, none⟩) hg v0) (p := ⟨g, 1, none⟩) hg v1
end Go.Proofs.Ytblcfncjghkegaa
namespace Go.Proofs.Ytblcfncjghkegaa
set_option maxRecDepth 100000
set_option linter.unusedVariables false
set_option linter.unusedSimpArgs false
open Go.ChangeShapes Go.WideShapes Go.ChangeAt Go.RowKit
open Fld
set_option maxHeartbeats 2000000 in
theorem s_see5_f {w : World} {A0 A1 : Option Addr} {n0 c0 n1 c1 : Nat} {l1 : List Int} {tag : Int} (h1 : tIs.R w w.heap.size [.slice A1 n1 c1] l1) (hn : n1 ≤ 60) (hw : (Lit.int .i64 tag).wf = true) (hr : ¬ recN l1 tag = 0) :
    Calls Try.prog 108 #[.agg #[.slice A0 n0 c0, .slice A1 n1 c1], .int .i64 tag] w fun e w' => e = .returned (.tuple #[.agg #[.slice A0 n0 c0, .slice A1 n1 c1], .int .i64 (recN l1 tag)]) ∧ Below w.heap.size w w' := by
  have hI1 := (slR_ints h1).1
  have hl := hI1.1
  have Y0 : Box ((w.alloc (.cells #[.slice A0 n0 c0, .slice A1 n1 c1] 26)).alloc (.cells #[.slice none 0 0, .slice none 0 0] 26)) (w.heap.size + 1) 26 #[.slice none 0 0, .slice none 0 0] := by simpa using Box.new (w.alloc (.cells #[.slice A0 n0 c0, .slice A1 n1 c1] 26)) 26 #[.slice none 0 0, .slice none 0 0]
  have y0 := Y0.cell 0; have y1 := Y0.cell 1; have y2 := Y0.frozen 0; have y3 := Y0.frozen 1
  by_cases hm : tag ∈ l1
  · have HM := Lib.hid (decide_eq_true hm)
    rw [recN_seen hm]
    clear hm hr
    go_enter Try.func108, Try.ntmps108
    go_wp2_with fail
    refine (s_l4has tag (reach hI1 ?hB) (by omega)).mono ?_
    case hB => exact (belx)
    rintro e w' ⟨rfl, rfl⟩
    rw [HM.out]
    go_wp2
    have RR := (Box.put Y0 0 (.slice A0 n0 c0)).put 1 (.slice A1 n1 c1)
    have e0 := RR.cell 0; have e1 := RR.cell 1
    refine bodyPost_ret (v := .tuple #[.agg #[.slice A0 n0 c0, .slice A1 n1 c1], .int .i64 (-1)]) (by simp [results, Try.results108, go_sem, e0, e1]) rfl ⟨rfl, ?_⟩
    exact (belx)
  have HM := Lib.hid (decide_eq_false hm)
  by_cases h6 : n1 = 60
  · rw [recN_full hm (by omega)]
    clear hm hr
    subst h6
    go_enter Try.func108, Try.ntmps108
    go_wp2_with fail
    refine (s_l4has tag (reach hI1 ?hB) (by omega)).mono ?_
    case hB => exact (belx)
    rintro e w' ⟨rfl, rfl⟩
    rw [HM.out]
    go_wp2
    have RR := (Box.put Y0 0 (.slice A0 n0 c0)).put 1 (.slice A1 60 c1)
    have e0 := RR.cell 0; have e1 := RR.cell 1
    refine bodyPost_ret (v := .tuple #[.agg #[.slice A0 n0 c0, .slice A1 60 c1], .int .i64 (-2)]) (by simp [results, Try.results108, go_sem, e0, e1]) rfl ⟨rfl, ?_⟩
    exact (belx)
  · exact absurd (recN_ok hm (by omega : ¬ l1.length = 60)) hr
set_option maxHeartbeats 4000000 in
theorem s_see5_t {w : World} {A0 A1 : Option Addr} {n0 c0 n1 c1 : Nat} {l1 : List Int} {tag : Int} (h1 : tIs.R w w.heap.size [.slice A1 n1 c1] l1) (hn : n1 ≤ 60) (hw : (Lit.int .i64 tag).wf = true) (hr : recN l1 tag = 0) :
    Calls Try.prog 108 #[.agg #[.slice A0 n0 c0, .slice A1 n1 c1], .int .i64 tag] w fun e w' => ∃ A n c F, e = .returned (.tuple #[.agg #[.slice A0 n0 c0, .slice A n c], .int .i64 0]) ∧ tIs.O w' [.slice A n c] (l1 ++ [tag]) F ∧ New w.heap.size F ∧ Below w.heap.size w w' := by
  obtain ⟨i0, hi0, hz0, hz1, hz2⟩ := info_parts info_ci
  have hI1 := (slR_ints h1).1
  have hl := hI1.1
  have hm : ¬ tag ∈ l1 := fun x => by rw [recN_seen x] at hr; omega
  have h6 : ¬ n1 = 60 := fun x => by rw [recN_full hm (by omega)] at hr; omega
  have HM := Lib.hid (decide_eq_false hm)
  clear hm hr
  have q : ¬ (60 : Int) ≤ (n1 : Int) := by omega
  have t1 : ([] : List Int).length + n1 ≤ maxLen := by simp only [maxLen, List.length_nil]; omega
  have t2 : (([] : List Int).length + n1) * 8 ≤ 140737488355328 := by simp only [List.length_nil]; omega
  have t3 : l1.length + 1 ≤ maxLen := by simp only [maxLen]; omega
  have t4 : (l1.length + 1) * 8 ≤ 140737488355328 := by omega
  have X0 : Box ((w.alloc (.cells #[.slice A0 n0 c0, .slice A1 n1 c1] 26)).alloc (.cells #[.slice none 0 0, .slice none 0 0] 26)) w.heap.size 26 #[.slice A0 n0 c0, .slice A1 n1 c1] := (Box.new w 26 #[.slice A0 n0 c0, .slice A1 n1 c1]).alloc _
  have x0 : ((w.alloc (.cells #[.slice A0 n0 c0, .slice A1 n1 c1] 26)).alloc (.cells #[.slice none 0 0, .slice none 0 0] 26)).cell? ⟨w.heap.size, 0, none⟩ = some (.slice A0 n0 c0) := X0.cell 0
  have x1 : ((w.alloc (.cells #[.slice A0 n0 c0, .slice A1 n1 c1] 26)).alloc (.cells #[.slice none 0 0, .slice none 0 0] 26)).cell? ⟨w.heap.size, 1, none⟩ = some (.slice A1 n1 c1) := X0.cell 1
  go_enter Try.func108, Try.ntmps108
  go_wp2_with fail
  refine (s_l4has tag (reach hI1 ?hB) (by omega)).mono ?_
  case hB => exact (belx)
  rintro e w' ⟨rfl, rfl⟩
  rw [HM.out]
  go_wp2_with fail
  go_region_held3 (fun w' => w'.cell? ⟨w.heap.size, 0, none⟩ = some (.slice A0 n0 c0) ∧ w'.cell? ⟨w.heap.size, 1, none⟩ = some (.slice A1 n1 c1)) (first | (exact ⟨x0, x1⟩) | (exact ⟨x2, x3⟩) | (exact ⟨x4, x5⟩) | go_keep)
    (first
      | (have hE : Own .i64 3 ((((w.alloc (.cells #[.slice A0 n0 c0, .slice A1 n1 c1] 26)).alloc (.cells #[.slice none 0 0, .slice none 0 0] 26)).alloc (.cells #[] 3)).drew) (w.heap.size + 2) (.slice (some ⟨w.heap.size + 2, 0, none⟩) 0 0) [] := (Own.drew (by simpa using (Own.empty (k := .i64) (e := 3) (w := ((w.alloc (.cells #[.slice A0 n0 c0, .slice A1 n1 c1] 26)).alloc (.cells #[.slice none 0 0, .slice none 0 0] 26))) (base := w.heap.size + 2) (by first | (simp; done) | (simp; omega))))); refine Own.stepRow (by rfl) (.tmp 18) (.tmp 20) _ (by rfl) i0 _ 8 Try.underlying24 hi0 hz0 hz1 hz2 rfl (by rfl) hE (by rfl) (reach hI1 (bel_drew (by first | exact (belx)))) (by first | omega | (simp; done) | (simp; omega) | (show _ ≤ (World.alloc _ _).heap.size; simp) | (show _ ≤ (World.alloc _ _).heap.size; simp; omega)) t1 t2 ?_; intro v1 w1 hO1 hgr1 hat1; have hB1 : Below w.heap.size w w1 := Below.grown (w := (((w.alloc (.cells #[.slice A0 n0 c0, .slice A1 n1 c1] 26)).alloc (.cells #[.slice none 0 0, .slice none 0 0] 26)).alloc (.cells #[] 3)).drew) (belx) hgr1 (by first | omega | (simp; done) | (simp; omega) | (show _ ≤ (World.alloc _ _).heap.size; simp) | (show _ ≤ (World.alloc _ _).heap.size; simp; omega)) (fun b hb => by have e := Option.some.inj (show (some (w.heap.size + 2)) = some b from hb); omega); have z1 : w.heap.size + 2 + 1 ≤ w1.heap.size := Nat.le_trans (by first | omega | (simp; done) | (simp; omega) | (show _ ≤ (World.alloc _ _).heap.size; simp) | (show _ ≤ (World.alloc _ _).heap.size; simp; omega)) hgr1.size; have X1 : Box w1 w.heap.size 26 #[.slice A0 n0 c0, .slice A1 n1 c1] := Box.grown (w := (((w.alloc (.cells #[.slice A0 n0 c0, .slice A1 n1 c1] 26)).alloc (.cells #[.slice none 0 0, .slice none 0 0] 26)).alloc (.cells #[] 3)).drew) (Box.drew (((Box.new w 26 #[.slice A0 n0 c0, .slice A1 n1 c1]).alloc _).alloc _)) hgr1 (fun e => by have e := Option.some.inj (show some w.heap.size = (some (w.heap.size + 2)) from e); omega); have Y1 : Box w1 (w.heap.size + 1) 26 #[.slice none 0 0, .slice none 0 0] := Box.grown (w := (((w.alloc (.cells #[.slice A0 n0 c0, .slice A1 n1 c1] 26)).alloc (.cells #[.slice none 0 0, .slice none 0 0] 26)).alloc (.cells #[] 3)).drew) (Box.drew (Box.alloc (show Box ((w.alloc (.cells #[.slice A0 n0 c0, .slice A1 n1 c1] 26)).alloc (.cells #[.slice none 0 0, .slice none 0 0] 26)) (w.heap.size + 1) 26 #[.slice none 0 0, .slice none 0 0] from by simpa using Box.new (w.alloc (.cells #[.slice A0 n0 c0, .slice A1 n1 c1] 26)) 26 #[.slice none 0 0, .slice none 0 0]) _)) hgr1 (fun e => by have e := Option.some.inj (show some (w.heap.size + 1) = (some (w.heap.size + 2)) from e); omega); have hOwn1 := fun b hb => Own.block hO1 (b := b) hb; have x2 := X1.cell 0; have x3 := X1.cell 1; have hO1' : Own .i64 3 w1 (w.heap.size + 2) v1 l1 := hO1)
      | (have hE : Own .i64 3 (((((w.alloc (.cells #[.slice A0 n0 c0, .slice A1 n1 c1] 26)).alloc (.cells #[.slice none 0 0, .slice none 0 0] 26)).alloc (.cells #[.int .i64 tag] 3)).alloc (.cells #[] 3)).drew) (w.heap.size + 2) (.slice (some ⟨w.heap.size + 3, 0, none⟩) 0 0) [] := (Own.drew (by simpa using (Own.empty (k := .i64) (e := 3) (w := (((w.alloc (.cells #[.slice A0 n0 c0, .slice A1 n1 c1] 26)).alloc (.cells #[.slice none 0 0, .slice none 0 0] 26)).alloc (.cells #[.int .i64 tag] 3))) (base := w.heap.size + 2) (by first | (simp; done) | (simp; omega))))); refine Own.stepRow (by rfl) (.tmp 18) (.tmp 20) _ (by rfl) i0 _ 8 Try.underlying24 hi0 hz0 hz1 hz2 rfl (by rfl) hE (by rfl) (reach hI1 (bel_drew (by first | exact (belx)))) (by first | omega | (simp; done) | (simp; omega) | (show _ ≤ (World.alloc _ _).heap.size; simp) | (show _ ≤ (World.alloc _ _).heap.size; simp; omega)) t1 t2 ?_; intro v1 w1 hO1 hgr1 hat1; have hB1 : Below w.heap.size w w1 := Below.grown (w := ((((w.alloc (.cells #[.slice A0 n0 c0, .slice A1 n1 c1] 26)).alloc (.cells #[.slice none 0 0, .slice none 0 0] 26)).alloc (.cells #[.int .i64 tag] 3)).alloc (.cells #[] 3)).drew) (belx) hgr1 (by first | omega | (simp; done) | (simp; omega) | (show _ ≤ (World.alloc _ _).heap.size; simp) | (show _ ≤ (World.alloc _ _).heap.size; simp; omega)) (fun b hb => by have e := Option.some.inj (show (some (w.heap.size + 3)) = some b from hb); omega); have z1 : w.heap.size + 2 + 2 ≤ w1.heap.size := Nat.le_trans (by first | omega | (simp; done) | (simp; omega) | (show _ ≤ (World.alloc _ _).heap.size; simp) | (show _ ≤ (World.alloc _ _).heap.size; simp; omega)) hgr1.size; have X1 : Box w1 w.heap.size 26 #[.slice A0 n0 c0, .slice A1 n1 c1] := Box.grown (w := ((((w.alloc (.cells #[.slice A0 n0 c0, .slice A1 n1 c1] 26)).alloc (.cells #[.slice none 0 0, .slice none 0 0] 26)).alloc (.cells #[.int .i64 tag] 3)).alloc (.cells #[] 3)).drew) (Box.drew ((((Box.new w 26 #[.slice A0 n0 c0, .slice A1 n1 c1]).alloc _).alloc _).alloc _)) hgr1 (fun e => by have e := Option.some.inj (show some w.heap.size = (some (w.heap.size + 3)) from e); omega); have Y1 : Box w1 (w.heap.size + 1) 26 #[.slice none 0 0, .slice none 0 0] := Box.grown (w := ((((w.alloc (.cells #[.slice A0 n0 c0, .slice A1 n1 c1] 26)).alloc (.cells #[.slice none 0 0, .slice none 0 0] 26)).alloc (.cells #[.int .i64 tag] 3)).alloc (.cells #[] 3)).drew) (Box.drew (Box.alloc (Box.alloc (show Box ((w.alloc (.cells #[.slice A0 n0 c0, .slice A1 n1 c1] 26)).alloc (.cells #[.slice none 0 0, .slice none 0 0] 26)) (w.heap.size + 1) 26 #[.slice none 0 0, .slice none 0 0] from by simpa using Box.new (w.alloc (.cells #[.slice A0 n0 c0, .slice A1 n1 c1] 26)) 26 #[.slice none 0 0, .slice none 0 0]) _) _)) hgr1 (fun e => by have e := Option.some.inj (show some (w.heap.size + 1) = (some (w.heap.size + 3)) from e); omega); have V1 : Box w1 (w.heap.size + 2) 3 #[.int .i64 tag] := Box.grown (w := ((((w.alloc (.cells #[.slice A0 n0 c0, .slice A1 n1 c1] 26)).alloc (.cells #[.slice none 0 0, .slice none 0 0] 26)).alloc (.cells #[.int .i64 tag] 3)).alloc (.cells #[] 3)).drew) (Box.drew (Box.alloc (show Box (((w.alloc (.cells #[.slice A0 n0 c0, .slice A1 n1 c1] 26)).alloc (.cells #[.slice none 0 0, .slice none 0 0] 26)).alloc (.cells #[.int .i64 tag] 3)) (w.heap.size + 2) 3 #[.int .i64 tag] from by simpa using Box.new ((w.alloc (.cells #[.slice A0 n0 c0, .slice A1 n1 c1] 26)).alloc (.cells #[.slice none 0 0, .slice none 0 0] 26)) 3 #[.int .i64 tag]) _)) hgr1 (fun e => by have e := Option.some.inj (show some (w.heap.size + 2) = (some (w.heap.size + 3)) from e); omega); have hOwn1 := fun b hb => Own.block hO1 (b := b) hb; have x2 := X1.cell 0; have x3 := X1.cell 1; have hO1' : Own .i64 3 w1 (w.heap.size + 2) v1 l1 := hO1)
      | (have hE : Own .i64 3 (((((w.alloc (.cells #[.slice A0 n0 c0, .slice A1 n1 c1] 26)).alloc (.cells #[.slice none 0 0, .slice none 0 0] 26)).alloc (.cells #[] 3)).alloc (.cells #[.int .i64 tag] 3)).drew) (w.heap.size + 2) (.slice (some ⟨w.heap.size + 2, 0, none⟩) 0 0) [] := (Own.drew (Own.alloc (by simpa using (Own.empty (k := .i64) (e := 3) (w := ((w.alloc (.cells #[.slice A0 n0 c0, .slice A1 n1 c1] 26)).alloc (.cells #[.slice none 0 0, .slice none 0 0] 26))) (base := w.heap.size + 2) (by first | (simp; done) | (simp; omega)))) _)); refine Own.stepRow (by rfl) (.tmp 18) (.tmp 20) _ (by rfl) i0 _ 8 Try.underlying24 hi0 hz0 hz1 hz2 rfl (by rfl) hE (by rfl) (reach hI1 (bel_drew (by first | exact (belx)))) (by first | omega | (simp; done) | (simp; omega) | (show _ ≤ (World.alloc _ _).heap.size; simp) | (show _ ≤ (World.alloc _ _).heap.size; simp; omega)) t1 t2 ?_; intro v1 w1 hO1 hgr1 hat1; have hB1 : Below w.heap.size w w1 := Below.grown (w := ((((w.alloc (.cells #[.slice A0 n0 c0, .slice A1 n1 c1] 26)).alloc (.cells #[.slice none 0 0, .slice none 0 0] 26)).alloc (.cells #[] 3)).alloc (.cells #[.int .i64 tag] 3)).drew) (belx) hgr1 (by first | omega | (simp; done) | (simp; omega) | (show _ ≤ (World.alloc _ _).heap.size; simp) | (show _ ≤ (World.alloc _ _).heap.size; simp; omega)) (fun b hb => by have e := Option.some.inj (show (some (w.heap.size + 2)) = some b from hb); omega); have z1 : w.heap.size + 2 + 2 ≤ w1.heap.size := Nat.le_trans (by first | omega | (simp; done) | (simp; omega) | (show _ ≤ (World.alloc _ _).heap.size; simp) | (show _ ≤ (World.alloc _ _).heap.size; simp; omega)) hgr1.size; have X1 : Box w1 w.heap.size 26 #[.slice A0 n0 c0, .slice A1 n1 c1] := Box.grown (w := ((((w.alloc (.cells #[.slice A0 n0 c0, .slice A1 n1 c1] 26)).alloc (.cells #[.slice none 0 0, .slice none 0 0] 26)).alloc (.cells #[] 3)).alloc (.cells #[.int .i64 tag] 3)).drew) (Box.drew ((((Box.new w 26 #[.slice A0 n0 c0, .slice A1 n1 c1]).alloc _).alloc _).alloc _)) hgr1 (fun e => by have e := Option.some.inj (show some w.heap.size = (some (w.heap.size + 2)) from e); omega); have Y1 : Box w1 (w.heap.size + 1) 26 #[.slice none 0 0, .slice none 0 0] := Box.grown (w := ((((w.alloc (.cells #[.slice A0 n0 c0, .slice A1 n1 c1] 26)).alloc (.cells #[.slice none 0 0, .slice none 0 0] 26)).alloc (.cells #[] 3)).alloc (.cells #[.int .i64 tag] 3)).drew) (Box.drew (Box.alloc (Box.alloc (show Box ((w.alloc (.cells #[.slice A0 n0 c0, .slice A1 n1 c1] 26)).alloc (.cells #[.slice none 0 0, .slice none 0 0] 26)) (w.heap.size + 1) 26 #[.slice none 0 0, .slice none 0 0] from by simpa using Box.new (w.alloc (.cells #[.slice A0 n0 c0, .slice A1 n1 c1] 26)) 26 #[.slice none 0 0, .slice none 0 0]) _) _)) hgr1 (fun e => by have e := Option.some.inj (show some (w.heap.size + 1) = (some (w.heap.size + 2)) from e); omega); have V1 : Box w1 (w.heap.size + 3) 3 #[.int .i64 tag] := Box.grown (w := ((((w.alloc (.cells #[.slice A0 n0 c0, .slice A1 n1 c1] 26)).alloc (.cells #[.slice none 0 0, .slice none 0 0] 26)).alloc (.cells #[] 3)).alloc (.cells #[.int .i64 tag] 3)).drew) (Box.drew ((show Box ((((w.alloc (.cells #[.slice A0 n0 c0, .slice A1 n1 c1] 26)).alloc (.cells #[.slice none 0 0, .slice none 0 0] 26)).alloc (.cells #[] 3)).alloc (.cells #[.int .i64 tag] 3)) (w.heap.size + 3) 3 #[.int .i64 tag] from by simpa using Box.new (((w.alloc (.cells #[.slice A0 n0 c0, .slice A1 n1 c1] 26)).alloc (.cells #[.slice none 0 0, .slice none 0 0] 26)).alloc (.cells #[] 3)) 3 #[.int .i64 tag]))) hgr1 (fun e => by have e := Option.some.inj (show some (w.heap.size + 3) = (some (w.heap.size + 2)) from e); omega); have hOwn1 := fun b hb => Own.block hO1 (b := b) hb; have x2 := X1.cell 0; have x3 := X1.cell 1; have hO1' : Own .i64 3 w1 (w.heap.size + 2) v1 l1 := hO1)
      | (refine Own.stepRow (w := (w1.alloc (.cells #[.int .i64 tag] 3))) (by rfl) (.tmp 21) (.tmp 23) _ (by rfl) i0 _ 8 Try.underlying24 hi0 hz0 hz1 hz2 rfl (by rfl) (hO1'.alloc _) (by rfl) (Ints.boxed (Box.new w1 3 #[.int .i64 tag]) hw) (by first | omega | (simp; done) | (simp; omega) | (show _ ≤ (World.alloc _ _).heap.size; simp) | (show _ ≤ (World.alloc _ _).heap.size; simp; omega)) t3 t4 ?_; intro v2 w2 hO2 hgr2 hat2; obtain ⟨A9, c9, F9, hv9, hO9, hN9⟩ := own_slice hO2; obtain ⟨n9, hn9⟩ : ∃ m, (l1 ++ [tag]).length = m := ⟨_, rfl⟩; rw [hn9] at hv9 hO9; subst hv9; have hB2 : Below w.heap.size w w2 := Below.grown (w := (w1.alloc (.cells #[.int .i64 tag] 3))) (bel_trans hB1 (belx)) hgr2 (by first | omega | (simp; done) | (simp; omega) | (show _ ≤ (World.alloc _ _).heap.size; simp) | (show _ ≤ (World.alloc _ _).heap.size; simp; omega)) (fun b hb => by have := (hOwn1 b hb).1; omega); have X2 := Box.grown (w := (w1.alloc (.cells #[.int .i64 tag] 3))) (X1.alloc _) hgr2 (fun e => by have := (hOwn1 _ e.symm).1; omega); have Y2 := Box.grown (w := (w1.alloc (.cells #[.int .i64 tag] 3))) (Y1.alloc _) hgr2 (fun e => by have := (hOwn1 _ e.symm).1; omega); have x4 := X2.cell 0; have x5 := X2.cell 1; have y0 := Y2.cell 0; have y1 := Y2.cell 1; have y2 := Y2.frozen 0; have y3 := Y2.frozen 1)
      | (refine Own.stepRow (w := w1) (by rfl) (.tmp 21) (.tmp 23) _ (by rfl) i0 _ 8 Try.underlying24 hi0 hz0 hz1 hz2 rfl (by rfl) hO1' (by rfl) (Ints.boxed V1 hw) (by first | omega | (simp; done) | (simp; omega) | (show _ ≤ (World.alloc _ _).heap.size; simp) | (show _ ≤ (World.alloc _ _).heap.size; simp; omega)) t3 t4 ?_; intro v2 w2 hO2 hgr2 hat2; obtain ⟨A9, c9, F9, hv9, hO9, hN9⟩ := own_slice hO2; obtain ⟨n9, hn9⟩ : ∃ m, (l1 ++ [tag]).length = m := ⟨_, rfl⟩; rw [hn9] at hv9 hO9; subst hv9; have hB2 : Below w.heap.size w w2 := Below.grown (w := w1) hB1 hgr2 (by first | omega | (simp; done) | (simp; omega) | (show _ ≤ (World.alloc _ _).heap.size; simp) | (show _ ≤ (World.alloc _ _).heap.size; simp; omega)) (fun b hb => by have := (hOwn1 b hb).1; omega); have X2 := Box.grown (w := w1) X1 hgr2 (fun e => by have := (hOwn1 _ e.symm).1; omega); have Y2 := Box.grown (w := w1) Y1 hgr2 (fun e => by have := (hOwn1 _ e.symm).1; omega); have x4 := X2.cell 0; have x5 := X2.cell 1; have y0 := Y2.cell 0; have y1 := Y2.cell 1; have y2 := Y2.frozen 0; have y3 := Y2.frozen 1)
      | (refine Own.stepRow (w := w1) (by rfl) (.tmp 21) (.tmp 23) _ (by rfl) i0 _ 8 Try.underlying24 hi0 hz0 hz1 hz2 rfl (by rfl) hO1' (by rfl) (Ints.boxed V1 hw) (by first | omega | (simp; done) | (simp; omega) | (show _ ≤ (World.alloc _ _).heap.size; simp) | (show _ ≤ (World.alloc _ _).heap.size; simp; omega)) t3 t4 ?_; intro v2 w2 hO2 hgr2 hat2; obtain ⟨A9, c9, F9, hv9, hO9, hN9⟩ := own_slice hO2; obtain ⟨n9, hn9⟩ : ∃ m, (l1 ++ [tag]).length = m := ⟨_, rfl⟩; rw [hn9] at hv9 hO9; subst hv9; have hB2 : Below w.heap.size w w2 := Below.grown (w := w1) hB1 hgr2 (by first | omega | (simp; done) | (simp; omega) | (show _ ≤ (World.alloc _ _).heap.size; simp) | (show _ ≤ (World.alloc _ _).heap.size; simp; omega)) (fun b hb => by have := (hOwn1 b hb).1; omega); have X2 := Box.grown (w := w1) X1 hgr2 (fun e => by have := (hOwn1 _ e.symm).1; omega); have Y2 := Box.grown (w := w1) Y1 hgr2 (fun e => by have := (hOwn1 _ e.symm).1; omega); have x4 := X2.cell 0; have x5 := X2.cell 1; have y0 := Y2.cell 0; have y1 := Y2.cell 1; have y2 := Y2.frozen 0; have y3 := Y2.frozen 1))
  all_goals go_wp2
  all_goals
    have RR := (Box.put Y2 0 (.slice A0 n0 c0)).put 1 (.slice A9 n9 c9)
    have e0 := RR.cell 0; have e1 := RR.cell 1
    refine bodyPost_ret (v := .tuple #[.agg #[.slice A0 n0 c0, .slice A9 n9 c9], .int .i64 (0)]) (by simp [results, Try.results108, go_sem, e0, e1]) rfl ⟨_, _, _, _, rfl, (Ty.far3 (t := tIs) (Ty.far3 (t := tIs) hO9 (p := ⟨w.heap.size + 1, 0, none⟩) (fun hx => by have := hN9.2 _ hx; dsimp only at this; omega) (.slice A0 n0 c0)) (p := ⟨w.heap.size + 1, 1, none⟩) (fun hx => by have := hN9.2 _ hx; dsimp only at this; omega) (.slice A9 n9 c9)), hN9.lower (by omega), ?_⟩
    exact bel_put (bel_put hB2 (by simp) _) (by simp) _
end Go.Proofs.Ytblcfncjghkegaa
namespace Go.Proofs.Ytblcfncjghkegaa
set_option maxRecDepth 100000
set_option linter.unusedVariables false
set_option linter.unusedSimpArgs false
open Go.ChangeShapes Go.WideShapes Go.ChangeAt Go.RowKit
open Fld
set_option maxHeartbeats 2000000 in
theorem s_admit5_no {w : World} {A0 A1 A2 : Option Addr} {n0 c0 n1 c1 n2 c2 : Nat} {p1 : List DHeld} {p2 : List Int} {x0 x1 : Int} {tag : Int} (hr0 : tHeld.row.R w w.heap.size [.slice A0 n0 c0] p1) (h1 : tIs.R w w.heap.size [.slice A1 n1 c1] p2)
    (hn0 : n0 ≤ 12) (hn1 : n1 ≤ 60) (hw : (Lit.int .i64 tag).wf = true) (hr : n0 = 12 ∨ ¬ recN p2 tag = 0) :
    Calls Try.prog 100 #[.agg #[.slice A0 n0 c0, .slice A1 n1 c1], .agg #[.int .i64 x0, .int .i64 x1, .slice A2 n2 c2], .int .i64 tag] w fun e w' => e = .returned (.tuple #[.agg #[.slice A0 n0 c0, .slice A1 n1 c1], .int .i64 (if n0 = 12 then -2 else recN p2 tag)]) ∧ Below w.heap.size w w' := by
  have Y0 : Box (((w.alloc (.cells #[.slice A0 n0 c0, .slice A1 n1 c1] 26)).alloc (.cells #[.int .i64 x0, .int .i64 x1, .slice A2 n2 c2] 30)).alloc (.cells #[.slice none 0 0, .slice none 0 0] 26)) (w.heap.size + 1 + 1) 26 #[.slice none 0 0, .slice none 0 0] := by simpa using Box.new ((w.alloc (.cells #[.slice A0 n0 c0, .slice A1 n1 c1] 26)).alloc (.cells #[.int .i64 x0, .int .i64 x1, .slice A2 n2 c2] 30)) 26 #[.slice none 0 0, .slice none 0 0]
  have y0 := Y0.cell 0; have y1 := Y0.cell 1; have y2 := Y0.frozen 0; have y3 := Y0.frozen 1
  by_cases h12 : n0 = 12
  · subst h12
    rw [if_pos rfl]
    clear hr
    go_enter Try.func100, Try.ntmps100
    go_wp2
    have RR := (Y0.put 0 (.slice A0 12 c0)).put 1 (.slice A1 n1 c1)
    have e0 := RR.cell 0; have e1 := RR.cell 1
    refine bodyPost_ret (v := .tuple #[.agg #[.slice A0 12 c0, .slice A1 n1 c1], .int .i64 (-2)]) (by simp [results, Try.results100, go_sem, e0, e1]) rfl ⟨rfl, ?_⟩
    exact (belx)
  rw [if_neg h12]
  have hr2 : ¬ recN p2 tag = 0 := hr.resolve_left h12
  have hq : ¬ (12 : Int) ≤ (n0 : Int) := by omega
  obtain ⟨k, hk⟩ : ∃ k, recN p2 tag = k := ⟨_, rfl⟩
  have hk2 : k < 0 := by have := recN_le p2 tag; omega
  have hkd : decide (k < 0) = true := decide_eq_true hk2
  have HK := Lib.hid hk
  have HR := Lib.hid hr2
  rw [hk]
  clear hr hk h12 hr2 y0 y1 y2 y3 Y0
  go_enter Try.func100, Try.ntmps100
  go_wp2_with fail
  refine (s_see5_f (tIs.reach h1 ?hB) hn1 hw HR.out).mono ?_
  case hB => exact (belx)
  rintro e w1 ⟨rfl, hb1⟩
  rw [HK.out]
  have hB1 : Below w.heap.size w w1 := bel_trans (belx) hb1
  have z1 : w.heap.size + 3 ≤ w1.heap.size := by have := hb1.size; simpa using this
  have P1 : Box w1 w.heap.size 26 #[.slice A0 n0 c0, .slice A1 n1 c1] := Box.below (((Box.new w _ _).alloc _).alloc _) hb1 (by simp; omega)
  have Y1 : Box w1 (w.heap.size + 1 + 1) 26 #[.slice none 0 0, .slice none 0 0] := Box.below (by simpa using Box.new ((w.alloc (.cells #[.slice A0 n0 c0, .slice A1 n1 c1] 26)).alloc (.cells #[.int .i64 x0, .int .i64 x1, .slice A2 n2 c2] 30)) 26 #[.slice none 0 0, .slice none 0 0]) hb1 (by first | (simp; done) | (simp; omega))
  have P2 := P1.alloc (.cells #[.slice A0 n0 c0, .slice A1 n1 c1] 26)
  have Y2 := Y1.alloc (.cells #[.slice A0 n0 c0, .slice A1 n1 c1] 26)
  have p0 := P2.cell 0; have p1' := P2.cell 1
  have y0 := Y2.cell 0; have y1 := Y2.cell 1; have y2 := Y2.frozen 0; have y3 := Y2.frozen 1
  clear hb1
  go_wp2
  have RR := (Y2.put 0 (.slice A0 n0 c0)).put 1 (.slice A1 n1 c1)
  have e0 := RR.cell 0; have e1 := RR.cell 1
  refine bodyPost_ret (v := .tuple #[.agg #[.slice A0 n0 c0, .slice A1 n1 c1], .int .i64 k]) (by simp [results, Try.results100, go_sem, e0, e1]) rfl ⟨rfl, ?_⟩
  exact bel_put (bel_put (bel_alloc hB1 _) (by show _ ≤ w.heap.size + 1 + 1; omega) _) (by show _ ≤ w.heap.size + 1 + 1; omega) _
/-- What l5admit answers, whatever becomes of the cell. -/
def admP (p : DPool) (h : DHeld) (tag : Int) : DPool := if p.1.length = 12 ∨ ¬ recN p.2 tag = 0 then p else (p.1 ++ [h], p.2 ++ [tag])
def admN (p : DPool) (tag : Int) : Int := if p.1.length = 12 then -2 else recN p.2 tag
end Go.Proofs.Ytblcfncjghkegaa
