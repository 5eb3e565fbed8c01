/-
  PDeskT: texts joined.
-/
import Derived.Test.YtaabmaoldhoinaaGreatVGa
import Derived.Test.YtaabmaoldhoinaaGreatVGb
import Derived.BigQuiet
import Derived.Deep.Cut
import Derived.Deep.CutRange
import Derived.Deep.DeepCutAuto
import Derived.Deep.QuietTactic
import Derived.Deep.RegionHeld3
import Derived.Outline
namespace Go.Proofs.YtaabmaoldhoinaaGreat
set_option maxRecDepth 100000
set_option linter.unusedVariables false
set_option linter.unusedSimpArgs false
open Go.ChangeShapes Go.WideShapes Go.ChangeAt Go.RowKit
theorem row_sz {r0 : List DWhole} {k : Nat} {a : DWhole} (h : rsz szWhole r0 ≤ 1048576) (ha : r0[k]? = some a) : ∀ p ∈ a.2.2.2, szPiece p ≤ 1048576 := fun p hp => by
  have h1 := rsz_step (s := szWhole) ha
  obtain ⟨i, hi, rfl⟩ := List.getElem_of_mem hp
  have h2 := rsz_step (s := szPiece) (List.getElem?_eq_getElem hi)
  have h3 : szWhole a = rsz szPiece a.2.2.2 := rfl
  omega
theorem all_z {α : Type} {P : α → Prop} {l : List α} : ∀ h ∈ l.take 0, P h := fun h hh => absurd hh (by simp)
theorem all_s {α : Type} {P : α → Prop} {l : List α} {a : α} {j : Nat} (h : ∀ x ∈ l.take j, P x) (hl : l[j]? = some a) (ha : P a) : ∀ x ∈ l.take (j + 1), P x := by
  rw [take_sn hl]
  intro x hx
  rcases List.mem_append.1 hx with h' | h'
  · exact h x h'
  · rw [List.mem_singleton] at h'; rw [h']; exact ha
theorem getI {l : List Int} {n j : Nat} (h : l.length = n) (hj : j < n) : l[j]? = some (l.getD j 0) := by
  rw [List.getD_eq_getElem?_getD, List.getElem?_eq_getElem (by omega)]; rfl
theorem memI {l : List Int} {n j : Nat} (h : l.length = n) (hj : j < n) : l.getD j 0 ∈ l := List.mem_of_getElem? (getI h hj)
theorem s_has4 {w : World} {B n c : Nat} {A : Option Addr} {l : List Int} (x : Int) (hl : Ints .i64 w B A n l) (hn : n ≤ 17592186043904) :
    Calls Tryz.prog 67 #[.slice A n c, .int .i64 x] w fun e w' => e = .returned (.bool (decide (x ∈ l))) ∧ w = w' := by
  have HL := Lib.hid hl.1
  go_enter Tryz.func67, Tryz.ntmps67
  go_wp2_with fail
  go_loop [5] (fun i => ∃ j : Nat, j ≤ n ∧ i = .int .i64 j ∧ ∀ y ∈ l.take j, y ≠ x) (fun i => n - (RowKit.intOf i).toNat)
  case atStart => exact ⟨0, by omega, rfl, all_z⟩
  case round =>
    obtain ⟨j, hj, rfl, hG⟩ := hrel
    have HG := Lib.hid hG
    clear hG
    by_cases hlt : j < n
    · obtain ⟨b, off, rfl, hb, hcell, hwf⟩ := hl.at_ hlt
      have HA := Lib.hid (getI HL.out hlt)
      obtain ⟨y, hy⟩ : ∃ y, l.getD j 0 = y := ⟨_, rfl⟩
      rw [hy] at hcell HA
      clear hy hwf
      by_cases he : y = x
      · subst he
        have HR := Lib.hid (show decide (y ∈ l) = true from decide_eq_true (List.mem_of_getElem? HA.out))
        go_wp2
        go_ret
        exact ⟨ret_bool HR.out.symm, rfl⟩
      · have q : (y == x) = false := by simpa using he
        have HN := Lib.hid he
        clear he
        go_wp2
        go_round
        case rel => exact ⟨j + 1, by omega, by go_num, all_s HG.out HA.out HN.out⟩
        case measure => simp [RowKit.intOf]; omega
    · obtain rfl : j = n := by omega
      have HR := Lib.hid (show decide (x ∈ l) = false from decide_eq_false fun hx => by rw [← List.take_of_length_le (Nat.le_of_eq HL.out)] at hx; exact HG.out x hx rfl)
      go_wp2
      go_ret
      exact ⟨ret_bool HR.out.symm, rfl⟩
theorem q_at4 {P : Program} {f : FuncId} {args : Array Value} {w : World} {n : Nat} {v : Value} (h : Calls P f args (w.drewN n) fun e w' => e = .returned v ∧ w.drewN n = w') :
    Calls P f args (w.drewN n) fun e w'' => e = .returned v ∧ ∃ m, w'' = w.drewN m := h.mono fun _ _ ⟨he, hw⟩ => ⟨he, n, hw.symm⟩
theorem bad_t {B : Prop} (h : B) : Value.bool true = .bool (@decide B (Classical.propDecidable _)) := by rw [@decide_eq_true B (Classical.propDecidable B) h]
theorem bad_f {B : Prop} (h : ¬ B) : Value.bool false = .bool (@decide B (Classical.propDecidable _)) := by rw [@decide_eq_false B (Classical.propDecidable B) h]
set_option maxHeartbeats 8000000 in
theorem s_DeskOkN {w : World} {A0 A1 : Option Addr} {n0 c0 n1 c1 : Nat} {r0 : List DWhole} {l1 : List Int} (b : Bool) (T : DkOk (r0, l1) → b = true) (F : ¬ DkOk (r0, l1) → b = false)
    (h0 : tWhole.row.R w w.heap.size [.slice A0 n0 c0] r0) (h1 : tIs.R w w.heap.size [.slice A1 n1 c1] l1) (hsz : rsz szWhole r0 ≤ 1048576) :
    Calls Tryz.prog 22 #[.agg #[.slice A0 n0 c0, .slice A1 n1 c1]] w fun e w' => e = .returned (.bool b) ∧ Below w.heap.size w w' := by
  obtain ⟨e0, hnc0, hcm0⟩ := rowR_len h0
  have hl1 := (slR_ints h1).1
  have hcc := (slR_ints h1).2
  have E0 := Lib.hid e0
  have E1 := Lib.hid hl1.1
  have HT := Lib.hid T
  have HF := Lib.hid F
  have HS0 := Lib.hid hsz
  clear T F e0 h1 hsz
  by_cases g0 : n0 ≤ 6
  rotate_left
  · obtain rfl := HF.out (fun h => by have := h.1; have := E0.out; dsimp only at *; omega)
    have q : (6 : Int) < (n0 : Int) := by omega
    clear HT HF
    go_enter Tryz.func22, Tryz.ntmps22
    go_wp2
    go_ret
    exact ⟨rfl, (belx)⟩
  have q0 : ¬ (6 : Int) < (n0 : Int) := by omega
  by_cases g1 : n1 ≤ 256
  rotate_left
  · obtain rfl := HF.out (fun h => by have := asc_len h.2.2.1 h.2.1; have := E1.out; dsimp only at *; omega)
    have q : (256 : Int) < (n1 : Int) := by omega
    clear HT HF
    go_enter Tryz.func22, Tryz.ntmps22
    go_wp2
    go_ret
    exact ⟨rfl, (belx)⟩
  have q1 : ¬ (256 : Int) < (n1 : Int) := by omega
  go_enter Tryz.func22, Tryz.ntmps22
  go_wp2_with fail
  go_loopw [3] (fun i wr => ∃ j : Nat, j ≤ n1 ∧ i = .int .i64 j ∧ Below w.heap.size w wr ∧ Box wr w.heap.size 33 #[.slice A0 n0 c0, .slice A1 n1 c1] ∧ DnK l1 j) (fun i _ => n1 - (RowKit.intOf i).toNat)
  case atStart => exact ⟨0, by omega, rfl, (belx), Box.new _ _ _, DnK.zero⟩
  case round =>
    obtain ⟨j, hj, rfl, hB, hX, hG⟩ := hrel
    have HG := Lib.hid hG
    clear hG
    have k0 : wr.cell? ⟨w.heap.size, 0, none⟩ = some (.slice A0 n0 c0) := hX.cell 0
    have k1 : wr.cell? ⟨w.heap.size, 1, none⟩ = some (.slice A1 n1 c1) := hX.cell 1
    by_cases hlt : j < n1
    · have HM := Lib.hid (memI E1.out hlt)
      obtain ⟨bA, off, rfl, hb, hc⟩ := hl1.2.1 (by omega)
      have u0 : wr.cell? ⟨bA, off + j, none⟩ = some (.int .i64 (l1.getD j 0)) := cell_at hB hb (hc j hlt)
      have wf0 := wf_getD hl1.2.2 (show j < l1.length by rw [E1.out]; exact hlt)
      have i0 : (0 : Int) ≤ (j : Int) := by omega
      have i1 : (j : Int) < (n1 : Int) := by omega
      obtain ⟨y, hy⟩ : ∃ y, l1.getD j 0 = y := ⟨_, rfl⟩
      have HY := Lib.hid hy
      rw [hy] at u0 HM wf0
      have rgy := i64_rg wf0
      clear hy
      by_cases b0 : y < 0
      · obtain rfl := HF.out (fun h => by have := (h.2.1 _ HM.out).1; omega)
        have d0 : decide (y < 0) = true := decide_eq_true b0
        go_wp2_with fail
        go_quiet (fail)
        go_wp2
        go_ret
        exact ⟨rfl, below_drewN hB _⟩
      have d0 : decide (y < 0) = false := decide_eq_false b0
      by_cases b1 : 255 < y
      · obtain rfl := HF.out (fun h => by have := (h.2.1 _ HM.out).2; omega)
        have d1 : decide (255 < y) = true := decide_eq_true b1
        go_wp2_with fail
        go_quiet (fail)
        go_wp2
        go_ret
        exact ⟨rfl, below_drewN hB _⟩
      have d1 : decide (255 < y) = false := decide_eq_false b1
      cases j with
      | zero =>
        have u9 : wr.cell? ⟨bA, off, none⟩ = some (.int .i64 y) := by simpa using u0
        have n9 : (0 : Int) < (n1 : Int) := by omega
        go_wp2_with fail
        go_quiet (fail)
        go_wp2
        go_roundw
        case rel => exact ⟨0 + 1, by omega, by go_num, below_drewN hB _, hX.drewN _, HG.out.succ (by rw [HY.out]; omega) (by rw [HY.out]; omega) (fun q hq => absurd hq (by omega))⟩
        case measure => simp [RowKit.intOf]; omega
      | succ q =>
        have u1 : wr.cell? ⟨bA, off + q, none⟩ = some (.int .i64 (l1.getD q 0)) := cell_at hB hb (hc q (by omega))
        obtain ⟨z, hz⟩ : ∃ z, l1.getD q 0 = z := ⟨_, rfl⟩
        have HZ := Lib.hid hz
        rw [hz] at u1
        clear hz
        by_cases b2 : y ≤ z
        · obtain rfl := HF.out (fun h => by have := h.2.2.1 q (by show q + 1 < l1.length; rw [E1.out]; exact hlt); rw [HZ.out] at this; rw [HY.out] at this; omega)
          have d2 : decide (y ≤ z) = true := decide_eq_true b2
          go_wp2_with fail
          go_quiet (fail)
          go_wp2
          go_ret
          exact ⟨rfl, below_drewN hB _⟩
        · have d2 : decide (y ≤ z) = false := decide_eq_false b2
          go_wp2_with fail
          go_quiet (fail)
          go_wp2
          go_roundw
          case rel => exact ⟨q + 1 + 1, by omega, by go_num, below_drewN hB _, hX.drewN _, HG.out.succ (by rw [HY.out]; omega) (by rw [HY.out]; omega) (fun q' hq => by (obtain rfl : q' = q := (by omega)); rw [HZ.out, HY.out]; omega)⟩
          case measure => simp [RowKit.intOf]; omega
    · obtain rfl : n1 = j := by omega
      have HD := Lib.hid (HG.out.done (Nat.le_of_eq E1.out))
      clear HG
      go_wp2_with fail
      clear k0 k1
      go_loopw [4] (fun i w2 => ∃ k : Nat, k ≤ n0 ∧ i = .int .i64 k ∧ Below w.heap.size w w2 ∧ Box w2 w.heap.size 33 #[.slice A0 n0 c0, .slice A1 n1 c1] ∧ RwK (fun wh : DWhole => WhN wh ∧ wh.1 ∉ l1) (fun wh => wh.1) r0 k) (fun i _ => n0 - (RowKit.intOf i).toNat)
      case atStart => exact ⟨0, by omega, rfl, hB, hX, RwK.zero⟩
      case round =>
        clear hB hX
        obtain ⟨k, hk, rfl, hB, hX, hG⟩ := hrel
        have HG := Lib.hid hG
        clear hG
        have k0 := hX.cell 0
        have k1 := hX.cell 1
        by_cases hlt : k < n0
        · obtain ⟨a, b', off, es, hl, rfl, hb, hes, hR⟩ := rowR_at (K := 4) h0 hlt rfl
          have HA := Lib.hid hl
          clear hl
          obtain ⟨A3, n3, c3, rfl, hw0, hw1, hw2, hn3, hc3, hl3, hr3⟩ := openWhole hR
          have HL3 := Lib.hid hl3
          have rg1 := i64_rg hw1
          have rg2 := i64_rg hw2
          have e0 : wr.cell? ⟨b', off + k * 4, none⟩ = some (.int .i64 a.1) := cell_at hB hb (hes 0 (by omega))
          have e1 : wr.cell? ⟨b', off + k * 4 + 1, none⟩ = some (.int .i64 a.2.1) := cell_at hB hb (hes 1 (by omega))
          have e2 : wr.cell? ⟨b', off + k * 4 + 2, none⟩ = some (.int .i64 a.2.2.1) := cell_at hB hb (hes 2 (by omega))
          have e3 : wr.cell? ⟨b', off + k * 4 + 3, none⟩ = some (.slice A3 n3 c3) := cell_at hB hb (hes 3 (by omega))
          have k2 := (hX.alloc (.cells #[.int .i64 a.1, .int .i64 a.2.1, .int .i64 a.2.2.1, .slice A3 n3 c3] 53)).cell 0
          have k3 := (hX.alloc (.cells #[.int .i64 a.1, .int .i64 a.2.1, .int .i64 a.2.2.1, .slice A3 n3 c3] 53)).cell 1
          clear hes hR hl3
          have hI : Ints .i64 (wr.alloc (.cells #[.int .i64 a.1, .int .i64 a.2.1, .int .i64 a.2.2.1, .slice A3 n3 c3] 53)) (wr.alloc (.cells #[.int .i64 a.1, .int .i64 a.2.1, .int .i64 a.2.2.1, .slice A3 n3 c3] 53)).heap.size A1 n1 l1 := reach hl1 (bel_alloc hB _)
          have hsz := hB.size
          obtain ⟨BadW, hBadW⟩ : ∃ B : Prop, B = ((∃ q b, k = q + 1 ∧ r0[q]? = some b ∧ a.1 ≤ b.1) ∨ a.1 ∈ l1 ∨ n3 < 1 ∨ a.2.1 ≤ (n3 : Int) ∨ a.2.2.1 < 0 ∨ 65535 < a.2.2.1) := ⟨_, rfl⟩
          have HBW := Lib.hid hBadW
          clear hBadW
          have hH : ∀ n, Calls Tryz.prog 67 #[.slice A1 n1 c1, .int .i64 a.1] ((wr.alloc (.cells #[.int .i64 a.1, .int .i64 a.2.1, .int .i64 a.2.2.1, .slice A3 n3 c3] 53)).drewN n) fun e w' => e = .returned (.bool (decide (a.1 ∈ l1))) ∧ (wr.alloc (.cells #[.int .i64 a.1, .int .i64 a.2.1, .int .i64 a.2.2.1, .slice A3 n3 c3] 53)).drewN n = w' := fun n => s_has4 (c := c1) a.1 (hI.drewN n) (by omega)
          go_wp2_with fail
          go_cut [113] (fun t wx => ∃ nq, wx = (wr.alloc (.cells #[.int .i64 a.1, .int .i64 a.2.1, .int .i64 a.2.2.1, .slice A3 n3 c3] 53)).drewN nq ∧ t = .bool (@decide BadW (Classical.propDecidable _)))
          case first =>
            cases k with
            | zero =>
              have n9 : (0 : Int) < (n0 : Int) := by omega
              have e9 : wr.cell? ⟨b', off, none⟩ = some (.int .i64 a.1) := by simpa using e0
              have e8 : wr.cell? ⟨b', off + 1, none⟩ = some (.int .i64 a.2.1) := by simpa using e1
              have e7 : wr.cell? ⟨b', off + 2, none⟩ = some (.int .i64 a.2.2.1) := by simpa using e2
              have e6 : wr.cell? ⟨b', off + 3, none⟩ = some (.slice A3 n3 c3) := by simpa using e3
              by_cases hm : a.1 ∈ l1
              · have HM := Lib.hid hm
                rw [decide_eq_true hm] at hH
                clear hm
                as_aux_lemma =>
                  go_quiet ((go_at_call 67; exact q_at4 (hH _)))
                  go_wp2_with fail
                  go_meet
                  exact ⟨_, rfl, bad_t (by rw [HBW.out]; exact .inr (.inl HM.out))⟩
              rw [decide_eq_false hm] at hH
              have HM := Lib.hid hm
              clear hm
              by_cases b3 : n3 < 1
              · have d3 : decide ((n3 : Int) < 1) = true := decide_eq_true (by omega)
                as_aux_lemma =>
                  go_quiet ((go_at_call 67; exact q_at4 (hH _)))
                  go_wp2_with fail
                  go_meet
                  exact ⟨_, rfl, bad_t (by rw [HBW.out]; exact .inr (.inr (.inl b3)))⟩
              have d3 : decide ((n3 : Int) < 1) = false := decide_eq_false (by omega)
              by_cases b4 : a.2.1 ≤ (n3 : Int)
              · have d4 : decide (a.2.1 ≤ (n3 : Int)) = true := decide_eq_true b4
                as_aux_lemma =>
                  go_quiet ((go_at_call 67; exact q_at4 (hH _)))
                  go_wp2_with fail
                  go_meet
                  exact ⟨_, rfl, bad_t (by rw [HBW.out]; exact .inr (.inr (.inr (.inl b4))))⟩
              have d4 : decide (a.2.1 ≤ (n3 : Int)) = false := decide_eq_false b4
              by_cases b5 : a.2.2.1 < 0
              · have d5 : decide (a.2.2.1 < 0) = true := decide_eq_true b5
                as_aux_lemma =>
                  go_quiet ((go_at_call 67; exact q_at4 (hH _)))
                  go_wp2_with fail
                  go_meet
                  exact ⟨_, rfl, bad_t (by rw [HBW.out]; exact .inr (.inr (.inr (.inr (.inl b5)))))⟩
              have d5 : decide (a.2.2.1 < 0) = false := decide_eq_false b5
              by_cases b6 : 65535 < a.2.2.1
              · have d6 : decide (65535 < a.2.2.1) = true := decide_eq_true b6
                as_aux_lemma =>
                  go_quiet ((go_at_call 67; exact q_at4 (hH _)))
                  go_wp2_with fail
                  go_meet
                  exact ⟨_, rfl, bad_t (by rw [HBW.out]; exact .inr (.inr (.inr (.inr (.inr b6)))))⟩
              have d6 : decide (65535 < a.2.2.1) = false := decide_eq_false b6
              as_aux_lemma =>
                go_quiet ((go_at_call 67; exact q_at4 (hH _)))
                go_wp2_with fail
                go_meet
                exact ⟨_, rfl, bad_f (by rw [HBW.out]; rintro (h | h | h | h | h | h); exact (show False from (fun ⟨q, b, hq, _⟩ => absurd hq (by omega)) h); exact HM.out h; omega; omega; omega; omega)⟩
            | succ q =>
              obtain ⟨b, b2, off2, es2, hlb, hA2, hb2, hes2, hR2⟩ := rowR_at (K := 4) h0 (show q < n0 by omega) rfl
              injection hA2 with hA2
              injection hA2 with e9 e8 _
              subst e9 e8
              have HLB := Lib.hid hlb
              clear hlb
              obtain ⟨A4, n4, c4, rfl, -, -, -, -, -, -, -⟩ := openWhole hR2
              have u0 : wr.cell? ⟨b', off + q * 4, none⟩ = some (.int .i64 b.1) := cell_at hB hb (hes2 0 (by omega))
              have u1 := cell_bel (w' := wr.alloc (.cells #[.int .i64 a.1, .int .i64 a.2.1, .int .i64 a.2.2.1, .slice A3 n3 c3] 53)) (belx) u0
              clear hes2 hR2
              by_cases b2 : a.1 ≤ b.1
              · have d2 : decide (a.1 ≤ b.1) = true := decide_eq_true b2
                as_aux_lemma =>
                  go_quiet ((go_at_call 67; exact q_at4 (hH _)))
                  go_wp2_with fail
                  go_meet
                  exact ⟨_, rfl, bad_t (by rw [HBW.out]; exact .inl ⟨q, b, rfl, HLB.out, b2⟩)⟩
              have d2 : decide (a.1 ≤ b.1) = false := decide_eq_false b2
              by_cases hm : a.1 ∈ l1
              · have HM := Lib.hid hm
                rw [decide_eq_true hm] at hH
                clear hm
                as_aux_lemma =>
                  go_quiet ((go_at_call 67; exact q_at4 (hH _)))
                  go_wp2_with fail
                  go_meet
                  exact ⟨_, rfl, bad_t (by rw [HBW.out]; exact .inr (.inl HM.out))⟩
              rw [decide_eq_false hm] at hH
              have HM := Lib.hid hm
              clear hm
              by_cases b3 : n3 < 1
              · have d3 : decide ((n3 : Int) < 1) = true := decide_eq_true (by omega)
                as_aux_lemma =>
                  go_quiet ((go_at_call 67; exact q_at4 (hH _)))
                  go_wp2_with fail
                  go_meet
                  exact ⟨_, rfl, bad_t (by rw [HBW.out]; exact .inr (.inr (.inl b3)))⟩
              have d3 : decide ((n3 : Int) < 1) = false := decide_eq_false (by omega)
              by_cases b4 : a.2.1 ≤ (n3 : Int)
              · have d4 : decide (a.2.1 ≤ (n3 : Int)) = true := decide_eq_true b4
                as_aux_lemma =>
                  go_quiet ((go_at_call 67; exact q_at4 (hH _)))
                  go_wp2_with fail
                  go_meet
                  exact ⟨_, rfl, bad_t (by rw [HBW.out]; exact .inr (.inr (.inr (.inl b4))))⟩
              have d4 : decide (a.2.1 ≤ (n3 : Int)) = false := decide_eq_false b4
              by_cases b5 : a.2.2.1 < 0
              · have d5 : decide (a.2.2.1 < 0) = true := decide_eq_true b5
                as_aux_lemma =>
                  go_quiet ((go_at_call 67; exact q_at4 (hH _)))
                  go_wp2_with fail
                  go_meet
                  exact ⟨_, rfl, bad_t (by rw [HBW.out]; exact .inr (.inr (.inr (.inr (.inl b5)))))⟩
              have d5 : decide (a.2.2.1 < 0) = false := decide_eq_false b5
              by_cases b6 : 65535 < a.2.2.1
              · have d6 : decide (65535 < a.2.2.1) = true := decide_eq_true b6
                as_aux_lemma =>
                  go_quiet ((go_at_call 67; exact q_at4 (hH _)))
                  go_wp2_with fail
                  go_meet
                  exact ⟨_, rfl, bad_t (by rw [HBW.out]; exact .inr (.inr (.inr (.inr (.inr b6)))))⟩
              have d6 : decide (65535 < a.2.2.1) = false := decide_eq_false b6
              as_aux_lemma =>
                go_quiet ((go_at_call 67; exact q_at4 (hH _)))
                go_wp2_with fail
                go_meet
                exact ⟨_, rfl, bad_f (by rw [HBW.out]; rintro (h | h | h | h | h | h); exact (show False from (fun ⟨q', b'', hq, hb', hle⟩ => by (obtain rfl : q' = q := (by omega)); rw [HLB.out] at hb'; injection hb' with hb'; subst hb'; omega) h); exact HM.out h; omega; omega; omega; omega)⟩
          case rest =>
            obtain ⟨nq, rfl, rfl⟩ := hcut
            by_cases hbad : BadW
            · obtain rfl := HF.out (fun h => by
                rw [HBW.out] at hbad
                have hw := h.2.2.2.2 _ (List.mem_of_getElem? HA.out)
                have hL := HL3.out
                rcases hbad with ⟨q, b, rfl, hb', hle⟩ | h' | h' | h' | h' | h'
                · have := asc_at (f := fun wh : DWhole => wh.1) h.2.2.2.1 HA.out hb'; (try dsimp only at this); omega
                · exact hw.2 h'
                · have := hw.1.2.1.1; omega
                · have := hw.1.2.1.2; rw [hL] at this; omega
                · have := hw.1.1.1; omega
                · have := hw.1.1.2; omega)
              rw [@decide_eq_true BadW (Classical.propDecidable _) hbad]
              go_wp2
              go_ret
              exact ⟨rfl, below_drewN (bel_alloc hB _) _⟩
            · rw [@decide_eq_false BadW (Classical.propDecidable _) hbad]
              rw [HBW.out] at hbad
              have HBAD := Lib.hid hbad
              clear hbad k0 k1 k2 k3 e0 e1 e2 e3 hH hI
              generalize wr = w5 at *
              have hW0 := (Box.new w5 53 #[.int .i64 a.1, .int .i64 a.2.1, .int .i64 a.2.2.1, .slice A3 n3 c3]).drewN nq
              have W3 := hW0.cell 3
              go_wp2_with fail
              clear W3
              go_loopw [6] (fun i w3 => ∃ q : Nat, q ≤ n3 ∧ i = .int .i64 q ∧ Below w.heap.size w w3 ∧ Box w3 w.heap.size 33 #[.slice (some ⟨b', off, none⟩) n0 c0, .slice A1 n1 c1] ∧ Box w3 w5.heap.size 53 #[.int .i64 a.1, .int .i64 a.2.1, .int .i64 a.2.2.1, .slice A3 n3 c3] ∧ w5.heap.size + 1 ≤ w3.heap.size ∧ RwK (fun p : DPiece => PcOk p ∧ p.1 = a.1 ∧ p.2.2.1 = a.2.1) (fun p => p.2.1) a.2.2.2 q) (fun i _ => n3 - (RowKit.intOf i).toNat)
              case atStart => exact ⟨0, by omega, rfl, below_drewN (bel_alloc hB _) _, (hX.alloc _).drewN _, hW0, by simp, RwK.zero⟩
              case round =>
                clear hB hX hW0
                obtain ⟨q, hq, rfl, hB, hX, hW, hz, hG⟩ := hrel
                have HG2 := Lib.hid hG
                clear hG
                have W3 := hW.cell 3
                by_cases hlt3 : q < n3
                · obtain ⟨p, b3, off3, es3, hl3', rfl, hb3, hes3, hR3⟩ := rowR_at (K := 4) hr3 hlt3 rfl
                  have HA3 := Lib.hid hl3'
                  clear hl3'
                  have hRp := hR3
                  obtain ⟨A6, n6, c6, rfl, hwp0, hwp1, hwp2, -, -, -, -⟩ := openPiece hR3
                  have e0 : wr.cell? ⟨b3, off3 + q * 4, none⟩ = some (.int .i64 p.1) := cell_at hB hb3 (hes3 0 (by omega))
                  have e1 : wr.cell? ⟨b3, off3 + q * 4 + 1, none⟩ = some (.int .i64 p.2.1) := cell_at hB hb3 (hes3 1 (by omega))
                  have e2 : wr.cell? ⟨b3, off3 + q * 4 + 2, none⟩ = some (.int .i64 p.2.2.1) := cell_at hB hb3 (hes3 2 (by omega))
                  have e3 : wr.cell? ⟨b3, off3 + q * 4 + 3, none⟩ = some (.slice A6 n6 c6) := cell_at hB hb3 (hes3 3 (by omega))
                  clear hes3
                  have hsz := hB.size
                  obtain ⟨BadP, hBadP⟩ : ∃ B : Prop, B = (¬ PcOk p ∨ ¬ p.1 = a.1 ∨ ¬ p.2.2.1 = a.2.1 ∨ ∃ r b, q = r + 1 ∧ a.2.2.2[r]? = some b ∧ p.2.1 ≤ b.2.1) := ⟨_, rfl⟩
                  have HBP := Lib.hid hBadP
                  clear hBadP
                  go_wp2_with fail
                  go_cut [158] (fun t wx => Below wr.heap.size wr wx ∧ t = .bool (@decide BadP (Classical.propDecidable _)))
                  case first =>
                    have T7 := Box.new wr 37 #[.int .i64 p.1, .int .i64 p.2.1, .int .i64 p.2.2.1, .slice A6 n6 c6]
                    have W7 := hW.alloc (.cells #[.int .i64 p.1, .int .i64 p.2.1, .int .i64 p.2.2.1, .slice A6 n6 c6] 37)
                    have m0 := T7.cell 0; have m1 := T7.cell 1; have m2 := T7.cell 2; have m3 := T7.cell 3
                    have v0 := W7.cell 0; have v1 := W7.cell 1; have v3 := W7.cell 3
                    have HSZ := Lib.hid (row_sz HS0.out HA.out)
                    have hzp : szPiece p ≤ 1048576 := HSZ.out p (List.mem_of_getElem? HA3.out)
                    cases q with
                    | zero =>
                      have n9 : (0 : Int) < (n3 : Int) := by omega
                      by_cases hpc : PcOk p
                      rotate_left
                      · have HPC := Lib.hid (decide_eq_false hpc)
                        have HN := Lib.hid hpc
                        clear hpc
                        as_aux_lemma =>
                          go_wp2_with fail
                          refine wp_region_held_drew (S := (fun w' => w'.cell? ⟨wr.heap.size, 0, none⟩ = some (.int .i64 p.1) ∧ w'.cell? ⟨wr.heap.size, 1, none⟩ = some (.int .i64 p.2.1) ∧ w'.cell? ⟨wr.heap.size, 2, none⟩ = some (.int .i64 p.2.2.1) ∧ w'.cell? ⟨wr.heap.size, 3, none⟩ = some (.slice A6 n6 c6) ∧ w'.cell? ⟨w5.heap.size, 0, none⟩ = some (.int .i64 a.1) ∧ w'.cell? ⟨w5.heap.size, 1, none⟩ = some (.int .i64 a.2.1))) (by kernel_rfl) (by exact ⟨m0, m1, m2, m3, v0, v1⟩) (fun hHeld => ?_)
                          refine wpAnyH_take (i := 0) (oi := ⟨some 126, _, _, _, _, _⟩) (v := ?v1) rfl (by kernel_rfl) (by kernel_rfl) (by kernel_rfl) (fun _ _ _ h => h) (Or.inl ⟨by rfl, ?hy1⟩) (by assumption) ?_
                          case hy1 => (intro w hSw; (try dsimp only at hSw); go_simp; try (with_reducible rfl))
                          (try simp only [Act.put, qa_, qb_, qc_])
                          refine wpAnyH_ready (rs := [1]) (by kernel_rfl) (by simp) ?_
                          refine AllReadyH.cons rfl (fun K hK => ?_) ?_
                          · go_simp
                            go_at_call 38
                            refine (s_PieceOk (tPiece.reach (tPiece.reach hRp hB) (belx)) hzp).mono ?_
                            rintro e wq ⟨rfl, hbq⟩
                            rw [HPC.out]
                            have hsq : Below wr.heap.size wr wq := bel_trans (belx) hbq
                            have T8 := Box.below (Box.drew T7) hbq (Box.drew T7).size
                            have W8 := Box.below (Box.drew W7) hbq (Box.drew W7).size
                            go_wp2_with fail
                            refine hK.out _ _ (by exact ⟨T8.cell 0, T8.cell 1, T8.cell 2, T8.cell 3, W8.cell 0, W8.cell 1⟩) (fun hHeld => ?_)
                            clear hK K
                            (try simp only [Act.put, qa_, qb_, qc_])
                            refine wpAnyH_take (i := 2) (oi := ⟨some 128, _, _, _, _, _⟩) (v := ?v2) rfl (by kernel_rfl) (by kernel_rfl) (by kernel_rfl) (fun _ _ _ h => h) (Or.inl ⟨by rfl, ?hy2⟩) (by assumption) ?_
                            case hy2 => (intro w hSw; (try dsimp only at hSw); go_simp; try (with_reducible rfl))
                            (try simp only [Act.put, qa_, qb_, qc_])
                            refine wpAnyH_take (i := 3) (oi := ⟨some 129, _, _, _, _, _⟩) (v := ?v3) rfl (by kernel_rfl) (by kernel_rfl) (by kernel_rfl) (fun _ _ _ h => h) (Or.inl ⟨by rfl, ?hy3⟩) (by assumption) ?_
                            case hy3 => (intro w hSw; (try dsimp only at hSw); go_simp; try (with_reducible rfl))
                            (try simp only [Act.put, qa_, qb_, qc_])
                            refine wpAnyH_take (i := 4) (oi := ⟨some 130, _, _, _, _, _⟩) (v := undef) rfl (by kernel_rfl) (by kernel_rfl) (by kernel_rfl) (fun _ _ _ h => h) (Or.inr ⟨by rfl, rfl⟩) (by assumption) ?_
                            (try simp only [Act.put, qa_, qb_, qc_])
                            refine wpAnyH_take (i := 5) (oi := ⟨some 131, _, _, _, _, _⟩) (v := undef) rfl (by kernel_rfl) (by kernel_rfl) (by kernel_rfl) (fun _ _ _ h => h) (Or.inr ⟨by rfl, rfl⟩) (by assumption) ?_
                            (try simp only [Act.put, qa_, qb_, qc_])
                            refine wpAnyH_take (i := 6) (oi := ⟨some 132, _, _, _, _, _⟩) (v := undef) rfl (by kernel_rfl) (by kernel_rfl) (by kernel_rfl) (fun _ _ _ h => h) (Or.inr ⟨by rfl, rfl⟩) (by assumption) ?_
                            (try simp only [Act.put, qa_, qb_, qc_])
                            refine wpAnyH_take (i := 7) (oi := ⟨some 133, _, _, _, _, _⟩) (v := undef) rfl (by kernel_rfl) (by kernel_rfl) (by kernel_rfl) (fun _ _ _ h => h) (Or.inr ⟨by rfl, rfl⟩) (by assumption) ?_
                            (try simp only [Act.put, qa_, qb_, qc_])
                            refine wpAnyH_take (i := 8) (oi := ⟨some 134, _, _, _, _, _⟩) (v := undef) rfl (by kernel_rfl) (by kernel_rfl) (by kernel_rfl) (fun _ _ _ h => h) (Or.inr ⟨by rfl, rfl⟩) (by assumption) ?_
                            (try simp only [Act.put, qa_, qb_, qc_])
                            refine wpAnyH_take (i := 9) (oi := ⟨some 135, _, _, _, _, _⟩) (v := ?v4) rfl (by kernel_rfl) (by kernel_rfl) (by kernel_rfl) (fun _ _ _ h => h) (Or.inl ⟨by rfl, ?hy4⟩) (by assumption) ?_
                            case hy4 => (intro w hSw; (try dsimp only at hSw); go_simp; try (with_reducible rfl))
                            (try simp only [Act.put, qa_, qb_, qc_])
                            refine wpAnyH_take (i := 10) (oi := ⟨some 136, _, _, _, _, _⟩) (v := ?v5) rfl (by kernel_rfl) (by kernel_rfl) (by kernel_rfl) (fun _ _ _ h => h) (Or.inl ⟨by rfl, ?hy5⟩) (by assumption) ?_
                            case hy5 => (intro w hSw; (try dsimp only at hSw); go_simp; try (with_reducible rfl))
                            (try simp only [Act.put, qa_, qb_, qc_])
                            refine wpAnyH_take (i := 11) (oi := ⟨some 137, _, _, _, _, _⟩) (v := undef) rfl (by kernel_rfl) (by kernel_rfl) (by kernel_rfl) (fun _ _ _ h => h) (Or.inr ⟨by rfl, rfl⟩) (by assumption) ?_
                            (try simp only [Act.put, qa_, qb_, qc_])
                            refine wpAnyH_take (i := 12) (oi := ⟨some 138, _, _, _, _, _⟩) (v := undef) rfl (by kernel_rfl) (by kernel_rfl) (by kernel_rfl) (fun _ _ _ h => h) (Or.inr ⟨by rfl, rfl⟩) (by assumption) ?_
                            (try simp only [Act.put, qa_, qb_, qc_])
                            refine wpAnyH_take (i := 13) (oi := ⟨some 139, _, _, _, _, _⟩) (v := undef) rfl (by kernel_rfl) (by kernel_rfl) (by kernel_rfl) (fun _ _ _ h => h) (Or.inr ⟨by rfl, rfl⟩) (by assumption) ?_
                            (try simp only [Act.put, qa_, qb_, qc_])
                            refine wpAnyH_take (i := 14) (oi := ⟨some 140, _, _, _, _, _⟩) (v := undef) rfl (by kernel_rfl) (by kernel_rfl) (by kernel_rfl) (fun _ _ _ h => h) (Or.inr ⟨by rfl, rfl⟩) (by assumption) ?_
                            (try simp only [Act.put, qa_, qb_, qc_])
                            refine wpAnyH_take (i := 15) (oi := ⟨some 141, _, _, _, _, _⟩) (v := undef) rfl (by kernel_rfl) (by kernel_rfl) (by kernel_rfl) (fun _ _ _ h => h) (Or.inr ⟨by rfl, rfl⟩) (by assumption) ?_
                            (try simp only [Act.put, qa_, qb_, qc_])
                            refine wpAnyH_take (i := 16) (oi := ⟨some 142, _, _, _, _, _⟩) (v := ?v6) rfl (by kernel_rfl) (by kernel_rfl) (by kernel_rfl) (fun _ _ _ h => h) (Or.inl ⟨by rfl, ?hy6⟩) (by assumption) ?_
                            case hy6 => (intro w hSw; (try dsimp only at hSw); go_simp; try (with_reducible rfl))
                            (try simp only [Act.put, qa_, qb_, qc_])
                            refine wpAnyH_take (i := 17) (oi := ⟨some 143, _, _, _, _, _⟩) (v := ?v7) rfl (by kernel_rfl) (by kernel_rfl) (by kernel_rfl) (fun _ _ _ h => h) (Or.inl ⟨by rfl, ?hy7⟩) (by assumption) ?_
                            case hy7 => (intro w hSw; (try dsimp only at hSw); go_simp; try (with_reducible rfl))
                            (try simp only [Act.put, qa_, qb_, qc_])
                            refine wpAnyH_take (i := 18) (oi := ⟨some 144, _, _, _, _, _⟩) (v := undef) rfl (by kernel_rfl) (by kernel_rfl) (by kernel_rfl) (fun _ _ _ h => h) (Or.inr ⟨by rfl, rfl⟩) (by assumption) ?_
                            (try simp only [Act.put, qa_, qb_, qc_])
                            refine wpAnyH_take (i := 19) (oi := ⟨some 145, _, _, _, _, _⟩) (v := undef) rfl (by kernel_rfl) (by kernel_rfl) (by kernel_rfl) (fun _ _ _ h => h) (Or.inr ⟨by rfl, rfl⟩) (by assumption) ?_
                            (try simp only [Act.put, qa_, qb_, qc_])
                            refine wpAnyH_take (i := 20) (oi := ⟨some 146, _, _, _, _, _⟩) (v := undef) rfl (by kernel_rfl) (by kernel_rfl) (by kernel_rfl) (fun _ _ _ h => h) (Or.inr ⟨by rfl, rfl⟩) (by assumption) ?_
                            (try simp only [Act.put, qa_, qb_, qc_])
                            refine wpAnyH_take (i := 21) (oi := ⟨some 147, _, _, _, _, _⟩) (v := undef) rfl (by kernel_rfl) (by kernel_rfl) (by kernel_rfl) (fun _ _ _ h => h) (Or.inr ⟨by rfl, rfl⟩) (by assumption) ?_
                            (try simp only [Act.put, qa_, qb_, qc_])
                            refine wpAnyH_take (i := 22) (oi := ⟨some 148, _, _, _, _, _⟩) (v := undef) rfl (by kernel_rfl) (by kernel_rfl) (by kernel_rfl) (fun _ _ _ h => h) (Or.inr ⟨by rfl, rfl⟩) (by assumption) ?_
                            (try simp only [Act.put, qa_, qb_, qc_])
                            refine wpAnyH_take (i := 23) (oi := ⟨some 149, _, _, _, _, _⟩) (v := undef) rfl (by kernel_rfl) (by kernel_rfl) (by kernel_rfl) (fun _ _ _ h => h) (Or.inr ⟨by rfl, rfl⟩) (by assumption) ?_
                            (try simp only [Act.put, qa_, qb_, qc_])
                            refine wpAnyH_take (i := 24) (oi := ⟨some 150, _, _, _, _, _⟩) (v := undef) rfl (by kernel_rfl) (by kernel_rfl) (by kernel_rfl) (fun _ _ _ h => h) (Or.inr ⟨by rfl, rfl⟩) (by assumption) ?_
                            (try simp only [Act.put, qa_, qb_, qc_])
                            refine wpAnyH_take (i := 25) (oi := ⟨some 151, _, _, _, _, _⟩) (v := undef) rfl (by kernel_rfl) (by kernel_rfl) (by kernel_rfl) (fun _ _ _ h => h) (Or.inr ⟨by rfl, rfl⟩) (by assumption) ?_
                            (try simp only [Act.put, qa_, qb_, qc_])
                            refine wpAnyH_take (i := 26) (oi := ⟨some 152, _, _, _, _, _⟩) (v := undef) rfl (by kernel_rfl) (by kernel_rfl) (by kernel_rfl) (fun _ _ _ h => h) (Or.inr ⟨by rfl, rfl⟩) (by assumption) ?_
                            (try simp only [Act.put, qa_, qb_, qc_])
                            refine wpAnyH_take (i := 27) (oi := ⟨some 153, _, _, _, _, _⟩) (v := undef) rfl (by kernel_rfl) (by kernel_rfl) (by kernel_rfl) (fun _ _ _ h => h) (Or.inr ⟨by rfl, rfl⟩) (by assumption) ?_
                            (try simp only [Act.put, qa_, qb_, qc_])
                            refine wpAnyH_take (i := 28) (oi := ⟨some 154, _, _, _, _, _⟩) (v := undef) rfl (by kernel_rfl) (by kernel_rfl) (by kernel_rfl) (fun _ _ _ h => h) (Or.inr ⟨by rfl, rfl⟩) (by assumption) ?_
                            (try simp only [Act.put, qa_, qb_, qc_])
                            refine wpAnyH_take (i := 29) (oi := ⟨some 155, _, _, _, _, _⟩) (v := undef) rfl (by kernel_rfl) (by kernel_rfl) (by kernel_rfl) (fun _ _ _ h => h) (Or.inr ⟨by rfl, rfl⟩) (by assumption) ?_
                            (try simp only [Act.put, qa_, qb_, qc_])
                            refine wpAnyH_take (i := 30) (oi := ⟨some 156, _, _, _, _, _⟩) (v := undef) rfl (by kernel_rfl) (by kernel_rfl) (by kernel_rfl) (fun _ _ _ h => h) (Or.inr ⟨by rfl, rfl⟩) (by assumption) ?_
                            (try simp only [Act.put, qa_, qb_, qc_])
                            refine wpAnyH_take (i := 31) (oi := ⟨some 157, _, _, _, _, _⟩) (v := undef) rfl (by kernel_rfl) (by kernel_rfl) (by kernel_rfl) (fun _ _ _ h => h) (Or.inr ⟨by rfl, rfl⟩) (by assumption) ?_
                            (try simp only [Act.put, qa_, qb_, qc_])
                            refine wpAnyH_take (i := 32) (oi := ⟨some 158, _, _, _, _, _⟩) (v := ?v8) rfl (by kernel_rfl) (by kernel_rfl) (by kernel_rfl) (fun _ _ _ h => h) (Or.inl ⟨by rfl, ?hy8⟩) (by assumption) ?_
                            case hy8 => (intro w hSw; (try dsimp only at hSw); go_simp; try (with_reducible rfl))
                            (try simp only [Act.put, qa_, qb_, qc_])
                            refine wpAnyH_done (by kernel_rfl) ?_ _
                            go_wp2_with fail
                            go_meet
                            exact ⟨hsq, bad_t (by rw [HBP.out]; exact .inl HN.out)⟩
                          exact AllReadyH.nil
                      have HPC := Lib.hid (decide_eq_true hpc)
                      have HN := Lib.hid hpc
                      clear hpc
                      by_cases h1 : p.1 = a.1
                      rotate_left
                      · have d1 : (p.1 != a.1) = true := by simpa using h1
                        have H1 := Lib.hid h1
                        clear h1
                        as_aux_lemma =>
                          go_wp2_with fail
                          refine wp_region_held_drew (S := (fun w' => w'.cell? ⟨wr.heap.size, 0, none⟩ = some (.int .i64 p.1) ∧ w'.cell? ⟨wr.heap.size, 1, none⟩ = some (.int .i64 p.2.1) ∧ w'.cell? ⟨wr.heap.size, 2, none⟩ = some (.int .i64 p.2.2.1) ∧ w'.cell? ⟨wr.heap.size, 3, none⟩ = some (.slice A6 n6 c6) ∧ w'.cell? ⟨w5.heap.size, 0, none⟩ = some (.int .i64 a.1) ∧ w'.cell? ⟨w5.heap.size, 1, none⟩ = some (.int .i64 a.2.1))) (by kernel_rfl) (by exact ⟨m0, m1, m2, m3, v0, v1⟩) (fun hHeld => ?_)
                          refine wpAnyH_take (i := 0) (oi := ⟨some 126, _, _, _, _, _⟩) (v := ?v9) rfl (by kernel_rfl) (by kernel_rfl) (by kernel_rfl) (fun _ _ _ h => h) (Or.inl ⟨by rfl, ?hy9⟩) (by assumption) ?_
                          case hy9 => (intro w hSw; (try dsimp only at hSw); go_simp; try (with_reducible rfl))
                          (try simp only [Act.put, qa_, qb_, qc_])
                          refine wpAnyH_ready (rs := [1]) (by kernel_rfl) (by simp) ?_
                          refine AllReadyH.cons rfl (fun K hK => ?_) ?_
                          · go_simp
                            go_at_call 38
                            refine (s_PieceOk (tPiece.reach (tPiece.reach hRp hB) (belx)) hzp).mono ?_
                            rintro e wq ⟨rfl, hbq⟩
                            rw [HPC.out]
                            have hsq : Below wr.heap.size wr wq := bel_trans (belx) hbq
                            have T8 := Box.below (Box.drew T7) hbq (Box.drew T7).size
                            have W8 := Box.below (Box.drew W7) hbq (Box.drew W7).size
                            go_wp2_with fail
                            refine hK.out _ _ (by exact ⟨T8.cell 0, T8.cell 1, T8.cell 2, T8.cell 3, W8.cell 0, W8.cell 1⟩) (fun hHeld => ?_)
                            clear hK K
                            (try simp only [Act.put, qa_, qb_, qc_])
                            refine wpAnyH_take (i := 2) (oi := ⟨some 128, _, _, _, _, _⟩) (v := ?v10) rfl (by kernel_rfl) (by kernel_rfl) (by kernel_rfl) (fun _ _ _ h => h) (Or.inl ⟨by rfl, ?hy10⟩) (by assumption) ?_
                            case hy10 => (intro w hSw; (try dsimp only at hSw); go_simp; try (with_reducible rfl))
                            (try simp only [Act.put, qa_, qb_, qc_])
                            refine wpAnyH_take (i := 3) (oi := ⟨some 129, _, _, _, _, _⟩) (v := ?v11) rfl (by kernel_rfl) (by kernel_rfl) (by kernel_rfl) (fun _ _ _ h => h) (Or.inl ⟨by rfl, ?hy11⟩) (by assumption) ?_
                            case hy11 => (intro w hSw; (try dsimp only at hSw); go_simp; try (with_reducible rfl))
                            (try simp only [Act.put, qa_, qb_, qc_])
                            refine wpAnyH_take (i := 4) (oi := ⟨some 130, _, _, _, _, _⟩) (v := ?v12) rfl (by kernel_rfl) (by kernel_rfl) (by kernel_rfl) (fun _ _ _ h => h) (Or.inl ⟨by rfl, ?hy12⟩) (by assumption) ?_
                            case hy12 => (intro w hSw; (try dsimp only at hSw); go_simp; try (with_reducible rfl))
                            (try simp only [Act.put, qa_, qb_, qc_])
                            refine wpAnyH_take (i := 5) (oi := ⟨some 131, _, _, _, _, _⟩) (v := ?v13) rfl (by kernel_rfl) (by kernel_rfl) (by kernel_rfl) (fun _ _ _ h => h) (Or.inl ⟨by rfl, ?hy13⟩) (by assumption) ?_
                            case hy13 => (intro w hSw; (try dsimp only at hSw); go_simp; try (with_reducible rfl))
                            (try simp only [Act.put, qa_, qb_, qc_])
                            refine wpAnyH_take (i := 6) (oi := ⟨some 132, _, _, _, _, _⟩) (v := ?v14) rfl (by kernel_rfl) (by kernel_rfl) (by kernel_rfl) (fun _ _ _ h => h) (Or.inl ⟨by rfl, ?hy14⟩) (by assumption) ?_
                            case hy14 => (intro w hSw; (try dsimp only at hSw); go_simp; try (with_reducible rfl))
                            (try simp only [Act.put, qa_, qb_, qc_])
                            refine wpAnyH_take (i := 7) (oi := ⟨some 133, _, _, _, _, _⟩) (v := ?v15) rfl (by kernel_rfl) (by kernel_rfl) (by kernel_rfl) (fun _ _ _ h => h) (Or.inl ⟨by rfl, ?hy15⟩) (by assumption) ?_
                            case hy15 => (intro w hSw; (try dsimp only at hSw); go_simp; try (with_reducible rfl))
                            (try simp only [Act.put, qa_, qb_, qc_])
                            refine wpAnyH_take (i := 8) (oi := ⟨some 134, _, _, _, _, _⟩) (v := ?v16) rfl (by kernel_rfl) (by kernel_rfl) (by kernel_rfl) (fun _ _ _ h => h) (Or.inl ⟨by rfl, ?hy16⟩) (by assumption) ?_
                            case hy16 => (intro w hSw; (try dsimp only at hSw); go_simp; try (with_reducible rfl))
                            (try simp only [Act.put, qa_, qb_, qc_])
                            refine wpAnyH_take (i := 9) (oi := ⟨some 135, _, _, _, _, _⟩) (v := ?v17) rfl (by kernel_rfl) (by kernel_rfl) (by kernel_rfl) (fun _ _ _ h => h) (Or.inl ⟨by rfl, ?hy17⟩) (by assumption) ?_
                            case hy17 => (intro w hSw; (try dsimp only at hSw); go_simp; try (with_reducible rfl))
                            (try simp only [Act.put, qa_, qb_, qc_])
                            refine wpAnyH_take (i := 10) (oi := ⟨some 136, _, _, _, _, _⟩) (v := ?v18) rfl (by kernel_rfl) (by kernel_rfl) (by kernel_rfl) (fun _ _ _ h => h) (Or.inl ⟨by rfl, ?hy18⟩) (by assumption) ?_
                            case hy18 => (intro w hSw; (try dsimp only at hSw); go_simp; try (with_reducible rfl))
                            (try simp only [Act.put, qa_, qb_, qc_])
                            refine wpAnyH_take (i := 11) (oi := ⟨some 137, _, _, _, _, _⟩) (v := undef) rfl (by kernel_rfl) (by kernel_rfl) (by kernel_rfl) (fun _ _ _ h => h) (Or.inr ⟨by rfl, rfl⟩) (by assumption) ?_
                            (try simp only [Act.put, qa_, qb_, qc_])
                            refine wpAnyH_take (i := 12) (oi := ⟨some 138, _, _, _, _, _⟩) (v := undef) rfl (by kernel_rfl) (by kernel_rfl) (by kernel_rfl) (fun _ _ _ h => h) (Or.inr ⟨by rfl, rfl⟩) (by assumption) ?_
                            (try simp only [Act.put, qa_, qb_, qc_])
                            refine wpAnyH_take (i := 13) (oi := ⟨some 139, _, _, _, _, _⟩) (v := undef) rfl (by kernel_rfl) (by kernel_rfl) (by kernel_rfl) (fun _ _ _ h => h) (Or.inr ⟨by rfl, rfl⟩) (by assumption) ?_
                            (try simp only [Act.put, qa_, qb_, qc_])
                            refine wpAnyH_take (i := 14) (oi := ⟨some 140, _, _, _, _, _⟩) (v := undef) rfl (by kernel_rfl) (by kernel_rfl) (by kernel_rfl) (fun _ _ _ h => h) (Or.inr ⟨by rfl, rfl⟩) (by assumption) ?_
                            (try simp only [Act.put, qa_, qb_, qc_])
                            refine wpAnyH_take (i := 15) (oi := ⟨some 141, _, _, _, _, _⟩) (v := undef) rfl (by kernel_rfl) (by kernel_rfl) (by kernel_rfl) (fun _ _ _ h => h) (Or.inr ⟨by rfl, rfl⟩) (by assumption) ?_
                            (try simp only [Act.put, qa_, qb_, qc_])
                            refine wpAnyH_take (i := 16) (oi := ⟨some 142, _, _, _, _, _⟩) (v := ?v19) rfl (by kernel_rfl) (by kernel_rfl) (by kernel_rfl) (fun _ _ _ h => h) (Or.inl ⟨by rfl, ?hy19⟩) (by assumption) ?_
                            case hy19 => (intro w hSw; (try dsimp only at hSw); go_simp; try (with_reducible rfl))
                            (try simp only [Act.put, qa_, qb_, qc_])
                            refine wpAnyH_take (i := 17) (oi := ⟨some 143, _, _, _, _, _⟩) (v := ?v20) rfl (by kernel_rfl) (by kernel_rfl) (by kernel_rfl) (fun _ _ _ h => h) (Or.inl ⟨by rfl, ?hy20⟩) (by assumption) ?_
                            case hy20 => (intro w hSw; (try dsimp only at hSw); go_simp; try (with_reducible rfl))
                            (try simp only [Act.put, qa_, qb_, qc_])
                            refine wpAnyH_take (i := 18) (oi := ⟨some 144, _, _, _, _, _⟩) (v := undef) rfl (by kernel_rfl) (by kernel_rfl) (by kernel_rfl) (fun _ _ _ h => h) (Or.inr ⟨by rfl, rfl⟩) (by assumption) ?_
                            (try simp only [Act.put, qa_, qb_, qc_])
                            refine wpAnyH_take (i := 19) (oi := ⟨some 145, _, _, _, _, _⟩) (v := undef) rfl (by kernel_rfl) (by kernel_rfl) (by kernel_rfl) (fun _ _ _ h => h) (Or.inr ⟨by rfl, rfl⟩) (by assumption) ?_
                            (try simp only [Act.put, qa_, qb_, qc_])
                            refine wpAnyH_take (i := 20) (oi := ⟨some 146, _, _, _, _, _⟩) (v := undef) rfl (by kernel_rfl) (by kernel_rfl) (by kernel_rfl) (fun _ _ _ h => h) (Or.inr ⟨by rfl, rfl⟩) (by assumption) ?_
                            (try simp only [Act.put, qa_, qb_, qc_])
                            refine wpAnyH_take (i := 21) (oi := ⟨some 147, _, _, _, _, _⟩) (v := undef) rfl (by kernel_rfl) (by kernel_rfl) (by kernel_rfl) (fun _ _ _ h => h) (Or.inr ⟨by rfl, rfl⟩) (by assumption) ?_
                            (try simp only [Act.put, qa_, qb_, qc_])
                            refine wpAnyH_take (i := 22) (oi := ⟨some 148, _, _, _, _, _⟩) (v := undef) rfl (by kernel_rfl) (by kernel_rfl) (by kernel_rfl) (fun _ _ _ h => h) (Or.inr ⟨by rfl, rfl⟩) (by assumption) ?_
                            (try simp only [Act.put, qa_, qb_, qc_])
                            refine wpAnyH_take (i := 23) (oi := ⟨some 149, _, _, _, _, _⟩) (v := undef) rfl (by kernel_rfl) (by kernel_rfl) (by kernel_rfl) (fun _ _ _ h => h) (Or.inr ⟨by rfl, rfl⟩) (by assumption) ?_
                            (try simp only [Act.put, qa_, qb_, qc_])
                            refine wpAnyH_take (i := 24) (oi := ⟨some 150, _, _, _, _, _⟩) (v := undef) rfl (by kernel_rfl) (by kernel_rfl) (by kernel_rfl) (fun _ _ _ h => h) (Or.inr ⟨by rfl, rfl⟩) (by assumption) ?_
                            (try simp only [Act.put, qa_, qb_, qc_])
                            refine wpAnyH_take (i := 25) (oi := ⟨some 151, _, _, _, _, _⟩) (v := undef) rfl (by kernel_rfl) (by kernel_rfl) (by kernel_rfl) (fun _ _ _ h => h) (Or.inr ⟨by rfl, rfl⟩) (by assumption) ?_
                            (try simp only [Act.put, qa_, qb_, qc_])
                            refine wpAnyH_take (i := 26) (oi := ⟨some 152, _, _, _, _, _⟩) (v := undef) rfl (by kernel_rfl) (by kernel_rfl) (by kernel_rfl) (fun _ _ _ h => h) (Or.inr ⟨by rfl, rfl⟩) (by assumption) ?_
                            (try simp only [Act.put, qa_, qb_, qc_])
                            refine wpAnyH_take (i := 27) (oi := ⟨some 153, _, _, _, _, _⟩) (v := undef) rfl (by kernel_rfl) (by kernel_rfl) (by kernel_rfl) (fun _ _ _ h => h) (Or.inr ⟨by rfl, rfl⟩) (by assumption) ?_
                            (try simp only [Act.put, qa_, qb_, qc_])
                            refine wpAnyH_take (i := 28) (oi := ⟨some 154, _, _, _, _, _⟩) (v := undef) rfl (by kernel_rfl) (by kernel_rfl) (by kernel_rfl) (fun _ _ _ h => h) (Or.inr ⟨by rfl, rfl⟩) (by assumption) ?_
                            (try simp only [Act.put, qa_, qb_, qc_])
                            refine wpAnyH_take (i := 29) (oi := ⟨some 155, _, _, _, _, _⟩) (v := undef) rfl (by kernel_rfl) (by kernel_rfl) (by kernel_rfl) (fun _ _ _ h => h) (Or.inr ⟨by rfl, rfl⟩) (by assumption) ?_
                            (try simp only [Act.put, qa_, qb_, qc_])
                            refine wpAnyH_take (i := 30) (oi := ⟨some 156, _, _, _, _, _⟩) (v := undef) rfl (by kernel_rfl) (by kernel_rfl) (by kernel_rfl) (fun _ _ _ h => h) (Or.inr ⟨by rfl, rfl⟩) (by assumption) ?_
                            (try simp only [Act.put, qa_, qb_, qc_])
                            refine wpAnyH_take (i := 31) (oi := ⟨some 157, _, _, _, _, _⟩) (v := undef) rfl (by kernel_rfl) (by kernel_rfl) (by kernel_rfl) (fun _ _ _ h => h) (Or.inr ⟨by rfl, rfl⟩) (by assumption) ?_
                            (try simp only [Act.put, qa_, qb_, qc_])
                            refine wpAnyH_take (i := 32) (oi := ⟨some 158, _, _, _, _, _⟩) (v := ?v21) rfl (by kernel_rfl) (by kernel_rfl) (by kernel_rfl) (fun _ _ _ h => h) (Or.inl ⟨by rfl, ?hy21⟩) (by assumption) ?_
                            case hy21 => (intro w hSw; (try dsimp only at hSw); go_simp; try (with_reducible rfl))
                            (try simp only [Act.put, qa_, qb_, qc_])
                            refine wpAnyH_done (by kernel_rfl) ?_ _
                            go_wp2_with fail
                            go_meet
                            exact ⟨hsq, bad_t (by rw [HBP.out]; exact .inr (.inl H1.out))⟩
                          exact AllReadyH.nil
                      have d1 : (p.1 != a.1) = false := by simpa using h1
                      have H1 := Lib.hid h1
                      clear h1
                      by_cases h2 : p.2.2.1 = a.2.1
                      rotate_left
                      · have d2 : (p.2.2.1 != a.2.1) = true := by simpa using h2
                        have H2 := Lib.hid h2
                        clear h2
                        as_aux_lemma =>
                          go_wp2_with fail
                          refine wp_region_held_drew (S := (fun w' => w'.cell? ⟨wr.heap.size, 0, none⟩ = some (.int .i64 p.1) ∧ w'.cell? ⟨wr.heap.size, 1, none⟩ = some (.int .i64 p.2.1) ∧ w'.cell? ⟨wr.heap.size, 2, none⟩ = some (.int .i64 p.2.2.1) ∧ w'.cell? ⟨wr.heap.size, 3, none⟩ = some (.slice A6 n6 c6) ∧ w'.cell? ⟨w5.heap.size, 0, none⟩ = some (.int .i64 a.1) ∧ w'.cell? ⟨w5.heap.size, 1, none⟩ = some (.int .i64 a.2.1))) (by kernel_rfl) (by exact ⟨m0, m1, m2, m3, v0, v1⟩) (fun hHeld => ?_)
                          refine wpAnyH_take (i := 0) (oi := ⟨some 126, _, _, _, _, _⟩) (v := ?v22) rfl (by kernel_rfl) (by kernel_rfl) (by kernel_rfl) (fun _ _ _ h => h) (Or.inl ⟨by rfl, ?hy22⟩) (by assumption) ?_
                          case hy22 => (intro w hSw; (try dsimp only at hSw); go_simp; try (with_reducible rfl))
                          (try simp only [Act.put, qa_, qb_, qc_])
                          refine wpAnyH_ready (rs := [1]) (by kernel_rfl) (by simp) ?_
                          refine AllReadyH.cons rfl (fun K hK => ?_) ?_
                          · go_simp
                            go_at_call 38
                            refine (s_PieceOk (tPiece.reach (tPiece.reach hRp hB) (belx)) hzp).mono ?_
                            rintro e wq ⟨rfl, hbq⟩
                            rw [HPC.out]
                            have hsq : Below wr.heap.size wr wq := bel_trans (belx) hbq
                            have T8 := Box.below (Box.drew T7) hbq (Box.drew T7).size
                            have W8 := Box.below (Box.drew W7) hbq (Box.drew W7).size
                            go_wp2_with fail
                            refine hK.out _ _ (by exact ⟨T8.cell 0, T8.cell 1, T8.cell 2, T8.cell 3, W8.cell 0, W8.cell 1⟩) (fun hHeld => ?_)
                            clear hK K
                            (try simp only [Act.put, qa_, qb_, qc_])
                            refine wpAnyH_take (i := 2) (oi := ⟨some 128, _, _, _, _, _⟩) (v := ?v23) rfl (by kernel_rfl) (by kernel_rfl) (by kernel_rfl) (fun _ _ _ h => h) (Or.inl ⟨by rfl, ?hy23⟩) (by assumption) ?_
                            case hy23 => (intro w hSw; (try dsimp only at hSw); go_simp; try (with_reducible rfl))
                            (try simp only [Act.put, qa_, qb_, qc_])
                            refine wpAnyH_take (i := 3) (oi := ⟨some 129, _, _, _, _, _⟩) (v := ?v24) rfl (by kernel_rfl) (by kernel_rfl) (by kernel_rfl) (fun _ _ _ h => h) (Or.inl ⟨by rfl, ?hy24⟩) (by assumption) ?_
                            case hy24 => (intro w hSw; (try dsimp only at hSw); go_simp; try (with_reducible rfl))
                            (try simp only [Act.put, qa_, qb_, qc_])
                            refine wpAnyH_take (i := 4) (oi := ⟨some 130, _, _, _, _, _⟩) (v := ?v25) rfl (by kernel_rfl) (by kernel_rfl) (by kernel_rfl) (fun _ _ _ h => h) (Or.inl ⟨by rfl, ?hy25⟩) (by assumption) ?_
                            case hy25 => (intro w hSw; (try dsimp only at hSw); go_simp; try (with_reducible rfl))
                            (try simp only [Act.put, qa_, qb_, qc_])
                            refine wpAnyH_take (i := 5) (oi := ⟨some 131, _, _, _, _, _⟩) (v := ?v26) rfl (by kernel_rfl) (by kernel_rfl) (by kernel_rfl) (fun _ _ _ h => h) (Or.inl ⟨by rfl, ?hy26⟩) (by assumption) ?_
                            case hy26 => (intro w hSw; (try dsimp only at hSw); go_simp; try (with_reducible rfl))
                            (try simp only [Act.put, qa_, qb_, qc_])
                            refine wpAnyH_take (i := 6) (oi := ⟨some 132, _, _, _, _, _⟩) (v := ?v27) rfl (by kernel_rfl) (by kernel_rfl) (by kernel_rfl) (fun _ _ _ h => h) (Or.inl ⟨by rfl, ?hy27⟩) (by assumption) ?_
                            case hy27 => (intro w hSw; (try dsimp only at hSw); go_simp; try (with_reducible rfl))
                            (try simp only [Act.put, qa_, qb_, qc_])
                            refine wpAnyH_take (i := 7) (oi := ⟨some 133, _, _, _, _, _⟩) (v := ?v28) rfl (by kernel_rfl) (by kernel_rfl) (by kernel_rfl) (fun _ _ _ h => h) (Or.inl ⟨by rfl, ?hy28⟩) (by assumption) ?_
                            case hy28 => (intro w hSw; (try dsimp only at hSw); go_simp; try (with_reducible rfl))
                            (try simp only [Act.put, qa_, qb_, qc_])
                            refine wpAnyH_take (i := 8) (oi := ⟨some 134, _, _, _, _, _⟩) (v := ?v29) rfl (by kernel_rfl) (by kernel_rfl) (by kernel_rfl) (fun _ _ _ h => h) (Or.inl ⟨by rfl, ?hy29⟩) (by assumption) ?_
                            case hy29 => (intro w hSw; (try dsimp only at hSw); go_simp; try (with_reducible rfl))
                            (try simp only [Act.put, qa_, qb_, qc_])
                            refine wpAnyH_take (i := 9) (oi := ⟨some 135, _, _, _, _, _⟩) (v := ?v30) rfl (by kernel_rfl) (by kernel_rfl) (by kernel_rfl) (fun _ _ _ h => h) (Or.inl ⟨by rfl, ?hy30⟩) (by assumption) ?_
                            case hy30 => (intro w hSw; (try dsimp only at hSw); go_simp; try (with_reducible rfl))
                            (try simp only [Act.put, qa_, qb_, qc_])
                            refine wpAnyH_take (i := 10) (oi := ⟨some 136, _, _, _, _, _⟩) (v := ?v31) rfl (by kernel_rfl) (by kernel_rfl) (by kernel_rfl) (fun _ _ _ h => h) (Or.inl ⟨by rfl, ?hy31⟩) (by assumption) ?_
                            case hy31 => (intro w hSw; (try dsimp only at hSw); go_simp; try (with_reducible rfl))
                            (try simp only [Act.put, qa_, qb_, qc_])
                            refine wpAnyH_take (i := 11) (oi := ⟨some 137, _, _, _, _, _⟩) (v := ?v32) rfl (by kernel_rfl) (by kernel_rfl) (by kernel_rfl) (fun _ _ _ h => h) (Or.inl ⟨by rfl, ?hy32⟩) (by assumption) ?_
                            case hy32 => (intro w hSw; (try dsimp only at hSw); go_simp; try (with_reducible rfl))
                            (try simp only [Act.put, qa_, qb_, qc_])
                            refine wpAnyH_take (i := 12) (oi := ⟨some 138, _, _, _, _, _⟩) (v := ?v33) rfl (by kernel_rfl) (by kernel_rfl) (by kernel_rfl) (fun _ _ _ h => h) (Or.inl ⟨by rfl, ?hy33⟩) (by assumption) ?_
                            case hy33 => (intro w hSw; (try dsimp only at hSw); go_simp; try (with_reducible rfl))
                            (try simp only [Act.put, qa_, qb_, qc_])
                            refine wpAnyH_take (i := 13) (oi := ⟨some 139, _, _, _, _, _⟩) (v := ?v34) rfl (by kernel_rfl) (by kernel_rfl) (by kernel_rfl) (fun _ _ _ h => h) (Or.inl ⟨by rfl, ?hy34⟩) (by assumption) ?_
                            case hy34 => (intro w hSw; (try dsimp only at hSw); go_simp; try (with_reducible rfl))
                            (try simp only [Act.put, qa_, qb_, qc_])
                            refine wpAnyH_take (i := 14) (oi := ⟨some 140, _, _, _, _, _⟩) (v := ?v35) rfl (by kernel_rfl) (by kernel_rfl) (by kernel_rfl) (fun _ _ _ h => h) (Or.inl ⟨by rfl, ?hy35⟩) (by assumption) ?_
                            case hy35 => (intro w hSw; (try dsimp only at hSw); go_simp; try (with_reducible rfl))
                            (try simp only [Act.put, qa_, qb_, qc_])
                            refine wpAnyH_take (i := 15) (oi := ⟨some 141, _, _, _, _, _⟩) (v := ?v36) rfl (by kernel_rfl) (by kernel_rfl) (by kernel_rfl) (fun _ _ _ h => h) (Or.inl ⟨by rfl, ?hy36⟩) (by assumption) ?_
                            case hy36 => (intro w hSw; (try dsimp only at hSw); go_simp; try (with_reducible rfl))
                            (try simp only [Act.put, qa_, qb_, qc_])
                            refine wpAnyH_take (i := 16) (oi := ⟨some 142, _, _, _, _, _⟩) (v := ?v37) rfl (by kernel_rfl) (by kernel_rfl) (by kernel_rfl) (fun _ _ _ h => h) (Or.inl ⟨by rfl, ?hy37⟩) (by assumption) ?_
                            case hy37 => (intro w hSw; (try dsimp only at hSw); go_simp; try (with_reducible rfl))
                            (try simp only [Act.put, qa_, qb_, qc_])
                            refine wpAnyH_take (i := 17) (oi := ⟨some 143, _, _, _, _, _⟩) (v := ?v38) rfl (by kernel_rfl) (by kernel_rfl) (by kernel_rfl) (fun _ _ _ h => h) (Or.inl ⟨by rfl, ?hy38⟩) (by assumption) ?_
                            case hy38 => (intro w hSw; (try dsimp only at hSw); go_simp; try (with_reducible rfl))
                            (try simp only [Act.put, qa_, qb_, qc_])
                            refine wpAnyH_take (i := 18) (oi := ⟨some 144, _, _, _, _, _⟩) (v := undef) rfl (by kernel_rfl) (by kernel_rfl) (by kernel_rfl) (fun _ _ _ h => h) (Or.inr ⟨by rfl, rfl⟩) (by assumption) ?_
                            (try simp only [Act.put, qa_, qb_, qc_])
                            refine wpAnyH_take (i := 19) (oi := ⟨some 145, _, _, _, _, _⟩) (v := undef) rfl (by kernel_rfl) (by kernel_rfl) (by kernel_rfl) (fun _ _ _ h => h) (Or.inr ⟨by rfl, rfl⟩) (by assumption) ?_
                            (try simp only [Act.put, qa_, qb_, qc_])
                            refine wpAnyH_take (i := 20) (oi := ⟨some 146, _, _, _, _, _⟩) (v := undef) rfl (by kernel_rfl) (by kernel_rfl) (by kernel_rfl) (fun _ _ _ h => h) (Or.inr ⟨by rfl, rfl⟩) (by assumption) ?_
                            (try simp only [Act.put, qa_, qb_, qc_])
                            refine wpAnyH_take (i := 21) (oi := ⟨some 147, _, _, _, _, _⟩) (v := undef) rfl (by kernel_rfl) (by kernel_rfl) (by kernel_rfl) (fun _ _ _ h => h) (Or.inr ⟨by rfl, rfl⟩) (by assumption) ?_
                            (try simp only [Act.put, qa_, qb_, qc_])
                            refine wpAnyH_take (i := 22) (oi := ⟨some 148, _, _, _, _, _⟩) (v := undef) rfl (by kernel_rfl) (by kernel_rfl) (by kernel_rfl) (fun _ _ _ h => h) (Or.inr ⟨by rfl, rfl⟩) (by assumption) ?_
                            (try simp only [Act.put, qa_, qb_, qc_])
                            refine wpAnyH_take (i := 23) (oi := ⟨some 149, _, _, _, _, _⟩) (v := undef) rfl (by kernel_rfl) (by kernel_rfl) (by kernel_rfl) (fun _ _ _ h => h) (Or.inr ⟨by rfl, rfl⟩) (by assumption) ?_
                            (try simp only [Act.put, qa_, qb_, qc_])
                            refine wpAnyH_take (i := 24) (oi := ⟨some 150, _, _, _, _, _⟩) (v := undef) rfl (by kernel_rfl) (by kernel_rfl) (by kernel_rfl) (fun _ _ _ h => h) (Or.inr ⟨by rfl, rfl⟩) (by assumption) ?_
                            (try simp only [Act.put, qa_, qb_, qc_])
                            refine wpAnyH_take (i := 25) (oi := ⟨some 151, _, _, _, _, _⟩) (v := undef) rfl (by kernel_rfl) (by kernel_rfl) (by kernel_rfl) (fun _ _ _ h => h) (Or.inr ⟨by rfl, rfl⟩) (by assumption) ?_
                            (try simp only [Act.put, qa_, qb_, qc_])
                            refine wpAnyH_take (i := 26) (oi := ⟨some 152, _, _, _, _, _⟩) (v := undef) rfl (by kernel_rfl) (by kernel_rfl) (by kernel_rfl) (fun _ _ _ h => h) (Or.inr ⟨by rfl, rfl⟩) (by assumption) ?_
                            (try simp only [Act.put, qa_, qb_, qc_])
                            refine wpAnyH_take (i := 27) (oi := ⟨some 153, _, _, _, _, _⟩) (v := undef) rfl (by kernel_rfl) (by kernel_rfl) (by kernel_rfl) (fun _ _ _ h => h) (Or.inr ⟨by rfl, rfl⟩) (by assumption) ?_
                            (try simp only [Act.put, qa_, qb_, qc_])
                            refine wpAnyH_take (i := 28) (oi := ⟨some 154, _, _, _, _, _⟩) (v := undef) rfl (by kernel_rfl) (by kernel_rfl) (by kernel_rfl) (fun _ _ _ h => h) (Or.inr ⟨by rfl, rfl⟩) (by assumption) ?_
                            (try simp only [Act.put, qa_, qb_, qc_])
                            refine wpAnyH_take (i := 29) (oi := ⟨some 155, _, _, _, _, _⟩) (v := undef) rfl (by kernel_rfl) (by kernel_rfl) (by kernel_rfl) (fun _ _ _ h => h) (Or.inr ⟨by rfl, rfl⟩) (by assumption) ?_
                            (try simp only [Act.put, qa_, qb_, qc_])
                            refine wpAnyH_take (i := 30) (oi := ⟨some 156, _, _, _, _, _⟩) (v := undef) rfl (by kernel_rfl) (by kernel_rfl) (by kernel_rfl) (fun _ _ _ h => h) (Or.inr ⟨by rfl, rfl⟩) (by assumption) ?_
                            (try simp only [Act.put, qa_, qb_, qc_])
                            refine wpAnyH_take (i := 31) (oi := ⟨some 157, _, _, _, _, _⟩) (v := undef) rfl (by kernel_rfl) (by kernel_rfl) (by kernel_rfl) (fun _ _ _ h => h) (Or.inr ⟨by rfl, rfl⟩) (by assumption) ?_
                            (try simp only [Act.put, qa_, qb_, qc_])
                            refine wpAnyH_take (i := 32) (oi := ⟨some 158, _, _, _, _, _⟩) (v := ?v39) rfl (by kernel_rfl) (by kernel_rfl) (by kernel_rfl) (fun _ _ _ h => h) (Or.inl ⟨by rfl, ?hy39⟩) (by assumption) ?_
                            case hy39 => (intro w hSw; (try dsimp only at hSw); go_simp; try (with_reducible rfl))
                            (try simp only [Act.put, qa_, qb_, qc_])
                            refine wpAnyH_done (by kernel_rfl) ?_ _
                            go_wp2_with fail
                            go_meet
                            exact ⟨hsq, bad_t (by rw [HBP.out]; exact .inr (.inr (.inl H2.out)))⟩
                          exact AllReadyH.nil
                      have d2 : (p.2.2.1 != a.2.1) = false := by simpa using h2
                      have H2 := Lib.hid h2
                      clear h2
                      as_aux_lemma =>
                        go_wp2_with fail
                        refine wp_region_held_drew (S := (fun w' => w'.cell? ⟨wr.heap.size, 0, none⟩ = some (.int .i64 p.1) ∧ w'.cell? ⟨wr.heap.size, 1, none⟩ = some (.int .i64 p.2.1) ∧ w'.cell? ⟨wr.heap.size, 2, none⟩ = some (.int .i64 p.2.2.1) ∧ w'.cell? ⟨wr.heap.size, 3, none⟩ = some (.slice A6 n6 c6) ∧ w'.cell? ⟨w5.heap.size, 0, none⟩ = some (.int .i64 a.1) ∧ w'.cell? ⟨w5.heap.size, 1, none⟩ = some (.int .i64 a.2.1))) (by kernel_rfl) (by exact ⟨m0, m1, m2, m3, v0, v1⟩) (fun hHeld => ?_)
                        refine wpAnyH_take (i := 0) (oi := ⟨some 126, _, _, _, _, _⟩) (v := ?v40) rfl (by kernel_rfl) (by kernel_rfl) (by kernel_rfl) (fun _ _ _ h => h) (Or.inl ⟨by rfl, ?hy40⟩) (by assumption) ?_
                        case hy40 => (intro w hSw; (try dsimp only at hSw); go_simp; try (with_reducible rfl))
                        (try simp only [Act.put, qa_, qb_, qc_])
                        refine wpAnyH_ready (rs := [1]) (by kernel_rfl) (by simp) ?_
                        refine AllReadyH.cons rfl (fun K hK => ?_) ?_
                        · go_simp
                          go_at_call 38
                          refine (s_PieceOk (tPiece.reach (tPiece.reach hRp hB) (belx)) hzp).mono ?_
                          rintro e wq ⟨rfl, hbq⟩
                          rw [HPC.out]
                          have hsq : Below wr.heap.size wr wq := bel_trans (belx) hbq
                          have T8 := Box.below (Box.drew T7) hbq (Box.drew T7).size
                          have W8 := Box.below (Box.drew W7) hbq (Box.drew W7).size
                          go_wp2_with fail
                          refine hK.out _ _ (by exact ⟨T8.cell 0, T8.cell 1, T8.cell 2, T8.cell 3, W8.cell 0, W8.cell 1⟩) (fun hHeld => ?_)
                          clear hK K
                          (try simp only [Act.put, qa_, qb_, qc_])
                          refine wpAnyH_take (i := 2) (oi := ⟨some 128, _, _, _, _, _⟩) (v := ?v41) rfl (by kernel_rfl) (by kernel_rfl) (by kernel_rfl) (fun _ _ _ h => h) (Or.inl ⟨by rfl, ?hy41⟩) (by assumption) ?_
                          case hy41 => (intro w hSw; (try dsimp only at hSw); go_simp; try (with_reducible rfl))
                          (try simp only [Act.put, qa_, qb_, qc_])
                          refine wpAnyH_take (i := 3) (oi := ⟨some 129, _, _, _, _, _⟩) (v := ?v42) rfl (by kernel_rfl) (by kernel_rfl) (by kernel_rfl) (fun _ _ _ h => h) (Or.inl ⟨by rfl, ?hy42⟩) (by assumption) ?_
                          case hy42 => (intro w hSw; (try dsimp only at hSw); go_simp; try (with_reducible rfl))
                          (try simp only [Act.put, qa_, qb_, qc_])
                          refine wpAnyH_take (i := 4) (oi := ⟨some 130, _, _, _, _, _⟩) (v := ?v43) rfl (by kernel_rfl) (by kernel_rfl) (by kernel_rfl) (fun _ _ _ h => h) (Or.inl ⟨by rfl, ?hy43⟩) (by assumption) ?_
                          case hy43 => (intro w hSw; (try dsimp only at hSw); go_simp; try (with_reducible rfl))
                          (try simp only [Act.put, qa_, qb_, qc_])
                          refine wpAnyH_take (i := 5) (oi := ⟨some 131, _, _, _, _, _⟩) (v := ?v44) rfl (by kernel_rfl) (by kernel_rfl) (by kernel_rfl) (fun _ _ _ h => h) (Or.inl ⟨by rfl, ?hy44⟩) (by assumption) ?_
                          case hy44 => (intro w hSw; (try dsimp only at hSw); go_simp; try (with_reducible rfl))
                          (try simp only [Act.put, qa_, qb_, qc_])
                          refine wpAnyH_take (i := 6) (oi := ⟨some 132, _, _, _, _, _⟩) (v := ?v45) rfl (by kernel_rfl) (by kernel_rfl) (by kernel_rfl) (fun _ _ _ h => h) (Or.inl ⟨by rfl, ?hy45⟩) (by assumption) ?_
                          case hy45 => (intro w hSw; (try dsimp only at hSw); go_simp; try (with_reducible rfl))
                          (try simp only [Act.put, qa_, qb_, qc_])
                          refine wpAnyH_take (i := 7) (oi := ⟨some 133, _, _, _, _, _⟩) (v := ?v46) rfl (by kernel_rfl) (by kernel_rfl) (by kernel_rfl) (fun _ _ _ h => h) (Or.inl ⟨by rfl, ?hy46⟩) (by assumption) ?_
                          case hy46 => (intro w hSw; (try dsimp only at hSw); go_simp; try (with_reducible rfl))
                          (try simp only [Act.put, qa_, qb_, qc_])
                          refine wpAnyH_take (i := 8) (oi := ⟨some 134, _, _, _, _, _⟩) (v := ?v47) rfl (by kernel_rfl) (by kernel_rfl) (by kernel_rfl) (fun _ _ _ h => h) (Or.inl ⟨by rfl, ?hy47⟩) (by assumption) ?_
                          case hy47 => (intro w hSw; (try dsimp only at hSw); go_simp; try (with_reducible rfl))
                          (try simp only [Act.put, qa_, qb_, qc_])
                          refine wpAnyH_take (i := 9) (oi := ⟨some 135, _, _, _, _, _⟩) (v := ?v48) rfl (by kernel_rfl) (by kernel_rfl) (by kernel_rfl) (fun _ _ _ h => h) (Or.inl ⟨by rfl, ?hy48⟩) (by assumption) ?_
                          case hy48 => (intro w hSw; (try dsimp only at hSw); go_simp; try (with_reducible rfl))
                          (try simp only [Act.put, qa_, qb_, qc_])
                          refine wpAnyH_take (i := 10) (oi := ⟨some 136, _, _, _, _, _⟩) (v := ?v49) rfl (by kernel_rfl) (by kernel_rfl) (by kernel_rfl) (fun _ _ _ h => h) (Or.inl ⟨by rfl, ?hy49⟩) (by assumption) ?_
                          case hy49 => (intro w hSw; (try dsimp only at hSw); go_simp; try (with_reducible rfl))
                          (try simp only [Act.put, qa_, qb_, qc_])
                          refine wpAnyH_take (i := 11) (oi := ⟨some 137, _, _, _, _, _⟩) (v := ?v50) rfl (by kernel_rfl) (by kernel_rfl) (by kernel_rfl) (fun _ _ _ h => h) (Or.inl ⟨by rfl, ?hy50⟩) (by assumption) ?_
                          case hy50 => (intro w hSw; (try dsimp only at hSw); go_simp; try (with_reducible rfl))
                          (try simp only [Act.put, qa_, qb_, qc_])
                          refine wpAnyH_take (i := 12) (oi := ⟨some 138, _, _, _, _, _⟩) (v := ?v51) rfl (by kernel_rfl) (by kernel_rfl) (by kernel_rfl) (fun _ _ _ h => h) (Or.inl ⟨by rfl, ?hy51⟩) (by assumption) ?_
                          case hy51 => (intro w hSw; (try dsimp only at hSw); go_simp; try (with_reducible rfl))
                          (try simp only [Act.put, qa_, qb_, qc_])
                          refine wpAnyH_take (i := 13) (oi := ⟨some 139, _, _, _, _, _⟩) (v := ?v52) rfl (by kernel_rfl) (by kernel_rfl) (by kernel_rfl) (fun _ _ _ h => h) (Or.inl ⟨by rfl, ?hy52⟩) (by assumption) ?_
                          case hy52 => (intro w hSw; (try dsimp only at hSw); go_simp; try (with_reducible rfl))
                          (try simp only [Act.put, qa_, qb_, qc_])
                          refine wpAnyH_take (i := 14) (oi := ⟨some 140, _, _, _, _, _⟩) (v := ?v53) rfl (by kernel_rfl) (by kernel_rfl) (by kernel_rfl) (fun _ _ _ h => h) (Or.inl ⟨by rfl, ?hy53⟩) (by assumption) ?_
                          case hy53 => (intro w hSw; (try dsimp only at hSw); go_simp; try (with_reducible rfl))
                          (try simp only [Act.put, qa_, qb_, qc_])
                          refine wpAnyH_take (i := 15) (oi := ⟨some 141, _, _, _, _, _⟩) (v := ?v54) rfl (by kernel_rfl) (by kernel_rfl) (by kernel_rfl) (fun _ _ _ h => h) (Or.inl ⟨by rfl, ?hy54⟩) (by assumption) ?_
                          case hy54 => (intro w hSw; (try dsimp only at hSw); go_simp; try (with_reducible rfl))
                          (try simp only [Act.put, qa_, qb_, qc_])
                          refine wpAnyH_take (i := 16) (oi := ⟨some 142, _, _, _, _, _⟩) (v := ?v55) rfl (by kernel_rfl) (by kernel_rfl) (by kernel_rfl) (fun _ _ _ h => h) (Or.inl ⟨by rfl, ?hy55⟩) (by assumption) ?_
                          case hy55 => (intro w hSw; (try dsimp only at hSw); go_simp; try (with_reducible rfl))
                          (try simp only [Act.put, qa_, qb_, qc_])
                          refine wpAnyH_take (i := 17) (oi := ⟨some 143, _, _, _, _, _⟩) (v := ?v56) rfl (by kernel_rfl) (by kernel_rfl) (by kernel_rfl) (fun _ _ _ h => h) (Or.inl ⟨by rfl, ?hy56⟩) (by assumption) ?_
                          case hy56 => (intro w hSw; (try dsimp only at hSw); go_simp; try (with_reducible rfl))
                          (try simp only [Act.put, qa_, qb_, qc_])
                          refine wpAnyH_take (i := 18) (oi := ⟨some 144, _, _, _, _, _⟩) (v := ?v57) rfl (by kernel_rfl) (by kernel_rfl) (by kernel_rfl) (fun _ _ _ h => h) (Or.inl ⟨by rfl, ?hy57⟩) (by assumption) ?_
                          case hy57 => (intro w hSw; (try dsimp only at hSw); go_simp; try (with_reducible rfl))
                          (try simp only [Act.put, qa_, qb_, qc_])
                          refine wpAnyH_take (i := 19) (oi := ⟨some 145, _, _, _, _, _⟩) (v := ?v58) rfl (by kernel_rfl) (by kernel_rfl) (by kernel_rfl) (fun _ _ _ h => h) (Or.inl ⟨by rfl, ?hy58⟩) (by assumption) ?_
                          case hy58 => (intro w hSw; (try dsimp only at hSw); go_simp; try (with_reducible rfl))
                          (try simp only [Act.put, qa_, qb_, qc_])
                          refine wpAnyH_take (i := 20) (oi := ⟨some 146, _, _, _, _, _⟩) (v := ?v59) rfl (by kernel_rfl) (by kernel_rfl) (by kernel_rfl) (fun _ _ _ h => h) (Or.inl ⟨by rfl, ?hy59⟩) (by assumption) ?_
                          case hy59 => (intro w hSw; (try dsimp only at hSw); go_simp; try (with_reducible rfl))
                          (try simp only [Act.put, qa_, qb_, qc_])
                          refine wpAnyH_take (i := 21) (oi := ⟨some 147, _, _, _, _, _⟩) (v := undef) rfl (by kernel_rfl) (by kernel_rfl) (by kernel_rfl) (fun _ _ _ h => h) (Or.inr ⟨by rfl, rfl⟩) (by assumption) ?_
                          (try simp only [Act.put, qa_, qb_, qc_])
                          refine wpAnyH_take (i := 22) (oi := ⟨some 148, _, _, _, _, _⟩) (v := undef) rfl (by kernel_rfl) (by kernel_rfl) (by kernel_rfl) (fun _ _ _ h => h) (Or.inr ⟨by rfl, rfl⟩) (by assumption) ?_
                          (try simp only [Act.put, qa_, qb_, qc_])
                          refine wpAnyH_take (i := 23) (oi := ⟨some 149, _, _, _, _, _⟩) (v := undef) rfl (by kernel_rfl) (by kernel_rfl) (by kernel_rfl) (fun _ _ _ h => h) (Or.inr ⟨by rfl, rfl⟩) (by assumption) ?_
                          (try simp only [Act.put, qa_, qb_, qc_])
                          refine wpAnyH_take (i := 24) (oi := ⟨some 150, _, _, _, _, _⟩) (v := undef) rfl (by kernel_rfl) (by kernel_rfl) (by kernel_rfl) (fun _ _ _ h => h) (Or.inr ⟨by rfl, rfl⟩) (by assumption) ?_
                          (try simp only [Act.put, qa_, qb_, qc_])
                          refine wpAnyH_take (i := 25) (oi := ⟨some 151, _, _, _, _, _⟩) (v := undef) rfl (by kernel_rfl) (by kernel_rfl) (by kernel_rfl) (fun _ _ _ h => h) (Or.inr ⟨by rfl, rfl⟩) (by assumption) ?_
                          (try simp only [Act.put, qa_, qb_, qc_])
                          refine wpAnyH_take (i := 26) (oi := ⟨some 152, _, _, _, _, _⟩) (v := undef) rfl (by kernel_rfl) (by kernel_rfl) (by kernel_rfl) (fun _ _ _ h => h) (Or.inr ⟨by rfl, rfl⟩) (by assumption) ?_
                          (try simp only [Act.put, qa_, qb_, qc_])
                          refine wpAnyH_take (i := 27) (oi := ⟨some 153, _, _, _, _, _⟩) (v := undef) rfl (by kernel_rfl) (by kernel_rfl) (by kernel_rfl) (fun _ _ _ h => h) (Or.inr ⟨by rfl, rfl⟩) (by assumption) ?_
                          (try simp only [Act.put, qa_, qb_, qc_])
                          refine wpAnyH_take (i := 28) (oi := ⟨some 154, _, _, _, _, _⟩) (v := undef) rfl (by kernel_rfl) (by kernel_rfl) (by kernel_rfl) (fun _ _ _ h => h) (Or.inr ⟨by rfl, rfl⟩) (by assumption) ?_
                          (try simp only [Act.put, qa_, qb_, qc_])
                          refine wpAnyH_take (i := 29) (oi := ⟨some 155, _, _, _, _, _⟩) (v := undef) rfl (by kernel_rfl) (by kernel_rfl) (by kernel_rfl) (fun _ _ _ h => h) (Or.inr ⟨by rfl, rfl⟩) (by assumption) ?_
                          (try simp only [Act.put, qa_, qb_, qc_])
                          refine wpAnyH_take (i := 30) (oi := ⟨some 156, _, _, _, _, _⟩) (v := undef) rfl (by kernel_rfl) (by kernel_rfl) (by kernel_rfl) (fun _ _ _ h => h) (Or.inr ⟨by rfl, rfl⟩) (by assumption) ?_
                          (try simp only [Act.put, qa_, qb_, qc_])
                          refine wpAnyH_take (i := 31) (oi := ⟨some 157, _, _, _, _, _⟩) (v := ?v60) rfl (by kernel_rfl) (by kernel_rfl) (by kernel_rfl) (fun _ _ _ h => h) (Or.inl ⟨by rfl, ?hy60⟩) (by assumption) ?_
                          case hy60 => (intro w hSw; (try dsimp only at hSw); go_simp; try (with_reducible rfl))
                          (try simp only [Act.put, qa_, qb_, qc_])
                          refine wpAnyH_take (i := 32) (oi := ⟨some 158, _, _, _, _, _⟩) (v := ?v61) rfl (by kernel_rfl) (by kernel_rfl) (by kernel_rfl) (fun _ _ _ h => h) (Or.inl ⟨by rfl, ?hy61⟩) (by assumption) ?_
                          case hy61 => (intro w hSw; (try dsimp only at hSw); go_simp; try (with_reducible rfl))
                          (try simp only [Act.put, qa_, qb_, qc_])
                          refine wpAnyH_done (by kernel_rfl) ?_ _
                          go_wp2_with fail
                          go_meet
                          exact ⟨hsq, bad_f (by rw [HBP.out]; rintro (h | h | h | ⟨r, b, hr, _⟩); exact h HN.out; exact h H1.out; exact h H2.out; omega)⟩
                        exact AllReadyH.nil
                    | succ r =>
                      obtain ⟨b, b4, off4, es4, hlb, hA4, hb4, hes4, hR4⟩ := rowR_at (K := 4) hr3 (show r < n3 by omega) rfl
                      injection hA4 with hA4
                      injection hA4 with e9 e8 _
                      subst e9 e8
                      have HLB := Lib.hid hlb
                      clear hlb
                      obtain ⟨A8, n8, c8, rfl, -, -, -, -, -, -, -⟩ := openPiece hR4
                      have i5 : decide ((0 : Int) < (r : Int) + 1) = true := decide_eq_true (by omega)
                      have i6 : (r : Int) < (n3 : Int) := by omega
                      have i7 : (0 : Int) ≤ (r : Int) := by omega
                      have i8 : IntKind.i64.wrap (r : Int) = (r : Int) := IntWalk.i64_in _ (by omega)
                      have u0 : wr.cell? ⟨b3, off3 + r * 4 + 1, none⟩ = some (.int .i64 b.2.1) := cell_at hB hb3 (hes4 1 (by omega))
                      have u1 := cell_bel (w' := wr.alloc (.cells #[.int .i64 p.1, .int .i64 p.2.1, .int .i64 p.2.2.1, .slice A6 n6 c6] 37)) (belx) u0
                      clear hes4 hR4
                      by_cases hpc : PcOk p
                      rotate_left
                      · have HPC := Lib.hid (decide_eq_false hpc)
                        have HN := Lib.hid hpc
                        clear hpc
                        as_aux_lemma =>
                          go_wp2_with fail
                          refine wp_region_held_drew (S := (fun w' => w'.cell? ⟨wr.heap.size, 0, none⟩ = some (.int .i64 p.1) ∧ w'.cell? ⟨wr.heap.size, 1, none⟩ = some (.int .i64 p.2.1) ∧ w'.cell? ⟨wr.heap.size, 2, none⟩ = some (.int .i64 p.2.2.1) ∧ w'.cell? ⟨wr.heap.size, 3, none⟩ = some (.slice A6 n6 c6) ∧ w'.cell? ⟨w5.heap.size, 0, none⟩ = some (.int .i64 a.1) ∧ w'.cell? ⟨w5.heap.size, 1, none⟩ = some (.int .i64 a.2.1) ∧ w'.cell? ⟨w5.heap.size, 3, none⟩ = some (.slice (some ⟨b3, off3, none⟩) n3 c3) ∧ w'.cell? ⟨b3, off3 + r * 4 + 1, none⟩ = some (.int .i64 b.2.1))) (by kernel_rfl) (by exact ⟨m0, m1, m2, m3, v0, v1, v3, u1⟩) (fun hHeld => ?_)
                          refine wpAnyH_take (i := 0) (oi := ⟨some 126, _, _, _, _, _⟩) (v := ?v62) rfl (by kernel_rfl) (by kernel_rfl) (by kernel_rfl) (fun _ _ _ h => h) (Or.inl ⟨by rfl, ?hy62⟩) (by assumption) ?_
                          case hy62 => (intro w hSw; (try dsimp only at hSw); go_simp; try (with_reducible rfl))
                          (try simp only [Act.put, qa_, qb_, qc_])
                          refine wpAnyH_ready (rs := [1]) (by kernel_rfl) (by simp) ?_
                          refine AllReadyH.cons rfl (fun K hK => ?_) ?_
                          · go_simp
                            go_at_call 38
                            refine (s_PieceOk (tPiece.reach (tPiece.reach hRp hB) (belx)) hzp).mono ?_
                            rintro e wq ⟨rfl, hbq⟩
                            rw [HPC.out]
                            have hsq : Below wr.heap.size wr wq := bel_trans (belx) hbq
                            have T8 := Box.below (Box.drew T7) hbq (Box.drew T7).size
                            have W8 := Box.below (Box.drew W7) hbq (Box.drew W7).size
                            have u2 := cell_bel hsq u0
                            go_wp2_with fail
                            refine hK.out _ _ (by exact ⟨T8.cell 0, T8.cell 1, T8.cell 2, T8.cell 3, W8.cell 0, W8.cell 1, W8.cell 3, u2⟩) (fun hHeld => ?_)
                            clear hK K
                            (try simp only [Act.put, qa_, qb_, qc_])
                            refine wpAnyH_take (i := 2) (oi := ⟨some 128, _, _, _, _, _⟩) (v := ?v63) rfl (by kernel_rfl) (by kernel_rfl) (by kernel_rfl) (fun _ _ _ h => h) (Or.inl ⟨by rfl, ?hy63⟩) (by assumption) ?_
                            case hy63 => (intro w hSw; (try dsimp only at hSw); go_simp; try (with_reducible rfl))
                            (try simp only [Act.put, qa_, qb_, qc_])
                            refine wpAnyH_take (i := 3) (oi := ⟨some 129, _, _, _, _, _⟩) (v := ?v64) rfl (by kernel_rfl) (by kernel_rfl) (by kernel_rfl) (fun _ _ _ h => h) (Or.inl ⟨by rfl, ?hy64⟩) (by assumption) ?_
                            case hy64 => (intro w hSw; (try dsimp only at hSw); go_simp; try (with_reducible rfl))
                            (try simp only [Act.put, qa_, qb_, qc_])
                            refine wpAnyH_take (i := 4) (oi := ⟨some 130, _, _, _, _, _⟩) (v := undef) rfl (by kernel_rfl) (by kernel_rfl) (by kernel_rfl) (fun _ _ _ h => h) (Or.inr ⟨by rfl, rfl⟩) (by assumption) ?_
                            (try simp only [Act.put, qa_, qb_, qc_])
                            refine wpAnyH_take (i := 5) (oi := ⟨some 131, _, _, _, _, _⟩) (v := undef) rfl (by kernel_rfl) (by kernel_rfl) (by kernel_rfl) (fun _ _ _ h => h) (Or.inr ⟨by rfl, rfl⟩) (by assumption) ?_
                            (try simp only [Act.put, qa_, qb_, qc_])
                            refine wpAnyH_take (i := 6) (oi := ⟨some 132, _, _, _, _, _⟩) (v := undef) rfl (by kernel_rfl) (by kernel_rfl) (by kernel_rfl) (fun _ _ _ h => h) (Or.inr ⟨by rfl, rfl⟩) (by assumption) ?_
                            (try simp only [Act.put, qa_, qb_, qc_])
                            refine wpAnyH_take (i := 7) (oi := ⟨some 133, _, _, _, _, _⟩) (v := undef) rfl (by kernel_rfl) (by kernel_rfl) (by kernel_rfl) (fun _ _ _ h => h) (Or.inr ⟨by rfl, rfl⟩) (by assumption) ?_
                            (try simp only [Act.put, qa_, qb_, qc_])
                            refine wpAnyH_take (i := 8) (oi := ⟨some 134, _, _, _, _, _⟩) (v := undef) rfl (by kernel_rfl) (by kernel_rfl) (by kernel_rfl) (fun _ _ _ h => h) (Or.inr ⟨by rfl, rfl⟩) (by assumption) ?_
                            (try simp only [Act.put, qa_, qb_, qc_])
                            refine wpAnyH_take (i := 9) (oi := ⟨some 135, _, _, _, _, _⟩) (v := ?v65) rfl (by kernel_rfl) (by kernel_rfl) (by kernel_rfl) (fun _ _ _ h => h) (Or.inl ⟨by rfl, ?hy65⟩) (by assumption) ?_
                            case hy65 => (intro w hSw; (try dsimp only at hSw); go_simp; try (with_reducible rfl))
                            (try simp only [Act.put, qa_, qb_, qc_])
                            refine wpAnyH_take (i := 10) (oi := ⟨some 136, _, _, _, _, _⟩) (v := ?v66) rfl (by kernel_rfl) (by kernel_rfl) (by kernel_rfl) (fun _ _ _ h => h) (Or.inl ⟨by rfl, ?hy66⟩) (by assumption) ?_
                            case hy66 => (intro w hSw; (try dsimp only at hSw); go_simp; try (with_reducible rfl))
                            (try simp only [Act.put, qa_, qb_, qc_])
                            refine wpAnyH_take (i := 11) (oi := ⟨some 137, _, _, _, _, _⟩) (v := undef) rfl (by kernel_rfl) (by kernel_rfl) (by kernel_rfl) (fun _ _ _ h => h) (Or.inr ⟨by rfl, rfl⟩) (by assumption) ?_
                            (try simp only [Act.put, qa_, qb_, qc_])
                            refine wpAnyH_take (i := 12) (oi := ⟨some 138, _, _, _, _, _⟩) (v := undef) rfl (by kernel_rfl) (by kernel_rfl) (by kernel_rfl) (fun _ _ _ h => h) (Or.inr ⟨by rfl, rfl⟩) (by assumption) ?_
                            (try simp only [Act.put, qa_, qb_, qc_])
                            refine wpAnyH_take (i := 13) (oi := ⟨some 139, _, _, _, _, _⟩) (v := undef) rfl (by kernel_rfl) (by kernel_rfl) (by kernel_rfl) (fun _ _ _ h => h) (Or.inr ⟨by rfl, rfl⟩) (by assumption) ?_
                            (try simp only [Act.put, qa_, qb_, qc_])
                            refine wpAnyH_take (i := 14) (oi := ⟨some 140, _, _, _, _, _⟩) (v := undef) rfl (by kernel_rfl) (by kernel_rfl) (by kernel_rfl) (fun _ _ _ h => h) (Or.inr ⟨by rfl, rfl⟩) (by assumption) ?_
                            (try simp only [Act.put, qa_, qb_, qc_])
                            refine wpAnyH_take (i := 15) (oi := ⟨some 141, _, _, _, _, _⟩) (v := undef) rfl (by kernel_rfl) (by kernel_rfl) (by kernel_rfl) (fun _ _ _ h => h) (Or.inr ⟨by rfl, rfl⟩) (by assumption) ?_
                            (try simp only [Act.put, qa_, qb_, qc_])
                            refine wpAnyH_take (i := 16) (oi := ⟨some 142, _, _, _, _, _⟩) (v := ?v67) rfl (by kernel_rfl) (by kernel_rfl) (by kernel_rfl) (fun _ _ _ h => h) (Or.inl ⟨by rfl, ?hy67⟩) (by assumption) ?_
                            case hy67 => (intro w hSw; (try dsimp only at hSw); go_simp; try (with_reducible rfl))
                            (try simp only [Act.put, qa_, qb_, qc_])
                            refine wpAnyH_take (i := 17) (oi := ⟨some 143, _, _, _, _, _⟩) (v := ?v68) rfl (by kernel_rfl) (by kernel_rfl) (by kernel_rfl) (fun _ _ _ h => h) (Or.inl ⟨by rfl, ?hy68⟩) (by assumption) ?_
                            case hy68 => (intro w hSw; (try dsimp only at hSw); go_simp; try (with_reducible rfl))
                            (try simp only [Act.put, qa_, qb_, qc_])
                            refine wpAnyH_take (i := 18) (oi := ⟨some 144, _, _, _, _, _⟩) (v := undef) rfl (by kernel_rfl) (by kernel_rfl) (by kernel_rfl) (fun _ _ _ h => h) (Or.inr ⟨by rfl, rfl⟩) (by assumption) ?_
                            (try simp only [Act.put, qa_, qb_, qc_])
                            refine wpAnyH_take (i := 19) (oi := ⟨some 145, _, _, _, _, _⟩) (v := undef) rfl (by kernel_rfl) (by kernel_rfl) (by kernel_rfl) (fun _ _ _ h => h) (Or.inr ⟨by rfl, rfl⟩) (by assumption) ?_
                            (try simp only [Act.put, qa_, qb_, qc_])
                            refine wpAnyH_take (i := 20) (oi := ⟨some 146, _, _, _, _, _⟩) (v := undef) rfl (by kernel_rfl) (by kernel_rfl) (by kernel_rfl) (fun _ _ _ h => h) (Or.inr ⟨by rfl, rfl⟩) (by assumption) ?_
                            (try simp only [Act.put, qa_, qb_, qc_])
                            refine wpAnyH_take (i := 21) (oi := ⟨some 147, _, _, _, _, _⟩) (v := undef) rfl (by kernel_rfl) (by kernel_rfl) (by kernel_rfl) (fun _ _ _ h => h) (Or.inr ⟨by rfl, rfl⟩) (by assumption) ?_
                            (try simp only [Act.put, qa_, qb_, qc_])
                            refine wpAnyH_take (i := 22) (oi := ⟨some 148, _, _, _, _, _⟩) (v := undef) rfl (by kernel_rfl) (by kernel_rfl) (by kernel_rfl) (fun _ _ _ h => h) (Or.inr ⟨by rfl, rfl⟩) (by assumption) ?_
                            (try simp only [Act.put, qa_, qb_, qc_])
                            refine wpAnyH_take (i := 23) (oi := ⟨some 149, _, _, _, _, _⟩) (v := undef) rfl (by kernel_rfl) (by kernel_rfl) (by kernel_rfl) (fun _ _ _ h => h) (Or.inr ⟨by rfl, rfl⟩) (by assumption) ?_
                            (try simp only [Act.put, qa_, qb_, qc_])
                            refine wpAnyH_take (i := 24) (oi := ⟨some 150, _, _, _, _, _⟩) (v := undef) rfl (by kernel_rfl) (by kernel_rfl) (by kernel_rfl) (fun _ _ _ h => h) (Or.inr ⟨by rfl, rfl⟩) (by assumption) ?_
                            (try simp only [Act.put, qa_, qb_, qc_])
                            refine wpAnyH_take (i := 25) (oi := ⟨some 151, _, _, _, _, _⟩) (v := undef) rfl (by kernel_rfl) (by kernel_rfl) (by kernel_rfl) (fun _ _ _ h => h) (Or.inr ⟨by rfl, rfl⟩) (by assumption) ?_
                            (try simp only [Act.put, qa_, qb_, qc_])
                            refine wpAnyH_take (i := 26) (oi := ⟨some 152, _, _, _, _, _⟩) (v := undef) rfl (by kernel_rfl) (by kernel_rfl) (by kernel_rfl) (fun _ _ _ h => h) (Or.inr ⟨by rfl, rfl⟩) (by assumption) ?_
                            (try simp only [Act.put, qa_, qb_, qc_])
                            refine wpAnyH_take (i := 27) (oi := ⟨some 153, _, _, _, _, _⟩) (v := undef) rfl (by kernel_rfl) (by kernel_rfl) (by kernel_rfl) (fun _ _ _ h => h) (Or.inr ⟨by rfl, rfl⟩) (by assumption) ?_
                            (try simp only [Act.put, qa_, qb_, qc_])
                            refine wpAnyH_take (i := 28) (oi := ⟨some 154, _, _, _, _, _⟩) (v := undef) rfl (by kernel_rfl) (by kernel_rfl) (by kernel_rfl) (fun _ _ _ h => h) (Or.inr ⟨by rfl, rfl⟩) (by assumption) ?_
                            (try simp only [Act.put, qa_, qb_, qc_])
                            refine wpAnyH_take (i := 29) (oi := ⟨some 155, _, _, _, _, _⟩) (v := undef) rfl (by kernel_rfl) (by kernel_rfl) (by kernel_rfl) (fun _ _ _ h => h) (Or.inr ⟨by rfl, rfl⟩) (by assumption) ?_
                            (try simp only [Act.put, qa_, qb_, qc_])
                            refine wpAnyH_take (i := 30) (oi := ⟨some 156, _, _, _, _, _⟩) (v := undef) rfl (by kernel_rfl) (by kernel_rfl) (by kernel_rfl) (fun _ _ _ h => h) (Or.inr ⟨by rfl, rfl⟩) (by assumption) ?_
                            (try simp only [Act.put, qa_, qb_, qc_])
                            refine wpAnyH_take (i := 31) (oi := ⟨some 157, _, _, _, _, _⟩) (v := undef) rfl (by kernel_rfl) (by kernel_rfl) (by kernel_rfl) (fun _ _ _ h => h) (Or.inr ⟨by rfl, rfl⟩) (by assumption) ?_
                            (try simp only [Act.put, qa_, qb_, qc_])
                            refine wpAnyH_take (i := 32) (oi := ⟨some 158, _, _, _, _, _⟩) (v := ?v69) rfl (by kernel_rfl) (by kernel_rfl) (by kernel_rfl) (fun _ _ _ h => h) (Or.inl ⟨by rfl, ?hy69⟩) (by assumption) ?_
                            case hy69 => (intro w hSw; (try dsimp only at hSw); go_simp; try (with_reducible rfl))
                            (try simp only [Act.put, qa_, qb_, qc_])
                            refine wpAnyH_done (by kernel_rfl) ?_ _
                            go_wp2_with fail
                            go_meet
                            exact ⟨hsq, bad_t (by rw [HBP.out]; exact .inl HN.out)⟩
                          exact AllReadyH.nil
                      have HPC := Lib.hid (decide_eq_true hpc)
                      have HN := Lib.hid hpc
                      clear hpc
                      by_cases h1 : p.1 = a.1
                      rotate_left
                      · have d1 : (p.1 != a.1) = true := by simpa using h1
                        have H1 := Lib.hid h1
                        clear h1
                        as_aux_lemma =>
                          go_wp2_with fail
                          refine wp_region_held_drew (S := (fun w' => w'.cell? ⟨wr.heap.size, 0, none⟩ = some (.int .i64 p.1) ∧ w'.cell? ⟨wr.heap.size, 1, none⟩ = some (.int .i64 p.2.1) ∧ w'.cell? ⟨wr.heap.size, 2, none⟩ = some (.int .i64 p.2.2.1) ∧ w'.cell? ⟨wr.heap.size, 3, none⟩ = some (.slice A6 n6 c6) ∧ w'.cell? ⟨w5.heap.size, 0, none⟩ = some (.int .i64 a.1) ∧ w'.cell? ⟨w5.heap.size, 1, none⟩ = some (.int .i64 a.2.1) ∧ w'.cell? ⟨w5.heap.size, 3, none⟩ = some (.slice (some ⟨b3, off3, none⟩) n3 c3) ∧ w'.cell? ⟨b3, off3 + r * 4 + 1, none⟩ = some (.int .i64 b.2.1))) (by kernel_rfl) (by exact ⟨m0, m1, m2, m3, v0, v1, v3, u1⟩) (fun hHeld => ?_)
                          refine wpAnyH_take (i := 0) (oi := ⟨some 126, _, _, _, _, _⟩) (v := ?v70) rfl (by kernel_rfl) (by kernel_rfl) (by kernel_rfl) (fun _ _ _ h => h) (Or.inl ⟨by rfl, ?hy70⟩) (by assumption) ?_
                          case hy70 => (intro w hSw; (try dsimp only at hSw); go_simp; try (with_reducible rfl))
                          (try simp only [Act.put, qa_, qb_, qc_])
                          refine wpAnyH_ready (rs := [1]) (by kernel_rfl) (by simp) ?_
                          refine AllReadyH.cons rfl (fun K hK => ?_) ?_
                          · go_simp
                            go_at_call 38
                            refine (s_PieceOk (tPiece.reach (tPiece.reach hRp hB) (belx)) hzp).mono ?_
                            rintro e wq ⟨rfl, hbq⟩
                            rw [HPC.out]
                            have hsq : Below wr.heap.size wr wq := bel_trans (belx) hbq
                            have T8 := Box.below (Box.drew T7) hbq (Box.drew T7).size
                            have W8 := Box.below (Box.drew W7) hbq (Box.drew W7).size
                            have u2 := cell_bel hsq u0
                            go_wp2_with fail
                            refine hK.out _ _ (by exact ⟨T8.cell 0, T8.cell 1, T8.cell 2, T8.cell 3, W8.cell 0, W8.cell 1, W8.cell 3, u2⟩) (fun hHeld => ?_)
                            clear hK K
                            (try simp only [Act.put, qa_, qb_, qc_])
                            refine wpAnyH_take (i := 2) (oi := ⟨some 128, _, _, _, _, _⟩) (v := ?v71) rfl (by kernel_rfl) (by kernel_rfl) (by kernel_rfl) (fun _ _ _ h => h) (Or.inl ⟨by rfl, ?hy71⟩) (by assumption) ?_
                            case hy71 => (intro w hSw; (try dsimp only at hSw); go_simp; try (with_reducible rfl))
                            (try simp only [Act.put, qa_, qb_, qc_])
                            refine wpAnyH_take (i := 3) (oi := ⟨some 129, _, _, _, _, _⟩) (v := ?v72) rfl (by kernel_rfl) (by kernel_rfl) (by kernel_rfl) (fun _ _ _ h => h) (Or.inl ⟨by rfl, ?hy72⟩) (by assumption) ?_
                            case hy72 => (intro w hSw; (try dsimp only at hSw); go_simp; try (with_reducible rfl))
                            (try simp only [Act.put, qa_, qb_, qc_])
                            refine wpAnyH_take (i := 4) (oi := ⟨some 130, _, _, _, _, _⟩) (v := ?v73) rfl (by kernel_rfl) (by kernel_rfl) (by kernel_rfl) (fun _ _ _ h => h) (Or.inl ⟨by rfl, ?hy73⟩) (by assumption) ?_
                            case hy73 => (intro w hSw; (try dsimp only at hSw); go_simp; try (with_reducible rfl))
                            (try simp only [Act.put, qa_, qb_, qc_])
                            refine wpAnyH_take (i := 5) (oi := ⟨some 131, _, _, _, _, _⟩) (v := ?v74) rfl (by kernel_rfl) (by kernel_rfl) (by kernel_rfl) (fun _ _ _ h => h) (Or.inl ⟨by rfl, ?hy74⟩) (by assumption) ?_
                            case hy74 => (intro w hSw; (try dsimp only at hSw); go_simp; try (with_reducible rfl))
                            (try simp only [Act.put, qa_, qb_, qc_])
                            refine wpAnyH_take (i := 6) (oi := ⟨some 132, _, _, _, _, _⟩) (v := ?v75) rfl (by kernel_rfl) (by kernel_rfl) (by kernel_rfl) (fun _ _ _ h => h) (Or.inl ⟨by rfl, ?hy75⟩) (by assumption) ?_
                            case hy75 => (intro w hSw; (try dsimp only at hSw); go_simp; try (with_reducible rfl))
                            (try simp only [Act.put, qa_, qb_, qc_])
                            refine wpAnyH_take (i := 7) (oi := ⟨some 133, _, _, _, _, _⟩) (v := ?v76) rfl (by kernel_rfl) (by kernel_rfl) (by kernel_rfl) (fun _ _ _ h => h) (Or.inl ⟨by rfl, ?hy76⟩) (by assumption) ?_
                            case hy76 => (intro w hSw; (try dsimp only at hSw); go_simp; try (with_reducible rfl))
                            (try simp only [Act.put, qa_, qb_, qc_])
                            refine wpAnyH_take (i := 8) (oi := ⟨some 134, _, _, _, _, _⟩) (v := ?v77) rfl (by kernel_rfl) (by kernel_rfl) (by kernel_rfl) (fun _ _ _ h => h) (Or.inl ⟨by rfl, ?hy77⟩) (by assumption) ?_
                            case hy77 => (intro w hSw; (try dsimp only at hSw); go_simp; try (with_reducible rfl))
                            (try simp only [Act.put, qa_, qb_, qc_])
                            refine wpAnyH_take (i := 9) (oi := ⟨some 135, _, _, _, _, _⟩) (v := ?v78) rfl (by kernel_rfl) (by kernel_rfl) (by kernel_rfl) (fun _ _ _ h => h) (Or.inl ⟨by rfl, ?hy78⟩) (by assumption) ?_
                            case hy78 => (intro w hSw; (try dsimp only at hSw); go_simp; try (with_reducible rfl))
                            (try simp only [Act.put, qa_, qb_, qc_])
                            refine wpAnyH_take (i := 10) (oi := ⟨some 136, _, _, _, _, _⟩) (v := ?v79) rfl (by kernel_rfl) (by kernel_rfl) (by kernel_rfl) (fun _ _ _ h => h) (Or.inl ⟨by rfl, ?hy79⟩) (by assumption) ?_
                            case hy79 => (intro w hSw; (try dsimp only at hSw); go_simp; try (with_reducible rfl))
                            (try simp only [Act.put, qa_, qb_, qc_])
                            refine wpAnyH_take (i := 11) (oi := ⟨some 137, _, _, _, _, _⟩) (v := undef) rfl (by kernel_rfl) (by kernel_rfl) (by kernel_rfl) (fun _ _ _ h => h) (Or.inr ⟨by rfl, rfl⟩) (by assumption) ?_
                            (try simp only [Act.put, qa_, qb_, qc_])
                            refine wpAnyH_take (i := 12) (oi := ⟨some 138, _, _, _, _, _⟩) (v := undef) rfl (by kernel_rfl) (by kernel_rfl) (by kernel_rfl) (fun _ _ _ h => h) (Or.inr ⟨by rfl, rfl⟩) (by assumption) ?_
                            (try simp only [Act.put, qa_, qb_, qc_])
                            refine wpAnyH_take (i := 13) (oi := ⟨some 139, _, _, _, _, _⟩) (v := undef) rfl (by kernel_rfl) (by kernel_rfl) (by kernel_rfl) (fun _ _ _ h => h) (Or.inr ⟨by rfl, rfl⟩) (by assumption) ?_
                            (try simp only [Act.put, qa_, qb_, qc_])
                            refine wpAnyH_take (i := 14) (oi := ⟨some 140, _, _, _, _, _⟩) (v := undef) rfl (by kernel_rfl) (by kernel_rfl) (by kernel_rfl) (fun _ _ _ h => h) (Or.inr ⟨by rfl, rfl⟩) (by assumption) ?_
                            (try simp only [Act.put, qa_, qb_, qc_])
                            refine wpAnyH_take (i := 15) (oi := ⟨some 141, _, _, _, _, _⟩) (v := undef) rfl (by kernel_rfl) (by kernel_rfl) (by kernel_rfl) (fun _ _ _ h => h) (Or.inr ⟨by rfl, rfl⟩) (by assumption) ?_
                            (try simp only [Act.put, qa_, qb_, qc_])
                            refine wpAnyH_take (i := 16) (oi := ⟨some 142, _, _, _, _, _⟩) (v := ?v80) rfl (by kernel_rfl) (by kernel_rfl) (by kernel_rfl) (fun _ _ _ h => h) (Or.inl ⟨by rfl, ?hy80⟩) (by assumption) ?_
                            case hy80 => (intro w hSw; (try dsimp only at hSw); go_simp; try (with_reducible rfl))
                            (try simp only [Act.put, qa_, qb_, qc_])
                            refine wpAnyH_take (i := 17) (oi := ⟨some 143, _, _, _, _, _⟩) (v := ?v81) rfl (by kernel_rfl) (by kernel_rfl) (by kernel_rfl) (fun _ _ _ h => h) (Or.inl ⟨by rfl, ?hy81⟩) (by assumption) ?_
                            case hy81 => (intro w hSw; (try dsimp only at hSw); go_simp; try (with_reducible rfl))
                            (try simp only [Act.put, qa_, qb_, qc_])
                            refine wpAnyH_take (i := 18) (oi := ⟨some 144, _, _, _, _, _⟩) (v := undef) rfl (by kernel_rfl) (by kernel_rfl) (by kernel_rfl) (fun _ _ _ h => h) (Or.inr ⟨by rfl, rfl⟩) (by assumption) ?_
                            (try simp only [Act.put, qa_, qb_, qc_])
                            refine wpAnyH_take (i := 19) (oi := ⟨some 145, _, _, _, _, _⟩) (v := undef) rfl (by kernel_rfl) (by kernel_rfl) (by kernel_rfl) (fun _ _ _ h => h) (Or.inr ⟨by rfl, rfl⟩) (by assumption) ?_
                            (try simp only [Act.put, qa_, qb_, qc_])
                            refine wpAnyH_take (i := 20) (oi := ⟨some 146, _, _, _, _, _⟩) (v := undef) rfl (by kernel_rfl) (by kernel_rfl) (by kernel_rfl) (fun _ _ _ h => h) (Or.inr ⟨by rfl, rfl⟩) (by assumption) ?_
                            (try simp only [Act.put, qa_, qb_, qc_])
                            refine wpAnyH_take (i := 21) (oi := ⟨some 147, _, _, _, _, _⟩) (v := undef) rfl (by kernel_rfl) (by kernel_rfl) (by kernel_rfl) (fun _ _ _ h => h) (Or.inr ⟨by rfl, rfl⟩) (by assumption) ?_
                            (try simp only [Act.put, qa_, qb_, qc_])
                            refine wpAnyH_take (i := 22) (oi := ⟨some 148, _, _, _, _, _⟩) (v := undef) rfl (by kernel_rfl) (by kernel_rfl) (by kernel_rfl) (fun _ _ _ h => h) (Or.inr ⟨by rfl, rfl⟩) (by assumption) ?_
                            (try simp only [Act.put, qa_, qb_, qc_])
                            refine wpAnyH_take (i := 23) (oi := ⟨some 149, _, _, _, _, _⟩) (v := undef) rfl (by kernel_rfl) (by kernel_rfl) (by kernel_rfl) (fun _ _ _ h => h) (Or.inr ⟨by rfl, rfl⟩) (by assumption) ?_
                            (try simp only [Act.put, qa_, qb_, qc_])
                            refine wpAnyH_take (i := 24) (oi := ⟨some 150, _, _, _, _, _⟩) (v := undef) rfl (by kernel_rfl) (by kernel_rfl) (by kernel_rfl) (fun _ _ _ h => h) (Or.inr ⟨by rfl, rfl⟩) (by assumption) ?_
                            (try simp only [Act.put, qa_, qb_, qc_])
                            refine wpAnyH_take (i := 25) (oi := ⟨some 151, _, _, _, _, _⟩) (v := undef) rfl (by kernel_rfl) (by kernel_rfl) (by kernel_rfl) (fun _ _ _ h => h) (Or.inr ⟨by rfl, rfl⟩) (by assumption) ?_
                            (try simp only [Act.put, qa_, qb_, qc_])
                            refine wpAnyH_take (i := 26) (oi := ⟨some 152, _, _, _, _, _⟩) (v := undef) rfl (by kernel_rfl) (by kernel_rfl) (by kernel_rfl) (fun _ _ _ h => h) (Or.inr ⟨by rfl, rfl⟩) (by assumption) ?_
                            (try simp only [Act.put, qa_, qb_, qc_])
                            refine wpAnyH_take (i := 27) (oi := ⟨some 153, _, _, _, _, _⟩) (v := undef) rfl (by kernel_rfl) (by kernel_rfl) (by kernel_rfl) (fun _ _ _ h => h) (Or.inr ⟨by rfl, rfl⟩) (by assumption) ?_
                            (try simp only [Act.put, qa_, qb_, qc_])
                            refine wpAnyH_take (i := 28) (oi := ⟨some 154, _, _, _, _, _⟩) (v := undef) rfl (by kernel_rfl) (by kernel_rfl) (by kernel_rfl) (fun _ _ _ h => h) (Or.inr ⟨by rfl, rfl⟩) (by assumption) ?_
                            (try simp only [Act.put, qa_, qb_, qc_])
                            refine wpAnyH_take (i := 29) (oi := ⟨some 155, _, _, _, _, _⟩) (v := undef) rfl (by kernel_rfl) (by kernel_rfl) (by kernel_rfl) (fun _ _ _ h => h) (Or.inr ⟨by rfl, rfl⟩) (by assumption) ?_
                            (try simp only [Act.put, qa_, qb_, qc_])
                            refine wpAnyH_take (i := 30) (oi := ⟨some 156, _, _, _, _, _⟩) (v := undef) rfl (by kernel_rfl) (by kernel_rfl) (by kernel_rfl) (fun _ _ _ h => h) (Or.inr ⟨by rfl, rfl⟩) (by assumption) ?_
                            (try simp only [Act.put, qa_, qb_, qc_])
                            refine wpAnyH_take (i := 31) (oi := ⟨some 157, _, _, _, _, _⟩) (v := undef) rfl (by kernel_rfl) (by kernel_rfl) (by kernel_rfl) (fun _ _ _ h => h) (Or.inr ⟨by rfl, rfl⟩) (by assumption) ?_
                            (try simp only [Act.put, qa_, qb_, qc_])
                            refine wpAnyH_take (i := 32) (oi := ⟨some 158, _, _, _, _, _⟩) (v := ?v82) rfl (by kernel_rfl) (by kernel_rfl) (by kernel_rfl) (fun _ _ _ h => h) (Or.inl ⟨by rfl, ?hy82⟩) (by assumption) ?_
                            case hy82 => (intro w hSw; (try dsimp only at hSw); go_simp; try (with_reducible rfl))
                            (try simp only [Act.put, qa_, qb_, qc_])
                            refine wpAnyH_done (by kernel_rfl) ?_ _
                            go_wp2_with fail
                            go_meet
                            exact ⟨hsq, bad_t (by rw [HBP.out]; exact .inr (.inl H1.out))⟩
                          exact AllReadyH.nil
                      have d1 : (p.1 != a.1) = false := by simpa using h1
                      have H1 := Lib.hid h1
                      clear h1
                      by_cases h2 : p.2.2.1 = a.2.1
                      rotate_left
                      · have d2 : (p.2.2.1 != a.2.1) = true := by simpa using h2
                        have H2 := Lib.hid h2
                        clear h2
                        as_aux_lemma =>
                          go_wp2_with fail
                          refine wp_region_held_drew (S := (fun w' => w'.cell? ⟨wr.heap.size, 0, none⟩ = some (.int .i64 p.1) ∧ w'.cell? ⟨wr.heap.size, 1, none⟩ = some (.int .i64 p.2.1) ∧ w'.cell? ⟨wr.heap.size, 2, none⟩ = some (.int .i64 p.2.2.1) ∧ w'.cell? ⟨wr.heap.size, 3, none⟩ = some (.slice A6 n6 c6) ∧ w'.cell? ⟨w5.heap.size, 0, none⟩ = some (.int .i64 a.1) ∧ w'.cell? ⟨w5.heap.size, 1, none⟩ = some (.int .i64 a.2.1) ∧ w'.cell? ⟨w5.heap.size, 3, none⟩ = some (.slice (some ⟨b3, off3, none⟩) n3 c3) ∧ w'.cell? ⟨b3, off3 + r * 4 + 1, none⟩ = some (.int .i64 b.2.1))) (by kernel_rfl) (by exact ⟨m0, m1, m2, m3, v0, v1, v3, u1⟩) (fun hHeld => ?_)
                          refine wpAnyH_take (i := 0) (oi := ⟨some 126, _, _, _, _, _⟩) (v := ?v83) rfl (by kernel_rfl) (by kernel_rfl) (by kernel_rfl) (fun _ _ _ h => h) (Or.inl ⟨by rfl, ?hy83⟩) (by assumption) ?_
                          case hy83 => (intro w hSw; (try dsimp only at hSw); go_simp; try (with_reducible rfl))
                          (try simp only [Act.put, qa_, qb_, qc_])
                          refine wpAnyH_ready (rs := [1]) (by kernel_rfl) (by simp) ?_
                          refine AllReadyH.cons rfl (fun K hK => ?_) ?_
                          · go_simp
                            go_at_call 38
                            refine (s_PieceOk (tPiece.reach (tPiece.reach hRp hB) (belx)) hzp).mono ?_
                            rintro e wq ⟨rfl, hbq⟩
                            rw [HPC.out]
                            have hsq : Below wr.heap.size wr wq := bel_trans (belx) hbq
                            have T8 := Box.below (Box.drew T7) hbq (Box.drew T7).size
                            have W8 := Box.below (Box.drew W7) hbq (Box.drew W7).size
                            have u2 := cell_bel hsq u0
                            go_wp2_with fail
                            refine hK.out _ _ (by exact ⟨T8.cell 0, T8.cell 1, T8.cell 2, T8.cell 3, W8.cell 0, W8.cell 1, W8.cell 3, u2⟩) (fun hHeld => ?_)
                            clear hK K
                            (try simp only [Act.put, qa_, qb_, qc_])
                            refine wpAnyH_take (i := 2) (oi := ⟨some 128, _, _, _, _, _⟩) (v := ?v84) rfl (by kernel_rfl) (by kernel_rfl) (by kernel_rfl) (fun _ _ _ h => h) (Or.inl ⟨by rfl, ?hy84⟩) (by assumption) ?_
                            case hy84 => (intro w hSw; (try dsimp only at hSw); go_simp; try (with_reducible rfl))
                            (try simp only [Act.put, qa_, qb_, qc_])
                            refine wpAnyH_take (i := 3) (oi := ⟨some 129, _, _, _, _, _⟩) (v := ?v85) rfl (by kernel_rfl) (by kernel_rfl) (by kernel_rfl) (fun _ _ _ h => h) (Or.inl ⟨by rfl, ?hy85⟩) (by assumption) ?_
                            case hy85 => (intro w hSw; (try dsimp only at hSw); go_simp; try (with_reducible rfl))
                            (try simp only [Act.put, qa_, qb_, qc_])
                            refine wpAnyH_take (i := 4) (oi := ⟨some 130, _, _, _, _, _⟩) (v := ?v86) rfl (by kernel_rfl) (by kernel_rfl) (by kernel_rfl) (fun _ _ _ h => h) (Or.inl ⟨by rfl, ?hy86⟩) (by assumption) ?_
                            case hy86 => (intro w hSw; (try dsimp only at hSw); go_simp; try (with_reducible rfl))
                            (try simp only [Act.put, qa_, qb_, qc_])
                            refine wpAnyH_take (i := 5) (oi := ⟨some 131, _, _, _, _, _⟩) (v := ?v87) rfl (by kernel_rfl) (by kernel_rfl) (by kernel_rfl) (fun _ _ _ h => h) (Or.inl ⟨by rfl, ?hy87⟩) (by assumption) ?_
                            case hy87 => (intro w hSw; (try dsimp only at hSw); go_simp; try (with_reducible rfl))
                            (try simp only [Act.put, qa_, qb_, qc_])
                            refine wpAnyH_take (i := 6) (oi := ⟨some 132, _, _, _, _, _⟩) (v := ?v88) rfl (by kernel_rfl) (by kernel_rfl) (by kernel_rfl) (fun _ _ _ h => h) (Or.inl ⟨by rfl, ?hy88⟩) (by assumption) ?_
                            case hy88 => (intro w hSw; (try dsimp only at hSw); go_simp; try (with_reducible rfl))
                            (try simp only [Act.put, qa_, qb_, qc_])
                            refine wpAnyH_take (i := 7) (oi := ⟨some 133, _, _, _, _, _⟩) (v := ?v89) rfl (by kernel_rfl) (by kernel_rfl) (by kernel_rfl) (fun _ _ _ h => h) (Or.inl ⟨by rfl, ?hy89⟩) (by assumption) ?_
                            case hy89 => (intro w hSw; (try dsimp only at hSw); go_simp; try (with_reducible rfl))
                            (try simp only [Act.put, qa_, qb_, qc_])
                            refine wpAnyH_take (i := 8) (oi := ⟨some 134, _, _, _, _, _⟩) (v := ?v90) rfl (by kernel_rfl) (by kernel_rfl) (by kernel_rfl) (fun _ _ _ h => h) (Or.inl ⟨by rfl, ?hy90⟩) (by assumption) ?_
                            case hy90 => (intro w hSw; (try dsimp only at hSw); go_simp; try (with_reducible rfl))
                            (try simp only [Act.put, qa_, qb_, qc_])
                            refine wpAnyH_take (i := 9) (oi := ⟨some 135, _, _, _, _, _⟩) (v := ?v91) rfl (by kernel_rfl) (by kernel_rfl) (by kernel_rfl) (fun _ _ _ h => h) (Or.inl ⟨by rfl, ?hy91⟩) (by assumption) ?_
                            case hy91 => (intro w hSw; (try dsimp only at hSw); go_simp; try (with_reducible rfl))
                            (try simp only [Act.put, qa_, qb_, qc_])
                            refine wpAnyH_take (i := 10) (oi := ⟨some 136, _, _, _, _, _⟩) (v := ?v92) rfl (by kernel_rfl) (by kernel_rfl) (by kernel_rfl) (fun _ _ _ h => h) (Or.inl ⟨by rfl, ?hy92⟩) (by assumption) ?_
                            case hy92 => (intro w hSw; (try dsimp only at hSw); go_simp; try (with_reducible rfl))
                            (try simp only [Act.put, qa_, qb_, qc_])
                            refine wpAnyH_take (i := 11) (oi := ⟨some 137, _, _, _, _, _⟩) (v := ?v93) rfl (by kernel_rfl) (by kernel_rfl) (by kernel_rfl) (fun _ _ _ h => h) (Or.inl ⟨by rfl, ?hy93⟩) (by assumption) ?_
                            case hy93 => (intro w hSw; (try dsimp only at hSw); go_simp; try (with_reducible rfl))
                            (try simp only [Act.put, qa_, qb_, qc_])
                            refine wpAnyH_take (i := 12) (oi := ⟨some 138, _, _, _, _, _⟩) (v := ?v94) rfl (by kernel_rfl) (by kernel_rfl) (by kernel_rfl) (fun _ _ _ h => h) (Or.inl ⟨by rfl, ?hy94⟩) (by assumption) ?_
                            case hy94 => (intro w hSw; (try dsimp only at hSw); go_simp; try (with_reducible rfl))
                            (try simp only [Act.put, qa_, qb_, qc_])
                            refine wpAnyH_take (i := 13) (oi := ⟨some 139, _, _, _, _, _⟩) (v := ?v95) rfl (by kernel_rfl) (by kernel_rfl) (by kernel_rfl) (fun _ _ _ h => h) (Or.inl ⟨by rfl, ?hy95⟩) (by assumption) ?_
                            case hy95 => (intro w hSw; (try dsimp only at hSw); go_simp; try (with_reducible rfl))
                            (try simp only [Act.put, qa_, qb_, qc_])
                            refine wpAnyH_take (i := 14) (oi := ⟨some 140, _, _, _, _, _⟩) (v := ?v96) rfl (by kernel_rfl) (by kernel_rfl) (by kernel_rfl) (fun _ _ _ h => h) (Or.inl ⟨by rfl, ?hy96⟩) (by assumption) ?_
                            case hy96 => (intro w hSw; (try dsimp only at hSw); go_simp; try (with_reducible rfl))
                            (try simp only [Act.put, qa_, qb_, qc_])
                            refine wpAnyH_take (i := 15) (oi := ⟨some 141, _, _, _, _, _⟩) (v := ?v97) rfl (by kernel_rfl) (by kernel_rfl) (by kernel_rfl) (fun _ _ _ h => h) (Or.inl ⟨by rfl, ?hy97⟩) (by assumption) ?_
                            case hy97 => (intro w hSw; (try dsimp only at hSw); go_simp; try (with_reducible rfl))
                            (try simp only [Act.put, qa_, qb_, qc_])
                            refine wpAnyH_take (i := 16) (oi := ⟨some 142, _, _, _, _, _⟩) (v := ?v98) rfl (by kernel_rfl) (by kernel_rfl) (by kernel_rfl) (fun _ _ _ h => h) (Or.inl ⟨by rfl, ?hy98⟩) (by assumption) ?_
                            case hy98 => (intro w hSw; (try dsimp only at hSw); go_simp; try (with_reducible rfl))
                            (try simp only [Act.put, qa_, qb_, qc_])
                            refine wpAnyH_take (i := 17) (oi := ⟨some 143, _, _, _, _, _⟩) (v := ?v99) rfl (by kernel_rfl) (by kernel_rfl) (by kernel_rfl) (fun _ _ _ h => h) (Or.inl ⟨by rfl, ?hy99⟩) (by assumption) ?_
                            case hy99 => (intro w hSw; (try dsimp only at hSw); go_simp; try (with_reducible rfl))
                            (try simp only [Act.put, qa_, qb_, qc_])
                            refine wpAnyH_take (i := 18) (oi := ⟨some 144, _, _, _, _, _⟩) (v := undef) rfl (by kernel_rfl) (by kernel_rfl) (by kernel_rfl) (fun _ _ _ h => h) (Or.inr ⟨by rfl, rfl⟩) (by assumption) ?_
                            (try simp only [Act.put, qa_, qb_, qc_])
                            refine wpAnyH_take (i := 19) (oi := ⟨some 145, _, _, _, _, _⟩) (v := undef) rfl (by kernel_rfl) (by kernel_rfl) (by kernel_rfl) (fun _ _ _ h => h) (Or.inr ⟨by rfl, rfl⟩) (by assumption) ?_
                            (try simp only [Act.put, qa_, qb_, qc_])
                            refine wpAnyH_take (i := 20) (oi := ⟨some 146, _, _, _, _, _⟩) (v := undef) rfl (by kernel_rfl) (by kernel_rfl) (by kernel_rfl) (fun _ _ _ h => h) (Or.inr ⟨by rfl, rfl⟩) (by assumption) ?_
                            (try simp only [Act.put, qa_, qb_, qc_])
                            refine wpAnyH_take (i := 21) (oi := ⟨some 147, _, _, _, _, _⟩) (v := undef) rfl (by kernel_rfl) (by kernel_rfl) (by kernel_rfl) (fun _ _ _ h => h) (Or.inr ⟨by rfl, rfl⟩) (by assumption) ?_
                            (try simp only [Act.put, qa_, qb_, qc_])
                            refine wpAnyH_take (i := 22) (oi := ⟨some 148, _, _, _, _, _⟩) (v := undef) rfl (by kernel_rfl) (by kernel_rfl) (by kernel_rfl) (fun _ _ _ h => h) (Or.inr ⟨by rfl, rfl⟩) (by assumption) ?_
                            (try simp only [Act.put, qa_, qb_, qc_])
                            refine wpAnyH_take (i := 23) (oi := ⟨some 149, _, _, _, _, _⟩) (v := undef) rfl (by kernel_rfl) (by kernel_rfl) (by kernel_rfl) (fun _ _ _ h => h) (Or.inr ⟨by rfl, rfl⟩) (by assumption) ?_
                            (try simp only [Act.put, qa_, qb_, qc_])
                            refine wpAnyH_take (i := 24) (oi := ⟨some 150, _, _, _, _, _⟩) (v := undef) rfl (by kernel_rfl) (by kernel_rfl) (by kernel_rfl) (fun _ _ _ h => h) (Or.inr ⟨by rfl, rfl⟩) (by assumption) ?_
                            (try simp only [Act.put, qa_, qb_, qc_])
                            refine wpAnyH_take (i := 25) (oi := ⟨some 151, _, _, _, _, _⟩) (v := undef) rfl (by kernel_rfl) (by kernel_rfl) (by kernel_rfl) (fun _ _ _ h => h) (Or.inr ⟨by rfl, rfl⟩) (by assumption) ?_
                            (try simp only [Act.put, qa_, qb_, qc_])
                            refine wpAnyH_take (i := 26) (oi := ⟨some 152, _, _, _, _, _⟩) (v := undef) rfl (by kernel_rfl) (by kernel_rfl) (by kernel_rfl) (fun _ _ _ h => h) (Or.inr ⟨by rfl, rfl⟩) (by assumption) ?_
                            (try simp only [Act.put, qa_, qb_, qc_])
                            refine wpAnyH_take (i := 27) (oi := ⟨some 153, _, _, _, _, _⟩) (v := undef) rfl (by kernel_rfl) (by kernel_rfl) (by kernel_rfl) (fun _ _ _ h => h) (Or.inr ⟨by rfl, rfl⟩) (by assumption) ?_
                            (try simp only [Act.put, qa_, qb_, qc_])
                            refine wpAnyH_take (i := 28) (oi := ⟨some 154, _, _, _, _, _⟩) (v := undef) rfl (by kernel_rfl) (by kernel_rfl) (by kernel_rfl) (fun _ _ _ h => h) (Or.inr ⟨by rfl, rfl⟩) (by assumption) ?_
                            (try simp only [Act.put, qa_, qb_, qc_])
                            refine wpAnyH_take (i := 29) (oi := ⟨some 155, _, _, _, _, _⟩) (v := undef) rfl (by kernel_rfl) (by kernel_rfl) (by kernel_rfl) (fun _ _ _ h => h) (Or.inr ⟨by rfl, rfl⟩) (by assumption) ?_
                            (try simp only [Act.put, qa_, qb_, qc_])
                            refine wpAnyH_take (i := 30) (oi := ⟨some 156, _, _, _, _, _⟩) (v := undef) rfl (by kernel_rfl) (by kernel_rfl) (by kernel_rfl) (fun _ _ _ h => h) (Or.inr ⟨by rfl, rfl⟩) (by assumption) ?_
                            (try simp only [Act.put, qa_, qb_, qc_])
                            refine wpAnyH_take (i := 31) (oi := ⟨some 157, _, _, _, _, _⟩) (v := undef) rfl (by kernel_rfl) (by kernel_rfl) (by kernel_rfl) (fun _ _ _ h => h) (Or.inr ⟨by rfl, rfl⟩) (by assumption) ?_
                            (try simp only [Act.put, qa_, qb_, qc_])
                            refine wpAnyH_take (i := 32) (oi := ⟨some 158, _, _, _, _, _⟩) (v := ?v100) rfl (by kernel_rfl) (by kernel_rfl) (by kernel_rfl) (fun _ _ _ h => h) (Or.inl ⟨by rfl, ?hy100⟩) (by assumption) ?_
                            case hy100 => (intro w hSw; (try dsimp only at hSw); go_simp; try (with_reducible rfl))
                            (try simp only [Act.put, qa_, qb_, qc_])
                            refine wpAnyH_done (by kernel_rfl) ?_ _
                            go_wp2_with fail
                            go_meet
                            exact ⟨hsq, bad_t (by rw [HBP.out]; exact .inr (.inr (.inl H2.out)))⟩
                          exact AllReadyH.nil
                      have d2 : (p.2.2.1 != a.2.1) = false := by simpa using h2
                      have H2 := Lib.hid h2
                      clear h2
                      by_cases h3 : p.2.1 ≤ b.2.1
                      · have d3 : decide (p.2.1 ≤ b.2.1) = true := decide_eq_true h3
                        as_aux_lemma =>
                          go_wp2_with fail
                          refine wp_region_held_drew (S := (fun w' => w'.cell? ⟨wr.heap.size, 0, none⟩ = some (.int .i64 p.1) ∧ w'.cell? ⟨wr.heap.size, 1, none⟩ = some (.int .i64 p.2.1) ∧ w'.cell? ⟨wr.heap.size, 2, none⟩ = some (.int .i64 p.2.2.1) ∧ w'.cell? ⟨wr.heap.size, 3, none⟩ = some (.slice A6 n6 c6) ∧ w'.cell? ⟨w5.heap.size, 0, none⟩ = some (.int .i64 a.1) ∧ w'.cell? ⟨w5.heap.size, 1, none⟩ = some (.int .i64 a.2.1) ∧ w'.cell? ⟨w5.heap.size, 3, none⟩ = some (.slice (some ⟨b3, off3, none⟩) n3 c3) ∧ w'.cell? ⟨b3, off3 + r * 4 + 1, none⟩ = some (.int .i64 b.2.1))) (by kernel_rfl) (by exact ⟨m0, m1, m2, m3, v0, v1, v3, u1⟩) (fun hHeld => ?_)
                          refine wpAnyH_take (i := 0) (oi := ⟨some 126, _, _, _, _, _⟩) (v := ?v101) rfl (by kernel_rfl) (by kernel_rfl) (by kernel_rfl) (fun _ _ _ h => h) (Or.inl ⟨by rfl, ?hy101⟩) (by assumption) ?_
                          case hy101 => (intro w hSw; (try dsimp only at hSw); go_simp; try (with_reducible rfl))
                          (try simp only [Act.put, qa_, qb_, qc_])
                          refine wpAnyH_ready (rs := [1]) (by kernel_rfl) (by simp) ?_
                          refine AllReadyH.cons rfl (fun K hK => ?_) ?_
                          · go_simp
                            go_at_call 38
                            refine (s_PieceOk (tPiece.reach (tPiece.reach hRp hB) (belx)) hzp).mono ?_
                            rintro e wq ⟨rfl, hbq⟩
                            rw [HPC.out]
                            have hsq : Below wr.heap.size wr wq := bel_trans (belx) hbq
                            have T8 := Box.below (Box.drew T7) hbq (Box.drew T7).size
                            have W8 := Box.below (Box.drew W7) hbq (Box.drew W7).size
                            have u2 := cell_bel hsq u0
                            go_wp2_with fail
                            refine hK.out _ _ (by exact ⟨T8.cell 0, T8.cell 1, T8.cell 2, T8.cell 3, W8.cell 0, W8.cell 1, W8.cell 3, u2⟩) (fun hHeld => ?_)
                            clear hK K
                            (try simp only [Act.put, qa_, qb_, qc_])
                            refine wpAnyH_take (i := 2) (oi := ⟨some 128, _, _, _, _, _⟩) (v := ?v102) rfl (by kernel_rfl) (by kernel_rfl) (by kernel_rfl) (fun _ _ _ h => h) (Or.inl ⟨by rfl, ?hy102⟩) (by assumption) ?_
                            case hy102 => (intro w hSw; (try dsimp only at hSw); go_simp; try (with_reducible rfl))
                            (try simp only [Act.put, qa_, qb_, qc_])
                            refine wpAnyH_take (i := 3) (oi := ⟨some 129, _, _, _, _, _⟩) (v := ?v103) rfl (by kernel_rfl) (by kernel_rfl) (by kernel_rfl) (fun _ _ _ h => h) (Or.inl ⟨by rfl, ?hy103⟩) (by assumption) ?_
                            case hy103 => (intro w hSw; (try dsimp only at hSw); go_simp; try (with_reducible rfl))
                            (try simp only [Act.put, qa_, qb_, qc_])
                            refine wpAnyH_take (i := 4) (oi := ⟨some 130, _, _, _, _, _⟩) (v := ?v104) rfl (by kernel_rfl) (by kernel_rfl) (by kernel_rfl) (fun _ _ _ h => h) (Or.inl ⟨by rfl, ?hy104⟩) (by assumption) ?_
                            case hy104 => (intro w hSw; (try dsimp only at hSw); go_simp; try (with_reducible rfl))
                            (try simp only [Act.put, qa_, qb_, qc_])
                            refine wpAnyH_take (i := 5) (oi := ⟨some 131, _, _, _, _, _⟩) (v := ?v105) rfl (by kernel_rfl) (by kernel_rfl) (by kernel_rfl) (fun _ _ _ h => h) (Or.inl ⟨by rfl, ?hy105⟩) (by assumption) ?_
                            case hy105 => (intro w hSw; (try dsimp only at hSw); go_simp; try (with_reducible rfl))
                            (try simp only [Act.put, qa_, qb_, qc_])
                            refine wpAnyH_take (i := 6) (oi := ⟨some 132, _, _, _, _, _⟩) (v := ?v106) rfl (by kernel_rfl) (by kernel_rfl) (by kernel_rfl) (fun _ _ _ h => h) (Or.inl ⟨by rfl, ?hy106⟩) (by assumption) ?_
                            case hy106 => (intro w hSw; (try dsimp only at hSw); go_simp; try (with_reducible rfl))
                            (try simp only [Act.put, qa_, qb_, qc_])
                            refine wpAnyH_take (i := 7) (oi := ⟨some 133, _, _, _, _, _⟩) (v := ?v107) rfl (by kernel_rfl) (by kernel_rfl) (by kernel_rfl) (fun _ _ _ h => h) (Or.inl ⟨by rfl, ?hy107⟩) (by assumption) ?_
                            case hy107 => (intro w hSw; (try dsimp only at hSw); go_simp; try (with_reducible rfl))
                            (try simp only [Act.put, qa_, qb_, qc_])
                            refine wpAnyH_take (i := 8) (oi := ⟨some 134, _, _, _, _, _⟩) (v := ?v108) rfl (by kernel_rfl) (by kernel_rfl) (by kernel_rfl) (fun _ _ _ h => h) (Or.inl ⟨by rfl, ?hy108⟩) (by assumption) ?_
                            case hy108 => (intro w hSw; (try dsimp only at hSw); go_simp; try (with_reducible rfl))
                            (try simp only [Act.put, qa_, qb_, qc_])
                            refine wpAnyH_take (i := 9) (oi := ⟨some 135, _, _, _, _, _⟩) (v := ?v109) rfl (by kernel_rfl) (by kernel_rfl) (by kernel_rfl) (fun _ _ _ h => h) (Or.inl ⟨by rfl, ?hy109⟩) (by assumption) ?_
                            case hy109 => (intro w hSw; (try dsimp only at hSw); go_simp; try (with_reducible rfl))
                            (try simp only [Act.put, qa_, qb_, qc_])
                            refine wpAnyH_take (i := 10) (oi := ⟨some 136, _, _, _, _, _⟩) (v := ?v110) rfl (by kernel_rfl) (by kernel_rfl) (by kernel_rfl) (fun _ _ _ h => h) (Or.inl ⟨by rfl, ?hy110⟩) (by assumption) ?_
                            case hy110 => (intro w hSw; (try dsimp only at hSw); go_simp; try (with_reducible rfl))
                            (try simp only [Act.put, qa_, qb_, qc_])
                            refine wpAnyH_take (i := 11) (oi := ⟨some 137, _, _, _, _, _⟩) (v := ?v111) rfl (by kernel_rfl) (by kernel_rfl) (by kernel_rfl) (fun _ _ _ h => h) (Or.inl ⟨by rfl, ?hy111⟩) (by assumption) ?_
                            case hy111 => (intro w hSw; (try dsimp only at hSw); go_simp; try (with_reducible rfl))
                            (try simp only [Act.put, qa_, qb_, qc_])
                            refine wpAnyH_take (i := 12) (oi := ⟨some 138, _, _, _, _, _⟩) (v := ?v112) rfl (by kernel_rfl) (by kernel_rfl) (by kernel_rfl) (fun _ _ _ h => h) (Or.inl ⟨by rfl, ?hy112⟩) (by assumption) ?_
                            case hy112 => (intro w hSw; (try dsimp only at hSw); go_simp; try (with_reducible rfl))
                            (try simp only [Act.put, qa_, qb_, qc_])
                            refine wpAnyH_take (i := 13) (oi := ⟨some 139, _, _, _, _, _⟩) (v := ?v113) rfl (by kernel_rfl) (by kernel_rfl) (by kernel_rfl) (fun _ _ _ h => h) (Or.inl ⟨by rfl, ?hy113⟩) (by assumption) ?_
                            case hy113 => (intro w hSw; (try dsimp only at hSw); go_simp; try (with_reducible rfl))
                            (try simp only [Act.put, qa_, qb_, qc_])
                            refine wpAnyH_take (i := 14) (oi := ⟨some 140, _, _, _, _, _⟩) (v := ?v114) rfl (by kernel_rfl) (by kernel_rfl) (by kernel_rfl) (fun _ _ _ h => h) (Or.inl ⟨by rfl, ?hy114⟩) (by assumption) ?_
                            case hy114 => (intro w hSw; (try dsimp only at hSw); go_simp; try (with_reducible rfl))
                            (try simp only [Act.put, qa_, qb_, qc_])
                            refine wpAnyH_take (i := 15) (oi := ⟨some 141, _, _, _, _, _⟩) (v := ?v115) rfl (by kernel_rfl) (by kernel_rfl) (by kernel_rfl) (fun _ _ _ h => h) (Or.inl ⟨by rfl, ?hy115⟩) (by assumption) ?_
                            case hy115 => (intro w hSw; (try dsimp only at hSw); go_simp; try (with_reducible rfl))
                            (try simp only [Act.put, qa_, qb_, qc_])
                            refine wpAnyH_take (i := 16) (oi := ⟨some 142, _, _, _, _, _⟩) (v := ?v116) rfl (by kernel_rfl) (by kernel_rfl) (by kernel_rfl) (fun _ _ _ h => h) (Or.inl ⟨by rfl, ?hy116⟩) (by assumption) ?_
                            case hy116 => (intro w hSw; (try dsimp only at hSw); go_simp; try (with_reducible rfl))
                            (try simp only [Act.put, qa_, qb_, qc_])
                            refine wpAnyH_take (i := 17) (oi := ⟨some 143, _, _, _, _, _⟩) (v := ?v117) rfl (by kernel_rfl) (by kernel_rfl) (by kernel_rfl) (fun _ _ _ h => h) (Or.inl ⟨by rfl, ?hy117⟩) (by assumption) ?_
                            case hy117 => (intro w hSw; (try dsimp only at hSw); go_simp; try (with_reducible rfl))
                            (try simp only [Act.put, qa_, qb_, qc_])
                            refine wpAnyH_take (i := 18) (oi := ⟨some 144, _, _, _, _, _⟩) (v := ?v118) rfl (by kernel_rfl) (by kernel_rfl) (by kernel_rfl) (fun _ _ _ h => h) (Or.inl ⟨by rfl, ?hy118⟩) (by assumption) ?_
                            case hy118 => (intro w hSw; (try dsimp only at hSw); go_simp; try (with_reducible rfl))
                            (try simp only [Act.put, qa_, qb_, qc_])
                            refine wpAnyH_take (i := 19) (oi := ⟨some 145, _, _, _, _, _⟩) (v := ?v119) rfl (by kernel_rfl) (by kernel_rfl) (by kernel_rfl) (fun _ _ _ h => h) (Or.inl ⟨by rfl, ?hy119⟩) (by assumption) ?_
                            case hy119 => (intro w hSw; (try dsimp only at hSw); go_simp; try (with_reducible rfl))
                            (try simp only [Act.put, qa_, qb_, qc_])
                            refine wpAnyH_take (i := 20) (oi := ⟨some 146, _, _, _, _, _⟩) (v := ?v120) rfl (by kernel_rfl) (by kernel_rfl) (by kernel_rfl) (fun _ _ _ h => h) (Or.inl ⟨by rfl, ?hy120⟩) (by assumption) ?_
                            case hy120 => (intro w hSw; (try dsimp only at hSw); go_simp; try (with_reducible rfl))
                            (try simp only [Act.put, qa_, qb_, qc_])
                            refine wpAnyH_take (i := 21) (oi := ⟨some 147, _, _, _, _, _⟩) (v := ?v121) rfl (by kernel_rfl) (by kernel_rfl) (by kernel_rfl) (fun _ _ _ h => h) (Or.inl ⟨by rfl, ?hy121⟩) (by assumption) ?_
                            case hy121 => (intro w hSw; (try dsimp only at hSw); go_simp; try (with_reducible rfl))
                            (try simp only [Act.put, qa_, qb_, qc_])
                            refine wpAnyH_take (i := 22) (oi := ⟨some 148, _, _, _, _, _⟩) (v := ?v122) rfl (by kernel_rfl) (by kernel_rfl) (by kernel_rfl) (fun _ _ _ h => h) (Or.inl ⟨by rfl, ?hy122⟩) (by assumption) ?_
                            case hy122 => (intro w hSw; (try dsimp only at hSw); go_simp; try (with_reducible rfl))
                            (try simp only [Act.put, qa_, qb_, qc_])
                            refine wpAnyH_take (i := 23) (oi := ⟨some 149, _, _, _, _, _⟩) (v := ?v123) rfl (by kernel_rfl) (by kernel_rfl) (by kernel_rfl) (fun _ _ _ h => h) (Or.inl ⟨by rfl, ?hy123⟩) (by assumption) ?_
                            case hy123 => (intro w hSw; (try dsimp only at hSw); go_simp; try (with_reducible rfl))
                            (try simp only [Act.put, qa_, qb_, qc_])
                            refine wpAnyH_take (i := 24) (oi := ⟨some 150, _, _, _, _, _⟩) (v := ?v124) rfl (by kernel_rfl) (by kernel_rfl) (by kernel_rfl) (fun _ _ _ h => h) (Or.inl ⟨by rfl, ?hy124⟩) (by assumption) ?_
                            case hy124 => (intro w hSw; (try dsimp only at hSw); go_simp; try (with_reducible rfl))
                            (try simp only [Act.put, qa_, qb_, qc_])
                            refine wpAnyH_take (i := 25) (oi := ⟨some 151, _, _, _, _, _⟩) (v := ?v125) rfl (by kernel_rfl) (by kernel_rfl) (by kernel_rfl) (fun _ _ _ h => h) (Or.inl ⟨by rfl, ?hy125⟩) (by assumption) ?_
                            case hy125 => (intro w hSw; (try dsimp only at hSw); go_simp; try (with_reducible rfl))
                            (try simp only [Act.put, qa_, qb_, qc_])
                            refine wpAnyH_take (i := 26) (oi := ⟨some 152, _, _, _, _, _⟩) (v := ?v126) rfl (by kernel_rfl) (by kernel_rfl) (by kernel_rfl) (fun _ _ _ h => h) (Or.inl ⟨by rfl, ?hy126⟩) (by assumption) ?_
                            case hy126 => (intro w hSw; (try dsimp only at hSw); go_simp; try (with_reducible rfl))
                            (try simp only [Act.put, qa_, qb_, qc_])
                            refine wpAnyH_take (i := 27) (oi := ⟨some 153, _, _, _, _, _⟩) (v := ?v127) rfl (by kernel_rfl) (by kernel_rfl) (by kernel_rfl) (fun _ _ _ h => h) (Or.inl ⟨by rfl, ?hy127⟩) (by assumption) ?_
                            case hy127 => (intro w hSw; (try dsimp only at hSw); go_simp; try (with_reducible rfl))
                            (try simp only [Act.put, qa_, qb_, qc_])
                            refine wpAnyH_take (i := 28) (oi := ⟨some 154, _, _, _, _, _⟩) (v := ?v128) rfl (by kernel_rfl) (by kernel_rfl) (by kernel_rfl) (fun _ _ _ h => h) (Or.inl ⟨by rfl, ?hy128⟩) (by assumption) ?_
                            case hy128 => (intro w hSw; (try dsimp only at hSw); go_simp; try (with_reducible rfl))
                            (try simp only [Act.put, qa_, qb_, qc_])
                            refine wpAnyH_take (i := 29) (oi := ⟨some 155, _, _, _, _, _⟩) (v := ?v129) rfl (by kernel_rfl) (by kernel_rfl) (by kernel_rfl) (fun _ _ _ h => h) (Or.inl ⟨by rfl, ?hy129⟩) (by assumption) ?_
                            case hy129 => (intro w hSw; (try dsimp only at hSw); go_simp; try (with_reducible rfl))
                            (try simp only [Act.put, qa_, qb_, qc_])
                            refine wpAnyH_take (i := 30) (oi := ⟨some 156, _, _, _, _, _⟩) (v := ?v130) rfl (by kernel_rfl) (by kernel_rfl) (by kernel_rfl) (fun _ _ _ h => h) (Or.inl ⟨by rfl, ?hy130⟩) (by assumption) ?_
                            case hy130 => (intro w hSw; (try dsimp only at hSw); go_simp; try (with_reducible rfl))
                            (try simp only [Act.put, qa_, qb_, qc_])
                            refine wpAnyH_take (i := 31) (oi := ⟨some 157, _, _, _, _, _⟩) (v := ?v131) rfl (by kernel_rfl) (by kernel_rfl) (by kernel_rfl) (fun _ _ _ h => h) (Or.inl ⟨by rfl, ?hy131⟩) (by assumption) ?_
                            case hy131 => (intro w hSw; (try dsimp only at hSw); go_simp; try (with_reducible rfl))
                            (try simp only [Act.put, qa_, qb_, qc_])
                            refine wpAnyH_take (i := 32) (oi := ⟨some 158, _, _, _, _, _⟩) (v := ?v132) rfl (by kernel_rfl) (by kernel_rfl) (by kernel_rfl) (fun _ _ _ h => h) (Or.inl ⟨by rfl, ?hy132⟩) (by assumption) ?_
                            case hy132 => (intro w hSw; (try dsimp only at hSw); go_simp; try (with_reducible rfl))
                            (try simp only [Act.put, qa_, qb_, qc_])
                            refine wpAnyH_done (by kernel_rfl) ?_ _
                            go_wp2_with fail
                            go_meet
                            exact ⟨hsq, bad_t (by rw [HBP.out]; exact .inr (.inr (.inr ⟨r, b, rfl, HLB.out, h3⟩)))⟩
                          exact AllReadyH.nil
                      have d3 : decide (p.2.1 ≤ b.2.1) = false := decide_eq_false h3
                      as_aux_lemma =>
                        go_wp2_with fail
                        refine wp_region_held_drew (S := (fun w' => w'.cell? ⟨wr.heap.size, 0, none⟩ = some (.int .i64 p.1) ∧ w'.cell? ⟨wr.heap.size, 1, none⟩ = some (.int .i64 p.2.1) ∧ w'.cell? ⟨wr.heap.size, 2, none⟩ = some (.int .i64 p.2.2.1) ∧ w'.cell? ⟨wr.heap.size, 3, none⟩ = some (.slice A6 n6 c6) ∧ w'.cell? ⟨w5.heap.size, 0, none⟩ = some (.int .i64 a.1) ∧ w'.cell? ⟨w5.heap.size, 1, none⟩ = some (.int .i64 a.2.1) ∧ w'.cell? ⟨w5.heap.size, 3, none⟩ = some (.slice (some ⟨b3, off3, none⟩) n3 c3) ∧ w'.cell? ⟨b3, off3 + r * 4 + 1, none⟩ = some (.int .i64 b.2.1))) (by kernel_rfl) (by exact ⟨m0, m1, m2, m3, v0, v1, v3, u1⟩) (fun hHeld => ?_)
                        refine wpAnyH_take (i := 0) (oi := ⟨some 126, _, _, _, _, _⟩) (v := ?v133) rfl (by kernel_rfl) (by kernel_rfl) (by kernel_rfl) (fun _ _ _ h => h) (Or.inl ⟨by rfl, ?hy133⟩) (by assumption) ?_
                        case hy133 => (intro w hSw; (try dsimp only at hSw); go_simp; try (with_reducible rfl))
                        (try simp only [Act.put, qa_, qb_, qc_])
                        refine wpAnyH_ready (rs := [1]) (by kernel_rfl) (by simp) ?_
                        refine AllReadyH.cons rfl (fun K hK => ?_) ?_
                        · go_simp
                          go_at_call 38
                          refine (s_PieceOk (tPiece.reach (tPiece.reach hRp hB) (belx)) hzp).mono ?_
                          rintro e wq ⟨rfl, hbq⟩
                          rw [HPC.out]
                          have hsq : Below wr.heap.size wr wq := bel_trans (belx) hbq
                          have T8 := Box.below (Box.drew T7) hbq (Box.drew T7).size
                          have W8 := Box.below (Box.drew W7) hbq (Box.drew W7).size
                          have u2 := cell_bel hsq u0
                          go_wp2_with fail
                          refine hK.out _ _ (by exact ⟨T8.cell 0, T8.cell 1, T8.cell 2, T8.cell 3, W8.cell 0, W8.cell 1, W8.cell 3, u2⟩) (fun hHeld => ?_)
                          clear hK K
                          (try simp only [Act.put, qa_, qb_, qc_])
                          refine wpAnyH_take (i := 2) (oi := ⟨some 128, _, _, _, _, _⟩) (v := ?v134) rfl (by kernel_rfl) (by kernel_rfl) (by kernel_rfl) (fun _ _ _ h => h) (Or.inl ⟨by rfl, ?hy134⟩) (by assumption) ?_
                          case hy134 => (intro w hSw; (try dsimp only at hSw); go_simp; try (with_reducible rfl))
                          (try simp only [Act.put, qa_, qb_, qc_])
                          refine wpAnyH_take (i := 3) (oi := ⟨some 129, _, _, _, _, _⟩) (v := ?v135) rfl (by kernel_rfl) (by kernel_rfl) (by kernel_rfl) (fun _ _ _ h => h) (Or.inl ⟨by rfl, ?hy135⟩) (by assumption) ?_
                          case hy135 => (intro w hSw; (try dsimp only at hSw); go_simp; try (with_reducible rfl))
                          (try simp only [Act.put, qa_, qb_, qc_])
                          refine wpAnyH_take (i := 4) (oi := ⟨some 130, _, _, _, _, _⟩) (v := ?v136) rfl (by kernel_rfl) (by kernel_rfl) (by kernel_rfl) (fun _ _ _ h => h) (Or.inl ⟨by rfl, ?hy136⟩) (by assumption) ?_
                          case hy136 => (intro w hSw; (try dsimp only at hSw); go_simp; try (with_reducible rfl))
                          (try simp only [Act.put, qa_, qb_, qc_])
                          refine wpAnyH_take (i := 5) (oi := ⟨some 131, _, _, _, _, _⟩) (v := ?v137) rfl (by kernel_rfl) (by kernel_rfl) (by kernel_rfl) (fun _ _ _ h => h) (Or.inl ⟨by rfl, ?hy137⟩) (by assumption) ?_
                          case hy137 => (intro w hSw; (try dsimp only at hSw); go_simp; try (with_reducible rfl))
                          (try simp only [Act.put, qa_, qb_, qc_])
                          refine wpAnyH_take (i := 6) (oi := ⟨some 132, _, _, _, _, _⟩) (v := ?v138) rfl (by kernel_rfl) (by kernel_rfl) (by kernel_rfl) (fun _ _ _ h => h) (Or.inl ⟨by rfl, ?hy138⟩) (by assumption) ?_
                          case hy138 => (intro w hSw; (try dsimp only at hSw); go_simp; try (with_reducible rfl))
                          (try simp only [Act.put, qa_, qb_, qc_])
                          refine wpAnyH_take (i := 7) (oi := ⟨some 133, _, _, _, _, _⟩) (v := ?v139) rfl (by kernel_rfl) (by kernel_rfl) (by kernel_rfl) (fun _ _ _ h => h) (Or.inl ⟨by rfl, ?hy139⟩) (by assumption) ?_
                          case hy139 => (intro w hSw; (try dsimp only at hSw); go_simp; try (with_reducible rfl))
                          (try simp only [Act.put, qa_, qb_, qc_])
                          refine wpAnyH_take (i := 8) (oi := ⟨some 134, _, _, _, _, _⟩) (v := ?v140) rfl (by kernel_rfl) (by kernel_rfl) (by kernel_rfl) (fun _ _ _ h => h) (Or.inl ⟨by rfl, ?hy140⟩) (by assumption) ?_
                          case hy140 => (intro w hSw; (try dsimp only at hSw); go_simp; try (with_reducible rfl))
                          (try simp only [Act.put, qa_, qb_, qc_])
                          refine wpAnyH_take (i := 9) (oi := ⟨some 135, _, _, _, _, _⟩) (v := ?v141) rfl (by kernel_rfl) (by kernel_rfl) (by kernel_rfl) (fun _ _ _ h => h) (Or.inl ⟨by rfl, ?hy141⟩) (by assumption) ?_
                          case hy141 => (intro w hSw; (try dsimp only at hSw); go_simp; try (with_reducible rfl))
                          (try simp only [Act.put, qa_, qb_, qc_])
                          refine wpAnyH_take (i := 10) (oi := ⟨some 136, _, _, _, _, _⟩) (v := ?v142) rfl (by kernel_rfl) (by kernel_rfl) (by kernel_rfl) (fun _ _ _ h => h) (Or.inl ⟨by rfl, ?hy142⟩) (by assumption) ?_
                          case hy142 => (intro w hSw; (try dsimp only at hSw); go_simp; try (with_reducible rfl))
                          (try simp only [Act.put, qa_, qb_, qc_])
                          refine wpAnyH_take (i := 11) (oi := ⟨some 137, _, _, _, _, _⟩) (v := ?v143) rfl (by kernel_rfl) (by kernel_rfl) (by kernel_rfl) (fun _ _ _ h => h) (Or.inl ⟨by rfl, ?hy143⟩) (by assumption) ?_
                          case hy143 => (intro w hSw; (try dsimp only at hSw); go_simp; try (with_reducible rfl))
                          (try simp only [Act.put, qa_, qb_, qc_])
                          refine wpAnyH_take (i := 12) (oi := ⟨some 138, _, _, _, _, _⟩) (v := ?v144) rfl (by kernel_rfl) (by kernel_rfl) (by kernel_rfl) (fun _ _ _ h => h) (Or.inl ⟨by rfl, ?hy144⟩) (by assumption) ?_
                          case hy144 => (intro w hSw; (try dsimp only at hSw); go_simp; try (with_reducible rfl))
                          (try simp only [Act.put, qa_, qb_, qc_])
                          refine wpAnyH_take (i := 13) (oi := ⟨some 139, _, _, _, _, _⟩) (v := ?v145) rfl (by kernel_rfl) (by kernel_rfl) (by kernel_rfl) (fun _ _ _ h => h) (Or.inl ⟨by rfl, ?hy145⟩) (by assumption) ?_
                          case hy145 => (intro w hSw; (try dsimp only at hSw); go_simp; try (with_reducible rfl))
                          (try simp only [Act.put, qa_, qb_, qc_])
                          refine wpAnyH_take (i := 14) (oi := ⟨some 140, _, _, _, _, _⟩) (v := ?v146) rfl (by kernel_rfl) (by kernel_rfl) (by kernel_rfl) (fun _ _ _ h => h) (Or.inl ⟨by rfl, ?hy146⟩) (by assumption) ?_
                          case hy146 => (intro w hSw; (try dsimp only at hSw); go_simp; try (with_reducible rfl))
                          (try simp only [Act.put, qa_, qb_, qc_])
                          refine wpAnyH_take (i := 15) (oi := ⟨some 141, _, _, _, _, _⟩) (v := ?v147) rfl (by kernel_rfl) (by kernel_rfl) (by kernel_rfl) (fun _ _ _ h => h) (Or.inl ⟨by rfl, ?hy147⟩) (by assumption) ?_
                          case hy147 => (intro w hSw; (try dsimp only at hSw); go_simp; try (with_reducible rfl))
                          (try simp only [Act.put, qa_, qb_, qc_])
                          refine wpAnyH_take (i := 16) (oi := ⟨some 142, _, _, _, _, _⟩) (v := ?v148) rfl (by kernel_rfl) (by kernel_rfl) (by kernel_rfl) (fun _ _ _ h => h) (Or.inl ⟨by rfl, ?hy148⟩) (by assumption) ?_
                          case hy148 => (intro w hSw; (try dsimp only at hSw); go_simp; try (with_reducible rfl))
                          (try simp only [Act.put, qa_, qb_, qc_])
                          refine wpAnyH_take (i := 17) (oi := ⟨some 143, _, _, _, _, _⟩) (v := ?v149) rfl (by kernel_rfl) (by kernel_rfl) (by kernel_rfl) (fun _ _ _ h => h) (Or.inl ⟨by rfl, ?hy149⟩) (by assumption) ?_
                          case hy149 => (intro w hSw; (try dsimp only at hSw); go_simp; try (with_reducible rfl))
                          (try simp only [Act.put, qa_, qb_, qc_])
                          refine wpAnyH_take (i := 18) (oi := ⟨some 144, _, _, _, _, _⟩) (v := ?v150) rfl (by kernel_rfl) (by kernel_rfl) (by kernel_rfl) (fun _ _ _ h => h) (Or.inl ⟨by rfl, ?hy150⟩) (by assumption) ?_
                          case hy150 => (intro w hSw; (try dsimp only at hSw); go_simp; try (with_reducible rfl))
                          (try simp only [Act.put, qa_, qb_, qc_])
                          refine wpAnyH_take (i := 19) (oi := ⟨some 145, _, _, _, _, _⟩) (v := ?v151) rfl (by kernel_rfl) (by kernel_rfl) (by kernel_rfl) (fun _ _ _ h => h) (Or.inl ⟨by rfl, ?hy151⟩) (by assumption) ?_
                          case hy151 => (intro w hSw; (try dsimp only at hSw); go_simp; try (with_reducible rfl))
                          (try simp only [Act.put, qa_, qb_, qc_])
                          refine wpAnyH_take (i := 20) (oi := ⟨some 146, _, _, _, _, _⟩) (v := ?v152) rfl (by kernel_rfl) (by kernel_rfl) (by kernel_rfl) (fun _ _ _ h => h) (Or.inl ⟨by rfl, ?hy152⟩) (by assumption) ?_
                          case hy152 => (intro w hSw; (try dsimp only at hSw); go_simp; try (with_reducible rfl))
                          (try simp only [Act.put, qa_, qb_, qc_])
                          refine wpAnyH_take (i := 21) (oi := ⟨some 147, _, _, _, _, _⟩) (v := ?v153) rfl (by kernel_rfl) (by kernel_rfl) (by kernel_rfl) (fun _ _ _ h => h) (Or.inl ⟨by rfl, ?hy153⟩) (by assumption) ?_
                          case hy153 => (intro w hSw; (try dsimp only at hSw); go_simp; try (with_reducible rfl))
                          (try simp only [Act.put, qa_, qb_, qc_])
                          refine wpAnyH_take (i := 22) (oi := ⟨some 148, _, _, _, _, _⟩) (v := ?v154) rfl (by kernel_rfl) (by kernel_rfl) (by kernel_rfl) (fun _ _ _ h => h) (Or.inl ⟨by rfl, ?hy154⟩) (by assumption) ?_
                          case hy154 => (intro w hSw; (try dsimp only at hSw); go_simp; try (with_reducible rfl))
                          (try simp only [Act.put, qa_, qb_, qc_])
                          refine wpAnyH_take (i := 23) (oi := ⟨some 149, _, _, _, _, _⟩) (v := ?v155) rfl (by kernel_rfl) (by kernel_rfl) (by kernel_rfl) (fun _ _ _ h => h) (Or.inl ⟨by rfl, ?hy155⟩) (by assumption) ?_
                          case hy155 => (intro w hSw; (try dsimp only at hSw); go_simp; try (with_reducible rfl))
                          (try simp only [Act.put, qa_, qb_, qc_])
                          refine wpAnyH_take (i := 24) (oi := ⟨some 150, _, _, _, _, _⟩) (v := ?v156) rfl (by kernel_rfl) (by kernel_rfl) (by kernel_rfl) (fun _ _ _ h => h) (Or.inl ⟨by rfl, ?hy156⟩) (by assumption) ?_
                          case hy156 => (intro w hSw; (try dsimp only at hSw); go_simp; try (with_reducible rfl))
                          (try simp only [Act.put, qa_, qb_, qc_])
                          refine wpAnyH_take (i := 25) (oi := ⟨some 151, _, _, _, _, _⟩) (v := ?v157) rfl (by kernel_rfl) (by kernel_rfl) (by kernel_rfl) (fun _ _ _ h => h) (Or.inl ⟨by rfl, ?hy157⟩) (by assumption) ?_
                          case hy157 => (intro w hSw; (try dsimp only at hSw); go_simp; try (with_reducible rfl))
                          (try simp only [Act.put, qa_, qb_, qc_])
                          refine wpAnyH_take (i := 26) (oi := ⟨some 152, _, _, _, _, _⟩) (v := ?v158) rfl (by kernel_rfl) (by kernel_rfl) (by kernel_rfl) (fun _ _ _ h => h) (Or.inl ⟨by rfl, ?hy158⟩) (by assumption) ?_
                          case hy158 => (intro w hSw; (try dsimp only at hSw); go_simp; try (with_reducible rfl))
                          (try simp only [Act.put, qa_, qb_, qc_])
                          refine wpAnyH_take (i := 27) (oi := ⟨some 153, _, _, _, _, _⟩) (v := ?v159) rfl (by kernel_rfl) (by kernel_rfl) (by kernel_rfl) (fun _ _ _ h => h) (Or.inl ⟨by rfl, ?hy159⟩) (by assumption) ?_
                          case hy159 => (intro w hSw; (try dsimp only at hSw); go_simp; try (with_reducible rfl))
                          (try simp only [Act.put, qa_, qb_, qc_])
                          refine wpAnyH_take (i := 28) (oi := ⟨some 154, _, _, _, _, _⟩) (v := ?v160) rfl (by kernel_rfl) (by kernel_rfl) (by kernel_rfl) (fun _ _ _ h => h) (Or.inl ⟨by rfl, ?hy160⟩) (by assumption) ?_
                          case hy160 => (intro w hSw; (try dsimp only at hSw); go_simp; try (with_reducible rfl))
                          (try simp only [Act.put, qa_, qb_, qc_])
                          refine wpAnyH_take (i := 29) (oi := ⟨some 155, _, _, _, _, _⟩) (v := ?v161) rfl (by kernel_rfl) (by kernel_rfl) (by kernel_rfl) (fun _ _ _ h => h) (Or.inl ⟨by rfl, ?hy161⟩) (by assumption) ?_
                          case hy161 => (intro w hSw; (try dsimp only at hSw); go_simp; try (with_reducible rfl))
                          (try simp only [Act.put, qa_, qb_, qc_])
                          refine wpAnyH_take (i := 30) (oi := ⟨some 156, _, _, _, _, _⟩) (v := ?v162) rfl (by kernel_rfl) (by kernel_rfl) (by kernel_rfl) (fun _ _ _ h => h) (Or.inl ⟨by rfl, ?hy162⟩) (by assumption) ?_
                          case hy162 => (intro w hSw; (try dsimp only at hSw); go_simp; try (with_reducible rfl))
                          (try simp only [Act.put, qa_, qb_, qc_])
                          refine wpAnyH_take (i := 31) (oi := ⟨some 157, _, _, _, _, _⟩) (v := ?v163) rfl (by kernel_rfl) (by kernel_rfl) (by kernel_rfl) (fun _ _ _ h => h) (Or.inl ⟨by rfl, ?hy163⟩) (by assumption) ?_
                          case hy163 => (intro w hSw; (try dsimp only at hSw); go_simp; try (with_reducible rfl))
                          (try simp only [Act.put, qa_, qb_, qc_])
                          refine wpAnyH_take (i := 32) (oi := ⟨some 158, _, _, _, _, _⟩) (v := ?v164) rfl (by kernel_rfl) (by kernel_rfl) (by kernel_rfl) (fun _ _ _ h => h) (Or.inl ⟨by rfl, ?hy164⟩) (by assumption) ?_
                          case hy164 => (intro w hSw; (try dsimp only at hSw); go_simp; try (with_reducible rfl))
                          (try simp only [Act.put, qa_, qb_, qc_])
                          refine wpAnyH_done (by kernel_rfl) ?_ _
                          go_wp2_with fail
                          go_meet
                          exact ⟨hsq, bad_f (by rw [HBP.out]; rintro (h | h | h | ⟨r', b', hr, hb', hle⟩); exact h HN.out; exact h H1.out; exact h H2.out; (obtain rfl : r' = r := (by omega)); rw [HLB.out] at hb'; injection hb' with hb'; subst hb'; omega)⟩
                        exact AllReadyH.nil
                  case rest =>
                    obtain ⟨hBc, rfl⟩ := hcut
                    by_cases hbp : BadP
                    · obtain rfl := HF.out (fun h => by
                        rw [HBP.out] at hbp
                        have hw := (h.2.2.2.2 _ (List.mem_of_getElem? HA.out)).1.2.2
                        have hpp := hw.1 _ (List.mem_of_getElem? HA3.out)
                        rcases hbp with h' | h' | h' | ⟨r, b, rfl, hb', hle⟩
                        · exact h' hpp.1
                        · exact h' hpp.2.1
                        · exact h' hpp.2.2
                        · have := asc_at (f := fun p : DPiece => p.2.1) hw.2 HA3.out hb'; (try dsimp only at this); omega)
                      rw [@decide_eq_true BadP (Classical.propDecidable _) hbp]
                      go_wp2
                      go_ret
                      exact ⟨rfl, bel_trans hB hBc⟩
                    · rw [@decide_eq_false BadP (Classical.propDecidable _) hbp]
                      rw [HBP.out] at hbp
                      have HNB := Lib.hid hbp
                      clear hbp
                      go_wp2
                      go_roundw
                      case rel => exact ⟨q + 1, by omega, by go_num, bel_trans hB hBc, hX.below hBc hX.size, hW.below hBc hW.size, Nat.le_trans hz hBc.size, HG2.out.succ HA3.out ⟨Classical.byContradiction fun h => HNB.out (.inl h), Classical.byContradiction fun h => HNB.out (.inr (.inl h)), Classical.byContradiction fun h => HNB.out (.inr (.inr (.inl h)))⟩ (fun r b hr hb' => Int.not_le.1 fun h => HNB.out (.inr (.inr (.inr ⟨r, b, hr, hb', h⟩))))⟩
                      case measure => simp [RowKit.intOf]; omega
                · obtain rfl : n3 = q := by omega
                  have HL4 := HG2.out.done (Nat.le_of_eq HL3.out)
                  have HWN := Lib.hid (show WhN a from ⟨⟨by have := HBAD.out; omega, by have := HBAD.out; omega⟩, ⟨by have := HBAD.out; have := HL3.out; omega, by have := HBAD.out; have := HL3.out; omega⟩, HL4.1, HL4.2⟩)
                  clear HL4
                  go_wp2
                  go_roundw
                  case rel => exact ⟨k + 1, by omega, by go_num, hB, hX, HG.out.succ HA.out ⟨HWN.out, fun h => HBAD.out (.inr (.inl h))⟩ (fun q b hq hb' => Int.not_le.1 fun h => HBAD.out (.inl ⟨q, b, hq, hb', h⟩))⟩
                  case measure => simp [RowKit.intOf]; omega
        · obtain rfl : n0 = k := by omega
          obtain rfl := HT.out ⟨by have := E0.out; dsimp only; omega, HD.out.1, HD.out.2, (HG.out.done (Nat.le_of_eq E0.out)).2, (HG.out.done (Nat.le_of_eq E0.out)).1⟩
          go_wp2
          go_ret
          exact ⟨rfl, hB⟩
theorem s_DeskOk {w : World} {cs : List Value} {p : DDesk} (h : tDesk.R w w.heap.size cs p) (hz : szDesk p ≤ 1048576) :
    Calls Tryz.prog 22 #[.agg cs.toArray] w fun e w' => e = .returned (.bool (decide (DkOk p))) ∧ Below w.heap.size w w' := by
  obtain ⟨A0, n0, c0, A1, n1, c1, rfl, -, -, -, hr0, -, -, hn1, hr1⟩ := openDesk h
  unfold szDesk at hz
  exact s_DeskOkN _ (fun hh => decide_eq_true hh) (fun hh => decide_eq_false hh) hr0 hr1 (by omega)
end Go.Proofs.YtaabmaoldhoinaaGreat
