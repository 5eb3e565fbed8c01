/-
  PDeskT: texts joined.
-/
import Derived.Test.YtkdanlnhdgcplaaGreatFGa
import Derived.Test.YtkdanlnhdgcplaaGreatFGb
import Derived.Test.YtkdanlnhdgcplaaGreatFGe
import Derived.BigQuiet
import Derived.Deep.Cut
import Derived.Deep.CutRange
import Derived.Deep.DeepCutAuto
import Derived.Deep.QuietTactic
import Derived.Deep.RegionHeld3
import Derived.Outline
namespace Go.Proofs.YtkdanlnhdgcplaaGreat
set_option maxRecDepth 100000
set_option linter.unusedVariables false
set_option linter.unusedSimpArgs false
open Go.ChangeShapes Go.WideShapes Go.ChangeAt Go.RowKit
theorem row_sz {r0 : List DWhole} {k : Nat} {a : DWhole} (h : rsz szWhole r0 ≤ 1048576) (ha : r0[k]? = some a) : ∀ p ∈ a.2.2.2, szPiece p ≤ 1048576 := fun p hp => by
 have h1 := rsz_step (s := szWhole) ha
 obtain ⟨i, hi, rfl⟩ := List.getElem_of_mem hp
 have h2 := rsz_step (s := szPiece) (List.getElem?_eq_getElem hi)
 have h3 : szWhole a = rsz szPiece a.2.2.2 := rfl
 omega
theorem all_z {α : Type} {P : α → Prop} {l : List α} : ∀ h ∈ l.take 0, P h := fun h hh => absurd hh (by simp)
theorem all_s {α : Type} {P : α → Prop} {l : List α} {a : α} {j : Nat} (h : ∀ x ∈ l.take j, P x) (hl : l[j]? = some a) (ha : P a) : ∀ x ∈ l.take (j + 1), P x := by
 rw [take_sn hl]
 intro x hx
 rcases List.mem_append.1 hx with h' | h'
 ·exact h x h'
 ·rw [List.mem_singleton] at h'; rw [h']; exact ha
theorem getI {l : List Int} {n j : Nat} (h : l.length = n) (hj : j < n) : l[j]? = some (l.getD j 0) := by
 rw [List.getD_eq_getElem?_getD, List.getElem?_eq_getElem (by omega)]; rfl
theorem memI {l : List Int} {n j : Nat} (h : l.length = n) (hj : j < n) : l.getD j 0 ∈ l := List.mem_of_getElem? (getI h hj)
theorem s_has4 {w : World} {B n c : Nat} {A : Option Addr} {l : List Int} (x : Int) (hl : Ints .i64 w B A n l) (hn : n ≤ 17592186043904) :
  Calls Tryz.prog 95 #[.slice A n c, .int .i64 x] w fun e w' => e = .returned (.bool (decide (x ∈ l))) ∧ w = w' := by
 have HL := Lib.hid hl.1
 go_enter Tryz.func95, Tryz.ntmps95
 go_wp2_with fail
 go_loop [5] (fun i => ∃ j : Nat, j ≤ n ∧ i = .int .i64 j ∧ ∀ y ∈ l.take j, y ≠ x) (fun i => n - (RowKit.intOf i).toNat)
 case atStart => exact ⟨0, by omega, rfl, all_z⟩
 case round =>
  obtain ⟨j, hj, rfl, hG⟩ := hrel
  have HG := Lib.hid hG
  clear hG
  by_cases hlt : j < n
  ·obtain ⟨b, off, rfl, hb, hcell, hwf⟩ := hl.at_ hlt
   have HA := Lib.hid (getI HL.out hlt)
   obtain ⟨y, hy⟩ : ∃ y, l.getD j 0 = y := ⟨_, rfl⟩
   rw [hy] at hcell HA
   clear hy hwf
   by_cases he : y = x
   ·subst he
    have HR := Lib.hid (show decide (y ∈ l) = true from decide_eq_true (List.mem_of_getElem? HA.out))
    go_wp2
    go_ret
    exact ⟨ret_bool HR.out.symm, rfl⟩
   ·have q : (y == x) = false := by simpa using he
    have HN := Lib.hid he
    clear he
    go_wp2
    go_round
    case rel => exact ⟨j + 1, by omega, by go_num, all_s HG.out HA.out HN.out⟩
    case measure => simp [RowKit.intOf]; omega
  ·obtain rfl : j = n := by omega
   have HR := Lib.hid (show decide (x ∈ l) = false from decide_eq_false fun hx => by rw [← List.take_of_length_le (Nat.le_of_eq HL.out)] at hx; exact HG.out x hx rfl)
   go_wp2
   go_ret
   exact ⟨ret_bool HR.out.symm, rfl⟩
theorem q_at4 {P : Program} {f : FuncId} {args : Array Value} {w : World} {n : Nat} {v : Value} (h : Calls P f args (w.drewN n) fun e w' => e = .returned v ∧ w.drewN n = w') :
  Calls P f args (w.drewN n) fun e w'' => e = .returned v ∧ ∃ m, w'' = w.drewN m := h.mono fun _ _ ⟨he, hw⟩ => ⟨he, n, hw.symm⟩
theorem bad_t {B : Prop} (h : B) : Value.bool true = .bool (@decide B (Classical.propDecidable _)) := by rw [@decide_eq_true B (Classical.propDecidable B) h]
theorem bad_f {B : Prop} (h : ¬ B) : Value.bool false = .bool (@decide B (Classical.propDecidable _)) := by rw [@decide_eq_false B (Classical.propDecidable B) h]
set_option maxHeartbeats 8000000 in
theorem s_DeskOkN {w : World} {A0 A1 : Option Addr} {n0 c0 n1 c1 : Nat} {r0 : List DWhole} {l1 : List Int} (b : Bool) (T : DkOk (r0, l1) → b = true) (F : ¬ DkOk (r0, l1) → b = false)
  (h0 : tWhole.row.R w w.heap.size [.slice A0 n0 c0] r0) (h1 : tIs.R w w.heap.size [.slice A1 n1 c1] l1) (hsz : rsz szWhole r0 ≤ 1048576) :
  Calls Tryz.prog 94 #[.agg #[.slice A0 n0 c0, .slice A1 n1 c1]] w fun e w' => e = .returned (.bool b) ∧ Bel w w' := by
 obtain ⟨e0, hnc0, hcm0⟩ := rowR_len h0
 have hl1 := (slR_ints h1).1
 have hcc := (slR_ints h1).2
 have E0 := Lib.hid e0
 have E1 := Lib.hid hl1.1
 have HT := Lib.hid T
 have HF := Lib.hid F
 have HS0 := Lib.hid hsz
 clear T F e0 h1 hsz
 by_cases g0 : n0 ≤ 6
 rotate_left
 ·obtain rfl := HF.out (fun h => by have := h.1; have := E0.out; dsimp only at *; omega)
  have q : (6 : Int) < (n0 : Int) := by omega
  clear HT HF
  go_enter Tryz.func94, Tryz.ntmps94
  go_wp2
  go_ret
  exact ⟨rfl, (belx)⟩
 have q0 : ¬ (6 : Int) < (n0 : Int) := by omega
 by_cases g1 : n1 ≤ 256
 rotate_left
 ·obtain rfl := HF.out (fun h => by have := asc_len h.2.2.1 h.2.1; have := E1.out; dsimp only at *; omega)
  have q : (256 : Int) < (n1 : Int) := by omega
  clear HT HF
  go_enter Tryz.func94, Tryz.ntmps94
  go_wp2
  go_ret
  exact ⟨rfl, (belx)⟩
 have q1 : ¬ (256 : Int) < (n1 : Int) := by omega
 go_enter Tryz.func94, Tryz.ntmps94
 go_wp2_with fail
 go_loopw [3] (fun i wr => ∃ j : Nat, j ≤ n1 ∧ i = .int .i64 j ∧ Bel w wr ∧ Box wr w.heap.size 106 #[.slice A0 n0 c0, .slice A1 n1 c1] ∧ DnK l1 j) (fun i _ => n1 - (RowKit.intOf i).toNat)
 case atStart => exact ⟨0, by omega, rfl, (belx), Box.new _ _ _, DnK.zero⟩
 case round =>
  obtain ⟨j, hj, rfl, hB, hX, hG⟩ := hrel
  have HG := Lib.hid hG
  clear hG
  have k0 := hX.cell 0
  have k1 := hX.cell 1
  by_cases hlt : j < n1
  ·have HM := Lib.hid (memI E1.out hlt)
   obtain ⟨bA, off, rfl, hb, hc⟩ := hl1.2.1 (by omega)
   have u0 : wr.cell? ⟨bA, off + j, none⟩ = some (.int .i64 (l1.getD j 0)) := cell_at hB hb (hc j hlt)
   have wf0 := wf_getD hl1.2.2 (show j < l1.length by rw [E1.out]; exact hlt)
   have i0 : (0 : Int) ≤ (j : Int) := by omega
   have i1 : (j : Int) < (n1 : Int) := by omega
   obtain ⟨y, hy⟩ : ∃ y, l1.getD j 0 = y := ⟨_, rfl⟩
   have HY := Lib.hid hy
   rw [hy] at u0 HM wf0
   have rgy := i64_rg wf0
   clear hy
   by_cases b0 : y < 0
   ·obtain rfl := HF.out (fun h => by have := (h.2.1 _ HM.out).1; omega)
    have d0 : decide (y < 0) = true := decide_eq_true b0
    go_wp2_with fail
    go_quiet (fail)
    go_wp2
    go_ret
    exact ⟨rfl, below_drewN hB _⟩
   have d0 : decide (y < 0) = false := decide_eq_false b0
   by_cases b1 : 255 < y
   ·obtain rfl := HF.out (fun h => by have := (h.2.1 _ HM.out).2; omega)
    have d1 : decide (255 < y) = true := decide_eq_true b1
    go_wp2_with fail
    go_quiet (fail)
    go_wp2
    go_ret
    exact ⟨rfl, below_drewN hB _⟩
   have d1 : decide (255 < y) = false := decide_eq_false b1
   cases j with
   | zero =>
    have u9 : wr.cell? ⟨bA, off, none⟩ = some (.int .i64 y) := by simpa using u0
    have n9 : (0 : Int) < (n1 : Int) := by omega
    go_wp2_with fail
    go_quiet (fail)
    go_wp2
    go_roundw
    case rel => exact ⟨0 + 1, by omega, by go_num, below_drewN hB _, hX.drewN _, HG.out.succ (by rw [HY.out]; omega) (by rw [HY.out]; omega) (fun q hq => absurd hq (by omega))⟩
    case measure => simp [RowKit.intOf]; omega
   | succ q =>
    have u1 : wr.cell? ⟨bA, off + q, none⟩ = some (.int .i64 (l1.getD q 0)) := cell_at hB hb (hc q (by omega))
    obtain ⟨z, hz⟩ : ∃ z, l1.getD q 0 = z := ⟨_, rfl⟩
    have HZ := Lib.hid hz
    rw [hz] at u1
    clear hz
    by_cases b2 : y ≤ z
    ·obtain rfl := HF.out (fun h => by have := h.2.2.1 q (by show q + 1 < l1.length; rw [E1.out]; exact hlt); rw [HZ.out] at this; rw [HY.out] at this; omega)
     have d2 : decide (y ≤ z) = true := decide_eq_true b2
     go_wp2_with fail
     go_quiet (fail)
     go_wp2
     go_ret
     exact ⟨rfl, below_drewN hB _⟩
    ·have d2 : decide (y ≤ z) = false := decide_eq_false b2
     go_wp2_with fail
     go_quiet (fail)
     go_wp2
     go_roundw
     case rel => exact ⟨q + 1 + 1, by omega, by go_num, below_drewN hB _, hX.drewN _, HG.out.succ (by rw [HY.out]; omega) (by rw [HY.out]; omega) (fun q' hq => by (obtain rfl : q' = q := (by omega)); rw [HZ.out, HY.out]; omega)⟩
     case measure => simp [RowKit.intOf]; omega
  ·obtain rfl : n1 = j := by omega
   have HD := Lib.hid (HG.out.done (Nat.le_of_eq E1.out))
   clear HG
   go_wp2_with fail
   clear k0 k1
   go_loopw [4] (fun i w2 => ∃ k : Nat, k ≤ n0 ∧ i = .int .i64 k ∧ Bel w w2 ∧ Box w2 w.heap.size 106 #[.slice A0 n0 c0, .slice A1 n1 c1] ∧ RwK (fun wh : DWhole => WhN wh ∧ wh.1 ∉ l1) (fun wh => wh.1) r0 k) (fun i _ => n0 - (RowKit.intOf i).toNat)
   case atStart => exact ⟨0, by omega, rfl, hB, hX, RwK.zero⟩
   case round =>
    clear hB hX
    obtain ⟨k, hk, rfl, hB, hX, hG⟩ := hrel
    have HG := Lib.hid hG
    clear hG
    have k0 := hX.cell 0
    have k1 := hX.cell 1
    by_cases hlt : k < n0
    ·obtain ⟨a, b', off, es, hl, rfl, hb, hes, hR⟩ := rowR_at (K := 4) h0 hlt rfl
     have HA := Lib.hid hl
     clear hl
     obtain ⟨A3, n3, c3, rfl, hw0, hw1, hw2, hn3, hc3, hl3, hr3⟩ := openWhole hR
     have HL3 := Lib.hid hl3
     have rg1 := i64_rg hw1
     have rg2 := i64_rg hw2
     have e0 : wr.cell? ⟨b', off + k * 4, none⟩ = some (.int .i64 a.1) := cell_at hB hb (hes 0 (by omega))
     have e1 : wr.cell? ⟨b', off + k * 4 + 1, none⟩ = some (.int .i64 a.2.1) := cell_at hB hb (hes 1 (by omega))
     have e2 : wr.cell? ⟨b', off + k * 4 + 2, none⟩ = some (.int .i64 a.2.2.1) := cell_at hB hb (hes 2 (by omega))
     have e3 : wr.cell? ⟨b', off + k * 4 + 3, none⟩ = some (.slice A3 n3 c3) := cell_at hB hb (hes 3 (by omega))
     have k2 := (hX.alloc (.cells #[.int .i64 a.1, .int .i64 a.2.1, .int .i64 a.2.2.1, .slice A3 n3 c3] 177)).cell 0
     have k3 := (hX.alloc (.cells #[.int .i64 a.1, .int .i64 a.2.1, .int .i64 a.2.2.1, .slice A3 n3 c3] 177)).cell 1
     clear hes hR hl3
     have hI : Ints .i64 (wr.alloc (.cells #[.int .i64 a.1, .int .i64 a.2.1, .int .i64 a.2.2.1, .slice A3 n3 c3] 177)) (wr.alloc (.cells #[.int .i64 a.1, .int .i64 a.2.1, .int .i64 a.2.2.1, .slice A3 n3 c3] 177)).heap.size A1 n1 l1 := reach hl1 (bel_alloc hB _)
     have hsz := hB.size
     obtain ⟨BadW, hBadW⟩ : ∃ B : Prop, B = ((∃ q b, k = q + 1 ∧ r0[q]? = some b ∧ a.1 ≤ b.1) ∨ a.1 ∈ l1 ∨ n3 < 1 ∨ a.2.1 ≤ (n3 : Int) ∨ a.2.2.1 < 0 ∨ 65535 < a.2.2.1) := ⟨_, rfl⟩
     have HBW := Lib.hid hBadW
     clear hBadW
     have hH : ∀ n, Calls Tryz.prog 95 #[.slice A1 n1 c1, .int .i64 a.1] ((wr.alloc (.cells #[.int .i64 a.1, .int .i64 a.2.1, .int .i64 a.2.2.1, .slice A3 n3 c3] 177)).drewN n) fun e w' => e = .returned (.bool (decide (a.1 ∈ l1))) ∧ (wr.alloc (.cells #[.int .i64 a.1, .int .i64 a.2.1, .int .i64 a.2.2.1, .slice A3 n3 c3] 177)).drewN n = w' := fun n => s_has4 (c := c1) a.1 (hI.drewN n) (by omega)
     go_wp2_with fail
     go_cut [113] (fun t wx => ∃ nq, wx = (wr.alloc (.cells #[.int .i64 a.1, .int .i64 a.2.1, .int .i64 a.2.2.1, .slice A3 n3 c3] 177)).drewN nq ∧ t = .bool (@decide BadW (Classical.propDecidable _)))
     case first =>
      cases k with
      | zero =>
       have n9 : (0 : Int) < (n0 : Int) := by omega
       have e9 : wr.cell? ⟨b', off, none⟩ = some (.int .i64 a.1) := by simpa using e0
       have e8 : wr.cell? ⟨b', off + 1, none⟩ = some (.int .i64 a.2.1) := by simpa using e1
       have e7 : wr.cell? ⟨b', off + 2, none⟩ = some (.int .i64 a.2.2.1) := by simpa using e2
       have e6 : wr.cell? ⟨b', off + 3, none⟩ = some (.slice A3 n3 c3) := by simpa using e3
       by_cases hm : a.1 ∈ l1
       ·have HM := Lib.hid hm
        rw [decide_eq_true hm] at hH
        clear hm
        as_aux_lemma =>
         go_quiet ((go_at_call 95; exact q_at4 (hH _)))
         go_wp2_with fail
         go_meet
         exact ⟨_, rfl, bad_t (by rw [HBW.out]; exact .inr (.inl HM.out))⟩
       rw [decide_eq_false hm] at hH
       have HM := Lib.hid hm
       clear hm
       by_cases b3 : n3 < 1
       ·have d3 : decide ((n3 : Int) < 1) = true := decide_eq_true (by omega)
        as_aux_lemma =>
         go_quiet ((go_at_call 95; exact q_at4 (hH _)))
         go_wp2_with fail
         go_meet
         exact ⟨_, rfl, bad_t (by rw [HBW.out]; exact .inr (.inr (.inl b3)))⟩
       have d3 : decide ((n3 : Int) < 1) = false := decide_eq_false (by omega)
       by_cases b4 : a.2.1 ≤ (n3 : Int)
       ·have d4 : decide (a.2.1 ≤ (n3 : Int)) = true := decide_eq_true b4
        as_aux_lemma =>
         go_quiet ((go_at_call 95; exact q_at4 (hH _)))
         go_wp2_with fail
         go_meet
         exact ⟨_, rfl, bad_t (by rw [HBW.out]; exact .inr (.inr (.inr (.inl b4))))⟩
       have d4 : decide (a.2.1 ≤ (n3 : Int)) = false := decide_eq_false b4
       by_cases b5 : a.2.2.1 < 0
       ·have d5 : decide (a.2.2.1 < 0) = true := decide_eq_true b5
        as_aux_lemma =>
         go_quiet ((go_at_call 95; exact q_at4 (hH _)))
         go_wp2_with fail
         go_meet
         exact ⟨_, rfl, bad_t (by rw [HBW.out]; exact .inr (.inr (.inr (.inr (.inl b5)))))⟩
       have d5 : decide (a.2.2.1 < 0) = false := decide_eq_false b5
       by_cases b6 : 65535 < a.2.2.1
       ·have d6 : decide (65535 < a.2.2.1) = true := decide_eq_true b6
        as_aux_lemma =>
         go_quiet ((go_at_call 95; exact q_at4 (hH _)))
         go_wp2_with fail
         go_meet
         exact ⟨_, rfl, bad_t (by rw [HBW.out]; exact .inr (.inr (.inr (.inr (.inr b6)))))⟩
       have d6 : decide (65535 < a.2.2.1) = false := decide_eq_false b6
       as_aux_lemma =>
        go_quiet ((go_at_call 95; exact q_at4 (hH _)))
        go_wp2_with fail
        go_meet
        exact ⟨_, rfl, bad_f (by rw [HBW.out]; rintro (h | h | h | h | h | h); exact (show False from (fun ⟨q, b, hq, _⟩ => absurd hq (by omega)) h); exact HM.out h; omega; omega; omega; omega)⟩
      | succ q =>
       obtain ⟨b, b2, off2, es2, hlb, hA2, hb2, hes2, hR2⟩ := rowR_at (K := 4) h0 (show q < n0 by omega) rfl
       injection hA2 with hA2
       injection hA2 with e9 e8 _
       subst e9 e8
       have HLB := Lib.hid hlb
       clear hlb
       obtain ⟨A4, n4, c4, rfl, -, -, -, -, -, -, -⟩ := openWhole hR2
       have u0 : wr.cell? ⟨b', off + q * 4, none⟩ = some (.int .i64 b.1) := cell_at hB hb (hes2 0 (by omega))
       have u1 := cell_bel (w' := wr.alloc (.cells #[.int .i64 a.1, .int .i64 a.2.1, .int .i64 a.2.2.1, .slice A3 n3 c3] 177)) (belx) u0
       clear hes2 hR2
       by_cases b2 : a.1 ≤ b.1
       ·have d2 : decide (a.1 ≤ b.1) = true := decide_eq_true b2
        as_aux_lemma =>
         go_quiet ((go_at_call 95; exact q_at4 (hH _)))
         go_wp2_with fail
         go_meet
         exact ⟨_, rfl, bad_t (by rw [HBW.out]; exact .inl ⟨q, b, rfl, HLB.out, b2⟩)⟩
       have d2 : decide (a.1 ≤ b.1) = false := decide_eq_false b2
       by_cases hm : a.1 ∈ l1
       ·have HM := Lib.hid hm
        rw [decide_eq_true hm] at hH
        clear hm
        as_aux_lemma =>
         go_quiet ((go_at_call 95; exact q_at4 (hH _)))
         go_wp2_with fail
         go_meet
         exact ⟨_, rfl, bad_t (by rw [HBW.out]; exact .inr (.inl HM.out))⟩
       rw [decide_eq_false hm] at hH
       have HM := Lib.hid hm
       clear hm
       by_cases b3 : n3 < 1
       ·have d3 : decide ((n3 : Int) < 1) = true := decide_eq_true (by omega)
        as_aux_lemma =>
         go_quiet ((go_at_call 95; exact q_at4 (hH _)))
         go_wp2_with fail
         go_meet
         exact ⟨_, rfl, bad_t (by rw [HBW.out]; exact .inr (.inr (.inl b3)))⟩
       have d3 : decide ((n3 : Int) < 1) = false := decide_eq_false (by omega)
       by_cases b4 : a.2.1 ≤ (n3 : Int)
       ·have d4 : decide (a.2.1 ≤ (n3 : Int)) = true := decide_eq_true b4
        as_aux_lemma =>
         go_quiet ((go_at_call 95; exact q_at4 (hH _)))
         go_wp2_with fail
         go_meet
         exact ⟨_, rfl, bad_t (by rw [HBW.out]; exact .inr (.inr (.inr (.inl b4))))⟩
       have d4 : decide (a.2.1 ≤ (n3 : Int)) = false := decide_eq_false b4
       by_cases b5 : a.2.2.1 < 0
       ·have d5 : decide (a.2.2.1 < 0) = true := decide_eq_true b5
        as_aux_lemma =>
         go_quiet ((go_at_call 95; exact q_at4 (hH _)))
         go_wp2_with fail
         go_meet
         exact ⟨_, rfl, bad_t (by rw [HBW.out]; exact .inr (.inr (.inr (.inr (.inl b5)))))⟩
       have d5 : decide (a.2.2.1 < 0) = false := decide_eq_false b5
       by_cases b6 : 65535 < a.2.2.1
       ·have d6 : decide (65535 < a.2.2.1) = true := decide_eq_true b6
        as_aux_lemma =>
         go_quiet ((go_at_call 95; exact q_at4 (hH _)))
         go_wp2_with fail
         go_meet
         exact ⟨_, rfl, bad_t (by rw [HBW.out]; exact .inr (.inr (.inr (.inr (.inr b6)))))⟩
       have d6 : decide (65535 < a.2.2.1) = false := decide_eq_false b6
       as_aux_lemma =>
        go_quiet ((go_at_call 95; exact q_at4 (hH _)))
        go_wp2_with fail
        go_meet
        exact ⟨_, rfl, bad_f (by rw [HBW.out]; rintro (h | h | h | h | h | h); exact (show False from (fun ⟨q', b'', hq, hb', hle⟩ => by (obtain rfl : q' = q := (by omega)); rw [HLB.out] at hb'; injection hb' with hb'; subst hb'; omega) h); exact HM.out h; omega; omega; omega; omega)⟩
     case rest =>
      obtain ⟨nq, rfl, rfl⟩ := hcut
      by_cases hbad : BadW
      ·obtain rfl := HF.out (fun h => by
        rw [HBW.out] at hbad
        have hw := h.2.2.2.2 _ (List.mem_of_getElem? HA.out)
        have hL := HL3.out
        rcases hbad with ⟨q, b, rfl, hb', hle⟩ | h' | h' | h' | h' | h'
        ·have := asc_at (f := fun wh : DWhole => wh.1) h.2.2.2.1 HA.out hb'; (try dsimp only at this); omega
        ·exact hw.2 h'
        ·have := hw.1.2.1.1; omega
        ·have := hw.1.2.1.2; rw [hL] at this; omega
        ·have := hw.1.1.1; omega
        ·have := hw.1.1.2; omega)
       rw [@decide_eq_true BadW (Classical.propDecidable _) hbad]
       go_wp2
       go_ret
       exact ⟨rfl, below_drewN (bel_alloc hB _) _⟩
      ·rw [@decide_eq_false BadW (Classical.propDecidable _) hbad]
       rw [HBW.out] at hbad
       have HBAD := Lib.hid hbad
       clear hbad k0 k1 k2 k3 e0 e1 e2 e3 hH hI
       generalize wr = w5 at *
       have hW0 := (Box.new w5 177 #[.int .i64 a.1, .int .i64 a.2.1, .int .i64 a.2.2.1, .slice A3 n3 c3]).drewN nq
       have W3 := hW0.cell 3
       go_wp2_with fail
       clear W3
       go_loopw [6] (fun i w3 => ∃ q : Nat, q ≤ n3 ∧ i = .int .i64 q ∧ Bel w w3 ∧ Box w3 w.heap.size 106 #[.slice (some ⟨b', off, none⟩) n0 c0, .slice A1 n1 c1] ∧ Box w3 w5.heap.size 177 #[.int .i64 a.1, .int .i64 a.2.1, .int .i64 a.2.2.1, .slice A3 n3 c3] ∧ w5.heap.size + 1 ≤ w3.heap.size ∧ RwK (fun p : DPiece => PcOk p ∧ p.1 = a.1 ∧ p.2.2.1 = a.2.1) (fun p => p.2.1) a.2.2.2 q) (fun i _ => n3 - (RowKit.intOf i).toNat)
       case atStart => exact ⟨0, by omega, rfl, below_drewN (bel_alloc hB _) _, (hX.alloc _).drewN _, hW0, by simp, RwK.zero⟩
       case round =>
        clear hB hX hW0
        obtain ⟨q, hq, rfl, hB, hX, hW, hz, hG⟩ := hrel
        have HG2 := Lib.hid hG
        clear hG
        have W3 := hW.cell 3
        by_cases hlt3 : q < n3
        ·obtain ⟨p, b3, off3, es3, hl3', rfl, hb3, hes3, hR3⟩ := rowR_at (K := 4) hr3 hlt3 rfl
         have HA3 := Lib.hid hl3'
         clear hl3'
         have hRp := hR3
         obtain ⟨A6, n6, c6, rfl, hwp0, hwp1, hwp2, -, -, -, -⟩ := openPiece hR3
         have e0 : wr.cell? ⟨b3, off3 + q * 4, none⟩ = some (.int .i64 p.1) := cell_at hB hb3 (hes3 0 (by omega))
         have e1 : wr.cell? ⟨b3, off3 + q * 4 + 1, none⟩ = some (.int .i64 p.2.1) := cell_at hB hb3 (hes3 1 (by omega))
         have e2 : wr.cell? ⟨b3, off3 + q * 4 + 2, none⟩ = some (.int .i64 p.2.2.1) := cell_at hB hb3 (hes3 2 (by omega))
         have e3 : wr.cell? ⟨b3, off3 + q * 4 + 3, none⟩ = some (.slice A6 n6 c6) := cell_at hB hb3 (hes3 3 (by omega))
         clear hes3
         have hsz := hB.size
         obtain ⟨BadP, hBadP⟩ : ∃ B : Prop, B = (¬ PcOk p ∨ ¬ p.1 = a.1 ∨ ¬ p.2.2.1 = a.2.1 ∨ ∃ r b, q = r + 1 ∧ a.2.2.2[r]? = some b ∧ p.2.1 ≤ b.2.1) := ⟨_, rfl⟩
         have HBP := Lib.hid hBadP
         clear hBadP
         go_wp2_with fail
         go_cut [158] (fun t wx => Bel wr wx ∧ t = .bool (@decide BadP (Classical.propDecidable _)))
         case first =>
          have T7 := Box.new wr 185 #[.int .i64 p.1, .int .i64 p.2.1, .int .i64 p.2.2.1, .slice A6 n6 c6]
          have W7 := hW.alloc (.cells #[.int .i64 p.1, .int .i64 p.2.1, .int .i64 p.2.2.1, .slice A6 n6 c6] 185)
          have m0 := T7.cell 0; have m1 := T7.cell 1; have m2 := T7.cell 2; have m3 := T7.cell 3
          have v0 := W7.cell 0; have v1 := W7.cell 1; have v3 := W7.cell 3
          have HSZ := Lib.hid (row_sz HS0.out HA.out)
          have hzp : szPiece p ≤ 1048576 := HSZ.out p (List.mem_of_getElem? HA3.out)
          cases q with
          | zero =>
           have n9 : (0 : Int) < (n3 : Int) := by omega
           by_cases hpc : PcOk p
           rotate_left
           ·have HPC := Lib.hid (decide_eq_false hpc)
            have HN := Lib.hid hpc
            clear hpc
            as_aux_lemma =>
             go_wp2_with fail
             refine wp_region_held_drew (S := (fun w' => w'.cell? ⟨wr.heap.size, 0, none⟩ = some (.int .i64 p.1) ∧ w'.cell? ⟨wr.heap.size, 1, none⟩ = some (.int .i64 p.2.1) ∧ w'.cell? ⟨wr.heap.size, 2, none⟩ = some (.int .i64 p.2.2.1) ∧ w'.cell? ⟨wr.heap.size, 3, none⟩ = some (.slice A6 n6 c6) ∧ w'.cell? ⟨w5.heap.size, 0, none⟩ = some (.int .i64 a.1) ∧ w'.cell? ⟨w5.heap.size, 1, none⟩ = some (.int .i64 a.2.1))) (by kernel_rfl) (by exact ⟨m0, m1, m2, m3, v0, v1⟩) (fun hHeld => ?_)
             refine tkx 0 (some 126) ?_
             refine rdx [1] ?_
             refine rcx (fun K hK => ?_) ?_
             ·go_simp
              go_at_call 131
              refine (s_PieceOk (tPiece.reach (tPiece.reach hRp hB) (belx)) hzp).mono ?_
              rintro e wq ⟨rfl, hbq⟩
              rw [HPC.out]
              have hsq : Bel wr wq := bel_trans (belx) hbq
              have T8 := Box.below (Box.drew T7) hbq (Box.drew T7).size
              have W8 := Box.below (Box.drew W7) hbq (Box.drew W7).size
              go_wp2_with fail
              refine hK.out _ _ ⟨T8.cell 0, T8.cell 1, T8.cell 2, T8.cell 3, W8.cell 0, W8.cell 1⟩ (fun hHeld => ?_)
              clear hK K
              (try simp only [Act.put, qa_, qb_, qc_])
              refine tkx 2 (some 128) ?_
              refine tkx 3 (some 129) ?_
              refine tkn 4 (some 130) ?_
              refine tkn 5 (some 131) ?_
              refine tkn 6 (some 132) ?_
              refine tkn 7 (some 133) ?_
              refine tkn 8 (some 134) ?_
              refine tkx 9 (some 135) ?_
              refine tkx 10 (some 136) ?_
              refine tkn 11 (some 137) ?_
              refine tkn 12 (some 138) ?_
              refine tkn 13 (some 139) ?_
              refine tkn 14 (some 140) ?_
              refine tkn 15 (some 141) ?_
              refine tkx 16 (some 142) ?_
              refine tkx 17 (some 143) ?_
              refine tkn 18 (some 144) ?_
              refine tkn 19 (some 145) ?_
              refine tkn 20 (some 146) ?_
              refine tkn 21 (some 147) ?_
              refine tkn 22 (some 148) ?_
              refine tkn 23 (some 149) ?_
              refine tkn 24 (some 150) ?_
              refine tkn 25 (some 151) ?_
              refine tkn 26 (some 152) ?_
              refine tkn 27 (some 153) ?_
              refine tkn 28 (some 154) ?_
              refine tkn 29 (some 155) ?_
              refine tkn 30 (some 156) ?_
              refine tkn 31 (some 157) ?_
              refine tkx 32 (some 158) ?_
              refine rex ?_ _
              go_wp2_with fail
              go_meet
              exact ⟨hsq, bad_t (by rw [HBP.out]; exact .inl HN.out)⟩
             exact AllReadyH.nil
           have HPC := Lib.hid (decide_eq_true hpc)
           have HN := Lib.hid hpc
           clear hpc
           by_cases h1 : p.1 = a.1
           rotate_left
           ·have d1 : (p.1 != a.1) = true := by simpa using h1
            have H1 := Lib.hid h1
            clear h1
            as_aux_lemma =>
             go_wp2_with fail
             refine wp_region_held_drew (S := (fun w' => w'.cell? ⟨wr.heap.size, 0, none⟩ = some (.int .i64 p.1) ∧ w'.cell? ⟨wr.heap.size, 1, none⟩ = some (.int .i64 p.2.1) ∧ w'.cell? ⟨wr.heap.size, 2, none⟩ = some (.int .i64 p.2.2.1) ∧ w'.cell? ⟨wr.heap.size, 3, none⟩ = some (.slice A6 n6 c6) ∧ w'.cell? ⟨w5.heap.size, 0, none⟩ = some (.int .i64 a.1) ∧ w'.cell? ⟨w5.heap.size, 1, none⟩ = some (.int .i64 a.2.1))) (by kernel_rfl) (by exact ⟨m0, m1, m2, m3, v0, v1⟩) (fun hHeld => ?_)
             refine tkx 0 (some 126) ?_
             refine rdx [1] ?_
             refine rcx (fun K hK => ?_) ?_
             ·go_simp
              go_at_call 131
              refine (s_PieceOk (tPiece.reach (tPiece.reach hRp hB) (belx)) hzp).mono ?_
              rintro e wq ⟨rfl, hbq⟩
              rw [HPC.out]
              have hsq : Bel wr wq := bel_trans (belx) hbq
              have T8 := Box.below (Box.drew T7) hbq (Box.drew T7).size
              have W8 := Box.below (Box.drew W7) hbq (Box.drew W7).size
              go_wp2_with fail
              refine hK.out _ _ ⟨T8.cell 0, T8.cell 1, T8.cell 2, T8.cell 3, W8.cell 0, W8.cell 1⟩ (fun hHeld => ?_)
              clear hK K
              (try simp only [Act.put, qa_, qb_, qc_])
              refine tkx 2 (some 128) ?_
              refine tkx 3 (some 129) ?_
              refine tkx 4 (some 130) ?_
              refine tkx 5 (some 131) ?_
              refine tkx 6 (some 132) ?_
              refine tkx 7 (some 133) ?_
              refine tkx 8 (some 134) ?_
              refine tkx 9 (some 135) ?_
              refine tkx 10 (some 136) ?_
              refine tkn 11 (some 137) ?_
              refine tkn 12 (some 138) ?_
              refine tkn 13 (some 139) ?_
              refine tkn 14 (some 140) ?_
              refine tkn 15 (some 141) ?_
              refine tkx 16 (some 142) ?_
              refine tkx 17 (some 143) ?_
              refine tkn 18 (some 144) ?_
              refine tkn 19 (some 145) ?_
              refine tkn 20 (some 146) ?_
              refine tkn 21 (some 147) ?_
              refine tkn 22 (some 148) ?_
              refine tkn 23 (some 149) ?_
              refine tkn 24 (some 150) ?_
              refine tkn 25 (some 151) ?_
              refine tkn 26 (some 152) ?_
              refine tkn 27 (some 153) ?_
              refine tkn 28 (some 154) ?_
              refine tkn 29 (some 155) ?_
              refine tkn 30 (some 156) ?_
              refine tkn 31 (some 157) ?_
              refine tkx 32 (some 158) ?_
              refine rex ?_ _
              go_wp2_with fail
              go_meet
              exact ⟨hsq, bad_t (by rw [HBP.out]; exact .inr (.inl H1.out))⟩
             exact AllReadyH.nil
           have d1 : (p.1 != a.1) = false := by simpa using h1
           have H1 := Lib.hid h1
           clear h1
           by_cases h2 : p.2.2.1 = a.2.1
           rotate_left
           ·have d2 : (p.2.2.1 != a.2.1) = true := by simpa using h2
            have H2 := Lib.hid h2
            clear h2
            as_aux_lemma =>
             go_wp2_with fail
             refine wp_region_held_drew (S := (fun w' => w'.cell? ⟨wr.heap.size, 0, none⟩ = some (.int .i64 p.1) ∧ w'.cell? ⟨wr.heap.size, 1, none⟩ = some (.int .i64 p.2.1) ∧ w'.cell? ⟨wr.heap.size, 2, none⟩ = some (.int .i64 p.2.2.1) ∧ w'.cell? ⟨wr.heap.size, 3, none⟩ = some (.slice A6 n6 c6) ∧ w'.cell? ⟨w5.heap.size, 0, none⟩ = some (.int .i64 a.1) ∧ w'.cell? ⟨w5.heap.size, 1, none⟩ = some (.int .i64 a.2.1))) (by kernel_rfl) (by exact ⟨m0, m1, m2, m3, v0, v1⟩) (fun hHeld => ?_)
             refine tkx 0 (some 126) ?_
             refine rdx [1] ?_
             refine rcx (fun K hK => ?_) ?_
             ·go_simp
              go_at_call 131
              refine (s_PieceOk (tPiece.reach (tPiece.reach hRp hB) (belx)) hzp).mono ?_
              rintro e wq ⟨rfl, hbq⟩
              rw [HPC.out]
              have hsq : Bel wr wq := bel_trans (belx) hbq
              have T8 := Box.below (Box.drew T7) hbq (Box.drew T7).size
              have W8 := Box.below (Box.drew W7) hbq (Box.drew W7).size
              go_wp2_with fail
              refine hK.out _ _ ⟨T8.cell 0, T8.cell 1, T8.cell 2, T8.cell 3, W8.cell 0, W8.cell 1⟩ (fun hHeld => ?_)
              clear hK K
              (try simp only [Act.put, qa_, qb_, qc_])
              refine tkx 2 (some 128) ?_
              refine tkx 3 (some 129) ?_
              refine tkx 4 (some 130) ?_
              refine tkx 5 (some 131) ?_
              refine tkx 6 (some 132) ?_
              refine tkx 7 (some 133) ?_
              refine tkx 8 (some 134) ?_
              refine tkx 9 (some 135) ?_
              refine tkx 10 (some 136) ?_
              refine tkx 11 (some 137) ?_
              refine tkx 12 (some 138) ?_
              refine tkx 13 (some 139) ?_
              refine tkx 14 (some 140) ?_
              refine tkx 15 (some 141) ?_
              refine tkx 16 (some 142) ?_
              refine tkx 17 (some 143) ?_
              refine tkn 18 (some 144) ?_
              refine tkn 19 (some 145) ?_
              refine tkn 20 (some 146) ?_
              refine tkn 21 (some 147) ?_
              refine tkn 22 (some 148) ?_
              refine tkn 23 (some 149) ?_
              refine tkn 24 (some 150) ?_
              refine tkn 25 (some 151) ?_
              refine tkn 26 (some 152) ?_
              refine tkn 27 (some 153) ?_
              refine tkn 28 (some 154) ?_
              refine tkn 29 (some 155) ?_
              refine tkn 30 (some 156) ?_
              refine tkn 31 (some 157) ?_
              refine tkx 32 (some 158) ?_
              refine rex ?_ _
              go_wp2_with fail
              go_meet
              exact ⟨hsq, bad_t (by rw [HBP.out]; exact .inr (.inr (.inl H2.out)))⟩
             exact AllReadyH.nil
           have d2 : (p.2.2.1 != a.2.1) = false := by simpa using h2
           have H2 := Lib.hid h2
           clear h2
           as_aux_lemma =>
            go_wp2_with fail
            refine wp_region_held_drew (S := (fun w' => w'.cell? ⟨wr.heap.size, 0, none⟩ = some (.int .i64 p.1) ∧ w'.cell? ⟨wr.heap.size, 1, none⟩ = some (.int .i64 p.2.1) ∧ w'.cell? ⟨wr.heap.size, 2, none⟩ = some (.int .i64 p.2.2.1) ∧ w'.cell? ⟨wr.heap.size, 3, none⟩ = some (.slice A6 n6 c6) ∧ w'.cell? ⟨w5.heap.size, 0, none⟩ = some (.int .i64 a.1) ∧ w'.cell? ⟨w5.heap.size, 1, none⟩ = some (.int .i64 a.2.1))) (by kernel_rfl) (by exact ⟨m0, m1, m2, m3, v0, v1⟩) (fun hHeld => ?_)
            refine tkx 0 (some 126) ?_
            refine rdx [1] ?_
            refine rcx (fun K hK => ?_) ?_
            ·go_simp
             go_at_call 131
             refine (s_PieceOk (tPiece.reach (tPiece.reach hRp hB) (belx)) hzp).mono ?_
             rintro e wq ⟨rfl, hbq⟩
             rw [HPC.out]
             have hsq : Bel wr wq := bel_trans (belx) hbq
             have T8 := Box.below (Box.drew T7) hbq (Box.drew T7).size
             have W8 := Box.below (Box.drew W7) hbq (Box.drew W7).size
             go_wp2_with fail
             refine hK.out _ _ ⟨T8.cell 0, T8.cell 1, T8.cell 2, T8.cell 3, W8.cell 0, W8.cell 1⟩ (fun hHeld => ?_)
             clear hK K
             (try simp only [Act.put, qa_, qb_, qc_])
             refine tkx 2 (some 128) ?_
             refine tkx 3 (some 129) ?_
             refine tkx 4 (some 130) ?_
             refine tkx 5 (some 131) ?_
             refine tkx 6 (some 132) ?_
             refine tkx 7 (some 133) ?_
             refine tkx 8 (some 134) ?_
             refine tkx 9 (some 135) ?_
             refine tkx 10 (some 136) ?_
             refine tkx 11 (some 137) ?_
             refine tkx 12 (some 138) ?_
             refine tkx 13 (some 139) ?_
             refine tkx 14 (some 140) ?_
             refine tkx 15 (some 141) ?_
             refine tkx 16 (some 142) ?_
             refine tkx 17 (some 143) ?_
             refine tkx 18 (some 144) ?_
             refine tkx 19 (some 145) ?_
             refine tkx 20 (some 146) ?_
             refine tkn 21 (some 147) ?_
             refine tkn 22 (some 148) ?_
             refine tkn 23 (some 149) ?_
             refine tkn 24 (some 150) ?_
             refine tkn 25 (some 151) ?_
             refine tkn 26 (some 152) ?_
             refine tkn 27 (some 153) ?_
             refine tkn 28 (some 154) ?_
             refine tkn 29 (some 155) ?_
             refine tkn 30 (some 156) ?_
             refine tkx 31 (some 157) ?_
             refine tkx 32 (some 158) ?_
             refine rex ?_ _
             go_wp2_with fail
             go_meet
             exact ⟨hsq, bad_f (by rw [HBP.out]; rintro (h | h | h | ⟨r, b, hr, _⟩); exact h HN.out; exact h H1.out; exact h H2.out; omega)⟩
            exact AllReadyH.nil
          | succ r =>
           obtain ⟨b, b4, off4, es4, hlb, hA4, hb4, hes4, hR4⟩ := rowR_at (K := 4) hr3 (show r < n3 by omega) rfl
           injection hA4 with hA4
           injection hA4 with e9 e8 _
           subst e9 e8
           have HLB := Lib.hid hlb
           clear hlb
           obtain ⟨A8, n8, c8, rfl, -, -, -, -, -, -, -⟩ := openPiece hR4
           have i5 : decide ((0 : Int) < (r : Int) + 1) = true := decide_eq_true (by omega)
           have i6 : (r : Int) < (n3 : Int) := by omega
           have i7 : (0 : Int) ≤ (r : Int) := by omega
           have i8 : IntKind.i64.wrap (r : Int) = (r : Int) := IntWalk.i64_in _ (by omega)
           have u0 : wr.cell? ⟨b3, off3 + r * 4 + 1, none⟩ = some (.int .i64 b.2.1) := cell_at hB hb3 (hes4 1 (by omega))
           have u1 := cell_bel (w' := wr.alloc (.cells #[.int .i64 p.1, .int .i64 p.2.1, .int .i64 p.2.2.1, .slice A6 n6 c6] 185)) (belx) u0
           clear hes4 hR4
           by_cases hpc : PcOk p
           rotate_left
           ·have HPC := Lib.hid (decide_eq_false hpc)
            have HN := Lib.hid hpc
            clear hpc
            as_aux_lemma =>
             go_wp2_with fail
             refine wp_region_held_drew (S := (fun w' => w'.cell? ⟨wr.heap.size, 0, none⟩ = some (.int .i64 p.1) ∧ w'.cell? ⟨wr.heap.size, 1, none⟩ = some (.int .i64 p.2.1) ∧ w'.cell? ⟨wr.heap.size, 2, none⟩ = some (.int .i64 p.2.2.1) ∧ w'.cell? ⟨wr.heap.size, 3, none⟩ = some (.slice A6 n6 c6) ∧ w'.cell? ⟨w5.heap.size, 0, none⟩ = some (.int .i64 a.1) ∧ w'.cell? ⟨w5.heap.size, 1, none⟩ = some (.int .i64 a.2.1) ∧ w'.cell? ⟨w5.heap.size, 3, none⟩ = some (.slice (some ⟨b3, off3, none⟩) n3 c3) ∧ w'.cell? ⟨b3, off3 + r * 4 + 1, none⟩ = some (.int .i64 b.2.1))) (by kernel_rfl) (by exact ⟨m0, m1, m2, m3, v0, v1, v3, u1⟩) (fun hHeld => ?_)
             refine tkx 0 (some 126) ?_
             refine rdx [1] ?_
             refine rcx (fun K hK => ?_) ?_
             ·go_simp
              go_at_call 131
              refine (s_PieceOk (tPiece.reach (tPiece.reach hRp hB) (belx)) hzp).mono ?_
              rintro e wq ⟨rfl, hbq⟩
              rw [HPC.out]
              have hsq : Bel wr wq := bel_trans (belx) hbq
              have T8 := Box.below (Box.drew T7) hbq (Box.drew T7).size
              have W8 := Box.below (Box.drew W7) hbq (Box.drew W7).size
              have u2 := cell_bel hsq u0
              go_wp2_with fail
              refine hK.out _ _ ⟨T8.cell 0, T8.cell 1, T8.cell 2, T8.cell 3, W8.cell 0, W8.cell 1, W8.cell 3, u2⟩ (fun hHeld => ?_)
              clear hK K
              (try simp only [Act.put, qa_, qb_, qc_])
              refine tkx 2 (some 128) ?_
              refine tkx 3 (some 129) ?_
              refine tkn 4 (some 130) ?_
              refine tkn 5 (some 131) ?_
              refine tkn 6 (some 132) ?_
              refine tkn 7 (some 133) ?_
              refine tkn 8 (some 134) ?_
              refine tkx 9 (some 135) ?_
              refine tkx 10 (some 136) ?_
              refine tkn 11 (some 137) ?_
              refine tkn 12 (some 138) ?_
              refine tkn 13 (some 139) ?_
              refine tkn 14 (some 140) ?_
              refine tkn 15 (some 141) ?_
              refine tkx 16 (some 142) ?_
              refine tkx 17 (some 143) ?_
              refine tkn 18 (some 144) ?_
              refine tkn 19 (some 145) ?_
              refine tkn 20 (some 146) ?_
              refine tkn 21 (some 147) ?_
              refine tkn 22 (some 148) ?_
              refine tkn 23 (some 149) ?_
              refine tkn 24 (some 150) ?_
              refine tkn 25 (some 151) ?_
              refine tkn 26 (some 152) ?_
              refine tkn 27 (some 153) ?_
              refine tkn 28 (some 154) ?_
              refine tkn 29 (some 155) ?_
              refine tkn 30 (some 156) ?_
              refine tkn 31 (some 157) ?_
              refine tkx 32 (some 158) ?_
              refine rex ?_ _
              go_wp2_with fail
              go_meet
              exact ⟨hsq, bad_t (by rw [HBP.out]; exact .inl HN.out)⟩
             exact AllReadyH.nil
           have HPC := Lib.hid (decide_eq_true hpc)
           have HN := Lib.hid hpc
           clear hpc
           by_cases h1 : p.1 = a.1
           rotate_left
           ·have d1 : (p.1 != a.1) = true := by simpa using h1
            have H1 := Lib.hid h1
            clear h1
            as_aux_lemma =>
             go_wp2_with fail
             refine wp_region_held_drew (S := (fun w' => w'.cell? ⟨wr.heap.size, 0, none⟩ = some (.int .i64 p.1) ∧ w'.cell? ⟨wr.heap.size, 1, none⟩ = some (.int .i64 p.2.1) ∧ w'.cell? ⟨wr.heap.size, 2, none⟩ = some (.int .i64 p.2.2.1) ∧ w'.cell? ⟨wr.heap.size, 3, none⟩ = some (.slice A6 n6 c6) ∧ w'.cell? ⟨w5.heap.size, 0, none⟩ = some (.int .i64 a.1) ∧ w'.cell? ⟨w5.heap.size, 1, none⟩ = some (.int .i64 a.2.1) ∧ w'.cell? ⟨w5.heap.size, 3, none⟩ = some (.slice (some ⟨b3, off3, none⟩) n3 c3) ∧ w'.cell? ⟨b3, off3 + r * 4 + 1, none⟩ = some (.int .i64 b.2.1))) (by kernel_rfl) (by exact ⟨m0, m1, m2, m3, v0, v1, v3, u1⟩) (fun hHeld => ?_)
             refine tkx 0 (some 126) ?_
             refine rdx [1] ?_
             refine rcx (fun K hK => ?_) ?_
             ·go_simp
              go_at_call 131
              refine (s_PieceOk (tPiece.reach (tPiece.reach hRp hB) (belx)) hzp).mono ?_
              rintro e wq ⟨rfl, hbq⟩
              rw [HPC.out]
              have hsq : Bel wr wq := bel_trans (belx) hbq
              have T8 := Box.below (Box.drew T7) hbq (Box.drew T7).size
              have W8 := Box.below (Box.drew W7) hbq (Box.drew W7).size
              have u2 := cell_bel hsq u0
              go_wp2_with fail
              refine hK.out _ _ ⟨T8.cell 0, T8.cell 1, T8.cell 2, T8.cell 3, W8.cell 0, W8.cell 1, W8.cell 3, u2⟩ (fun hHeld => ?_)
              clear hK K
              (try simp only [Act.put, qa_, qb_, qc_])
              refine tkx 2 (some 128) ?_
              refine tkx 3 (some 129) ?_
              refine tkx 4 (some 130) ?_
              refine tkx 5 (some 131) ?_
              refine tkx 6 (some 132) ?_
              refine tkx 7 (some 133) ?_
              refine tkx 8 (some 134) ?_
              refine tkx 9 (some 135) ?_
              refine tkx 10 (some 136) ?_
              refine tkn 11 (some 137) ?_
              refine tkn 12 (some 138) ?_
              refine tkn 13 (some 139) ?_
              refine tkn 14 (some 140) ?_
              refine tkn 15 (some 141) ?_
              refine tkx 16 (some 142) ?_
              refine tkx 17 (some 143) ?_
              refine tkn 18 (some 144) ?_
              refine tkn 19 (some 145) ?_
              refine tkn 20 (some 146) ?_
              refine tkn 21 (some 147) ?_
              refine tkn 22 (some 148) ?_
              refine tkn 23 (some 149) ?_
              refine tkn 24 (some 150) ?_
              refine tkn 25 (some 151) ?_
              refine tkn 26 (some 152) ?_
              refine tkn 27 (some 153) ?_
              refine tkn 28 (some 154) ?_
              refine tkn 29 (some 155) ?_
              refine tkn 30 (some 156) ?_
              refine tkn 31 (some 157) ?_
              refine tkx 32 (some 158) ?_
              refine rex ?_ _
              go_wp2_with fail
              go_meet
              exact ⟨hsq, bad_t (by rw [HBP.out]; exact .inr (.inl H1.out))⟩
             exact AllReadyH.nil
           have d1 : (p.1 != a.1) = false := by simpa using h1
           have H1 := Lib.hid h1
           clear h1
           by_cases h2 : p.2.2.1 = a.2.1
           rotate_left
           ·have d2 : (p.2.2.1 != a.2.1) = true := by simpa using h2
            have H2 := Lib.hid h2
            clear h2
            as_aux_lemma =>
             go_wp2_with fail
             refine wp_region_held_drew (S := (fun w' => w'.cell? ⟨wr.heap.size, 0, none⟩ = some (.int .i64 p.1) ∧ w'.cell? ⟨wr.heap.size, 1, none⟩ = some (.int .i64 p.2.1) ∧ w'.cell? ⟨wr.heap.size, 2, none⟩ = some (.int .i64 p.2.2.1) ∧ w'.cell? ⟨wr.heap.size, 3, none⟩ = some (.slice A6 n6 c6) ∧ w'.cell? ⟨w5.heap.size, 0, none⟩ = some (.int .i64 a.1) ∧ w'.cell? ⟨w5.heap.size, 1, none⟩ = some (.int .i64 a.2.1) ∧ w'.cell? ⟨w5.heap.size, 3, none⟩ = some (.slice (some ⟨b3, off3, none⟩) n3 c3) ∧ w'.cell? ⟨b3, off3 + r * 4 + 1, none⟩ = some (.int .i64 b.2.1))) (by kernel_rfl) (by exact ⟨m0, m1, m2, m3, v0, v1, v3, u1⟩) (fun hHeld => ?_)
             refine tkx 0 (some 126) ?_
             refine rdx [1] ?_
             refine rcx (fun K hK => ?_) ?_
             ·go_simp
              go_at_call 131
              refine (s_PieceOk (tPiece.reach (tPiece.reach hRp hB) (belx)) hzp).mono ?_
              rintro e wq ⟨rfl, hbq⟩
              rw [HPC.out]
              have hsq : Bel wr wq := bel_trans (belx) hbq
              have T8 := Box.below (Box.drew T7) hbq (Box.drew T7).size
              have W8 := Box.below (Box.drew W7) hbq (Box.drew W7).size
              have u2 := cell_bel hsq u0
              go_wp2_with fail
              refine hK.out _ _ ⟨T8.cell 0, T8.cell 1, T8.cell 2, T8.cell 3, W8.cell 0, W8.cell 1, W8.cell 3, u2⟩ (fun hHeld => ?_)
              clear hK K
              (try simp only [Act.put, qa_, qb_, qc_])
              refine tkx 2 (some 128) ?_
              refine tkx 3 (some 129) ?_
              refine tkx 4 (some 130) ?_
              refine tkx 5 (some 131) ?_
              refine tkx 6 (some 132) ?_
              refine tkx 7 (some 133) ?_
              refine tkx 8 (some 134) ?_
              refine tkx 9 (some 135) ?_
              refine tkx 10 (some 136) ?_
              refine tkx 11 (some 137) ?_
              refine tkx 12 (some 138) ?_
              refine tkx 13 (some 139) ?_
              refine tkx 14 (some 140) ?_
              refine tkx 15 (some 141) ?_
              refine tkx 16 (some 142) ?_
              refine tkx 17 (some 143) ?_
              refine tkn 18 (some 144) ?_
              refine tkn 19 (some 145) ?_
              refine tkn 20 (some 146) ?_
              refine tkn 21 (some 147) ?_
              refine tkn 22 (some 148) ?_
              refine tkn 23 (some 149) ?_
              refine tkn 24 (some 150) ?_
              refine tkn 25 (some 151) ?_
              refine tkn 26 (some 152) ?_
              refine tkn 27 (some 153) ?_
              refine tkn 28 (some 154) ?_
              refine tkn 29 (some 155) ?_
              refine tkn 30 (some 156) ?_
              refine tkn 31 (some 157) ?_
              refine tkx 32 (some 158) ?_
              refine rex ?_ _
              go_wp2_with fail
              go_meet
              exact ⟨hsq, bad_t (by rw [HBP.out]; exact .inr (.inr (.inl H2.out)))⟩
             exact AllReadyH.nil
           have d2 : (p.2.2.1 != a.2.1) = false := by simpa using h2
           have H2 := Lib.hid h2
           clear h2
           by_cases h3 : p.2.1 ≤ b.2.1
           ·have d3 : decide (p.2.1 ≤ b.2.1) = true := decide_eq_true h3
            as_aux_lemma =>
             go_wp2_with fail
             refine wp_region_held_drew (S := (fun w' => w'.cell? ⟨wr.heap.size, 0, none⟩ = some (.int .i64 p.1) ∧ w'.cell? ⟨wr.heap.size, 1, none⟩ = some (.int .i64 p.2.1) ∧ w'.cell? ⟨wr.heap.size, 2, none⟩ = some (.int .i64 p.2.2.1) ∧ w'.cell? ⟨wr.heap.size, 3, none⟩ = some (.slice A6 n6 c6) ∧ w'.cell? ⟨w5.heap.size, 0, none⟩ = some (.int .i64 a.1) ∧ w'.cell? ⟨w5.heap.size, 1, none⟩ = some (.int .i64 a.2.1) ∧ w'.cell? ⟨w5.heap.size, 3, none⟩ = some (.slice (some ⟨b3, off3, none⟩) n3 c3) ∧ w'.cell? ⟨b3, off3 + r * 4 + 1, none⟩ = some (.int .i64 b.2.1))) (by kernel_rfl) (by exact ⟨m0, m1, m2, m3, v0, v1, v3, u1⟩) (fun hHeld => ?_)
             refine tkx 0 (some 126) ?_
             refine rdx [1] ?_
             refine rcx (fun K hK => ?_) ?_
             ·go_simp
              go_at_call 131
              refine (s_PieceOk (tPiece.reach (tPiece.reach hRp hB) (belx)) hzp).mono ?_
              rintro e wq ⟨rfl, hbq⟩
              rw [HPC.out]
              have hsq : Bel wr wq := bel_trans (belx) hbq
              have T8 := Box.below (Box.drew T7) hbq (Box.drew T7).size
              have W8 := Box.below (Box.drew W7) hbq (Box.drew W7).size
              have u2 := cell_bel hsq u0
              go_wp2_with fail
              refine hK.out _ _ ⟨T8.cell 0, T8.cell 1, T8.cell 2, T8.cell 3, W8.cell 0, W8.cell 1, W8.cell 3, u2⟩ (fun hHeld => ?_)
              clear hK K
              (try simp only [Act.put, qa_, qb_, qc_])
              refine tkx 2 (some 128) ?_
              refine tkx 3 (some 129) ?_
              refine tkx 4 (some 130) ?_
              refine tkx 5 (some 131) ?_
              refine tkx 6 (some 132) ?_
              refine tkx 7 (some 133) ?_
              refine tkx 8 (some 134) ?_
              refine tkx 9 (some 135) ?_
              refine tkx 10 (some 136) ?_
              refine tkx 11 (some 137) ?_
              refine tkx 12 (some 138) ?_
              refine tkx 13 (some 139) ?_
              refine tkx 14 (some 140) ?_
              refine tkx 15 (some 141) ?_
              refine tkx 16 (some 142) ?_
              refine tkx 17 (some 143) ?_
              refine tkx 18 (some 144) ?_
              refine tkx 19 (some 145) ?_
              refine tkx 20 (some 146) ?_
              refine tkx 21 (some 147) ?_
              refine tkx 22 (some 148) ?_
              refine tkx 23 (some 149) ?_
              refine tkx 24 (some 150) ?_
              refine tkx 25 (some 151) ?_
              refine tkx 26 (some 152) ?_
              refine tkx 27 (some 153) ?_
              refine tkx 28 (some 154) ?_
              refine tkx 29 (some 155) ?_
              refine tkx 30 (some 156) ?_
              refine tkx 31 (some 157) ?_
              refine tkx 32 (some 158) ?_
              refine rex ?_ _
              go_wp2_with fail
              go_meet
              exact ⟨hsq, bad_t (by rw [HBP.out]; exact .inr (.inr (.inr ⟨r, b, rfl, HLB.out, h3⟩)))⟩
             exact AllReadyH.nil
           have d3 : decide (p.2.1 ≤ b.2.1) = false := decide_eq_false h3
           as_aux_lemma =>
            go_wp2_with fail
            refine wp_region_held_drew (S := (fun w' => w'.cell? ⟨wr.heap.size, 0, none⟩ = some (.int .i64 p.1) ∧ w'.cell? ⟨wr.heap.size, 1, none⟩ = some (.int .i64 p.2.1) ∧ w'.cell? ⟨wr.heap.size, 2, none⟩ = some (.int .i64 p.2.2.1) ∧ w'.cell? ⟨wr.heap.size, 3, none⟩ = some (.slice A6 n6 c6) ∧ w'.cell? ⟨w5.heap.size, 0, none⟩ = some (.int .i64 a.1) ∧ w'.cell? ⟨w5.heap.size, 1, none⟩ = some (.int .i64 a.2.1) ∧ w'.cell? ⟨w5.heap.size, 3, none⟩ = some (.slice (some ⟨b3, off3, none⟩) n3 c3) ∧ w'.cell? ⟨b3, off3 + r * 4 + 1, none⟩ = some (.int .i64 b.2.1))) (by kernel_rfl) (by exact ⟨m0, m1, m2, m3, v0, v1, v3, u1⟩) (fun hHeld => ?_)
            refine tkx 0 (some 126) ?_
            refine rdx [1] ?_
            refine rcx (fun K hK => ?_) ?_
            ·go_simp
             go_at_call 131
             refine (s_PieceOk (tPiece.reach (tPiece.reach hRp hB) (belx)) hzp).mono ?_
             rintro e wq ⟨rfl, hbq⟩
             rw [HPC.out]
             have hsq : Bel wr wq := bel_trans (belx) hbq
             have T8 := Box.below (Box.drew T7) hbq (Box.drew T7).size
             have W8 := Box.below (Box.drew W7) hbq (Box.drew W7).size
             have u2 := cell_bel hsq u0
             go_wp2_with fail
             refine hK.out _ _ ⟨T8.cell 0, T8.cell 1, T8.cell 2, T8.cell 3, W8.cell 0, W8.cell 1, W8.cell 3, u2⟩ (fun hHeld => ?_)
             clear hK K
             (try simp only [Act.put, qa_, qb_, qc_])
             refine tkx 2 (some 128) ?_
             refine tkx 3 (some 129) ?_
             refine tkx 4 (some 130) ?_
             refine tkx 5 (some 131) ?_
             refine tkx 6 (some 132) ?_
             refine tkx 7 (some 133) ?_
             refine tkx 8 (some 134) ?_
             refine tkx 9 (some 135) ?_
             refine tkx 10 (some 136) ?_
             refine tkx 11 (some 137) ?_
             refine tkx 12 (some 138) ?_
             refine tkx 13 (some 139) ?_
             refine tkx 14 (some 140) ?_
             refine tkx 15 (some 141) ?_
             refine tkx 16 (some 142) ?_
             refine tkx 17 (some 143) ?_
             refine tkx 18 (some 144) ?_
             refine tkx 19 (some 145) ?_
             refine tkx 20 (some 146) ?_
             refine tkx 21 (some 147) ?_
             refine tkx 22 (some 148) ?_
             refine tkx 23 (some 149) ?_
             refine tkx 24 (some 150) ?_
             refine tkx 25 (some 151) ?_
             refine tkx 26 (some 152) ?_
             refine tkx 27 (some 153) ?_
             refine tkx 28 (some 154) ?_
             refine tkx 29 (some 155) ?_
             refine tkx 30 (some 156) ?_
             refine tkx 31 (some 157) ?_
             refine tkx 32 (some 158) ?_
             refine rex ?_ _
             go_wp2_with fail
             go_meet
             exact ⟨hsq, bad_f (by rw [HBP.out]; rintro (h | h | h | ⟨r', b', hr, hb', hle⟩); exact h HN.out; exact h H1.out; exact h H2.out; (obtain rfl : r' = r := (by omega)); rw [HLB.out] at hb'; injection hb' with hb'; subst hb'; omega)⟩
            exact AllReadyH.nil
         case rest =>
          obtain ⟨hBc, rfl⟩ := hcut
          by_cases hbp : BadP
          ·obtain rfl := HF.out (fun h => by
            rw [HBP.out] at hbp
            have hw := (h.2.2.2.2 _ (List.mem_of_getElem? HA.out)).1.2.2
            have hpp := hw.1 _ (List.mem_of_getElem? HA3.out)
            rcases hbp with h' | h' | h' | ⟨r, b, rfl, hb', hle⟩
            ·exact h' hpp.1
            ·exact h' hpp.2.1
            ·exact h' hpp.2.2
            ·have := asc_at (f := fun p : DPiece => p.2.1) hw.2 HA3.out hb'; (try dsimp only at this); omega)
           rw [@decide_eq_true BadP (Classical.propDecidable _) hbp]
           go_wp2
           go_ret
           exact ⟨rfl, bel_trans hB hBc⟩
          ·rw [@decide_eq_false BadP (Classical.propDecidable _) hbp]
           rw [HBP.out] at hbp
           have HNB := Lib.hid hbp
           clear hbp
           go_wp2
           go_roundw
           case rel => exact ⟨q + 1, by omega, by go_num, bel_trans hB hBc, hX.below hBc hX.size, hW.below hBc hW.size, Nat.le_trans hz hBc.size, HG2.out.succ HA3.out ⟨Classical.byContradiction fun h => HNB.out (.inl h), Classical.byContradiction fun h => HNB.out (.inr (.inl h)), Classical.byContradiction fun h => HNB.out (.inr (.inr (.inl h)))⟩ (fun r b hr hb' => Int.not_le.1 fun h => HNB.out (.inr (.inr (.inr ⟨r, b, hr, hb', h⟩))))⟩
           case measure => simp [RowKit.intOf]; omega
        ·obtain rfl : n3 = q := by omega
         have HL4 := HG2.out.done (Nat.le_of_eq HL3.out)
         have HWN := Lib.hid (show WhN a from ⟨⟨by have := HBAD.out; omega, by have := HBAD.out; omega⟩, ⟨by have := HBAD.out; have := HL3.out; omega, by have := HBAD.out; have := HL3.out; omega⟩, HL4.1, HL4.2⟩)
         clear HL4
         go_wp2
         go_roundw
         case rel => exact ⟨k + 1, by omega, by go_num, hB, hX, HG.out.succ HA.out ⟨HWN.out, fun h => HBAD.out (.inr (.inl h))⟩ (fun q b hq hb' => Int.not_le.1 fun h => HBAD.out (.inl ⟨q, b, hq, hb', h⟩))⟩
         case measure => simp [RowKit.intOf]; omega
    ·obtain rfl : n0 = k := by omega
     obtain rfl := HT.out ⟨by have := E0.out; dsimp only; omega, HD.out.1, HD.out.2, (HG.out.done (Nat.le_of_eq E0.out)).2, (HG.out.done (Nat.le_of_eq E0.out)).1⟩
     go_wp2
     go_ret
     exact ⟨rfl, hB⟩
theorem s_DeskOk {w : World} {cs : List Value} {p : DDesk} (h : tDesk.R w w.heap.size cs p) (hz : szDesk p ≤ 1048576) :
  Calls Tryz.prog 94 #[.agg cs.toArray] w fun e w' => e = .returned (.bool (decide (DkOk p))) ∧ Bel w w' := by
 obtain ⟨A0, n0, c0, A1, n1, c1, rfl, -, -, -, hr0, -, -, hn1, hr1⟩ := openDesk h
 unfold szDesk at hz
 exact s_DeskOkN _ (fun hh => decide_eq_true hh) (fun hh => decide_eq_false hh) hr0 hr1 (by omega)
end Go.Proofs.YtkdanlnhdgcplaaGreat
