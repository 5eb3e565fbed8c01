/-
  What a node is asked: contracts of Load, Idle, GotIds, LetterOf, of both sides.
-/
import Derived.Test.YtilopapnipealaaGreatPNodeI
import Derived.Test.YtilopapnipealaaGreatPMv5
import Derived.Test.YtilopapnipealaaGreatPDesk2
namespace Go.Proofs.YtilopapnipealaaGreat
set_option maxRecDepth 100000
set_option linter.unusedVariables false
set_option linter.unusedSimpArgs false
open Go.ChangeShapes Go.WideShapes Go.ChangeAt Go.RowKit
def ldL (l : List DWhole) : Int := l.foldl (fun n a => n + (a.2.2.2.length : Int)) 0
theorem ldL_sn {l : List DWhole} {j : Nat} {a : DWhole} (h : l[j]? = some a) : ldL (l.take (j + 1)) = ldL (l.take j) + (a.2.2.2.length : Int) := by
  rw [take_sn h]; unfold ldL; rw [List.foldl_append]; rfl
theorem ldL_ge : ∀ (l : List DWhole) (n : Int), n ≤ l.foldl (fun n a => n + (a.2.2.2.length : Int)) n
  | [], n => Int.le_refl _
  | a :: l, n => by rw [List.foldl_cons]; have := ldL_ge l (n + (a.2.2.2.length : Int)); omega
theorem ldL_rg {l : List DWhole} (h : ∀ a ∈ l, WhN a) (j : Nat) : 0 ≤ ldL (l.take j) ∧ ldL (l.take j) ≤ 8 * (j : Int) := by
  refine ⟨ldL_ge _ _, ?_⟩
  induction j with
  | zero => simp [ldL]
  | succ j ih =>
    by_cases hj : j < l.length
    · have hl : l[j]? = some (l[j]'hj) := List.getElem?_eq_getElem hj
      have := wh_rg (h _ (List.getElem_mem hj))
      rw [ldL_sn hl]; omega
    · rw [List.take_of_length_le (by omega)]
      rw [List.take_of_length_le (by omega)] at ih
      omega
theorem ldL_pos {l : List DWhole} (h : ∀ a ∈ l, WhN a) (hl : l ≠ []) : 0 < ldL l := by
  match l, hl with
  | a :: l, _ =>
    have := wh_rg (h a (by simp))
    have h2 := ldL_ge l (0 + (a.2.2.2.length : Int))
    unfold ldL
    rw [List.foldl_cons]
    omega
noncomputable def fLoad (p : DNode) : Int := if NdOk p then (p.2.2.1.1.length : Int) + ldL p.2.2.2.1.1 else -1
theorem fLoad_t {p : DNode} (h : NdOk p) : fLoad p = (p.2.2.1.1.length : Int) + ldL p.2.2.2.1.1 := if_pos h
theorem fLoad_f {p : DNode} (h : ¬ NdOk p) : fLoad p = -1 := if_neg h
noncomputable def fIdle (p : DNode) : Bool := decide (NdOk p) && (decide (p.2.2.1.1.length = 0) && decide (p.2.2.2.1.1.length = 0))
theorem fIdle_t {p : DNode} (h : NdOk p) : fIdle p = (decide (p.2.2.1.1.length = 0) && decide (p.2.2.2.1.1.length = 0)) := by unfold fIdle; rw [decide_eq_true h]; rfl
theorem fIdle_f {p : DNode} (h : ¬ NdOk p) : fIdle p = false := by unfold fIdle; rw [decide_eq_false h]; rfl
theorem fIdle_load (p : DNode) : fIdle p = decide (fLoad p = 0) := by
  by_cases h : NdOk p
  · rw [fIdle_t h, fLoad_t h]
    have hw : ∀ a ∈ p.2.2.2.1.1, WhN a := fun a ha => (h.2.2.2.1.2.2.2.2 a ha).1
    by_cases h1 : p.2.2.1.1.length = 0 <;> by_cases h2 : p.2.2.2.1.1 = []
    · rw [h1, h2]; rfl
    · have := ldL_pos hw h2
      have h3 : p.2.2.2.1.1.length ≠ 0 := fun e => h2 (List.eq_nil_of_length_eq_zero e)
      simp [h1, h3]; omega
    · simp [h1, h2, ldL]
    · have := ldL_pos hw h2
      simp [h1]; omega
  · rw [fIdle_f h, fLoad_f h]; rfl
noncomputable def fIds (p : DNode) : List Int := if NdOk p then p.2.2.2.1.2 else []
theorem fIds_t {p : DNode} (h : NdOk p) : fIds p = p.2.2.2.1.2 := if_pos h
theorem fIds_f {p : DNode} (h : ¬ NdOk p) : fIds p = [] := if_neg h
theorem fIds_le (p : DNode) : (fIds p).length ≤ 256 := by
  unfold fIds
  split
  · rename_i h; exact asc_len h.2.2.2.1.2.2.1 h.2.2.2.1.2.1
  · simp
noncomputable def fLet (p : DNode) (x : Int) : List Int := if NdOk p then ((p.2.2.2.2.find? fun a => a.1 == x).map fun a => a.2).getD [] else []
noncomputable def fLetB (p : DNode) (x : Int) : Bool := decide (NdOk p) && p.2.2.2.2.any fun a => a.1 == x
theorem fLet_t {p : DNode} {x : Int} (h : NdOk p) : fLet p x = ((p.2.2.2.2.find? fun a => a.1 == x).map fun a => a.2).getD [] := if_pos h
theorem fLet_f {p : DNode} {x : Int} (h : ¬ NdOk p) : fLet p x = [] := if_neg h
theorem fLetB_f {p : DNode} {x : Int} (h : ¬ NdOk p) : fLetB p x = false := by unfold fLetB; rw [decide_eq_false h]; rfl
theorem fLetB_t {p : DNode} {x : Int} (h : NdOk p) : fLetB p x = p.2.2.2.2.any fun a => a.1 == x := by unfold fLetB; rw [decide_eq_true h]; rfl
theorem fLet_le (p : DNode) (x : Int) : (fLet p x).length ≤ 160 := by
  unfold fLet
  split
  · rename_i h
    cases hf : p.2.2.2.2.find? fun a => a.1 == x with
    | none => simp
    | some a => simpa using h.2.2.2.2.1 a (List.mem_of_find?_eq_some hf)
  · simp
/-- The first of a name: it stands at j, none of the name before it. -/
theorem let_hit {got : List DLetter} {x : Int} {j : Nat} {a : DLetter} (hn : ∀ c ∈ got.take j, c.1 ≠ x) (ha : got[j]? = some a) (hx : a.1 = x) : (got.find? fun a => a.1 == x) = some a ∧ (got.any fun a => a.1 == x) = true := by
  have e : got = got.take j ++ a :: got.drop (j + 1) := by
    have hj := (List.getElem?_eq_some_iff.1 ha).1
    conv => lhs; rw [← List.take_append_drop j got, List.drop_eq_getElem_cons hj]
    rw [(List.getElem?_eq_some_iff.1 ha).2]
  refine ⟨?_, List.any_eq_true.2 ⟨a, List.mem_of_getElem? ha, by simp [hx]⟩⟩
  rw [e, List.find?_append, List.find?_eq_none.2 (fun c hc => by simpa using hn c hc)]
  simp [hx]
theorem let_miss {got : List DLetter} {x : Int} (hn : ∀ c ∈ got, c.1 ≠ x) : (got.find? fun a => a.1 == x) = none ∧ (got.any fun a => a.1 == x) = false :=
  ⟨List.find?_eq_none.2 fun c hc => by simpa using hn c hc, List.any_eq_false.2 fun c hc => by simpa using hn c hc⟩
theorem empty6 (w : World) (t : TypeId) (base : Nat) (hb : base ≤ w.heap.size) : (w.alloc (.cells #[] t)).ownsRow base t 1 (.slice (some ⟨w.heap.size, 0, none⟩) 0 0) 0 [] :=
  ⟨rfl, .inr ⟨w.heap.size, 0, #[], rfl, hb, heap_alloc_new w _, Nat.le_refl _, by simp only [maxLen]; omega, rfl, rfl⟩⟩

set_option maxHeartbeats 1000000 in
theorem s_Load {w : World} {cs : List Value} {p : DNode} (h : tNode.R w w.heap.size cs p) (hz : szNode p ≤ 1048576) :
    Calls Tryz.prog 30 #[.agg cs.toArray] w fun e w' => e = .returned (.int .i64 (fLoad p)) ∧ Below w.heap.size w w' := by
  obtain ⟨A2, n2, c2, A3, n3, c3, A4, n4, c4, A5, n5, c5, A6, n6, c6, rfl, -, -, hP, hD, hL⟩ := fopenNode h
  by_cases hp : NdOk p
  · have HP := Lib.hid (decide_eq_true hp)
    have hr2 := (prod_two rfl hP).1
    have hr4 := (prod_two rfl hD).1
    have e2 := (rowR_len hr2).1
    have e4 := (rowR_len hr4).1
    have hn2 : n2 ≤ 12 := by have := hp.2.2.1.1.1; omega
    have hn4 : n4 ≤ 6 := by have := hp.2.2.2.1.1; omega
    have HWH := Lib.hid (show ∀ a ∈ p.2.2.2.1.1, WhN a from fun a ha => (hp.2.2.2.1.2.2.2.2 a ha).1)
    rw [fLoad_t hp, e2]
    have E4 := Lib.hid e4
    clear hp e2 e4
    go_enter Tryz.func30, Tryz.ntmps30
    go_wp2_with fail
    refine (s_NodeOk (tNode.reach h ?hB) hz).mono ?_
    case hB => exact (by repeat (first | (with_reducible exact Below.refl _ _) | (with_reducible assumption) | (with_reducible refine bel_alloc ?_ _) | (with_reducible refine bel_drew ?_) | (with_reducible refine below_drewN ?_ _) | (with_reducible refine bel_put ?_ (by first | exact Nat.le_refl _ | (simp; done) | (simp; omega)) _)))
    rintro e w1 ⟨rfl, hb1⟩
    rw [HP.out]
    have X1 : Box w1 w.heap.size 42 #[.int .i64 p.1, .int .i64 p.2.1, .slice A2 n2 c2, .slice A3 n3 c3, .slice A4 n4 c4, .slice A5 n5 c5, .slice A6 n6 c6] := (Box.new _ _ _).below hb1 (by simp)
    have k0 : w1.cell? ⟨w.heap.size, 0, none⟩ = some (.int .i64 p.1) := X1.cell 0
    have k1 : w1.cell? ⟨w.heap.size, 1, none⟩ = some (.int .i64 p.2.1) := X1.cell 1
    have k2 : w1.cell? ⟨w.heap.size, 2, none⟩ = some (.slice A2 n2 c2) := X1.cell 2
    have k3 : w1.cell? ⟨w.heap.size, 3, none⟩ = some (.slice A3 n3 c3) := X1.cell 3
    have k4 : w1.cell? ⟨w.heap.size, 4, none⟩ = some (.slice A4 n4 c4) := X1.cell 4
    have k5 : w1.cell? ⟨w.heap.size, 5, none⟩ = some (.slice A5 n5 c5) := X1.cell 5
    have k6 : w1.cell? ⟨w.heap.size, 6, none⟩ = some (.slice A6 n6 c6) := X1.cell 6
    have hB1 : Below w.heap.size w w1 := bel_trans (by repeat (first | (with_reducible exact Below.refl _ _) | (with_reducible assumption) | (with_reducible refine bel_alloc ?_ _) | (with_reducible refine bel_drew ?_) | (with_reducible refine below_drewN ?_ _) | (with_reducible refine bel_put ?_ (by first | exact Nat.le_refl _ | (simp; done) | (simp; omega)) _))) hb1
    have z1 : w.heap.size + 1 ≤ w1.heap.size := by have := hb1.size; simpa using this
    clear hb1
    go_wp2_with fail
    go_loop [3, 4] (fun x i => ∃ j : Nat, j ≤ n4 ∧ i = .int .i64 j ∧ x = .int .i64 (ldL (p.2.2.2.1.1.take j))) (fun _ i => n4 - (intOf i).toNat)
    case atStart => exact ⟨0, by omega, rfl, rfl⟩
    case round =>
      obtain ⟨j, hj, rfl, rfl⟩ := hrel
      have hrg := ldL_rg HWH.out j
      by_cases hlt : j < n4
      · obtain ⟨a, b', off, es, hl2, rfl, hb, hes, hR⟩ := rowR_at (K := 4) hr4 hlt rfl
        have HS := Lib.hid (ldL_sn hl2)
        have hwh := wh_rg (HWH.out a (alMem hl2))
        clear hl2
        obtain ⟨A7, n7, c7, rfl, -, -, -, -, -, hl7, -⟩ := openWhole hR
        rw [hl7] at HS hwh
        clear hl7
        have u3 : w1.cell? ⟨b', off + j * 4 + 3, none⟩ = some (.slice A7 n7 c7) := cell_at hB1 hb (hes 3 (by omega))
        clear hes hR
        obtain ⟨y, hy⟩ : ∃ y, ldL (p.2.2.2.1.1.take j) = y := ⟨_, rfl⟩
        rw [hy] at HS hrg
        rw [hy]
        clear hy
        go_wp2
        go_round
        case rel => exact ⟨j + 1, by omega, by go_num, by (rw [HS.out]; try go_num)⟩
        case measure => simp [intOf]; omega
      · obtain rfl : n4 = j := by omega
        have HAL := Lib.hid (show p.2.2.2.1.1.take n4 = p.2.2.2.1.1 from List.take_of_length_le (Nat.le_of_eq E4.out))
        rw [HAL.out] at hrg
        rw [HAL.out]
        obtain ⟨y, hy⟩ : ∃ y, ldL p.2.2.2.1.1 = y := ⟨_, rfl⟩
        rw [hy] at hrg
        rw [hy]
        have HY := Lib.hid hy
        clear hy
        go_wp2
        go_ret
        exact ⟨by first | rfl | (rw [HY.out]; done) | (refine ret_int ?_; rw [HY.out]; done) | (refine ret_int ?_; rw [HY.out]; omega), hB1⟩
  · have HP := Lib.hid (decide_eq_false hp)
    rw [fLoad_f hp]
    clear hp
    go_enter Tryz.func30, Tryz.ntmps30
    go_wp2_with fail
    refine (s_NodeOk (tNode.reach h ?hB) hz).mono ?_
    case hB => exact (by repeat (first | (with_reducible exact Below.refl _ _) | (with_reducible assumption) | (with_reducible refine bel_alloc ?_ _) | (with_reducible refine bel_drew ?_) | (with_reducible refine below_drewN ?_ _) | (with_reducible refine bel_put ?_ (by first | exact Nat.le_refl _ | (simp; done) | (simp; omega)) _)))
    rintro e w1 ⟨rfl, hb1⟩
    rw [HP.out]
    go_wp2
    go_ret
    exact ⟨rfl, bel_trans (by repeat (first | (with_reducible exact Below.refl _ _) | (with_reducible assumption) | (with_reducible refine bel_alloc ?_ _) | (with_reducible refine bel_drew ?_) | (with_reducible refine below_drewN ?_ _) | (with_reducible refine bel_put ?_ (by first | exact Nat.le_refl _ | (simp; done) | (simp; omega)) _))) hb1⟩
set_option maxHeartbeats 1000000 in
theorem i_Load {w : World} {cs : List Value} {p : DNode} (h : tNode.R w w.heap.size cs p) (hz : szNode p ≤ 1048576) :
    Calls Tryz.prog 31 #[.agg cs.toArray] w fun e w' => e = .returned (.int .i64 (fLoad p)) ∧ Below w.heap.size w w' := by
  obtain ⟨A2, n2, c2, A3, n3, c3, A4, n4, c4, A5, n5, c5, A6, n6, c6, rfl, -, -, hP, hD, hL⟩ := fopenNode h
  by_cases hp : NdOk p
  · have HP := Lib.hid (decide_eq_true hp)
    have hr2 := (prod_two rfl hP).1
    have hr4 := (prod_two rfl hD).1
    have e2 := (rowR_len hr2).1
    have e4 := (rowR_len hr4).1
    have hn2 : n2 ≤ 12 := by have := hp.2.2.1.1.1; omega
    have hn4 : n4 ≤ 6 := by have := hp.2.2.2.1.1; omega
    have HWH := Lib.hid (show ∀ a ∈ p.2.2.2.1.1, WhN a from fun a ha => (hp.2.2.2.1.2.2.2.2 a ha).1)
    rw [fLoad_t hp, e2]
    have E4 := Lib.hid e4
    clear hp e2 e4
    go_enter Tryz.func31, Tryz.ntmps31
    go_wp2_with fail
    refine (i_NodeOk (tNode.reach h ?hB) hz).mono ?_
    case hB => exact (by repeat (first | (with_reducible exact Below.refl _ _) | (with_reducible assumption) | (with_reducible refine bel_alloc ?_ _) | (with_reducible refine bel_drew ?_) | (with_reducible refine below_drewN ?_ _) | (with_reducible refine bel_put ?_ (by first | exact Nat.le_refl _ | (simp; done) | (simp; omega)) _)))
    rintro e w1 ⟨rfl, hb1⟩
    rw [HP.out]
    have X1 : Box w1 w.heap.size 42 #[.int .i64 p.1, .int .i64 p.2.1, .slice A2 n2 c2, .slice A3 n3 c3, .slice A4 n4 c4, .slice A5 n5 c5, .slice A6 n6 c6] := (Box.new _ _ _).below hb1 (by simp)
    have k0 : w1.cell? ⟨w.heap.size, 0, none⟩ = some (.int .i64 p.1) := X1.cell 0
    have k1 : w1.cell? ⟨w.heap.size, 1, none⟩ = some (.int .i64 p.2.1) := X1.cell 1
    have k2 : w1.cell? ⟨w.heap.size, 2, none⟩ = some (.slice A2 n2 c2) := X1.cell 2
    have k3 : w1.cell? ⟨w.heap.size, 3, none⟩ = some (.slice A3 n3 c3) := X1.cell 3
    have k4 : w1.cell? ⟨w.heap.size, 4, none⟩ = some (.slice A4 n4 c4) := X1.cell 4
    have k5 : w1.cell? ⟨w.heap.size, 5, none⟩ = some (.slice A5 n5 c5) := X1.cell 5
    have k6 : w1.cell? ⟨w.heap.size, 6, none⟩ = some (.slice A6 n6 c6) := X1.cell 6
    have hB1 : Below w.heap.size w w1 := bel_trans (by repeat (first | (with_reducible exact Below.refl _ _) | (with_reducible assumption) | (with_reducible refine bel_alloc ?_ _) | (with_reducible refine bel_drew ?_) | (with_reducible refine below_drewN ?_ _) | (with_reducible refine bel_put ?_ (by first | exact Nat.le_refl _ | (simp; done) | (simp; omega)) _))) hb1
    have z1 : w.heap.size + 1 ≤ w1.heap.size := by have := hb1.size; simpa using this
    clear hb1
    go_wp2_with fail
    go_loopw [3, 17] (fun x i wr => ∃ j : Nat, j ≤ n4 ∧ i = .int .i64 j ∧ x = .int .i64 ((n2 : Int) + ldL (p.2.2.2.1.1.take j)) ∧ Below w.heap.size w wr) (fun _ i _ => n4 - (intOf i).toNat)
    case atStart => exact ⟨0, by omega, rfl, by simp [ldL], hB1⟩
    case round =>
      obtain ⟨j, hj, rfl, rfl, hB⟩ := hrel
      have hrg := ldL_rg HWH.out j
      by_cases hlt : j < n4
      · obtain ⟨a, b', off, es, hl2, rfl, hb, hes, hR⟩ := rowR_at (K := 4) hr4 hlt rfl
        have HS := Lib.hid (ldL_sn hl2)
        have hwh := wh_rg (HWH.out a (alMem hl2))
        clear hl2
        obtain ⟨A7, n7, c7, rfl, -, -, -, -, -, hl7, -⟩ := openWhole hR
        rw [hl7] at HS hwh
        clear hl7
        have u0 : wr.cell? ⟨b', off + j * 4, none⟩ = some (.int .i64 a.1) := cell_at hB hb (hes 0 (by omega))
        have u1 : wr.cell? ⟨b', off + j * 4 + 1, none⟩ = some (.int .i64 a.2.1) := cell_at hB hb (hes 1 (by omega))
        have u2 : wr.cell? ⟨b', off + j * 4 + 2, none⟩ = some (.int .i64 a.2.2.1) := cell_at hB hb (hes 2 (by omega))
        have u3 : wr.cell? ⟨b', off + j * 4 + 3, none⟩ = some (.slice A7 n7 c7) := cell_at hB hb (hes 3 (by omega))
        clear hes hR
        obtain ⟨y, hy⟩ : ∃ y, ldL (p.2.2.2.1.1.take j) = y := ⟨_, rfl⟩
        rw [hy] at HS hrg
        rw [hy]
        clear hy
        go_wp2
        go_roundw
        case rel => exact ⟨j + 1, by omega, by go_num, by (rw [HS.out]; try go_num), (by repeat (first | (with_reducible exact Below.refl _ _) | (with_reducible assumption) | (with_reducible refine bel_alloc ?_ _) | (with_reducible refine bel_drew ?_) | (with_reducible refine below_drewN ?_ _) | (with_reducible refine bel_put ?_ (by first | exact Nat.le_refl _ | (simp; done) | (simp; omega)) _)))⟩
        case measure => simp [intOf]; omega
      · obtain rfl : n4 = j := by omega
        have HAL := Lib.hid (show p.2.2.2.1.1.take n4 = p.2.2.2.1.1 from List.take_of_length_le (Nat.le_of_eq E4.out))
        rw [HAL.out] at hrg
        rw [HAL.out]
        obtain ⟨y, hy⟩ : ∃ y, ldL p.2.2.2.1.1 = y := ⟨_, rfl⟩
        rw [hy] at hrg
        rw [hy]
        have HY := Lib.hid hy
        clear hy
        go_wp2
        go_ret
        exact ⟨by first | rfl | (rw [HY.out]; done) | (refine ret_int ?_; rw [HY.out]; done) | (refine ret_int ?_; rw [HY.out]; omega), hB⟩
  · have HP := Lib.hid (decide_eq_false hp)
    rw [fLoad_f hp]
    clear hp
    go_enter Tryz.func31, Tryz.ntmps31
    go_wp2_with fail
    refine (i_NodeOk (tNode.reach h ?hB) hz).mono ?_
    case hB => exact (by repeat (first | (with_reducible exact Below.refl _ _) | (with_reducible assumption) | (with_reducible refine bel_alloc ?_ _) | (with_reducible refine bel_drew ?_) | (with_reducible refine below_drewN ?_ _) | (with_reducible refine bel_put ?_ (by first | exact Nat.le_refl _ | (simp; done) | (simp; omega)) _)))
    rintro e w1 ⟨rfl, hb1⟩
    rw [HP.out]
    go_wp2
    go_ret
    exact ⟨rfl, bel_trans (by repeat (first | (with_reducible exact Below.refl _ _) | (with_reducible assumption) | (with_reducible refine bel_alloc ?_ _) | (with_reducible refine bel_drew ?_) | (with_reducible refine below_drewN ?_ _) | (with_reducible refine bel_put ?_ (by first | exact Nat.le_refl _ | (simp; done) | (simp; omega)) _))) hb1⟩
set_option maxHeartbeats 1000000 in
theorem s_Idle {w : World} {cs : List Value} {p : DNode} (h : tNode.R w w.heap.size cs p) (hz : szNode p ≤ 1048576) :
    Calls Tryz.prog 32 #[.agg cs.toArray] w fun e w' => e = .returned (.bool (fIdle p)) ∧ Below w.heap.size w w' := by
  obtain ⟨A2, n2, c2, A3, n3, c3, A4, n4, c4, A5, n5, c5, A6, n6, c6, rfl, -, -, hP, hD, hL⟩ := fopenNode h
  by_cases hp : NdOk p
  · have HP := Lib.hid (decide_eq_true hp)
    have e2 := (rowR_len (prod_two rfl hP).1).1
    have e4 := (rowR_len (prod_two rfl hD).1).1
    rw [fIdle_t hp, e2, e4]
    clear hp e2 e4
    by_cases q2 : n2 = 0
    · by_cases q4 : n4 = 0
      · have HR := Lib.hid (show (decide (n2 = 0) && decide (n4 = 0)) = true by simp [q2, q4])
        rw [HR.out]
        have t2 : ((n2 : Int) == 0) = true := by simp [q2]
        have t4 : ((n4 : Int) == 0) = true := by simp [q4]
        clear q2 q4
        go_enter Tryz.func32, Tryz.ntmps32
        go_wp2_with fail
        refine (s_NodeOk (tNode.reach h ?hB) hz).mono ?_
        case hB => exact (by repeat (first | (with_reducible exact Below.refl _ _) | (with_reducible assumption) | (with_reducible refine bel_alloc ?_ _) | (with_reducible refine bel_drew ?_) | (with_reducible refine below_drewN ?_ _) | (with_reducible refine bel_put ?_ (by first | exact Nat.le_refl _ | (simp; done) | (simp; omega)) _)))
        rintro e w1 ⟨rfl, hb1⟩
        rw [HP.out]
        have X1 : Box w1 w.heap.size 42 #[.int .i64 p.1, .int .i64 p.2.1, .slice A2 n2 c2, .slice A3 n3 c3, .slice A4 n4 c4, .slice A5 n5 c5, .slice A6 n6 c6] := (Box.new _ _ _).below hb1 (by simp)
        have k0 : w1.cell? ⟨w.heap.size, 0, none⟩ = some (.int .i64 p.1) := X1.cell 0
        have k1 : w1.cell? ⟨w.heap.size, 1, none⟩ = some (.int .i64 p.2.1) := X1.cell 1
        have k2 : w1.cell? ⟨w.heap.size, 2, none⟩ = some (.slice A2 n2 c2) := X1.cell 2
        have k3 : w1.cell? ⟨w.heap.size, 3, none⟩ = some (.slice A3 n3 c3) := X1.cell 3
        have k4 : w1.cell? ⟨w.heap.size, 4, none⟩ = some (.slice A4 n4 c4) := X1.cell 4
        have k5 : w1.cell? ⟨w.heap.size, 5, none⟩ = some (.slice A5 n5 c5) := X1.cell 5
        have k6 : w1.cell? ⟨w.heap.size, 6, none⟩ = some (.slice A6 n6 c6) := X1.cell 6
        have hB1 : Below w.heap.size w w1 := bel_trans (by repeat (first | (with_reducible exact Below.refl _ _) | (with_reducible assumption) | (with_reducible refine bel_alloc ?_ _) | (with_reducible refine bel_drew ?_) | (with_reducible refine below_drewN ?_ _) | (with_reducible refine bel_put ?_ (by first | exact Nat.le_refl _ | (simp; done) | (simp; omega)) _))) hb1
        have z1 : w.heap.size + 1 ≤ w1.heap.size := by have := hb1.size; simpa using this
        clear hb1
        go_wp2
        go_ret
        exact ⟨rfl, hB1⟩
      · have HR := Lib.hid (show (decide (n2 = 0) && decide (n4 = 0)) = false by simp [q2, q4])
        rw [HR.out]
        have t2 : ((n2 : Int) == 0) = true := by simp [q2]
        have t4 : ((n4 : Int) == 0) = false := by simp [q4]
        clear q2 q4
        go_enter Tryz.func32, Tryz.ntmps32
        go_wp2_with fail
        refine (s_NodeOk (tNode.reach h ?hB) hz).mono ?_
        case hB => exact (by repeat (first | (with_reducible exact Below.refl _ _) | (with_reducible assumption) | (with_reducible refine bel_alloc ?_ _) | (with_reducible refine bel_drew ?_) | (with_reducible refine below_drewN ?_ _) | (with_reducible refine bel_put ?_ (by first | exact Nat.le_refl _ | (simp; done) | (simp; omega)) _)))
        rintro e w1 ⟨rfl, hb1⟩
        rw [HP.out]
        have X1 : Box w1 w.heap.size 42 #[.int .i64 p.1, .int .i64 p.2.1, .slice A2 n2 c2, .slice A3 n3 c3, .slice A4 n4 c4, .slice A5 n5 c5, .slice A6 n6 c6] := (Box.new _ _ _).below hb1 (by simp)
        have k0 : w1.cell? ⟨w.heap.size, 0, none⟩ = some (.int .i64 p.1) := X1.cell 0
        have k1 : w1.cell? ⟨w.heap.size, 1, none⟩ = some (.int .i64 p.2.1) := X1.cell 1
        have k2 : w1.cell? ⟨w.heap.size, 2, none⟩ = some (.slice A2 n2 c2) := X1.cell 2
        have k3 : w1.cell? ⟨w.heap.size, 3, none⟩ = some (.slice A3 n3 c3) := X1.cell 3
        have k4 : w1.cell? ⟨w.heap.size, 4, none⟩ = some (.slice A4 n4 c4) := X1.cell 4
        have k5 : w1.cell? ⟨w.heap.size, 5, none⟩ = some (.slice A5 n5 c5) := X1.cell 5
        have k6 : w1.cell? ⟨w.heap.size, 6, none⟩ = some (.slice A6 n6 c6) := X1.cell 6
        have hB1 : Below w.heap.size w w1 := bel_trans (by repeat (first | (with_reducible exact Below.refl _ _) | (with_reducible assumption) | (with_reducible refine bel_alloc ?_ _) | (with_reducible refine bel_drew ?_) | (with_reducible refine below_drewN ?_ _) | (with_reducible refine bel_put ?_ (by first | exact Nat.le_refl _ | (simp; done) | (simp; omega)) _))) hb1
        have z1 : w.heap.size + 1 ≤ w1.heap.size := by have := hb1.size; simpa using this
        clear hb1
        go_wp2
        go_ret
        exact ⟨rfl, hB1⟩
    · have HR := Lib.hid (show (decide (n2 = 0) && decide (n4 = 0)) = false by simp [q2])
      rw [HR.out]
      have t2 : ((n2 : Int) == 0) = false := by simp [q2]
      clear q2
      go_enter Tryz.func32, Tryz.ntmps32
      go_wp2_with fail
      refine (s_NodeOk (tNode.reach h ?hB) hz).mono ?_
      case hB => exact (by repeat (first | (with_reducible exact Below.refl _ _) | (with_reducible assumption) | (with_reducible refine bel_alloc ?_ _) | (with_reducible refine bel_drew ?_) | (with_reducible refine below_drewN ?_ _) | (with_reducible refine bel_put ?_ (by first | exact Nat.le_refl _ | (simp; done) | (simp; omega)) _)))
      rintro e w1 ⟨rfl, hb1⟩
      rw [HP.out]
      have X1 : Box w1 w.heap.size 42 #[.int .i64 p.1, .int .i64 p.2.1, .slice A2 n2 c2, .slice A3 n3 c3, .slice A4 n4 c4, .slice A5 n5 c5, .slice A6 n6 c6] := (Box.new _ _ _).below hb1 (by simp)
      have k0 : w1.cell? ⟨w.heap.size, 0, none⟩ = some (.int .i64 p.1) := X1.cell 0
      have k1 : w1.cell? ⟨w.heap.size, 1, none⟩ = some (.int .i64 p.2.1) := X1.cell 1
      have k2 : w1.cell? ⟨w.heap.size, 2, none⟩ = some (.slice A2 n2 c2) := X1.cell 2
      have k3 : w1.cell? ⟨w.heap.size, 3, none⟩ = some (.slice A3 n3 c3) := X1.cell 3
      have k4 : w1.cell? ⟨w.heap.size, 4, none⟩ = some (.slice A4 n4 c4) := X1.cell 4
      have k5 : w1.cell? ⟨w.heap.size, 5, none⟩ = some (.slice A5 n5 c5) := X1.cell 5
      have k6 : w1.cell? ⟨w.heap.size, 6, none⟩ = some (.slice A6 n6 c6) := X1.cell 6
      have hB1 : Below w.heap.size w w1 := bel_trans (by repeat (first | (with_reducible exact Below.refl _ _) | (with_reducible assumption) | (with_reducible refine bel_alloc ?_ _) | (with_reducible refine bel_drew ?_) | (with_reducible refine below_drewN ?_ _) | (with_reducible refine bel_put ?_ (by first | exact Nat.le_refl _ | (simp; done) | (simp; omega)) _))) hb1
      have z1 : w.heap.size + 1 ≤ w1.heap.size := by have := hb1.size; simpa using this
      clear hb1
      go_wp2
      go_ret
      exact ⟨rfl, hB1⟩
  · have HP := Lib.hid (decide_eq_false hp)
    rw [fIdle_f hp]
    clear hp
    go_enter Tryz.func32, Tryz.ntmps32
    go_wp2_with fail
    refine (s_NodeOk (tNode.reach h ?hB) hz).mono ?_
    case hB => exact (by repeat (first | (with_reducible exact Below.refl _ _) | (with_reducible assumption) | (with_reducible refine bel_alloc ?_ _) | (with_reducible refine bel_drew ?_) | (with_reducible refine below_drewN ?_ _) | (with_reducible refine bel_put ?_ (by first | exact Nat.le_refl _ | (simp; done) | (simp; omega)) _)))
    rintro e w1 ⟨rfl, hb1⟩
    rw [HP.out]
    go_wp2
    go_ret
    exact ⟨rfl, bel_trans (by repeat (first | (with_reducible exact Below.refl _ _) | (with_reducible assumption) | (with_reducible refine bel_alloc ?_ _) | (with_reducible refine bel_drew ?_) | (with_reducible refine below_drewN ?_ _) | (with_reducible refine bel_put ?_ (by first | exact Nat.le_refl _ | (simp; done) | (simp; omega)) _))) hb1⟩
theorem i_Idle {w : World} {cs : List Value} {p : DNode} (h : tNode.R w w.heap.size cs p) (hz : szNode p ≤ 1048576) :
    Calls Tryz.prog 33 #[.agg cs.toArray] w fun e w' => e = .returned (.bool (fIdle p)) ∧ Below w.heap.size w w' := by
  obtain ⟨A2, n2, c2, A3, n3, c3, A4, n4, c4, A5, n5, c5, A6, n6, c6, rfl, -, -, hP, hD, hL⟩ := fopenNode h
  rw [fIdle_load]
  obtain ⟨y, hy⟩ : ∃ y, fLoad p = y := ⟨_, rfl⟩
  have HY := Lib.hid hy
  rw [hy]
  clear hy
  by_cases h0 : y = 0
  · subst h0
    go_enter Tryz.func33, Tryz.ntmps33
    go_wp2_with fail
    refine (i_Load (tNode.reach h ?hB) hz).mono ?_
    case hB => exact (by repeat (first | (with_reducible exact Below.refl _ _) | (with_reducible assumption) | (with_reducible refine bel_alloc ?_ _) | (with_reducible refine bel_drew ?_) | (with_reducible refine below_drewN ?_ _) | (with_reducible refine bel_put ?_ (by first | exact Nat.le_refl _ | (simp; done) | (simp; omega)) _)))
    rintro e w1 ⟨rfl, hb1⟩
    rw [HY.out]
    go_wp2
    go_ret
    exact ⟨rfl, bel_trans (by repeat (first | (with_reducible exact Below.refl _ _) | (with_reducible assumption) | (with_reducible refine bel_alloc ?_ _) | (with_reducible refine bel_drew ?_) | (with_reducible refine below_drewN ?_ _) | (with_reducible refine bel_put ?_ (by first | exact Nat.le_refl _ | (simp; done) | (simp; omega)) _))) hb1⟩
  · have t : (y == 0) = false := by simp [h0]
    have HR := Lib.hid (decide_eq_false h0)
    rw [HR.out]
    clear h0
    go_enter Tryz.func33, Tryz.ntmps33
    go_wp2_with fail
    refine (i_Load (tNode.reach h ?hB) hz).mono ?_
    case hB => exact (by repeat (first | (with_reducible exact Below.refl _ _) | (with_reducible assumption) | (with_reducible refine bel_alloc ?_ _) | (with_reducible refine bel_drew ?_) | (with_reducible refine below_drewN ?_ _) | (with_reducible refine bel_put ?_ (by first | exact Nat.le_refl _ | (simp; done) | (simp; omega)) _)))
    rintro e w1 ⟨rfl, hb1⟩
    rw [HY.out]
    go_wp2
    go_ret
    exact ⟨rfl, bel_trans (by repeat (first | (with_reducible exact Below.refl _ _) | (with_reducible assumption) | (with_reducible refine bel_alloc ?_ _) | (with_reducible refine bel_drew ?_) | (with_reducible refine below_drewN ?_ _) | (with_reducible refine bel_put ?_ (by first | exact Nat.le_refl _ | (simp; done) | (simp; omega)) _))) hb1⟩
set_option maxHeartbeats 1000000 in
theorem i_GotIds {w : World} {cs : List Value} {p : DNode} (h : tNode.R w w.heap.size cs p) (hz : szNode p ≤ 1048576) :
    Calls Tryz.prog 26 #[.agg cs.toArray] w fun e w' => ∃ A c F, e = .returned (.slice A (fIds p).length c) ∧ tIs.O w' [.slice A (fIds p).length c] (fIds p) F ∧ New w.heap.size F ∧ Below w.heap.size w w' := by
  obtain ⟨A2, n2, c2, A3, n3, c3, A4, n4, c4, A5, n5, c5, A6, n6, c6, rfl, -, -, hP, hD, hL⟩ := fopenNode h
  have hl5 := (slR_ints (prod_two rfl hD).2).1
  by_cases hp : NdOk p
  · have HP := Lib.hid (decide_eq_true hp)
    have hn5 : n5 ≤ 256 := by have := asc_len hp.2.2.2.1.2.2.1 hp.2.2.2.1.2.1; have := hl5.1; omega
    rw [fIds_t hp]
    obtain ⟨ids, hids⟩ : ∃ L, p.2.2.2.1.2 = L := ⟨_, rfl⟩
    rw [hids] at hl5
    rw [hids]
    clear hp hids
    have E5 := Lib.hid hl5.1
    go_enter Tryz.func26, Tryz.ntmps26
    go_wp2_with fail
    refine (i_NodeOk (tNode.reach h ?hB) hz).mono ?_
    case hB => exact (by repeat (first | (with_reducible exact Below.refl _ _) | (with_reducible assumption) | (with_reducible refine bel_alloc ?_ _) | (with_reducible refine bel_drew ?_) | (with_reducible refine below_drewN ?_ _) | (with_reducible refine bel_put ?_ (by first | exact Nat.le_refl _ | (simp; done) | (simp; omega)) _)))
    rintro e w1 ⟨rfl, hb1⟩
    rw [HP.out]
    have X1 : Box w1 w.heap.size 42 #[.int .i64 p.1, .int .i64 p.2.1, .slice A2 n2 c2, .slice A3 n3 c3, .slice A4 n4 c4, .slice A5 n5 c5, .slice A6 n6 c6] := (Box.new _ _ _).below hb1 (by simp)
    have k0 : w1.cell? ⟨w.heap.size, 0, none⟩ = some (.int .i64 p.1) := X1.cell 0
    have k1 : w1.cell? ⟨w.heap.size, 1, none⟩ = some (.int .i64 p.2.1) := X1.cell 1
    have k2 : w1.cell? ⟨w.heap.size, 2, none⟩ = some (.slice A2 n2 c2) := X1.cell 2
    have k3 : w1.cell? ⟨w.heap.size, 3, none⟩ = some (.slice A3 n3 c3) := X1.cell 3
    have k4 : w1.cell? ⟨w.heap.size, 4, none⟩ = some (.slice A4 n4 c4) := X1.cell 4
    have k5 : w1.cell? ⟨w.heap.size, 5, none⟩ = some (.slice A5 n5 c5) := X1.cell 5
    have k6 : w1.cell? ⟨w.heap.size, 6, none⟩ = some (.slice A6 n6 c6) := X1.cell 6
    have hB1 : Below w.heap.size w w1 := bel_trans (by repeat (first | (with_reducible exact Below.refl _ _) | (with_reducible assumption) | (with_reducible refine bel_alloc ?_ _) | (with_reducible refine bel_drew ?_) | (with_reducible refine below_drewN ?_ _) | (with_reducible refine bel_put ?_ (by first | exact Nat.le_refl _ | (simp; done) | (simp; omega)) _))) hb1
    have z1 : w.heap.size + 1 ≤ w1.heap.size := by have := hb1.size; simpa using this
    clear hb1
    go_wp2_with fail
    refine (i_copiedI5 (reach hl5 hB1) (by omega)).mono ?_
    rintro e w2 ⟨v, rfl, hO, hB2⟩
    obtain ⟨A, c, F, rfl, hO2, hN⟩ := own_slice hO
    go_wp2
    go_ret
    exact ⟨A, c, F, rfl, hO2, hN.lower hB1.size, bel_trans hB1 hB2⟩
  · have HP := Lib.hid (decide_eq_false hp)
    rw [fIds_f hp]
    clear hp
    go_enter Tryz.func26, Tryz.ntmps26
    go_wp2_with fail
    refine (i_NodeOk (tNode.reach h ?hB) hz).mono ?_
    case hB => exact (by repeat (first | (with_reducible exact Below.refl _ _) | (with_reducible assumption) | (with_reducible refine bel_alloc ?_ _) | (with_reducible refine bel_drew ?_) | (with_reducible refine below_drewN ?_ _) | (with_reducible refine bel_put ?_ (by first | exact Nat.le_refl _ | (simp; done) | (simp; omega)) _)))
    rintro e w1 ⟨rfl, hb1⟩
    rw [HP.out]
    go_wp2
    go_ret
    exact ⟨none, 0, [], rfl, nilO, New.nil _, bel_trans (by repeat (first | (with_reducible exact Below.refl _ _) | (with_reducible assumption) | (with_reducible refine bel_alloc ?_ _) | (with_reducible refine bel_drew ?_) | (with_reducible refine below_drewN ?_ _) | (with_reducible refine bel_put ?_ (by first | exact Nat.le_refl _ | (simp; done) | (simp; omega)) _))) hb1⟩
set_option maxHeartbeats 1000000 in
theorem s_GotIds {w : World} {cs : List Value} {p : DNode} (h : tNode.R w w.heap.size cs p) (hz : szNode p ≤ 1048576) :
    Calls Tryz.prog 25 #[.agg cs.toArray] w fun e w' => ∃ A c, e = .returned (.slice A (fIds p).length c) ∧ tIs.R w' w'.heap.size [.slice A (fIds p).length c] (fIds p) ∧ Below w.heap.size w w' := by
  obtain ⟨A2, n2, c2, A3, n3, c3, A4, n4, c4, A5, n5, c5, A6, n6, c6, rfl, -, -, hP, hD, hL⟩ := fopenNode h
  have hl5 := (slR_ints (prod_two rfl hD).2).1
  by_cases hp : NdOk p
  · obtain ⟨i0, hi0, hz0, hz1, hz2⟩ := info_parts info_ci
    have HP := Lib.hid (decide_eq_true hp)
    have hn5 : n5 ≤ 256 := by have := asc_len hp.2.2.2.1.2.2.1 hp.2.2.2.1.2.1; have := hl5.1; omega
    rw [fIds_t hp]
    obtain ⟨ids, hids⟩ : ∃ L, p.2.2.2.1.2 = L := ⟨_, rfl⟩
    rw [hids] at hl5
    rw [hids]
    clear hp hids
    have E5 := Lib.hid hl5.1
    go_enter Tryz.func25, Tryz.ntmps25
    go_wp2_with fail
    refine (s_NodeOk (tNode.reach h ?hB) hz).mono ?_
    case hB => exact (by repeat (first | (with_reducible exact Below.refl _ _) | (with_reducible assumption) | (with_reducible refine bel_alloc ?_ _) | (with_reducible refine bel_drew ?_) | (with_reducible refine below_drewN ?_ _) | (with_reducible refine bel_put ?_ (by first | exact Nat.le_refl _ | (simp; done) | (simp; omega)) _)))
    rintro e w1 ⟨rfl, hb1⟩
    rw [HP.out]
    have X1 : Box w1 w.heap.size 42 #[.int .i64 p.1, .int .i64 p.2.1, .slice A2 n2 c2, .slice A3 n3 c3, .slice A4 n4 c4, .slice A5 n5 c5, .slice A6 n6 c6] := (Box.new _ _ _).below hb1 (by simp)
    have k0 : w1.cell? ⟨w.heap.size, 0, none⟩ = some (.int .i64 p.1) := X1.cell 0
    have k1 : w1.cell? ⟨w.heap.size, 1, none⟩ = some (.int .i64 p.2.1) := X1.cell 1
    have k2 : w1.cell? ⟨w.heap.size, 2, none⟩ = some (.slice A2 n2 c2) := X1.cell 2
    have k3 : w1.cell? ⟨w.heap.size, 3, none⟩ = some (.slice A3 n3 c3) := X1.cell 3
    have k4 : w1.cell? ⟨w.heap.size, 4, none⟩ = some (.slice A4 n4 c4) := X1.cell 4
    have k5 : w1.cell? ⟨w.heap.size, 5, none⟩ = some (.slice A5 n5 c5) := X1.cell 5
    have k6 : w1.cell? ⟨w.heap.size, 6, none⟩ = some (.slice A6 n6 c6) := X1.cell 6
    have hB1 : Below w.heap.size w w1 := bel_trans (by repeat (first | (with_reducible exact Below.refl _ _) | (with_reducible assumption) | (with_reducible refine bel_alloc ?_ _) | (with_reducible refine bel_drew ?_) | (with_reducible refine below_drewN ?_ _) | (with_reducible refine bel_put ?_ (by first | exact Nat.le_refl _ | (simp; done) | (simp; omega)) _))) hb1
    have z1 : w.heap.size + 1 ≤ w1.heap.size := by have := hb1.size; simpa using this
    clear hb1
    have X1b := X1.alloc (.cells #[] 3)
    have k5b : (w1.alloc (.cells #[] 3)).cell? ⟨w.heap.size, 5, none⟩ = some (.slice A5 n5 c5) := X1b.cell 5
    have hsrc : Src (w1.alloc (.cells #[] 3)) 1 A5 n5 (ids.map (Value.int .i64)) := Src.of_ints ((hl5.below hB1).alloc hB1.size _)
    go_wp2_with (at_builtin; refine wpList_app _ rfl (.tmp 6) (.tmp 9) _ rfl w1.heap.size 3 i0 _ 1 8 Tryz.underlying23 hi0 hz0 hz1 hz2 rfl (by omega) _ _ _ rfl (empty6 _ _ _ (Nat.le_refl _)) _ n5 _ (ids.map (Value.int .i64)) rfl hsrc (one_ints _ _) (by simp only [maxLen]; omega) (by omega) (by simp) ?_; intro v1 w3 hown hgr hat)
    go_ret
    obtain ⟨A, c, F, rfl, hO2, hN⟩ := own_slice (Own.of (n := 0 + n5) (by simpa using hown) hl5.2.2)
    exact ⟨A, c, rfl, tIs.read hO2, Below.grown (w := w1.alloc (.cells #[] 3)) (bel_alloc hB1 _) hgr (by simp; omega) (fun b hb => by have e := Option.some.inj (show some w1.heap.size = some b from hb); omega)⟩
  · have HP := Lib.hid (decide_eq_false hp)
    rw [fIds_f hp]
    clear hp
    go_enter Tryz.func25, Tryz.ntmps25
    go_wp2_with fail
    refine (s_NodeOk (tNode.reach h ?hB) hz).mono ?_
    case hB => exact (by repeat (first | (with_reducible exact Below.refl _ _) | (with_reducible assumption) | (with_reducible refine bel_alloc ?_ _) | (with_reducible refine bel_drew ?_) | (with_reducible refine below_drewN ?_ _) | (with_reducible refine bel_put ?_ (by first | exact Nat.le_refl _ | (simp; done) | (simp; omega)) _)))
    rintro e w1 ⟨rfl, hb1⟩
    rw [HP.out]
    go_wp2
    go_ret
    exact ⟨none, 0, rfl, nilR, bel_trans (by repeat (first | (with_reducible exact Below.refl _ _) | (with_reducible assumption) | (with_reducible refine bel_alloc ?_ _) | (with_reducible refine bel_drew ?_) | (with_reducible refine below_drewN ?_ _) | (with_reducible refine bel_put ?_ (by first | exact Nat.le_refl _ | (simp; done) | (simp; omega)) _))) hb1⟩
end Go.Proofs.YtilopapnipealaaGreat
