/-
  What a pool is asked: contracts of Saw and Nexts, of both sides.
-/
import Derived.Test.YtgepeppmhfnbeaaPPool
import Derived.Test.YtgepeppmhfnbeaaPNil
import Derived.Test.YtgepeppmhfnbeaaEvHeld
namespace Go.Proofs.Ytgepeppmhfnbeaa
set_option maxRecDepth 100000
set_option linter.unusedVariables false
set_option linter.unusedSimpArgs false
open Go.ChangeShapes Go.WideShapes Go.ChangeAt Go.RowKit
open Fld
def fSaw (p : DPool) (t : Int) : Bool := decide (PlOk p ∧ t ∈ p.2)
theorem fSaw_f {p : DPool} {t : Int} (h : ¬ PlOk p) : fSaw p t = false := decide_eq_false fun x => h x.1
theorem fSaw_t {p : DPool} {t : Int} (h : PlOk p) : fSaw p t = decide (t ∈ p.2) := by
  unfold fSaw
  by_cases hm : t ∈ p.2
  · rw [decide_eq_true hm, decide_eq_true ⟨h, hm⟩]
  · rw [decide_eq_false hm, decide_eq_false fun x => hm x.2]
def cnts (l : List DHeld) : List Int := l.foldl (fun c h => c.set h.1.toNat (c.getD h.1.toNat 0 + 1)) [0, 0, 0, 0, 0, 0, 0, 0]
theorem cnts_len (l : List DHeld) : (cnts l).length = 8 := by
  have : ∀ (l : List DHeld) (c : List Int), (l.foldl (fun c h => c.set h.1.toNat (c.getD h.1.toNat 0 + 1)) c).length = c.length := by
    intro l
    induction l with
    | nil => intro c; rfl
    | cons a l ih => intro c; rw [List.foldl_cons, ih, List.length_set]
  exact this l _
theorem cnts_sn {l : List DHeld} {j : Nat} {a : DHeld} (h : l[j]? = some a) : cnts (l.take (j + 1)) = (cnts (l.take j)).set a.1.toNat ((cnts (l.take j)).getD a.1.toNat 0 + 1) := by
  rw [take_sn h]; unfold cnts; rw [List.foldl_append]; rfl
theorem cnts_le (l : List DHeld) : ∀ x ∈ cnts l, 0 ≤ x ∧ x ≤ l.length := by
  have : ∀ (l : List DHeld) (c : List Int) (n : Nat), (∀ x ∈ c, 0 ≤ x ∧ x ≤ n) → ∀ x ∈ l.foldl (fun c h => c.set h.1.toNat (c.getD h.1.toNat 0 + 1)) c, 0 ≤ x ∧ x ≤ (n + l.length : Nat) := by
    intro l
    induction l with
    | nil => intro c n h; exact h
    | cons a l ih =>
      intro c n h
      rw [List.foldl_cons, List.length_cons, show n + (l.length + 1) = n + 1 + l.length by omega]
      refine ih _ _ fun x hx => ?_
      rcases List.mem_or_eq_of_mem_set hx with h' | rfl
      · have := h x h'; omega
      · by_cases hl : a.1.toNat < c.length
        · have := h (c.getD a.1.toNat 0) (by rw [List.getD_eq_getElem?_getD, List.getElem?_eq_getElem hl]; exact List.getElem_mem hl)
          omega
        · rw [List.getD_eq_getElem?_getD, List.getElem?_eq_none (by omega)]
          simp only [Option.getD_none]
          omega
  have h2 := this l [0, 0, 0, 0, 0, 0, 0, 0] 0 (by simp)
  intro x hx
  have := h2 x hx
  omega
def fNexts (p : DPool) : List Int := if PlOk p then cnts p.1 else []
theorem fNexts_t {p : DPool} (h : PlOk p) : fNexts p = cnts p.1 := if_pos h
theorem fNexts_f {p : DPool} (h : ¬ PlOk p) : fNexts p = [] := if_neg h
theorem fNexts_le (p : DPool) : (fNexts p).length ≤ 8 := by
  unfold fNexts
  split
  · rw [cnts_len]; exact Nat.le_refl _
  · simp
/-- Eight zeros that have just been laid. -/
theorem eight_own {w : World} {g : Nat} {t : TypeId} (h : w.rowIs g t 8 (fun _ => .int .i64 0)) : Own .i64 t w g (.slice (some ⟨g, 0, none⟩) 8 8) (cnts []) :=
  Own.of_row (h.congr fun j hj => by rcases (by omega : j = 0 ∨ j = 1 ∨ j = 2 ∨ j = 3 ∨ j = 4 ∨ j = 5 ∨ j = 6 ∨ j = 7) with rfl | rfl | rfl | rfl | rfl | rfl | rfl | rfl <;> rfl) rfl (by simp only [maxLen]; omega) (Nat.le_refl _) (fun x hx => by
    have := cnts_le [] x hx
    exact WalkArith.wf_i64 ⟨by simp at this; omega, by simp at this; omega⟩)
theorem i_Saw {w : World} {cs : List Value} {p : DPool} {t : Int} (h : tPool.R w w.heap.size cs p) (hz : szPool p ≤ 1048576) (ht : (Lit.int .i64 t).wf = true) :
    Calls Try.prog 39 #[.agg cs.toArray, .int .i64 t] w fun e w' => e = .returned (.bool (fSaw p t)) ∧ Below w.heap.size w w' := by
  obtain ⟨A0, n0, c0, A1, n1, c1, rfl, -, -, -, hr0, -, -, -, hr1⟩ := openPool h
  have hl1 := (slR_ints hr1).1
  by_cases hp : PlOk p
  · have HP := Lib.hid (decide_eq_true hp)
    have hn1 : n1 ≤ 60 := by have := hl1.1; have := hp.1.2; omega
    rw [fSaw_t hp]
    clear hp
    go_enter Try.func39, Try.ntmps39
    go_wp2_with fail
    refine (i_PoolOk (tPool.reach h ?hB) hz).mono ?_
    case hB => exact (by repeat (first | (with_reducible exact Below.refl _ _) | (with_reducible assumption) | (with_reducible refine bel_alloc ?_ _) | (with_reducible refine bel_drew ?_) | (with_reducible refine below_drewN ?_ _) | (with_reducible refine bel_put ?_ (by first | exact Nat.le_refl _ | (simp; done) | (simp; omega)) _)))
    rintro e w1 ⟨rfl, hb1⟩
    rw [HP.out]
    have X1 : Box w1 w.heap.size 26 #[.slice A0 n0 c0, .slice A1 n1 c1] := (Box.new _ _ _).below hb1 (by simp)
    have k0 : w1.cell? ⟨w.heap.size, 0, none⟩ = some (.slice A0 n0 c0) := X1.cell 0
    have k1 : w1.cell? ⟨w.heap.size, 1, none⟩ = some (.slice A1 n1 c1) := X1.cell 1
    have hB1 : Below w.heap.size w w1 := bel_trans (by repeat (first | (with_reducible exact Below.refl _ _) | (with_reducible assumption) | (with_reducible refine bel_alloc ?_ _) | (with_reducible refine bel_drew ?_) | (with_reducible refine below_drewN ?_ _) | (with_reducible refine bel_put ?_ (by first | exact Nat.le_refl _ | (simp; done) | (simp; omega)) _))) hb1
    go_wp2_with fail
    refine (i_tags _ _ _ _ _ _ _).mono ?_
    rintro e w2 ⟨rfl, hb2⟩
    have hB2 : Below w.heap.size w w2 := bel_trans hB1 hb2
    go_wp2_with fail
    refine (i_has t (reach hl1 hB2) (by omega)).mono ?_
    rintro e w3 ⟨rfl, rfl⟩
    go_wp2
    go_ret
    exact ⟨rfl, hB2⟩
  · have HP := Lib.hid (decide_eq_false hp)
    rw [fSaw_f hp]
    clear hp
    go_enter Try.func39, Try.ntmps39
    go_wp2_with fail
    refine (i_PoolOk (tPool.reach h ?hB) hz).mono ?_
    case hB => exact (by repeat (first | (with_reducible exact Below.refl _ _) | (with_reducible assumption) | (with_reducible refine bel_alloc ?_ _) | (with_reducible refine bel_drew ?_) | (with_reducible refine below_drewN ?_ _) | (with_reducible refine bel_put ?_ (by first | exact Nat.le_refl _ | (simp; done) | (simp; omega)) _)))
    rintro e w1 ⟨rfl, hb1⟩
    rw [HP.out]
    go_wp2
    go_ret
    exact ⟨rfl, bel_trans (by repeat (first | (with_reducible exact Below.refl _ _) | (with_reducible assumption) | (with_reducible refine bel_alloc ?_ _) | (with_reducible refine bel_drew ?_) | (with_reducible refine below_drewN ?_ _) | (with_reducible refine bel_put ?_ (by first | exact Nat.le_refl _ | (simp; done) | (simp; omega)) _))) hb1⟩
set_option maxHeartbeats 1000000 in
theorem s_Nexts {w : World} {cs : List Value} {p : DPool} (h : tPool.R w w.heap.size cs p) (hz : szPool p ≤ 1048576) :
    Calls Try.prog 55 #[.agg cs.toArray] w fun e w' => ∃ A c, e = .returned (.slice A (fNexts p).length c) ∧ tIs.R w' w'.heap.size [.slice A (fNexts p).length c] (fNexts p) ∧ Below w.heap.size w w' := by
  obtain ⟨i0, hi0, hz0, hz1, hz2⟩ := info_parts info_ci
  obtain ⟨A0, n0, c0, A1, n1, c1, rfl, -, -, -, hr0, -, -, -, hr1⟩ := openPool h
  by_cases hp : PlOk p
  · have HP := Lib.hid (decide_eq_true hp)
    have HH := Lib.hid hp.2.1
    obtain ⟨e0, _, _⟩ := rowR_len hr0
    have hn0 : n0 ≤ 12 := by have := hp.1.1; omega
    have E0 := Lib.hid e0
    rw [fNexts_t hp]
    obtain ⟨r0, l1⟩ := p
    dsimp only at *
    clear hp e0
    go_enter Try.func55, Try.ntmps55
    go_wp2_with fail
    refine (s_PoolOk (tPool.reach h ?hB) hz).mono ?_
    case hB => exact (by repeat (first | (with_reducible exact Below.refl _ _) | (with_reducible assumption) | (with_reducible refine bel_alloc ?_ _) | (with_reducible refine bel_drew ?_) | (with_reducible refine below_drewN ?_ _) | (with_reducible refine bel_put ?_ (by first | exact Nat.le_refl _ | (simp; done) | (simp; omega)) _)))
    rintro e w1 ⟨rfl, hb1⟩
    rw [HP.out]
    have X1 : Box w1 w.heap.size 26 #[.slice A0 n0 c0, .slice A1 n1 c1] := (Box.new _ _ _).below hb1 (by simp)
    have k0 : w1.cell? ⟨w.heap.size, 0, none⟩ = some (.slice A0 n0 c0) := X1.cell 0
    have k1 : w1.cell? ⟨w.heap.size, 1, none⟩ = some (.slice A1 n1 c1) := X1.cell 1
    have hB1 : Below w.heap.size w w1 := bel_trans (by repeat (first | (with_reducible exact Below.refl _ _) | (with_reducible assumption) | (with_reducible refine bel_alloc ?_ _) | (with_reducible refine bel_drew ?_) | (with_reducible refine below_drewN ?_ _) | (with_reducible refine bel_put ?_ (by first | exact Nat.le_refl _ | (simp; done) | (simp; omega)) _))) hb1
    have z1 : w.heap.size + 1 ≤ w1.heap.size := by have := hb1.size; simpa using this
    go_wp2_with (at_make; refine wpList_mk _ rfl _ _ _ rfl 3 i0 _ Try.underlying24 hi0 hz0 rfl hz1 8 rfl rfl (by rw [hz2]; omega) (by simp only [maxLen]; omega) ?_; intro w2 hrow hB2 hsz; have X2 := X1.below hB2 X1.size; have k2 : w2.cell? ⟨w.heap.size, 0, none⟩ = some (.slice A0 n0 c0) := X2.cell 0)
    go_loopw [4] (fun i wr => ∃ j : Nat, j ≤ n0 ∧ i = .int .i64 j ∧ Own .i64 3 wr w1.heap.size (.slice (some ⟨w1.heap.size, 0, none⟩) 8 8) (cnts (r0.take j)) ∧ Below w.heap.size w wr ∧ Box wr w.heap.size 26 #[.slice A0 n0 c0, .slice A1 n1 c1]) (fun i _ => n0 - (intOf i).toNat)
    case atStart => exact ⟨0, by omega, rfl, eight_own hrow, bel_trans hB1 hB2, X2⟩
    case round =>
      obtain ⟨j, hj, rfl, hO, hB, hX⟩ := hrel
      clear k0 k1 k2
      have k0 : wr.cell? ⟨w.heap.size, 0, none⟩ = some (.slice A0 n0 c0) := hX.cell 0
      by_cases hlt : j < n0
      · obtain ⟨a, b', off, es, hl2, rfl, hb, hes, hR⟩ := rowR_at (K := 3) hr0 hlt rfl
        obtain ⟨⟨q1, q2, _⟩, HS⟩ := (⟨HH.out a (mem_at hl2), Lib.hid (cnts_sn hl2)⟩ : HdOk a ∧ Hid _)
        clear hl2
        obtain ⟨A2, n2, c2, rfl, -, -, -, -, -, -⟩ := openHeld hR
        have e0 : wr.cell? ⟨b', off + j * 3, none⟩ = some (.int .i64 a.1) := cell_at hB hb (hes 0 (by omega))
        have e1 : wr.cell? ⟨b', off + j * 3 + 1, none⟩ = some (.int .i64 a.2.1) := cell_at hB hb (hes 1 (by omega))
        have e2 : wr.cell? ⟨b', off + j * 3 + 2, none⟩ = some (.slice A2 n2 c2) := cell_at hB hb (hes 2 (by omega))
        clear hes hR
        obtain ⟨k, hk⟩ : ∃ k : Nat, a.1 = k := ⟨a.1.toNat, by omega⟩
        rw [hk] at e0 HS q1 q2
        have HK := Lib.hid hk
        clear hk
        have hk8 : k < 8 := by omega
        obtain ⟨g, c', ev, _, _, _, hgz, hcell, hfz⟩ := hO.row (by rw [cnts_len]; omega)
        obtain ⟨C, hC⟩ : ∃ C, cnts (r0.take j) = C := ⟨_, rfl⟩
        have hCl : C.length = 8 := by rw [← hC]; exact cnts_len _
        have hCr := cnts_le (r0.take j)
        rw [hC] at hO hcell hCr HS ev
        rw [hCl] at ev hcell
        injection ev with ev _ _
        injection ev with ev
        injection ev with ev _ _
        subst ev
        clear hC
        have hck := hcell k hk8
        have hfk := hfz k
        obtain ⟨x, hx⟩ : ∃ x, C.getD k 0 = x := ⟨_, rfl⟩
        have hxr : 0 ≤ x ∧ x ≤ 12 := by
          have h1 := hCr (C.getD k 0) (by rw [List.getD_eq_getElem?_getD, List.getElem?_eq_getElem (by omega)]; exact List.getElem_mem _)
          have h2 : (r0.take j).length ≤ 12 := by rw [List.length_take, E0.out]; omega
          rw [hx] at h1; omega
        rw [hx] at hck
        have hO8 : Own .i64 3 wr w1.heap.size (.slice (some ⟨w1.heap.size, 0, none⟩) C.length 8) C := by rw [hCl]; exact hO
        have hP := hO8.put k (x + 1) (wf_i64 (by omega) (by omega))
        rw [hCl] at hP
        have hEq : cnts (r0.take (j + 1)) = C.set k (x + 1) := by rw [HS.out, Int.toNat_natCast, hx]
        have HE := Lib.hid hEq
        clear hcell hfz hCr hx hEq hCl
        go_wp2
        go_roundw
        case rel => exact ⟨j + 1, by omega, by go_num, by rw [HE.out]; exact hP, bel_put hB (by simp; omega) _, hX.far (by simp; omega) _⟩
        case measure => simp [intOf]; omega
      · obtain rfl : n0 = j := by omega
        have HA := Lib.hid (show r0.take n0 = r0 from List.take_of_length_le (Nat.le_of_eq E0.out))
        rw [HA.out] at hO
        have HL := Lib.hid (cnts_len r0)
        go_wp2
        go_ret
        obtain ⟨A, c, F, ev, hO2, hN⟩ := own_slice hO
        exact ⟨A, c, by rw [← ev]; rw [HL.out] at *; rfl, tIs.read hO2, hB⟩
  · have HP := Lib.hid (decide_eq_false hp)
    rw [fNexts_f hp]
    clear hp
    go_enter Try.func55, Try.ntmps55
    go_wp2_with fail
    refine (s_PoolOk (tPool.reach h ?hB) hz).mono ?_
    case hB => exact (by repeat (first | (with_reducible exact Below.refl _ _) | (with_reducible assumption) | (with_reducible refine bel_alloc ?_ _) | (with_reducible refine bel_drew ?_) | (with_reducible refine below_drewN ?_ _) | (with_reducible refine bel_put ?_ (by first | exact Nat.le_refl _ | (simp; done) | (simp; omega)) _)))
    rintro e w1 ⟨rfl, hb1⟩
    rw [HP.out]
    go_wp2
    go_ret
    exact ⟨none, 0, rfl, nilR, bel_trans (by repeat (first | (with_reducible exact Below.refl _ _) | (with_reducible assumption) | (with_reducible refine bel_alloc ?_ _) | (with_reducible refine bel_drew ?_) | (with_reducible refine below_drewN ?_ _) | (with_reducible refine bel_put ?_ (by first | exact Nat.le_refl _ | (simp; done) | (simp; omega)) _))) hb1⟩
theorem i_nextH {w : World} {cs : List Value} {p : DHeld} (h : tHeld.R w w.heap.size cs p) :
    Calls Try.prog 109 #[.agg cs.toArray] w fun e w' => e = .returned (.int .i64 p.1) ∧ Below w.heap.size w w' := by
  obtain ⟨A2, n2, c2, rfl, -, -, -, -, -, -⟩ := openHeld h
  go_enter Try.func109, Try.ntmps109
  go_wp2
  go_ret
  exact ⟨rfl, (by repeat (first | (with_reducible exact Below.refl _ _) | (with_reducible assumption) | (with_reducible refine bel_alloc ?_ _) | (with_reducible refine bel_drew ?_) | (with_reducible refine below_drewN ?_ _) | (with_reducible refine bel_put ?_ (by first | exact Nat.le_refl _ | (simp; done) | (simp; omega)) _)))⟩
theorem i_Nexts {w : World} {cs : List Value} {p : DPool} (h : tPool.R w w.heap.size cs p) (hz : szPool p ≤ 1048576) :
    Calls Try.prog 36 #[.agg cs.toArray] w fun e w' => ∃ A c F, e = .returned (.slice A (fNexts p).length c) ∧ tIs.O w' [.slice A (fNexts p).length c] (fNexts p) F ∧ New w.heap.size F ∧ Below w.heap.size w w' := by
  obtain ⟨A0, n0, c0, A1, n1, c1, rfl, -, -, -, hr0, -, -, -, hr1⟩ := openPool h
  by_cases hp : PlOk p
  · have HP := Lib.hid (decide_eq_true hp)
    have HH := Lib.hid (show ∀ a ∈ p.1, 0 ≤ a.1 ∧ a.1 < 8 from fun a ha => by have := hp.2.1 a ha; unfold HdOk HdN at this; omega)
    have hn0 : n0 ≤ 12 := by have := hp.1.1; have := (rowR_len hr0).1; omega
    obtain ⟨C, hC⟩ : ∃ C, fNexts p = C := ⟨_, rfl⟩
    have HC := Lib.hid (show cntF (fun a : DHeld => a.1) p.1 = C from by rw [← hC, fNexts_t hp]; rfl)
    have HCL := Lib.hid (show C.length = 8 from by rw [← HC.out]; exact cntF_len _ _)
    rw [hC]
    clear hp hC
    go_enter Try.func36, Try.ntmps36
    go_wp2_with fail
    refine (i_PoolOk (tPool.reach h ?hB) hz).mono ?_
    case hB => exact (by repeat (first | (with_reducible exact Below.refl _ _) | (with_reducible assumption) | (with_reducible refine bel_alloc ?_ _) | (with_reducible refine bel_drew ?_) | (with_reducible refine below_drewN ?_ _) | (with_reducible refine bel_put ?_ (by first | exact Nat.le_refl _ | (simp; done) | (simp; omega)) _)))
    rintro e w1 ⟨rfl, hb1⟩
    rw [HP.out]
    have X1 : Box w1 w.heap.size 26 #[.slice A0 n0 c0, .slice A1 n1 c1] := (Box.new _ _ _).below hb1 (by simp)
    have k0 : w1.cell? ⟨w.heap.size, 0, none⟩ = some (.slice A0 n0 c0) := X1.cell 0
    have hB1 : Below w.heap.size w w1 := bel_trans (by repeat (first | (with_reducible exact Below.refl _ _) | (with_reducible assumption) | (with_reducible refine bel_alloc ?_ _) | (with_reducible refine bel_drew ?_) | (with_reducible refine below_drewN ?_ _) | (with_reducible refine bel_put ?_ (by first | exact Nat.le_refl _ | (simp; done) | (simp; omega)) _))) hb1
    go_wp2_with fail
    refine (i_perNodeHeld 109 (fun a => a.1) (fun _ _ => rfl) (fun i a w' cs ha hBw hR => i_nextH hR) HH.out (tHeld.row.reach hr0 hB1) (by omega)).mono ?_
    rintro e w2 ⟨rfl, hO, hb2⟩
    rw [HC.out] at hO
    obtain ⟨A, c, F, ev, hO2, hN⟩ := own_slice hO
    go_wp2
    go_ret
    exact ⟨A, c, F, by first | rfl | (rw [ev]; done) | (rw [← ev]; done), hO2, hN.lower hB1.size, bel_trans hB1 hb2⟩
  · have HP := Lib.hid (decide_eq_false hp)
    rw [fNexts_f hp]
    clear hp
    go_enter Try.func36, Try.ntmps36
    go_wp2_with fail
    refine (i_PoolOk (tPool.reach h ?hB) hz).mono ?_
    case hB => exact (by repeat (first | (with_reducible exact Below.refl _ _) | (with_reducible assumption) | (with_reducible refine bel_alloc ?_ _) | (with_reducible refine bel_drew ?_) | (with_reducible refine below_drewN ?_ _) | (with_reducible refine bel_put ?_ (by first | exact Nat.le_refl _ | (simp; done) | (simp; omega)) _)))
    rintro e w1 ⟨rfl, hb1⟩
    rw [HP.out]
    go_wp2
    go_ret
    exact ⟨none, 0, [], rfl, nilO, New.nil _, bel_trans (by repeat (first | (with_reducible exact Below.refl _ _) | (with_reducible assumption) | (with_reducible refine bel_alloc ?_ _) | (with_reducible refine bel_drew ?_) | (with_reducible refine below_drewN ?_ _) | (with_reducible refine bel_put ?_ (by first | exact Nat.le_refl _ | (simp; done) | (simp; omega)) _))) hb1⟩
end Go.Proofs.Ytgepeppmhfnbeaa
