/-
  What a desk is asked: contracts of IsDone, OpenIds, Lacking, of both sides.
-/
import Derived.Test.YtgepeppmhfnbeabPDesk
namespace Go.Proofs.Ytgepeppmhfnbeab
set_option maxRecDepth 100000
set_option linter.unusedVariables false
set_option linter.unusedSimpArgs false
open Go.ChangeShapes Go.WideShapes Go.ChangeAt Go.RowKit
noncomputable def fDone (p : DDesk) (x : Int) : Bool := decide (DkOk p) && decide (x ∈ p.2)
theorem fDone_f {p : DDesk} {x : Int} (h : ¬ DkOk p) : fDone p x = false := by unfold fDone; rw [decide_eq_false h]; rfl
theorem fDone_t {p : DDesk} {x : Int} (h : DkOk p) : fDone p x = decide (x ∈ p.2) := by unfold fDone; rw [decide_eq_true h]; rfl
noncomputable def fOpen (p : DDesk) : List Int := if DkOk p then p.1.map fun a => a.1 else []
theorem fOpen_t {p : DDesk} (h : DkOk p) : fOpen p = p.1.map fun a => a.1 := if_pos h
theorem fOpen_f {p : DDesk} (h : ¬ DkOk p) : fOpen p = [] := if_neg h
theorem fOpen_le (p : DDesk) : (fOpen p).length ≤ 6 := by
  unfold fOpen
  split
  · rename_i h; rw [List.length_map]; exact h.1
  · simp
def lk (a : DWhole) : Int := a.2.1 - (a.2.2.2.length : Int)
def lackL (l : List DWhole) : Int := l.foldl (fun n a => n + lk a) 0
theorem lackL_sn {l : List DWhole} {j : Nat} {a : DWhole} (h : l[j]? = some a) : lackL (l.take (j + 1)) = lackL (l.take j) + lk a := by
  rw [take_sn h]; unfold lackL; rw [List.foldl_append]; rfl
theorem wh_rg {a : DWhole} (h : WhN a) : 1 ≤ a.2.2.2.length ∧ (a.2.2.2.length : Int) < a.2.1 ∧ a.2.1 ≤ 8 := by
  obtain ⟨-, ⟨h1, h2⟩, h3, -⟩ := h
  refine ⟨h1, h2, ?_⟩
  have hm := List.getElem_mem (l := a.2.2.2) (n := 0) (by omega)
  obtain ⟨k1, -, k3⟩ := h3 _ hm
  unfold PcOk PcN at k1
  omega
theorem lackL_rg {l : List DWhole} (h : ∀ a ∈ l, WhN a) : 0 ≤ lackL l ∧ lackL l ≤ 8 * (l.length : Int) := by
  have : ∀ (l : List DWhole) (n : Int), (∀ a ∈ l, WhN a) → n ≤ l.foldl (fun n a => n + lk a) n ∧ l.foldl (fun n a => n + lk a) n ≤ n + 8 * (l.length : Int) := by
    intro l
    induction l with
    | nil => intro n _; simp
    | cons a l ih =>
      intro n hl
      have ha := wh_rg (hl a (by simp))
      have := ih (n + lk a) (fun x hx => hl x (by simp [hx]))
      rw [List.foldl_cons, List.length_cons]
      unfold lk at *
      omega
  have := this l 0 h
  unfold lackL
  omega
noncomputable def fLack (p : DDesk) : Int := if DkOk p then lackL p.1 else -1
theorem fLack_t {p : DDesk} (h : DkOk p) : fLack p = lackL p.1 := if_pos h
theorem fLack_f {p : DDesk} (h : ¬ DkOk p) : fLack p = -1 := if_neg h
theorem one_sl {w : World} {A : Option Addr} {n c : Nat} {l : List Int} (h : tIs.R w w.heap.size [.slice A n c] l) : Ints .i64 w w.heap.size A n l := (slR_ints h).1
set_option maxHeartbeats 1000000 in
theorem s_OpenIds {w : World} {cs : List Value} {p : DDesk} (h : tDesk.R w w.heap.size cs p) (hz : szDesk p ≤ 1048576) :
    Calls Try.prog 10 #[.agg cs.toArray] w fun e w' => ∃ A c, e = .returned (.slice A (fOpen p).length c) ∧ tIs.R w' w'.heap.size [.slice A (fOpen p).length c] (fOpen p) ∧ Below w.heap.size w w' := by
  obtain ⟨A0, n0, c0, A1, n1, c1, rfl, -, -, -, hr0, -, -, -, hr1⟩ := openDesk h
  have hl1 := one_sl hr1
  by_cases hp : DkOk p
  · obtain ⟨i0, hi0, hz0, hz1, hz2⟩ := info_parts info_ci
    have HP := Lib.hid (decide_eq_true hp)
    obtain ⟨e0, _, _⟩ := rowR_len hr0
    have hn0 : n0 ≤ 6 := by have := hp.1; omega
    have E0 := Lib.hid e0
    have HW := Lib.hid (whs_wf hr0)
    rw [fOpen_t hp]
    obtain ⟨r0, l1⟩ := p
    dsimp only at *
    obtain ⟨ids, hids⟩ : ∃ L, (r0.map fun a => a.1) = L := ⟨_, rfl⟩
    have HIDS := Lib.hid hids
    rw [hids]
    clear hp e0 hids
    go_enter Try.func10, Try.ntmps10
    go_wp2_with fail
    refine (s_DeskOk (tDesk.reach h ?hB) hz).mono ?_
    case hB => exact (by repeat (first | (with_reducible exact Below.refl _ _) | (with_reducible assumption) | (with_reducible refine bel_alloc ?_ _) | (with_reducible refine bel_drew ?_) | (with_reducible refine below_drewN ?_ _) | (with_reducible refine bel_put ?_ (by first | exact Nat.le_refl _ | (simp; done) | (simp; omega)) _)))
    rintro e w1 ⟨rfl, hb1⟩
    rw [HP.out]
    have X1 : Box w1 w.heap.size 30 #[.slice A0 n0 c0, .slice A1 n1 c1] := (Box.new _ _ _).below hb1 (by simp)
    have k0 : w1.cell? ⟨w.heap.size, 0, none⟩ = some (.slice A0 n0 c0) := X1.cell 0
    have k1 : w1.cell? ⟨w.heap.size, 1, none⟩ = some (.slice A1 n1 c1) := X1.cell 1
    have hB1 : Below w.heap.size w w1 := bel_trans (by repeat (first | (with_reducible exact Below.refl _ _) | (with_reducible assumption) | (with_reducible refine bel_alloc ?_ _) | (with_reducible refine bel_drew ?_) | (with_reducible refine below_drewN ?_ _) | (with_reducible refine bel_put ?_ (by first | exact Nat.le_refl _ | (simp; done) | (simp; omega)) _))) hb1
    have z1 : w.heap.size + 1 ≤ w1.heap.size := by have := hb1.size; simpa using this
    clear hb1
    go_wp2_with fail
    go_loopw [3, 4] (fun v i wr => ∃ j : Nat, j ≤ n0 ∧ i = .int .i64 j ∧ Own .i64 3 wr w1.heap.size v ((r0.take j).map fun a => a.1) ∧ Below w1.heap.size w1 wr) (fun _ i _ => n0 - (intOf i).toNat)
    case atStart => exact ⟨0, by omega, rfl, Own.nil _ _ _ _, (by repeat (first | (with_reducible exact Below.refl _ _) | (with_reducible assumption) | (with_reducible refine bel_alloc ?_ _) | (with_reducible refine bel_drew ?_) | (with_reducible refine below_drewN ?_ _) | (with_reducible refine bel_put ?_ (by first | exact Nat.le_refl _ | (simp; done) | (simp; omega)) _)))⟩
    case round =>
      obtain ⟨j, hj, rfl, hO, hB⟩ := hrel
      have hX := X1.below hB X1.size
      clear k0
      have k0 : wr.cell? ⟨w.heap.size, 0, none⟩ = some (.slice A0 n0 c0) := hX.cell 0
      by_cases hlt : j < n0
      · obtain ⟨a, b', off, es, hl2, rfl, hb, hes, hR⟩ := rowR_at (K := 4) hr0 hlt rfl
        have HS := Lib.hid (mapS (f := fun a : DWhole => a.1) hl2)
        have HLN := Lib.hid (mapLen (f := fun a : DWhole => a.1) (l := r0) (j := j) (by rw [E0.out]; exact hj))
        have HI := Lib.hid (HW.out a (alMem hl2))
        clear hl2
        obtain ⟨A2, n2, c2, rfl, -, -, -, -, -, -, -⟩ := openWhole hR
        have e0 : wr.cell? ⟨b', off + j * 4, none⟩ = some (.int .i64 a.1) := cell_at (bel_trans hB1 hB) hb (hes 0 (by omega))
        clear hes hR
        obtain ⟨y, hy⟩ : ∃ y, a.1 = y := ⟨_, rfl⟩
        rw [hy] at e0 HI
        simp only [hy] at HS
        clear hy
        have zw := hB.size
        have hlen2 := HLN.out
        go_wp2_with (at_builtin; refine wpList_app _ rfl (.tmp 15) (.tmp 22) _ rfl w1.heap.size 3 i0 _ 1 8 Try.underlying23 hi0 hz0 hz1 hz2 rfl (by omega) _ _ _ rfl (hO.1.alloc _) _ 1 1 [.int .i64 y] rfl (Src.one _ _ _) (one_int _ _) (by simp only [maxLen]; omega) (by omega) (by simp; omega) ?_; intro v1 w3 hown hgr hat)
        go_roundw
        case rel => exact ⟨j + 1, by omega, by go_num, own_sn hO hown HS.out HI.out, below_sn hB hO (Nat.le_refl _) hgr⟩
        case measure => simp [intOf]; omega
      · obtain rfl : n0 = j := by omega
        have HA := Lib.hid (show r0.take n0 = r0 from List.take_of_length_le (Nat.le_of_eq E0.out))
        rw [HA.out, HIDS.out] at hO
        obtain ⟨A3, c3, F3, rfl, hO3, hN3⟩ := own_slice hO
        go_wp2
        go_ret
        exact ⟨A3, c3, rfl, tIs.read hO3, bel_trans hB1 hB⟩
  · have HP := Lib.hid (decide_eq_false hp)
    rw [fOpen_f hp]
    clear hp
    go_enter Try.func10, Try.ntmps10
    go_wp2_with fail
    refine (s_DeskOk (tDesk.reach h ?hB) hz).mono ?_
    case hB => exact (by repeat (first | (with_reducible exact Below.refl _ _) | (with_reducible assumption) | (with_reducible refine bel_alloc ?_ _) | (with_reducible refine bel_drew ?_) | (with_reducible refine below_drewN ?_ _) | (with_reducible refine bel_put ?_ (by first | exact Nat.le_refl _ | (simp; done) | (simp; omega)) _)))
    rintro e w1 ⟨rfl, hb1⟩
    rw [HP.out]
    go_wp2
    go_ret
    exact ⟨none, 0, rfl, nilR, bel_trans (by repeat (first | (with_reducible exact Below.refl _ _) | (with_reducible assumption) | (with_reducible refine bel_alloc ?_ _) | (with_reducible refine bel_drew ?_) | (with_reducible refine below_drewN ?_ _) | (with_reducible refine bel_put ?_ (by first | exact Nat.le_refl _ | (simp; done) | (simp; omega)) _))) hb1⟩
theorem i_OpenIds {w : World} {cs : List Value} {p : DDesk} (h : tDesk.R w w.heap.size cs p) (hz : szDesk p ≤ 1048576) :
    Calls Try.prog 12 #[.agg cs.toArray] w fun e w' => ∃ A c F, e = .returned (.slice A (fOpen p).length c) ∧ tIs.O w' [.slice A (fOpen p).length c] (fOpen p) F ∧ New w.heap.size F ∧ Below w.heap.size w w' := by
  obtain ⟨A0, n0, c0, A1, n1, c1, rfl, -, -, -, hr0, -, -, -, hr1⟩ := openDesk h
  have hl1 := one_sl hr1
  by_cases hp : DkOk p
  · have HP := Lib.hid (decide_eq_true hp)
    have hn0 : n0 ≤ 6 := by have := hp.1; have := (rowR_len hr0).1; omega
    have HW := Lib.hid (whs_wf hr0)
    rw [fOpen_t hp]
    obtain ⟨ids, hids⟩ : ∃ L, (p.1.map fun a => a.1) = L := ⟨_, rfl⟩
    have HIDS := Lib.hid hids
    rw [hids]
    clear hp hids
    go_enter Try.func12, Try.ntmps12
    go_wp2_with fail
    refine (i_DeskOk (tDesk.reach h ?hB) hz).mono ?_
    case hB => exact (by repeat (first | (with_reducible exact Below.refl _ _) | (with_reducible assumption) | (with_reducible refine bel_alloc ?_ _) | (with_reducible refine bel_drew ?_) | (with_reducible refine below_drewN ?_ _) | (with_reducible refine bel_put ?_ (by first | exact Nat.le_refl _ | (simp; done) | (simp; omega)) _)))
    rintro e w1 ⟨rfl, hb1⟩
    rw [HP.out]
    have X1 : Box w1 w.heap.size 30 #[.slice A0 n0 c0, .slice A1 n1 c1] := (Box.new _ _ _).below hb1 (by simp)
    have k0 : w1.cell? ⟨w.heap.size, 0, none⟩ = some (.slice A0 n0 c0) := X1.cell 0
    have k1 : w1.cell? ⟨w.heap.size, 1, none⟩ = some (.slice A1 n1 c1) := X1.cell 1
    have hB1 : Below w.heap.size w w1 := bel_trans (by repeat (first | (with_reducible exact Below.refl _ _) | (with_reducible assumption) | (with_reducible refine bel_alloc ?_ _) | (with_reducible refine bel_drew ?_) | (with_reducible refine below_drewN ?_ _) | (with_reducible refine bel_put ?_ (by first | exact Nat.le_refl _ | (simp; done) | (simp; omega)) _))) hb1
    have z1 : w.heap.size + 1 ≤ w1.heap.size := by have := hb1.size; simpa using this
    go_wp2_with fail
    refine (i_eachWholeI 45 (fun a => a.1) (fun _ _ => rfl) (fun i a w' cs ha hBw hR => i_WhId hR) HW.out (tWhole.row.reach hr0 hB1) (by omega)).mono ?_
    rintro e w2 ⟨v, rfl, hO, hb2⟩
    rw [HIDS.out] at hO
    obtain ⟨A3, c3, F3, rfl, hO3, hN3⟩ := own_slice hO
    go_wp2
    go_ret
    exact ⟨A3, c3, F3, rfl, hO3, hN3.lower hB1.size, bel_trans hB1 hb2⟩
  · have HP := Lib.hid (decide_eq_false hp)
    rw [fOpen_f hp]
    clear hp
    go_enter Try.func12, Try.ntmps12
    go_wp2_with fail
    refine (i_DeskOk (tDesk.reach h ?hB) hz).mono ?_
    case hB => exact (by repeat (first | (with_reducible exact Below.refl _ _) | (with_reducible assumption) | (with_reducible refine bel_alloc ?_ _) | (with_reducible refine bel_drew ?_) | (with_reducible refine below_drewN ?_ _) | (with_reducible refine bel_put ?_ (by first | exact Nat.le_refl _ | (simp; done) | (simp; omega)) _)))
    rintro e w1 ⟨rfl, hb1⟩
    rw [HP.out]
    go_wp2
    go_ret
    exact ⟨none, 0, [], rfl, nilO, New.nil _, bel_trans (by repeat (first | (with_reducible exact Below.refl _ _) | (with_reducible assumption) | (with_reducible refine bel_alloc ?_ _) | (with_reducible refine bel_drew ?_) | (with_reducible refine below_drewN ?_ _) | (with_reducible refine bel_put ?_ (by first | exact Nat.le_refl _ | (simp; done) | (simp; omega)) _))) hb1⟩
set_option maxHeartbeats 1000000 in
theorem s_Lacking {w : World} {cs : List Value} {p : DDesk} (h : tDesk.R w w.heap.size cs p) (hz : szDesk p ≤ 1048576) :
    Calls Try.prog 18 #[.agg cs.toArray] w fun e w' => e = .returned (.int .i64 (fLack p)) ∧ Below w.heap.size w w' := by
  obtain ⟨A0, n0, c0, A1, n1, c1, rfl, -, -, -, hr0, -, -, -, hr1⟩ := openDesk h
  have hl1 := one_sl hr1
  by_cases hp : DkOk p
  · have HP := Lib.hid (decide_eq_true hp)
    obtain ⟨e0, _, _⟩ := rowR_len hr0
    have hn0 : n0 ≤ 6 := by have := hp.1; omega
    have E0 := Lib.hid e0
    have HWN := Lib.hid (show ∀ a ∈ p.1, WhN a from fun a ha => (hp.2.2.2.2 a ha).1)
    rw [fLack_t hp]
    obtain ⟨r0, l1⟩ := p
    dsimp only at *
    clear hp e0
    go_enter Try.func18, Try.ntmps18
    go_wp2_with fail
    refine (s_DeskOk (tDesk.reach h ?hB) hz).mono ?_
    case hB => exact (by repeat (first | (with_reducible exact Below.refl _ _) | (with_reducible assumption) | (with_reducible refine bel_alloc ?_ _) | (with_reducible refine bel_drew ?_) | (with_reducible refine below_drewN ?_ _) | (with_reducible refine bel_put ?_ (by first | exact Nat.le_refl _ | (simp; done) | (simp; omega)) _)))
    rintro e w1 ⟨rfl, hb1⟩
    rw [HP.out]
    have X1 : Box w1 w.heap.size 30 #[.slice A0 n0 c0, .slice A1 n1 c1] := (Box.new _ _ _).below hb1 (by simp)
    have k0 : w1.cell? ⟨w.heap.size, 0, none⟩ = some (.slice A0 n0 c0) := X1.cell 0
    have k1 : w1.cell? ⟨w.heap.size, 1, none⟩ = some (.slice A1 n1 c1) := X1.cell 1
    have hB1 : Below w.heap.size w w1 := bel_trans (by repeat (first | (with_reducible exact Below.refl _ _) | (with_reducible assumption) | (with_reducible refine bel_alloc ?_ _) | (with_reducible refine bel_drew ?_) | (with_reducible refine below_drewN ?_ _) | (with_reducible refine bel_put ?_ (by first | exact Nat.le_refl _ | (simp; done) | (simp; omega)) _))) hb1
    have z1 : w.heap.size + 1 ≤ w1.heap.size := by have := hb1.size; simpa using this
    clear hb1
    go_wp2_with fail
    go_loopw [3, 4] (fun v i wr => ∃ (j : Nat) (q : Int), j ≤ n0 ∧ i = .int .i64 j ∧ v = .int .i64 q ∧ lackL (r0.take j) = q ∧ Below w1.heap.size w1 wr) (fun _ i _ => n0 - (intOf i).toNat)
    case atStart => exact ⟨0, 0, by omega, rfl, rfl, rfl, (by repeat (first | (with_reducible exact Below.refl _ _) | (with_reducible assumption) | (with_reducible refine bel_alloc ?_ _) | (with_reducible refine bel_drew ?_) | (with_reducible refine below_drewN ?_ _) | (with_reducible refine bel_put ?_ (by first | exact Nat.le_refl _ | (simp; done) | (simp; omega)) _)))⟩
    case round =>
      obtain ⟨j, q, hj, rfl, rfl, hq, hB⟩ := hrel
      have hX := X1.below hB X1.size
      clear k0
      have k0 : wr.cell? ⟨w.heap.size, 0, none⟩ = some (.slice A0 n0 c0) := hX.cell 0
      have hB2 : Below w.heap.size w wr := bel_trans hB1 hB
      have rq := lackL_rg (l := r0.take j) (fun a ha => HWN.out a (List.mem_of_mem_take ha))
      have rl : (r0.take j).length ≤ 6 := by rw [List.length_take]; omega
      rw [hq] at rq
      have HQ := Lib.hid hq
      clear hq
      by_cases hlt : j < n0
      · obtain ⟨a, b', off, es, hl2, rfl, hb, hes, hR⟩ := rowR_at (K := 4) hr0 hlt rfl
        have HS := Lib.hid ((lackL_sn hl2).trans (by rw [HQ.out]))
        have ra := wh_rg (HWN.out a (alMem hl2))
        clear hl2
        obtain ⟨A2, n2, c2, rfl, -, -, -, -, -, hl3, -⟩ := openWhole hR
        rw [hl3] at ra
        have HLK := Lib.hid (show lk a = a.2.1 - (n2 : Int) from by unfold lk; rw [hl3])
        clear hl3
        have e1 : wr.cell? ⟨b', off + j * 4 + 1, none⟩ = some (.int .i64 a.2.1) := cell_at hB2 hb (hes 1 (by omega))
        have e3 : wr.cell? ⟨b', off + j * 4 + 3, none⟩ = some (.slice A2 n2 c2) := cell_at hB2 hb (hes 3 (by omega))
        clear hes hR
        obtain ⟨t, ht⟩ : ∃ t, a.2.1 = t := ⟨_, rfl⟩
        rw [ht] at e1 ra HLK
        clear ht
        have i1 : IntKind.i64.wrap (q + t) = q + t := IntWalk.i64_in _ (by omega)
        have i2 : IntKind.i64.wrap (q + t - (n2 : Int)) = q + t - (n2 : Int) := IntWalk.i64_in _ (by omega)
        have j1 : (j : Int) < (n0 : Int) := by omega
        go_wp2_with fail
        go_quiet (fail)
        go_wp2
        go_roundw
        case rel => exact ⟨j + 1, q + t - (n2 : Int), by omega, by go_num, rfl, by rw [HS.out, HLK.out]; omega, below_drewN hB _⟩
        case measure => simp [intOf]; omega
      · obtain rfl : n0 = j := by omega
        have HA := Lib.hid (show r0.take n0 = r0 from List.take_of_length_le (Nat.le_of_eq E0.out))
        rw [HA.out] at HQ
        go_wp2
        go_ret
        exact ⟨ret_int HQ.out.symm, hB2⟩
  · have HP := Lib.hid (decide_eq_false hp)
    rw [fLack_f hp]
    clear hp
    go_enter Try.func18, Try.ntmps18
    go_wp2_with fail
    refine (s_DeskOk (tDesk.reach h ?hB) hz).mono ?_
    case hB => exact (by repeat (first | (with_reducible exact Below.refl _ _) | (with_reducible assumption) | (with_reducible refine bel_alloc ?_ _) | (with_reducible refine bel_drew ?_) | (with_reducible refine below_drewN ?_ _) | (with_reducible refine bel_put ?_ (by first | exact Nat.le_refl _ | (simp; done) | (simp; omega)) _)))
    rintro e w1 ⟨rfl, hb1⟩
    rw [HP.out]
    go_wp2
    go_ret
    exact ⟨rfl, bel_trans (by repeat (first | (with_reducible exact Below.refl _ _) | (with_reducible assumption) | (with_reducible refine bel_alloc ?_ _) | (with_reducible refine bel_drew ?_) | (with_reducible refine below_drewN ?_ _) | (with_reducible refine bel_put ?_ (by first | exact Nat.le_refl _ | (simp; done) | (simp; omega)) _))) hb1⟩
set_option maxHeartbeats 1000000 in
theorem i_Lacking {w : World} {cs : List Value} {p : DDesk} (h : tDesk.R w w.heap.size cs p) (hz : szDesk p ≤ 1048576) :
    Calls Try.prog 19 #[.agg cs.toArray] w fun e w' => e = .returned (.int .i64 (fLack p)) ∧ Below w.heap.size w w' := by
  obtain ⟨A0, n0, c0, A1, n1, c1, rfl, -, -, -, hr0, -, -, -, hr1⟩ := openDesk h
  have hl1 := one_sl hr1
  by_cases hp : DkOk p
  · have HP := Lib.hid (decide_eq_true hp)
    obtain ⟨e0, _, _⟩ := rowR_len hr0
    have hn0 : n0 ≤ 6 := by have := hp.1; omega
    have E0 := Lib.hid e0
    have HWN := Lib.hid (show ∀ a ∈ p.1, WhN a from fun a ha => (hp.2.2.2.2 a ha).1)
    rw [fLack_t hp]
    obtain ⟨r0, l1⟩ := p
    dsimp only at *
    clear hp e0
    go_enter Try.func19, Try.ntmps19
    go_wp2_with fail
    refine (i_DeskOk (tDesk.reach h ?hB) hz).mono ?_
    case hB => exact (by repeat (first | (with_reducible exact Below.refl _ _) | (with_reducible assumption) | (with_reducible refine bel_alloc ?_ _) | (with_reducible refine bel_drew ?_) | (with_reducible refine below_drewN ?_ _) | (with_reducible refine bel_put ?_ (by first | exact Nat.le_refl _ | (simp; done) | (simp; omega)) _)))
    rintro e w1 ⟨rfl, hb1⟩
    rw [HP.out]
    have X1 : Box w1 w.heap.size 30 #[.slice A0 n0 c0, .slice A1 n1 c1] := (Box.new _ _ _).below hb1 (by simp)
    have k0 : w1.cell? ⟨w.heap.size, 0, none⟩ = some (.slice A0 n0 c0) := X1.cell 0
    have k1 : w1.cell? ⟨w.heap.size, 1, none⟩ = some (.slice A1 n1 c1) := X1.cell 1
    have hB1 : Below w.heap.size w w1 := bel_trans (by repeat (first | (with_reducible exact Below.refl _ _) | (with_reducible assumption) | (with_reducible refine bel_alloc ?_ _) | (with_reducible refine bel_drew ?_) | (with_reducible refine below_drewN ?_ _) | (with_reducible refine bel_put ?_ (by first | exact Nat.le_refl _ | (simp; done) | (simp; omega)) _))) hb1
    have z1 : w.heap.size + 1 ≤ w1.heap.size := by have := hb1.size; simpa using this
    clear hb1
    go_wp2_with fail
    go_loopw [3, 12] (fun v i wr => ∃ (j : Nat) (q : Int), j ≤ n0 ∧ i = .int .i64 j ∧ v = .int .i64 q ∧ lackL (r0.take j) = q ∧ Below w1.heap.size w1 wr) (fun _ i _ => n0 - (intOf i).toNat)
    case atStart => exact ⟨0, 0, by omega, rfl, rfl, rfl, (by repeat (first | (with_reducible exact Below.refl _ _) | (with_reducible assumption) | (with_reducible refine bel_alloc ?_ _) | (with_reducible refine bel_drew ?_) | (with_reducible refine below_drewN ?_ _) | (with_reducible refine bel_put ?_ (by first | exact Nat.le_refl _ | (simp; done) | (simp; omega)) _)))⟩
    case round =>
      obtain ⟨j, q, hj, rfl, rfl, hq, hB⟩ := hrel
      have hX := X1.below hB X1.size
      clear k0
      have k0 : wr.cell? ⟨w.heap.size, 0, none⟩ = some (.slice A0 n0 c0) := hX.cell 0
      have hB2 : Below w.heap.size w wr := bel_trans hB1 hB
      have rq := lackL_rg (l := r0.take j) (fun a ha => HWN.out a (List.mem_of_mem_take ha))
      have rl : (r0.take j).length ≤ 6 := by rw [List.length_take]; omega
      rw [hq] at rq
      have HQ := Lib.hid hq
      clear hq
      by_cases hlt : j < n0
      · obtain ⟨a, b', off, es, hl2, rfl, hb, hes, hR⟩ := rowR_at (K := 4) hr0 hlt rfl
        have HS := Lib.hid ((lackL_sn hl2).trans (by rw [HQ.out]))
        have ra := wh_rg (HWN.out a (alMem hl2))
        clear hl2
        obtain ⟨A2, n2, c2, rfl, -, -, -, -, -, hl3, -⟩ := openWhole hR
        rw [hl3] at ra
        have HLK := Lib.hid (show lk a = a.2.1 - (n2 : Int) from by unfold lk; rw [hl3])
        clear hl3
        have e0 : wr.cell? ⟨b', off + j * 4, none⟩ = some (.int .i64 a.1) := cell_at hB2 hb (hes 0 (by omega))
        have e1 : wr.cell? ⟨b', off + j * 4 + 1, none⟩ = some (.int .i64 a.2.1) := cell_at hB2 hb (hes 1 (by omega))
        have e2 : wr.cell? ⟨b', off + j * 4 + 2, none⟩ = some (.int .i64 a.2.2.1) := cell_at hB2 hb (hes 2 (by omega))
        have e3 : wr.cell? ⟨b', off + j * 4 + 3, none⟩ = some (.slice A2 n2 c2) := cell_at hB2 hb (hes 3 (by omega))
        clear hes hR
        obtain ⟨y, hy, hy2⟩ : ∃ y, IntKind.i64.wrap (a.2.1 - (n2 : Int)) = y ∧ y = a.2.1 - (n2 : Int) := ⟨_, rfl, IntWalk.i64_in _ (by omega)⟩
        rw [← hy2] at HLK
        have ry : 0 < y ∧ y ≤ 8 := by omega
        have i2 : IntKind.i64.wrap (q + y) = q + y := IntWalk.i64_in _ (by omega)
        clear hy2 ra
        go_wp2_with (go_at_call 48; refine (i_lacking _ _ _ _ _ _ y _ hy).mono ?_; rintro e w2 ⟨rfl, hb2⟩; have hB3 : Below w1.heap.size w1 w2 := bel_trans (a := w1) (w := wr) hB (bel_trans (by repeat (first | (with_reducible exact Below.refl _ _) | (with_reducible assumption) | (with_reducible refine bel_alloc ?_ _) | (with_reducible refine bel_drew ?_) | (with_reducible refine below_drewN ?_ _) | (with_reducible refine bel_put ?_ (by first | exact Nat.le_refl _ | (simp; done) | (simp; omega)) _))) hb2))
        go_roundw
        case rel => exact ⟨j + 1, q + y, by omega, by go_num, rfl, by rw [HS.out, HLK.out], hB3⟩
        case measure => simp [intOf]; omega
      · obtain rfl : n0 = j := by omega
        have HA := Lib.hid (show r0.take n0 = r0 from List.take_of_length_le (Nat.le_of_eq E0.out))
        rw [HA.out] at HQ
        go_wp2
        go_ret
        exact ⟨ret_int HQ.out.symm, hB2⟩
  · have HP := Lib.hid (decide_eq_false hp)
    rw [fLack_f hp]
    clear hp
    go_enter Try.func19, Try.ntmps19
    go_wp2_with fail
    refine (i_DeskOk (tDesk.reach h ?hB) hz).mono ?_
    case hB => exact (by repeat (first | (with_reducible exact Below.refl _ _) | (with_reducible assumption) | (with_reducible refine bel_alloc ?_ _) | (with_reducible refine bel_drew ?_) | (with_reducible refine below_drewN ?_ _) | (with_reducible refine bel_put ?_ (by first | exact Nat.le_refl _ | (simp; done) | (simp; omega)) _)))
    rintro e w1 ⟨rfl, hb1⟩
    rw [HP.out]
    go_wp2
    go_ret
    exact ⟨rfl, bel_trans (by repeat (first | (with_reducible exact Below.refl _ _) | (with_reducible assumption) | (with_reducible refine bel_alloc ?_ _) | (with_reducible refine bel_drew ?_) | (with_reducible refine below_drewN ?_ _) | (with_reducible refine bel_put ?_ (by first | exact Nat.le_refl _ | (simp; done) | (simp; omega)) _))) hb1⟩
end Go.Proofs.Ytgepeppmhfnbeab
