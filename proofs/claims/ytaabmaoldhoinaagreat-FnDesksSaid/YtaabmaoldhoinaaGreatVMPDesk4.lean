/-
  PDesk4: texts joined.
-/
import Derived.Test.YtaabmaoldhoinaaGreatVGi
namespace Go.Proofs.YtaabmaoldhoinaaGreat
set_option maxRecDepth 100000
set_option linter.unusedVariables false
set_option linter.unusedSimpArgs false
open Go.ChangeShapes Go.WideShapes Go.ChangeAt Go.RowKit
noncomputable def fDone (p : DDesk) (x : Int) : Bool := decide (DkOk p) && decide (x ∈ p.2)
theorem fDone_f {p : DDesk} {x : Int} (h : ¬ DkOk p) : fDone p x = false := by unfold fDone; rw [decide_eq_false h]; rfl
theorem fDone_t {p : DDesk} {x : Int} (h : DkOk p) : fDone p x = decide (x ∈ p.2) := by unfold fDone; rw [decide_eq_true h]; rfl
noncomputable def fOpen (p : DDesk) : List Int := if DkOk p then p.1.map fun a => a.1 else []
theorem fOpen_t {p : DDesk} (h : DkOk p) : fOpen p = p.1.map fun a => a.1 := if_pos h
theorem fOpen_f {p : DDesk} (h : ¬ DkOk p) : fOpen p = [] := if_neg h
def lk (a : DWhole) : Int := a.2.1 - (a.2.2.2.length : Int)
def lackL (l : List DWhole) : Int := l.foldl (fun n a => n + lk a) 0
theorem lackL_sn {l : List DWhole} {j : Nat} {a : DWhole} (h : l[j]? = some a) : lackL (l.take (j + 1)) = lackL (l.take j) + lk a := by
  rw [take_sn h]; unfold lackL; rw [List.foldl_append]; rfl
theorem wh_rg {a : DWhole} (h : WhN a) : 1 ≤ a.2.2.2.length ∧ (a.2.2.2.length : Int) < a.2.1 ∧ a.2.1 ≤ 8 := by
  obtain ⟨-, ⟨h1, h2⟩, h3, -⟩ := h
  refine ⟨h1, h2, ?_⟩
  have hm := List.getElem_mem (l := a.2.2.2) (n := 0) (by omega)
  obtain ⟨k1, -, k3⟩ := h3 _ hm
  unfold PcOk PcN at k1
  omega
theorem lackL_rg {l : List DWhole} (h : ∀ a ∈ l, WhN a) : 0 ≤ lackL l ∧ lackL l ≤ 8 * (l.length : Int) := by
  have : ∀ (l : List DWhole) (n : Int), (∀ a ∈ l, WhN a) → n ≤ l.foldl (fun n a => n + lk a) n ∧ l.foldl (fun n a => n + lk a) n ≤ n + 8 * (l.length : Int) := by
    intro l
    induction l with
    | nil => intro n _; simp
    | cons a l ih =>
      intro n hl
      have ha := wh_rg (hl a (by simp))
      have := ih (n + lk a) (fun x hx => hl x (by simp [hx]))
      rw [List.foldl_cons, List.length_cons]
      unfold lk at *
      omega
  have := this l 0 h
  unfold lackL
  omega
noncomputable def fLack (p : DDesk) : Int := if DkOk p then lackL p.1 else -1
theorem fLack_t {p : DDesk} (h : DkOk p) : fLack p = lackL p.1 := if_pos h
theorem fLack_f {p : DDesk} (h : ¬ DkOk p) : fLack p = -1 := if_neg h
theorem one_sl {w : World} {A : Option Addr} {n c : Nat} {l : List Int} (h : tIs.R w w.heap.size [.slice A n c] l) : Ints .i64 w w.heap.size A n l := (slR_ints h).1
theorem i_IsDone {w : World} {cs : List Value} {p : DDesk} {x : Int} (h : tDesk.R w w.heap.size cs p) (hz : szDesk p ≤ 1048576) (hx : (Lit.int .i64 x).wf = true) :
    Calls Tryz.prog 28 #[.agg cs.toArray, .int .i64 x] w fun e w' => e = .returned (.bool (fDone p x)) ∧ Below w.heap.size w w' := by
  obtain ⟨A0, n0, c0, A1, n1, c1, rfl, -, -, -, hr0, -, -, -, hr1⟩ := openDesk h
  have hl1 := one_sl hr1
  by_cases hp : DkOk p
  · have HP := Lib.hid (decide_eq_true hp)
    have hn1 : n1 ≤ 1048576 := by have := hl1.1; unfold szDesk at hz; omega
    rw [fDone_t hp]
    clear hp
    go_enter Tryz.func28, Tryz.ntmps28
    go_wp2_with fail
    refine (i_DeskOk (tDesk.reach h ?hB) hz).mono ?_
    case hB => exact (belx)
    rintro e w1 ⟨rfl, hb1⟩
    rw [HP.out]
    have X1 : Box w1 w.heap.size 33 #[.slice A0 n0 c0, .slice A1 n1 c1] := (Box.new _ _ _).below hb1 (by simp)
    have k0 : w1.cell? ⟨w.heap.size, 0, none⟩ = some (.slice A0 n0 c0) := X1.cell 0
    have k1 : w1.cell? ⟨w.heap.size, 1, none⟩ = some (.slice A1 n1 c1) := X1.cell 1
    have hB1 : Below w.heap.size w w1 := bel_trans (belx) hb1
    have z1 : w.heap.size + 1 ≤ w1.heap.size := by have := hb1.size; simpa using this
    go_wp2_with fail
    refine (i_ContainsI x (reach hl1 hB1) (by omega)).mono ?_
    rintro e w2 ⟨rfl, rfl⟩
    go_wp2
    go_ret
    exact ⟨rfl, hB1⟩
  · have HP := Lib.hid (decide_eq_false hp)
    rw [fDone_f hp]
    clear hp
    go_enter Tryz.func28, Tryz.ntmps28
    go_wp2_with fail
    refine (i_DeskOk (tDesk.reach h ?hB) hz).mono ?_
    case hB => exact (belx)
    rintro e w1 ⟨rfl, hb1⟩
    rw [HP.out]
    go_wp2
    go_ret
    exact ⟨rfl, bel_trans (belx) hb1⟩
theorem i_OpenIds {w : World} {cs : List Value} {p : DDesk} (h : tDesk.R w w.heap.size cs p) (hz : szDesk p ≤ 1048576) :
    Calls Tryz.prog 29 #[.agg cs.toArray] w fun e w' => ∃ A c F, e = .returned (.slice A (fOpen p).length c) ∧ tIs.O w' [.slice A (fOpen p).length c] (fOpen p) F ∧ New w.heap.size F ∧ Below w.heap.size w w' := by
  obtain ⟨A0, n0, c0, A1, n1, c1, rfl, -, -, -, hr0, -, -, -, hr1⟩ := openDesk h
  have hl1 := one_sl hr1
  by_cases hp : DkOk p
  · have HP := Lib.hid (decide_eq_true hp)
    have hn0 : n0 ≤ 6 := by have := hp.1; have := (rowR_len hr0).1; omega
    have HW := Lib.hid (whs_wf hr0)
    rw [fOpen_t hp]
    obtain ⟨ids, hids⟩ : ∃ L, (p.1.map fun a => a.1) = L := ⟨_, rfl⟩
    have HIDS := Lib.hid hids
    rw [hids]
    clear hp hids
    go_enter Tryz.func29, Tryz.ntmps29
    go_wp2_with fail
    refine (i_DeskOk (tDesk.reach h ?hB) hz).mono ?_
    case hB => exact (belx)
    rintro e w1 ⟨rfl, hb1⟩
    rw [HP.out]
    have X1 : Box w1 w.heap.size 33 #[.slice A0 n0 c0, .slice A1 n1 c1] := (Box.new _ _ _).below hb1 (by simp)
    have k0 : w1.cell? ⟨w.heap.size, 0, none⟩ = some (.slice A0 n0 c0) := X1.cell 0
    have k1 : w1.cell? ⟨w.heap.size, 1, none⟩ = some (.slice A1 n1 c1) := X1.cell 1
    have hB1 : Below w.heap.size w w1 := bel_trans (belx) hb1
    have z1 : w.heap.size + 1 ≤ w1.heap.size := by have := hb1.size; simpa using this
    go_wp2_with fail
    refine (i_eachWholeI 73 (fun a => a.1) (fun _ _ => rfl) (fun i a w' cs ha hBw hR => i_WhId hR) HW.out (tWhole.row.reach hr0 hB1) (by omega)).mono ?_
    rintro e w2 ⟨v, rfl, hO, hb2⟩
    rw [HIDS.out] at hO
    obtain ⟨A3, c3, F3, rfl, hO3, hN3⟩ := own_slice hO
    go_wp2
    go_ret
    exact ⟨A3, c3, F3, rfl, hO3, hN3.lower hB1.size, bel_trans hB1 hb2⟩
  · have HP := Lib.hid (decide_eq_false hp)
    rw [fOpen_f hp]
    clear hp
    go_enter Tryz.func29, Tryz.ntmps29
    go_wp2_with fail
    refine (i_DeskOk (tDesk.reach h ?hB) hz).mono ?_
    case hB => exact (belx)
    rintro e w1 ⟨rfl, hb1⟩
    rw [HP.out]
    go_wp2
    go_ret
    exact ⟨none, 0, [], rfl, nilO, New.nil _, bel_trans (belx) hb1⟩
set_option maxHeartbeats 1000000 in
theorem i_Lacking {w : World} {cs : List Value} {p : DDesk} (h : tDesk.R w w.heap.size cs p) (hz : szDesk p ≤ 1048576) :
    Calls Tryz.prog 33 #[.agg cs.toArray] w fun e w' => e = .returned (.int .i64 (fLack p)) ∧ Below w.heap.size w w' := by
  obtain ⟨A0, n0, c0, A1, n1, c1, rfl, -, -, -, hr0, -, -, -, hr1⟩ := openDesk h
  have hl1 := one_sl hr1
  by_cases hp : DkOk p
  · have HP := Lib.hid (decide_eq_true hp)
    obtain ⟨e0, _, _⟩ := rowR_len hr0
    have hn0 : n0 ≤ 6 := by have := hp.1; omega
    have E0 := Lib.hid e0
    have HWN := Lib.hid (show ∀ a ∈ p.1, WhN a from fun a ha => (hp.2.2.2.2 a ha).1)
    rw [fLack_t hp]
    obtain ⟨r0, l1⟩ := p
    dsimp only at *
    clear hp e0
    go_enter Tryz.func33, Tryz.ntmps33
    go_wp2_with fail
    refine (i_DeskOk (tDesk.reach h ?hB) hz).mono ?_
    case hB => exact (belx)
    rintro e w1 ⟨rfl, hb1⟩
    rw [HP.out]
    have X1 : Box w1 w.heap.size 33 #[.slice A0 n0 c0, .slice A1 n1 c1] := (Box.new _ _ _).below hb1 (by simp)
    have k0 : w1.cell? ⟨w.heap.size, 0, none⟩ = some (.slice A0 n0 c0) := X1.cell 0
    have k1 : w1.cell? ⟨w.heap.size, 1, none⟩ = some (.slice A1 n1 c1) := X1.cell 1
    have hB1 : Below w.heap.size w w1 := bel_trans (belx) hb1
    have z1 : w.heap.size + 1 ≤ w1.heap.size := by have := hb1.size; simpa using this
    clear hb1
    go_wp2_with fail
    go_loopw [3, 12] (fun v i wr => ∃ (j : Nat) (q : Int), j ≤ n0 ∧ i = .int .i64 j ∧ v = .int .i64 q ∧ lackL (r0.take j) = q ∧ Below w1.heap.size w1 wr) (fun _ i _ => n0 - (RowKit.intOf i).toNat)
    case atStart => exact ⟨0, 0, by omega, rfl, rfl, rfl, (belx)⟩
    case round =>
      obtain ⟨j, q, hj, rfl, rfl, hq, hB⟩ := hrel
      have hX := X1.below hB X1.size
      clear k0
      have k0 : wr.cell? ⟨w.heap.size, 0, none⟩ = some (.slice A0 n0 c0) := hX.cell 0
      have hB2 : Below w.heap.size w wr := bel_trans hB1 hB
      have rq := lackL_rg (l := r0.take j) (fun a ha => HWN.out a (List.mem_of_mem_take ha))
      have rl : (r0.take j).length ≤ 6 := by rw [List.length_take]; omega
      rw [hq] at rq
      have HQ := Lib.hid hq
      clear hq
      by_cases hlt : j < n0
      · obtain ⟨a, b', off, es, hl2, rfl, hb, hes, hR⟩ := rowR_at (K := 4) hr0 hlt rfl
        have HS := Lib.hid ((lackL_sn hl2).trans (by rw [HQ.out]))
        have ra := wh_rg (HWN.out a (alMem hl2))
        clear hl2
        obtain ⟨A2, n2, c2, rfl, -, -, -, -, -, hl3, -⟩ := openWhole hR
        rw [hl3] at ra
        have HLK := Lib.hid (show lk a = a.2.1 - (n2 : Int) from by unfold lk; rw [hl3])
        clear hl3
        have e0 : wr.cell? ⟨b', off + j * 4, none⟩ = some (.int .i64 a.1) := cell_at hB2 hb (hes 0 (by omega))
        have e1 : wr.cell? ⟨b', off + j * 4 + 1, none⟩ = some (.int .i64 a.2.1) := cell_at hB2 hb (hes 1 (by omega))
        have e2 : wr.cell? ⟨b', off + j * 4 + 2, none⟩ = some (.int .i64 a.2.2.1) := cell_at hB2 hb (hes 2 (by omega))
        have e3 : wr.cell? ⟨b', off + j * 4 + 3, none⟩ = some (.slice A2 n2 c2) := cell_at hB2 hb (hes 3 (by omega))
        clear hes hR
        obtain ⟨y, hy, hy2⟩ : ∃ y, IntKind.i64.wrap (a.2.1 - (n2 : Int)) = y ∧ y = a.2.1 - (n2 : Int) := ⟨_, rfl, IntWalk.i64_in _ (by omega)⟩
        rw [← hy2] at HLK
        have ry : 0 < y ∧ y ≤ 8 := by omega
        have i2 : IntKind.i64.wrap (q + y) = q + y := IntWalk.i64_in _ (by omega)
        clear hy2 ra
        go_wp2_with (go_at_call 51; refine (i_lacking _ _ _ _ _ _ y _ hy).mono ?_; rintro e w2 ⟨rfl, hb2⟩; have hB3 : Below w1.heap.size w1 w2 := bel_trans (a := w1) (w := wr) hB (bel_trans (belx) hb2))
        go_roundw
        case rel => exact ⟨j + 1, q + y, by omega, by go_num, rfl, by rw [HS.out, HLK.out], hB3⟩
        case measure => simp [RowKit.intOf]; omega
      · obtain rfl : n0 = j := by omega
        have HA := Lib.hid (show r0.take n0 = r0 from List.take_of_length_le (Nat.le_of_eq E0.out))
        rw [HA.out] at HQ
        go_wp2
        go_ret
        exact ⟨ret_int HQ.out.symm, hB2⟩
  · have HP := Lib.hid (decide_eq_false hp)
    rw [fLack_f hp]
    clear hp
    go_enter Tryz.func33, Tryz.ntmps33
    go_wp2_with fail
    refine (i_DeskOk (tDesk.reach h ?hB) hz).mono ?_
    case hB => exact (belx)
    rintro e w1 ⟨rfl, hb1⟩
    rw [HP.out]
    go_wp2
    go_ret
    exact ⟨rfl, bel_trans (belx) hb1⟩
end Go.Proofs.YtaabmaoldhoinaaGreat
