/-
  PHasI: texts joined.
-/
import Derived.Test.YtaabmaoldhoinaaGreatVGa
import Derived.Test.YtaabmaoldhoinaaGreatVGi
import Derived.Test.YtaabmaoldhoinaaGreatVMBeq
import Derived.Test.YtaabmaoldhoinaaGreatVMPHasP
namespace Go.Proofs.YtaabmaoldhoinaaGreat
set_option maxRecDepth 100000
set_option linter.unusedVariables false
set_option linter.unusedSimpArgs false
open Go.ChangeShapes Go.WideShapes Go.ChangeAt Go.RowKit
open Fld

set_option maxHeartbeats 1000000 in
theorem i_PcEqC {w : World} {x y z x' y' z' : Int} {A A' : Option Addr} {n c n' c' : Nat} {l l' : List Int} (hI : Ints .u8 w w.heap.size A n l) (hJ : Ints .u8 w w.heap.size A' n' l') :
    Calls Tryz.prog 79 #[.agg #[.int .i64 x, .int .i64 y, .int .i64 z, .slice A n c], .agg #[.int .i64 x', .int .i64 y', .int .i64 z', .slice A' n' c']] w fun e w' => e = .returned (.bool (decide ((x, y, z, l) = (x', y', z', l')))) ∧ Below w.heap.size w w' := by
  by_cases g0 : x = x'
  rotate_left
  · have HR := Lib.hid (show decide ((x, y, z, l) = (x', y', z', l')) = false from decide_eq_false fun h => g0 (congrArg Prod.fst h))
    have q : (x == x') = false := by simpa using g0
    rw [HR.out]
    clear g0
    go_enter Tryz.func79, Tryz.ntmps79
    go_wp2
    go_ret
    exact ⟨rfl, (belx)⟩
  subst g0
  by_cases g1 : y = y'
  rotate_left
  · have HR := Lib.hid (show decide ((x, y, z, l) = (x, y', z', l')) = false from decide_eq_false fun h => g1 (congrArg (fun s => s.2.1) h))
    have q : (y == y') = false := by simpa using g1
    rw [HR.out]
    clear g1
    go_enter Tryz.func79, Tryz.ntmps79
    go_wp2
    go_ret
    exact ⟨rfl, (belx)⟩
  subst g1
  by_cases g2 : z = z'
  rotate_left
  · have HR := Lib.hid (show decide ((x, y, z, l) = (x, y, z', l')) = false from decide_eq_false fun h => g2 (congrArg (fun s => s.2.2.1) h))
    have q : (z == z') = false := by simpa using g2
    rw [HR.out]
    clear g2
    go_enter Tryz.func79, Tryz.ntmps79
    go_wp2
    go_ret
    exact ⟨rfl, (belx)⟩
  subst g2
  have HR := Lib.hid (show decide ((x, y, z, l) = (x, y, z, l')) = decide (l = l') by congr 1; simp)
  rw [HR.out]
  go_enter Tryz.func79, Tryz.ntmps79
  go_wp2_with fail
  refine (i_bytesEqualQ (reach hI ?hB) (reach hJ ?hB2)).mono ?_
  case hB => exact (belx)
  case hB2 => exact (belx)
  rintro e w' ⟨rfl, rfl⟩
  go_wp2
  go_ret
  exact ⟨rfl, (belx)⟩
theorem i_PcEq {w : World} {cs cs' : List Value} {p q : DPiece} (h : tPiece.R w w.heap.size cs p) (h' : tPiece.R w w.heap.size cs' q) :
    Calls Tryz.prog 79 #[.agg cs.toArray, .agg cs'.toArray] w fun e w' => e = .returned (.bool (decide (p = q))) ∧ Below w.heap.size w w' := by
  obtain ⟨A2, n2, c2, rfl, -, -, -, -, -, -, hA⟩ := openPiece h
  obtain ⟨B2, m2, d2, rfl, -, -, -, -, -, -, hB⟩ := openPiece h'
  exact i_PcEqC (slR_ints hA).1 (slR_ints hB).1
set_option maxHeartbeats 1000000 in
theorem i_idxPieceB {w : World} {n c : Nat} {A : Option Addr} {l : List DPiece} (F : Nat) (V : Value) (p : DPiece → Bool) (hE : ∀ (cs : Array Value) (w : World), Sem.run Tryz.prog (callFunc F #[V, Value.agg cs]) w = .ok (.enter F #[V, Value.agg cs]) w)
    (hF : ∀ (i : Nat) (a : DPiece) (w' : World) (cs : List Value), l[i]? = some a → Below w.heap.size w w' → tPiece.R w' w'.heap.size cs a → Calls Tryz.prog F #[V, .agg cs.toArray] w' fun e w2 => e = .returned (.bool (p a)) ∧ Below w'.heap.size w' w2)
    (hl : tPiece.row.R w w.heap.size [.slice A n c] l) (hn : n ≤ 1048576) :
    Calls Tryz.prog 109 #[.slice A n c, .func (.func F) #[V] #[]] w fun e w' => ∃ k : Int, e = .returned (.int .i64 k) ∧ l.any p = decide (0 ≤ k) ∧ Below w.heap.size w w' := by
  obtain ⟨e0, _, _⟩ := rowR_len hl
  have HL := Lib.hid e0
  have HF := Lib.hid hF
  have HE := Lib.hid hE
  clear e0 hF hE
  go_enter Tryz.func109, Tryz.ntmps109
  go_wp2_with fail
  go_loopw [8] (fun i wr => ∃ j : Nat, j ≤ n ∧ i = .int .i64 j ∧ Below w.heap.size w wr ∧ ∀ h ∈ l.take j, p h = false) (fun i _ => n - ixOf i)
  case atStart => exact ⟨0, by omega, rfl, (belx), al0⟩
  case round =>
    obtain ⟨j, hj, rfl, hB, hG⟩ := hrel
    have HG := Lib.hid hG
    clear hG
    by_cases hlt : j < n
    · obtain ⟨a, b', off, es, hl2, rfl, hb, hes, hR⟩ := rowR_at (K := 4) hl hlt rfl
      have HA := Lib.hid hl2
      clear hl2
      have hRk := hR
      obtain ⟨A2, n2, c2, rfl, -⟩ := openPiece hR
      have e0 : wr.cell? ⟨b', off + j * 4, none⟩ = some (.int .i64 a.1) := cell_at hB hb (hes 0 (by omega))
      have e1 : wr.cell? ⟨b', off + j * 4 + 1, none⟩ = some (.int .i64 a.2.1) := cell_at hB hb (hes 1 (by omega))
      have e2 : wr.cell? ⟨b', off + j * 4 + 2, none⟩ = some (.int .i64 a.2.2.1) := cell_at hB hb (hes 2 (by omega))
      have e3 : wr.cell? ⟨b', off + j * 4 + 3, none⟩ = some (.slice A2 n2 c2) := cell_at hB hb (hes 3 (by omega))
      have i1 : (j : Int) < (n : Int) := by omega
      clear hes
      go_wp2_with fail
      rw [HE.out, Oper.upon_enter]
      refine (HF.out j a _ _ HA.out ?hB (tPiece.reach hRk ?hB2)).mono ?_
      case hB => exact bel_trans (a := w) hB (belx)
      case hB2 => exact bel_trans (a := w) hB (belx)
      rintro e w1 ⟨rfl, hb1⟩
      have hB1 : Below w.heap.size w w1 := bel_trans (bel_trans (a := w) hB (belx)) hb1
      obtain ⟨d, hd⟩ : ∃ d, p a = d := ⟨_, rfl⟩
      rw [hd]
      have HD := Lib.hid hd
      clear hd
      cases d
      · go_wp2
        go_roundw
        case rel => exact ⟨j + 1, by omega, by go_num, hB1, alS HG.out HA.out HD.out⟩
        case measure => simp [ixOf]; omega
      · have HR := Lib.hid (show l.any p = true from List.any_eq_true.2 ⟨a, alMem HA.out, HD.out⟩)
        go_wp2
        go_ret
        exact ⟨_, rfl, by rw [HR.out]; simp, hB1⟩
    · obtain rfl : n = j := by omega
      have HR := Lib.hid (show l.any p = false from List.any_eq_false.2 fun x hx => by rw [alE HG.out (Nat.le_of_eq HL.out) x hx]; simp)
      go_wp2
      go_ret
      exact ⟨_, rfl, by rw [HR.out]; simp, hB⟩
theorem i_conPieceB {w : World} {n c : Nat} {A : Option Addr} {l : List DPiece} (F : Nat) (V : Value) (p : DPiece → Bool) (hE : ∀ (cs : Array Value) (w : World), Sem.run Tryz.prog (callFunc F #[V, Value.agg cs]) w = .ok (.enter F #[V, Value.agg cs]) w)
    (hF : ∀ (i : Nat) (a : DPiece) (w' : World) (cs : List Value), l[i]? = some a → Below w.heap.size w w' → tPiece.R w' w'.heap.size cs a → Calls Tryz.prog F #[V, .agg cs.toArray] w' fun e w2 => e = .returned (.bool (p a)) ∧ Below w'.heap.size w' w2)
    (hl : tPiece.row.R w w.heap.size [.slice A n c] l) (hn : n ≤ 1048576) :
    Calls Tryz.prog 78 #[.slice A n c, .func (.func F) #[V] #[]] w fun e w' => e = .returned (.bool (l.any p)) ∧ Below w.heap.size w w' := by
  have HF := Lib.hid hF
  have HE := Lib.hid hE
  clear hF hE
  go_enter Tryz.func78, Tryz.ntmps78
  go_wp2_with fail
  refine (i_idxPieceB F V p HE.out HF.out hl hn).mono ?_
  rintro e w1 ⟨k, rfl, hk, hb1⟩
  have HK := Lib.hid hk
  clear hk
  go_wp2
  go_ret
  exact ⟨ret_bool HK.out.symm, hb1⟩
/-- What the map gives: the pieces of the message, or none. -/
theorem hasGot {w1 w2 : World} {p : DDesk} {q : DPiece} {v : Value} (hd : DkOk p) (hv : (∃ a es, a ∈ p.1 ∧ a.1 = q.1 ∧ v = .agg (List.toArray es) ∧ tWhole.R w2 w1.heap.size es a) ∨ ((∀ a ∈ p.1, a.1 ≠ q.1) ∧ v = .agg #[.int .i64 0, .int .i64 0, .int .i64 0, .slice none 0 0])) (hs : w1.heap.size ≤ w2.heap.size) :
    ∃ z0 z1 z2 A2 n2 c2 G, v = .agg #[.int .i64 z0, .int .i64 z1, .int .i64 z2, .slice A2 n2 c2] ∧ tPiece.row.R w2 w2.heap.size [.slice A2 n2 c2] G ∧ n2 ≤ 8 ∧ fHas p q = G.any (fun x => decide (q = x)) := by
  rcases hv with ⟨a, es, ha, hid, rfl, hR⟩ | ⟨hno, rfl⟩
  · have h8 := dk_wh hd ha
    have e1 := fHas_one hd ha hid
    obtain ⟨A2, n2, c2, rfl, -, -, -, -, -, hl2, h2⟩ := openWhole hR
    exact ⟨_, _, _, A2, n2, c2, a.2.2.2, rfl, tPiece.row.up h2 hs, by omega, e1⟩
  · exact ⟨0, 0, 0, none, 0, 0, [], rfl, ⟨none, 0, 0, rfl, Nat.le_refl _, by omega, rfl, fun h => absurd h (by omega)⟩, by omega, fHas_none hno⟩
set_option maxHeartbeats 4000000 in
theorem i_Has {w : World} {cs ch : List Value} {p : DDesk} {q : DPiece} (h : tDesk.R w w.heap.size cs p) (hz : szDesk p ≤ 1048576) (hq : tPiece.R w w.heap.size ch q) (hz2 : szPiece q ≤ 1048576) :
    Calls Tryz.prog 27 #[.agg cs.toArray, .agg ch.toArray] w fun e w' => e = .returned (.bool (fHas p q)) ∧ Below w.heap.size w w' := by
  have hmf : ∀ (fn : Fn) (first cap : Array Value) (w : World), (Instr.makeFunc fn first cap).run Tryz.prog w = .ok (.func fn first cap) w := fun _ _ _ _ => rfl
  have hfd : ∀ (u0 u1 u2 u3 : Value) (w : World), (Instr.field 53 (.agg #[u0, u1, u2, u3]) 3).run Tryz.prog w = .ok u3 w := fun _ _ _ _ _ => by first | rfl | kernel_rfl
  obtain ⟨A0, n0, c0, A1, n1, c1, rfl, -, -, -, hr0, -, -, -, hr1⟩ := openDesk h
  have hq' := hq
  obtain ⟨A7, n7, c7, rfl, hy0, -⟩ := openPiece hq'
  clear hq'
  by_cases hp : DkOk p
  · have HP := Lib.hid (decide_eq_true hp)
    have HDK := Lib.hid hp
    have hn0 : n0 ≤ 6 := by have := hp.1; have := (rowR_len hr0).1; omega
    have HAP := Lib.hid (dk_apart hp)
    have HWF := Lib.hid (whs_wf hr0)
    clear hp
    obtain ⟨y0, hy⟩ : ∃ y, q.1 = y := ⟨_, rfl⟩
    obtain ⟨y1, hy1⟩ : ∃ y, q.2.1 = y := ⟨_, rfl⟩
    obtain ⟨y2, hy2⟩ : ∃ y, q.2.2.1 = y := ⟨_, rfl⟩
    rw [hy, hy1, hy2] at hq ⊢
    rw [hy] at hy0
    have HY := Lib.hid hy
    clear hy hy1 hy2
    obtain ⟨X0, hk⟩ : ∃ _x : True, ∀ W, Below ((w.alloc (.cells #[.slice A0 n0 c0, .slice A1 n1 c1] 33)).alloc (.cells #[.int .i64 y0, .int .i64 y1, .int .i64 y2, .slice A7 n7 c7] 37)).heap.size ((w.alloc (.cells #[.slice A0 n0 c0, .slice A1 n1 c1] 33)).alloc (.cells #[.int .i64 y0, .int .i64 y1, .int .i64 y2, .slice A7 n7 c7] 37)) W → (fun w' => w'.cell? ⟨w.heap.size, 0, none⟩ = some (.slice A0 n0 c0) ∧ w'.cell? ⟨w.heap.size, 1, none⟩ = some (.slice A1 n1 c1) ∧ w'.cell? ⟨w.heap.size + 1, 0, none⟩ = some (.int .i64 y0) ∧ w'.cell? ⟨w.heap.size + 1, 1, none⟩ = some (.int .i64 y1) ∧ w'.cell? ⟨w.heap.size + 1, 2, none⟩ = some (.int .i64 y2) ∧ w'.cell? ⟨w.heap.size + 1, 3, none⟩ = some (.slice A7 n7 c7)) W := ⟨trivial, fun W hW => by
      have b1 : Box W w.heap.size 33 #[.slice A0 n0 c0, .slice A1 n1 c1] := ((Box.new w _ _).alloc _).below hW (by simp; omega)
      have b2 : Box W (w.heap.size + 1) 37 #[.int .i64 y0, .int .i64 y1, .int .i64 y2, .slice A7 n7 c7] := Box.below (by simpa using Box.new (w.alloc (.cells #[.slice A0 n0 c0, .slice A1 n1 c1] 33)) 37 #[.int .i64 y0, .int .i64 y1, .int .i64 y2, .slice A7 n7 c7]) hW (by simp)
      exact ⟨b1.cell 0, b1.cell 1, b2.cell 0, b2.cell 1, b2.cell 2, b2.cell 3⟩⟩
    have hX0 : Below w.heap.size w ((w.alloc (.cells #[.slice A0 n0 c0, .slice A1 n1 c1] 33)).alloc (.cells #[.int .i64 y0, .int .i64 y1, .int .i64 y2, .slice A7 n7 c7] 37)) := (belx)
    go_enter Tryz.func27, Tryz.ntmps27
    go_wp2_with fail
    refine wp_region_held_drew (S := (fun w' => w'.cell? ⟨w.heap.size, 0, none⟩ = some (.slice A0 n0 c0) ∧ w'.cell? ⟨w.heap.size, 1, none⟩ = some (.slice A1 n1 c1) ∧ w'.cell? ⟨w.heap.size + 1, 0, none⟩ = some (.int .i64 y0) ∧ w'.cell? ⟨w.heap.size + 1, 1, none⟩ = some (.int .i64 y1) ∧ w'.cell? ⟨w.heap.size + 1, 2, none⟩ = some (.int .i64 y2) ∧ w'.cell? ⟨w.heap.size + 1, 3, none⟩ = some (.slice A7 n7 c7))) (by kernel_rfl) (by exact hk _ (belx)) (fun hHeld => ?_)
    refine wpAnyH_take (i := 0) (oi := ⟨some 5, _, _, _, _, _⟩) (v := ?v1) rfl (by kernel_rfl) (by kernel_rfl) (by kernel_rfl) (fun _ _ _ h => h) (Or.inl ⟨by rfl, ?hy1⟩) (by assumption) ?_
    case hy1 => (intro w hSw; (try dsimp only at hSw); go_simp; try (with_reducible rfl))
    (try simp only [Act.put, qa_, qb_, qc_])
    refine wpAnyH_ready (rs := [1]) (by kernel_rfl) (by simp) ?_
    refine AllReadyH.cons rfl (fun K hK => ?_) ?_
    · go_simp
      go_at_call 25
      refine (i_DeskOk (tDesk.reach h ?hB) hz).mono ?_
      case hB => exact (belx)
      rintro e w1 ⟨rfl, hb1⟩
      rw [HP.out]
      have hs1 : Below ((w.alloc (.cells #[.slice A0 n0 c0, .slice A1 n1 c1] 33)).alloc (.cells #[.int .i64 y0, .int .i64 y1, .int .i64 y2, .slice A7 n7 c7] 37)).heap.size ((w.alloc (.cells #[.slice A0 n0 c0, .slice A1 n1 c1] 33)).alloc (.cells #[.int .i64 y0, .int .i64 y1, .int .i64 y2, .slice A7 n7 c7] 37)) w1 := bel_trans (belx) hb1
      go_wp2_with fail
      refine hK.out _ _ (by exact hk _ hs1) (fun hHeld => ?_)
      clear hK K
      (try simp only [Act.put, qa_, qb_, qc_])
      refine wpAnyH_take (i := 2) (oi := ⟨some 7, _, _, _, _, _⟩) (v := ?v2) rfl (by kernel_rfl) (by kernel_rfl) (by kernel_rfl) (fun _ _ _ h => h) (Or.inl ⟨by rfl, ?hy2⟩) (by assumption) ?_
      case hy2 => (intro w hSw; (try dsimp only at hSw); go_simp; try (with_reducible rfl))
      (try simp only [Act.put, qa_, qb_, qc_])
      refine wpAnyH_take (i := 3) (oi := ⟨some 8, _, _, _, _, _⟩) (v := ?v3) rfl (by kernel_rfl) (by kernel_rfl) (by kernel_rfl) (fun _ _ _ h => h) (Or.inl ⟨by rfl, ?hy3⟩) (by assumption) ?_
      case hy3 => (intro w hSw; (try dsimp only at hSw); go_simp; try (with_reducible rfl))
      (try simp only [Act.put, qa_, qb_, qc_])
      refine wpAnyH_take (i := 5) (oi := ⟨some 10, _, _, _, _, _⟩) (v := ?v4) rfl (by kernel_rfl) (by kernel_rfl) (by kernel_rfl) (fun _ _ _ h => h) (Or.inl ⟨by rfl, ?hy4⟩) (by assumption) ?_
      case hy4 => (intro w hSw; (try dsimp only at hSw); go_simp; try (with_reducible rfl))
      (try simp only [Act.put, qa_, qb_, qc_])
      refine wpAnyH_take (i := 6) (oi := ⟨some 11, _, _, _, _, _⟩) (v := ?v5) rfl (by kernel_rfl) (by kernel_rfl) (by kernel_rfl) (fun _ _ _ h => h) (Or.inl ⟨by rfl, ?hy5⟩) (by assumption) ?_
      case hy5 => (intro w hSw; (try dsimp only at hSw); go_simp; try (with_reducible rfl))
      (try simp only [Act.put, qa_, qb_, qc_])
      refine wpAnyH_take (i := 9) (oi := ⟨some 14, _, _, _, _, _⟩) (v := ?v6) rfl (by kernel_rfl) (by kernel_rfl) (by kernel_rfl) (fun _ _ _ h => h) (Or.inl ⟨by rfl, ?hy6⟩) (by assumption) ?_
      case hy6 => (intro w hSw; (try dsimp only at hSw); go_simp; try (with_reducible rfl))
      (try simp only [Act.put, qa_, qb_, qc_])
      refine wpAnyH_ready (rs := [4, 10]) (by kernel_rfl) (by simp) ?_
      refine AllReadyH.cons rfl (fun K hK => ?_) ?_
      · have hw1 : Below w.heap.size w w1 := bel_trans hX0 hs1
        go_simp
        go_at_call 46
        refine (i_opened (tWhole.row.reach hr0 hw1) (by omega) HAP.out HWF.out).mono ?_
        rintro e w2 ⟨b, D, rfl, hM, hW, hbb, hb2⟩
        have hs2 : Below ((w.alloc (.cells #[.slice A0 n0 c0, .slice A1 n1 c1] 33)).alloc (.cells #[.int .i64 y0, .int .i64 y1, .int .i64 y2, .slice A7 n7 c7] 37)).heap.size ((w.alloc (.cells #[.slice A0 n0 c0, .slice A1 n1 c1] 33)).alloc (.cells #[.int .i64 y0, .int .i64 y1, .int .i64 y2, .slice A7 n7 c7] 37)) w2 := bel_trans hs1 hb2
        have hw2 : Below w.heap.size w w2 := bel_trans hX0 hs2
        obtain ⟨v, hrun, hv⟩ := hW.look hM Tryz.underlying3 Tryz.underlying76 (zwhole _) hy0
        obtain ⟨z0, z1, z2, A2, n2, c2, G, rfl, hG, hn2, hany⟩ := hasGot HDK.out (by rw [HY.out]; exact hv) hb2.size
        have HAny := Lib.hid hany
        clear hany hv
        go_wp2_with fail
        refine hK.out _ _ (by exact hk _ hs2) (fun hHeld => ?_)
        clear hK K
        (try simp only [Act.put, qa_, qb_, qc_])
        refine wpAnyH_ready (rs := [7, 10]) (by kernel_rfl) (by simp) ?_
        refine AllReadyH.cons rfl (fun K hK => ?_) ?_
        · go_simp
          refine hK.out _ _ (by exact hk _ hs2) (fun hHeld => ?_)
          clear hK K
          (try simp only [Act.put, qa_, qb_, qc_])
          refine wpAnyH_take (i := 8) (oi := ⟨some 13, _, _, _, _, _⟩) (v := ?v7) rfl (by kernel_rfl) (by kernel_rfl) (by kernel_rfl) (fun _ _ _ h => h) (Or.inl ⟨by rfl, ?hy7⟩) (by assumption) ?_
          case hy7 => (intro w hSw; (try dsimp only at hSw); go_simp; try (with_reducible rfl))
          (try simp only [Act.put, qa_, qb_, qc_])
          refine wpAnyH_ready (rs := [10]) (by kernel_rfl) (by simp) ?_
          refine AllReadyH.cons rfl (fun K hK => ?_) ?_
          · go_simp
            refine hK.out _ _ (by exact hk _ hs2) (fun hHeld => ?_)
            clear hK K
            (try simp only [Act.put, qa_, qb_, qc_])
            refine wpAnyH_ready (rs := [11]) (by kernel_rfl) (by simp) ?_
            refine AllReadyH.cons rfl (fun K hK => ?_) ?_
            · go_simp
              go_at_call 78
              refine (i_conPieceB 79 (.agg #[.int .i64 y0, .int .i64 y1, .int .i64 y2, .slice A7 n7 c7]) (fun a => decide (q = a)) (fun _ _ => rfl) (fun i a w' cs ha hBw hR => i_PcEq (tPiece.reach (tPiece.reach hq hw2) (bel_trans (belx) hBw)) hR) (tPiece.row.reach hG (belx)) (by omega)).mono ?_
              rintro e w3 ⟨rfl, hb3⟩
              rw [← HAny.out]
              have hs3 : Below ((w.alloc (.cells #[.slice A0 n0 c0, .slice A1 n1 c1] 33)).alloc (.cells #[.int .i64 y0, .int .i64 y1, .int .i64 y2, .slice A7 n7 c7] 37)).heap.size ((w.alloc (.cells #[.slice A0 n0 c0, .slice A1 n1 c1] 33)).alloc (.cells #[.int .i64 y0, .int .i64 y1, .int .i64 y2, .slice A7 n7 c7] 37)) w3 := bel_trans hs2 (bel_trans (belx) hb3)
              go_wp2_with fail
              refine hK.out _ _ (by exact hk _ hs3) (fun hHeld => ?_)
              clear hK K
              (try simp only [Act.put, qa_, qb_, qc_])
              refine wpAnyH_take (i := 12) (oi := ⟨some 17, _, _, _, _, _⟩) (v := ?v8) rfl (by kernel_rfl) (by kernel_rfl) (by kernel_rfl) (fun _ _ _ h => h) (Or.inl ⟨by rfl, ?hy8⟩) (by assumption) ?_
              case hy8 => (intro w hSw; (try dsimp only at hSw); go_simp; try (with_reducible rfl))
              (try simp only [Act.put, qa_, qb_, qc_])
              refine wpAnyH_take (i := 13) (oi := ⟨some 4, _, _, _, _, _⟩) (v := ?v9) rfl (by kernel_rfl) (by kernel_rfl) (by kernel_rfl) (fun _ _ _ h => h) (Or.inl ⟨by rfl, ?hy9⟩) (by assumption) ?_
              case hy9 => (intro w hSw; (try dsimp only at hSw); go_simp; try (with_reducible rfl))
              (try simp only [Act.put, qa_, qb_, qc_])
              refine wpAnyH_done (by kernel_rfl) ?_ _
              go_wp2
              go_ret
              exact ⟨by first | rfl | (simp; done), bel_trans hX0 hs3⟩
            exact AllReadyH.nil
          exact AllReadyH.nil
        refine AllReadyH.cons rfl (fun K hK => ?_) ?_
        · go_simp
          refine hK.out _ _ (by exact hk _ hs2) (fun hHeld => ?_)
          clear hK K
          (try simp only [Act.put, qa_, qb_, qc_])
          refine wpAnyH_ready (rs := [7]) (by kernel_rfl) (by simp) ?_
          refine AllReadyH.cons rfl (fun K hK => ?_) ?_
          · go_simp
            refine hK.out _ _ (by exact hk _ hs2) (fun hHeld => ?_)
            clear hK K
            (try simp only [Act.put, qa_, qb_, qc_])
            refine wpAnyH_take (i := 8) (oi := ⟨some 13, _, _, _, _, _⟩) (v := ?v10) rfl (by kernel_rfl) (by kernel_rfl) (by kernel_rfl) (fun _ _ _ h => h) (Or.inl ⟨by rfl, ?hy10⟩) (by assumption) ?_
            case hy10 => (intro w hSw; (try dsimp only at hSw); go_simp; try (with_reducible rfl))
            (try simp only [Act.put, qa_, qb_, qc_])
            refine wpAnyH_ready (rs := [11]) (by kernel_rfl) (by simp) ?_
            refine AllReadyH.cons rfl (fun K hK => ?_) ?_
            · go_simp
              go_at_call 78
              refine (i_conPieceB 79 (.agg #[.int .i64 y0, .int .i64 y1, .int .i64 y2, .slice A7 n7 c7]) (fun a => decide (q = a)) (fun _ _ => rfl) (fun i a w' cs ha hBw hR => i_PcEq (tPiece.reach (tPiece.reach hq hw2) (bel_trans (belx) hBw)) hR) (tPiece.row.reach hG (belx)) (by omega)).mono ?_
              rintro e w3 ⟨rfl, hb3⟩
              rw [← HAny.out]
              have hs3 : Below ((w.alloc (.cells #[.slice A0 n0 c0, .slice A1 n1 c1] 33)).alloc (.cells #[.int .i64 y0, .int .i64 y1, .int .i64 y2, .slice A7 n7 c7] 37)).heap.size ((w.alloc (.cells #[.slice A0 n0 c0, .slice A1 n1 c1] 33)).alloc (.cells #[.int .i64 y0, .int .i64 y1, .int .i64 y2, .slice A7 n7 c7] 37)) w3 := bel_trans hs2 (bel_trans (belx) hb3)
              go_wp2_with fail
              refine hK.out _ _ (by exact hk _ hs3) (fun hHeld => ?_)
              clear hK K
              (try simp only [Act.put, qa_, qb_, qc_])
              refine wpAnyH_take (i := 12) (oi := ⟨some 17, _, _, _, _, _⟩) (v := ?v11) rfl (by kernel_rfl) (by kernel_rfl) (by kernel_rfl) (fun _ _ _ h => h) (Or.inl ⟨by rfl, ?hy11⟩) (by assumption) ?_
              case hy11 => (intro w hSw; (try dsimp only at hSw); go_simp; try (with_reducible rfl))
              (try simp only [Act.put, qa_, qb_, qc_])
              refine wpAnyH_take (i := 13) (oi := ⟨some 4, _, _, _, _, _⟩) (v := ?v12) rfl (by kernel_rfl) (by kernel_rfl) (by kernel_rfl) (fun _ _ _ h => h) (Or.inl ⟨by rfl, ?hy12⟩) (by assumption) ?_
              case hy12 => (intro w hSw; (try dsimp only at hSw); go_simp; try (with_reducible rfl))
              (try simp only [Act.put, qa_, qb_, qc_])
              refine wpAnyH_done (by kernel_rfl) ?_ _
              go_wp2
              go_ret
              exact ⟨by first | rfl | (simp; done), bel_trans hX0 hs3⟩
            exact AllReadyH.nil
          exact AllReadyH.nil
        exact AllReadyH.nil
      refine AllReadyH.cons rfl (fun K hK => ?_) ?_
      · go_simp
        refine hK.out _ _ (by exact hk _ hs1) (fun hHeld => ?_)
        clear hK K
        (try simp only [Act.put, qa_, qb_, qc_])
        refine wpAnyH_ready (rs := [4]) (by kernel_rfl) (by simp) ?_
        refine AllReadyH.cons rfl (fun K hK => ?_) ?_
        · have hw1 : Below w.heap.size w w1 := bel_trans hX0 hs1
          go_simp
          go_at_call 46
          refine (i_opened (tWhole.row.reach hr0 hw1) (by omega) HAP.out HWF.out).mono ?_
          rintro e w2 ⟨b, D, rfl, hM, hW, hbb, hb2⟩
          have hs2 : Below ((w.alloc (.cells #[.slice A0 n0 c0, .slice A1 n1 c1] 33)).alloc (.cells #[.int .i64 y0, .int .i64 y1, .int .i64 y2, .slice A7 n7 c7] 37)).heap.size ((w.alloc (.cells #[.slice A0 n0 c0, .slice A1 n1 c1] 33)).alloc (.cells #[.int .i64 y0, .int .i64 y1, .int .i64 y2, .slice A7 n7 c7] 37)) w2 := bel_trans hs1 hb2
          have hw2 : Below w.heap.size w w2 := bel_trans hX0 hs2
          obtain ⟨v, hrun, hv⟩ := hW.look hM Tryz.underlying3 Tryz.underlying76 (zwhole _) hy0
          obtain ⟨z0, z1, z2, A2, n2, c2, G, rfl, hG, hn2, hany⟩ := hasGot HDK.out (by rw [HY.out]; exact hv) hb2.size
          have HAny := Lib.hid hany
          clear hany hv
          go_wp2_with fail
          refine hK.out _ _ (by exact hk _ hs2) (fun hHeld => ?_)
          clear hK K
          (try simp only [Act.put, qa_, qb_, qc_])
          refine wpAnyH_ready (rs := [7]) (by kernel_rfl) (by simp) ?_
          refine AllReadyH.cons rfl (fun K hK => ?_) ?_
          · go_simp
            refine hK.out _ _ (by exact hk _ hs2) (fun hHeld => ?_)
            clear hK K
            (try simp only [Act.put, qa_, qb_, qc_])
            refine wpAnyH_take (i := 8) (oi := ⟨some 13, _, _, _, _, _⟩) (v := ?v13) rfl (by kernel_rfl) (by kernel_rfl) (by kernel_rfl) (fun _ _ _ h => h) (Or.inl ⟨by rfl, ?hy13⟩) (by assumption) ?_
            case hy13 => (intro w hSw; (try dsimp only at hSw); go_simp; try (with_reducible rfl))
            (try simp only [Act.put, qa_, qb_, qc_])
            refine wpAnyH_ready (rs := [11]) (by kernel_rfl) (by simp) ?_
            refine AllReadyH.cons rfl (fun K hK => ?_) ?_
            · go_simp
              go_at_call 78
              refine (i_conPieceB 79 (.agg #[.int .i64 y0, .int .i64 y1, .int .i64 y2, .slice A7 n7 c7]) (fun a => decide (q = a)) (fun _ _ => rfl) (fun i a w' cs ha hBw hR => i_PcEq (tPiece.reach (tPiece.reach hq hw2) (bel_trans (belx) hBw)) hR) (tPiece.row.reach hG (belx)) (by omega)).mono ?_
              rintro e w3 ⟨rfl, hb3⟩
              rw [← HAny.out]
              have hs3 : Below ((w.alloc (.cells #[.slice A0 n0 c0, .slice A1 n1 c1] 33)).alloc (.cells #[.int .i64 y0, .int .i64 y1, .int .i64 y2, .slice A7 n7 c7] 37)).heap.size ((w.alloc (.cells #[.slice A0 n0 c0, .slice A1 n1 c1] 33)).alloc (.cells #[.int .i64 y0, .int .i64 y1, .int .i64 y2, .slice A7 n7 c7] 37)) w3 := bel_trans hs2 (bel_trans (belx) hb3)
              go_wp2_with fail
              refine hK.out _ _ (by exact hk _ hs3) (fun hHeld => ?_)
              clear hK K
              (try simp only [Act.put, qa_, qb_, qc_])
              refine wpAnyH_take (i := 12) (oi := ⟨some 17, _, _, _, _, _⟩) (v := ?v14) rfl (by kernel_rfl) (by kernel_rfl) (by kernel_rfl) (fun _ _ _ h => h) (Or.inl ⟨by rfl, ?hy14⟩) (by assumption) ?_
              case hy14 => (intro w hSw; (try dsimp only at hSw); go_simp; try (with_reducible rfl))
              (try simp only [Act.put, qa_, qb_, qc_])
              refine wpAnyH_take (i := 13) (oi := ⟨some 4, _, _, _, _, _⟩) (v := ?v15) rfl (by kernel_rfl) (by kernel_rfl) (by kernel_rfl) (fun _ _ _ h => h) (Or.inl ⟨by rfl, ?hy15⟩) (by assumption) ?_
              case hy15 => (intro w hSw; (try dsimp only at hSw); go_simp; try (with_reducible rfl))
              (try simp only [Act.put, qa_, qb_, qc_])
              refine wpAnyH_done (by kernel_rfl) ?_ _
              go_wp2
              go_ret
              exact ⟨by first | rfl | (simp; done), bel_trans hX0 hs3⟩
            exact AllReadyH.nil
          exact AllReadyH.nil
        exact AllReadyH.nil
      exact AllReadyH.nil
    exact AllReadyH.nil
  · have HP := Lib.hid (decide_eq_false hp)
    have HF := Lib.hid (fHas_f (p := p) (q := q) fun hh => hp hh.1)
    rw [HF.out]
    clear hp
    obtain ⟨y0, hy⟩ : ∃ y, q.1 = y := ⟨_, rfl⟩
    obtain ⟨y1, hy1⟩ : ∃ y, q.2.1 = y := ⟨_, rfl⟩
    obtain ⟨y2, hy2⟩ : ∃ y, q.2.2.1 = y := ⟨_, rfl⟩
    rw [hy, hy1, hy2] at hq ⊢
    clear hy hy1 hy2
    obtain ⟨X0, hk⟩ : ∃ _x : True, ∀ W, Below ((w.alloc (.cells #[.slice A0 n0 c0, .slice A1 n1 c1] 33)).alloc (.cells #[.int .i64 y0, .int .i64 y1, .int .i64 y2, .slice A7 n7 c7] 37)).heap.size ((w.alloc (.cells #[.slice A0 n0 c0, .slice A1 n1 c1] 33)).alloc (.cells #[.int .i64 y0, .int .i64 y1, .int .i64 y2, .slice A7 n7 c7] 37)) W → (fun w' => w'.cell? ⟨w.heap.size, 0, none⟩ = some (.slice A0 n0 c0) ∧ w'.cell? ⟨w.heap.size, 1, none⟩ = some (.slice A1 n1 c1) ∧ w'.cell? ⟨w.heap.size + 1, 0, none⟩ = some (.int .i64 y0) ∧ w'.cell? ⟨w.heap.size + 1, 1, none⟩ = some (.int .i64 y1) ∧ w'.cell? ⟨w.heap.size + 1, 2, none⟩ = some (.int .i64 y2) ∧ w'.cell? ⟨w.heap.size + 1, 3, none⟩ = some (.slice A7 n7 c7)) W := ⟨trivial, fun W hW => by
      have b1 : Box W w.heap.size 33 #[.slice A0 n0 c0, .slice A1 n1 c1] := ((Box.new w _ _).alloc _).below hW (by simp; omega)
      have b2 : Box W (w.heap.size + 1) 37 #[.int .i64 y0, .int .i64 y1, .int .i64 y2, .slice A7 n7 c7] := Box.below (by simpa using Box.new (w.alloc (.cells #[.slice A0 n0 c0, .slice A1 n1 c1] 33)) 37 #[.int .i64 y0, .int .i64 y1, .int .i64 y2, .slice A7 n7 c7]) hW (by simp)
      exact ⟨b1.cell 0, b1.cell 1, b2.cell 0, b2.cell 1, b2.cell 2, b2.cell 3⟩⟩
    have hX0 : Below w.heap.size w ((w.alloc (.cells #[.slice A0 n0 c0, .slice A1 n1 c1] 33)).alloc (.cells #[.int .i64 y0, .int .i64 y1, .int .i64 y2, .slice A7 n7 c7] 37)) := (belx)
    go_enter Tryz.func27, Tryz.ntmps27
    go_wp2_with fail
    refine wp_region_held_drew (S := (fun w' => w'.cell? ⟨w.heap.size, 0, none⟩ = some (.slice A0 n0 c0) ∧ w'.cell? ⟨w.heap.size, 1, none⟩ = some (.slice A1 n1 c1) ∧ w'.cell? ⟨w.heap.size + 1, 0, none⟩ = some (.int .i64 y0) ∧ w'.cell? ⟨w.heap.size + 1, 1, none⟩ = some (.int .i64 y1) ∧ w'.cell? ⟨w.heap.size + 1, 2, none⟩ = some (.int .i64 y2) ∧ w'.cell? ⟨w.heap.size + 1, 3, none⟩ = some (.slice A7 n7 c7))) (by kernel_rfl) (by exact hk _ (belx)) (fun hHeld => ?_)
    refine wpAnyH_take (i := 0) (oi := ⟨some 5, _, _, _, _, _⟩) (v := ?v16) rfl (by kernel_rfl) (by kernel_rfl) (by kernel_rfl) (fun _ _ _ h => h) (Or.inl ⟨by rfl, ?hy16⟩) (by assumption) ?_
    case hy16 => (intro w hSw; (try dsimp only at hSw); go_simp; try (with_reducible rfl))
    (try simp only [Act.put, qa_, qb_, qc_])
    refine wpAnyH_ready (rs := [1]) (by kernel_rfl) (by simp) ?_
    refine AllReadyH.cons rfl (fun K hK => ?_) ?_
    · go_simp
      go_at_call 25
      refine (i_DeskOk (tDesk.reach h ?hB) hz).mono ?_
      case hB => exact (belx)
      rintro e w1 ⟨rfl, hb1⟩
      rw [HP.out]
      have hs1 : Below ((w.alloc (.cells #[.slice A0 n0 c0, .slice A1 n1 c1] 33)).alloc (.cells #[.int .i64 y0, .int .i64 y1, .int .i64 y2, .slice A7 n7 c7] 37)).heap.size ((w.alloc (.cells #[.slice A0 n0 c0, .slice A1 n1 c1] 33)).alloc (.cells #[.int .i64 y0, .int .i64 y1, .int .i64 y2, .slice A7 n7 c7] 37)) w1 := bel_trans (belx) hb1
      go_wp2_with fail
      refine hK.out _ _ (by exact hk _ hs1) (fun hHeld => ?_)
      clear hK K
      (try simp only [Act.put, qa_, qb_, qc_])
      refine wpAnyH_take (i := 2) (oi := ⟨some 7, _, _, _, _, _⟩) (v := ?v17) rfl (by kernel_rfl) (by kernel_rfl) (by kernel_rfl) (fun _ _ _ h => h) (Or.inl ⟨by rfl, ?hy17⟩) (by assumption) ?_
      case hy17 => (intro w hSw; (try dsimp only at hSw); go_simp; try (with_reducible rfl))
      (try simp only [Act.put, qa_, qb_, qc_])
      refine wpAnyH_take (i := 3) (oi := ⟨some 8, _, _, _, _, _⟩) (v := undef) rfl (by kernel_rfl) (by kernel_rfl) (by kernel_rfl) (fun _ _ _ h => h) (Or.inr ⟨by rfl, rfl⟩) (by assumption) ?_
      (try simp only [Act.put, qa_, qb_, qc_])
      refine wpAnyH_take (i := 4) (oi := ⟨some 9, _, _, _, _, _⟩) (v := undef) rfl (by kernel_rfl) (by kernel_rfl) (by kernel_rfl) (fun _ _ _ h => h) (Or.inr ⟨by rfl, rfl⟩) (by assumption) ?_
      (try simp only [Act.put, qa_, qb_, qc_])
      refine wpAnyH_take (i := 5) (oi := ⟨some 10, _, _, _, _, _⟩) (v := undef) rfl (by kernel_rfl) (by kernel_rfl) (by kernel_rfl) (fun _ _ _ h => h) (Or.inr ⟨by rfl, rfl⟩) (by assumption) ?_
      (try simp only [Act.put, qa_, qb_, qc_])
      refine wpAnyH_take (i := 6) (oi := ⟨some 11, _, _, _, _, _⟩) (v := undef) rfl (by kernel_rfl) (by kernel_rfl) (by kernel_rfl) (fun _ _ _ h => h) (Or.inr ⟨by rfl, rfl⟩) (by assumption) ?_
      (try simp only [Act.put, qa_, qb_, qc_])
      refine wpAnyH_take (i := 7) (oi := ⟨some 12, _, _, _, _, _⟩) (v := undef) rfl (by kernel_rfl) (by kernel_rfl) (by kernel_rfl) (fun _ _ _ h => h) (Or.inr ⟨by rfl, rfl⟩) (by assumption) ?_
      (try simp only [Act.put, qa_, qb_, qc_])
      refine wpAnyH_take (i := 8) (oi := ⟨some 13, _, _, _, _, _⟩) (v := undef) rfl (by kernel_rfl) (by kernel_rfl) (by kernel_rfl) (fun _ _ _ h => h) (Or.inr ⟨by rfl, rfl⟩) (by assumption) ?_
      (try simp only [Act.put, qa_, qb_, qc_])
      refine wpAnyH_take (i := 9) (oi := ⟨some 14, _, _, _, _, _⟩) (v := undef) rfl (by kernel_rfl) (by kernel_rfl) (by kernel_rfl) (fun _ _ _ h => h) (Or.inr ⟨by rfl, rfl⟩) (by assumption) ?_
      (try simp only [Act.put, qa_, qb_, qc_])
      refine wpAnyH_take (i := 10) (oi := ⟨some 15, _, _, _, _, _⟩) (v := undef) rfl (by kernel_rfl) (by kernel_rfl) (by kernel_rfl) (fun _ _ _ h => h) (Or.inr ⟨by rfl, rfl⟩) (by assumption) ?_
      (try simp only [Act.put, qa_, qb_, qc_])
      refine wpAnyH_take (i := 11) (oi := ⟨some 16, _, _, _, _, _⟩) (v := undef) rfl (by kernel_rfl) (by kernel_rfl) (by kernel_rfl) (fun _ _ _ h => h) (Or.inr ⟨by rfl, rfl⟩) (by assumption) ?_
      (try simp only [Act.put, qa_, qb_, qc_])
      refine wpAnyH_take (i := 12) (oi := ⟨some 17, _, _, _, _, _⟩) (v := ?v18) rfl (by kernel_rfl) (by kernel_rfl) (by kernel_rfl) (fun _ _ _ h => h) (Or.inl ⟨by rfl, ?hy18⟩) (by assumption) ?_
      case hy18 => (intro w hSw; (try dsimp only at hSw); go_simp; try (with_reducible rfl))
      (try simp only [Act.put, qa_, qb_, qc_])
      refine wpAnyH_take (i := 13) (oi := ⟨some 4, _, _, _, _, _⟩) (v := ?v19) rfl (by kernel_rfl) (by kernel_rfl) (by kernel_rfl) (fun _ _ _ h => h) (Or.inl ⟨by rfl, ?hy19⟩) (by assumption) ?_
      case hy19 => (intro w hSw; (try dsimp only at hSw); go_simp; try (with_reducible rfl))
      (try simp only [Act.put, qa_, qb_, qc_])
      refine wpAnyH_done (by kernel_rfl) ?_ _
      go_wp2
      go_ret
      exact ⟨by first | rfl | (simp; done), bel_trans hX0 hs1⟩
    exact AllReadyH.nil
end Go.Proofs.YtaabmaoldhoinaaGreat
