/-
  When a pool's first cell is due: contracts of Earliest, of both sides.
-/
import Derived.Test.YtconcboeojpmdacPPool
import Derived.Test.YtconcboeojpmdacPNil
namespace Go.Proofs.Ytconcboeojpmdac
set_option maxRecDepth 100000
set_option linter.unusedVariables false
set_option linter.unusedSimpArgs false
open Go.ChangeShapes Go.WideShapes Go.ChangeAt Go.RowKit
open Fld
/-- The less of the two; the second if the first is none. -/
def upd (n d : Int) : Int := if n < 0 ∨ d < n then d else n
theorem upd_t {n d : Int} (h : n < 0 ∨ d < n) : upd n d = d := if_pos h
theorem upd_f {n d : Int} (h : ¬ (n < 0 ∨ d < n)) : upd n d = n := if_neg h
def earL (l : List Int) : Int := l.foldl upd (-1)
theorem earL_sn {l : List Int} {j : Nat} {d : Int} (h : l[j]? = some d) : earL (l.take (j + 1)) = upd (earL (l.take j)) d := by
  rw [take_sn h]; unfold earL; rw [List.foldl_append]; rfl
theorem earL_rg {l : List Int} (h : ∀ d ∈ l, 0 ≤ d ∧ d ≤ 65535) : (earL l = -1 ∨ 0 ≤ earL l ∧ earL l ≤ 65535) ∧ (0 < l.length → 0 ≤ earL l) := by
  have : ∀ (l : List Int) (n : Int), (∀ d ∈ l, 0 ≤ d ∧ d ≤ 65535) → (n = -1 ∨ 0 ≤ n ∧ n ≤ 65535) → (l.foldl upd n = -1 ∨ 0 ≤ l.foldl upd n ∧ l.foldl upd n ≤ 65535) ∧ ((0 < l.length ∨ 0 ≤ n) → 0 ≤ l.foldl upd n) := by
    intro l
    induction l with
    | nil => intro n _ hn; exact ⟨hn, fun h => by simpa using h⟩
    | cons a l ih =>
      intro n hl hn
      have ha := hl a (by simp)
      have hu : 0 ≤ upd n a ∧ upd n a ≤ 65535 := by
        unfold upd; split <;> omega
      have := ih (upd n a) (fun d hd => hl d (by simp [hd])) (.inr hu)
      exact ⟨this.1, fun _ => this.2 (.inr hu.1)⟩
  have := this l (-1) h (.inl rfl)
  exact ⟨this.1, fun h => this.2 (.inl h)⟩
def dues (l : List DHeld) : List Int := l.map fun h => h.2.1
def fEar (p : DPool) : Int := if PlOk p then earL (dues p.1) else -1
theorem fEar_t {p : DPool} (h : PlOk p) : fEar p = earL (dues p.1) := if_pos h
theorem fEar_f {p : DPool} (h : ¬ PlOk p) : fEar p = -1 := if_neg h
theorem dues_ok {l : List DHeld} (h : ∀ x ∈ l, HdOk x) : ∀ d ∈ dues l, 0 ≤ d ∧ d ≤ 65535 := by
  intro d hd
  unfold dues at hd
  rw [List.mem_map] at hd
  obtain ⟨x, hx, rfl⟩ := hd
  exact ⟨(h x hx).2.2.1, (h x hx).2.2.2.1⟩
theorem dues_at {l : List DHeld} {j : Nat} {a : DHeld} (h : l[j]? = some a) : (dues l)[j]? = some a.2.1 := by unfold dues; rw [List.getElem?_map, h]; rfl
theorem dues_sn {l : List DHeld} {j : Nat} {a : DHeld} (h : l[j]? = some a) : dues (l.take (j + 1)) = dues (l.take j) ++ [a.2.1] := by unfold dues; rw [take_sn h, List.map_append]; rfl
set_option maxHeartbeats 1000000 in
theorem s_Earliest {w : World} {cs : List Value} {p : DPool} (h : tPool.R w w.heap.size cs p) (hz : szPool p ≤ 1048576) :
    Calls Try.prog 54 #[.agg cs.toArray] w fun e w' => e = .returned (.int .i64 (fEar p)) ∧ Below w.heap.size w w' := by
  obtain ⟨A0, n0, c0, A1, n1, c1, rfl, -, -, -, hr0, -, -, -, hr1⟩ := openPool h
  by_cases hp : PlOk p
  · have HP := Lib.hid (decide_eq_true hp)
    have HH := Lib.hid (dues_ok hp.2.1)
    obtain ⟨e0, _, _⟩ := rowR_len hr0
    have hn0 : n0 ≤ 12 := by have := hp.1.1; omega
    have E0 := Lib.hid e0
    rw [fEar_t hp]
    obtain ⟨r0, l1⟩ := p
    dsimp only at *
    clear hp e0
    go_enter Try.func54, Try.ntmps54
    go_wp2_with fail
    refine (s_PoolOk (tPool.reach h ?hB) hz).mono ?_
    case hB => exact (by repeat (first | (with_reducible exact Below.refl _ _) | (with_reducible assumption) | (with_reducible refine bel_alloc ?_ _) | (with_reducible refine bel_drew ?_) | (with_reducible refine below_drewN ?_ _) | (with_reducible refine bel_put ?_ (by first | exact Nat.le_refl _ | (simp; done) | (simp; omega)) _)))
    rintro e w1 ⟨rfl, hb1⟩
    rw [HP.out]
    have X1 : Box w1 w.heap.size 43 #[.slice A0 n0 c0, .slice A1 n1 c1] := (Box.new _ _ _).below hb1 (by simp)
    have k0 : w1.cell? ⟨w.heap.size, 0, none⟩ = some (.slice A0 n0 c0) := X1.cell 0
    have hB1 : Below w.heap.size w w1 := bel_trans (by repeat (first | (with_reducible exact Below.refl _ _) | (with_reducible assumption) | (with_reducible refine bel_alloc ?_ _) | (with_reducible refine bel_drew ?_) | (with_reducible refine below_drewN ?_ _) | (with_reducible refine bel_put ?_ (by first | exact Nat.le_refl _ | (simp; done) | (simp; omega)) _))) hb1
    clear hb1
    go_wp2_with fail
    go_loop [3, 4] (fun n i => ∃ (j : Nat) (q : Int), j ≤ n0 ∧ i = .int .i64 j ∧ n = .int .i64 q ∧ earL ((dues r0).take j) = q ∧ (q = -1 ∨ 0 ≤ q ∧ q ≤ 65535)) (fun _ i => n0 - (intOf i).toNat)
    case atStart => exact ⟨0, -1, by omega, rfl, rfl, rfl, .inl rfl⟩
    case round =>
      obtain ⟨j, q, hj, rfl, rfl, hq, hr⟩ := hrel
      have HQ := Lib.hid hq
      clear hq
      by_cases hlt : j < n0
      · obtain ⟨a, b', off, es, hl2, rfl, hb, hes, hR⟩ := rowR_at (K := 3) hr0 hlt rfl
        have HA := Lib.hid (dues_at hl2)
        have hd := HH.out a.2.1 (mem_at HA.out)
        clear hl2
        obtain ⟨A2, n2, c2, rfl, -, -, -, -, -, -⟩ := openHeld hR
        have e1 : w1.cell? ⟨b', off + j * 3 + 1, none⟩ = some (.int .i64 a.2.1) := cell_at hB1 hb (hes 1 (by omega))
        clear hes hR
        obtain ⟨d, hdd⟩ : ∃ d, a.2.1 = d := ⟨_, rfl⟩
        rw [hdd] at HA hd e1
        clear hdd
        by_cases hu : q < 0 ∨ d < q
        · have HU := Lib.hid ((earL_sn HA.out).trans (by rw [HQ.out, upd_t hu]))
          rcases hu with hu | hu
          · go_wp2
            go_round
            case rel => exact ⟨j + 1, d, by omega, by go_num, rfl, HU.out, .inr hd⟩
            case measure => simp [intOf]; omega
          · have hq0 : ¬ q < 0 := by omega
            go_wp2
            go_round
            case rel => exact ⟨j + 1, d, by omega, by go_num, rfl, HU.out, .inr hd⟩
            case measure => simp [intOf]; omega
        · have HU := Lib.hid ((earL_sn HA.out).trans (by rw [HQ.out, upd_f hu]))
          have h1 : ¬ q < 0 := fun h => hu (.inl h)
          have h2 : ¬ d < q := fun h => hu (.inr h)
          clear hu
          go_wp2
          go_round
          case rel => exact ⟨j + 1, q, by omega, by go_num, rfl, HU.out, hr⟩
          case measure => simp [intOf]; omega
      · obtain rfl : n0 = j := by omega
        have HA := Lib.hid (show (dues r0).take n0 = dues r0 from List.take_of_length_le (by unfold dues; rw [List.length_map]; exact Nat.le_of_eq E0.out))
        rw [HA.out] at HQ
        go_wp2
        go_ret
        exact ⟨ret_int HQ.out.symm, hB1⟩
  · have HP := Lib.hid (decide_eq_false hp)
    rw [fEar_f hp]
    clear hp
    go_enter Try.func54, Try.ntmps54
    go_wp2_with fail
    refine (s_PoolOk (tPool.reach h ?hB) hz).mono ?_
    case hB => exact (by repeat (first | (with_reducible exact Below.refl _ _) | (with_reducible assumption) | (with_reducible refine bel_alloc ?_ _) | (with_reducible refine bel_drew ?_) | (with_reducible refine below_drewN ?_ _) | (with_reducible refine bel_put ?_ (by first | exact Nat.le_refl _ | (simp; done) | (simp; omega)) _)))
    rintro e w1 ⟨rfl, hb1⟩
    rw [HP.out]
    go_wp2
    go_ret
    exact ⟨rfl, bel_trans (by repeat (first | (with_reducible exact Below.refl _ _) | (with_reducible assumption) | (with_reducible refine bel_alloc ?_ _) | (with_reducible refine bel_drew ?_) | (with_reducible refine below_drewN ?_ _) | (with_reducible refine bel_put ?_ (by first | exact Nat.le_refl _ | (simp; done) | (simp; omega)) _))) hb1⟩
theorem i_due (A2 : Option Addr) (n2 c2 : Nat) (x0 x1 : Int) (w : World) : Calls Try.prog 106 #[.agg #[.int .i64 x0, .int .i64 x1, .slice A2 n2 c2]] w fun e w' => e = .returned (.int .i64 x1) ∧ Below w.heap.size w w' := by
  go_enter Try.func106, Try.ntmps106
  go_wp2
  go_ret
  exact ⟨rfl, (by repeat (first | (with_reducible exact Below.refl _ _) | (with_reducible assumption) | (with_reducible refine bel_alloc ?_ _) | (with_reducible refine bel_drew ?_) | (with_reducible refine below_drewN ?_ _) | (with_reducible refine bel_put ?_ (by first | exact Nat.le_refl _ | (simp; done) | (simp; omega)) _)))⟩
set_option maxHeartbeats 1000000 in
theorem i_eachDue {w : World} {n c : Nat} {A : Option Addr} {l : List DHeld} (hl : tHeld.row.R w w.heap.size [.slice A n c] l) (hn : n ≤ 1048576) :
    Calls Try.prog 105 #[.slice A n c, .func (.func 106) #[] #[]] w fun e w' => ∃ v, e = .returned v ∧ Own .i64 3 w' w.heap.size v (dues l) ∧ Below w.heap.size w w' := by
  obtain ⟨i0, hi0, hz0, hz1, hz2⟩ := info_parts info_ci
  obtain ⟨e0, _, _⟩ := rowR_len hl
  have HL := Lib.hid e0
  clear e0
  go_enter Try.func105, Try.ntmps105
  go_wp2_with fail
  go_loopw [5, 10] (fun v i wr => ∃ j : Nat, j ≤ n ∧ i = .int .i64 j ∧ Own .i64 3 wr w.heap.size v (dues (l.take j)) ∧ Below w.heap.size w wr) (fun _ i _ => n - (intOf i).toNat)
  case atStart => exact ⟨0, by omega, rfl, Own.nil _ _ _ _, (by repeat (first | (with_reducible exact Below.refl _ _) | (with_reducible assumption) | (with_reducible refine bel_alloc ?_ _) | (with_reducible refine bel_drew ?_) | (with_reducible refine below_drewN ?_ _) | (with_reducible refine bel_put ?_ (by first | exact Nat.le_refl _ | (simp; done) | (simp; omega)) _)))⟩
  case round =>
    obtain ⟨j, hj, rfl, hO, hB⟩ := hrel
    by_cases hlt : j < n
    · obtain ⟨a, b', off, es, hl2, rfl, hb, hes, hR⟩ := rowR_at (K := 3) hl hlt rfl
      have HS := Lib.hid (dues_sn hl2)
      have hlen : (dues (l.take j)).length = j := by unfold dues; rw [List.length_map, List.length_take, HL.out]; omega
      have HLN := Lib.hid hlen
      clear hl2 hlen
      obtain ⟨A2, n2, c2, rfl, -, hi1, -, -, -, -⟩ := openHeld hR
      have HI := Lib.hid hi1
      have e0 : wr.cell? ⟨b', off + j * 3, none⟩ = some (.int .i64 a.1) := cell_at hB hb (hes 0 (by omega))
      have e1 : wr.cell? ⟨b', off + j * 3 + 1, none⟩ = some (.int .i64 a.2.1) := cell_at hB hb (hes 1 (by omega))
      have e2 : wr.cell? ⟨b', off + j * 3 + 2, none⟩ = some (.slice A2 n2 c2) := cell_at hB hb (hes 2 (by omega))
      clear hes hR hi1
      go_wp2_with fail
      first | (rw [show ∀ cs w, Sem.run Try.prog (callFunc 106 #[Value.agg cs]) w = .ok (.enter 106 #[Value.agg cs]) w from fun _ _ => rfl, Oper.upon_enter]) | skip
      refine (i_due _ _ _ _ _ _).mono ?_
      rintro e w1 ⟨rfl, hb1⟩
      have hs1 : Below wr.heap.size wr w1 := bel_trans (by repeat (first | (with_reducible exact Below.refl _ _) | (with_reducible assumption) | (with_reducible refine bel_alloc ?_ _) | (with_reducible refine bel_drew ?_) | (with_reducible refine below_drewN ?_ _) | (with_reducible refine bel_put ?_ (by first | exact Nat.le_refl _ | (simp; done) | (simp; omega)) _))) hb1
      have hO2 := hO.below hs1
      have zz := hs1.size
      have zw := hB.size
      have hlen2 := HLN.out
      go_wp2_with (at_builtin; refine wpList_app _ rfl (.tmp 14) (.tmp 18) _ rfl w.heap.size 3 i0 _ 1 8 Try.underlying36 hi0 hz0 hz1 hz2 rfl (by omega) _ _ _ rfl (hO2.1.alloc _) _ 1 1 [.int .i64 a.2.1] rfl (Src.one _ _ _) (one_int _ _) (by simp only [maxLen]; omega) (by omega) (by simp; omega) ?_; intro v1 w3 hown hgr hat)
      go_roundw
      case rel => exact ⟨j + 1, by omega, by go_num, own_sn hO2 hown HS.out HI.out, below_sn (hB.trans (hs1.mono hB.size)) hO2 (Nat.le_refl _) hgr⟩
      case measure => simp [intOf]; omega
    · obtain rfl : n = j := by omega
      have HA := Lib.hid (show l.take n = l from List.take_of_length_le (Nat.le_of_eq HL.out))
      rw [HA.out] at hO
      go_wp2
      go_ret
      exact ⟨_, rfl, hO, hB⟩
theorem i_Min {w : World} {B n c : Nat} {A : Option Addr} {l : List Int} (hl : Ints .i64 w B A n l) (hn : n ≤ 1048576) (h0 : 0 < n) (hr : ∀ d ∈ l, 0 ≤ d ∧ d ≤ 65535) :
    Calls Try.prog 104 #[.slice A n c] w fun e w' => e = .returned (.int .i64 (earL l)) ∧ w = w' := by
  have HL := Lib.hid hl.1
  have HH := Lib.hid hr
  clear hr
  obtain ⟨b, off, rfl, hb, hc0, _⟩ := hl.at_ (i := 0) h0
  have H0 := Lib.hid (get_at HL.out h0)
  obtain ⟨x0, hx0⟩ : ∃ x, l.getD 0 0 = x := ⟨_, rfl⟩
  rw [hx0] at hc0 H0
  rw [Nat.add_zero] at hc0
  clear hx0
  have hd0 := HH.out x0 (mem_at H0.out)
  have HE0 := Lib.hid ((earL_sn H0.out).trans (show upd (earL (l.take 0)) x0 = x0 from upd_t (.inl (by simp [earL]))))
  have q1 : ¬ (n : Int) < 1 := by omega
  go_enter Try.func104, Try.ntmps104
  go_wp2_with fail
  go_loop [3, 4] (fun m i => ∃ (j : Nat) (q : Int), 1 ≤ j ∧ j ≤ n ∧ i = .int .i64 j ∧ m = .int .i64 q ∧ earL (l.take j) = q ∧ 0 ≤ q ∧ q ≤ 65535) (fun _ i => n - (intOf i).toNat)
  case atStart => exact ⟨1, x0, by omega, by omega, rfl, rfl, HE0.out, hd0.1, hd0.2⟩
  case round =>
    obtain ⟨j, q, h1, hj, rfl, rfl, hq, hq0, hq1⟩ := hrel
    have HQ := Lib.hid hq
    clear hq
    by_cases hlt : j < n
    · obtain ⟨b2, off2, e2, _, hcell, _⟩ := hl.at_ hlt
      injection e2 with e2
      injection e2 with e2 e3 _
      subst e2 e3
      have HA := Lib.hid (get_at HL.out hlt)
      obtain ⟨d, hd⟩ : ∃ x, l.getD j 0 = x := ⟨_, rfl⟩
      rw [hd] at hcell HA
      clear hd
      have hdr := HH.out d (mem_at HA.out)
      have HU := Lib.hid (earL_sn HA.out)
      go_wp2
      all_goals (
        go_round
        case rel => exact ⟨j + 1, upd q d, by omega, by omega, by go_num, by first | (rw [upd_t (by omega)]; done) | (rw [upd_f (by omega)]; done) | (unfold upd; split <;> first | rfl | (congr 1; omega)), by rw [HU.out, HQ.out], by unfold upd; split <;> omega, by unfold upd; split <;> omega⟩
        case measure => simp [intOf]; omega)
    · obtain rfl : n = j := by omega
      have HA := Lib.hid (show l.take n = l from List.take_of_length_le (Nat.le_of_eq HL.out))
      rw [HA.out] at HQ
      go_wp2
      go_ret
      exact ⟨ret_int HQ.out.symm, rfl⟩
theorem i_Earliest {w : World} {cs : List Value} {p : DPool} (h : tPool.R w w.heap.size cs p) (hz : szPool p ≤ 1048576) :
    Calls Try.prog 55 #[.agg cs.toArray] w fun e w' => e = .returned (.int .i64 (fEar p)) ∧ Below w.heap.size w w' := by
  obtain ⟨A0, n0, c0, A1, n1, c1, rfl, -, -, -, hr0, -, -, -, hr1⟩ := openPool h
  by_cases hp : PlOk p
  · have HP := Lib.hid (decide_eq_true hp)
    have HH := Lib.hid (dues_ok hp.2.1)
    obtain ⟨e0, _, _⟩ := rowR_len hr0
    have hn0 : n0 ≤ 12 := by have := hp.1.1; omega
    have E0 := Lib.hid e0
    rw [fEar_t hp]
    obtain ⟨r0, l1⟩ := p
    dsimp only at *
    clear hp e0
    by_cases h0 : n0 = 0
    · subst h0
      have HE := Lib.hid (show earL (dues r0) = -1 from by rw [List.eq_nil_of_length_eq_zero E0.out]; rfl)
      rw [HE.out]
      go_enter Try.func55, Try.ntmps55
      go_wp2_with fail
      refine (i_PoolOk (tPool.reach h ?hB) hz).mono ?_
      case hB => exact (by repeat (first | (with_reducible exact Below.refl _ _) | (with_reducible assumption) | (with_reducible refine bel_alloc ?_ _) | (with_reducible refine bel_drew ?_) | (with_reducible refine below_drewN ?_ _) | (with_reducible refine bel_put ?_ (by first | exact Nat.le_refl _ | (simp; done) | (simp; omega)) _)))
      rintro e w1 ⟨rfl, hb1⟩
      rw [HP.out]
      have X1 : Box w1 w.heap.size 43 #[.slice A0 0 c0, .slice A1 n1 c1] := (Box.new _ _ _).below hb1 (by simp)
      have k0 : w1.cell? ⟨w.heap.size, 0, none⟩ = some (.slice A0 0 c0) := X1.cell 0
      go_wp2
      go_ret
      exact ⟨rfl, bel_trans (by repeat (first | (with_reducible exact Below.refl _ _) | (with_reducible assumption) | (with_reducible refine bel_alloc ?_ _) | (with_reducible refine bel_drew ?_) | (with_reducible refine below_drewN ?_ _) | (with_reducible refine bel_put ?_ (by first | exact Nat.le_refl _ | (simp; done) | (simp; omega)) _))) hb1⟩
    · have q0 : ((n0 : Int) == 0) = false := by simp; omega
      have HDL := Lib.hid (show (dues r0).length = n0 from by unfold dues; rw [List.length_map]; exact E0.out)
      have hpos : 0 < n0 := by omega
      clear h0
      go_enter Try.func55, Try.ntmps55
      go_wp2_with fail
      refine (i_PoolOk (tPool.reach h ?hB) hz).mono ?_
      case hB => exact (by repeat (first | (with_reducible exact Below.refl _ _) | (with_reducible assumption) | (with_reducible refine bel_alloc ?_ _) | (with_reducible refine bel_drew ?_) | (with_reducible refine below_drewN ?_ _) | (with_reducible refine bel_put ?_ (by first | exact Nat.le_refl _ | (simp; done) | (simp; omega)) _)))
      rintro e w1 ⟨rfl, hb1⟩
      rw [HP.out]
      have X1 : Box w1 w.heap.size 43 #[.slice A0 n0 c0, .slice A1 n1 c1] := (Box.new _ _ _).below hb1 (by simp)
      have k0 : w1.cell? ⟨w.heap.size, 0, none⟩ = some (.slice A0 n0 c0) := X1.cell 0
      have hB1 : Below w.heap.size w w1 := bel_trans (by repeat (first | (with_reducible exact Below.refl _ _) | (with_reducible assumption) | (with_reducible refine bel_alloc ?_ _) | (with_reducible refine bel_drew ?_) | (with_reducible refine below_drewN ?_ _) | (with_reducible refine bel_put ?_ (by first | exact Nat.le_refl _ | (simp; done) | (simp; omega)) _))) hb1
      go_wp2_with fail
      refine (i_eachDue (tHeld.row.reach hr0 hB1) (by omega)).mono ?_
      rintro e w2 ⟨v, rfl, hO, hb2⟩
      obtain ⟨A, c, rfl, _, hI, _⟩ := hO.ints
      have hB2 : Below w.heap.size w w2 := bel_trans hB1 hb2
      rw [HDL.out] at hI ⊢
      go_wp2_with fail
      refine (i_Min hI (by omega) hpos HH.out).mono ?_
      rintro e w3 ⟨rfl, rfl⟩
      go_wp2
      go_ret
      exact ⟨rfl, hB2⟩
  · have HP := Lib.hid (decide_eq_false hp)
    rw [fEar_f hp]
    clear hp
    go_enter Try.func55, Try.ntmps55
    go_wp2_with fail
    refine (i_PoolOk (tPool.reach h ?hB) hz).mono ?_
    case hB => exact (by repeat (first | (with_reducible exact Below.refl _ _) | (with_reducible assumption) | (with_reducible refine bel_alloc ?_ _) | (with_reducible refine bel_drew ?_) | (with_reducible refine below_drewN ?_ _) | (with_reducible refine bel_put ?_ (by first | exact Nat.le_refl _ | (simp; done) | (simp; omega)) _)))
    rintro e w1 ⟨rfl, hb1⟩
    rw [HP.out]
    go_wp2
    go_ret
    exact ⟨rfl, bel_trans (by repeat (first | (with_reducible exact Below.refl _ _) | (with_reducible assumption) | (with_reducible refine bel_alloc ?_ _) | (with_reducible refine bel_drew ?_) | (with_reducible refine below_drewN ?_ _) | (with_reducible refine bel_put ?_ (by first | exact Nat.le_refl _ | (simp; done) | (simp; omega)) _))) hb1⟩
end Go.Proofs.Ytconcboeojpmdac
