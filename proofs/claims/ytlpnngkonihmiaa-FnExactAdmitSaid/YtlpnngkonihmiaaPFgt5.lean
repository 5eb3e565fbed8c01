/-
  A pool that keeps its latest tags alone: contracts of Forget, of both sides.
-/
import Derived.Test.YtlpnngkonihmiaaPMv5
namespace Go.Proofs.Ytlpnngkonihmiaa
set_option maxRecDepth 100000
set_option linter.unusedVariables false
set_option linter.unusedSimpArgs false
open Go.ChangeShapes Go.WideShapes Go.ChangeAt Go.RowKit
open Fld
theorem tail5 {K : IntKind} {w : World} {B n b off : Nat} {l : List Int} (h : Ints K w B (some ⟨b, off, none⟩) n l) (m : Nat) (hm : m ≤ n) : Ints K w B (some ⟨b, off + m, none⟩) (n - m) (l.drop m) := by
  refine ⟨by rw [List.length_drop, h.1], fun h0 => ?_, fun x hx => h.2.2 x (List.mem_of_mem_drop hx)⟩
  obtain ⟨b', off', e, hb, hc⟩ := h.2.1 (by omega)
  injection e with e
  injection e with e1 e2 _
  subst e1 e2
  refine ⟨b, off + m, rfl, hb, fun i hi => ?_⟩
  rw [Nat.add_assoc, hc (m + i) (by omega), List.getD_eq_getElem?_getD, List.getD_eq_getElem?_getD, List.getElem?_drop]
theorem plzR {w : World} {B : Nat} : tPool.R w B [.slice none 0 0, .slice none 0 0] plZ := makePool (p := plZ) ⟨none, 0, 0, rfl, Nat.le_refl _, by omega, rfl, fun h => absurd h (by omega)⟩ nilR
theorem plzO {w : World} : tPool.O w [.slice none 0 0, .slice none 0 0] plZ [] := by
  obtain ⟨F, h, rfl⟩ := makeOPool (w := w) (p := plZ) (v0 := .slice none 0 0) (v1 := .slice none 0 0) (F0 := []) (F1 := []) (.inl ⟨none, 0, rfl, by omega, rfl, rfl⟩) nilO
  exact h
/-- A result's two cells, stored into its block. -/
theorem put2_O {w : World} {g : Nat} {v0 v1 : Value} {p : DPool} {F : List Nat} (h : tPool.O w [v0, v1] p F) (hg : g ∉ F) : tPool.O ((w.setCell ⟨g, 0, none⟩ v0).setCell ⟨g, 1, none⟩ v1) [v0, v1] p F :=
  Ty.far3 (t := tPool) (Ty.far3 (t := tPool) h (p := ⟨g, 0, none⟩) hg v0) (p := ⟨g, 1, none⟩) hg v1
theorem i_newest {w : World} {B n c : Nat} {A : Option Addr} {l : List Int} (k : Nat) (hl : Ints .i64 w B A n l) (hnc : n ≤ c) (hc : c ≤ 9223372036854775807) (hk : (k : Int) ≤ 9223372036854775807) :
    Calls Try.prog 68 #[.slice A n c, .int .i64 k] w fun e w' => ∃ A' m c', e = .returned (.slice A' m c') ∧ Ints .i64 w B A' m (fgt k l) ∧ m ≤ c' ∧ c' ≤ 9223372036854775807 ∧ w = w' := by
  have hn := hl.1
  by_cases h : n ≤ k
  · have e := fgt_all (k := k) (l := l) (by omega)
    rw [e]
    have HN := Lib.hid hn
    clear hn e
    go_enter Try.func68, Try.ntmps68
    go_wp2
    go_ret
    exact ⟨A, n, c, rfl, hl, hnc, hc, rfl⟩
  · obtain ⟨b, off, rfl, hb, -⟩ := hl.2.1 (by omega)
    obtain ⟨m, rfl⟩ : ∃ m, n = m + k := ⟨n - k, by omega⟩
    have hm : 0 < m := by omega
    have hI := tail5 hl m (by omega)
    rw [show m + k - m = k by omega, show l.drop m = fgt k l by unfold fgt; rw [hn]; congr 1; omega] at hI
    have hI0 := Lib.hid hl
    have HN := Lib.hid hn
    clear hl hn
    go_enter Try.func68, Try.ntmps68
    go_wp2
    · rename_i hcm
      obtain rfl : k = 0 := by omega
      go_ret
      have e0 : fgt 0 l = [] := List.eq_nil_of_length_eq_zero hI.1
      rw [e0]
      exact ⟨_, 0, 0, rfl, Ints.nil, Nat.le_refl _, by omega, rfl⟩
    · go_ret
      exact ⟨_, k, c - m, rfl, hI, by omega, by omega, rfl⟩
set_option maxHeartbeats 2000000 in
theorem i_Forget {w : World} {cs : List Value} {p : DPool} {k : Int} (h : tPool.R w w.heap.size cs p) (hz : szPool p ≤ 1048576) (hw : (Lit.int .i64 k).wf = true) :
    Calls Try.prog 18 #[.agg cs.toArray, .int .i64 k] w fun e w' => ∃ cs' F, e = .returned (.agg cs'.toArray) ∧ tPool.O w' cs' (fForget p k) F ∧ New w.heap.size F ∧ Below w.heap.size w w' := by
  obtain ⟨A0, n0, c0, A1, n1, c1, rfl, -, -, -, hr0, -, -, -, hr1⟩ := openPool h
  have hI1 := slR_ints hr1
  by_cases hp : PlOk p
  · have HP := Lib.hid (decide_eq_true hp)
    by_cases hk : 0 ≤ k
    · obtain ⟨q, rfl⟩ : ∃ q : Nat, k = q := ⟨k.toNat, by omega⟩
      have hq : (q : Int) ≤ 9223372036854775807 := (i64_rg hw).2
      have hkb : decide ((q : Int) < 0) = false := by simp
      rw [fForget_t hp (by omega), Int.toNat_natCast]
      have hz2 : rsz szHeld p.1 + (fgt q p.2).length ≤ 1048576 := by rw [fgt_len]; unfold szPool at hz; omega
      clear hp hw
      go_enter Try.func18, Try.ntmps18
      go_wp2_with fail
      refine (i_PoolOk (tPool.reach h ?hB) hz).mono ?_
      case hB => exact (by repeat (first | (with_reducible exact Below.refl _ _) | (with_reducible assumption) | (with_reducible refine bel_alloc ?_ _) | (with_reducible refine bel_drew ?_) | (with_reducible refine below_drewN ?_ _) | (with_reducible refine bel_put ?_ (by first | exact Nat.le_refl _ | (simp; done) | (simp; omega)) _)))
      rintro e w1 ⟨rfl, hb1⟩
      rw [HP.out]
      have X1 : Box w1 w.heap.size 29 #[.slice A0 n0 c0, .slice A1 n1 c1] := Box.below ((Box.new w _ _).alloc _) hb1 (by simp; omega)
      have Y1 : Box w1 (w.heap.size + 1) 29 #[.slice none 0 0, .slice none 0 0] := Box.below (by simpa using Box.new (w.alloc _) 29 #[.slice none 0 0, .slice none 0 0]) hb1 (by simp)
      have x0 : w1.cell? ⟨w.heap.size, 0, none⟩ = some (.slice A0 n0 c0) := X1.cell 0
      have x1 : w1.cell? ⟨w.heap.size, 1, none⟩ = some (.slice A1 n1 c1) := X1.cell 1
      have hB1 : Below w.heap.size w w1 := bel_trans (by repeat (first | (with_reducible exact Below.refl _ _) | (with_reducible assumption) | (with_reducible refine bel_alloc ?_ _) | (with_reducible refine bel_drew ?_) | (with_reducible refine below_drewN ?_ _) | (with_reducible refine bel_put ?_ (by first | exact Nat.le_refl _ | (simp; done) | (simp; omega)) _))) hb1
      have z1 : w.heap.size + 2 ≤ w1.heap.size := by have := hb1.size; simpa using this
      clear hb1
      go_wp2_with fail
      go_region_held3 (fun w' => w'.cell? ⟨w.heap.size, 0, none⟩ = some (.slice A0 n0 c0) ∧ w'.cell? ⟨w.heap.size, 1, none⟩ = some (.slice A1 n1 c1)) (first | (exact ⟨x0, x1⟩) | (exact ⟨X2.cell 0, X2.cell 1⟩) | (exact ⟨X3.cell 0, X3.cell 1⟩) | go_keep)
        (first
          | (go_at_call 67; refine (i_tags _ _ _ _ _ _ _).mono ?_; rintro e w2 ⟨rfl, hb2⟩; have hs2 : Below w1.heap.size w1 w2 := bel_trans (by repeat (first | (with_reducible exact Below.refl _ _) | (with_reducible assumption) | (with_reducible refine bel_alloc ?_ _) | (with_reducible refine bel_drew ?_) | (with_reducible refine below_drewN ?_ _) | (with_reducible refine bel_put ?_ (by first | exact Nat.le_refl _ | (simp; done) | (simp; omega)) _))) hb2; have X2 := X1.below hs2 X1.size)
          | (go_at_call 68; refine (i_newest (B := w2.heap.size) q (reach (reach hI1.1 hB1) hs2) hI1.2.1 hI1.2.2 hq).mono ?_; rintro e w2' ⟨A2, n2, c2, rfl, hJ, hJ1, hJ2, rfl⟩)
          | (go_at_call 69; refine (i_PlCopy (tHeld.row.reach (tHeld.row.reach hr0 (bel_trans hB1 hs2)) (by repeat (first | (with_reducible exact Below.refl _ _) | (with_reducible assumption) | (with_reducible refine bel_alloc ?_ _) | (with_reducible refine bel_drew ?_) | (with_reducible refine below_drewN ?_ _) | (with_reducible refine bel_put ?_ (by first | exact Nat.le_refl _ | (simp; done) | (simp; omega)) _)))) ⟨A2, n2, c2, rfl, hJ1, hJ2, reach hJ (by repeat (first | (with_reducible exact Below.refl _ _) | (with_reducible assumption) | (with_reducible refine bel_alloc ?_ _) | (with_reducible refine bel_drew ?_) | (with_reducible refine below_drewN ?_ _) | (with_reducible refine bel_put ?_ (by first | exact Nat.le_refl _ | (simp; done) | (simp; omega)) _)))⟩ hz2).mono ?_; rintro e w3 ⟨B0, d0, B1, d1, F, rfl, hO, hN, hb3⟩; have hs3 : Below w2.heap.size w2 w3 := bel_trans (by repeat (first | (with_reducible exact Below.refl _ _) | (with_reducible assumption) | (with_reducible refine bel_alloc ?_ _) | (with_reducible refine bel_drew ?_) | (with_reducible refine below_drewN ?_ _) | (with_reducible refine bel_put ?_ (by first | exact Nat.le_refl _ | (simp; done) | (simp; omega)) _))) hb3; have X3 := X2.below hs3 X2.size; have Y3 := (Y1.below hs2 Y1.size).below hs3 (Y1.below hs2 Y1.size).size; have q0 := Y3.cell 0; have q1 := Y3.cell 1; have f0 := Y3.frozen 0; have f1 := Y3.frozen 1))
      go_wp2
      have RR := (Y3.put 0 (.slice B0 p.1.length d0)).put 1 (.slice B1 (fgt q p.2).length d1)
      have e0 := RR.cell 0; have e1 := RR.cell 1
      have zz := hs2.size
      have hM : New (w.heap.size + 2) F := hN.lower (by first | (simp; omega) | omega)
      refine bodyPost_ret (v := .agg #[.slice B0 p.1.length d0, .slice B1 (fgt q p.2).length d1]) (by simp [results, Try.results18, go_sem, e0, e1]) rfl ⟨[.slice B0 p.1.length d0, .slice B1 (fgt q p.2).length d1], F, rfl, put2_O hO (hM.not (by omega)), hM.lower (by omega), ?_⟩
      exact bel_put (bel_put (bel_trans (bel_trans hB1 hs2) hs3) (by simp) _) (by simp) _
    · have hkb : decide (k < 0) = true := decide_eq_true (by omega)
      rw [fForget_f (fun x => hk x.2)]
      clear hp hw
      go_enter Try.func18, Try.ntmps18
      go_wp2_with fail
      refine (i_PoolOk (tPool.reach h ?hB) hz).mono ?_
      case hB => exact (by repeat (first | (with_reducible exact Below.refl _ _) | (with_reducible assumption) | (with_reducible refine bel_alloc ?_ _) | (with_reducible refine bel_drew ?_) | (with_reducible refine below_drewN ?_ _) | (with_reducible refine bel_put ?_ (by first | exact Nat.le_refl _ | (simp; done) | (simp; omega)) _)))
      rintro e w1 ⟨rfl, hb1⟩
      rw [HP.out]
      have Y1 : Box w1 (w.heap.size + 1) 29 #[.slice none 0 0, .slice none 0 0] := Box.below (by simpa using Box.new (w.alloc _) 29 #[.slice none 0 0, .slice none 0 0]) hb1 (by simp)
      have q0 := Y1.cell 0; have q1 := Y1.cell 1; have f0 := Y1.frozen 0; have f1 := Y1.frozen 1
      go_wp2
      have RR := (Y1.put 0 (.slice none 0 0)).put 1 (.slice none 0 0)
      have e0 := RR.cell 0; have e1 := RR.cell 1
      refine bodyPost_ret (v := .agg #[.slice none 0 0, .slice none 0 0]) (by simp [results, Try.results18, go_sem, e0, e1]) rfl ⟨[.slice none 0 0, .slice none 0 0], [], rfl, plzO, New.nil _, ?_⟩
      exact bel_put (bel_put (bel_trans (by repeat (first | (with_reducible exact Below.refl _ _) | (with_reducible assumption) | (with_reducible refine bel_alloc ?_ _) | (with_reducible refine bel_drew ?_) | (with_reducible refine below_drewN ?_ _) | (with_reducible refine bel_put ?_ (by first | exact Nat.le_refl _ | (simp; done) | (simp; omega)) _))) hb1) (by simp) _) (by simp) _
  · have HP := Lib.hid (decide_eq_false hp)
    rw [fForget_f (fun x => hp x.1)]
    clear hp hw
    go_enter Try.func18, Try.ntmps18
    go_wp2_with fail
    refine (i_PoolOk (tPool.reach h ?hB) hz).mono ?_
    case hB => exact (by repeat (first | (with_reducible exact Below.refl _ _) | (with_reducible assumption) | (with_reducible refine bel_alloc ?_ _) | (with_reducible refine bel_drew ?_) | (with_reducible refine below_drewN ?_ _) | (with_reducible refine bel_put ?_ (by first | exact Nat.le_refl _ | (simp; done) | (simp; omega)) _)))
    rintro e w1 ⟨rfl, hb1⟩
    rw [HP.out]
    have Y1 : Box w1 (w.heap.size + 1) 29 #[.slice none 0 0, .slice none 0 0] := Box.below (by simpa using Box.new (w.alloc _) 29 #[.slice none 0 0, .slice none 0 0]) hb1 (by simp)
    have q0 := Y1.cell 0; have q1 := Y1.cell 1; have f0 := Y1.frozen 0; have f1 := Y1.frozen 1
    go_wp2
    have RR := (Y1.put 0 (.slice none 0 0)).put 1 (.slice none 0 0)
    have e0 := RR.cell 0; have e1 := RR.cell 1
    refine bodyPost_ret (v := .agg #[.slice none 0 0, .slice none 0 0]) (by simp [results, Try.results18, go_sem, e0, e1]) rfl ⟨[.slice none 0 0, .slice none 0 0], [], rfl, plzO, New.nil _, ?_⟩
    exact bel_put (bel_put (bel_trans (by repeat (first | (with_reducible exact Below.refl _ _) | (with_reducible assumption) | (with_reducible refine bel_alloc ?_ _) | (with_reducible refine bel_drew ?_) | (with_reducible refine below_drewN ?_ _) | (with_reducible refine bel_put ?_ (by first | exact Nat.le_refl _ | (simp; done) | (simp; omega)) _))) hb1) (by simp) _) (by simp) _
set_option maxHeartbeats 2000000 in
theorem s_Forget {w : World} {cs : List Value} {p : DPool} {k : Int} (h : tPool.R w w.heap.size cs p) (hz : szPool p ≤ 1048576) (hw : (Lit.int .i64 k).wf = true) :
    Calls Try.prog 16 #[.agg cs.toArray, .int .i64 k] w fun e w' => ∃ cs', e = .returned (.agg cs'.toArray) ∧ tPool.R w' w'.heap.size cs' (fForget p k) ∧ Below w.heap.size w w' := by
  obtain ⟨i0, hi0, hz0, hz1, hz2⟩ := info_parts info_ci
  obtain ⟨A0, n0, c0, A1, n1, c1, rfl, -, -, -, hr0, -, -, -, hr1⟩ := openPool h
  by_cases hp : PlOk p
  rotate_left
  · have HP := Lib.hid (decide_eq_false hp)
    rw [fForget_f (fun x => hp x.1)]
    clear hp hw
    go_enter Try.func16, Try.ntmps16
    go_wp2_with fail
    refine (s_PoolOk (tPool.reach h ?hB) hz).mono ?_
    case hB => exact (by repeat (first | (with_reducible exact Below.refl _ _) | (with_reducible assumption) | (with_reducible refine bel_alloc ?_ _) | (with_reducible refine bel_drew ?_) | (with_reducible refine below_drewN ?_ _) | (with_reducible refine bel_put ?_ (by first | exact Nat.le_refl _ | (simp; done) | (simp; omega)) _)))
    rintro e w1 ⟨rfl, hb1⟩
    rw [HP.out]
    have X1 : Box w1 w.heap.size 29 #[.slice A0 n0 c0, .slice A1 n1 c1] := Box.below ((Box.new w _ _).alloc _) hb1 (by simp; omega)
    have Y1 : Box w1 (w.heap.size + 1) 29 #[.slice none 0 0, .slice none 0 0] := Box.below (by simpa using Box.new (w.alloc _) 29 #[.slice none 0 0, .slice none 0 0]) hb1 (by simp)
    have x0 : w1.cell? ⟨w.heap.size, 0, none⟩ = some (.slice A0 n0 c0) := X1.cell 0
    have x1 : w1.cell? ⟨w.heap.size, 1, none⟩ = some (.slice A1 n1 c1) := X1.cell 1
    have y0 := Y1.cell 0; have y1 := Y1.cell 1; have y2 := Y1.frozen 0; have y3 := Y1.frozen 1
    have hB1 : Below w.heap.size w w1 := bel_trans (by repeat (first | (with_reducible exact Below.refl _ _) | (with_reducible assumption) | (with_reducible refine bel_alloc ?_ _) | (with_reducible refine bel_drew ?_) | (with_reducible refine below_drewN ?_ _) | (with_reducible refine bel_put ?_ (by first | exact Nat.le_refl _ | (simp; done) | (simp; omega)) _))) hb1
    have z1 : w.heap.size + 2 ≤ w1.heap.size := by have := hb1.size; simpa using this
    clear hb1
    go_wp2
    have Y3 := Y1
    have RR := (Box.put Y3 0 (.slice none 0 0)).put 1 (.slice none 0 0)
    have e0 := RR.cell 0; have e1 := RR.cell 1
    refine bodyPost_ret (v := .agg #[.slice none 0 0, .slice none 0 0]) (by simp [results, Try.results16, go_sem, e0, e1]) rfl ⟨[.slice none 0 0, .slice none 0 0], rfl, tPool.read (put2_O (plzO) (by simp)), ?_⟩
    exact bel_put (bel_put (hB1) (by simp) _) (by simp) _
  have HP := Lib.hid (decide_eq_true hp)
  by_cases hk : 0 ≤ k
  rotate_left
  · have hkb : decide (k < 0) = true := decide_eq_true (by omega)
    rw [fForget_f (fun x => hk x.2)]
    clear hp hw
    go_enter Try.func16, Try.ntmps16
    go_wp2_with fail
    refine (s_PoolOk (tPool.reach h ?hB) hz).mono ?_
    case hB => exact (by repeat (first | (with_reducible exact Below.refl _ _) | (with_reducible assumption) | (with_reducible refine bel_alloc ?_ _) | (with_reducible refine bel_drew ?_) | (with_reducible refine below_drewN ?_ _) | (with_reducible refine bel_put ?_ (by first | exact Nat.le_refl _ | (simp; done) | (simp; omega)) _)))
    rintro e w1 ⟨rfl, hb1⟩
    rw [HP.out]
    have X1 : Box w1 w.heap.size 29 #[.slice A0 n0 c0, .slice A1 n1 c1] := Box.below ((Box.new w _ _).alloc _) hb1 (by simp; omega)
    have Y1 : Box w1 (w.heap.size + 1) 29 #[.slice none 0 0, .slice none 0 0] := Box.below (by simpa using Box.new (w.alloc _) 29 #[.slice none 0 0, .slice none 0 0]) hb1 (by simp)
    have x0 : w1.cell? ⟨w.heap.size, 0, none⟩ = some (.slice A0 n0 c0) := X1.cell 0
    have x1 : w1.cell? ⟨w.heap.size, 1, none⟩ = some (.slice A1 n1 c1) := X1.cell 1
    have y0 := Y1.cell 0; have y1 := Y1.cell 1; have y2 := Y1.frozen 0; have y3 := Y1.frozen 1
    have hB1 : Below w.heap.size w w1 := bel_trans (by repeat (first | (with_reducible exact Below.refl _ _) | (with_reducible assumption) | (with_reducible refine bel_alloc ?_ _) | (with_reducible refine bel_drew ?_) | (with_reducible refine below_drewN ?_ _) | (with_reducible refine bel_put ?_ (by first | exact Nat.le_refl _ | (simp; done) | (simp; omega)) _))) hb1
    have z1 : w.heap.size + 2 ≤ w1.heap.size := by have := hb1.size; simpa using this
    clear hb1
    go_wp2
    have Y3 := Y1
    have RR := (Box.put Y3 0 (.slice none 0 0)).put 1 (.slice none 0 0)
    have e0 := RR.cell 0; have e1 := RR.cell 1
    refine bodyPost_ret (v := .agg #[.slice none 0 0, .slice none 0 0]) (by simp [results, Try.results16, go_sem, e0, e1]) rfl ⟨[.slice none 0 0, .slice none 0 0], rfl, tPool.read (put2_O (plzO) (by simp)), ?_⟩
    exact bel_put (bel_put (hB1) (by simp) _) (by simp) _
  obtain ⟨q, rfl⟩ : ∃ q : Nat, k = q := ⟨k.toNat, by omega⟩
  have hq : (q : Int) ≤ 9223372036854775807 := (i64_rg hw).2
  have hkb : decide ((q : Int) < 0) = false := by simp
  rw [fForget_t hp (by omega), Int.toNat_natCast]
  have hl60 : p.2.length ≤ 60 := hp.1.2
  clear hp hw
  by_cases hlt : q < p.2.length
  · obtain ⟨m, hm⟩ : ∃ m, p.2.length = m + q := ⟨p.2.length - q, by omega⟩
    go_enter Try.func16, Try.ntmps16
    go_wp2_with fail
    refine (s_PoolOk (tPool.reach h ?hB) hz).mono ?_
    case hB => exact (by repeat (first | (with_reducible exact Below.refl _ _) | (with_reducible assumption) | (with_reducible refine bel_alloc ?_ _) | (with_reducible refine bel_drew ?_) | (with_reducible refine below_drewN ?_ _) | (with_reducible refine bel_put ?_ (by first | exact Nat.le_refl _ | (simp; done) | (simp; omega)) _)))
    rintro e w1 ⟨rfl, hb1⟩
    rw [HP.out]
    have X1 : Box w1 w.heap.size 29 #[.slice A0 n0 c0, .slice A1 n1 c1] := Box.below ((Box.new w _ _).alloc _) hb1 (by simp; omega)
    have Y1 : Box w1 (w.heap.size + 1) 29 #[.slice none 0 0, .slice none 0 0] := Box.below (by simpa using Box.new (w.alloc _) 29 #[.slice none 0 0, .slice none 0 0]) hb1 (by simp)
    have x0 : w1.cell? ⟨w.heap.size, 0, none⟩ = some (.slice A0 n0 c0) := X1.cell 0
    have x1 : w1.cell? ⟨w.heap.size, 1, none⟩ = some (.slice A1 n1 c1) := X1.cell 1
    have y0 := Y1.cell 0; have y1 := Y1.cell 1; have y2 := Y1.frozen 0; have y3 := Y1.frozen 1
    have hB1 : Below w.heap.size w w1 := bel_trans (by repeat (first | (with_reducible exact Below.refl _ _) | (with_reducible assumption) | (with_reducible refine bel_alloc ?_ _) | (with_reducible refine bel_drew ?_) | (with_reducible refine below_drewN ?_ _) | (with_reducible refine bel_put ?_ (by first | exact Nat.le_refl _ | (simp; done) | (simp; omega)) _))) hb1
    have z1 : w.heap.size + 2 ≤ w1.heap.size := by have := hb1.size; simpa using this
    clear hb1
    go_wp2_with fail
    refine (s_own5 (tHeld.row.reach hr0 hB1) (tIs.reach hr1 hB1) hz).mono ?_
    rintro e w2 ⟨B0, d0, B1, d1, F, rfl, hO, hN, hb2⟩
    clear y0 y1 y2 y3
    have hB2 : Below w.heap.size w w2 := bel_trans hB1 hb2
    obtain ⟨_, _, F0, _, _, F1, ee, eF, -, -, hO0, -, -, hO1⟩ := openOPool hO
    injection ee with e1 ee
    injection ee with e2 _
    injection e1 with e11 e12 e13
    injection e2 with e21 e22 e23
    subst e11 e13 e21 e23 eF
    clear e12 e22
    dsimp only at hO0 hO1
    have hJ := slR_ints (tIs.read hO1)
    have Y2 := Y1.below hb2 Y1.size
    have hM : New (w.heap.size + 2) (F0 ++ F1) := hN.lower z1
    have z2 : w.heap.size + 2 ≤ w2.heap.size := Nat.le_trans z1 hb2.size
    have hwr : (q : Int) < ((m + q : Nat) : Int) := by omega
    obtain ⟨b, off, rfl, hb, -⟩ := hJ.1.2.1 (by omega)
    have hT := tail5 hJ.1 m (by omega)
    rw [show p.2.length - m = q by omega, show p.2.drop m = fgt q p.2 by unfold fgt; congr 1; omega] at hT
    have hd : m + q ≤ d1 := by have := hJ.2.1; omega
    have hdm : d1 ≤ 9223372036854775807 := hJ.2.2
    have HJ := Lib.hid hJ
    clear hJ
    rw [hm]
    by_cases hcm : d1 = m
    · obtain rfl : q = 0 := by omega
      have Y3 := (Y2.alloc (.cells #[.slice B0 p.1.length d0, .slice (some ⟨w2.heap.size + 1, 0, none⟩) 0 0] 29)).alloc (.cells #[] 3)
      have y0 := Y3.cell 0; have y1 := Y3.cell 1; have y2 := Y3.frozen 0; have y3 := Y3.frozen 1
      go_wp2
      have e0 : fgt 0 p.2 = [] := List.eq_nil_of_length_eq_zero hT.1
      rw [e0]
      obtain ⟨F', hO', eF'⟩ := makeOPool (p := (p.1, [])) (v1 := .slice (some ⟨w2.heap.size + 1, 0, none⟩) 0 0) hO0 (.inl ⟨_, 0, rfl, by omega, rfl, rfl⟩)
      subst eF'
      have RR := (Box.put Y3 0 (.slice B0 p.1.length d0)).put 1 (.slice (some ⟨w2.heap.size + 1, 0, none⟩) 0 0)
      have e0 := RR.cell 0; have e1 := RR.cell 1
      refine bodyPost_ret (v := .agg #[.slice B0 p.1.length d0, .slice (some ⟨w2.heap.size + 1, 0, none⟩) 0 0]) (by simp [results, Try.results16, go_sem, e0, e1]) rfl ⟨[.slice B0 p.1.length d0, .slice (some ⟨w2.heap.size + 1, 0, none⟩) 0 0], rfl, tPool.read (put2_O (Ty.below (t := tPool) hO' (by repeat (first | (with_reducible exact Below.refl _ _) | (with_reducible assumption) | (with_reducible refine bel_alloc ?_ _) | (with_reducible refine bel_drew ?_) | (with_reducible refine below_drewN ?_ _) | (with_reducible refine bel_put ?_ (by first | exact Nat.le_refl _ | (simp; done) | (simp; omega)) _)))) ((fun hx => hM.not (g := w.heap.size + 1) (by omega) (List.mem_append.2 (.inl (by simpa using hx)))))), ?_⟩
      exact bel_put (bel_put (bel_trans hB2 (by repeat (first | (with_reducible exact Below.refl _ _) | (with_reducible assumption) | (with_reducible refine bel_alloc ?_ _) | (with_reducible refine bel_drew ?_) | (with_reducible refine below_drewN ?_ _) | (with_reducible refine bel_put ?_ (by first | exact Nat.le_refl _ | (simp; done) | (simp; omega)) _)))) (by simp) _) (by simp) _
    · have hE : ((w2.alloc (.cells #[.slice B0 p.1.length d0, .slice (some ⟨b, off, none⟩) (m + q) d1] 29)).alloc (.cells #[] 3)).ownsRow (w2.heap.size + 1) 3 1 (.slice (some ⟨w2.heap.size + 1, 0, none⟩) 0 0) 0 [] := by simpa using empty9 (w2.alloc (.cells #[.slice B0 p.1.length d0, .slice (some ⟨b, off, none⟩) (m + q) d1] 29)) 3
      have hS : Src ((w2.alloc (.cells #[.slice B0 p.1.length d0, .slice (some ⟨b, off, none⟩) (m + q) d1] 29)).alloc (.cells #[] 3)) 1 (some ⟨b, off + m, none⟩) q ((fgt q p.2).map (Value.int .i64)) := Src.of_ints (reach hT (by repeat (first | (with_reducible exact Below.refl _ _) | (with_reducible assumption) | (with_reducible refine bel_alloc ?_ _) | (with_reducible refine bel_drew ?_) | (with_reducible refine below_drewN ?_ _) | (with_reducible refine bel_put ?_ (by first | exact Nat.le_refl _ | (simp; done) | (simp; omega)) _))))
      go_wp2_with (at_builtin; refine wpList_app _ rfl (.tmp 21) (.tmp 29) _ rfl (w2.heap.size + 1) 3 i0 _ 1 8 Try.underlying23 hi0 hz0 hz1 hz2 rfl (by omega) (.slice (some ⟨w2.heap.size + 1, 0, none⟩) 0 0) 0 [] rfl hE _ q (d1 - m) ((fgt q p.2).map (Value.int .i64)) rfl hS (one_ints _ _) (by simp only [maxLen]; omega) (by omega) (by simp; done) ?_; intro v1 w3 hown hgr hat; obtain ⟨Ad, cd, Fd, rfl, hOd, hNd⟩ := own_slice (Own.of (n := 0 + q) (by simpa using hown) hT.2.2); have T3 : Box w3 w2.heap.size 29 #[.slice B0 p.1.length d0, .slice (some ⟨b, off, none⟩) (m + q) d1] := Box.grown ((Box.new w2 _ _).alloc _) hgr (fun e => by have e := Option.some.inj (show some w2.heap.size = some (w2.heap.size + 1) from e); omega); have Y3 : Box w3 (w.heap.size + 1) 29 #[.slice none 0 0, .slice none 0 0] := Box.grown ((Y2.alloc _).alloc _) hgr (fun e => by have e := Option.some.inj (show some (w.heap.size + 1) = some (w2.heap.size + 1) from e); omega); have y0 := Y3.cell 0; have y1 := Y3.cell 1; have y2 := Y3.frozen 0; have y3 := Y3.frozen 1; have t0 := T3.cell 0; have t1 := T3.cell 1; have t2 := T3.frozen 0; have t3 := T3.frozen 1; have hO3 : tHeld.row.O w3 _ p.1 F0 := own_past (w := ((w2.alloc (.cells #[.slice B0 p.1.length d0, .slice (some ⟨b, off, none⟩) (m + q) d1] 29)).alloc (.cells #[] 3))) (Ty.below (t := tHeld.row) hO0 (by repeat (first | (with_reducible exact Below.refl _ _) | (with_reducible assumption) | (with_reducible refine bel_alloc ?_ _) | (with_reducible refine bel_drew ?_) | (with_reducible refine below_drewN ?_ _) | (with_reducible refine bel_put ?_ (by first | exact Nat.le_refl _ | (simp; done) | (simp; omega)) _)))) hgr (fun b hb hx => by have e := Option.some.inj (show some (w2.heap.size + 1) = some b from hb); have h1 := tHeld.row.lt hO0 b hx; omega); have hs3 : Below w2.heap.size w2 w3 := Below.grown (w := ((w2.alloc (.cells #[.slice B0 p.1.length d0, .slice (some ⟨b, off, none⟩) (m + q) d1] 29)).alloc (.cells #[] 3))) (by repeat (first | (with_reducible exact Below.refl _ _) | (with_reducible assumption) | (with_reducible refine bel_alloc ?_ _) | (with_reducible refine bel_drew ?_) | (with_reducible refine below_drewN ?_ _) | (with_reducible refine bel_put ?_ (by first | exact Nat.le_refl _ | (simp; done) | (simp; omega)) _))) hgr (by first | (simp; done) | (simp; omega)) (fun b hb => by have e := Option.some.inj (show some (w2.heap.size + 1) = some b from hb); omega))
      have hG : New (w.heap.size + 2) (F0 ++ Fd) := new_pair (hM.sub (fun f hf => List.mem_append.2 (.inl hf)) (List.nodup_append.1 hM.1).1) (hNd.lower (by omega)) (fun f h1 h2 => by have := tHeld.row.lt hO0 f h1; have := hNd.2 f h2; omega)
      obtain ⟨F', hO', eF'⟩ := makeOPool (p := (p.1, fgt q p.2)) (Ty.far3 (t := tHeld.row) hO3 (p := ⟨w2.heap.size, 1, none⟩) (fun hx => by have h1 := tHeld.row.lt hO0 _ hx; dsimp only at h1; omega) (.slice Ad (fgt q p.2).length cd)) (Ty.far3 (t := tIs) hOd (p := ⟨w2.heap.size, 1, none⟩) (fun hx => by have h1 := hNd.2 _ hx; dsimp only at h1; omega) (.slice Ad (fgt q p.2).length cd))
      subst eF'
      have RR := (Box.put (Y3.far (p := ⟨w2.heap.size, 1, none⟩) (by show w.heap.size + 1 ≠ w2.heap.size; omega) (.slice Ad (fgt q p.2).length cd)) 0 (.slice B0 p.1.length d0)).put 1 (.slice Ad (fgt q p.2).length cd)
      have e0 := RR.cell 0; have e1 := RR.cell 1
      refine bodyPost_ret (v := .agg #[.slice B0 p.1.length d0, .slice Ad (fgt q p.2).length cd]) (by simp [results, Try.results16, go_sem, e0, e1]) rfl ⟨[.slice B0 p.1.length d0, .slice Ad (fgt q p.2).length cd], rfl, tPool.read (put2_O (hO') (hG.not (by omega))), ?_⟩
      exact bel_put (bel_put (bel_put (bel_trans hB2 hs3) (by show w.heap.size ≤ w2.heap.size; omega) _) (by simp) _) (by simp) _
  · rw [fgt_all (k := q) (l := p.2) (by omega)]
    go_enter Try.func16, Try.ntmps16
    go_wp2_with fail
    refine (s_PoolOk (tPool.reach h ?hB) hz).mono ?_
    case hB => exact (by repeat (first | (with_reducible exact Below.refl _ _) | (with_reducible assumption) | (with_reducible refine bel_alloc ?_ _) | (with_reducible refine bel_drew ?_) | (with_reducible refine below_drewN ?_ _) | (with_reducible refine bel_put ?_ (by first | exact Nat.le_refl _ | (simp; done) | (simp; omega)) _)))
    rintro e w1 ⟨rfl, hb1⟩
    rw [HP.out]
    have X1 : Box w1 w.heap.size 29 #[.slice A0 n0 c0, .slice A1 n1 c1] := Box.below ((Box.new w _ _).alloc _) hb1 (by simp; omega)
    have Y1 : Box w1 (w.heap.size + 1) 29 #[.slice none 0 0, .slice none 0 0] := Box.below (by simpa using Box.new (w.alloc _) 29 #[.slice none 0 0, .slice none 0 0]) hb1 (by simp)
    have x0 : w1.cell? ⟨w.heap.size, 0, none⟩ = some (.slice A0 n0 c0) := X1.cell 0
    have x1 : w1.cell? ⟨w.heap.size, 1, none⟩ = some (.slice A1 n1 c1) := X1.cell 1
    have y0 := Y1.cell 0; have y1 := Y1.cell 1; have y2 := Y1.frozen 0; have y3 := Y1.frozen 1
    have hB1 : Below w.heap.size w w1 := bel_trans (by repeat (first | (with_reducible exact Below.refl _ _) | (with_reducible assumption) | (with_reducible refine bel_alloc ?_ _) | (with_reducible refine bel_drew ?_) | (with_reducible refine below_drewN ?_ _) | (with_reducible refine bel_put ?_ (by first | exact Nat.le_refl _ | (simp; done) | (simp; omega)) _))) hb1
    have z1 : w.heap.size + 2 ≤ w1.heap.size := by have := hb1.size; simpa using this
    clear hb1
    go_wp2_with fail
    refine (s_own5 (tHeld.row.reach hr0 hB1) (tIs.reach hr1 hB1) hz).mono ?_
    rintro e w2 ⟨B0, d0, B1, d1, F, rfl, hO, hN, hb2⟩
    clear y0 y1 y2 y3
    have hB2 : Below w.heap.size w w2 := bel_trans hB1 hb2
    obtain ⟨_, _, F0, _, _, F1, ee, eF, -, -, hO0, -, -, hO1⟩ := openOPool hO
    injection ee with e1 ee
    injection ee with e2 _
    injection e1 with e11 e12 e13
    injection e2 with e21 e22 e23
    subst e11 e13 e21 e23 eF
    clear e12 e22
    dsimp only at hO0 hO1
    have hJ := slR_ints (tIs.read hO1)
    have Y2 := Y1.below hb2 Y1.size
    have hM : New (w.heap.size + 2) (F0 ++ F1) := hN.lower z1
    have z2 : w.heap.size + 2 ≤ w2.heap.size := Nat.le_trans z1 hb2.size
    have hwr : ¬ (q : Int) < (p.2.length : Int) := by omega
    have Y3 := Y2.alloc (.cells #[.slice B0 p.1.length d0, .slice B1 p.2.length d1] 29)
    have y0 := Y3.cell 0; have y1 := Y3.cell 1; have y2 := Y3.frozen 0; have y3 := Y3.frozen 1
    go_wp2
    have RR := (Box.put Y3 0 (.slice B0 p.1.length d0)).put 1 (.slice B1 p.2.length d1)
    have e0 := RR.cell 0; have e1 := RR.cell 1
    refine bodyPost_ret (v := .agg #[.slice B0 p.1.length d0, .slice B1 p.2.length d1]) (by simp [results, Try.results16, go_sem, e0, e1]) rfl ⟨[.slice B0 p.1.length d0, .slice B1 p.2.length d1], rfl, tPool.read (put2_O (Ty.below (t := tPool) hO (by repeat (first | (with_reducible exact Below.refl _ _) | (with_reducible assumption) | (with_reducible refine bel_alloc ?_ _) | (with_reducible refine bel_drew ?_) | (with_reducible refine below_drewN ?_ _) | (with_reducible refine bel_put ?_ (by first | exact Nat.le_refl _ | (simp; done) | (simp; omega)) _)))) (hM.not (by omega))), ?_⟩
    exact bel_put (bel_put (bel_trans hB2 (by repeat (first | (with_reducible exact Below.refl _ _) | (with_reducible assumption) | (with_reducible refine bel_alloc ?_ _) | (with_reducible refine bel_drew ?_) | (with_reducible refine below_drewN ?_ _) | (with_reducible refine bel_put ?_ (by first | exact Nat.le_refl _ | (simp; done) | (simp; omega)) _)))) (by simp) _) (by simp) _
end Go.Proofs.Ytlpnngkonihmiaa
