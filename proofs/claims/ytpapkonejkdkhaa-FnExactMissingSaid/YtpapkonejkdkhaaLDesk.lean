/-
  The laws' functions on Desk.
-/
import Derived.Test.YtpapkonejkdkhaaMk
import Derived.Test.YtpapkonejkdkhaaLWholeS
namespace Go.Proofs.Ytpapkonejkdkhaa
set_option maxRecDepth 100000
set_option linter.unusedVariables false
set_option linter.unusedSimpArgs false
open Go.ChangeShapes Go.WideShapes Go.ChangeAt Go.RowKit
theorem o_szDesk_t {w : World} {cs : List Value} {p : DDesk} {k : Int} (h : tDesk.R w w.heap.size cs p) (h1 : 0 ≤ k) (h2 : k ≤ 1048576) (h3 : (szDesk p : Int) ≤ k) :
    Calls Try.prog 33 #[.agg cs.toArray, .int .i64 k] w fun e w' => e = .returned (.int .i64 (k - szDesk p)) ∧ Below w.heap.size w w' := by
  obtain ⟨A0, n0, c0, A1, n1, c1, rfl, ha0, hb0, hl0, hr0, ha1, hb1, hl1, hr1⟩ := openDesk h
  obtain ⟨r0, l1⟩ := p
  try dsimp only [szDesk] at *
  subst hl0
  subst hl1
  have d0 : decide (k - ((rsz szWhole r0 : Nat) : Int) < 0) = false := by simp; omega
  have d1 : decide (k - ((rsz szWhole r0 : Nat) : Int) - ((l1.length : Nat) : Int) < 0) = false := by simp; omega
  go_enter Try.func33, Try.ntmps33
  go_wp2_with fail
  refine (o_szWholeS_t (tWhole.row.reach hr0 ?hB) (by omega) (by omega) (by omega)).mono ?_
  case hB => exact (by repeat (first | (with_reducible exact Below.refl _ _) | (with_reducible assumption) | (with_reducible refine bel_alloc ?_ _) | (with_reducible refine bel_drew ?_) | (with_reducible refine below_drewN ?_ _) | (with_reducible refine bel_put ?_ (by first | exact Nat.le_refl _ | (simp; done) | (simp; omega)) _)))
  rintro e w1 ⟨rfl, hb1⟩
  have hB1 : Below w.heap.size w w1 := bel_trans (by repeat (first | (with_reducible exact Below.refl _ _) | (with_reducible assumption) | (with_reducible refine bel_alloc ?_ _) | (with_reducible refine bel_drew ?_) | (with_reducible refine below_drewN ?_ _) | (with_reducible refine bel_put ?_ (by first | exact Nat.le_refl _ | (simp; done) | (simp; omega)) _))) hb1
  have P1 : Box w1 w.heap.size 53 #[.slice A0 r0.length c0, .slice A1 l1.length c1] := (Box.new _ _ _).below hb1 (by first | (simp; done) | (simp; omega))
  have e0_1 := P1.cell 1
  go_wp2_with fail
  refine (o_szIntS_t (tIs.reach hr1 ?hB) (by omega) (by omega) (by omega)).mono ?_
  case hB => exact (by repeat (first | (with_reducible exact Below.refl _ _) | (with_reducible assumption) | (with_reducible refine bel_alloc ?_ _) | (with_reducible refine bel_drew ?_) | (with_reducible refine below_drewN ?_ _) | (with_reducible refine bel_put ?_ (by first | exact Nat.le_refl _ | (simp; done) | (simp; omega)) _)))
  rintro e w2 ⟨rfl, hb2⟩
  have hB2 : Below w.heap.size w w2 := bel_trans (by repeat (first | (with_reducible exact Below.refl _ _) | (with_reducible assumption) | (with_reducible refine bel_alloc ?_ _) | (with_reducible refine bel_drew ?_) | (with_reducible refine below_drewN ?_ _) | (with_reducible refine bel_put ?_ (by first | exact Nat.le_refl _ | (simp; done) | (simp; omega)) _))) hb2
  have P2 := P1.below hb2 P1.size
  go_wp2
  go_ret
  exact ⟨ret_int (by omega), hB2⟩
theorem o_szDesk_f {w : World} {cs : List Value} {p : DDesk} {k : Int} (h : tDesk.R w w.heap.size cs p) (h1 : 0 ≤ k) (h2 : k ≤ 1048576) (h3 : ¬ (szDesk p : Int) ≤ k) :
    Calls Try.prog 33 #[.agg cs.toArray, .int .i64 k] w fun e w' => e = .returned (.int .i64 (-1)) ∧ Below w.heap.size w w' := by
  obtain ⟨A0, n0, c0, A1, n1, c1, rfl, ha0, hb0, hl0, hr0, ha1, hb1, hl1, hr1⟩ := openDesk h
  obtain ⟨r0, l1⟩ := p
  try dsimp only [szDesk] at *
  subst hl0
  subst hl1
  by_cases g0 : (((rsz szWhole r0) : Nat) : Int) ≤ k
  rotate_left
  · go_enter Try.func33, Try.ntmps33
    go_wp2_with fail
    refine (o_szWholeS_f (tWhole.row.reach hr0 ?hB) (by omega) (by omega) (by omega)).mono ?_
    case hB => exact (by repeat (first | (with_reducible exact Below.refl _ _) | (with_reducible assumption) | (with_reducible refine bel_alloc ?_ _) | (with_reducible refine bel_drew ?_) | (with_reducible refine below_drewN ?_ _) | (with_reducible refine bel_put ?_ (by first | exact Nat.le_refl _ | (simp; done) | (simp; omega)) _)))
    rintro e w1 ⟨rfl, hb1⟩
    have hB1 : Below w.heap.size w w1 := bel_trans (by repeat (first | (with_reducible exact Below.refl _ _) | (with_reducible assumption) | (with_reducible refine bel_alloc ?_ _) | (with_reducible refine bel_drew ?_) | (with_reducible refine below_drewN ?_ _) | (with_reducible refine bel_put ?_ (by first | exact Nat.le_refl _ | (simp; done) | (simp; omega)) _))) hb1
    have P1 : Box w1 w.heap.size 53 #[.slice A0 r0.length c0, .slice A1 l1.length c1] := (Box.new _ _ _).below hb1 (by first | (simp; done) | (simp; omega))
    go_wp2
    go_ret
    exact ⟨rfl, hB1⟩
  have d0 : decide (k - ((rsz szWhole r0 : Nat) : Int) < 0) = false := by simp; omega
  go_enter Try.func33, Try.ntmps33
  go_wp2_with fail
  refine (o_szWholeS_t (tWhole.row.reach hr0 ?hB) (by omega) (by omega) (by omega)).mono ?_
  case hB => exact (by repeat (first | (with_reducible exact Below.refl _ _) | (with_reducible assumption) | (with_reducible refine bel_alloc ?_ _) | (with_reducible refine bel_drew ?_) | (with_reducible refine below_drewN ?_ _) | (with_reducible refine bel_put ?_ (by first | exact Nat.le_refl _ | (simp; done) | (simp; omega)) _)))
  rintro e w1 ⟨rfl, hb1⟩
  have hB1 : Below w.heap.size w w1 := bel_trans (by repeat (first | (with_reducible exact Below.refl _ _) | (with_reducible assumption) | (with_reducible refine bel_alloc ?_ _) | (with_reducible refine bel_drew ?_) | (with_reducible refine below_drewN ?_ _) | (with_reducible refine bel_put ?_ (by first | exact Nat.le_refl _ | (simp; done) | (simp; omega)) _))) hb1
  have P1 : Box w1 w.heap.size 53 #[.slice A0 r0.length c0, .slice A1 l1.length c1] := (Box.new _ _ _).below hb1 (by first | (simp; done) | (simp; omega))
  have e0_1 := P1.cell 1
  go_wp2_with fail
  refine (o_szIntS_f (tIs.reach hr1 ?hB) (by omega) (by omega) (by omega)).mono ?_
  case hB => exact (by repeat (first | (with_reducible exact Below.refl _ _) | (with_reducible assumption) | (with_reducible refine bel_alloc ?_ _) | (with_reducible refine bel_drew ?_) | (with_reducible refine below_drewN ?_ _) | (with_reducible refine bel_put ?_ (by first | exact Nat.le_refl _ | (simp; done) | (simp; omega)) _)))
  rintro e w2 ⟨rfl, hb2⟩
  have hB2 : Below w.heap.size w w2 := bel_trans (by repeat (first | (with_reducible exact Below.refl _ _) | (with_reducible assumption) | (with_reducible refine bel_alloc ?_ _) | (with_reducible refine bel_drew ?_) | (with_reducible refine below_drewN ?_ _) | (with_reducible refine bel_put ?_ (by first | exact Nat.le_refl _ | (simp; done) | (simp; omega)) _))) hb2
  have P2 := P1.below hb2 P1.size
  go_wp2
  go_ret
  exact ⟨rfl, hB2⟩
set_option maxHeartbeats 400000 in
theorem o_toDesk {w : World} {cs : List Value} {p : DDesk} (h : tDesk.R w w.heap.size cs p) (hn : szDesk p ≤ 1048576) :
    Calls Try.prog 36 #[.agg cs.toArray] w fun e w' => ∃ cs' F, e = .returned (.agg cs'.toArray) ∧ tDesk.O w' cs' p F ∧ New w.heap.size F ∧ Below w.heap.size w w' := by
  obtain ⟨A0, n0, c0, A1, n1, c1, rfl, ha0, hb0, hl0, hr0, ha1, hb1, hl1, hr1⟩ := openDesk h
  obtain ⟨r0, l1⟩ := p
  try dsimp only [szDesk] at *
  subst hl0
  subst hl1
  go_enter Try.func36, Try.ntmps36
  go_wp2_with fail
  refine (o_toWholeS (tWhole.row.reach hr0 ?hB) (by omega)).mono ?_
  case hB => exact (by repeat (first | (with_reducible exact Below.refl _ _) | (with_reducible assumption) | (with_reducible refine bel_alloc ?_ _) | (with_reducible refine bel_drew ?_) | (with_reducible refine below_drewN ?_ _) | (with_reducible refine bel_put ?_ (by first | exact Nat.le_refl _ | (simp; done) | (simp; omega)) _)))
  rintro e w1 ⟨B0, d0, F0, rfl, o0, hN1, hb1⟩
  have z1 : w.heap.size + 3 ≤ w1.heap.size := by have := hb1.size; simpa using this
  have hB1 : Below w.heap.size w w1 := bel_trans (by repeat (first | (with_reducible exact Below.refl _ _) | (with_reducible assumption) | (with_reducible refine bel_alloc ?_ _) | (with_reducible refine bel_drew ?_) | (with_reducible refine below_drewN ?_ _) | (with_reducible refine bel_put ?_ (by first | exact Nat.le_refl _ | (simp; done) | (simp; omega)) _))) hb1
  have R1 : Box w1 (w.heap.size + 1) 61 #[.slice none 0 0, .slice none 0 0] := Box.below (Box.alloc (by simpa using Box.new (w.alloc _) 61 #[.slice none 0 0, .slice none 0 0]) _) hb1 (by first | (simp; done) | (simp; omega))
  have L1 : Box w1 (w.heap.size + 1 + 1) 61 #[.slice none 0 0, .slice none 0 0] := Box.below (by simpa using Box.new ((w.alloc _).alloc _) 61 #[.slice none 0 0, .slice none 0 0]) hb1 (by first | (simp; done) | (simp; omega))
  have P1 : Box w1 w.heap.size 53 #[.slice A0 r0.length c0, .slice A1 l1.length c1] := Box.below (((Box.new w 53 #[.slice A0 r0.length c0, .slice A1 l1.length c1]).alloc _).alloc _) hb1 (by first | (simp; done) | (simp; omega))
  have hM1 : New (w.heap.size + 3) (F0) := hN1.lower (by simp)
  clear hN1
  have y1 : ∀ f ∈ F0, f < w1.heap.size := by intro f hf; exact tWhole.row.lt o0 f hf
  have kr1_0 := R1.cell 0; have fr1_0 := R1.frozen 0; have kl1_0 := L1.cell 0; have fl1_0 := L1.frozen 0; have kp1_0 := P1.cell 0
  have kr1_1 := R1.cell 1; have fr1_1 := R1.frozen 1; have kl1_1 := L1.cell 1; have fl1_1 := L1.frozen 1; have kp1_1 := P1.cell 1
  go_wp2_with fail
  refine (o_toIntS (tIs.reach hr1 ?hB) (by omega)).mono ?_
  case hB => exact (by repeat (first | (with_reducible exact Below.refl _ _) | (with_reducible assumption) | (with_reducible refine bel_alloc ?_ _) | (with_reducible refine bel_drew ?_) | (with_reducible refine below_drewN ?_ _) | (with_reducible refine bel_put ?_ (by first | exact Nat.le_refl _ | (simp; done) | (simp; omega)) _)))
  rintro e w2 ⟨B1, d1, F1, rfl, o1, hN2, hb2⟩
  have z2 : w.heap.size + 3 ≤ w2.heap.size := Nat.le_trans z1 (by have := hb2.size; simpa using this)
  have hB2 : Below w.heap.size w w2 := bel_trans (by repeat (first | (with_reducible exact Below.refl _ _) | (with_reducible assumption) | (with_reducible refine bel_alloc ?_ _) | (with_reducible refine bel_drew ?_) | (with_reducible refine below_drewN ?_ _) | (with_reducible refine bel_put ?_ (by first | exact Nat.le_refl _ | (simp; done) | (simp; omega)) _))) hb2
  have R2 : Box w2 (w.heap.size + 1) 61 #[.slice none 0 0, .slice none 0 0] := Box.below (R1.far (p := ⟨w.heap.size + 1 + 1, 0, none⟩) (by first | (simp; done) | (simp; omega)) (.slice B0 r0.length d0)) hb2 (by first | (simp; done) | (simp; omega))
  have L2 : Box w2 (w.heap.size + 1 + 1) 61 #[.slice B0 r0.length d0, .slice none 0 0] := Box.below (by simpa using (L1.put 0 (.slice B0 r0.length d0))) hb2 (by first | (simp; done) | (simp; omega))
  have P2 : Box w2 w.heap.size 53 #[.slice A0 r0.length c0, .slice A1 l1.length c1] := Box.below (P1.far (p := ⟨w.heap.size + 1 + 1, 0, none⟩) (by first | (simp; done) | (simp; omega)) (.slice B0 r0.length d0)) hb2 (by first | (simp; done) | (simp; omega))
  replace o0 := Ty.below (t := tWhole.row) (Ty.far (t := tWhole.row) o0 hM1 (p := ⟨w.heap.size + 1 + 1, 0, none⟩) (by first | (simp; done) | (simp; omega)) (.slice B0 r0.length d0)) hb2
  have hM2 : New (w.heap.size + 3) (F1) := hN2.lower (by simp; omega)
  have hV2 : New w1.heap.size (F1) := hN2.lower (by first | (simp; done) | (simp; omega))
  have zz2 : w1.heap.size ≤ w2.heap.size := by have := hb2.size; simpa using this
  clear hN2
  have y2 : ∀ f ∈ F1, f < w2.heap.size := by intro f hf; exact tIs.lt o1 f hf
  have kr2_0 := R2.cell 0; have fr2_0 := R2.frozen 0; have kl2_0 := L2.cell 0; have fl2_0 := L2.frozen 0; have kp2_0 := P2.cell 0
  have kr2_1 := R2.cell 1; have fr2_1 := R2.frozen 1; have kl2_1 := L2.cell 1; have fl2_1 := L2.frozen 1; have kp2_1 := P2.cell 1
  go_wp2
  have RR := (((R2.far (p := ⟨w.heap.size + 1 + 1, 1, none⟩) (by first | (simp; done) | (simp; omega)) (.slice B1 l1.length d1)).put 0 (.slice B0 r0.length d0)).put 1 (.slice B1 l1.length d1))
  have e0 := RR.cell 0
  have e1 := RR.cell 1
  have u0 := (Ty.far (t := tWhole.row) (Ty.far (t := tWhole.row) (Ty.far (t := tWhole.row) o0 hM1 (p := ⟨w.heap.size + 1 + 1, 1, none⟩) (by first | (simp; done) | (simp; omega)) (.slice B1 l1.length d1)) hM1 (p := ⟨w.heap.size + 1, 0, none⟩) (by first | (simp; done) | (simp; omega)) (.slice B0 r0.length d0)) hM1 (p := ⟨w.heap.size + 1, 1, none⟩) (by first | (simp; done) | (simp; omega)) (.slice B1 l1.length d1))
  have u1 := (Ty.far (t := tIs) (Ty.far (t := tIs) (Ty.far (t := tIs) o1 hM2 (p := ⟨w.heap.size + 1 + 1, 1, none⟩) (by first | (simp; done) | (simp; omega)) (.slice B1 l1.length d1)) hM2 (p := ⟨w.heap.size + 1, 0, none⟩) (by first | (simp; done) | (simp; omega)) (.slice B0 r0.length d0)) hM2 (p := ⟨w.heap.size + 1, 1, none⟩) (by first | (simp; done) | (simp; omega)) (.slice B1 l1.length d1))
  obtain ⟨F, hF, hFe⟩ := makeODesk (p := (r0, l1)) u0 u1
  refine bodyPost_ret (v := .agg #[.slice B0 r0.length d0, .slice B1 l1.length d1]) (by simp [results, Try.results36, go_sem, e0, e1]) rfl ⟨_, F, rfl, hF, ?_, ?_⟩
  · rw [hFe]
    exact New.lower (B := w.heap.size + 3) (by exact (New.app hM1 hV2 (by omega) y1)) (by omega)
  · exact (bel_put (bel_put (bel_put hB2 (by first | (simp; done) | (simp; omega)) _) (by first | (simp; done) | (simp; omega)) _) (by first | (simp; done) | (simp; omega)) _)
theorem o_eqDesk {w : World} {cs cs' : List Value} {p : DDesk} (h : tDesk.R w w.heap.size cs p) (h' : tDesk.R w w.heap.size cs' p) :
    Calls Try.prog 39 #[.agg cs.toArray, .agg cs'.toArray] w fun e w' => e = .returned (.bool true) ∧ Below w.heap.size w w' := by
  obtain ⟨A0, n0, c0, A1, n1, c1, rfl, ha0, hb0, hl0, hr0, ha1, hb1, hl1, hr1⟩ := openDesk h
  obtain ⟨A0', n0', c0', A1', n1', c1', rfl, ha0', hb0', hl0', hr0', ha1', hb1', hl1', hr1'⟩ := openDesk h'
  obtain ⟨r0, l1⟩ := p
  try dsimp only at *
  subst hl0
  subst hl0'
  subst hl1
  subst hl1'
  go_enter Try.func39, Try.ntmps39
  go_wp2_with fail
  refine (o_eqWholeS (tWhole.row.reach hr0 ?hB) (tWhole.row.reach hr0' ?hB)).mono ?_
  case hB => exact (by repeat (first | (with_reducible exact Below.refl _ _) | (with_reducible assumption) | (with_reducible refine bel_alloc ?_ _) | (with_reducible refine bel_drew ?_) | (with_reducible refine below_drewN ?_ _) | (with_reducible refine bel_put ?_ (by first | exact Nat.le_refl _ | (simp; done) | (simp; omega)) _)))
  rintro e w1 ⟨rfl, hb1⟩
  have hB1 : Below w.heap.size w w1 := bel_trans (by repeat (first | (with_reducible exact Below.refl _ _) | (with_reducible assumption) | (with_reducible refine bel_alloc ?_ _) | (with_reducible refine bel_drew ?_) | (with_reducible refine below_drewN ?_ _) | (with_reducible refine bel_put ?_ (by first | exact Nat.le_refl _ | (simp; done) | (simp; omega)) _))) hb1
  have P1 : Box w1 w.heap.size 61 #[.slice A0 r0.length c0, .slice A1 l1.length c1] := ((Box.new _ _ _).alloc _).below hb1 (by first | (simp; done) | (simp; omega))
  have Q1 : Box w1 (w.heap.size + 1) 61 #[.slice A0' r0.length c0', .slice A1' l1.length c1'] := Box.below (by simpa using Box.new (w.alloc _) 61 #[.slice A0' r0.length c0', .slice A1' l1.length c1']) hb1 (by first | (simp; done) | (simp; omega))
  have e0_1 := P1.cell 1
  have e0_1q := Q1.cell 1
  go_wp2_with fail
  refine (o_eqIntS (tIs.reach hr1 ?hB) (tIs.reach hr1' ?hB)).mono ?_
  case hB => exact (by repeat (first | (with_reducible exact Below.refl _ _) | (with_reducible assumption) | (with_reducible refine bel_alloc ?_ _) | (with_reducible refine bel_drew ?_) | (with_reducible refine below_drewN ?_ _) | (with_reducible refine bel_put ?_ (by first | exact Nat.le_refl _ | (simp; done) | (simp; omega)) _)))
  rintro e w2 ⟨rfl, hb2⟩
  have hB2 : Below w.heap.size w w2 := bel_trans (by repeat (first | (with_reducible exact Below.refl _ _) | (with_reducible assumption) | (with_reducible refine bel_alloc ?_ _) | (with_reducible refine bel_drew ?_) | (with_reducible refine below_drewN ?_ _) | (with_reducible refine bel_put ?_ (by first | exact Nat.le_refl _ | (simp; done) | (simp; omega)) _))) hb2
  have P2 := P1.below hb2 P1.size
  have Q2 := Q1.below hb2 Q1.size
  go_wp2
  go_ret
  exact ⟨rfl, hB2⟩
theorem o_markDesk {w : World} {cs : List Value} {p : DDesk} {F : List Nat} (k : Int) (h : tDesk.O w cs p F) (hF : F.Nodup) (h0 : 0 ≤ k) (hk : k + cntDesk p ≤ 4611686018427387904) :
    Calls Try.prog 43 #[.agg cs.toArray, .int .i64 k] w fun e w' => e = .returned (.int .i64 (k + cntDesk p)) ∧ tDesk.O w' cs (mkDesk k p) F ∧ Only F w w' := by
  obtain ⟨A0, c0, F0, A1, c1, F1, rfl, hFe, ha0, hb0, hr0, ha1, hb1, hr1⟩ := openODesk h
  obtain ⟨r0, l1⟩ := p
  try dsimp only [cntDesk] at *
  subst F
  have nd0 : F0.Nodup := (List.nodup_append.1 hF).1
  have nd1 : F1.Nodup := (List.nodup_append.1 hF).2.1
  have ap0_1 : ∀ f ∈ F0, f ∉ F1 := fun f h1 h2 => (List.nodup_append.1 hF).2.2 f (by simp [h1]) f h2 rfl
  go_enter Try.func43, Try.ntmps43
  replace hr0 : tWhole.row.O (w.alloc (.cells #[.slice A0 r0.length c0, .slice A1 l1.length c1] 61)) _ _ _ := Ty.below hr0 (by repeat (first | (with_reducible exact Below.refl _ _) | (with_reducible assumption) | (with_reducible refine bel_alloc ?_ _) | (with_reducible refine bel_drew ?_) | (with_reducible refine below_drewN ?_ _) | (with_reducible refine bel_put ?_ (by first | exact Nat.le_refl _ | (simp; done) | (simp; omega)) _)))
  replace hr1 : tIs.O (w.alloc (.cells #[.slice A0 r0.length c0, .slice A1 l1.length c1] 61)) _ _ _ := Ty.below hr1 (by repeat (first | (with_reducible exact Below.refl _ _) | (with_reducible assumption) | (with_reducible refine bel_alloc ?_ _) | (with_reducible refine bel_drew ?_) | (with_reducible refine below_drewN ?_ _) | (with_reducible refine bel_put ?_ (by first | exact Nat.le_refl _ | (simp; done) | (simp; omega)) _)))
  have G0 : Only (F0 ++ F1) w (w.alloc (.cells #[.slice A0 r0.length c0, .slice A1 l1.length c1] 61)) := (Only.refl _ _).alloc _
  have P0 : Box (w.alloc (.cells #[.slice A0 r0.length c0, .slice A1 l1.length c1] 61)) w.heap.size 61 #[.slice A0 r0.length c0, .slice A1 l1.length c1] := Box.new _ _ _
  have y0 : ∀ f ∈ F0, f < w.heap.size := fun f hf => (tDesk).lt h f (by simp [hf])
  have y1 : ∀ f ∈ F1, f < w.heap.size := fun f hf => (tDesk).lt h f (by simp [hf])
  go_wp2_with fail
  refine (o_markWholeS (k) hr0 nd0 (by omega) (by omega)).mono ?_
  rintro e w1 ⟨rfl, hO1, hG1⟩
  have G1 := G0.trans (hG1.mono (by intro f hf; (try simp only [List.mem_append] at hf ⊢); first | assumption | (simp only [hf, true_or, or_true]) | (rcases hf with hf | hf <;> simp only [hf, true_or, or_true])))
  have P1 : Box w1 w.heap.size 61 #[.slice A0 r0.length c0, .slice A1 l1.length c1] := P0.same (hG1.block _ P0.size (by intro e; (try simp only [List.mem_append] at e); rcases e with e <;> first | (have := y0 _ e; omega)))
  have e1_0 := P1.cell 0
  have e1_1 := P1.cell 1
  replace hr1 := Ty.only hr1 hG1 (by intro f hf e; (try simp only [List.mem_append] at e); rcases e with e <;> first | exact ap0_1 f e hf)
  replace hr0 := hO1
  go_wp2_with fail
  refine (o_markIntS (k + ((rsum rcWhole r0 : Nat) : Int)) hr1 (by omega) (by omega)).mono ?_
  rintro e w2 ⟨rfl, hO2, hG2⟩
  have G2 := G1.trans (hG2.mono (by intro f hf; (try simp only [List.mem_append] at hf ⊢); first | assumption | (simp only [hf, true_or, or_true]) | (rcases hf with hf | hf <;> simp only [hf, true_or, or_true])))
  have P2 : Box w2 w.heap.size 61 #[.slice A0 r0.length c0, .slice A1 l1.length c1] := P1.same (hG2.block _ P1.size (by intro e; (try simp only [List.mem_append] at e); rcases e with e <;> first | (have := y1 _ e; omega)))
  have e2_0 := P2.cell 0
  have e2_1 := P2.cell 1
  replace hr0 := Ty.only hr0 hG2 (by intro f hf e; (try simp only [List.mem_append] at e); rcases e with e <;> first | exact ap0_1 f hf e)
  replace hr1 := hO2
  go_wp2
  go_ret
  obtain ⟨F2, hF2, hFe⟩ := makeODesk (p := mkDesk k (r0, l1)) hr0 hr1
  subst F2
  exact ⟨ret_int (by omega), hF2, G2⟩
theorem o_heldDesk {w : World} {cs : List Value} {p : DDesk} (k : Int) (h : tDesk.R w w.heap.size cs (mkDesk k p)) (h0 : 0 ≤ k) (hk : k + cntDesk p ≤ 4611686018427387904) :
    Calls Try.prog 46 #[.agg cs.toArray, .int .i64 k] w fun e w' => e = .returned (.int .i64 (k + cntDesk p)) ∧ Below w.heap.size w w' := by
  obtain ⟨A0, n0, c0, A1, n1, c1, rfl, ha0, hb0, hl0, hr0, ha1, hb1, hl1, hr1⟩ := openDesk h
  obtain ⟨r0, l1⟩ := p
  try dsimp only [cntDesk, mkDesk] at *
  have d0 : decide (k + ((rsum rcWhole r0 : Nat) : Int) < 0) = false := by simp; omega
  have d1 : decide (k + ((rsum rcWhole r0 : Nat) : Int) + ((l1.length : Nat) : Int) < 0) = false := by simp; omega
  go_enter Try.func46, Try.ntmps46
  go_wp2_with fail
  refine (o_heldWholeS (k) (tWhole.row.reach hr0 ?hB) (by omega) (by omega)).mono ?_
  case hB => exact (by repeat (first | (with_reducible exact Below.refl _ _) | (with_reducible assumption) | (with_reducible refine bel_alloc ?_ _) | (with_reducible refine bel_drew ?_) | (with_reducible refine below_drewN ?_ _) | (with_reducible refine bel_put ?_ (by first | exact Nat.le_refl _ | (simp; done) | (simp; omega)) _)))
  rintro e w1 ⟨rfl, hb1⟩
  have hB1 : Below w.heap.size w w1 := bel_trans (by repeat (first | (with_reducible exact Below.refl _ _) | (with_reducible assumption) | (with_reducible refine bel_alloc ?_ _) | (with_reducible refine bel_drew ?_) | (with_reducible refine below_drewN ?_ _) | (with_reducible refine bel_put ?_ (by first | exact Nat.le_refl _ | (simp; done) | (simp; omega)) _))) hb1
  have P1 : Box w1 w.heap.size 61 #[.slice A0 n0 c0, .slice A1 n1 c1] := (Box.new _ _ _).below hb1 (by first | (simp; done) | (simp; omega))
  have e0_1 := P1.cell 1
  go_wp2_with fail
  refine (o_heldIntS (k + ((rsum rcWhole r0 : Nat) : Int)) (tIs.reach hr1 ?hB) (by omega) (by omega)).mono ?_
  case hB => exact (by repeat (first | (with_reducible exact Below.refl _ _) | (with_reducible assumption) | (with_reducible refine bel_alloc ?_ _) | (with_reducible refine bel_drew ?_) | (with_reducible refine below_drewN ?_ _) | (with_reducible refine bel_put ?_ (by first | exact Nat.le_refl _ | (simp; done) | (simp; omega)) _)))
  rintro e w2 ⟨rfl, hb2⟩
  have hB2 : Below w.heap.size w w2 := bel_trans (by repeat (first | (with_reducible exact Below.refl _ _) | (with_reducible assumption) | (with_reducible refine bel_alloc ?_ _) | (with_reducible refine bel_drew ?_) | (with_reducible refine below_drewN ?_ _) | (with_reducible refine bel_put ?_ (by first | exact Nat.le_refl _ | (simp; done) | (simp; omega)) _))) hb2
  have P2 := P1.below hb2 P1.size
  go_wp2
  go_ret
  exact ⟨ret_int (by omega), hB2⟩
end Go.Proofs.Ytpapkonejkdkhaa
