/-
  Contracts of the program's Peel: the three ways behind the decoder.
-/
import Derived.Test.YtpapkonejkdkhaaImplPeel
namespace Go.Proofs.Ytpapkonejkdkhaa
set_option maxRecDepth 100000
set_option linter.unusedSimpArgs false
set_option linter.unusedVariables false
open Go.ChangeShapes Go.WideShapes Go.ChangeAt Go.RowKit
open Fld
attribute [local go_sem ↓] Go.wp_at_zero Go.wp_at_succ

theorem limbs {W : World} {g0 g1 : Nat} {T T' : TypeId} {v u0 u1 u2 u3 u4 : Value} (bc : Box W g0 T #[v]) (b1 : Box W g1 T' #[u0, u1, u2, u3, u4]) :
    W.cell? ⟨g0, 0, none⟩ = some v ∧ W.cell? ⟨g1, 0, none⟩ = some u0 ∧ W.cell? ⟨g1, 1, none⟩ = some u1 ∧ W.cell? ⟨g1, 2, none⟩ = some u2 ∧ W.cell? ⟨g1, 3, none⟩ = some u3 ∧ W.cell? ⟨g1, 4, none⟩ = some u4 ∧
      W.frozen? ⟨g1, 0, none⟩ = false ∧ W.frozen? ⟨g1, 1, none⟩ = false ∧ W.frozen? ⟨g1, 2, none⟩ = false ∧ W.frozen? ⟨g1, 3, none⟩ = false ∧ W.frozen? ⟨g1, 4, none⟩ = false :=
  ⟨bc.cell 0, b1.cell 0, b1.cell 1, b1.cell 2, b1.cell 3, b1.cell 4, b1.frozen 0, b1.frozen 1, b1.frozen 2, b1.frozen 3, b1.frozen 4⟩
set_option maxHeartbeats 16000000 in
theorem i_Peel_r {A A' : Option Addr} {c m d : Nat} {w : World} {l pad : List Int} (s : Int) (hs : Sec s) (hl : Ints .u8 w w.heap.size A 80 l) (hc : 80 ≤ c) (hcm : c ≤ 9223372036854775807) (hp : Ints .u8 w w.heap.size A' m pad) (hm : 80 ≤ m) (hmd : m ≤ d) (hd : d ≤ 9223372036854775807) (hyes : peels s l) (h255 : ¬ (peelX s l).getD 0 0 = 255) :
    Calls Try.prog 14 #[.int .i64 s, .agg #[.slice A 80 c], .slice A' m d] w fun e w' => ∃ vL vC, e = .returned (.tuple #[.agg #[.int .i64 (ppeel s l pad).1.next, .int .i64 (ppeel s l pad).1.due, .int .i64 (ppeel s l pad).1.tag, vL, vC], .bool (ppeel s l pad).2]) ∧ ReadsF w.heap.size w' vL (ppeel s l pad).1.load ∧ ReadsF w.heap.size w' vC (ppeel s l pad).1.cell ∧ Below w.heap.size w w' := by
  have hmf : ∀ (fn : Fn) (first cap : Array Value) (w : World), (Instr.makeFunc fn first cap).run Try.prog w = .ok (.func fn first cap) w := fun _ _ _ _ => rfl
  have bc : Box (((w.alloc (.cells #[.slice A 80 c] 26)).alloc (.cells #[.int .i64 0, .int .i64 0, .int .i64 0, .slice none 0 0, .slice none 0 0] 28)).alloc (.cells #[.bool false] 4)) w.heap.size 26 #[.slice A 80 c] := ((Box.new w _ _).alloc _).alloc _
  have b1 : Box (((w.alloc (.cells #[.slice A 80 c] 26)).alloc (.cells #[.int .i64 0, .int .i64 0, .int .i64 0, .slice none 0 0, .slice none 0 0] 28)).alloc (.cells #[.bool false] 4)) (w.heap.size + 1) 28 #[.int .i64 0, .int .i64 0, .int .i64 0, .slice none 0 0, .slice none 0 0] := Box.alloc (by have := Box.new (w.alloc (.cells #[.slice A 80 c] 26)) 28 #[.int .i64 0, .int .i64 0, .int .i64 0, .slice none 0 0, .slice none 0 0]; simpa using this) _
  have b2 : Box (((w.alloc (.cells #[.slice A 80 c] 26)).alloc (.cells #[.int .i64 0, .int .i64 0, .int .i64 0, .slice none 0 0, .slice none 0 0] 28)).alloc (.cells #[.bool false] 4)) (w.heap.size + 1 + 1) 4 #[.bool false] := by have := Box.new ((w.alloc (.cells #[.slice A 80 c] 26)).alloc (.cells #[.int .i64 0, .int .i64 0, .int .i64 0, .slice none 0 0, .slice none 0 0] 28)) 4 #[.bool false]; simpa using this
  obtain ⟨Y0, hY0⟩ : ∃ y, (peelX s l).getD 0 0 = y := ⟨_, rfl⟩
  obtain ⟨Y1, hY1⟩ : ∃ y, (peelX s l).getD 1 0 = y := ⟨_, rfl⟩
  obtain ⟨Y2, hY2⟩ : ∃ y, (peelX s l).getD 2 0 = y := ⟨_, rfl⟩
  have HY0 := Lib.hid hY0; have HY1 := Lib.hid hY1; have HY2 := Lib.hid hY2
  clear hY0 hY1 hY2
  obtain ⟨DU, hDU⟩ : ∃ y, Y1 * 256 + Y2 = y := ⟨_, rfl⟩
  have HDU := Lib.hid hDU
  clear hDU
  have ht1 : ∀ (u v : Value) (w : World), (Instr.typeAssert (.iface 87 (.agg #[u, v])) 79 85 true).run Try.prog w = .ok (.tuple #[.agg #[.slice none 0 0], .bool false]) w := fun _ _ _ => by kernel_rfl
  have ht2 : ∀ (u v : Value) (w : World), (Instr.typeAssert (.iface 87 (.agg #[u, v])) 79 87 true).run Try.prog w = .ok (.tuple #[.agg #[u, v], .bool true]) w := fun _ _ _ => by kernel_rfl
  have hm1 : ∀ (v : Value) (w : World), (method 305 85 (.agg #[v]) "loop.example/g00611/impl.next").run Try.prog w = .ok (204, .agg #[v]) w := fun _ _ => by kernel_rfl
  have hm2 : ∀ (u v : Value) (w : World), (method 305 87 (.agg #[u, v]) "loop.example/g00611/impl.next").run Try.prog w = .ok (206, .agg #[u, v]) w := fun _ _ _ => by kernel_rfl
  have dm : decide ((80 : Int) ≤ (m : Int)) = true := by simp; omega
  go_enter_defers Try.func14, Try.ntmps14
  go_wp2_with (go_at_call 54; with_reducible refine (i_sec_t _ _ (by assumption)).mono ?_; rintro e w' ⟨rfl, rfl⟩)
  refine (i_CellOk_t _ _ _ _ rfl).mono ?_
  rintro e w1 ⟨rfl, hB1⟩
  have bc' := bc.below hB1 (by first | (simp; done) | (simp; omega))
  have b1' := b1.below hB1 (by first | (simp; done) | (simp; omega))
  have b2' := b2.below hB1 (by first | (simp; done) | (simp; omega))
  have hBB1 : Below w.heap.size w w1 := bel_trans (by repeat (first | (with_reducible exact Below.refl _ _) | (with_reducible assumption) | (with_reducible refine bel_alloc ?_ _) | (with_reducible refine bel_drew ?_) | (with_reducible refine below_drewN ?_ _) | (with_reducible refine bel_put ?_ (by first | exact Nat.le_refl _ | (simp; done) | (simp; omega)) _))) hB1
  clear bc b1 b2
  have cc := bc'.cell 0
  go_wp2_with (go_at_call 53; refine (i_demand_t _).mono ?_; rintro e w' ⟨rfl, rfl⟩)
  refine (i_decoded s (reach hl hBB1) hc hcm hs).mono ?_
  rintro e w2 ⟨hB2, ⟨hnp, v, rfl⟩ | ⟨hpe, vL, hR, ⟨hy, rfl⟩ | ⟨hy, rfl⟩⟩⟩
  · exact absurd hyes hnp
  · exact absurd hy h255
  · obtain ⟨AL, nL, cL, rfl, hL1, hL2, hIL, hLow⟩ := hR
    have HRF := Lib.hid (show ReadsF w1.heap.size w2 (.slice AL nL cL) ((peelX s l).drop 4) from ⟨AL, nL, cL, rfl, hL1, hL2, hIL, hLow⟩)
    have hz1 := b2'.size
    rw [HY0.out] at hy
    rw [HY0.out, HY1.out, HY2.out, HDU.out]
    have b1 := b1'.below hB2 b1'.size
    have b2 := b2'.below hB2 b2'.size
    have bc := bc'.below hB2 bc'.size
    have hBB2 := bel_trans hBB1 hB2
    clear b1' b2' bc' cc
    have cc := bc.cell 0
    obtain ⟨T, hT⟩ : ∃ T, ftag s l = T := ⟨_, rfl⟩
    have HT := Lib.hid hT
    have HT2 := Lib.hid (show keyP (peelS s l) 9 = T by rw [← hT]; exact (if_pos (show (1 ≤ s ∧ s < 2147483646) ∧ l.length = 80 ∧ (2 ≤ get4 l ∧ get4 l < 2147483646) from ⟨hs, hl.1, hpe.1⟩)).symm)
    clear hT
    go_wp2_with fail
    have cd : w2.drew.cell? ⟨w.heap.size, 0, none⟩ = some (.slice A 80 c) := bc.drew.cell 0
    go_region_held3 (fun w' => w'.cell? ⟨w.heap.size, 0, none⟩ = some (.slice A 80 c)) (first | (with_reducible exact cd) | (with_reducible exact cs3) | (with_reducible exact cs4) | (exact ((((((bc.below hs4 bc.size).far (p := ⟨w.heap.size + 1, 0, none⟩) (by show w.heap.size ≠ w.heap.size + 1; omega) _).far (p := ⟨w.heap.size + 1, 1, none⟩) (by show w.heap.size ≠ w.heap.size + 1; omega) _).far (p := ⟨w.heap.size + 1, 2, none⟩) (by show w.heap.size ≠ w.heap.size + 1; omega) _).far (p := ⟨w.heap.size + 1, 3, none⟩) (by show w.heap.size ≠ w.heap.size + 1; omega) _).far (p := ⟨w.heap.size + 1, 4, none⟩) (by show w.heap.size ≠ w.heap.size + 1; omega) _).cell 0))
      (first
        | (go_at_call 206; refine (i_relay_next _ _ _ _ _).mono ?_; rintro e w3 ⟨rfl, hb3⟩; have hs3 : Below w2.heap.size w2 w3 := bel_trans (by repeat (first | (with_reducible exact Below.refl _ _) | (with_reducible assumption) | (with_reducible refine bel_alloc ?_ _) | (with_reducible refine bel_drew ?_) | (with_reducible refine below_drewN ?_ _) | (with_reducible refine bel_put ?_ (by first | exact Nat.le_refl _ | (simp; done) | (simp; omega)) _))) hb3; have cs3 : w3.cell? ⟨w.heap.size, 0, none⟩ = some (.slice A 80 c) := (bc.below hs3 bc.size).cell 0)
        | (go_at_call 57; refine (i_TagOf s (reach (reach hl (bel_trans hBB2 hs3)) (by repeat (first | (with_reducible exact Below.refl _ _) | (with_reducible assumption) | (with_reducible refine bel_alloc ?_ _) | (with_reducible refine bel_drew ?_) | (with_reducible refine below_drewN ?_ _) | (with_reducible refine bel_put ?_ (by first | exact Nat.le_refl _ | (simp; done) | (simp; omega)) _)))) hc hcm).mono ?_; rintro e w4 ⟨rfl, hb4⟩; have hs4 : Below w2.heap.size w2 w4 := bel_trans hs3 (bel_trans (by repeat (first | (with_reducible exact Below.refl _ _) | (with_reducible assumption) | (with_reducible refine bel_alloc ?_ _) | (with_reducible refine bel_drew ?_) | (with_reducible refine below_drewN ?_ _) | (with_reducible refine bel_put ?_ (by first | exact Nat.le_refl _ | (simp; done) | (simp; omega)) _))) hb4); have cs4 : w4.cell? ⟨w.heap.size, 0, none⟩ = some (.slice A 80 c) := (bc.below hs4 bc.size).cell 0; have k0 := (b1.below hs4 b1.size).cell 0; have j0 := (b1.below hs4 b1.size).frozen 0; have k1 := (b1.below hs4 b1.size).cell 1; have j1 := (b1.below hs4 b1.size).frozen 1; have k2 := (b1.below hs4 b1.size).cell 2; have j2 := (b1.below hs4 b1.size).frozen 2; have k3 := (b1.below hs4 b1.size).cell 3; have j3 := (b1.below hs4 b1.size).frozen 3; have k4 := (b1.below hs4 b1.size).cell 4; have j4 := (b1.below hs4 b1.size).frozen 4; rw [HT.out]))
    obtain ⟨W5, hW5⟩ : ∃ W, (((((w4.setCell ⟨w.heap.size + 1, 0, none⟩ (.int .i64 Y0)).setCell ⟨w.heap.size + 1, 1, none⟩ (.int .i64 DU)).setCell ⟨w.heap.size + 1, 2, none⟩ (.int .i64 T)).setCell ⟨w.heap.size + 1, 3, none⟩ (.slice none 0 0)).setCell ⟨w.heap.size + 1, 4, none⟩ (.slice none 0 0)) = W := ⟨_, rfl⟩
    rw [hW5]
    have hBB4 := bel_trans hBB2 hs4
    have b5 : Box W5 (w.heap.size + 1) 28 #[.int .i64 Y0, .int .i64 DU, .int .i64 T, .slice none 0 0, .slice none 0 0] := by
      rw [← hW5]; exact (((((b1.below hs4 b1.size).put 0 _).put 1 _).put 2 _).put 3 _).put 4 _
    have b6 : Box W5 (w.heap.size + 1 + 1) 4 #[.bool false] := by
      rw [← hW5]
      have hne : w.heap.size + 1 + 1 ≠ w.heap.size + 1 := by omega
      exact (((((b2.below hs4 b2.size).far (p := ⟨w.heap.size + 1, 0, none⟩) hne _).far (p := ⟨w.heap.size + 1, 1, none⟩) hne _).far (p := ⟨w.heap.size + 1, 2, none⟩) hne _).far (p := ⟨w.heap.size + 1, 3, none⟩) hne _).far (p := ⟨w.heap.size + 1, 4, none⟩) hne _
    have hBB5 : Below w.heap.size w W5 := by rw [← hW5]; exact (by repeat (first | (with_reducible exact Below.refl _ _) | (with_reducible assumption) | (with_reducible refine bel_alloc ?_ _) | (with_reducible refine bel_drew ?_) | (with_reducible refine below_drewN ?_ _) | (with_reducible refine bel_put ?_ (by first | exact Nat.le_refl _ | (simp; done) | (simp; omega)) _)))
    have HR5 := Lib.hid (show ReadsF w1.heap.size W5 (.slice AL nL cL) ((peelX s l).drop 4) by
      rw [← hW5]
      have hg : w.heap.size + 1 < w1.heap.size := by omega
      exact (((((HRF.out.below hs4).put hg 0 _).put hg 1 _).put hg 2 _).put hg 3 _).put hg 4 _)
    have hz5' : w1.heap.size ≤ W5.heap.size := by rw [← hW5]; have h1 := hs4.size; have h2 := hB2.size; simp [World.setCell]; omega
    clear hW5 k0 k1 k2 k3 k4 j0 j1 j2 j3 j4 cs3 cs4 cd cc b1 b2 bc hs3 hs4 hb3 hb4 hBB4 hBB2 hB2
    have k0 := b5.cell 0; have k1 := b5.cell 1; have k2 := b5.cell 2; have k3 := b5.cell 3; have k4 := b5.cell 4
    have j0 := b5.frozen 0; have j1 := b5.frozen 1; have j2 := b5.frozen 2; have j3 := b5.frozen 3; have j4 := b5.frozen 4
    have o0 := b6.cell 0; have o1 := b6.frozen 0
    have b7 := b5.alloc (.cells #[.int .i64 Y0, .slice AL nL cL] 87)
    have b8 := b6.alloc (.cells #[.int .i64 Y0, .slice AL nL cL] 87)
    have kk0 := b7.cell 0; have kk1 := b7.cell 1; have kk2 := b7.cell 2; have kk3 := b7.cell 3; have kk4 := b7.cell 4
    have jj0 := b7.frozen 0; have jj1 := b7.frozen 1; have jj2 := b7.frozen 2; have jj3 := b7.frozen 3; have jj4 := b7.frozen 4
    have oo0 := b8.cell 0; have oo1 := b8.frozen 0
    go_wp2_with fail
    have hnL : nL ≤ 80 := by have h1 := hIL.1; rw [List.length_drop, peelX_len hl.1 hpe.2.1] at h1; have h2 := hpe.2.1; omega
    obtain ⟨A7, n7, c7, eR, _, _, hI7, _⟩ := HR5.out
    injection eR with eR1 eR2 eR3
    subst eR1 eR2 eR3
    refine (i_padded (reach hI7 ?hA) (reach (reach hp hBB5) ?hA) hnL hm hmd hd).mono ?_
    case hA => exact (by repeat (first | (with_reducible exact Below.refl _ _) | (with_reducible assumption) | (with_reducible refine bel_alloc ?_ _) | (with_reducible refine bel_drew ?_) | (with_reducible refine below_drewN ?_ _) | (with_reducible refine bel_put ?_ (by first | exact Nat.le_refl _ | (simp; done) | (simp; omega)) _)))
    rintro e w6 ⟨vC, rfl, hO6, hB6⟩
    obtain ⟨A6, c6, rfl, _⟩ := hO6.ints
    have hz5 : w1.heap.size ≤ W5.heap.size := hz5'
    have HR6 := Lib.hid (hO6.readsF (B := w1.heap.size) (by simp; omega))
    have b9 := b7.below hB6 b7.size
    have b10 := b8.below hB6 b8.size
    have hBB6 : Below w.heap.size w w6 := bel_trans (bel_alloc hBB5 _) hB6
    clear k0 k1 k2 k3 k4 j0 j1 j2 j3 j4 o0 o1 kk0 kk1 kk2 kk3 kk4 jj0 jj1 jj2 jj3 jj4 oo0 oo1
    have k0 := b9.cell 0; have k1 := b9.cell 1; have k2 := b9.cell 2; have k3 := b9.cell 3; have k4 := b9.cell 4
    have j0 := b9.frozen 0; have j1 := b9.frozen 1; have j2 := b9.frozen 2; have j3 := b9.frozen 3; have j4 := b9.frozen 4
    have o0 := b10.cell 0; have o1 := b10.frozen 0
    go_wp2_with fail
    have hne : w.heap.size + 1 + 1 ≠ w.heap.size + 1 := by omega
    have hne2 : w.heap.size + 1 ≠ w.heap.size + 1 + 1 := by omega
    have hg : w.heap.size + 1 < w1.heap.size := by omega
    have hg2 : w.heap.size + 1 + 1 < w1.heap.size := by omega
    have bR := (((((((b9.put 4 (.slice A6 (padL ((peelX s l).drop 4) pad).length c6)).put 0 (.int .i64 Y0)).put 1 (.int .i64 DU)).put 2 (.int .i64 T)).put 3 (.slice none 0 0)).put 4 (.slice A6 (padL ((peelX s l).drop 4) pad).length c6)).far (p := ⟨w.heap.size + 1 + 1, 0, none⟩) hne2 (.bool true))
    have bK := (((((((b10.far (p := ⟨w.heap.size + 1, 4, none⟩) hne (.slice A6 (padL ((peelX s l).drop 4) pad).length c6)).far (p := ⟨w.heap.size + 1, 0, none⟩) hne (.int .i64 Y0)).far (p := ⟨w.heap.size + 1, 1, none⟩) hne (.int .i64 DU)).far (p := ⟨w.heap.size + 1, 2, none⟩) hne (.int .i64 T)).far (p := ⟨w.heap.size + 1, 3, none⟩) hne (.slice none 0 0)).far (p := ⟨w.heap.size + 1, 4, none⟩) hne (.slice A6 (padL ((peelX s l).drop 4) pad).length c6)).put 0 (.bool true))
    have e0 := bR.cell 0; have e1 := bR.cell 1; have e2 := bR.cell 2; have e3 := bR.cell 3; have e4 := bR.cell 4; have e5 := bK.cell 0
    refine leaves_cons (f := 52) (args := #[.pointer (some ⟨w.heap.size + 1, 0, none⟩), .pointer (some ⟨w.heap.size + 1 + 1, 0, none⟩)]) (by simp) (by simp [go_sem]) ?_
    refine (i_catch_i (w.heap.size + 1) (w.heap.size + 1 + 1) _).mono ?_
    rintro e u' w'' ⟨rfl, rfl, rfl⟩
    have HP := Lib.hid (show ppeel s l pad = (⟨Y0, DU, T, [], padL ((peelX s l).drop 4) pad⟩, true) by
      rw [ppeel_t hpe]; unfold peelV; rw [HY0.out, HY1.out, HY2.out, HDU.out, HT2.out]; simp [hy])
    rw [HP.out]
    refine ⟨.tuple #[.agg #[.int .i64 Y0, .int .i64 DU, .int .i64 T, .slice none 0 0, .slice A6 (padL ((peelX s l).drop 4) pad).length c6], .bool true], (by simp [results, Try.results14, go_sem, e0, e1, e2, e3, e4, e5]), _, _, rfl, ReadsF.nil _ _, ((((((((HR6.out).put hg 4 _).put hg 0 _).put hg 1 _).put hg 2 _).put hg 3 _).put hg 4 _).put hg2 0 _).lower (by omega), ?_⟩
    exact (by repeat (first | (with_reducible exact Below.refl _ _) | (with_reducible assumption) | (with_reducible refine bel_alloc ?_ _) | (with_reducible refine bel_drew ?_) | (with_reducible refine below_drewN ?_ _) | (with_reducible refine bel_put ?_ (by first | exact Nat.le_refl _ | (simp; done) | (simp; omega)) _)))
end Go.Proofs.Ytpapkonejkdkhaa
