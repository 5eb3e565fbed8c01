/-
  Contracts of the model's peeling.
-/
import Derived.Test.YtpapkonejkdkhaaSpecThree
import Derived.Test.YtpapkonejkdkhaaReads
namespace Go.Proofs.Ytpapkonejkdkhaa
set_option maxRecDepth 100000
open Go.ChangeShapes Go.WideShapes Go.ChangeAt Go.RowKit
open Fld
attribute [local go_sem ↓] Go.wp_at_zero Go.wp_at_succ

set_option maxHeartbeats 2000000 in
theorem s_peel_a {w : World} {c m d : Nat} {A A' : Option Addr} {l pad : List Int} (s : Int) (hl : Ints .u8 w w.heap.size A 80 l) (hc : 80 ≤ c) (hcm : c ≤ 9223372036854775807) (hs : Sec s) (ho : ¬ ((2 ≤ get4 l ∧ get4 l < 2147483646) ∧ peelN s l ≤ 68 ∧ opens (peelK s l) (peelB s l))) :
    Calls Try.prog 50 #[.int .i64 s, .slice A 80 c, .slice A' m d] w fun e w' => ∃ vL vC, e = .returned (.tuple #[.agg #[.int .i64 (ppeel s l pad).1.next, .int .i64 (ppeel s l pad).1.due, .int .i64 (ppeel s l pad).1.tag, vL, vC], .bool (ppeel s l pad).2]) ∧ ReadsF w.heap.size w' vL (ppeel s l pad).1.load ∧ ReadsF w.heap.size w' vC (ppeel s l pad).1.cell ∧ Below w.heap.size w w' := by
  have H := Lib.hid (show ppeel s l pad = (Pel.zero, false) from ppeel_f (fun x => ho ⟨x.1, x.2.1, x.2.2.1⟩))
  have HO := Lib.hid ho
  clear ho
  have hl80 := hl.1
  have hby := hl.bytes
  obtain ⟨b, off, rfl, hb, _⟩ := hl.2.1 (by omega)
  have hT8 := (hl.tail 8 (by omega)).head 4 (by omega)
  have rS := powP_rg (get4 l) s.toNat
  rcases pub_or (get4 l) with hpub | hpub
  · have rK := keyP_rg (powP (get4 l) s.toNat) 5
    have rK1 := keyP_rg (keyP (powP (get4 l) s.toNat) 5) 1
    have HH := Lib.hid (show xorl (keyP (keyP (powP (get4 l) s.toNat) 5) 1) ((l.drop 8).take 4) = peelH s l from rfl)
    have q1 : (8 : Int) ≤ (c : Int) := by omega
    have q2 : (12 : Int) ≤ (c : Int) := by omega
    go_enter Try.func50, Try.ntmps50
    go_wp2_with fail
    refine (s_shared_t s (reach hl ?hB) (by omega) (by omega) hs hpub).mono ?_
    case hB => exact (by repeat (first | (with_reducible exact Below.refl _ _) | (with_reducible assumption) | (with_reducible refine bel_alloc ?_ _) | (with_reducible refine bel_drew ?_) | (with_reducible refine below_drewN ?_ _) | (with_reducible refine bel_put ?_ (by first | exact Nat.le_refl _ | (simp; done) | (simp; omega)) _)))
    rintro e w1 ⟨rfl, hB1⟩
    have b1 : Box w1 w.heap.size 28 #[.int .i64 0, .int .i64 0, .int .i64 0, .slice none 0 0, .slice none 0 0] := (Box.new w _ _).below hB1 (by simp)
    have hB1' : Below w.heap.size w w1 := bel_trans (by repeat (first | (with_reducible exact Below.refl _ _) | (with_reducible assumption) | (with_reducible refine bel_alloc ?_ _) | (with_reducible refine bel_drew ?_) | (with_reducible refine below_drewN ?_ _) | (with_reducible refine bel_put ?_ (by first | exact Nat.le_refl _ | (simp; done) | (simp; omega)) _))) hB1
    clear hB1
    obtain ⟨S, hS⟩ : ∃ S, powP (get4 l) s.toNat = S := ⟨_, rfl⟩
    have HS := Lib.hid (show peelS s l = S from hS)
    rw [hS] at rS rK rK1 HH
    rw [hS]
    clear hS
    obtain ⟨K, hK⟩ : ∃ K, keyP S 5 = K := ⟨_, rfl⟩
    have HK := Lib.hid (show peelK s l = K by unfold peelK; rw [HS.out, hK])
    have HK5 := Lib.hid hK
    rw [hK] at rK rK1 HH
    clear hK
    have d0 : ¬ S < 0 := by omega
    go_wp2_with (go_at_call 89; refine (s_key _ _ _ rS.1 rS.2 (by omega) (by omega)).mono ?_; rintro e w' ⟨rfl, rfl⟩; rw [HK5.out])
    go_region_held3 (fun _ => True) (trivial) (first | (go_at_call 89; refine (s_key _ _ _ rK.1 rK.2 (by omega) (by omega)).mono ?_; rintro e w' ⟨rfl, rfl⟩) | (go_at_call 90; refine (s_xor _ (reach (reach hT8 hB1') (by repeat (first | (with_reducible exact Below.refl _ _) | (with_reducible assumption) | (with_reducible refine bel_alloc ?_ _) | (with_reducible refine bel_drew ?_) | (with_reducible refine below_drewN ?_ _) | (with_reducible refine bel_put ?_ (by first | exact Nat.le_refl _ | (simp; done) | (simp; omega)) _)))) (by omega) rK1.1 rK1.2).mono ?_; rintro e w2 ⟨vH, rfl, hO2, hB2⟩))
    rw [HH.out] at hO2
    have hB2' : Below w1.heap.size w1 w2 := bel_trans (by repeat (first | (with_reducible exact Below.refl _ _) | (with_reducible assumption) | (with_reducible refine bel_alloc ?_ _) | (with_reducible refine bel_drew ?_) | (with_reducible refine below_drewN ?_ _) | (with_reducible refine bel_put ?_ (by first | exact Nat.le_refl _ | (simp; done) | (simp; omega)) _))) hB2
    have hBB2 := bel_trans hB1' hB2'
    have b2 := b1.below hB2' b1.size
    clear hB2 b1 HH
    have hHl := peelH_len (s := s) hl80
    have hHb := (peelH_bytes (s := s) hby).at_ 3
    obtain ⟨N, hN⟩ : ∃ N : Nat, (peelH s l).getD 3 0 = (N : Int) := ⟨_, (peelN_eq hby).symm⟩
    have HN := Lib.hid (show peelN s l = N by have := peelN_eq (s := s) hby; omega)
    obtain ⟨AH, cH, rfl, hcH, hIH, _⟩ := hO2.ints
    obtain ⟨bH, oH, eA, hbH, hcells⟩ := hIH.2.1 (by omega)
    subst eA
    have hc3 := hcells 3 (by omega)
    rw [hN] at hc3 hHb
    clear hcells hN
    have q3 : (0 : Int) ≤ 3 := by omega
    have q4 : (3 : Int) < ((peelH s l).length : Int) := by omega
    have hmx : 8 + N ≤ 276 := by omega
    have u0 := b2.cell 0; have u1 := b2.cell 1; have u2 := b2.cell 2; have u3 := b2.cell 3; have u4 := b2.cell 4
    have f0 := b2.frozen 0; have f1 := b2.frozen 1; have f2 := b2.frozen 2; have f3 := b2.frozen 3; have f4 := b2.frozen 4
    by_cases hn : N ≤ 68
    · have d1 : ¬ (68 : Int) < (N : Int) := by omega
      have hT4 := (hl.tail 4 (by omega)).head (8 + N) (by omega)
      have HB := Lib.hid (show (l.drop 4).take (8 + N) = peelB s l by unfold peelB; rw [HN.out])
      rw [HB.out] at hT4
      have q5 : (4 : Int) ≤ 12 + (N : Int) := by omega
      have q6 : 12 + (N : Int) ≤ (c : Int) := by omega
      have ho : ¬ opens K (peelB s l) := fun h => HO.out ⟨hpub, by rw [HN.out]; exact hn, by rw [HK.out]; exact h⟩
      go_wp2_with fail
      rw [show 12 + N - 4 = 8 + N from by omega]
      refine (s_open_f _ (reach hT4 hBB2) (by omega) (by omega) (by omega) rK.1 rK.2 ho).mono ?_
      rintro e w3 ⟨rfl, hB3⟩
      have hBB3 := bel_trans hBB2 hB3
      have b3 := b2.below hB3 b2.size
      clear u0 u1 u2 u3 u4 f0 f1 f2 f3 f4
      have u0 := b3.cell 0; have u1 := b3.cell 1; have u2 := b3.cell 2; have u3 := b3.cell 3; have u4 := b3.cell 4
      have f0 := b3.frozen 0; have f1 := b3.frozen 1; have f2 := b3.frozen 2; have f3 := b3.frozen 3; have f4 := b3.frozen 4
      go_wp2
      have bZ := ((((b3.put 0 (.int .i64 0)).put 1 (.int .i64 0)).put 2 (.int .i64 0)).put 3 (.slice none 0 0)).put 4 (.slice none 0 0)
      have e0 := bZ.cell 0; have e1 := bZ.cell 1; have e2 := bZ.cell 2; have e3 := bZ.cell 3; have e4 := bZ.cell 4
      refine bodyPost_ret (v := .tuple #[.agg #[.int .i64 0, .int .i64 0, .int .i64 0, .slice none 0 0, .slice none 0 0], .bool false]) (by simp [results, Try.results50, go_sem, e0, e1, e2, e3, e4]) rfl ?_
      rw [H.out]
      exact ⟨_, _, rfl, ReadsF.nil _ _, ReadsF.nil _ _, bel_put (bel_put (bel_put (bel_put (bel_put hBB3 (Nat.le_refl _) _) (Nat.le_refl _) _) (Nat.le_refl _) _) (Nat.le_refl _) _) (Nat.le_refl _) _⟩
    · have d1 : (68 : Int) < (N : Int) := by omega
      go_wp2
      have bZ := ((((b2.put 0 (.int .i64 0)).put 1 (.int .i64 0)).put 2 (.int .i64 0)).put 3 (.slice none 0 0)).put 4 (.slice none 0 0)
      have e0 := bZ.cell 0; have e1 := bZ.cell 1; have e2 := bZ.cell 2; have e3 := bZ.cell 3; have e4 := bZ.cell 4
      refine bodyPost_ret (v := .tuple #[.agg #[.int .i64 0, .int .i64 0, .int .i64 0, .slice none 0 0, .slice none 0 0], .bool false]) (by simp [results, Try.results50, go_sem, e0, e1, e2, e3, e4]) rfl ?_
      rw [H.out]
      exact ⟨_, _, rfl, ReadsF.nil _ _, ReadsF.nil _ _, bel_put (bel_put (bel_put (bel_put (bel_put hBB2 (Nat.le_refl _) _) (Nat.le_refl _) _) (Nat.le_refl _) _) (Nat.le_refl _) _) (Nat.le_refl _) _⟩
  · have hneg : decide ((-1 : Int) < 0) = true := by decide
    go_enter Try.func50, Try.ntmps50
    go_wp2_with fail
    refine (s_shared_f s (reach hl ?hB) (by omega) (by omega) hpub).mono ?_
    case hB => exact (by repeat (first | (with_reducible exact Below.refl _ _) | (with_reducible assumption) | (with_reducible refine bel_alloc ?_ _) | (with_reducible refine bel_drew ?_) | (with_reducible refine below_drewN ?_ _) | (with_reducible refine bel_put ?_ (by first | exact Nat.le_refl _ | (simp; done) | (simp; omega)) _)))
    rintro e w1 ⟨rfl, hB1⟩
    have b1 : Box w1 w.heap.size 28 #[.int .i64 0, .int .i64 0, .int .i64 0, .slice none 0 0, .slice none 0 0] := (Box.new w _ _).below hB1 (by simp)
    have hBB1 : Below w.heap.size w w1 := bel_trans (by repeat (first | (with_reducible exact Below.refl _ _) | (with_reducible assumption) | (with_reducible refine bel_alloc ?_ _) | (with_reducible refine bel_drew ?_) | (with_reducible refine below_drewN ?_ _) | (with_reducible refine bel_put ?_ (by first | exact Nat.le_refl _ | (simp; done) | (simp; omega)) _))) hB1
    have u0 := b1.cell 0; have u1 := b1.cell 1; have u2 := b1.cell 2; have u3 := b1.cell 3; have u4 := b1.cell 4
    have f0 := b1.frozen 0; have f1 := b1.frozen 1; have f2 := b1.frozen 2; have f3 := b1.frozen 3; have f4 := b1.frozen 4
    go_wp2
    have bZ := ((((b1.put 0 (.int .i64 0)).put 1 (.int .i64 0)).put 2 (.int .i64 0)).put 3 (.slice none 0 0)).put 4 (.slice none 0 0)
    have e0 := bZ.cell 0; have e1 := bZ.cell 1; have e2 := bZ.cell 2; have e3 := bZ.cell 3; have e4 := bZ.cell 4
    refine bodyPost_ret (v := .tuple #[.agg #[.int .i64 0, .int .i64 0, .int .i64 0, .slice none 0 0, .slice none 0 0], .bool false]) (by simp [results, Try.results50, go_sem, e0, e1, e2, e3, e4]) rfl ?_
    rw [H.out]
    exact ⟨_, _, rfl, ReadsF.nil _ _, ReadsF.nil _ _, bel_put (bel_put (bel_put (bel_put (bel_put hBB1 (Nat.le_refl _) _) (Nat.le_refl _) _) (Nat.le_refl _) _) (Nat.le_refl _) _) (Nat.le_refl _) _⟩
set_option maxHeartbeats 8000000 in
theorem s_peel_b {w : World} {c m d : Nat} {A A' : Option Addr} {l pad : List Int} (s : Int) (hl : Ints .u8 w w.heap.size A 80 l) (hc : 80 ≤ c) (hcm : c ≤ 9223372036854775807) (hp : Ints .u8 w w.heap.size A' m pad) (hm : 80 ≤ m) (hm2 : m ≤ 140737488355328) (hs : Sec s) (hpub : Pub (get4 l)) (hn0 : peelN s l ≤ 68) (ho0 : opens (peelK s l) (peelB s l)) :
    Calls Try.prog 50 #[.int .i64 s, .slice A 80 c, .slice A' m d] w fun e w' => ∃ vL vC, e = .returned (.tuple #[.agg #[.int .i64 (ppeel s l pad).1.next, .int .i64 (ppeel s l pad).1.due, .int .i64 (ppeel s l pad).1.tag, vL, vC], .bool (ppeel s l pad).2]) ∧ ReadsF w.heap.size w' vL (ppeel s l pad).1.load ∧ ReadsF w.heap.size w' vC (ppeel s l pad).1.cell ∧ Below w.heap.size w w' := by
  have HO := Lib.hid ho0
  have HN0 := Lib.hid hn0
  clear ho0 hn0
  have hl80 := hl.1
  have hby := hl.bytes
  obtain ⟨b, off, rfl, hb, _⟩ := hl.2.1 (by omega)
  have hT8 := (hl.tail 8 (by omega)).head 4 (by omega)
  have rS := powP_rg (get4 l) s.toNat
  have rK := keyP_rg (powP (get4 l) s.toNat) 5
  have rK1 := keyP_rg (keyP (powP (get4 l) s.toNat) 5) 1
  have HH := Lib.hid (show xorl (keyP (keyP (powP (get4 l) s.toNat) 5) 1) ((l.drop 8).take 4) = peelH s l from rfl)
  have q1 : (8 : Int) ≤ (c : Int) := by omega
  have q2 : (12 : Int) ≤ (c : Int) := by omega
  go_enter Try.func50, Try.ntmps50
  go_wp2_with fail
  refine (s_shared_t s (reach hl ?hB) (by omega) (by omega) hs hpub).mono ?_
  case hB => exact (by repeat (first | (with_reducible exact Below.refl _ _) | (with_reducible assumption) | (with_reducible refine bel_alloc ?_ _) | (with_reducible refine bel_drew ?_) | (with_reducible refine below_drewN ?_ _) | (with_reducible refine bel_put ?_ (by first | exact Nat.le_refl _ | (simp; done) | (simp; omega)) _)))
  rintro e w1 ⟨rfl, hB1⟩
  have b1 : Box w1 w.heap.size 28 #[.int .i64 0, .int .i64 0, .int .i64 0, .slice none 0 0, .slice none 0 0] := (Box.new w _ _).below hB1 (by simp)
  have hB1' : Below w.heap.size w w1 := bel_trans (by repeat (first | (with_reducible exact Below.refl _ _) | (with_reducible assumption) | (with_reducible refine bel_alloc ?_ _) | (with_reducible refine bel_drew ?_) | (with_reducible refine below_drewN ?_ _) | (with_reducible refine bel_put ?_ (by first | exact Nat.le_refl _ | (simp; done) | (simp; omega)) _))) hB1
  clear hB1
  obtain ⟨S, hS⟩ : ∃ S, powP (get4 l) s.toNat = S := ⟨_, rfl⟩
  have HS := Lib.hid (show peelS s l = S from hS)
  rw [hS] at rS rK rK1 HH
  rw [hS]
  clear hS
  obtain ⟨K, hK⟩ : ∃ K, keyP S 5 = K := ⟨_, rfl⟩
  have HK := Lib.hid (show peelK s l = K by unfold peelK; rw [HS.out, hK])
  have HK5 := Lib.hid hK
  rw [hK] at rK rK1 HH
  clear hK
  have d0 : ¬ S < 0 := by omega
  go_wp2_with (go_at_call 89; refine (s_key _ _ _ rS.1 rS.2 (by omega) (by omega)).mono ?_; rintro e w' ⟨rfl, rfl⟩; rw [HK5.out])
  go_region_held3 (fun _ => True) (trivial) (first | (go_at_call 89; refine (s_key _ _ _ rK.1 rK.2 (by omega) (by omega)).mono ?_; rintro e w' ⟨rfl, rfl⟩) | (go_at_call 90; refine (s_xor _ (reach (reach hT8 hB1') (by repeat (first | (with_reducible exact Below.refl _ _) | (with_reducible assumption) | (with_reducible refine bel_alloc ?_ _) | (with_reducible refine bel_drew ?_) | (with_reducible refine below_drewN ?_ _) | (with_reducible refine bel_put ?_ (by first | exact Nat.le_refl _ | (simp; done) | (simp; omega)) _)))) (by omega) rK1.1 rK1.2).mono ?_; rintro e w2 ⟨vH, rfl, hO2, hB2⟩))
  rw [HH.out] at hO2
  have hB2' : Below w1.heap.size w1 w2 := bel_trans (by repeat (first | (with_reducible exact Below.refl _ _) | (with_reducible assumption) | (with_reducible refine bel_alloc ?_ _) | (with_reducible refine bel_drew ?_) | (with_reducible refine below_drewN ?_ _) | (with_reducible refine bel_put ?_ (by first | exact Nat.le_refl _ | (simp; done) | (simp; omega)) _))) hB2
  have hBB2 := bel_trans hB1' hB2'
  have b2 := b1.below hB2' b1.size
  clear hB2 b1 HH
  have hHl := peelH_len (s := s) hl80
  have hHb := (peelH_bytes (s := s) hby).at_ 3
  obtain ⟨N, hN⟩ : ∃ N : Nat, (peelH s l).getD 3 0 = (N : Int) := ⟨_, (peelN_eq hby).symm⟩
  have HN := Lib.hid (show peelN s l = N by have := peelN_eq (s := s) hby; omega)
  obtain ⟨AH, cH, rfl, hcH, hIH, _⟩ := hO2.ints
  obtain ⟨bH, oH, eA, hbH, hcells⟩ := hIH.2.1 (by omega)
  subst eA
  have hc3 := hcells 3 (by omega)
  rw [hN] at hc3 hHb
  clear hcells hN
  have q3 : (0 : Int) ≤ 3 := by omega
  have q4 : (3 : Int) < ((peelH s l).length : Int) := by omega
  have hmx : 8 + N ≤ 276 := by omega
  have u0 := b2.cell 0; have u1 := b2.cell 1; have u2 := b2.cell 2; have u3 := b2.cell 3; have u4 := b2.cell 4
  have f0 := b2.frozen 0; have f1 := b2.frozen 1; have f2 := b2.frozen 2; have f3 := b2.frozen 3; have f4 := b2.frozen 4
  have hn : N ≤ 68 := by have := HN0.out; rw [HN.out] at this; exact this
  have d1 : ¬ (68 : Int) < (N : Int) := by omega
  have hT4 := (hl.tail 4 (by omega)).head (8 + N) (by omega)
  have HB := Lib.hid (show (l.drop 4).take (8 + N) = peelB s l by unfold peelB; rw [HN.out])
  rw [HB.out] at hT4
  have q5 : (4 : Int) ≤ 12 + (N : Int) := by omega
  have q6 : 12 + (N : Int) ≤ (c : Int) := by omega
  have ho : opens K (peelB s l) := by have := HO.out; rw [HK.out] at this; exact this
  have HO2 := Lib.hid ho
  have hX := peelX_len (s := s) hl80 (by rw [HN.out]; exact hn)
  have hXb := peelX_bytes (s := s) hby
  have HX := Lib.hid (show openL K (peelB s l) = peelX s l by unfold peelX; rw [HK.out])
  rw [HN.out] at hX
  go_wp2_with fail
  rw [show 12 + N - 4 = 8 + N from by omega]
  refine (s_open_t _ (reach hT4 hBB2) (by omega) (by omega) (by omega) rK.1 rK.2 ho).mono ?_
  rintro e w3 ⟨vx, rfl, hO3, hB3⟩
  rw [HX.out] at hO3
  have hBB3 := bel_trans hBB2 hB3
  have b3 := b2.below hB3 b2.size
  have b2s0 := b2.size
  clear u0 u1 u2 u3 u4 f0 f1 f2 f3 f4 b2 hT4 hc3
  obtain ⟨xs, hxs⟩ : ∃ xs, peelX s l = xs := ⟨_, rfl⟩
  rw [hxs] at hO3 hX hXb
  have HXS := Lib.hid hxs
  clear hxs
  have hX1 : 4 + N ≤ xs.length := by omega
  have hX2 : xs.length ≤ 4 + N := by omega
  clear hX
  obtain ⟨gX, cX, eX, hcX, hcXm, hgX, hgXs, hXc, _⟩ := hO3.row (by omega)
  subst eX
  have y0r := hXb.at_ 0; have y1r := hXb.at_ 1; have y2r := hXb.at_ 2
  have hx0 := hXc 0 (by omega); have hx1 := hXc 1 (by omega); have hx2 := hXc 2 (by omega)
  obtain ⟨y0, hy0⟩ : ∃ y, xs.getD 0 0 = y := ⟨_, rfl⟩
  obtain ⟨y1, hy1⟩ : ∃ y, xs.getD 1 0 = y := ⟨_, rfl⟩
  obtain ⟨y2, hy2⟩ : ∃ y, xs.getD 2 0 = y := ⟨_, rfl⟩
  rw [hy0] at hx0 y0r; rw [hy1] at hx1 y1r; rw [hy2] at hx2 y2r
  have HY0 := Lib.hid hy0; have HY1 := Lib.hid hy1; have HY2 := Lib.hid hy2
  clear hy0 hy1 hy2 hXc
  obtain ⟨nx, hnx⟩ : ∃ n, xs.length = n := ⟨_, rfl⟩
  have HNX := Lib.hid hnx
  rw [hnx] at hO3 hX1 hX2 hcX ⊢
  clear hnx
  have i0 : IntKind.i64.wrap y0 = y0 := IntWalk.i64_in _ (by omega)
  have p0 : (0 : Int) < (nx : Int) := by omega
  have p1 : (1 : Int) < (nx : Int) := by omega
  have p2 : (2 : Int) < (nx : Int) := by omega
  have p3 : 0 < nx := by omega
  have i1 : IntKind.i64.wrap y1 = y1 := IntWalk.i64_in _ (by omega)
  have i2 : IntKind.i64.wrap y2 = y2 := IntWalk.i64_in _ (by omega)
  have i3 : IntKind.i64.wrap (y1 * 256) = y1 * 256 := IntWalk.i64_in _ (by omega)
  have i4 : IntKind.i64.wrap (y1 * 256 + y2) = y1 * 256 + y2 := IntWalk.i64_in _ (by omega)
  go_wp2_with fail
  go_region_held3 (fun w' => w'.cell? ⟨gX, 0, none⟩ = some (.int .u8 y0) ∧ w'.cell? ⟨gX, 1, none⟩ = some (.int .u8 y1) ∧ w'.cell? ⟨gX, 2, none⟩ = some (.int .u8 y2)) (go_keep) (first | (go_at_call 89; refine (s_key _ _ _ rS.1 rS.2 (by omega) (by omega)).mono ?_; rintro e w' ⟨rfl, rfl⟩))
  clear hT8 q1 q2 hB1' hB2' hHl hHb hcH hbH hO2 hIH q3 q4 hmx HB q5 q6 rK1 rK hl80 hc hcm hl hb ho
  all_goals
    obtain ⟨W4, hW4⟩ : ∃ W, (w3.alloc (.cells #[.int .i64 y0, .int .i64 (y1 * 256 + y2), .int .i64 (keyP S 9), .slice none 0 0, .slice none 0 0] 28)).drew = W := ⟨_, rfl⟩
    rw [hW4]
    have bO : Box W4 w3.heap.size 28 #[.int .i64 y0, .int .i64 (y1 * 256 + y2), .int .i64 (keyP S 9), .slice none 0 0, .slice none 0 0] := by rw [← hW4]; exact (Box.new w3 _ _).drew
    have b4 : Box W4 w.heap.size 28 #[.int .i64 0, .int .i64 0, .int .i64 0, .slice none 0 0, .slice none 0 0] := by rw [← hW4]; exact (b3.alloc _).drew
    have hB4 : Below w3.heap.size w3 W4 := by rw [← hW4]; exact (by repeat (first | (with_reducible exact Below.refl _ _) | (with_reducible assumption) | (with_reducible refine bel_alloc ?_ _) | (with_reducible refine bel_drew ?_) | (with_reducible refine below_drewN ?_ _) | (with_reducible refine bel_put ?_ (by first | exact Nat.le_refl _ | (simp; done) | (simp; omega)) _)))
    have hBB4 := bel_trans hBB3 hB4
    have hO4 := hO3.below hB4
    clear hW4 hx0 hx1 hx2 i1 i2 i3 i4 p0 p1 p2
    have u0 := b4.cell 0; have u1 := b4.cell 1; have u2 := b4.cell 2; have u3 := b4.cell 3; have u4 := b4.cell 4
    have f0 := b4.frozen 0; have f1 := b4.frozen 1; have f2 := b4.frozen 2; have f3 := b4.frozen 3; have f4 := b4.frozen 4
    have v0 := bO.cell 0; have v1 := bO.cell 1; have v2 := bO.cell 2; have v3 := bO.cell 3; have v4 := bO.cell 4
    have g3 := bO.frozen 3; have g4 := bO.frozen 4
    have hfin : peelV s l pad = { next := y0, due := y1 * 256 + y2, tag := keyP S 9, load := if y0 = 255 then xs.drop 4 else [], cell := if y0 = 255 then [] else padL (xs.drop 4) pad } := by
      unfold peelV; rw [HXS.out, HY0.out, HY1.out, HY2.out, HS.out]
    have HF := Lib.hid hfin
    clear hfin
    have hpk : LayOk y0 N → peels s l := fun h => ⟨hpub, by rw [HN.out]; exact hn, by rw [HK.out]; exact HO2.out, by rw [HXS.out, HY0.out, HN.out]; exact h⟩
    have hnk : ¬ LayOk y0 N → ¬ peels s l := fun h hp => h (by have := hp.2.2.2; rw [HXS.out, HY0.out, HN.out] at this; exact this)
    have HPK := Lib.hid hpk
    have HNK := Lib.hid hnk
    clear hpk hnk
    have hw3 : w.heap.size < w3.heap.size := b3.size
    have Hn3 := Lib.hid (show ∀ b, (Value.slice (some ⟨gX, 0, none⟩) nx cX).ownBlock = some b → b ≠ w3.heap.size from fun b hb => by have := hO3.block hb; omega)
    have Hnw := Lib.hid (show ∀ b, (Value.slice (some ⟨gX, 0, none⟩) nx cX).ownBlock = some b → b ≠ w.heap.size from fun b hb => by have := hO3.block hb; omega)
    have hc4 : (4 : Int) ≤ (nx : Int) := by omega
    have hc5 : (nx : Int) ≤ (cX : Int) := by omega
    have h4n : 4 ≤ nx := by omega
    clear hgX hgXs hB4 hBB3 b3
    by_cases hy : y0 = 255
    · subst hy
      by_cases hn24 : N ≤ 24
      · have H := Lib.hid (show ppeel s l pad = (⟨255, y1 * 256 + y2, keyP S 9, xs.drop 4, []⟩, true) by rw [ppeel_t (HPK.out (.inl ⟨rfl, hn24⟩)), HF.out]; simp)
        have d2 : ¬ (24 : Int) < (N : Int) := by omega
        by_cases hcx : cX = 4
        · subst hcx
          obtain rfl : nx = 4 := by omega
          go_wp2
          have bZ := (((((b4.far (p := ⟨w3.heap.size, 3, none⟩) (by show w.heap.size ≠ w3.heap.size; omega) (.slice (some ⟨gX, 0, none⟩) 0 0)).put 0 (.int .i64 255)).put 1 (.int .i64 (y1 * 256 + y2))).put 2 (.int .i64 (keyP S 9))).put 3 (.slice (some ⟨gX, 0, none⟩) 0 0)).put 4 (.slice none 0 0)
          have e0 := bZ.cell 0; have e1 := bZ.cell 1; have e2 := bZ.cell 2; have e3 := bZ.cell 3; have e4 := bZ.cell 4
          refine bodyPost_ret (v := .tuple #[.agg #[.int .i64 255, .int .i64 (y1 * 256 + y2), .int .i64 (keyP S 9), .slice (some ⟨gX, 0, none⟩) 0 0, .slice none 0 0], .bool true]) (by simp [results, Try.results50, go_sem, e0, e1, e2, e3, e4]) rfl ?_
          rw [H.out]
          exact ⟨_, _, rfl, ((((((hO4.away (g := w3.heap.size) Hn3.out 3 _).away (g := w.heap.size) Hnw.out 0 _).away (g := w.heap.size) Hnw.out 1 _).away (g := w.heap.size) Hnw.out 2 _).away (g := w.heap.size) Hnw.out 3 _).away (g := w.heap.size) Hnw.out 4 _).readsEndF rfl (by omega), ReadsF.nil _ _, bel_put (bel_put (bel_put (bel_put (bel_put (bel_put hBB4 (by show w.heap.size ≤ w3.heap.size; omega) _) (Nat.le_refl _) _) (Nat.le_refl _) _) (Nat.le_refl _) _) (Nat.le_refl _) _) (Nat.le_refl _) _⟩
        · go_wp2
          have bZ := (((((b4.far (p := ⟨w3.heap.size, 3, none⟩) (by show w.heap.size ≠ w3.heap.size; omega) (.slice (some ⟨gX, 4, none⟩) (nx - 4) (cX - 4))).put 0 (.int .i64 255)).put 1 (.int .i64 (y1 * 256 + y2))).put 2 (.int .i64 (keyP S 9))).put 3 (.slice (some ⟨gX, 4, none⟩) (nx - 4) (cX - 4))).put 4 (.slice none 0 0)
          have e0 := bZ.cell 0; have e1 := bZ.cell 1; have e2 := bZ.cell 2; have e3 := bZ.cell 3; have e4 := bZ.cell 4
          refine bodyPost_ret (v := .tuple #[.agg #[.int .i64 255, .int .i64 (y1 * 256 + y2), .int .i64 (keyP S 9), .slice (some ⟨gX, 4, none⟩) (nx - 4) (cX - 4), .slice none 0 0], .bool true]) (by simp [results, Try.results50, go_sem, e0, e1, e2, e3, e4]) rfl ?_
          rw [H.out]
          exact ⟨_, _, rfl, ((((((hO4.away (g := w3.heap.size) Hn3.out 3 _).away (g := w.heap.size) Hnw.out 0 _).away (g := w.heap.size) Hnw.out 1 _).away (g := w.heap.size) Hnw.out 2 _).away (g := w.heap.size) Hnw.out 3 _).away (g := w.heap.size) Hnw.out 4 _).readsTailF h4n (by omega), ReadsF.nil _ _, bel_put (bel_put (bel_put (bel_put (bel_put (bel_put hBB4 (by show w.heap.size ≤ w3.heap.size; omega) _) (Nat.le_refl _) _) (Nat.le_refl _) _) (Nat.le_refl _) _) (Nat.le_refl _) _) (Nat.le_refl _) _⟩
      · have H := Lib.hid (show ppeel s l pad = (Pel.zero, false) from ppeel_f (HNK.out (fun x => by rcases x with ⟨_, h⟩ | ⟨h, _⟩ <;> omega)))
        have d2 : (24 : Int) < (N : Int) := by omega
        go_wp2
        have bZ := ((((b4.put 0 (.int .i64 0)).put 1 (.int .i64 0)).put 2 (.int .i64 0)).put 3 (.slice none 0 0)).put 4 (.slice none 0 0)
        have e0 := bZ.cell 0; have e1 := bZ.cell 1; have e2 := bZ.cell 2; have e3 := bZ.cell 3; have e4 := bZ.cell 4
        refine bodyPost_ret (v := .tuple #[.agg #[.int .i64 0, .int .i64 0, .int .i64 0, .slice none 0 0, .slice none 0 0], .bool false]) (by simp [results, Try.results50, go_sem, e0, e1, e2, e3, e4]) rfl ?_
        rw [H.out]
        exact ⟨_, _, rfl, ReadsF.nil _ _, ReadsF.nil _ _, bel_put (bel_put (bel_put (bel_put (bel_put hBB4 (Nat.le_refl _) _) (Nat.le_refl _) _) (Nat.le_refl _) _) (Nat.le_refl _) _) (Nat.le_refl _) _⟩
    · have hyb : (y0 == 255) = false := by simpa using hy
      by_cases h8 : y0 < 8
      · by_cases h12 : 12 ≤ N
        · have H := Lib.hid (show ppeel s l pad = (⟨y0, y1 * 256 + y2, keyP S 9, [], padL (xs.drop 4) pad⟩, true) by rw [ppeel_t (HPK.out (.inr ⟨h8, h12⟩)), HF.out]; simp [hy])
          have d2 : ¬ (8 : Int) ≤ y0 := by omega
          have d3 : ¬ (N : Int) < 12 := by omega
          have hcx : ¬ cX = 4 := by omega
          obtain ⟨A4, n4, c4, eU, _, _, hI4⟩ := hO4.readsTail h4n
          injection eU with eU1 eU2 eU3
          subst eU1 eU2 eU3
          go_wp2_with fail
          refine (s_fill hI4 (reach hp hBB4) (by omega) hm hm2).mono ?_
          rintro e W5 ⟨vC, rfl, hO5, hB5⟩
          obtain ⟨A5, d5, rfl, _⟩ := hO5.ints
          have bO5 := bO.below hB5 bO.size
          have b5 := b4.below hB5 b4.size
          have hBB5 := bel_trans hBB4 hB5
          have hw34 := bO.size
          have Hn5 := Lib.hid (show ∀ b, (Value.slice A5 (padL (xs.drop 4) pad).length d5).ownBlock = some b → b ≠ w3.heap.size from fun b hb => by have := hO5.block hb; omega)
          have Hn6 := Lib.hid (show ∀ b, (Value.slice A5 (padL (xs.drop 4) pad).length d5).ownBlock = some b → b ≠ w.heap.size from fun b hb => by have := hO5.block hb; omega)
          clear u0 u1 u2 u3 u4 f0 f1 f2 f3 f4 v0 v1 v2 v3 v4 g3 g4
          have u0 := b5.cell 0; have u1 := b5.cell 1; have u2 := b5.cell 2; have u3 := b5.cell 3; have u4 := b5.cell 4
          have f0 := b5.frozen 0; have f1 := b5.frozen 1; have f2 := b5.frozen 2; have f3 := b5.frozen 3; have f4 := b5.frozen 4
          have v0 := bO5.cell 0; have v1 := bO5.cell 1; have v2 := bO5.cell 2; have v3 := bO5.cell 3; have v4 := bO5.cell 4
          have g3 := bO5.frozen 3; have g4 := bO5.frozen 4
          go_wp2
          have bZ := (((((b5.far (p := ⟨w3.heap.size, 4, none⟩) (by show w.heap.size ≠ w3.heap.size; omega) (.slice A5 (padL (xs.drop 4) pad).length d5)).put 0 (.int .i64 y0)).put 1 (.int .i64 (y1 * 256 + y2))).put 2 (.int .i64 (keyP S 9))).put 3 (.slice none 0 0)).put 4 (.slice A5 (padL (xs.drop 4) pad).length d5)
          have e0 := bZ.cell 0; have e1 := bZ.cell 1; have e2 := bZ.cell 2; have e3 := bZ.cell 3; have e4 := bZ.cell 4
          refine bodyPost_ret (v := .tuple #[.agg #[.int .i64 y0, .int .i64 (y1 * 256 + y2), .int .i64 (keyP S 9), .slice none 0 0, .slice A5 (padL (xs.drop 4) pad).length d5], .bool true]) (by simp [results, Try.results50, go_sem, e0, e1, e2, e3, e4]) rfl ?_
          rw [H.out]
          exact ⟨_, _, rfl, ReadsF.nil _ _, ((((((hO5.away (g := w3.heap.size) Hn5.out 4 _).away (g := w.heap.size) Hn6.out 0 _).away (g := w.heap.size) Hn6.out 1 _).away (g := w.heap.size) Hn6.out 2 _).away (g := w.heap.size) Hn6.out 3 _).away (g := w.heap.size) Hn6.out 4 _).readsF (by omega), bel_put (bel_put (bel_put (bel_put (bel_put (bel_put hBB5 (by show w.heap.size ≤ w3.heap.size; omega) _) (Nat.le_refl _) _) (Nat.le_refl _) _) (Nat.le_refl _) _) (Nat.le_refl _) _) (Nat.le_refl _) _⟩
        · have H := Lib.hid (show ppeel s l pad = (Pel.zero, false) from ppeel_f (HNK.out (fun x => by rcases x with ⟨h, _⟩ | ⟨_, h⟩ <;> omega)))
          have d2 : ¬ (8 : Int) ≤ y0 := by omega
          have d3 : (N : Int) < 12 := by omega
          go_wp2
          have bZ := ((((b4.put 0 (.int .i64 0)).put 1 (.int .i64 0)).put 2 (.int .i64 0)).put 3 (.slice none 0 0)).put 4 (.slice none 0 0)
          have e0 := bZ.cell 0; have e1 := bZ.cell 1; have e2 := bZ.cell 2; have e3 := bZ.cell 3; have e4 := bZ.cell 4
          refine bodyPost_ret (v := .tuple #[.agg #[.int .i64 0, .int .i64 0, .int .i64 0, .slice none 0 0, .slice none 0 0], .bool false]) (by simp [results, Try.results50, go_sem, e0, e1, e2, e3, e4]) rfl ?_
          rw [H.out]
          exact ⟨_, _, rfl, ReadsF.nil _ _, ReadsF.nil _ _, bel_put (bel_put (bel_put (bel_put (bel_put hBB4 (Nat.le_refl _) _) (Nat.le_refl _) _) (Nat.le_refl _) _) (Nat.le_refl _) _) (Nat.le_refl _) _⟩
      · have H := Lib.hid (show ppeel s l pad = (Pel.zero, false) from ppeel_f (HNK.out (fun x => by rcases x with ⟨h, _⟩ | ⟨h, _⟩ <;> omega)))
        have d2 : (8 : Int) ≤ y0 := by omega
        go_wp2
        have bZ := ((((b4.put 0 (.int .i64 0)).put 1 (.int .i64 0)).put 2 (.int .i64 0)).put 3 (.slice none 0 0)).put 4 (.slice none 0 0)
        have e0 := bZ.cell 0; have e1 := bZ.cell 1; have e2 := bZ.cell 2; have e3 := bZ.cell 3; have e4 := bZ.cell 4
        refine bodyPost_ret (v := .tuple #[.agg #[.int .i64 0, .int .i64 0, .int .i64 0, .slice none 0 0, .slice none 0 0], .bool false]) (by simp [results, Try.results50, go_sem, e0, e1, e2, e3, e4]) rfl ?_
        rw [H.out]
        exact ⟨_, _, rfl, ReadsF.nil _ _, ReadsF.nil _ _, bel_put (bel_put (bel_put (bel_put (bel_put hBB4 (Nat.le_refl _) _) (Nat.le_refl _) _) (Nat.le_refl _) _) (Nat.le_refl _) _) (Nat.le_refl _) _⟩
theorem s_peel {w : World} {c m d : Nat} {A A' : Option Addr} {l pad : List Int} (s : Int) (hl : Ints .u8 w w.heap.size A 80 l) (hc : 80 ≤ c) (hcm : c ≤ 9223372036854775807) (hp : Ints .u8 w w.heap.size A' m pad) (hm : 80 ≤ m) (hm2 : m ≤ 140737488355328) (hs : Sec s) :
    Calls Try.prog 50 #[.int .i64 s, .slice A 80 c, .slice A' m d] w fun e w' => ∃ vL vC, e = .returned (.tuple #[.agg #[.int .i64 (ppeel s l pad).1.next, .int .i64 (ppeel s l pad).1.due, .int .i64 (ppeel s l pad).1.tag, vL, vC], .bool (ppeel s l pad).2]) ∧ ReadsF w.heap.size w' vL (ppeel s l pad).1.load ∧ ReadsF w.heap.size w' vC (ppeel s l pad).1.cell ∧ Below w.heap.size w w' := by
  by_cases h : (2 ≤ get4 l ∧ get4 l < 2147483646) ∧ peelN s l ≤ 68 ∧ opens (peelK s l) (peelB s l)
  · exact s_peel_b s hl hc hcm hp hm hm2 hs h.1 h.2.1 h.2.2
  · exact s_peel_a s hl hc hcm hs h
end Go.Proofs.Ytpapkonejkdkhaa
