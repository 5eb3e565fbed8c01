/-
  Contracts of the program's peeling: a decoder that panics, and the deferred function that recovers.
-/
import Derived.Test.YtpapkonejkdkhaaImplThree
import Derived.Defers
import Derived.Recover
import Derived.WalkSmall
import Derived.Test.YtpapkonejkdkhaaReads
import Derived.Laws.Pointers
namespace Go.Proofs.Ytpapkonejkdkhaa
set_option maxRecDepth 100000
set_option linter.unusedSimpArgs false
open Go.ChangeShapes Go.WideShapes Go.ChangeAt Go.RowKit
open Fld
attribute [local go_sem ↓] Go.wp_at_zero Go.wp_at_succ

theorem i_isNode (n : Int) (w : World) : Calls Try.prog 64 #[.int .i64 n] w fun e w' => e = .returned (.bool (decide (0 ≤ n ∧ n < 8))) ∧ w = w' := by
  by_cases h1 : 0 ≤ n
  · by_cases h2 : n < 8
    · go_enter Try.func64, Try.ntmps64
      go_wp2
      go_ret
      exact ⟨by simp [h1, h2], rfl⟩
    · go_enter Try.func64, Try.ntmps64
      go_wp2
      go_ret
      exact ⟨by simp [h2], rfl⟩
  · go_enter Try.func64, Try.ntmps64
    go_wp2
    go_ret
    exact ⟨by simp; omega, rfl⟩
theorem i_demand_t (w : World) : Calls Try.prog 53 #[.bool true] w fun e w' => e = .returned (.tuple #[]) ∧ w = w' := by
  go_enter Try.func53, Try.ntmps53
  go_wp2
  go_end0
  exact ⟨rfl, rfl⟩
theorem i_demand_f (w : World) : Calls Try.prog 53 #[.bool false] w fun e w' => (∃ v, e = .panicked [{ v := .iface 9 v, recovered := false }]) ∧ w = w' := by
  go_enter Try.func53, Try.ntmps53
  go_wp2
  exact ⟨rfl, ⟨_, rfl⟩, rfl⟩
theorem i_layerOf_e {n c : Nat} {A : Option Addr} (w : World) (hn : n ≤ 24) :
    Calls Try.prog 99 #[.int .i64 255, .slice A n c] w fun e w' => e = .returned (.iface 85 (.agg #[.slice A n c])) ∧ w = w' := by
  have d : decide ((n : Int) ≤ 24) = true := by simp; omega
  go_enter Try.func99, Try.ntmps99
  go_wp2_with (go_at_call 53; refine (i_demand_t _).mono ?_; rintro e w' ⟨rfl, rfl⟩)
  go_ret
  exact ⟨rfl, rfl⟩
theorem i_layerOf_ef {n c : Nat} {A : Option Addr} (w : World) (hn : ¬ n ≤ 24) :
    Calls Try.prog 99 #[.int .i64 255, .slice A n c] w fun e w' => (∃ v, e = .panicked [{ v := .iface 9 v, recovered := false }]) ∧ w = w' := by
  have d : decide ((n : Int) ≤ 24) = false := by simp; omega
  clear hn
  go_enter Try.func99, Try.ntmps99
  go_wp2_with (go_at_call 53; refine (i_demand_f _).mono ?_; rintro e w' ⟨⟨v, rfl⟩, rfl⟩)
  exact ⟨rfl, ⟨_, rfl⟩, rfl⟩
theorem i_layerOf_r {n c : Nat} {A : Option Addr} (y : Int) (w : World) (hy : ¬ y = 255) (h0 : 0 ≤ y) (h8 : y < 8) (hn : 12 ≤ n) :
    Calls Try.prog 99 #[.int .i64 y, .slice A n c] w fun e w' => e = .returned (.iface 87 (.agg #[.int .i64 y, .slice A n c])) ∧ w = w' := by
  have d : decide ((12 : Int) ≤ (n : Int)) = true := by simp; omega
  have e1 : (y == 255) = false := by simpa using hy
  have HD := Lib.hid (show decide (0 ≤ y ∧ y < 8) = true by simp; omega)
  go_enter Try.func99, Try.ntmps99
  go_wp2_with (first | (go_at_call 64; refine (i_isNode _ _).mono ?_; rintro e w' ⟨rfl, rfl⟩; rw [HD.out]) | (go_at_call 53; refine (i_demand_t _).mono ?_; rintro e w' ⟨rfl, rfl⟩))
  go_ret
  exact ⟨rfl, rfl⟩
theorem i_layerOf_rf {n c : Nat} {A : Option Addr} (y : Int) (w : World) (hy : ¬ y = 255) (h : ¬ (y < 8 ∧ 12 ≤ n)) :
    Calls Try.prog 99 #[.int .i64 y, .slice A n c] w fun e w' => (∃ v, e = .panicked [{ v := .iface 9 v, recovered := false }]) ∧ w = w' := by
  have e1 : (y == 255) = false := by simpa using hy
  by_cases h8 : 0 ≤ y ∧ y < 8
  · have d : decide ((12 : Int) ≤ (n : Int)) = false := by simp; omega
    have HD := Lib.hid (show decide (0 ≤ y ∧ y < 8) = true by simpa using h8)
    clear h h8
    go_enter Try.func99, Try.ntmps99
    go_wp2_with (first | (go_at_call 64; refine (i_isNode _ _).mono ?_; rintro e w' ⟨rfl, rfl⟩; rw [HD.out]) | (go_at_call 53; refine (i_demand_f _).mono ?_; rintro e w' ⟨⟨v, rfl⟩, rfl⟩))
    exact ⟨rfl, ⟨_, rfl⟩, rfl⟩
  · have HD := Lib.hid (show decide (0 ≤ y ∧ y < 8) = false by simpa using h8)
    clear h h8
    go_enter Try.func99, Try.ntmps99
    go_wp2_with (first | (go_at_call 64; refine (i_isNode _ _).mono ?_; rintro e w' ⟨rfl, rfl⟩; rw [HD.out]) | (go_at_call 53; refine (i_demand_f _).mono ?_; rintro e w' ⟨⟨v, rfl⟩, rfl⟩))
    exact ⟨rfl, ⟨_, rfl⟩, rfl⟩
set_option maxHeartbeats 2000000 in
theorem i_decoded_n {w : World} {c : Nat} {A : Option Addr} {l : List Int} (s : Int) (hl : Ints .u8 w w.heap.size A 80 l) (hc : 80 ≤ c) (hcm : c ≤ 9223372036854775807) (hpub : NoPub (get4 l)) :
    Calls Try.prog 56 #[.int .i64 s, .agg #[.slice A 80 c]] w fun e w' => (∃ v, e = .panicked [{ v := .iface 9 v, recovered := false }]) ∧ Below w.heap.size w w' := by
  go_enter Try.func56, Try.ntmps56
  go_wp2_with fail
  refine (i_pubIn (reach hl ?hB) (by omega) hc hcm).mono ?_
  case hB => exact (by repeat (first | (with_reducible exact Below.refl _ _) | (with_reducible assumption) | (with_reducible refine bel_alloc ?_ _) | (with_reducible refine bel_drew ?_) | (with_reducible refine below_drewN ?_ _) | (with_reducible refine bel_put ?_ (by first | exact Nat.le_refl _ | (simp; done) | (simp; omega)) _)))
  rintro e w1 ⟨rfl, hB1⟩
  go_wp2_with (first | (go_at_call 94; with_reducible refine (i_pub_f _ _ (by assumption)).mono ?_; rintro e w' ⟨rfl, rfl⟩) | (go_at_call 53; refine (i_demand_f _).mono ?_; rintro e w' ⟨⟨v, rfl⟩, rfl⟩))
  exact ⟨rfl, ⟨_, rfl⟩, bel_trans (a := w) (by repeat (first | (with_reducible exact Below.refl _ _) | (with_reducible assumption) | (with_reducible refine bel_alloc ?_ _) | (with_reducible refine bel_drew ?_) | (with_reducible refine below_drewN ?_ _) | (with_reducible refine bel_put ?_ (by first | exact Nat.le_refl _ | (simp; done) | (simp; omega)) _))) hB1⟩
set_option maxHeartbeats 4000000 in
theorem i_decoded_p {w : World} {c : Nat} {A : Option Addr} {l : List Int} (s : Int) (hl : Ints .u8 w w.heap.size A 80 l) (hc : 80 ≤ c) (hcm : c ≤ 9223372036854775807) (hs : Sec s) (hpub : Pub (get4 l)) (hno : ¬ (peelN s l ≤ 68 ∧ opens (peelK s l) (peelB s l))) :
    Calls Try.prog 56 #[.int .i64 s, .agg #[.slice A 80 c]] w fun e w' => (∃ v, e = .panicked [{ v := .iface 9 v, recovered := false }]) ∧ Below w.heap.size w w' := by
  have HNO := Lib.hid hno
  clear hno
  have hl80 := hl.1
  have hby := hl.bytes
  obtain ⟨b, off, rfl, hb, _⟩ := hl.2.1 (by omega)
  have hT8 := ((hl.tail 4 (by omega)).tail 4 (by omega)).head 4 (by omega)
  rw [List.drop_drop] at hT8
  have hc4 : ¬ c = 4 := by omega
  have hc8 : ¬ c - 4 = 4 := by omega
  have hc9 : ¬ c = 8 := by omega
  have g4 : (4 : Int) ≤ (c : Int) := by omega
  have g8 : (8 : Int) ≤ (c : Int) - 4 := by omega
  have g80 : (80 : Int) ≤ (c : Int) := by omega
  have g9 : (8 : Int) ≤ ((c - 4 : Nat) : Int) := by omega
  have rS := powP_rg (get4 l) s.toNat
  have HSh := Lib.hid (shared_t hs hpub)
  obtain ⟨S, hS⟩ : ∃ S, powP (get4 l) s.toNat = S := ⟨_, rfl⟩
  have HS := Lib.hid (show peelS s l = S from hS)
  rw [hS] at rS HSh
  clear hS
  have HK5 := Lib.hid (fkey_t (a := S) (b := 5) rS ⟨by decide, by decide⟩)
  obtain ⟨K, hK⟩ : ∃ K, keyP S 5 = K := ⟨_, rfl⟩
  have rK := keyP_rg S 5
  have HK := Lib.hid (show peelK s l = K by unfold peelK; rw [HS.out, hK])
  rw [hK] at HK5 rK
  clear hK
  have HK1 := Lib.hid (fkey_t (a := K) (b := 1) rK ⟨by decide, by decide⟩)
  have rK1 := keyP_rg K 1
  have HH := Lib.hid (show fxor (keyP K 1) ((l.drop (4 + 4)).take 4) = peelH s l by
    rw [fxor_t rK1 (by rw [List.length_take]; omega)]; unfold peelH; rw [HK.out])
  go_enter Try.func56, Try.ntmps56
  go_wp2_with fail
  refine (i_pubIn (reach hl ?hB) (by omega) hc hcm).mono ?_
  case hB => exact (by repeat (first | (with_reducible exact Below.refl _ _) | (with_reducible assumption) | (with_reducible refine bel_alloc ?_ _) | (with_reducible refine bel_drew ?_) | (with_reducible refine below_drewN ?_ _) | (with_reducible refine bel_put ?_ (by first | exact Nat.le_refl _ | (simp; done) | (simp; omega)) _)))
  rintro e w1 ⟨rfl, hB1⟩
  have bc : Box w1 w.heap.size 26 #[.slice (some ⟨b, off, none⟩) 80 c] := (Box.new w _ _).below hB1 (by simp)
  have cc := bc.cell 0
  have hB1' : Below w.heap.size w w1 := bel_trans (by repeat (first | (with_reducible exact Below.refl _ _) | (with_reducible assumption) | (with_reducible refine bel_alloc ?_ _) | (with_reducible refine bel_drew ?_) | (with_reducible refine below_drewN ?_ _) | (with_reducible refine bel_put ?_ (by first | exact Nat.le_refl _ | (simp; done) | (simp; omega)) _))) hB1
  clear hB1
  go_wp2_with (first | (go_at_call 94; with_reducible refine (i_pub_t _ _ (by assumption)).mono ?_; rintro e w' ⟨rfl, rfl⟩) | (go_at_call 53; refine (i_demand_t _).mono ?_; rintro e w' ⟨rfl, rfl⟩) | (go_at_call 96; refine (i_Shared _ _ _).mono ?_; rintro e w' ⟨rfl, rfl⟩; rw [HSh.out]) | (go_at_call 95; refine (i_KeyOf _ _ _).mono ?_; rintro e w' ⟨rfl, rfl⟩; rw [HK5.out]))
  go_region_held3 (fun _ => True) (trivial) (first | (go_at_call 95; refine (i_KeyOf _ _ _).mono ?_; rintro e w' ⟨rfl, rfl⟩; rw [HK1.out]) | (go_at_call 97; refine (i_XorWith _ (reach (reach hT8 hB1') (by repeat (first | (with_reducible exact Below.refl _ _) | (with_reducible assumption) | (with_reducible refine bel_alloc ?_ _) | (with_reducible refine bel_drew ?_) | (with_reducible refine below_drewN ?_ _) | (with_reducible refine bel_put ?_ (by first | exact Nat.le_refl _ | (simp; done) | (simp; omega)) _)))) (by omega)).mono ?_; rintro e w2 ⟨vH, rfl, hO2, hB2⟩))
  rw [HH.out] at hO2
  have hB2' : Below w1.heap.size w1 w2 := bel_trans (by repeat (first | (with_reducible exact Below.refl _ _) | (with_reducible assumption) | (with_reducible refine bel_alloc ?_ _) | (with_reducible refine bel_drew ?_) | (with_reducible refine below_drewN ?_ _) | (with_reducible refine bel_put ?_ (by first | exact Nat.le_refl _ | (simp; done) | (simp; omega)) _))) hB2
  have hBB2 := bel_trans hB1' hB2'
  clear hB2 bc HH
  have hHl := peelH_len (s := s) hl80
  have hHb := (peelH_bytes (s := s) hby).at_ 3
  obtain ⟨N, hN⟩ : ∃ N : Nat, (peelH s l).getD 3 0 = (N : Int) := ⟨_, (peelN_eq hby).symm⟩
  have HN := Lib.hid (show peelN s l = N by have := peelN_eq (s := s) hby; omega)
  obtain ⟨AH, cH, rfl, hcH, hIH, _⟩ := hO2.ints
  obtain ⟨bH, oH, eA, hbH, hcells⟩ := hIH.2.1 (by omega)
  subst eA
  have hc3 := hcells 3 (by omega)
  rw [hN] at hc3 hHb
  clear hcells hN
  have q3 : (0 : Int) ≤ 3 := by omega
  have q4 : (3 : Int) < ((peelH s l).length : Int) := by omega
  by_cases hn : N ≤ 68
  · have d1 : decide ((N : Int) ≤ 68) = true := by simp; omega
    have hT4 := (hl.tail 4 (by omega)).head (8 + N) (by omega)
    have HB := Lib.hid (show (l.drop 4).take (8 + N) = peelB s l by unfold peelB; rw [HN.out])
    rw [HB.out] at hT4
    have ho : ¬ opens K (peelB s l) := fun h => HNO.out ⟨by rw [HN.out]; exact hn, by rw [HK.out]; exact h⟩
    have q5 : (0 : Int) ≤ 8 + (N : Int) := by omega
    have q6 : 8 + (N : Int) ≤ ((c - 4 : Nat) : Int) := by omega
    have q7 : 8 + (N : Int) ≤ (c : Int) - 4 := by omega
    go_wp2_with (go_at_call 53; refine (i_demand_t _).mono ?_; rintro e w' ⟨rfl, rfl⟩)
    refine (i_Open_f _ (reach hT4 hBB2) (by omega) (by omega) (by omega) (by omega) rK ho).mono ?_
    rintro e w3 ⟨rfl, hB3⟩
    go_wp2_with (go_at_call 53; refine (i_demand_f _).mono ?_; rintro e w' ⟨⟨v, rfl⟩, rfl⟩)
    exact ⟨rfl, ⟨_, rfl⟩, bel_trans hBB2 hB3⟩
  · have d1 : decide ((N : Int) ≤ 68) = false := by simp; omega
    go_wp2_with (go_at_call 53; refine (i_demand_f _).mono ?_; rintro e w' ⟨⟨v, rfl⟩, rfl⟩)
    exact ⟨rfl, ⟨_, rfl⟩, hBB2⟩
set_option maxHeartbeats 8000000 in
theorem i_decoded_t {w : World} {c : Nat} {A : Option Addr} {l : List Int} (s : Int) (hl : Ints .u8 w w.heap.size A 80 l) (hc : 80 ≤ c) (hcm : c ≤ 9223372036854775807) (hs : Sec s) (hpub : Pub (get4 l)) (hn0 : peelN s l ≤ 68) (ho0 : opens (peelK s l) (peelB s l)) :
    Calls Try.prog 56 #[.int .i64 s, .agg #[.slice A 80 c]] w fun e w' => Below w.heap.size w w' ∧
      ((¬ LayOk ((peelX s l).getD 0 0) (peelN s l) ∧ ∃ v, e = .panicked [{ v := .iface 9 v, recovered := false }]) ∨
       (LayOk ((peelX s l).getD 0 0) (peelN s l) ∧ ∃ vL, ReadsF w.heap.size w' vL ((peelX s l).drop 4) ∧ ((peelX s l).getD 0 0 = 255 ∧ e = .returned (.tuple #[.iface 85 (.agg #[vL]), .int .i64 ((peelX s l).getD 1 0 * 256 + (peelX s l).getD 2 0)]) ∨
         ¬ (peelX s l).getD 0 0 = 255 ∧ e = .returned (.tuple #[.iface 87 (.agg #[.int .i64 ((peelX s l).getD 0 0), vL]), .int .i64 ((peelX s l).getD 1 0 * 256 + (peelX s l).getD 2 0)])))) := by
  have HO := Lib.hid ho0
  have HN0 := Lib.hid hn0
  clear hn0 ho0
  have hl80 := hl.1
  have hby := hl.bytes
  obtain ⟨b, off, rfl, hb, _⟩ := hl.2.1 (by omega)
  have hT8 := ((hl.tail 4 (by omega)).tail 4 (by omega)).head 4 (by omega)
  rw [List.drop_drop] at hT8
  have hc4 : ¬ c = 4 := by omega
  have hc8 : ¬ c - 4 = 4 := by omega
  have hc9 : ¬ c = 8 := by omega
  have g4 : (4 : Int) ≤ (c : Int) := by omega
  have g8 : (8 : Int) ≤ (c : Int) - 4 := by omega
  have g80 : (80 : Int) ≤ (c : Int) := by omega
  have g9 : (8 : Int) ≤ ((c - 4 : Nat) : Int) := by omega
  have rS := powP_rg (get4 l) s.toNat
  have HSh := Lib.hid (shared_t hs hpub)
  obtain ⟨S, hS⟩ : ∃ S, powP (get4 l) s.toNat = S := ⟨_, rfl⟩
  have HS := Lib.hid (show peelS s l = S from hS)
  rw [hS] at rS HSh
  clear hS
  have HK5 := Lib.hid (fkey_t (a := S) (b := 5) rS ⟨by decide, by decide⟩)
  obtain ⟨K, hK⟩ : ∃ K, keyP S 5 = K := ⟨_, rfl⟩
  have rK := keyP_rg S 5
  have HK := Lib.hid (show peelK s l = K by unfold peelK; rw [HS.out, hK])
  rw [hK] at HK5 rK
  clear hK
  have HK1 := Lib.hid (fkey_t (a := K) (b := 1) rK ⟨by decide, by decide⟩)
  have rK1 := keyP_rg K 1
  have HH := Lib.hid (show fxor (keyP K 1) ((l.drop (4 + 4)).take 4) = peelH s l by
    rw [fxor_t rK1 (by rw [List.length_take]; omega)]; unfold peelH; rw [HK.out])
  go_enter Try.func56, Try.ntmps56
  go_wp2_with fail
  refine (i_pubIn (reach hl ?hB) (by omega) hc hcm).mono ?_
  case hB => exact (by repeat (first | (with_reducible exact Below.refl _ _) | (with_reducible assumption) | (with_reducible refine bel_alloc ?_ _) | (with_reducible refine bel_drew ?_) | (with_reducible refine below_drewN ?_ _) | (with_reducible refine bel_put ?_ (by first | exact Nat.le_refl _ | (simp; done) | (simp; omega)) _)))
  rintro e w1 ⟨rfl, hB1⟩
  have bc : Box w1 w.heap.size 26 #[.slice (some ⟨b, off, none⟩) 80 c] := (Box.new w _ _).below hB1 (by simp)
  have cc := bc.cell 0
  have hB1' : Below w.heap.size w w1 := bel_trans (by repeat (first | (with_reducible exact Below.refl _ _) | (with_reducible assumption) | (with_reducible refine bel_alloc ?_ _) | (with_reducible refine bel_drew ?_) | (with_reducible refine below_drewN ?_ _) | (with_reducible refine bel_put ?_ (by first | exact Nat.le_refl _ | (simp; done) | (simp; omega)) _))) hB1
  clear hB1
  go_wp2_with (first | (go_at_call 94; with_reducible refine (i_pub_t _ _ (by assumption)).mono ?_; rintro e w' ⟨rfl, rfl⟩) | (go_at_call 53; refine (i_demand_t _).mono ?_; rintro e w' ⟨rfl, rfl⟩) | (go_at_call 96; refine (i_Shared _ _ _).mono ?_; rintro e w' ⟨rfl, rfl⟩; rw [HSh.out]) | (go_at_call 95; refine (i_KeyOf _ _ _).mono ?_; rintro e w' ⟨rfl, rfl⟩; rw [HK5.out]))
  go_region_held3 (fun _ => True) (trivial) (first | (go_at_call 95; refine (i_KeyOf _ _ _).mono ?_; rintro e w' ⟨rfl, rfl⟩; rw [HK1.out]) | (go_at_call 97; refine (i_XorWith _ (reach (reach hT8 hB1') (by repeat (first | (with_reducible exact Below.refl _ _) | (with_reducible assumption) | (with_reducible refine bel_alloc ?_ _) | (with_reducible refine bel_drew ?_) | (with_reducible refine below_drewN ?_ _) | (with_reducible refine bel_put ?_ (by first | exact Nat.le_refl _ | (simp; done) | (simp; omega)) _)))) (by omega)).mono ?_; rintro e w2 ⟨vH, rfl, hO2, hB2⟩))
  rw [HH.out] at hO2
  have hB2' : Below w1.heap.size w1 w2 := bel_trans (by repeat (first | (with_reducible exact Below.refl _ _) | (with_reducible assumption) | (with_reducible refine bel_alloc ?_ _) | (with_reducible refine bel_drew ?_) | (with_reducible refine below_drewN ?_ _) | (with_reducible refine bel_put ?_ (by first | exact Nat.le_refl _ | (simp; done) | (simp; omega)) _))) hB2
  have hBB2 := bel_trans hB1' hB2'
  clear hB2 bc HH
  have hHl := peelH_len (s := s) hl80
  have hHb := (peelH_bytes (s := s) hby).at_ 3
  obtain ⟨N, hN⟩ : ∃ N : Nat, (peelH s l).getD 3 0 = (N : Int) := ⟨_, (peelN_eq hby).symm⟩
  have HN := Lib.hid (show peelN s l = N by have := peelN_eq (s := s) hby; omega)
  obtain ⟨AH, cH, rfl, hcH, hIH, _⟩ := hO2.ints
  obtain ⟨bH, oH, eA, hbH, hcells⟩ := hIH.2.1 (by omega)
  subst eA
  have hc3 := hcells 3 (by omega)
  rw [hN] at hc3 hHb
  clear hcells hN
  have q3 : (0 : Int) ≤ 3 := by omega
  have q4 : (3 : Int) < ((peelH s l).length : Int) := by omega
  have hn : N ≤ 68 := by have := HN0.out; rw [HN.out] at this; exact this
  have d1 : decide ((N : Int) ≤ 68) = true := by simp; omega
  have hT4 := (hl.tail 4 (by omega)).head (8 + N) (by omega)
  have HB := Lib.hid (show (l.drop 4).take (8 + N) = peelB s l by unfold peelB; rw [HN.out])
  rw [HB.out] at hT4
  have ho : opens K (peelB s l) := by have := HO.out; rw [HK.out] at this; exact this
  have hX := peelX_len (s := s) hl80 (by rw [HN.out]; exact hn)
  have hXb := peelX_bytes (s := s) hby
  have HX := Lib.hid (show openL K (peelB s l) = peelX s l by unfold peelX; rw [HK.out])
  rw [HN.out] at hX
  have q5 : (0 : Int) ≤ 8 + (N : Int) := by omega
  have q6 : 8 + (N : Int) ≤ ((c - 4 : Nat) : Int) := by omega
  have q7 : 8 + (N : Int) ≤ (c : Int) - 4 := by omega
  go_wp2_with (go_at_call 53; refine (i_demand_t _).mono ?_; rintro e w' ⟨rfl, rfl⟩)
  refine (i_Open_t _ (reach hT4 hBB2) (by omega) (by omega) (by omega) (by omega) rK ho).mono ?_
  rintro e w3 ⟨vx, rfl, hO3, hB3⟩
  rw [HX.out] at hO3
  have hBB3 := bel_trans hBB2 hB3
  have hw2 := hBB2.size
  clear hT4 hc3 hT8 hc4 hc8 hc9 g4 g8 g80 g9 hB1' hB2' hBB2 hHl hHb hcH hbH hO2 hIH q3 q4 q5 q6 q7 rK1 rK rS ho HB
  obtain ⟨xs, hxs⟩ : ∃ xs, peelX s l = xs := ⟨_, rfl⟩
  rw [hxs] at hO3 hX hXb
  have HXS := Lib.hid hxs
  clear hxs
  have hX1 : 4 + N ≤ xs.length := by omega
  have hX2 : xs.length ≤ 4 + N := by omega
  clear hX
  obtain ⟨gX, cX, eX, hcX, hcXm, hgX, hgXs, hXc, _⟩ := hO3.row (by omega)
  subst eX
  have y0r := hXb.at_ 0; have y1r := hXb.at_ 1; have y2r := hXb.at_ 2
  have hx0 := hXc 0 (by omega)
  obtain ⟨y0, hy0⟩ : ∃ y, xs.getD 0 0 = y := ⟨_, rfl⟩
  obtain ⟨y1, hy1⟩ : ∃ y, xs.getD 1 0 = y := ⟨_, rfl⟩
  obtain ⟨y2, hy2⟩ : ∃ y, xs.getD 2 0 = y := ⟨_, rfl⟩
  rw [hy0] at hx0 y0r; rw [hy1] at y1r; rw [hy2] at y2r
  have HY0 := Lib.hid hy0; have HY1 := Lib.hid hy1; have HY2 := Lib.hid hy2
  have hnum : num ((xs.drop 1).take 2) = y1 * 256 + y2 := by
    match xs, hX1, hy1, hy2 with
    | a :: b :: c :: r, _, h1, h2 => 
      simp at h1 h2
      subst h1 h2
      simp [num]
    | [], h, _, _ => simp at h
    | [a], h, _, _ => simp at h; omega
    | [a, b], h, _, _ => simp at h; omega
  have HNU := Lib.hid hnum
  clear hy0 hy1 hy2 hXc hnum
  obtain ⟨nx, hnx⟩ : ∃ n, xs.length = n := ⟨_, rfl⟩
  have HNX := Lib.hid hnx
  rw [hnx] at hO3 hX1 hX2 hcX ⊢
  clear hnx
  have i0 : IntKind.i64.wrap y0 = y0 := IntWalk.i64_in _ (by omega)
  have p0 : (0 : Int) < (nx : Int) := by omega
  have p3 : 0 < nx := by omega
  have p4 : (4 : Int) ≤ (nx : Int) := by omega
  have p5 : (3 : Int) ≤ (cX : Int) := by omega
  have p6 : (nx : Int) ≤ (cX : Int) := by omega
  have hI3 := hO3.intsAt.1
  have hIn := (hI3.tail 1 (by omega)).head 2 (by omega)
  go_wp2_with (go_at_call 53; refine (i_demand_t _).mono ?_; rintro e w' ⟨rfl, rfl⟩)
  rw [Nat.zero_add] at hIn
  have hc1 : ¬ cX = 1 := by omega
  by_cases hcx : cX = 4
  · subst hcx
    obtain rfl : nx = 4 := by omega
    by_cases hy : y0 = 255
    · subst hy
      by_cases h24 : N ≤ 24
      · skip
        go_region_held3 (fun w' => w'.cell? ⟨gX, 0, none⟩ = some (.int .u8 255)) (go_keep) (first | (go_at_call 99; refine (i_layerOf_e _ (by omega)).mono ?_; rintro e w' ⟨rfl, rfl⟩) | (go_at_call 100; refine (i_number (hIn.drewN _) (by omega)).mono ?_; rintro e w' ⟨rfl, rfl⟩; rw [HNU.out]))
        go_wp2
        go_ret2
        rw [HXS.out, HN.out, HY0.out, HY1.out, HY2.out]
        exact ⟨below_drewN hBB3 _, .inr ⟨.inl ⟨rfl, h24⟩, _, hO3.readsEndF (by omega) hw2, .inl ⟨rfl, rfl⟩⟩⟩
      · skip
        refine wp_region_held_drew (S := fun w' => w'.cell? ⟨gX, 0, none⟩ = some (.int .u8 255)) (by kernel_rfl) (by exact hx0) (fun hHeld => ?_)
        refine wpAnyH_take (i := 0) (v := .slice (some ⟨gX, 0, none⟩) 4 4) rfl (by kernel_rfl) (by kernel_rfl) (by kernel_rfl) (fun _ _ _ h => h) (Or.inl ⟨by rfl, ?_⟩) (by assumption) ?_
        · intro w hSw; go_simp
        simp only [Act.put, List.setIfInBounds_toArray, List.set_cons_zero, List.set_cons_succ]
        refine wpAnyH_take (i := 1) (v := .pointer (some ⟨gX, 0, none⟩)) rfl (by kernel_rfl) (by kernel_rfl) (by kernel_rfl) (fun _ _ _ h => h) (Or.inl ⟨by rfl, ?_⟩) (by assumption) ?_
        · intro w hSw; go_simp
        simp only [Act.put, List.setIfInBounds_toArray, List.set_cons_zero, List.set_cons_succ]
        refine wpAnyH_take (i := 2) (v := .int .u8 255) rfl (by kernel_rfl) (by kernel_rfl) (by kernel_rfl) (fun _ _ _ h => h) (Or.inl ⟨by rfl, ?_⟩) (by assumption) ?_
        · intro w hSw; go_simp
        simp only [Act.put, List.setIfInBounds_toArray, List.set_cons_zero, List.set_cons_succ]
        refine wpAnyH_take (i := 3) (v := .int .i64 255) rfl (by kernel_rfl) (by kernel_rfl) (by kernel_rfl) (fun _ _ _ h => h) (Or.inl ⟨by rfl, ?_⟩) (by assumption) ?_
        · intro w hSw; go_simp
        simp only [Act.put, List.setIfInBounds_toArray, List.set_cons_zero, List.set_cons_succ]
        refine wpAnyH_take (i := 4) (v := .slice (some ⟨gX, 0, none⟩) 4 4) rfl (by kernel_rfl) (by kernel_rfl) (by kernel_rfl) (fun _ _ _ h => h) (Or.inl ⟨by rfl, ?_⟩) (by assumption) ?_
        · intro w hSw; go_simp
        simp only [Act.put, List.setIfInBounds_toArray, List.set_cons_zero, List.set_cons_succ]
        refine wpAnyH_take (i := 5) (v := .slice (some ⟨gX, 0, none⟩) 0 0) rfl (by kernel_rfl) (by kernel_rfl) (by kernel_rfl) (fun _ _ _ h => h) (Or.inl ⟨by rfl, ?_⟩) (by assumption) ?_
        · intro w hSw; go_simp
        simp only [Act.put, List.setIfInBounds_toArray, List.set_cons_zero, List.set_cons_succ]
        refine wpAnyH_take (i := 7) (v := .slice (some ⟨gX, 0, none⟩) 4 4) rfl (by kernel_rfl) (by kernel_rfl) (by kernel_rfl) (fun _ _ _ h => h) (Or.inl ⟨by rfl, ?_⟩) (by assumption) ?_
        · intro w hSw; go_simp
        simp only [Act.put, List.setIfInBounds_toArray, List.set_cons_zero, List.set_cons_succ]
        refine wpAnyH_take (i := 8) (v := .slice (some ⟨gX, 1, none⟩) 2 3) rfl (by kernel_rfl) (by kernel_rfl) (by kernel_rfl) (fun _ _ _ h => h) (Or.inl ⟨by rfl, ?_⟩) (by assumption) ?_
        · intro w hSw; go_simp
        simp only [Act.put, List.setIfInBounds_toArray, List.set_cons_zero, List.set_cons_succ]
        refine wpAnyH_ready (rs := [6]) (by kernel_rfl) (by simp) ?_
        refine AllReadyH.cons rfl (fun K hK => ?_) AllReadyH.nil
        go_simp

        go_at_call 99
        refine (i_layerOf_ef _ (by omega)).mono ?_; rintro e w' ⟨⟨vp, rfl⟩, rfl⟩

        exact ⟨rfl, hBB3.drew, .inl ⟨by rw [HXS.out, HN.out, HY0.out]; exact fun x => (by rcases x with ⟨h, h'⟩ | ⟨h, h'⟩ <;> omega), _, rfl⟩⟩
    · have hyb : (y0 == 255) = false := by simpa using hy
      by_cases h8 : y0 < 8 ∧ 12 ≤ N
      · obtain ⟨h8, h12⟩ := h8
        go_region_held3 (fun w' => w'.cell? ⟨gX, 0, none⟩ = some (.int .u8 y0)) (go_keep) (first | (go_at_call 99; refine (i_layerOf_r _ _ hy y0r.1 h8 (by omega)).mono ?_; rintro e w' ⟨rfl, rfl⟩) | (go_at_call 100; refine (i_number (hIn.drewN _) (by omega)).mono ?_; rintro e w' ⟨rfl, rfl⟩; rw [HNU.out]))
        go_wp2
        go_ret2
        rw [HXS.out, HN.out, HY0.out, HY1.out, HY2.out]
        exact ⟨below_drewN hBB3 _, .inr ⟨.inr ⟨h8, h12⟩, _, hO3.readsEndF (by omega) hw2, .inr ⟨hy, rfl⟩⟩⟩
      · skip
        refine wp_region_held_drew (S := fun w' => w'.cell? ⟨gX, 0, none⟩ = some (.int .u8 y0)) (by kernel_rfl) (by exact hx0) (fun hHeld => ?_)
        refine wpAnyH_take (i := 0) (v := .slice (some ⟨gX, 0, none⟩) 4 4) rfl (by kernel_rfl) (by kernel_rfl) (by kernel_rfl) (fun _ _ _ h => h) (Or.inl ⟨by rfl, ?_⟩) (by assumption) ?_
        · intro w hSw; go_simp
        simp only [Act.put, List.setIfInBounds_toArray, List.set_cons_zero, List.set_cons_succ]
        refine wpAnyH_take (i := 1) (v := .pointer (some ⟨gX, 0, none⟩)) rfl (by kernel_rfl) (by kernel_rfl) (by kernel_rfl) (fun _ _ _ h => h) (Or.inl ⟨by rfl, ?_⟩) (by assumption) ?_
        · intro w hSw; go_simp
        simp only [Act.put, List.setIfInBounds_toArray, List.set_cons_zero, List.set_cons_succ]
        refine wpAnyH_take (i := 2) (v := .int .u8 y0) rfl (by kernel_rfl) (by kernel_rfl) (by kernel_rfl) (fun _ _ _ h => h) (Or.inl ⟨by rfl, ?_⟩) (by assumption) ?_
        · intro w hSw; go_simp
        simp only [Act.put, List.setIfInBounds_toArray, List.set_cons_zero, List.set_cons_succ]
        refine wpAnyH_take (i := 3) (v := .int .i64 y0) rfl (by kernel_rfl) (by kernel_rfl) (by kernel_rfl) (fun _ _ _ h => h) (Or.inl ⟨by rfl, ?_⟩) (by assumption) ?_
        · intro w hSw; go_simp
        simp only [Act.put, List.setIfInBounds_toArray, List.set_cons_zero, List.set_cons_succ]
        refine wpAnyH_take (i := 4) (v := .slice (some ⟨gX, 0, none⟩) 4 4) rfl (by kernel_rfl) (by kernel_rfl) (by kernel_rfl) (fun _ _ _ h => h) (Or.inl ⟨by rfl, ?_⟩) (by assumption) ?_
        · intro w hSw; go_simp
        simp only [Act.put, List.setIfInBounds_toArray, List.set_cons_zero, List.set_cons_succ]
        refine wpAnyH_take (i := 5) (v := .slice (some ⟨gX, 0, none⟩) 0 0) rfl (by kernel_rfl) (by kernel_rfl) (by kernel_rfl) (fun _ _ _ h => h) (Or.inl ⟨by rfl, ?_⟩) (by assumption) ?_
        · intro w hSw; go_simp
        simp only [Act.put, List.setIfInBounds_toArray, List.set_cons_zero, List.set_cons_succ]
        refine wpAnyH_take (i := 7) (v := .slice (some ⟨gX, 0, none⟩) 4 4) rfl (by kernel_rfl) (by kernel_rfl) (by kernel_rfl) (fun _ _ _ h => h) (Or.inl ⟨by rfl, ?_⟩) (by assumption) ?_
        · intro w hSw; go_simp
        simp only [Act.put, List.setIfInBounds_toArray, List.set_cons_zero, List.set_cons_succ]
        refine wpAnyH_take (i := 8) (v := .slice (some ⟨gX, 1, none⟩) 2 3) rfl (by kernel_rfl) (by kernel_rfl) (by kernel_rfl) (fun _ _ _ h => h) (Or.inl ⟨by rfl, ?_⟩) (by assumption) ?_
        · intro w hSw; go_simp
        simp only [Act.put, List.setIfInBounds_toArray, List.set_cons_zero, List.set_cons_succ]
        refine wpAnyH_ready (rs := [6]) (by kernel_rfl) (by simp) ?_
        refine AllReadyH.cons rfl (fun K hK => ?_) AllReadyH.nil
        go_simp

        go_at_call 99
        refine (i_layerOf_rf _ _ hy (by omega)).mono ?_; rintro e w' ⟨⟨vp, rfl⟩, rfl⟩

        exact ⟨rfl, hBB3.drew, .inl ⟨by rw [HXS.out, HN.out, HY0.out]; exact fun x => (by rcases x with ⟨h, h'⟩ | ⟨h, h'⟩ <;> omega), _, rfl⟩⟩
  · skip
    by_cases hy : y0 = 255
    · subst hy
      by_cases h24 : N ≤ 24
      · skip
        go_region_held3 (fun w' => w'.cell? ⟨gX, 0, none⟩ = some (.int .u8 255)) (go_keep) (first | (go_at_call 99; refine (i_layerOf_e _ (by omega)).mono ?_; rintro e w' ⟨rfl, rfl⟩) | (go_at_call 100; refine (i_number (hIn.drewN _) (by omega)).mono ?_; rintro e w' ⟨rfl, rfl⟩; rw [HNU.out]))
        go_wp2
        go_ret2
        rw [HXS.out, HN.out, HY0.out, HY1.out, HY2.out]
        exact ⟨below_drewN hBB3 _, .inr ⟨.inl ⟨rfl, h24⟩, _, hO3.readsTailF (by omega) hw2, .inl ⟨rfl, rfl⟩⟩⟩
      · skip
        refine wp_region_held_drew (S := fun w' => w'.cell? ⟨gX, 0, none⟩ = some (.int .u8 255)) (by kernel_rfl) (by exact hx0) (fun hHeld => ?_)
        refine wpAnyH_take (i := 0) (v := .slice (some ⟨gX, 0, none⟩) nx cX) rfl (by kernel_rfl) (by kernel_rfl) (by kernel_rfl) (fun _ _ _ h => h) (Or.inl ⟨by rfl, ?_⟩) (by assumption) ?_
        · intro w hSw; go_simp
        simp only [Act.put, List.setIfInBounds_toArray, List.set_cons_zero, List.set_cons_succ]
        refine wpAnyH_take (i := 1) (v := .pointer (some ⟨gX, 0, none⟩)) rfl (by kernel_rfl) (by kernel_rfl) (by kernel_rfl) (fun _ _ _ h => h) (Or.inl ⟨by rfl, ?_⟩) (by assumption) ?_
        · intro w hSw; go_simp
        simp only [Act.put, List.setIfInBounds_toArray, List.set_cons_zero, List.set_cons_succ]
        refine wpAnyH_take (i := 2) (v := .int .u8 255) rfl (by kernel_rfl) (by kernel_rfl) (by kernel_rfl) (fun _ _ _ h => h) (Or.inl ⟨by rfl, ?_⟩) (by assumption) ?_
        · intro w hSw; go_simp
        simp only [Act.put, List.setIfInBounds_toArray, List.set_cons_zero, List.set_cons_succ]
        refine wpAnyH_take (i := 3) (v := .int .i64 255) rfl (by kernel_rfl) (by kernel_rfl) (by kernel_rfl) (fun _ _ _ h => h) (Or.inl ⟨by rfl, ?_⟩) (by assumption) ?_
        · intro w hSw; go_simp
        simp only [Act.put, List.setIfInBounds_toArray, List.set_cons_zero, List.set_cons_succ]
        refine wpAnyH_take (i := 4) (v := .slice (some ⟨gX, 0, none⟩) nx cX) rfl (by kernel_rfl) (by kernel_rfl) (by kernel_rfl) (fun _ _ _ h => h) (Or.inl ⟨by rfl, ?_⟩) (by assumption) ?_
        · intro w hSw; go_simp
        simp only [Act.put, List.setIfInBounds_toArray, List.set_cons_zero, List.set_cons_succ]
        refine wpAnyH_take (i := 5) (v := .slice (some ⟨gX, 4, none⟩) (nx - 4) (cX - 4)) rfl (by kernel_rfl) (by kernel_rfl) (by kernel_rfl) (fun _ _ _ h => h) (Or.inl ⟨by rfl, ?_⟩) (by assumption) ?_
        · intro w hSw; go_simp
        simp only [Act.put, List.setIfInBounds_toArray, List.set_cons_zero, List.set_cons_succ]
        refine wpAnyH_take (i := 7) (v := .slice (some ⟨gX, 0, none⟩) nx cX) rfl (by kernel_rfl) (by kernel_rfl) (by kernel_rfl) (fun _ _ _ h => h) (Or.inl ⟨by rfl, ?_⟩) (by assumption) ?_
        · intro w hSw; go_simp
        simp only [Act.put, List.setIfInBounds_toArray, List.set_cons_zero, List.set_cons_succ]
        refine wpAnyH_take (i := 8) (v := .slice (some ⟨gX, 1, none⟩) 2 (cX - 1)) rfl (by kernel_rfl) (by kernel_rfl) (by kernel_rfl) (fun _ _ _ h => h) (Or.inl ⟨by rfl, ?_⟩) (by assumption) ?_
        · intro w hSw; go_simp
        simp only [Act.put, List.setIfInBounds_toArray, List.set_cons_zero, List.set_cons_succ]
        refine wpAnyH_ready (rs := [6]) (by kernel_rfl) (by simp) ?_
        refine AllReadyH.cons rfl (fun K hK => ?_) AllReadyH.nil
        go_simp

        go_at_call 99
        refine (i_layerOf_ef _ (by omega)).mono ?_; rintro e w' ⟨⟨vp, rfl⟩, rfl⟩

        exact ⟨rfl, hBB3.drew, .inl ⟨by rw [HXS.out, HN.out, HY0.out]; exact fun x => (by rcases x with ⟨h, h'⟩ | ⟨h, h'⟩ <;> omega), _, rfl⟩⟩
    · have hyb : (y0 == 255) = false := by simpa using hy
      by_cases h8 : y0 < 8 ∧ 12 ≤ N
      · obtain ⟨h8, h12⟩ := h8
        go_region_held3 (fun w' => w'.cell? ⟨gX, 0, none⟩ = some (.int .u8 y0)) (go_keep) (first | (go_at_call 99; refine (i_layerOf_r _ _ hy y0r.1 h8 (by omega)).mono ?_; rintro e w' ⟨rfl, rfl⟩) | (go_at_call 100; refine (i_number (hIn.drewN _) (by omega)).mono ?_; rintro e w' ⟨rfl, rfl⟩; rw [HNU.out]))
        go_wp2
        go_ret2
        rw [HXS.out, HN.out, HY0.out, HY1.out, HY2.out]
        exact ⟨below_drewN hBB3 _, .inr ⟨.inr ⟨h8, h12⟩, _, hO3.readsTailF (by omega) hw2, .inr ⟨hy, rfl⟩⟩⟩
      · skip
        refine wp_region_held_drew (S := fun w' => w'.cell? ⟨gX, 0, none⟩ = some (.int .u8 y0)) (by kernel_rfl) (by exact hx0) (fun hHeld => ?_)
        refine wpAnyH_take (i := 0) (v := .slice (some ⟨gX, 0, none⟩) nx cX) rfl (by kernel_rfl) (by kernel_rfl) (by kernel_rfl) (fun _ _ _ h => h) (Or.inl ⟨by rfl, ?_⟩) (by assumption) ?_
        · intro w hSw; go_simp
        simp only [Act.put, List.setIfInBounds_toArray, List.set_cons_zero, List.set_cons_succ]
        refine wpAnyH_take (i := 1) (v := .pointer (some ⟨gX, 0, none⟩)) rfl (by kernel_rfl) (by kernel_rfl) (by kernel_rfl) (fun _ _ _ h => h) (Or.inl ⟨by rfl, ?_⟩) (by assumption) ?_
        · intro w hSw; go_simp
        simp only [Act.put, List.setIfInBounds_toArray, List.set_cons_zero, List.set_cons_succ]
        refine wpAnyH_take (i := 2) (v := .int .u8 y0) rfl (by kernel_rfl) (by kernel_rfl) (by kernel_rfl) (fun _ _ _ h => h) (Or.inl ⟨by rfl, ?_⟩) (by assumption) ?_
        · intro w hSw; go_simp
        simp only [Act.put, List.setIfInBounds_toArray, List.set_cons_zero, List.set_cons_succ]
        refine wpAnyH_take (i := 3) (v := .int .i64 y0) rfl (by kernel_rfl) (by kernel_rfl) (by kernel_rfl) (fun _ _ _ h => h) (Or.inl ⟨by rfl, ?_⟩) (by assumption) ?_
        · intro w hSw; go_simp
        simp only [Act.put, List.setIfInBounds_toArray, List.set_cons_zero, List.set_cons_succ]
        refine wpAnyH_take (i := 4) (v := .slice (some ⟨gX, 0, none⟩) nx cX) rfl (by kernel_rfl) (by kernel_rfl) (by kernel_rfl) (fun _ _ _ h => h) (Or.inl ⟨by rfl, ?_⟩) (by assumption) ?_
        · intro w hSw; go_simp
        simp only [Act.put, List.setIfInBounds_toArray, List.set_cons_zero, List.set_cons_succ]
        refine wpAnyH_take (i := 5) (v := .slice (some ⟨gX, 4, none⟩) (nx - 4) (cX - 4)) rfl (by kernel_rfl) (by kernel_rfl) (by kernel_rfl) (fun _ _ _ h => h) (Or.inl ⟨by rfl, ?_⟩) (by assumption) ?_
        · intro w hSw; go_simp
        simp only [Act.put, List.setIfInBounds_toArray, List.set_cons_zero, List.set_cons_succ]
        refine wpAnyH_take (i := 7) (v := .slice (some ⟨gX, 0, none⟩) nx cX) rfl (by kernel_rfl) (by kernel_rfl) (by kernel_rfl) (fun _ _ _ h => h) (Or.inl ⟨by rfl, ?_⟩) (by assumption) ?_
        · intro w hSw; go_simp
        simp only [Act.put, List.setIfInBounds_toArray, List.set_cons_zero, List.set_cons_succ]
        refine wpAnyH_take (i := 8) (v := .slice (some ⟨gX, 1, none⟩) 2 (cX - 1)) rfl (by kernel_rfl) (by kernel_rfl) (by kernel_rfl) (fun _ _ _ h => h) (Or.inl ⟨by rfl, ?_⟩) (by assumption) ?_
        · intro w hSw; go_simp
        simp only [Act.put, List.setIfInBounds_toArray, List.set_cons_zero, List.set_cons_succ]
        refine wpAnyH_ready (rs := [6]) (by kernel_rfl) (by simp) ?_
        refine AllReadyH.cons rfl (fun K hK => ?_) AllReadyH.nil
        go_simp

        go_at_call 99
        refine (i_layerOf_rf _ _ hy (by omega)).mono ?_; rintro e w' ⟨⟨vp, rfl⟩, rfl⟩

        exact ⟨rfl, hBB3.drew, .inl ⟨by rw [HXS.out, HN.out, HY0.out]; exact fun x => (by rcases x with ⟨h, h'⟩ | ⟨h, h'⟩ <;> omega), _, rfl⟩⟩
set_option maxHeartbeats 1000000 in
theorem i_catch_p (g h : Nat) (hgh : g ≠ h) (x0 x1 x2 : Int) (x3 x4 : Value) (x5 : Bool) (u : TypeId) (pv : Value) (w : World) (b1 : Box w g 28 #[.int .i64 x0, .int .i64 x1, .int .i64 x2, x3, x4]) (b2 : Box w h 4 #[.bool x5]) :
    CallsD Try.prog 52 #[.pointer (some ⟨g, 0, none⟩), .pointer (some ⟨h, 0, none⟩)] (.panicking [{ v := .iface u pv, recovered := false }]) w fun e u' w' =>
      e = .returned (.tuple #[]) ∧ u' = .panicking [{ v := .iface u pv, recovered := true }] ∧ Box w' g 28 #[.int .i64 0, .int .i64 0, .int .i64 0, .slice none 0 0, .slice none 0 0] ∧ Box w' h 4 #[.bool false] ∧
        w' = (((((w.setCell ⟨g, 0, none⟩ (.int .i64 0)).setCell ⟨g, 1, none⟩ (.int .i64 0)).setCell ⟨g, 2, none⟩ (.int .i64 0)).setCell ⟨g, 3, none⟩ (.slice none 0 0)).setCell ⟨g, 4, none⟩ (.slice none 0 0)).setCell ⟨h, 0, none⟩ (.bool false) := by
  have u0 := b1.cell 0; have u1 := b1.cell 1; have u2 := b1.cell 2; have u3 := b1.cell 3; have u4 := b1.cell 4
  have f0 := b1.frozen 0; have f1 := b1.frozen 1; have f2 := b1.frozen 2; have f3 := b1.frozen 3; have f4 := b1.frozen 4
  have v0 := b2.cell 0; have g0 := b2.frozen 0
  have hhg : h ≠ g := fun e => hgh e.symm
  have bG := ((((((b1.put 0 (.int .i64 0)).put 1 (.int .i64 0)).put 2 (.int .i64 0)).put 3 (.slice none 0 0)).put 4 (.slice none 0 0)).far (p := ⟨h, 0, none⟩) hgh (.bool false))
  have bH := (((((b2.far (p := ⟨g, 0, none⟩) hhg (.int .i64 0)).far (p := ⟨g, 1, none⟩) hhg (.int .i64 0)).far (p := ⟨g, 2, none⟩) hhg (.int .i64 0)).far (p := ⟨g, 3, none⟩) hhg (.slice none 0 0)).far (p := ⟨g, 4, none⟩) hhg (.slice none 0 0)).put 0 (.bool false)
  refine callsD_of_wpS Try.func52 rfl fun c₀ cs hu => ?_
  apply wpS_seq
  apply wpS_region
  simp [wpOpsS, go_sem, recoverD, hu, Try.ntmps52, Exit.thenS]
  refine wpS_cond (t := true) (by simp [Act.eval, Array.replicate]) ?_
  simp only [if_true]
  apply wpS_region
  simp [wpOpsS, go_sem, u0, u1, u2, u3, u4, f0, f1, f2, f3, f4, v0, g0, hgh, hhg, bodyPostS, results, Try.results52]
  first | exact ⟨bG, bH⟩ | exact ⟨by simpa using bG, by simpa using bH⟩
theorem i_catch_i (g h : Nat) (w : World) :
    CallsD Try.prog 52 #[.pointer (some ⟨g, 0, none⟩), .pointer (some ⟨h, 0, none⟩)] .returning w fun e u' w' => e = .returned (.tuple #[]) ∧ u' = .returning ∧ w' = w := by
  refine callsD_of_wpS Try.func52 rfl fun c₀ cs hu => ?_
  apply wpS_seq
  apply wpS_region
  simp [wpOpsS, go_sem, recoverD, hu, Try.ntmps52, Exit.thenS]
  refine wpS_cond (t := false) (by simp [Act.eval, Array.replicate]) ?_
  simp only [Bool.false_eq_true, if_false]
  refine wpS_of_wp (wp_skip ?_)
  cases c₀
  simp_all [bodyPostS, results, Try.results52]
theorem i_exit_next (v : Value) (w : World) : Calls Try.prog 204 #[.agg #[v]] w fun e w' => e = .returned (.int .i64 255) ∧ Below w.heap.size w w' := by
  go_enter Try.func204, Try.ntmps204
  go_wp2
  go_ret
  exact ⟨rfl, (by repeat (first | (with_reducible exact Below.refl _ _) | (with_reducible assumption) | (with_reducible refine bel_alloc ?_ _) | (with_reducible refine bel_drew ?_) | (with_reducible refine below_drewN ?_ _) | (with_reducible refine bel_put ?_ (by first | exact Nat.le_refl _ | (simp; done) | (simp; omega)) _)))⟩
theorem i_relay_next (y : Int) (A : Option Addr) (n c : Nat) (w : World) : Calls Try.prog 206 #[.agg #[.int .i64 y, .slice A n c]] w fun e w' => e = .returned (.int .i64 y) ∧ Below w.heap.size w w' := by
  go_enter Try.func206, Try.ntmps206
  go_wp2
  go_ret
  exact ⟨rfl, (by repeat (first | (with_reducible exact Below.refl _ _) | (with_reducible assumption) | (with_reducible refine bel_alloc ?_ _) | (with_reducible refine bel_drew ?_) | (with_reducible refine below_drewN ?_ _) | (with_reducible refine bel_put ?_ (by first | exact Nat.le_refl _ | (simp; done) | (simp; omega)) _)))⟩
theorem i_Peel_a (s : Int) (A A' : Option Addr) (n c m d : Nat) (w : World) (hs : NoSec s) :
    Calls Try.prog 14 #[.int .i64 s, .agg #[.slice A n c], .slice A' m d] w fun e w' => e = .returned (.tuple #[.agg #[.int .i64 0, .int .i64 0, .int .i64 0, .slice none 0 0, .slice none 0 0], .bool false]) ∧ Below w.heap.size w w' := by
  have hmf : ∀ (fn : Fn) (first cap : Array Value) (w : World), (Instr.makeFunc fn first cap).run Try.prog w = .ok (.func fn first cap) w := fun _ _ _ _ => rfl
  go_enter_defers Try.func14, Try.ntmps14
  go_wp2_with (first | (go_at_call 54; with_reducible refine (i_sec_f _ _ (by assumption)).mono ?_; rintro e w' ⟨rfl, rfl⟩) | (go_at_call 53; refine (i_demand_f _).mono ?_; rintro e w' ⟨⟨v, rfl⟩, rfl⟩))
  have b1 : Box (((w.alloc (.cells #[.slice A n c] 26)).alloc (.cells #[.int .i64 0, .int .i64 0, .int .i64 0, .slice none 0 0, .slice none 0 0] 28)).alloc (.cells #[.bool false] 4)) (w.heap.size + 1) 28 #[.int .i64 0, .int .i64 0, .int .i64 0, .slice none 0 0, .slice none 0 0] :=
    Box.alloc (by have := Box.new (w.alloc (.cells #[.slice A n c] 26)) 28 #[.int .i64 0, .int .i64 0, .int .i64 0, .slice none 0 0, .slice none 0 0]; simpa using this) _
  have b2 : Box (((w.alloc (.cells #[.slice A n c] 26)).alloc (.cells #[.int .i64 0, .int .i64 0, .int .i64 0, .slice none 0 0, .slice none 0 0] 28)).alloc (.cells #[.bool false] 4)) (w.heap.size + 1 + 1) 4 #[.bool false] := by
    have := Box.new ((w.alloc (.cells #[.slice A n c] 26)).alloc (.cells #[.int .i64 0, .int .i64 0, .int .i64 0, .slice none 0 0, .slice none 0 0] 28)) 4 #[.bool false]; simpa using this
  refine leaves_cons (f := 52) (args := #[.pointer (some ⟨w.heap.size + 1, 0, none⟩), .pointer (some ⟨w.heap.size + 1 + 1, 0, none⟩)]) (by simp) (by simp [go_sem]) ?_
  refine (i_catch_p (w.heap.size + 1) (w.heap.size + 1 + 1) (by omega) 0 0 0 (.slice none 0 0) (.slice none 0 0) false _ _ _ b1 b2).mono ?_
  rintro e u' w'' ⟨rfl, rfl, bG, bH, hw⟩
  have e0 := bG.cell 0; have e1 := bG.cell 1; have e2 := bG.cell 2; have e3 := bG.cell 3; have e4 := bG.cell 4; have k0 := bH.cell 0
  have hBw : Below w.heap.size w w'' := by rw [hw]; exact (by repeat (first | (with_reducible exact Below.refl _ _) | (with_reducible assumption) | (with_reducible refine bel_alloc ?_ _) | (with_reducible refine bel_drew ?_) | (with_reducible refine below_drewN ?_ _) | (with_reducible refine bel_put ?_ (by first | exact Nat.le_refl _ | (simp; done) | (simp; omega)) _)))
  simp [Leaves, settle, results, Try.results14, go_sem, e0, e1, e2, e3, e4, k0]
  exact hBw
set_option maxHeartbeats 2000000 in
theorem i_Peel_b (s : Int) (A A' : Option Addr) (n c m d : Nat) (w : World) (hs : Sec s) (hn : ¬ n = 80) :
    Calls Try.prog 14 #[.int .i64 s, .agg #[.slice A n c], .slice A' m d] w fun e w' => e = .returned (.tuple #[.agg #[.int .i64 0, .int .i64 0, .int .i64 0, .slice none 0 0, .slice none 0 0], .bool false]) ∧ Below w.heap.size w w' := by
  have hmf : ∀ (fn : Fn) (first cap : Array Value) (w : World), (Instr.makeFunc fn first cap).run Try.prog w = .ok (.func fn first cap) w := fun _ _ _ _ => rfl
  have bc : Box (((w.alloc (.cells #[.slice A n c] 26)).alloc (.cells #[.int .i64 0, .int .i64 0, .int .i64 0, .slice none 0 0, .slice none 0 0] 28)).alloc (.cells #[.bool false] 4)) w.heap.size 26 #[.slice A n c] := ((Box.new w _ _).alloc _).alloc _
  have b1 : Box (((w.alloc (.cells #[.slice A n c] 26)).alloc (.cells #[.int .i64 0, .int .i64 0, .int .i64 0, .slice none 0 0, .slice none 0 0] 28)).alloc (.cells #[.bool false] 4)) (w.heap.size + 1) 28 #[.int .i64 0, .int .i64 0, .int .i64 0, .slice none 0 0, .slice none 0 0] := Box.alloc (by have := Box.new (w.alloc (.cells #[.slice A n c] 26)) 28 #[.int .i64 0, .int .i64 0, .int .i64 0, .slice none 0 0, .slice none 0 0]; simpa using this) _
  have b2 : Box (((w.alloc (.cells #[.slice A n c] 26)).alloc (.cells #[.int .i64 0, .int .i64 0, .int .i64 0, .slice none 0 0, .slice none 0 0] 28)).alloc (.cells #[.bool false] 4)) (w.heap.size + 1 + 1) 4 #[.bool false] := by have := Box.new ((w.alloc (.cells #[.slice A n c] 26)).alloc (.cells #[.int .i64 0, .int .i64 0, .int .i64 0, .slice none 0 0, .slice none 0 0] 28)) 4 #[.bool false]; simpa using this
  go_enter_defers Try.func14, Try.ntmps14
  go_wp2_with (go_at_call 54; with_reducible refine (i_sec_t _ _ (by assumption)).mono ?_; rintro e w' ⟨rfl, rfl⟩)
  refine (i_CellOk_f _ _ _ _ hn).mono ?_
  rintro e w1 ⟨rfl, hB1⟩
  have bc' := bc.below hB1 (by first | (simp; done) | (simp; omega))
  have b1' := b1.below hB1 (by first | (simp; done) | (simp; omega))
  have b2' := b2.below hB1 (by first | (simp; done) | (simp; omega))
  have hBB1 : Below w.heap.size w w1 := bel_trans (by repeat (first | (with_reducible exact Below.refl _ _) | (with_reducible assumption) | (with_reducible refine bel_alloc ?_ _) | (with_reducible refine bel_drew ?_) | (with_reducible refine below_drewN ?_ _) | (with_reducible refine bel_put ?_ (by first | exact Nat.le_refl _ | (simp; done) | (simp; omega)) _))) hB1
  clear bc b1 b2
  go_wp2_with (go_at_call 53; refine (i_demand_f _).mono ?_; rintro e w' ⟨⟨v, rfl⟩, rfl⟩)
  refine leaves_cons (f := 52) (args := #[.pointer (some ⟨w.heap.size + 1, 0, none⟩), .pointer (some ⟨w.heap.size + 1 + 1, 0, none⟩)]) (by simp) (by simp [go_sem]) ?_
  refine (i_catch_p (w.heap.size + 1) (w.heap.size + 1 + 1) (by omega) 0 0 0 (.slice none 0 0) (.slice none 0 0) false _ _ _ b1' b2').mono ?_
  rintro e u' w'' ⟨rfl, rfl, bG, bH, hw⟩
  have e0 := bG.cell 0; have e1 := bG.cell 1; have e2 := bG.cell 2; have e3 := bG.cell 3; have e4 := bG.cell 4; have k0 := bH.cell 0
  have hBw : Below w.heap.size w w'' := by rw [hw]; exact (by repeat (first | (with_reducible exact Below.refl _ _) | (with_reducible assumption) | (with_reducible refine bel_alloc ?_ _) | (with_reducible refine bel_drew ?_) | (with_reducible refine below_drewN ?_ _) | (with_reducible refine bel_put ?_ (by first | exact Nat.le_refl _ | (simp; done) | (simp; omega)) _)))
  simp [Leaves, settle, results, Try.results14, go_sem, e0, e1, e2, e3, e4, k0]
  exact hBw
set_option maxHeartbeats 2000000 in
theorem i_Peel_c (s : Int) (A A' : Option Addr) (n c m d : Nat) (w : World) (hs : Sec s) (hn : n = 80) (hm : ¬ 80 ≤ m) :
    Calls Try.prog 14 #[.int .i64 s, .agg #[.slice A n c], .slice A' m d] w fun e w' => e = .returned (.tuple #[.agg #[.int .i64 0, .int .i64 0, .int .i64 0, .slice none 0 0, .slice none 0 0], .bool false]) ∧ Below w.heap.size w w' := by
  subst hn
  have hmf : ∀ (fn : Fn) (first cap : Array Value) (w : World), (Instr.makeFunc fn first cap).run Try.prog w = .ok (.func fn first cap) w := fun _ _ _ _ => rfl
  have bc : Box (((w.alloc (.cells #[.slice A 80 c] 26)).alloc (.cells #[.int .i64 0, .int .i64 0, .int .i64 0, .slice none 0 0, .slice none 0 0] 28)).alloc (.cells #[.bool false] 4)) w.heap.size 26 #[.slice A 80 c] := ((Box.new w _ _).alloc _).alloc _
  have b1 : Box (((w.alloc (.cells #[.slice A 80 c] 26)).alloc (.cells #[.int .i64 0, .int .i64 0, .int .i64 0, .slice none 0 0, .slice none 0 0] 28)).alloc (.cells #[.bool false] 4)) (w.heap.size + 1) 28 #[.int .i64 0, .int .i64 0, .int .i64 0, .slice none 0 0, .slice none 0 0] := Box.alloc (by have := Box.new (w.alloc (.cells #[.slice A 80 c] 26)) 28 #[.int .i64 0, .int .i64 0, .int .i64 0, .slice none 0 0, .slice none 0 0]; simpa using this) _
  have b2 : Box (((w.alloc (.cells #[.slice A 80 c] 26)).alloc (.cells #[.int .i64 0, .int .i64 0, .int .i64 0, .slice none 0 0, .slice none 0 0] 28)).alloc (.cells #[.bool false] 4)) (w.heap.size + 1 + 1) 4 #[.bool false] := by have := Box.new ((w.alloc (.cells #[.slice A 80 c] 26)).alloc (.cells #[.int .i64 0, .int .i64 0, .int .i64 0, .slice none 0 0, .slice none 0 0] 28)) 4 #[.bool false]; simpa using this
  have dm : decide ((80 : Int) ≤ (m : Int)) = false := by simp; omega
  clear hm
  go_enter_defers Try.func14, Try.ntmps14
  go_wp2_with (go_at_call 54; with_reducible refine (i_sec_t _ _ (by assumption)).mono ?_; rintro e w' ⟨rfl, rfl⟩)
  refine (i_CellOk_t _ _ _ _ rfl).mono ?_
  rintro e w1 ⟨rfl, hB1⟩
  have bc' := bc.below hB1 (by first | (simp; done) | (simp; omega))
  have b1' := b1.below hB1 (by first | (simp; done) | (simp; omega))
  have b2' := b2.below hB1 (by first | (simp; done) | (simp; omega))
  have hBB1 : Below w.heap.size w w1 := bel_trans (by repeat (first | (with_reducible exact Below.refl _ _) | (with_reducible assumption) | (with_reducible refine bel_alloc ?_ _) | (with_reducible refine bel_drew ?_) | (with_reducible refine below_drewN ?_ _) | (with_reducible refine bel_put ?_ (by first | exact Nat.le_refl _ | (simp; done) | (simp; omega)) _))) hB1
  clear bc b1 b2
  go_wp2_with (go_at_call 53; refine (i_demand_f _).mono ?_; rintro e w' ⟨⟨v, rfl⟩, rfl⟩)
  refine leaves_cons (f := 52) (args := #[.pointer (some ⟨w.heap.size + 1, 0, none⟩), .pointer (some ⟨w.heap.size + 1 + 1, 0, none⟩)]) (by simp) (by simp [go_sem]) ?_
  refine (i_catch_p (w.heap.size + 1) (w.heap.size + 1 + 1) (by omega) 0 0 0 (.slice none 0 0) (.slice none 0 0) false _ _ _ b1' b2').mono ?_
  rintro e u' w'' ⟨rfl, rfl, bG, bH, hw⟩
  have e0 := bG.cell 0; have e1 := bG.cell 1; have e2 := bG.cell 2; have e3 := bG.cell 3; have e4 := bG.cell 4; have k0 := bH.cell 0
  have hBw : Below w.heap.size w w'' := by rw [hw]; exact (by repeat (first | (with_reducible exact Below.refl _ _) | (with_reducible assumption) | (with_reducible refine bel_alloc ?_ _) | (with_reducible refine bel_drew ?_) | (with_reducible refine below_drewN ?_ _) | (with_reducible refine bel_put ?_ (by first | exact Nat.le_refl _ | (simp; done) | (simp; omega)) _)))
  simp [Leaves, settle, results, Try.results14, go_sem, e0, e1, e2, e3, e4, k0]
  exact hBw
/-- What the decoder does, whatever the cell. -/
theorem i_decoded {w : World} {c : Nat} {A : Option Addr} {l : List Int} (s : Int) (hl : Ints .u8 w w.heap.size A 80 l) (hc : 80 ≤ c) (hcm : c ≤ 9223372036854775807) (hs : Sec s) :
    Calls Try.prog 56 #[.int .i64 s, .agg #[.slice A 80 c]] w fun e w' => Below w.heap.size w w' ∧
      ((¬ peels s l ∧ ∃ v, e = .panicked [{ v := .iface 9 v, recovered := false }]) ∨
       (peels s l ∧ ∃ vL, ReadsF w.heap.size w' vL ((peelX s l).drop 4) ∧ ((peelX s l).getD 0 0 = 255 ∧ e = .returned (.tuple #[.iface 85 (.agg #[vL]), .int .i64 ((peelX s l).getD 1 0 * 256 + (peelX s l).getD 2 0)]) ∨
         ¬ (peelX s l).getD 0 0 = 255 ∧ e = .returned (.tuple #[.iface 87 (.agg #[.int .i64 ((peelX s l).getD 0 0), vL]), .int .i64 ((peelX s l).getD 1 0 * 256 + (peelX s l).getD 2 0)])))) := by
  rcases pub_or (get4 l) with hp | hp
  · by_cases h : peelN s l ≤ 68 ∧ opens (peelK s l) (peelB s l)
    · refine (i_decoded_t s hl hc hcm hs hp h.1 h.2).mono fun e w' hh => ⟨hh.1, ?_⟩
      rcases hh.2 with ⟨h1, h2⟩ | ⟨h1, h2⟩
      · exact .inl ⟨fun x => h1 x.2.2.2, h2⟩
      · exact .inr ⟨⟨hp, h.1, h.2, h1⟩, h2⟩
    · exact (i_decoded_p s hl hc hcm hs hp h).mono fun e w' hh => ⟨hh.2, .inl ⟨fun x => h ⟨x.2.1, x.2.2.1⟩, hh.1⟩⟩
  · exact (i_decoded_n s hl hc hcm hp).mono fun e w' hh => ⟨hh.2, .inl ⟨fun x => hp x.1, hh.1⟩⟩
end Go.Proofs.Ytpapkonejkdkhaa
