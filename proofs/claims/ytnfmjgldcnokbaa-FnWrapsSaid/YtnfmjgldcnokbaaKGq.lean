/-
  ImplPeel, PeelE, PeelN, PeelR, Peel, Way, Wrp: texts joined.
-/
import Derived.Test.YtnfmjgldcnokbaaKGj
import Derived.Test.YtnfmjgldcnokbaaKGp
import Derived.Defers
import Derived.Laws.Pointers
import Derived.Recover
import Derived.WalkSmall
namespace Go.Proofs.Ytnfmjgldcnokbaa
set_option maxRecDepth 100000
set_option linter.unusedSimpArgs false
open Go.ChangeShapes Go.WideShapes Go.ChangeAt Go.RowKit
open Fld
attribute [local go_sem ↓] Go.wp_at_zero Go.wp_at_succ

theorem i_isNodeP (n : Int) (w : World) : Calls Try.prog 60 #[.int .i64 n] w fun e w' => e = .returned (.bool (decide (0 ≤ n ∧ n < 8))) ∧ w = w' := by
  by_cases h1 : 0 ≤ n
  · by_cases h2 : n < 8
    · go_enter Try.func60, Try.ntmps60
      go_wp2
      go_ret
      exact ⟨by simp [h1, h2], rfl⟩
    · go_enter Try.func60, Try.ntmps60
      go_wp2
      go_ret
      exact ⟨by simp [h2], rfl⟩
  · go_enter Try.func60, Try.ntmps60
    go_wp2
    go_ret
    exact ⟨by simp; omega, rfl⟩
theorem i_demand_t (w : World) : Calls Try.prog 63 #[.bool true] w fun e w' => e = .returned (.tuple #[]) ∧ w = w' := by
  go_enter Try.func63, Try.ntmps63
  go_wp2
  go_end0
  exact ⟨rfl, rfl⟩
theorem i_demand_f (w : World) : Calls Try.prog 63 #[.bool false] w fun e w' => (∃ v, e = .panicked [{ v := .iface 9 v, recovered := false }]) ∧ w = w' := by
  go_enter Try.func63, Try.ntmps63
  go_wp2
  exact ⟨rfl, ⟨_, rfl⟩, rfl⟩
theorem i_layerOf_e {n c : Nat} {A : Option Addr} (w : World) (hn : n ≤ 24) :
    Calls Try.prog 98 #[.int .i64 255, .slice A n c] w fun e w' => e = .returned (.iface 73 (.agg #[.slice A n c])) ∧ w = w' := by
  have d : decide ((n : Int) ≤ 24) = true := by simp; omega
  go_enter Try.func98, Try.ntmps98
  go_wp2_with (go_at_call 63; refine (i_demand_t _).mono ?_; rintro e w' ⟨rfl, rfl⟩)
  go_ret
  exact ⟨rfl, rfl⟩
theorem i_layerOf_ef {n c : Nat} {A : Option Addr} (w : World) (hn : ¬ n ≤ 24) :
    Calls Try.prog 98 #[.int .i64 255, .slice A n c] w fun e w' => (∃ v, e = .panicked [{ v := .iface 9 v, recovered := false }]) ∧ w = w' := by
  have d : decide ((n : Int) ≤ 24) = false := by simp; omega
  clear hn
  go_enter Try.func98, Try.ntmps98
  go_wp2_with (go_at_call 63; refine (i_demand_f _).mono ?_; rintro e w' ⟨⟨v, rfl⟩, rfl⟩)
  exact ⟨rfl, ⟨_, rfl⟩, rfl⟩
theorem i_layerOf_r {n c : Nat} {A : Option Addr} (y : Int) (w : World) (hy : ¬ y = 255) (h0 : 0 ≤ y) (h8 : y < 8) (hn : 12 ≤ n) :
    Calls Try.prog 98 #[.int .i64 y, .slice A n c] w fun e w' => e = .returned (.iface 81 (.agg #[.int .i64 y, .slice A n c])) ∧ w = w' := by
  have d : decide ((12 : Int) ≤ (n : Int)) = true := by simp; omega
  have e1 : (y == 255) = false := by simpa using hy
  have HD := Lib.hid (show decide (0 ≤ y ∧ y < 8) = true by simp; omega)
  go_enter Try.func98, Try.ntmps98
  go_wp2_with (first | (go_at_call 60; refine (i_isNodeP _ _).mono ?_; rintro e w' ⟨rfl, rfl⟩; rw [HD.out]) | (go_at_call 63; refine (i_demand_t _).mono ?_; rintro e w' ⟨rfl, rfl⟩))
  go_ret
  exact ⟨rfl, rfl⟩
theorem i_layerOf_rf {n c : Nat} {A : Option Addr} (y : Int) (w : World) (hy : ¬ y = 255) (h : ¬ (y < 8 ∧ 12 ≤ n)) :
    Calls Try.prog 98 #[.int .i64 y, .slice A n c] w fun e w' => (∃ v, e = .panicked [{ v := .iface 9 v, recovered := false }]) ∧ w = w' := by
  have e1 : (y == 255) = false := by simpa using hy
  by_cases h8 : 0 ≤ y ∧ y < 8
  · have d : decide ((12 : Int) ≤ (n : Int)) = false := by simp; omega
    have HD := Lib.hid (show decide (0 ≤ y ∧ y < 8) = true by simpa using h8)
    clear h h8
    go_enter Try.func98, Try.ntmps98
    go_wp2_with (first | (go_at_call 60; refine (i_isNodeP _ _).mono ?_; rintro e w' ⟨rfl, rfl⟩; rw [HD.out]) | (go_at_call 63; refine (i_demand_f _).mono ?_; rintro e w' ⟨⟨v, rfl⟩, rfl⟩))
    exact ⟨rfl, ⟨_, rfl⟩, rfl⟩
  · have HD := Lib.hid (show decide (0 ≤ y ∧ y < 8) = false by simpa using h8)
    clear h h8
    go_enter Try.func98, Try.ntmps98
    go_wp2_with (first | (go_at_call 60; refine (i_isNodeP _ _).mono ?_; rintro e w' ⟨rfl, rfl⟩; rw [HD.out]) | (go_at_call 63; refine (i_demand_f _).mono ?_; rintro e w' ⟨⟨v, rfl⟩, rfl⟩))
    exact ⟨rfl, ⟨_, rfl⟩, rfl⟩
set_option maxHeartbeats 2000000 in
theorem i_decoded_n {w : World} {c : Nat} {A : Option Addr} {l : List Int} (s : Int) (hl : Ints .u8 w w.heap.size A 80 l) (hc : 80 ≤ c) (hcm : c ≤ 9223372036854775807) (hpub : NoPub (get4 l)) :
    Calls Try.prog 65 #[.int .i64 s, .agg #[.slice A 80 c]] w fun e w' => (∃ v, e = .panicked [{ v := .iface 9 v, recovered := false }]) ∧ Below w.heap.size w w' := by
  go_enter Try.func65, Try.ntmps65
  go_wp2_with fail
  refine (i_pubIn (reach hl ?hB) (by omega) hc hcm).mono ?_
  case hB => exact (belx)
  rintro e w1 ⟨rfl, hB1⟩
  go_wp2_with (first | (go_at_call 47; with_reducible refine (i_pub_f _ _ (by assumption)).mono ?_; rintro e w' ⟨rfl, rfl⟩) | (go_at_call 63; refine (i_demand_f _).mono ?_; rintro e w' ⟨⟨v, rfl⟩, rfl⟩))
  exact ⟨rfl, ⟨_, rfl⟩, bel_trans (a := w) (belx) hB1⟩
set_option maxHeartbeats 4000000 in
theorem i_decoded_p {w : World} {c : Nat} {A : Option Addr} {l : List Int} (s : Int) (hl : Ints .u8 w w.heap.size A 80 l) (hc : 80 ≤ c) (hcm : c ≤ 9223372036854775807) (hs : Sec s) (hpub : Pub (get4 l)) (hno : ¬ (peelN s l ≤ 68 ∧ opens (peelK s l) (peelB s l))) :
    Calls Try.prog 65 #[.int .i64 s, .agg #[.slice A 80 c]] w fun e w' => (∃ v, e = .panicked [{ v := .iface 9 v, recovered := false }]) ∧ Below w.heap.size w w' := by
  have HNO := Lib.hid hno
  clear hno
  have hl80 := hl.1
  have hby := hl.bytes
  obtain ⟨b, off, rfl, hb, _⟩ := hl.2.1 (by omega)
  have hT8 := ((hl.tail 4 (by omega)).tail 4 (by omega)).head 4 (by omega)
  rw [List.drop_drop] at hT8
  have hc4 : ¬ c = 4 := by omega
  have hc8 : ¬ c - 4 = 4 := by omega
  have hc9 : ¬ c = 8 := by omega
  have g4 : (4 : Int) ≤ (c : Int) := by omega
  have g8 : (8 : Int) ≤ (c : Int) - 4 := by omega
  have g80 : (80 : Int) ≤ (c : Int) := by omega
  have g9 : (8 : Int) ≤ ((c - 4 : Nat) : Int) := by omega
  have rS := powP_rg (get4 l) s.toNat
  have HSh := Lib.hid (shared_t hs hpub)
  obtain ⟨S, hS⟩ : ∃ S, powP (get4 l) s.toNat = S := ⟨_, rfl⟩
  have HS := Lib.hid (show peelS s l = S from hS)
  rw [hS] at rS HSh
  clear hS
  have HK5 := Lib.hid (fkey_t (a := S) (b := 5) rS ⟨by decide, by decide⟩)
  obtain ⟨K, hK⟩ : ∃ K, keyP S 5 = K := ⟨_, rfl⟩
  have rK := keyP_rg S 5
  have HK := Lib.hid (show peelK s l = K by unfold peelK; rw [HS.out, hK])
  rw [hK] at HK5 rK
  clear hK
  have HK1 := Lib.hid (fkey_t (a := K) (b := 1) rK ⟨by decide, by decide⟩)
  have rK1 := keyP_rg K 1
  have HH := Lib.hid (show fxor (keyP K 1) ((l.drop (4 + 4)).take 4) = peelH s l by
    rw [fxor_t rK1 (by rw [List.length_take]; omega)]; unfold peelH; rw [HK.out])
  go_enter Try.func65, Try.ntmps65
  go_wp2_with fail
  refine (i_pubIn (reach hl ?hB) (by omega) hc hcm).mono ?_
  case hB => exact (belx)
  rintro e w1 ⟨rfl, hB1⟩
  have bc : Box w1 w.heap.size 30 #[.slice (some ⟨b, off, none⟩) 80 c] := (Box.new w _ _).below hB1 (by simp)
  have cc := bc.cell 0
  have hB1' : Below w.heap.size w w1 := bel_trans (belx) hB1
  clear hB1
  go_wp2_with (first | (go_at_call 47; with_reducible refine (i_pub_t _ _ (by assumption)).mono ?_; rintro e w' ⟨rfl, rfl⟩) | (go_at_call 63; refine (i_demand_t _).mono ?_; rintro e w' ⟨rfl, rfl⟩) | (go_at_call 67; refine (i_Shared _ _ _).mono ?_; rintro e w' ⟨rfl, rfl⟩; rw [HSh.out]) | (go_at_call 66; refine (i_KeyOf _ _ _).mono ?_; rintro e w' ⟨rfl, rfl⟩; rw [HK5.out]))
  go_region_held3 (fun _ => True) (trivial) (first | (go_at_call 66; refine (i_KeyOf _ _ _).mono ?_; rintro e w' ⟨rfl, rfl⟩; rw [HK1.out]) | (go_at_call 96; refine (i_XorWith _ (reach (reach hT8 hB1') (belx)) (by omega)).mono ?_; rintro e w2 ⟨vH, rfl, hO2, hB2⟩))
  rw [HH.out] at hO2
  have hB2' : Below w1.heap.size w1 w2 := bel_trans (belx) hB2
  have hBB2 := bel_trans hB1' hB2'
  clear hB2 bc HH
  have hHl := peelH_len (s := s) hl80
  have hHb := (peelH_bytes (s := s) hby).at_ 3
  obtain ⟨N, hN⟩ : ∃ N : Nat, (peelH s l).getD 3 0 = (N : Int) := ⟨_, (peelN_eq hby).symm⟩
  have HN := Lib.hid (show peelN s l = N by have := peelN_eq (s := s) hby; omega)
  obtain ⟨AH, cH, rfl, hcH, hIH, _⟩ := hO2.ints
  obtain ⟨bH, oH, eA, hbH, hcells⟩ := hIH.2.1 (by omega)
  subst eA
  have hc3 := hcells 3 (by omega)
  rw [hN] at hc3 hHb
  clear hcells hN
  have q3 : (0 : Int) ≤ 3 := by omega
  have q4 : (3 : Int) < ((peelH s l).length : Int) := by omega
  by_cases hn : N ≤ 68
  · have d1 : decide ((N : Int) ≤ 68) = true := by simp; omega
    have hT4 := (hl.tail 4 (by omega)).head (8 + N) (by omega)
    have HB := Lib.hid (show (l.drop 4).take (8 + N) = peelB s l by unfold peelB; rw [HN.out])
    rw [HB.out] at hT4
    have ho : ¬ opens K (peelB s l) := fun h => HNO.out ⟨by rw [HN.out]; exact hn, by rw [HK.out]; exact h⟩
    have q5 : (0 : Int) ≤ 8 + (N : Int) := by omega
    have q6 : 8 + (N : Int) ≤ ((c - 4 : Nat) : Int) := by omega
    have q7 : 8 + (N : Int) ≤ (c : Int) - 4 := by omega
    go_wp2_with (go_at_call 63; refine (i_demand_t _).mono ?_; rintro e w' ⟨rfl, rfl⟩)
    refine (i_Open_f _ (reach hT4 hBB2) (by omega) (by omega) (by omega) (by omega) rK ho).mono ?_
    rintro e w3 ⟨rfl, hB3⟩
    go_wp2_with (go_at_call 63; refine (i_demand_f _).mono ?_; rintro e w' ⟨⟨v, rfl⟩, rfl⟩)
    exact ⟨rfl, ⟨_, rfl⟩, bel_trans hBB2 hB3⟩
  · have d1 : decide ((N : Int) ≤ 68) = false := by simp; omega
    go_wp2_with (go_at_call 63; refine (i_demand_f _).mono ?_; rintro e w' ⟨⟨v, rfl⟩, rfl⟩)
    exact ⟨rfl, ⟨_, rfl⟩, hBB2⟩
set_option maxHeartbeats 8000000 in
theorem i_decoded_t {w : World} {c : Nat} {A : Option Addr} {l : List Int} (s : Int) (hl : Ints .u8 w w.heap.size A 80 l) (hc : 80 ≤ c) (hcm : c ≤ 9223372036854775807) (hs : Sec s) (hpub : Pub (get4 l)) (hn0 : peelN s l ≤ 68) (ho0 : opens (peelK s l) (peelB s l)) :
    Calls Try.prog 65 #[.int .i64 s, .agg #[.slice A 80 c]] w fun e w' => Below w.heap.size w w' ∧
      ((¬ LayOk ((peelX s l).getD 0 0) (peelN s l) ∧ ∃ v, e = .panicked [{ v := .iface 9 v, recovered := false }]) ∨
       (LayOk ((peelX s l).getD 0 0) (peelN s l) ∧ ∃ vL, ReadsF w.heap.size w' vL ((peelX s l).drop 4) ∧ ((peelX s l).getD 0 0 = 255 ∧ e = .returned (.tuple #[.iface 73 (.agg #[vL]), .int .i64 ((peelX s l).getD 1 0 * 256 + (peelX s l).getD 2 0)]) ∨
         ¬ (peelX s l).getD 0 0 = 255 ∧ e = .returned (.tuple #[.iface 81 (.agg #[.int .i64 ((peelX s l).getD 0 0), vL]), .int .i64 ((peelX s l).getD 1 0 * 256 + (peelX s l).getD 2 0)])))) := by
  have HO := Lib.hid ho0
  have HN0 := Lib.hid hn0
  clear hn0 ho0
  have hl80 := hl.1
  have hby := hl.bytes
  obtain ⟨b, off, rfl, hb, _⟩ := hl.2.1 (by omega)
  have hT8 := ((hl.tail 4 (by omega)).tail 4 (by omega)).head 4 (by omega)
  rw [List.drop_drop] at hT8
  have hc4 : ¬ c = 4 := by omega
  have hc8 : ¬ c - 4 = 4 := by omega
  have hc9 : ¬ c = 8 := by omega
  have g4 : (4 : Int) ≤ (c : Int) := by omega
  have g8 : (8 : Int) ≤ (c : Int) - 4 := by omega
  have g80 : (80 : Int) ≤ (c : Int) := by omega
  have g9 : (8 : Int) ≤ ((c - 4 : Nat) : Int) := by omega
  have rS := powP_rg (get4 l) s.toNat
  have HSh := Lib.hid (shared_t hs hpub)
  obtain ⟨S, hS⟩ : ∃ S, powP (get4 l) s.toNat = S := ⟨_, rfl⟩
  have HS := Lib.hid (show peelS s l = S from hS)
  rw [hS] at rS HSh
  clear hS
  have HK5 := Lib.hid (fkey_t (a := S) (b := 5) rS ⟨by decide, by decide⟩)
  obtain ⟨K, hK⟩ : ∃ K, keyP S 5 = K := ⟨_, rfl⟩
  have rK := keyP_rg S 5
  have HK := Lib.hid (show peelK s l = K by unfold peelK; rw [HS.out, hK])
  rw [hK] at HK5 rK
  clear hK
  have HK1 := Lib.hid (fkey_t (a := K) (b := 1) rK ⟨by decide, by decide⟩)
  have rK1 := keyP_rg K 1
  have HH := Lib.hid (show fxor (keyP K 1) ((l.drop (4 + 4)).take 4) = peelH s l by
    rw [fxor_t rK1 (by rw [List.length_take]; omega)]; unfold peelH; rw [HK.out])
  go_enter Try.func65, Try.ntmps65
  go_wp2_with fail
  refine (i_pubIn (reach hl ?hB) (by omega) hc hcm).mono ?_
  case hB => exact (belx)
  rintro e w1 ⟨rfl, hB1⟩
  have bc : Box w1 w.heap.size 30 #[.slice (some ⟨b, off, none⟩) 80 c] := (Box.new w _ _).below hB1 (by simp)
  have cc := bc.cell 0
  have hB1' : Below w.heap.size w w1 := bel_trans (belx) hB1
  clear hB1
  go_wp2_with (first | (go_at_call 47; with_reducible refine (i_pub_t _ _ (by assumption)).mono ?_; rintro e w' ⟨rfl, rfl⟩) | (go_at_call 63; refine (i_demand_t _).mono ?_; rintro e w' ⟨rfl, rfl⟩) | (go_at_call 67; refine (i_Shared _ _ _).mono ?_; rintro e w' ⟨rfl, rfl⟩; rw [HSh.out]) | (go_at_call 66; refine (i_KeyOf _ _ _).mono ?_; rintro e w' ⟨rfl, rfl⟩; rw [HK5.out]))
  go_region_held3 (fun _ => True) (trivial) (first | (go_at_call 66; refine (i_KeyOf _ _ _).mono ?_; rintro e w' ⟨rfl, rfl⟩; rw [HK1.out]) | (go_at_call 96; refine (i_XorWith _ (reach (reach hT8 hB1') (belx)) (by omega)).mono ?_; rintro e w2 ⟨vH, rfl, hO2, hB2⟩))
  rw [HH.out] at hO2
  have hB2' : Below w1.heap.size w1 w2 := bel_trans (belx) hB2
  have hBB2 := bel_trans hB1' hB2'
  clear hB2 bc HH
  have hHl := peelH_len (s := s) hl80
  have hHb := (peelH_bytes (s := s) hby).at_ 3
  obtain ⟨N, hN⟩ : ∃ N : Nat, (peelH s l).getD 3 0 = (N : Int) := ⟨_, (peelN_eq hby).symm⟩
  have HN := Lib.hid (show peelN s l = N by have := peelN_eq (s := s) hby; omega)
  obtain ⟨AH, cH, rfl, hcH, hIH, _⟩ := hO2.ints
  obtain ⟨bH, oH, eA, hbH, hcells⟩ := hIH.2.1 (by omega)
  subst eA
  have hc3 := hcells 3 (by omega)
  rw [hN] at hc3 hHb
  clear hcells hN
  have q3 : (0 : Int) ≤ 3 := by omega
  have q4 : (3 : Int) < ((peelH s l).length : Int) := by omega
  have hn : N ≤ 68 := by have := HN0.out; rw [HN.out] at this; exact this
  have d1 : decide ((N : Int) ≤ 68) = true := by simp; omega
  have hT4 := (hl.tail 4 (by omega)).head (8 + N) (by omega)
  have HB := Lib.hid (show (l.drop 4).take (8 + N) = peelB s l by unfold peelB; rw [HN.out])
  rw [HB.out] at hT4
  have ho : opens K (peelB s l) := by have := HO.out; rw [HK.out] at this; exact this
  have hX := peelX_len (s := s) hl80 (by rw [HN.out]; exact hn)
  have hXb := peelX_bytes (s := s) hby
  have HX := Lib.hid (show openL K (peelB s l) = peelX s l by unfold peelX; rw [HK.out])
  rw [HN.out] at hX
  have q5 : (0 : Int) ≤ 8 + (N : Int) := by omega
  have q6 : 8 + (N : Int) ≤ ((c - 4 : Nat) : Int) := by omega
  have q7 : 8 + (N : Int) ≤ (c : Int) - 4 := by omega
  go_wp2_with (go_at_call 63; refine (i_demand_t _).mono ?_; rintro e w' ⟨rfl, rfl⟩)
  refine (i_Open_t _ (reach hT4 hBB2) (by omega) (by omega) (by omega) (by omega) rK ho).mono ?_
  rintro e w3 ⟨vx, rfl, hO3, hB3⟩
  rw [HX.out] at hO3
  have hBB3 := bel_trans hBB2 hB3
  have hw2 := hBB2.size
  clear hT4 hc3 hT8 hc4 hc8 hc9 g4 g8 g80 g9 hB1' hB2' hBB2 hHl hHb hcH hbH hO2 hIH q3 q4 q5 q6 q7 rK1 rK rS ho HB
  obtain ⟨xs, hxs⟩ : ∃ xs, peelX s l = xs := ⟨_, rfl⟩
  rw [hxs] at hO3 hX hXb
  have HXS := Lib.hid hxs
  clear hxs
  have hX1 : 4 + N ≤ xs.length := by omega
  have hX2 : xs.length ≤ 4 + N := by omega
  clear hX
  obtain ⟨gX, cX, eX, hcX, hcXm, hgX, hgXs, hXc, _⟩ := hO3.row (by omega)
  subst eX
  have y0r := hXb.at_ 0; have y1r := hXb.at_ 1; have y2r := hXb.at_ 2
  have hx0 := hXc 0 (by omega)
  obtain ⟨y0, hy0⟩ : ∃ y, xs.getD 0 0 = y := ⟨_, rfl⟩
  obtain ⟨y1, hy1⟩ : ∃ y, xs.getD 1 0 = y := ⟨_, rfl⟩
  obtain ⟨y2, hy2⟩ : ∃ y, xs.getD 2 0 = y := ⟨_, rfl⟩
  rw [hy0] at hx0 y0r; rw [hy1] at y1r; rw [hy2] at y2r
  have HY0 := Lib.hid hy0; have HY1 := Lib.hid hy1; have HY2 := Lib.hid hy2
  have hnum : num ((xs.drop 1).take 2) = y1 * 256 + y2 := by
    match xs, hX1, hy1, hy2 with
    | a :: b :: c :: r, _, h1, h2 => 
      simp at h1 h2
      subst h1 h2
      simp [num]
    | [], h, _, _ => simp at h
    | [a], h, _, _ => simp at h; omega
    | [a, b], h, _, _ => simp at h; omega
  have HNU := Lib.hid hnum
  clear hy0 hy1 hy2 hXc hnum
  obtain ⟨nx, hnx⟩ : ∃ n, xs.length = n := ⟨_, rfl⟩
  have HNX := Lib.hid hnx
  rw [hnx] at hO3 hX1 hX2 hcX ⊢
  clear hnx
  have i0 : IntKind.i64.wrap y0 = y0 := IntWalk.i64_in _ (by omega)
  have p0 : (0 : Int) < (nx : Int) := by omega
  have p3 : 0 < nx := by omega
  have p4 : (4 : Int) ≤ (nx : Int) := by omega
  have p5 : (3 : Int) ≤ (cX : Int) := by omega
  have p6 : (nx : Int) ≤ (cX : Int) := by omega
  have hI3 := hO3.intsAt.1
  have hIn := (hI3.tail 1 (by omega)).head 2 (by omega)
  go_wp2_with (go_at_call 63; refine (i_demand_t _).mono ?_; rintro e w' ⟨rfl, rfl⟩)
  rw [Nat.zero_add] at hIn
  have hc1 : ¬ cX = 1 := by omega
  by_cases hcx : cX = 4
  · subst hcx
    obtain rfl : nx = 4 := by omega
    by_cases hy : y0 = 255
    · subst hy
      by_cases h24 : N ≤ 24
      · skip
        go_region_held3 (fun w' => w'.cell? ⟨gX, 0, none⟩ = some (.int .u8 255)) (go_keep) (first | (go_at_call 98; refine (i_layerOf_e _ (by omega)).mono ?_; rintro e w' ⟨rfl, rfl⟩) | (go_at_call 74; refine (i_number (hIn.drewN _) (by omega)).mono ?_; rintro e w' ⟨rfl, rfl⟩; rw [HNU.out]))
        go_wp2
        go_ret2
        rw [HXS.out, HN.out, HY0.out, HY1.out, HY2.out]
        exact ⟨below_drewN hBB3 _, .inr ⟨.inl ⟨rfl, h24⟩, _, hO3.readsEndF (by omega) hw2, .inl ⟨rfl, rfl⟩⟩⟩
      · skip
        refine wp_region_held_drew (S := fun w' => w'.cell? ⟨gX, 0, none⟩ = some (.int .u8 255)) (by kernel_rfl) (by exact hx0) (fun hHeld => ?_)
        refine wpAnyH_take (i := 0) (v := .slice (some ⟨gX, 0, none⟩) 4 4) rfl (by kernel_rfl) (by kernel_rfl) (by kernel_rfl) (fun _ _ _ h => h) (Or.inl ⟨by rfl, ?_⟩) (by assumption) ?_
        · intro w hSw; go_simp
        simp only [Act.put, List.setIfInBounds_toArray, List.set_cons_zero, List.set_cons_succ]
        refine wpAnyH_take (i := 1) (v := .pointer (some ⟨gX, 0, none⟩)) rfl (by kernel_rfl) (by kernel_rfl) (by kernel_rfl) (fun _ _ _ h => h) (Or.inl ⟨by rfl, ?_⟩) (by assumption) ?_
        · intro w hSw; go_simp
        simp only [Act.put, List.setIfInBounds_toArray, List.set_cons_zero, List.set_cons_succ]
        refine wpAnyH_take (i := 2) (v := .int .u8 255) rfl (by kernel_rfl) (by kernel_rfl) (by kernel_rfl) (fun _ _ _ h => h) (Or.inl ⟨by rfl, ?_⟩) (by assumption) ?_
        · intro w hSw; go_simp
        simp only [Act.put, List.setIfInBounds_toArray, List.set_cons_zero, List.set_cons_succ]
        refine wpAnyH_take (i := 3) (v := .int .i64 255) rfl (by kernel_rfl) (by kernel_rfl) (by kernel_rfl) (fun _ _ _ h => h) (Or.inl ⟨by rfl, ?_⟩) (by assumption) ?_
        · intro w hSw; go_simp
        simp only [Act.put, List.setIfInBounds_toArray, List.set_cons_zero, List.set_cons_succ]
        refine wpAnyH_take (i := 4) (v := .slice (some ⟨gX, 0, none⟩) 4 4) rfl (by kernel_rfl) (by kernel_rfl) (by kernel_rfl) (fun _ _ _ h => h) (Or.inl ⟨by rfl, ?_⟩) (by assumption) ?_
        · intro w hSw; go_simp
        simp only [Act.put, List.setIfInBounds_toArray, List.set_cons_zero, List.set_cons_succ]
        refine wpAnyH_take (i := 5) (v := .slice (some ⟨gX, 0, none⟩) 0 0) rfl (by kernel_rfl) (by kernel_rfl) (by kernel_rfl) (fun _ _ _ h => h) (Or.inl ⟨by rfl, ?_⟩) (by assumption) ?_
        · intro w hSw; go_simp
        simp only [Act.put, List.setIfInBounds_toArray, List.set_cons_zero, List.set_cons_succ]
        refine wpAnyH_take (i := 7) (v := .slice (some ⟨gX, 0, none⟩) 4 4) rfl (by kernel_rfl) (by kernel_rfl) (by kernel_rfl) (fun _ _ _ h => h) (Or.inl ⟨by rfl, ?_⟩) (by assumption) ?_
        · intro w hSw; go_simp
        simp only [Act.put, List.setIfInBounds_toArray, List.set_cons_zero, List.set_cons_succ]
        refine wpAnyH_take (i := 8) (v := .slice (some ⟨gX, 1, none⟩) 2 3) rfl (by kernel_rfl) (by kernel_rfl) (by kernel_rfl) (fun _ _ _ h => h) (Or.inl ⟨by rfl, ?_⟩) (by assumption) ?_
        · intro w hSw; go_simp
        simp only [Act.put, List.setIfInBounds_toArray, List.set_cons_zero, List.set_cons_succ]
        refine wpAnyH_ready (rs := [6]) (by kernel_rfl) (by simp) ?_
        refine AllReadyH.cons rfl (fun K hK => ?_) AllReadyH.nil
        go_simp

        go_at_call 98
        refine (i_layerOf_ef _ (by omega)).mono ?_; rintro e w' ⟨⟨vp, rfl⟩, rfl⟩

        exact ⟨rfl, hBB3.drew, .inl ⟨by rw [HXS.out, HN.out, HY0.out]; exact fun x => (by rcases x with ⟨h, h'⟩ | ⟨h, h'⟩ <;> omega), _, rfl⟩⟩
    · have hyb : (y0 == 255) = false := by simpa using hy
      by_cases h8 : y0 < 8 ∧ 12 ≤ N
      · obtain ⟨h8, h12⟩ := h8
        go_region_held3 (fun w' => w'.cell? ⟨gX, 0, none⟩ = some (.int .u8 y0)) (go_keep) (first | (go_at_call 98; refine (i_layerOf_r _ _ hy y0r.1 h8 (by omega)).mono ?_; rintro e w' ⟨rfl, rfl⟩) | (go_at_call 74; refine (i_number (hIn.drewN _) (by omega)).mono ?_; rintro e w' ⟨rfl, rfl⟩; rw [HNU.out]))
        go_wp2
        go_ret2
        rw [HXS.out, HN.out, HY0.out, HY1.out, HY2.out]
        exact ⟨below_drewN hBB3 _, .inr ⟨.inr ⟨h8, h12⟩, _, hO3.readsEndF (by omega) hw2, .inr ⟨hy, rfl⟩⟩⟩
      · skip
        refine wp_region_held_drew (S := fun w' => w'.cell? ⟨gX, 0, none⟩ = some (.int .u8 y0)) (by kernel_rfl) (by exact hx0) (fun hHeld => ?_)
        refine wpAnyH_take (i := 0) (v := .slice (some ⟨gX, 0, none⟩) 4 4) rfl (by kernel_rfl) (by kernel_rfl) (by kernel_rfl) (fun _ _ _ h => h) (Or.inl ⟨by rfl, ?_⟩) (by assumption) ?_
        · intro w hSw; go_simp
        simp only [Act.put, List.setIfInBounds_toArray, List.set_cons_zero, List.set_cons_succ]
        refine wpAnyH_take (i := 1) (v := .pointer (some ⟨gX, 0, none⟩)) rfl (by kernel_rfl) (by kernel_rfl) (by kernel_rfl) (fun _ _ _ h => h) (Or.inl ⟨by rfl, ?_⟩) (by assumption) ?_
        · intro w hSw; go_simp
        simp only [Act.put, List.setIfInBounds_toArray, List.set_cons_zero, List.set_cons_succ]
        refine wpAnyH_take (i := 2) (v := .int .u8 y0) rfl (by kernel_rfl) (by kernel_rfl) (by kernel_rfl) (fun _ _ _ h => h) (Or.inl ⟨by rfl, ?_⟩) (by assumption) ?_
        · intro w hSw; go_simp
        simp only [Act.put, List.setIfInBounds_toArray, List.set_cons_zero, List.set_cons_succ]
        refine wpAnyH_take (i := 3) (v := .int .i64 y0) rfl (by kernel_rfl) (by kernel_rfl) (by kernel_rfl) (fun _ _ _ h => h) (Or.inl ⟨by rfl, ?_⟩) (by assumption) ?_
        · intro w hSw; go_simp
        simp only [Act.put, List.setIfInBounds_toArray, List.set_cons_zero, List.set_cons_succ]
        refine wpAnyH_take (i := 4) (v := .slice (some ⟨gX, 0, none⟩) 4 4) rfl (by kernel_rfl) (by kernel_rfl) (by kernel_rfl) (fun _ _ _ h => h) (Or.inl ⟨by rfl, ?_⟩) (by assumption) ?_
        · intro w hSw; go_simp
        simp only [Act.put, List.setIfInBounds_toArray, List.set_cons_zero, List.set_cons_succ]
        refine wpAnyH_take (i := 5) (v := .slice (some ⟨gX, 0, none⟩) 0 0) rfl (by kernel_rfl) (by kernel_rfl) (by kernel_rfl) (fun _ _ _ h => h) (Or.inl ⟨by rfl, ?_⟩) (by assumption) ?_
        · intro w hSw; go_simp
        simp only [Act.put, List.setIfInBounds_toArray, List.set_cons_zero, List.set_cons_succ]
        refine wpAnyH_take (i := 7) (v := .slice (some ⟨gX, 0, none⟩) 4 4) rfl (by kernel_rfl) (by kernel_rfl) (by kernel_rfl) (fun _ _ _ h => h) (Or.inl ⟨by rfl, ?_⟩) (by assumption) ?_
        · intro w hSw; go_simp
        simp only [Act.put, List.setIfInBounds_toArray, List.set_cons_zero, List.set_cons_succ]
        refine wpAnyH_take (i := 8) (v := .slice (some ⟨gX, 1, none⟩) 2 3) rfl (by kernel_rfl) (by kernel_rfl) (by kernel_rfl) (fun _ _ _ h => h) (Or.inl ⟨by rfl, ?_⟩) (by assumption) ?_
        · intro w hSw; go_simp
        simp only [Act.put, List.setIfInBounds_toArray, List.set_cons_zero, List.set_cons_succ]
        refine wpAnyH_ready (rs := [6]) (by kernel_rfl) (by simp) ?_
        refine AllReadyH.cons rfl (fun K hK => ?_) AllReadyH.nil
        go_simp

        go_at_call 98
        refine (i_layerOf_rf _ _ hy (by omega)).mono ?_; rintro e w' ⟨⟨vp, rfl⟩, rfl⟩

        exact ⟨rfl, hBB3.drew, .inl ⟨by rw [HXS.out, HN.out, HY0.out]; exact fun x => (by rcases x with ⟨h, h'⟩ | ⟨h, h'⟩ <;> omega), _, rfl⟩⟩
  · skip
    by_cases hy : y0 = 255
    · subst hy
      by_cases h24 : N ≤ 24
      · skip
        go_region_held3 (fun w' => w'.cell? ⟨gX, 0, none⟩ = some (.int .u8 255)) (go_keep) (first | (go_at_call 98; refine (i_layerOf_e _ (by omega)).mono ?_; rintro e w' ⟨rfl, rfl⟩) | (go_at_call 74; refine (i_number (hIn.drewN _) (by omega)).mono ?_; rintro e w' ⟨rfl, rfl⟩; rw [HNU.out]))
        go_wp2
        go_ret2
        rw [HXS.out, HN.out, HY0.out, HY1.out, HY2.out]
        exact ⟨below_drewN hBB3 _, .inr ⟨.inl ⟨rfl, h24⟩, _, hO3.readsTailF (by omega) hw2, .inl ⟨rfl, rfl⟩⟩⟩
      · skip
        refine wp_region_held_drew (S := fun w' => w'.cell? ⟨gX, 0, none⟩ = some (.int .u8 255)) (by kernel_rfl) (by exact hx0) (fun hHeld => ?_)
        refine wpAnyH_take (i := 0) (v := .slice (some ⟨gX, 0, none⟩) nx cX) rfl (by kernel_rfl) (by kernel_rfl) (by kernel_rfl) (fun _ _ _ h => h) (Or.inl ⟨by rfl, ?_⟩) (by assumption) ?_
        · intro w hSw; go_simp
        simp only [Act.put, List.setIfInBounds_toArray, List.set_cons_zero, List.set_cons_succ]
        refine wpAnyH_take (i := 1) (v := .pointer (some ⟨gX, 0, none⟩)) rfl (by kernel_rfl) (by kernel_rfl) (by kernel_rfl) (fun _ _ _ h => h) (Or.inl ⟨by rfl, ?_⟩) (by assumption) ?_
        · intro w hSw; go_simp
        simp only [Act.put, List.setIfInBounds_toArray, List.set_cons_zero, List.set_cons_succ]
        refine wpAnyH_take (i := 2) (v := .int .u8 255) rfl (by kernel_rfl) (by kernel_rfl) (by kernel_rfl) (fun _ _ _ h => h) (Or.inl ⟨by rfl, ?_⟩) (by assumption) ?_
        · intro w hSw; go_simp
        simp only [Act.put, List.setIfInBounds_toArray, List.set_cons_zero, List.set_cons_succ]
        refine wpAnyH_take (i := 3) (v := .int .i64 255) rfl (by kernel_rfl) (by kernel_rfl) (by kernel_rfl) (fun _ _ _ h => h) (Or.inl ⟨by rfl, ?_⟩) (by assumption) ?_
        · intro w hSw; go_simp
        simp only [Act.put, List.setIfInBounds_toArray, List.set_cons_zero, List.set_cons_succ]
        refine wpAnyH_take (i := 4) (v := .slice (some ⟨gX, 0, none⟩) nx cX) rfl (by kernel_rfl) (by kernel_rfl) (by kernel_rfl) (fun _ _ _ h => h) (Or.inl ⟨by rfl, ?_⟩) (by assumption) ?_
        · intro w hSw; go_simp
        simp only [Act.put, List.setIfInBounds_toArray, List.set_cons_zero, List.set_cons_succ]
        refine wpAnyH_take (i := 5) (v := .slice (some ⟨gX, 4, none⟩) (nx - 4) (cX - 4)) rfl (by kernel_rfl) (by kernel_rfl) (by kernel_rfl) (fun _ _ _ h => h) (Or.inl ⟨by rfl, ?_⟩) (by assumption) ?_
        · intro w hSw; go_simp
        simp only [Act.put, List.setIfInBounds_toArray, List.set_cons_zero, List.set_cons_succ]
        refine wpAnyH_take (i := 7) (v := .slice (some ⟨gX, 0, none⟩) nx cX) rfl (by kernel_rfl) (by kernel_rfl) (by kernel_rfl) (fun _ _ _ h => h) (Or.inl ⟨by rfl, ?_⟩) (by assumption) ?_
        · intro w hSw; go_simp
        simp only [Act.put, List.setIfInBounds_toArray, List.set_cons_zero, List.set_cons_succ]
        refine wpAnyH_take (i := 8) (v := .slice (some ⟨gX, 1, none⟩) 2 (cX - 1)) rfl (by kernel_rfl) (by kernel_rfl) (by kernel_rfl) (fun _ _ _ h => h) (Or.inl ⟨by rfl, ?_⟩) (by assumption) ?_
        · intro w hSw; go_simp
        simp only [Act.put, List.setIfInBounds_toArray, List.set_cons_zero, List.set_cons_succ]
        refine wpAnyH_ready (rs := [6]) (by kernel_rfl) (by simp) ?_
        refine AllReadyH.cons rfl (fun K hK => ?_) AllReadyH.nil
        go_simp

        go_at_call 98
        refine (i_layerOf_ef _ (by omega)).mono ?_; rintro e w' ⟨⟨vp, rfl⟩, rfl⟩

        exact ⟨rfl, hBB3.drew, .inl ⟨by rw [HXS.out, HN.out, HY0.out]; exact fun x => (by rcases x with ⟨h, h'⟩ | ⟨h, h'⟩ <;> omega), _, rfl⟩⟩
    · have hyb : (y0 == 255) = false := by simpa using hy
      by_cases h8 : y0 < 8 ∧ 12 ≤ N
      · obtain ⟨h8, h12⟩ := h8
        go_region_held3 (fun w' => w'.cell? ⟨gX, 0, none⟩ = some (.int .u8 y0)) (go_keep) (first | (go_at_call 98; refine (i_layerOf_r _ _ hy y0r.1 h8 (by omega)).mono ?_; rintro e w' ⟨rfl, rfl⟩) | (go_at_call 74; refine (i_number (hIn.drewN _) (by omega)).mono ?_; rintro e w' ⟨rfl, rfl⟩; rw [HNU.out]))
        go_wp2
        go_ret2
        rw [HXS.out, HN.out, HY0.out, HY1.out, HY2.out]
        exact ⟨below_drewN hBB3 _, .inr ⟨.inr ⟨h8, h12⟩, _, hO3.readsTailF (by omega) hw2, .inr ⟨hy, rfl⟩⟩⟩
      · skip
        refine wp_region_held_drew (S := fun w' => w'.cell? ⟨gX, 0, none⟩ = some (.int .u8 y0)) (by kernel_rfl) (by exact hx0) (fun hHeld => ?_)
        refine wpAnyH_take (i := 0) (v := .slice (some ⟨gX, 0, none⟩) nx cX) rfl (by kernel_rfl) (by kernel_rfl) (by kernel_rfl) (fun _ _ _ h => h) (Or.inl ⟨by rfl, ?_⟩) (by assumption) ?_
        · intro w hSw; go_simp
        simp only [Act.put, List.setIfInBounds_toArray, List.set_cons_zero, List.set_cons_succ]
        refine wpAnyH_take (i := 1) (v := .pointer (some ⟨gX, 0, none⟩)) rfl (by kernel_rfl) (by kernel_rfl) (by kernel_rfl) (fun _ _ _ h => h) (Or.inl ⟨by rfl, ?_⟩) (by assumption) ?_
        · intro w hSw; go_simp
        simp only [Act.put, List.setIfInBounds_toArray, List.set_cons_zero, List.set_cons_succ]
        refine wpAnyH_take (i := 2) (v := .int .u8 y0) rfl (by kernel_rfl) (by kernel_rfl) (by kernel_rfl) (fun _ _ _ h => h) (Or.inl ⟨by rfl, ?_⟩) (by assumption) ?_
        · intro w hSw; go_simp
        simp only [Act.put, List.setIfInBounds_toArray, List.set_cons_zero, List.set_cons_succ]
        refine wpAnyH_take (i := 3) (v := .int .i64 y0) rfl (by kernel_rfl) (by kernel_rfl) (by kernel_rfl) (fun _ _ _ h => h) (Or.inl ⟨by rfl, ?_⟩) (by assumption) ?_
        · intro w hSw; go_simp
        simp only [Act.put, List.setIfInBounds_toArray, List.set_cons_zero, List.set_cons_succ]
        refine wpAnyH_take (i := 4) (v := .slice (some ⟨gX, 0, none⟩) nx cX) rfl (by kernel_rfl) (by kernel_rfl) (by kernel_rfl) (fun _ _ _ h => h) (Or.inl ⟨by rfl, ?_⟩) (by assumption) ?_
        · intro w hSw; go_simp
        simp only [Act.put, List.setIfInBounds_toArray, List.set_cons_zero, List.set_cons_succ]
        refine wpAnyH_take (i := 5) (v := .slice (some ⟨gX, 4, none⟩) (nx - 4) (cX - 4)) rfl (by kernel_rfl) (by kernel_rfl) (by kernel_rfl) (fun _ _ _ h => h) (Or.inl ⟨by rfl, ?_⟩) (by assumption) ?_
        · intro w hSw; go_simp
        simp only [Act.put, List.setIfInBounds_toArray, List.set_cons_zero, List.set_cons_succ]
        refine wpAnyH_take (i := 7) (v := .slice (some ⟨gX, 0, none⟩) nx cX) rfl (by kernel_rfl) (by kernel_rfl) (by kernel_rfl) (fun _ _ _ h => h) (Or.inl ⟨by rfl, ?_⟩) (by assumption) ?_
        · intro w hSw; go_simp
        simp only [Act.put, List.setIfInBounds_toArray, List.set_cons_zero, List.set_cons_succ]
        refine wpAnyH_take (i := 8) (v := .slice (some ⟨gX, 1, none⟩) 2 (cX - 1)) rfl (by kernel_rfl) (by kernel_rfl) (by kernel_rfl) (fun _ _ _ h => h) (Or.inl ⟨by rfl, ?_⟩) (by assumption) ?_
        · intro w hSw; go_simp
        simp only [Act.put, List.setIfInBounds_toArray, List.set_cons_zero, List.set_cons_succ]
        refine wpAnyH_ready (rs := [6]) (by kernel_rfl) (by simp) ?_
        refine AllReadyH.cons rfl (fun K hK => ?_) AllReadyH.nil
        go_simp

        go_at_call 98
        refine (i_layerOf_rf _ _ hy (by omega)).mono ?_; rintro e w' ⟨⟨vp, rfl⟩, rfl⟩

        exact ⟨rfl, hBB3.drew, .inl ⟨by rw [HXS.out, HN.out, HY0.out]; exact fun x => (by rcases x with ⟨h, h'⟩ | ⟨h, h'⟩ <;> omega), _, rfl⟩⟩
set_option maxHeartbeats 1000000 in
theorem i_catch_p (g h : Nat) (hgh : g ≠ h) (x0 x1 x2 : Int) (x3 x4 : Value) (x5 : Bool) (u : TypeId) (pv : Value) (w : World) (b1 : Box w g 42 #[.int .i64 x0, .int .i64 x1, .int .i64 x2, x3, x4]) (b2 : Box w h 4 #[.bool x5]) :
    CallsD Try.prog 62 #[.pointer (some ⟨g, 0, none⟩), .pointer (some ⟨h, 0, none⟩)] (.panicking [{ v := .iface u pv, recovered := false }]) w fun e u' w' =>
      e = .returned (.tuple #[]) ∧ u' = .panicking [{ v := .iface u pv, recovered := true }] ∧ Box w' g 42 #[.int .i64 0, .int .i64 0, .int .i64 0, .slice none 0 0, .slice none 0 0] ∧ Box w' h 4 #[.bool false] ∧
        w' = (((((w.setCell ⟨g, 0, none⟩ (.int .i64 0)).setCell ⟨g, 1, none⟩ (.int .i64 0)).setCell ⟨g, 2, none⟩ (.int .i64 0)).setCell ⟨g, 3, none⟩ (.slice none 0 0)).setCell ⟨g, 4, none⟩ (.slice none 0 0)).setCell ⟨h, 0, none⟩ (.bool false) := by
  have u0 := b1.cell 0; have u1 := b1.cell 1; have u2 := b1.cell 2; have u3 := b1.cell 3; have u4 := b1.cell 4
  have f0 := b1.frozen 0; have f1 := b1.frozen 1; have f2 := b1.frozen 2; have f3 := b1.frozen 3; have f4 := b1.frozen 4
  have v0 := b2.cell 0; have g0 := b2.frozen 0
  have hhg : h ≠ g := fun e => hgh e.symm
  have bG := ((((((b1.put 0 (.int .i64 0)).put 1 (.int .i64 0)).put 2 (.int .i64 0)).put 3 (.slice none 0 0)).put 4 (.slice none 0 0)).far (p := ⟨h, 0, none⟩) hgh (.bool false))
  have bH := (((((b2.far (p := ⟨g, 0, none⟩) hhg (.int .i64 0)).far (p := ⟨g, 1, none⟩) hhg (.int .i64 0)).far (p := ⟨g, 2, none⟩) hhg (.int .i64 0)).far (p := ⟨g, 3, none⟩) hhg (.slice none 0 0)).far (p := ⟨g, 4, none⟩) hhg (.slice none 0 0)).put 0 (.bool false)
  refine callsD_of_wpS Try.func62 rfl fun c₀ cs hu => ?_
  apply wpS_seq
  apply wpS_region
  simp [wpOpsS, go_sem, recoverD, hu, Try.ntmps62, Exit.thenS]
  refine wpS_cond (t := true) (by simp [Act.eval, Array.replicate]) ?_
  simp only [if_true]
  apply wpS_region
  simp [wpOpsS, go_sem, u0, u1, u2, u3, u4, f0, f1, f2, f3, f4, v0, g0, hgh, hhg, bodyPostS, results, Try.results62]
  first | exact ⟨bG, bH⟩ | exact ⟨by simpa using bG, by simpa using bH⟩
theorem i_catch_i (g h : Nat) (w : World) :
    CallsD Try.prog 62 #[.pointer (some ⟨g, 0, none⟩), .pointer (some ⟨h, 0, none⟩)] .returning w fun e u' w' => e = .returned (.tuple #[]) ∧ u' = .returning ∧ w' = w := by
  refine callsD_of_wpS Try.func62 rfl fun c₀ cs hu => ?_
  apply wpS_seq
  apply wpS_region
  simp [wpOpsS, go_sem, recoverD, hu, Try.ntmps62, Exit.thenS]
  refine wpS_cond (t := false) (by simp [Act.eval, Array.replicate]) ?_
  simp only [Bool.false_eq_true, if_false]
  refine wpS_of_wp (wp_skip ?_)
  cases c₀
  simp_all [bodyPostS, results, Try.results62]
theorem i_exit_next (v : Value) (w : World) : Calls Try.prog 160 #[.agg #[v]] w fun e w' => e = .returned (.int .i64 255) ∧ Below w.heap.size w w' := by
  go_enter Try.func160, Try.ntmps160
  go_wp2
  go_ret
  exact ⟨rfl, (belx)⟩
theorem i_relay_next (y : Int) (A : Option Addr) (n c : Nat) (w : World) : Calls Try.prog 162 #[.agg #[.int .i64 y, .slice A n c]] w fun e w' => e = .returned (.int .i64 y) ∧ Below w.heap.size w w' := by
  go_enter Try.func162, Try.ntmps162
  go_wp2
  go_ret
  exact ⟨rfl, (belx)⟩
theorem i_Peel_a (s : Int) (A A' : Option Addr) (n c m d : Nat) (w : World) (hs : NoSec s) :
    Calls Try.prog 19 #[.int .i64 s, .agg #[.slice A n c], .slice A' m d] w fun e w' => e = .returned (.tuple #[.agg #[.int .i64 0, .int .i64 0, .int .i64 0, .slice none 0 0, .slice none 0 0], .bool false]) ∧ Below w.heap.size w w' := by
  have hmf : ∀ (fn : Fn) (first cap : Array Value) (w : World), (Instr.makeFunc fn first cap).run Try.prog w = .ok (.func fn first cap) w := fun _ _ _ _ => rfl
  go_enter_defers Try.func19, Try.ntmps19
  go_wp2_with (first | (go_at_call 64; with_reducible refine (i_sec_f _ _ (by assumption)).mono ?_; rintro e w' ⟨rfl, rfl⟩) | (go_at_call 63; refine (i_demand_f _).mono ?_; rintro e w' ⟨⟨v, rfl⟩, rfl⟩))
  have b1 : Box (((w.alloc (.cells #[.slice A n c] 30)).alloc (.cells #[.int .i64 0, .int .i64 0, .int .i64 0, .slice none 0 0, .slice none 0 0] 42)).alloc (.cells #[.bool false] 4)) (w.heap.size + 1) 42 #[.int .i64 0, .int .i64 0, .int .i64 0, .slice none 0 0, .slice none 0 0] :=
    Box.alloc (by have := Box.new (w.alloc (.cells #[.slice A n c] 30)) 42 #[.int .i64 0, .int .i64 0, .int .i64 0, .slice none 0 0, .slice none 0 0]; simpa using this) _
  have b2 : Box (((w.alloc (.cells #[.slice A n c] 30)).alloc (.cells #[.int .i64 0, .int .i64 0, .int .i64 0, .slice none 0 0, .slice none 0 0] 42)).alloc (.cells #[.bool false] 4)) (w.heap.size + 1 + 1) 4 #[.bool false] := by
    have := Box.new ((w.alloc (.cells #[.slice A n c] 30)).alloc (.cells #[.int .i64 0, .int .i64 0, .int .i64 0, .slice none 0 0, .slice none 0 0] 42)) 4 #[.bool false]; simpa using this
  refine leaves_cons (f := 62) (args := #[.pointer (some ⟨w.heap.size + 1, 0, none⟩), .pointer (some ⟨w.heap.size + 1 + 1, 0, none⟩)]) (by simp) (by simp [go_sem]) ?_
  refine (i_catch_p (w.heap.size + 1) (w.heap.size + 1 + 1) (by omega) 0 0 0 (.slice none 0 0) (.slice none 0 0) false _ _ _ b1 b2).mono ?_
  rintro e u' w'' ⟨rfl, rfl, bG, bH, hw⟩
  have e0 := bG.cell 0; have e1 := bG.cell 1; have e2 := bG.cell 2; have e3 := bG.cell 3; have e4 := bG.cell 4; have k0 := bH.cell 0
  have hBw : Below w.heap.size w w'' := by rw [hw]; exact (belx)
  simp [Leaves, settle, results, Try.results19, go_sem, e0, e1, e2, e3, e4, k0]
  exact hBw
set_option maxHeartbeats 2000000 in
theorem i_Peel_b (s : Int) (A A' : Option Addr) (n c m d : Nat) (w : World) (hs : Sec s) (hn : ¬ n = 80) :
    Calls Try.prog 19 #[.int .i64 s, .agg #[.slice A n c], .slice A' m d] w fun e w' => e = .returned (.tuple #[.agg #[.int .i64 0, .int .i64 0, .int .i64 0, .slice none 0 0, .slice none 0 0], .bool false]) ∧ Below w.heap.size w w' := by
  have hmf : ∀ (fn : Fn) (first cap : Array Value) (w : World), (Instr.makeFunc fn first cap).run Try.prog w = .ok (.func fn first cap) w := fun _ _ _ _ => rfl
  have bc : Box (((w.alloc (.cells #[.slice A n c] 30)).alloc (.cells #[.int .i64 0, .int .i64 0, .int .i64 0, .slice none 0 0, .slice none 0 0] 42)).alloc (.cells #[.bool false] 4)) w.heap.size 30 #[.slice A n c] := ((Box.new w _ _).alloc _).alloc _
  have b1 : Box (((w.alloc (.cells #[.slice A n c] 30)).alloc (.cells #[.int .i64 0, .int .i64 0, .int .i64 0, .slice none 0 0, .slice none 0 0] 42)).alloc (.cells #[.bool false] 4)) (w.heap.size + 1) 42 #[.int .i64 0, .int .i64 0, .int .i64 0, .slice none 0 0, .slice none 0 0] := Box.alloc (by have := Box.new (w.alloc (.cells #[.slice A n c] 30)) 42 #[.int .i64 0, .int .i64 0, .int .i64 0, .slice none 0 0, .slice none 0 0]; simpa using this) _
  have b2 : Box (((w.alloc (.cells #[.slice A n c] 30)).alloc (.cells #[.int .i64 0, .int .i64 0, .int .i64 0, .slice none 0 0, .slice none 0 0] 42)).alloc (.cells #[.bool false] 4)) (w.heap.size + 1 + 1) 4 #[.bool false] := by have := Box.new ((w.alloc (.cells #[.slice A n c] 30)).alloc (.cells #[.int .i64 0, .int .i64 0, .int .i64 0, .slice none 0 0, .slice none 0 0] 42)) 4 #[.bool false]; simpa using this
  go_enter_defers Try.func19, Try.ntmps19
  go_wp2_with (go_at_call 64; with_reducible refine (i_sec_t _ _ (by assumption)).mono ?_; rintro e w' ⟨rfl, rfl⟩)
  refine (i_CellOk_f _ _ _ _ hn).mono ?_
  rintro e w1 ⟨rfl, hB1⟩
  have bc' := bc.below hB1 (by first | (simp; done) | (simp; omega))
  have b1' := b1.below hB1 (by first | (simp; done) | (simp; omega))
  have b2' := b2.below hB1 (by first | (simp; done) | (simp; omega))
  have hBB1 : Below w.heap.size w w1 := bel_trans (belx) hB1
  clear bc b1 b2
  go_wp2_with (go_at_call 63; refine (i_demand_f _).mono ?_; rintro e w' ⟨⟨v, rfl⟩, rfl⟩)
  refine leaves_cons (f := 62) (args := #[.pointer (some ⟨w.heap.size + 1, 0, none⟩), .pointer (some ⟨w.heap.size + 1 + 1, 0, none⟩)]) (by simp) (by simp [go_sem]) ?_
  refine (i_catch_p (w.heap.size + 1) (w.heap.size + 1 + 1) (by omega) 0 0 0 (.slice none 0 0) (.slice none 0 0) false _ _ _ b1' b2').mono ?_
  rintro e u' w'' ⟨rfl, rfl, bG, bH, hw⟩
  have e0 := bG.cell 0; have e1 := bG.cell 1; have e2 := bG.cell 2; have e3 := bG.cell 3; have e4 := bG.cell 4; have k0 := bH.cell 0
  have hBw : Below w.heap.size w w'' := by rw [hw]; exact (belx)
  simp [Leaves, settle, results, Try.results19, go_sem, e0, e1, e2, e3, e4, k0]
  exact hBw
set_option maxHeartbeats 2000000 in
theorem i_Peel_c (s : Int) (A A' : Option Addr) (n c m d : Nat) (w : World) (hs : Sec s) (hn : n = 80) (hm : ¬ 80 ≤ m) :
    Calls Try.prog 19 #[.int .i64 s, .agg #[.slice A n c], .slice A' m d] w fun e w' => e = .returned (.tuple #[.agg #[.int .i64 0, .int .i64 0, .int .i64 0, .slice none 0 0, .slice none 0 0], .bool false]) ∧ Below w.heap.size w w' := by
  subst hn
  have hmf : ∀ (fn : Fn) (first cap : Array Value) (w : World), (Instr.makeFunc fn first cap).run Try.prog w = .ok (.func fn first cap) w := fun _ _ _ _ => rfl
  have bc : Box (((w.alloc (.cells #[.slice A 80 c] 30)).alloc (.cells #[.int .i64 0, .int .i64 0, .int .i64 0, .slice none 0 0, .slice none 0 0] 42)).alloc (.cells #[.bool false] 4)) w.heap.size 30 #[.slice A 80 c] := ((Box.new w _ _).alloc _).alloc _
  have b1 : Box (((w.alloc (.cells #[.slice A 80 c] 30)).alloc (.cells #[.int .i64 0, .int .i64 0, .int .i64 0, .slice none 0 0, .slice none 0 0] 42)).alloc (.cells #[.bool false] 4)) (w.heap.size + 1) 42 #[.int .i64 0, .int .i64 0, .int .i64 0, .slice none 0 0, .slice none 0 0] := Box.alloc (by have := Box.new (w.alloc (.cells #[.slice A 80 c] 30)) 42 #[.int .i64 0, .int .i64 0, .int .i64 0, .slice none 0 0, .slice none 0 0]; simpa using this) _
  have b2 : Box (((w.alloc (.cells #[.slice A 80 c] 30)).alloc (.cells #[.int .i64 0, .int .i64 0, .int .i64 0, .slice none 0 0, .slice none 0 0] 42)).alloc (.cells #[.bool false] 4)) (w.heap.size + 1 + 1) 4 #[.bool false] := by have := Box.new ((w.alloc (.cells #[.slice A 80 c] 30)).alloc (.cells #[.int .i64 0, .int .i64 0, .int .i64 0, .slice none 0 0, .slice none 0 0] 42)) 4 #[.bool false]; simpa using this
  have dm : decide ((80 : Int) ≤ (m : Int)) = false := by simp; omega
  clear hm
  go_enter_defers Try.func19, Try.ntmps19
  go_wp2_with (go_at_call 64; with_reducible refine (i_sec_t _ _ (by assumption)).mono ?_; rintro e w' ⟨rfl, rfl⟩)
  refine (i_CellOk_t _ _ _ _ rfl).mono ?_
  rintro e w1 ⟨rfl, hB1⟩
  have bc' := bc.below hB1 (by first | (simp; done) | (simp; omega))
  have b1' := b1.below hB1 (by first | (simp; done) | (simp; omega))
  have b2' := b2.below hB1 (by first | (simp; done) | (simp; omega))
  have hBB1 : Below w.heap.size w w1 := bel_trans (belx) hB1
  clear bc b1 b2
  go_wp2_with (go_at_call 63; refine (i_demand_f _).mono ?_; rintro e w' ⟨⟨v, rfl⟩, rfl⟩)
  refine leaves_cons (f := 62) (args := #[.pointer (some ⟨w.heap.size + 1, 0, none⟩), .pointer (some ⟨w.heap.size + 1 + 1, 0, none⟩)]) (by simp) (by simp [go_sem]) ?_
  refine (i_catch_p (w.heap.size + 1) (w.heap.size + 1 + 1) (by omega) 0 0 0 (.slice none 0 0) (.slice none 0 0) false _ _ _ b1' b2').mono ?_
  rintro e u' w'' ⟨rfl, rfl, bG, bH, hw⟩
  have e0 := bG.cell 0; have e1 := bG.cell 1; have e2 := bG.cell 2; have e3 := bG.cell 3; have e4 := bG.cell 4; have k0 := bH.cell 0
  have hBw : Below w.heap.size w w'' := by rw [hw]; exact (belx)
  simp [Leaves, settle, results, Try.results19, go_sem, e0, e1, e2, e3, e4, k0]
  exact hBw
/-- What the decoder does, whatever the cell. -/
theorem i_decoded {w : World} {c : Nat} {A : Option Addr} {l : List Int} (s : Int) (hl : Ints .u8 w w.heap.size A 80 l) (hc : 80 ≤ c) (hcm : c ≤ 9223372036854775807) (hs : Sec s) :
    Calls Try.prog 65 #[.int .i64 s, .agg #[.slice A 80 c]] w fun e w' => Below w.heap.size w w' ∧
      ((¬ peels s l ∧ ∃ v, e = .panicked [{ v := .iface 9 v, recovered := false }]) ∨
       (peels s l ∧ ∃ vL, ReadsF w.heap.size w' vL ((peelX s l).drop 4) ∧ ((peelX s l).getD 0 0 = 255 ∧ e = .returned (.tuple #[.iface 73 (.agg #[vL]), .int .i64 ((peelX s l).getD 1 0 * 256 + (peelX s l).getD 2 0)]) ∨
         ¬ (peelX s l).getD 0 0 = 255 ∧ e = .returned (.tuple #[.iface 81 (.agg #[.int .i64 ((peelX s l).getD 0 0), vL]), .int .i64 ((peelX s l).getD 1 0 * 256 + (peelX s l).getD 2 0)])))) := by
  rcases pub_or (get4 l) with hp | hp
  · by_cases h : peelN s l ≤ 68 ∧ opens (peelK s l) (peelB s l)
    · refine (i_decoded_t s hl hc hcm hs hp h.1 h.2).mono fun e w' hh => ⟨hh.1, ?_⟩
      rcases hh.2 with ⟨h1, h2⟩ | ⟨h1, h2⟩
      · exact .inl ⟨fun x => h1 x.2.2.2, h2⟩
      · exact .inr ⟨⟨hp, h.1, h.2, h1⟩, h2⟩
    · exact (i_decoded_p s hl hc hcm hs hp h).mono fun e w' hh => ⟨hh.2, .inl ⟨fun x => h ⟨x.2.1, x.2.2.1⟩, hh.1⟩⟩
  · exact (i_decoded_n s hl hc hcm hp).mono fun e w' hh => ⟨hh.2, .inl ⟨fun x => hp x.1, hh.1⟩⟩
end Go.Proofs.Ytnfmjgldcnokbaa
namespace Go.Proofs.Ytnfmjgldcnokbaa
set_option maxRecDepth 100000
set_option linter.unusedSimpArgs false
set_option linter.unusedVariables false
open Go.ChangeShapes Go.WideShapes Go.ChangeAt Go.RowKit
open Fld
attribute [local go_sem ↓] Go.wp_at_zero Go.wp_at_succ

set_option maxHeartbeats 16000000 in
theorem i_Peel_e {A A' : Option Addr} {c m d : Nat} {w : World} {l pad : List Int} (s : Int) (hs : Sec s) (hl : Ints .u8 w w.heap.size A 80 l) (hc : 80 ≤ c) (hcm : c ≤ 9223372036854775807) (hp : Ints .u8 w w.heap.size A' m pad) (hm : 80 ≤ m) (hmd : m ≤ d) (hd : d ≤ 9223372036854775807) (hyes : peels s l) (h255 : (peelX s l).getD 0 0 = 255) :
    Calls Try.prog 19 #[.int .i64 s, .agg #[.slice A 80 c], .slice A' m d] w fun e w' => ∃ vL vC, e = .returned (.tuple #[.agg #[.int .i64 (ppeel s l pad).1.next, .int .i64 (ppeel s l pad).1.due, .int .i64 (ppeel s l pad).1.tag, vL, vC], .bool (ppeel s l pad).2]) ∧ ReadsF w.heap.size w' vL (ppeel s l pad).1.load ∧ ReadsF w.heap.size w' vC (ppeel s l pad).1.cell ∧ Below w.heap.size w w' := by
  have hmf : ∀ (fn : Fn) (first cap : Array Value) (w : World), (Instr.makeFunc fn first cap).run Try.prog w = .ok (.func fn first cap) w := fun _ _ _ _ => rfl
  have bc : Box (((w.alloc (.cells #[.slice A 80 c] 30)).alloc (.cells #[.int .i64 0, .int .i64 0, .int .i64 0, .slice none 0 0, .slice none 0 0] 42)).alloc (.cells #[.bool false] 4)) w.heap.size 30 #[.slice A 80 c] := ((Box.new w _ _).alloc _).alloc _
  have b1 : Box (((w.alloc (.cells #[.slice A 80 c] 30)).alloc (.cells #[.int .i64 0, .int .i64 0, .int .i64 0, .slice none 0 0, .slice none 0 0] 42)).alloc (.cells #[.bool false] 4)) (w.heap.size + 1) 42 #[.int .i64 0, .int .i64 0, .int .i64 0, .slice none 0 0, .slice none 0 0] := Box.alloc (by have := Box.new (w.alloc (.cells #[.slice A 80 c] 30)) 42 #[.int .i64 0, .int .i64 0, .int .i64 0, .slice none 0 0, .slice none 0 0]; simpa using this) _
  have b2 : Box (((w.alloc (.cells #[.slice A 80 c] 30)).alloc (.cells #[.int .i64 0, .int .i64 0, .int .i64 0, .slice none 0 0, .slice none 0 0] 42)).alloc (.cells #[.bool false] 4)) (w.heap.size + 1 + 1) 4 #[.bool false] := by have := Box.new ((w.alloc (.cells #[.slice A 80 c] 30)).alloc (.cells #[.int .i64 0, .int .i64 0, .int .i64 0, .slice none 0 0, .slice none 0 0] 42)) 4 #[.bool false]; simpa using this
  obtain ⟨Y0, hY0⟩ : ∃ y, (peelX s l).getD 0 0 = y := ⟨_, rfl⟩
  obtain ⟨Y1, hY1⟩ : ∃ y, (peelX s l).getD 1 0 = y := ⟨_, rfl⟩
  obtain ⟨Y2, hY2⟩ : ∃ y, (peelX s l).getD 2 0 = y := ⟨_, rfl⟩
  have HY0 := Lib.hid hY0; have HY1 := Lib.hid hY1; have HY2 := Lib.hid hY2
  clear hY0 hY1 hY2
  obtain ⟨DU, hDU⟩ : ∃ y, Y1 * 256 + Y2 = y := ⟨_, rfl⟩
  have HDU := Lib.hid hDU
  clear hDU
  have ht1 : ∀ (v : Value) (w : World), (Instr.typeAssert (.iface 73 (.agg #[v])) 75 73 true).run Try.prog w = .ok (.tuple #[.agg #[v], .bool true]) w := fun _ _ => by kernel_rfl
  have hm1 : ∀ (v : Value) (w : World), (method 265 73 (.agg #[v]) "loop.example/g00611/impl.next").run Try.prog w = .ok (160, .agg #[v]) w := fun _ _ => by kernel_rfl
  have hm2 : ∀ (u v : Value) (w : World), (method 265 81 (.agg #[u, v]) "loop.example/g00611/impl.next").run Try.prog w = .ok (162, .agg #[u, v]) w := fun _ _ _ => by kernel_rfl
  have dm : decide ((80 : Int) ≤ (m : Int)) = true := by simp; omega
  go_enter_defers Try.func19, Try.ntmps19
  go_wp2_with (go_at_call 64; with_reducible refine (i_sec_t _ _ (by assumption)).mono ?_; rintro e w' ⟨rfl, rfl⟩)
  refine (i_CellOk_t _ _ _ _ rfl).mono ?_
  rintro e w1 ⟨rfl, hB1⟩
  have bc' := bc.below hB1 (by first | (simp; done) | (simp; omega))
  have b1' := b1.below hB1 (by first | (simp; done) | (simp; omega))
  have b2' := b2.below hB1 (by first | (simp; done) | (simp; omega))
  have hBB1 : Below w.heap.size w w1 := bel_trans (belx) hB1
  clear bc b1 b2
  have cc := bc'.cell 0
  go_wp2_with (go_at_call 63; refine (i_demand_t _).mono ?_; rintro e w' ⟨rfl, rfl⟩)
  refine (i_decoded s (reach hl hBB1) hc hcm hs).mono ?_
  rintro e w2 ⟨hB2, ⟨hnp, v, rfl⟩ | ⟨hpe, vL, hR, ⟨hy, rfl⟩ | ⟨hy, rfl⟩⟩⟩
  · exact absurd hyes hnp
  · obtain ⟨AL, nL, cL, rfl, hL1, hL2, hIL, hLow⟩ := hR
    have HRF := Lib.hid (show ReadsF w1.heap.size w2 (.slice AL nL cL) ((peelX s l).drop 4) from ⟨AL, nL, cL, rfl, hL1, hL2, hIL, hLow⟩)
    have hz1 := b2'.size
    rw [HY0.out] at hy
    rw [HY1.out, HY2.out, HDU.out]
    have b1 := b1'.below hB2 b1'.size
    have b2 := b2'.below hB2 b2'.size
    have bc := bc'.below hB2 bc'.size
    have hBB2 := bel_trans hBB1 hB2
    clear b1' b2' bc' cc
    have cc := bc.cell 0
    obtain ⟨T, hT⟩ : ∃ T, ftag s l = T := ⟨_, rfl⟩
    have HT := Lib.hid hT
    have HT2 := Lib.hid (show keyP (peelS s l) 9 = T by rw [← hT]; exact (if_pos (show (1 ≤ s ∧ s < 2147483646) ∧ l.length = 80 ∧ (2 ≤ get4 l ∧ get4 l < 2147483646) from ⟨hs, hl.1, hpe.1⟩)).symm)
    clear hT
    subst hy
    go_wp2_with fail
    have cd : w2.drew.cell? ⟨w.heap.size, 0, none⟩ = some (.slice A 80 c) := bc.drew.cell 0
    go_region_held3 (fun w' => w'.cell? ⟨w.heap.size, 0, none⟩ = some (.slice A 80 c)) (first | (with_reducible exact cd) | (with_reducible exact cs3) | (with_reducible exact cs4) | (exact ((((((bc.below hs4 bc.size).far (p := ⟨w.heap.size + 1, 0, none⟩) (by show w.heap.size ≠ w.heap.size + 1; omega) _).far (p := ⟨w.heap.size + 1, 1, none⟩) (by show w.heap.size ≠ w.heap.size + 1; omega) _).far (p := ⟨w.heap.size + 1, 2, none⟩) (by show w.heap.size ≠ w.heap.size + 1; omega) _).far (p := ⟨w.heap.size + 1, 3, none⟩) (by show w.heap.size ≠ w.heap.size + 1; omega) _).far (p := ⟨w.heap.size + 1, 4, none⟩) (by show w.heap.size ≠ w.heap.size + 1; omega) _).cell 0))
      (first
        | (go_at_call 160; refine (i_exit_next _ _).mono ?_; rintro e w3 ⟨rfl, hb3⟩; have hs3 : Below w2.heap.size w2 w3 := bel_trans (belx) hb3; have cs3 : w3.cell? ⟨w.heap.size, 0, none⟩ = some (.slice A 80 c) := (bc.below hs3 bc.size).cell 0)
        | (go_at_call 20; refine (i_TagOf s (reach (reach hl (bel_trans hBB2 hs3)) (belx)) hc hcm).mono ?_; rintro e w4 ⟨rfl, hb4⟩; have hs4 : Below w2.heap.size w2 w4 := bel_trans hs3 (bel_trans (belx) hb4); have cs4 : w4.cell? ⟨w.heap.size, 0, none⟩ = some (.slice A 80 c) := (bc.below hs4 bc.size).cell 0; have k0 := (b1.below hs4 b1.size).cell 0; have j0 := (b1.below hs4 b1.size).frozen 0; have k1 := (b1.below hs4 b1.size).cell 1; have j1 := (b1.below hs4 b1.size).frozen 1; have k2 := (b1.below hs4 b1.size).cell 2; have j2 := (b1.below hs4 b1.size).frozen 2; have k3 := (b1.below hs4 b1.size).cell 3; have j3 := (b1.below hs4 b1.size).frozen 3; have k4 := (b1.below hs4 b1.size).cell 4; have j4 := (b1.below hs4 b1.size).frozen 4; rw [HT.out]))
    obtain ⟨W5, hW5⟩ : ∃ W, (((((w4.setCell ⟨w.heap.size + 1, 0, none⟩ (.int .i64 255)).setCell ⟨w.heap.size + 1, 1, none⟩ (.int .i64 DU)).setCell ⟨w.heap.size + 1, 2, none⟩ (.int .i64 T)).setCell ⟨w.heap.size + 1, 3, none⟩ (.slice none 0 0)).setCell ⟨w.heap.size + 1, 4, none⟩ (.slice none 0 0)) = W := ⟨_, rfl⟩
    rw [hW5]
    have hBB4 := bel_trans hBB2 hs4
    have b5 : Box W5 (w.heap.size + 1) 42 #[.int .i64 255, .int .i64 DU, .int .i64 T, .slice none 0 0, .slice none 0 0] := by
      rw [← hW5]; exact (((((b1.below hs4 b1.size).put 0 _).put 1 _).put 2 _).put 3 _).put 4 _
    have b6 : Box W5 (w.heap.size + 1 + 1) 4 #[.bool false] := by
      rw [← hW5]
      have hne : w.heap.size + 1 + 1 ≠ w.heap.size + 1 := by omega
      exact (((((b2.below hs4 b2.size).far (p := ⟨w.heap.size + 1, 0, none⟩) hne _).far (p := ⟨w.heap.size + 1, 1, none⟩) hne _).far (p := ⟨w.heap.size + 1, 2, none⟩) hne _).far (p := ⟨w.heap.size + 1, 3, none⟩) hne _).far (p := ⟨w.heap.size + 1, 4, none⟩) hne _
    have hBB5 : Below w.heap.size w W5 := by rw [← hW5]; exact (belx)
    have HR5 := Lib.hid (show ReadsF w1.heap.size W5 (.slice AL nL cL) ((peelX s l).drop 4) by
      rw [← hW5]
      have hg : w.heap.size + 1 < w1.heap.size := by omega
      exact (((((HRF.out.below hs4).put hg 0 _).put hg 1 _).put hg 2 _).put hg 3 _).put hg 4 _)
    clear hW5 k0 k1 k2 k3 k4 j0 j1 j2 j3 j4 cs3 cs4 cd cc b1 b2 bc hs3 hs4 hb3 hb4 hBB4 hBB2 hB2
    have k0 := b5.cell 0; have k1 := b5.cell 1; have k2 := b5.cell 2; have k3 := b5.cell 3; have k4 := b5.cell 4
    have j0 := b5.frozen 0; have j1 := b5.frozen 1; have j2 := b5.frozen 2; have j3 := b5.frozen 3; have j4 := b5.frozen 4
    have o0 := b6.cell 0; have o1 := b6.frozen 0
    have b7 := b5.alloc (.cells #[.slice AL nL cL] 73)
    have b8 := b6.alloc (.cells #[.slice AL nL cL] 73)
    have kk0 := b7.cell 0; have kk1 := b7.cell 1; have kk2 := b7.cell 2; have kk3 := b7.cell 3; have kk4 := b7.cell 4
    have jj0 := b7.frozen 0; have jj1 := b7.frozen 1; have jj2 := b7.frozen 2; have jj3 := b7.frozen 3; have jj4 := b7.frozen 4
    have oo0 := b8.cell 0; have oo1 := b8.frozen 0
    go_wp2_with fail
    have hne : w.heap.size + 1 + 1 ≠ w.heap.size + 1 := by omega
    have hne2 : w.heap.size + 1 ≠ w.heap.size + 1 + 1 := by omega
    have hg : w.heap.size + 1 < w1.heap.size := by omega
    have hg2 : w.heap.size + 1 + 1 < w1.heap.size := by omega
    have bR := (((((((b7.put 3 (.slice AL nL cL)).put 0 (.int .i64 255)).put 1 (.int .i64 DU)).put 2 (.int .i64 T)).put 3 (.slice AL nL cL)).put 4 (.slice none 0 0)).far (p := ⟨w.heap.size + 1 + 1, 0, none⟩) hne2 (.bool true))
    have bK := (((((((b8.far (p := ⟨w.heap.size + 1, 3, none⟩) hne (.slice AL nL cL)).far (p := ⟨w.heap.size + 1, 0, none⟩) hne (.int .i64 255)).far (p := ⟨w.heap.size + 1, 1, none⟩) hne (.int .i64 DU)).far (p := ⟨w.heap.size + 1, 2, none⟩) hne (.int .i64 T)).far (p := ⟨w.heap.size + 1, 3, none⟩) hne (.slice AL nL cL)).far (p := ⟨w.heap.size + 1, 4, none⟩) hne (.slice none 0 0)).put 0 (.bool true))
    have e0 := bR.cell 0; have e1 := bR.cell 1; have e2 := bR.cell 2; have e3 := bR.cell 3; have e4 := bR.cell 4; have e5 := bK.cell 0
    refine leaves_cons (f := 62) (args := #[.pointer (some ⟨w.heap.size + 1, 0, none⟩), .pointer (some ⟨w.heap.size + 1 + 1, 0, none⟩)]) (by simp) (by simp [go_sem]) ?_
    refine (i_catch_i (w.heap.size + 1) (w.heap.size + 1 + 1) _).mono ?_
    rintro e u' w'' ⟨rfl, rfl, rfl⟩
    have HP := Lib.hid (show ppeel s l pad = (⟨255, DU, T, (peelX s l).drop 4, []⟩, true) by
      rw [ppeel_t hpe]; unfold peelV; rw [HY0.out, HY1.out, HY2.out, HDU.out, HT2.out]; simp)
    rw [HP.out]
    refine ⟨.tuple #[.agg #[.int .i64 255, .int .i64 DU, .int .i64 T, .slice AL nL cL, .slice none 0 0], .bool true], (by simp [results, Try.results19, go_sem, e0, e1, e2, e3, e4, e5]), _, _, rfl, ((((((((HR5.out.below (bel_alloc (Below.refl _ _) _)).put hg 3 _).put hg 0 _).put hg 1 _).put hg 2 _).put hg 3 _).put hg 4 _).put hg2 0 _).lower (by omega), ReadsF.nil _ _, ?_⟩
    exact (belx)
  · exact absurd h255 hy
end Go.Proofs.Ytnfmjgldcnokbaa
namespace Go.Proofs.Ytnfmjgldcnokbaa
set_option maxRecDepth 100000
set_option linter.unusedSimpArgs false
set_option linter.unusedVariables false
open Go.ChangeShapes Go.WideShapes Go.ChangeAt Go.RowKit
open Fld
attribute [local go_sem ↓] Go.wp_at_zero Go.wp_at_succ

set_option maxHeartbeats 2000000 in
theorem i_Peel_n {A A' : Option Addr} {c m d : Nat} {w : World} {l pad : List Int} (s : Int) (hs : Sec s) (hl : Ints .u8 w w.heap.size A 80 l) (hc : 80 ≤ c) (hcm : c ≤ 9223372036854775807) (hp : Ints .u8 w w.heap.size A' m pad) (hm : 80 ≤ m) (hmd : m ≤ d) (hd : d ≤ 9223372036854775807) (hno : ¬ peels s l) :
    Calls Try.prog 19 #[.int .i64 s, .agg #[.slice A 80 c], .slice A' m d] w fun e w' => ∃ vL vC, e = .returned (.tuple #[.agg #[.int .i64 (ppeel s l pad).1.next, .int .i64 (ppeel s l pad).1.due, .int .i64 (ppeel s l pad).1.tag, vL, vC], .bool (ppeel s l pad).2]) ∧ ReadsF w.heap.size w' vL (ppeel s l pad).1.load ∧ ReadsF w.heap.size w' vC (ppeel s l pad).1.cell ∧ Below w.heap.size w w' := by
  have hmf : ∀ (fn : Fn) (first cap : Array Value) (w : World), (Instr.makeFunc fn first cap).run Try.prog w = .ok (.func fn first cap) w := fun _ _ _ _ => rfl
  have bc : Box (((w.alloc (.cells #[.slice A 80 c] 30)).alloc (.cells #[.int .i64 0, .int .i64 0, .int .i64 0, .slice none 0 0, .slice none 0 0] 42)).alloc (.cells #[.bool false] 4)) w.heap.size 30 #[.slice A 80 c] := ((Box.new w _ _).alloc _).alloc _
  have b1 : Box (((w.alloc (.cells #[.slice A 80 c] 30)).alloc (.cells #[.int .i64 0, .int .i64 0, .int .i64 0, .slice none 0 0, .slice none 0 0] 42)).alloc (.cells #[.bool false] 4)) (w.heap.size + 1) 42 #[.int .i64 0, .int .i64 0, .int .i64 0, .slice none 0 0, .slice none 0 0] := Box.alloc (by have := Box.new (w.alloc (.cells #[.slice A 80 c] 30)) 42 #[.int .i64 0, .int .i64 0, .int .i64 0, .slice none 0 0, .slice none 0 0]; simpa using this) _
  have b2 : Box (((w.alloc (.cells #[.slice A 80 c] 30)).alloc (.cells #[.int .i64 0, .int .i64 0, .int .i64 0, .slice none 0 0, .slice none 0 0] 42)).alloc (.cells #[.bool false] 4)) (w.heap.size + 1 + 1) 4 #[.bool false] := by have := Box.new ((w.alloc (.cells #[.slice A 80 c] 30)).alloc (.cells #[.int .i64 0, .int .i64 0, .int .i64 0, .slice none 0 0, .slice none 0 0] 42)) 4 #[.bool false]; simpa using this
  obtain ⟨Y0, hY0⟩ : ∃ y, (peelX s l).getD 0 0 = y := ⟨_, rfl⟩
  obtain ⟨Y1, hY1⟩ : ∃ y, (peelX s l).getD 1 0 = y := ⟨_, rfl⟩
  obtain ⟨Y2, hY2⟩ : ∃ y, (peelX s l).getD 2 0 = y := ⟨_, rfl⟩
  have HY0 := Lib.hid hY0; have HY1 := Lib.hid hY1; have HY2 := Lib.hid hY2
  clear hY0 hY1 hY2
  obtain ⟨DU, hDU⟩ : ∃ y, Y1 * 256 + Y2 = y := ⟨_, rfl⟩
  have HDU := Lib.hid hDU
  clear hDU
  have hm1 : ∀ (v : Value) (w : World), (method 265 73 (.agg #[v]) "loop.example/g00611/impl.next").run Try.prog w = .ok (160, .agg #[v]) w := fun _ _ => by kernel_rfl
  have hm2 : ∀ (u v : Value) (w : World), (method 265 81 (.agg #[u, v]) "loop.example/g00611/impl.next").run Try.prog w = .ok (162, .agg #[u, v]) w := fun _ _ _ => by kernel_rfl
  have dm : decide ((80 : Int) ≤ (m : Int)) = true := by simp; omega
  go_enter_defers Try.func19, Try.ntmps19
  go_wp2_with (go_at_call 64; with_reducible refine (i_sec_t _ _ (by assumption)).mono ?_; rintro e w' ⟨rfl, rfl⟩)
  refine (i_CellOk_t _ _ _ _ rfl).mono ?_
  rintro e w1 ⟨rfl, hB1⟩
  have bc' := bc.below hB1 (by first | (simp; done) | (simp; omega))
  have b1' := b1.below hB1 (by first | (simp; done) | (simp; omega))
  have b2' := b2.below hB1 (by first | (simp; done) | (simp; omega))
  have hBB1 : Below w.heap.size w w1 := bel_trans (belx) hB1
  clear bc b1 b2
  have cc := bc'.cell 0
  go_wp2_with (go_at_call 63; refine (i_demand_t _).mono ?_; rintro e w' ⟨rfl, rfl⟩)
  refine (i_decoded s (reach hl hBB1) hc hcm hs).mono ?_
  rintro e w2 ⟨hB2, ⟨hnp, v, rfl⟩ | ⟨hpe, vL, hR, ⟨hy, rfl⟩ | ⟨hy, rfl⟩⟩⟩
  · have b1 := b1'.below hB2 b1'.size
    have b2 := b2'.below hB2 b2'.size
    have hBB2 := bel_trans hBB1 hB2
    have H := Lib.hid (ppeel_f (pad := pad) hnp)
    go_wp2
    refine leaves_cons (f := 62) (args := #[.pointer (some ⟨w.heap.size + 1, 0, none⟩), .pointer (some ⟨w.heap.size + 1 + 1, 0, none⟩)]) (by simp) (by simp [go_sem]) ?_
    refine (i_catch_p (w.heap.size + 1) (w.heap.size + 1 + 1) (by omega) 0 0 0 (.slice none 0 0) (.slice none 0 0) false _ _ _ b1 b2).mono ?_
    rintro e u' w'' ⟨rfl, rfl, bG, bH, hw⟩
    have e0 := bG.cell 0; have e1 := bG.cell 1; have e2 := bG.cell 2; have e3 := bG.cell 3; have e4 := bG.cell 4; have k0 := bH.cell 0
    have hBw : Below w.heap.size w w'' := by rw [hw]; exact (belx)
    simp [Leaves, settle, results, Try.results19, go_sem, e0, e1, e2, e3, e4, k0]
    rw [H.out]
    exact ⟨_, _, ⟨⟨rfl, rfl, rfl, rfl, rfl⟩, rfl⟩, ReadsF.nil _ _, ReadsF.nil _ _, hBw⟩
  · exact absurd hpe hno
  · exact absurd hpe hno
end Go.Proofs.Ytnfmjgldcnokbaa
namespace Go.Proofs.Ytnfmjgldcnokbaa
set_option maxRecDepth 100000
set_option linter.unusedSimpArgs false
set_option linter.unusedVariables false
open Go.ChangeShapes Go.WideShapes Go.ChangeAt Go.RowKit
open Fld
attribute [local go_sem ↓] Go.wp_at_zero Go.wp_at_succ

set_option maxHeartbeats 16000000 in
theorem i_Peel_r {A A' : Option Addr} {c m d : Nat} {w : World} {l pad : List Int} (s : Int) (hs : Sec s) (hl : Ints .u8 w w.heap.size A 80 l) (hc : 80 ≤ c) (hcm : c ≤ 9223372036854775807) (hp : Ints .u8 w w.heap.size A' m pad) (hm : 80 ≤ m) (hmd : m ≤ d) (hd : d ≤ 9223372036854775807) (hyes : peels s l) (h255 : ¬ (peelX s l).getD 0 0 = 255) :
    Calls Try.prog 19 #[.int .i64 s, .agg #[.slice A 80 c], .slice A' m d] w fun e w' => ∃ vL vC, e = .returned (.tuple #[.agg #[.int .i64 (ppeel s l pad).1.next, .int .i64 (ppeel s l pad).1.due, .int .i64 (ppeel s l pad).1.tag, vL, vC], .bool (ppeel s l pad).2]) ∧ ReadsF w.heap.size w' vL (ppeel s l pad).1.load ∧ ReadsF w.heap.size w' vC (ppeel s l pad).1.cell ∧ Below w.heap.size w w' := by
  have hmf : ∀ (fn : Fn) (first cap : Array Value) (w : World), (Instr.makeFunc fn first cap).run Try.prog w = .ok (.func fn first cap) w := fun _ _ _ _ => rfl
  have bc : Box (((w.alloc (.cells #[.slice A 80 c] 30)).alloc (.cells #[.int .i64 0, .int .i64 0, .int .i64 0, .slice none 0 0, .slice none 0 0] 42)).alloc (.cells #[.bool false] 4)) w.heap.size 30 #[.slice A 80 c] := ((Box.new w _ _).alloc _).alloc _
  have b1 : Box (((w.alloc (.cells #[.slice A 80 c] 30)).alloc (.cells #[.int .i64 0, .int .i64 0, .int .i64 0, .slice none 0 0, .slice none 0 0] 42)).alloc (.cells #[.bool false] 4)) (w.heap.size + 1) 42 #[.int .i64 0, .int .i64 0, .int .i64 0, .slice none 0 0, .slice none 0 0] := Box.alloc (by have := Box.new (w.alloc (.cells #[.slice A 80 c] 30)) 42 #[.int .i64 0, .int .i64 0, .int .i64 0, .slice none 0 0, .slice none 0 0]; simpa using this) _
  have b2 : Box (((w.alloc (.cells #[.slice A 80 c] 30)).alloc (.cells #[.int .i64 0, .int .i64 0, .int .i64 0, .slice none 0 0, .slice none 0 0] 42)).alloc (.cells #[.bool false] 4)) (w.heap.size + 1 + 1) 4 #[.bool false] := by have := Box.new ((w.alloc (.cells #[.slice A 80 c] 30)).alloc (.cells #[.int .i64 0, .int .i64 0, .int .i64 0, .slice none 0 0, .slice none 0 0] 42)) 4 #[.bool false]; simpa using this
  obtain ⟨Y0, hY0⟩ : ∃ y, (peelX s l).getD 0 0 = y := ⟨_, rfl⟩
  obtain ⟨Y1, hY1⟩ : ∃ y, (peelX s l).getD 1 0 = y := ⟨_, rfl⟩
  obtain ⟨Y2, hY2⟩ : ∃ y, (peelX s l).getD 2 0 = y := ⟨_, rfl⟩
  have HY0 := Lib.hid hY0; have HY1 := Lib.hid hY1; have HY2 := Lib.hid hY2
  clear hY0 hY1 hY2
  obtain ⟨DU, hDU⟩ : ∃ y, Y1 * 256 + Y2 = y := ⟨_, rfl⟩
  have HDU := Lib.hid hDU
  clear hDU
  have ht1 : ∀ (u v : Value) (w : World), (Instr.typeAssert (.iface 81 (.agg #[u, v])) 75 73 true).run Try.prog w = .ok (.tuple #[.agg #[.slice none 0 0], .bool false]) w := fun _ _ _ => by kernel_rfl
  have ht2 : ∀ (u v : Value) (w : World), (Instr.typeAssert (.iface 81 (.agg #[u, v])) 75 81 true).run Try.prog w = .ok (.tuple #[.agg #[u, v], .bool true]) w := fun _ _ _ => by kernel_rfl
  have hm1 : ∀ (v : Value) (w : World), (method 265 73 (.agg #[v]) "loop.example/g00611/impl.next").run Try.prog w = .ok (160, .agg #[v]) w := fun _ _ => by kernel_rfl
  have hm2 : ∀ (u v : Value) (w : World), (method 265 81 (.agg #[u, v]) "loop.example/g00611/impl.next").run Try.prog w = .ok (162, .agg #[u, v]) w := fun _ _ _ => by kernel_rfl
  have dm : decide ((80 : Int) ≤ (m : Int)) = true := by simp; omega
  go_enter_defers Try.func19, Try.ntmps19
  go_wp2_with (go_at_call 64; with_reducible refine (i_sec_t _ _ (by assumption)).mono ?_; rintro e w' ⟨rfl, rfl⟩)
  refine (i_CellOk_t _ _ _ _ rfl).mono ?_
  rintro e w1 ⟨rfl, hB1⟩
  have bc' := bc.below hB1 (by first | (simp; done) | (simp; omega))
  have b1' := b1.below hB1 (by first | (simp; done) | (simp; omega))
  have b2' := b2.below hB1 (by first | (simp; done) | (simp; omega))
  have hBB1 : Below w.heap.size w w1 := bel_trans (belx) hB1
  clear bc b1 b2
  have cc := bc'.cell 0
  go_wp2_with (go_at_call 63; refine (i_demand_t _).mono ?_; rintro e w' ⟨rfl, rfl⟩)
  refine (i_decoded s (reach hl hBB1) hc hcm hs).mono ?_
  rintro e w2 ⟨hB2, ⟨hnp, v, rfl⟩ | ⟨hpe, vL, hR, ⟨hy, rfl⟩ | ⟨hy, rfl⟩⟩⟩
  · exact absurd hyes hnp
  · exact absurd hy h255
  · obtain ⟨AL, nL, cL, rfl, hL1, hL2, hIL, hLow⟩ := hR
    have HRF := Lib.hid (show ReadsF w1.heap.size w2 (.slice AL nL cL) ((peelX s l).drop 4) from ⟨AL, nL, cL, rfl, hL1, hL2, hIL, hLow⟩)
    have hz1 := b2'.size
    rw [HY0.out] at hy
    rw [HY0.out, HY1.out, HY2.out, HDU.out]
    have b1 := b1'.below hB2 b1'.size
    have b2 := b2'.below hB2 b2'.size
    have bc := bc'.below hB2 bc'.size
    have hBB2 := bel_trans hBB1 hB2
    clear b1' b2' bc' cc
    have cc := bc.cell 0
    obtain ⟨T, hT⟩ : ∃ T, ftag s l = T := ⟨_, rfl⟩
    have HT := Lib.hid hT
    have HT2 := Lib.hid (show keyP (peelS s l) 9 = T by rw [← hT]; exact (if_pos (show (1 ≤ s ∧ s < 2147483646) ∧ l.length = 80 ∧ (2 ≤ get4 l ∧ get4 l < 2147483646) from ⟨hs, hl.1, hpe.1⟩)).symm)
    clear hT
    go_wp2_with fail
    have cd : w2.drew.cell? ⟨w.heap.size, 0, none⟩ = some (.slice A 80 c) := bc.drew.cell 0
    go_region_held3 (fun w' => w'.cell? ⟨w.heap.size, 0, none⟩ = some (.slice A 80 c)) (first | (with_reducible exact cd) | (with_reducible exact cs3) | (with_reducible exact cs4) | (exact ((((((bc.below hs4 bc.size).far (p := ⟨w.heap.size + 1, 0, none⟩) (by show w.heap.size ≠ w.heap.size + 1; omega) _).far (p := ⟨w.heap.size + 1, 1, none⟩) (by show w.heap.size ≠ w.heap.size + 1; omega) _).far (p := ⟨w.heap.size + 1, 2, none⟩) (by show w.heap.size ≠ w.heap.size + 1; omega) _).far (p := ⟨w.heap.size + 1, 3, none⟩) (by show w.heap.size ≠ w.heap.size + 1; omega) _).far (p := ⟨w.heap.size + 1, 4, none⟩) (by show w.heap.size ≠ w.heap.size + 1; omega) _).cell 0))
      (first
        | (go_at_call 162; refine (i_relay_next _ _ _ _ _).mono ?_; rintro e w3 ⟨rfl, hb3⟩; have hs3 : Below w2.heap.size w2 w3 := bel_trans (belx) hb3; have cs3 : w3.cell? ⟨w.heap.size, 0, none⟩ = some (.slice A 80 c) := (bc.below hs3 bc.size).cell 0)
        | (go_at_call 20; refine (i_TagOf s (reach (reach hl (bel_trans hBB2 hs3)) (belx)) hc hcm).mono ?_; rintro e w4 ⟨rfl, hb4⟩; have hs4 : Below w2.heap.size w2 w4 := bel_trans hs3 (bel_trans (belx) hb4); have cs4 : w4.cell? ⟨w.heap.size, 0, none⟩ = some (.slice A 80 c) := (bc.below hs4 bc.size).cell 0; have k0 := (b1.below hs4 b1.size).cell 0; have j0 := (b1.below hs4 b1.size).frozen 0; have k1 := (b1.below hs4 b1.size).cell 1; have j1 := (b1.below hs4 b1.size).frozen 1; have k2 := (b1.below hs4 b1.size).cell 2; have j2 := (b1.below hs4 b1.size).frozen 2; have k3 := (b1.below hs4 b1.size).cell 3; have j3 := (b1.below hs4 b1.size).frozen 3; have k4 := (b1.below hs4 b1.size).cell 4; have j4 := (b1.below hs4 b1.size).frozen 4; rw [HT.out]))
    obtain ⟨W5, hW5⟩ : ∃ W, (((((w4.setCell ⟨w.heap.size + 1, 0, none⟩ (.int .i64 Y0)).setCell ⟨w.heap.size + 1, 1, none⟩ (.int .i64 DU)).setCell ⟨w.heap.size + 1, 2, none⟩ (.int .i64 T)).setCell ⟨w.heap.size + 1, 3, none⟩ (.slice none 0 0)).setCell ⟨w.heap.size + 1, 4, none⟩ (.slice none 0 0)) = W := ⟨_, rfl⟩
    rw [hW5]
    have hBB4 := bel_trans hBB2 hs4
    have b5 : Box W5 (w.heap.size + 1) 42 #[.int .i64 Y0, .int .i64 DU, .int .i64 T, .slice none 0 0, .slice none 0 0] := by
      rw [← hW5]; exact (((((b1.below hs4 b1.size).put 0 _).put 1 _).put 2 _).put 3 _).put 4 _
    have b6 : Box W5 (w.heap.size + 1 + 1) 4 #[.bool false] := by
      rw [← hW5]
      have hne : w.heap.size + 1 + 1 ≠ w.heap.size + 1 := by omega
      exact (((((b2.below hs4 b2.size).far (p := ⟨w.heap.size + 1, 0, none⟩) hne _).far (p := ⟨w.heap.size + 1, 1, none⟩) hne _).far (p := ⟨w.heap.size + 1, 2, none⟩) hne _).far (p := ⟨w.heap.size + 1, 3, none⟩) hne _).far (p := ⟨w.heap.size + 1, 4, none⟩) hne _
    have hBB5 : Below w.heap.size w W5 := by rw [← hW5]; exact (belx)
    have HR5 := Lib.hid (show ReadsF w1.heap.size W5 (.slice AL nL cL) ((peelX s l).drop 4) by
      rw [← hW5]
      have hg : w.heap.size + 1 < w1.heap.size := by omega
      exact (((((HRF.out.below hs4).put hg 0 _).put hg 1 _).put hg 2 _).put hg 3 _).put hg 4 _)
    have hz5' : w1.heap.size ≤ W5.heap.size := by rw [← hW5]; have h1 := hs4.size; have h2 := hB2.size; simp [World.setCell]; omega
    clear hW5 k0 k1 k2 k3 k4 j0 j1 j2 j3 j4 cs3 cs4 cd cc b1 b2 bc hs3 hs4 hb3 hb4 hBB4 hBB2 hB2
    have k0 := b5.cell 0; have k1 := b5.cell 1; have k2 := b5.cell 2; have k3 := b5.cell 3; have k4 := b5.cell 4
    have j0 := b5.frozen 0; have j1 := b5.frozen 1; have j2 := b5.frozen 2; have j3 := b5.frozen 3; have j4 := b5.frozen 4
    have o0 := b6.cell 0; have o1 := b6.frozen 0
    have b7 := b5.alloc (.cells #[.int .i64 Y0, .slice AL nL cL] 81)
    have b8 := b6.alloc (.cells #[.int .i64 Y0, .slice AL nL cL] 81)
    have kk0 := b7.cell 0; have kk1 := b7.cell 1; have kk2 := b7.cell 2; have kk3 := b7.cell 3; have kk4 := b7.cell 4
    have jj0 := b7.frozen 0; have jj1 := b7.frozen 1; have jj2 := b7.frozen 2; have jj3 := b7.frozen 3; have jj4 := b7.frozen 4
    have oo0 := b8.cell 0; have oo1 := b8.frozen 0
    go_wp2_with fail
    have hnL : nL ≤ 80 := by have h1 := hIL.1; rw [List.length_drop, peelX_len hl.1 hpe.2.1] at h1; have h2 := hpe.2.1; omega
    obtain ⟨A7, n7, c7, eR, _, _, hI7, _⟩ := HR5.out
    injection eR with eR1 eR2 eR3
    subst eR1 eR2 eR3
    refine (i_padded (reach hI7 ?hA) (reach (reach hp hBB5) ?hA) hnL hm hmd hd).mono ?_
    case hA => exact (belx)
    rintro e w6 ⟨vC, rfl, hO6, hB6⟩
    obtain ⟨A6, c6, rfl, _⟩ := hO6.ints
    have hz5 : w1.heap.size ≤ W5.heap.size := hz5'
    have HR6 := Lib.hid (hO6.readsF (B := w1.heap.size) (by simp; omega))
    have b9 := b7.below hB6 b7.size
    have b10 := b8.below hB6 b8.size
    have hBB6 : Below w.heap.size w w6 := bel_trans (bel_alloc hBB5 _) hB6
    clear k0 k1 k2 k3 k4 j0 j1 j2 j3 j4 o0 o1 kk0 kk1 kk2 kk3 kk4 jj0 jj1 jj2 jj3 jj4 oo0 oo1
    have k0 := b9.cell 0; have k1 := b9.cell 1; have k2 := b9.cell 2; have k3 := b9.cell 3; have k4 := b9.cell 4
    have j0 := b9.frozen 0; have j1 := b9.frozen 1; have j2 := b9.frozen 2; have j3 := b9.frozen 3; have j4 := b9.frozen 4
    have o0 := b10.cell 0; have o1 := b10.frozen 0
    go_wp2_with fail
    have hne : w.heap.size + 1 + 1 ≠ w.heap.size + 1 := by omega
    have hne2 : w.heap.size + 1 ≠ w.heap.size + 1 + 1 := by omega
    have hg : w.heap.size + 1 < w1.heap.size := by omega
    have hg2 : w.heap.size + 1 + 1 < w1.heap.size := by omega
    have bR := (((((((b9.put 4 (.slice A6 (padL ((peelX s l).drop 4) pad).length c6)).put 0 (.int .i64 Y0)).put 1 (.int .i64 DU)).put 2 (.int .i64 T)).put 3 (.slice none 0 0)).put 4 (.slice A6 (padL ((peelX s l).drop 4) pad).length c6)).far (p := ⟨w.heap.size + 1 + 1, 0, none⟩) hne2 (.bool true))
    have bK := (((((((b10.far (p := ⟨w.heap.size + 1, 4, none⟩) hne (.slice A6 (padL ((peelX s l).drop 4) pad).length c6)).far (p := ⟨w.heap.size + 1, 0, none⟩) hne (.int .i64 Y0)).far (p := ⟨w.heap.size + 1, 1, none⟩) hne (.int .i64 DU)).far (p := ⟨w.heap.size + 1, 2, none⟩) hne (.int .i64 T)).far (p := ⟨w.heap.size + 1, 3, none⟩) hne (.slice none 0 0)).far (p := ⟨w.heap.size + 1, 4, none⟩) hne (.slice A6 (padL ((peelX s l).drop 4) pad).length c6)).put 0 (.bool true))
    have e0 := bR.cell 0; have e1 := bR.cell 1; have e2 := bR.cell 2; have e3 := bR.cell 3; have e4 := bR.cell 4; have e5 := bK.cell 0
    refine leaves_cons (f := 62) (args := #[.pointer (some ⟨w.heap.size + 1, 0, none⟩), .pointer (some ⟨w.heap.size + 1 + 1, 0, none⟩)]) (by simp) (by simp [go_sem]) ?_
    refine (i_catch_i (w.heap.size + 1) (w.heap.size + 1 + 1) _).mono ?_
    rintro e u' w'' ⟨rfl, rfl, rfl⟩
    have HP := Lib.hid (show ppeel s l pad = (⟨Y0, DU, T, [], padL ((peelX s l).drop 4) pad⟩, true) by
      rw [ppeel_t hpe]; unfold peelV; rw [HY0.out, HY1.out, HY2.out, HDU.out, HT2.out]; simp [hy])
    rw [HP.out]
    refine ⟨.tuple #[.agg #[.int .i64 Y0, .int .i64 DU, .int .i64 T, .slice none 0 0, .slice A6 (padL ((peelX s l).drop 4) pad).length c6], .bool true], (by simp [results, Try.results19, go_sem, e0, e1, e2, e3, e4, e5]), _, _, rfl, ReadsF.nil _ _, ((((((((HR6.out).put hg 4 _).put hg 0 _).put hg 1 _).put hg 2 _).put hg 3 _).put hg 4 _).put hg2 0 _).lower (by omega), ?_⟩
    exact (belx)
end Go.Proofs.Ytnfmjgldcnokbaa
namespace Go.Proofs.Ytnfmjgldcnokbaa
set_option maxRecDepth 100000
set_option linter.unusedSimpArgs false
set_option linter.unusedVariables false
open Go.ChangeShapes Go.WideShapes Go.ChangeAt Go.RowKit
open Fld
attribute [local go_sem ↓] Go.wp_at_zero Go.wp_at_succ

theorem fpeel_p {s : Int} {l pad : List Int} (h : Sec s) (h1 : l.length = 80) (h2 : 80 ≤ pad.length) : fpeel s l pad = ppeel s l pad := by
  by_cases hp : peels s l
  · rw [fpeel_t ⟨⟨h, h1, h2⟩, hp⟩, ppeel_t hp]
  · rw [fpeel_f (fun x => hp x.2), ppeel_f hp]
theorem i_Peel {A A' : Option Addr} {n c m d : Nat} {w : World} {l pad : List Int} (s : Int) (hl : Ints .u8 w w.heap.size A n l) (hc : n ≤ c) (hcm : c ≤ 9223372036854775807) (hp : Ints .u8 w w.heap.size A' m pad) (hmd : m ≤ d) (hd : d ≤ 9223372036854775807) :
    Calls Try.prog 19 #[.int .i64 s, .agg #[.slice A n c], .slice A' m d] w fun e w' => ∃ vL vC, e = .returned (.tuple #[.agg #[.int .i64 (fpeel s l pad).1.next, .int .i64 (fpeel s l pad).1.due, .int .i64 (fpeel s l pad).1.tag, vL, vC], .bool (fpeel s l pad).2]) ∧ ReadsF w.heap.size w' vL (fpeel s l pad).1.load ∧ ReadsF w.heap.size w' vC (fpeel s l pad).1.cell ∧ Below w.heap.size w w' := by
  rcases sec_or s with hs | hs
  · by_cases hn : n = 80
    · by_cases hm : 80 ≤ m
      · subst hn
        rw [fpeel_p hs hl.1 (by rw [hp.1]; exact hm)]
        by_cases hpe : peels s l
        · by_cases h255 : (peelX s l).getD 0 0 = 255
          · exact i_Peel_e s hs hl hc hcm hp hm hmd hd hpe h255
          · exact i_Peel_r s hs hl hc hcm hp hm hmd hd hpe h255
        · exact i_Peel_n s hs hl hc hcm hp hm hmd hd hpe
      · rw [fpeel_f (fun x => hm (by rw [← hp.1]; exact x.1.2.2))]
        exact (i_Peel_c s A A' n c m d w hs hn hm).mono fun e w' hh => ⟨_, _, hh.1, ReadsF.nil _ _, ReadsF.nil _ _, hh.2⟩
    · rw [fpeel_f (fun x => hn (by rw [← hl.1]; exact x.1.2.1))]
      exact (i_Peel_b s A A' n c m d w hs hn).mono fun e w' hh => ⟨_, _, hh.1, ReadsF.nil _ _, ReadsF.nil _ _, hh.2⟩
  · rw [fpeel_f (fun x => hs x.1.1)]
    exact (i_Peel_a s A A' n c m d w hs).mono fun e w' hh => ⟨_, _, hh.1, ReadsF.nil _ _, ReadsF.nil _ _, hh.2⟩
def zer : List Int := List.replicate 80 0
theorem zer_at {j : Nat} (h : j < 80) : zer.getD j 0 = 0 := by
  unfold zer
  rw [List.getD_eq_getElem?_getD, List.getElem?_replicate, if_pos h]
  rfl
theorem zer_len : zer.length = 80 := by simp [zer]
theorem i_peelPlain {A : Option Addr} {n c : Nat} {w : World} {l : List Int} (s : Int) (hl : Ints .u8 w w.heap.size A n l) (hc : n ≤ c) (hcm : c ≤ 9223372036854775807) :
    Calls Try.prog 59 #[.int .i64 s, .agg #[.slice A n c]] w fun e w' => ∃ vL vC, e = .returned (.tuple #[.agg #[.int .i64 (fpeel s l zer).1.next, .int .i64 (fpeel s l zer).1.due, .int .i64 (fpeel s l zer).1.tag, vL, vC], .bool (fpeel s l zer).2]) ∧ ReadsF w.heap.size w' vL (fpeel s l zer).1.load ∧ ReadsF w.heap.size w' vC (fpeel s l zer).1.cell ∧ Below w.heap.size w w' := by
  have hmk : ∀ W : World, (Instr.makeSlice 22 (.int .i64 80) (.int .i64 80)).run Try.prog W = .ok (.slice (some ⟨W.heap.size, 0, none⟩) 80 80) (W.alloc (.cells (madeCells #[Value.int .u8 0] 80) 5)) := fun W => run_make_row' (P := Try.prog) 22 5 (.int .u8 0) 1 Try.underlying22 info_by rfl .i64 .i64 80 (by omega) (by omega) W
  have pz : ∀ W : World, Ints .u8 (W.alloc (.cells (madeCells #[Value.int .u8 0] 80) 5)).drew (W.alloc (.cells (madeCells #[Value.int .u8 0] 80) 5)).drew.heap.size (some ⟨W.heap.size, 0, none⟩) 80 zer := fun W => by
    have h := World.rowIs_made W (.int .u8 0) 80 5
    exact (Own.of_row (l := zer) (h.congr fun j hj => by rw [zer_at hj]) zer_len (by simp only [maxLen]; omega) (Nat.le_refl _) (fun x hx => by unfold zer at hx; rw [List.mem_replicate] at hx; rw [hx.2]; exact wf8 ⟨by omega, by omega⟩)).intsAt.1.drew
  have HPZ := Lib.hid pz
  clear pz
  have bc : Box ((w.alloc (.cells #[.slice A n c] 30)).alloc (.cells #[.int .i64 0, .int .i64 0, .int .i64 0, .slice none 0 0, .slice none 0 0] 42)) w.heap.size 30 #[.slice A n c] := (Box.new w _ _).alloc _
  have bp : Box ((w.alloc (.cells #[.slice A n c] 30)).alloc (.cells #[.int .i64 0, .int .i64 0, .int .i64 0, .slice none 0 0, .slice none 0 0] 42)) (w.heap.size + 1) 42 #[.int .i64 0, .int .i64 0, .int .i64 0, .slice none 0 0, .slice none 0 0] := by have := Box.new (w.alloc (.cells #[.slice A n c] 30)) 42 #[.int .i64 0, .int .i64 0, .int .i64 0, .slice none 0 0, .slice none 0 0]; simpa using this
  obtain ⟨W0, hW0⟩ : ∃ W, ((w.alloc (.cells #[.slice A n c] 30)).alloc (.cells #[.int .i64 0, .int .i64 0, .int .i64 0, .slice none 0 0, .slice none 0 0] 42)) = W := ⟨_, rfl⟩
  have hB0 : Below w.heap.size w W0 := by rw [← hW0]; exact (belx)
  rw [hW0] at bc bp
  have HW0 := Lib.hid hW0
  clear hW0
  have cd : W0.drew.cell? ⟨w.heap.size, 0, none⟩ = some (.slice A n c) := bc.drew.cell 0
  have ce : (W0.alloc (.cells (madeCells #[Value.int .u8 0] 80) 5)).drew.cell? ⟨w.heap.size, 0, none⟩ = some (.slice A n c) := (bc.alloc _).drew.cell 0
  go_enter Try.func59, Try.ntmps59
  go_wp2_with fail
  rw [HW0.out]
  go_region_held3 (fun w' => w'.cell? ⟨w.heap.size, 0, none⟩ = some (.slice A n c)) (first | (with_reducible exact cd) | (with_reducible exact ce) | (with_reducible exact cf) | (exact ((((((bc.below hs1 bc.size).far (p := ⟨w.heap.size + 1, 0, none⟩) (by show w.heap.size ≠ w.heap.size + 1; omega) _).far (p := ⟨w.heap.size + 1, 1, none⟩) (by show w.heap.size ≠ w.heap.size + 1; omega) _).far (p := ⟨w.heap.size + 1, 2, none⟩) (by show w.heap.size ≠ w.heap.size + 1; omega) _).far (p := ⟨w.heap.size + 1, 3, none⟩) (by show w.heap.size ≠ w.heap.size + 1; omega) _).far (p := ⟨w.heap.size + 1, 4, none⟩) (by show w.heap.size ≠ w.heap.size + 1; omega) _).cell 0))
    (first | (go_at_call 19; refine (i_Peel s (reach (reach hl hB0) (belx)) hc hcm (HPZ.out _) (by omega) (by omega)).mono ?_; rintro e w1 ⟨vL, vC, rfl, hRL, hRC, hb1⟩; have hs1 : Below W0.heap.size W0 w1 := bel_trans (belx) hb1; have cf : w1.cell? ⟨w.heap.size, 0, none⟩ = some (.slice A n c) := (bc.below hs1 bc.size).cell 0; obtain ⟨AL, nL, cL, rfl, hL1, hL2, hIL, hLo⟩ := hRL; obtain ⟨AC, nC, cC, rfl, hC1, hC2, hIC, hCo⟩ := hRC; have k0 := (bp.below hs1 bp.size).cell 0; have j0 := (bp.below hs1 bp.size).frozen 0; have k1 := (bp.below hs1 bp.size).cell 1; have j1 := (bp.below hs1 bp.size).frozen 1; have k2 := (bp.below hs1 bp.size).cell 2; have j2 := (bp.below hs1 bp.size).frozen 2; have k3 := (bp.below hs1 bp.size).cell 3; have j3 := (bp.below hs1 bp.size).frozen 3; have k4 := (bp.below hs1 bp.size).cell 4; have j4 := (bp.below hs1 bp.size).frozen 4))
  have hz := bp.size
  have hg : w.heap.size + 1 < ((W0.alloc (.cells (madeCells #[Value.int .u8 0] 80) 5)).drew).heap.size := by
    have : ((W0.alloc (.cells (madeCells #[Value.int .u8 0] 80) 5)).drew).heap.size = W0.heap.size + 1 := by show (W0.alloc _).heap.size = _; simp
    omega
  have HRL := Lib.hid (show ReadsF _ w1 (.slice AL nL cL) (fpeel s l zer).1.load from ⟨AL, nL, cL, rfl, hL1, hL2, hIL, hLo⟩)
  have HRC := Lib.hid (show ReadsF _ w1 (.slice AC nC cC) (fpeel s l zer).1.cell from ⟨AC, nC, cC, rfl, hC1, hC2, hIC, hCo⟩)
  have bZ := ((((((bp.below hs1 bp.size).put 0 (.int .i64 (fpeel s l zer).1.next)).put 1 (.int .i64 (fpeel s l zer).1.due)).put 2 (.int .i64 (fpeel s l zer).1.tag)).put 3 (.slice AL nL cL)).put 4 (.slice AC nC cC))
  have e0 := bZ.cell 0; have e1 := bZ.cell 1; have e2 := bZ.cell 2; have e3 := bZ.cell 3; have e4 := bZ.cell 4
  go_wp2
  refine bodyPost_ret (v := .tuple #[.agg #[.int .i64 (fpeel s l zer).1.next, .int .i64 (fpeel s l zer).1.due, .int .i64 (fpeel s l zer).1.tag, .slice AL nL cL, .slice AC nC cC], .bool (fpeel s l zer).2]) (by simp [results, Try.results59, go_sem, e0, e1, e2, e3, e4]) rfl ?_
  exact ⟨_, _, rfl, (((((HRL.out.put hg 0 _).put hg 1 _).put hg 2 _).put hg 3 _).put hg 4 _).lower (by omega), (((((HRC.out.put hg 0 _).put hg 1 _).put hg 2 _).put hg 3 _).put hg 4 _).lower (by omega), (bel_put (bel_put (bel_put (bel_put (bel_put (bel_trans hB0 hs1) (Nat.le_succ _) _) (Nat.le_succ _) _) (Nat.le_succ _) _) (Nat.le_succ _) _) (Nat.le_succ _) _)⟩
def fnext (s : Int) (l : List Int) : Int := if (fpeel s l zer).2 = true then (fpeel s l zer).1.next else -1
theorem i_NextOf {A : Option Addr} {n c : Nat} {w : World} {l : List Int} (s : Int) (hl : Ints .u8 w w.heap.size A n l) (hc : n ≤ c) (hcm : c ≤ 9223372036854775807) :
    Calls Try.prog 25 #[.int .i64 s, .agg #[.slice A n c]] w fun e w' => e = .returned (.int .i64 (fnext s l)) ∧ Below w.heap.size w w' := by
  go_enter Try.func25, Try.ntmps25
  go_wp2_with fail
  refine (i_peelPlain s (reach hl ?hB) hc hcm).mono ?_
  case hB => exact (belx)
  rintro e w1 ⟨vL, vC, rfl, hRL, hRC, hB1⟩
  obtain ⟨AL, nL, cL, rfl, _⟩ := hRL
  obtain ⟨AC, nC, cC, rfl, _⟩ := hRC
  cases hb : (fpeel s l zer).2
  · have H := Lib.hid (show fnext s l = -1 by unfold fnext; rw [hb]; rfl)
    clear hb
    go_wp2
    go_ret
    exact ⟨ret_i64 H.out.symm, by first | exact bel_trans (a := w) (belx) hB1 | exact bel_alloc (bel_trans (a := w) (belx) hB1) _⟩
  · have H := Lib.hid (show fnext s l = (fpeel s l zer).1.next by unfold fnext; rw [hb]; rfl)
    clear hb
    go_wp2
    go_ret
    exact ⟨ret_i64 H.out.symm, by first | exact bel_trans (a := w) (belx) hB1 | exact bel_alloc (bel_trans (a := w) (belx) hB1) _⟩
end Go.Proofs.Ytnfmjgldcnokbaa
namespace Go.Proofs.Ytnfmjgldcnokbaa
open Fld

/-! ### peeling a cell that is one -/
theorem ppeel_cell {s : Int} {c pad : List Int} (hc : c.length = 80) (hp : 80 ≤ pad.length) (h : (ppeel s c pad).2 = true) (h1 : (ppeel s c pad).1.next ≠ 255) : (ppeel s c pad).1.cell.length = 80 := by
  by_cases hpe : peels s c
  · rw [ppeel_t hpe] at h1 ⊢
    show (peelV s c pad).cell.length = 80
    have h1' : ¬ (peelX s c).getD 0 0 = 255 := h1
    unfold peelV
    show (if (peelX s c).getD 0 0 = 255 then [] else padL ((peelX s c).drop 4) pad).length = 80
    rw [if_neg h1', padL_len _ hp]
    rw [List.length_drop, peelX_len hc hpe.2.1]
    have := hpe.2.1
    omega
  · rw [ppeel_f hpe] at h; exact absurd h (by simp)
theorem ppeel_next {s : Int} {c pad : List Int} (hb : Bytes c) (h : (ppeel s c pad).2 = true) : (ppeel s c pad).1.next = 255 ∨ (0 ≤ (ppeel s c pad).1.next ∧ (ppeel s c pad).1.next < 8) := by
  by_cases hpe : peels s c
  · rw [ppeel_t hpe]
    show (peelX s c).getD 0 0 = 255 ∨ _
    have := (peelX_bytes (s := s) hb).at_ 0
    rcases hpe.2.2.2 with h' | h'
    · exact .inl h'.1
    · exact .inr ⟨this.1, h'.1⟩
  · rw [ppeel_f hpe] at h; exact absurd h (by simp)
theorem ppeel_cell_bytes {s : Int} {c pad : List Int} (hb : Bytes c) (hp : Bytes pad) : Bytes (ppeel s c pad).1.cell := by
  by_cases hpe : peels s c
  · rw [ppeel_t hpe]
    show Bytes (if (peelX s c).getD 0 0 = 255 then [] else padL ((peelX s c).drop 4) pad)
    split
    · exact fun x hx => absurd hx (by simp)
    · exact padL_bytes ((peelX_bytes hb).drop 4) hp
  · rw [ppeel_f hpe]; exact fun x hx => absurd hx (by simp [Pel.zero])
theorem zer_bytes : Bytes zer := fun x hx => by
  unfold zer at hx
  rw [List.mem_replicate] at hx
  omega

/-! ### who has what it takes -/
def CanF (S c : List Int) : Prop := S.length = 8 ∧ Secs S ∧ c.length = 80
instance (S c : List Int) : Decidable (CanF S c) := by unfold CanF; infer_instance
theorem Secs.at_ {S : List Int} (h : Secs S) {i : Nat} (hi : i < S.length) : LaySec (S.getD i 0) := by
  rw [getD_lt hi]; exact h _ (List.getElem_mem _)
theorem secs_take {S : List Int} {k : Nat} (h : Secs (S.take k)) (hk : k < S.length) (h1 : LaySec (S.getD k 0)) : Secs (S.take (k + 1)) := by
  rw [List.take_succ_eq_append_getElem hk]
  intro x hx
  rcases List.mem_append.1 hx with h' | h'
  · exact h x h'
  · rw [List.mem_singleton] at h'; rw [h']; rwa [getD_lt hk] at h1

/-! ### who can peel -/
def can0 (S c : List Int) (k : Nat) : List Int := ((List.range k).filter fun i => decide (fnext (S.getD i 0) c ≠ -1)).map fun i : Nat => (i : Int)
theorem can0_t {S c : List Int} {k : Nat} (h : fnext (S.getD k 0) c ≠ -1) : can0 S c (k + 1) = can0 S c k ++ [(k : Int)] := by
  unfold can0
  rw [List.range_succ, List.filter_append, List.map_append, List.filter_cons_of_pos (by exact decide_eq_true h)]
  rfl
theorem can0_f {S c : List Int} {k : Nat} (h : fnext (S.getD k 0) c = -1) : can0 S c (k + 1) = can0 S c k := by
  unfold can0
  rw [List.range_succ, List.filter_append, List.map_append, List.filter_cons_of_neg (by rw [decide_eq_true_iff]; exact fun x => x h)]
  simp
theorem can0_le (S c : List Int) (k : Nat) : (can0 S c k).length ≤ k := by
  unfold can0
  rw [List.length_map]
  exact Nat.le_trans (List.length_filter_le _ _) (by simp)
theorem can0_rg {S c : List Int} {k : Nat} : ∀ x ∈ can0 S c k, 0 ≤ x ∧ x < k := by
  intro x hx
  unfold can0 at hx
  rw [List.mem_map] at hx
  obtain ⟨i, hi, rfl⟩ := hx
  have := List.mem_range.1 (List.mem_filter.1 hi).1
  omega
def fcan (S c : List Int) : List Int := if CanF S c then can0 S c 8 else []
theorem fcan_t {S c : List Int} (h : CanF S c) : fcan S c = can0 S c 8 := if_pos h
theorem fcan_f {S c : List Int} (h : ¬ CanF S c) : fcan S c = [] := if_neg h
theorem fcan_le (S c : List Int) : (fcan S c).length ≤ 8 := by
  unfold fcan
  split
  · exact can0_le _ _ _
  · simp
theorem fnext_or {s : Int} {c : List Int} (hb : Bytes c) : fnext s c = -1 ∨ (0 ≤ fnext s c ∧ fnext s c ≤ 255) := by
  unfold fnext
  split
  · rename_i h
    right
    by_cases hp : PeelOk s c zer
    · rw [fpeel_t hp]
      show 0 ≤ (peelX s c).getD 0 0 ∧ (peelX s c).getD 0 0 ≤ 255
      have := (peelX_bytes (s := s) hb).at_ 0
      omega
    · rw [fpeel_f hp] at h; exact absurd h (by simp)
  · exact .inl rfl

/-! ### who is reached -/
def reachL (S : List Int) : Nat → Int → List Int → List Int
  | 0, _, _ => []
  | k + 1, a, c => if (0 ≤ a ∧ a < 8) ∧ (ppeel (S.getD a.toNat 0) c zer).2 = true then a :: reachL S k (ppeel (S.getD a.toNat 0) c zer).1.next (ppeel (S.getD a.toNat 0) c zer).1.cell else []
theorem reachL_t {S : List Int} {k : Nat} {a : Int} {c : List Int} (h1 : 0 ≤ a ∧ a < 8) (h2 : (ppeel (S.getD a.toNat 0) c zer).2 = true) :
    reachL S (k + 1) a c = a :: reachL S k (ppeel (S.getD a.toNat 0) c zer).1.next (ppeel (S.getD a.toNat 0) c zer).1.cell := if_pos ⟨h1, h2⟩
theorem reachL_f {S : List Int} {k : Nat} {a : Int} {c : List Int} (h : (ppeel (S.getD a.toNat 0) c zer).2 = false) : reachL S k a c = [] := by
  cases k with
  | zero => rfl
  | succ k => exact if_neg (fun x => by rw [h] at x; exact absurd x.2 (by simp))
theorem reachL_o {S : List Int} {k : Nat} {a : Int} {c : List Int} (h : ¬ (0 ≤ a ∧ a < 8)) : reachL S k a c = [] := by
  cases k with
  | zero => rfl
  | succ k => exact if_neg (fun x => h x.1)
theorem reachL_le {S : List Int} : ∀ (k : Nat) (a : Int) (c : List Int), (reachL S k a c).length ≤ k
  | 0, _, _ => by simp [reachL]
  | k + 1, a, c => by
    unfold reachL
    split
    · rw [List.length_cons]; exact Nat.succ_le_succ (reachL_le k _ _)
    · simp
def freach (S : List Int) (a : Int) (c : List Int) : List Int := if CanF S c then reachL S 4 a c else []
theorem freach_t {S c : List Int} {a : Int} (h : CanF S c) : freach S a c = reachL S 4 a c := if_pos h
theorem freach_f {S c : List Int} {a : Int} (h : ¬ CanF S c) : freach S a c = [] := if_neg h
theorem freach_le (S : List Int) (a : Int) (c : List Int) : (freach S a c).length ≤ 4 := by
  unfold freach
  split
  · exact reachL_le _ _ _
  · simp
def fdepth (S c : List Int) : Int := match fcan S c with
  | [] => 0
  | a :: _ => ((freach S a c).length : Int)
theorem fdepth_nil {S c : List Int} (h : fcan S c = []) : fdepth S c = 0 := by unfold fdepth; rw [h]
theorem fdepth_cons {S c : List Int} (h : 0 < (fcan S c).length) : fdepth S c = ((freach S ((fcan S c).getD 0 0) c).length : Int) := by
  unfold fdepth
  cases e : fcan S c with
  | nil => rw [e] at h; exact absurd h (by simp)
  | cons a l => rfl

/-! ### following a route -/
def folL (S : List Int) : List Int → List Int → List Int × Bool
  | [], _ => ([], false)
  | r :: rs, c =>
    if (ppeel (S.getD r.toNat 0) c zer).2 = true ∧ (ppeel (S.getD r.toNat 0) c zer).1.next = rs.getD 0 255 then
      (if rs = [] then ((ppeel (S.getD r.toNat 0) c zer).1.load, true) else folL S rs (ppeel (S.getD r.toNat 0) c zer).1.cell)
    else ([], false)
theorem folL_e {S : List Int} {r : Int} {c : List Int} (h : (ppeel (S.getD r.toNat 0) c zer).2 = true) (h1 : (ppeel (S.getD r.toNat 0) c zer).1.next = 255) : folL S [r] c = ((ppeel (S.getD r.toNat 0) c zer).1.load, true) := by
  unfold folL
  rw [if_pos ⟨h, h1⟩, if_pos rfl]
theorem folL_r {S : List Int} {r : Int} {rs c : List Int} (h : (ppeel (S.getD r.toNat 0) c zer).2 = true) (h1 : (ppeel (S.getD r.toNat 0) c zer).1.next = rs.getD 0 255) (h2 : rs ≠ []) : folL S (r :: rs) c = folL S rs (ppeel (S.getD r.toNat 0) c zer).1.cell := by
  show (if _ then _ else _) = _
  rw [if_pos ⟨h, h1⟩, if_neg h2]
def FolOk (S route c : List Int) : Prop := Route route ∧ CanF S c
instance (S route c : List Int) : Decidable (FolOk S route c) := by unfold FolOk; infer_instance
def ffol (S route c : List Int) : List Int × Bool := if FolOk S route c then folL S route c else ([], false)
theorem ffol_t {S route c : List Int} (h : FolOk S route c) : ffol S route c = folL S route c := if_pos h
theorem ffol_f {S route c : List Int} (h : ¬ FolOk S route c) : ffol S route c = ([], false) := if_neg h
end Go.Proofs.Ytnfmjgldcnokbaa
namespace Go.Proofs.Ytnfmjgldcnokbaa
set_option linter.unusedVariables false
open Fld
/-! ### what is wrapped comes out -/
/-- The nodes' secrets S, and what is known of them. -/
def PubsOf (S pubs : List Int) : Prop := ∀ i, i < 8 → pubs.getD i 0 = powP 7 (S.getD i 0).toNat
theorem wr_tail {pubs : List Int} {due : Int} {load pad : List Int} (rs ss : List Int) : padL (wrapL pubs due load rs ss) pad = wrapL pubs due load rs ss ++ pad.take (80 - (12 * rs.length + load.length)) := by
  unfold padL; rw [wrapL_len]
theorem next_255 {rs : List Int} (h : ∀ x ∈ rs, 0 ≤ x ∧ x < 8) : (rs.getD 0 255 = 255) ↔ rs = [] := by
  cases rs with
  | nil => exact ⟨fun _ => rfl, fun _ => rfl⟩
  | cons a l => have := h a (List.mem_cons_self); rw [List.getD_cons_zero]; exact ⟨fun e => by omega, fun e => absurd e (by simp)⟩
/-- One layer off. -/
theorem wr_step {S pubs : List Int} (hp : PubsOf S pubs) {due : Int} {load : List Int} (hd : 0 ≤ due ∧ due ≤ 65535) (hb : Bytes load) (hl : load.length ≤ 24) {r : Int} {rs ss : List Int} (hs : ss.length = rs.length + 1) (hS : Secs ss) (h4 : rs.length + 1 ≤ 4) (hr : ∀ x ∈ r :: rs, 0 ≤ x ∧ x < 8) (tail pad : List Int) :
    peels (S.getD r.toNat 0) (wrapL pubs due load (r :: rs) ss ++ tail) ∧ peelV (S.getD r.toNat 0) (wrapL pubs due load (r :: rs) ss ++ tail) pad =
      { next := rs.getD 0 255, due := due, tag := keyP (powP (powP 7 (S.getD r.toNat 0).toNat) (ss.getD 0 0).toNat) 9, load := if rs = [] then load else [], cell := if rs = [] then [] else padL (wrapL pubs due load rs (ss.drop 1)) pad } := by
  have hr0 := hr r (List.mem_cons_self)
  have hr' : ∀ x ∈ rs, 0 ≤ x ∧ x < 8 := fun x hx => hr x (List.mem_cons_of_mem _ hx)
  have e : pubs.getD r.toNat 0 = powP 7 (S.getD r.toNat 0).toNat := hp _ (by omega)
  have hwl := wrapL_len pubs due load rs (ss.drop 1)
  have hwb : Bytes (wrapL pubs due load rs (ss.drop 1)) := wrapL_bytes hd hb hl rs _ hr' (by omega)
  have hhb : Bytes (headL (rs.getD 0 255) due (wrapL pubs due load rs (ss.drop 1)).length ++ wrapL pubs due load rs (ss.drop 1)) := (headL_bytes (next_rg hr') hd (by omega)).app hwb
  have hsec : LaySec (ss.getD 0 0) := hS.at_ (by omega)
  have hn := next_255 hr'
  rw [wrapL, e]
  refine ⟨lay_peels hsec.pub hhb (by omega) ?_, ?_⟩
  · by_cases h0 : rs = []
    · subst h0; exact .inl ⟨rfl, by rw [hwl]; simpa using hl⟩
    · refine .inr ⟨?_, ?_⟩
      · cases rs with
        | nil => exact absurd rfl h0
        | cons a l => have := hr' a (List.mem_cons_self); rw [List.getD_cons_zero]; omega
      · have : 1 ≤ rs.length := by rcases rs with _ | ⟨a, l⟩; exact absurd rfl h0; simp
        omega
  · rw [lay_V hhb pad]
    by_cases h0 : rs = []
    · subst h0; simp [wrapL]
    · have h1 : ¬ rs.getD 0 255 = 255 := fun x => h0 (hn.1 x)
      simp only [if_neg h1, if_neg h0]
theorem wr_pp {S pubs : List Int} (hp : PubsOf S pubs) {due : Int} {load : List Int} (hd : 0 ≤ due ∧ due ≤ 65535) (hb : Bytes load) (hl : load.length ≤ 24) {r : Int} {rs ss : List Int} (hs : ss.length = rs.length + 1) (hS : Secs ss) (h4 : rs.length + 1 ≤ 4) (hr : ∀ x ∈ r :: rs, 0 ≤ x ∧ x < 8) (tail pad : List Int) :
    ppeel (S.getD r.toNat 0) (wrapL pubs due load (r :: rs) ss ++ tail) pad = ({ next := rs.getD 0 255, due := due, tag := keyP (powP (powP 7 (S.getD r.toNat 0).toNat) (ss.getD 0 0).toNat) 9, load := if rs = [] then load else [], cell := if rs = [] then [] else padL (wrapL pubs due load rs (ss.drop 1)) pad }, true) := by
  have h := wr_step hp hd hb hl hs hS h4 hr tail pad
  rw [ppeel_t h.1, h.2]
theorem secs_drop {ss : List Int} (h : Secs ss) (k : Nat) : Secs (ss.drop k) := fun x hx => h x (List.mem_of_mem_drop hx)
theorem wr_fol {S pubs : List Int} (hp : PubsOf S pubs) {due : Int} {load : List Int} (hd : 0 ≤ due ∧ due ≤ 65535) (hb : Bytes load) (hl : load.length ≤ 24) : ∀ (rs ss tail : List Int), rs ≠ [] → ss.length = rs.length → Secs ss → rs.length ≤ 4 → (∀ x ∈ rs, 0 ≤ x ∧ x < 8) → folL S rs (wrapL pubs due load rs ss ++ tail) = (load, true)
  | [], _, _, h, _, _, _, _ => absurd rfl h
  | r :: rs, ss, tail, _, hs, hS, h4, hr => by
    rw [List.length_cons] at hs h4
    have hr' : ∀ x ∈ rs, 0 ≤ x ∧ x < 8 := fun x hx => hr x (List.mem_cons_of_mem _ hx)
    have hpp := wr_pp hp hd hb hl hs hS h4 hr tail zer
    by_cases h0 : rs = []
    · subst h0
      rw [folL_e (by rw [hpp]) (by rw [hpp]; rfl), hpp]
      simp
    · rw [folL_r (by rw [hpp]) (by rw [hpp]) h0, hpp]
      simp only [if_neg h0]
      rw [wr_tail rs _]
      exact wr_fol hp hd hb hl rs _ _ h0 (by rw [List.length_drop]; omega) (secs_drop hS 1) (by omega) hr'
theorem wr_reach {S pubs : List Int} (hp : PubsOf S pubs) {due : Int} {load : List Int} (hd : 0 ≤ due ∧ due ≤ 65535) (hb : Bytes load) (hl : load.length ≤ 24) : ∀ (k : Nat) (rs ss tail : List Int), rs ≠ [] → ss.length = rs.length → Secs ss → rs.length ≤ 4 → rs.length ≤ k → (∀ x ∈ rs, 0 ≤ x ∧ x < 8) → reachL S k (rs.getD 0 0) (wrapL pubs due load rs ss ++ tail) = rs
  | _, [], _, _, h, _, _, _, _, _ => absurd rfl h
  | 0, r :: rs, _, _, _, _, _, _, h, _ => absurd h (by simp)
  | k + 1, r :: rs, ss, tail, _, hs, hS, h4, hk, hr => by
    rw [List.length_cons] at hs h4 hk
    have hr0 := hr r (List.mem_cons_self)
    have hr' : ∀ x ∈ rs, 0 ≤ x ∧ x < 8 := fun x hx => hr x (List.mem_cons_of_mem _ hx)
    have hpp := wr_pp hp hd hb hl hs hS h4 hr tail zer
    rw [List.getD_cons_zero, reachL_t hr0 (by rw [hpp]), hpp]
    by_cases h0 : rs = []
    · subst h0
      exact congrArg (List.cons r) (reachL_o (fun x => absurd x.2 (by show ¬ (255 : Int) < 8; decide)))
    · simp only [if_neg h0]
      have e : rs.getD 0 255 = rs.getD 0 0 := by
        cases rs with
        | nil => exact absurd rfl h0
        | cons a l => rfl
      rw [e, wr_tail rs _, wr_reach hp hd hb hl k rs _ _ h0 (by rw [List.length_drop]; omega) (secs_drop hS 1) (by omega) (by omega) hr']
/-- The nodes' secrets are such that a layer can be for each of them. -/
theorem secs_of {S pubs : List Int} (hp : PubsOf S pubs) (hn : S.length = 8) (hs : ∀ x ∈ S, 1 ≤ x ∧ x < 2147483646) (hP : Pubs pubs) : Secs S := by
  intro x hx
  obtain ⟨i, hi, rfl⟩ := List.getElem_of_mem hx
  have h1 := hp i (by omega)
  rw [getD_lt hi] at h1
  refine ⟨hs _ hx, ?_⟩
  rw [← h1]
  have h2 : i < pubs.length := by rw [hP.1]; omega
  rw [getD_lt h2]
  exact hP.2 _ (List.getElem_mem _)
theorem wrapped_len {pubs route secrets load pad : List Int} {due : Int} (ho : WrapOk route pubs secrets due load pad) : (fwrap route pubs secrets due load pad).1.length = 80 := by
  rw [fwrap_t ho]
  show (padL _ pad).length = 80
  rw [padL_len (by rw [wrapL_len]; have := ho.1.1.2; have := ho.2.2.2.2.2.1; omega) ho.2.2.2.2.2.2]
theorem wrapped_own {pubs route secrets load pad : List Int} {due : Int} (ho : WrapOk route pubs secrets due load pad) : ∃ t, (fwrap route pubs secrets due load pad).1 = wrapL pubs due load route secrets ++ t := by
  rw [fwrap_t ho]; exact ⟨_, rfl⟩
theorem wrapped_first {pubs route secrets load pad : List Int} {due : Int} (ho : WrapOk route pubs secrets due load pad) : 0 ≤ route.getD 0 0 ∧ route.getD 0 0 < 8 := by
  have h1 := ho.1.1.1
  rw [getD_lt (by omega)]
  exact ho.1.2.1 _ (List.getElem_mem _)
theorem wrapped_tailOk {pubs route secrets load pad : List Int} {due : Int} (ho : WrapOk route pubs secrets due load pad) (h : route.length ≠ 1) : WrapOk (route.drop 1) pubs (secrets.drop 1) due load pad := by
  obtain ⟨⟨⟨h1, h4⟩, hr, hc⟩, hP, hs, hSs, hd, hll, hpad⟩ := ho
  refine ⟨⟨⟨by rw [List.length_drop]; omega, by rw [List.length_drop]; omega⟩, fun x hx => hr x (List.mem_of_mem_drop hx), fun i hi => ?_⟩, hP, by rw [List.length_drop, List.length_drop, hs], secs_drop hSs 1, hd, hll, hpad⟩
  rw [List.length_drop] at hi
  rw [getD_drop, getD_drop]
  have := hc (1 + i) (by omega)
  rwa [show 1 + (i + 1) = 1 + i + 1 by omega]
section
variable {S pubs route secrets load pad : List Int} {due : Int} (hp : PubsOf S pubs) (hn : S.length = 8) (hsec : ∀ x ∈ S, 1 ≤ x ∧ x < 2147483646) (ho : WrapOk route pubs secrets due load pad) (hb : Bytes load)
include hp hn hsec ho hb
theorem wrapped_fol : ffol S route (fwrap route pubs secrets due load pad).1 = (load, true) := by
  have hS := secs_of hp hn hsec ho.2.1
  rw [ffol_t ⟨ho.1, hn, hS, wrapped_len ho⟩, fwrap_t ho]
  show folL S route (padL _ pad) = _
  rw [wr_tail _ _]
  exact wr_fol hp ho.2.2.2.2.1 hb ho.2.2.2.2.2.1 route secrets _ (fun e => by have := ho.1.1.1; rw [e] at this; simp at this) ho.2.2.1 ho.2.2.2.1 ho.1.1.2 ho.1.2.1
theorem wrapped_reach : freach S (route.getD 0 0) (fwrap route pubs secrets due load pad).1 = route := by
  have hS := secs_of hp hn hsec ho.2.1
  rw [freach_t ⟨hn, hS, wrapped_len ho⟩, fwrap_t ho]
  show reachL S 4 (route.getD 0 0) (padL _ pad) = _
  rw [wr_tail _ _]
  exact wr_reach hp ho.2.2.2.2.1 hb ho.2.2.2.2.2.1 4 route secrets _ (fun e => by have := ho.1.1.1; rw [e] at this; simp at this) ho.2.2.1 ho.2.2.2.1 ho.1.1.2 ho.1.1.2 ho.1.2.1
/-- What its first node takes off. -/
theorem wrapped_peel (c pd : List Int) (hc : ∃ t, c = wrapL pubs due load route secrets ++ t) (hl : c.length = 80) (hpd : 80 ≤ pd.length) :
    fpeel (S.getD (route.getD 0 0).toNat 0) c pd = ({ next := route.getD 1 255, due := due, tag := keyP (powP (powP 7 (S.getD (route.getD 0 0).toNat 0).toNat) (secrets.getD 0 0).toNat) 9, load := if route.length = 1 then load else [], cell := if route.length = 1 then [] else padL (wrapL pubs due load (route.drop 1) (secrets.drop 1)) pd }, true) := by
  have hS := secs_of hp hn hsec ho.2.1
  obtain ⟨t, rfl⟩ := hc
  obtain ⟨⟨⟨h1, h4⟩, hr, -⟩, hP, hs, hSs, hd, hll, hpad⟩ := ho
  cases route with
  | nil => simp at h1
  | cons r rs =>
    rw [List.length_cons] at hs h4
    have hr0 := hr r (List.mem_cons_self)
    have h := wr_step hp hd hb hll hs hSs h4 hr t pd
    rw [List.getD_cons_zero] at *
    have hok : PeelOk (S.getD r.toNat 0) (wrapL pubs due load (r :: rs) secrets ++ t) pd := ⟨⟨(hS.at_ (by omega)).sec, hl, hpd⟩, h.1⟩
    rw [fpeel_t hok, h.2]
    by_cases h0 : rs = []
    · subst h0; simp
    · have h0' : ¬ (r :: rs).length = 1 := by rw [List.length_cons]; intro e; exact h0 (List.eq_nil_of_length_eq_zero (by omega))
      simp only [if_neg h0, if_neg h0']
      rfl
theorem wrapped_tag (c : List Int) (hc : ∃ t, c = wrapL pubs due load route secrets ++ t) (hl : c.length = 80) : ftag (S.getD (route.getD 0 0).toNat 0) c = keyP (powP (powP 7 (S.getD (route.getD 0 0).toNat 0).toNat) (secrets.getD 0 0).toNat) 9 := by
  have _ := hb
  have hS := secs_of hp hn hsec ho.2.1
  have hf := wrapped_first ho
  obtain ⟨t, rfl⟩ := hc
  obtain ⟨⟨⟨h1, h4⟩, hr, -⟩, hP, hs, hSs, hd, hll, hpad⟩ := ho
  cases route with
  | nil => simp at h1
  | cons r rs =>
    rw [List.length_cons] at hs h4
    have hr0 := hr r (List.mem_cons_self)
    rw [List.getD_cons_zero] at *
    have e : pubs.getD r.toNat 0 = powP 7 (S.getD r.toNat 0).toNat := hp _ (by omega)
    have hg : get4 (wrapL pubs due load (r :: rs) secrets ++ t) = powP 7 (secrets.getD 0 0).toNat := by rw [wrapL, e, lay_get4]
    unfold ftag
    rw [hg, if_pos ⟨(hS.at_ (by omega)).sec, hl, (hSs.at_ (by omega)).pub⟩, powP_comm]
theorem wrapped_can : route.getD 0 0 ∈ fcan S (fwrap route pubs secrets due load pad).1 := by
  have hS := secs_of hp hn hsec ho.2.1
  have hl := wrapped_len ho
  have hf := wrapped_first ho
  have hpe := wrapped_peel hp hn hsec ho hb _ zer (wrapped_own ho) hl (by rw [zer_len]; exact Nat.le_refl _)
  rw [fcan_t ⟨hn, hS, hl⟩]
  unfold can0
  rw [List.mem_map]
  refine ⟨(route.getD 0 0).toNat, List.mem_filter.2 ⟨List.mem_range.2 (by omega), decide_eq_true ?_⟩, by omega⟩
  unfold fnext
  rw [hpe]
  simp only [if_true]
  by_cases h1 : route.length = 1
  · rw [show route.getD 1 255 = 255 by rw [List.getD_eq_getElem?_getD, List.getElem?_eq_none (by omega)]; rfl]; decide
  · rw [show route.getD 1 255 = route[1]'(by have := ho.1.1.1; omega) by rw [List.getD_eq_getElem?_getD, List.getElem?_eq_getElem (by have := ho.1.1.1; omega)]; rfl]
    have := ho.1.2.1 _ (List.getElem_mem (l := route) (n := 1) (by have := ho.1.1.1; omega))
    omega
theorem wrapped_depth : 1 ≤ fdepth S (fwrap route pubs secrets due load pad).1 := by
  have hS := secs_of hp hn hsec ho.2.1
  have hl := wrapped_len ho
  have hm := wrapped_can hp hn hsec ho hb
  generalize (fwrap route pubs secrets due load pad).1 = c at *
  have hlen : 0 < (fcan S c).length := List.length_pos_of_mem hm
  rw [fdepth_cons hlen]
  have hmem : (fcan S c).getD 0 0 ∈ fcan S c := by rw [getD_lt hlen]; exact List.getElem_mem _
  generalize (fcan S c).getD 0 0 = a at *
  rw [fcan_t ⟨hn, hS, hl⟩] at hmem
  have hrg := can0_rg _ hmem
  unfold can0 at hmem
  rw [List.mem_map] at hmem
  obtain ⟨i, hi, rfl⟩ := hmem
  have hi2 := of_decide_eq_true (List.mem_filter.1 hi).2
  have hpe : peels (S.getD i 0) c := by
    by_cases h : PeelOk (S.getD i 0) c zer
    · exact h.2
    · exact absurd (by unfold fnext; rw [fpeel_f h]; simp) hi2
  rw [freach_t ⟨hn, hS, hl⟩, reachL_t (by omega) (by rw [show ((i : Int)).toNat = i by omega, ppeel_t hpe])]
  rw [List.length_cons]; omega
end

/-! ### the nodes of the laws -/
def ndS (seed : Int) : List Int := (List.range 8).map fun i : Nat => 1000 + seed * 17 + (i : Int) * 7919
def ndP (seed : Int) : List Int := (ndS seed).map fun s => powP 7 s.toNat
theorem ndS_len (seed : Int) : (ndS seed).length = 8 := by simp [ndS]
theorem ndP_len (seed : Int) : (ndP seed).length = 8 := by simp [ndP, ndS]
theorem ndS_at (seed : Int) {i : Nat} (h : i < 8) : (ndS seed).getD i 0 = 1000 + seed * 17 + (i : Int) * 7919 := by
  rw [getD_lt (by rw [ndS_len]; exact h)]; simp [ndS]
theorem ndP_at (seed : Int) {i : Nat} (h : i < 8) : (ndP seed).getD i 0 = powP 7 ((ndS seed).getD i 0).toNat := by
  rw [getD_lt (by rw [ndP_len]; exact h), getD_lt (by rw [ndS_len]; exact h)]; simp [ndP]
theorem nd_pubsOf (seed : Int) : PubsOf (ndS seed) (ndP seed) := fun _ hi => ndP_at seed hi
theorem ndS_sec {seed : Int} (h : 0 ≤ seed ∧ seed < 256) : ∀ x ∈ ndS seed, 1 ≤ x ∧ x < 2147483646 := by
  intro x hx
  unfold ndS at hx
  rw [List.mem_map] at hx
  obtain ⟨i, hi, rfl⟩ := hx
  have := List.mem_range.1 hi
  omega
theorem powP_nat (a n : Nat) : powP (a : Int) n = ((a ^ n % 2147483647 : Nat) : Int) := by
  unfold powP; rw [Int.natCast_emod, Int.natCast_pow]; rfl
theorem on_pows : ∀ i, i < 8 → 2 ≤ 7 ^ (1017 + i * 7919) % 2147483647 ∧ 7 ^ (1017 + i * 7919) % 2147483647 < 2147483646 := by decide +kernel
theorem on_pubs : Pubs (ndP 1) := by
  refine ⟨ndP_len 1, fun x hx => ?_⟩
  unfold ndP ndS at hx
  rw [List.map_map, List.mem_map] at hx
  obtain ⟨i, hi, rfl⟩ := hx
  have h1 := on_pows i (List.mem_range.1 hi)
  show 2 ≤ powP 7 (1000 + (1 : Int) * 17 + (i : Int) * 7919).toNat ∧ powP 7 (1000 + (1 : Int) * 17 + (i : Int) * 7919).toNat < 2147483646
  rw [show (1000 + (1 : Int) * 17 + (i : Int) * 7919).toNat = 1017 + i * 7919 by omega, show (7 : Int) = ((7 : Nat) : Int) from rfl, powP_nat]
  omega
theorem lay_11 : LaySec 11 := by
  unfold LaySec
  rw [show (7 : Int) = ((7 : Nat) : Int) from rfl, powP_nat]
  decide +kernel
theorem lay_12 : LaySec 12 := by
  unfold LaySec
  rw [show (7 : Int) = ((7 : Nat) : Int) from rfl, powP_nat]
  decide +kernel
theorem on_route : Route [2, 5] := by decide
theorem on_ok : WrapOk [2, 5] (ndP 1) [11, 12] 9 [120] (List.replicate 80 0) :=
  ⟨on_route, on_pubs, rfl, fun x hx => by
    simp only [List.mem_cons, List.not_mem_nil, or_false] at hx
    rcases hx with rfl | rfl
    · exact lay_11
    · exact lay_12, by decide, by decide, by rw [List.length_replicate]; exact Nat.le_refl _⟩
theorem on_bytes : Bytes [120] := fun x hx => by rw [List.mem_singleton.1 hx]; decide
theorem on_fol : ffol (ndS 1) [2, 5] (fwrap [2, 5] (ndP 1) [11, 12] 9 [120] (List.replicate 80 0)).1 = ([120], true) :=
  wrapped_fol (nd_pubsOf 1) (ndS_len 1) (ndS_sec (by decide)) on_ok on_bytes
theorem on_snd : (fwrap [2, 5] (ndP 1) [11, 12] 9 [120] (List.replicate 80 0)).2 = true := by rw [fwrap_t on_ok]
end Go.Proofs.Ytnfmjgldcnokbaa
