/-
  ImWr, PWr: texts joined.
-/
import Derived.Test.YtnfmjgldcnokbaaKGi
import Derived.Test.YtnfmjgldcnokbaaKGp
import Derived.Test.YtnfmjgldcnokbaaKGq
import Derived.Test.YtnfmjgldcnokbaaKGt
import Derived.Test.YtnfmjgldcnokbaaKMSeq
namespace Go.Proofs.Ytnfmjgldcnokbaa
set_option maxRecDepth 100000
set_option linter.unusedVariables false
set_option linter.unusedSimpArgs false
open Go.ChangeShapes Go.WideShapes Go.ChangeAt Go.RowKit Go.Shelf
open Fld
attribute [local go_sem] Oper.semAt_some
theorem i_exit_content (A : Option Addr) (n c : Nat) (w : World) : Calls Try.prog 159 #[.agg #[.slice A n c]] w fun e w' => e = .returned (.slice A n c) ∧ Below w.heap.size w w' := by
  go_enter Try.func159, Try.ntmps159
  go_wp2
  go_ret
  exact ⟨rfl, (belx)⟩
theorem i_relay_content (y : Int) (A : Option Addr) (n c : Nat) (w : World) : Calls Try.prog 161 #[.agg #[.int .i64 y, .slice A n c]] w fun e w' => e = .returned (.slice A n c) ∧ Below w.heap.size w w' := by
  go_enter Try.func161, Try.ntmps161
  go_wp2
  go_ret
  exact ⟨rfl, (belx)⟩
set_option maxHeartbeats 2000000 in
theorem i_encoded_e {w : World} {n c : Nat} {A : Option Addr} {l : List Int} (due s pub : Int) (hl : Ints .u8 w w.heap.size A n l) (hn : n ≤ 100) (hs : Sec s) (hp : Pub pub) (h4 : 0 ≤ due ∧ due ≤ 65535) :
    Calls Try.prog 51 #[.iface 73 (.agg #[.slice A n c]), .int .i64 due, .int .i64 s, .int .i64 pub] w fun e w' => ∃ v, e = .returned v ∧ Own .u8 5 w' w.heap.size v (layB pub s (255) due l) ∧ Below w.heap.size w w' := by
  obtain ⟨i0, hi0, hz0, hz1, hz2⟩ := info_parts info_by
  have hm1 : (method 265 73 (.agg #[.slice A n c]) "loop.example/g00611/impl.content").run Try.prog w = .ok (159, .agg #[.slice A n c]) w := by kernel_rfl
  have hm2 : ∀ W : World, (method 265 73 (.agg #[.slice A n c]) "loop.example/g00611/impl.next").run Try.prog W = .ok (160, .agg #[.slice A n c]) W := fun _ => by kernel_rfl
  have HL := Lib.hid hl.1
  have y8 : IntKind.u8.wrap (due / 256) = due / 256 := IntWalk.u8_in _ (by omega)
  have z8 : IntKind.u8.wrap due = due % 256 := u8_rem due
  have n8 : IntKind.u8.wrap (n : Int) = (n : Int) := IntWalk.u8_in _ (by omega)
  have x8 : IntKind.u8.wrap (255) = 255 := IntWalk.u8_in _ (by omega)
  have rp := powP_rg 7 s.toNat
  have rq := powP_rg pub s.toNat
  have rk := keyP_rg (powP pub s.toNat) 5
  have HSh := Lib.hid (shared_t hs hp)
  have HPu := Lib.hid (pubOf_t hs)
  have HKy := Lib.hid (fkey_t (a := powP pub s.toNat) (b := 5) ⟨rq.1, rq.2⟩ (by unfold Lab; omega))
  have HOk : Ok (keyP (powP pub s.toNat) 5) := ⟨rk.1, rk.2⟩
  clear rk
  go_enter Try.func51, Try.ntmps51
  go_wp2_with fail
  refine (i_exit_content A n c _).mono ?_
  rintro e w1 ⟨rfl, hb1⟩
  go_wp2_with fail
  refine (i_exit_next (.slice A n c) _).mono ?_
  rintro e w2 ⟨rfl, hb2⟩
  have hB2 : Below w.heap.size w w2 := bel_trans hb1 hb2
  have B2 : Box (w2.alloc (.cells #[.int .u8 (255), .int .u8 (due / 256), .int .u8 (due % 256), .int .u8 (n : Int)] 5)) w2.heap.size 5 #[.int .u8 (255), .int .u8 (due / 256), .int .u8 (due % 256), .int .u8 (n : Int)] := Box.new _ _ _
  go_wp2_with (first
    | (go_at_call 67; refine (i_Shared _ _ _).mono ?_; rintro e w' ⟨rfl, rfl⟩; rw [HSh.out])
    | (go_at_call 66; refine (i_KeyOf _ _ _).mono ?_; rintro e w' ⟨rfl, rfl⟩; rw [HKy.out])
    | (go_at_call 88; refine (i_PubOf _ _).mono ?_; rintro e w' ⟨rfl, rfl⟩; rw [HPu.out]))
  refine (i_four _ (by omega)).mono ?_
  rintro e w3 ⟨v3, rfl, hO3, hb3⟩
  have hs3 : Below w2.heap.size w2 w3 := bel_trans (belx) hb3
  have B3 := B2.below hb3 B2.size
  have hB3 : Below w.heap.size w w3 := bel_trans hB2 hs3
  have hIH : Ints .u8 w3 w3.heap.size (some ⟨w2.heap.size, 0, none⟩) 4 [255, due / 256, due % 256, (n : Int)] := by
    refine ⟨rfl, fun _ => ⟨w2.heap.size, 0, rfl, B3.size, fun i hi => ?_⟩, ?_⟩
    · match i, hi with
      | 0, _ => exact B3.cell 0
      | 1, _ => exact B3.cell 1
      | 2, _ => exact B3.cell 2
      | 3, _ => exact B3.cell 3
    · intro u hu
      simp only [List.mem_cons, List.not_mem_nil, or_false] at hu
      rcases hu with rfl | rfl | rfl | rfl <;> exact WalkArith.wf_u8 (by omega)
  have C3 : Box (w3.alloc (.cells #[.slice (some ⟨w2.heap.size, 0, none⟩) 4 4, .slice A n c] 22)) w3.heap.size 22 #[.slice (some ⟨w2.heap.size, 0, none⟩) 4 4, .slice A n c] := Box.new _ _ _
  go_wp2_with fail
  refine (i_concat C3 (reach hIH ?hB) (reach hl ?hB2) (by omega) (by omega)).mono ?_
  case hB => exact (belx)
  case hB2 => exact bel_alloc hB3 _
  rintro e w4 ⟨v4, rfl, hO4, hb4⟩
  obtain ⟨L1, hL1⟩ : ∃ L1, [255, due / 256, due % 256, (n : Int)] ++ l = L1 := ⟨_, rfl⟩
  have HS := Lib.hid (show layB pub s (255) due l = four (powP 7 s.toNat) ++ sealL (keyP (powP pub s.toNat) 5) L1 by unfold layB headL; rw [HL.out, hL1])
  have hm : L1.length = 4 + n := by rw [← hL1, List.length_append, HL.out]; rfl
  rw [hL1] at hO4
  obtain ⟨m, hm'⟩ : ∃ m, L1.length = m := ⟨_, rfl⟩
  have hm2' : m ≤ 104 := by omega
  obtain ⟨A1, c1, rfl, -, hI, -⟩ := hO4.ints
  rw [hm'] at hI ⊢
  have hs4 : Below w3.heap.size w3 w4 := bel_trans (belx) hb4
  have hO3b := hO3.below hs4
  clear hL1 hm hO4 B2 B3 C3 hIH hm1 hm2 hO3
  go_wp2_with fail
  refine (i_Seal_t _ hI (by omega) HOk).mono ?_
  rintro e w5 ⟨v5, rfl, hO5, hB5⟩
  have hsl := sealL_len (keyP (powP pub s.toNat) 5) L1
  have hsb := sealL_bytes (k := keyP (powP pub s.toNat) 5) hI.bytes
  obtain ⟨LS, hLS⟩ : ∃ LS, sealL (keyP (powP pub s.toNat) 5) L1 = LS := ⟨_, rfl⟩
  have HS2 := Lib.hid (show layB pub s (255) due l = four (powP 7 s.toNat) ++ LS by rw [HS.out, hLS])
  rw [hLS] at hsl hsb hO5
  have hlen4 := Lib.hid (four_len (powP 7 s.toNat))
  have h4b := Lib.hid (four_bytes (powP 7 s.toNat))
  obtain ⟨L4, hL4⟩ : ∃ L4, four (powP 7 s.toNat) = L4 := ⟨_, rfl⟩
  have HL4 := Lib.hid hL4
  rw [hL4] at hO3b
  obtain ⟨A3, c3, rfl, -, hI3, -⟩ := hO5.ints
  have hl3 : LS.length ≤ 200 := by omega
  have hO3c := hO3b.below hB5
  clear hLS hL4 hsl hI hO5 rp rq hO3b
  obtain ⟨m3, hm3⟩ : ∃ m, LS.length = m := ⟨_, rfl⟩
  rw [hm3] at hI3 hl3 ⊢
  have z1 := hB2.size; have z2 := hs3.size; have z3 := hs4.size; have z4 := hB5.size
  have hl44 : L4.length ≤ 4 := by rw [← HL4.out]; exact Nat.le_of_eq hlen4.out
  have hO3d : Own .u8 5 w5 w2.heap.size v3 L4 := hO3c.lower (by simp)
  go_wp2_with (at_builtin; refine wpList_app _ rfl (.tmp 32) (.tmp 38) _ rfl w2.heap.size 5 i0 _ 1 1 Try.underlying22 hi0 hz0 hz1 hz2 rfl (by omega) _ _ _ rfl hO3d.1 _ m3 _ (LS.map (Value.int .u8)) rfl (Src.of_ints hI3) (one_ints _ _) (by simp only [maxLen]; omega) (by omega) (by omega) ?_; intro v6 w6 hown hgr hat)
  go_ret
  have hfin : Own .u8 5 w6 w2.heap.size v6 (L4 ++ LS) := own_app (by rw [hm3]; exact hown) (by rw [← HL4.out]; exact h4b.out) hsb
  refine ⟨v6, rfl, ?_, ?_⟩
  · rw [HS2.out, HL4.out]; exact hfin.lower z1
  · exact below_own (bel_trans hB3 (bel_trans hs4 hB5)) (hO3d.lower z1) (Below.refl _ _) hgr
set_option maxHeartbeats 2000000 in
theorem i_encoded_r {w : World} {n c : Nat} {A : Option Addr} {l : List Int} (y : Int) (hy : 0 ≤ y ∧ y ≤ 255) (due s pub : Int) (hl : Ints .u8 w w.heap.size A n l) (hn : n ≤ 100) (hs : Sec s) (hp : Pub pub) (h4 : 0 ≤ due ∧ due ≤ 65535) :
    Calls Try.prog 51 #[.iface 81 (.agg #[.int .i64 y, .slice A n c]), .int .i64 due, .int .i64 s, .int .i64 pub] w fun e w' => ∃ v, e = .returned v ∧ Own .u8 5 w' w.heap.size v (layB pub s (y) due l) ∧ Below w.heap.size w w' := by
  obtain ⟨i0, hi0, hz0, hz1, hz2⟩ := info_parts info_by
  have hm1 : (method 265 81 (.agg #[.int .i64 y, .slice A n c]) "loop.example/g00611/impl.content").run Try.prog w = .ok (161, .agg #[.int .i64 y, .slice A n c]) w := by kernel_rfl
  have hm2 : ∀ W : World, (method 265 81 (.agg #[.int .i64 y, .slice A n c]) "loop.example/g00611/impl.next").run Try.prog W = .ok (162, .agg #[.int .i64 y, .slice A n c]) W := fun _ => by kernel_rfl
  have HL := Lib.hid hl.1
  have y8 : IntKind.u8.wrap (due / 256) = due / 256 := IntWalk.u8_in _ (by omega)
  have z8 : IntKind.u8.wrap due = due % 256 := u8_rem due
  have n8 : IntKind.u8.wrap (n : Int) = (n : Int) := IntWalk.u8_in _ (by omega)
  have x8 : IntKind.u8.wrap (y) = y := IntWalk.u8_in _ (by omega)
  have rp := powP_rg 7 s.toNat
  have rq := powP_rg pub s.toNat
  have rk := keyP_rg (powP pub s.toNat) 5
  have HSh := Lib.hid (shared_t hs hp)
  have HPu := Lib.hid (pubOf_t hs)
  have HKy := Lib.hid (fkey_t (a := powP pub s.toNat) (b := 5) ⟨rq.1, rq.2⟩ (by unfold Lab; omega))
  have HOk : Ok (keyP (powP pub s.toNat) 5) := ⟨rk.1, rk.2⟩
  clear rk
  go_enter Try.func51, Try.ntmps51
  go_wp2_with fail
  refine (i_relay_content y A n c _).mono ?_
  rintro e w1 ⟨rfl, hb1⟩
  go_wp2_with fail
  refine (i_relay_next y A n c _).mono ?_
  rintro e w2 ⟨rfl, hb2⟩
  have hB2 : Below w.heap.size w w2 := bel_trans hb1 hb2
  have B2 : Box (w2.alloc (.cells #[.int .u8 (y), .int .u8 (due / 256), .int .u8 (due % 256), .int .u8 (n : Int)] 5)) w2.heap.size 5 #[.int .u8 (y), .int .u8 (due / 256), .int .u8 (due % 256), .int .u8 (n : Int)] := Box.new _ _ _
  go_wp2_with (first
    | (go_at_call 67; refine (i_Shared _ _ _).mono ?_; rintro e w' ⟨rfl, rfl⟩; rw [HSh.out])
    | (go_at_call 66; refine (i_KeyOf _ _ _).mono ?_; rintro e w' ⟨rfl, rfl⟩; rw [HKy.out])
    | (go_at_call 88; refine (i_PubOf _ _).mono ?_; rintro e w' ⟨rfl, rfl⟩; rw [HPu.out]))
  refine (i_four _ (by omega)).mono ?_
  rintro e w3 ⟨v3, rfl, hO3, hb3⟩
  have hs3 : Below w2.heap.size w2 w3 := bel_trans (belx) hb3
  have B3 := B2.below hb3 B2.size
  have hB3 : Below w.heap.size w w3 := bel_trans hB2 hs3
  have hIH : Ints .u8 w3 w3.heap.size (some ⟨w2.heap.size, 0, none⟩) 4 [y, due / 256, due % 256, (n : Int)] := by
    refine ⟨rfl, fun _ => ⟨w2.heap.size, 0, rfl, B3.size, fun i hi => ?_⟩, ?_⟩
    · match i, hi with
      | 0, _ => exact B3.cell 0
      | 1, _ => exact B3.cell 1
      | 2, _ => exact B3.cell 2
      | 3, _ => exact B3.cell 3
    · intro u hu
      simp only [List.mem_cons, List.not_mem_nil, or_false] at hu
      rcases hu with rfl | rfl | rfl | rfl <;> exact WalkArith.wf_u8 (by omega)
  have C3 : Box (w3.alloc (.cells #[.slice (some ⟨w2.heap.size, 0, none⟩) 4 4, .slice A n c] 22)) w3.heap.size 22 #[.slice (some ⟨w2.heap.size, 0, none⟩) 4 4, .slice A n c] := Box.new _ _ _
  go_wp2_with fail
  refine (i_concat C3 (reach hIH ?hB) (reach hl ?hB2) (by omega) (by omega)).mono ?_
  case hB => exact (belx)
  case hB2 => exact bel_alloc hB3 _
  rintro e w4 ⟨v4, rfl, hO4, hb4⟩
  obtain ⟨L1, hL1⟩ : ∃ L1, [y, due / 256, due % 256, (n : Int)] ++ l = L1 := ⟨_, rfl⟩
  have HS := Lib.hid (show layB pub s (y) due l = four (powP 7 s.toNat) ++ sealL (keyP (powP pub s.toNat) 5) L1 by unfold layB headL; rw [HL.out, hL1])
  have hm : L1.length = 4 + n := by rw [← hL1, List.length_append, HL.out]; rfl
  rw [hL1] at hO4
  obtain ⟨m, hm'⟩ : ∃ m, L1.length = m := ⟨_, rfl⟩
  have hm2' : m ≤ 104 := by omega
  obtain ⟨A1, c1, rfl, -, hI, -⟩ := hO4.ints
  rw [hm'] at hI ⊢
  have hs4 : Below w3.heap.size w3 w4 := bel_trans (belx) hb4
  have hO3b := hO3.below hs4
  clear hL1 hm hO4 B2 B3 C3 hIH hm1 hm2 hO3
  go_wp2_with fail
  refine (i_Seal_t _ hI (by omega) HOk).mono ?_
  rintro e w5 ⟨v5, rfl, hO5, hB5⟩
  have hsl := sealL_len (keyP (powP pub s.toNat) 5) L1
  have hsb := sealL_bytes (k := keyP (powP pub s.toNat) 5) hI.bytes
  obtain ⟨LS, hLS⟩ : ∃ LS, sealL (keyP (powP pub s.toNat) 5) L1 = LS := ⟨_, rfl⟩
  have HS2 := Lib.hid (show layB pub s (y) due l = four (powP 7 s.toNat) ++ LS by rw [HS.out, hLS])
  rw [hLS] at hsl hsb hO5
  have hlen4 := Lib.hid (four_len (powP 7 s.toNat))
  have h4b := Lib.hid (four_bytes (powP 7 s.toNat))
  obtain ⟨L4, hL4⟩ : ∃ L4, four (powP 7 s.toNat) = L4 := ⟨_, rfl⟩
  have HL4 := Lib.hid hL4
  rw [hL4] at hO3b
  obtain ⟨A3, c3, rfl, -, hI3, -⟩ := hO5.ints
  have hl3 : LS.length ≤ 200 := by omega
  have hO3c := hO3b.below hB5
  clear hLS hL4 hsl hI hO5 rp rq hO3b
  obtain ⟨m3, hm3⟩ : ∃ m, LS.length = m := ⟨_, rfl⟩
  rw [hm3] at hI3 hl3 ⊢
  have z1 := hB2.size; have z2 := hs3.size; have z3 := hs4.size; have z4 := hB5.size
  have hl44 : L4.length ≤ 4 := by rw [← HL4.out]; exact Nat.le_of_eq hlen4.out
  have hO3d : Own .u8 5 w5 w2.heap.size v3 L4 := hO3c.lower (by simp)
  go_wp2_with (at_builtin; refine wpList_app _ rfl (.tmp 32) (.tmp 38) _ rfl w2.heap.size 5 i0 _ 1 1 Try.underlying22 hi0 hz0 hz1 hz2 rfl (by omega) _ _ _ rfl hO3d.1 _ m3 _ (LS.map (Value.int .u8)) rfl (Src.of_ints hI3) (one_ints _ _) (by simp only [maxLen]; omega) (by omega) (by omega) ?_; intro v6 w6 hown hgr hat)
  go_ret
  have hfin : Own .u8 5 w6 w2.heap.size v6 (L4 ++ LS) := own_app (by rw [hm3]; exact hown) (by rw [← HL4.out]; exact h4b.out) hsb
  refine ⟨v6, rfl, ?_, ?_⟩
  · rw [HS2.out, HL4.out]; exact hfin.lower z1
  · exact below_own (bel_trans hB3 (bel_trans hs4 hB5)) (hO3d.lower z1) (Below.refl _ _) hgr
def down (m k : Nat) : List Nat := (List.range k).map fun j => m - 1 - j
theorem down_succ (m k : Nat) : down m (k + 1) = down m k ++ [m - 1 - k] := by simp [down, List.range_succ]
set_option maxRecDepth 100000 in
set_option maxHeartbeats 2000000 in
theorem backward1_in (F : Fence) (n : Nat) (h7 : F.fn 89) (hro : F.round = none) (hn : 1 ≤ n) (l Bs n₀ m cap : Nat) (A : Option Addr) (zs : List Int) (hm : m ≤ 1048576) (J Jx : List (Fin m) → World → Prop)
    (hY : ∀ pre x W, J pre W → pre.length < m → YieldAt F (n - 1) Try.prog l #[.int .i64 (x.val : Int), .int .i64 (zs.getD x.val 0)] W fun e W' =>
      (e = .returned (.bool true) ∧ J (pre ++ [x]) W' ∧ (Below n₀ W W' ∧ W'.heap[Bs]? = W.heap[Bs]?)) ∨ (e = .returned (.bool false) ∧ Jx (pre ++ [x]) W'))
    (W : World) (hBs : W.cell? ⟨Bs, 0, none⟩ = some (.slice A m cap)) (hc : 0 < m → ∃ b off, A = some ⟨b, off, none⟩ ∧ b < n₀ ∧ ∀ j, j < m → W.cell? ⟨b, off + j, none⟩ = some (.int .i64 (zs.getD j 0))) (h0 : J [] W) :
    CallsIn F n Try.prog 89 #[.func (.yield l) #[] #[], .pointer (some ⟨Bs, 0, none⟩)] W fun e W' => (∃ v, e = .returned v) ∧
      ((∃ ys : List (Fin m), ys.map Fin.val = down m m ∧ J ys W') ∨ (∃ pre, True ∧ Jx pre W')) := by
  have HC := Lib.hid hc
  clear hc
  have q0 : IntKind.i64.wrap ((m : Int) - 1) = (m : Int) - 1 := IntWalk.i64_in _ (by omega)
  refine callsIn_of_wp Try.func89 rfl h7 ?_ hro
  simp only [Try.ntmps89, List.size_toArray, List.length_cons, List.length_nil, Nat.reduceAdd, Nat.reduceSub, Array.replicate_succ, Array.replicate_zero, List.push_toArray, List.append_toArray, List.nil_append, List.cons_append]
  gi_wp2
  gi_loopw [3] (fun i wr => ∃ (j : Nat) (pre : List (Fin m)), j ≤ m ∧ i = .int .i64 ((j : Int) - 1) ∧ pre.length = m - j ∧ pre.map Fin.val = down m (m - j) ∧ J pre wr ∧ Below n₀ W wr ∧ wr.heap[Bs]? = W.heap[Bs]?)
    (fun i _ => (intOf i + 1).toNat)
  case atStart => exact ⟨m, [], Nat.le_refl _, by first | rfl | (rw [q0]) | (simp [q0]), by simp, by simp [down], h0, Below.refl _ _, rfl⟩
  case round =>
    obtain ⟨j, pre, hj, rfl, hpl, hpre, hJs, hnx, hbx⟩ := hrel
    have HP := Lib.hid hpre
    clear hpre q0
    by_cases hlt : 0 < j
    · obtain ⟨i, rfl⟩ : ∃ i, j = i + 1 := ⟨j - 1, by omega⟩
      have him : i < m := by omega
      obtain ⟨fn, tmps, assign, body, hy, hR⟩ := hY pre ⟨i, him⟩ wr hJs (by omega)
      dsimp only at hy hR
      obtain ⟨b, off, rfl, hb, hcs⟩ := HC.out (by omega)
      have hcb : wr.cell? ⟨Bs, 0, none⟩ = some (.slice (some ⟨b, off, none⟩) m cap) := (World.cell?_of_block (a := ⟨Bs, 0, none⟩) hbx).trans hBs
      have hcx' : wr.cell? ⟨b, off + i, none⟩ = some (.int .i64 (zs.getD i 0)) := (hnx.cell (p := ⟨b, off + i, none⟩) hb).trans (hcs i him)
      have p5 : ((i + 1 : Nat) : Int) - 1 = (i : Int) := by omega
      have p1 : (0 : Int) ≤ (i : Int) := by omega
      have p2 : (i : Int) < (m : Int) := by omega
      obtain ⟨z, hzz⟩ : ∃ z, zs.getD i 0 = z := ⟨_, rfl⟩
      rw [hzz] at hy hcx'
      rw [p5]
      clear hcs p5 hzz
      gi_wp2
      refine hR.mono ?_
      rintro e W3 (⟨rfl, hJ3, hk3, hk4⟩ | ⟨rfl, hJx3⟩)
      · gi_wp2
        go_roundw
        case rel => exact ⟨i, pre ++ [⟨i, him⟩], by omega, by go_num, by simp; omega, by rw [List.map_append, HP.out, show m - i = (m - (i + 1)) + 1 by omega, down_succ, List.map_singleton, show m - 1 - (m - (i + 1)) = i by omega], hJ3, hnx.trans hk3, hk4.trans hbx⟩
        case measure => first | (simp [intOf]; done) | (simp [intOf]; omega)
      · gi_wp2
        refine bodyPost_ret (results_none rfl _ _ _) rfl ?_
        exact ⟨⟨_, rfl⟩, .inr ⟨_, trivial, hJx3⟩⟩
    · obtain rfl : j = 0 := by omega
      have HE := Lib.hid (show pre.map Fin.val = down m m by rw [HP.out]; rfl)
      have p1 : ¬ (0 : Int) ≤ ((0 : Nat) : Int) - 1 := by omega
      have p5 : ((0 : Nat) : Int) - 1 = -1 := by omega
      rw [p5]
      clear p1 p5
      gi_wp2
      go_end0
      exact ⟨⟨_, rfl⟩, .inl ⟨_, HE.out, hJs⟩⟩
theorem i_Backward (A : Option Addr) (n c : Nat) (w : World) :
    Calls Try.prog 50 #[.slice A n c] w fun e w' => e = .returned (.func (.func 89) #[] #[.pointer (some ⟨w.heap.size, 0, none⟩)]) ∧ w' = w.alloc (.cells #[.slice A n c] 23) := by
  go_enter Try.func50, Try.ntmps50
  go_wp2
  go_ret
  exact ⟨rfl, rfl⟩
theorem i_dueW (x : Int) (w : World) : Calls Try.prog 49 #[.int .i64 x] w fun e w' => e = .returned (.bool (decide (0 ≤ x ∧ x ≤ 65535))) ∧ w = w' := by
  by_cases h1 : 0 ≤ x
  · by_cases h2 : x ≤ 65535
    · have HR := Lib.hid (show decide (0 ≤ x ∧ x ≤ 65535) = true from decide_eq_true ⟨h1, h2⟩)
      rw [HR.out]
      go_enter Try.func49, Try.ntmps49
      go_wp2
      go_ret
      exact ⟨by first | rfl | (simp; done) | (simp; omega), rfl⟩
    · have HR := Lib.hid (show decide (0 ≤ x ∧ x ≤ 65535) = false from decide_eq_false fun h => h2 h.2)
      rw [HR.out]
      go_enter Try.func49, Try.ntmps49
      go_wp2
      go_ret
      exact ⟨by first | rfl | (simp; done) | (simp; omega), rfl⟩
  · have HR := Lib.hid (show decide (0 ≤ x ∧ x ≤ 65535) = false from decide_eq_false fun h => h1 h.1)
    rw [HR.out]
    go_enter Try.func49, Try.ntmps49
    go_wp2
    go_ret
    exact ⟨by first | rfl | (simp; done) | (simp; omega), rfl⟩
set_option maxHeartbeats 4000000 in
theorem i_Wrap_f {w : World} {nr cr np cp ns cs nl cl nd cd : Nat} {Ar Ap As Al Ad : Option Addr} {route pubs secs load pad : List Int} {due : Int} (hr : Ints .i64 w w.heap.size Ar nr route) (hnr : nr ≤ 17592186043904) (hrc : nr ≤ cr) (hrm : cr ≤ 9223372036854775807) (hp : Ints .i64 w w.heap.size Ap np pubs) (hnp : np ≤ 17592186043904) (hs : Ints .i64 w w.heap.size As ns secs) (hns : ns ≤ 17592186043904) (hl : load.length = nl) (hd : pad.length = nd) (hno : ¬ WrapOk route pubs secs due load pad) :
    Calls Try.prog 11 #[.slice Ar nr cr, .slice Ap np cp, .slice As ns cs, .int .i64 due, .slice Al nl cl, .slice Ad nd cd] w fun e w' => ∃ v, e = .returned (.tuple #[.agg #[v], .bool (fwrap route pubs secs due load pad).2]) ∧ Own .u8 5 w' w.heap.size v (fwrap route pubs secs due load pad).1 ∧ Below w.heap.size w w' := by
  have l1 := hr.1; have l2 := hs.1; have l0 := hp.1
  have HF := Lib.hid (fwrap_f hno)
  rw [HF.out]
  by_cases c0 : Route route
  rotate_left
  · have K0 := Lib.hid (decide_eq_false c0)
    clear l0 l1 l2 hl hd hno c0
    go_enter Try.func11, Try.ntmps11
    go_wp2_with fail
    refine (i_RouteOk (reach hr ?hB) hnr hrc hrm).mono ?_
    case hB => exact (belx)
    rintro e w1 ⟨rfl, hb1⟩
    rw [K0.out]
    have P1 : Box w1 w.heap.size 23 #[.slice Ap np cp] := Box.below ((((show Box ((w).alloc (.cells #[.slice Ap np cp] 23)) w.heap.size 23 #[.slice Ap np cp] from (Box.new w 23 #[.slice Ap np cp])).alloc _).alloc _).alloc _) hb1 (by first | (simp; done) | (simp; omega))
    have S1 : Box w1 (w.heap.size + 1) 23 #[.slice As ns cs] := Box.below (((show Box (((w).alloc (.cells #[.slice Ap np cp] 23)).alloc (.cells #[.slice As ns cs] 23)) (w.heap.size + 1) 23 #[.slice As ns cs] from (by simpa using Box.new ((w).alloc (.cells #[.slice Ap np cp] 23)) 23 #[.slice As ns cs])).alloc _).alloc _) hb1 (by first | (simp; done) | (simp; omega))
    have D1 : Box w1 (w.heap.size + 1 + 1) 3 #[.int .i64 due] := Box.below ((show Box ((((w).alloc (.cells #[.slice Ap np cp] 23)).alloc (.cells #[.slice As ns cs] 23)).alloc (.cells #[.int .i64 due] 3)) (w.heap.size + 1 + 1) 3 #[.int .i64 due] from (by simpa using Box.new (((w).alloc (.cells #[.slice Ap np cp] 23)).alloc (.cells #[.slice As ns cs] 23)) 3 #[.int .i64 due])).alloc _) hb1 (by first | (simp; done) | (simp; omega))
    have X1 : Box w1 (w.heap.size + 1 + 1 + 1) 30 #[.slice none 0 0] := Box.below (show Box (((((w).alloc (.cells #[.slice Ap np cp] 23)).alloc (.cells #[.slice As ns cs] 23)).alloc (.cells #[.int .i64 due] 3)).alloc (.cells #[.slice none 0 0] 30)) (w.heap.size + 1 + 1 + 1) 30 #[.slice none 0 0] from (by simpa using Box.new ((((w).alloc (.cells #[.slice Ap np cp] 23)).alloc (.cells #[.slice As ns cs] 23)).alloc (.cells #[.int .i64 due] 3)) 30 #[.slice none 0 0])) hb1 (by first | (simp; done) | (simp; omega))
    have x0 := X1.cell 0
    have f0 := X1.frozen 0
    have p0 := P1.cell 0
    have s0 := S1.cell 0
    have d0 := D1.cell 0
    have hB1 : Below w.heap.size w w1 := bel_trans (belx) hb1
    have z1 : w.heap.size + 4 ≤ w1.heap.size := by have := hb1.size; simpa using this
    clear hb1
    go_wp2
    have e := (X1.put 0 (.slice none 0 0)).cell 0
    refine bodyPost_ret (v := .tuple #[.agg #[.slice none 0 0], .bool false]) (by simp [results, Try.results11, go_sem, e]) rfl ⟨_, rfl, Own.nil _ _ _ _, bel_put hB1 (by show w.heap.size ≤ w.heap.size + 1 + 1 + 1; omega) _⟩
  have K0 := Lib.hid (decide_eq_true c0)
  by_cases c1 : pubs.length = 8
  rotate_left
  · have q1 : ((np : Int) == 8) = false := by rw [beq_eq_false_iff_ne]; omega
    clear l0 l1 l2 hl hd hno c0 c1
    go_enter Try.func11, Try.ntmps11
    go_wp2_with fail
    refine (i_RouteOk (reach hr ?hB) hnr hrc hrm).mono ?_
    case hB => exact (belx)
    rintro e w1 ⟨rfl, hb1⟩
    rw [K0.out]
    have P1 : Box w1 w.heap.size 23 #[.slice Ap np cp] := Box.below ((((show Box ((w).alloc (.cells #[.slice Ap np cp] 23)) w.heap.size 23 #[.slice Ap np cp] from (Box.new w 23 #[.slice Ap np cp])).alloc _).alloc _).alloc _) hb1 (by first | (simp; done) | (simp; omega))
    have S1 : Box w1 (w.heap.size + 1) 23 #[.slice As ns cs] := Box.below (((show Box (((w).alloc (.cells #[.slice Ap np cp] 23)).alloc (.cells #[.slice As ns cs] 23)) (w.heap.size + 1) 23 #[.slice As ns cs] from (by simpa using Box.new ((w).alloc (.cells #[.slice Ap np cp] 23)) 23 #[.slice As ns cs])).alloc _).alloc _) hb1 (by first | (simp; done) | (simp; omega))
    have D1 : Box w1 (w.heap.size + 1 + 1) 3 #[.int .i64 due] := Box.below ((show Box ((((w).alloc (.cells #[.slice Ap np cp] 23)).alloc (.cells #[.slice As ns cs] 23)).alloc (.cells #[.int .i64 due] 3)) (w.heap.size + 1 + 1) 3 #[.int .i64 due] from (by simpa using Box.new (((w).alloc (.cells #[.slice Ap np cp] 23)).alloc (.cells #[.slice As ns cs] 23)) 3 #[.int .i64 due])).alloc _) hb1 (by first | (simp; done) | (simp; omega))
    have X1 : Box w1 (w.heap.size + 1 + 1 + 1) 30 #[.slice none 0 0] := Box.below (show Box (((((w).alloc (.cells #[.slice Ap np cp] 23)).alloc (.cells #[.slice As ns cs] 23)).alloc (.cells #[.int .i64 due] 3)).alloc (.cells #[.slice none 0 0] 30)) (w.heap.size + 1 + 1 + 1) 30 #[.slice none 0 0] from (by simpa using Box.new ((((w).alloc (.cells #[.slice Ap np cp] 23)).alloc (.cells #[.slice As ns cs] 23)).alloc (.cells #[.int .i64 due] 3)) 30 #[.slice none 0 0])) hb1 (by first | (simp; done) | (simp; omega))
    have x0 := X1.cell 0
    have f0 := X1.frozen 0
    have p0 := P1.cell 0
    have s0 := S1.cell 0
    have d0 := D1.cell 0
    have hB1 : Below w.heap.size w w1 := bel_trans (belx) hb1
    have z1 : w.heap.size + 4 ≤ w1.heap.size := by have := hb1.size; simpa using this
    clear hb1
    go_wp2
    have e := (X1.put 0 (.slice none 0 0)).cell 0
    refine bodyPost_ret (v := .tuple #[.agg #[.slice none 0 0], .bool false]) (by simp [results, Try.results11, go_sem, e]) rfl ⟨_, rfl, Own.nil _ _ _ _, bel_put hB1 (by show w.heap.size ≤ w.heap.size + 1 + 1 + 1; omega) _⟩
  have q1 : ((np : Int) == 8) = true := by rw [beq_iff_eq]; omega
  by_cases c2 : ∀ x ∈ pubs, 2 ≤ x ∧ x < 2147483646
  rotate_left
  · have K2 := Lib.hid (show (pubs.all fun x => decide (2 ≤ x ∧ x < 2147483646)) = false from by rw [Bool.eq_false_iff]; exact fun hh => c2 fun x hx => of_decide_eq_true (List.all_eq_true.1 hh x hx))
    clear l0 l1 l2 hl hd hno c0 c1 c2
    go_enter Try.func11, Try.ntmps11
    go_wp2_with fail
    refine (i_RouteOk (reach hr ?hB) hnr hrc hrm).mono ?_
    case hB => exact (belx)
    rintro e w1 ⟨rfl, hb1⟩
    rw [K0.out]
    have P1 : Box w1 w.heap.size 23 #[.slice Ap np cp] := Box.below ((((show Box ((w).alloc (.cells #[.slice Ap np cp] 23)) w.heap.size 23 #[.slice Ap np cp] from (Box.new w 23 #[.slice Ap np cp])).alloc _).alloc _).alloc _) hb1 (by first | (simp; done) | (simp; omega))
    have S1 : Box w1 (w.heap.size + 1) 23 #[.slice As ns cs] := Box.below (((show Box (((w).alloc (.cells #[.slice Ap np cp] 23)).alloc (.cells #[.slice As ns cs] 23)) (w.heap.size + 1) 23 #[.slice As ns cs] from (by simpa using Box.new ((w).alloc (.cells #[.slice Ap np cp] 23)) 23 #[.slice As ns cs])).alloc _).alloc _) hb1 (by first | (simp; done) | (simp; omega))
    have D1 : Box w1 (w.heap.size + 1 + 1) 3 #[.int .i64 due] := Box.below ((show Box ((((w).alloc (.cells #[.slice Ap np cp] 23)).alloc (.cells #[.slice As ns cs] 23)).alloc (.cells #[.int .i64 due] 3)) (w.heap.size + 1 + 1) 3 #[.int .i64 due] from (by simpa using Box.new (((w).alloc (.cells #[.slice Ap np cp] 23)).alloc (.cells #[.slice As ns cs] 23)) 3 #[.int .i64 due])).alloc _) hb1 (by first | (simp; done) | (simp; omega))
    have X1 : Box w1 (w.heap.size + 1 + 1 + 1) 30 #[.slice none 0 0] := Box.below (show Box (((((w).alloc (.cells #[.slice Ap np cp] 23)).alloc (.cells #[.slice As ns cs] 23)).alloc (.cells #[.int .i64 due] 3)).alloc (.cells #[.slice none 0 0] 30)) (w.heap.size + 1 + 1 + 1) 30 #[.slice none 0 0] from (by simpa using Box.new ((((w).alloc (.cells #[.slice Ap np cp] 23)).alloc (.cells #[.slice As ns cs] 23)).alloc (.cells #[.int .i64 due] 3)) 30 #[.slice none 0 0])) hb1 (by first | (simp; done) | (simp; omega))
    have x0 := X1.cell 0
    have f0 := X1.frozen 0
    have p0 := P1.cell 0
    have s0 := S1.cell 0
    have d0 := D1.cell 0
    have hB1 : Below w.heap.size w w1 := bel_trans (belx) hb1
    have z1 : w.heap.size + 4 ≤ w1.heap.size := by have := hb1.size; simpa using this
    clear hb1
    go_wp2_with fail
    refine (i_every_pub (hp.below hB1) hnp).mono ?_
    rintro e w' ⟨rfl, rfl⟩
    rw [K2.out]
    go_wp2
    have e := (X1.put 0 (.slice none 0 0)).cell 0
    refine bodyPost_ret (v := .tuple #[.agg #[.slice none 0 0], .bool false]) (by simp [results, Try.results11, go_sem, e]) rfl ⟨_, rfl, Own.nil _ _ _ _, bel_put hB1 (by show w.heap.size ≤ w.heap.size + 1 + 1 + 1; omega) _⟩
  have K2 := Lib.hid (show (pubs.all fun x => decide (2 ≤ x ∧ x < 2147483646)) = true from List.all_eq_true.2 fun x hx => decide_eq_true (c2 x hx))
  by_cases c3 : secs.length = route.length
  rotate_left
  · have q3 : ((ns : Int) == (nr : Int)) = false := by rw [beq_eq_false_iff_ne]; omega
    clear l0 l1 l2 hl hd hno c0 c1 c2 c3
    go_enter Try.func11, Try.ntmps11
    go_wp2_with fail
    refine (i_RouteOk (reach hr ?hB) hnr hrc hrm).mono ?_
    case hB => exact (belx)
    rintro e w1 ⟨rfl, hb1⟩
    rw [K0.out]
    have P1 : Box w1 w.heap.size 23 #[.slice Ap np cp] := Box.below ((((show Box ((w).alloc (.cells #[.slice Ap np cp] 23)) w.heap.size 23 #[.slice Ap np cp] from (Box.new w 23 #[.slice Ap np cp])).alloc _).alloc _).alloc _) hb1 (by first | (simp; done) | (simp; omega))
    have S1 : Box w1 (w.heap.size + 1) 23 #[.slice As ns cs] := Box.below (((show Box (((w).alloc (.cells #[.slice Ap np cp] 23)).alloc (.cells #[.slice As ns cs] 23)) (w.heap.size + 1) 23 #[.slice As ns cs] from (by simpa using Box.new ((w).alloc (.cells #[.slice Ap np cp] 23)) 23 #[.slice As ns cs])).alloc _).alloc _) hb1 (by first | (simp; done) | (simp; omega))
    have D1 : Box w1 (w.heap.size + 1 + 1) 3 #[.int .i64 due] := Box.below ((show Box ((((w).alloc (.cells #[.slice Ap np cp] 23)).alloc (.cells #[.slice As ns cs] 23)).alloc (.cells #[.int .i64 due] 3)) (w.heap.size + 1 + 1) 3 #[.int .i64 due] from (by simpa using Box.new (((w).alloc (.cells #[.slice Ap np cp] 23)).alloc (.cells #[.slice As ns cs] 23)) 3 #[.int .i64 due])).alloc _) hb1 (by first | (simp; done) | (simp; omega))
    have X1 : Box w1 (w.heap.size + 1 + 1 + 1) 30 #[.slice none 0 0] := Box.below (show Box (((((w).alloc (.cells #[.slice Ap np cp] 23)).alloc (.cells #[.slice As ns cs] 23)).alloc (.cells #[.int .i64 due] 3)).alloc (.cells #[.slice none 0 0] 30)) (w.heap.size + 1 + 1 + 1) 30 #[.slice none 0 0] from (by simpa using Box.new ((((w).alloc (.cells #[.slice Ap np cp] 23)).alloc (.cells #[.slice As ns cs] 23)).alloc (.cells #[.int .i64 due] 3)) 30 #[.slice none 0 0])) hb1 (by first | (simp; done) | (simp; omega))
    have x0 := X1.cell 0
    have f0 := X1.frozen 0
    have p0 := P1.cell 0
    have s0 := S1.cell 0
    have d0 := D1.cell 0
    have hB1 : Below w.heap.size w w1 := bel_trans (belx) hb1
    have z1 : w.heap.size + 4 ≤ w1.heap.size := by have := hb1.size; simpa using this
    clear hb1
    go_wp2_with fail
    refine (i_every_pub (hp.below hB1) hnp).mono ?_
    rintro e w' ⟨rfl, rfl⟩
    rw [K2.out]
    go_wp2
    have e := (X1.put 0 (.slice none 0 0)).cell 0
    refine bodyPost_ret (v := .tuple #[.agg #[.slice none 0 0], .bool false]) (by simp [results, Try.results11, go_sem, e]) rfl ⟨_, rfl, Own.nil _ _ _ _, bel_put hB1 (by show w.heap.size ≤ w.heap.size + 1 + 1 + 1; omega) _⟩
  have q3 : ((ns : Int) == (nr : Int)) = true := by rw [beq_iff_eq]; omega
  by_cases c4 : Secs secs
  rotate_left
  · have K4 := Lib.hid (decide_eq_false c4)
    clear l0 l1 l2 hl hd hno c0 c1 c2 c3 c4
    go_enter Try.func11, Try.ntmps11
    go_wp2_with fail
    refine (i_RouteOk (reach hr ?hB) hnr hrc hrm).mono ?_
    case hB => exact (belx)
    rintro e w1 ⟨rfl, hb1⟩
    rw [K0.out]
    have P1 : Box w1 w.heap.size 23 #[.slice Ap np cp] := Box.below ((((show Box ((w).alloc (.cells #[.slice Ap np cp] 23)) w.heap.size 23 #[.slice Ap np cp] from (Box.new w 23 #[.slice Ap np cp])).alloc _).alloc _).alloc _) hb1 (by first | (simp; done) | (simp; omega))
    have S1 : Box w1 (w.heap.size + 1) 23 #[.slice As ns cs] := Box.below (((show Box (((w).alloc (.cells #[.slice Ap np cp] 23)).alloc (.cells #[.slice As ns cs] 23)) (w.heap.size + 1) 23 #[.slice As ns cs] from (by simpa using Box.new ((w).alloc (.cells #[.slice Ap np cp] 23)) 23 #[.slice As ns cs])).alloc _).alloc _) hb1 (by first | (simp; done) | (simp; omega))
    have D1 : Box w1 (w.heap.size + 1 + 1) 3 #[.int .i64 due] := Box.below ((show Box ((((w).alloc (.cells #[.slice Ap np cp] 23)).alloc (.cells #[.slice As ns cs] 23)).alloc (.cells #[.int .i64 due] 3)) (w.heap.size + 1 + 1) 3 #[.int .i64 due] from (by simpa using Box.new (((w).alloc (.cells #[.slice Ap np cp] 23)).alloc (.cells #[.slice As ns cs] 23)) 3 #[.int .i64 due])).alloc _) hb1 (by first | (simp; done) | (simp; omega))
    have X1 : Box w1 (w.heap.size + 1 + 1 + 1) 30 #[.slice none 0 0] := Box.below (show Box (((((w).alloc (.cells #[.slice Ap np cp] 23)).alloc (.cells #[.slice As ns cs] 23)).alloc (.cells #[.int .i64 due] 3)).alloc (.cells #[.slice none 0 0] 30)) (w.heap.size + 1 + 1 + 1) 30 #[.slice none 0 0] from (by simpa using Box.new ((((w).alloc (.cells #[.slice Ap np cp] 23)).alloc (.cells #[.slice As ns cs] 23)).alloc (.cells #[.int .i64 due] 3)) 30 #[.slice none 0 0])) hb1 (by first | (simp; done) | (simp; omega))
    have x0 := X1.cell 0
    have f0 := X1.frozen 0
    have p0 := P1.cell 0
    have s0 := S1.cell 0
    have d0 := D1.cell 0
    have hB1 : Below w.heap.size w w1 := bel_trans (belx) hb1
    have z1 : w.heap.size + 4 ≤ w1.heap.size := by have := hb1.size; simpa using this
    clear hb1
    go_wp2_with fail
    refine (i_every_pub (hp.below hB1) hnp).mono ?_
    rintro e w' ⟨rfl, rfl⟩
    rw [K2.out]
    go_wp2_with fail
    refine (i_every_sec (hs.below hB1) hns).mono ?_
    rintro e w' ⟨rfl, rfl⟩
    rw [K4.out]
    go_wp2
    have e := (X1.put 0 (.slice none 0 0)).cell 0
    refine bodyPost_ret (v := .tuple #[.agg #[.slice none 0 0], .bool false]) (by simp [results, Try.results11, go_sem, e]) rfl ⟨_, rfl, Own.nil _ _ _ _, bel_put hB1 (by show w.heap.size ≤ w.heap.size + 1 + 1 + 1; omega) _⟩
  have K4 := Lib.hid (decide_eq_true c4)
  by_cases c5 : 0 ≤ due ∧ due ≤ 65535
  rotate_left
  · have K5 := Lib.hid (decide_eq_false c5)
    clear l0 l1 l2 hl hd hno c0 c1 c2 c3 c4 c5
    go_enter Try.func11, Try.ntmps11
    go_wp2_with fail
    refine (i_RouteOk (reach hr ?hB) hnr hrc hrm).mono ?_
    case hB => exact (belx)
    rintro e w1 ⟨rfl, hb1⟩
    rw [K0.out]
    have P1 : Box w1 w.heap.size 23 #[.slice Ap np cp] := Box.below ((((show Box ((w).alloc (.cells #[.slice Ap np cp] 23)) w.heap.size 23 #[.slice Ap np cp] from (Box.new w 23 #[.slice Ap np cp])).alloc _).alloc _).alloc _) hb1 (by first | (simp; done) | (simp; omega))
    have S1 : Box w1 (w.heap.size + 1) 23 #[.slice As ns cs] := Box.below (((show Box (((w).alloc (.cells #[.slice Ap np cp] 23)).alloc (.cells #[.slice As ns cs] 23)) (w.heap.size + 1) 23 #[.slice As ns cs] from (by simpa using Box.new ((w).alloc (.cells #[.slice Ap np cp] 23)) 23 #[.slice As ns cs])).alloc _).alloc _) hb1 (by first | (simp; done) | (simp; omega))
    have D1 : Box w1 (w.heap.size + 1 + 1) 3 #[.int .i64 due] := Box.below ((show Box ((((w).alloc (.cells #[.slice Ap np cp] 23)).alloc (.cells #[.slice As ns cs] 23)).alloc (.cells #[.int .i64 due] 3)) (w.heap.size + 1 + 1) 3 #[.int .i64 due] from (by simpa using Box.new (((w).alloc (.cells #[.slice Ap np cp] 23)).alloc (.cells #[.slice As ns cs] 23)) 3 #[.int .i64 due])).alloc _) hb1 (by first | (simp; done) | (simp; omega))
    have X1 : Box w1 (w.heap.size + 1 + 1 + 1) 30 #[.slice none 0 0] := Box.below (show Box (((((w).alloc (.cells #[.slice Ap np cp] 23)).alloc (.cells #[.slice As ns cs] 23)).alloc (.cells #[.int .i64 due] 3)).alloc (.cells #[.slice none 0 0] 30)) (w.heap.size + 1 + 1 + 1) 30 #[.slice none 0 0] from (by simpa using Box.new ((((w).alloc (.cells #[.slice Ap np cp] 23)).alloc (.cells #[.slice As ns cs] 23)).alloc (.cells #[.int .i64 due] 3)) 30 #[.slice none 0 0])) hb1 (by first | (simp; done) | (simp; omega))
    have x0 := X1.cell 0
    have f0 := X1.frozen 0
    have p0 := P1.cell 0
    have s0 := S1.cell 0
    have d0 := D1.cell 0
    have hB1 : Below w.heap.size w w1 := bel_trans (belx) hb1
    have z1 : w.heap.size + 4 ≤ w1.heap.size := by have := hb1.size; simpa using this
    clear hb1
    go_wp2_with fail
    refine (i_every_pub (hp.below hB1) hnp).mono ?_
    rintro e w' ⟨rfl, rfl⟩
    rw [K2.out]
    go_wp2_with fail
    refine (i_every_sec (hs.below hB1) hns).mono ?_
    rintro e w' ⟨rfl, rfl⟩
    rw [K4.out]
    go_wp2_with fail
    refine (i_dueW due _).mono ?_
    rintro e w' ⟨rfl, rfl⟩
    rw [K5.out]
    go_wp2
    have e := (X1.put 0 (.slice none 0 0)).cell 0
    refine bodyPost_ret (v := .tuple #[.agg #[.slice none 0 0], .bool false]) (by simp [results, Try.results11, go_sem, e]) rfl ⟨_, rfl, Own.nil _ _ _ _, bel_put hB1 (by show w.heap.size ≤ w.heap.size + 1 + 1 + 1; omega) _⟩
  have K5 := Lib.hid (decide_eq_true c5)
  by_cases c6 : load.length ≤ 24
  rotate_left
  · have q6 : ¬ (nl : Int) ≤ 24 := by omega
    have q6b : (24 : Int) < (nl : Int) := by omega
    clear l0 l1 l2 hl hd hno c0 c1 c2 c3 c4 c5 c6
    go_enter Try.func11, Try.ntmps11
    go_wp2_with fail
    refine (i_RouteOk (reach hr ?hB) hnr hrc hrm).mono ?_
    case hB => exact (belx)
    rintro e w1 ⟨rfl, hb1⟩
    rw [K0.out]
    have P1 : Box w1 w.heap.size 23 #[.slice Ap np cp] := Box.below ((((show Box ((w).alloc (.cells #[.slice Ap np cp] 23)) w.heap.size 23 #[.slice Ap np cp] from (Box.new w 23 #[.slice Ap np cp])).alloc _).alloc _).alloc _) hb1 (by first | (simp; done) | (simp; omega))
    have S1 : Box w1 (w.heap.size + 1) 23 #[.slice As ns cs] := Box.below (((show Box (((w).alloc (.cells #[.slice Ap np cp] 23)).alloc (.cells #[.slice As ns cs] 23)) (w.heap.size + 1) 23 #[.slice As ns cs] from (by simpa using Box.new ((w).alloc (.cells #[.slice Ap np cp] 23)) 23 #[.slice As ns cs])).alloc _).alloc _) hb1 (by first | (simp; done) | (simp; omega))
    have D1 : Box w1 (w.heap.size + 1 + 1) 3 #[.int .i64 due] := Box.below ((show Box ((((w).alloc (.cells #[.slice Ap np cp] 23)).alloc (.cells #[.slice As ns cs] 23)).alloc (.cells #[.int .i64 due] 3)) (w.heap.size + 1 + 1) 3 #[.int .i64 due] from (by simpa using Box.new (((w).alloc (.cells #[.slice Ap np cp] 23)).alloc (.cells #[.slice As ns cs] 23)) 3 #[.int .i64 due])).alloc _) hb1 (by first | (simp; done) | (simp; omega))
    have X1 : Box w1 (w.heap.size + 1 + 1 + 1) 30 #[.slice none 0 0] := Box.below (show Box (((((w).alloc (.cells #[.slice Ap np cp] 23)).alloc (.cells #[.slice As ns cs] 23)).alloc (.cells #[.int .i64 due] 3)).alloc (.cells #[.slice none 0 0] 30)) (w.heap.size + 1 + 1 + 1) 30 #[.slice none 0 0] from (by simpa using Box.new ((((w).alloc (.cells #[.slice Ap np cp] 23)).alloc (.cells #[.slice As ns cs] 23)).alloc (.cells #[.int .i64 due] 3)) 30 #[.slice none 0 0])) hb1 (by first | (simp; done) | (simp; omega))
    have x0 := X1.cell 0
    have f0 := X1.frozen 0
    have p0 := P1.cell 0
    have s0 := S1.cell 0
    have d0 := D1.cell 0
    have hB1 : Below w.heap.size w w1 := bel_trans (belx) hb1
    have z1 : w.heap.size + 4 ≤ w1.heap.size := by have := hb1.size; simpa using this
    clear hb1
    go_wp2_with fail
    refine (i_every_pub (hp.below hB1) hnp).mono ?_
    rintro e w' ⟨rfl, rfl⟩
    rw [K2.out]
    go_wp2_with fail
    refine (i_every_sec (hs.below hB1) hns).mono ?_
    rintro e w' ⟨rfl, rfl⟩
    rw [K4.out]
    go_wp2_with fail
    refine (i_dueW due _).mono ?_
    rintro e w' ⟨rfl, rfl⟩
    rw [K5.out]
    go_wp2
    have e := (X1.put 0 (.slice none 0 0)).cell 0
    refine bodyPost_ret (v := .tuple #[.agg #[.slice none 0 0], .bool false]) (by simp [results, Try.results11, go_sem, e]) rfl ⟨_, rfl, Own.nil _ _ _ _, bel_put hB1 (by show w.heap.size ≤ w.heap.size + 1 + 1 + 1; omega) _⟩
  have q6 : (nl : Int) ≤ 24 := by omega
  by_cases c7 : 80 ≤ pad.length
  rotate_left
  · have q7 : ¬ (80 : Int) ≤ (nd : Int) := by omega
    have q7b : (nd : Int) < 80 := by omega
    have q7c : decide ((80 : Int) ≤ (nd : Int)) = false := decide_eq_false (by omega)
    clear l0 l1 l2 hl hd hno c0 c1 c2 c3 c4 c5 c6 c7
    go_enter Try.func11, Try.ntmps11
    go_wp2_with fail
    refine (i_RouteOk (reach hr ?hB) hnr hrc hrm).mono ?_
    case hB => exact (belx)
    rintro e w1 ⟨rfl, hb1⟩
    rw [K0.out]
    have P1 : Box w1 w.heap.size 23 #[.slice Ap np cp] := Box.below ((((show Box ((w).alloc (.cells #[.slice Ap np cp] 23)) w.heap.size 23 #[.slice Ap np cp] from (Box.new w 23 #[.slice Ap np cp])).alloc _).alloc _).alloc _) hb1 (by first | (simp; done) | (simp; omega))
    have S1 : Box w1 (w.heap.size + 1) 23 #[.slice As ns cs] := Box.below (((show Box (((w).alloc (.cells #[.slice Ap np cp] 23)).alloc (.cells #[.slice As ns cs] 23)) (w.heap.size + 1) 23 #[.slice As ns cs] from (by simpa using Box.new ((w).alloc (.cells #[.slice Ap np cp] 23)) 23 #[.slice As ns cs])).alloc _).alloc _) hb1 (by first | (simp; done) | (simp; omega))
    have D1 : Box w1 (w.heap.size + 1 + 1) 3 #[.int .i64 due] := Box.below ((show Box ((((w).alloc (.cells #[.slice Ap np cp] 23)).alloc (.cells #[.slice As ns cs] 23)).alloc (.cells #[.int .i64 due] 3)) (w.heap.size + 1 + 1) 3 #[.int .i64 due] from (by simpa using Box.new (((w).alloc (.cells #[.slice Ap np cp] 23)).alloc (.cells #[.slice As ns cs] 23)) 3 #[.int .i64 due])).alloc _) hb1 (by first | (simp; done) | (simp; omega))
    have X1 : Box w1 (w.heap.size + 1 + 1 + 1) 30 #[.slice none 0 0] := Box.below (show Box (((((w).alloc (.cells #[.slice Ap np cp] 23)).alloc (.cells #[.slice As ns cs] 23)).alloc (.cells #[.int .i64 due] 3)).alloc (.cells #[.slice none 0 0] 30)) (w.heap.size + 1 + 1 + 1) 30 #[.slice none 0 0] from (by simpa using Box.new ((((w).alloc (.cells #[.slice Ap np cp] 23)).alloc (.cells #[.slice As ns cs] 23)).alloc (.cells #[.int .i64 due] 3)) 30 #[.slice none 0 0])) hb1 (by first | (simp; done) | (simp; omega))
    have x0 := X1.cell 0
    have f0 := X1.frozen 0
    have p0 := P1.cell 0
    have s0 := S1.cell 0
    have d0 := D1.cell 0
    have hB1 : Below w.heap.size w w1 := bel_trans (belx) hb1
    have z1 : w.heap.size + 4 ≤ w1.heap.size := by have := hb1.size; simpa using this
    clear hb1
    go_wp2_with fail
    refine (i_every_pub (hp.below hB1) hnp).mono ?_
    rintro e w' ⟨rfl, rfl⟩
    rw [K2.out]
    go_wp2_with fail
    refine (i_every_sec (hs.below hB1) hns).mono ?_
    rintro e w' ⟨rfl, rfl⟩
    rw [K4.out]
    go_wp2_with fail
    refine (i_dueW due _).mono ?_
    rintro e w' ⟨rfl, rfl⟩
    rw [K5.out]
    go_wp2
    have e := (X1.put 0 (.slice none 0 0)).cell 0
    refine bodyPost_ret (v := .tuple #[.agg #[.slice none 0 0], .bool false]) (by simp [results, Try.results11, go_sem, e]) rfl ⟨_, rfl, Own.nil _ _ _ _, bel_put hB1 (by show w.heap.size ≤ w.heap.size + 1 + 1 + 1; omega) _⟩
  have q7 : (80 : Int) ≤ (nd : Int) := by omega
  have q7c : decide ((80 : Int) ≤ (nd : Int)) = true := decide_eq_true (by omega)
  exact absurd ⟨c0, ⟨c1, c2⟩, c3, c4, c5, c6, c7⟩ hno
/-! ### the loop over the route, backwards -/
def wlS (route pubs secs : List Int) (due : Int) (s : List Int × Int) (x : Nat) : List Int × Int := (layB (pubs.getD (route.getD x 0).toNat 0) (secs.getD x 0) s.2 due s.1, route.getD x 0)
def wl (route pubs secs : List Int) (due : Int) (load : List Int) (pre : List Nat) : List Int × Int := pre.foldl (wlS route pubs secs due) (load, 255)
theorem wl_snoc (route pubs secs : List Int) (due : Int) (load : List Int) (pre : List Nat) (x : Nat) : wl route pubs secs due load (pre ++ [x]) = wlS route pubs secs due (wl route pubs secs due load pre) x := by simp [wl]
theorem wl_down {route pubs secs : List Int} {due : Int} {load : List Int} {nr : Nat} (hn : route.length = nr) : ∀ k, k ≤ nr → wl route pubs secs due load (down nr k) = (wrapL pubs due load (route.drop (nr - k)) (secs.drop (nr - k)), (route.drop (nr - k)).getD 0 255) := by
  intro k
  induction k with
  | zero => intro _; rw [Nat.sub_zero, List.drop_of_length_le (Nat.le_of_eq hn)]; rfl
  | succ k ih =>
    intro hk
    have hi : nr - 1 - k < route.length := by omega
    have e1 : nr - 1 - k + 1 = nr - k := by omega
    have e2 : nr - (k + 1) = nr - 1 - k := by omega
    rw [down_succ, wl_snoc, ih (by omega), e2, wrapL_step hi, e1]
    unfold wlS
    refine Prod.ext rfl ?_
    show route.getD (nr - 1 - k) 0 = _
    rw [List.drop_eq_getElem_cons hi, List.getD_cons_zero, getD_lt hi]
/-- What the loop has done when 'pre' have come. -/
def WrI (w : World) (g : Nat) (route pubs secs : List Int) (due : Int) (load : List Int) (Ap As : Option Addr) (np cp ns cs : Nat) (pre : List Nat) (W : World) : Prop :=
  (∃ (V : Value) (A : Option Addr) (n c : Nat), Box W g 75 #[V] ∧ ((V = .iface 73 (.agg #[.slice A n c]) ∧ (wl route pubs secs due load pre).2 = 255) ∨ (V = .iface 81 (.agg #[.int .i64 (wl route pubs secs due load pre).2, .slice A n c]) ∧ 0 ≤ (wl route pubs secs due load pre).2 ∧ (wl route pubs secs due load pre).2 < 8)) ∧ Ints .u8 W W.heap.size A n (wl route pubs secs due load pre).1 ∧ n ≤ 12 * pre.length + 24) ∧
  (Box W w.heap.size 23 #[.slice Ap np cp] ∧ Box W (w.heap.size + 1) 23 #[.slice As ns cs] ∧ Box W (w.heap.size + 1 + 1) 3 #[.int .i64 due] ∧ Box W (w.heap.size + 1 + 1 + 1) 30 #[.slice none 0 0] ∧ g + 1 < W.heap.size)
theorem ints_step {K : IntKind} {W W' : World} {row : Option Nat} (hg : W.grownBy W' row) (hr : ∀ r, row = some r → ∃ o : Obj, W.heap[r]? = some o ∧ o.isCells = false) {A : Option Addr} {n : Nat} {l : List Int} (h : Ints K W W.heap.size A n l) : Ints K W' W'.heap.size A n l := by
  refine ⟨h.1, fun h0 => ?_, h.2.2⟩
  obtain ⟨b, off, e, hb, hc⟩ := h.2.1 h0
  refine ⟨b, off, e, Nat.lt_of_lt_of_le hb hg.size, fun i hi => ?_⟩
  have h1 := hc i hi
  refine (World.cell?_of_block (a := ⟨b, off + i, none⟩) (hg.block b hb (fun e' => ?_))).trans h1
  obtain ⟨o, ho, hc'⟩ := hr b e'.symm
  obtain ⟨o2, ho2, hc2⟩ := cells_of_cell h1
  have ho2' : W.heap[b]? = some o2 := ho2
  rw [ho] at ho2'
  cases ho2'
  rw [hc'] at hc2
  cases hc2
theorem ints_far {W : World} {base g : Nat} {A : Option Addr} {c : Nat} {l : List Int} {u : Value} {e : TypeId} (h : Own .u8 e W base (.slice A l.length c) l) (hg : g < base) : Ints .u8 (W.setCell ⟨g, 0, none⟩ u) (W.setCell ⟨g, 0, none⟩ u).heap.size A l.length l := by
  obtain ⟨A', c', e1, _, hI, _⟩ := (h.far hg 0 u).ints
  injection e1 with e1 e2 e3
  subst e1
  exact hI
theorem cell_far1 {W : World} {b o g : Nat} {v u : Value} (h : W.cell? ⟨b, o, none⟩ = some v) (hb : ¬ b = g) : (W.setCell ⟨g, 0, none⟩ u).cell? ⟨b, o, none⟩ = some v :=
  (World.cell?_setCell_far W ⟨g, 0, none⟩ ⟨b, o, none⟩ u (fun e => hb e.symm)).trans h
theorem wrI_own {m : Nat} (B : Nat) (w : World) (g : Nat) (route pubs secs : List Int) (due : Int) (load : List Int) (Ap As : Option Addr) (np cp ns cs : Nat) : OwnFrom B (fun (pre : List (Fin m)) W => WrI w g route pubs secs due load Ap As np cp ns cs (pre.map Fin.val) W) := by
  rintro s W W' row ⟨⟨V, A, n, c, h1, h2, h3, h4⟩, h5, h6, h7, h8, h9⟩ hg hr
  have hr' : ∀ r, row = some r → ∃ o : Obj, W.heap[r]? = some o ∧ o.isCells = false := fun r e => (hr r e).2
  exact ⟨⟨V, A, n, c, kept_cells hg hr' h1, h2, ints_step hg hr' h3, h4⟩, kept_cells hg hr' h5, kept_cells hg hr' h6, kept_cells hg hr' h7, kept_cells hg hr' h8, Nat.lt_of_lt_of_le h9 hg.size⟩
set_option maxHeartbeats 8000000 in
theorem i_Wrap_t {w : World} {nr cr np cp ns cs nl cl nd cd : Nat} {Ar Ap As Al Ad : Option Addr} {route pubs secs load pad : List Int} {due : Int} (hr : Ints .i64 w w.heap.size Ar nr route) (hnr : nr ≤ 17592186043904) (hrc : nr ≤ cr) (hrm : cr ≤ 9223372036854775807) (hp : Ints .i64 w w.heap.size Ap np pubs) (hnp : np ≤ 17592186043904) (hs : Ints .i64 w w.heap.size As ns secs) (hns : ns ≤ 17592186043904) (hl : Ints .u8 w w.heap.size Al nl load) (hd : Ints .u8 w w.heap.size Ad nd pad) (hdc : nd ≤ cd) (hdm : cd ≤ 9223372036854775807) (ho : WrapOk route pubs secs due load pad) :
    Calls Try.prog 11 #[.slice Ar nr cr, .slice Ap np cp, .slice As ns cs, .int .i64 due, .slice Al nl cl, .slice Ad nd cd] w fun e w' => ∃ v, e = .returned (.tuple #[.agg #[v], .bool (fwrap route pubs secs due load pad).2]) ∧ Own .u8 5 w' w.heap.size v (fwrap route pubs secs due load pad).1 ∧ Below w.heap.size w w' := by
  have l1 := hr.1; have l2 := hs.1; have l0 := hp.1; have l3 := hl.1; have l4 := hd.1
  have HF := Lib.hid (fwrap_t ho)
  rw [HF.out]
  have HR := Lib.hid hr.1
  obtain ⟨c0, ⟨c1, c2⟩, c3, c4, c5, c6, c7⟩ := ho
  have HRT := Lib.hid (show ∀ j, j < nr → ∃ m : Nat, m < 8 ∧ route.getD j 0 = (m : Int) from fun j hj => by
    have := c0.2.1 (route.getD j 0) (by rw [getD_lt (by rw [HR.out]; exact hj)]; exact List.getElem_mem _)
    exact ⟨(route.getD j 0).toNat, by omega, by omega⟩)
  have HPB := Lib.hid (show ∀ j, j < 8 → Pub (pubs.getD j 0) from fun j hj => c2 _ (by rw [getD_lt (by rw [c1]; exact hj)]; exact List.getElem_mem _))
  have HSC := Lib.hid (show ∀ j, j < nr → Sec (secs.getD j 0) from fun j hj => (c4 _ (by rw [getD_lt (by rw [c3, HR.out]; exact hj)]; exact List.getElem_mem _)).sec)
  have HDW := Lib.hid (show wl route pubs secs due load (down nr nr) = (wrapL pubs due load route secs, route.getD 0 255) from by rw [wl_down HR.out nr (Nat.le_refl _), Nat.sub_self, List.drop_zero, List.drop_zero])
  have b1 : nr ≤ 4 := by rw [← l1]; exact c0.1.2
  have b2 : 8 ≤ np := by omega
  have b3 : nr ≤ ns := by omega
  have b4 : nl ≤ 24 := by omega
  have b5 : 80 ≤ nd := by omega
  have q1 : ((np : Int) == 8) = true := by rw [beq_iff_eq]; omega
  have q3 : ((ns : Int) == (nr : Int)) = true := by rw [beq_iff_eq]; omega
  have q6 : (nl : Int) ≤ 24 := by omega
  have q7 : (80 : Int) ≤ (nd : Int) := by omega
  have q7c : decide ((80 : Int) ≤ (nd : Int)) = true := decide_eq_true (by omega)
  have hdue : 0 ≤ due ∧ due ≤ 65535 := c5
  have HDUE := Lib.hid hdue
  have K0 := Lib.hid (decide_eq_true c0)
  have K2 := Lib.hid (show (pubs.all fun x => decide (2 ≤ x ∧ x < 2147483646)) = true from List.all_eq_true.2 fun x hx => decide_eq_true (c2 x hx))
  have K4 := Lib.hid (decide_eq_true c4)
  have K5 := Lib.hid (decide_eq_true c5)
  clear l0 l1 l2 l3 l4 c0 c1 c2 c3 c4 c5 c6 c7 hdue
  refine (callsIn_wide (n := 6)).1 ?_
  refine callsIn_of_wp_marks Try.func11 rfl trivial ?_ rfl
  simp only [Try.ntmps11, List.size_toArray, List.length_cons, List.length_nil, Nat.reduceAdd, Nat.reduceSub, Array.replicate_succ, Array.replicate_zero, List.push_toArray, List.append_toArray, List.nil_append, List.cons_append]
  gi_wp2_with fail
  refine ⟨trivial, ?_⟩
  refine (callsIn_wide.2 (i_RouteOk (reach hr ?hB) hnr hrc hrm)).mono ?_
  case hB => exact (belx)
  rintro e w1 ⟨rfl, hb1⟩
  rw [K0.out]
  have P1 : Box w1 w.heap.size 23 #[.slice Ap np cp] := Box.below ((((show Box ((w).alloc (.cells #[.slice Ap np cp] 23)) w.heap.size 23 #[.slice Ap np cp] from (Box.new w 23 #[.slice Ap np cp])).alloc _).alloc _).alloc _) hb1 (by first | (simp; done) | (simp; omega))
  have S1 : Box w1 (w.heap.size + 1) 23 #[.slice As ns cs] := Box.below (((show Box (((w).alloc (.cells #[.slice Ap np cp] 23)).alloc (.cells #[.slice As ns cs] 23)) (w.heap.size + 1) 23 #[.slice As ns cs] from (by simpa using Box.new ((w).alloc (.cells #[.slice Ap np cp] 23)) 23 #[.slice As ns cs])).alloc _).alloc _) hb1 (by first | (simp; done) | (simp; omega))
  have D1 : Box w1 (w.heap.size + 1 + 1) 3 #[.int .i64 due] := Box.below ((show Box ((((w).alloc (.cells #[.slice Ap np cp] 23)).alloc (.cells #[.slice As ns cs] 23)).alloc (.cells #[.int .i64 due] 3)) (w.heap.size + 1 + 1) 3 #[.int .i64 due] from (by simpa using Box.new (((w).alloc (.cells #[.slice Ap np cp] 23)).alloc (.cells #[.slice As ns cs] 23)) 3 #[.int .i64 due])).alloc _) hb1 (by first | (simp; done) | (simp; omega))
  have X1 : Box w1 (w.heap.size + 1 + 1 + 1) 30 #[.slice none 0 0] := Box.below (show Box (((((w).alloc (.cells #[.slice Ap np cp] 23)).alloc (.cells #[.slice As ns cs] 23)).alloc (.cells #[.int .i64 due] 3)).alloc (.cells #[.slice none 0 0] 30)) (w.heap.size + 1 + 1 + 1) 30 #[.slice none 0 0] from (by simpa using Box.new ((((w).alloc (.cells #[.slice Ap np cp] 23)).alloc (.cells #[.slice As ns cs] 23)).alloc (.cells #[.int .i64 due] 3)) 30 #[.slice none 0 0])) hb1 (by first | (simp; done) | (simp; omega))
  have x0 := X1.cell 0
  have f0 := X1.frozen 0
  have p0 := P1.cell 0
  have s0 := S1.cell 0
  have d0 := D1.cell 0
  have hB1 : Below w.heap.size w w1 := bel_trans (belx) hb1
  have z1 : w.heap.size + 4 ≤ w1.heap.size := by have := hb1.size; simpa using this
  clear hb1
  gi_wp2_with fail
  refine ⟨trivial, ?_⟩
  refine (callsIn_wide.2 (i_every_pub (hp.below hB1) hnp)).mono ?_
  rintro e w' ⟨rfl, rfl⟩
  rw [K2.out]
  gi_wp2_with fail
  refine ⟨trivial, ?_⟩
  refine (callsIn_wide.2 (i_every_sec (hs.below hB1) hns)).mono ?_
  rintro e w' ⟨rfl, rfl⟩
  rw [K4.out]
  gi_wp2_with fail
  refine ⟨trivial, ?_⟩
  refine (callsIn_wide.2 (i_dueW due _)).mono ?_
  rintro e w' ⟨rfl, rfl⟩
  rw [K5.out]
  gi_wp2_with (refine ⟨trivial, ?_⟩; gi_at_call 50; refine (callsIn_wide.2 (i_Backward _ _ _ _)).mono ?_; rintro e w' ⟨rfl, rfl⟩)
  have L0 : Box ((w1.alloc (.cells #[.iface 73 (.agg #[.slice Al nl cl])] 75)).alloc (.cells #[.slice Ar nr cr] 23)) w1.heap.size 75 #[.iface 73 (.agg #[.slice Al nl cl])] := (Box.new _ _ _).alloc _
  have R0 : Box ((w1.alloc (.cells #[.iface 73 (.agg #[.slice Al nl cl])] 75)).alloc (.cells #[.slice Ar nr cr] 23)) (w1.heap.size + 1) 23 #[.slice Ar nr cr] := by simpa using Box.new (w1.alloc (.cells #[.iface 73 (.agg #[.slice Al nl cl])] 75)) 23 #[.slice Ar nr cr]
  have P0 := (P1.alloc (.cells #[.iface 73 (.agg #[.slice Al nl cl])] 75)).alloc (.cells #[.slice Ar nr cr] 23)
  have S0 := (S1.alloc (.cells #[.iface 73 (.agg #[.slice Al nl cl])] 75)).alloc (.cells #[.slice Ar nr cr] 23)
  have D0 := (D1.alloc (.cells #[.iface 73 (.agg #[.slice Al nl cl])] 75)).alloc (.cells #[.slice Ar nr cr] 23)
  have X0 := (X1.alloc (.cells #[.iface 73 (.agg #[.slice Al nl cl])] 75)).alloc (.cells #[.slice Ar nr cr] 23)
  have hB0 : Below w.heap.size w ((w1.alloc (.cells #[.iface 73 (.agg #[.slice Al nl cl])] 75)).alloc (.cells #[.slice Ar nr cr] 23)) := bel_alloc (bel_alloc hB1 _) _
  have hs0 : ((w1.alloc (.cells #[.iface 73 (.agg #[.slice Al nl cl])] 75)).alloc (.cells #[.slice Ar nr cr] 23)).heap.size = w1.heap.size + 2 := by simp
  obtain ⟨W0, hW0⟩ : ∃ W0, ((w1.alloc (.cells #[.iface 73 (.agg #[.slice Al nl cl])] 75)).alloc (.cells #[.slice Ar nr cr] 23)) = W0 := ⟨_, rfl⟩
  (try simp only [World.size_alloc])
  rw [hW0] at L0 R0 P0 S0 D0 X0 hB0 hs0 ⊢
  have hs2 : w1.heap.size + 2 ≤ W0.heap.size := by omega
  have h00 : WrI w w1.heap.size route pubs secs due load Ap As np cp ns cs [] W0 := ⟨⟨_, Al, nl, cl, L0, .inl ⟨rfl, rfl⟩, reach hl hB0, by omega⟩, P0, S0, D0, X0, by omega⟩
  have hcr0 : 0 < nr → ∃ b off, Ar = some ⟨b, off, none⟩ ∧ b < w.heap.size ∧ ∀ j, j < nr → W0.cell? ⟨b, off + j, none⟩ = some (.int .i64 (route.getD j 0)) := fun h => by
    obtain ⟨b, off, e, hb, hc⟩ := hr.2.1 h
    exact ⟨b, off, e, hb, fun j hj => cell_bel hB0 (hc j hj)⟩
  have HCR := Lib.hid hcr0
  obtain ⟨g, hg⟩ : ∃ g, w1.heap.size = g := ⟨_, rfl⟩
  rw [hg] at z1 R0 hs2 h00 ⊢
  have HB0 := Lib.hid hB0
  have hR0c := R0.cell 0
  have hR0s := R0.size
  clear hW0 L0 P0 S0 D0 X0 hs0 hB1 x0 f0 p0 s0 d0 P1 S1 D1 X1 hg hcr0 hB0 R0
  have hmx : Try.prog.follows .mixedOrders = true := by kernel_rfl
  refine wpIn_rangeFunc_ownG rfl (by omega) (gf := 89) (lb := #[.pointer (some ⟨g + 1, 0, none⟩)]) rfl trivial (enters_of Try.func89 (by kernel_rfl) rfl)
    (encs := fun x : Fin nr => #[.int .i64 (x.val : Int), .int .i64 (route.getD x.val 0)]) (Kp := fun W W' => Below w.heap.size W W' ∧ W'.heap[g + 1]? = W.heap[g + 1]?) (S := fun ys => ys.map Fin.val = down nr nr) (Sp := fun _ => True) (N := nr) (w0 := W0)
    (fun l J Jx W hW _ _ hY h0 => backward1_in Fence.wide _ trivial rfl (by omega) l (g + 1) w.heap.size nr cr Ar route (by omega) J Jx hY W ((hW.cell (p := ⟨g + 1, 0, none⟩) hR0s).trans hR0c) (fun hp => by
      obtain ⟨b, off, e, hb, hc⟩ := HCR.out hp
      exact ⟨b, off, e, hb, fun j hj => (hW.cell (p := ⟨b, off + j, none⟩) (by show b < _; have := HB0.out.size; omega)).trans (hc j hj)⟩) h0)
    (fun h h' => ⟨h.1.trans h'.1, h'.2.trans h.2⟩) (fun W l o o' hl hlo hc hw => ⟨belowK_b (w := W0) (by omega) W l o o' hl hlo hc hw, World.putObj_heap_other (by omega)⟩) (Below.refl _ _) (fun _ => rfl)
    (fun pre W => WrI w g route pubs secs due load Ap As np cp ns cs (pre.map Fin.val) W ∧ Below w.heap.size w W)
    (fun _ _ _ => False)
    (OwnFrom.and (wrI_own _ w g route pubs secs due load Ap As np cp ns cs) (ownFrom_below (Nat.le_refl _) (by omega)))
    (fun _ _ _ _ _ hs _ _ => hs)
    ⟨h00, HB0.out⟩ ?a1 ?assign ?body ?done ?stop
  case assign =>
    intro l x W K hK
    gi_wp2
    exact hK
  case body =>
    rintro l' pre ⟨x, hx⟩ W ⟨⟨⟨V, A, n, c, hV, hcase, hI, hnb⟩, hP, hS, hD, hX, hgz⟩, hB⟩ hlt
    obtain ⟨m, hm8, hm⟩ := HRT.out x hx
    obtain ⟨bp, offp, rfl, hbp, hcp, -⟩ := hp.at_ (show m < np by omega)
    obtain ⟨bs, offs, rfl, hbs, hcs, -⟩ := hs.at_ (show x < ns by omega)
    have hpb := HPB.out m hm8
    have hsc := HSC.out x hx
    have HWL := Lib.hid (wl_snoc route pubs secs due load (pre.map Fin.val) x)
    have HM := Lib.hid hm
    have hm2 : (route[x]?).getD 0 = (m : Int) := by rw [← List.getD_eq_getElem?_getD]; exact hm
    dsimp only
    rw [hm2]
    clear hm2
    obtain ⟨y, hy⟩ : ∃ y, pubs.getD m 0 = y := ⟨_, rfl⟩
    obtain ⟨z, hz⟩ : ∃ z, secs.getD x 0 = z := ⟨_, rfl⟩
    rw [hy] at hcp hpb
    rw [hz] at hcs hsc
    have HY := Lib.hid hy
    have HZ := Lib.hid hz
    have hcp1 : W.cell? ⟨bp, offp + m, none⟩ = some (.int .i64 y) := cell_bel hB hcp
    have hcs1 : W.cell? ⟨bs, offs + x, none⟩ = some (.int .i64 z) := cell_bel hB hcs
    obtain ⟨L, hL⟩ : ∃ L, (wl route pubs secs due load (pre.map Fin.val)).1 = L := ⟨_, rfl⟩
    obtain ⟨nx, hnx⟩ : ∃ nx, (wl route pubs secs due load (pre.map Fin.val)).2 = nx := ⟨_, rfl⟩
    rw [hL] at hI
    rw [hnx] at hcase
    have HST := Lib.hid (show wl route pubs secs due load ((pre ++ [(⟨x, hx⟩ : Fin nr)]).map Fin.val) = (layB y z nx due L, (m : Int)) from by
      rw [List.map_append, List.map_singleton, HWL.out]
      unfold wlS
      rw [HM.out, Int.toNat_natCast, HY.out, HZ.out, hL, hnx])
    have hpc := hP.cell 0; have hsc0 := hS.cell 0; have hdc0 := hD.cell 0; have hvc := hV.cell 0; have hvf := hV.frozen 0
    have p1 : (0 : Int) ≤ (x : Int) := Int.natCast_nonneg _
    have p2 : (x : Int) < (ns : Int) := by omega
    have p3 : (0 : Int) ≤ (m : Int) := Int.natCast_nonneg _
    have p4 : (m : Int) < (np : Int) := by omega
    have hn100 : n ≤ 100 := by rw [List.length_map] at hnb; omega
    have zV := hV.size
    clear hm hy hz hL hnx hcp hcs h00
    rcases hcase with ⟨rfl, rfl⟩ | ⟨rfl, hn0, hn8⟩
    · gi_wp2
      refine any_in_round _ _ (by kernel_rfl) (by rintro ⟨_, _, h⟩; exact h) hmx (wpAny_of_held (S := (fun w' => w'.cell? ⟨w.heap.size, 0, none⟩ = some (.slice (some ⟨bp, offp, none⟩) np cp) ∧ w'.cell? ⟨w.heap.size + 1, 0, none⟩ = some (.slice (some ⟨bs, offs, none⟩) ns cs) ∧ w'.cell? ⟨w.heap.size + 1 + 1, 0, none⟩ = some (.int .i64 due) ∧ w'.cell? ⟨bp, offp + m, none⟩ = some (.int .i64 y) ∧ w'.cell? ⟨bs, offs + x, none⟩ = some (.int .i64 z))) _ _ _ _ ?_)
      have hHeld : (fun w' => w'.cell? ⟨w.heap.size, 0, none⟩ = some (.slice (some ⟨bp, offp, none⟩) np cp) ∧ w'.cell? ⟨w.heap.size + 1, 0, none⟩ = some (.slice (some ⟨bs, offs, none⟩) ns cs) ∧ w'.cell? ⟨w.heap.size + 1 + 1, 0, none⟩ = some (.int .i64 due) ∧ w'.cell? ⟨bp, offp + m, none⟩ = some (.int .i64 y) ∧ w'.cell? ⟨bs, offs + x, none⟩ = some (.int .i64 z)) W.drew := by exact ⟨hpc, hsc0, hdc0, hcp1, hcs1⟩
      refine wpAnyH_take (i := 0) (oi := ⟨some 64, _, _, _, _, _⟩) (v := ?v1) rfl (by kernel_rfl) (by kernel_rfl) (by kernel_rfl) (fun _ _ _ h => h) (Or.inl ⟨by rfl, ?hy1⟩) (by assumption) ?_
      case hy1 => (intro w hSw; (try dsimp only at hSw); go_simp; try (with_reducible rfl))
      (try simp only [Act.put, qa_, qb_, qc_])
      refine wpAnyH_take (i := 2) (oi := ⟨some 66, _, _, _, _, _⟩) (v := ?v2) rfl (by kernel_rfl) (by kernel_rfl) (by kernel_rfl) (fun _ _ _ h => h) (Or.inl ⟨by rfl, ?hy2⟩) (by assumption) ?_
      case hy2 => (intro w hSw; (try dsimp only at hSw); go_simp; try (with_reducible rfl))
      (try simp only [Act.put, qa_, qb_, qc_])
      refine wpAnyH_take (i := 3) (oi := ⟨some 67, _, _, _, _, _⟩) (v := ?v3) rfl (by kernel_rfl) (by kernel_rfl) (by kernel_rfl) (fun _ _ _ h => h) (Or.inl ⟨by rfl, ?hy3⟩) (by assumption) ?_
      case hy3 => (intro w hSw; (try dsimp only at hSw); go_simp; try (with_reducible rfl))
      (try simp only [Act.put, qa_, qb_, qc_])
      refine wpAnyH_take (i := 4) (oi := ⟨some 68, _, _, _, _, _⟩) (v := ?v4) rfl (by kernel_rfl) (by kernel_rfl) (by kernel_rfl) (fun _ _ _ h => h) (Or.inl ⟨by rfl, ?hy4⟩) (by assumption) ?_
      case hy4 => (intro w hSw; (try dsimp only at hSw); go_simp; try (with_reducible rfl))
      (try simp only [Act.put, qa_, qb_, qc_])
      refine wpAnyH_take (i := 5) (oi := ⟨some 69, _, _, _, _, _⟩) (v := ?v5) rfl (by kernel_rfl) (by kernel_rfl) (by kernel_rfl) (fun _ _ _ h => h) (Or.inl ⟨by rfl, ?hy5⟩) (by assumption) ?_
      case hy5 => (intro w hSw; (try dsimp only at hSw); go_simp; try (with_reducible rfl))
      (try simp only [Act.put, qa_, qb_, qc_])
      refine wpAnyH_take (i := 6) (oi := ⟨some 70, _, _, _, _, _⟩) (v := ?v6) rfl (by kernel_rfl) (by kernel_rfl) (by kernel_rfl) (fun _ _ _ h => h) (Or.inl ⟨by rfl, ?hy6⟩) (by assumption) ?_
      case hy6 => (intro w hSw; (try dsimp only at hSw); go_simp; try (with_reducible rfl))
      (try simp only [Act.put, qa_, qb_, qc_])
      refine wpAnyH_take (i := 7) (oi := ⟨some 71, _, _, _, _, _⟩) (v := ?v7) rfl (by kernel_rfl) (by kernel_rfl) (by kernel_rfl) (fun _ _ _ h => h) (Or.inl ⟨by rfl, ?hy7⟩) (by assumption) ?_
      case hy7 => (intro w hSw; (try dsimp only at hSw); go_simp; try (with_reducible rfl))
      (try simp only [Act.put, qa_, qb_, qc_])
      refine wpAnyH_take (i := 8) (oi := ⟨some 72, _, _, _, _, _⟩) (v := ?v8) rfl (by kernel_rfl) (by kernel_rfl) (by kernel_rfl) (fun _ _ _ h => h) (Or.inl ⟨by rfl, ?hy8⟩) (by assumption) ?_
      case hy8 => (intro w hSw; (try dsimp only at hSw); go_simp; try (with_reducible rfl))
      (try simp only [Act.put, qa_, qb_, qc_])
      refine wpAnyH_take (i := 9) (oi := ⟨some 73, _, _, _, _, _⟩) (v := ?v9) rfl (by kernel_rfl) (by kernel_rfl) (by kernel_rfl) (fun _ _ _ h => h) (Or.inl ⟨by rfl, ?hy9⟩) (by assumption) ?_
      case hy9 => (intro w hSw; (try dsimp only at hSw); go_simp; try (with_reducible rfl))
      (try simp only [Act.put, qa_, qb_, qc_])
      refine wpAnyH_take (i := 10) (oi := ⟨some 74, _, _, _, _, _⟩) (v := ?v10) rfl (by kernel_rfl) (by kernel_rfl) (by kernel_rfl) (fun _ _ _ h => h) (Or.inl ⟨by rfl, ?hy10⟩) (by assumption) ?_
      case hy10 => (intro w hSw; (try dsimp only at hSw); go_simp; try (with_reducible rfl))
      (try simp only [Act.put, qa_, qb_, qc_])
      refine wpAnyH_ready (rs := [1]) (by kernel_rfl) (by simp) ?_
      refine AllReadyH.cons rfl (fun K hK => ?_) ?_
      · go_simp
        refine hK.out _ _ (by exact ⟨hpc, hsc0, hdc0, hcp1, hcs1⟩) (fun hHeld => ?_)
        clear hK K
        (try simp only [Act.put, qa_, qb_, qc_])
        refine wpAnyH_ready (rs := [11]) (by kernel_rfl) (by simp) ?_
        refine AllReadyH.cons rfl (fun K hK => ?_) ?_
        · go_simp
          go_at_call 51
          refine (i_encoded_e due z y (reach hI ?hB) hn100 hsc hpb HDUE.out).mono ?_
          case hB => exact (belx)
          rintro e W2 ⟨v2, rfl, hO2, hb2⟩
          have hs2 : Below W.heap.size W W2 := bel_trans (belx) hb2
          have V2 := hV.below hs2 zV
          have P2 := hP.below hs2 hP.size
          have S2 := hS.below hs2 hS.size
          have D2 := hD.below hs2 hD.size
          have X2 := hX.below hs2 hX.size
          have v0 := V2.cell 0
          have vf := V2.frozen 0
          have hcp2 := cell_bel hs2 hcp1
          have hcs2 := cell_bel hs2 hcs1
          obtain ⟨A2, c2, rfl, -, hI2, -⟩ := hO2.ints
          go_wp2_with fail
          refine hK.out _ _ (by exact ⟨P2.cell 0, S2.cell 0, D2.cell 0, hcp2, hcs2⟩) (fun hHeld => ?_)
          clear hK K
          (try simp only [Act.put, qa_, qb_, qc_])
          refine wpAnyH_take (i := 12) (oi := ⟨some 76, _, _, _, _, _⟩) (v := ?v11) rfl (by kernel_rfl) (by kernel_rfl) (by kernel_rfl) (fun _ _ _ h => h) (Or.inl ⟨by rfl, ?hy11⟩) (by assumption) ?_
          case hy11 => (intro w hSw; (try dsimp only at hSw); go_simp; try (with_reducible rfl))
          (try simp only [Act.put, qa_, qb_, qc_])
          refine wpAnyH_ready (rs := [13]) (by kernel_rfl) (by simp) ?_
          refine AllReadyH.cons rfl (fun K hK => ?_) ?_
          · go_simp
            refine hK.out _ _ (by exact ⟨P2.cell 0, S2.cell 0, D2.cell 0, hcp2, hcs2⟩) (fun hHeld => ?_)
            clear hK K
            (try simp only [Act.put, qa_, qb_, qc_])
            refine wpAnyH_ready (rs := [14]) (by kernel_rfl) (by simp) ?_
            refine AllReadyH.cons rfl (fun K hK => ?_) ?_
            · go_simp
              refine hK.out _ _ (by exact ⟨(P2.far (p := ⟨g, 0, none⟩) (by show ¬ w.heap.size = g; omega) _).cell 0, (S2.far (p := ⟨g, 0, none⟩) (by show ¬ w.heap.size + 1 = g; omega) _).cell 0, (D2.far (p := ⟨g, 0, none⟩) (by show ¬ w.heap.size + 1 + 1 = g; omega) _).cell 0, cell_far1 hcp2 (by show ¬ bp = g; omega), cell_far1 hcs2 (by show ¬ bs = g; omega)⟩) (fun hHeld => ?_)
              clear hK K
              (try simp only [Act.put, qa_, qb_, qc_])
              refine wpAnyH_done (by kernel_rfl) ?_ _
              (try go_wp2)
              have hlen : (layB y z 255 due L).length ≤ 12 * ((pre ++ [(⟨x, hx⟩ : Fin nr)]).map Fin.val).length + 24 := by rw [layB_len, hI.1]; rw [List.length_map] at hnb ⊢; rw [List.length_append, List.length_singleton]; omega
              refine ⟨?_, ⟨?_, ?_⟩, ⟨⟨_, A2, _, c2, V2.put 0 _, .inr ⟨by rw [HST.out], by rw [HST.out]; exact p3, by rw [HST.out]; show (m : Int) < 8; omega⟩, by rw [HST.out]; exact ints_far hO2 zV, hlen⟩, P2.far (p := ⟨g, 0, none⟩) (by show ¬ w.heap.size = g; omega) _, S2.far (p := ⟨g, 0, none⟩) (by show ¬ w.heap.size + 1 = g; omega) _, D2.far (p := ⟨g, 0, none⟩) (by show ¬ w.heap.size + 1 + 1 = g; omega) _, X2.far (p := ⟨g, 0, none⟩) (by show ¬ w.heap.size + 1 + 1 + 1 = g; omega) _, by have := hs2.size; simp [World.setCell]; omega⟩, ?_⟩
              · exact KeepsFrom.trans ⟨hs2.size, fun i o _ hi _ => (hs2.block i (Array.getElem?_eq_some_iff.1 hi).1).trans hi⟩ ((KeepsOthers.setCell _ _ _).from _)
              · exact (hs2.mono (by have := hB.size; omega)).trans (Below.setCell (Below.refl _ _) (p := ⟨g, 0, none⟩) (by show w.heap.size ≤ g; omega) _)
              · exact (Below.heap_setCell W2 ⟨g, 0, none⟩ _ (g + 1) (by simp)).trans (hs2.block (g + 1) (by omega))
              · exact (hB.trans (hs2.mono (by have := hB.size; omega))).trans (Below.setCell (Below.refl _ _) (p := ⟨g, 0, none⟩) (by show w.heap.size ≤ g; omega) _)
            exact AllReadyH.nil
          exact AllReadyH.nil
        exact AllReadyH.nil
      exact AllReadyH.nil
    · gi_wp2
      refine any_in_round _ _ (by kernel_rfl) (by rintro ⟨_, _, h⟩; exact h) hmx (wpAny_of_held (S := (fun w' => w'.cell? ⟨w.heap.size, 0, none⟩ = some (.slice (some ⟨bp, offp, none⟩) np cp) ∧ w'.cell? ⟨w.heap.size + 1, 0, none⟩ = some (.slice (some ⟨bs, offs, none⟩) ns cs) ∧ w'.cell? ⟨w.heap.size + 1 + 1, 0, none⟩ = some (.int .i64 due) ∧ w'.cell? ⟨bp, offp + m, none⟩ = some (.int .i64 y) ∧ w'.cell? ⟨bs, offs + x, none⟩ = some (.int .i64 z))) _ _ _ _ ?_)
      have hHeld : (fun w' => w'.cell? ⟨w.heap.size, 0, none⟩ = some (.slice (some ⟨bp, offp, none⟩) np cp) ∧ w'.cell? ⟨w.heap.size + 1, 0, none⟩ = some (.slice (some ⟨bs, offs, none⟩) ns cs) ∧ w'.cell? ⟨w.heap.size + 1 + 1, 0, none⟩ = some (.int .i64 due) ∧ w'.cell? ⟨bp, offp + m, none⟩ = some (.int .i64 y) ∧ w'.cell? ⟨bs, offs + x, none⟩ = some (.int .i64 z)) W.drew := by exact ⟨hpc, hsc0, hdc0, hcp1, hcs1⟩
      refine wpAnyH_take (i := 0) (oi := ⟨some 64, _, _, _, _, _⟩) (v := ?v12) rfl (by kernel_rfl) (by kernel_rfl) (by kernel_rfl) (fun _ _ _ h => h) (Or.inl ⟨by rfl, ?hy12⟩) (by assumption) ?_
      case hy12 => (intro w hSw; (try dsimp only at hSw); go_simp; try (with_reducible rfl))
      (try simp only [Act.put, qa_, qb_, qc_])
      refine wpAnyH_take (i := 2) (oi := ⟨some 66, _, _, _, _, _⟩) (v := ?v13) rfl (by kernel_rfl) (by kernel_rfl) (by kernel_rfl) (fun _ _ _ h => h) (Or.inl ⟨by rfl, ?hy13⟩) (by assumption) ?_
      case hy13 => (intro w hSw; (try dsimp only at hSw); go_simp; try (with_reducible rfl))
      (try simp only [Act.put, qa_, qb_, qc_])
      refine wpAnyH_take (i := 3) (oi := ⟨some 67, _, _, _, _, _⟩) (v := ?v14) rfl (by kernel_rfl) (by kernel_rfl) (by kernel_rfl) (fun _ _ _ h => h) (Or.inl ⟨by rfl, ?hy14⟩) (by assumption) ?_
      case hy14 => (intro w hSw; (try dsimp only at hSw); go_simp; try (with_reducible rfl))
      (try simp only [Act.put, qa_, qb_, qc_])
      refine wpAnyH_take (i := 4) (oi := ⟨some 68, _, _, _, _, _⟩) (v := ?v15) rfl (by kernel_rfl) (by kernel_rfl) (by kernel_rfl) (fun _ _ _ h => h) (Or.inl ⟨by rfl, ?hy15⟩) (by assumption) ?_
      case hy15 => (intro w hSw; (try dsimp only at hSw); go_simp; try (with_reducible rfl))
      (try simp only [Act.put, qa_, qb_, qc_])
      refine wpAnyH_take (i := 5) (oi := ⟨some 69, _, _, _, _, _⟩) (v := ?v16) rfl (by kernel_rfl) (by kernel_rfl) (by kernel_rfl) (fun _ _ _ h => h) (Or.inl ⟨by rfl, ?hy16⟩) (by assumption) ?_
      case hy16 => (intro w hSw; (try dsimp only at hSw); go_simp; try (with_reducible rfl))
      (try simp only [Act.put, qa_, qb_, qc_])
      refine wpAnyH_take (i := 6) (oi := ⟨some 70, _, _, _, _, _⟩) (v := ?v17) rfl (by kernel_rfl) (by kernel_rfl) (by kernel_rfl) (fun _ _ _ h => h) (Or.inl ⟨by rfl, ?hy17⟩) (by assumption) ?_
      case hy17 => (intro w hSw; (try dsimp only at hSw); go_simp; try (with_reducible rfl))
      (try simp only [Act.put, qa_, qb_, qc_])
      refine wpAnyH_take (i := 7) (oi := ⟨some 71, _, _, _, _, _⟩) (v := ?v18) rfl (by kernel_rfl) (by kernel_rfl) (by kernel_rfl) (fun _ _ _ h => h) (Or.inl ⟨by rfl, ?hy18⟩) (by assumption) ?_
      case hy18 => (intro w hSw; (try dsimp only at hSw); go_simp; try (with_reducible rfl))
      (try simp only [Act.put, qa_, qb_, qc_])
      refine wpAnyH_take (i := 8) (oi := ⟨some 72, _, _, _, _, _⟩) (v := ?v19) rfl (by kernel_rfl) (by kernel_rfl) (by kernel_rfl) (fun _ _ _ h => h) (Or.inl ⟨by rfl, ?hy19⟩) (by assumption) ?_
      case hy19 => (intro w hSw; (try dsimp only at hSw); go_simp; try (with_reducible rfl))
      (try simp only [Act.put, qa_, qb_, qc_])
      refine wpAnyH_take (i := 9) (oi := ⟨some 73, _, _, _, _, _⟩) (v := ?v20) rfl (by kernel_rfl) (by kernel_rfl) (by kernel_rfl) (fun _ _ _ h => h) (Or.inl ⟨by rfl, ?hy20⟩) (by assumption) ?_
      case hy20 => (intro w hSw; (try dsimp only at hSw); go_simp; try (with_reducible rfl))
      (try simp only [Act.put, qa_, qb_, qc_])
      refine wpAnyH_take (i := 10) (oi := ⟨some 74, _, _, _, _, _⟩) (v := ?v21) rfl (by kernel_rfl) (by kernel_rfl) (by kernel_rfl) (fun _ _ _ h => h) (Or.inl ⟨by rfl, ?hy21⟩) (by assumption) ?_
      case hy21 => (intro w hSw; (try dsimp only at hSw); go_simp; try (with_reducible rfl))
      (try simp only [Act.put, qa_, qb_, qc_])
      refine wpAnyH_ready (rs := [1]) (by kernel_rfl) (by simp) ?_
      refine AllReadyH.cons rfl (fun K hK => ?_) ?_
      · go_simp
        refine hK.out _ _ (by exact ⟨hpc, hsc0, hdc0, hcp1, hcs1⟩) (fun hHeld => ?_)
        clear hK K
        (try simp only [Act.put, qa_, qb_, qc_])
        refine wpAnyH_ready (rs := [11]) (by kernel_rfl) (by simp) ?_
        refine AllReadyH.cons rfl (fun K hK => ?_) ?_
        · go_simp
          go_at_call 51
          refine (i_encoded_r nx ⟨hn0, by omega⟩ due z y (reach hI ?hB) hn100 hsc hpb HDUE.out).mono ?_
          case hB => exact (belx)
          rintro e W2 ⟨v2, rfl, hO2, hb2⟩
          have hs2 : Below W.heap.size W W2 := bel_trans (belx) hb2
          have V2 := hV.below hs2 zV
          have P2 := hP.below hs2 hP.size
          have S2 := hS.below hs2 hS.size
          have D2 := hD.below hs2 hD.size
          have X2 := hX.below hs2 hX.size
          have v0 := V2.cell 0
          have vf := V2.frozen 0
          have hcp2 := cell_bel hs2 hcp1
          have hcs2 := cell_bel hs2 hcs1
          obtain ⟨A2, c2, rfl, -, hI2, -⟩ := hO2.ints
          go_wp2_with fail
          refine hK.out _ _ (by exact ⟨P2.cell 0, S2.cell 0, D2.cell 0, hcp2, hcs2⟩) (fun hHeld => ?_)
          clear hK K
          (try simp only [Act.put, qa_, qb_, qc_])
          refine wpAnyH_take (i := 12) (oi := ⟨some 76, _, _, _, _, _⟩) (v := ?v22) rfl (by kernel_rfl) (by kernel_rfl) (by kernel_rfl) (fun _ _ _ h => h) (Or.inl ⟨by rfl, ?hy22⟩) (by assumption) ?_
          case hy22 => (intro w hSw; (try dsimp only at hSw); go_simp; try (with_reducible rfl))
          (try simp only [Act.put, qa_, qb_, qc_])
          refine wpAnyH_ready (rs := [13]) (by kernel_rfl) (by simp) ?_
          refine AllReadyH.cons rfl (fun K hK => ?_) ?_
          · go_simp
            refine hK.out _ _ (by exact ⟨P2.cell 0, S2.cell 0, D2.cell 0, hcp2, hcs2⟩) (fun hHeld => ?_)
            clear hK K
            (try simp only [Act.put, qa_, qb_, qc_])
            refine wpAnyH_ready (rs := [14]) (by kernel_rfl) (by simp) ?_
            refine AllReadyH.cons rfl (fun K hK => ?_) ?_
            · go_simp
              refine hK.out _ _ (by exact ⟨(P2.far (p := ⟨g, 0, none⟩) (by show ¬ w.heap.size = g; omega) _).cell 0, (S2.far (p := ⟨g, 0, none⟩) (by show ¬ w.heap.size + 1 = g; omega) _).cell 0, (D2.far (p := ⟨g, 0, none⟩) (by show ¬ w.heap.size + 1 + 1 = g; omega) _).cell 0, cell_far1 hcp2 (by show ¬ bp = g; omega), cell_far1 hcs2 (by show ¬ bs = g; omega)⟩) (fun hHeld => ?_)
              clear hK K
              (try simp only [Act.put, qa_, qb_, qc_])
              refine wpAnyH_done (by kernel_rfl) ?_ _
              (try go_wp2)
              have hlen : (layB y z nx due L).length ≤ 12 * ((pre ++ [(⟨x, hx⟩ : Fin nr)]).map Fin.val).length + 24 := by rw [layB_len, hI.1]; rw [List.length_map] at hnb ⊢; rw [List.length_append, List.length_singleton]; omega
              refine ⟨?_, ⟨?_, ?_⟩, ⟨⟨_, A2, _, c2, V2.put 0 _, .inr ⟨by rw [HST.out], by rw [HST.out]; exact p3, by rw [HST.out]; show (m : Int) < 8; omega⟩, by rw [HST.out]; exact ints_far hO2 zV, hlen⟩, P2.far (p := ⟨g, 0, none⟩) (by show ¬ w.heap.size = g; omega) _, S2.far (p := ⟨g, 0, none⟩) (by show ¬ w.heap.size + 1 = g; omega) _, D2.far (p := ⟨g, 0, none⟩) (by show ¬ w.heap.size + 1 + 1 = g; omega) _, X2.far (p := ⟨g, 0, none⟩) (by show ¬ w.heap.size + 1 + 1 + 1 = g; omega) _, by have := hs2.size; simp [World.setCell]; omega⟩, ?_⟩
              · exact KeepsFrom.trans ⟨hs2.size, fun i o _ hi _ => (hs2.block i (Array.getElem?_eq_some_iff.1 hi).1).trans hi⟩ ((KeepsOthers.setCell _ _ _).from _)
              · exact (hs2.mono (by have := hB.size; omega)).trans (Below.setCell (Below.refl _ _) (p := ⟨g, 0, none⟩) (by show w.heap.size ≤ g; omega) _)
              · exact (Below.heap_setCell W2 ⟨g, 0, none⟩ _ (g + 1) (by simp)).trans (hs2.block (g + 1) (by omega))
              · exact (hB.trans (hs2.mono (by have := hB.size; omega))).trans (Below.setCell (Below.refl _ _) (p := ⟨g, 0, none⟩) (by show w.heap.size ≤ g; omega) _)
            exact AllReadyH.nil
          exact AllReadyH.nil
        exact AllReadyH.nil
      exact AllReadyH.nil
  case done =>
    rintro D ys W hD hS' ⟨⟨⟨V, A, n, c, hV, hcase, hI, hnb⟩, hP, hS, hD1, hX, hgz⟩, hB⟩ hK
    rw [hS', HDW.out] at hI hcase
    have hn80 : n ≤ 80 := by
      rw [List.length_map] at hnb
      have e := congrArg List.length hS'
      rw [List.length_map] at e
      have e2 : (down nr nr).length = nr := by simp [down]
      omega
    clear hnb hS' h00
    obtain ⟨L, hL⟩ : ∃ L, wrapL pubs due load route secs = L := ⟨_, rfl⟩
    obtain ⟨nx, hnx⟩ : ∃ nx, route.getD 0 255 = nx := ⟨_, rfl⟩
    have HLX := Lib.hid hL
    dsimp only at hI hcase
    rw [hL] at hI
    rw [hnx] at hcase
    clear hL hnx
    have hvc := hV.cell 0
    have hxs := hX.size
    have hDs : D < W.heap.size := (Array.getElem?_eq_some_iff.1 hK).1
    rcases hcase with ⟨rfl, -⟩ | ⟨rfl, -, -⟩
    · have hm1 : ∀ W : World, (method 265 73 (.agg #[.slice A n c]) "loop.example/g00611/impl.content").run Try.prog W = .ok (159, .agg #[.slice A n c]) W := fun _ => by kernel_rfl
      gi_wp2_with fail
      refine ⟨trivial, ?_⟩
      refine (callsIn_wide.2 (i_exit_content A n c _)).mono ?_
      rintro e W2 ⟨rfl, hb2⟩
      gi_wp2_with fail
      refine ⟨trivial, ?_⟩
      refine (callsIn_wide.2 (i_padded (reach hI hb2) (reach hd (bel_trans hB hb2)) hn80 b5 hdc hdm)).mono ?_
      rintro e W3 ⟨v3, rfl, hO3, hb3⟩
      have hs3 : Below W.heap.size W W3 := bel_trans hb2 hb3
      have X3 := hX.below hs3 hxs
      have x3 := X3.cell 0; have f3 := X3.frozen 0
      have hB3 : Below w.heap.size w W3 := bel_trans hB hs3
      obtain ⟨LL, hLL⟩ : ∃ LL, padL L pad = LL := ⟨_, rfl⟩
      have HLL := Lib.hid hLL
      rw [hLL] at hO3
      clear hLL
      obtain ⟨A3, c3, rfl, -⟩ := hO3.ints
      have ex := (X3.put 0 (.slice A3 LL.length c3)).cell 0
      have z2 := hb2.size
      have z3 := hb3.size
      have zB := hB.size
      gi_wp2
      have hK3 : (W3.setCell ⟨w.heap.size + 1 + 1 + 1, 0, none⟩ (.slice A3 LL.length c3)).heap[D]? = some (.deferred (some [])) := (Below.heap_setCell W3 ⟨w.heap.size + 1 + 1 + 1, 0, none⟩ _ D (by show ¬ D = w.heap.size + 1 + 1 + 1; omega)).trans ((hs3.block D hDs).trans hK)
      have ex2 := hK3
      refine ⟨by simp, .inl ⟨_, _, rfl, run_takeDeferred hK3, ?_⟩⟩
      have hXc : ((W3.setCell ⟨w.heap.size + 1 + 1 + 1, 0, none⟩ (.slice A3 LL.length c3)).putObj D (.deferred none)).cell? ⟨w.heap.size + 1 + 1 + 1, 0, none⟩ = some (.slice A3 LL.length c3) := (World.cell?_of_block (a := ⟨w.heap.size + 1 + 1 + 1, 0, none⟩) (World.putObj_heap_other (by show ¬ w.heap.size + 1 + 1 + 1 = D; omega))).trans ex
      refine ⟨.tuple #[.agg #[.slice A3 LL.length c3], .bool true], by simp [results, Try.results11, go_sem, hXc], _, rfl, ?_, ?_⟩
      · show Own .u8 _ _ _ _ (padL (wrapL pubs due load route secs) pad)
        rw [HLX.out, HLL.out]
        have hOf : Own .u8 5 (W3.setCell ⟨w.heap.size + 1 + 1 + 1, 0, none⟩ (.slice A3 LL.length c3)) w.heap.size (.slice A3 LL.length c3) LL := (hO3.far (g := w.heap.size + 1 + 1 + 1) (by omega) 0 _).lower (by omega)
        exact ⟨ownsRow_putObj hOf.1 _ hK3 rfl, hOf.2⟩
      · exact (bel_put hB3 (p := ⟨w.heap.size + 1 + 1 + 1, 0, none⟩) (by show _ ≤ w.heap.size + 1 + 1 + 1; omega) _).trans (belowK_b (w := w) (Nat.le_refl _) _ D _ _ (by omega) hK3 rfl rfl)
    · have hm1 : ∀ W : World, (method 265 81 (.agg #[.int .i64 nx, .slice A n c]) "loop.example/g00611/impl.content").run Try.prog W = .ok (161, .agg #[.int .i64 nx, .slice A n c]) W := fun _ => by kernel_rfl
      gi_wp2_with fail
      refine ⟨trivial, ?_⟩
      refine (callsIn_wide.2 (i_relay_content nx A n c _)).mono ?_
      rintro e W2 ⟨rfl, hb2⟩
      gi_wp2_with fail
      refine ⟨trivial, ?_⟩
      refine (callsIn_wide.2 (i_padded (reach hI hb2) (reach hd (bel_trans hB hb2)) hn80 b5 hdc hdm)).mono ?_
      rintro e W3 ⟨v3, rfl, hO3, hb3⟩
      have hs3 : Below W.heap.size W W3 := bel_trans hb2 hb3
      have X3 := hX.below hs3 hxs
      have x3 := X3.cell 0; have f3 := X3.frozen 0
      have hB3 : Below w.heap.size w W3 := bel_trans hB hs3
      obtain ⟨LL, hLL⟩ : ∃ LL, padL L pad = LL := ⟨_, rfl⟩
      have HLL := Lib.hid hLL
      rw [hLL] at hO3
      clear hLL
      obtain ⟨A3, c3, rfl, -⟩ := hO3.ints
      have ex := (X3.put 0 (.slice A3 LL.length c3)).cell 0
      have z2 := hb2.size
      have z3 := hb3.size
      have zB := hB.size
      gi_wp2
      have hK3 : (W3.setCell ⟨w.heap.size + 1 + 1 + 1, 0, none⟩ (.slice A3 LL.length c3)).heap[D]? = some (.deferred (some [])) := (Below.heap_setCell W3 ⟨w.heap.size + 1 + 1 + 1, 0, none⟩ _ D (by show ¬ D = w.heap.size + 1 + 1 + 1; omega)).trans ((hs3.block D hDs).trans hK)
      have ex2 := hK3
      refine ⟨by simp, .inl ⟨_, _, rfl, run_takeDeferred hK3, ?_⟩⟩
      have hXc : ((W3.setCell ⟨w.heap.size + 1 + 1 + 1, 0, none⟩ (.slice A3 LL.length c3)).putObj D (.deferred none)).cell? ⟨w.heap.size + 1 + 1 + 1, 0, none⟩ = some (.slice A3 LL.length c3) := (World.cell?_of_block (a := ⟨w.heap.size + 1 + 1 + 1, 0, none⟩) (World.putObj_heap_other (by show ¬ w.heap.size + 1 + 1 + 1 = D; omega))).trans ex
      refine ⟨.tuple #[.agg #[.slice A3 LL.length c3], .bool true], by simp [results, Try.results11, go_sem, hXc], _, rfl, ?_, ?_⟩
      · show Own .u8 _ _ _ _ (padL (wrapL pubs due load route secs) pad)
        rw [HLX.out, HLL.out]
        have hOf : Own .u8 5 (W3.setCell ⟨w.heap.size + 1 + 1 + 1, 0, none⟩ (.slice A3 LL.length c3)) w.heap.size (.slice A3 LL.length c3) LL := (hO3.far (g := w.heap.size + 1 + 1 + 1) (by omega) 0 _).lower (by omega)
        exact ⟨ownsRow_putObj hOf.1 _ hK3 rfl, hOf.2⟩
      · exact (bel_put hB3 (p := ⟨w.heap.size + 1 + 1 + 1, 0, none⟩) (by show _ ≤ w.heap.size + 1 + 1 + 1; omega) _).trans (belowK_b (w := w) (Nat.le_refl _) _ D _ _ (by omega) hK3 rfl rfl)
  case stop =>
    rintro D c' pre W _ _ h _
    exact h.elim
end Go.Proofs.Ytnfmjgldcnokbaa
namespace Go.Proofs.Ytnfmjgldcnokbaa
set_option linter.unusedVariables false
open Go.RowKit
open Fld
theorem s_WrapR {w : World} {A0 A1 A2 A4 A5 : Option Addr} {n0 c0 n1 c1 n2 c2 n4 c4 n5 c5 : Nat} {r p s l d : List Int} {u : Int} (h0 : tIs.R w w.heap.size [.slice A0 n0 c0] r) (z0 : r.length ≤ 1048576) (h1 : tIs.R w w.heap.size [.slice A1 n1 c1] p) (z1 : p.length ≤ 1048576) (h2 : tIs.R w w.heap.size [.slice A2 n2 c2] s) (z2 : s.length ≤ 1048576) (hu : (Lit.int .i64 u).wf = true) (h4 : tBy.R w w.heap.size [.slice A4 n4 c4] l) (z4 : l.length ≤ 1048576) (h5 : tBy.R w w.heap.size [.slice A5 n5 c5] d) (z5 : d.length ≤ 1048576) :
    Calls Try.prog 12 #[.slice A0 n0 c0, .slice A1 n1 c1, .slice A2 n2 c2, .int .i64 u, .slice A4 n4 c4, .slice A5 n5 c5] w fun e w' => ∃ cs, e = .returned (.tuple #[.agg cs.toArray, .bool (fwrap r p s u l d).2]) ∧ tCell.R w' w'.heap.size cs (fwrap r p s u l d).1 ∧ Below w.heap.size w w' := by
  have i0 := (slR_ints h0).1; have i1 := (slR_ints h1).1; have i2 := (slR_ints h2).1; have i4 := (slR_ints h4).1; have i5 := (slR_ints h5).1
  refine (s_Wrap i0 (by have := i0.1; omega) i1 (by have := i1.1; omega) i2 (by have := i2.1; omega) i4 (by have := i4.1; omega) i5 (by have := i5.1; omega)).mono ?_
  rintro e w' ⟨v, rfl, hO, hB⟩
  obtain ⟨F, k1, m1⟩ := hO.tSl
  exact ⟨[v], rfl, tBy.read k1, hB⟩
theorem i_WrapR {w : World} {A0 A1 A2 A4 A5 : Option Addr} {n0 c0 n1 c1 n2 c2 n4 c4 n5 c5 : Nat} {r p s l d : List Int} {u : Int} (h0 : tIs.R w w.heap.size [.slice A0 n0 c0] r) (z0 : r.length ≤ 1048576) (h1 : tIs.R w w.heap.size [.slice A1 n1 c1] p) (z1 : p.length ≤ 1048576) (h2 : tIs.R w w.heap.size [.slice A2 n2 c2] s) (z2 : s.length ≤ 1048576) (hu : (Lit.int .i64 u).wf = true) (h4 : tBy.R w w.heap.size [.slice A4 n4 c4] l) (z4 : l.length ≤ 1048576) (h5 : tBy.R w w.heap.size [.slice A5 n5 c5] d) (z5 : d.length ≤ 1048576) :
    Calls Try.prog 11 #[.slice A0 n0 c0, .slice A1 n1 c1, .slice A2 n2 c2, .int .i64 u, .slice A4 n4 c4, .slice A5 n5 c5] w fun e w' => ∃ cs F, e = .returned (.tuple #[.agg cs.toArray, .bool (fwrap r p s u l d).2]) ∧ tCell.O w' cs (fwrap r p s u l d).1 F ∧ New w.heap.size F ∧ Below w.heap.size w w' := by
  have i0 := slR_ints h0; have i1 := slR_ints h1; have i2 := slR_ints h2; have i4 := slR_ints h4; have i5 := slR_ints h5
  have l0 := i0.1.1; have l1 := i1.1.1; have l2 := i2.1.1; have l4 := i4.1.1; have l5 := i5.1.1
  by_cases ho : WrapOk r p s u l d
  · refine (i_Wrap_t i0.1 (by omega) i0.2.1 i0.2.2 i1.1 (by omega) i2.1 (by omega) i4.1 i5.1 i5.2.1 i5.2.2 ho).mono ?_
    rintro e w' ⟨v, rfl, hO, hB⟩
    obtain ⟨F, k1, m1⟩ := hO.tSl
    exact ⟨[v], F, rfl, k1, m1, hB⟩
  · refine (i_Wrap_f i0.1 (by omega) i0.2.1 i0.2.2 i1.1 (by omega) i2.1 (by omega) i4.1.1 i5.1.1 ho).mono ?_
    rintro e w' ⟨v, rfl, hO, hB⟩
    obtain ⟨F, k1, m1⟩ := hO.tSl
    exact ⟨[v], F, rfl, k1, m1, hB⟩
end Go.Proofs.Ytnfmjgldcnokbaa
