/-
  Concat, PRdS: texts joined.
-/
import Derived.Test.YtblcfncjghkegaaPGh
import Derived.Test.YtblcfncjghkegaaPGi
import Derived.Test.YtblcfncjghkegaaPGj
import Derived.Test.YtblcfncjghkegaaPGk
import Derived.Test.YtblcfncjghkegaaPGn
import Derived.Lib.AppendZerosOnto
import Derived.Lib.SliceRun
import Derived.LoopN
namespace Go.Proofs.Ytblcfncjghkegaa
set_option maxRecDepth 100000
set_option linter.unusedVariables false
set_option linter.unusedSimpArgs false
open Go.ChangeShapes Go.WideShapes Go.ChangeAt Go.RowKit
theorem ic_grow0 (w : World) : Calls Try.prog 94 #[.slice none 0 0, .int .i64 0] w fun e w' => e = .returned (.slice none 0 0) ∧ w = w' := by
  go_enter Try.func94, Try.ntmps94
  go_wp2
  go_ret
  exact ⟨rfl, rfl⟩
theorem ic_grow (w : World) (k : Int) (hk : 0 < k) (hk2 : k ≤ 1000000) :
    Calls Try.prog 94 #[.slice none 0 0, .int .i64 k] w fun e w' => ∃ v, e = .returned v ∧ Own .u8 5 w' w.heap.size v [] ∧ Below w.heap.size w w' := by
  obtain ⟨n, rfl⟩ := Int.eq_ofNat_of_zero_le (show 0 ≤ k by omega)
  have hn : 0 < n := by omega
  have hn2 : n ≤ 1000000 := by omega
  clear hk hk2
  obtain ⟨i0, hi0, hz0, hz1, hz2⟩ := info_parts info_cb
  have hrz : ∀ ty, (Builtin.append_ #[22, 3] ty #[.slice none 0 0, .int .i64 n]).run Try.prog w =
      .ok (.slice (some ⟨w.heap.size, 0, none⟩) n (grownCap w n 0 5)) (w.drew.alloc (.cells (#[] ++ Builtin.zeroCells #[.int .u8 0] n ++ Builtin.zeroCells #[.int .u8 0] (grownCap w n 0 5 - n)) 5)) := fun ty => by
    have h := Lib.run_append_grow_zeros (P := Try.prog) w 22 3 ty 5 i0 _ .i64 .i64 Try.underlying22 Try.underlying3 hi0 hz0 none 0 0 [] (run_firstCells_none w.drew i0.size 0 0 0) n hn (by omega) (by omega) (by omega)
      (by rw [hz2]; omega) (growslice_fits (bytes := i0.bytes) (by omega) (by rw [hz2]; omega))
    simpa [Value.cells] using h
  have hGn : n ≤ grownCap w n 0 5 := grownCap_ge w _ _ _
  have hGm : grownCap w n 0 5 ≤ maxLen := grownCap_le_maxLen w n 0 5 (by unfold maxLen; omega)
  obtain ⟨G, hG⟩ : ∃ G, grownCap w n 0 5 = G := ⟨_, rfl⟩
  rw [hG] at hrz hGn hGm
  clear hG
  have hG63 : G ≤ 9223372036854775807 := hGm
  go_enter Try.func94, Try.ntmps94
  go_wp2_with (at_builtin; refine Lib.wpList_append_run _ rfl _ _ _ _ rfl _ _ rfl rfl _ _ (hrz _) ?_)
  go_ret
  refine ⟨_, rfl, Own.of (n := 0) ⟨rfl, .inr ⟨w.heap.size, G, _, rfl, Nat.le_refl _, heap_alloc_new w.drew _, Nat.zero_le _, hGm, ?_, rfl⟩⟩ (by simp), (belx)⟩
  simp [Builtin.zeroCells]
  omega
theorem ic_growAny (w : World) (k : Int) (h0 : 0 ≤ k) (hk2 : k ≤ 1000000) :
    Calls Try.prog 94 #[.slice none 0 0, .int .i64 k] w fun e w' => ∃ v, e = .returned v ∧ Own .u8 5 w' w.heap.size v [] ∧ Below w.heap.size w w' := by
  by_cases h : (0 : Int) < k
  · exact ic_grow w _ h hk2
  · obtain rfl : k = 0 := by omega
    exact (ic_grow0 w).mono fun e w' hh => ⟨_, hh.1, by rw [← hh.2]; exact Own.nil _ _ _ _, by rw [← hh.2]; exact Below.refl _ _⟩
set_option maxHeartbeats 2000000 in
theorem ic_concat3 {w : World} {g n c m d q f : Nat} {A A' A'' : Option Addr} {l r s : List Int} (hb : Box w g 22 #[.slice A n c, .slice A' m d, .slice A'' q f]) (hl : Ints .u8 w w.heap.size A n l) (hr : Ints .u8 w w.heap.size A' m r) (hs : Ints .u8 w w.heap.size A'' q s) (hn : n ≤ 100000) (hm : m ≤ 100000) (hq : q ≤ 100000) :
    Calls Try.prog 63 #[.slice (some ⟨g, 0, none⟩) 3 3] w fun e w' => ∃ v, e = .returned v ∧ Own .u8 5 w' w.heap.size v (l ++ r ++ s) ∧ Below w.heap.size w w' := by
  obtain ⟨i0, hi0, hz0, hz1, hz2⟩ := info_parts info_cb
  have c0 : w.cell? ⟨g, 0, none⟩ = some (.slice A n c) := hb.cell 0
  have c1 : w.cell? ⟨g, 1, none⟩ = some (.slice A' m d) := hb.cell 1
  have c2 : w.cell? ⟨g, 2, none⟩ = some (.slice A'' q f) := hb.cell 2
  have hgs := hb.size
  have z2 : ¬ (n : Int) < 0 := by omega
  have z3 : ¬ (n : Int) + (m : Int) < 0 := by omega
  have z4 : ¬ (n : Int) + (m : Int) + (q : Int) < 0 := by omega
  have el := hl.1
  have er := hr.1
  have es := hs.1
  have EL := Lib.hid el
  have ER := Lib.hid er
  have ES := Lib.hid es
  go_enter Try.func63, Try.ntmps63
  clear el er es
  go_wp2_with fail
  refine wp_loop_rounds 4 ?_
  rw [rounds_succ]
  go_wp2_with fail
  rw [rounds_succ]
  go_wp2_with fail
  rw [rounds_succ]
  go_wp2_with fail
  rw [rounds_succ]
  go_wp2_with fail
  refine (ic_growAny _ _ (by omega) (by omega)).mono ?_
  rintro e w1 ⟨v1, rfl, hO1, hB1⟩
  have hb1 := hb.below hB1 hgs
  have e0 : w1.cell? ⟨g, 0, none⟩ = some (.slice A n c) := hb1.cell 0
  obtain ⟨A1, d1, rfl, _⟩ := hO1.ints
  have hk1 := EL.out
  have hk2 := ER.out
  have hk3 := ES.out
  go_wp2_with fail
  refine wp_loop_rounds 4 ?_
  rw [rounds_succ]
  go_wp2_with (at_builtin; refine wpList_app _ rfl (.tmp 31) (.tmp 32) _ rfl w.heap.size 5 i0 _ 1 1 Try.underlying22 hi0 hz0 hz1 hz2 rfl (by omega) (.slice A1 0 d1) 0 [] rfl hO1.1 A n c (l.map (Value.int .u8)) rfl (Src.of_ints (hl.below hB1)) (one_ints _ _) (by simp only [maxLen]; omega) (by omega) hB1.size ?_; intro v2 w2 hown2 hg2 hat2)
  have hO2 : Own .u8 5 w2 w.heap.size v2 l := Own.of (n := n) (by simpa using hown2) hl.2.2
  have hB2 : Below w.heap.size w w2 := hB1.grown hg2 hB1.size fun b hb => (hO1.block hb).1
  have hb2 := hb.below hB2 hgs
  have e1 : w2.cell? ⟨g, 1, none⟩ = some (.slice A' m d) := hb2.cell 1
  rw [rounds_succ]
  go_wp2_with (at_builtin; refine wpList_app _ rfl (.tmp 31) (.tmp 32) _ rfl w.heap.size 5 i0 _ 1 1 Try.underlying22 hi0 hz0 hz1 hz2 rfl (by omega) v2 l.length (l.map (Value.int .u8)) rfl hO2.1 A' m d (r.map (Value.int .u8)) rfl (Src.of_ints (hr.below hB2)) (one_ints _ _) (by simp only [maxLen]; omega) (by omega) hB2.size ?_; intro v3 w3 hown3 hg3 hat3)
  have hO3 := own_appN (r := r) hown3 hr.1 hO2.2 hr.2.2
  have hB3 : Below w.heap.size w w3 := hB2.grown hg3 hB2.size fun b hb => (hO2.block hb).1
  have hb3 := hb.below hB3 hgs
  have e2 : w3.cell? ⟨g, 2, none⟩ = some (.slice A'' q f) := hb3.cell 2
  obtain ⟨LR, hLR⟩ : ∃ LR, l ++ r = LR := ⟨_, rfl⟩
  have hlr : LR.length = n + m := by rw [← hLR, List.length_append]; omega
  rw [hLR] at hO3
  have HLR := Lib.hid hLR
  clear hLR
  rw [rounds_succ]
  go_wp2_with (at_builtin; refine wpList_app _ rfl (.tmp 31) (.tmp 32) _ rfl w.heap.size 5 i0 _ 1 1 Try.underlying22 hi0 hz0 hz1 hz2 rfl (by omega) v3 LR.length (LR.map (Value.int .u8)) rfl hO3.1 A'' q f (s.map (Value.int .u8)) rfl (Src.of_ints (hs.below hB3)) (one_ints _ _) (by simp only [maxLen]; omega) (by omega) hB3.size ?_; intro v4 w4 hown4 hg4 hat4)
  have hO4 := own_appN (r := s) hown4 hs.1 hO3.2 hs.2.2
  have hB4 : Below w.heap.size w w4 := hB3.grown hg4 hB3.size fun b hb => (hO3.block hb).1
  have hb4 := hb.below hB4 hgs
  rw [rounds_succ]
  go_wp2
  go_ret
  exact ⟨_, rfl, by rw [HLR.out]; exact hO4, hB4⟩
end Go.Proofs.Ytblcfncjghkegaa
namespace Go.Proofs.Ytblcfncjghkegaa
set_option maxRecDepth 100000
set_option linter.unusedVariables false
set_option linter.unusedSimpArgs false
open Go.ChangeShapes Go.WideShapes Go.ChangeAt Go.RowKit
open Fld
theorem tail8 {K : IntKind} {w : World} {B n b off : Nat} {l : List Int} (h : Ints K w B (some ⟨b, off, none⟩) n l) (m : Nat) (hm : m ≤ n) : Ints K w B (some ⟨b, off + m, none⟩) (n - m) (l.drop m) := by
  refine ⟨by rw [List.length_drop, h.1], fun h0 => ?_, fun x hx => h.2.2 x (List.mem_of_mem_drop hx)⟩
  obtain ⟨b', off', e, hb, hc⟩ := h.2.1 (by omega)
  injection e with e
  injection e with e1 e2 _
  subst e1 e2
  refine ⟨b, off + m, rfl, hb, fun i hi => ?_⟩
  rw [Nat.add_assoc, hc (m + i) (by omega), List.getD_eq_getElem?_getD, List.getD_eq_getElem?_getD, List.getElem?_drop]
theorem head8 {K : IntKind} {w : World} {B n : Nat} {A : Option Addr} {l : List Int} (h : Ints K w B A n l) (m : Nat) (hm : m ≤ n) : Ints K w B A m (l.take m) := by
  refine ⟨by rw [List.length_take, h.1]; omega, fun h0 => ?_, fun x hx => h.2.2 x (List.mem_of_mem_take hx)⟩
  obtain ⟨b', off', e, hb, hc⟩ := h.2.1 (by omega)
  exact ⟨b', off', e, hb, fun i hi => by rw [hc i (by omega), getDtk hi]⟩
theorem u8_rg' {x : Int} (h : (Lit.int .u8 x).wf = true) : 0 ≤ x ∧ x ≤ 255 := by
  simp [Lit.wf] at h
  have e1 : IntKind.u8.min = 0 := by decide
  have e2 : IntKind.u8.max = 255 := by decide
  omega
theorem info_it : (Try.prog.info? 3).map (fun i => (i.zero, i.size, i.bytes)) = some (some (.int .i64 0), 1, 8) := by kernel_rfl
end Go.Proofs.Ytblcfncjghkegaa
