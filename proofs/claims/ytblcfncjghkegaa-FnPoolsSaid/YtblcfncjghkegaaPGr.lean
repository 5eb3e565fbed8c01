/-
  Chk: texts joined.
-/
import Derived.Test.YtblcfncjghkegaaPMSeq
import Derived.Sort.QuietTacIn
namespace Go.Proofs.Ytblcfncjghkegaa
set_option maxRecDepth 100000
set_option linter.unusedVariables false
set_option linter.unusedSimpArgs false
open Go.ChangeShapes Go.WideShapes Go.ChangeAt Go.RowKit Go.Shelf
attribute [local go_sem] Oper.semAt_some
def chk83 (b off : Nat) (k : Nat) : Value := .slice (some ⟨b, off + 83 * k, none⟩) 83 83
set_option maxHeartbeats 2000000 in
theorem chunk83_in (F : Fence) (n : Nat) (h7 : F.fn 107) (hro : F.round = none) (hn : 1 ≤ n) (l gS gN n₀ K b off c : Nat) (A : Option Addr) (hK : 83 * K ≤ 1048576) (hc : 83 * K ≤ c) (hcm : c ≤ 9223372036854775807) (hA : 0 < K → A = some ⟨b, off, none⟩) (J Jx : List Nat → World → Prop)
    (hY : ∀ pre x W, J pre W → pre.length < K → YieldAt F (n - 1) Try.prog l #[chk83 b off x] W fun e W' =>
      (e = .returned (.bool true) ∧ J (pre ++ [x]) W' ∧ Below n₀ W W') ∨ (e = .returned (.bool false) ∧ Jx (pre ++ [x]) W'))
    (hJd : ∀ pre W q, J pre W → J pre (W.drewN q)) (W : World) (hS : W.cell? ⟨gS, 0, none⟩ = some (.slice A (83 * K) c)) (hN : W.cell? ⟨gN, 0, none⟩ = some (.int .i64 83)) (hgS : gS < n₀) (hgN : gN < n₀) (h0 : J [] W) :
    CallsIn F n Try.prog 107 #[.func (.yield l) #[] #[], .pointer (some ⟨gS, 0, none⟩), .pointer (some ⟨gN, 0, none⟩)] W fun e W' => (∃ v, e = .returned v) ∧
      ((∃ ys, ys = List.range K ∧ J ys W') ∨ (∃ pre, (∃ k, k ≤ K ∧ pre = List.range k) ∧ Jx pre W')) := by
  obtain ⟨len, hlen⟩ : ∃ m, 83 * K = m := ⟨_, rfl⟩
  rw [hlen] at hS hK hc
  have HLE := Lib.hid hlen
  have HA := Lib.hid hA
  clear hlen hA
  refine callsIn_of_wp Try.func107 rfl h7 ?_ hro
  simp only [Try.ntmps107, List.size_toArray, List.length_cons, List.length_nil, Nat.reduceAdd, Nat.reduceSub, Array.replicate_succ, Array.replicate_zero, List.push_toArray, List.append_toArray, List.nil_append, List.cons_append]
  gi_wp2
  gi_loopw [4] (fun i wr => ∃ k m : Nat, k ≤ K ∧ Hid (83 * k = m) ∧ i = .int .i64 m ∧ J (List.range k) wr ∧ Below n₀ W wr)
    (fun i _ => len - (intOf i).toNat)
  case atStart => exact ⟨0, 0, Nat.zero_le _, by show _ = _; rfl, rfl, h0, Below.refl _ _⟩
  case round =>
    obtain ⟨k, m, hk, HM, rfl, hJs, hnx⟩ := hrel
    have s0 := (hnx.cell (p := ⟨gS, 0, none⟩) hgS).trans hS
    have s1 := (hnx.cell (p := ⟨gN, 0, none⟩) hgN).trans hN
    by_cases hlt : k < K
    · obtain rfl := HA.out (by omega)
      have hm1 : m + 83 ≤ len := by have a1 := HM.out; have a2 := HLE.out; omega
      have q1 : (m : Int) < (len : Int) := by omega
      have q2 : (0 : Int) ≤ (m : Int) := by omega
      have q3 : (m : Int) ≤ (len : Int) := by omega
      have hmo : Try.prog.follows .mixedOrders = true := by kernel_rfl
      gi_wp2
      refine wpIn_region_quiet_lit hro (by kernel_rfl) (by kernel_rfl) ?_
      repeat (quiet_step_in (fail))
      refine wpQuietIn_nil ?_
      intro _ hw'
      obtain ⟨nq, hw''⟩ := hw'
      subst hw''
      have hck : chk83 b off k = .slice (some ⟨b, off + m, none⟩) 83 83 := by unfold chk83; rw [HM.out]
      obtain ⟨fn, tmps, assign, body, hy, hR⟩ := hY _ k (wr.drewN nq) (hJd _ _ nq hJs) (by rw [List.length_range]; exact hlt)
      rw [hck] at hy
      have hnq : Below n₀ wr (wr.drewN nq) := below_drewN (Below.refl _ _) _
      gi_wp2
      refine hR.mono ?_
      rintro e W3 (⟨rfl, hJ3, hk3⟩ | ⟨rfl, hJx3⟩)
      · have s2 : W3.cell? ⟨gN, 0, none⟩ = some (.int .i64 83) := (((hnx.trans hnq).trans hk3).cell (p := ⟨gN, 0, none⟩) hgN).trans hN
        gi_wp2
        go_roundw
        case rel => exact ⟨k + 1, m + 83, by omega, by show _ = _; have := HM.out; omega, by go_num, by rw [List.range_succ]; exact hJ3, (hnx.trans hnq).trans hk3⟩
        case measure => simp [intOf]; omega
      · gi_wp2
        refine bodyPost_ret (results_none rfl _ _ _) rfl ?_
        exact ⟨⟨_, rfl⟩, .inr ⟨_, ⟨k + 1, by omega, by rw [List.range_succ]⟩, hJx3⟩⟩
    · have hm1 : m = len := by have a1 := HM.out; have a2 := HLE.out; have : k = K := by omega
                               subst this; omega
      subst hm1
      obtain rfl : k = K := by omega
      gi_wp2
      go_end0
      exact ⟨⟨_, rfl⟩, .inl ⟨_, rfl, hJs⟩⟩
theorem chunk83_stops (F : Fence) (n : Nat) (h7 : F.fn 107) (hro : F.round = none) (hn : 1 ≤ n) (gS gN n₀ K b off c : Nat) (A : Option Addr) (hK : 83 * K ≤ 1048576) (hc : 83 * K ≤ c) (hcm : c ≤ 9223372036854775807) (hA : 0 < K → A = some ⟨b, off, none⟩) (w : World) (hgS : gS < n₀) (hgN : gN < n₀) (hn₀ : n₀ ≤ w.heap.size)
    (hS : w.cell? ⟨gS, 0, none⟩ = some (.slice A (83 * K) c)) (hN : w.cell? ⟨gN, 0, none⟩ = some (.int .i64 83)) :
    SeqStopsK F n Try.prog 107 #[.pointer (some ⟨gS, 0, none⟩), .pointer (some ⟨gN, 0, none⟩)] (fun k : Nat => #[chk83 b off k]) (Below n₀) (fun ys => ys = List.range K) (fun _ => True) K w := fun l J Jx W hW hJ _ hY h0 => by
  refine (chunk83_in F n h7 hro hn l gS gN n₀ K b off c A hK hc hcm hA J Jx hY (fun pre W' q hj => hJ pre W' _ none hj (below_grownBy (below_drewN (Below.refl _ _) q)) (by simp)) W ((hW.cell (p := ⟨gS, 0, none⟩) (by show gS < _; omega)).trans hS) ((hW.cell (p := ⟨gN, 0, none⟩) (by show gN < _; omega)).trans hN) hgS hgN h0).mono ?_
  rintro e W' ⟨he, ⟨ys, hy, hj⟩ | ⟨pre, _, hj⟩⟩
  · exact ⟨he, .inl ⟨_, hy, hj⟩⟩
  · exact ⟨he, .inr ⟨_, trivial, hj⟩⟩
def chk4 (b off : Nat) (k : Nat) : Value := .slice (some ⟨b, off + 4 * k, none⟩) 4 4
set_option maxHeartbeats 2000000 in
theorem chunk4_in (F : Fence) (n : Nat) (h7 : F.fn 107) (hro : F.round = none) (hn : 1 ≤ n) (l gS gN n₀ K b off c : Nat) (A : Option Addr) (hK : 4 * K ≤ 1048576) (hc : 4 * K ≤ c) (hcm : c ≤ 9223372036854775807) (hA : 0 < K → A = some ⟨b, off, none⟩) (J Jx : List Nat → World → Prop)
    (hY : ∀ pre x W, J pre W → pre.length < K → YieldAt F (n - 1) Try.prog l #[chk4 b off x] W fun e W' =>
      (e = .returned (.bool true) ∧ J (pre ++ [x]) W' ∧ Below n₀ W W') ∨ (e = .returned (.bool false) ∧ Jx (pre ++ [x]) W'))
    (hJd : ∀ pre W q, J pre W → J pre (W.drewN q)) (W : World) (hS : W.cell? ⟨gS, 0, none⟩ = some (.slice A (4 * K) c)) (hN : W.cell? ⟨gN, 0, none⟩ = some (.int .i64 4)) (hgS : gS < n₀) (hgN : gN < n₀) (h0 : J [] W) :
    CallsIn F n Try.prog 107 #[.func (.yield l) #[] #[], .pointer (some ⟨gS, 0, none⟩), .pointer (some ⟨gN, 0, none⟩)] W fun e W' => (∃ v, e = .returned v) ∧
      ((∃ ys, ys = List.range K ∧ J ys W') ∨ (∃ pre, (∃ k, k ≤ K ∧ pre = List.range k) ∧ Jx pre W')) := by
  obtain ⟨len, hlen⟩ : ∃ m, 4 * K = m := ⟨_, rfl⟩
  rw [hlen] at hS hK hc
  have HLE := Lib.hid hlen
  have HA := Lib.hid hA
  clear hlen hA
  refine callsIn_of_wp Try.func107 rfl h7 ?_ hro
  simp only [Try.ntmps107, List.size_toArray, List.length_cons, List.length_nil, Nat.reduceAdd, Nat.reduceSub, Array.replicate_succ, Array.replicate_zero, List.push_toArray, List.append_toArray, List.nil_append, List.cons_append]
  gi_wp2
  gi_loopw [4] (fun i wr => ∃ k m : Nat, k ≤ K ∧ Hid (4 * k = m) ∧ i = .int .i64 m ∧ J (List.range k) wr ∧ Below n₀ W wr)
    (fun i _ => len - (intOf i).toNat)
  case atStart => exact ⟨0, 0, Nat.zero_le _, by show _ = _; rfl, rfl, h0, Below.refl _ _⟩
  case round =>
    obtain ⟨k, m, hk, HM, rfl, hJs, hnx⟩ := hrel
    have s0 := (hnx.cell (p := ⟨gS, 0, none⟩) hgS).trans hS
    have s1 := (hnx.cell (p := ⟨gN, 0, none⟩) hgN).trans hN
    by_cases hlt : k < K
    · obtain rfl := HA.out (by omega)
      have hm1 : m + 4 ≤ len := by have a1 := HM.out; have a2 := HLE.out; omega
      have q1 : (m : Int) < (len : Int) := by omega
      have q2 : (0 : Int) ≤ (m : Int) := by omega
      have q3 : (m : Int) ≤ (len : Int) := by omega
      have hmo : Try.prog.follows .mixedOrders = true := by kernel_rfl
      gi_wp2
      refine wpIn_region_quiet_lit hro (by kernel_rfl) (by kernel_rfl) ?_
      repeat (quiet_step_in (fail))
      refine wpQuietIn_nil ?_
      intro _ hw'
      obtain ⟨nq, hw''⟩ := hw'
      subst hw''
      have hck : chk4 b off k = .slice (some ⟨b, off + m, none⟩) 4 4 := by unfold chk4; rw [HM.out]
      obtain ⟨fn, tmps, assign, body, hy, hR⟩ := hY _ k (wr.drewN nq) (hJd _ _ nq hJs) (by rw [List.length_range]; exact hlt)
      rw [hck] at hy
      have hnq : Below n₀ wr (wr.drewN nq) := below_drewN (Below.refl _ _) _
      gi_wp2
      refine hR.mono ?_
      rintro e W3 (⟨rfl, hJ3, hk3⟩ | ⟨rfl, hJx3⟩)
      · have s2 : W3.cell? ⟨gN, 0, none⟩ = some (.int .i64 4) := (((hnx.trans hnq).trans hk3).cell (p := ⟨gN, 0, none⟩) hgN).trans hN
        gi_wp2
        go_roundw
        case rel => exact ⟨k + 1, m + 4, by omega, by show _ = _; have := HM.out; omega, by go_num, by rw [List.range_succ]; exact hJ3, (hnx.trans hnq).trans hk3⟩
        case measure => simp [intOf]; omega
      · gi_wp2
        refine bodyPost_ret (results_none rfl _ _ _) rfl ?_
        exact ⟨⟨_, rfl⟩, .inr ⟨_, ⟨k + 1, by omega, by rw [List.range_succ]⟩, hJx3⟩⟩
    · have hm1 : m = len := by have a1 := HM.out; have a2 := HLE.out; have : k = K := by omega
                               subst this; omega
      subst hm1
      obtain rfl : k = K := by omega
      gi_wp2
      go_end0
      exact ⟨⟨_, rfl⟩, .inl ⟨_, rfl, hJs⟩⟩
theorem chunk4_stops (F : Fence) (n : Nat) (h7 : F.fn 107) (hro : F.round = none) (hn : 1 ≤ n) (gS gN n₀ K b off c : Nat) (A : Option Addr) (hK : 4 * K ≤ 1048576) (hc : 4 * K ≤ c) (hcm : c ≤ 9223372036854775807) (hA : 0 < K → A = some ⟨b, off, none⟩) (w : World) (hgS : gS < n₀) (hgN : gN < n₀) (hn₀ : n₀ ≤ w.heap.size)
    (hS : w.cell? ⟨gS, 0, none⟩ = some (.slice A (4 * K) c)) (hN : w.cell? ⟨gN, 0, none⟩ = some (.int .i64 4)) :
    SeqStopsK F n Try.prog 107 #[.pointer (some ⟨gS, 0, none⟩), .pointer (some ⟨gN, 0, none⟩)] (fun k : Nat => #[chk4 b off k]) (Below n₀) (fun ys => ys = List.range K) (fun _ => True) K w := fun l J Jx W hW hJ _ hY h0 => by
  refine (chunk4_in F n h7 hro hn l gS gN n₀ K b off c A hK hc hcm hA J Jx hY (fun pre W' q hj => hJ pre W' _ none hj (below_grownBy (below_drewN (Below.refl _ _) q)) (by simp)) W ((hW.cell (p := ⟨gS, 0, none⟩) (by show gS < _; omega)).trans hS) ((hW.cell (p := ⟨gN, 0, none⟩) (by show gN < _; omega)).trans hN) hgS hgN h0).mono ?_
  rintro e W' ⟨he, ⟨ys, hy, hj⟩ | ⟨pre, _, hj⟩⟩
  · exact ⟨he, .inl ⟨_, hy, hj⟩⟩
  · exact ⟨he, .inr ⟨_, trivial, hj⟩⟩
set_option maxHeartbeats 1000000 in
theorem i_Chunk (a : Option Addr) (len cap : Nat) (z : Int) (hz : 1 ≤ z) (w : World) :
    Calls Try.prog 97 #[.slice a len cap, .int .i64 z] w fun e w' => e = .returned (.func (.func 107) #[] #[.pointer (some ⟨w.heap.size, 0, none⟩), .pointer (some ⟨w.heap.size + 1, 0, none⟩)]) ∧ w' = (w.alloc (.cells #[.slice a len cap] 22)).alloc (.cells #[.int .i64 z] 3) := by
  have q : ¬ z < 1 := by omega
  have x0 := (show Box ((w.alloc (.cells #[.slice a len cap] 22)).alloc (.cells #[.int .i64 z] 3)) (w.heap.size + 1) 3 #[.int .i64 z] by simpa using Box.new (w.alloc (.cells #[.slice a len cap] 22)) 3 #[.int .i64 z]).cell 0
  go_enter Try.func97, Try.ntmps97
  go_wp2
  go_ret
  exact ⟨rfl, rfl⟩
theorem info_bs : (Try.prog.info? 22).map (fun i => (i.zero, i.size, i.bytes)) = some (some (.slice none 0 0), 1, 24) := by kernel_rfl
set_option maxHeartbeats 2000000 in
theorem appendChk83_in (F : Fence) (n : Nat) (h3 : F.fn 106) (h5 : F.fn 107) (hro : F.round = none) (hn : 3 ≤ n) (gS gN K b off c : Nat) (A : Option Addr) (hK : 83 * K ≤ 1048576) (hc : 83 * K ≤ c) (hcm : c ≤ 9223372036854775807) (hA : 0 < K → A = some ⟨b, off, none⟩) (w : World) (hgS : gS < w.heap.size) (hgN : gN < w.heap.size)
    (hS : w.cell? ⟨gS, 0, none⟩ = some (.slice A (83 * K) c)) (hN : w.cell? ⟨gN, 0, none⟩ = some (.int .i64 83)) :
    CallsIn F n Try.prog 106 #[.slice none 0 0, .func (.func 107) #[] #[.pointer (some ⟨gS, 0, none⟩), .pointer (some ⟨gN, 0, none⟩)]] w fun e W' => ∃ v, e = .returned v ∧ W'.ownsRow w.heap.size 22 1 v K ((List.range K).map (chk83 b off)) ∧ Below w.heap.size w W' := by
  have h1 : 1 ≤ n := by omega
  have hK1 : K ≤ 1048576 := by omega
  obtain ⟨i0, hi, hz0, hz1, hz2⟩ := info_parts info_bs
  refine callsIn_of_wp_marks Try.func106 rfl h3 ?_ hro
  simp only [Try.ntmps106, List.size_toArray, List.length_cons, List.length_nil, Nat.reduceAdd, Nat.reduceSub, Array.replicate_succ, Array.replicate_zero, List.push_toArray, List.append_toArray, List.nil_append, List.cons_append]
  gi_wp2
  have bO := Boxed.new w 115 (.slice none 0 0)
  have hB0 : Below w.heap.size w (w.alloc (.cells #[.slice none 0 0] 115)) := (Below.refl _ w).alloc (Nat.le_refl _) _
  refine wpIn_rangeFunc_ownG hro h1 (gf := 107) (lb := #[.pointer (some ⟨gS, 0, none⟩), .pointer (some ⟨gN, 0, none⟩)]) rfl h5 (enters_of Try.func107 (by kernel_rfl) rfl)
    (chunk83_stops F (n - 1) h5 hro (by omega) gS gN w.heap.size K b off c A hK hc hcm hA _ hgS hgN (by simp) ((hB0.cell (p := ⟨gS, 0, none⟩) hgS).trans hS) ((hB0.cell (p := ⟨gN, 0, none⟩) hgN).trans hN)) belowK_t (belowK_b (by simp)) (Below.refl _ _) (fun _ => rfl)
    (fun pre W => (∃ v, Boxed W w.heap.size 115 v ∧ W.ownsRow w.heap.size 22 1 v pre.length (pre.map (chk83 b off)) ∧ True) ∧ Below w.heap.size w W)
    (fun _ _ _ => False)
    (OwnFrom.and (Own.from (holdsRow_own w.heap.size w.heap.size 115 22 1 (fun pre : List Nat => pre.length) (fun pre => pre.map (chk83 b off)) (fun _ _ => True)) _) (ownFrom_below (Nat.le_refl _) (by simp)))
    (fun _ _ _ _ _ hs _ _ => hs)
    ⟨⟨_, bO, World.ownsRow_nil _ _ _ _, trivial⟩, hB0⟩
    (fun x => { tmps := #[.slice none 0 0, .func (.func 107) #[] #[.pointer (some ⟨gS, 0, none⟩), .pointer (some ⟨gN, 0, none⟩)], .pointer (some ⟨w.heap.size, 0, none⟩), undef, .slice none 0 0, chk83 b off x, .func (.func 107) #[] #[.pointer (some ⟨gS, 0, none⟩), .pointer (some ⟨gN, 0, none⟩)], chk83 b off x, undef, undef, undef, undef, undef], defers := [] }) ?assign ?body ?done ?stop
  case assign =>
    intro l x W K hK
    gi_wp2
    exact hK
  case body =>
    rintro l pre x W ⟨⟨v, hv, hrow, -⟩, hB⟩ hlt
    have hc := hv.cell
    have hlt' : pre.length < 1048576 := by omega
    have ec : chk83 b off x = .slice (some ⟨b, off + 83 * x, none⟩) 83 83 := rfl
    rw [ec]
    gi_wp2_with (gi_at_builtin; refine wpListIn_append_own _ rfl _ _ 115 rfl w.heap.size 22 i0 (.slice none 0 0) 1 24 Try.underlying115 hi hz0 hz1 hz2 rfl (by decide) _ _ _ rfl (hrow.alloc _) ⟨W.heap.size, 0, none⟩ 1 1 [.slice (some ⟨b, off + 83 * x, none⟩) 83 83] rfl rfl (cell_one_new _ _ _) (by simp [Value.oneCell']) (by simp only [maxLen]; omega) (by omega) (by have := hB.size; simp; omega) ?_; intro v' w1 hown' hgrow _; obtain ⟨g', cap', rfl⟩ := ownsRow_succ hown'; obtain ⟨hv1, hv2, hr2, hk2, hb2⟩ := hv.appended (by decide) hrow hB.size (Nat.le_refl _) hown' hgrow; have hc1 := hv1.cell; have hf1 := hv1.frozen)
    exact ⟨hk2.from _, hb2, ⟨_, hv2, by simpa [chk83] using hr2, trivial⟩, hB.trans hb2⟩
  case done =>
    rintro D ys W hD rfl ⟨⟨v, hv, hrow, -⟩, hB⟩ hK
    have hc := hv.cell
    gi_wp2
    refine ⟨by simp, .inl ⟨_, _, rfl, run_takeDeferred hK, ?_⟩⟩
    rw [List.length_range] at hrow
    exact ⟨_, results_tmp rfl _ _ _, v, rfl, ownsRow_putObj hrow _ hK rfl, hB.trans (belowK_b (w := w) (Nat.le_refl _) W D _ _ (by simp at hD; omega) hK rfl rfl)⟩
  case stop =>
    rintro D c pre W _ _ h _
    exact h.elim
set_option maxHeartbeats 2000000 in
theorem appendChk4_in (F : Fence) (n : Nat) (h3 : F.fn 106) (h5 : F.fn 107) (hro : F.round = none) (hn : 3 ≤ n) (gS gN K b off c : Nat) (A : Option Addr) (hK : 4 * K ≤ 1048576) (hc : 4 * K ≤ c) (hcm : c ≤ 9223372036854775807) (hA : 0 < K → A = some ⟨b, off, none⟩) (w : World) (hgS : gS < w.heap.size) (hgN : gN < w.heap.size)
    (hS : w.cell? ⟨gS, 0, none⟩ = some (.slice A (4 * K) c)) (hN : w.cell? ⟨gN, 0, none⟩ = some (.int .i64 4)) :
    CallsIn F n Try.prog 106 #[.slice none 0 0, .func (.func 107) #[] #[.pointer (some ⟨gS, 0, none⟩), .pointer (some ⟨gN, 0, none⟩)]] w fun e W' => ∃ v, e = .returned v ∧ W'.ownsRow w.heap.size 22 1 v K ((List.range K).map (chk4 b off)) ∧ Below w.heap.size w W' := by
  have h1 : 1 ≤ n := by omega
  have hK1 : K ≤ 1048576 := by omega
  obtain ⟨i0, hi, hz0, hz1, hz2⟩ := info_parts info_bs
  refine callsIn_of_wp_marks Try.func106 rfl h3 ?_ hro
  simp only [Try.ntmps106, List.size_toArray, List.length_cons, List.length_nil, Nat.reduceAdd, Nat.reduceSub, Array.replicate_succ, Array.replicate_zero, List.push_toArray, List.append_toArray, List.nil_append, List.cons_append]
  gi_wp2
  have bO := Boxed.new w 115 (.slice none 0 0)
  have hB0 : Below w.heap.size w (w.alloc (.cells #[.slice none 0 0] 115)) := (Below.refl _ w).alloc (Nat.le_refl _) _
  refine wpIn_rangeFunc_ownG hro h1 (gf := 107) (lb := #[.pointer (some ⟨gS, 0, none⟩), .pointer (some ⟨gN, 0, none⟩)]) rfl h5 (enters_of Try.func107 (by kernel_rfl) rfl)
    (chunk4_stops F (n - 1) h5 hro (by omega) gS gN w.heap.size K b off c A hK hc hcm hA _ hgS hgN (by simp) ((hB0.cell (p := ⟨gS, 0, none⟩) hgS).trans hS) ((hB0.cell (p := ⟨gN, 0, none⟩) hgN).trans hN)) belowK_t (belowK_b (by simp)) (Below.refl _ _) (fun _ => rfl)
    (fun pre W => (∃ v, Boxed W w.heap.size 115 v ∧ W.ownsRow w.heap.size 22 1 v pre.length (pre.map (chk4 b off)) ∧ True) ∧ Below w.heap.size w W)
    (fun _ _ _ => False)
    (OwnFrom.and (Own.from (holdsRow_own w.heap.size w.heap.size 115 22 1 (fun pre : List Nat => pre.length) (fun pre => pre.map (chk4 b off)) (fun _ _ => True)) _) (ownFrom_below (Nat.le_refl _) (by simp)))
    (fun _ _ _ _ _ hs _ _ => hs)
    ⟨⟨_, bO, World.ownsRow_nil _ _ _ _, trivial⟩, hB0⟩
    (fun x => { tmps := #[.slice none 0 0, .func (.func 107) #[] #[.pointer (some ⟨gS, 0, none⟩), .pointer (some ⟨gN, 0, none⟩)], .pointer (some ⟨w.heap.size, 0, none⟩), undef, .slice none 0 0, chk4 b off x, .func (.func 107) #[] #[.pointer (some ⟨gS, 0, none⟩), .pointer (some ⟨gN, 0, none⟩)], chk4 b off x, undef, undef, undef, undef, undef], defers := [] }) ?assign ?body ?done ?stop
  case assign =>
    intro l x W K hK
    gi_wp2
    exact hK
  case body =>
    rintro l pre x W ⟨⟨v, hv, hrow, -⟩, hB⟩ hlt
    have hc := hv.cell
    have hlt' : pre.length < 1048576 := by omega
    have ec : chk4 b off x = .slice (some ⟨b, off + 4 * x, none⟩) 4 4 := rfl
    rw [ec]
    gi_wp2_with (gi_at_builtin; refine wpListIn_append_own _ rfl _ _ 115 rfl w.heap.size 22 i0 (.slice none 0 0) 1 24 Try.underlying115 hi hz0 hz1 hz2 rfl (by decide) _ _ _ rfl (hrow.alloc _) ⟨W.heap.size, 0, none⟩ 1 1 [.slice (some ⟨b, off + 4 * x, none⟩) 4 4] rfl rfl (cell_one_new _ _ _) (by simp [Value.oneCell']) (by simp only [maxLen]; omega) (by omega) (by have := hB.size; simp; omega) ?_; intro v' w1 hown' hgrow _; obtain ⟨g', cap', rfl⟩ := ownsRow_succ hown'; obtain ⟨hv1, hv2, hr2, hk2, hb2⟩ := hv.appended (by decide) hrow hB.size (Nat.le_refl _) hown' hgrow; have hc1 := hv1.cell; have hf1 := hv1.frozen)
    exact ⟨hk2.from _, hb2, ⟨_, hv2, by simpa [chk4] using hr2, trivial⟩, hB.trans hb2⟩
  case done =>
    rintro D ys W hD rfl ⟨⟨v, hv, hrow, -⟩, hB⟩ hK
    have hc := hv.cell
    gi_wp2
    refine ⟨by simp, .inl ⟨_, _, rfl, run_takeDeferred hK, ?_⟩⟩
    rw [List.length_range] at hrow
    exact ⟨_, results_tmp rfl _ _ _, v, rfl, ownsRow_putObj hrow _ hK rfl, hB.trans (belowK_b (w := w) (Nat.le_refl _) W D _ _ (by simp at hD; omega) hK rfl rfl)⟩
  case stop =>
    rintro D c pre W _ _ h _
    exact h.elim
theorem i_CollectChk83 {w : World} {gS gN K b off c : Nat} {A : Option Addr} (hK : 83 * K ≤ 1048576) (hc : 83 * K ≤ c) (hcm : c ≤ 9223372036854775807) (hA : 0 < K → A = some ⟨b, off, none⟩) (hgS : gS < w.heap.size) (hgN : gN < w.heap.size)
    (hS : w.cell? ⟨gS, 0, none⟩ = some (.slice A (83 * K) c)) (hN : w.cell? ⟨gN, 0, none⟩ = some (.int .i64 83)) :
    Calls Try.prog 96 #[.func (.func 107) #[] #[.pointer (some ⟨gS, 0, none⟩), .pointer (some ⟨gN, 0, none⟩)]] w fun e w' => ∃ v, e = .returned v ∧ w'.ownsRow w.heap.size 22 1 v K ((List.range K).map (chk83 b off)) ∧ Below w.heap.size w w' := by
  go_enter Try.func96, Try.ntmps96
  go_wp2_with fail
  refine ((callsIn_wide (n := 6)).1 (appendChk83_in Fence.wide 6 trivial trivial rfl (by omega) gS gN K b off c A hK hc hcm hA w hgS hgN hS hN)).mono ?_
  rintro e w' ⟨v, rfl, hO, hB⟩
  go_wp2
  go_ret
  exact ⟨v, rfl, hO, hB⟩
theorem i_CollectChk4 {w : World} {gS gN K b off c : Nat} {A : Option Addr} (hK : 4 * K ≤ 1048576) (hc : 4 * K ≤ c) (hcm : c ≤ 9223372036854775807) (hA : 0 < K → A = some ⟨b, off, none⟩) (hgS : gS < w.heap.size) (hgN : gN < w.heap.size)
    (hS : w.cell? ⟨gS, 0, none⟩ = some (.slice A (4 * K) c)) (hN : w.cell? ⟨gN, 0, none⟩ = some (.int .i64 4)) :
    Calls Try.prog 96 #[.func (.func 107) #[] #[.pointer (some ⟨gS, 0, none⟩), .pointer (some ⟨gN, 0, none⟩)]] w fun e w' => ∃ v, e = .returned v ∧ w'.ownsRow w.heap.size 22 1 v K ((List.range K).map (chk4 b off)) ∧ Below w.heap.size w w' := by
  go_enter Try.func96, Try.ntmps96
  go_wp2_with fail
  refine ((callsIn_wide (n := 6)).1 (appendChk4_in Fence.wide 6 trivial trivial rfl (by omega) gS gN K b off c A hK hc hcm hA w hgS hgN hS hN)).mono ?_
  rintro e w' ⟨v, rfl, hO, hB⟩
  go_wp2
  go_ret
  exact ⟨v, rfl, hO, hB⟩
end Go.Proofs.Ytblcfncjghkegaa
