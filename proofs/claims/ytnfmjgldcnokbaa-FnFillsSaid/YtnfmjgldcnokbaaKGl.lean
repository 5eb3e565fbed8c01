/-
  Stream: texts joined.
-/
import Derived.Test.YtnfmjgldcnokbaaKGc
import Derived.Test.YtnfmjgldcnokbaaKGf
import Derived.Test.YtnfmjgldcnokbaaKGj
import Derived.LoopIn
import Derived.LoopNIn
import Derived.OwnWalkIn
import Derived.RangeFuncBound
import Derived.RangeFuncBox
import Derived.RangeFuncCalls
import Derived.RangeFuncFrom
import Derived.RangeFuncLeaves
import Derived.RangeFuncNested
import Derived.Shelf.Abstract
import Derived.Shelf.RegionOpen
import Derived.TacticsInMore
namespace Go.Proofs.Ytnfmjgldcnokbaa
set_option maxRecDepth 100000
open Go.ChangeShapes Go.WideShapes Go.ChangeAt Go.RowKit Go.Shelf
open Fld
attribute [local go_sem] Oper.semAt_some

theorem i_strB (k i : Int) (w : World) (h1 : 0 ≤ k) (h2 : k < 2147483647) (h3 : 0 ≤ i) (h4 : i ≤ 1000000) :
    Calls Try.prog 141 #[.int .i64 k, .int .i64 i] w fun e w' => e = .returned (.int .u8 (strB k i)) ∧ w = w' := by
  have H := Lib.hid (show strB k i = mulP (addP (addP (addP (mulP (addP (addP k (mulP i 7919)) 3) 48271) k) i) 1) 16807 / 256 % 256 by rw [strY_el]; rfl)
  have r1 := mulP_rg i 7919
  have r2 := addP_rg k (mulP i 7919)
  have r3 := addP_rg (addP k (mulP i 7919)) 3
  have r4 := mulP_rg (addP (addP k (mulP i 7919)) 3) 48271
  have r5 := addP_rg (mulP (addP (addP k (mulP i 7919)) 3) 48271) k
  have r6 := addP_rg (addP (mulP (addP (addP k (mulP i 7919)) 3) 48271) k) i
  have r7 := addP_rg (addP (addP (mulP (addP (addP k (mulP i 7919)) 3) 48271) k) i) 1
  have r8 := mulP_rg (addP (addP (addP (mulP (addP (addP k (mulP i 7919)) 3) 48271) k) i) 1) 16807
  go_enter Try.func141, Try.ntmps141
  go_wp2_with (first | (go_at_call 126; refine (i_mul _ _ _ (by omega) (by omega) (by omega) (by omega)).mono ?_; rintro e w' ⟨rfl, rfl⟩) | (go_at_call 125; refine (i_add _ _ _ (by omega) (by omega) (by omega) (by omega)).mono ?_; rintro e w' ⟨rfl, rfl⟩))
  go_ret
  exact ⟨by rw [H.out]; rfl, rfl⟩
set_option maxRecDepth 100000 in
set_option maxHeartbeats 2000000 in
theorem str1_in (k : Int) (h1 : 0 ≤ k) (h2 : k < 2147483647) (m : Nat) (hm : m ≤ 1000) (n l Be Bl : Nat) (hn : 1 ≤ n) (J Jx : List (Fin m) → World → Prop)
    (hY : ∀ pre x W, J pre W → pre.length < m → YieldAt Fence.wide (n - 1) Try.prog l #[.int .i64 (x.val : Int), .int .u8 (strB k x.val)] W fun e W' =>
      (e = .returned (.bool true) ∧ J (pre ++ [x]) W' ∧ W'.heap[Be]? = W.heap[Be]?) ∨ (e = .returned (.bool false) ∧ Jx (pre ++ [x]) W'))
    (W : World) (hBe : W.cell? ⟨Be, 0, none⟩ = some (.int .i64 k)) (hBl : W.cell? ⟨Bl, 0, none⟩ = some (.int .i64 m)) (h0 : J [] W) :
    CallsIn Fence.wide n Try.prog 140 #[.func (.yield l) #[] #[], .pointer (some ⟨Bl, 0, none⟩), .pointer (some ⟨Be, 0, none⟩)] W fun e W' => (∃ v, e = .returned v) ∧
      ((∃ ys : List (Fin m), ys.map Fin.val = List.range m ∧ J ys W') ∨ (∃ pre, True ∧ Jx pre W')) := by
  refine callsIn_of_wp Try.func140 rfl trivial ?_ rfl
  simp only [Try.ntmps140, List.size_toArray, List.length_cons, List.length_nil, Nat.reduceAdd, Nat.reduceSub, Array.replicate_succ, Array.replicate_zero, List.push_toArray, List.append_toArray, List.nil_append, List.cons_append]
  gi_wp2
  gi_loopw [6] (fun i wr => ∃ pre : List (Fin m), pre.length ≤ m ∧ i = .int .i64 (pre.length : Nat) ∧ pre.map Fin.val = List.range pre.length ∧ J pre wr ∧ wr.cell? ⟨Be, 0, none⟩ = some (.int .i64 k))
    (fun i _ => m - (intOf i).toNat)
  case atStart => exact ⟨[], Nat.zero_le _, rfl, rfl, h0, hBe⟩
  case round =>
    obtain ⟨pre, hk, rfl, hpre, hJs, hce⟩ := hrel
    have HP := Lib.hid hpre
    clear hpre
    by_cases hlt : pre.length < m
    · obtain ⟨fn, tmps, assign, body, hy, hR⟩ := hY pre ⟨pre.length, hlt⟩ wr hJs hlt
      dsimp only at hy
      gi_wp2_with (refine ⟨trivial, ?_⟩; gi_at_call 141; refine (callsIn_wide.2 (i_strB _ _ _ h1 h2 (by omega) (by omega))).mono ?_; rintro e w' ⟨rfl, rfl⟩)
      refine hR.mono ?_
      rintro e W3 (⟨rfl, hJ3, hk3⟩ | ⟨rfl, hJx3⟩)
      · have hce3 := (World.cell?_of_block (a := ⟨Be, 0, none⟩) hk3).trans hce
        gi_wp2
        go_roundw
        case rel => exact ⟨pre ++ [⟨pre.length, hlt⟩], by simp; omega, by simp, by simp [HP.out, List.range_succ], hJ3, hce3⟩
        case measure => simp [intOf]; omega
      · gi_wp2
        refine bodyPost_ret (results_none rfl _ _ _) rfl ?_
        exact ⟨⟨_, rfl⟩, .inr ⟨_, trivial, hJx3⟩⟩
    · have HE := Lib.hid (show pre.map Fin.val = List.range m by rw [HP.out]; congr 1; omega)
      gi_wp2
      go_end0
      exact ⟨⟨_, rfl⟩, .inl ⟨_, HE.out, hJs⟩⟩
set_option maxHeartbeats 1000000 in
theorem i_stream (k m : Int) (w : World) :
    Calls Try.prog 135 #[.int .i64 k, .int .i64 m] w fun e w' => e = .returned (.func (.func 140) #[] #[.pointer (some ⟨w.heap.size + 1, 0, none⟩), .pointer (some ⟨w.heap.size, 0, none⟩)]) ∧
      w' = (w.alloc (.cells #[.int .i64 k] 117)).alloc (.cells #[.int .i64 m] 3) := by
  go_enter Try.func135, Try.ntmps135
  go_wp2
  go_ret
  exact ⟨rfl, rfl⟩
theorem kept_cells {W W' : World} {row : Option Nat} (hg : W.grownBy W' row) (hr : ∀ r, row = some r → ∃ o : Obj, W.heap[r]? = some o ∧ o.isCells = false) {b : Nat} {cs : Array Value} {t : TypeId} {fr : Nat × Nat}
    (h : W.heap[b]? = some (.cells cs t fr)) : W'.heap[b]? = some (.cells cs t fr) :=
  (hg.block b (Array.getElem?_eq_some_iff.1 h).1 (fun e => by obtain ⟨o, ho, hc⟩ := hr b e.symm; rw [h] at ho; cases ho; cases hc)).trans h
theorem rowIs_block {W W' : World} {b : Nat} {t : TypeId} {n : Nat} {f : Nat → Value} (h : W.rowIs b t n f) (e : ∀ (cs : Array Value) (fr : Nat × Nat), W.heap[b]? = some (.cells cs t fr) → W'.heap[b]? = some (.cells cs t fr)) : W'.rowIs b t n f := by
  obtain ⟨cs, h1, h2⟩ := h
  exact ⟨cs, e _ _ h1, h2⟩
/-- What the loop over the key stream has done when 'pre' have come. -/
def MaskI (g : Nat) (A : Option Addr) (n c : Nat) (k : Int) (l : List Int) (pre : List (Fin n)) (W : World) : Prop :=
  Boxed W g 22 (.slice A n c) ∧ W.rowIs (g + 1) 5 n (fun j => .int .u8 (if j ∈ pre.map Fin.val then bits .xor .u8 (l.getD j 0) (strB k j) else 0)) ∧ Boxed W (g + 1 + 1) 22 (.slice (some ⟨g + 1, 0, none⟩) n n)
theorem maskI_own (g : Nat) (A : Option Addr) (n c : Nat) (k : Int) (l : List Int) : Go.Own (MaskI g A n c k l) := by
  rintro s W W' row ⟨h1, h2, h3⟩ hg hr
  exact ⟨kept_cells hg hr h1, rowIs_block h2 (fun _ _ h => kept_cells hg hr h), kept_cells hg hr h3⟩
theorem mask_step {g : Nat} {A : Option Addr} {n c : Nat} {k : Int} {l : List Int} {pre : List (Fin n)} {W : World} (h : MaskI g A n c k l pre W) {x : Nat} (hx : x < n) {y : Int} (hy : l.getD x 0 = y) :
    MaskI g A n c k l (pre ++ [⟨x, hx⟩]) (W.setCell ⟨g + 1, x, none⟩ (.int .u8 (bits .xor .u8 y (strB k x)))).drew := by
  obtain ⟨h1, h2, h3⟩ := h
  refine ⟨(Below.heap_setCell W ⟨g + 1, x, none⟩ _ g (by simp)).trans h1, (h2.set x _).congr fun j _ => ?_, (Below.heap_setCell W ⟨g + 1, x, none⟩ _ (g + 1 + 1) (by simp)).trans h3⟩
  by_cases e : j = x
  · subst e; subst hy; simp
  · rw [if_neg e]; simp [e]
theorem mask_end {w w' : World} {g n : Nat} {k : Int} {l : List Int} {ys : List (Fin n)} (hl : l.length = n) (hb : Bytes l) (hn : n ≤ 400) (hg : w.heap.size ≤ g + 1) (hS : ys.map Fin.val = List.range n)
    (h : w'.rowIs (g + 1) 5 n (fun j => .int .u8 (if j ∈ ys.map Fin.val then bits .xor .u8 (l.getD j 0) (strB k j) else 0))) :
    Own .u8 5 w' w.heap.size (.slice (some ⟨g + 1, 0, none⟩) n n) (xorl k l) := by
  refine Own.of_row (h.congr fun j hj => ?_) (by rw [xorl_len, hl]) (by simp only [maxLen]; omega) hg (fun x hx => wf8 (xorl_bytes hb x hx))
  rw [hS, if_pos (List.mem_range.2 hj)]
  unfold xorl
  rw [xorn_at (by omega)]
set_option maxRecDepth 100000 in
set_option maxHeartbeats 2000000 in
theorem i_masked {w : World} {n c : Nat} {A : Option Addr} {l : List Int} (k : Int) (hl : Ints .u8 w w.heap.size A n l) (hn : n ≤ 400) (h1 : 0 ≤ k) (h2 : k < 2147483647) :
    Calls Try.prog 117 #[.int .i64 k, .slice A n c] w fun e w' => ∃ v, e = .returned v ∧ Own .u8 5 w' w.heap.size v (xorl k l) ∧ Below w.heap.size w w' := by
  have hby := hl.bytes
  have HL := Lib.hid hl.1
  have hmk := fun W => run_make_row' (P := Try.prog) 22 5 (.int .u8 0) 1 Try.underlying22 info_by rfl .i64 .i64 n (by omega) (by omega) W
  refine (callsIn_wide (n := 5)).1 ?_
  refine callsIn_of_wp_marks Try.func117 rfl trivial ?_ rfl
  simp only [Try.ntmps117, List.size_toArray, List.length_cons, List.length_nil, Nat.reduceAdd, Nat.reduceSub, Array.replicate_succ, Array.replicate_zero, List.push_toArray, List.append_toArray, List.nil_append, List.cons_append]
  gi_wp2_with (refine ⟨trivial, ?_⟩; gi_at_call 135; refine (callsIn_wide.2 (i_stream _ _ _)).mono ?_; rintro e w' ⟨rfl, rfl⟩)
  clear hmk
  obtain ⟨W0, hW0⟩ : ∃ W0, (((((w.alloc (Obj.cells #[Value.slice A n c] 22)).alloc (Obj.cells (madeCells #[Value.int IntKind.u8 0] n) 5)).alloc (Obj.cells #[Value.slice (some { block := w.heap.size + 1, off := 0 }) n n] 22)).alloc (Obj.cells #[Value.int IntKind.i64 k] 117)).alloc (Obj.cells #[Value.int IntKind.i64 (n : Int)] 3)) = W0 := ⟨_, rfl⟩
  rw [hW0]
  have hB0 : Below w.heap.size w W0 := by
    rw [← hW0]; exact (((((Below.refl _ w).alloc (Nat.le_refl _) _).alloc (by simp) _).alloc (by simp; omega) _).alloc (by simp; omega) _).alloc (by simp; omega) _
  have hs0 : W0.heap.size = w.heap.size + 5 := by rw [← hW0]; simp
  have b1 : Boxed W0 w.heap.size 22 (.slice A n c) := by
    rw [← hW0]; exact ((((Boxed.new w _ _).alloc _).alloc _).alloc _).alloc _
  have b2 : W0.rowIs (w.heap.size + 1) 5 n (fun _ => .int .u8 0) := by
    have := World.rowIs_made (w.alloc (Obj.cells #[Value.slice A n c] 22)) (.int .u8 0) n 5
    rw [World.size_alloc] at this
    rw [← hW0]; exact ((this.alloc _).alloc _).alloc _
  have b3 : Boxed W0 (w.heap.size + 1 + 1) 22 (.slice (some ⟨w.heap.size + 1, 0, none⟩) n n) := by
    have := Boxed.new ((w.alloc (Obj.cells #[Value.slice A n c] 22)).alloc (Obj.cells (madeCells #[Value.int IntKind.u8 0] n) 5)) 22 (Value.slice (some { block := w.heap.size + 1, off := 0 }) n n)
    rw [World.size_alloc, World.size_alloc] at this
    rw [← hW0]; exact (this.alloc _).alloc _
  have b4 : Boxed W0 (w.heap.size + 1 + 1 + 1) 117 (.int .i64 k) := by
    have := Boxed.new (((w.alloc (Obj.cells #[Value.slice A n c] 22)).alloc (Obj.cells (madeCells #[Value.int IntKind.u8 0] n) 5)).alloc (Obj.cells #[Value.slice (some { block := w.heap.size + 1, off := 0 }) n n] 22)) 117 (Value.int .i64 k)
    rw [World.size_alloc, World.size_alloc, World.size_alloc] at this
    rw [← hW0]; exact this.alloc _
  have b5 : Boxed W0 (w.heap.size + 1 + 1 + 1 + 1) 3 (.int .i64 (n : Int)) := by
    have := Boxed.new ((((w.alloc (Obj.cells #[Value.slice A n c] 22)).alloc (Obj.cells (madeCells #[Value.int IntKind.u8 0] n) 5)).alloc (Obj.cells #[Value.slice (some { block := w.heap.size + 1, off := 0 }) n n] 22)).alloc (Obj.cells #[Value.int IntKind.i64 k] 117)) 3 (Value.int .i64 (n : Int))
    rw [World.size_alloc, World.size_alloc, World.size_alloc, World.size_alloc] at this
    rw [← hW0]; exact this
  clear hW0
  have hs1 : w.heap.size + 5 ≤ W0.heap.size := by omega
  clear hs0
  obtain ⟨g, hg⟩ : ∃ g, w.heap.size = g := ⟨_, rfl⟩
  have HG := Lib.hid hg
  rw [hg] at b1 b2 b3 b4 b5 hs1
  rw [hg]
  clear hg
  refine wpIn_rangeFunc_ownF rfl (by omega) (gf := 140) (lb := #[.pointer (some ⟨g + 1 + 1 + 1 + 1, 0, none⟩), .pointer (some ⟨g + 1 + 1 + 1, 0, none⟩)]) rfl trivial (enters_of Try.func140 (by kernel_rfl) rfl)
    (encs := fun x : Fin n => #[.int .i64 (x.val : Int), .int .u8 (strB k x.val)]) (Kp := fun W W' => W'.heap[g + 1 + 1 + 1]? = W.heap[g + 1 + 1 + 1]?) (S := fun ys => ys.map Fin.val = List.range n) (Sp := fun _ => True) (N := n) (w0 := W0)
    (fun l J Jx W hW _ _ hY h0 => str1_in k h1 h2 n (by omega) _ l (g + 1 + 1 + 1) (g + 1 + 1 + 1 + 1) (by omega) J Jx hY W ((hW.cell (p := ⟨g + 1 + 1 + 1, 0, none⟩) b4.lt).trans b4.cell) ((hW.cell (p := ⟨g + 1 + 1 + 1 + 1, 0, none⟩) b5.lt).trans b5.cell) h0)
    (fun h h' => h'.trans h) (fun W l o o' hl _ _ _ => World.putObj_heap_other (by omega)) (Below.refl _ _) (fun _ => rfl)
    (fun pre W => MaskI g A n c k l pre W ∧ Below w.heap.size w W)
    (fun _ _ _ => False)
    (OwnFrom.and (Go.Own.from (maskI_own g A n c k l) _) (ownFrom_below (Nat.le_refl _) (by rw [HG.out]; omega)))
    (fun _ _ _ _ _ hs _ _ => hs)
    ⟨⟨b1, b2.congr fun j _ => by simp, b3⟩, hB0⟩
    (fun x => { tmps := #[.int .i64 k, .slice A n c, undef, .pointer (some ⟨g, 0, none⟩), .slice none 0 0, .pointer (some ⟨g + 1 + 1, 0, none⟩), .int .i64 (x.val : Int), .int .u8 (strB k x.val), .slice A n c, .int .i64 (n : Int), .slice (some ⟨g + 1, 0, none⟩) n n, .int .i64 k, .slice A n c, .int .i64 (n : Int), .func (.func 140) #[] #[.pointer (some ⟨g + 1 + 1 + 1 + 1, 0, none⟩), .pointer (some ⟨g + 1 + 1 + 1, 0, none⟩)], .int .i64 (x.val : Int), .int .u8 (strB k x.val), undef, undef, undef, undef, undef, undef, undef, undef, undef, undef], defers := [] }) ?assign ?body ?done ?stop
  case assign =>
    intro l x W K hK
    gi_wp2
    exact hK
  case body =>
    rintro l' pre ⟨x, hx⟩ W ⟨⟨hb, hrow, ho⟩, hB⟩ _
    obtain ⟨ba, off, rfl, hba, hcell, _⟩ := (hl.below hB).at_ hx
    have hbc := hb.cell
    have hoc := ho.cell
    have hrc := hrow.cell hx
    have hrf := hrow.frozen x
    have q1 : (0 : Int) ≤ (x : Int) := Int.natCast_nonneg _
    have q2 : (x : Int) < (n : Int) := by omega
    have hmx : Try.prog.follows .mixedOrders = true := by kernel_rfl
    obtain ⟨y, hy⟩ : ∃ y, l.getD x 0 = y := ⟨_, rfl⟩
    rw [hy] at hcell
    obtain ⟨z, hz⟩ : ∃ z, (Value.int .u8 (if x ∈ pre.map Fin.val then bits .xor .u8 (l.getD x 0) (strB k x) else 0)) = z := ⟨_, rfl⟩
    rw [hz] at hrc
    have HY := Lib.hid hy
    have HO := Lib.hid ho
    have HR := Lib.hid hrow
    have HBB := Lib.hid hb
    clear hy hz ho hrow hb b1 b2 b3 b4 b5 hB0
    gi_wp2
    refine still_tail_in_round 8 _ _ hmx (by kernel_rfl) (by kernel_rfl) (by rintro ⟨_, _, h⟩; exact h) ?_
    simp only [List.take_succ_cons, List.take_zero, List.drop_succ_cons, List.drop_zero]
    repeat still_step
    refine wpStill_nil ?_
    go_wp2
    exact ⟨(KeepsOthers.setCell _ _ _).trans (KeepsOthers.drew _), Below.heap_setCell W ⟨g + 1, x, none⟩ _ _ (by simp; omega), mask_step ⟨HBB.out, HR.out, HO.out⟩ hx HY.out, (hB.setCell (p := ⟨g + 1, x, none⟩) (by rw [HG.out]; show g ≤ g + 1; omega) _).drew⟩
  case done =>
    rintro D ys W hD hS ⟨⟨hb, hrow, ho⟩, hB⟩ hK
    have hoc := ho.cell
    gi_wp2
    refine ⟨by simp, .inl ⟨_, _, rfl, run_takeDeferred hK, ?_⟩⟩
    refine ⟨_, results_tmp rfl _ _ _, _, rfl, ?_, ?_⟩
    · exact mask_end (g := g) HL.out hby (by omega) (by rw [HG.out]; omega) hS (hrow.of_block (World.putObj_heap_other (by omega)))
    · exact hB.trans (belowK_b (w := w) (Nat.le_refl _) W D _ _ (by rw [HG.out]; omega) hK rfl rfl)
  case stop =>
    rintro D c' pre W _ _ h _
    exact h.elim
end Go.Proofs.Ytnfmjgldcnokbaa
