/-
  Contracts of the program's Peel: the three ways behind the decoder.
-/
import Derived.Test.YtpapkonejkdkhaaImplPeel
namespace Go.Proofs.Ytpapkonejkdkhaa
set_option maxRecDepth 100000
set_option linter.unusedSimpArgs false
set_option linter.unusedVariables false
open Go.ChangeShapes Go.WideShapes Go.ChangeAt Go.RowKit
open Fld
attribute [local go_sem ↓] Go.wp_at_zero Go.wp_at_succ

set_option maxHeartbeats 2000000 in
theorem i_Peel_n {A A' : Option Addr} {c m d : Nat} {w : World} {l pad : List Int} (s : Int) (hs : Sec s) (hl : Ints .u8 w w.heap.size A 80 l) (hc : 80 ≤ c) (hcm : c ≤ 9223372036854775807) (hp : Ints .u8 w w.heap.size A' m pad) (hm : 80 ≤ m) (hmd : m ≤ d) (hd : d ≤ 9223372036854775807) (hno : ¬ peels s l) :
    Calls Try.prog 14 #[.int .i64 s, .agg #[.slice A 80 c], .slice A' m d] w fun e w' => ∃ vL vC, e = .returned (.tuple #[.agg #[.int .i64 (ppeel s l pad).1.next, .int .i64 (ppeel s l pad).1.due, .int .i64 (ppeel s l pad).1.tag, vL, vC], .bool (ppeel s l pad).2]) ∧ ReadsF w.heap.size w' vL (ppeel s l pad).1.load ∧ ReadsF w.heap.size w' vC (ppeel s l pad).1.cell ∧ Below w.heap.size w w' := by
  have hmf : ∀ (fn : Fn) (first cap : Array Value) (w : World), (Instr.makeFunc fn first cap).run Try.prog w = .ok (.func fn first cap) w := fun _ _ _ _ => rfl
  have bc : Box (((w.alloc (.cells #[.slice A 80 c] 26)).alloc (.cells #[.int .i64 0, .int .i64 0, .int .i64 0, .slice none 0 0, .slice none 0 0] 28)).alloc (.cells #[.bool false] 4)) w.heap.size 26 #[.slice A 80 c] := ((Box.new w _ _).alloc _).alloc _
  have b1 : Box (((w.alloc (.cells #[.slice A 80 c] 26)).alloc (.cells #[.int .i64 0, .int .i64 0, .int .i64 0, .slice none 0 0, .slice none 0 0] 28)).alloc (.cells #[.bool false] 4)) (w.heap.size + 1) 28 #[.int .i64 0, .int .i64 0, .int .i64 0, .slice none 0 0, .slice none 0 0] := Box.alloc (by have := Box.new (w.alloc (.cells #[.slice A 80 c] 26)) 28 #[.int .i64 0, .int .i64 0, .int .i64 0, .slice none 0 0, .slice none 0 0]; simpa using this) _
  have b2 : Box (((w.alloc (.cells #[.slice A 80 c] 26)).alloc (.cells #[.int .i64 0, .int .i64 0, .int .i64 0, .slice none 0 0, .slice none 0 0] 28)).alloc (.cells #[.bool false] 4)) (w.heap.size + 1 + 1) 4 #[.bool false] := by have := Box.new ((w.alloc (.cells #[.slice A 80 c] 26)).alloc (.cells #[.int .i64 0, .int .i64 0, .int .i64 0, .slice none 0 0, .slice none 0 0] 28)) 4 #[.bool false]; simpa using this
  obtain ⟨Y0, hY0⟩ : ∃ y, (peelX s l).getD 0 0 = y := ⟨_, rfl⟩
  obtain ⟨Y1, hY1⟩ : ∃ y, (peelX s l).getD 1 0 = y := ⟨_, rfl⟩
  obtain ⟨Y2, hY2⟩ : ∃ y, (peelX s l).getD 2 0 = y := ⟨_, rfl⟩
  have HY0 := Lib.hid hY0; have HY1 := Lib.hid hY1; have HY2 := Lib.hid hY2
  clear hY0 hY1 hY2
  obtain ⟨DU, hDU⟩ : ∃ y, Y1 * 256 + Y2 = y := ⟨_, rfl⟩
  have HDU := Lib.hid hDU
  clear hDU
  have hm1 : ∀ (v : Value) (w : World), (method 305 85 (.agg #[v]) "loop.example/g00611/impl.next").run Try.prog w = .ok (204, .agg #[v]) w := fun _ _ => by kernel_rfl
  have hm2 : ∀ (u v : Value) (w : World), (method 305 87 (.agg #[u, v]) "loop.example/g00611/impl.next").run Try.prog w = .ok (206, .agg #[u, v]) w := fun _ _ _ => by kernel_rfl
  have dm : decide ((80 : Int) ≤ (m : Int)) = true := by simp; omega
  go_enter_defers Try.func14, Try.ntmps14
  go_wp2_with (go_at_call 54; with_reducible refine (i_sec_t _ _ (by assumption)).mono ?_; rintro e w' ⟨rfl, rfl⟩)
  refine (i_CellOk_t _ _ _ _ rfl).mono ?_
  rintro e w1 ⟨rfl, hB1⟩
  have bc' := bc.below hB1 (by first | (simp; done) | (simp; omega))
  have b1' := b1.below hB1 (by first | (simp; done) | (simp; omega))
  have b2' := b2.below hB1 (by first | (simp; done) | (simp; omega))
  have hBB1 : Below w.heap.size w w1 := bel_trans (by repeat (first | (with_reducible exact Below.refl _ _) | (with_reducible assumption) | (with_reducible refine bel_alloc ?_ _) | (with_reducible refine bel_drew ?_) | (with_reducible refine below_drewN ?_ _) | (with_reducible refine bel_put ?_ (by first | exact Nat.le_refl _ | (simp; done) | (simp; omega)) _))) hB1
  clear bc b1 b2
  have cc := bc'.cell 0
  go_wp2_with (go_at_call 53; refine (i_demand_t _).mono ?_; rintro e w' ⟨rfl, rfl⟩)
  refine (i_decoded s (reach hl hBB1) hc hcm hs).mono ?_
  rintro e w2 ⟨hB2, ⟨hnp, v, rfl⟩ | ⟨hpe, vL, hR, ⟨hy, rfl⟩ | ⟨hy, rfl⟩⟩⟩
  · have b1 := b1'.below hB2 b1'.size
    have b2 := b2'.below hB2 b2'.size
    have hBB2 := bel_trans hBB1 hB2
    have H := Lib.hid (ppeel_f (pad := pad) hnp)
    go_wp2
    refine leaves_cons (f := 52) (args := #[.pointer (some ⟨w.heap.size + 1, 0, none⟩), .pointer (some ⟨w.heap.size + 1 + 1, 0, none⟩)]) (by simp) (by simp [go_sem]) ?_
    refine (i_catch_p (w.heap.size + 1) (w.heap.size + 1 + 1) (by omega) 0 0 0 (.slice none 0 0) (.slice none 0 0) false _ _ _ b1 b2).mono ?_
    rintro e u' w'' ⟨rfl, rfl, bG, bH, hw⟩
    have e0 := bG.cell 0; have e1 := bG.cell 1; have e2 := bG.cell 2; have e3 := bG.cell 3; have e4 := bG.cell 4; have k0 := bH.cell 0
    have hBw : Below w.heap.size w w'' := by rw [hw]; exact (by repeat (first | (with_reducible exact Below.refl _ _) | (with_reducible assumption) | (with_reducible refine bel_alloc ?_ _) | (with_reducible refine bel_drew ?_) | (with_reducible refine below_drewN ?_ _) | (with_reducible refine bel_put ?_ (by first | exact Nat.le_refl _ | (simp; done) | (simp; omega)) _)))
    simp [Leaves, settle, results, Try.results14, go_sem, e0, e1, e2, e3, e4, k0]
    rw [H.out]
    exact ⟨_, _, ⟨⟨rfl, rfl, rfl, rfl, rfl⟩, rfl⟩, ReadsF.nil _ _, ReadsF.nil _ _, hBw⟩
  · exact absurd hpe hno
  · exact absurd hpe hno
end Go.Proofs.Ytpapkonejkdkhaa
