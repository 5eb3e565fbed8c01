/-
  Bytes that a call appends to a slice of its own, which may have come in: what else they leave.
-/
import Derived.Test.YtgepeppmhfnbeaaGrowN
import Derived.Test.YtgepeppmhfnbeaaCnt
import Derived.Test.YtgepeppmhfnbeaaCip
namespace Go.Proofs.Ytgepeppmhfnbeaa
set_option maxRecDepth 100000
set_option linter.unusedVariables false
set_option linter.unusedSimpArgs false
open Go.ChangeShapes Go.WideShapes Go.ChangeAt Go.RowKit
/-- From w with v to w' with v': beside v's own block nothing old has changed; v' has v's block or a new one. -/
def Ext (w : World) (v : Value) (w' : World) (v' : Value) : Prop := w.grownBy w' v.ownBlock ∧ (v'.ownBlock = v.ownBlock ∨ ∃ b, v'.ownBlock = some b ∧ w.heap.size ≤ b)
section
variable {w w' w1 w2 : World} {v v' v1 v2 : Value} {B g : Nat} {t : TypeId} {cs : Array Value}
theorem Ext.refl (w : World) (v : Value) : Ext w v w v := ⟨World.grownBy.refl _ _, .inl rfl⟩
theorem Ext.trans (h : Ext w v w1 v1) (k : Ext w1 v1 w2 v2) : Ext w v w2 v2 := by
  refine ⟨⟨k.1.os.trans h.1.os, k.1.tape.trans h.1.tape, k.1.output.trans h.1.output, Nat.le_trans h.1.size k.1.size, fun i hi hn => ?_⟩, ?_⟩
  · refine (k.1.block i (Nat.lt_of_lt_of_le hi h.1.size) ?_).trans (h.1.block i hi hn)
    intro e
    rcases h.2 with h2 | ⟨b, h2, h3⟩
    · exact hn (e.trans h2)
    · rw [h2] at e; injection e with e; omega
  · rcases k.2 with k2 | ⟨b, k2, k3⟩
    · rcases h.2 with h2 | ⟨b, h2, h3⟩
      · exact .inl (k2.trans h2)
      · exact .inr ⟨b, k2.trans h2, h3⟩
    · exact .inr ⟨b, k2, Nat.le_trans h.1.size k3⟩
theorem Ext.of (h : Below w.heap.size w w') : Ext w v w' v := ⟨below_grownBy h, .inl rfl⟩
theorem Ext.app (h : Ext w v w1 v1) (hB : Below w1.heap.size w1 w2) (hg : w2.grownBy w' v1.ownBlock) (ha : v'.ownBlock = v1.ownBlock ∨ v'.ownBlock = some w2.heap.size) : Ext w v w' v' :=
  h.trans ((Ext.of hB).trans ⟨hg, ha.imp id fun e => ⟨_, e, Nat.le_refl _⟩⟩)
theorem Ext.box (h : Ext w v w' v') (hb : Box w g t cs) (hn : v.ownBlock ≠ some g) : Box w' g t cs := hb.grown h.1 (fun e => hn e.symm)
theorem Ext.not (h : Ext w v w' v') (hg : g < w.heap.size) (hn : v.ownBlock ≠ some g) : v'.ownBlock ≠ some g := fun e => by
  rcases h.2 with h2 | ⟨b, h2, h3⟩
  · exact hn (h2.symm.trans e)
  · rw [h2] at e; injection e with e; omega
theorem Ext.below (h : Ext w v w' v') (hB : B ≤ w.heap.size) (hv : ∀ b, v.ownBlock = some b → B ≤ b) : Below B w w' :=
  ⟨h.1.os, h.1.tape, h.1.output, h.1.size, fun k hk => h.1.block k (by omega) fun e => by have := hv k e.symm; omega⟩
end
theorem bcell {w w' : World} {B b o : Nat} {u : Value} (hB : Below B w w') (hb : b < B) (h : w.cell? ⟨b, o, none⟩ = some u) : w'.cell? ⟨b, o, none⟩ = some u := (World.cell?_of_block (hB.block b hb)).trans h
/-- Cells that have just been laid. -/
theorem Src.cells (w : World) (t : TypeId) (us : List Value) : Src (w.alloc (.cells us.toArray t)) 1 (some ⟨w.heap.size, 0, none⟩) us.length us := by
  refine ⟨by simp, fun _ => ⟨_, 0, rfl, fun j u hj => ?_⟩⟩
  rw [Nat.zero_add, (Box.new w t _).cell]
  simpa using hj
theorem ints3 {k : IntKind} (w : World) (t : TypeId) {a b c : Int} (ha : (Lit.int k a).wf = true) (hb : (Lit.int k b).wf = true) (hc : (Lit.int k c).wf = true) :
    Ints k (w.alloc (.cells #[.int k a, .int k b, .int k c] t)) (w.alloc (.cells #[.int k a, .int k b, .int k c] t)).heap.size (some ⟨w.heap.size, 0, none⟩) 3 [a, b, c] := by
  refine ⟨rfl, fun _ => ⟨_, 0, rfl, by simp, fun i hi => ?_⟩, fun x hx => ?_⟩
  · rw [Nat.zero_add, (Box.new w t _).cell]
    rcases (by omega : i = 0 ∨ i = 1 ∨ i = 2) with rfl | rfl | rfl <;> rfl
  · simp only [List.mem_cons, List.not_mem_nil, or_false] at hx
    rcases hx with rfl | rfl | rfl
    · exact ha
    · exact hb
    · exact hc
theorem flS {α : Type} {f : α → List Int} {l : List α} {j : Nat} {a : α} (hl : l[j]? = some a) : (l.take (j + 1)).flatMap f = (l.take j).flatMap f ++ f a := by
  rw [take_sn hl, List.flatMap_append]; simp
theorem flLe {α : Type} {f : α → List Int} {l : List α} {m : Nat} (h : ∀ a ∈ l, (f a).length ≤ m) (j : Nat) : ((l.take j).flatMap f).length ≤ m * l.length := by
  induction l generalizing j with
  | nil => simp
  | cons a l ih =>
    cases j with
    | zero => simp
    | succ j =>
      have := ih (fun x hx => h x (by simp [hx])) j
      have := h a (by simp)
      rw [List.take_succ_cons, List.flatMap_cons, List.length_append, List.length_cons, Nat.mul_succ]
      omega
theorem own_appN {K : IntKind} {e : TypeId} {w : World} {base n : Nat} {v : Value} {l r : List Int} (h : w.ownsRow base e 1 v (l.length + n) (l.map (Value.int K) ++ r.map (Value.int K))) (hn : r.length = n) (hl : ∀ x ∈ l, (Lit.int K x).wf = true) (hr : ∀ x ∈ r, (Lit.int K x).wf = true) : Own K e w base v (l ++ r) :=
  Own.of (n := l.length + n) (by rw [List.map_append]; exact h) fun x hx => by
    rcases List.mem_append.1 hx with h' | h'
    · exact hl x h'
    · exact hr x h'
theorem u8_mod (d : Int) : IntKind.u8.wrap d = d % 256 := by
  have hb : IntKind.u8.bits = 8 := rfl
  have hs : IntKind.u8.signed = false := rfl
  simp [IntKind.wrap, hb, hs]
theorem four_wf {x : Int} : ∀ y ∈ four x, (Lit.int .u8 y).wf = true := fun y hy => WalkArith.wf_u8 (by have := four_bytes x y hy; omega)
theorem four_in {x : Int} (h : 0 ≤ x ∧ x < 2147483648) : [x / 16777216, x / 65536 % 256, x / 256 % 256, x % 256] = four x := by
  unfold four
  rw [Int.emod_eq_of_lt (show 0 ≤ x / 16777216 by omega) (by omega)]
theorem s_fourG {w : World} {base n c : Nat} {A : Option Addr} {l : List Int} (hO : Own .u8 5 w base (.slice A n c) l) (hbase : base ≤ w.heap.size) (hn : n ≤ 1000000) (x : Int) (h : 0 ≤ x ∧ x < 2147483648) :
    Calls Try.prog 151 #[.slice A n c, .int .i64 x] w fun e w' => ∃ v', e = .returned v' ∧ Own .u8 5 w' base v' (l ++ four x) ∧ Ext w (.slice A n c) w' v' := by
  obtain ⟨i0, hi0, hz0, hz1, hz2⟩ := info_parts info_cb
  have HF := Lib.hid (four_in h)
  have HL := Lib.hid hO.intsAt.2
  have hOa := fun o => hO.alloc o
  have HO := Lib.hid hO.2
  go_enter Try.func151, Try.ntmps151
  go_wp2_with (at_builtin; refine wpList_app _ rfl (.tmp 5) (.tmp 17) _ rfl base 5 i0 _ 1 1 Try.underlying22 hi0 hz0 hz1 hz2 rfl (by omega) (.slice A n c) l.length (l.map (Value.int .u8)) rfl (hOa _).1 _ 4 4 [.int .u8 (x / 16777216), .int .u8 (x / 65536 % 256), .int .u8 (x / 256 % 256), .int .u8 (x % 256)] rfl (Src.cells _ _ _) (by intro u hu; simp only [List.mem_cons, List.not_mem_nil, or_false] at hu; rcases hu with rfl | rfl | rfl | rfl <;> rfl) (by simp only [maxLen]; have := HL.out; omega) (by have := HL.out; omega) (by first | (simp; done) | (simp; omega)) ?_; intro v1 w1 hown hg hat)
  go_ret
  exact ⟨_, rfl, own_appN (r := four x) (by rw [← HF.out]; exact hown) rfl HO.out four_wf, (Ext.refl _ _).app (by repeat (first | (with_reducible exact Below.refl _ _) | (with_reducible assumption) | (with_reducible refine bel_alloc ?_ _) | (with_reducible refine bel_drew ?_) | (with_reducible refine below_drewN ?_ _) | (with_reducible refine bel_put ?_ (by first | exact Nat.le_refl _ | (simp; done) | (simp; omega)) _))) hg hat⟩
end Go.Proofs.Ytgepeppmhfnbeaa
