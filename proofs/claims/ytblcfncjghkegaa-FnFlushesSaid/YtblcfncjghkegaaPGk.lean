/-
  SpecTwo, DrawTwo, SpecThree, Ext, SpecOrd: texts joined.
-/
import Derived.Test.YtblcfncjghkegaaPGb
import Derived.Test.YtblcfncjghkegaaPGe
import Derived.Test.YtblcfncjghkegaaPGg
import Derived.Test.YtblcfncjghkegaaPGh
import Derived.Test.YtblcfncjghkegaaPGi
import Derived.Test.YtblcfncjghkegaaPGj
import Derived.BigQuiet
import Derived.Deep.DrawnRows
import Derived.Deep.QuietTactic
import Derived.Deep.RegionHeld3
import Derived.Outline
namespace Go.Proofs.Ytblcfncjghkegaa
set_option maxRecDepth 100000
open Go.ChangeShapes Go.WideShapes Go.ChangeAt Go.RowKit
open Fld
attribute [local go_sem ↓] Go.wp_at_zero Go.wp_at_succ

theorem info_by : (Try.prog.info? 5).map (fun i => (i.zero, i.size, i.bytes)) = some (some (.int .u8 0), 1, 1) := by kernel_rfl
theorem wf8 {x : Int} (h : 0 ≤ x ∧ x < 256) : (Lit.int .u8 x).wf = true := WalkArith.wf_u8 (by omega)
theorem Ints.bytes {w : World} {B n : Nat} {A : Option Addr} {l : List Int} (h : Ints .u8 w B A n l) : Bytes l := fun x hx => by
  have := h.2.2 x hx
  simp [Lit.wf] at this
  have e1 : IntKind.u8.min = 0 := by decide
  have e2 : IntKind.u8.max = 255 := by decide
  omega
theorem own_snoc {e : TypeId} {w w1 : World} {base : Nat} {v v1 : Value} {l l' : List Int} {x : Int} (h : Own .u8 e w base v l) (h1 : w1.ownsRow base e 1 v1 (l.length + 1) (l.map (Value.int .u8) ++ [.int .u8 x])) (hl : l' = l ++ [x]) (hx : 0 ≤ x ∧ x < 256) : Own .u8 e w1 base v1 l' := by
  subst hl
  refine Own.of (n := l.length + 1) (by simpa using h1) fun y hy => ?_
  rcases List.mem_append.1 hy with h' | h'
  · exact h.2 y h'
  · rw [List.mem_singleton] at h'; rw [h']; exact wf8 hx
theorem Own.not {k : IntKind} {e : TypeId} {w : World} {base b : Nat} {v : Value} {l : List Int} (h : Own k e w base v l) (hb : b < base) : some b ≠ v.ownBlock := fun e => by
  have := (h.block e.symm).1; omega

theorem Src.four (w : World) (t : TypeId) (x0 x1 x2 x3 : Int) : Src (w.alloc (.cells #[.int .u8 x0, .int .u8 x1, .int .u8 x2, .int .u8 x3] t)) 1 (some ⟨w.heap.size, 0, none⟩) 4 ([x0, x1, x2, x3].map (Value.int .u8)) := by
  refine ⟨rfl, fun _ => ⟨_, 0, rfl, fun j v hj => ?_⟩⟩
  rw [(Box.new w t _).cell]
  match j, hj with
  | 0, hj => exact hj
  | 1, hj => exact hj
  | 2, hj => exact hj
  | 3, hj => exact hj
theorem own_app {e : TypeId} {w : World} {base : Nat} {v : Value} {l r : List Int} (h : w.ownsRow base e 1 v (l.length + r.length) (l.map (Value.int .u8) ++ r.map (Value.int .u8))) (hl : Bytes l) (hr : Bytes r) : Own .u8 e w base v (l ++ r) :=
  Own.of (n := l.length + r.length) (by rw [List.map_append]; exact h) fun y hy => wf8 (hl.app hr y hy)
theorem Ints.tail {w : World} {B n b off : Nat} {l : List Int} (h : Ints .u8 w B (some ⟨b, off, none⟩) n l) (m : Nat) (hm : m ≤ n) : Ints .u8 w B (some ⟨b, off + m, none⟩) (n - m) (l.drop m) := by
  refine ⟨by rw [List.length_drop, h.1], fun h0 => ?_, fun x hx => h.2.2 x (List.mem_of_mem_drop hx)⟩
  obtain ⟨b', off', e, hb, hc⟩ := h.2.1 (by omega)
  simp only [Option.some.injEq, Addr.mk.injEq, and_true] at e
  obtain ⟨rfl, rfl⟩ := e
  refine ⟨b, off + m, rfl, hb, fun i hi => ?_⟩
  rw [getD_drop, Nat.add_assoc]
  exact hc (m + i) (by omega)
end Go.Proofs.Ytblcfncjghkegaa
namespace Go.Proofs.Ytblcfncjghkegaa
open Go.ChangeShapes Go.WideShapes Go.ChangeAt Go.RowKit

theorem below_gb2 {a w w' : World} {g : Nat} (h : Below a.heap.size a w) (hg : a.heap.size ≤ g) (hG : w.grownBy w' (some g)) : Below a.heap.size a w' :=
  h.trans (gb_below hG h.size hg)
theorem seven_cells (w : World) (t : TypeId) (x0 x1 x2 x3 x4 x5 x6 : Int) : ∀ i, i < 7 → (w.alloc (.cells #[.int .i64 x0, .int .i64 x1, .int .i64 x2, .int .i64 x3, .int .i64 x4, .int .i64 x5, .int .i64 x6] t)).cell? ⟨w.heap.size, 0 + i, none⟩ = some (.int .i64 ([x0, x1, x2, x3, x4, x5, x6].getD i 0)) := by
  intro i hi
  rw [(Box.new w t _).cell]
  match i, hi with
  | 0, _ => rfl
  | 1, _ => rfl
  | 2, _ => rfl
  | 3, _ => rfl
  | 4, _ => rfl
  | 5, _ => rfl
  | 6, _ => rfl
theorem k_Once (a : World) {w : World} {g n c : Nat} {A : Option Addr} {l : List Int} (m : Int) (h : Curs w g A n c l) (hG : a.grownBy w (some g)) (h1 : 1 ≤ m) (h2 : m ≤ 9223372036854775807) :
    Calls Try.prog 75 #[.pointer (some ⟨g, 0, none⟩), .int .i64 m] w fun e w' => ∃ b : Bool, e = .returned (.bool b) ∧ Curs w' g A n c l ∧ a.grownBy w' (some g) := by
  go_enter Try.func75, Try.ntmps75
  go_wp2_with (go_at_call 38; refine (k_Below a _ h hG h1 h2).mono ?_; rintro e w1 ⟨x, rfl, hx0, hx1, hC1, hG1⟩)
  go_ret
  exact ⟨_, rfl, hC1, hG1⟩
theorem zeros_own {w : World} {g n base : Nat} {t : TypeId} (h : w.rowIs g t n (fun _ => .int .u8 0)) (hn : n ≤ 1000) (hb : base ≤ g) : Own .u8 t w base (.slice (some ⟨g, 0, none⟩) n n) (List.replicate n 0) :=
  Own.of_row (h.congr fun j hj => by rw [List.getD_eq_getElem?_getD, List.getElem?_replicate, if_pos hj]; rfl) (by simp) (by simp only [maxLen]; omega) hb (fun x hx => by rw [(List.mem_replicate.1 hx).2]; decide)
end Go.Proofs.Ytblcfncjghkegaa
namespace Go.Proofs.Ytblcfncjghkegaa
set_option maxRecDepth 100000
open Go.ChangeShapes Go.WideShapes Go.ChangeAt Go.RowKit
open Fld
attribute [local go_sem ↓] Go.wp_at_zero Go.wp_at_succ

theorem empty_row (w : World) (t : TypeId) : (w.alloc (.cells #[] t)).ownsRow w.heap.size t 1 (.slice (some ⟨w.heap.size, 0, none⟩) 0 0) 0 [] :=
  ⟨rfl, .inr ⟨w.heap.size, 0, #[], rfl, Nat.le_refl _, heap_alloc_new w _, Nat.le_refl _, by simp only [maxLen]; omega, rfl, rfl⟩⟩
theorem s_fill {w : World} {n c m d : Nat} {A A' : Option Addr} {l pad : List Int} (hl : Ints .u8 w w.heap.size A n l) (hp : Ints .u8 w w.heap.size A' m pad) (hn : n ≤ 80) (hm : 80 ≤ m) (hm2 : m ≤ 140737488355328) :
    Calls Try.prog 86 #[.slice A n c, .slice A' m d] w fun e w' => ∃ v, e = .returned (.agg #[v]) ∧ Own .u8 5 w' w.heap.size v (padL l pad) ∧ Below w.heap.size w w' := by
  obtain ⟨i0, hi0, hz0, hz1, hz2⟩ := info_parts info_by
  have HL := Lib.hid hl.1
  have HP := Lib.hid hp.1
  have hby := hl.bytes
  have hpy := hp.bytes
  go_enter Try.func86, Try.ntmps86
  have hE : ((w.alloc (.cells #[.slice none 0 0] 28)).alloc (.cells #[] 5)).ownsRow (w.heap.size + 1) 5 1 (.slice (some ⟨w.heap.size + 1, 0, none⟩) 0 0) 0 [] := by simpa using empty_row (w.alloc (.cells #[.slice none 0 0] 28)) 5
  go_wp2_with (at_builtin; refine wpList_app _ rfl (.tmp 7) (.tmp 8) _ rfl (w.heap.size + 1) 5 i0 _ 1 1 Try.underlying22 hi0 hz0 hz1 hz2 rfl (by omega) (.slice (some ⟨w.heap.size + 1, 0, none⟩) 0 0) 0 [] rfl hE A n c _ rfl (Src.of_ints (reach hl (belx))) (one_ints _ _) (by simp only [maxLen]; omega) (by omega) (by simp) ?_; intro v1 w1 hown hg hat)
  have hB1 : Below w.heap.size w w1 := Below.grown (a := w) (belx) hg (by simp; omega) (by intro b hb; simp [Value.ownBlock] at hb; omega)
  have b1 : Box w1 w.heap.size 28 #[.slice none 0 0] := Box.grown ((Box.new _ _ _).alloc _) hg (by simp [Value.ownBlock])
  have hO1 : Own .u8 5 w1 (w.heap.size + 1) v1 l := Own.of (n := n) (by simpa using hown) hl.2.2
  clear hown hg hat
  go_loopw [5, 6] (fun v i wr => ∃ j : Nat, n + j ≤ 80 ∧ i = .int .i64 j ∧ Own .u8 5 wr (w.heap.size + 1) v (l ++ pad.take j) ∧ Below w.heap.size w wr ∧ Box wr w.heap.size 28 #[.slice none 0 0]) (fun _ i _ => 80 - n - (intOf i).toNat)
  case atStart => exact ⟨0, by omega, rfl, by simpa using hO1, hB1, b1⟩
  case round =>
    clear hO1 b1
    obtain ⟨j, hj, rfl, hO, hB, hX⟩ := hrel
    have hlen : (l ++ pad.take j).length = n + j := by rw [List.length_append, List.length_take, HL.out, HP.out]; omega
    by_cases hlt : n + j < 80
    · obtain ⟨b, off, rfl, hb, hcell, _⟩ := (hp.below hB).at_ (show j < m by omega)
      have HS := Lib.hid (show l ++ pad.take (j + 1) = (l ++ pad.take j) ++ [pad.getD j 0] by rw [List.take_succ_eq_append_getElem (by rw [HP.out]; omega), getD_lt (by rw [HP.out]; omega), List.append_assoc])
      have rx := hpy.at_ j
      obtain ⟨x, hx⟩ : ∃ x, pad.getD j 0 = x := ⟨_, rfl⟩
      rw [hx] at hcell rx
      have HX := Lib.hid hx
      clear hx
      obtain ⟨xs, hxs⟩ : ∃ xs, l ++ pad.take j = xs := ⟨_, rfl⟩
      rw [hxs] at hO hlen
      have HY := Lib.hid hxs
      clear hxs
      obtain ⟨A1, c1, rfl, _⟩ := hO.ints
      have q1 : (0 : Int) ≤ (j : Int) := Int.natCast_nonneg _
      have q2 : (j : Int) < (m : Int) := by omega
      have q3 : (xs.length : Int) < 80 := by omega
      have q4 : xs.length ≤ 80 := by omega
      clear hlen
      go_wp2_with (at_builtin; refine wpList_app _ rfl (.tmp 15) (.tmp 20) _ rfl (w.heap.size + 1) 5 i0 _ 1 1 Try.underlying22 hi0 hz0 hz1 hz2 rfl (by omega) (.slice A1 xs.length c1) xs.length (xs.map (Value.int .u8)) rfl (hO.1.alloc _) (some ⟨wr.heap.size, 0, none⟩) 1 1 [.int .u8 x] rfl (Src.one wr _ _) (one_int _ _) (by simp only [maxLen]; omega) (by omega) (by have := hX.size; simp; omega) ?_; intro v1 w1 hown hg hat)
      go_roundw
      case rel => exact ⟨j + 1, by omega, by go_num, own_snoc hO hown (by rw [HS.out, HY.out, HX.out]) rx, (bel_alloc hB _).grown hg (by have := hX.size; simp; omega) (fun b hb => by have := (hO.block hb).1; omega), (hX.alloc _).grown hg (fun e => by have := (hO.block e.symm).1; omega)⟩
      case measure => simp [intOf]; omega
    · have HE := Lib.hid (show padL l pad = l ++ pad.take j by unfold padL; rw [HL.out, show 80 - n = j by omega])
      obtain ⟨xs, hxs⟩ : ∃ xs, l ++ pad.take j = xs := ⟨_, rfl⟩
      rw [hxs] at hO hlen
      have HY := Lib.hid hxs
      clear hxs
      obtain ⟨A1, c1, rfl, _⟩ := hO.ints
      have q3 : ¬ (xs.length : Int) < 80 := by omega
      clear hlen
      have c1' := hX.cell 0; have f1 := hX.frozen 0
      have e := (hX.put 0 (.slice A1 xs.length c1)).cell 0
      go_wp2
      refine bodyPost_ret (v := .agg #[.slice A1 xs.length c1]) (by simp [results, Try.results86, go_sem, e]) rfl ⟨_, rfl, ?_, bel_put hB (Nat.le_refl _) _⟩
      rw [HE.out, HY.out]
      exact (hO.far (by omega) 0 _).lower (by omega)
end Go.Proofs.Ytblcfncjghkegaa
namespace Go.Proofs.Ytblcfncjghkegaa
set_option maxRecDepth 100000
set_option linter.unusedVariables false
set_option linter.unusedSimpArgs false
open Go.ChangeShapes Go.WideShapes Go.ChangeAt Go.RowKit
/-- From w with v to w' with v': beside v's own block nothing old has changed; v' has v's block or a new one. -/
def Ext (w : World) (v : Value) (w' : World) (v' : Value) : Prop := w.grownBy w' v.ownBlock ∧ (v'.ownBlock = v.ownBlock ∨ ∃ b, v'.ownBlock = some b ∧ w.heap.size ≤ b)
section
variable {w w' w1 w2 : World} {v v' v1 v2 : Value} {B g : Nat} {t : TypeId} {cs : Array Value}
theorem Ext.refl (w : World) (v : Value) : Ext w v w v := ⟨World.grownBy.refl _ _, .inl rfl⟩
theorem Ext.trans (h : Ext w v w1 v1) (k : Ext w1 v1 w2 v2) : Ext w v w2 v2 := by
  refine ⟨⟨k.1.os.trans h.1.os, k.1.tape.trans h.1.tape, k.1.output.trans h.1.output, Nat.le_trans h.1.size k.1.size, fun i hi hn => ?_⟩, ?_⟩
  · refine (k.1.block i (Nat.lt_of_lt_of_le hi h.1.size) ?_).trans (h.1.block i hi hn)
    intro e
    rcases h.2 with h2 | ⟨b, h2, h3⟩
    · exact hn (e.trans h2)
    · rw [h2] at e; injection e with e; omega
  · rcases k.2 with k2 | ⟨b, k2, k3⟩
    · rcases h.2 with h2 | ⟨b, h2, h3⟩
      · exact .inl (k2.trans h2)
      · exact .inr ⟨b, k2.trans h2, h3⟩
    · exact .inr ⟨b, k2, Nat.le_trans h.1.size k3⟩
theorem Ext.of (h : Below w.heap.size w w') : Ext w v w' v := ⟨below_grownBy h, .inl rfl⟩
theorem Ext.app (h : Ext w v w1 v1) (hB : Below w1.heap.size w1 w2) (hg : w2.grownBy w' v1.ownBlock) (ha : v'.ownBlock = v1.ownBlock ∨ v'.ownBlock = some w2.heap.size) : Ext w v w' v' :=
  h.trans ((Ext.of hB).trans ⟨hg, ha.imp id fun e => ⟨_, e, Nat.le_refl _⟩⟩)
theorem Ext.box (h : Ext w v w' v') (hb : Box w g t cs) (hn : v.ownBlock ≠ some g) : Box w' g t cs := hb.grown h.1 (fun e => hn e.symm)
theorem Ext.not (h : Ext w v w' v') (hg : g < w.heap.size) (hn : v.ownBlock ≠ some g) : v'.ownBlock ≠ some g := fun e => by
  rcases h.2 with h2 | ⟨b, h2, h3⟩
  · exact hn (h2.symm.trans e)
  · rw [h2] at e; injection e with e; omega
theorem Ext.below (h : Ext w v w' v') (hB : B ≤ w.heap.size) (hv : ∀ b, v.ownBlock = some b → B ≤ b) : Below B w w' :=
  ⟨h.1.os, h.1.tape, h.1.output, h.1.size, fun k hk => h.1.block k (by omega) fun e => by have := hv k e.symm; omega⟩
end
theorem bcell {w w' : World} {B b o : Nat} {u : Value} (hB : Below B w w') (hb : b < B) (h : w.cell? ⟨b, o, none⟩ = some u) : w'.cell? ⟨b, o, none⟩ = some u := (World.cell?_of_block (hB.block b hb)).trans h
/-- Cells that have just been laid. -/
theorem Src.cells (w : World) (t : TypeId) (us : List Value) : Src (w.alloc (.cells us.toArray t)) 1 (some ⟨w.heap.size, 0, none⟩) us.length us := by
  refine ⟨by simp, fun _ => ⟨_, 0, rfl, fun j u hj => ?_⟩⟩
  rw [Nat.zero_add, (Box.new w t _).cell]
  simpa using hj
theorem ints3 {k : IntKind} (w : World) (t : TypeId) {a b c : Int} (ha : (Lit.int k a).wf = true) (hb : (Lit.int k b).wf = true) (hc : (Lit.int k c).wf = true) :
    Ints k (w.alloc (.cells #[.int k a, .int k b, .int k c] t)) (w.alloc (.cells #[.int k a, .int k b, .int k c] t)).heap.size (some ⟨w.heap.size, 0, none⟩) 3 [a, b, c] := by
  refine ⟨rfl, fun _ => ⟨_, 0, rfl, by simp, fun i hi => ?_⟩, fun x hx => ?_⟩
  · rw [Nat.zero_add, (Box.new w t _).cell]
    rcases (by omega : i = 0 ∨ i = 1 ∨ i = 2) with rfl | rfl | rfl <;> rfl
  · simp only [List.mem_cons, List.not_mem_nil, or_false] at hx
    rcases hx with rfl | rfl | rfl
    · exact ha
    · exact hb
    · exact hc
theorem flS {α : Type} {f : α → List Int} {l : List α} {j : Nat} {a : α} (hl : l[j]? = some a) : (l.take (j + 1)).flatMap f = (l.take j).flatMap f ++ f a := by
  rw [take_sn hl, List.flatMap_append]; simp
theorem flLe {α : Type} {f : α → List Int} {l : List α} {m : Nat} (h : ∀ a ∈ l, (f a).length ≤ m) (j : Nat) : ((l.take j).flatMap f).length ≤ m * l.length := by
  induction l generalizing j with
  | nil => simp
  | cons a l ih =>
    cases j with
    | zero => simp
    | succ j =>
      have := ih (fun x hx => h x (by simp [hx])) j
      have := h a (by simp)
      rw [List.take_succ_cons, List.flatMap_cons, List.length_append, List.length_cons, Nat.mul_succ]
      omega
theorem own_appN {K : IntKind} {e : TypeId} {w : World} {base n : Nat} {v : Value} {l r : List Int} (h : w.ownsRow base e 1 v (l.length + n) (l.map (Value.int K) ++ r.map (Value.int K))) (hn : r.length = n) (hl : ∀ x ∈ l, (Lit.int K x).wf = true) (hr : ∀ x ∈ r, (Lit.int K x).wf = true) : Own K e w base v (l ++ r) :=
  Own.of (n := l.length + n) (by rw [List.map_append]; exact h) fun x hx => by
    rcases List.mem_append.1 hx with h' | h'
    · exact hl x h'
    · exact hr x h'
theorem u8_mod (d : Int) : IntKind.u8.wrap d = d % 256 := by
  have hb : IntKind.u8.bits = 8 := rfl
  have hs : IntKind.u8.signed = false := rfl
  simp [IntKind.wrap, hb, hs]
theorem four_wf {x : Int} : ∀ y ∈ four x, (Lit.int .u8 y).wf = true := fun y hy => WalkArith.wf_u8 (by have := four_bytes x y hy; omega)
theorem four_in {x : Int} (h : 0 ≤ x ∧ x < 2147483648) : [x / 16777216, x / 65536 % 256, x / 256 % 256, x % 256] = four x := by
  unfold four
  rw [Int.emod_eq_of_lt (show 0 ≤ x / 16777216 by omega) (by omega)]
theorem s_fourG {w : World} {base n c : Nat} {A : Option Addr} {l : List Int} (hO : Own .u8 5 w base (.slice A n c) l) (hbase : base ≤ w.heap.size) (hn : n ≤ 1000000) (x : Int) (h : 0 ≤ x ∧ x < 2147483648) :
    Calls Try.prog 99 #[.slice A n c, .int .i64 x] w fun e w' => ∃ v', e = .returned v' ∧ Own .u8 5 w' base v' (l ++ four x) ∧ Ext w (.slice A n c) w' v' := by
  obtain ⟨i0, hi0, hz0, hz1, hz2⟩ := info_parts info_cb
  have HF := Lib.hid (four_in h)
  have HL := Lib.hid hO.intsAt.2
  have hOa := fun o => hO.alloc o
  have HO := Lib.hid hO.2
  go_enter Try.func99, Try.ntmps99
  go_wp2_with (at_builtin; refine wpList_app _ rfl (.tmp 5) (.tmp 17) _ rfl base 5 i0 _ 1 1 Try.underlying22 hi0 hz0 hz1 hz2 rfl (by omega) (.slice A n c) l.length (l.map (Value.int .u8)) rfl (hOa _).1 _ 4 4 [.int .u8 (x / 16777216), .int .u8 (x / 65536 % 256), .int .u8 (x / 256 % 256), .int .u8 (x % 256)] rfl (Src.cells _ _ _) (by intro u hu; simp only [List.mem_cons, List.not_mem_nil, or_false] at hu; rcases hu with rfl | rfl | rfl | rfl <;> rfl) (by simp only [maxLen]; have := HL.out; omega) (by have := HL.out; omega) (by first | (simp; done) | (simp; omega)) ?_; intro v1 w1 hown hg hat)
  go_ret
  exact ⟨_, rfl, own_appN (r := four x) (by rw [← HF.out]; exact hown) rfl HO.out four_wf, (Ext.refl _ _).app (belx) hg hat⟩
end Go.Proofs.Ytblcfncjghkegaa
namespace Go.Proofs.Ytblcfncjghkegaa
open Go.ChangeShapes Go.WideShapes Go.ChangeAt Go.RowKit
open Fld
set_option maxRecDepth 100000
attribute [local go_sem ↓] Go.wp_at_zero Go.wp_at_succ

theorem info_ii : (Try.prog.info? 3).map (fun i => (i.zero, i.size, i.bytes)) = some (some (.int .i64 0), 1, 8) := by kernel_rfl
theorem by_ints {w : World} {B n : Nat} {A : Option Addr} {l : List Int} (h : Ints .u8 w B A n l) : Bytes l := fun x hx => by
  have := h.2.2 x hx
  simp [Lit.wf] at this
  have e1 : IntKind.u8.min = 0 := by decide
  have e2 : IntKind.u8.max = 255 := by decide
  omega

theorem i64_eq {a b : Int} (h : a = b) : Value.int .i64 a = .int .i64 b := by rw [h]
/-- One more exchange, and what it is. -/
theorem shuf_more {d l L : List Int} {q j U : Nat} (hby : Bytes d) (hq : q ≤ d.length) (hj : 0 < j) (h : shuf d j l q = some (L, U)) :
    ∃ x nx : Nat, Hid (belP d q ((j : Int) + 1) = ((x : Int), nx)) ∧ Hid (shuf d (j - 1) (swp l j x) nx = some (L, U)) ∧ x ≤ j ∧ nx ≤ d.length ∧ q < nx := by
  obtain ⟨i, rfl⟩ : ∃ i, j = i + 1 := ⟨j - 1, by omega⟩
  have e : (((i + 1 : Nat) : Int) + 1) = (i : Int) + 2 := by omega
  rw [e]
  by_cases hn : (belP d q ((i : Int) + 2)).1 < 0
  · rw [shuf_no hn] at h; cases h
  · rw [shuf_yes hn] at h
    rcases belP_or (n := (i : Int) + 2) (by omega) hby hq with h1 | h1
    · omega
    · obtain ⟨h2, h3, h4, h5⟩ := h1
      refine ⟨(belP d q ((i : Int) + 2)).1.toNat, (belP d q ((i : Int) + 2)).2, Lib.hid (Prod.ext (by show _ = (((belP d q ((i : Int) + 2)).1.toNat : Nat) : Int); omega) rfl), Lib.hid h, by omega, h5, h4⟩
theorem shuf_none {d l : List Int} {q j : Nat} (hby : Bytes d) (hq : q ≤ d.length) (hj : 0 < j) (h : shuf d j l q = none) :
    (∃ nx : Nat, Hid (belP d q ((j : Int) + 1) = (-1, nx)) ∧ q ≤ nx) ∨ ∃ x nx : Nat, Hid (belP d q ((j : Int) + 1) = ((x : Int), nx)) ∧ Hid (shuf d (j - 1) (swp l j x) nx = none) ∧ x ≤ j ∧ nx ≤ d.length ∧ q < nx := by
  obtain ⟨i, rfl⟩ : ∃ i, j = i + 1 := ⟨j - 1, by omega⟩
  have e : (((i + 1 : Nat) : Int) + 1) = (i : Int) + 2 := by omega
  rw [e]
  rcases belP_or (n := (i : Int) + 2) (by omega) hby hq with h1 | h1
  · exact .inl ⟨(belP d q ((i : Int) + 2)).2, Lib.hid (Prod.ext h1.1 rfl), by rw [h1.2]; exact hq⟩
  · obtain ⟨h2, h3, h4, h5⟩ := h1
    rw [shuf_yes (by omega)] at h
    exact .inr ⟨(belP d q ((i : Int) + 2)).1.toNat, (belP d q ((i : Int) + 2)).2, Lib.hid (Prod.ext (by show _ = (((belP d q ((i : Int) + 2)).1.toNat : Nat) : Int); omega) rfl), Lib.hid h, by omega, h5, h4⟩
theorem swp_put {e : TypeId} {w : World} {base g : Nat} {l : List Int} {c i j : Nat} (h1 : Own .i64 e w base (.slice (some ⟨g, 0, none⟩) l.length c) l) (hi : i < l.length) (hj : j < l.length) :
    Own .i64 e ((w.setCell ⟨g, i, none⟩ (.int .i64 (l.getD j 0))).setCell ⟨g, j, none⟩ (.int .i64 (l.getD i 0))) base (.slice (some ⟨g, 0, none⟩) l.length c) (swp l i j) ∧
    ∃ u, (w.setCell ⟨g, i, none⟩ (.int .i64 (l.getD j 0))).cell? ⟨g, j, none⟩ = some u := by
  have hw : ∀ {y : Nat}, y < l.length → (Lit.int .i64 (l.getD y 0)).wf = true := fun hy => wf_getD h1.2 hy
  have h1 := h1.put i (l.getD j 0) (hw hj)
  have hl1 : (l.set i (l.getD j 0)).length = l.length := by simp
  have h1' : Own .i64 e (w.setCell ⟨g, i, none⟩ (.int .i64 (l.getD j 0))) base (.slice (some ⟨g, 0, none⟩) (l.set i (l.getD j 0)).length c) (l.set i (l.getD j 0)) := by rw [hl1]; exact h1
  have h2 := h1'.put j (l.getD i 0) (hw hi)
  obtain ⟨g', c', e1, _, _, _, _, hc, _⟩ := h1'.row (by rw [hl1]; omega)
  injection e1 with e1
  injection e1 with e1
  injection e1 with e1
  subst e1
  refine ⟨?_, _, hc j (by rw [hl1]; exact hj)⟩
  rw [hl1] at h2
  exact h2
end Go.Proofs.Ytblcfncjghkegaa
