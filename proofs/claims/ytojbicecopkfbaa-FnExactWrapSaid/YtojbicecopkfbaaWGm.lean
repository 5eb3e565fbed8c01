/-
  ImplThree, Every: texts joined.
-/
import Derived.Test.YtojbicecopkfbaaWGb
import Derived.Test.YtojbicecopkfbaaWGh
import Derived.Test.YtojbicecopkfbaaWGj
import Derived.Test.YtojbicecopkfbaaWGl
import Derived.Lib.AppendZerosOnto
import Derived.Lib.SliceRun
import Derived.LoopN
namespace Go.Proofs.Ytojbicecopkfbaa
set_option maxRecDepth 100000
open Go.ChangeShapes Go.WideShapes Go.ChangeAt Go.RowKit
open Fld
attribute [local go_sem ↓] Go.wp_at_zero Go.wp_at_succ

theorem i_grow0 (w : World) : Calls Try.prog 162 #[.slice none 0 0, .int .i64 0] w fun e w' => e = .returned (.slice none 0 0) ∧ w = w' := by
  go_enter Try.func162, Try.ntmps162
  go_wp2
  go_ret
  exact ⟨rfl, rfl⟩
theorem i_grow (w : World) (k : Int) (hk : 0 < k) (hk2 : k ≤ 1000000) :
    Calls Try.prog 162 #[.slice none 0 0, .int .i64 k] w fun e w' => ∃ v, e = .returned v ∧ Own .u8 5 w' w.heap.size v [] ∧ Below w.heap.size w w' := by
  obtain ⟨n, rfl⟩ := Int.eq_ofNat_of_zero_le (show 0 ≤ k by omega)
  have hn : 0 < n := by omega
  have hn2 : n ≤ 1000000 := by omega
  clear hk hk2
  obtain ⟨i0, hi0, hz0, hz1, hz2⟩ := info_parts info_by
  have hrz : ∀ ty, (Builtin.append_ #[36, 3] ty #[.slice none 0 0, .int .i64 n]).run Try.prog w =
      .ok (.slice (some ⟨w.heap.size, 0, none⟩) n (grownCap w n 0 5)) (w.drew.alloc (.cells (#[] ++ Builtin.zeroCells #[.int .u8 0] n ++ Builtin.zeroCells #[.int .u8 0] (grownCap w n 0 5 - n)) 5)) := fun ty => by
    have h := Lib.run_append_grow_zeros (P := Try.prog) w 36 3 ty 5 i0 _ .i64 .i64 Try.underlying36 Try.underlying3 hi0 hz0 none 0 0 [] (run_firstCells_none w.drew i0.size 0 0 0) n hn (by omega) (by omega) (by omega)
      (by rw [hz2]; omega) (growslice_fits (bytes := i0.bytes) (by omega) (by rw [hz2]; omega))
    simpa [Value.cells] using h
  have hGn : n ≤ grownCap w n 0 5 := grownCap_ge w _ _ _
  have hGm : grownCap w n 0 5 ≤ maxLen := grownCap_le_maxLen w n 0 5 (by unfold maxLen; omega)
  obtain ⟨G, hG⟩ : ∃ G, grownCap w n 0 5 = G := ⟨_, rfl⟩
  rw [hG] at hrz hGn hGm
  clear hG
  have hG63 : G ≤ 9223372036854775807 := hGm
  go_enter Try.func162, Try.ntmps162
  go_wp2_with (at_builtin; refine Lib.wpList_append_run _ rfl _ _ _ _ rfl _ _ rfl rfl _ _ (hrz _) ?_)
  go_ret
  refine ⟨_, rfl, Own.of (n := 0) ⟨rfl, .inr ⟨w.heap.size, G, _, rfl, Nat.le_refl _, heap_alloc_new w.drew _, Nat.zero_le _, hGm, ?_, rfl⟩⟩ (by simp), (belx)⟩
  simp [Builtin.zeroCells]
  omega
theorem i_concat {w : World} {g n c m d : Nat} {A A' : Option Addr} {l r : List Int} (hb : Box w g 36 #[.slice A n c, .slice A' m d]) (hl : Ints .u8 w w.heap.size A n l) (hr : Ints .u8 w w.heap.size A' m r) (hn : n ≤ 1000) (hm : m ≤ 1000) :
    Calls Try.prog 117 #[.slice (some ⟨g, 0, none⟩) 2 2] w fun e w' => ∃ v, e = .returned v ∧ Own .u8 5 w' w.heap.size v (l ++ r) ∧ Below w.heap.size w w' := by
  obtain ⟨i0, hi0, hz0, hz1, hz2⟩ := info_parts info_by
  have c0 : w.cell? ⟨g, 0, none⟩ = some (.slice A n c) := hb.cell 0
  have c1 : w.cell? ⟨g, 1, none⟩ = some (.slice A' m d) := hb.cell 1
  have hgs := hb.size
  have z0 : (0 : Int) ≤ (n : Int) := by omega
  have z1 : (0 : Int) ≤ (n : Int) + (m : Int) := by omega
  have z2 : ¬ (n : Int) < 0 := by omega
  have z3 : ¬ (n : Int) + (m : Int) < 0 := by omega
  have hgrow : ∀ W : World, Calls Try.prog 162 #[.slice none 0 0, .int .i64 ((n : Int) + (m : Int))] W fun e w' => ∃ v, e = .returned v ∧ Own .u8 5 w' W.heap.size v [] ∧ Below W.heap.size W w' := fun W => by
    by_cases h : (0 : Int) < (n : Int) + (m : Int)
    · exact i_grow W _ h (by omega)
    · rw [show (n : Int) + (m : Int) = 0 by omega]
      exact (i_grow0 W).mono fun e w' hh => ⟨_, hh.1, by rw [← hh.2]; exact Own.nil _ _ _ _, by rw [← hh.2]; exact Below.refl _ _⟩
  have HG := Lib.hid hgrow
  clear hgrow
  go_enter Try.func117, Try.ntmps117
  go_wp2_with fail
  refine wp_loop_rounds 3 ?_
  rw [rounds_succ]
  go_wp2_with fail
  rw [rounds_succ]
  go_wp2_with fail
  rw [rounds_succ]
  go_wp2_with fail
  refine (HG.out _).mono ?_
  rintro e w1 ⟨v1, rfl, hO1, hB1⟩
  have hb1 := hb.below hB1 hgs
  have e0 : w1.cell? ⟨g, 0, none⟩ = some (.slice A n c) := hb1.cell 0
  obtain ⟨A1, d1, rfl, _⟩ := hO1.ints
  have hl1 := hl.below hB1
  have hr1 := hr.below hB1
  have hs1 := hB1.size
  go_wp2_with fail
  refine wp_loop_rounds 3 ?_
  rw [rounds_succ]
  go_wp2_with (at_builtin; refine wpList_app _ rfl (.tmp 31) (.tmp 32) _ rfl w.heap.size 5 i0 _ 1 1 Try.underlying36 hi0 hz0 hz1 hz2 rfl (by omega) (.slice A1 0 d1) 0 [] rfl hO1.1 A n c (l.map (Value.int .u8)) rfl (Src.of_ints hl1) (one_ints _ _) (by simp only [maxLen]; omega) (by omega) hs1 ?_; intro v2 w2 hown2 hg2 hat2)
  have hO2 : Own .u8 5 w2 w.heap.size v2 l := Own.of (n := n) (by simpa using hown2) hl.2.2
  have hB2 : Below w.heap.size w w2 := hB1.grown hg2 hs1 fun b hb => (hO1.block hb).1
  have hr2 := hr.below hB2
  have hb2 := hb.below hB2 hgs
  have e1 : w2.cell? ⟨g, 1, none⟩ = some (.slice A' m d) := hb2.cell 1
  have hL := hl.1
  obtain ⟨A2, d2, rfl, _⟩ := hO2.ints
  have hs2 := hB2.size
  rw [rounds_succ]
  go_wp2_with (at_builtin; refine wpList_app _ rfl (.tmp 31) (.tmp 32) _ rfl w.heap.size 5 i0 _ 1 1 Try.underlying36 hi0 hz0 hz1 hz2 rfl (by omega) (.slice A2 l.length d2) l.length (l.map (Value.int .u8)) rfl hO2.1 A' m d (r.map (Value.int .u8)) rfl (Src.of_ints hr2) (one_ints _ _) (by simp only [maxLen]; omega) (by omega) hs2 ?_; intro v3 w3 hown3 hg3 hat3)
  have hO3 : Own .u8 5 w3 w.heap.size v3 (l ++ r) := own_app (by rw [hr.1]; exact hown3) hl.bytes hr.bytes
  have hB3 : Below w.heap.size w w3 := hB2.grown hg3 hs2 fun b hb => (hO2.block hb).1
  rw [rounds_succ]
  go_wp2
  go_ret
  exact ⟨_, rfl, hO3, hB3⟩
theorem i_padded {w : World} {n c m d : Nat} {A A' : Option Addr} {l pad : List Int} (hl : Ints .u8 w w.heap.size A n l) (hp : Ints .u8 w w.heap.size A' m pad) (hn : n ≤ 80) (hm : 80 ≤ m) (hmd : m ≤ d) (hd : d ≤ 9223372036854775807) :
    Calls Try.prog 63 #[.slice A n c, .slice A' m d] w fun e w' => ∃ v, e = .returned (.agg #[v]) ∧ Own .u8 5 w' w.heap.size v (padL l pad) ∧ Below w.heap.size w w' := by
  have q1 : (0 : Int) ≤ 80 - (n : Int) := by omega
  have q2 : 80 - (n : Int) ≤ (d : Int) := by omega
  obtain ⟨b, off, rfl, hb, _⟩ := hp.2.1 (by omega)
  go_enter Try.func63, Try.ntmps63
  go_wp2_with fail
  refine (i_concat (g := w.heap.size + 1) (by have := Box.new (w.alloc (.cells #[.slice none 0 0] 38)) 36 #[.slice A n c, .slice (some ⟨b, off, none⟩) (80 - n) d]; simpa using this) (reach hl (belx)) (reach (hp.head (80 - n) (by omega)) (belx)) (by omega) (by omega)).mono ?_
  rintro e w1 ⟨v, rfl, hO, hB⟩
  have hE := Lib.hid (show l ++ pad.take (80 - n) = padL l pad by unfold padL; rw [hl.1])
  rw [hE.out] at hO
  have b1 : Box w1 w.heap.size 38 #[.slice none 0 0] := ((Box.new w _ _).alloc _).below hB (by simp; omega)
  have c1 := b1.cell 0; have f1 := b1.frozen 0
  obtain ⟨A1, d1, rfl, _⟩ := hO.ints
  have e := (b1.put 0 (.slice A1 (padL l pad).length d1)).cell 0
  go_wp2
  refine bodyPost_ret (v := .agg #[.slice A1 (padL l pad).length d1]) (by simp [results, Try.results63, go_sem, e]) rfl ⟨_, rfl, ?_, bel_put (bel_trans (belx) hB) (Nat.le_refl _) _⟩
  exact (hO.far (by simp; omega) 0 _).lower (by simp; omega)
end Go.Proofs.Ytojbicecopkfbaa
namespace Go.Proofs.Ytojbicecopkfbaa
set_option maxRecDepth 100000
set_option linter.unusedSimpArgs false
set_option linter.unusedVariables false
open Go.ChangeShapes Go.WideShapes Go.ChangeAt Go.RowKit
open Fld
attribute [local go_sem ↓] Go.wp_at_zero Go.wp_at_succ

/-- The first k hops are nodes, no two neighbours alike. -/
def Good (l : List Int) (k : Nat) : Prop := (∀ j, j < k → 0 ≤ l.getD j 0 ∧ l.getD j 0 < 8) ∧ ∀ j, j + 1 < k → l.getD j 0 ≠ l.getD (j + 1) 0
theorem Good.zero (l : List Int) : Good l 0 := ⟨fun j h => absurd h (by omega), fun j h => absurd h (by omega)⟩
theorem Good.succ {l : List Int} {k : Nat} (h : Good l k) (h1 : 0 ≤ l.getD k 0) (h2 : l.getD k 0 < 8) (h3 : 0 < k → l.getD (k - 1) 0 ≠ l.getD k 0) : Good l (k + 1) := by
  refine ⟨fun j hj => ?_, fun j hj => ?_⟩
  · rcases Nat.lt_succ_iff_lt_or_eq.1 hj with h' | rfl
    · exact h.1 j h'
    · exact ⟨h1, h2⟩
  · by_cases h' : j + 1 < k
    · exact h.2 j h'
    · have : j + 1 = k := by omega
      subst this
      have := h3 (by omega)
      rwa [Nat.add_sub_cancel] at this
theorem Good.route {l : List Int} (h : Good l l.length) (h1 : 1 ≤ l.length) (h4 : l.length ≤ 4) : Route l := by
  refine ⟨⟨h1, h4⟩, fun x hx => ?_, fun i hi => h.2 i (by omega)⟩
  obtain ⟨i, hi, rfl⟩ := List.getElem_of_mem hx
  have := h.1 i hi
  rwa [getD_lt hi] at this
theorem route_good {l : List Int} (h : Route l) : Good l l.length := by
  refine ⟨fun j hj => ?_, fun j hj => h.2.2 j (by omega)⟩
  rw [getD_lt hj]; exact h.2.1 _ (List.getElem_mem _)
theorem all_t {l : List Int} {p : Int → Bool} (h : ∀ j, j < l.length → p (l.getD j 0) = true) : l.all p = true := by
  rw [List.all_eq_true]
  intro x hx
  obtain ⟨i, hi, rfl⟩ := List.getElem_of_mem hx
  have := h i hi
  rwa [getD_lt hi] at this
theorem all_f {l : List Int} {p : Int → Bool} {j : Nat} (hj : j < l.length) (h : p (l.getD j 0) = false) : l.all p = false := by
  rw [List.all_eq_false]
  rw [getD_lt hj] at h
  exact ⟨_, List.getElem_mem hj, by rw [h]; decide⟩
theorem i_every {w : World} {B n c : Nat} {A : Option Addr} {l : List Int} (F : Nat) (p : Int → Bool) (hE : ∀ (x : Int) (w : World), Sem.run Try.prog (callFunc F #[Value.int .i64 x]) w = .ok (.enter F #[Value.int .i64 x]) w) (hF : ∀ (x : Int) (w : World), Calls Try.prog F #[.int .i64 x] w fun e w' => e = .returned (.bool (p x)) ∧ w = w') (hl : Ints .i64 w B A n l) (hn : n ≤ 17592186043904) :
    Calls Try.prog 57 #[.slice A n c, .func (.func F) #[] #[]] w fun e w' => e = .returned (.bool (l.all p)) ∧ w = w' := by
  have HL := Lib.hid hl.1
  have HF := Lib.hid hF
  have HE := Lib.hid hE
  clear hF hE
  go_enter Try.func57, Try.ntmps57
  go_wp2_with fail
  go_loopw [9] (fun i wr => ∃ k : Nat, k ≤ n ∧ i = .int .i64 k ∧ (∀ j, j < k → p (l.getD j 0) = true) ∧ wr = w) (fun i _ => n - (intOf i).toNat)
  case atStart => exact ⟨0, by omega, rfl, fun j h => absurd h (by omega), rfl⟩
  case round =>
    obtain ⟨k, hk, rfl, hG, rfl⟩ := hrel
    have HG := Lib.hid hG
    clear hG
    by_cases hlt : k < n
    · obtain ⟨b, off, rfl, hb, hcell, hwf⟩ := hl.at_ hlt
      obtain ⟨x, hx⟩ : ∃ x, l.getD k 0 = x := ⟨_, rfl⟩
      rw [hx] at hcell
      have HX := Lib.hid hx
      clear hx hwf
      have q2 : (k : Int) < (n : Int) := by omega
      go_wp2_with fail
      rw [HE.out, Oper.upon_enter]
      refine (HF.out x _).mono ?_
      rintro e w' ⟨rfl, rfl⟩
      obtain ⟨d, hd⟩ : ∃ d, p x = d := ⟨_, rfl⟩
      rw [hd]
      cases d
      · go_wp2
        go_ret
        exact ⟨by rw [all_f (by rw [HL.out]; exact hlt) (by rw [HX.out]; exact hd)]; rfl, rfl⟩
      · go_wp2
        go_roundw
        case rel => exact ⟨k + 1, by omega, by go_num, fun j hj => by rcases Nat.lt_succ_iff_lt_or_eq.1 hj with h | rfl; exact HG.out j h; rw [HX.out]; exact hd, trivial⟩
        case measure => simp [intOf]; omega
    · obtain rfl : k = n := by omega
      have q2 : ¬ (k : Int) < (k : Int) := by omega
      go_wp2
      go_ret
      exact ⟨by rw [all_t (fun j hj => HG.out j (by rw [HL.out] at hj; exact hj))]; rfl, rfl⟩
theorem i_isNode (x : Int) (w : World) : Calls Try.prog 108 #[.int .i64 x] w fun e w' => e = .returned (.bool (decide (0 ≤ x ∧ x < 8))) ∧ w = w' := by
  by_cases h1 : 0 ≤ x
  · by_cases h2 : x < 8
    · rw [decide_eq_true ⟨h1, h2⟩]
      go_enter Try.func108, Try.ntmps108
      go_wp2
      go_ret
      exact ⟨rfl, rfl⟩
    · rw [decide_eq_false (fun h => h2 h.2)]
      go_enter Try.func108, Try.ntmps108
      go_wp2
      go_ret
      exact ⟨rfl, rfl⟩
  · rw [decide_eq_false (fun h => h1 h.1)]
    go_enter Try.func108, Try.ntmps108
    go_wp2
    go_ret
    exact ⟨rfl, rfl⟩
theorem i_every_node {w : World} {B n c : Nat} {A : Option Addr} {l : List Int} (hl : Ints .i64 w B A n l) (hn : n ≤ 17592186043904) :
    Calls Try.prog 57 #[.slice A n c, .func (.func 108) #[] #[]] w fun e w' => e = .returned (.bool (l.all fun x => decide (0 ≤ x ∧ x < 8))) ∧ w = w' :=
  i_every 108 (fun x => decide (0 ≤ x ∧ x < 8)) (fun x w => rfl) i_isNode hl hn
theorem decide_all {l : List Int} {p : Int → Bool} {q : Prop} [Decidable q] (h : q ↔ ∀ x ∈ l, p x = true) : l.all p = decide q := by
  rw [Bool.eq_iff_iff, List.all_eq_true, decide_eq_true_iff]
  exact h.symm
theorem i_isLaySec (x : Int) (w : World) : Calls Try.prog 59 #[.int .i64 x] w fun e w' => e = .returned (.bool (decide (LaySec x))) ∧ w = w' := by
  rcases sec_or x with hs | hs
  · have H := Lib.hid (pubOf_t hs)
    rcases pub_or (powP 7 x.toNat) with hp | hp
    · have HD := Lib.hid (show decide (LaySec x) = true from decide_eq_true ⟨hs, hp⟩)
      rw [HD.out]
      go_enter Try.func59, Try.ntmps59
      go_wp2_with (first | (go_at_call 111; refine (i_PubOf _ _).mono ?_; rintro e w' ⟨rfl, rfl⟩; rw [H.out]) | (go_at_call 58; with_reducible refine (i_pub_t _ _ hp).mono ?_; rintro e w' ⟨rfl, rfl⟩))
      go_ret
      exact ⟨rfl, rfl⟩
    · have HD := Lib.hid (show decide (LaySec x) = false from decide_eq_false fun h => hp h.2)
      rw [HD.out]
      go_enter Try.func59, Try.ntmps59
      go_wp2_with (first | (go_at_call 111; refine (i_PubOf _ _).mono ?_; rintro e w' ⟨rfl, rfl⟩; rw [H.out]) | (go_at_call 58; with_reducible refine (i_pub_f _ _ hp).mono ?_; rintro e w' ⟨rfl, rfl⟩))
      go_ret
      exact ⟨rfl, rfl⟩
  · have H := Lib.hid (pubOf_f hs)
    have hp : NoPub (-1) := fun h => absurd h.1 (by decide)
    have HD := Lib.hid (show decide (LaySec x) = false from decide_eq_false fun h => hs h.1)
    rw [HD.out]
    go_enter Try.func59, Try.ntmps59
    go_wp2_with (first | (go_at_call 111; refine (i_PubOf _ _).mono ?_; rintro e w' ⟨rfl, rfl⟩; rw [H.out]) | (go_at_call 58; with_reducible refine (i_pub_f _ _ hp).mono ?_; rintro e w' ⟨rfl, rfl⟩))
    go_ret
    exact ⟨rfl, rfl⟩
theorem i_every_sec {w : World} {B n c : Nat} {A : Option Addr} {l : List Int} (hl : Ints .i64 w B A n l) (hn : n ≤ 17592186043904) :
    Calls Try.prog 57 #[.slice A n c, .func (.func 59) #[] #[]] w fun e w' => e = .returned (.bool (decide (Secs l))) ∧ w = w' :=
  (i_every 59 (fun x => decide (LaySec x)) (fun x w => rfl) i_isLaySec hl hn).mono fun e w' h => ⟨by rw [h.1, decide_all (q := Secs l)]; exact ⟨fun h x hx => decide_eq_true (h x hx), fun h x hx => of_decide_eq_true (h x hx)⟩, h.2⟩
theorem i_isPub (x : Int) (w : World) : Calls Try.prog 58 #[.int .i64 x] w fun e w' => e = .returned (.bool (decide (2 ≤ x ∧ x < 2147483646))) ∧ w = w' := by
  rcases pub_or x with hp | hp
  · rw [show decide (2 ≤ x ∧ x < 2147483646) = true from decide_eq_true hp]; exact i_pub_t x w hp
  · rw [show decide (2 ≤ x ∧ x < 2147483646) = false from decide_eq_false hp]; exact i_pub_f x w hp
theorem i_every_pub {w : World} {B n c : Nat} {A : Option Addr} {l : List Int} (hl : Ints .i64 w B A n l) (hn : n ≤ 17592186043904) :
    Calls Try.prog 57 #[.slice A n c, .func (.func 58) #[] #[]] w fun e w' => e = .returned (.bool (l.all fun x => decide (2 ≤ x ∧ x < 2147483646))) ∧ w = w' :=
  i_every 58 (fun x => decide (2 ≤ x ∧ x < 2147483646)) (fun x w => rfl) i_isPub hl hn
end Go.Proofs.Ytojbicecopkfbaa
