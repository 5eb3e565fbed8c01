/-
  ImplThree, Every: texts joined.
-/
import Derived.Test.YtnfmjgldcnokbaaKGb
import Derived.Test.YtnfmjgldcnokbaaKGh
import Derived.Test.YtnfmjgldcnokbaaKGj
import Derived.Test.YtnfmjgldcnokbaaKGm
import Derived.Lib.AppendZerosOnto
import Derived.Lib.SliceRun
import Derived.LoopN
namespace Go.Proofs.Ytnfmjgldcnokbaa
set_option maxRecDepth 100000
open Go.ChangeShapes Go.WideShapes Go.ChangeAt Go.RowKit
open Fld
attribute [local go_sem ↓] Go.wp_at_zero Go.wp_at_succ

theorem i_CellOk_t (A : Option Addr) (n c : Nat) (w : World) (h : n = 80) :
    Calls Try.prog 16 #[.agg #[.slice A n c]] w fun e w' => e = .returned (.bool true) ∧ Below w.heap.size w w' := by
  subst h
  go_enter Try.func16, Try.ntmps16
  go_wp2
  go_ret
  exact ⟨rfl, (belx)⟩
theorem i_CellOk_f (A : Option Addr) (n c : Nat) (w : World) (h : ¬ n = 80) :
    Calls Try.prog 16 #[.agg #[.slice A n c]] w fun e w' => e = .returned (.bool false) ∧ Below w.heap.size w w' := by
  have d : ((n : Int) == 80) = false := by simp; omega
  clear h
  go_enter Try.func16, Try.ntmps16
  go_wp2
  go_ret
  exact ⟨by first | rfl | simp [d], (belx)⟩
theorem i_CellOk {w : World} {n c : Nat} {A : Option Addr} {l : List Int} (hl : Ints .u8 w w.heap.size A n l) :
    Calls Try.prog 16 #[.agg #[.slice A n c]] w fun e w' => e = .returned (.bool (decide (l.length = 80))) ∧ Below w.heap.size w w' := by
  rw [hl.1]
  by_cases h : n = 80
  · rw [decide_eq_true h]; exact i_CellOk_t _ _ _ _ h
  · rw [decide_eq_false h]; exact i_CellOk_f _ _ _ _ h
theorem i_LayerSize (h l : Int) (w : World) :
    Calls Try.prog 18 #[.int .i64 h, .int .i64 l] w fun e w' => e = .returned (.int .i64 (fsize h l)) ∧ w = w' := by
  by_cases h1 : 1 ≤ h
  · by_cases h2 : h ≤ 4
    · by_cases h3 : 0 ≤ l
      · by_cases h4 : l ≤ 24
        · have H := Lib.hid (show fsize h l = 12 * h + l from if_pos ⟨⟨h1, h2⟩, h3, h4⟩)
          go_enter Try.func18, Try.ntmps18
          go_wp2
          go_ret
          exact ⟨ret_i64 H.out.symm, rfl⟩
        · have H := Lib.hid (show fsize h l = -1 from if_neg (fun x => h4 x.2.2))
          go_enter Try.func18, Try.ntmps18
          go_wp2
          go_ret
          exact ⟨ret_i64 H.out.symm, rfl⟩
      · have H := Lib.hid (show fsize h l = -1 from if_neg (fun x => h3 x.2.1))
        go_enter Try.func18, Try.ntmps18
        go_wp2
        go_ret
        exact ⟨ret_i64 H.out.symm, rfl⟩
    · have H := Lib.hid (show fsize h l = -1 from if_neg (fun x => h2 x.1.2))
      go_enter Try.func18, Try.ntmps18
      go_wp2
      go_ret
      exact ⟨ret_i64 H.out.symm, rfl⟩
  · have H := Lib.hid (show fsize h l = -1 from if_neg (fun x => h1 x.1.1))
    go_enter Try.func18, Try.ntmps18
    go_wp2
    go_ret
    exact ⟨ret_i64 H.out.symm, rfl⟩
theorem i_grow0 (w : World) : Calls Try.prog 119 #[.slice none 0 0, .int .i64 0] w fun e w' => e = .returned (.slice none 0 0) ∧ w = w' := by
  go_enter Try.func119, Try.ntmps119
  go_wp2
  go_ret
  exact ⟨rfl, rfl⟩
theorem i_grow (w : World) (k : Int) (hk : 0 < k) (hk2 : k ≤ 1000000) :
    Calls Try.prog 119 #[.slice none 0 0, .int .i64 k] w fun e w' => ∃ v, e = .returned v ∧ Own .u8 5 w' w.heap.size v [] ∧ Below w.heap.size w w' := by
  obtain ⟨n, rfl⟩ := Int.eq_ofNat_of_zero_le (show 0 ≤ k by omega)
  have hn : 0 < n := by omega
  have hn2 : n ≤ 1000000 := by omega
  clear hk hk2
  obtain ⟨i0, hi0, hz0, hz1, hz2⟩ := info_parts info_by
  have hrz : ∀ ty, (Builtin.append_ #[22, 3] ty #[.slice none 0 0, .int .i64 n]).run Try.prog w =
      .ok (.slice (some ⟨w.heap.size, 0, none⟩) n (grownCap w n 0 5)) (w.drew.alloc (.cells (#[] ++ Builtin.zeroCells #[.int .u8 0] n ++ Builtin.zeroCells #[.int .u8 0] (grownCap w n 0 5 - n)) 5)) := fun ty => by
    have h := Lib.run_append_grow_zeros (P := Try.prog) w 22 3 ty 5 i0 _ .i64 .i64 Try.underlying22 Try.underlying3 hi0 hz0 none 0 0 [] (run_firstCells_none w.drew i0.size 0 0 0) n hn (by omega) (by omega) (by omega)
      (by rw [hz2]; omega) (growslice_fits (bytes := i0.bytes) (by omega) (by rw [hz2]; omega))
    simpa [Value.cells] using h
  have hGn : n ≤ grownCap w n 0 5 := grownCap_ge w _ _ _
  have hGm : grownCap w n 0 5 ≤ maxLen := grownCap_le_maxLen w n 0 5 (by unfold maxLen; omega)
  obtain ⟨G, hG⟩ : ∃ G, grownCap w n 0 5 = G := ⟨_, rfl⟩
  rw [hG] at hrz hGn hGm
  clear hG
  have hG63 : G ≤ 9223372036854775807 := hGm
  go_enter Try.func119, Try.ntmps119
  go_wp2_with (at_builtin; refine Lib.wpList_append_run _ rfl _ _ _ _ rfl _ _ rfl rfl _ _ (hrz _) ?_)
  go_ret
  refine ⟨_, rfl, Own.of (n := 0) ⟨rfl, .inr ⟨w.heap.size, G, _, rfl, Nat.le_refl _, heap_alloc_new w.drew _, Nat.zero_le _, hGm, ?_, rfl⟩⟩ (by simp), (belx)⟩
  simp [Builtin.zeroCells]
  omega
theorem i_concat {w : World} {g n c m d : Nat} {A A' : Option Addr} {l r : List Int} (hb : Box w g 22 #[.slice A n c, .slice A' m d]) (hl : Ints .u8 w w.heap.size A n l) (hr : Ints .u8 w w.heap.size A' m r) (hn : n ≤ 1000) (hm : m ≤ 1000) :
    Calls Try.prog 92 #[.slice (some ⟨g, 0, none⟩) 2 2] w fun e w' => ∃ v, e = .returned v ∧ Own .u8 5 w' w.heap.size v (l ++ r) ∧ Below w.heap.size w w' := by
  obtain ⟨i0, hi0, hz0, hz1, hz2⟩ := info_parts info_by
  have c0 : w.cell? ⟨g, 0, none⟩ = some (.slice A n c) := hb.cell 0
  have c1 : w.cell? ⟨g, 1, none⟩ = some (.slice A' m d) := hb.cell 1
  have hgs := hb.size
  have z0 : (0 : Int) ≤ (n : Int) := by omega
  have z1 : (0 : Int) ≤ (n : Int) + (m : Int) := by omega
  have z2 : ¬ (n : Int) < 0 := by omega
  have z3 : ¬ (n : Int) + (m : Int) < 0 := by omega
  have hgrow : ∀ W : World, Calls Try.prog 119 #[.slice none 0 0, .int .i64 ((n : Int) + (m : Int))] W fun e w' => ∃ v, e = .returned v ∧ Own .u8 5 w' W.heap.size v [] ∧ Below W.heap.size W w' := fun W => by
    by_cases h : (0 : Int) < (n : Int) + (m : Int)
    · exact i_grow W _ h (by omega)
    · rw [show (n : Int) + (m : Int) = 0 by omega]
      exact (i_grow0 W).mono fun e w' hh => ⟨_, hh.1, by rw [← hh.2]; exact Own.nil _ _ _ _, by rw [← hh.2]; exact Below.refl _ _⟩
  have HG := Lib.hid hgrow
  clear hgrow
  go_enter Try.func92, Try.ntmps92
  go_wp2_with fail
  refine wp_loop_rounds 3 ?_
  rw [rounds_succ]
  go_wp2_with fail
  rw [rounds_succ]
  go_wp2_with fail
  rw [rounds_succ]
  go_wp2_with fail
  refine (HG.out _).mono ?_
  rintro e w1 ⟨v1, rfl, hO1, hB1⟩
  have hb1 := hb.below hB1 hgs
  have e0 : w1.cell? ⟨g, 0, none⟩ = some (.slice A n c) := hb1.cell 0
  obtain ⟨A1, d1, rfl, _⟩ := hO1.ints
  have hl1 := hl.below hB1
  have hr1 := hr.below hB1
  have hs1 := hB1.size
  go_wp2_with fail
  refine wp_loop_rounds 3 ?_
  rw [rounds_succ]
  go_wp2_with (at_builtin; refine wpList_app _ rfl (.tmp 31) (.tmp 32) _ rfl w.heap.size 5 i0 _ 1 1 Try.underlying22 hi0 hz0 hz1 hz2 rfl (by omega) (.slice A1 0 d1) 0 [] rfl hO1.1 A n c (l.map (Value.int .u8)) rfl (Src.of_ints hl1) (one_ints _ _) (by simp only [maxLen]; omega) (by omega) hs1 ?_; intro v2 w2 hown2 hg2 hat2)
  have hO2 : Own .u8 5 w2 w.heap.size v2 l := Own.of (n := n) (by simpa using hown2) hl.2.2
  have hB2 : Below w.heap.size w w2 := hB1.grown hg2 hs1 fun b hb => (hO1.block hb).1
  have hr2 := hr.below hB2
  have hb2 := hb.below hB2 hgs
  have e1 : w2.cell? ⟨g, 1, none⟩ = some (.slice A' m d) := hb2.cell 1
  have hL := hl.1
  obtain ⟨A2, d2, rfl, _⟩ := hO2.ints
  have hs2 := hB2.size
  rw [rounds_succ]
  go_wp2_with (at_builtin; refine wpList_app _ rfl (.tmp 31) (.tmp 32) _ rfl w.heap.size 5 i0 _ 1 1 Try.underlying22 hi0 hz0 hz1 hz2 rfl (by omega) (.slice A2 l.length d2) l.length (l.map (Value.int .u8)) rfl hO2.1 A' m d (r.map (Value.int .u8)) rfl (Src.of_ints hr2) (one_ints _ _) (by simp only [maxLen]; omega) (by omega) hs2 ?_; intro v3 w3 hown3 hg3 hat3)
  have hO3 : Own .u8 5 w3 w.heap.size v3 (l ++ r) := own_app (by rw [hr.1]; exact hown3) hl.bytes hr.bytes
  have hB3 : Below w.heap.size w w3 := hB2.grown hg3 hs2 fun b hb => (hO2.block hb).1
  rw [rounds_succ]
  go_wp2
  go_ret
  exact ⟨_, rfl, hO3, hB3⟩
theorem i_padded {w : World} {n c m d : Nat} {A A' : Option Addr} {l pad : List Int} (hl : Ints .u8 w w.heap.size A n l) (hp : Ints .u8 w w.heap.size A' m pad) (hn : n ≤ 80) (hm : 80 ≤ m) (hmd : m ≤ d) (hd : d ≤ 9223372036854775807) :
    Calls Try.prog 52 #[.slice A n c, .slice A' m d] w fun e w' => ∃ v, e = .returned (.agg #[v]) ∧ Own .u8 5 w' w.heap.size v (padL l pad) ∧ Below w.heap.size w w' := by
  have q1 : (0 : Int) ≤ 80 - (n : Int) := by omega
  have q2 : 80 - (n : Int) ≤ (d : Int) := by omega
  obtain ⟨b, off, rfl, hb, _⟩ := hp.2.1 (by omega)
  go_enter Try.func52, Try.ntmps52
  go_wp2_with fail
  refine (i_concat (g := w.heap.size + 1) (by have := Box.new (w.alloc (.cells #[.slice none 0 0] 30)) 22 #[.slice A n c, .slice (some ⟨b, off, none⟩) (80 - n) d]; simpa using this) (reach hl (belx)) (reach (hp.head (80 - n) (by omega)) (belx)) (by omega) (by omega)).mono ?_
  rintro e w1 ⟨v, rfl, hO, hB⟩
  have hE := Lib.hid (show l ++ pad.take (80 - n) = padL l pad by unfold padL; rw [hl.1])
  rw [hE.out] at hO
  have b1 : Box w1 w.heap.size 30 #[.slice none 0 0] := ((Box.new w _ _).alloc _).below hB (by simp; omega)
  have c1 := b1.cell 0; have f1 := b1.frozen 0
  obtain ⟨A1, d1, rfl, _⟩ := hO.ints
  have e := (b1.put 0 (.slice A1 (padL l pad).length d1)).cell 0
  go_wp2
  refine bodyPost_ret (v := .agg #[.slice A1 (padL l pad).length d1]) (by simp [results, Try.results52, go_sem, e]) rfl ⟨_, rfl, ?_, bel_put (bel_trans (belx) hB) (Nat.le_refl _) _⟩
  exact (hO.far (by simp; omega) 0 _).lower (by simp; omega)
def num (l : List Int) : Int := l.foldl (fun n d => n * 256 + d) 0
theorem num_snoc (l : List Int) (x : Int) : num (l ++ [x]) = num l * 256 + x := by simp [num]
theorem num_rg : ∀ {l : List Int}, Bytes l → l.length ≤ 4 → 0 ≤ num l ∧ num l < 4294967296
  | [], _, _ => by simp [num]
  | [a], h, _ => by have := h a (by simp); simp [num]; omega
  | [a, b], h, _ => by have := h a (by simp); have := h b (by simp); simp [num]; omega
  | [a, b, c], h, _ => by have := h a (by simp); have := h b (by simp); have := h c (by simp); simp [num]; omega
  | [a, b, c, d], h, _ => by have := h a (by simp); have := h b (by simp); have := h c (by simp); have := h d (by simp); simp [num]; omega
theorem i_number {w : World} {B n c : Nat} {A : Option Addr} {l : List Int} (hl : Ints .u8 w B A n l) (hn : n ≤ 4) :
    Calls Try.prog 74 #[.slice A n c] w fun e w' => e = .returned (.int .i64 (num l)) ∧ w = w' := by
  have HL := Lib.hid hl.1
  have hby := hl.bytes
  go_enter Try.func74, Try.ntmps74
  go_wp2_with fail
  go_loop [3, 8] (fun x i => ∃ j : Nat, j ≤ n ∧ i = .int .i64 j ∧ x = .int .i64 (num (l.take j))) (fun _ i => n - (intOf i).toNat)
  case atStart => exact ⟨0, by omega, rfl, rfl⟩
  case round =>
    obtain ⟨j, hj, rfl, rfl⟩ := hrel
    by_cases hlt : j < n
    · obtain ⟨b, off, rfl, _, hcell, _⟩ := hl.at_ hlt
      have HS := Lib.hid (show num (l.take (j + 1)) = num (l.take j) * 256 + l.getD j 0 by rw [List.take_succ_eq_append_getElem (by rw [HL.out]; exact hlt), num_snoc, getD_lt (by rw [HL.out]; exact hlt)])
      have bx := hby.at_ j
      have bn := num_rg (hby.take j) (by rw [List.length_take]; omega)
      obtain ⟨x, hx⟩ : ∃ x, l.getD j 0 = x := ⟨_, rfl⟩
      rw [hx] at hcell bx
      have HX := Lib.hid hx
      clear hx
      obtain ⟨y, hy⟩ : ∃ y, num (l.take j) = y := ⟨_, rfl⟩
      rw [hy] at bn
      rw [hy]
      have HY := Lib.hid hy
      clear hy
      have i1 : IntKind.i64.wrap (y * 256) = y * 256 := IntWalk.i64_in _ (by omega)
      have i2 : IntKind.i64.wrap (y * 256 + x) = y * 256 + x := IntWalk.i64_in _ (by omega)
      go_wp2
      go_round
      case rel => exact ⟨j + 1, by omega, by go_num, by rw [HS.out, HX.out, HY.out]⟩
      case measure => simp [intOf]; omega
    · obtain rfl : j = n := by omega
      have HE := Lib.hid (show num (l.take j) = num l by rw [← HL.out, List.take_length])
      go_wp2
      go_ret
      exact ⟨ret_i64 HE.out, rfl⟩
theorem num_four {l : List Int} (h : l.length = 4) : num l = get4 l := by
  match l, h with
  | [a, b, c, d], _ =>
    show (((0 * 256 + a) * 256 + b) * 256 + c) * 256 + d = a * 16777216 + b * 65536 + c * 256 + d
    omega
theorem get4_take (l : List Int) : get4 (l.take 4) = get4 l := by
  unfold get4
  rw [getD_take (by omega), getD_take (by omega), getD_take (by omega), getD_take (by omega)]
theorem i_pubIn {w : World} {n c : Nat} {A : Option Addr} {l : List Int} (hl : Ints .u8 w w.heap.size A n l) (hn : 4 ≤ n) (hnc : n ≤ c) (hc : c ≤ 9223372036854775807) :
    Calls Try.prog 68 #[.agg #[.slice A n c]] w fun e w' => e = .returned (.int .i64 (get4 l)) ∧ Below w.heap.size w w' := by
  obtain ⟨b, off, rfl, hb, _⟩ := hl.2.1 (by omega)
  have q1 : (4 : Int) ≤ (c : Int) := by omega
  have H := Lib.hid (show num (l.take 4) = get4 l by rw [num_four (by rw [List.length_take, hl.1]; omega), get4_take])
  go_enter Try.func68, Try.ntmps68
  go_wp2_with fail
  refine (i_number ((reach hl (belx)).head 4 hn) (Nat.le_refl _)).mono ?_
  rintro e w1 ⟨rfl, rfl⟩
  rw [H.out]
  go_wp2
  go_ret
  exact ⟨rfl, (belx)⟩
theorem i_Dummy {w : World} {n c : Nat} {A : Option Addr} {pad : List Int} (hp : Ints .u8 w w.heap.size A n pad) (hnc : n ≤ c) (hc : c ≤ 9223372036854775807) :
    Calls Try.prog 22 #[.slice A n c] w fun e w' => ∃ v, e = .returned (.tuple #[.agg #[v], .bool (fdum pad).2]) ∧ Own .u8 5 w' w.heap.size v (fdum pad).1 ∧ Below w.heap.size w w' := by
  have hlen := hp.1
  by_cases h : 80 ≤ n
  · have H := Lib.hid (show fdum pad = (padL [] pad, true) from if_pos (by omega))
    have d : ¬ (n : Int) < 80 := by omega
    clear hlen
    rw [H.out]
    go_enter Try.func22, Try.ntmps22
    go_wp2_with fail
    refine (i_padded Ints.nil (reach hp (belx)) (by omega) h hnc hc).mono ?_
    rintro e w1 ⟨v, rfl, hO, hB⟩
    have b1 : Box w1 w.heap.size 30 #[.slice none 0 0] := (Box.new w _ _).below hB (by simp)
    have c1 := b1.cell 0; have f1 := b1.frozen 0
    obtain ⟨A1, d1, rfl, _⟩ := hO.ints
    have e := (b1.put 0 (.slice A1 (padL [] pad).length d1)).cell 0
    go_wp2
    refine bodyPost_ret (v := .tuple #[.agg #[.slice A1 (padL [] pad).length d1], .bool true]) (by simp [results, Try.results22, go_sem, e]) rfl ⟨_, rfl, ?_, bel_put (bel_trans (belx) hB) (Nat.le_refl _) _⟩
    exact (hO.far (by simp) 0 _).lower (by simp)
  · have H := Lib.hid (show fdum pad = ([], false) from if_neg (by omega))
    have d : (n : Int) < 80 := by omega
    clear hlen
    rw [H.out]
    go_enter Try.func22, Try.ntmps22
    go_wp2
    have b1 : Box (w.alloc (.cells #[.slice none 0 0] 30)) w.heap.size 30 #[.slice none 0 0] := Box.new w _ _
    have e := b1.cell 0
    refine bodyPost_ret (v := .tuple #[.agg #[.slice none 0 0], .bool false]) (by simp [results, Try.results22, go_sem, e]) rfl ⟨_, rfl, Own.nil _ _ _ _, (belx)⟩
theorem ftag_eq {s : Int} {l : List Int} (h : l.length = 80) : fkey (shared s (get4 l)) 9 = ftag s l := by
  unfold ftag
  by_cases hc : (1 ≤ s ∧ s < 2147483646) ∧ (2 ≤ get4 l ∧ get4 l < 2147483646)
  · rw [if_pos ⟨hc.1, h, hc.2⟩, shared_t hc.1 hc.2, fkey_t (ok_pow _ _) ⟨by decide, by decide⟩]
  · rw [if_neg fun x => hc ⟨x.1, x.2.2⟩]
    have e : shared s (get4 l) = -1 := if_neg hc
    rw [e, fkey_l (fun x => absurd x.1 (by decide))]
theorem i_TagOf {w : World} {n c : Nat} {A : Option Addr} {l : List Int} (s : Int) (hl : Ints .u8 w w.heap.size A n l) (hnc : n ≤ c) (hc : c ≤ 9223372036854775807) :
    Calls Try.prog 20 #[.int .i64 s, .agg #[.slice A n c]] w fun e w' => e = .returned (.int .i64 (ftag s l)) ∧ Below w.heap.size w w' := by
  by_cases h80 : n = 80
  · subst h80
    have H := Lib.hid (ftag_eq (s := s) hl.1)
    go_enter Try.func20, Try.ntmps20
    go_wp2_with fail
    refine (i_CellOk_t _ _ _ _ rfl).mono ?_
    rintro e w1 ⟨rfl, hB1⟩
    have b1 := (Box.new w 30 #[.slice A 80 c]).below hB1 (by simp)
    have c1 := b1.cell 0
    have hBB := bel_trans (a := w) (belx) hB1
    go_wp2_with fail
    refine (i_pubIn (reach hl hBB) (by omega) hnc hc).mono ?_
    rintro e w2 ⟨rfl, hB2⟩
    go_wp2_with (first | (go_at_call 67; refine (i_Shared _ _ _).mono ?_; rintro e w' ⟨rfl, rfl⟩) | (go_at_call 66; refine (i_KeyOf _ _ _).mono ?_; rintro e w' ⟨rfl, rfl⟩))
    go_ret
    exact ⟨ret_i64 H.out, bel_trans hBB hB2⟩
  · have H := Lib.hid (show ftag s l = -1 from if_neg (fun x => h80 (by rw [← hl.1]; exact x.2.1)))
    go_enter Try.func20, Try.ntmps20
    go_wp2_with (go_at_call 16; refine (i_CellOk_f _ _ _ _ h80).mono ?_; rintro e w1 ⟨rfl, hB1⟩)
    go_ret
    exact ⟨ret_i64 H.out.symm, bel_trans (a := w) (belx) hB1⟩
end Go.Proofs.Ytnfmjgldcnokbaa
namespace Go.Proofs.Ytnfmjgldcnokbaa
set_option maxRecDepth 100000
set_option linter.unusedSimpArgs false
set_option linter.unusedVariables false
open Go.ChangeShapes Go.WideShapes Go.ChangeAt Go.RowKit
open Fld
attribute [local go_sem ↓] Go.wp_at_zero Go.wp_at_succ

/-- The first k hops are nodes, no two neighbours alike. -/
def Good (l : List Int) (k : Nat) : Prop := (∀ j, j < k → 0 ≤ l.getD j 0 ∧ l.getD j 0 < 8) ∧ ∀ j, j + 1 < k → l.getD j 0 ≠ l.getD (j + 1) 0
theorem Good.zero (l : List Int) : Good l 0 := ⟨fun j h => absurd h (by omega), fun j h => absurd h (by omega)⟩
theorem Good.succ {l : List Int} {k : Nat} (h : Good l k) (h1 : 0 ≤ l.getD k 0) (h2 : l.getD k 0 < 8) (h3 : 0 < k → l.getD (k - 1) 0 ≠ l.getD k 0) : Good l (k + 1) := by
  refine ⟨fun j hj => ?_, fun j hj => ?_⟩
  · rcases Nat.lt_succ_iff_lt_or_eq.1 hj with h' | rfl
    · exact h.1 j h'
    · exact ⟨h1, h2⟩
  · by_cases h' : j + 1 < k
    · exact h.2 j h'
    · have : j + 1 = k := by omega
      subst this
      have := h3 (by omega)
      rwa [Nat.add_sub_cancel] at this
theorem Good.route {l : List Int} (h : Good l l.length) (h1 : 1 ≤ l.length) (h4 : l.length ≤ 4) : Route l := by
  refine ⟨⟨h1, h4⟩, fun x hx => ?_, fun i hi => h.2 i (by omega)⟩
  obtain ⟨i, hi, rfl⟩ := List.getElem_of_mem hx
  have := h.1 i hi
  rwa [getD_lt hi] at this
theorem route_good {l : List Int} (h : Route l) : Good l l.length := by
  refine ⟨fun j hj => ?_, fun j hj => h.2.2 j (by omega)⟩
  rw [getD_lt hj]; exact h.2.1 _ (List.getElem_mem _)
theorem all_t {l : List Int} {p : Int → Bool} (h : ∀ j, j < l.length → p (l.getD j 0) = true) : l.all p = true := by
  rw [List.all_eq_true]
  intro x hx
  obtain ⟨i, hi, rfl⟩ := List.getElem_of_mem hx
  have := h i hi
  rwa [getD_lt hi] at this
theorem all_f {l : List Int} {p : Int → Bool} {j : Nat} (hj : j < l.length) (h : p (l.getD j 0) = false) : l.all p = false := by
  rw [List.all_eq_false]
  rw [getD_lt hj] at h
  exact ⟨_, List.getElem_mem hj, by rw [h]; decide⟩
theorem i_every {w : World} {B n c : Nat} {A : Option Addr} {l : List Int} (F : Nat) (p : Int → Bool) (hE : ∀ (x : Int) (w : World), Sem.run Try.prog (callFunc F #[Value.int .i64 x]) w = .ok (.enter F #[Value.int .i64 x]) w) (hF : ∀ (x : Int) (w : World), Calls Try.prog F #[.int .i64 x] w fun e w' => e = .returned (.bool (p x)) ∧ w = w') (hl : Ints .i64 w B A n l) (hn : n ≤ 17592186043904) :
    Calls Try.prog 46 #[.slice A n c, .func (.func F) #[] #[]] w fun e w' => e = .returned (.bool (l.all p)) ∧ w = w' := by
  have HL := Lib.hid hl.1
  have HF := Lib.hid hF
  have HE := Lib.hid hE
  clear hF hE
  go_enter Try.func46, Try.ntmps46
  go_wp2_with fail
  go_loopw [9] (fun i wr => ∃ k : Nat, k ≤ n ∧ i = .int .i64 k ∧ (∀ j, j < k → p (l.getD j 0) = true) ∧ wr = w) (fun i _ => n - (intOf i).toNat)
  case atStart => exact ⟨0, by omega, rfl, fun j h => absurd h (by omega), rfl⟩
  case round =>
    obtain ⟨k, hk, rfl, hG, rfl⟩ := hrel
    have HG := Lib.hid hG
    clear hG
    by_cases hlt : k < n
    · obtain ⟨b, off, rfl, hb, hcell, hwf⟩ := hl.at_ hlt
      obtain ⟨x, hx⟩ : ∃ x, l.getD k 0 = x := ⟨_, rfl⟩
      rw [hx] at hcell
      have HX := Lib.hid hx
      clear hx hwf
      have q2 : (k : Int) < (n : Int) := by omega
      go_wp2_with fail
      rw [HE.out, Oper.upon_enter]
      refine (HF.out x _).mono ?_
      rintro e w' ⟨rfl, rfl⟩
      obtain ⟨d, hd⟩ : ∃ d, p x = d := ⟨_, rfl⟩
      rw [hd]
      cases d
      · go_wp2
        go_ret
        exact ⟨by rw [all_f (by rw [HL.out]; exact hlt) (by rw [HX.out]; exact hd)]; rfl, rfl⟩
      · go_wp2
        go_roundw
        case rel => exact ⟨k + 1, by omega, by go_num, fun j hj => by rcases Nat.lt_succ_iff_lt_or_eq.1 hj with h | rfl; exact HG.out j h; rw [HX.out]; exact hd, trivial⟩
        case measure => simp [intOf]; omega
    · obtain rfl : k = n := by omega
      have q2 : ¬ (k : Int) < (k : Int) := by omega
      go_wp2
      go_ret
      exact ⟨by rw [all_t (fun j hj => HG.out j (by rw [HL.out] at hj; exact hj))]; rfl, rfl⟩
theorem i_isNode (x : Int) (w : World) : Calls Try.prog 60 #[.int .i64 x] w fun e w' => e = .returned (.bool (decide (0 ≤ x ∧ x < 8))) ∧ w = w' := by
  by_cases h1 : 0 ≤ x
  · by_cases h2 : x < 8
    · rw [decide_eq_true ⟨h1, h2⟩]
      go_enter Try.func60, Try.ntmps60
      go_wp2
      go_ret
      exact ⟨rfl, rfl⟩
    · rw [decide_eq_false (fun h => h2 h.2)]
      go_enter Try.func60, Try.ntmps60
      go_wp2
      go_ret
      exact ⟨rfl, rfl⟩
  · rw [decide_eq_false (fun h => h1 h.1)]
    go_enter Try.func60, Try.ntmps60
    go_wp2
    go_ret
    exact ⟨rfl, rfl⟩
theorem i_every_node {w : World} {B n c : Nat} {A : Option Addr} {l : List Int} (hl : Ints .i64 w B A n l) (hn : n ≤ 17592186043904) :
    Calls Try.prog 46 #[.slice A n c, .func (.func 60) #[] #[]] w fun e w' => e = .returned (.bool (l.all fun x => decide (0 ≤ x ∧ x < 8))) ∧ w = w' :=
  i_every 60 (fun x => decide (0 ≤ x ∧ x < 8)) (fun x w => rfl) i_isNode hl hn
theorem decide_all {l : List Int} {p : Int → Bool} {q : Prop} [Decidable q] (h : q ↔ ∀ x ∈ l, p x = true) : l.all p = decide q := by
  rw [Bool.eq_iff_iff, List.all_eq_true, decide_eq_true_iff]
  exact h.symm
theorem i_isLaySec (x : Int) (w : World) : Calls Try.prog 48 #[.int .i64 x] w fun e w' => e = .returned (.bool (decide (LaySec x))) ∧ w = w' := by
  rcases sec_or x with hs | hs
  · have H := Lib.hid (pubOf_t hs)
    rcases pub_or (powP 7 x.toNat) with hp | hp
    · have HD := Lib.hid (show decide (LaySec x) = true from decide_eq_true ⟨hs, hp⟩)
      rw [HD.out]
      go_enter Try.func48, Try.ntmps48
      go_wp2_with (first | (go_at_call 88; refine (i_PubOf _ _).mono ?_; rintro e w' ⟨rfl, rfl⟩; rw [H.out]) | (go_at_call 47; with_reducible refine (i_pub_t _ _ hp).mono ?_; rintro e w' ⟨rfl, rfl⟩))
      go_ret
      exact ⟨rfl, rfl⟩
    · have HD := Lib.hid (show decide (LaySec x) = false from decide_eq_false fun h => hp h.2)
      rw [HD.out]
      go_enter Try.func48, Try.ntmps48
      go_wp2_with (first | (go_at_call 88; refine (i_PubOf _ _).mono ?_; rintro e w' ⟨rfl, rfl⟩; rw [H.out]) | (go_at_call 47; with_reducible refine (i_pub_f _ _ hp).mono ?_; rintro e w' ⟨rfl, rfl⟩))
      go_ret
      exact ⟨rfl, rfl⟩
  · have H := Lib.hid (pubOf_f hs)
    have hp : NoPub (-1) := fun h => absurd h.1 (by decide)
    have HD := Lib.hid (show decide (LaySec x) = false from decide_eq_false fun h => hs h.1)
    rw [HD.out]
    go_enter Try.func48, Try.ntmps48
    go_wp2_with (first | (go_at_call 88; refine (i_PubOf _ _).mono ?_; rintro e w' ⟨rfl, rfl⟩; rw [H.out]) | (go_at_call 47; with_reducible refine (i_pub_f _ _ hp).mono ?_; rintro e w' ⟨rfl, rfl⟩))
    go_ret
    exact ⟨rfl, rfl⟩
theorem i_every_sec {w : World} {B n c : Nat} {A : Option Addr} {l : List Int} (hl : Ints .i64 w B A n l) (hn : n ≤ 17592186043904) :
    Calls Try.prog 46 #[.slice A n c, .func (.func 48) #[] #[]] w fun e w' => e = .returned (.bool (decide (Secs l))) ∧ w = w' :=
  (i_every 48 (fun x => decide (LaySec x)) (fun x w => rfl) i_isLaySec hl hn).mono fun e w' h => ⟨by rw [h.1, decide_all (q := Secs l)]; exact ⟨fun h x hx => decide_eq_true (h x hx), fun h x hx => of_decide_eq_true (h x hx)⟩, h.2⟩
theorem i_isPub (x : Int) (w : World) : Calls Try.prog 47 #[.int .i64 x] w fun e w' => e = .returned (.bool (decide (2 ≤ x ∧ x < 2147483646))) ∧ w = w' := by
  rcases pub_or x with hp | hp
  · rw [show decide (2 ≤ x ∧ x < 2147483646) = true from decide_eq_true hp]; exact i_pub_t x w hp
  · rw [show decide (2 ≤ x ∧ x < 2147483646) = false from decide_eq_false hp]; exact i_pub_f x w hp
theorem i_every_pub {w : World} {B n c : Nat} {A : Option Addr} {l : List Int} (hl : Ints .i64 w B A n l) (hn : n ≤ 17592186043904) :
    Calls Try.prog 46 #[.slice A n c, .func (.func 47) #[] #[]] w fun e w' => e = .returned (.bool (l.all fun x => decide (2 ≤ x ∧ x < 2147483646))) ∧ w = w' :=
  i_every 47 (fun x => decide (2 ≤ x ∧ x < 2147483646)) (fun x w => rfl) i_isPub hl hn
end Go.Proofs.Ytnfmjgldcnokbaa
