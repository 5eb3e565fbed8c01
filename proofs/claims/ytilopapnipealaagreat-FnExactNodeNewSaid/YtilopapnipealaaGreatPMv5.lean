/-
  Copies of pools: contracts of l5own (the model's) and Pool.copy (the program's); forgetting, of both sides.
-/
import Derived.Test.YtilopapnipealaaGreatPOwn
import Derived.Test.YtilopapnipealaaGreatPD5
import Derived.Test.YtilopapnipealaaGreatGrowM
import Derived.Deep.RegionHeld3
namespace Go.Proofs.YtilopapnipealaaGreat
set_option maxRecDepth 100000
set_option linter.unusedVariables false
set_option linter.unusedSimpArgs false
open Go.ChangeShapes Go.WideShapes Go.ChangeAt Go.RowKit
open Fld
theorem slO_own {K : IntKind} {w : World} {v : Value} {l : List Int} {F : List Nat} (h : (tSl K).O w [v] l F) : ∀ f ∈ F, v.ownBlock = some f := by
  intro f hf
  rcases h with ⟨A, c, _, _, _, rfl⟩ | ⟨g, off, c, cur, t, h1, h2, h3, h4, h5, h6, h7, rfl⟩
  · exact absurd hf (by simp)
  · injection h1 with h1 _
    rw [List.mem_singleton] at hf
    rw [h1, hf]; rfl
/-- Two stores into a result's block. -/
theorem put2_Pool {w : World} {g : Nat} {v0 v1 : Value} {r0 : List DHeld} {l1 : List Int} {F0 F1 : List Nat} (h0 : tHeld.row.O w [v0] r0 F0) (h1 : tIs.O w [v1] l1 F1) (hg : g ∉ F0 ++ F1) :
    tPool.O ((w.setCell ⟨g, 0, none⟩ v0).setCell ⟨g, 1, none⟩ v1) [v0, v1] (r0, l1) (F0 ++ F1) := by
  have g0 : g ∉ F0 := fun h => hg (List.mem_append.2 (.inl h))
  have g1 : g ∉ F1 := fun h => hg (List.mem_append.2 (.inr h))
  obtain ⟨F, hF, rfl⟩ := makeOPool (p := (r0, l1)) (Ty.far3 (t := tHeld.row) (Ty.far3 (t := tHeld.row) h0 (p := ⟨g, 0, none⟩) g0 v0) (p := ⟨g, 1, none⟩) g0 v1) (Ty.far3 (t := tIs) (Ty.far3 (t := tIs) h1 (p := ⟨g, 0, none⟩) g1 v0) (p := ⟨g, 1, none⟩) g1 v1)
  exact hF
/-- What an append of integers leaves of another's blocks. -/
theorem own_past {α : Type} {t : Ty α} {w w' : World} {cs : List Value} {a : α} {F : List Nat} {row : Option Nat} (h : t.O w cs a F) (hg : w.grownBy w' row) (hr : ∀ b, row = some b → b ∉ F) : t.O w' cs a F :=
  t.kept h fun f hf => hg.block f (t.lt h f hf) fun e => hr f e.symm hf
theorem new_pair {B : Nat} {F G : List Nat} (hF : New B F) (hG : New B G) (hd : ∀ f ∈ F, f ∉ G) : New B (F ++ G) :=
  ⟨List.nodup_append.2 ⟨hF.1, hG.1, fun x hx y hy e => hd x hx (e ▸ hy)⟩, fun f hf => by
    rcases List.mem_append.1 hf with h | h
    · exact hF.2 f h
    · exact hG.2 f h⟩
theorem i_copiedI5 {w : World} {n c : Nat} {A : Option Addr} {l : List Int} (hl : Ints .i64 w w.heap.size A n l) (hn : n ≤ 1048576) :
    Calls Tryz.prog 70 #[.slice A n c] w fun e w' => ∃ v, e = .returned v ∧ Own .i64 3 w' w.heap.size v l ∧ Below w.heap.size w w' := by
  obtain ⟨i0, hi0, hz0, hz1, hz2⟩ := info_parts info_ci
  go_enter Tryz.func70, Tryz.ntmps70
  go_wp2_with (at_builtin; refine wpList_app _ rfl _ (.tmp 3) _ rfl w.heap.size 3 i0 _ 1 8 Tryz.underlying23 hi0 hz0 hz1 hz2 rfl (by omega) (.slice none 0 0) 0 [] rfl (World.ownsRow_nil _ _ _ _) _ n c (l.map (Value.int .i64)) rfl (Src.of_ints hl) (one_ints _ _) (by simp only [maxLen]; omega) (by omega) (Nat.le_refl _) ?_; intro v1 w1 hown hgr hat)
  go_ret
  exact ⟨v1, rfl, Own.of (n := 0 + n) (by simpa using hown) hl.2.2, Below.grown (Below.refl _ _) hgr (Nat.le_refl _) fun b hb => by simp [Value.ownBlock] at hb⟩
set_option maxHeartbeats 2000000 in
theorem i_PlCopy {w : World} {A0 A1 : Option Addr} {n0 c0 n1 c1 : Nat} {r0 : List DHeld} {l1 : List Int} (h0 : tHeld.row.R w w.heap.size [.slice A0 n0 c0] r0) (h1 : tIs.R w w.heap.size [.slice A1 n1 c1] l1) (hz : rsz szHeld r0 + l1.length ≤ 1048576) :
    Calls Tryz.prog 153 #[.agg #[.slice A0 n0 c0, .slice A1 n1 c1]] w fun e w' => ∃ A0' c0' A1' c1' F, e = .returned (.agg #[.slice A0' r0.length c0', .slice A1' l1.length c1']) ∧ tPool.O w' [.slice A0' r0.length c0', .slice A1' l1.length c1'] (r0, l1) F ∧ New w.heap.size F ∧ Below w.heap.size w w' := by
  have hI1 := (slR_ints h1).1
  have hn1 : n1 ≤ 1048576 := by have := hI1.1; omega
  have k0 : ((w.alloc (.cells #[.slice A0 n0 c0, .slice A1 n1 c1] 36)).alloc (.cells #[.slice none 0 0, .slice none 0 0] 36)).cell? ⟨w.heap.size, 0, none⟩ = some (.slice A0 n0 c0) := ((Box.new w _ _).alloc _).cell 0
  have k1 : ((w.alloc (.cells #[.slice A0 n0 c0, .slice A1 n1 c1] 36)).alloc (.cells #[.slice none 0 0, .slice none 0 0] 36)).cell? ⟨w.heap.size, 1, none⟩ = some (.slice A1 n1 c1) := ((Box.new w _ _).alloc _).cell 1
  clear h1
  go_enter Tryz.func153, Tryz.ntmps153
  go_wp2_with fail
  go_region_held3 (fun w' => w'.cell? ⟨w.heap.size, 0, none⟩ = some (.slice A0 n0 c0) ∧ w'.cell? ⟨w.heap.size, 1, none⟩ = some (.slice A1 n1 c1)) (first | (exact ⟨k0, k1⟩) | (exact ⟨x0, x1⟩) | (exact ⟨y0, y1⟩) | go_keep)
    (first
      | (go_at_call 189; refine (i_eachCopy (tHeld.row.reach h0 (by repeat (first | (with_reducible exact Below.refl _ _) | (with_reducible assumption) | (with_reducible refine bel_alloc ?_ _) | (with_reducible refine bel_drew ?_) | (with_reducible refine below_drewN ?_ _) | (with_reducible refine bel_put ?_ (by first | exact Nat.le_refl _ | (simp; done) | (simp; omega)) _)))) (by omega)).mono ?_; rintro e w1 ⟨B0, d0, F0, rfl, hO0, hN0, hb1⟩; have X1 : Box w1 w.heap.size 36 #[.slice A0 n0 c0, .slice A1 n1 c1] := Box.below (Box.drew ((Box.new w _ _).alloc _)) hb1 (by show _ < (World.alloc _ _).heap.size; simp; omega); have Y1 : Box w1 (w.heap.size + 1) 36 #[.slice none 0 0, .slice none 0 0] := Box.below (Box.drew (by simpa using Box.new (w.alloc _) 36 #[.slice none 0 0, .slice none 0 0])) hb1 (by show _ < (World.alloc _ _).heap.size; simp); have x0 := X1.cell 0; have x1 := X1.cell 1; have hB1 : Below w.heap.size w w1 := bel_trans (by repeat (first | (with_reducible exact Below.refl _ _) | (with_reducible assumption) | (with_reducible refine bel_alloc ?_ _) | (with_reducible refine bel_drew ?_) | (with_reducible refine below_drewN ?_ _) | (with_reducible refine bel_put ?_ (by first | exact Nat.le_refl _ | (simp; done) | (simp; omega)) _))) hb1; have z1 : w.heap.size + 2 ≤ w1.heap.size := (by have : (World.alloc (World.alloc w _) _).heap.size ≤ w1.heap.size := hb1.size; simpa using this))
      | (go_at_call 70; refine (i_copiedI5 (reach hI1 (bel_trans hB1 (by repeat (first | (with_reducible exact Below.refl _ _) | (with_reducible assumption) | (with_reducible refine bel_alloc ?_ _) | (with_reducible refine bel_drew ?_) | (with_reducible refine below_drewN ?_ _) | (with_reducible refine bel_put ?_ (by first | exact Nat.le_refl _ | (simp; done) | (simp; omega)) _))))) hn1).mono ?_; rintro e w2 ⟨v2, rfl, hO1, hb2⟩; obtain ⟨B1, d1, F1, rfl, hOd, hNd⟩ := own_slice hO1; have X2 := X1.below hb2 X1.size; have y0 := X2.cell 0; have y1 := X2.cell 1; have Y2 := Y1.below hb2 Y1.size; have q0 := Y2.cell 0; have q1 := Y2.cell 1; have f0 := Y2.frozen 0; have f1 := Y2.frozen 1))
  go_wp2
  have RR := (Y2.put 0 (.slice B0 r0.length d0)).put 1 (.slice B1 l1.length d1)
  have e0 := RR.cell 0; have e1 := RR.cell 1
  have hM : New (w.heap.size + 2) (F0 ++ F1) := New.app (hN0.lower (by show _ ≤ (World.alloc _ _).heap.size; first | (simp; done) | (simp; omega))) (hNd.lower (Nat.le_refl _)) (by omega) (fun f hf => tHeld.row.lt hO0 f hf)
  refine bodyPost_ret (v := .agg #[.slice B0 r0.length d0, .slice B1 l1.length d1]) (by simp [results, Tryz.results153, go_sem, e0, e1]) rfl ⟨B0, d0, B1, d1, F0 ++ F1, rfl, put2_Pool (Ty.below (t := tHeld.row) hO0 hb2) hOd (hM.not (by omega)), hM.lower (by omega), ?_⟩
  exact bel_put (bel_put (bel_trans hB1 hb2) (by simp) _) (by simp) _
theorem i_PlCopyP {w : World} {cs : List Value} {p : DPool} (h : tPool.R w w.heap.size cs p) (hz : szPool p ≤ 1048576) :
    Calls Tryz.prog 153 #[.agg cs.toArray] w fun e w' => ∃ cs' F, e = .returned (.agg cs'.toArray) ∧ tPool.O w' cs' p F ∧ New w.heap.size F ∧ Below w.heap.size w w' := by
  obtain ⟨A0, n0, c0, A1, n1, c1, rfl, -, -, -, hr0, -, -, -, hr1⟩ := openPool h
  refine (i_PlCopy hr0 hr1 hz).mono ?_
  rintro e w' ⟨A0', c0', A1', c1', F, rfl, hO, hN, hB⟩
  exact ⟨_, F, rfl, hO, hN, hB⟩
set_option maxHeartbeats 2000000 in
theorem s_own5 {w : World} {A0 A1 : Option Addr} {n0 c0 n1 c1 : Nat} {r0 : List DHeld} {l1 : List Int} (h0 : tHeld.row.R w w.heap.size [.slice A0 n0 c0] r0) (h1 : tIs.R w w.heap.size [.slice A1 n1 c1] l1) (hz : rsz szHeld r0 + l1.length ≤ 1048576) :
    Calls Tryz.prog 150 #[.agg #[.slice A0 n0 c0, .slice A1 n1 c1]] w fun e w' => ∃ A0' c0' A1' c1' F, e = .returned (.agg #[.slice A0' r0.length c0', .slice A1' l1.length c1']) ∧ tPool.O w' [.slice A0' r0.length c0', .slice A1' l1.length c1'] (r0, l1) F ∧ New w.heap.size F ∧ Below w.heap.size w w' := by
  obtain ⟨i0, hi0, hz0, hz1, hz2⟩ := info_parts info_ci
  have hI1 := (slR_ints h1).1
  have hn1 : n1 ≤ 1048576 := by have := hI1.1; omega
  have k0 : ((w.alloc (.cells #[.slice A0 n0 c0, .slice A1 n1 c1] 36)).alloc (.cells #[.slice none 0 0, .slice none 0 0] 36)).cell? ⟨w.heap.size, 0, none⟩ = some (.slice A0 n0 c0) := ((Box.new w _ _).alloc _).cell 0
  have k1 : ((w.alloc (.cells #[.slice A0 n0 c0, .slice A1 n1 c1] 36)).alloc (.cells #[.slice none 0 0, .slice none 0 0] 36)).cell? ⟨w.heap.size, 1, none⟩ = some (.slice A1 n1 c1) := ((Box.new w _ _).alloc _).cell 1
  clear h1
  go_enter Tryz.func150, Tryz.ntmps150
  go_wp2_with fail
  go_region_held3 (fun w' => w'.cell? ⟨w.heap.size, 0, none⟩ = some (.slice A0 n0 c0) ∧ w'.cell? ⟨w.heap.size, 1, none⟩ = some (.slice A1 n1 c1)) (first | (exact ⟨k0, k1⟩) | (exact ⟨x0, x1⟩) | (exact ⟨y0, y1⟩) | go_keep)
    (first
      | (go_at_call 188; refine (s_ownHeld (tHeld.row.reach h0 (by repeat (first | (with_reducible exact Below.refl _ _) | (with_reducible assumption) | (with_reducible refine bel_alloc ?_ _) | (with_reducible refine bel_drew ?_) | (with_reducible refine below_drewN ?_ _) | (with_reducible refine bel_put ?_ (by first | exact Nat.le_refl _ | (simp; done) | (simp; omega)) _)))) (by omega)).mono ?_; rintro e w1 ⟨B0, d0, F0, rfl, hO0, hN0, hb1⟩; have X1 : Box w1 w.heap.size 36 #[.slice A0 n0 c0, .slice A1 n1 c1] := Box.below (by first | exact Box.drew ((Box.new w _ _).alloc _) | exact Box.drew (((Box.new w _ _).alloc _).alloc _)) hb1 (by show _ < (World.alloc _ _).heap.size; simp; omega); have Y1 : Box w1 (w.heap.size + 1) 36 #[.slice none 0 0, .slice none 0 0] := Box.below (by first | exact Box.drew (by simpa using Box.new (w.alloc _) 36 #[.slice none 0 0, .slice none 0 0]) | exact Box.drew (Box.alloc (by simpa using Box.new (w.alloc _) 36 #[.slice none 0 0, .slice none 0 0]) _)) hb1 (by show _ < (World.alloc _ _).heap.size; first | (simp; done) | (simp; omega)); have x0 := X1.cell 0; have x1 := X1.cell 1; have hB1 : Below w.heap.size w w1 := bel_trans (by repeat (first | (with_reducible exact Below.refl _ _) | (with_reducible assumption) | (with_reducible refine bel_alloc ?_ _) | (with_reducible refine bel_drew ?_) | (with_reducible refine below_drewN ?_ _) | (with_reducible refine bel_put ?_ (by first | exact Nat.le_refl _ | (simp; done) | (simp; omega)) _))) hb1; have z1 : w.heap.size + 2 ≤ w1.heap.size := (by first | (have : (World.alloc (World.alloc w _) _).heap.size ≤ w1.heap.size := hb1.size; simpa using this) | (have : (World.alloc (World.alloc (World.alloc w _) _) _).heap.size ≤ w1.heap.size := hb1.size; simp at this; omega)); have hEA := empty9 w1 3; have hSA : Src (w1.alloc (.cells #[] 3)) 1 A1 n1 (l1.map (Value.int .i64)) := Src.of_ints (reach (reach hI1 hB1) (by repeat (first | (with_reducible exact Below.refl _ _) | (with_reducible assumption) | (with_reducible refine bel_alloc ?_ _) | (with_reducible refine bel_drew ?_) | (with_reducible refine below_drewN ?_ _) | (with_reducible refine bel_put ?_ (by first | exact Nat.le_refl _ | (simp; done) | (simp; omega)) _)))); have hSB : Src w1 1 A1 n1 (l1.map (Value.int .i64)) := Src.of_ints (reach hI1 hB1))
      | (refine step_app5 _ (by rfl) (.tmp 6) (.tmp 8) _ (by rfl) w1.heap.size 3 i0 _ 1 8 Tryz.underlying23 hi0 hz0 hz1 hz2 rfl (by omega) (.slice (some ⟨w1.heap.size, 0, none⟩) 0 0) 0 [] (by rfl) hEA _ n1 c1 (l1.map (Value.int .i64)) (by rfl) hSA (one_ints _ _) (by simp only [maxLen]; omega) (by omega) (by first | omega | (simp; done) | (simp; omega)) ?_; intro v1 w2 hown hgr hat; obtain ⟨B1, d1, F1, rfl, hOd, hNd0⟩ := own_slice (Own.of (n := 0 + n1) (by simpa using hown) hI1.2.2); have hNd : New (w.heap.size + 2) F1 := hNd0.lower (by omega); have hO2 : tHeld.row.O w2 _ r0 F0 := own_past (w := (w1.alloc (.cells #[] 3))) (Ty.below (t := tHeld.row) hO0 (by repeat (first | (with_reducible exact Below.refl _ _) | (with_reducible assumption) | (with_reducible refine bel_alloc ?_ _) | (with_reducible refine bel_drew ?_) | (with_reducible refine below_drewN ?_ _) | (with_reducible refine bel_put ?_ (by first | exact Nat.le_refl _ | (simp; done) | (simp; omega)) _)))) hgr (fun b hb hx => by have e := Option.some.inj (show some (w1.heap.size) = some b from hb); have h1 := tHeld.row.lt hO0 b hx; have h2 := hN0.2 b hx; omega); have hdis : ∀ f ∈ F0, f ∉ F1 := (fun f h1 h2 => by have := tHeld.row.lt hO0 f h1; have := hNd0.2 f h2; omega); have hs2 : Below w.heap.size w w2 := Below.grown (w := (w1.alloc (.cells #[] 3))) (bel_trans hB1 (by repeat (first | (with_reducible exact Below.refl _ _) | (with_reducible assumption) | (with_reducible refine bel_alloc ?_ _) | (with_reducible refine bel_drew ?_) | (with_reducible refine below_drewN ?_ _) | (with_reducible refine bel_put ?_ (by first | exact Nat.le_refl _ | (simp; done) | (simp; omega)) _)))) hgr (by first | omega | (simp; done) | (simp; omega)) (fun b hb => by have e := Option.some.inj (show some (w1.heap.size) = some b from hb); omega); have X2 : Box w2 w.heap.size 36 #[.slice A0 n0 c0, .slice A1 n1 c1] := Box.grown (w := (w1.alloc (.cells #[] 3))) (X1.alloc _) hgr (fun e => by have e := Option.some.inj (show some w.heap.size = some (w1.heap.size) from e); omega); have Y2 : Box w2 (w.heap.size + 1) 36 #[.slice none 0 0, .slice none 0 0] := Box.grown (w := (w1.alloc (.cells #[] 3))) (Y1.alloc _) hgr (fun e => by have e := Option.some.inj (show some (w.heap.size + 1) = some (w1.heap.size) from e); omega); have y0 := X2.cell 0; have y1 := X2.cell 1; have q0 := Y2.cell 0; have q1 := Y2.cell 1; have f0 := Y2.frozen 0; have f1 := Y2.frozen 1)
      | (have hEB : w1.ownsRow (w.heap.size + 2) 3 1 (.slice (some ⟨w.heap.size + 2, 0, none⟩) 0 0) 0 [] := (World.ownsRow.kept (w := (((w.alloc (.cells #[.slice A0 n0 c0, .slice A1 n1 c1] 36)).alloc (.cells #[.slice none 0 0, .slice none 0 0] 36)).alloc (.cells #[] 3)).drew) (World.ownsRow.kept (w := ((w.alloc (.cells #[.slice A0 n0 c0, .slice A1 n1 c1] 36)).alloc (.cells #[.slice none 0 0, .slice none 0 0] 36)).alloc (.cells #[] 3)) (by simpa using empty9 ((w.alloc (.cells #[.slice A0 n0 c0, .slice A1 n1 c1] 36)).alloc (.cells #[.slice none 0 0, .slice none 0 0] 36)) 3) (row := none) (gb_drew (World.grownBy.refl _ _)) (.inr (by simp [Value.ownBlock]))) (row := none) (below_grownBy hb1) (.inr (by simp [Value.ownBlock]))); refine step_app5 _ (by rfl) (.tmp 6) (.tmp 8) _ (by rfl) (w.heap.size + 2) 3 i0 _ 1 8 Tryz.underlying23 hi0 hz0 hz1 hz2 rfl (by omega) (.slice (some ⟨(w.heap.size + 2), 0, none⟩) 0 0) 0 [] (by rfl) hEB _ n1 c1 (l1.map (Value.int .i64)) (by rfl) hSB (one_ints _ _) (by simp only [maxLen]; omega) (by omega) (by first | omega | (simp; done) | (simp; omega)) ?_; intro v1 w2 hown hgr hat; obtain ⟨B1, d1, F1, rfl, hOd, hNd0⟩ := own_slice (Own.of (n := 0 + n1) (by simpa using hown) hI1.2.2); have hNd : New (w.heap.size + 2) F1 := hNd0.lower (by omega); have hO2 : tHeld.row.O w2 _ r0 F0 := own_past (w := w1) (hO0) hgr (fun b hb hx => by have e := Option.some.inj (show some ((w.heap.size + 2)) = some b from hb); have h1 := tHeld.row.lt hO0 b hx; have h2 := hN0.2 b hx; have h3 : w.heap.size + 3 ≤ b := Nat.le_trans (by show _ ≤ (World.alloc _ _).heap.size; simp) h2; omega); have hdis : ∀ f ∈ F0, f ∉ F1 := (fun f h1 h2 => by have h3 := slO_own hOd f h2; have h4 := tHeld.row.lt hO0 f h1; have h5 : w.heap.size + 3 ≤ f := Nat.le_trans (by show _ ≤ (World.alloc _ _).heap.size; simp) (hN0.2 f h1); rcases hat with h6 | h6 <;> rw [h3] at h6; (have h7 := Option.some.inj (show some f = some (w.heap.size + 2) from h6); omega); (have h7 := Option.some.inj h6; omega)); have hs2 : Below w.heap.size w w2 := Below.grown (w := w1) hB1 hgr (by first | omega | (simp; done) | (simp; omega)) (fun b hb => by have e := Option.some.inj (show some ((w.heap.size + 2)) = some b from hb); omega); have X2 : Box w2 w.heap.size 36 #[.slice A0 n0 c0, .slice A1 n1 c1] := Box.grown (w := w1) (X1) hgr (fun e => by have e := Option.some.inj (show some w.heap.size = some ((w.heap.size + 2)) from e); omega); have Y2 : Box w2 (w.heap.size + 1) 36 #[.slice none 0 0, .slice none 0 0] := Box.grown (w := w1) (Y1) hgr (fun e => by have e := Option.some.inj (show some (w.heap.size + 1) = some ((w.heap.size + 2)) from e); omega); have y0 := X2.cell 0; have y1 := X2.cell 1; have q0 := Y2.cell 0; have q1 := Y2.cell 1; have f0 := Y2.frozen 0; have f1 := Y2.frozen 1))
  all_goals go_wp2
  all_goals
    have RR := (Y2.put 0 (.slice B0 r0.length d0)).put 1 (.slice B1 l1.length d1)
    have e0 := RR.cell 0
    have e1 := RR.cell 1
    have hM : New (w.heap.size + 2) (F0 ++ F1) := new_pair (hN0.lower (by show _ ≤ (World.alloc _ _).heap.size; first | (simp; done) | (simp; omega))) hNd hdis
    refine bodyPost_ret (v := .agg #[.slice B0 r0.length d0, .slice B1 l1.length d1]) (by simp [results, Tryz.results150, go_sem, e0, e1]) rfl ⟨B0, d0, B1, d1, F0 ++ F1, rfl, put2_Pool hO2 hOd (hM.not (by omega)), hM.lower (by omega), ?_⟩
    exact bel_put (bel_put hs2 (by simp) _) (by simp) _
theorem s_own5P {w : World} {cs : List Value} {p : DPool} (h : tPool.R w w.heap.size cs p) (hz : szPool p ≤ 1048576) :
    Calls Tryz.prog 150 #[.agg cs.toArray] w fun e w' => ∃ cs' F, e = .returned (.agg cs'.toArray) ∧ tPool.O w' cs' p F ∧ New w.heap.size F ∧ Below w.heap.size w w' := by
  obtain ⟨A0, n0, c0, A1, n1, c1, rfl, -, -, -, hr0, -, -, -, hr1⟩ := openPool h
  refine (s_own5 hr0 hr1 hz).mono ?_
  rintro e w' ⟨A0', c0', A1', c1', F, rfl, hO, hN, hB⟩
  exact ⟨_, F, rfl, hO, hN, hB⟩

end Go.Proofs.YtilopapnipealaaGreat
