/-
  DrawDk, ImplTwo, LawTwo, LgO, EvPiece, EvWhole: texts joined.
-/
import Derived.Test.YtaabmaoldhoinaaGreatVGa
import Derived.Test.YtaabmaoldhoinaaGreatVGb
import Derived.Test.YtaabmaoldhoinaaGreatVGc
import Derived.Test.YtaabmaoldhoinaaGreatVGg
import Derived.Test.YtaabmaoldhoinaaGreatVMLgP
import Derived.CallsIn
import Derived.Deep.Cut
import Derived.Deep.CutRange
import Derived.Deep.DeepCutAuto
import Derived.Laws.BytesArg
import Derived.Lib.Bytes
import Derived.Lib.SlBytesConst
import Derived.LoopIn
import Derived.LoopNIn
import Derived.OwnWalkIn
import Derived.RangeFuncBound
import Derived.RangeFuncBox
import Derived.RangeFuncCalls
import Derived.RangeFuncFrom
import Derived.RangeFuncLeaves
import Derived.RangeFuncNested
import Derived.ScopeJumps
import Derived.Shelf.Abstract
import Derived.Shelf.Bytes.SlSmallAll
import Derived.Shelf.RegionOpen
import Derived.StillTactics
import Derived.StillTail
import Derived.TacticsInMore
import Derived.WalkMore
namespace Go.Proofs.YtaabmaoldhoinaaGreat
set_option maxRecDepth 100000
set_option linter.unusedVariables false
set_option linter.unusedSimpArgs false
open Go.ChangeShapes Go.WideShapes Go.ChangeAt Go.RowKit
open Fld
theorem dk_nil : DkOk ([], []) := ⟨by simp, fun x hx => absurd hx (by simp), fun i hi => absurd hi (by simp), fun i hi => absurd hi (by simp), fun w hw => absurd hw (by simp)⟩
theorem dkX_split {w : World} {K B : Nat} {v0 v1 : Value} {p : DDesk} (h : (tDkX K).R w B [v0, v1] p) : (RX K (tWhX K)).R w B [v0] p.1 ∧ (XT K tIs).R w B [v1] p.2 := by
  obtain ⟨A0, n0, c0, A1, n1, c1, e, -, h0, -, h1⟩ := openDkX h
  simp only [List.cons.injEq, and_true] at e
  obtain ⟨rfl, rfl⟩ := e
  exact ⟨h0, h1⟩
theorem pcX_of {w : World} {K B : Nat} {v : Value} {x0 x1 x2 : Int} {d : List Int} (h : (XT K tBy).R w B [v] d) (h0 : (Lit.int .i64 x0).wf = true) (h1 : (Lit.int .i64 x1).wf = true) (h2 : (Lit.int .i64 x2).wf = true) : (tPcX K).R w B [.int .i64 x0, .int .i64 x1, .int .i64 x2, v] (x0, x1, x2, d) :=
  fun w' ha => makePiece (p := (x0, x1, x2, d)) h0 h1 h2 (h w' ha)
theorem al_put {w : World} {K B b i : Nat} (u : Value) (hb : B ≤ b) : Alike K B w (w.setCell ⟨b, i, none⟩ u) := fun x _ hx => Below.heap_setCell w _ u x (by show x ≠ b; omega)
theorem pcO_X {w : World} {K : Nat} : ∀ es a Fi, tPiece.O w es a Fi → (∀ f ∈ Fi, K ≤ f) → (tPcX K).R w w.heap.size es a := fun es a Fi h hF => by
  obtain ⟨A3, c3, F3, rfl, rfl, h0, h1, h2, -, -, h3⟩ := openOPiece h
  have hX := slX_O h3 hF
  exact fun w' ha => makePiece h0 h1 h2 (hX w' ha)
theorem rx_O {α : Type} {t s : Ty α} {w : World} {K : Nat} {v : Value} {l : List α} {F : List Nat} (hk : s.k = t.k) (hx : ∀ es a Fi, t.O w es a Fi → (∀ f ∈ Fi, K ≤ f) → s.R w w.heap.size es a) (h : t.row.O w [v] l F) (hF : ∀ f ∈ F, K ≤ f) : (RX K s).R w w.heap.size [v] l := by
  rcases h with ⟨A, c, e, hc, rfl, rfl⟩ | ⟨gg, off, c, cur, et, Fs, e, h0, h2, h3, hg, h4, rfl, h6⟩
  · exact ⟨A, 0, c, e, Nat.zero_le _, hc, rfl, fun h => absurd h (by omega)⟩
  · have hlt := Box.size (t := et) hg
    refine ⟨_, _, c, e, h2, h3, rfl, fun _ => ⟨gg, off, rfl, hF gg List.mem_cons_self, hlt, fun i a' ha => ?_⟩⟩
    have hi : i < l.length := (List.getElem?_eq_some_iff.1 ha).1
    obtain ⟨es, k1, k2⟩ := h6 i a' (Fs[i]'(by omega)) ha (List.getElem?_eq_getElem (by omega))
    exact ⟨es, fun j hj => by rw [hk] at hj ⊢; rw [Box.cell (t := et) hg]; exact k1 j hj, hx _ _ _ k2 (fun f hf => hF f (List.mem_cons_of_mem _ (mem_flat (List.getElem?_eq_getElem (by omega)) hf)))⟩
theorem whO_X {w : World} {K : Nat} : ∀ es a Fi, tWhole.O w es a Fi → (∀ f ∈ Fi, K ≤ f) → (tWhX K).R w w.heap.size es a := fun es a Fi h hF => by
  obtain ⟨A3, c3, F3, rfl, rfl, h0, h1, h2, -, -, h3⟩ := openOWhole h
  exact makeWhX h0 h1 h2 (rx_O (t := tPiece) rfl pcO_X h3 hF)
theorem rowO_X {w : World} {K : Nat} {v : Value} {l : List DWhole} {F : List Nat} (h : tWhole.row.O w [v] l F) (hF : ∀ f ∈ F, K ≤ f) : (RX K (tWhX K)).R w w.heap.size [v] l := rx_O (t := tWhole) rfl whO_X h hF
theorem rowX_growW {e : TypeId} {w : World} {base K : Nat} {v : Value} {l : List DWhole} {F : List Nat} (h : GrowO tWhole e w base v l F) (hK : K ≤ base) : (RX K (tWhX K)).R w w.heap.size [v] l := by
  obtain ⟨A, c, F', rfl, hO, hN⟩ := h.done
  exact rowO_X hO (fun f hf => Nat.le_trans hK (hN.2 f hf))
theorem rx_low {α : Type} {s s' : Ty α} {w : World} {K K' B : Nat} {cs : List Value} {l : List α} (hk : s.k = s'.k) (hm : ∀ es a, s.R w B es a → s'.R w B es a) (h : (RX K s).R w B cs l) (hK : K' ≤ K) : (RX K' s').R w B cs l := by
  obtain ⟨A, n, c, h1, h2, h3, h4, h5⟩ := h
  refine ⟨A, n, c, h1, h2, h3, h4, fun h0 => ?_⟩
  obtain ⟨b, off, e, hb0, hb, hc⟩ := h5 h0
  refine ⟨b, off, e, Nat.le_trans hK hb0, hb, fun i a hi => ?_⟩
  obtain ⟨es, k1, k2⟩ := hc i a hi
  exact ⟨es, by rw [← hk]; exact k1, hm _ _ k2⟩
theorem whX_low {w : World} {K K' B : Nat} (hK : K' ≤ K) : ∀ es a, (tWhX K).R w B es a → (tWhX K').R w B es a := fun es a h => by
  obtain ⟨A, n, c, rfl, h1, h2, h3, -, -, -, h4⟩ := openWhX h
  exact makeWhX h1 h2 h3 (rx_low (s := tPcX K) (s' := tPcX K') rfl (fun _ _ h => xt_low h hK) h4 hK)
theorem dkX_low {w : World} {K K' B : Nat} {v0 v1 : Value} {p : DDesk} (h : (tDkX K).R w B [v0, v1] p) (hK : K' ≤ K) : (tDkX K').R w B [v0, v1] p := by
  obtain ⟨h0, h1⟩ := dkX_split h
  exact makeDkX (rx_low (s := tWhX K) (s' := tWhX K') rfl (whX_low hK) h0 hK) (xt_low h1 hK)
/-- The bounds of a drawn desk. -/
def DkLim (p : DDesk) : Prop := p.1.length ≤ 7 ∧ p.2.length ≤ 257 ∧ szDesk p ≤ 8192
theorem dkOk_lim {p : DDesk} (h : DkOk p) : p.1.length ≤ 6 ∧ p.2.length ≤ 256 ∧ szDesk p ≤ 4096 := by
  refine ⟨h.1, ?_, (dkOk_sz h).1⟩
  have h2 : p.2.length ≤ (List.range 256).length := by
    have h3 : (p.2.map Int.toNat).Nodup := List.pairwise_map.2 ((asc_pw h.2.2.1).imp_of_mem fun {a b} ha hb h' e => by
      have := h.2.1 a ha; have := h.2.1 b hb; omega)
    have h4 := h3.length_le_of_subset (l₂ := List.range 256) (fun x hx => by
      obtain ⟨y, hy, rfl⟩ := List.mem_map.1 hx
      have := h.2.1 y hy
      exact List.mem_range.2 (by omega))
    rwa [List.length_map] at h4
  rwa [List.length_range] at h2
theorem rsz_put {α : Type} {s : α → Nat} {a : α} {l : List α} : rsz s (l ++ [a]) = rsz s l + 1 + s a := by
  unfold rsz; rw [rsum_app, List.length_append]; simp [rsum]; omega
theorem rsum_set {α : Type} {s : α → Nat} {a b : α} {l : List α} {i : Nat} (h : l[i]? = some a) (e : s b = s a) : rsum s (l.set i b) = rsum s l := by
  induction l generalizing i with
  | nil => simp at h
  | cons x l ih =>
    cases i with
    | zero => simp at h; subst h; simp [rsum, e]
    | succ i => simp at h; simp [rsum, ih h]
theorem gb_new4 {a w w' : World} {g : Nat} {o : Obj} {row : Option Nat} (h : a.grownBy w (some g)) (k : (w.alloc o).grownBy w' row) (hr : ∀ r, row = some r → a.heap.size ≤ r) : a.grownBy w' (some g) := gb_over4 (gb_alloc h o) k hr
theorem one_whole (x0 x1 x2 : Int) (A : Option Addr) (n c : Nat) : ∀ u ∈ [Value.int .i64 x0, .int .i64 x1, .int .i64 x2, .slice A n c], u.oneCell' = true := by
  intro u hu
  simp only [List.mem_cons, List.not_mem_nil, or_false] at hu
  rcases hu with rfl | rfl | rfl | rfl <;> rfl
theorem whN {w : World} {y z : Int} (hy : (Lit.int .i64 y).wf = true) (hz : (Lit.int .i64 z).wf = true) : tWhole.O w [.int .i64 y, .int .i64 z, .int .i64 0, .slice none 0 0] (y, z, 0, []) [] := by
  obtain ⟨F, h, rfl⟩ := makeOWhole (w := w) (p := (y, z, 0, [])) (v3 := .slice none 0 0) (F3 := []) hy hz (by show (Lit.int .i64 0).wf = true; decide) (.inl ⟨none, 0, rfl, by omega, rfl, rfl⟩)
  exact h
theorem apart_sy4 {a b : Option Nat} (h : a = none ∨ a ≠ b) : b = none ∨ b ≠ a := by
  rcases h with rfl | h
  · cases b <;> simp
  · exact .inr (Ne.symm h)
set_option maxHeartbeats 4000000 in
theorem k_desk {w : World} {g n c : Nat} {A : Option Addr} {l : List Int} (h : Curs w g A n c l) :
    Calls Tryz.prog 104 #[.pointer (some ⟨g, 0, none⟩)] w fun e w' => ∃ A0 c0 A1 c1 p F2, e = .returned (.agg #[.slice A0 (p : DDesk).1.length c0, .slice A1 p.2.length c1]) ∧ GrowO tWhole 53 w' w.heap.size (.slice A0 p.1.length c0) p.1 F2 ∧ (∀ b, Blk (.slice A0 p.1.length c0) F2 b → (Value.slice A1 p.2.length c1).ownBlock ≠ some b) ∧ Own .i64 3 w' w.heap.size (.slice A1 p.2.length c1) p.2 ∧ DkOk p ∧ Curs w' g A n c l ∧ w.grownBy w' (some g) := by
  have hgs := h.size
  have hC1 : Curs ((w.alloc (.cells #[.slice none 0 0, .slice none 0 0] 33)).alloc (.cells #[.slice none 0 0, .slice none 0 0] 33)) g A n c l := (h.alloc _).alloc _
  have hG1 : w.grownBy ((w.alloc (.cells #[.slice none 0 0, .slice none 0 0] 33)).alloc (.cells #[.slice none 0 0, .slice none 0 0] 33)) (some g) := gb_alloc (gb_alloc (gb_self w g) _) _
  have R1 : Box ((w.alloc (.cells #[.slice none 0 0, .slice none 0 0] 33)).alloc (.cells #[.slice none 0 0, .slice none 0 0] 33)) w.heap.size 33 #[.slice none 0 0, .slice none 0 0] := (Box.new _ _ _).alloc _
  have D1 : Box ((w.alloc (.cells #[.slice none 0 0, .slice none 0 0] 33)).alloc (.cells #[.slice none 0 0, .slice none 0 0] 33)) (w.heap.size + 1) 33 #[.slice none 0 0, .slice none 0 0] := by simpa using Box.new (w.alloc (.cells #[.slice none 0 0, .slice none 0 0] 33)) 33 #[.slice none 0 0, .slice none 0 0]
  have hrg : some w.heap.size ≠ some g := fun e => by injection e with e; omega
  have hdg : some (w.heap.size + 1) ≠ some g := fun e => by injection e with e; omega
  go_enter Tryz.func104, Tryz.ntmps104
  go_wp2_with fail
  refine (k_Below ((w.alloc (.cells #[.slice none 0 0, .slice none 0 0] 33)).alloc (.cells #[.slice none 0 0, .slice none 0 0] 33)) 14 hC1 (gb_self _ g) (by omega) (by omega)).mono ?_
  rintro e w2 ⟨x, rfl, hx0, hx1, hC2, hG2⟩
  obtain ⟨N, rfl⟩ := Int.eq_ofNat_of_zero_le hx0
  have hN : N < 14 := by omega
  have R2 := R1.grown hG2 hrg
  have D2 := D1.grown hG2 hdg
  have hGw := gb_trans hG1 hG2
  clear hx0 hx1 hC1 hG1 R1 D1 hG2
  go_wp2_with fail
  go_loopw [5] (fun iv wr => ∃ (i : Nat) (p : DDesk) (A0 : Option Addr) (n0 c0 : Nat) (A1 : Option Addr) (n1 c1 : Nat), i ≤ N ∧ iv = .int .i64 i ∧ Box wr w.heap.size 33 #[.slice none 0 0, .slice none 0 0] ∧ Box wr (w.heap.size + 1) 33 #[.slice A0 n0 c0, .slice A1 n1 c1] ∧ (tDkX (w.heap.size + 2)).R wr wr.heap.size [.slice A0 n0 c0, .slice A1 n1 c1] p ∧ DkOk p ∧ Curs wr g A n c l ∧ w.grownBy wr (some g)) (fun iv _ => N - (valI4 iv).toNat)
  case atStart => exact ⟨0, ([], []), none, 0, 0, none, 0, 0, by omega, rfl, R2, D2, makeDkX (rx_nil _ _ _ _) (slX_nil _ _), dk_nil, hC2, hGw⟩
  case round =>
    obtain ⟨i, p, A0, n0, c0, A1, n1, c1, hi, rfl, R, D, hX, hok, hC, hG⟩ := hrel
    have zw := D.size
    have dd0 := D.cell 0
    have dd1 := D.cell 1
    by_cases hlt : i < N
    · clear dd0 dd1
      go_wp2_with fail
      refine (k_piece hC).mono ?_
      rintro e w4 ⟨v4, q, rfl, hO4, hpc, hC4, hG4⟩
      have h8 := pc_le8 hpc
      obtain ⟨A7, c7, rfl, -⟩ := hO4.shape
      obtain ⟨y0, y1, y2, qd⟩ := q
      dsimp only at h8 hO4 ⊢
      obtain ⟨n7, hn7⟩ : ∃ m, qd.length = m := ⟨_, rfl⟩
      rw [hn7] at h8 hO4 ⊢
      have wf0 : (Lit.int .i64 y0).wf = true := WalkArith.wf_i64 ⟨by omega, by omega⟩
      have wf1 : (Lit.int .i64 y1).wf = true := WalkArith.wf_i64 ⟨by omega, by omega⟩
      have wf2 : (Lit.int .i64 y2).wf = true := WalkArith.wf_i64 ⟨by omega, by omega⟩
      have R4 := R.grown hG4 hrg
      have D4 := D.grown hG4 hdg
      have X4 := (firm_Dk (w.heap.size + 2)).at hX (Alike.grown hG4 (by omega) (Nat.le_refl _)) hG4.size
      have S4 := slX_own (g := (w.heap.size + 2)) hO4 (by omega)
      have G4 := gb_trans hG hG4
      have z4 := hG4.size
      obtain ⟨pb, hpb⟩ : ∃ pb, w4.heap.size = pb := ⟨_, rfl⟩
      rw [hpb] at X4 S4
      have hpw : w.heap.size + 1 < pb := by omega
      obtain ⟨w5, hw5⟩ : ∃ w5, w4.alloc (.cells #[.int .i64 y0, .int .i64 y1, .int .i64 y2, .slice A7 n7 c7] 37) = w5 := ⟨_, rfl⟩
      have R5 : Box w5 w.heap.size 33 #[.slice none 0 0, .slice none 0 0] := by rw [← hw5]; exact R4.alloc _
      have D5 : Box w5 (w.heap.size + 1) 33 #[.slice A0 n0 c0, .slice A1 n1 c1] := by rw [← hw5]; exact D4.alloc _
      have P5 : Box w5 pb 37 #[.int .i64 y0, .int .i64 y1, .int .i64 y2, .slice A7 n7 c7] := by rw [← hw5, ← hpb]; exact Box.new _ _ _
      have hal : Alike (w.heap.size + 2) pb w4 w5 := by rw [← hw5, ← hpb]; exact Alike.below ((Below.refl _ _).alloc (Nat.le_refl _) _)
      have X5 := firm_Dk (w.heap.size + 2) _ _ _ _ _ X4 hal
      have S5 := firm_xt (w.heap.size + 2) _ _ _ _ _ _ S4 hal
      have hC5 : Curs w5 g A n c l := by rw [← hw5]; exact hC4.alloc _
      have G5 : w.grownBy w5 (some g) := by rw [← hw5]; exact gb_alloc G4 _
      have hnp : some pb ≠ some g := fun e => by injection e with e; omega
      have zp5 := P5.size
      go_wp2_with fail
      clear hpb hw5 hal R D hX hC hG R4 D4 X4 S4 hO4 hC4 hG4 G4 hn7
      refine (k_Once w5 2 hC5 (gb_self w5 g) (by omega) (by omega)).mono ?_
      rintro e w6 ⟨b, rfl, hC6, hG6⟩
      have R6 := R5.grown hG6 hrg
      have D6 := D5.grown hG6 hdg
      have P6 := P5.grown hG6 hnp
      have X6 := firm_Dk (w.heap.size + 2) _ _ _ _ _ X5 (Alike.grown hG6 (by omega) (by omega))
      have S6 := firm_xt (w.heap.size + 2) _ _ _ _ _ _ S5 (Alike.grown hG6 (by omega) (by omega))
      have G6 := gb_trans G5 hG6
      have zp6 := P6.size
      clear R5 D5 P5 X5 S5 hC5 hG6 G5
      go_upto_if 17 with fail
      go_cut [] (fun wc => ∃ x0, Box wc w.heap.size 33 #[.slice none 0 0, .slice none 0 0] ∧ Box wc (w.heap.size + 1) 33 #[.slice A0 n0 c0, .slice A1 n1 c1] ∧ Box wc pb 37 #[.int .i64 x0, .int .i64 y1, .int .i64 y2, .slice A7 n7 c7] ∧ (tDkX (w.heap.size + 2)).R wc wc.heap.size [.slice A0 n0 c0, .slice A1 n1 c1] p ∧ (tPcX (w.heap.size + 2)).R wc wc.heap.size [.int .i64 x0, .int .i64 y1, .int .i64 y2, .slice A7 n7 c7] (x0, y1, y2, qd) ∧ PcOk (x0, y1, y2, qd) ∧ Curs wc g A n c l ∧ w.grownBy wc (some g))
      case first =>
        cases b with
        | false =>
          go_wp2_with fail
          go_meet
          exact ⟨y0, R6, D6, P6, (tDkX (w.heap.size + 2)).up X6 (by omega), pcX_of ((XT (w.heap.size + 2) tBy).up S6 (by omega)) wf0 wf1 wf2, hpc, hC6, G6⟩
        | true =>
          go_wp2_with fail
          refine (k_Below w6 9 hC6 (gb_self w6 g) (by omega) (by omega)).mono ?_
          rintro e w7 ⟨x, rfl, hx0, hx1, hC7, hG7⟩
          have R7 := R6.grown hG7 hrg
          have D7 := D6.grown hG7 hdg
          have P7 := P6.grown hG7 hnp
          have X7 := firm_Dk (w.heap.size + 2) _ _ _ _ _ X6 (Alike.grown hG7 (by omega) (by omega))
          have S7 := firm_xt (w.heap.size + 2) _ _ _ _ _ _ S6 (Alike.grown hG7 (by omega) (by omega))
          have G7 := gb_trans G6 hG7
          have zp7 := P7.size
          have k0 := P7.cell 0
          have f0 := P7.frozen 0
          go_wp2_with fail
          go_meet
          have X8 := firm_Dk (w.heap.size + 2) _ _ _ _ _ X7 (al_put (i := 0) (.int .i64 x) (Nat.le_refl pb))
          have S8 := firm_xt (w.heap.size + 2) _ _ _ _ _ _ S7 (al_put (i := 0) (.int .i64 x) (Nat.le_refl pb))
          have hpx : PcOk (x, y1, y2, qd) := by
            have h1 := hpc
            unfold PcOk PcN at h1 ⊢
            exact ⟨hx0, by show x ≤ 255; omega, h1.2.2⟩
          exact ⟨x, R7.far (p := ⟨pb, 0, none⟩) (by show w.heap.size ≠ pb; omega) _, D7.far (p := ⟨pb, 0, none⟩) (by show w.heap.size + 1 ≠ pb; omega) _, P7.put 0 (.int .i64 x), (tDkX (w.heap.size + 2)).up X8 (by simp [World.setCell]; omega), pcX_of ((XT (w.heap.size + 2) tBy).up S8 (by simp [World.setCell]; omega)) (WalkArith.wf_i64 ⟨by omega, by omega⟩) wf1 wf2, hpx, curs_put4 hC7 (by omega) _, gb_far4 G7 (by omega) 0 _⟩
      case rest =>
      clear R6 D6 P6 X6 S6 hC6 G6 hpc
      obtain ⟨x0, Rq, Dq, Pq, hXq, hQq, hpc, hCq, hGq⟩ := hcut
      rename World => wq
      have zq := Pq.size
      have dq0 := Dq.cell 0
      have dq1 := Dq.cell 1
      go_wp2_with fail
      refine wp_region_held_drew (S := (fun w' => w'.cell? ⟨pb, 0, none⟩ = some (.int .i64 x0) ∧ w'.cell? ⟨pb, 1, none⟩ = some (.int .i64 y1) ∧ w'.cell? ⟨pb, 2, none⟩ = some (.int .i64 y2) ∧ w'.cell? ⟨pb, 3, none⟩ = some (.slice A7 n7 c7))) (by kernel_rfl) (by exact ⟨Pq.cell 0, Pq.cell 1, Pq.cell 2, Pq.cell 3⟩) (fun hHeld => ?_)
      refine wpAnyH_take (i := 1) (oi := ⟨some 23, _, _, _, _, _⟩) (v := ?v1) rfl (by kernel_rfl) (by kernel_rfl) (by kernel_rfl) (fun _ _ _ h => h) (Or.inl ⟨by rfl, ?hy1⟩) (by assumption) ?_
      case hy1 => (intro w hSw; (try dsimp only at hSw); go_simp; try (with_reducible rfl))
      (try simp only [Act.put, qa_, qb_, qc_])
      refine wpAnyH_take (i := 2) (oi := ⟨some 24, _, _, _, _, _⟩) (v := ?v2) rfl (by kernel_rfl) (by kernel_rfl) (by kernel_rfl) (fun _ _ _ h => h) (Or.inl ⟨by rfl, ?hy2⟩) (by assumption) ?_
      case hy2 => (intro w hSw; (try dsimp only at hSw); go_simp; try (with_reducible rfl))
      (try simp only [Act.put, qa_, qb_, qc_])
      refine wpAnyH_ready (rs := [0, 3]) (by kernel_rfl) (by simp) ?_
      refine AllReadyH.cons rfl (fun K hK => ?_) ?_
      · go_simp
        refine hK.out _ _ (by exact ⟨Pq.cell 0, Pq.cell 1, Pq.cell 2, Pq.cell 3⟩) (fun hHeld => ?_)
        clear hK K
        (try simp only [Act.put, qa_, qb_, qc_])
        refine wpAnyH_ready (rs := [3]) (by kernel_rfl) (by simp) ?_
        refine AllReadyH.cons rfl (fun K hK => ?_) ?_
        · go_simp
          go_at_call 105
          refine (k_Below wq 20 (show Curs wq.drew g A n c l from hCq) (gb_drew (gb_self wq g)) (by omega) (by omega)).mono ?_
          rintro e w6 ⟨x, rfl, hx0, hx1, hC6, hG6⟩
          have R6 := Rq.grown hG6 hrg
          have D6 := Dq.grown hG6 hdg
          have P6 := Pq.grown hG6 hnp
          have X6 := (firm_Dk (w.heap.size + 2)).at hXq (Alike.grown hG6 (by omega) (Nat.le_refl _)) hG6.size
          have Q6 := (firm_Pc (w.heap.size + 2)).at hQq (Alike.grown hG6 (by omega) (Nat.le_refl _)) hG6.size
          have G6 := gb_trans hGq hG6
          have z6 := hG6.size
          have d60 := D6.cell 0
          have d61 := D6.cell 1
          have hx5 : 0 ≤ 5 + x ∧ 5 + x ≤ 65535 := by omega
          have hw5 : IntKind.i64.wrap (5 + x) = 5 + x := IntWalk.i64_in _ (by omega)
          go_wp2_with fail
          refine hK.out _ _ (by exact ⟨P6.cell 0, P6.cell 1, P6.cell 2, P6.cell 3⟩) (fun hHeld => ?_)
          clear hK K
          (try simp only [Act.put, qa_, qb_, qc_])
          refine wpAnyH_take (i := 4) (oi := ⟨some 26, _, _, _, _, _⟩) (v := ?v3) rfl (by kernel_rfl) (by kernel_rfl) (by kernel_rfl) (fun _ _ _ h => h) (Or.inl ⟨by rfl, ?hy3⟩) (by assumption) ?_
          case hy3 => (intro w hSw; (try dsimp only at hSw); go_simp; try (with_reducible rfl))
          (try simp only [Act.put, qa_, qb_, qc_])
          refine wpAnyH_ready (rs := [5]) (by kernel_rfl) (by simp) ?_
          refine AllReadyH.cons rfl (fun K hK => ?_) ?_
          · go_simp
            go_at_call 39
            refine (s_take (kb := (w.heap.size + 2)) (p := p) (dkX_split X6).1 (dkX_split X6).2 Q6 hok hpc hx5 (by omega)).mono ?_
            rintro e w7 ⟨v0', v1', vb, rfl, T0, T1, TB, hb7⟩
            have X7 := makeDkX T0 T1
            obtain ⟨B0, m0, d0, B1, m1, d1, e7, -, -, -, -⟩ := openDkX X7
            simp only [List.cons.injEq, and_true] at e7
            obtain ⟨rfl, rfl⟩ := e7
            have R7 := R6.below hb7 R6.size
            have D7 := D6.below hb7 D6.size
            have P7 := P6.below hb7 P6.size
            have hC7 := hC6.below hb7 hC6.size
            have G7 := gb_bel4 G6 hb7
            have z7 := hb7.size
            have d70 := D7.cell 0
            have d71 := D7.cell 1
            have df0 := D7.frozen 0
            have df1 := D7.frozen 1
            obtain ⟨p7, hp7⟩ : ∃ p7, (tkT p (x0, y1, y2, qd) (5 + x)).1 = p7 := ⟨_, rfl⟩
            have hok7 : DkOk p7 := by rw [← hp7]; exact tkT_ok hok hpc hx5
            rw [hp7] at X7
            clear hp7 T0 T1 TB
            go_wp2_with fail
            refine hK.out _ _ (by exact ⟨P7.cell 0, P7.cell 1, P7.cell 2, P7.cell 3⟩) (fun hHeld => ?_)
            clear hK K
            (try simp only [Act.put, qa_, qb_, qc_])
            refine wpAnyH_take (i := 6) (oi := ⟨some 21, _, _, _, _, _⟩) (v := ?v4) rfl (by kernel_rfl) (by kernel_rfl) (by kernel_rfl) (fun _ _ _ h => h) (Or.inl ⟨by rfl, ?hy4⟩) (by assumption) ?_
            case hy4 => (intro w hSw; (try dsimp only at hSw); go_simp; try (with_reducible rfl))
            (try simp only [Act.put, qa_, qb_, qc_])
            refine wpAnyH_take (i := 7) (oi := ⟨some 28, _, _, _, _, _⟩) (v := ?v5) rfl (by kernel_rfl) (by kernel_rfl) (by kernel_rfl) (fun _ _ _ h => h) (Or.inl ⟨by rfl, ?hy5⟩) (by assumption) ?_
            case hy5 => (intro w hSw; (try dsimp only at hSw); go_simp; try (with_reducible rfl))
            (try simp only [Act.put, qa_, qb_, qc_])
            refine wpAnyH_take (i := 8) (oi := ⟨some 29, _, _, _, _, _⟩) (v := ?v6) rfl (by kernel_rfl) (by kernel_rfl) (by kernel_rfl) (fun _ _ _ h => h) (Or.inl ⟨by rfl, ?hy6⟩) (by assumption) ?_
            case hy6 => (intro w hSw; (try dsimp only at hSw); go_simp; try (with_reducible rfl))
            (try simp only [Act.put, qa_, qb_, qc_])
            refine wpAnyH_take (i := 9) (oi := ⟨some 30, _, _, _, _, _⟩) (v := ?v7) rfl (by kernel_rfl) (by kernel_rfl) (by kernel_rfl) (fun _ _ _ h => h) (Or.inl ⟨by rfl, ?hy7⟩) (by assumption) ?_
            case hy7 => (intro w hSw; (try dsimp only at hSw); go_simp; try (with_reducible rfl))
            (try simp only [Act.put, qa_, qb_, qc_])
            refine wpAnyH_ready (rs := [10]) (by kernel_rfl) (by simp) ?_
            refine AllReadyH.cons rfl (fun K hK => ?_) ?_
            · have R8 := (R7.far (p := ⟨w.heap.size + 1, 0, none⟩) (by show w.heap.size ≠ w.heap.size + 1; omega) (.slice B0 m0 d0)).far (p := ⟨w.heap.size + 1, 1, none⟩) (by show w.heap.size ≠ w.heap.size + 1; omega) (.slice B1 m1 d1)
              have D8 := (D7.put 0 (.slice B0 m0 d0)).put 1 (.slice B1 m1 d1)
              have P8 := (P7.far (p := ⟨w.heap.size + 1, 0, none⟩) (by show pb ≠ w.heap.size + 1; omega) (.slice B0 m0 d0)).far (p := ⟨w.heap.size + 1, 1, none⟩) (by show pb ≠ w.heap.size + 1; omega) (.slice B1 m1 d1)
              have X8 := (firm_Dk (w.heap.size + 2)).at ((firm_Dk (w.heap.size + 2)).at X7 (Alike.put w7 (p := ⟨w.heap.size + 1, 0, none⟩) (Nat.lt_succ_self _) (.slice B0 m0 d0)) (by simp [World.setCell])) (Alike.put _ (p := ⟨w.heap.size + 1, 1, none⟩) (Nat.lt_succ_self _) (.slice B1 m1 d1)) (by simp [World.setCell])
              have C8 := curs_put4 (b := w.heap.size + 1) (i := 1) (curs_put4 (b := w.heap.size + 1) (i := 0) hC7 (by omega) (.slice B0 m0 d0)) (by omega) (.slice B1 m1 d1)
              have G8 := gb_far4 (b := w.heap.size + 1) (gb_far4 (b := w.heap.size + 1) G7 (by omega) 0 (.slice B0 m0 d0)) (by omega) 1 (.slice B1 m1 d1)
              go_simp
              refine hK.out _ _ (by exact ⟨P8.cell 0, P8.cell 1, P8.cell 2, P8.cell 3⟩) (fun hHeld => ?_)
              clear hK K
              (try simp only [Act.put, qa_, qb_, qc_])
              refine wpAnyH_done (by kernel_rfl) ?_ _
              go_wp2
              go_roundw
              case rel => exact ⟨i + 1, p7, B0, m0, d0, B1, m1, d1, by omega, by go_num, R8, D8, X8, hok7, C8, G8⟩
              case measure => simp [valI4]; omega
            exact AllReadyH.nil
          exact AllReadyH.nil
        exact AllReadyH.nil
      refine AllReadyH.cons rfl (fun K hK => ?_) ?_
      · go_simp
        go_at_call 105
        refine (k_Below wq 20 (show Curs wq.drew g A n c l from hCq) (gb_drew (gb_self wq g)) (by omega) (by omega)).mono ?_
        rintro e w6 ⟨x, rfl, hx0, hx1, hC6, hG6⟩
        have R6 := Rq.grown hG6 hrg
        have D6 := Dq.grown hG6 hdg
        have P6 := Pq.grown hG6 hnp
        have X6 := (firm_Dk (w.heap.size + 2)).at hXq (Alike.grown hG6 (by omega) (Nat.le_refl _)) hG6.size
        have Q6 := (firm_Pc (w.heap.size + 2)).at hQq (Alike.grown hG6 (by omega) (Nat.le_refl _)) hG6.size
        have G6 := gb_trans hGq hG6
        have z6 := hG6.size
        have d60 := D6.cell 0
        have d61 := D6.cell 1
        have hx5 : 0 ≤ 5 + x ∧ 5 + x ≤ 65535 := by omega
        have hw5 : IntKind.i64.wrap (5 + x) = 5 + x := IntWalk.i64_in _ (by omega)
        go_wp2_with fail
        refine hK.out _ _ (by exact ⟨P6.cell 0, P6.cell 1, P6.cell 2, P6.cell 3⟩) (fun hHeld => ?_)
        clear hK K
        (try simp only [Act.put, qa_, qb_, qc_])
        refine wpAnyH_take (i := 4) (oi := ⟨some 26, _, _, _, _, _⟩) (v := ?v8) rfl (by kernel_rfl) (by kernel_rfl) (by kernel_rfl) (fun _ _ _ h => h) (Or.inl ⟨by rfl, ?hy8⟩) (by assumption) ?_
        case hy8 => (intro w hSw; (try dsimp only at hSw); go_simp; try (with_reducible rfl))
        (try simp only [Act.put, qa_, qb_, qc_])
        refine wpAnyH_ready (rs := [0]) (by kernel_rfl) (by simp) ?_
        refine AllReadyH.cons rfl (fun K hK => ?_) ?_
        · go_simp
          refine hK.out _ _ (by exact ⟨P6.cell 0, P6.cell 1, P6.cell 2, P6.cell 3⟩) (fun hHeld => ?_)
          clear hK K
          (try simp only [Act.put, qa_, qb_, qc_])
          refine wpAnyH_ready (rs := [5]) (by kernel_rfl) (by simp) ?_
          refine AllReadyH.cons rfl (fun K hK => ?_) ?_
          · go_simp
            go_at_call 39
            refine (s_take (kb := (w.heap.size + 2)) (p := p) (dkX_split X6).1 (dkX_split X6).2 Q6 hok hpc hx5 (by omega)).mono ?_
            rintro e w7 ⟨v0', v1', vb, rfl, T0, T1, TB, hb7⟩
            have X7 := makeDkX T0 T1
            obtain ⟨B0, m0, d0, B1, m1, d1, e7, -, -, -, -⟩ := openDkX X7
            simp only [List.cons.injEq, and_true] at e7
            obtain ⟨rfl, rfl⟩ := e7
            have R7 := R6.below hb7 R6.size
            have D7 := D6.below hb7 D6.size
            have P7 := P6.below hb7 P6.size
            have hC7 := hC6.below hb7 hC6.size
            have G7 := gb_bel4 G6 hb7
            have z7 := hb7.size
            have d70 := D7.cell 0
            have d71 := D7.cell 1
            have df0 := D7.frozen 0
            have df1 := D7.frozen 1
            obtain ⟨p7, hp7⟩ : ∃ p7, (tkT p (x0, y1, y2, qd) (5 + x)).1 = p7 := ⟨_, rfl⟩
            have hok7 : DkOk p7 := by rw [← hp7]; exact tkT_ok hok hpc hx5
            rw [hp7] at X7
            clear hp7 T0 T1 TB
            go_wp2_with fail
            refine hK.out _ _ (by exact ⟨P7.cell 0, P7.cell 1, P7.cell 2, P7.cell 3⟩) (fun hHeld => ?_)
            clear hK K
            (try simp only [Act.put, qa_, qb_, qc_])
            refine wpAnyH_take (i := 6) (oi := ⟨some 21, _, _, _, _, _⟩) (v := ?v9) rfl (by kernel_rfl) (by kernel_rfl) (by kernel_rfl) (fun _ _ _ h => h) (Or.inl ⟨by rfl, ?hy9⟩) (by assumption) ?_
            case hy9 => (intro w hSw; (try dsimp only at hSw); go_simp; try (with_reducible rfl))
            (try simp only [Act.put, qa_, qb_, qc_])
            refine wpAnyH_take (i := 7) (oi := ⟨some 28, _, _, _, _, _⟩) (v := ?v10) rfl (by kernel_rfl) (by kernel_rfl) (by kernel_rfl) (fun _ _ _ h => h) (Or.inl ⟨by rfl, ?hy10⟩) (by assumption) ?_
            case hy10 => (intro w hSw; (try dsimp only at hSw); go_simp; try (with_reducible rfl))
            (try simp only [Act.put, qa_, qb_, qc_])
            refine wpAnyH_take (i := 8) (oi := ⟨some 29, _, _, _, _, _⟩) (v := ?v11) rfl (by kernel_rfl) (by kernel_rfl) (by kernel_rfl) (fun _ _ _ h => h) (Or.inl ⟨by rfl, ?hy11⟩) (by assumption) ?_
            case hy11 => (intro w hSw; (try dsimp only at hSw); go_simp; try (with_reducible rfl))
            (try simp only [Act.put, qa_, qb_, qc_])
            refine wpAnyH_take (i := 9) (oi := ⟨some 30, _, _, _, _, _⟩) (v := ?v12) rfl (by kernel_rfl) (by kernel_rfl) (by kernel_rfl) (fun _ _ _ h => h) (Or.inl ⟨by rfl, ?hy12⟩) (by assumption) ?_
            case hy12 => (intro w hSw; (try dsimp only at hSw); go_simp; try (with_reducible rfl))
            (try simp only [Act.put, qa_, qb_, qc_])
            refine wpAnyH_ready (rs := [10]) (by kernel_rfl) (by simp) ?_
            refine AllReadyH.cons rfl (fun K hK => ?_) ?_
            · have R8 := (R7.far (p := ⟨w.heap.size + 1, 0, none⟩) (by show w.heap.size ≠ w.heap.size + 1; omega) (.slice B0 m0 d0)).far (p := ⟨w.heap.size + 1, 1, none⟩) (by show w.heap.size ≠ w.heap.size + 1; omega) (.slice B1 m1 d1)
              have D8 := (D7.put 0 (.slice B0 m0 d0)).put 1 (.slice B1 m1 d1)
              have P8 := (P7.far (p := ⟨w.heap.size + 1, 0, none⟩) (by show pb ≠ w.heap.size + 1; omega) (.slice B0 m0 d0)).far (p := ⟨w.heap.size + 1, 1, none⟩) (by show pb ≠ w.heap.size + 1; omega) (.slice B1 m1 d1)
              have X8 := (firm_Dk (w.heap.size + 2)).at ((firm_Dk (w.heap.size + 2)).at X7 (Alike.put w7 (p := ⟨w.heap.size + 1, 0, none⟩) (Nat.lt_succ_self _) (.slice B0 m0 d0)) (by simp [World.setCell])) (Alike.put _ (p := ⟨w.heap.size + 1, 1, none⟩) (Nat.lt_succ_self _) (.slice B1 m1 d1)) (by simp [World.setCell])
              have C8 := curs_put4 (b := w.heap.size + 1) (i := 1) (curs_put4 (b := w.heap.size + 1) (i := 0) hC7 (by omega) (.slice B0 m0 d0)) (by omega) (.slice B1 m1 d1)
              have G8 := gb_far4 (b := w.heap.size + 1) (gb_far4 (b := w.heap.size + 1) G7 (by omega) 0 (.slice B0 m0 d0)) (by omega) 1 (.slice B1 m1 d1)
              go_simp
              refine hK.out _ _ (by exact ⟨P8.cell 0, P8.cell 1, P8.cell 2, P8.cell 3⟩) (fun hHeld => ?_)
              clear hK K
              (try simp only [Act.put, qa_, qb_, qc_])
              refine wpAnyH_done (by kernel_rfl) ?_ _
              go_wp2
              go_roundw
              case rel => exact ⟨i + 1, p7, B0, m0, d0, B1, m1, d1, by omega, by go_num, R8, D8, X8, hok7, C8, G8⟩
              case measure => simp [valI4]; omega
            exact AllReadyH.nil
          exact AllReadyH.nil
        exact AllReadyH.nil
      exact AllReadyH.nil
    · obtain rfl : i = N := by omega
      have hz := (dkOk_sz hok).1
      go_wp2_with fail
      refine (s_DeskOwnG (dkX_R hX) (by omega)).mono ?_
      rintro e w5 ⟨v0, v1, F0, FD, K, rfl, GO, OD, hN5, hlt5, hK, hKw, hb5⟩
      have R5 := R.below hb5 R.size
      have hC5 := hC.below hb5 hC.size
      have G5 := gb_bel4 hG hb5
      obtain ⟨B0, m0, d0, rfl, hm0⟩ := GO.shapeN
      subst hm0
      obtain ⟨v1', e1, OO, rfl⟩ := OD
      simp only [List.cons.injEq, and_true] at e1
      subst e1
      obtain ⟨B1, d1, rfl, -⟩ := OO.shape
      have OO := OO.raise (base' := w.heap.size + 1) (fun b hb => by have := hN5.2 b (toList_some.2 hb); omega)
      have hlt5 : ∀ b, (Value.slice B1 p.2.length d1).ownBlock = some b → b < K := fun b hb => hlt5 b (toList_some.2 hb)
      obtain ⟨m0, hm0⟩ : ∃ m, p.1.length = m := ⟨_, rfl⟩
      obtain ⟨m1, hm1⟩ : ∃ m, p.2.length = m := ⟨_, rfl⟩
      have M0 := Lib.hid hm0
      have M1 := Lib.hid hm1
      rw [hm0] at GO ⊢
      rw [hm1] at OO hlt5 ⊢
      have r0 := R5.cell 0
      have r1 := R5.cell 1
      have f0 := R5.frozen 0
      have f1 := R5.frozen 1
      have hgW := gb_far4 (gb_far4 G5 (Nat.le_refl _) 0 (.slice B0 m0 d0)) (Nat.le_refl _) 1 (.slice B1 m1 d1)
      clear hm0 hm1 dd0 dd1
      go_wp2
      have RR := (R5.put 0 (.slice B0 m0 d0)).put 1 (.slice B1 m1 d1)
      have e0 := RR.cell 0
      have e1 := RR.cell 1
      have GO2 := (GO.put (p := ⟨w.heap.size, 0, none⟩) (by show w.heap.size < K; omega) (.slice B0 m0 d0)).put (p := ⟨w.heap.size, 1, none⟩) (by show w.heap.size < K; omega) (.slice B1 m1 d1)
      have OO2 := putb (b := w.heap.size) (i := 1) (putb (b := w.heap.size) (i := 0) OO (by omega) (.slice B0 m0 d0)) (by omega) (.slice B1 m1 d1)
      refine bodyPost_ret (v := .agg #[.slice B0 m0 d0, .slice B1 m1 d1]) (by simp [results, Tryz.results104, go_sem, e0, e1]) rfl ⟨B0, d0, B1, d1, p, F0, by rw [M0.out, M1.out], by rw [M0.out]; exact GO2.lower (by omega), ?_, by rw [M1.out]; exact OO2.lower (by omega), hok, curs_put4 (curs_put4 hC5 hgs _) hgs _, hgW⟩
      intro b hb e
      rw [M0.out] at hb
      rw [M1.out] at e
      have h1 := (GO.blk b hb).1
      have h2 := hlt5 b e
      omega
def BentD (w w' : World) (g n c : Nat) (A : Option Addr) (l : List Int) (e : Ending) : Prop := ∃ v0 v1 p, e = .returned (.agg #[v0, v1]) ∧ (tDkX w.heap.size).R w' w'.heap.size [v0, v1] p ∧ DkLim p ∧ Curs w' g A n c l ∧ w.grownBy w' (some g)
theorem dk_putb {w : World} {b : Nat} {cs : List Value} {p : DDesk} (h : (tDkX (b + 1)).R w w.heap.size cs p) (i : Nat) (u : Value) : (tDkX (b + 1)).R (w.setCell ⟨b, i, none⟩ u) (w.setCell ⟨b, i, none⟩ u).heap.size cs p := (firm_Dk (b + 1)).at h (Alike.put w (p := ⟨b, i, none⟩) (Nat.lt_succ_self _) u) (by simp [World.setCell])
set_option maxHeartbeats 3000000 in
theorem k_bentDesk {w : World} {g n c : Nat} {A : Option Addr} {l : List Int} (h : Curs w g A n c l) :
    Calls Tryz.prog 63 #[.pointer (some ⟨g, 0, none⟩)] w fun e w' => BentD w w' g n c A l e := by
  obtain ⟨i0, hi0, hz0, hz1, hz2⟩ := info_parts info_ci
  obtain ⟨i1, hj0, hj1, hj2, hj3⟩ := info_parts info_Whole
  have tz : (Value.agg #[Value.int .i64 0, Value.int .i64 0, Value.int .i64 0, Value.slice none 0 0]).cells.size = 4 := by first | rfl | (simp [Value.cells]; done)
  have hgs := h.size
  have hrg : some w.heap.size ≠ some g := fun e => by injection e with e; omega
  go_enter Tryz.func63, Tryz.ntmps63
  go_wp2_with fail
  refine (k_desk (h.alloc (.cells #[.slice none 0 0, .slice none 0 0] 33))).mono ?_
  rintro e w1 ⟨A0, c0, A1, c1, p, F2, rfl, hG1, hap, hO1, hok, hC1, hGw1⟩
  have hlim := dkOk_lim hok
  obtain ⟨n0, hn0⟩ : ∃ m, p.1.length = m := ⟨_, rfl⟩
  obtain ⟨n1, hn1⟩ : ∃ m, p.2.length = m := ⟨_, rfl⟩
  have N0 := Lib.hid hn0
  have N1 := Lib.hid hn1
  have l0 : p.1.length ≤ 6 := hlim.1
  have l1 : p.2.length ≤ 256 := hlim.2.1
  have q0 : n0 ≤ 6 := by omega
  have q1 : n1 ≤ 256 := by omega
  rw [hn0] at hG1 hap ⊢
  rw [hn1] at hO1 hap ⊢
  clear hn0 hn1 hok
  simp only [World.size_alloc] at hG1 hO1
  have R1 : Box w1 w.heap.size 33 #[.slice none 0 0, .slice none 0 0] := (Box.new w _ _).grown hGw1 hrg
  have hGw1' : w.grownBy w1 (some g) := gb_trans (gb_alloc (gb_self w g) _) hGw1
  have z1 := hGw1.size
  simp only [World.size_alloc] at z1
  obtain ⟨pb, hpb⟩ : ∃ pb, w1.heap.size = pb := ⟨_, rfl⟩
  have zw : w.heap.size < pb := by rw [← hpb]; omega
  have hpg : some pb ≠ some g := fun e => by injection e with e; omega
  have hGlt : ∀ b, Blk (.slice A0 n0 c0) F2 b → b < pb := fun b hb => by rw [← hpb]; exact (hG1.blk b hb).2
  have hOlt : ∀ b, (Value.slice A1 n1 c1).ownBlock = some b → b < pb := fun b hb => by rw [← hpb]; exact (hO1.block hb).2
  have B2 : Box (w1.alloc (.cells #[.slice A0 n0 c0, .slice A1 n1 c1] 33)) pb 33 #[.slice A0 n0 c0, .slice A1 n1 c1] := by rw [← hpb]; exact Box.new _ _ _
  go_wp2_with fail
  refine (k_Once (w1.alloc (.cells #[.slice A0 n0 c0, .slice A1 n1 c1] 33)) 7 (hC1.alloc _) (gb_self _ g) (by omega) (by omega)).mono ?_
  rintro e w3 ⟨b, rfl, hC3, hG3⟩
  have B3 := B2.grown hG3 hpg
  have R3 := (R1.alloc _).grown hG3 hrg
  have O3 := own_draw4 (hO1.alloc _) hG3 (by omega)
  have G3 := (hG1.below (show Below w1.heap.size w1 (w1.alloc (.cells #[.slice A0 n0 c0, .slice A1 n1 c1] 33)) from (belx))).past hG3 (fun b hb hx => by injection hb with hb; have := (hG1.blk b hx).1; omega)
  have hGw3 := gb_trans (gb_alloc hGw1' _) hG3
  have z3 := hG3.size
  simp only [World.size_alloc] at z3
  have zp : pb < w3.heap.size := by omega
  rw [hpb] at *
  clear hpb hG1 hO1 hC1 hGw1 hGw1' R1 B2 hG3
  cases b with
  | false =>
    have y0 := B3.cell 0; have y1 := B3.cell 1; have r0 := R3.cell 0; have r1 := R3.cell 1; have f0 := R3.frozen 0; have f1 := R3.frozen 1
    go_wp2
    have RR := (R3.put 0 (.slice A0 n0 c0)).put 1 (.slice A1 n1 c1)
    have e0 := RR.cell 0; have e1 := RR.cell 1
    refine bodyPost_ret (v := .agg #[.slice A0 n0 c0, .slice A1 n1 c1]) (by simp [results, Tryz.results63, go_sem, e0, e1]) rfl ⟨_, _, p, rfl, dkX_low (dk_putb (dk_putb (show (tDkX (w.heap.size + 1)).R _ _ [_, _] p from makeDkX (rowX_growW G3 (Nat.le_refl _)) (slX_own O3 (Nat.le_refl _))) 0 _) 1 _) (Nat.le_succ _), ⟨by omega, by omega, by omega⟩, curs_put4 (curs_put4 hC3 hgs _) hgs _, gb_far4 (gb_far4 hGw3 (Nat.le_refl _) 0 _) (Nat.le_refl _) 1 _⟩
  | true =>
    go_wp2_with fail
    refine (k_Below w3 3 hC3 (gb_self w3 g) (by omega) (by omega)).mono ?_
    rintro e wd ⟨x, rfl, hx0, hx1, hC, hGd⟩
    have Bp := B3.grown hGd hpg
    have Br := R3.grown hGd hrg
    have hO := own_draw4 O3 hGd (by omega)
    have hGr := G3.past hGd (fun b hb hx => by injection hb with hb; have := (G3.blk b hx).1; omega)
    have hGw := gb_trans hGw3 hGd
    have zd := hGd.size
    have yd0 := Bp.cell 0; have yd1 := Bp.cell 1
    have zpd : pb < wd.heap.size := Bp.size
    clear B3 R3 O3 G3 hC3 hGw3 hGd
    have hx : x = 0 ∨ x = 1 ∨ x = 2 := by omega
    clear hx0 hx1
    rcases hx with rfl | rfl | rfl
    · go_wp2_with fail
      refine wp_region_held_drew (S := (fun _ => True)) (by kernel_rfl) (by trivial) (fun hHeld => ?_)
      refine wpAnyH_take (i := 0) (oi := ⟨some 23, _, _, _, _, _⟩) (v := ?v13) rfl (by kernel_rfl) (by kernel_rfl) (by kernel_rfl) (fun _ _ _ h => h) (Or.inl ⟨by rfl, ?hy13⟩) (by assumption) ?_
      case hy13 => (intro w hSw; (try dsimp only at hSw); go_simp; try (with_reducible rfl))
      (try simp only [Act.put, qa_, qb_, qc_])
      refine wpAnyH_take (i := 2) (oi := ⟨some 25, _, _, _, _, _⟩) (v := ?v14) rfl (by kernel_rfl) (by kernel_rfl) (by kernel_rfl) (fun _ _ _ h => h) (Or.inl ⟨by rfl, ?hy14⟩) (by assumption) ?_
      case hy14 => (intro w hSw; (try dsimp only at hSw); go_simp; try (with_reducible rfl))
      (try simp only [Act.put, qa_, qb_, qc_])
      refine wpAnyH_ready (rs := [1, 3]) (by kernel_rfl) (by simp) ?_
      refine AllReadyH.cons rfl (fun K hK => ?_) ?_
      · go_simp
        refine hK.out _ _ (by trivial) (fun hHeld => ?_)
        clear hK K
        (try simp only [Act.put, qa_, qb_, qc_])
        refine wpAnyH_ready (rs := [3]) (by kernel_rfl) (by simp) ?_
        refine AllReadyH.cons rfl (fun K hK => ?_) ?_
        · go_simp
          refine hK.out _ _ (by trivial) (fun hHeld => ?_)
          clear hK K
          (try simp only [Act.put, qa_, qb_, qc_])
          refine wpAnyH_ready (rs := [4]) (by kernel_rfl) (by simp) ?_
          refine AllReadyH.cons rfl (fun K hK => ?_) ?_
          · go_simp
            go_at_call 64
            have hc3 : ∀ i, i < 3 → ((wd.alloc (.cells #[.int .i64 (-1), .int .i64 3, .int .i64 256] 3)).drew).cell? ⟨wd.heap.size, 0 + i, none⟩ = some (.int .i64 (([-1, 3, 256] : List Int).getD i 0)) := rowcells4 wd 3 [-1, 3, 256]
            have hCd : Curs ((wd.alloc (.cells #[.int .i64 (-1), .int .i64 3, .int .i64 256] 3)).drew) g A n c l := hC.alloc _
            have hzd : wd.heap.size < ((wd.alloc (.cells #[.int .i64 (-1), .int .i64 3, .int .i64 256] 3)).drew).heap.size := by show _ < (World.alloc _ _).heap.size; simp
            refine (k_Pick (L := some ⟨wd.heap.size, 0, none⟩) (m := 3) (d := 3) (zs := [-1, 3, 256]) ((wd.alloc (.cells #[.int .i64 (-1), .int .i64 3, .int .i64 256] 3)).drew) hCd (gb_self _ g) ⟨wd.heap.size, 0, rfl, by omega, hzd, hc3⟩ (by omega) (by omega) rfl).mono ?_
            rintro e w6 ⟨y, rfl, hy, hC6, hG6⟩
            have hG6 : wd.grownBy w6 (some g) := gb_trans (gb_drew (gb_alloc (gb_self wd g) _)) hG6
            have B6 := Bp.grown hG6 hpg
            have R6 := Br.grown hG6 hrg
            have O6 := own_draw4 hO hG6 (by omega)
            have G6 := hGr.past hG6 (fun b hb hx => by injection hb with hb; have := (hGr.blk b hx).1; omega)
            have z6 := hG6.size
            have hGw6 := gb_trans hGw hG6
            have y60 := B6.cell 0; have y61 := B6.cell 1
            have zp6 : pb < w6.heap.size := B6.size
            have hy2 : -1 ≤ y ∧ y ≤ 256 := by simp only [List.mem_cons, List.not_mem_nil, or_false] at hy; omega
            have wy : (Lit.int .i64 y).wf = true := WalkArith.wf_i64 ⟨by omega, by omega⟩
            clear hy
            go_wp2_with fail
            refine hK.out _ _ (by trivial) (fun hHeld => ?_)
            clear hK K
            (try simp only [Act.put, qa_, qb_, qc_])
            refine wpAnyH_ready (rs := [5]) (by kernel_rfl) (by simp) ?_
            refine AllReadyH.cons rfl (fun K hK => ?_) ?_
            · go_simp
              refine hK.out _ _ (by trivial) (fun hHeld => ?_)
              clear hK K
              (try simp only [Act.put, qa_, qb_, qc_])
              refine wpAnyH_ready (rs := [6]) (by kernel_rfl) (by simp) ?_
              refine AllReadyH.cons rfl (fun K hK => ?_) ?_
              · refine step_app5 _ (by rfl) (.tmp 24) (.tmp 28) _ (by rfl) (w.heap.size + 1) 3 i0 _ 1 8 Tryz.underlying23 hi0 hz0 hz1 hz2 rfl (by omega) (.slice A1 n1 c1) _ _ (by rfl) (O6.1.alloc _) _ 1 1 [.int .i64 y] (by rfl) (Src.one _ _ _) (one_int _ _) (by simp only [maxLen]; omega) (by omega) (by simp; omega) ?_
                intro v7 w7 hown hgr hat
                have O7 := own_sn O6 hown rfl wy
                obtain ⟨A7, c7, rfl, -⟩ := O7.shape
                obtain ⟨n7, hn7⟩ : ∃ m, (p.2 ++ [y]).length = m := ⟨_, rfl⟩
                rw [hn7] at O7 hat ⊢
                have N7 := Lib.hid hn7
                clear hn7
                have B7 := Box.grown (B6.alloc _) hgr (fun e => by have := hOlt _ e.symm; omega)
                have R7 := Box.grown (R6.alloc _) hgr (fun e => by have := (O6.block e.symm).1; omega)
                have G7 := (G6.below (show Below w6.heap.size w6 (w6.alloc (.cells #[.int .i64 y] 3)) from (belx))).past hgr (fun b hb hx => hap b hx hb)
                have C7 := curs_new4 hC6 hgr (B := w.heap.size + 1) (by omega) (by omega) (fun r hr => (O6.block hr).1)
                have W7 := gb_new4 hGw6 hgr (fun r hr => by have := (O6.block hr).1; omega)
                have y70 := B7.cell 0; have y71 := B7.cell 1; have f71 := B7.frozen 1
                have z7 := hgr.size
                simp only [World.size_alloc] at z7
                have h7p : ∀ b, (Value.slice A7 n7 c7).ownBlock = some b → b ≠ pb := fun b hb => by
                  rcases hat with h | h
                  · rw [h] at hb; have := hOlt b hb; omega
                  · rw [h] at hb; injection hb with hb; simp only [World.size_alloc] at hb; omega
                refine hK.out _ _ (by trivial) (fun hHeld => ?_)
                clear hK K
                (try simp only [Act.put, qa_, qb_, qc_])
                refine wpAnyH_take (i := 7) (oi := ⟨some 30, _, _, _, _, _⟩) (v := ?v15) rfl (by kernel_rfl) (by kernel_rfl) (by kernel_rfl) (fun _ _ _ h => h) (Or.inl ⟨by rfl, ?hy15⟩) (by assumption) ?_
                case hy15 => (intro w hSw; (try dsimp only at hSw); go_simp; try (with_reducible rfl))
                (try simp only [Act.put, qa_, qb_, qc_])
                refine wpAnyH_ready (rs := [8]) (by kernel_rfl) (by simp) ?_
                refine AllReadyH.cons rfl (fun K hK => ?_) ?_
                · go_simp
                  refine hK.out _ _ (by trivial) (fun hHeld => ?_)
                  clear hK K
                  (try simp only [Act.put, qa_, qb_, qc_])
                  refine wpAnyH_done (by kernel_rfl) ?_ _
                  have B8 := B7.put 1 (.slice A7 n7 c7)
                  have R8 := R7.far (p := ⟨pb, 1, none⟩) (by show w.heap.size ≠ pb; omega) (.slice A7 n7 c7)
                  have G8 := G7.off (b := pb) (i := 1) (fun hb => by have := hGlt _ hb; omega) (.slice A7 n7 c7)
                  have O8 := O7.kept (gb_put (gb_self w7 pb) 1 (.slice A7 n7 c7)) (.inr (fun e => h7p _ e rfl))
                  have y80 := B8.cell 0; have y81 := B8.cell 1; have r80 := R8.cell 0; have r81 := R8.cell 1; have f80 := R8.frozen 0; have f81 := R8.frozen 1
                  go_wp2
                  have RR := (R8.put 0 (.slice A0 n0 c0)).put 1 (.slice A7 n7 c7)
                  have e0 := RR.cell 0; have e1 := RR.cell 1
                  refine bodyPost_ret (v := .agg #[.slice A0 n0 c0, .slice A7 n7 c7]) (by simp [results, Tryz.results63, go_sem, e0, e1]) rfl ⟨_, _, (p.1, p.2 ++ [y]), rfl, dkX_low (dk_putb (dk_putb (show (tDkX (w.heap.size + 1)).R _ _ [_, _] (p.1, p.2 ++ [y]) from makeDkX (rowX_growW G8 (Nat.le_refl _)) (slX_own O8 (Nat.le_refl _))) 0 _) 1 _) (Nat.le_succ _), ⟨by show p.1.length ≤ 7; omega, by show (p.2 ++ [y]).length ≤ 257; rw [List.length_append]; simp; omega, by have h3 := hlim.2.2; unfold szDesk at h3 ⊢; simp; omega⟩, curs_put4 (curs_put4 (curs_put4 C7 (b := pb) (i := 1) (by omega) _) hgs _) hgs _, gb_far4 (gb_far4 (gb_far4 (b := pb) W7 (by omega) 1 _) (Nat.le_refl _) 0 _) (Nat.le_refl _) 1 _⟩
                exact AllReadyH.nil
              exact AllReadyH.nil
            exact AllReadyH.nil
          exact AllReadyH.nil
        exact AllReadyH.nil
      refine AllReadyH.cons rfl (fun K hK => ?_) ?_
      · go_simp
        refine hK.out _ _ (by trivial) (fun hHeld => ?_)
        clear hK K
        (try simp only [Act.put, qa_, qb_, qc_])
        refine wpAnyH_ready (rs := [1, 4]) (by kernel_rfl) (by simp) ?_
        refine AllReadyH.cons rfl (fun K hK => ?_) ?_
        · go_simp
          refine hK.out _ _ (by trivial) (fun hHeld => ?_)
          clear hK K
          (try simp only [Act.put, qa_, qb_, qc_])
          refine wpAnyH_ready (rs := [4]) (by kernel_rfl) (by simp) ?_
          refine AllReadyH.cons rfl (fun K hK => ?_) ?_
          · go_simp
            go_at_call 64
            have hc3 : ∀ i, i < 3 → ((wd.alloc (.cells #[.int .i64 (-1), .int .i64 3, .int .i64 256] 3)).drew).cell? ⟨wd.heap.size, 0 + i, none⟩ = some (.int .i64 (([-1, 3, 256] : List Int).getD i 0)) := rowcells4 wd 3 [-1, 3, 256]
            have hCd : Curs ((wd.alloc (.cells #[.int .i64 (-1), .int .i64 3, .int .i64 256] 3)).drew) g A n c l := hC.alloc _
            have hzd : wd.heap.size < ((wd.alloc (.cells #[.int .i64 (-1), .int .i64 3, .int .i64 256] 3)).drew).heap.size := by show _ < (World.alloc _ _).heap.size; simp
            refine (k_Pick (L := some ⟨wd.heap.size, 0, none⟩) (m := 3) (d := 3) (zs := [-1, 3, 256]) ((wd.alloc (.cells #[.int .i64 (-1), .int .i64 3, .int .i64 256] 3)).drew) hCd (gb_self _ g) ⟨wd.heap.size, 0, rfl, by omega, hzd, hc3⟩ (by omega) (by omega) rfl).mono ?_
            rintro e w6 ⟨y, rfl, hy, hC6, hG6⟩
            have hG6 : wd.grownBy w6 (some g) := gb_trans (gb_drew (gb_alloc (gb_self wd g) _)) hG6
            have B6 := Bp.grown hG6 hpg
            have R6 := Br.grown hG6 hrg
            have O6 := own_draw4 hO hG6 (by omega)
            have G6 := hGr.past hG6 (fun b hb hx => by injection hb with hb; have := (hGr.blk b hx).1; omega)
            have z6 := hG6.size
            have hGw6 := gb_trans hGw hG6
            have y60 := B6.cell 0; have y61 := B6.cell 1
            have zp6 : pb < w6.heap.size := B6.size
            have hy2 : -1 ≤ y ∧ y ≤ 256 := by simp only [List.mem_cons, List.not_mem_nil, or_false] at hy; omega
            have wy : (Lit.int .i64 y).wf = true := WalkArith.wf_i64 ⟨by omega, by omega⟩
            clear hy
            go_wp2_with fail
            refine hK.out _ _ (by trivial) (fun hHeld => ?_)
            clear hK K
            (try simp only [Act.put, qa_, qb_, qc_])
            refine wpAnyH_ready (rs := [5]) (by kernel_rfl) (by simp) ?_
            refine AllReadyH.cons rfl (fun K hK => ?_) ?_
            · go_simp
              refine hK.out _ _ (by trivial) (fun hHeld => ?_)
              clear hK K
              (try simp only [Act.put, qa_, qb_, qc_])
              refine wpAnyH_ready (rs := [6]) (by kernel_rfl) (by simp) ?_
              refine AllReadyH.cons rfl (fun K hK => ?_) ?_
              · refine step_app5 _ (by rfl) (.tmp 24) (.tmp 28) _ (by rfl) (w.heap.size + 1) 3 i0 _ 1 8 Tryz.underlying23 hi0 hz0 hz1 hz2 rfl (by omega) (.slice A1 n1 c1) _ _ (by rfl) (O6.1.alloc _) _ 1 1 [.int .i64 y] (by rfl) (Src.one _ _ _) (one_int _ _) (by simp only [maxLen]; omega) (by omega) (by simp; omega) ?_
                intro v7 w7 hown hgr hat
                have O7 := own_sn O6 hown rfl wy
                obtain ⟨A7, c7, rfl, -⟩ := O7.shape
                obtain ⟨n7, hn7⟩ : ∃ m, (p.2 ++ [y]).length = m := ⟨_, rfl⟩
                rw [hn7] at O7 hat ⊢
                have N7 := Lib.hid hn7
                clear hn7
                have B7 := Box.grown (B6.alloc _) hgr (fun e => by have := hOlt _ e.symm; omega)
                have R7 := Box.grown (R6.alloc _) hgr (fun e => by have := (O6.block e.symm).1; omega)
                have G7 := (G6.below (show Below w6.heap.size w6 (w6.alloc (.cells #[.int .i64 y] 3)) from (belx))).past hgr (fun b hb hx => hap b hx hb)
                have C7 := curs_new4 hC6 hgr (B := w.heap.size + 1) (by omega) (by omega) (fun r hr => (O6.block hr).1)
                have W7 := gb_new4 hGw6 hgr (fun r hr => by have := (O6.block hr).1; omega)
                have y70 := B7.cell 0; have y71 := B7.cell 1; have f71 := B7.frozen 1
                have z7 := hgr.size
                simp only [World.size_alloc] at z7
                have h7p : ∀ b, (Value.slice A7 n7 c7).ownBlock = some b → b ≠ pb := fun b hb => by
                  rcases hat with h | h
                  · rw [h] at hb; have := hOlt b hb; omega
                  · rw [h] at hb; injection hb with hb; simp only [World.size_alloc] at hb; omega
                refine hK.out _ _ (by trivial) (fun hHeld => ?_)
                clear hK K
                (try simp only [Act.put, qa_, qb_, qc_])
                refine wpAnyH_take (i := 7) (oi := ⟨some 30, _, _, _, _, _⟩) (v := ?v16) rfl (by kernel_rfl) (by kernel_rfl) (by kernel_rfl) (fun _ _ _ h => h) (Or.inl ⟨by rfl, ?hy16⟩) (by assumption) ?_
                case hy16 => (intro w hSw; (try dsimp only at hSw); go_simp; try (with_reducible rfl))
                (try simp only [Act.put, qa_, qb_, qc_])
                refine wpAnyH_ready (rs := [8]) (by kernel_rfl) (by simp) ?_
                refine AllReadyH.cons rfl (fun K hK => ?_) ?_
                · go_simp
                  refine hK.out _ _ (by trivial) (fun hHeld => ?_)
                  clear hK K
                  (try simp only [Act.put, qa_, qb_, qc_])
                  refine wpAnyH_done (by kernel_rfl) ?_ _
                  have B8 := B7.put 1 (.slice A7 n7 c7)
                  have R8 := R7.far (p := ⟨pb, 1, none⟩) (by show w.heap.size ≠ pb; omega) (.slice A7 n7 c7)
                  have G8 := G7.off (b := pb) (i := 1) (fun hb => by have := hGlt _ hb; omega) (.slice A7 n7 c7)
                  have O8 := O7.kept (gb_put (gb_self w7 pb) 1 (.slice A7 n7 c7)) (.inr (fun e => h7p _ e rfl))
                  have y80 := B8.cell 0; have y81 := B8.cell 1; have r80 := R8.cell 0; have r81 := R8.cell 1; have f80 := R8.frozen 0; have f81 := R8.frozen 1
                  go_wp2
                  have RR := (R8.put 0 (.slice A0 n0 c0)).put 1 (.slice A7 n7 c7)
                  have e0 := RR.cell 0; have e1 := RR.cell 1
                  refine bodyPost_ret (v := .agg #[.slice A0 n0 c0, .slice A7 n7 c7]) (by simp [results, Tryz.results63, go_sem, e0, e1]) rfl ⟨_, _, (p.1, p.2 ++ [y]), rfl, dkX_low (dk_putb (dk_putb (show (tDkX (w.heap.size + 1)).R _ _ [_, _] (p.1, p.2 ++ [y]) from makeDkX (rowX_growW G8 (Nat.le_refl _)) (slX_own O8 (Nat.le_refl _))) 0 _) 1 _) (Nat.le_succ _), ⟨by show p.1.length ≤ 7; omega, by show (p.2 ++ [y]).length ≤ 257; rw [List.length_append]; simp; omega, by have h3 := hlim.2.2; unfold szDesk at h3 ⊢; simp; omega⟩, curs_put4 (curs_put4 (curs_put4 C7 (b := pb) (i := 1) (by omega) _) hgs _) hgs _, gb_far4 (gb_far4 (gb_far4 (b := pb) W7 (by omega) 1 _) (Nat.le_refl _) 0 _) (Nat.le_refl _) 1 _⟩
                exact AllReadyH.nil
              exact AllReadyH.nil
            exact AllReadyH.nil
          exact AllReadyH.nil
        refine AllReadyH.cons rfl (fun K hK => ?_) ?_
        · go_simp
          go_at_call 64
          have hc3 : ∀ i, i < 3 → ((wd.alloc (.cells #[.int .i64 (-1), .int .i64 3, .int .i64 256] 3)).drew).cell? ⟨wd.heap.size, 0 + i, none⟩ = some (.int .i64 (([-1, 3, 256] : List Int).getD i 0)) := rowcells4 wd 3 [-1, 3, 256]
          have hCd : Curs ((wd.alloc (.cells #[.int .i64 (-1), .int .i64 3, .int .i64 256] 3)).drew) g A n c l := hC.alloc _
          have hzd : wd.heap.size < ((wd.alloc (.cells #[.int .i64 (-1), .int .i64 3, .int .i64 256] 3)).drew).heap.size := by show _ < (World.alloc _ _).heap.size; simp
          refine (k_Pick (L := some ⟨wd.heap.size, 0, none⟩) (m := 3) (d := 3) (zs := [-1, 3, 256]) ((wd.alloc (.cells #[.int .i64 (-1), .int .i64 3, .int .i64 256] 3)).drew) hCd (gb_self _ g) ⟨wd.heap.size, 0, rfl, by omega, hzd, hc3⟩ (by omega) (by omega) rfl).mono ?_
          rintro e w6 ⟨y, rfl, hy, hC6, hG6⟩
          have hG6 : wd.grownBy w6 (some g) := gb_trans (gb_drew (gb_alloc (gb_self wd g) _)) hG6
          have B6 := Bp.grown hG6 hpg
          have R6 := Br.grown hG6 hrg
          have O6 := own_draw4 hO hG6 (by omega)
          have G6 := hGr.past hG6 (fun b hb hx => by injection hb with hb; have := (hGr.blk b hx).1; omega)
          have z6 := hG6.size
          have hGw6 := gb_trans hGw hG6
          have y60 := B6.cell 0; have y61 := B6.cell 1
          have zp6 : pb < w6.heap.size := B6.size
          have hy2 : -1 ≤ y ∧ y ≤ 256 := by simp only [List.mem_cons, List.not_mem_nil, or_false] at hy; omega
          have wy : (Lit.int .i64 y).wf = true := WalkArith.wf_i64 ⟨by omega, by omega⟩
          clear hy
          go_wp2_with fail
          refine hK.out _ _ (by trivial) (fun hHeld => ?_)
          clear hK K
          (try simp only [Act.put, qa_, qb_, qc_])
          refine wpAnyH_ready (rs := [1, 5]) (by kernel_rfl) (by simp) ?_
          refine AllReadyH.cons rfl (fun K hK => ?_) ?_
          · go_simp
            refine hK.out _ _ (by trivial) (fun hHeld => ?_)
            clear hK K
            (try simp only [Act.put, qa_, qb_, qc_])
            refine wpAnyH_ready (rs := [5]) (by kernel_rfl) (by simp) ?_
            refine AllReadyH.cons rfl (fun K hK => ?_) ?_
            · go_simp
              refine hK.out _ _ (by trivial) (fun hHeld => ?_)
              clear hK K
              (try simp only [Act.put, qa_, qb_, qc_])
              refine wpAnyH_ready (rs := [6]) (by kernel_rfl) (by simp) ?_
              refine AllReadyH.cons rfl (fun K hK => ?_) ?_
              · refine step_app5 _ (by rfl) (.tmp 24) (.tmp 28) _ (by rfl) (w.heap.size + 1) 3 i0 _ 1 8 Tryz.underlying23 hi0 hz0 hz1 hz2 rfl (by omega) (.slice A1 n1 c1) _ _ (by rfl) (O6.1.alloc _) _ 1 1 [.int .i64 y] (by rfl) (Src.one _ _ _) (one_int _ _) (by simp only [maxLen]; omega) (by omega) (by simp; omega) ?_
                intro v7 w7 hown hgr hat
                have O7 := own_sn O6 hown rfl wy
                obtain ⟨A7, c7, rfl, -⟩ := O7.shape
                obtain ⟨n7, hn7⟩ : ∃ m, (p.2 ++ [y]).length = m := ⟨_, rfl⟩
                rw [hn7] at O7 hat ⊢
                have N7 := Lib.hid hn7
                clear hn7
                have B7 := Box.grown (B6.alloc _) hgr (fun e => by have := hOlt _ e.symm; omega)
                have R7 := Box.grown (R6.alloc _) hgr (fun e => by have := (O6.block e.symm).1; omega)
                have G7 := (G6.below (show Below w6.heap.size w6 (w6.alloc (.cells #[.int .i64 y] 3)) from (belx))).past hgr (fun b hb hx => hap b hx hb)
                have C7 := curs_new4 hC6 hgr (B := w.heap.size + 1) (by omega) (by omega) (fun r hr => (O6.block hr).1)
                have W7 := gb_new4 hGw6 hgr (fun r hr => by have := (O6.block hr).1; omega)
                have y70 := B7.cell 0; have y71 := B7.cell 1; have f71 := B7.frozen 1
                have z7 := hgr.size
                simp only [World.size_alloc] at z7
                have h7p : ∀ b, (Value.slice A7 n7 c7).ownBlock = some b → b ≠ pb := fun b hb => by
                  rcases hat with h | h
                  · rw [h] at hb; have := hOlt b hb; omega
                  · rw [h] at hb; injection hb with hb; simp only [World.size_alloc] at hb; omega
                refine hK.out _ _ (by trivial) (fun hHeld => ?_)
                clear hK K
                (try simp only [Act.put, qa_, qb_, qc_])
                refine wpAnyH_take (i := 7) (oi := ⟨some 30, _, _, _, _, _⟩) (v := ?v17) rfl (by kernel_rfl) (by kernel_rfl) (by kernel_rfl) (fun _ _ _ h => h) (Or.inl ⟨by rfl, ?hy17⟩) (by assumption) ?_
                case hy17 => (intro w hSw; (try dsimp only at hSw); go_simp; try (with_reducible rfl))
                (try simp only [Act.put, qa_, qb_, qc_])
                refine wpAnyH_ready (rs := [8]) (by kernel_rfl) (by simp) ?_
                refine AllReadyH.cons rfl (fun K hK => ?_) ?_
                · go_simp
                  refine hK.out _ _ (by trivial) (fun hHeld => ?_)
                  clear hK K
                  (try simp only [Act.put, qa_, qb_, qc_])
                  refine wpAnyH_done (by kernel_rfl) ?_ _
                  have B8 := B7.put 1 (.slice A7 n7 c7)
                  have R8 := R7.far (p := ⟨pb, 1, none⟩) (by show w.heap.size ≠ pb; omega) (.slice A7 n7 c7)
                  have G8 := G7.off (b := pb) (i := 1) (fun hb => by have := hGlt _ hb; omega) (.slice A7 n7 c7)
                  have O8 := O7.kept (gb_put (gb_self w7 pb) 1 (.slice A7 n7 c7)) (.inr (fun e => h7p _ e rfl))
                  have y80 := B8.cell 0; have y81 := B8.cell 1; have r80 := R8.cell 0; have r81 := R8.cell 1; have f80 := R8.frozen 0; have f81 := R8.frozen 1
                  go_wp2
                  have RR := (R8.put 0 (.slice A0 n0 c0)).put 1 (.slice A7 n7 c7)
                  have e0 := RR.cell 0; have e1 := RR.cell 1
                  refine bodyPost_ret (v := .agg #[.slice A0 n0 c0, .slice A7 n7 c7]) (by simp [results, Tryz.results63, go_sem, e0, e1]) rfl ⟨_, _, (p.1, p.2 ++ [y]), rfl, dkX_low (dk_putb (dk_putb (show (tDkX (w.heap.size + 1)).R _ _ [_, _] (p.1, p.2 ++ [y]) from makeDkX (rowX_growW G8 (Nat.le_refl _)) (slX_own O8 (Nat.le_refl _))) 0 _) 1 _) (Nat.le_succ _), ⟨by show p.1.length ≤ 7; omega, by show (p.2 ++ [y]).length ≤ 257; rw [List.length_append]; simp; omega, by have h3 := hlim.2.2; unfold szDesk at h3 ⊢; simp; omega⟩, curs_put4 (curs_put4 (curs_put4 C7 (b := pb) (i := 1) (by omega) _) hgs _) hgs _, gb_far4 (gb_far4 (gb_far4 (b := pb) W7 (by omega) 1 _) (Nat.le_refl _) 0 _) (Nat.le_refl _) 1 _⟩
                exact AllReadyH.nil
              exact AllReadyH.nil
            exact AllReadyH.nil
          refine AllReadyH.cons rfl (fun K hK => ?_) ?_
          · go_simp
            refine hK.out _ _ (by trivial) (fun hHeld => ?_)
            clear hK K
            (try simp only [Act.put, qa_, qb_, qc_])
            refine wpAnyH_ready (rs := [1]) (by kernel_rfl) (by simp) ?_
            refine AllReadyH.cons rfl (fun K hK => ?_) ?_
            · go_simp
              refine hK.out _ _ (by trivial) (fun hHeld => ?_)
              clear hK K
              (try simp only [Act.put, qa_, qb_, qc_])
              refine wpAnyH_ready (rs := [6]) (by kernel_rfl) (by simp) ?_
              refine AllReadyH.cons rfl (fun K hK => ?_) ?_
              · refine step_app5 _ (by rfl) (.tmp 24) (.tmp 28) _ (by rfl) (w.heap.size + 1) 3 i0 _ 1 8 Tryz.underlying23 hi0 hz0 hz1 hz2 rfl (by omega) (.slice A1 n1 c1) _ _ (by rfl) (O6.1.alloc _) _ 1 1 [.int .i64 y] (by rfl) (Src.one _ _ _) (one_int _ _) (by simp only [maxLen]; omega) (by omega) (by simp; omega) ?_
                intro v7 w7 hown hgr hat
                have O7 := own_sn O6 hown rfl wy
                obtain ⟨A7, c7, rfl, -⟩ := O7.shape
                obtain ⟨n7, hn7⟩ : ∃ m, (p.2 ++ [y]).length = m := ⟨_, rfl⟩
                rw [hn7] at O7 hat ⊢
                have N7 := Lib.hid hn7
                clear hn7
                have B7 := Box.grown (B6.alloc _) hgr (fun e => by have := hOlt _ e.symm; omega)
                have R7 := Box.grown (R6.alloc _) hgr (fun e => by have := (O6.block e.symm).1; omega)
                have G7 := (G6.below (show Below w6.heap.size w6 (w6.alloc (.cells #[.int .i64 y] 3)) from (belx))).past hgr (fun b hb hx => hap b hx hb)
                have C7 := curs_new4 hC6 hgr (B := w.heap.size + 1) (by omega) (by omega) (fun r hr => (O6.block hr).1)
                have W7 := gb_new4 hGw6 hgr (fun r hr => by have := (O6.block hr).1; omega)
                have y70 := B7.cell 0; have y71 := B7.cell 1; have f71 := B7.frozen 1
                have z7 := hgr.size
                simp only [World.size_alloc] at z7
                have h7p : ∀ b, (Value.slice A7 n7 c7).ownBlock = some b → b ≠ pb := fun b hb => by
                  rcases hat with h | h
                  · rw [h] at hb; have := hOlt b hb; omega
                  · rw [h] at hb; injection hb with hb; simp only [World.size_alloc] at hb; omega
                refine hK.out _ _ (by trivial) (fun hHeld => ?_)
                clear hK K
                (try simp only [Act.put, qa_, qb_, qc_])
                refine wpAnyH_take (i := 7) (oi := ⟨some 30, _, _, _, _, _⟩) (v := ?v18) rfl (by kernel_rfl) (by kernel_rfl) (by kernel_rfl) (fun _ _ _ h => h) (Or.inl ⟨by rfl, ?hy18⟩) (by assumption) ?_
                case hy18 => (intro w hSw; (try dsimp only at hSw); go_simp; try (with_reducible rfl))
                (try simp only [Act.put, qa_, qb_, qc_])
                refine wpAnyH_ready (rs := [8]) (by kernel_rfl) (by simp) ?_
                refine AllReadyH.cons rfl (fun K hK => ?_) ?_
                · go_simp
                  refine hK.out _ _ (by trivial) (fun hHeld => ?_)
                  clear hK K
                  (try simp only [Act.put, qa_, qb_, qc_])
                  refine wpAnyH_done (by kernel_rfl) ?_ _
                  have B8 := B7.put 1 (.slice A7 n7 c7)
                  have R8 := R7.far (p := ⟨pb, 1, none⟩) (by show w.heap.size ≠ pb; omega) (.slice A7 n7 c7)
                  have G8 := G7.off (b := pb) (i := 1) (fun hb => by have := hGlt _ hb; omega) (.slice A7 n7 c7)
                  have O8 := O7.kept (gb_put (gb_self w7 pb) 1 (.slice A7 n7 c7)) (.inr (fun e => h7p _ e rfl))
                  have y80 := B8.cell 0; have y81 := B8.cell 1; have r80 := R8.cell 0; have r81 := R8.cell 1; have f80 := R8.frozen 0; have f81 := R8.frozen 1
                  go_wp2
                  have RR := (R8.put 0 (.slice A0 n0 c0)).put 1 (.slice A7 n7 c7)
                  have e0 := RR.cell 0; have e1 := RR.cell 1
                  refine bodyPost_ret (v := .agg #[.slice A0 n0 c0, .slice A7 n7 c7]) (by simp [results, Tryz.results63, go_sem, e0, e1]) rfl ⟨_, _, (p.1, p.2 ++ [y]), rfl, dkX_low (dk_putb (dk_putb (show (tDkX (w.heap.size + 1)).R _ _ [_, _] (p.1, p.2 ++ [y]) from makeDkX (rowX_growW G8 (Nat.le_refl _)) (slX_own O8 (Nat.le_refl _))) 0 _) 1 _) (Nat.le_succ _), ⟨by show p.1.length ≤ 7; omega, by show (p.2 ++ [y]).length ≤ 257; rw [List.length_append]; simp; omega, by have h3 := hlim.2.2; unfold szDesk at h3 ⊢; simp; omega⟩, curs_put4 (curs_put4 (curs_put4 C7 (b := pb) (i := 1) (by omega) _) hgs _) hgs _, gb_far4 (gb_far4 (gb_far4 (b := pb) W7 (by omega) 1 _) (Nat.le_refl _) 0 _) (Nat.le_refl _) 1 _⟩
                exact AllReadyH.nil
              exact AllReadyH.nil
            exact AllReadyH.nil
          exact AllReadyH.nil
        exact AllReadyH.nil
      exact AllReadyH.nil
    · go_wp2_with fail
      refine wp_region_held_drew (S := (fun _ => True)) (by kernel_rfl) (by trivial) (fun hHeld => ?_)
      refine wpAnyH_take (i := 0) (oi := ⟨some 33, _, _, _, _, _⟩) (v := ?v19) rfl (by kernel_rfl) (by kernel_rfl) (by kernel_rfl) (fun _ _ _ h => h) (Or.inl ⟨by rfl, ?hy19⟩) (by assumption) ?_
      case hy19 => (intro w hSw; (try dsimp only at hSw); go_simp; try (with_reducible rfl))
      (try simp only [Act.put, qa_, qb_, qc_])
      refine wpAnyH_take (i := 2) (oi := ⟨some 35, _, _, _, _, _⟩) (v := ?v20) rfl (by kernel_rfl) (by kernel_rfl) (by kernel_rfl) (fun _ _ _ h => h) (Or.inl ⟨by rfl, ?hy20⟩) (by assumption) ?_
      case hy20 => (intro w hSw; (try dsimp only at hSw); go_simp; try (with_reducible rfl))
      (try simp only [Act.put, qa_, qb_, qc_])
      refine wpAnyH_ready (rs := [1, 3]) (by kernel_rfl) (by simp) ?_
      refine AllReadyH.cons rfl (fun K hK => ?_) ?_
      · go_simp
        refine hK.out _ _ (by trivial) (fun hHeld => ?_)
        clear hK K
        (try simp only [Act.put, qa_, qb_, qc_])
        refine wpAnyH_ready (rs := [3]) (by kernel_rfl) (by simp) ?_
        refine AllReadyH.cons rfl (fun K hK => ?_) ?_
        · go_simp
          go_at_call 105
          refine (k_Below wd 5 (show Curs wd.drew g A n c l from hC) (gb_drew (gb_self wd g)) (by omega) (by omega)).mono ?_
          rintro e w6 ⟨y, rfl, hy0, hy1, hC6, hG6⟩
          have B6 := Bp.grown hG6 hpg
          have R6 := Br.grown hG6 hrg
          have O6 := own_draw4 hO hG6 (by omega)
          have G6 := hGr.past hG6 (fun b hb hx => by injection hb with hb; have := (hGr.blk b hx).1; omega)
          have z6 := hG6.size
          have hGw6 := gb_trans hGw hG6
          have y60 := B6.cell 0; have y61 := B6.cell 1
          have zp6 : pb < w6.heap.size := B6.size
          have hy2 : -1 ≤ y ∧ y ≤ 8 := by omega
          have wy : (Lit.int .i64 y).wf = true := WalkArith.wf_i64 ⟨by omega, by omega⟩
          go_wp2_with fail
          refine hK.out _ _ (by trivial) (fun hHeld => ?_)
          clear hK K
          (try simp only [Act.put, qa_, qb_, qc_])
          refine wpAnyH_take (i := 4) (oi := ⟨some 37, _, _, _, _, _⟩) (v := ?v21) rfl (by kernel_rfl) (by kernel_rfl) (by kernel_rfl) (fun _ _ _ h => h) (Or.inl ⟨by rfl, ?hy21⟩) (by assumption) ?_
          case hy21 => (intro w hSw; (try dsimp only at hSw); go_simp; try (with_reducible rfl))
          (try simp only [Act.put, qa_, qb_, qc_])
          refine wpAnyH_ready (rs := [5]) (by kernel_rfl) (by simp) ?_
          refine AllReadyH.cons rfl (fun K hK => ?_) ?_
          · go_simp
            refine hK.out _ _ (by trivial) (fun hHeld => ?_)
            clear hK K
            (try simp only [Act.put, qa_, qb_, qc_])
            refine wpAnyH_ready (rs := [6]) (by kernel_rfl) (by simp) ?_
            refine AllReadyH.cons rfl (fun K hK => ?_) ?_
            · refine GrowO.step (by rfl) (.tmp 34) (.tmp 38) _ (by rfl) i1 _ 4 48 Tryz.underlying31 hj0 hj1 hj2 hj3 tz (by omega) rfl (by rfl) (G6.below (show Below w6.heap.size w6 (w6.alloc (.cells #[.int .i64 y, .int .i64 2, .int .i64 0, .slice none 0 0] 53)) from (belx))) w6.heap.size [.int .i64 y, .int .i64 2, .int .i64 0, .slice none 0 0] (y, 2, 0, []) (by rfl) (Box.new w6 53 _) (whN wy (by decide)) (New.nil _) (fun f hf => absurd hf (by simp)) (fun b _ hf => absurd hf (by simp)) (one_whole _ _ _ _ _ _) (by simp; omega) (by simp only [maxLen]; omega) (by omega) ?_
              intro v7 w7 G7 hgr
              obtain ⟨A7, c7, rfl⟩ := G7.shape
              obtain ⟨n7, hn7⟩ : ∃ m, (p.1 ++ [((y, 2, 0, []) : DWhole)]).length = m := ⟨_, rfl⟩
              rw [hn7] at G7 ⊢
              have N7 := Lib.hid hn7
              clear hn7
              have B7 := Box.grown (B6.alloc _) hgr (fun e => by have := hGlt _ (.inl e.symm); omega)
              have R7 := Box.grown (R6.alloc _) hgr (fun e => by have := (G6.blk _ (.inl e.symm)).1; omega)
              have O7 : Own .i64 3 w7 (w.heap.size + 1) (.slice A1 n1 c1) p.2 := (O6.alloc _).kept hgr (by
                cases hv : Value.ownBlock (.slice A0 n0 c0) with
                | none => exact apart_sy4 (.inl rfl)
                | some b => exact .inr (hap b (.inl hv)))
              have C7 := curs_new4 hC6 hgr (B := w.heap.size + 1) (by omega) (by omega) (fun r hr => (G6.blk r (.inl hr)).1)
              have W7 := gb_new4 hGw6 hgr (fun r hr => by have := (G6.blk r (.inl hr)).1; omega)
              have y70 := B7.cell 0; have y71 := B7.cell 1; have f71 := B7.frozen 0
              have z7 := hgr.size
              simp only [World.size_alloc] at z7
              refine hK.out _ _ (by trivial) (fun hHeld => ?_)
              clear hK K
              (try simp only [Act.put, qa_, qb_, qc_])
              refine wpAnyH_take (i := 7) (oi := ⟨some 40, _, _, _, _, _⟩) (v := ?v22) rfl (by kernel_rfl) (by kernel_rfl) (by kernel_rfl) (fun _ _ _ h => h) (Or.inl ⟨by rfl, ?hy22⟩) (by assumption) ?_
              case hy22 => (intro w hSw; (try dsimp only at hSw); go_simp; try (with_reducible rfl))
              (try simp only [Act.put, qa_, qb_, qc_])
              refine wpAnyH_ready (rs := [8]) (by kernel_rfl) (by simp) ?_
              refine AllReadyH.cons rfl (fun K hK => ?_) ?_
              · go_simp
                refine hK.out _ _ (by trivial) (fun hHeld => ?_)
                clear hK K
                (try simp only [Act.put, qa_, qb_, qc_])
                refine wpAnyH_done (by kernel_rfl) ?_ _
                have B8 := B7.put 0 (.slice A7 n7 c7)
                have R8 := R7.far (p := ⟨pb, 0, none⟩) (by show w.heap.size ≠ pb; omega) (.slice A7 n7 c7)
                have G8 := G7.off (b := pb) (i := 0) (fun hb => by rcases hb with hb | hb; exact G7.noBox B7 (by decide) hb; have := hGlt _ (.inr (by simpa using hb)); omega) (.slice A7 n7 c7)
                have O8 := O7.kept (gb_put (gb_self w7 pb) 0 (.slice A7 n7 c7)) (.inr (fun e => by have := hOlt _ e; omega))
                have y80 := B8.cell 0; have y81 := B8.cell 1; have r80 := R8.cell 0; have r81 := R8.cell 1; have f80 := R8.frozen 0; have f81 := R8.frozen 1
                go_wp2
                have RR := (R8.put 0 (.slice A7 n7 c7)).put 1 (.slice A1 n1 c1)
                have e0 := RR.cell 0; have e1 := RR.cell 1
                refine bodyPost_ret (v := .agg #[.slice A7 n7 c7, .slice A1 n1 c1]) (by simp [results, Tryz.results63, go_sem, e0, e1]) rfl ⟨_, _, (p.1 ++ [(y, 2, 0, [])], p.2), rfl, dkX_low (dk_putb (dk_putb (show (tDkX (w.heap.size + 1)).R _ _ [_, _] (p.1 ++ [(y, 2, 0, [])], p.2) from makeDkX (rowX_growW G8 (Nat.le_refl _)) (slX_own O8 (Nat.le_refl _))) 0 _) 1 _) (Nat.le_succ _), ⟨by show (p.1 ++ [_]).length ≤ 7; rw [List.length_append]; simp; omega, by show p.2.length ≤ 257; omega, by have h3 := hlim.2.2; unfold szDesk at h3 ⊢; dsimp only; rw [rsz_put]; have h5 : szWhole (y, 2, 0, []) = 0 := rfl; omega⟩, curs_put4 (curs_put4 (curs_put4 C7 (b := pb) (i := 0) (by omega) _) hgs _) hgs _, gb_far4 (gb_far4 (gb_far4 (b := pb) W7 (by omega) 0 _) (Nat.le_refl _) 0 _) (Nat.le_refl _) 1 _⟩
              exact AllReadyH.nil
            exact AllReadyH.nil
          exact AllReadyH.nil
        exact AllReadyH.nil
      refine AllReadyH.cons rfl (fun K hK => ?_) ?_
      · go_simp
        go_at_call 105
        refine (k_Below wd 5 (show Curs wd.drew g A n c l from hC) (gb_drew (gb_self wd g)) (by omega) (by omega)).mono ?_
        rintro e w6 ⟨y, rfl, hy0, hy1, hC6, hG6⟩
        have B6 := Bp.grown hG6 hpg
        have R6 := Br.grown hG6 hrg
        have O6 := own_draw4 hO hG6 (by omega)
        have G6 := hGr.past hG6 (fun b hb hx => by injection hb with hb; have := (hGr.blk b hx).1; omega)
        have z6 := hG6.size
        have hGw6 := gb_trans hGw hG6
        have y60 := B6.cell 0; have y61 := B6.cell 1
        have zp6 : pb < w6.heap.size := B6.size
        have hy2 : -1 ≤ y ∧ y ≤ 8 := by omega
        have wy : (Lit.int .i64 y).wf = true := WalkArith.wf_i64 ⟨by omega, by omega⟩
        go_wp2_with fail
        refine hK.out _ _ (by trivial) (fun hHeld => ?_)
        clear hK K
        (try simp only [Act.put, qa_, qb_, qc_])
        refine wpAnyH_take (i := 4) (oi := ⟨some 37, _, _, _, _, _⟩) (v := ?v23) rfl (by kernel_rfl) (by kernel_rfl) (by kernel_rfl) (fun _ _ _ h => h) (Or.inl ⟨by rfl, ?hy23⟩) (by assumption) ?_
        case hy23 => (intro w hSw; (try dsimp only at hSw); go_simp; try (with_reducible rfl))
        (try simp only [Act.put, qa_, qb_, qc_])
        refine wpAnyH_ready (rs := [1, 5]) (by kernel_rfl) (by simp) ?_
        refine AllReadyH.cons rfl (fun K hK => ?_) ?_
        · go_simp
          refine hK.out _ _ (by trivial) (fun hHeld => ?_)
          clear hK K
          (try simp only [Act.put, qa_, qb_, qc_])
          refine wpAnyH_ready (rs := [5]) (by kernel_rfl) (by simp) ?_
          refine AllReadyH.cons rfl (fun K hK => ?_) ?_
          · go_simp
            refine hK.out _ _ (by trivial) (fun hHeld => ?_)
            clear hK K
            (try simp only [Act.put, qa_, qb_, qc_])
            refine wpAnyH_ready (rs := [6]) (by kernel_rfl) (by simp) ?_
            refine AllReadyH.cons rfl (fun K hK => ?_) ?_
            · refine GrowO.step (by rfl) (.tmp 34) (.tmp 38) _ (by rfl) i1 _ 4 48 Tryz.underlying31 hj0 hj1 hj2 hj3 tz (by omega) rfl (by rfl) (G6.below (show Below w6.heap.size w6 (w6.alloc (.cells #[.int .i64 y, .int .i64 2, .int .i64 0, .slice none 0 0] 53)) from (belx))) w6.heap.size [.int .i64 y, .int .i64 2, .int .i64 0, .slice none 0 0] (y, 2, 0, []) (by rfl) (Box.new w6 53 _) (whN wy (by decide)) (New.nil _) (fun f hf => absurd hf (by simp)) (fun b _ hf => absurd hf (by simp)) (one_whole _ _ _ _ _ _) (by simp; omega) (by simp only [maxLen]; omega) (by omega) ?_
              intro v7 w7 G7 hgr
              obtain ⟨A7, c7, rfl⟩ := G7.shape
              obtain ⟨n7, hn7⟩ : ∃ m, (p.1 ++ [((y, 2, 0, []) : DWhole)]).length = m := ⟨_, rfl⟩
              rw [hn7] at G7 ⊢
              have N7 := Lib.hid hn7
              clear hn7
              have B7 := Box.grown (B6.alloc _) hgr (fun e => by have := hGlt _ (.inl e.symm); omega)
              have R7 := Box.grown (R6.alloc _) hgr (fun e => by have := (G6.blk _ (.inl e.symm)).1; omega)
              have O7 : Own .i64 3 w7 (w.heap.size + 1) (.slice A1 n1 c1) p.2 := (O6.alloc _).kept hgr (by
                cases hv : Value.ownBlock (.slice A0 n0 c0) with
                | none => exact apart_sy4 (.inl rfl)
                | some b => exact .inr (hap b (.inl hv)))
              have C7 := curs_new4 hC6 hgr (B := w.heap.size + 1) (by omega) (by omega) (fun r hr => (G6.blk r (.inl hr)).1)
              have W7 := gb_new4 hGw6 hgr (fun r hr => by have := (G6.blk r (.inl hr)).1; omega)
              have y70 := B7.cell 0; have y71 := B7.cell 1; have f71 := B7.frozen 0
              have z7 := hgr.size
              simp only [World.size_alloc] at z7
              refine hK.out _ _ (by trivial) (fun hHeld => ?_)
              clear hK K
              (try simp only [Act.put, qa_, qb_, qc_])
              refine wpAnyH_take (i := 7) (oi := ⟨some 40, _, _, _, _, _⟩) (v := ?v24) rfl (by kernel_rfl) (by kernel_rfl) (by kernel_rfl) (fun _ _ _ h => h) (Or.inl ⟨by rfl, ?hy24⟩) (by assumption) ?_
              case hy24 => (intro w hSw; (try dsimp only at hSw); go_simp; try (with_reducible rfl))
              (try simp only [Act.put, qa_, qb_, qc_])
              refine wpAnyH_ready (rs := [8]) (by kernel_rfl) (by simp) ?_
              refine AllReadyH.cons rfl (fun K hK => ?_) ?_
              · go_simp
                refine hK.out _ _ (by trivial) (fun hHeld => ?_)
                clear hK K
                (try simp only [Act.put, qa_, qb_, qc_])
                refine wpAnyH_done (by kernel_rfl) ?_ _
                have B8 := B7.put 0 (.slice A7 n7 c7)
                have R8 := R7.far (p := ⟨pb, 0, none⟩) (by show w.heap.size ≠ pb; omega) (.slice A7 n7 c7)
                have G8 := G7.off (b := pb) (i := 0) (fun hb => by rcases hb with hb | hb; exact G7.noBox B7 (by decide) hb; have := hGlt _ (.inr (by simpa using hb)); omega) (.slice A7 n7 c7)
                have O8 := O7.kept (gb_put (gb_self w7 pb) 0 (.slice A7 n7 c7)) (.inr (fun e => by have := hOlt _ e; omega))
                have y80 := B8.cell 0; have y81 := B8.cell 1; have r80 := R8.cell 0; have r81 := R8.cell 1; have f80 := R8.frozen 0; have f81 := R8.frozen 1
                go_wp2
                have RR := (R8.put 0 (.slice A7 n7 c7)).put 1 (.slice A1 n1 c1)
                have e0 := RR.cell 0; have e1 := RR.cell 1
                refine bodyPost_ret (v := .agg #[.slice A7 n7 c7, .slice A1 n1 c1]) (by simp [results, Tryz.results63, go_sem, e0, e1]) rfl ⟨_, _, (p.1 ++ [(y, 2, 0, [])], p.2), rfl, dkX_low (dk_putb (dk_putb (show (tDkX (w.heap.size + 1)).R _ _ [_, _] (p.1 ++ [(y, 2, 0, [])], p.2) from makeDkX (rowX_growW G8 (Nat.le_refl _)) (slX_own O8 (Nat.le_refl _))) 0 _) 1 _) (Nat.le_succ _), ⟨by show (p.1 ++ [_]).length ≤ 7; rw [List.length_append]; simp; omega, by show p.2.length ≤ 257; omega, by have h3 := hlim.2.2; unfold szDesk at h3 ⊢; dsimp only; rw [rsz_put]; have h5 : szWhole (y, 2, 0, []) = 0 := rfl; omega⟩, curs_put4 (curs_put4 (curs_put4 C7 (b := pb) (i := 0) (by omega) _) hgs _) hgs _, gb_far4 (gb_far4 (gb_far4 (b := pb) W7 (by omega) 0 _) (Nat.le_refl _) 0 _) (Nat.le_refl _) 1 _⟩
              exact AllReadyH.nil
            exact AllReadyH.nil
          exact AllReadyH.nil
        refine AllReadyH.cons rfl (fun K hK => ?_) ?_
        · go_simp
          refine hK.out _ _ (by trivial) (fun hHeld => ?_)
          clear hK K
          (try simp only [Act.put, qa_, qb_, qc_])
          refine wpAnyH_ready (rs := [1]) (by kernel_rfl) (by simp) ?_
          refine AllReadyH.cons rfl (fun K hK => ?_) ?_
          · go_simp
            refine hK.out _ _ (by trivial) (fun hHeld => ?_)
            clear hK K
            (try simp only [Act.put, qa_, qb_, qc_])
            refine wpAnyH_ready (rs := [6]) (by kernel_rfl) (by simp) ?_
            refine AllReadyH.cons rfl (fun K hK => ?_) ?_
            · refine GrowO.step (by rfl) (.tmp 34) (.tmp 38) _ (by rfl) i1 _ 4 48 Tryz.underlying31 hj0 hj1 hj2 hj3 tz (by omega) rfl (by rfl) (G6.below (show Below w6.heap.size w6 (w6.alloc (.cells #[.int .i64 y, .int .i64 2, .int .i64 0, .slice none 0 0] 53)) from (belx))) w6.heap.size [.int .i64 y, .int .i64 2, .int .i64 0, .slice none 0 0] (y, 2, 0, []) (by rfl) (Box.new w6 53 _) (whN wy (by decide)) (New.nil _) (fun f hf => absurd hf (by simp)) (fun b _ hf => absurd hf (by simp)) (one_whole _ _ _ _ _ _) (by simp; omega) (by simp only [maxLen]; omega) (by omega) ?_
              intro v7 w7 G7 hgr
              obtain ⟨A7, c7, rfl⟩ := G7.shape
              obtain ⟨n7, hn7⟩ : ∃ m, (p.1 ++ [((y, 2, 0, []) : DWhole)]).length = m := ⟨_, rfl⟩
              rw [hn7] at G7 ⊢
              have N7 := Lib.hid hn7
              clear hn7
              have B7 := Box.grown (B6.alloc _) hgr (fun e => by have := hGlt _ (.inl e.symm); omega)
              have R7 := Box.grown (R6.alloc _) hgr (fun e => by have := (G6.blk _ (.inl e.symm)).1; omega)
              have O7 : Own .i64 3 w7 (w.heap.size + 1) (.slice A1 n1 c1) p.2 := (O6.alloc _).kept hgr (by
                cases hv : Value.ownBlock (.slice A0 n0 c0) with
                | none => exact apart_sy4 (.inl rfl)
                | some b => exact .inr (hap b (.inl hv)))
              have C7 := curs_new4 hC6 hgr (B := w.heap.size + 1) (by omega) (by omega) (fun r hr => (G6.blk r (.inl hr)).1)
              have W7 := gb_new4 hGw6 hgr (fun r hr => by have := (G6.blk r (.inl hr)).1; omega)
              have y70 := B7.cell 0; have y71 := B7.cell 1; have f71 := B7.frozen 0
              have z7 := hgr.size
              simp only [World.size_alloc] at z7
              refine hK.out _ _ (by trivial) (fun hHeld => ?_)
              clear hK K
              (try simp only [Act.put, qa_, qb_, qc_])
              refine wpAnyH_take (i := 7) (oi := ⟨some 40, _, _, _, _, _⟩) (v := ?v25) rfl (by kernel_rfl) (by kernel_rfl) (by kernel_rfl) (fun _ _ _ h => h) (Or.inl ⟨by rfl, ?hy25⟩) (by assumption) ?_
              case hy25 => (intro w hSw; (try dsimp only at hSw); go_simp; try (with_reducible rfl))
              (try simp only [Act.put, qa_, qb_, qc_])
              refine wpAnyH_ready (rs := [8]) (by kernel_rfl) (by simp) ?_
              refine AllReadyH.cons rfl (fun K hK => ?_) ?_
              · go_simp
                refine hK.out _ _ (by trivial) (fun hHeld => ?_)
                clear hK K
                (try simp only [Act.put, qa_, qb_, qc_])
                refine wpAnyH_done (by kernel_rfl) ?_ _
                have B8 := B7.put 0 (.slice A7 n7 c7)
                have R8 := R7.far (p := ⟨pb, 0, none⟩) (by show w.heap.size ≠ pb; omega) (.slice A7 n7 c7)
                have G8 := G7.off (b := pb) (i := 0) (fun hb => by rcases hb with hb | hb; exact G7.noBox B7 (by decide) hb; have := hGlt _ (.inr (by simpa using hb)); omega) (.slice A7 n7 c7)
                have O8 := O7.kept (gb_put (gb_self w7 pb) 0 (.slice A7 n7 c7)) (.inr (fun e => by have := hOlt _ e; omega))
                have y80 := B8.cell 0; have y81 := B8.cell 1; have r80 := R8.cell 0; have r81 := R8.cell 1; have f80 := R8.frozen 0; have f81 := R8.frozen 1
                go_wp2
                have RR := (R8.put 0 (.slice A7 n7 c7)).put 1 (.slice A1 n1 c1)
                have e0 := RR.cell 0; have e1 := RR.cell 1
                refine bodyPost_ret (v := .agg #[.slice A7 n7 c7, .slice A1 n1 c1]) (by simp [results, Tryz.results63, go_sem, e0, e1]) rfl ⟨_, _, (p.1 ++ [(y, 2, 0, [])], p.2), rfl, dkX_low (dk_putb (dk_putb (show (tDkX (w.heap.size + 1)).R _ _ [_, _] (p.1 ++ [(y, 2, 0, [])], p.2) from makeDkX (rowX_growW G8 (Nat.le_refl _)) (slX_own O8 (Nat.le_refl _))) 0 _) 1 _) (Nat.le_succ _), ⟨by show (p.1 ++ [_]).length ≤ 7; rw [List.length_append]; simp; omega, by show p.2.length ≤ 257; omega, by have h3 := hlim.2.2; unfold szDesk at h3 ⊢; dsimp only; rw [rsz_put]; have h5 : szWhole (y, 2, 0, []) = 0 := rfl; omega⟩, curs_put4 (curs_put4 (curs_put4 C7 (b := pb) (i := 0) (by omega) _) hgs _) hgs _, gb_far4 (gb_far4 (gb_far4 (b := pb) W7 (by omega) 0 _) (Nat.le_refl _) 0 _) (Nat.le_refl _) 1 _⟩
              exact AllReadyH.nil
            exact AllReadyH.nil
          exact AllReadyH.nil
        exact AllReadyH.nil
      exact AllReadyH.nil
    · by_cases hn : n0 = 0
      · subst hn
        have r0 := Br.cell 0; have r1 := Br.cell 1; have f0 := Br.frozen 0; have f1 := Br.frozen 1
        go_wp2
        have RR := (Br.put 0 (.slice A0 0 c0)).put 1 (.slice A1 n1 c1)
        have e0 := RR.cell 0; have e1 := RR.cell 1
        refine bodyPost_ret (v := .agg #[.slice A0 0 c0, .slice A1 n1 c1]) (by simp [results, Tryz.results63, go_sem, e0, e1]) rfl ⟨_, _, p, rfl, dkX_low (dk_putb (dk_putb (show (tDkX (w.heap.size + 1)).R _ _ [_, _] p from makeDkX (rowX_growW hGr (Nat.le_refl _)) (slX_own hO (Nat.le_refl _))) 0 _) 1 _) (Nat.le_succ _), ⟨by omega, by omega, by omega⟩, curs_put4 (curs_put4 hC hgs _) hgs _, gb_far4 (gb_far4 hGw (Nat.le_refl _) 0 _) (Nat.le_refl _) 1 _⟩
      · obtain ⟨A9, c9, F', e9, hOr, hFn, hFb⟩ := hGr.done2
        rw [N0.out] at e9 hOr
        injection e9 with e91 e92 e93
        subst e91 e93
        have hp0 : 0 < p.1.length := by rw [N0.out]; omega
        obtain ⟨a, ha⟩ : ∃ a, p.1[0]? = some a := ⟨_, List.getElem?_eq_getElem hp0⟩
        obtain ⟨gb, off, cur, et, es, Fi, rfl, hg, hcs, hOi, hgF, hgi, hsub, -, hset⟩ := rowO_at (K := 4) hOr hFn ha rfl
        obtain ⟨A3, c3, F3, rfl, rfl, wa0, wa1, -, -, -, hP3⟩ := openOWhole hOi
        simp only [Nat.zero_mul, Nat.add_zero] at hcs hset
        have hgb := hGr.blk gb (hFb gb hgF)
        have hgl := hGlt gb (hFb gb hgF)
        have hi0' : (0 : Int) < (n0 : Int) := by omega
        go_wp2_with fail
        refine wp_region_held_drew (S := (fun _ => True)) (by kernel_rfl) (by trivial) (fun hHeld => ?_)
        refine wpAnyH_take (i := 0) (oi := ⟨some 14, _, _, _, _, _⟩) (v := ?v26) rfl (by kernel_rfl) (by kernel_rfl) (by kernel_rfl) (fun _ _ _ h => h) (Or.inl ⟨by rfl, ?hy26⟩) (by assumption) ?_
        case hy26 => (intro w hSw; (try dsimp only at hSw); go_simp; try (with_reducible rfl))
        (try simp only [Act.put, qa_, qb_, qc_])
        refine wpAnyH_take (i := 2) (oi := ⟨some 16, _, _, _, _, _⟩) (v := ?v27) rfl (by kernel_rfl) (by kernel_rfl) (by kernel_rfl) (fun _ _ _ h => h) (Or.inl ⟨by rfl, ?hy27⟩) (by assumption) ?_
        case hy27 => (intro w hSw; (try dsimp only at hSw); go_simp; try (with_reducible rfl))
        (try simp only [Act.put, qa_, qb_, qc_])
        refine wpAnyH_ready (rs := [1, 3]) (by kernel_rfl) (by simp) ?_
        refine AllReadyH.cons rfl (fun K hK => ?_) ?_
        · go_simp
          refine hK.out _ _ (by trivial) (fun hHeld => ?_)
          clear hK K
          (try simp only [Act.put, qa_, qb_, qc_])
          refine wpAnyH_ready (rs := [3]) (by kernel_rfl) (by simp) ?_
          refine AllReadyH.cons rfl (fun K hK => ?_) ?_
          · go_simp
            refine hK.out _ _ (by trivial) (fun hHeld => ?_)
            clear hK K
            (try simp only [Act.put, qa_, qb_, qc_])
            refine wpAnyH_ready (rs := [4]) (by kernel_rfl) (by simp) ?_
            refine AllReadyH.cons rfl (fun K hK => ?_) ?_
            · go_simp
              go_at_call 64
              have hc3 : ∀ i, i < 2 → ((wd.alloc (.cells #[.int .i64 (-1), .int .i64 65536] 3)).drew).cell? ⟨wd.heap.size, 0 + i, none⟩ = some (.int .i64 (([-1, 65536] : List Int).getD i 0)) := rowcells4 wd 3 [-1, 65536]
              have hCd : Curs ((wd.alloc (.cells #[.int .i64 (-1), .int .i64 65536] 3)).drew) g A n c l := hC.alloc _
              have hzd : wd.heap.size < ((wd.alloc (.cells #[.int .i64 (-1), .int .i64 65536] 3)).drew).heap.size := by show _ < (World.alloc _ _).heap.size; simp
              refine (k_Pick (L := some ⟨wd.heap.size, 0, none⟩) (m := 2) (d := 2) (zs := [-1, 65536]) ((wd.alloc (.cells #[.int .i64 (-1), .int .i64 65536] 3)).drew) hCd (gb_self _ g) ⟨wd.heap.size, 0, rfl, by omega, hzd, hc3⟩ (by omega) (by omega) rfl).mono ?_
              rintro e w6 ⟨y, rfl, hy, hC6, hG6⟩
              have hG6 : wd.grownBy w6 (some g) := gb_trans (gb_drew (gb_alloc (gb_self wd g) _)) hG6
              have B6 := Bp.grown hG6 hpg
              have R6 := Br.grown hG6 hrg
              have O6 := own_draw4 hO hG6 (by omega)
              have G6 := hGr.past hG6 (fun b hb hx => by injection hb with hb; have := (hGr.blk b hx).1; omega)
              have z6 := hG6.size
              have hGw6 := gb_trans hGw hG6
              have y60 := B6.cell 0; have y61 := B6.cell 1
              have zp6 : pb < w6.heap.size := B6.size
              have hy2 : -1 ≤ y ∧ y ≤ 65536 := by simp only [List.mem_cons, List.not_mem_nil, or_false] at hy; omega
              have wy : (Lit.int .i64 y).wf = true := WalkArith.wf_i64 ⟨by omega, by omega⟩
              clear hy
              have hg6 : Box w6 gb et cur := Box.grown (show Box wd gb et cur from hg) hG6 (fun e => by injection e with e; omega)
              have s6 : w6.cell? ⟨gb, off + 2, none⟩ = some (.int .i64 a.2.2.1) := by rw [hg6.cell]; exact hcs 2 (by omega)
              have sf6 := hg6.frozen (off + 2)
              go_wp2_with fail
              refine hK.out _ _ (by trivial) (fun hHeld => ?_)
              clear hK K
              (try simp only [Act.put, qa_, qb_, qc_])
              refine wpAnyH_take (i := 5) (oi := ⟨some 19, _, _, _, _, _⟩) (v := ?v28) rfl (by kernel_rfl) (by kernel_rfl) (by kernel_rfl) (fun _ _ _ h => h) (Or.inl ⟨by rfl, ?hy28⟩) (by assumption) ?_
              case hy28 => (intro w hSw; (try dsimp only at hSw); go_simp; try (with_reducible rfl))
              (try simp only [Act.put, qa_, qb_, qc_])
              refine wpAnyH_take (i := 6) (oi := ⟨some 20, _, _, _, _, _⟩) (v := ?v29) rfl (by kernel_rfl) (by kernel_rfl) (by kernel_rfl) (fun _ _ _ h => h) (Or.inl ⟨by rfl, ?hy29⟩) (by assumption) ?_
              case hy29 => (intro w hSw; (try dsimp only at hSw); go_simp; try (with_reducible rfl))
              (try simp only [Act.put, qa_, qb_, qc_])
              refine wpAnyH_ready (rs := [7]) (by kernel_rfl) (by simp) ?_
              refine AllReadyH.cons rfl (fun K hK => ?_) ?_
              · go_simp
                refine hK.out _ _ (by trivial) (fun hHeld => ?_)
                clear hK K
                (try simp only [Act.put, qa_, qb_, qc_])
                refine wpAnyH_done (by kernel_rfl) ?_ _
                have hwO := tWhole.kept hOi (fun f hf => hG6.block f (tWhole.lt hOi f hf) (fun e => by injection e with e; have := (hGr.blk f (hFb f (hsub f hf))).1; omega))
                have hg7 := hg6.put (off + 2) (.int .i64 y)
                have hO7 : tWhole.row.O (w6.setCell ⟨gb, off + 2, none⟩ (.int .i64 y)) [.slice (some ⟨gb, off, none⟩) n0 c0] (p.1.set 0 (a.1, a.2.1, y, a.2.2.2)) F' := by
                  refine hset _ _ [.int .i64 a.1, .int .i64 a.2.1, .int .i64 y, .slice A3 a.2.2.2.length c3] (a.1, a.2.1, y, a.2.2.2) hg7 (fun j hj => ?_) (fun q hq => ?_) ?_ (fun f hf h1 h2 => ?_)
                  · rcases (by omega : j = 0 ∨ j = 1 ∨ j = 2 ∨ j = 3) with rfl | rfl | rfl | rfl
                    · rw [Array.getElem?_setIfInBounds_ne (by omega)]; exact hcs 0 (by omega)
                    · rw [Array.getElem?_setIfInBounds_ne (by omega)]; exact hcs 1 (by omega)
                    · have h3 := hcs 2 (by omega)
                      have h4 : off + 2 < cur.size := by
                        rcases Nat.lt_or_ge (off + 2) cur.size with h | h
                        · exact h
                        · have h5 : cur[off + 2]? = none := Array.getElem?_eq_none h
                          have h6 : cur[off + 2]? = some (.int .i64 a.2.2.1) := h3
                          rw [h5] at h6; cases h6
                      show (cur.setIfInBounds (off + 2) (.int .i64 y))[off + 2]? = some (.int .i64 y)
                      simp [Array.getElem?_setIfInBounds, h4]
                    · rw [Array.getElem?_setIfInBounds_ne (by omega)]; exact hcs 3 (by omega)
                  · rw [Array.getElem?_setIfInBounds_ne (by have := hq 2 (by omega); omega)]
                  · obtain ⟨Fx, hx, rfl⟩ := makeOWhole (w := w6.setCell ⟨gb, off + 2, none⟩ (.int .i64 y)) (p := (a.1, a.2.1, y, a.2.2.2)) wa0 wa1 wy (Ty.far3 (t := tPiece.row) (tPiece.row.kept hP3 (fun f hf => hG6.block f (tPiece.row.lt hP3 f hf) (fun e => by injection e with e; have := (hGr.blk f (hFb f (hsub f hf))).1; omega))) (p := ⟨gb, off + 2, none⟩) (fun hx => hgi hx) (.int .i64 y))
                    exact hx
                  · refine (Below.heap_setCell w6 _ _ f (by show f ≠ gb; exact h1)).trans (hG6.block f (tWhole.row.lt hOr f hf) (fun e => by injection e with e; have := (hGr.blk f (hFb f hf)).1; omega))
                have B8 := B6.far (p := ⟨gb, off + 2, none⟩) (by show pb ≠ gb; omega) (.int .i64 y)
                have R8 := R6.far (p := ⟨gb, off + 2, none⟩) (by show w.heap.size ≠ gb; omega) (.int .i64 y)
                have O8 := own_awayB (b := gb) (i := off + 2) O6 (hap gb (hFb gb hgF)) (.int .i64 y)
                have y80 := B8.cell 0; have y81 := B8.cell 1; have r80 := R8.cell 0; have r81 := R8.cell 1; have f80 := R8.frozen 0; have f81 := R8.frozen 1
                go_wp2
                have RR := (R8.put 0 (.slice (some ⟨gb, off, none⟩) n0 c0)).put 1 (.slice A1 n1 c1)
                have e0 := RR.cell 0; have e1 := RR.cell 1
                refine bodyPost_ret (v := .agg #[.slice (some ⟨gb, off, none⟩) n0 c0, .slice A1 n1 c1]) (by simp [results, Tryz.results63, go_sem, e0, e1]) rfl ⟨_, _, (p.1.set 0 (a.1, a.2.1, y, a.2.2.2), p.2), rfl, dkX_low (dk_putb (dk_putb (show (tDkX (w.heap.size + 1)).R _ _ [_, _] (p.1.set 0 (a.1, a.2.1, y, a.2.2.2), p.2) from makeDkX (rowO_X hO7 (fun f hf => (hGr.blk f (hFb f hf)).1)) (slX_own O8 (Nat.le_refl _))) 0 _) 1 _) (Nat.le_succ _), ⟨by show (p.1.set 0 _).length ≤ 7; rw [List.length_set]; omega, by show p.2.length ≤ 257; omega, by have h3 := hlim.2.2; unfold szDesk rsz at h3 ⊢; dsimp only; rw [List.length_set, rsum_set (b := (a.1, a.2.1, y, a.2.2.2)) ha rfl]; omega⟩, curs_put4 (curs_put4 (curs_put4 hC6 (b := gb) (i := off + 2) (by omega) _) hgs _) hgs _, gb_far4 (gb_far4 (gb_far4 (b := gb) hGw6 (by omega) (off + 2) _) (Nat.le_refl _) 0 _) (Nat.le_refl _) 1 _⟩
              exact AllReadyH.nil
            exact AllReadyH.nil
          exact AllReadyH.nil
        refine AllReadyH.cons rfl (fun K hK => ?_) ?_
        · go_simp
          refine hK.out _ _ (by trivial) (fun hHeld => ?_)
          clear hK K
          (try simp only [Act.put, qa_, qb_, qc_])
          refine wpAnyH_ready (rs := [1, 4]) (by kernel_rfl) (by simp) ?_
          refine AllReadyH.cons rfl (fun K hK => ?_) ?_
          · go_simp
            refine hK.out _ _ (by trivial) (fun hHeld => ?_)
            clear hK K
            (try simp only [Act.put, qa_, qb_, qc_])
            refine wpAnyH_ready (rs := [4]) (by kernel_rfl) (by simp) ?_
            refine AllReadyH.cons rfl (fun K hK => ?_) ?_
            · go_simp
              go_at_call 64
              have hc3 : ∀ i, i < 2 → ((wd.alloc (.cells #[.int .i64 (-1), .int .i64 65536] 3)).drew).cell? ⟨wd.heap.size, 0 + i, none⟩ = some (.int .i64 (([-1, 65536] : List Int).getD i 0)) := rowcells4 wd 3 [-1, 65536]
              have hCd : Curs ((wd.alloc (.cells #[.int .i64 (-1), .int .i64 65536] 3)).drew) g A n c l := hC.alloc _
              have hzd : wd.heap.size < ((wd.alloc (.cells #[.int .i64 (-1), .int .i64 65536] 3)).drew).heap.size := by show _ < (World.alloc _ _).heap.size; simp
              refine (k_Pick (L := some ⟨wd.heap.size, 0, none⟩) (m := 2) (d := 2) (zs := [-1, 65536]) ((wd.alloc (.cells #[.int .i64 (-1), .int .i64 65536] 3)).drew) hCd (gb_self _ g) ⟨wd.heap.size, 0, rfl, by omega, hzd, hc3⟩ (by omega) (by omega) rfl).mono ?_
              rintro e w6 ⟨y, rfl, hy, hC6, hG6⟩
              have hG6 : wd.grownBy w6 (some g) := gb_trans (gb_drew (gb_alloc (gb_self wd g) _)) hG6
              have B6 := Bp.grown hG6 hpg
              have R6 := Br.grown hG6 hrg
              have O6 := own_draw4 hO hG6 (by omega)
              have G6 := hGr.past hG6 (fun b hb hx => by injection hb with hb; have := (hGr.blk b hx).1; omega)
              have z6 := hG6.size
              have hGw6 := gb_trans hGw hG6
              have y60 := B6.cell 0; have y61 := B6.cell 1
              have zp6 : pb < w6.heap.size := B6.size
              have hy2 : -1 ≤ y ∧ y ≤ 65536 := by simp only [List.mem_cons, List.not_mem_nil, or_false] at hy; omega
              have wy : (Lit.int .i64 y).wf = true := WalkArith.wf_i64 ⟨by omega, by omega⟩
              clear hy
              have hg6 : Box w6 gb et cur := Box.grown (show Box wd gb et cur from hg) hG6 (fun e => by injection e with e; omega)
              have s6 : w6.cell? ⟨gb, off + 2, none⟩ = some (.int .i64 a.2.2.1) := by rw [hg6.cell]; exact hcs 2 (by omega)
              have sf6 := hg6.frozen (off + 2)
              go_wp2_with fail
              refine hK.out _ _ (by trivial) (fun hHeld => ?_)
              clear hK K
              (try simp only [Act.put, qa_, qb_, qc_])
              refine wpAnyH_take (i := 5) (oi := ⟨some 19, _, _, _, _, _⟩) (v := ?v30) rfl (by kernel_rfl) (by kernel_rfl) (by kernel_rfl) (fun _ _ _ h => h) (Or.inl ⟨by rfl, ?hy30⟩) (by assumption) ?_
              case hy30 => (intro w hSw; (try dsimp only at hSw); go_simp; try (with_reducible rfl))
              (try simp only [Act.put, qa_, qb_, qc_])
              refine wpAnyH_take (i := 6) (oi := ⟨some 20, _, _, _, _, _⟩) (v := ?v31) rfl (by kernel_rfl) (by kernel_rfl) (by kernel_rfl) (fun _ _ _ h => h) (Or.inl ⟨by rfl, ?hy31⟩) (by assumption) ?_
              case hy31 => (intro w hSw; (try dsimp only at hSw); go_simp; try (with_reducible rfl))
              (try simp only [Act.put, qa_, qb_, qc_])
              refine wpAnyH_ready (rs := [7]) (by kernel_rfl) (by simp) ?_
              refine AllReadyH.cons rfl (fun K hK => ?_) ?_
              · go_simp
                refine hK.out _ _ (by trivial) (fun hHeld => ?_)
                clear hK K
                (try simp only [Act.put, qa_, qb_, qc_])
                refine wpAnyH_done (by kernel_rfl) ?_ _
                have hwO := tWhole.kept hOi (fun f hf => hG6.block f (tWhole.lt hOi f hf) (fun e => by injection e with e; have := (hGr.blk f (hFb f (hsub f hf))).1; omega))
                have hg7 := hg6.put (off + 2) (.int .i64 y)
                have hO7 : tWhole.row.O (w6.setCell ⟨gb, off + 2, none⟩ (.int .i64 y)) [.slice (some ⟨gb, off, none⟩) n0 c0] (p.1.set 0 (a.1, a.2.1, y, a.2.2.2)) F' := by
                  refine hset _ _ [.int .i64 a.1, .int .i64 a.2.1, .int .i64 y, .slice A3 a.2.2.2.length c3] (a.1, a.2.1, y, a.2.2.2) hg7 (fun j hj => ?_) (fun q hq => ?_) ?_ (fun f hf h1 h2 => ?_)
                  · rcases (by omega : j = 0 ∨ j = 1 ∨ j = 2 ∨ j = 3) with rfl | rfl | rfl | rfl
                    · rw [Array.getElem?_setIfInBounds_ne (by omega)]; exact hcs 0 (by omega)
                    · rw [Array.getElem?_setIfInBounds_ne (by omega)]; exact hcs 1 (by omega)
                    · have h3 := hcs 2 (by omega)
                      have h4 : off + 2 < cur.size := by
                        rcases Nat.lt_or_ge (off + 2) cur.size with h | h
                        · exact h
                        · have h5 : cur[off + 2]? = none := Array.getElem?_eq_none h
                          have h6 : cur[off + 2]? = some (.int .i64 a.2.2.1) := h3
                          rw [h5] at h6; cases h6
                      show (cur.setIfInBounds (off + 2) (.int .i64 y))[off + 2]? = some (.int .i64 y)
                      simp [Array.getElem?_setIfInBounds, h4]
                    · rw [Array.getElem?_setIfInBounds_ne (by omega)]; exact hcs 3 (by omega)
                  · rw [Array.getElem?_setIfInBounds_ne (by have := hq 2 (by omega); omega)]
                  · obtain ⟨Fx, hx, rfl⟩ := makeOWhole (w := w6.setCell ⟨gb, off + 2, none⟩ (.int .i64 y)) (p := (a.1, a.2.1, y, a.2.2.2)) wa0 wa1 wy (Ty.far3 (t := tPiece.row) (tPiece.row.kept hP3 (fun f hf => hG6.block f (tPiece.row.lt hP3 f hf) (fun e => by injection e with e; have := (hGr.blk f (hFb f (hsub f hf))).1; omega))) (p := ⟨gb, off + 2, none⟩) (fun hx => hgi hx) (.int .i64 y))
                    exact hx
                  · refine (Below.heap_setCell w6 _ _ f (by show f ≠ gb; exact h1)).trans (hG6.block f (tWhole.row.lt hOr f hf) (fun e => by injection e with e; have := (hGr.blk f (hFb f hf)).1; omega))
                have B8 := B6.far (p := ⟨gb, off + 2, none⟩) (by show pb ≠ gb; omega) (.int .i64 y)
                have R8 := R6.far (p := ⟨gb, off + 2, none⟩) (by show w.heap.size ≠ gb; omega) (.int .i64 y)
                have O8 := own_awayB (b := gb) (i := off + 2) O6 (hap gb (hFb gb hgF)) (.int .i64 y)
                have y80 := B8.cell 0; have y81 := B8.cell 1; have r80 := R8.cell 0; have r81 := R8.cell 1; have f80 := R8.frozen 0; have f81 := R8.frozen 1
                go_wp2
                have RR := (R8.put 0 (.slice (some ⟨gb, off, none⟩) n0 c0)).put 1 (.slice A1 n1 c1)
                have e0 := RR.cell 0; have e1 := RR.cell 1
                refine bodyPost_ret (v := .agg #[.slice (some ⟨gb, off, none⟩) n0 c0, .slice A1 n1 c1]) (by simp [results, Tryz.results63, go_sem, e0, e1]) rfl ⟨_, _, (p.1.set 0 (a.1, a.2.1, y, a.2.2.2), p.2), rfl, dkX_low (dk_putb (dk_putb (show (tDkX (w.heap.size + 1)).R _ _ [_, _] (p.1.set 0 (a.1, a.2.1, y, a.2.2.2), p.2) from makeDkX (rowO_X hO7 (fun f hf => (hGr.blk f (hFb f hf)).1)) (slX_own O8 (Nat.le_refl _))) 0 _) 1 _) (Nat.le_succ _), ⟨by show (p.1.set 0 _).length ≤ 7; rw [List.length_set]; omega, by show p.2.length ≤ 257; omega, by have h3 := hlim.2.2; unfold szDesk rsz at h3 ⊢; dsimp only; rw [List.length_set, rsum_set (b := (a.1, a.2.1, y, a.2.2.2)) ha rfl]; omega⟩, curs_put4 (curs_put4 (curs_put4 hC6 (b := gb) (i := off + 2) (by omega) _) hgs _) hgs _, gb_far4 (gb_far4 (gb_far4 (b := gb) hGw6 (by omega) (off + 2) _) (Nat.le_refl _) 0 _) (Nat.le_refl _) 1 _⟩
              exact AllReadyH.nil
            exact AllReadyH.nil
          refine AllReadyH.cons rfl (fun K hK => ?_) ?_
          · go_simp
            go_at_call 64
            have hc3 : ∀ i, i < 2 → ((wd.alloc (.cells #[.int .i64 (-1), .int .i64 65536] 3)).drew).cell? ⟨wd.heap.size, 0 + i, none⟩ = some (.int .i64 (([-1, 65536] : List Int).getD i 0)) := rowcells4 wd 3 [-1, 65536]
            have hCd : Curs ((wd.alloc (.cells #[.int .i64 (-1), .int .i64 65536] 3)).drew) g A n c l := hC.alloc _
            have hzd : wd.heap.size < ((wd.alloc (.cells #[.int .i64 (-1), .int .i64 65536] 3)).drew).heap.size := by show _ < (World.alloc _ _).heap.size; simp
            refine (k_Pick (L := some ⟨wd.heap.size, 0, none⟩) (m := 2) (d := 2) (zs := [-1, 65536]) ((wd.alloc (.cells #[.int .i64 (-1), .int .i64 65536] 3)).drew) hCd (gb_self _ g) ⟨wd.heap.size, 0, rfl, by omega, hzd, hc3⟩ (by omega) (by omega) rfl).mono ?_
            rintro e w6 ⟨y, rfl, hy, hC6, hG6⟩
            have hG6 : wd.grownBy w6 (some g) := gb_trans (gb_drew (gb_alloc (gb_self wd g) _)) hG6
            have B6 := Bp.grown hG6 hpg
            have R6 := Br.grown hG6 hrg
            have O6 := own_draw4 hO hG6 (by omega)
            have G6 := hGr.past hG6 (fun b hb hx => by injection hb with hb; have := (hGr.blk b hx).1; omega)
            have z6 := hG6.size
            have hGw6 := gb_trans hGw hG6
            have y60 := B6.cell 0; have y61 := B6.cell 1
            have zp6 : pb < w6.heap.size := B6.size
            have hy2 : -1 ≤ y ∧ y ≤ 65536 := by simp only [List.mem_cons, List.not_mem_nil, or_false] at hy; omega
            have wy : (Lit.int .i64 y).wf = true := WalkArith.wf_i64 ⟨by omega, by omega⟩
            clear hy
            have hg6 : Box w6 gb et cur := Box.grown (show Box wd gb et cur from hg) hG6 (fun e => by injection e with e; omega)
            have s6 : w6.cell? ⟨gb, off + 2, none⟩ = some (.int .i64 a.2.2.1) := by rw [hg6.cell]; exact hcs 2 (by omega)
            have sf6 := hg6.frozen (off + 2)
            go_wp2_with fail
            refine hK.out _ _ (by trivial) (fun hHeld => ?_)
            clear hK K
            (try simp only [Act.put, qa_, qb_, qc_])
            refine wpAnyH_ready (rs := [1]) (by kernel_rfl) (by simp) ?_
            refine AllReadyH.cons rfl (fun K hK => ?_) ?_
            · go_simp
              refine hK.out _ _ (by trivial) (fun hHeld => ?_)
              clear hK K
              (try simp only [Act.put, qa_, qb_, qc_])
              refine wpAnyH_take (i := 5) (oi := ⟨some 19, _, _, _, _, _⟩) (v := ?v32) rfl (by kernel_rfl) (by kernel_rfl) (by kernel_rfl) (fun _ _ _ h => h) (Or.inl ⟨by rfl, ?hy32⟩) (by assumption) ?_
              case hy32 => (intro w hSw; (try dsimp only at hSw); go_simp; try (with_reducible rfl))
              (try simp only [Act.put, qa_, qb_, qc_])
              refine wpAnyH_take (i := 6) (oi := ⟨some 20, _, _, _, _, _⟩) (v := ?v33) rfl (by kernel_rfl) (by kernel_rfl) (by kernel_rfl) (fun _ _ _ h => h) (Or.inl ⟨by rfl, ?hy33⟩) (by assumption) ?_
              case hy33 => (intro w hSw; (try dsimp only at hSw); go_simp; try (with_reducible rfl))
              (try simp only [Act.put, qa_, qb_, qc_])
              refine wpAnyH_ready (rs := [7]) (by kernel_rfl) (by simp) ?_
              refine AllReadyH.cons rfl (fun K hK => ?_) ?_
              · go_simp
                refine hK.out _ _ (by trivial) (fun hHeld => ?_)
                clear hK K
                (try simp only [Act.put, qa_, qb_, qc_])
                refine wpAnyH_done (by kernel_rfl) ?_ _
                have hwO := tWhole.kept hOi (fun f hf => hG6.block f (tWhole.lt hOi f hf) (fun e => by injection e with e; have := (hGr.blk f (hFb f (hsub f hf))).1; omega))
                have hg7 := hg6.put (off + 2) (.int .i64 y)
                have hO7 : tWhole.row.O (w6.setCell ⟨gb, off + 2, none⟩ (.int .i64 y)) [.slice (some ⟨gb, off, none⟩) n0 c0] (p.1.set 0 (a.1, a.2.1, y, a.2.2.2)) F' := by
                  refine hset _ _ [.int .i64 a.1, .int .i64 a.2.1, .int .i64 y, .slice A3 a.2.2.2.length c3] (a.1, a.2.1, y, a.2.2.2) hg7 (fun j hj => ?_) (fun q hq => ?_) ?_ (fun f hf h1 h2 => ?_)
                  · rcases (by omega : j = 0 ∨ j = 1 ∨ j = 2 ∨ j = 3) with rfl | rfl | rfl | rfl
                    · rw [Array.getElem?_setIfInBounds_ne (by omega)]; exact hcs 0 (by omega)
                    · rw [Array.getElem?_setIfInBounds_ne (by omega)]; exact hcs 1 (by omega)
                    · have h3 := hcs 2 (by omega)
                      have h4 : off + 2 < cur.size := by
                        rcases Nat.lt_or_ge (off + 2) cur.size with h | h
                        · exact h
                        · have h5 : cur[off + 2]? = none := Array.getElem?_eq_none h
                          have h6 : cur[off + 2]? = some (.int .i64 a.2.2.1) := h3
                          rw [h5] at h6; cases h6
                      show (cur.setIfInBounds (off + 2) (.int .i64 y))[off + 2]? = some (.int .i64 y)
                      simp [Array.getElem?_setIfInBounds, h4]
                    · rw [Array.getElem?_setIfInBounds_ne (by omega)]; exact hcs 3 (by omega)
                  · rw [Array.getElem?_setIfInBounds_ne (by have := hq 2 (by omega); omega)]
                  · obtain ⟨Fx, hx, rfl⟩ := makeOWhole (w := w6.setCell ⟨gb, off + 2, none⟩ (.int .i64 y)) (p := (a.1, a.2.1, y, a.2.2.2)) wa0 wa1 wy (Ty.far3 (t := tPiece.row) (tPiece.row.kept hP3 (fun f hf => hG6.block f (tPiece.row.lt hP3 f hf) (fun e => by injection e with e; have := (hGr.blk f (hFb f (hsub f hf))).1; omega))) (p := ⟨gb, off + 2, none⟩) (fun hx => hgi hx) (.int .i64 y))
                    exact hx
                  · refine (Below.heap_setCell w6 _ _ f (by show f ≠ gb; exact h1)).trans (hG6.block f (tWhole.row.lt hOr f hf) (fun e => by injection e with e; have := (hGr.blk f (hFb f hf)).1; omega))
                have B8 := B6.far (p := ⟨gb, off + 2, none⟩) (by show pb ≠ gb; omega) (.int .i64 y)
                have R8 := R6.far (p := ⟨gb, off + 2, none⟩) (by show w.heap.size ≠ gb; omega) (.int .i64 y)
                have O8 := own_awayB (b := gb) (i := off + 2) O6 (hap gb (hFb gb hgF)) (.int .i64 y)
                have y80 := B8.cell 0; have y81 := B8.cell 1; have r80 := R8.cell 0; have r81 := R8.cell 1; have f80 := R8.frozen 0; have f81 := R8.frozen 1
                go_wp2
                have RR := (R8.put 0 (.slice (some ⟨gb, off, none⟩) n0 c0)).put 1 (.slice A1 n1 c1)
                have e0 := RR.cell 0; have e1 := RR.cell 1
                refine bodyPost_ret (v := .agg #[.slice (some ⟨gb, off, none⟩) n0 c0, .slice A1 n1 c1]) (by simp [results, Tryz.results63, go_sem, e0, e1]) rfl ⟨_, _, (p.1.set 0 (a.1, a.2.1, y, a.2.2.2), p.2), rfl, dkX_low (dk_putb (dk_putb (show (tDkX (w.heap.size + 1)).R _ _ [_, _] (p.1.set 0 (a.1, a.2.1, y, a.2.2.2), p.2) from makeDkX (rowO_X hO7 (fun f hf => (hGr.blk f (hFb f hf)).1)) (slX_own O8 (Nat.le_refl _))) 0 _) 1 _) (Nat.le_succ _), ⟨by show (p.1.set 0 _).length ≤ 7; rw [List.length_set]; omega, by show p.2.length ≤ 257; omega, by have h3 := hlim.2.2; unfold szDesk rsz at h3 ⊢; dsimp only; rw [List.length_set, rsum_set (b := (a.1, a.2.1, y, a.2.2.2)) ha rfl]; omega⟩, curs_put4 (curs_put4 (curs_put4 hC6 (b := gb) (i := off + 2) (by omega) _) hgs _) hgs _, gb_far4 (gb_far4 (gb_far4 (b := gb) hGw6 (by omega) (off + 2) _) (Nat.le_refl _) 0 _) (Nat.le_refl _) 1 _⟩
              exact AllReadyH.nil
            exact AllReadyH.nil
          exact AllReadyH.nil
        exact AllReadyH.nil
set_option maxHeartbeats 2000000 in
theorem d_LetGo {w : World} {n c : Nat} {A : Option Addr} {l : List Int} (hl : Ints .u8 w w.heap.size A n l) (hn : n ≤ 140737488355328) :
    Calls Tryz.prog 20 #[.slice A n c] w fun e w' => ∃ v0 v1 p x, e = .returned (.tuple #[.agg #[v0, v1], .int .i64 x]) ∧ tDesk.R w' w'.heap.size [v0, v1] p ∧ DkLim p ∧ (-1 ≤ x ∧ x ≤ 99) ∧ Below w.heap.size w w' := by
  have R0 : Box (w.alloc (.cells #[.slice none 0 0, .slice none 0 0] 33)) w.heap.size 33 #[.slice none 0 0, .slice none 0 0] := Box.new _ _ _
  have hl0 : Ints .u8 (w.alloc (.cells #[.slice none 0 0, .slice none 0 0] 33)) (w.alloc (.cells #[.slice none 0 0, .slice none 0 0] 33)).heap.size A n l := reach hl (show Below w.heap.size w (w.alloc (.cells #[.slice none 0 0, .slice none 0 0] 33)) from (belx))
  go_enter Tryz.func20, Tryz.ntmps20
  go_wp2_with fail
  refine (k_New hl0 hn).mono ?_
  rintro e w1 ⟨g, rfl, hg, hC1, hb1⟩
  have hB1 : Below w.heap.size w w1 := bel_trans (show Below w.heap.size w (w.alloc (.cells #[.slice none 0 0, .slice none 0 0] 33)) from (belx)) hb1
  have R1 := R0.below hb1 (by simp)
  simp only [World.size_alloc] at hg
  have hgw : w.heap.size ≤ g := by omega
  have z1 := hC1.size
  have zW : w.heap.size < w1.heap.size := R1.size
  have hrg : some w.heap.size ≠ some g := fun e => by injection e with e; omega
  go_wp2_with fail
  refine (k_bentDesk hC1).mono ?_
  rintro e w2 ⟨v0, v1, p, rfl, hX, hlim, hC2, hG2⟩
  obtain ⟨A0, n0, c0, A1, n1, c1, e7, -, -, -, -⟩ := openDkX hX
  simp only [List.cons.injEq, and_true] at e7
  obtain ⟨rfl, rfl⟩ := e7
  have R2 := R1.grown hG2 hrg
  have hB2 := below_gb2 hB1 hgw hG2
  have z2 := hC2.size
  have hc : ∀ i, i < 5 → (w2.alloc (.cells #[.int .i64 (-1), .int .i64 0, .int .i64 10, .int .i64 20, .int .i64 99] 3)).cell? ⟨w2.heap.size, 0 + i, none⟩ = some (.int .i64 (([-1, 0, 10, 20, 99] : List Int).getD i 0)) := rowcells4 w2 3 [-1, 0, 10, 20, 99]
  go_wp2_with fail
  refine (k_Pick (L := some ⟨w2.heap.size, 0, none⟩) (m := 5) (d := 5) (zs := [-1, 0, 10, 20, 99]) w2 (Curs.alloc hC2 _) (gb_alloc (gb_self w2 g) _) ⟨w2.heap.size, 0, rfl, by omega, by simp, hc⟩ (by omega) (by omega) rfl).mono ?_
  rintro e w3 ⟨x, rfl, hx, hC3, hG3⟩
  have hx2 : -1 ≤ x ∧ x ≤ 99 := by simp only [List.mem_cons, List.not_mem_nil, or_false] at hx; omega
  have R3 := R2.grown hG3 hrg
  have X3 := (firm_Dk w1.heap.size).at hX (Alike.grown hG3 z1 (Nat.le_refl _)) hG3.size
  have hB3 := below_gb2 hB2 hgw hG3
  have y0 := R3.cell 0; have y1 := R3.cell 1; have f0 := R3.frozen 0; have f1 := R3.frozen 1
  clear hx hc
  go_wp2
  have RR := (R3.put 0 (.slice A0 n0 c0)).put 1 (.slice A1 n1 c1)
  have e0 := RR.cell 0
  have e1 := RR.cell 1
  have X4 := (firm_Dk w1.heap.size).at ((firm_Dk w1.heap.size).at X3 (Alike.put w3 (p := ⟨w.heap.size, 0, none⟩) zW (.slice A0 n0 c0)) (by simp [World.setCell])) (Alike.put _ (p := ⟨w.heap.size, 1, none⟩) zW (.slice A1 n1 c1)) (by simp [World.setCell])
  refine bodyPost_ret (v := .tuple #[.agg #[.slice A0 n0 c0, .slice A1 n1 c1], .int .i64 x]) (by simp [results, Tryz.results20, go_sem, e0, e1]) rfl ⟨_, _, p, x, rfl, dkX_R X4, hlim, hx2, (hB3.setCell (p := ⟨w.heap.size, 0, none⟩) (Nat.le_refl _) _).setCell (p := ⟨w.heap.size, 1, none⟩) (Nat.le_refl _) _⟩
end Go.Proofs.YtaabmaoldhoinaaGreat
namespace Go.Proofs.YtaabmaoldhoinaaGreat
set_option maxRecDepth 100000
open Go.ChangeShapes Go.WideShapes Go.ChangeAt Go.RowKit
open Fld
attribute [local go_sem ↓] Go.wp_at_zero Go.wp_at_succ

theorem conv_bytes {w : World} {B n : Nat} {A : Option Addr} {l : List Int} (h : Ints .u8 w B A n l) (c : Nat) (src e dst : TypeId) (hs : Tryz.prog.underlying src = some (.slice e)) (he : Tryz.prog.underlying e = some (.int .u8)) (hd : Tryz.prog.underlying dst = some .string) :
    (convert src dst (.slice A n c)).run Tryz.prog w = .ok (.string (strOfNums l)) w := by
  by_cases h0 : n = 0
  · subst h0
    obtain rfl : l = [] := List.eq_nil_of_length_eq_zero h.1
    exact run_convert_bytes_zero w src e hs he A c dst hd
  · obtain ⟨b, off, rfl, _, hc⟩ := h.2.1 (by omega)
    exact run_convert_bytes_arg w src e hs he b off n c l h.1 hc dst hd
theorem nums_eq {l r : List Int} (hl : Bytes l) (hr : Bytes r) : ((strOfNums l).toList == (strOfNums r).toList) = decide (l = r) := by
  rw [Lib.strOfNums_toList, Lib.strOfNums_toList, Lib.bytesOf, Lib.bytesOf, Bool.eq_iff_iff]
  simp only [beq_iff_eq, decide_eq_true_eq]
  constructor
  · intro h
    have hlen : l.length = r.length := by have := congrArg List.length h; simpa using this
    apply ext_getD hlen
    intro i hi
    have h2 := congrArg (fun x => x[i]?) h
    simp only [List.getElem?_map, List.getElem?_eq_getElem hi, List.getElem?_eq_getElem (show i < r.length by omega), Option.map_some, Option.some.injEq] at h2
    have a1 := hl.at_ i
    have a2 := hr.at_ i
    rw [getD_lt hi] at a1
    rw [getD_lt (show i < r.length by omega)] at a2
    rw [getD_lt hi, getD_lt (show i < r.length by omega)]
    have h3 := congrArg UInt8.toNat h2
    simp only [UInt8.toNat_ofNat'] at h3
    omega
  · intro h; rw [h]
end Go.Proofs.YtaabmaoldhoinaaGreat
namespace Go.Proofs.YtaabmaoldhoinaaGreat
open Go.ChangeShapes Go.WideShapes Go.ChangeAt Go.RowKit
open Fld
theorem l_same {w : World} {B B' n m c d : Nat} {A A' : Option Addr} {l r : List Int} (hl : Ints .u8 w B A n l) (hr : Ints .u8 w B' A' m r) :
    Calls Tryz.prog 68 #[.slice A n c, .slice A' m d] w fun e w' => e = .returned (.bool (decide (l = r))) ∧ w = w' := by
  have g1 := conv_bytes hl c 26 5 9 Tryz.underlying26 Tryz.underlying5 Tryz.underlying9
  have g2 := conv_bytes hr d 26 5 9 Tryz.underlying26 Tryz.underlying5 Tryz.underlying9
  have HN := Lib.hid (nums_eq hl.bytes hr.bytes)
  go_enter Tryz.func68, Tryz.ntmps68
  go_wp2
  go_ret
  exact ⟨ret_bool HN.out, rfl⟩
theorem marked_ints (w : World) (t : TypeId) (x y : Int) (hx : 0 ≤ x ∧ x < 256) (hy : 0 ≤ y ∧ y < 256) (fr : Nat × Nat) : Ints .u8 (w.alloc (.cells #[.int .u8 x, .int .u8 y] t fr)) (w.heap.size + 1) (some ⟨w.heap.size, 0, none⟩) 2 [x, y] := by
  refine ⟨rfl, fun _ => ⟨w.heap.size, 0, rfl, by omega, fun i hi => ?_⟩, fun z hz => ?_⟩
  · rw [Nat.zero_add, cell_of_row _ w.heap.size i #[.int .u8 x, .int .u8 y] t fr (heap_alloc_new w _)]
    match i, hi with
    | 0, _ => rfl
    | 1, _ => rfl
  · simp only [List.mem_cons, List.not_mem_nil, or_false] at hz
    rcases hz with rfl | rfl
    · exact wf8 hx
    · exact wf8 hy
set_option maxHeartbeats 400000 in
theorem l_sameInts {w : World} {B n m c d : Nat} {A A' : Option Addr} {l l' : List Int} (h : Ints .i64 w B A n l) (h' : Ints .i64 w B A' m l') (hn : n ≤ maxLen) (hm : m ≤ maxLen) :
    Calls Tryz.prog 24 #[.slice A n c, .slice A' m d] w fun e w' => e = .returned (.bool (decide (l = l'))) ∧ Below w.heap.size w w' := by
  unfold maxLen at hn hm
  by_cases hlen : n = m
  · subst hlen
    go_enter Tryz.func24, Tryz.ntmps24
    go_wp2
    go_loopw [5] (fun i wr => ∃ k : Nat, k ≤ n ∧ i = .int .i64 k ∧ (∀ j, j < k → l.getD j 0 = l'.getD j 0) ∧ ∃ q, wr = w.drewN q) (fun i _ => n - (RowKit.intOf i).toNat)
    case atStart => exact ⟨0, by omega, rfl, fun j hj => by omega, 0, rfl⟩
    case round =>
      obtain ⟨k, hk, rfl, hall, q, rfl⟩ := hrel
      have HA := Lib.hid hall
      clear hall
      by_cases hlt : k < n
      · obtain ⟨b, off, rfl, _, hc, hwf⟩ := h.at_ hlt
        obtain ⟨b', off', rfl, _, hc', hwf'⟩ := h'.at_ hlt
        by_cases heq : l.getD k 0 = l'.getD k 0
        · rw [← heq] at hc'
          have HE := Lib.hid heq
          clear heq
          obtain ⟨x, hx⟩ : ∃ x, l.getD k 0 = x := ⟨_, rfl⟩
          rw [hx] at hc hc'
          clear hx hwf hwf'
          go_wp2
          go_quiet (fail)
          go_wp2
          go_roundw
          case rel => exact ⟨k + 1, by omega, by go_num, fun j hj => by
            rcases Nat.lt_succ_iff_lt_or_eq.1 hj with h1 | rfl
            · exact HA.out j h1
            · exact HE.out, _, rfl⟩
          case measure => simp [RowKit.intOf]; omega
        · have hne : (l.getD k 0 == l'.getD k 0) = false := by simpa using heq
          have HF := Lib.hid (show decide (l = l') = false from by simp; intro e; rw [e] at heq; exact heq rfl)
          clear heq
          obtain ⟨x, hx⟩ : ∃ x, l.getD k 0 = x := ⟨_, rfl⟩
          obtain ⟨y, hy⟩ : ∃ y, l'.getD k 0 = y := ⟨_, rfl⟩
          rw [hx] at hc hne
          rw [hy] at hc' hne
          have hne2 : (x != y) = true := by simp [bne, hne]
          clear hx hy hwf hwf'
          go_wp2
          go_quiet (fail)
          go_wp2
          go_ret
          exact ⟨by rw [HF.out]; rfl, below_drewN (below_drewN (Below.refl _ _) _) _⟩
      · obtain rfl : k = n := by omega
        have HT := Lib.hid (show decide (l = l') = true from by
          simp
          apply List.ext_getElem (by rw [h.1, h'.1])
          intro j h1 h2
          have := HA.out j (by rw [← h.1]; exact h1)
          rw [List.getD_eq_getElem?_getD, List.getD_eq_getElem?_getD, List.getElem?_eq_getElem h1, List.getElem?_eq_getElem h2] at this
          exact this)
        go_wp2
        go_ret
        exact ⟨by rw [HT.out]; rfl, below_drewN (Below.refl _ _) _⟩
  · have HF := Lib.hid (show decide (l = l') = false from by simp; intro e; exact hlen (by rw [← h.1, ← h'.1, e]))
    have hb : ((n : Int) == (m : Int)) = false := by simp; omega
    have hb2 : ((n : Int) != (m : Int)) = true := by simp; omega
    clear hlen
    go_enter Tryz.func24, Tryz.ntmps24
    go_wp2
    go_ret
    exact ⟨by rw [HF.out]; rfl, Below.refl _ _⟩
end Go.Proofs.YtaabmaoldhoinaaGreat
namespace Go.Proofs.YtaabmaoldhoinaaGreat
set_option linter.unusedVariables false
open Go.RowKit
theorem dkzO {w : World} : tDesk.O w [.slice none 0 0, .slice none 0 0] dkZ [] := by
  obtain ⟨F, h, rfl⟩ := makeODesk (w := w) (p := dkZ) (v0 := .slice none 0 0) (v1 := .slice none 0 0) (F0 := []) (F1 := []) (.inl ⟨none, 0, rfl, by omega, rfl, rfl⟩) nilO
  exact h
theorem put2D_O {w : World} {g : Nat} {v0 v1 : Value} {p : DDesk} {F : List Nat} (h : tDesk.O w [v0, v1] p F) (hg : g ∉ F) : tDesk.O ((w.setCell ⟨g, 0, none⟩ v0).setCell ⟨g, 1, none⟩ v1) [v0, v1] p F :=
  Ty.far3 (t := tDesk) (Ty.far3 (t := tDesk) h (p := ⟨g, 0, none⟩) hg v0) (p := ⟨g, 1, none⟩) hg v1
end Go.Proofs.YtaabmaoldhoinaaGreat
namespace Go.Proofs.YtaabmaoldhoinaaGreat
set_option maxRecDepth 100000
set_option linter.unusedVariables false
set_option linter.unusedSimpArgs false
open Go.ChangeShapes Go.WideShapes Go.ChangeAt Go.RowKit
set_option maxHeartbeats 400000 in
theorem i_evryPieceV {w : World} {n c : Nat} {A : Option Addr} {l : List DPiece} (F : Nat) (V : Value) (p : DPiece → Bool) (hE : ∀ (cs : Array Value) (w : World), Sem.run Tryz.prog (callFunc F #[Value.agg cs, V]) w = .ok (.enter F #[Value.agg cs, V]) w)
    (hF : ∀ (i : Nat) (a : DPiece) (w' : World) (cs : List Value), l[i]? = some a → Below w.heap.size w w' → tPiece.R w' w'.heap.size cs a → Calls Tryz.prog F #[.agg cs.toArray, V] w' fun e w2 => e = .returned (.bool (p a)) ∧ Below w'.heap.size w' w2)
    (hl : tPiece.row.R w w.heap.size [.slice A n c] l) (hn : n ≤ 17592186043904) :
    Calls Tryz.prog 106 #[.slice A n c, .func (.func F) #[] #[V]] w fun e w' => e = .returned (.bool (l.all p)) ∧ Below w.heap.size w w' := by
  obtain ⟨e0, _, _⟩ := rowR_len hl
  have HL := Lib.hid e0
  have HF := Lib.hid hF
  have HE := Lib.hid hE
  clear e0 hF hE
  go_enter Tryz.func106, Tryz.ntmps106
  go_wp2_with fail
  go_loopw [9] (fun i wr => ∃ j : Nat, j ≤ n ∧ i = .int .i64 j ∧ Below w.heap.size w wr ∧ ∀ h ∈ l.take j, p h = true) (fun i _ => n - (RowKit.intOf i).toNat)
  case atStart => exact ⟨0, by omega, rfl, (belx), al0⟩
  case round =>
    obtain ⟨j, hj, rfl, hB, hG⟩ := hrel
    have HG := Lib.hid hG
    clear hG
    by_cases hlt : j < n
    · obtain ⟨a, b', off, es, hl2, rfl, hb, hes, hR⟩ := rowR_at (K := 4) hl hlt rfl
      have HA := Lib.hid hl2
      clear hl2
      have hRk := hR
      obtain ⟨A2, n2, c2, rfl, -, -, -, -, -, -, -⟩ := openPiece hR
      have e0 : wr.cell? ⟨b', off + j * 4, none⟩ = some (.int .i64 a.1) := cell_at hB hb (hes 0 (by omega))
      have e1 : wr.cell? ⟨b', off + j * 4 + 1, none⟩ = some (.int .i64 a.2.1) := cell_at hB hb (hes 1 (by omega))
      have e2 : wr.cell? ⟨b', off + j * 4 + 2, none⟩ = some (.int .i64 a.2.2.1) := cell_at hB hb (hes 2 (by omega))
      have e3 : wr.cell? ⟨b', off + j * 4 + 3, none⟩ = some (.slice A2 n2 c2) := cell_at hB hb (hes 3 (by omega))
      clear hes
      go_wp2_with fail
      rw [HE.out, Oper.upon_enter]
      refine (HF.out j a _ _ HA.out ?hB (tPiece.reach hRk ?hB2)).mono ?_
      case hB => exact bel_trans (a := w) hB (belx)
      case hB2 => exact bel_trans (a := w) hB (belx)
      rintro e w1 ⟨rfl, hb1⟩
      have hB1 : Below w.heap.size w w1 := bel_trans (bel_trans (a := w) hB (belx)) hb1
      obtain ⟨d, hd⟩ : ∃ d, p a = d := ⟨_, rfl⟩
      rw [hd]
      have HD := Lib.hid hd
      clear hd
      cases d
      · have HR := Lib.hid (alF HA.out HD.out)
        go_wp2
        go_ret
        exact ⟨ret_bool HR.out.symm, hB1⟩
      · go_wp2
        go_roundw
        case rel => exact ⟨j + 1, by omega, by go_num, hB1, alS HG.out HA.out HD.out⟩
        case measure => simp [RowKit.intOf]; omega
    · obtain rfl : n = j := by omega
      have HR := Lib.hid (alT HG.out (Nat.le_of_eq HL.out))
      go_wp2
      go_ret
      exact ⟨ret_bool HR.out.symm, hB⟩
set_option maxHeartbeats 1000000 in
theorem i_eachPieceI {w : World} {n c : Nat} {A : Option Addr} {l : List DPiece} (F : Nat) (f : DPiece → Int) (hE : ∀ (cs : Array Value) (w : World), Sem.run Tryz.prog (callFunc F #[Value.agg cs]) w = .ok (.enter F #[Value.agg cs]) w)
    (hF : ∀ (i : Nat) (a : DPiece) (w' : World) (cs : List Value), l[i]? = some a → Below w.heap.size w w' → tPiece.R w' w'.heap.size cs a → Calls Tryz.prog F #[.agg cs.toArray] w' fun e w2 => e = .returned (.int .i64 (f a)) ∧ Below w'.heap.size w' w2)
    (hW : ∀ a ∈ l, (Lit.int .i64 (f a)).wf = true) (hl : tPiece.row.R w w.heap.size [.slice A n c] l) (hn : n ≤ 1048576) :
    Calls Tryz.prog 90 #[.slice A n c, .func (.func F) #[] #[]] w fun e w' => ∃ v, e = .returned v ∧ Own .i64 3 w' w.heap.size v (l.map f) ∧ Below w.heap.size w w' := by
  obtain ⟨i0, hi0, hz0, hz1, hz2⟩ := info_parts info_ci
  obtain ⟨e0, _, _⟩ := rowR_len hl
  have HL := Lib.hid e0
  have HF := Lib.hid hF
  have HE := Lib.hid hE
  have HW := Lib.hid hW
  clear e0 hF hE hW
  go_enter Tryz.func90, Tryz.ntmps90
  go_wp2_with fail
  go_loopw [5, 10] (fun v i wr => ∃ j : Nat, j ≤ n ∧ i = .int .i64 j ∧ Own .i64 3 wr w.heap.size v ((l.take j).map f) ∧ Below w.heap.size w wr) (fun _ i _ => n - (RowKit.intOf i).toNat)
  case atStart => exact ⟨0, by omega, rfl, Own.nil _ _ _ _, (belx)⟩
  case round =>
    obtain ⟨j, hj, rfl, hO, hB⟩ := hrel
    by_cases hlt : j < n
    · obtain ⟨a, b', off, es, hl2, rfl, hb, hes, hR⟩ := rowR_at (K := 4) hl hlt rfl
      have HA := Lib.hid hl2
      have HS := Lib.hid (mapS (f := f) hl2)
      have HLN := Lib.hid (mapLen (f := f) (l := l) (j := j) (by rw [HL.out]; exact hj))
      have HI := Lib.hid (HW.out a (alMem hl2))
      clear hl2
      have hRk := hR
      obtain ⟨A2, n2, c2, rfl, -, -, -, -, -, -, -⟩ := openPiece hR
      have e0 : wr.cell? ⟨b', off + j * 4, none⟩ = some (.int .i64 a.1) := cell_at hB hb (hes 0 (by omega))
      have e1 : wr.cell? ⟨b', off + j * 4 + 1, none⟩ = some (.int .i64 a.2.1) := cell_at hB hb (hes 1 (by omega))
      have e2 : wr.cell? ⟨b', off + j * 4 + 2, none⟩ = some (.int .i64 a.2.2.1) := cell_at hB hb (hes 2 (by omega))
      have e3 : wr.cell? ⟨b', off + j * 4 + 3, none⟩ = some (.slice A2 n2 c2) := cell_at hB hb (hes 3 (by omega))
      clear hes hR
      go_wp2_with fail
      rw [HE.out, Oper.upon_enter]
      refine (HF.out j a _ _ HA.out ?hB (tPiece.reach hRk ?hB2)).mono ?_
      case hB => exact bel_trans (a := w) hB (belx)
      case hB2 => exact bel_trans (a := w) hB (belx)
      rintro e w1 ⟨rfl, hb1⟩
      obtain ⟨y, hy⟩ : ∃ y, f a = y := ⟨_, rfl⟩
      rw [hy] at HS HI
      rw [hy]
      clear hy
      have hs1 : Below wr.heap.size wr w1 := bel_trans (belx) hb1
      have hO2 := hO.below hs1
      have zz := hs1.size
      have zw := hB.size
      have hlen2 := HLN.out
      go_wp2_with (at_builtin; refine wpList_app _ rfl (.tmp 14) (.tmp 18) _ rfl w.heap.size 3 i0 _ 1 8 Tryz.underlying23 hi0 hz0 hz1 hz2 rfl (by omega) _ _ _ rfl (hO2.1.alloc _) _ 1 1 [.int .i64 y] rfl (Src.one _ _ _) (one_int _ _) (by simp only [maxLen]; omega) (by omega) (by simp; omega) ?_; intro v1 w3 hown hgr hat)
      go_roundw
      case rel => exact ⟨j + 1, by omega, by go_num, own_sn hO2 hown HS.out HI.out, below_sn (hB.trans (hs1.mono hB.size)) hO2 (Nat.le_refl _) hgr⟩
      case measure => simp [RowKit.intOf]; omega
    · obtain rfl : n = j := by omega
      have HA := Lib.hid (show l.take n = l from List.take_of_length_le (Nat.le_of_eq HL.out))
      rw [HA.out] at hO
      go_wp2
      go_ret
      exact ⟨_, rfl, hO, hB⟩
end Go.Proofs.YtaabmaoldhoinaaGreat
namespace Go.Proofs.YtaabmaoldhoinaaGreat
set_option maxRecDepth 100000
set_option linter.unusedVariables false
set_option linter.unusedSimpArgs false
open Go.ChangeShapes Go.WideShapes Go.ChangeAt Go.RowKit
set_option maxHeartbeats 400000 in
theorem i_evryWholeV {w : World} {n c : Nat} {A : Option Addr} {l : List DWhole} (F : Nat) (V : Value) (p : DWhole → Bool) (hE : ∀ (cs : Array Value) (w : World), Sem.run Tryz.prog (callFunc F #[Value.agg cs, V]) w = .ok (.enter F #[Value.agg cs, V]) w)
    (hF : ∀ (i : Nat) (a : DWhole) (w' : World) (cs : List Value), l[i]? = some a → Below w.heap.size w w' → tWhole.R w' w'.heap.size cs a → Calls Tryz.prog F #[.agg cs.toArray, V] w' fun e w2 => e = .returned (.bool (p a)) ∧ Below w'.heap.size w' w2)
    (hl : tWhole.row.R w w.heap.size [.slice A n c] l) (hn : n ≤ 17592186043904) :
    Calls Tryz.prog 74 #[.slice A n c, .func (.func F) #[] #[V]] w fun e w' => e = .returned (.bool (l.all p)) ∧ Below w.heap.size w w' := by
  obtain ⟨e0, _, _⟩ := rowR_len hl
  have HL := Lib.hid e0
  have HF := Lib.hid hF
  have HE := Lib.hid hE
  clear e0 hF hE
  go_enter Tryz.func74, Tryz.ntmps74
  go_wp2_with fail
  go_loopw [9] (fun i wr => ∃ j : Nat, j ≤ n ∧ i = .int .i64 j ∧ Below w.heap.size w wr ∧ ∀ h ∈ l.take j, p h = true) (fun i _ => n - (RowKit.intOf i).toNat)
  case atStart => exact ⟨0, by omega, rfl, (belx), al0⟩
  case round =>
    obtain ⟨j, hj, rfl, hB, hG⟩ := hrel
    have HG := Lib.hid hG
    clear hG
    by_cases hlt : j < n
    · obtain ⟨a, b', off, es, hl2, rfl, hb, hes, hR⟩ := rowR_at (K := 4) hl hlt rfl
      have HA := Lib.hid hl2
      clear hl2
      have hRk := hR
      obtain ⟨A2, n2, c2, rfl, -, -, -, -, -, -, -⟩ := openWhole hR
      have e0 : wr.cell? ⟨b', off + j * 4, none⟩ = some (.int .i64 a.1) := cell_at hB hb (hes 0 (by omega))
      have e1 : wr.cell? ⟨b', off + j * 4 + 1, none⟩ = some (.int .i64 a.2.1) := cell_at hB hb (hes 1 (by omega))
      have e2 : wr.cell? ⟨b', off + j * 4 + 2, none⟩ = some (.int .i64 a.2.2.1) := cell_at hB hb (hes 2 (by omega))
      have e3 : wr.cell? ⟨b', off + j * 4 + 3, none⟩ = some (.slice A2 n2 c2) := cell_at hB hb (hes 3 (by omega))
      clear hes
      go_wp2_with fail
      rw [HE.out, Oper.upon_enter]
      refine (HF.out j a _ _ HA.out ?hB (tWhole.reach hRk ?hB2)).mono ?_
      case hB => exact bel_trans (a := w) hB (belx)
      case hB2 => exact bel_trans (a := w) hB (belx)
      rintro e w1 ⟨rfl, hb1⟩
      have hB1 : Below w.heap.size w w1 := bel_trans (bel_trans (a := w) hB (belx)) hb1
      obtain ⟨d, hd⟩ : ∃ d, p a = d := ⟨_, rfl⟩
      rw [hd]
      have HD := Lib.hid hd
      clear hd
      cases d
      · have HR := Lib.hid (alF HA.out HD.out)
        go_wp2
        go_ret
        exact ⟨ret_bool HR.out.symm, hB1⟩
      · go_wp2
        go_roundw
        case rel => exact ⟨j + 1, by omega, by go_num, hB1, alS HG.out HA.out HD.out⟩
        case measure => simp [RowKit.intOf]; omega
    · obtain rfl : n = j := by omega
      have HR := Lib.hid (alT HG.out (Nat.le_of_eq HL.out))
      go_wp2
      go_ret
      exact ⟨ret_bool HR.out.symm, hB⟩
set_option maxHeartbeats 1000000 in
theorem i_eachWholeI {w : World} {n c : Nat} {A : Option Addr} {l : List DWhole} (F : Nat) (f : DWhole → Int) (hE : ∀ (cs : Array Value) (w : World), Sem.run Tryz.prog (callFunc F #[Value.agg cs]) w = .ok (.enter F #[Value.agg cs]) w)
    (hF : ∀ (i : Nat) (a : DWhole) (w' : World) (cs : List Value), l[i]? = some a → Below w.heap.size w w' → tWhole.R w' w'.heap.size cs a → Calls Tryz.prog F #[.agg cs.toArray] w' fun e w2 => e = .returned (.int .i64 (f a)) ∧ Below w'.heap.size w' w2)
    (hW : ∀ a ∈ l, (Lit.int .i64 (f a)).wf = true) (hl : tWhole.row.R w w.heap.size [.slice A n c] l) (hn : n ≤ 1048576) :
    Calls Tryz.prog 72 #[.slice A n c, .func (.func F) #[] #[]] w fun e w' => ∃ v, e = .returned v ∧ Own .i64 3 w' w.heap.size v (l.map f) ∧ Below w.heap.size w w' := by
  obtain ⟨i0, hi0, hz0, hz1, hz2⟩ := info_parts info_ci
  obtain ⟨e0, _, _⟩ := rowR_len hl
  have HL := Lib.hid e0
  have HF := Lib.hid hF
  have HE := Lib.hid hE
  have HW := Lib.hid hW
  clear e0 hF hE hW
  go_enter Tryz.func72, Tryz.ntmps72
  go_wp2_with fail
  go_loopw [5, 10] (fun v i wr => ∃ j : Nat, j ≤ n ∧ i = .int .i64 j ∧ Own .i64 3 wr w.heap.size v ((l.take j).map f) ∧ Below w.heap.size w wr) (fun _ i _ => n - (RowKit.intOf i).toNat)
  case atStart => exact ⟨0, by omega, rfl, Own.nil _ _ _ _, (belx)⟩
  case round =>
    obtain ⟨j, hj, rfl, hO, hB⟩ := hrel
    by_cases hlt : j < n
    · obtain ⟨a, b', off, es, hl2, rfl, hb, hes, hR⟩ := rowR_at (K := 4) hl hlt rfl
      have HA := Lib.hid hl2
      have HS := Lib.hid (mapS (f := f) hl2)
      have HLN := Lib.hid (mapLen (f := f) (l := l) (j := j) (by rw [HL.out]; exact hj))
      have HI := Lib.hid (HW.out a (alMem hl2))
      clear hl2
      have hRk := hR
      obtain ⟨A2, n2, c2, rfl, -, -, -, -, -, -, -⟩ := openWhole hR
      have e0 : wr.cell? ⟨b', off + j * 4, none⟩ = some (.int .i64 a.1) := cell_at hB hb (hes 0 (by omega))
      have e1 : wr.cell? ⟨b', off + j * 4 + 1, none⟩ = some (.int .i64 a.2.1) := cell_at hB hb (hes 1 (by omega))
      have e2 : wr.cell? ⟨b', off + j * 4 + 2, none⟩ = some (.int .i64 a.2.2.1) := cell_at hB hb (hes 2 (by omega))
      have e3 : wr.cell? ⟨b', off + j * 4 + 3, none⟩ = some (.slice A2 n2 c2) := cell_at hB hb (hes 3 (by omega))
      clear hes hR
      go_wp2_with fail
      rw [HE.out, Oper.upon_enter]
      refine (HF.out j a _ _ HA.out ?hB (tWhole.reach hRk ?hB2)).mono ?_
      case hB => exact bel_trans (a := w) hB (belx)
      case hB2 => exact bel_trans (a := w) hB (belx)
      rintro e w1 ⟨rfl, hb1⟩
      obtain ⟨y, hy⟩ : ∃ y, f a = y := ⟨_, rfl⟩
      rw [hy] at HS HI
      rw [hy]
      clear hy
      have hs1 : Below wr.heap.size wr w1 := bel_trans (belx) hb1
      have hO2 := hO.below hs1
      have zz := hs1.size
      have zw := hB.size
      have hlen2 := HLN.out
      go_wp2_with (at_builtin; refine wpList_app _ rfl (.tmp 14) (.tmp 18) _ rfl w.heap.size 3 i0 _ 1 8 Tryz.underlying23 hi0 hz0 hz1 hz2 rfl (by omega) _ _ _ rfl (hO2.1.alloc _) _ 1 1 [.int .i64 y] rfl (Src.one _ _ _) (one_int _ _) (by simp only [maxLen]; omega) (by omega) (by simp; omega) ?_; intro v1 w3 hown hgr hat)
      go_roundw
      case rel => exact ⟨j + 1, by omega, by go_num, own_sn hO2 hown HS.out HI.out, below_sn (hB.trans (hs1.mono hB.size)) hO2 (Nat.le_refl _) hgr⟩
      case measure => simp [RowKit.intOf]; omega
    · obtain rfl : n = j := by omega
      have HA := Lib.hid (show l.take n = l from List.take_of_length_le (Nat.le_of_eq HL.out))
      rw [HA.out] at hO
      go_wp2
      go_ret
      exact ⟨_, rfl, hO, hB⟩
end Go.Proofs.YtaabmaoldhoinaaGreat
