/-
  TpI, TpW, TpD: texts joined.
-/
import Derived.Test.YtaabmaoldhoinaaGreatShelf
import Derived.Test.YtaabmaoldhoinaaGreatVGa
import Derived.Test.YtaabmaoldhoinaaGreatVGc
import Derived.Test.YtaabmaoldhoinaaGreatVGi
import Derived.Deep.RegionHeld3
namespace Go.Proofs.YtaabmaoldhoinaaGreat
set_option maxRecDepth 100000
set_option linter.unusedVariables false
set_option linter.unusedSimpArgs false
open Go.ChangeShapes Go.WideShapes Go.ChangeAt Go.RowKit
open Fld
section MapsOpen
open Go.Maps
/-- A look-up by number that tells whether there is one. -/
theorem MapW.look_ok {α : Type} {t : Ty α} {id : α → Int} {w : World} {B b n : Nat} {D : MD} {l : List α} {P : Program} {T K E : TypeId} {z : Value} (h : MapW t id w B D l) (hown : w.ownsMap P K mR b n D) (hK : P.underlying K = some (.int .i64)) (hT : P.underlying T = some (.map K E)) (hz : (zeroValue E).run P w = .ok z w) {i : Int} (hi : (Lit.int .i64 i).wf = true) :
    ∃ v, (∃ a es, a ∈ l ∧ id a = i ∧ v = .agg (List.toArray es) ∧ t.R w B es a ∧ (Instr.lookup T (.map (some b)) (.int .i64 i) true).run P w = .ok (.tuple #[v, .bool true]) w) ∨ ((∀ a ∈ l, id a ≠ i) ∧ v = z ∧ (Instr.lookup T (.map (some b)) (.int .i64 i) true).run P w = .ok (.tuple #[z, .bool false]) w) := by
  obtain ⟨v, ps, hrun, hv⟩ := hown.look_ok (int_keyed hK) hT hz (zd := .held z) (zp := []) rfl (keyOf_int_mk hK hi)
  have hv' : (DataW.held v : MD) = D.atKey (mK i) (.held z) := by
    have := congrArg (fun o => o.map Prod.fst) hv
    simpa [mR] using this
  by_cases hx : ∃ a ∈ l, id a = i
  · obtain ⟨a, ha, hai⟩ := hx
    obtain ⟨es, h1, h2⟩ := h.there a ha
    have hh := h.has1 a ha
    rw [hai] at h1 hh
    rw [h1] at hv'
    injection hv' with hv'
    rw [show has D (Lit.int .i64 i) = true from hh] at hrun
    exact ⟨v, .inl ⟨a, es, ha, hai, hv', h2, hrun⟩⟩
  · have h0 : ∀ a ∈ l, id a ≠ i := fun a ha e => hx ⟨a, ha, e⟩
    have hh := h.has0 i h0
    rw [atKey_of_not_has hh] at hv'
    injection hv' with hv'
    rw [show has D (Lit.int .i64 i) = false from hh, hv'] at hrun
    exact ⟨v, .inr ⟨h0, hv', hrun⟩⟩
end MapsOpen
theorem GrowR.past {α : Type} {t : Ty α} {e : TypeId} {w w' : World} {base B r : Nat} {v : Value} {l : List α} (h : GrowR t e w base B v l) (hg : w.grownBy w' (some r)) (h1 : B ≤ r) (h2 : ∀ b, v.ownBlock = some b → b ≠ r) (hw : B ≤ w.heap.size) : GrowR t e w' base B v l := by
  obtain ⟨css, k1, k2, k3⟩ := h
  exact ⟨css, k1.kept (row := some r) hg (.inr fun e => h2 _ e rfl), k2, fun i a es q1 q2 => t.keep (k3 i a es q1 q2) fun b hb => hg.block b (by omega) (fun e => by injection e with e; omega)⟩
theorem one_cells_Piece {w : World} {B : Nat} : ∀ es a, tPiece.R w B es a → ∀ u ∈ es, u.oneCell' = true := fun es a h u hu => by
  obtain ⟨A3, n3, c3, rfl, -⟩ := openPiece h
  simp only [List.mem_cons, List.not_mem_nil, or_false] at hu
  rcases hu with rfl | rfl | rfl | rfl <;> rfl
set_option maxHeartbeats 1000000 in
theorem i_copiedPc {w : World} {B n c : Nat} {A : Option Addr} {g : List DPiece} (hg : tPiece.row.R w B [.slice A n c] g) (hB : B ≤ w.heap.size) (hn : n ≤ 1048576) :
    Calls Tryz.prog 95 #[.slice A n c] w fun e w' => ∃ v, e = .returned v ∧ GrowR tPiece 37 w' w.heap.size B v g ∧ Below w.heap.size w w' := by
  obtain ⟨i1, hj0, hj1, hj2, hj3⟩ := info_parts info_Piece
  have tz : (Value.agg #[Value.int .i64 0, Value.int .i64 0, Value.int .i64 0, Value.slice none 0 0]).cells.size = 4 := by first | rfl | (simp [Value.cells]; done)
  go_enter Tryz.func95, Tryz.ntmps95
  go_wp2_with (at_builtin; refine GrowR.pushRow (t := tPiece) (e := 37) (base := w.heap.size) (B := B) (by rfl) _ (.tmp 3) _ (by rfl) i1 _ 4 48 Tryz.underlying51 hj0 hj1 hj2 hj3 tz (by omega) rfl (by rfl) GrowR.nil (by rfl) hg one_cells_Piece hB (Nat.le_refl _) (by simp only [maxLen, List.length_nil]; omega) (by simp only [List.length_nil]; omega) ?_; intro v2 w2 hG2 hgr2)
  go_ret
  exact ⟨_, rfl, by simpa using hG2, Below.grown (Below.refl _ _) hgr2 (Nat.le_refl _) (fun b hb => by simp [Value.ownBlock] at hb)⟩
abbrev PcE := Int × Int × Int × Option Addr × Nat × Nat
def encP (x : PcE) : List Value := [.int .i64 x.1, .int .i64 x.2.1, .int .i64 x.2.2.1, .slice x.2.2.2.1 x.2.2.2.2.1 x.2.2.2.2.2]
def cfP (x y : PcE) : Int := Lib.compareInt x.2.1 y.2.1
section SortOpen
open Go.Sort Go.Shelf Go.Lib
theorem cmpLt (a b : Int) : decide (Lib.compareInt a b < 0) = decide (a < b) := by
  unfold Lib.compareInt
  by_cases h : a < b
  · rw [if_pos h, decide_eq_true h]; rfl
  · rw [if_neg h, decide_eq_false h]
    split <;> rfl
theorem ltP (x y : PcE) : ltOf cfP x y = decide (x.2.1 < y.2.1) := cmpLt _ _
theorem swoP : SWO (ltOf cfP) := ⟨fun x => by rw [ltP]; simp, fun x y z h1 h2 => by rw [ltP] at *; simp at *; omega, fun x y z h1 h2 => by rw [ltP] at *; simp at *; omega⟩
set_option maxHeartbeats 1000000 in
theorem i_with1 (x y : PcE) (W : World) : Calls Tryz.prog 97 #[.agg (encP x).toArray, .agg (encP y).toArray] W fun e w' => e = .returned (.int .i64 (cfP x y)) ∧ ∃ q os', w' = grow (W.drewN q) os' := by
  obtain ⟨x0, x1, x2, xA, xn, xc⟩ := x
  obtain ⟨y0, y1, y2, yA, yn, yc⟩ := y
  show Calls Tryz.prog 97 #[.agg #[.int .i64 x0, .int .i64 x1, .int .i64 x2, .slice xA xn xc], .agg #[.int .i64 y0, .int .i64 y1, .int .i64 y2, .slice yA yn yc]] W fun e w' => e = .returned (.int .i64 (Lib.compareInt x1 y1)) ∧ ∃ q os', w' = grow (W.drewN q) os'
  have hcon := fun W' => Tryz.cmp_Compare_int x1 y1 W'
  change ∀ W', Calls Tryz.prog 98 _ _ _ at hcon
  generalize Lib.compareInt x1 y1 = r at hcon ⊢
  go_enter Tryz.func97, Tryz.ntmps97
  go_wp2_with (go_at_call 98; refine (hcon _).mono ?_; rintro e w' ⟨rfl, rfl⟩)
  go_ret
  exact ⟨rfl, 0, _, by rw [alloc_eq_grow, alloc_eq_grow, grow_grow]; rfl⟩
end SortOpen
section SortOpen
open Go.Sort Go.Shelf Go.Lib
theorem dec_Piece {w : World} {B : Nat} : ∀ es a, tPiece.R w B es a → ∃ x : PcE, encP x = es := fun es a h => by
  obtain ⟨A3, n3, c3, rfl, -⟩ := openPiece h
  exact ⟨(a.1, a.2.1, a.2.2.1, A3, n3, c3), rfl⟩
theorem at_Piece {w : World} {B : Nat} {x : PcE} {a : DPiece} (h : tPiece.R w B (encP x) a) : x.2.1 = a.2.1 := by
  obtain ⟨A3, n3, c3, e, -⟩ := openPiece h
  unfold encP at e
  injection e with _ e
  injection e with e _
  injection e
theorem i_hlen (n : Nat) (W : World) (h : n ≤ 12) : Calls Tryz.prog 100 #[.int .u64 n] W fun e w' => (∃ l : Int, e = .returned (.int .i64 l)) ∧ w' = W :=
  (Tryz.bits_Len n W (by omega) (by omega)).mono fun _ _ ⟨he, hw⟩ => ⟨⟨_, he⟩, hw⟩
/-- A row of pieces, each with a place of its own, sorted by them. -/
theorem i_SortPc {w : World} {base B : Nat} {v : Value} {l s : List DPiece} (h : GrowR tPiece 37 w base B v l) (hl : 0 < l.length) (hl2 : l.length ≤ 12) (hB : B ≤ base) (hs : s.Pairwise (fun a b => pAt a < pAt b)) (hp : l.Perm s) :
    Calls Tryz.prog 96 #[v, .func (.func 97) #[] #[]] w fun e w' => e = .returned (.tuple #[]) ∧ GrowR tPiece 37 w' base B v s ∧ w.grownBy w' v.ownBlock := by
  obtain ⟨g, cap, d, rfl, hd, hgb, hgl, hH, hR, hdone⟩ := h.sort (enc := encP) hl hB (fun _ => rfl) (by decide) dec_Piece
  have hc : CmpLays Tryz.prog 97 #[] encP 4 cfP g 0 d.size w := fun _ _ _ _ x y => i_with1 x y _
  have hcon := AnyQ.slices_SortFunc_small_sorted Tryz.sortPc 4 (fun w => Tryz.isAgg37 w) (fun w => Tryz.sizeOf37 w) encP (fun _ => rfl) (fun x v hv => by unfold encP at hv; simp only [List.mem_cons, List.not_mem_nil, or_false] at hv; rcases hv with rfl | rfl | rfl | rfl <;> rfl) cfP 97 #[] swoP g 0 cap d w (enters_of Tryz.func97 (by kernel_rfl) rfl) hc hH hgl (by omega) i_hlen
  refine hcon.mono ?_
  rintro e w' ⟨he, d', n, os, hperm, hsort, rfl⟩
  refine ⟨he, ?_⟩
  have hsz : d'.size = d.size := hperm.1
  have hP : d'.toList.Perm d.toList := by
    have h3 := hperm.2.2
    rw [show d.extract 0 d.size = d by simp, show d'.extract 0 d.size = d' by rw [← hsz]; simp] at h3
    exact h3
  obtain ⟨hgr, l', hl', hG, hRl⟩ := hdone d' n os hP
  have hll : l'.length = l.length := hl'.length_eq
  have : l' = s := by
    refine asc_permS (f := pAt) hs ?_ (hl'.trans hp)
    rw [List.pairwise_iff_getElem]
    intro i j hi hj hij
    have hi' : i < d'.size := by omega
    have hj' : j < d'.size := by omega
    have e1 := at_Piece (hRl i _ d'[i] (List.getElem?_eq_getElem hi) (by rw [Array.getElem?_toList]; exact Array.getElem?_eq_getElem hi'))
    have e2 := at_Piece (hRl j _ d'[j] (List.getElem?_eq_getElem hj) (by rw [Array.getElem?_toList]; exact Array.getElem?_eq_getElem hj'))
    have h4 := hsort i j (Nat.zero_le _) hij (by omega)
    rw [ltP, getElem!_pos d' j hj', getElem!_pos d' i hi', e1, e2] at h4
    have := of_decide_eq_false h4
    unfold pAt
    omega
  subst this
  exact ⟨hG, hgr⟩
end SortOpen
end Go.Proofs.YtaabmaoldhoinaaGreat
namespace Go.Proofs.YtaabmaoldhoinaaGreat
set_option maxRecDepth 100000
set_option linter.unusedVariables false
set_option linter.unusedSimpArgs false
open Go.ChangeShapes Go.WideShapes Go.ChangeAt Go.RowKit
open Fld
set_option maxHeartbeats 1600000 in
theorem i_with {w : World} {B0 n c n7 c7 : Nat} {A A7 : Option Addr} {x0 x1 x2 y0 y1 y2 : Int} {g : List DPiece} {qd : List Int} (hB0 : B0 ≤ w.heap.size) (hg : tPiece.row.R w B0 [.slice A n c] g) (hn : n ≤ 8) (hq : tPiece.R w B0 [.int .i64 y0, .int .i64 y1, .int .i64 y2, .slice A7 n7 c7] (y0, y1, y2, qd)) (hasc : Asc (g.map pAt)) (hne : ∀ p ∈ g, pAt p ≠ y1) :
    Calls Tryz.prog 50 #[.agg #[.int .i64 x0, .int .i64 x1, .int .i64 x2, .slice A n c], .agg #[.int .i64 y0, .int .i64 y1, .int .i64 y2, .slice A7 n7 c7]] w fun e w' => ∃ A' m' c', e = .returned (.agg #[.int .i64 x0, .int .i64 x1, .int .i64 x2, .slice A' m' c']) ∧ m' = (insB pAt (y0, y1, y2, qd) g).length ∧ GrowR tPiece 37 w' w.heap.size B0 (.slice A' m' c') (insB pAt (y0, y1, y2, qd) g) ∧ Below w.heap.size w w' := by
  obtain ⟨i1, hj0, hj1, hj2, hj3⟩ := info_parts info_Piece
  have E0 := Lib.hid (show g.length ≤ 8 by have := (rowR_len hg).1; omega)
  have tz : (Value.agg #[Value.int .i64 0, Value.int .i64 0, Value.int .i64 0, Value.slice none 0 0]).cells.size = 4 := by first | rfl | (simp [Value.cells]; done)
  have HPW := Lib.hid (insB_pw (f := pAt) (q := (y0, y1, y2, qd)) (asc_pairM (f := pAt) hasc))
  have HPM := Lib.hid (insB_perm (f := pAt) (q := (y0, y1, y2, qd)) hne).symm
  clear hasc hne
  have P0 : Box (((w.alloc (.cells #[.int .i64 x0, .int .i64 x1, .int .i64 x2, .slice A n c] 53)).alloc (.cells #[.int .i64 y0, .int .i64 y1, .int .i64 y2, .slice A7 n7 c7] 37)).alloc (.cells #[.int .i64 0, .int .i64 0, .int .i64 0, .slice none 0 0] 53)) w.heap.size 53 #[.int .i64 x0, .int .i64 x1, .int .i64 x2, .slice A n c] := ((Box.new w _ _).alloc _).alloc _
  have P1 : Box (((w.alloc (.cells #[.int .i64 x0, .int .i64 x1, .int .i64 x2, .slice A n c] 53)).alloc (.cells #[.int .i64 y0, .int .i64 y1, .int .i64 y2, .slice A7 n7 c7] 37)).alloc (.cells #[.int .i64 0, .int .i64 0, .int .i64 0, .slice none 0 0] 53)) (w.heap.size + 1) 37 #[.int .i64 y0, .int .i64 y1, .int .i64 y2, .slice A7 n7 c7] := Box.alloc (by simpa using Box.new (w.alloc (.cells #[.int .i64 x0, .int .i64 x1, .int .i64 x2, .slice A n c] 53)) 37 #[.int .i64 y0, .int .i64 y1, .int .i64 y2, .slice A7 n7 c7]) _
  have P2 : Box (((w.alloc (.cells #[.int .i64 x0, .int .i64 x1, .int .i64 x2, .slice A n c] 53)).alloc (.cells #[.int .i64 y0, .int .i64 y1, .int .i64 y2, .slice A7 n7 c7] 37)).alloc (.cells #[.int .i64 0, .int .i64 0, .int .i64 0, .slice none 0 0] 53)) (w.heap.size + 1 + 1) 53 #[.int .i64 0, .int .i64 0, .int .i64 0, .slice none 0 0] := by simpa using Box.new ((w.alloc (.cells #[.int .i64 x0, .int .i64 x1, .int .i64 x2, .slice A n c] 53)).alloc (.cells #[.int .i64 y0, .int .i64 y1, .int .i64 y2, .slice A7 n7 c7] 37)) 53 #[.int .i64 0, .int .i64 0, .int .i64 0, .slice none 0 0]
  have P0b := P0.alloc (.cells [.int .i64 y0, .int .i64 y1, .int .i64 y2, .slice A7 n7 c7].toArray 37)
  have P1b := P1.alloc (.cells [.int .i64 y0, .int .i64 y1, .int .i64 y2, .slice A7 n7 c7].toArray 37)
  have P2b := P2.alloc (.cells [.int .i64 y0, .int .i64 y1, .int .i64 y2, .slice A7 n7 c7].toArray 37)
  have PBb : Box ((((w.alloc (.cells #[.int .i64 x0, .int .i64 x1, .int .i64 x2, .slice A n c] 53)).alloc (.cells #[.int .i64 y0, .int .i64 y1, .int .i64 y2, .slice A7 n7 c7] 37)).alloc (.cells #[.int .i64 0, .int .i64 0, .int .i64 0, .slice none 0 0] 53)).alloc (.cells [.int .i64 y0, .int .i64 y1, .int .i64 y2, .slice A7 n7 c7].toArray 37)) (w.heap.size + 3) 37 [.int .i64 y0, .int .i64 y1, .int .i64 y2, .slice A7 n7 c7].toArray := by simpa using Box.new (((w.alloc (.cells #[.int .i64 x0, .int .i64 x1, .int .i64 x2, .slice A n c] 53)).alloc (.cells #[.int .i64 y0, .int .i64 y1, .int .i64 y2, .slice A7 n7 c7] 37)).alloc (.cells #[.int .i64 0, .int .i64 0, .int .i64 0, .slice none 0 0] 53)) 37 [.int .i64 y0, .int .i64 y1, .int .i64 y2, .slice A7 n7 c7].toArray
  have k3 := P0.cell 3
  have k3b := P0b.cell 3
  go_enter Tryz.func50, Tryz.ntmps50
  go_wp2_with fail
  refine wp_region_held_drew (S := (fun w' => w'.cell? ⟨w.heap.size + 1, 0, none⟩ = some (.int .i64 y0) ∧ w'.cell? ⟨w.heap.size + 1, 1, none⟩ = some (.int .i64 y1) ∧ w'.cell? ⟨w.heap.size + 1, 2, none⟩ = some (.int .i64 y2) ∧ w'.cell? ⟨w.heap.size + 1, 3, none⟩ = some (.slice A7 n7 c7))) (by kernel_rfl) (by exact ⟨(P1).cell 0, (P1).cell 1, (P1).cell 2, (P1).cell 3⟩) (fun hHeld => ?_)
  refine wpAnyH_take (i := 0) (oi := ⟨some 5, _, _, _, _, _⟩) (v := ?v1) rfl (by kernel_rfl) (by kernel_rfl) (by kernel_rfl) (fun _ _ _ h => h) (Or.inl ⟨by rfl, ?hy1⟩) (by assumption) ?_
  case hy1 => (intro w hSw; (try dsimp only at hSw); go_simp; try (with_reducible rfl))
  (try simp only [Act.put, qa_, qb_, qc_])
  refine wpAnyH_take (i := 3) (oi := ⟨some 8, _, _, _, _, _⟩) (v := ?v2) rfl (by kernel_rfl) (by kernel_rfl) (by kernel_rfl) (fun _ _ _ h => h) (Or.inl ⟨by rfl, ?hy2⟩) (by assumption) ?_
  case hy2 => (intro w hSw; (try dsimp only at hSw); go_simp; try (with_reducible rfl))
  (try simp only [Act.put, qa_, qb_, qc_])
  refine wpAnyH_ready (rs := [1, 4]) (by kernel_rfl) (by simp) ?_
  refine AllReadyH.cons rfl (fun K hK => ?_) ?_
  · go_simp
    refine hK.out _ _ (by exact ⟨(P1).cell 0, (P1).cell 1, (P1).cell 2, (P1).cell 3⟩) (fun hHeld => ?_)
    clear hK K
    (try simp only [Act.put, qa_, qb_, qc_])
    refine wpAnyH_ready (rs := [2, 4]) (by kernel_rfl) (by simp) ?_
    refine AllReadyH.cons rfl (fun K hK => ?_) ?_
    · go_simp
      go_at_call 95
      refine (i_copiedPc (w := (((w.alloc (.cells #[.int .i64 x0, .int .i64 x1, .int .i64 x2, .slice A n c] 53)).alloc (.cells #[.int .i64 y0, .int .i64 y1, .int .i64 y2, .slice A7 n7 c7] 37)).alloc (.cells #[.int .i64 0, .int .i64 0, .int .i64 0, .slice none 0 0] 53)).drew) (B := B0) (tPiece.row.keep hg (fun b hb => (show Below w.heap.size w ((((w.alloc (.cells #[.int .i64 x0, .int .i64 x1, .int .i64 x2, .slice A n c] 53)).alloc (.cells #[.int .i64 y0, .int .i64 y1, .int .i64 y2, .slice A7 n7 c7] 37)).alloc (.cells #[.int .i64 0, .int .i64 0, .int .i64 0, .slice none 0 0] 53)).drew) from (belx)).block b (by omega))) (by show _ ≤ (((w.alloc (.cells #[.int .i64 x0, .int .i64 x1, .int .i64 x2, .slice A n c] 53)).alloc (.cells #[.int .i64 y0, .int .i64 y1, .int .i64 y2, .slice A7 n7 c7] 37)).alloc (.cells #[.int .i64 0, .int .i64 0, .int .i64 0, .slice none 0 0] 53)).heap.size; simp; omega) (by omega)).mono ?_
      rintro e w3 ⟨v3, rfl, hG3, hb3⟩
      obtain ⟨A3, n3, c3, rfl, hn3⟩ := hG3.shapeN
      have HN3 := Lib.hid hn3
      clear hn3
      have hs3 : Below w.heap.size w w3 := bel_trans (show Below w.heap.size w (((w.alloc (.cells #[.int .i64 x0, .int .i64 x1, .int .i64 x2, .slice A n c] 53)).alloc (.cells #[.int .i64 y0, .int .i64 y1, .int .i64 y2, .slice A7 n7 c7] 37)).alloc (.cells #[.int .i64 0, .int .i64 0, .int .i64 0, .slice none 0 0] 53)) from (belx)) (bel_trans (bel_drew (Below.refl _ _)) hb3)
      have z3 : w.heap.size + 3 ≤ w3.heap.size := by have h : (((w.alloc (.cells #[.int .i64 x0, .int .i64 x1, .int .i64 x2, .slice A n c] 53)).alloc (.cells #[.int .i64 y0, .int .i64 y1, .int .i64 y2, .slice A7 n7 c7] 37)).alloc (.cells #[.int .i64 0, .int .i64 0, .int .i64 0, .slice none 0 0] 53)).heap.size ≤ w3.heap.size := hb3.size; simpa using h
      have hG3 : GrowR tPiece 37 w3 (w.heap.size + 3) B0 (.slice A3 n3 c3) g := hG3.lower (by show _ ≤ (((w.alloc (.cells #[.int .i64 x0, .int .i64 x1, .int .i64 x2, .slice A n c] 53)).alloc (.cells #[.int .i64 y0, .int .i64 y1, .int .i64 y2, .slice A7 n7 c7] 37)).alloc (.cells #[.int .i64 0, .int .i64 0, .int .i64 0, .slice none 0 0] 53)).heap.size; simp)
      have F0 := Box.below (Box.drew P0) hb3 (Box.drew P0).size
      have F1 := Box.below (Box.drew P1) hb3 (Box.drew P1).size
      have F2 := Box.below (Box.drew P2) hb3 (Box.drew P2).size
      have f30 := F0.cell 3
      go_wp2_with fail
      refine hK.out _ _ (by exact ⟨(F1).cell 0, (F1).cell 1, (F1).cell 2, (F1).cell 3⟩) (fun hHeld => ?_)
      clear hK K
      (try simp only [Act.put, qa_, qb_, qc_])
      refine wpAnyH_ready (rs := [4]) (by kernel_rfl) (by simp) ?_
      refine AllReadyH.cons rfl (fun K hK => ?_) ?_
      · go_simp
        refine hK.out _ _ (by exact ⟨(F1.alloc _).cell 0, (F1.alloc _).cell 1, (F1.alloc _).cell 2, (F1.alloc _).cell 3⟩) (fun hHeld => ?_)
        clear hK K
        (try simp only [Act.put, qa_, qb_, qc_])
        refine wpAnyH_ready (rs := [5]) (by kernel_rfl) (by simp) ?_
        refine AllReadyH.cons rfl (fun K hK => ?_) ?_
        · refine GrowR.step (t := tPiece) (e := 37) (w := (w3.alloc (.cells [.int .i64 y0, .int .i64 y1, .int .i64 y2, .slice A7 n7 c7].toArray 37))) (base := w.heap.size + 3) (B := B0) (by rfl) (.tmp 7) (.tmp 9) _ (by rfl) i1 _ 4 48 Tryz.underlying51 hj0 hj1 hj2 hj3 tz (by omega) rfl (by rfl) (hG3.below (belx) (by omega)) w3.heap.size [.int .i64 y0, .int .i64 y1, .int .i64 y2, .slice A7 n7 c7] (y0, y1, y2, qd) (by rfl) (Box.new w3 37 _) (tPiece.keep hq (fun b hb => (bel_alloc hs3 _).block b (by omega))) (by intro u hu; simp only [List.mem_cons, List.not_mem_nil, or_false] at hu; rcases hu with rfl | rfl | rfl | rfl <;> rfl) (by omega) (by first | omega | (simp; omega)) (by have := E0.out; simp only [maxLen]; omega) (by have := E0.out; omega) ?_
          intro v4 w4 hG4 hgr4
          obtain ⟨A4, n4, c4, rfl, hn4⟩ := hG4.shapeN
          have HN4 := Lib.hid hn4
          clear hn4
          have hOwn := hG3.own
          have hs4 : Below w.heap.size w w4 := Below.grown (w := (w3.alloc (.cells [.int .i64 y0, .int .i64 y1, .int .i64 y2, .slice A7 n7 c7].toArray 37))) (bel_alloc hs3 _) hgr4 (by first | omega | (simp; omega)) (fun b hb => by have := (hOwn b hb).1; omega)
          have G0 := Box.grown (w := (w3.alloc (.cells [.int .i64 y0, .int .i64 y1, .int .i64 y2, .slice A7 n7 c7].toArray 37))) (F0.alloc _) hgr4 (fun e => by have := (hOwn _ e.symm).1; omega)
          have G1 := Box.grown (w := (w3.alloc (.cells [.int .i64 y0, .int .i64 y1, .int .i64 y2, .slice A7 n7 c7].toArray 37))) (F1.alloc _) hgr4 (fun e => by have := (hOwn _ e.symm).1; omega)
          have G2 := Box.grown (w := (w3.alloc (.cells [.int .i64 y0, .int .i64 y1, .int .i64 y2, .slice A7 n7 c7].toArray 37))) (F2.alloc _) hgr4 (fun e => by have := (hOwn _ e.symm).1; omega)
          have z4 : w.heap.size + 3 ≤ w4.heap.size := G2.size
          have g03 := G0.cell 3; have g0f := G0.frozen 3
          have H0 := G0.put 3 (.slice A4 n4 c4)
          have H1 := G1.far (p := ⟨w.heap.size, 3, none⟩) (by show ¬ w.heap.size + 1 = w.heap.size; omega) (.slice A4 n4 c4)
          have H2 := G2.far (p := ⟨w.heap.size, 3, none⟩) (by show ¬ w.heap.size + 1 + 1 = w.heap.size; omega) (.slice A4 n4 c4)
          have h03 := H0.cell 3
          refine hK.out _ _ (by exact ⟨(G1).cell 0, (G1).cell 1, (G1).cell 2, (G1).cell 3⟩) (fun hHeld => ?_)
          clear hK K
          (try simp only [Act.put, qa_, qb_, qc_])
          refine wpAnyH_take (i := 6) (oi := ⟨some 11, _, _, _, _, _⟩) (v := ?v3) rfl (by kernel_rfl) (by kernel_rfl) (by kernel_rfl) (fun _ _ _ h => h) (Or.inl ⟨by rfl, ?hy3⟩) (by assumption) ?_
          case hy3 => (intro w hSw; (try dsimp only at hSw); go_simp; try (with_reducible rfl))
          (try simp only [Act.put, qa_, qb_, qc_])
          refine wpAnyH_ready (rs := [7]) (by kernel_rfl) (by simp) ?_
          refine AllReadyH.cons rfl (fun K hK => ?_) ?_
          · go_simp
            refine hK.out _ _ (by exact ⟨(H1).cell 0, (H1).cell 1, (H1).cell 2, (H1).cell 3⟩) (fun hHeld => ?_)
            clear hK K
            (try simp only [Act.put, qa_, qb_, qc_])
            refine wpAnyH_done (by kernel_rfl) ?_ _
            go_wp2_with fail
            have hG5 := hG4.put (p := ⟨w.heap.size, 3, none⟩) (by show w.heap.size < _; omega) hB0 (.slice A4 n4 c4)
            have hB5 := bel_put hs4 (p := ⟨w.heap.size, 3, none⟩) (Nat.le_refl _) (.slice A4 n4 c4)
            refine (i_SortPc hG5 (by simp) (by rw [List.length_append, List.length_singleton]; have := E0.out; omega) (by omega) HPW.out HPM.out).mono ?_
            rintro e w6 ⟨rfl, hG6, hgr6⟩
            have hOwn6 := hG5.own
            obtain ⟨A6_, n6_, c6_, e6_, hn6⟩ := hG6.shapeN
            have HN6 := Lib.hid (show n4 = (insB pAt (y0, y1, y2, qd) g).length by injection e6_ with _ e2 _; rw [e2]; exact hn6)
            clear hn6 e6_
            have K0 := Box.grown H0 hgr6 (fun e => by have := (hOwn6 _ e.symm).1; omega)
            have K2 := Box.grown H2 hgr6 (fun e => by have := (hOwn6 _ e.symm).1; omega)
            have hB6 : Below w.heap.size w w6 := Below.grown hB5 hgr6 (by simp [World.setCell]; omega) (fun b hb => by have := (hOwn6 b hb).1; omega)
            have k0 := K0.cell 0; have k1 := K0.cell 1; have k2 := K0.cell 2; have k3 := K0.cell 3; have r0 := K2.cell 0; have r1 := K2.cell 1; have r2 := K2.cell 2; have r3 := K2.cell 3; have rf0 := K2.frozen 0; have rf1 := K2.frozen 1; have rf2 := K2.frozen 2; have rf3 := K2.frozen 3
            go_wp2
            have RR := (((K2.put 0 (.int .i64 x0)).put 1 (.int .i64 x1)).put 2 (.int .i64 x2)).put 3 (.slice A4 n4 c4)
            have s0 := RR.cell 0; have s1 := RR.cell 1; have s2 := RR.cell 2; have s3 := RR.cell 3
            have GX := ((((hG6.put (p := ⟨w.heap.size + 1 + 1, 0, none⟩) (by show w.heap.size + 1 + 1 < _; omega) (by show _ ≤ w.heap.size + 1 + 1; omega) (.int .i64 x0)).put (p := ⟨w.heap.size + 1 + 1, 1, none⟩) (by show w.heap.size + 1 + 1 < _; omega) (by show _ ≤ w.heap.size + 1 + 1; omega) (.int .i64 x1)).put (p := ⟨w.heap.size + 1 + 1, 2, none⟩) (by show w.heap.size + 1 + 1 < _; omega) (by show _ ≤ w.heap.size + 1 + 1; omega) (.int .i64 x2)).put (p := ⟨w.heap.size + 1 + 1, 3, none⟩) (by show w.heap.size + 1 + 1 < _; omega) (by show _ ≤ w.heap.size + 1 + 1; omega) (.slice A4 n4 c4))
            have BX := (bel_put (bel_put (bel_put (bel_put hB6 (p := ⟨w.heap.size + 1 + 1, 0, none⟩) (by show _ ≤ w.heap.size + 1 + 1; omega) (.int .i64 x0)) (p := ⟨w.heap.size + 1 + 1, 1, none⟩) (by show _ ≤ w.heap.size + 1 + 1; omega) (.int .i64 x1)) (p := ⟨w.heap.size + 1 + 1, 2, none⟩) (by show _ ≤ w.heap.size + 1 + 1; omega) (.int .i64 x2)) (p := ⟨w.heap.size + 1 + 1, 3, none⟩) (by show _ ≤ w.heap.size + 1 + 1; omega) (.slice A4 n4 c4))
            refine bodyPost_ret (v := .agg #[.int .i64 x0, .int .i64 x1, .int .i64 x2, .slice A4 n4 c4]) (by simp [results, Tryz.results50, go_sem, s0, s1, s2, s3]) rfl ⟨A4, n4, c4, rfl, HN6.out, GX.lower (by omega), BX⟩
          exact AllReadyH.nil
        exact AllReadyH.nil
      exact AllReadyH.nil
    refine AllReadyH.cons rfl (fun K hK => ?_) ?_
    · go_simp
      refine hK.out _ _ (by exact ⟨(P1b).cell 0, (P1b).cell 1, (P1b).cell 2, (P1b).cell 3⟩) (fun hHeld => ?_)
      clear hK K
      (try simp only [Act.put, qa_, qb_, qc_])
      refine wpAnyH_ready (rs := [2]) (by kernel_rfl) (by simp) ?_
      refine AllReadyH.cons rfl (fun K hK => ?_) ?_
      · go_simp
        go_at_call 95
        refine (i_copiedPc (w := ((((w.alloc (.cells #[.int .i64 x0, .int .i64 x1, .int .i64 x2, .slice A n c] 53)).alloc (.cells #[.int .i64 y0, .int .i64 y1, .int .i64 y2, .slice A7 n7 c7] 37)).alloc (.cells #[.int .i64 0, .int .i64 0, .int .i64 0, .slice none 0 0] 53)).alloc (.cells [.int .i64 y0, .int .i64 y1, .int .i64 y2, .slice A7 n7 c7].toArray 37)).drew) (B := B0) (tPiece.row.keep hg (fun b hb => (show Below w.heap.size w (((((w.alloc (.cells #[.int .i64 x0, .int .i64 x1, .int .i64 x2, .slice A n c] 53)).alloc (.cells #[.int .i64 y0, .int .i64 y1, .int .i64 y2, .slice A7 n7 c7] 37)).alloc (.cells #[.int .i64 0, .int .i64 0, .int .i64 0, .slice none 0 0] 53)).alloc (.cells [.int .i64 y0, .int .i64 y1, .int .i64 y2, .slice A7 n7 c7].toArray 37)).drew) from (belx)).block b (by omega))) (by show _ ≤ ((((w.alloc (.cells #[.int .i64 x0, .int .i64 x1, .int .i64 x2, .slice A n c] 53)).alloc (.cells #[.int .i64 y0, .int .i64 y1, .int .i64 y2, .slice A7 n7 c7] 37)).alloc (.cells #[.int .i64 0, .int .i64 0, .int .i64 0, .slice none 0 0] 53)).alloc (.cells [.int .i64 y0, .int .i64 y1, .int .i64 y2, .slice A7 n7 c7].toArray 37)).heap.size; simp; omega) (by omega)).mono ?_
        rintro e w3 ⟨v3, rfl, hG3, hb3⟩
        obtain ⟨A3, n3, c3, rfl, hn3⟩ := hG3.shapeN
        have HN3 := Lib.hid hn3
        clear hn3
        have hs3 : Below w.heap.size w w3 := bel_trans (show Below w.heap.size w ((((w.alloc (.cells #[.int .i64 x0, .int .i64 x1, .int .i64 x2, .slice A n c] 53)).alloc (.cells #[.int .i64 y0, .int .i64 y1, .int .i64 y2, .slice A7 n7 c7] 37)).alloc (.cells #[.int .i64 0, .int .i64 0, .int .i64 0, .slice none 0 0] 53)).alloc (.cells [.int .i64 y0, .int .i64 y1, .int .i64 y2, .slice A7 n7 c7].toArray 37)) from (belx)) (bel_trans (bel_drew (Below.refl _ _)) hb3)
        have z3 : w.heap.size + 4 ≤ w3.heap.size := by have h : ((((w.alloc (.cells #[.int .i64 x0, .int .i64 x1, .int .i64 x2, .slice A n c] 53)).alloc (.cells #[.int .i64 y0, .int .i64 y1, .int .i64 y2, .slice A7 n7 c7] 37)).alloc (.cells #[.int .i64 0, .int .i64 0, .int .i64 0, .slice none 0 0] 53)).alloc (.cells [.int .i64 y0, .int .i64 y1, .int .i64 y2, .slice A7 n7 c7].toArray 37)).heap.size ≤ w3.heap.size := hb3.size; simpa using h
        have hG3 : GrowR tPiece 37 w3 (w.heap.size + 3) B0 (.slice A3 n3 c3) g := hG3.lower (by show _ ≤ ((((w.alloc (.cells #[.int .i64 x0, .int .i64 x1, .int .i64 x2, .slice A n c] 53)).alloc (.cells #[.int .i64 y0, .int .i64 y1, .int .i64 y2, .slice A7 n7 c7] 37)).alloc (.cells #[.int .i64 0, .int .i64 0, .int .i64 0, .slice none 0 0] 53)).alloc (.cells [.int .i64 y0, .int .i64 y1, .int .i64 y2, .slice A7 n7 c7].toArray 37)).heap.size; simp)
        have F0 := Box.below (Box.drew P0b) hb3 (Box.drew P0b).size
        have F1 := Box.below (Box.drew P1b) hb3 (Box.drew P1b).size
        have F2 := Box.below (Box.drew P2b) hb3 (Box.drew P2b).size
        have FB := Box.below (Box.drew PBb) hb3 (Box.drew PBb).size
        have f30 := F0.cell 3
        go_wp2_with fail
        refine hK.out _ _ (by exact ⟨(F1).cell 0, (F1).cell 1, (F1).cell 2, (F1).cell 3⟩) (fun hHeld => ?_)
        clear hK K
        (try simp only [Act.put, qa_, qb_, qc_])
        refine wpAnyH_ready (rs := [5]) (by kernel_rfl) (by simp) ?_
        refine AllReadyH.cons rfl (fun K hK => ?_) ?_
        · refine GrowR.step (t := tPiece) (e := 37) (w := w3) (base := w.heap.size + 3) (B := B0) (by rfl) (.tmp 7) (.tmp 9) _ (by rfl) i1 _ 4 48 Tryz.underlying51 hj0 hj1 hj2 hj3 tz (by omega) rfl (by rfl) hG3 (w.heap.size + 3) [.int .i64 y0, .int .i64 y1, .int .i64 y2, .slice A7 n7 c7] (y0, y1, y2, qd) (by rfl) FB (tPiece.keep hq (fun b hb => hs3.block b (by omega))) (by intro u hu; simp only [List.mem_cons, List.not_mem_nil, or_false] at hu; rcases hu with rfl | rfl | rfl | rfl <;> rfl) (by omega) (by first | omega | (simp; omega)) (by have := E0.out; simp only [maxLen]; omega) (by have := E0.out; omega) ?_
          intro v4 w4 hG4 hgr4
          obtain ⟨A4, n4, c4, rfl, hn4⟩ := hG4.shapeN
          have HN4 := Lib.hid hn4
          clear hn4
          have hOwn := hG3.own
          have hs4 : Below w.heap.size w w4 := Below.grown (w := w3) hs3 hgr4 (by first | omega | (simp; omega)) (fun b hb => by have := (hOwn b hb).1; omega)
          have G0 := Box.grown (w := w3) F0 hgr4 (fun e => by have := (hOwn _ e.symm).1; omega)
          have G1 := Box.grown (w := w3) F1 hgr4 (fun e => by have := (hOwn _ e.symm).1; omega)
          have G2 := Box.grown (w := w3) F2 hgr4 (fun e => by have := (hOwn _ e.symm).1; omega)
          have z4 : w.heap.size + 3 ≤ w4.heap.size := G2.size
          have g03 := G0.cell 3; have g0f := G0.frozen 3
          have H0 := G0.put 3 (.slice A4 n4 c4)
          have H1 := G1.far (p := ⟨w.heap.size, 3, none⟩) (by show ¬ w.heap.size + 1 = w.heap.size; omega) (.slice A4 n4 c4)
          have H2 := G2.far (p := ⟨w.heap.size, 3, none⟩) (by show ¬ w.heap.size + 1 + 1 = w.heap.size; omega) (.slice A4 n4 c4)
          have h03 := H0.cell 3
          refine hK.out _ _ (by exact ⟨(G1).cell 0, (G1).cell 1, (G1).cell 2, (G1).cell 3⟩) (fun hHeld => ?_)
          clear hK K
          (try simp only [Act.put, qa_, qb_, qc_])
          refine wpAnyH_take (i := 6) (oi := ⟨some 11, _, _, _, _, _⟩) (v := ?v4) rfl (by kernel_rfl) (by kernel_rfl) (by kernel_rfl) (fun _ _ _ h => h) (Or.inl ⟨by rfl, ?hy4⟩) (by assumption) ?_
          case hy4 => (intro w hSw; (try dsimp only at hSw); go_simp; try (with_reducible rfl))
          (try simp only [Act.put, qa_, qb_, qc_])
          refine wpAnyH_ready (rs := [7]) (by kernel_rfl) (by simp) ?_
          refine AllReadyH.cons rfl (fun K hK => ?_) ?_
          · go_simp
            refine hK.out _ _ (by exact ⟨(H1).cell 0, (H1).cell 1, (H1).cell 2, (H1).cell 3⟩) (fun hHeld => ?_)
            clear hK K
            (try simp only [Act.put, qa_, qb_, qc_])
            refine wpAnyH_done (by kernel_rfl) ?_ _
            go_wp2_with fail
            have hG5 := hG4.put (p := ⟨w.heap.size, 3, none⟩) (by show w.heap.size < _; omega) hB0 (.slice A4 n4 c4)
            have hB5 := bel_put hs4 (p := ⟨w.heap.size, 3, none⟩) (Nat.le_refl _) (.slice A4 n4 c4)
            refine (i_SortPc hG5 (by simp) (by rw [List.length_append, List.length_singleton]; have := E0.out; omega) (by omega) HPW.out HPM.out).mono ?_
            rintro e w6 ⟨rfl, hG6, hgr6⟩
            have hOwn6 := hG5.own
            obtain ⟨A6_, n6_, c6_, e6_, hn6⟩ := hG6.shapeN
            have HN6 := Lib.hid (show n4 = (insB pAt (y0, y1, y2, qd) g).length by injection e6_ with _ e2 _; rw [e2]; exact hn6)
            clear hn6 e6_
            have K0 := Box.grown H0 hgr6 (fun e => by have := (hOwn6 _ e.symm).1; omega)
            have K2 := Box.grown H2 hgr6 (fun e => by have := (hOwn6 _ e.symm).1; omega)
            have hB6 : Below w.heap.size w w6 := Below.grown hB5 hgr6 (by simp [World.setCell]; omega) (fun b hb => by have := (hOwn6 b hb).1; omega)
            have k0 := K0.cell 0; have k1 := K0.cell 1; have k2 := K0.cell 2; have k3 := K0.cell 3; have r0 := K2.cell 0; have r1 := K2.cell 1; have r2 := K2.cell 2; have r3 := K2.cell 3; have rf0 := K2.frozen 0; have rf1 := K2.frozen 1; have rf2 := K2.frozen 2; have rf3 := K2.frozen 3
            go_wp2
            have RR := (((K2.put 0 (.int .i64 x0)).put 1 (.int .i64 x1)).put 2 (.int .i64 x2)).put 3 (.slice A4 n4 c4)
            have s0 := RR.cell 0; have s1 := RR.cell 1; have s2 := RR.cell 2; have s3 := RR.cell 3
            have GX := ((((hG6.put (p := ⟨w.heap.size + 1 + 1, 0, none⟩) (by show w.heap.size + 1 + 1 < _; omega) (by show _ ≤ w.heap.size + 1 + 1; omega) (.int .i64 x0)).put (p := ⟨w.heap.size + 1 + 1, 1, none⟩) (by show w.heap.size + 1 + 1 < _; omega) (by show _ ≤ w.heap.size + 1 + 1; omega) (.int .i64 x1)).put (p := ⟨w.heap.size + 1 + 1, 2, none⟩) (by show w.heap.size + 1 + 1 < _; omega) (by show _ ≤ w.heap.size + 1 + 1; omega) (.int .i64 x2)).put (p := ⟨w.heap.size + 1 + 1, 3, none⟩) (by show w.heap.size + 1 + 1 < _; omega) (by show _ ≤ w.heap.size + 1 + 1; omega) (.slice A4 n4 c4))
            have BX := (bel_put (bel_put (bel_put (bel_put hB6 (p := ⟨w.heap.size + 1 + 1, 0, none⟩) (by show _ ≤ w.heap.size + 1 + 1; omega) (.int .i64 x0)) (p := ⟨w.heap.size + 1 + 1, 1, none⟩) (by show _ ≤ w.heap.size + 1 + 1; omega) (.int .i64 x1)) (p := ⟨w.heap.size + 1 + 1, 2, none⟩) (by show _ ≤ w.heap.size + 1 + 1; omega) (.int .i64 x2)) (p := ⟨w.heap.size + 1 + 1, 3, none⟩) (by show _ ≤ w.heap.size + 1 + 1; omega) (.slice A4 n4 c4))
            refine bodyPost_ret (v := .agg #[.int .i64 x0, .int .i64 x1, .int .i64 x2, .slice A4 n4 c4]) (by simp [results, Tryz.results50, go_sem, s0, s1, s2, s3]) rfl ⟨A4, n4, c4, rfl, HN6.out, GX.lower (by omega), BX⟩
          exact AllReadyH.nil
        exact AllReadyH.nil
      exact AllReadyH.nil
    exact AllReadyH.nil
  refine AllReadyH.cons rfl (fun K hK => ?_) ?_
  · go_simp
    refine hK.out _ _ (by exact ⟨(P1b).cell 0, (P1b).cell 1, (P1b).cell 2, (P1b).cell 3⟩) (fun hHeld => ?_)
    clear hK K
    (try simp only [Act.put, qa_, qb_, qc_])
    refine wpAnyH_ready (rs := [1]) (by kernel_rfl) (by simp) ?_
    refine AllReadyH.cons rfl (fun K hK => ?_) ?_
    · go_simp
      refine hK.out _ _ (by exact ⟨(P1b).cell 0, (P1b).cell 1, (P1b).cell 2, (P1b).cell 3⟩) (fun hHeld => ?_)
      clear hK K
      (try simp only [Act.put, qa_, qb_, qc_])
      refine wpAnyH_ready (rs := [2]) (by kernel_rfl) (by simp) ?_
      refine AllReadyH.cons rfl (fun K hK => ?_) ?_
      · go_simp
        go_at_call 95
        refine (i_copiedPc (w := ((((w.alloc (.cells #[.int .i64 x0, .int .i64 x1, .int .i64 x2, .slice A n c] 53)).alloc (.cells #[.int .i64 y0, .int .i64 y1, .int .i64 y2, .slice A7 n7 c7] 37)).alloc (.cells #[.int .i64 0, .int .i64 0, .int .i64 0, .slice none 0 0] 53)).alloc (.cells [.int .i64 y0, .int .i64 y1, .int .i64 y2, .slice A7 n7 c7].toArray 37)).drew) (B := B0) (tPiece.row.keep hg (fun b hb => (show Below w.heap.size w (((((w.alloc (.cells #[.int .i64 x0, .int .i64 x1, .int .i64 x2, .slice A n c] 53)).alloc (.cells #[.int .i64 y0, .int .i64 y1, .int .i64 y2, .slice A7 n7 c7] 37)).alloc (.cells #[.int .i64 0, .int .i64 0, .int .i64 0, .slice none 0 0] 53)).alloc (.cells [.int .i64 y0, .int .i64 y1, .int .i64 y2, .slice A7 n7 c7].toArray 37)).drew) from (belx)).block b (by omega))) (by show _ ≤ ((((w.alloc (.cells #[.int .i64 x0, .int .i64 x1, .int .i64 x2, .slice A n c] 53)).alloc (.cells #[.int .i64 y0, .int .i64 y1, .int .i64 y2, .slice A7 n7 c7] 37)).alloc (.cells #[.int .i64 0, .int .i64 0, .int .i64 0, .slice none 0 0] 53)).alloc (.cells [.int .i64 y0, .int .i64 y1, .int .i64 y2, .slice A7 n7 c7].toArray 37)).heap.size; simp; omega) (by omega)).mono ?_
        rintro e w3 ⟨v3, rfl, hG3, hb3⟩
        obtain ⟨A3, n3, c3, rfl, hn3⟩ := hG3.shapeN
        have HN3 := Lib.hid hn3
        clear hn3
        have hs3 : Below w.heap.size w w3 := bel_trans (show Below w.heap.size w ((((w.alloc (.cells #[.int .i64 x0, .int .i64 x1, .int .i64 x2, .slice A n c] 53)).alloc (.cells #[.int .i64 y0, .int .i64 y1, .int .i64 y2, .slice A7 n7 c7] 37)).alloc (.cells #[.int .i64 0, .int .i64 0, .int .i64 0, .slice none 0 0] 53)).alloc (.cells [.int .i64 y0, .int .i64 y1, .int .i64 y2, .slice A7 n7 c7].toArray 37)) from (belx)) (bel_trans (bel_drew (Below.refl _ _)) hb3)
        have z3 : w.heap.size + 4 ≤ w3.heap.size := by have h : ((((w.alloc (.cells #[.int .i64 x0, .int .i64 x1, .int .i64 x2, .slice A n c] 53)).alloc (.cells #[.int .i64 y0, .int .i64 y1, .int .i64 y2, .slice A7 n7 c7] 37)).alloc (.cells #[.int .i64 0, .int .i64 0, .int .i64 0, .slice none 0 0] 53)).alloc (.cells [.int .i64 y0, .int .i64 y1, .int .i64 y2, .slice A7 n7 c7].toArray 37)).heap.size ≤ w3.heap.size := hb3.size; simpa using h
        have hG3 : GrowR tPiece 37 w3 (w.heap.size + 3) B0 (.slice A3 n3 c3) g := hG3.lower (by show _ ≤ ((((w.alloc (.cells #[.int .i64 x0, .int .i64 x1, .int .i64 x2, .slice A n c] 53)).alloc (.cells #[.int .i64 y0, .int .i64 y1, .int .i64 y2, .slice A7 n7 c7] 37)).alloc (.cells #[.int .i64 0, .int .i64 0, .int .i64 0, .slice none 0 0] 53)).alloc (.cells [.int .i64 y0, .int .i64 y1, .int .i64 y2, .slice A7 n7 c7].toArray 37)).heap.size; simp)
        have F0 := Box.below (Box.drew P0b) hb3 (Box.drew P0b).size
        have F1 := Box.below (Box.drew P1b) hb3 (Box.drew P1b).size
        have F2 := Box.below (Box.drew P2b) hb3 (Box.drew P2b).size
        have FB := Box.below (Box.drew PBb) hb3 (Box.drew PBb).size
        have f30 := F0.cell 3
        go_wp2_with fail
        refine hK.out _ _ (by exact ⟨(F1).cell 0, (F1).cell 1, (F1).cell 2, (F1).cell 3⟩) (fun hHeld => ?_)
        clear hK K
        (try simp only [Act.put, qa_, qb_, qc_])
        refine wpAnyH_ready (rs := [5]) (by kernel_rfl) (by simp) ?_
        refine AllReadyH.cons rfl (fun K hK => ?_) ?_
        · refine GrowR.step (t := tPiece) (e := 37) (w := w3) (base := w.heap.size + 3) (B := B0) (by rfl) (.tmp 7) (.tmp 9) _ (by rfl) i1 _ 4 48 Tryz.underlying51 hj0 hj1 hj2 hj3 tz (by omega) rfl (by rfl) hG3 (w.heap.size + 3) [.int .i64 y0, .int .i64 y1, .int .i64 y2, .slice A7 n7 c7] (y0, y1, y2, qd) (by rfl) FB (tPiece.keep hq (fun b hb => hs3.block b (by omega))) (by intro u hu; simp only [List.mem_cons, List.not_mem_nil, or_false] at hu; rcases hu with rfl | rfl | rfl | rfl <;> rfl) (by omega) (by first | omega | (simp; omega)) (by have := E0.out; simp only [maxLen]; omega) (by have := E0.out; omega) ?_
          intro v4 w4 hG4 hgr4
          obtain ⟨A4, n4, c4, rfl, hn4⟩ := hG4.shapeN
          have HN4 := Lib.hid hn4
          clear hn4
          have hOwn := hG3.own
          have hs4 : Below w.heap.size w w4 := Below.grown (w := w3) hs3 hgr4 (by first | omega | (simp; omega)) (fun b hb => by have := (hOwn b hb).1; omega)
          have G0 := Box.grown (w := w3) F0 hgr4 (fun e => by have := (hOwn _ e.symm).1; omega)
          have G1 := Box.grown (w := w3) F1 hgr4 (fun e => by have := (hOwn _ e.symm).1; omega)
          have G2 := Box.grown (w := w3) F2 hgr4 (fun e => by have := (hOwn _ e.symm).1; omega)
          have z4 : w.heap.size + 3 ≤ w4.heap.size := G2.size
          have g03 := G0.cell 3; have g0f := G0.frozen 3
          have H0 := G0.put 3 (.slice A4 n4 c4)
          have H1 := G1.far (p := ⟨w.heap.size, 3, none⟩) (by show ¬ w.heap.size + 1 = w.heap.size; omega) (.slice A4 n4 c4)
          have H2 := G2.far (p := ⟨w.heap.size, 3, none⟩) (by show ¬ w.heap.size + 1 + 1 = w.heap.size; omega) (.slice A4 n4 c4)
          have h03 := H0.cell 3
          refine hK.out _ _ (by exact ⟨(G1).cell 0, (G1).cell 1, (G1).cell 2, (G1).cell 3⟩) (fun hHeld => ?_)
          clear hK K
          (try simp only [Act.put, qa_, qb_, qc_])
          refine wpAnyH_take (i := 6) (oi := ⟨some 11, _, _, _, _, _⟩) (v := ?v5) rfl (by kernel_rfl) (by kernel_rfl) (by kernel_rfl) (fun _ _ _ h => h) (Or.inl ⟨by rfl, ?hy5⟩) (by assumption) ?_
          case hy5 => (intro w hSw; (try dsimp only at hSw); go_simp; try (with_reducible rfl))
          (try simp only [Act.put, qa_, qb_, qc_])
          refine wpAnyH_ready (rs := [7]) (by kernel_rfl) (by simp) ?_
          refine AllReadyH.cons rfl (fun K hK => ?_) ?_
          · go_simp
            refine hK.out _ _ (by exact ⟨(H1).cell 0, (H1).cell 1, (H1).cell 2, (H1).cell 3⟩) (fun hHeld => ?_)
            clear hK K
            (try simp only [Act.put, qa_, qb_, qc_])
            refine wpAnyH_done (by kernel_rfl) ?_ _
            go_wp2_with fail
            have hG5 := hG4.put (p := ⟨w.heap.size, 3, none⟩) (by show w.heap.size < _; omega) hB0 (.slice A4 n4 c4)
            have hB5 := bel_put hs4 (p := ⟨w.heap.size, 3, none⟩) (Nat.le_refl _) (.slice A4 n4 c4)
            refine (i_SortPc hG5 (by simp) (by rw [List.length_append, List.length_singleton]; have := E0.out; omega) (by omega) HPW.out HPM.out).mono ?_
            rintro e w6 ⟨rfl, hG6, hgr6⟩
            have hOwn6 := hG5.own
            obtain ⟨A6_, n6_, c6_, e6_, hn6⟩ := hG6.shapeN
            have HN6 := Lib.hid (show n4 = (insB pAt (y0, y1, y2, qd) g).length by injection e6_ with _ e2 _; rw [e2]; exact hn6)
            clear hn6 e6_
            have K0 := Box.grown H0 hgr6 (fun e => by have := (hOwn6 _ e.symm).1; omega)
            have K2 := Box.grown H2 hgr6 (fun e => by have := (hOwn6 _ e.symm).1; omega)
            have hB6 : Below w.heap.size w w6 := Below.grown hB5 hgr6 (by simp [World.setCell]; omega) (fun b hb => by have := (hOwn6 b hb).1; omega)
            have k0 := K0.cell 0; have k1 := K0.cell 1; have k2 := K0.cell 2; have k3 := K0.cell 3; have r0 := K2.cell 0; have r1 := K2.cell 1; have r2 := K2.cell 2; have r3 := K2.cell 3; have rf0 := K2.frozen 0; have rf1 := K2.frozen 1; have rf2 := K2.frozen 2; have rf3 := K2.frozen 3
            go_wp2
            have RR := (((K2.put 0 (.int .i64 x0)).put 1 (.int .i64 x1)).put 2 (.int .i64 x2)).put 3 (.slice A4 n4 c4)
            have s0 := RR.cell 0; have s1 := RR.cell 1; have s2 := RR.cell 2; have s3 := RR.cell 3
            have GX := ((((hG6.put (p := ⟨w.heap.size + 1 + 1, 0, none⟩) (by show w.heap.size + 1 + 1 < _; omega) (by show _ ≤ w.heap.size + 1 + 1; omega) (.int .i64 x0)).put (p := ⟨w.heap.size + 1 + 1, 1, none⟩) (by show w.heap.size + 1 + 1 < _; omega) (by show _ ≤ w.heap.size + 1 + 1; omega) (.int .i64 x1)).put (p := ⟨w.heap.size + 1 + 1, 2, none⟩) (by show w.heap.size + 1 + 1 < _; omega) (by show _ ≤ w.heap.size + 1 + 1; omega) (.int .i64 x2)).put (p := ⟨w.heap.size + 1 + 1, 3, none⟩) (by show w.heap.size + 1 + 1 < _; omega) (by show _ ≤ w.heap.size + 1 + 1; omega) (.slice A4 n4 c4))
            have BX := (bel_put (bel_put (bel_put (bel_put hB6 (p := ⟨w.heap.size + 1 + 1, 0, none⟩) (by show _ ≤ w.heap.size + 1 + 1; omega) (.int .i64 x0)) (p := ⟨w.heap.size + 1 + 1, 1, none⟩) (by show _ ≤ w.heap.size + 1 + 1; omega) (.int .i64 x1)) (p := ⟨w.heap.size + 1 + 1, 2, none⟩) (by show _ ≤ w.heap.size + 1 + 1; omega) (.int .i64 x2)) (p := ⟨w.heap.size + 1 + 1, 3, none⟩) (by show _ ≤ w.heap.size + 1 + 1; omega) (.slice A4 n4 c4))
            refine bodyPost_ret (v := .agg #[.int .i64 x0, .int .i64 x1, .int .i64 x2, .slice A4 n4 c4]) (by simp [results, Tryz.results50, go_sem, s0, s1, s2, s3]) rfl ⟨A4, n4, c4, rfl, HN6.out, GX.lower (by omega), BX⟩
          exact AllReadyH.nil
        exact AllReadyH.nil
      exact AllReadyH.nil
    exact AllReadyH.nil
  exact AllReadyH.nil
end Go.Proofs.YtaabmaoldhoinaaGreat
namespace Go.Proofs.YtaabmaoldhoinaaGreat
set_option maxRecDepth 100000
set_option linter.unusedVariables false
set_option linter.unusedSimpArgs false
open Go.ChangeShapes Go.WideShapes Go.ChangeAt Go.RowKit
open Fld
theorem i_PcData {w : World} {cs : List Value} {p : DPiece} (h : tPiece.R w w.heap.size cs p) :
    Calls Tryz.prog 55 #[.agg cs.toArray] w fun e w' => ∃ A n c, e = .returned (.slice A n c) ∧ Ints .u8 w' w'.heap.size A n p.2.2.2 ∧ Below w.heap.size w w' := by
  obtain ⟨A3, n3, c3, rfl, -, -, -, -, -, -, h3⟩ := openPiece h
  go_enter Tryz.func55, Tryz.ntmps55
  go_wp2
  go_ret
  exact ⟨A3, n3, c3, rfl, reach (slR_ints h3).1 (belx), (belx)⟩
set_option maxHeartbeats 1000000 in
theorem i_joinedData {w : World} {n c : Nat} {A : Option Addr} {l : List DPiece} (F : Nat) (f : DPiece → List Int) (m : Nat) (hE : ∀ (cs : Array Value) (w : World), Sem.run Tryz.prog (callFunc F #[Value.agg cs]) w = .ok (.enter F #[Value.agg cs]) w)
    (hF : ∀ (i : Nat) (a : DPiece) (w' : World) (cs : List Value), l[i]? = some a → Below w.heap.size w w' → tPiece.R w' w'.heap.size cs a → Calls Tryz.prog F #[.agg cs.toArray] w' fun e w2 => ∃ A' n' c', e = .returned (.slice A' n' c') ∧ Ints .u8 w2 w2.heap.size A' n' (f a) ∧ Below w'.heap.size w' w2)
    (hm : ∀ a ∈ l, (f a).length ≤ m) (hmn : m * n ≤ 1000000) (hl : tPiece.row.R w w.heap.size [.slice A n c] l) (hn : n ≤ 1048576) :
    Calls Tryz.prog 54 #[.slice A n c, .func (.func F) #[] #[]] w fun e w' => ∃ v, e = .returned v ∧ Own .u8 5 w' w.heap.size v (l.flatMap f) ∧ Below w.heap.size w w' := by
  obtain ⟨i0, hi0, hz0, hz1, hz2⟩ := info_parts info_cb
  obtain ⟨e0, _, _⟩ := rowR_len hl
  have HL := Lib.hid e0
  clear e0
  have HF := Lib.hid hF
  have HE := Lib.hid hE
  have HM := Lib.hid hm
  have HMN := Lib.hid hmn
  clear hF hE hm hmn
  go_enter Tryz.func54, Tryz.ntmps54
  go_wp2_with fail
  go_loopw [5, 10] (fun v i wr => ∃ j : Nat, j ≤ n ∧ i = .int .i64 j ∧ Own .u8 5 wr w.heap.size v ((l.take j).flatMap f) ∧ Below w.heap.size w wr) (fun _ i _ => n - ixOf i)
  case atStart => exact ⟨0, by omega, rfl, Own.nil _ _ _ _, (belx)⟩
  case round =>
    obtain ⟨j, hj, rfl, hO, hB⟩ := hrel
    by_cases hlt : j < n
    · obtain ⟨a, b', off, es, hl2, rfl, hb, hes, hR⟩ := rowR_at (K := 4) hl hlt rfl
      have hRk := hR
      obtain ⟨A2, n2, c2, rfl, -, -, -, -, -, -, -⟩ := openPiece hR
      have e0 : wr.cell? ⟨b', off + j * 4, none⟩ = some (.int .i64 a.1) := cell_at hB hb (hes 0 (by omega))
      have e1 : wr.cell? ⟨b', off + j * 4 + 1, none⟩ = some (.int .i64 a.2.1) := cell_at hB hb (hes 1 (by omega))
      have e2 : wr.cell? ⟨b', off + j * 4 + 2, none⟩ = some (.int .i64 a.2.2.1) := cell_at hB hb (hes 2 (by omega))
      have e3 : wr.cell? ⟨b', off + j * 4 + 3, none⟩ = some (.slice A2 n2 c2) := cell_at hB hb (hes 3 (by omega))
      clear hes hR
      have HA := Lib.hid hl2
      have HS := Lib.hid (flS (f := f) hl2)
      have hm1 := HM.out a (alMem hl2)
      have hm2 : ((l.take j).flatMap f).length + (f a).length ≤ 1000000 := by
        have h1 := flLe (f := f) HM.out (j + 1)
        rw [HS.out, List.length_append, HL.out] at h1
        have := HMN.out
        omega
      clear hl2
      obtain ⟨bs, hbs⟩ : ∃ bs, (l.take j).flatMap f = bs := ⟨_, rfl⟩
      rw [hbs] at hO HS hm2
      have HM2 := Lib.hid hm2
      clear hbs hm1 hm2
      go_wp2_with fail
      rw [HE.out, Oper.upon_enter]
      refine (HF.out j a _ _ HA.out ?hB (tPiece.reach hRk ?hB2)).mono ?_
      case hB => exact bel_trans (a := w) hB (belx)
      case hB2 => exact bel_trans (a := w) hB (belx)
      rintro e w1 ⟨A1, n1, c1, rfl, hI1, hb1⟩
      obtain ⟨fa, hfa⟩ : ∃ y, f a = y := ⟨_, rfl⟩
      rw [hfa] at HS HM2 hI1
      clear hfa
      have hs1 : Below wr.heap.size wr w1 := bel_trans (belx) hb1
      have hO2 := hO.below hs1
      have HO1 := Lib.hid hI1.2.2
      have hS : Src w1 1 A1 n1 (fa.map (Value.int .u8)) := Src.of_ints hI1
      have HN1 := Lib.hid hI1.1.symm
      have zz := hs1.size
      have zw := hB.size
      clear hI1
      go_wp2_with (at_builtin; refine wpList_app _ rfl (.tmp 14) (.tmp 17) _ rfl w.heap.size 5 i0 _ 1 1 Tryz.underlying26 hi0 hz0 hz1 hz2 rfl (by omega) _ _ _ rfl hO2.1 A1 n1 c1 (fa.map (Value.int .u8)) rfl hS (one_ints _ _) (by simp only [maxLen]; have := HM2.out; have := HN1.out; omega) (by have := HM2.out; have := HN1.out; omega) (by omega) ?_; intro v2 w3 hown hgr hat)
      go_roundw
      case rel => exact ⟨j + 1, by omega, by go_num, by rw [HS.out]; exact own_appN (r := fa) hown HN1.out.symm hO2.2 HO1.out, (bel_trans hB hs1).grown hgr (by omega) (fun b hb => (hO2.block hb).1)⟩
      case measure => simp [ixOf]; omega
    · obtain rfl : n = j := by omega
      have HA := Lib.hid (show l.take n = l from List.take_of_length_le (Nat.le_of_eq HL.out))
      rw [HA.out] at hO
      go_wp2
      go_ret
      exact ⟨_, rfl, hO, hB⟩
theorem srt_ins {l : List Int} {y : Int} (h : Asc l) (hy : y ∉ l) : srt (l ++ [y]) = insB id y l := by
  refine asc_permS (f := id) (insB_pw (f := id) (asc_pw h)) ?_ ?_
  · have := List.pairwise_mergeSort (le := fun x y : Int => decide (x ≤ y)) (fun a b c h1 h2 => by simp at *; omega) (fun a b => by simp; omega) (l ++ [y])
    exact this.imp fun h' => of_decide_eq_true h'
  · exact (List.mergeSort_perm _ _).trans (insB_perm (f := id) fun a ha e => hy (by have : a = y := e; exact this ▸ ha)).symm
end Go.Proofs.YtaabmaoldhoinaaGreat
