/-
  TpI, Draw, Xt, Xf, TpW, TpD: texts joined.
-/
import Derived.Test.YtaabmaoldhoinaaGreatRows
import Derived.Test.YtaabmaoldhoinaaGreatShelf
import Derived.Test.YtaabmaoldhoinaaGreatTGa
import Derived.Test.YtaabmaoldhoinaaGreatTGb
import Derived.Test.YtaabmaoldhoinaaGreatTGc
import Derived.BigQuiet
import Derived.Deep.QuietTactic
import Derived.Deep.RegionHeld3
import Derived.Lib.Hide
import Derived.OpenShut
import Derived.ProofKit
import Derived.WalkKit
namespace Go.Proofs.YtaabmaoldhoinaaGreat
set_option maxRecDepth 100000
set_option linter.unusedVariables false
set_option linter.unusedSimpArgs false
open Go.ChangeShapes Go.WideShapes Go.ChangeAt Go.RowKit
open Fld
section MapsOpen
open Go.Maps
/-- A look-up by number that tells whether there is one. -/
theorem MapW.look_ok {α : Type} {t : Ty α} {id : α → Int} {w : World} {B b n : Nat} {D : MD} {l : List α} {P : Program} {T K E : TypeId} {z : Value} (h : MapW t id w B D l) (hown : w.ownsMap P K mR b n D) (hK : P.underlying K = some (.int .i64)) (hT : P.underlying T = some (.map K E)) (hz : (zeroValue E).run P w = .ok z w) {i : Int} (hi : (Lit.int .i64 i).wf = true) :
    ∃ v, (∃ a es, a ∈ l ∧ id a = i ∧ v = .agg (List.toArray es) ∧ t.R w B es a ∧ (Instr.lookup T (.map (some b)) (.int .i64 i) true).run P w = .ok (.tuple #[v, .bool true]) w) ∨ ((∀ a ∈ l, id a ≠ i) ∧ v = z ∧ (Instr.lookup T (.map (some b)) (.int .i64 i) true).run P w = .ok (.tuple #[z, .bool false]) w) := by
  obtain ⟨v, ps, hrun, hv⟩ := hown.look_ok (int_keyed hK) hT hz (zd := .held z) (zp := []) rfl (keyOf_int_mk hK hi)
  have hv' : (DataW.held v : MD) = D.atKey (mK i) (.held z) := by
    have := congrArg (fun o => o.map Prod.fst) hv
    simpa [mR] using this
  by_cases hx : ∃ a ∈ l, id a = i
  · obtain ⟨a, ha, hai⟩ := hx
    obtain ⟨es, h1, h2⟩ := h.there a ha
    have hh := h.has1 a ha
    rw [hai] at h1 hh
    rw [h1] at hv'
    injection hv' with hv'
    rw [show has D (Lit.int .i64 i) = true from hh] at hrun
    exact ⟨v, .inl ⟨a, es, ha, hai, hv', h2, hrun⟩⟩
  · have h0 : ∀ a ∈ l, id a ≠ i := fun a ha e => hx ⟨a, ha, e⟩
    have hh := h.has0 i h0
    rw [atKey_of_not_has hh] at hv'
    injection hv' with hv'
    rw [show has D (Lit.int .i64 i) = false from hh, hv'] at hrun
    exact ⟨v, .inr ⟨h0, hv', hrun⟩⟩
end MapsOpen
theorem GrowR.past {α : Type} {t : Ty α} {e : TypeId} {w w' : World} {base B r : Nat} {v : Value} {l : List α} (h : GrowR t e w base B v l) (hg : w.grownBy w' (some r)) (h1 : B ≤ r) (h2 : ∀ b, v.ownBlock = some b → b ≠ r) (hw : B ≤ w.heap.size) : GrowR t e w' base B v l := by
  obtain ⟨css, k1, k2, k3⟩ := h
  exact ⟨css, k1.kept (row := some r) hg (.inr fun e => h2 _ e rfl), k2, fun i a es q1 q2 => t.keep (k3 i a es q1 q2) fun b hb => hg.block b (by omega) (fun e => by injection e with e; omega)⟩
theorem one_cells_Piece {w : World} {B : Nat} : ∀ es a, tPiece.R w B es a → ∀ u ∈ es, u.oneCell' = true := fun es a h u hu => by
  obtain ⟨A3, n3, c3, rfl, -⟩ := openPiece h
  simp only [List.mem_cons, List.not_mem_nil, or_false] at hu
  rcases hu with rfl | rfl | rfl | rfl <;> rfl
set_option maxHeartbeats 1000000 in
theorem i_copiedPc {w : World} {B n c : Nat} {A : Option Addr} {g : List DPiece} (hg : tPiece.row.R w B [.slice A n c] g) (hB : B ≤ w.heap.size) (hn : n ≤ 1048576) :
    Calls Tryz.prog 95 #[.slice A n c] w fun e w' => ∃ v, e = .returned v ∧ GrowR tPiece 37 w' w.heap.size B v g ∧ Below w.heap.size w w' := by
  obtain ⟨i1, hj0, hj1, hj2, hj3⟩ := info_parts info_Piece
  have tz : (Value.agg #[Value.int .i64 0, Value.int .i64 0, Value.int .i64 0, Value.slice none 0 0]).cells.size = 4 := by first | rfl | (simp [Value.cells]; done)
  go_enter Tryz.func95, Tryz.ntmps95
  go_wp2_with (at_builtin; refine GrowR.pushRow (t := tPiece) (e := 37) (base := w.heap.size) (B := B) (by rfl) _ (.tmp 3) _ (by rfl) i1 _ 4 48 Tryz.underlying51 hj0 hj1 hj2 hj3 tz (by omega) rfl (by rfl) GrowR.nil (by rfl) hg one_cells_Piece hB (Nat.le_refl _) (by simp only [maxLen, List.length_nil]; omega) (by simp only [List.length_nil]; omega) ?_; intro v2 w2 hG2 hgr2)
  go_ret
  exact ⟨_, rfl, by simpa using hG2, Below.grown (Below.refl _ _) hgr2 (Nat.le_refl _) (fun b hb => by simp [Value.ownBlock] at hb)⟩
abbrev PcE := Int × Int × Int × Option Addr × Nat × Nat
def encP (x : PcE) : List Value := [.int .i64 x.1, .int .i64 x.2.1, .int .i64 x.2.2.1, .slice x.2.2.2.1 x.2.2.2.2.1 x.2.2.2.2.2]
def cfP (x y : PcE) : Int := Lib.compareInt x.2.1 y.2.1
section SortOpen
open Go.Sort Go.Shelf Go.Lib
theorem cmpLt (a b : Int) : decide (Lib.compareInt a b < 0) = decide (a < b) := by
  unfold Lib.compareInt
  by_cases h : a < b
  · rw [if_pos h, decide_eq_true h]; rfl
  · rw [if_neg h, decide_eq_false h]
    split <;> rfl
theorem ltP (x y : PcE) : ltOf cfP x y = decide (x.2.1 < y.2.1) := cmpLt _ _
theorem swoP : SWO (ltOf cfP) := ⟨fun x => by rw [ltP]; simp, fun x y z h1 h2 => by rw [ltP] at *; simp at *; omega, fun x y z h1 h2 => by rw [ltP] at *; simp at *; omega⟩
set_option maxHeartbeats 1000000 in
theorem i_with1 (x y : PcE) (W : World) : Calls Tryz.prog 97 #[.agg (encP x).toArray, .agg (encP y).toArray] W fun e w' => e = .returned (.int .i64 (cfP x y)) ∧ ∃ q os', w' = grow (W.drewN q) os' := by
  obtain ⟨x0, x1, x2, xA, xn, xc⟩ := x
  obtain ⟨y0, y1, y2, yA, yn, yc⟩ := y
  show Calls Tryz.prog 97 #[.agg #[.int .i64 x0, .int .i64 x1, .int .i64 x2, .slice xA xn xc], .agg #[.int .i64 y0, .int .i64 y1, .int .i64 y2, .slice yA yn yc]] W fun e w' => e = .returned (.int .i64 (Lib.compareInt x1 y1)) ∧ ∃ q os', w' = grow (W.drewN q) os'
  have hcon := fun W' => Tryz.cmp_Compare_int x1 y1 W'
  change ∀ W', Calls Tryz.prog 98 _ _ _ at hcon
  generalize Lib.compareInt x1 y1 = r at hcon ⊢
  go_enter Tryz.func97, Tryz.ntmps97
  go_wp2_with (go_at_call 98; refine (hcon _).mono ?_; rintro e w' ⟨rfl, rfl⟩)
  go_ret
  exact ⟨rfl, 0, _, by rw [alloc_eq_grow, alloc_eq_grow, grow_grow]; rfl⟩
end SortOpen
section SortOpen
open Go.Sort Go.Shelf Go.Lib
theorem dec_Piece {w : World} {B : Nat} : ∀ es a, tPiece.R w B es a → ∃ x : PcE, encP x = es := fun es a h => by
  obtain ⟨A3, n3, c3, rfl, -⟩ := openPiece h
  exact ⟨(a.1, a.2.1, a.2.2.1, A3, n3, c3), rfl⟩
theorem at_Piece {w : World} {B : Nat} {x : PcE} {a : DPiece} (h : tPiece.R w B (encP x) a) : x.2.1 = a.2.1 := by
  obtain ⟨A3, n3, c3, e, -⟩ := openPiece h
  unfold encP at e
  injection e with _ e
  injection e with e _
  injection e
theorem i_hlen (n : Nat) (W : World) (h : n ≤ 12) : Calls Tryz.prog 100 #[.int .u64 n] W fun e w' => (∃ l : Int, e = .returned (.int .i64 l)) ∧ w' = W :=
  (Tryz.bits_Len n W (by omega) (by omega)).mono fun _ _ ⟨he, hw⟩ => ⟨⟨_, he⟩, hw⟩
/-- A row of pieces, each with a place of its own, sorted by them. -/
theorem i_SortPc {w : World} {base B : Nat} {v : Value} {l s : List DPiece} (h : GrowR tPiece 37 w base B v l) (hl : 0 < l.length) (hl2 : l.length ≤ 12) (hB : B ≤ base) (hs : s.Pairwise (fun a b => pAt a < pAt b)) (hp : l.Perm s) :
    Calls Tryz.prog 96 #[v, .func (.func 97) #[] #[]] w fun e w' => e = .returned (.tuple #[]) ∧ GrowR tPiece 37 w' base B v s ∧ w.grownBy w' v.ownBlock := by
  obtain ⟨g, cap, d, rfl, hd, hgb, hgl, hH, hR, hdone⟩ := h.sort (enc := encP) hl hB (fun _ => rfl) (by decide) dec_Piece
  have hc : CmpLays Tryz.prog 97 #[] encP 4 cfP g 0 d.size w := fun _ _ _ _ x y => i_with1 x y _
  have hcon := AnyQ.slices_SortFunc_small_sorted Tryz.sortPc 4 (fun w => Tryz.isAgg37 w) (fun w => Tryz.sizeOf37 w) encP (fun _ => rfl) (fun x v hv => by unfold encP at hv; simp only [List.mem_cons, List.not_mem_nil, or_false] at hv; rcases hv with rfl | rfl | rfl | rfl <;> rfl) cfP 97 #[] swoP g 0 cap d w (enters_of Tryz.func97 (by kernel_rfl) rfl) hc hH hgl (by omega) i_hlen
  refine hcon.mono ?_
  rintro e w' ⟨he, d', n, os, hperm, hsort, rfl⟩
  refine ⟨he, ?_⟩
  have hsz : d'.size = d.size := hperm.1
  have hP : d'.toList.Perm d.toList := by
    have h3 := hperm.2.2
    rw [show d.extract 0 d.size = d by simp, show d'.extract 0 d.size = d' by rw [← hsz]; simp] at h3
    exact h3
  obtain ⟨hgr, l', hl', hG, hRl⟩ := hdone d' n os hP
  have hll : l'.length = l.length := hl'.length_eq
  have : l' = s := by
    refine asc_permS (f := pAt) hs ?_ (hl'.trans hp)
    rw [List.pairwise_iff_getElem]
    intro i j hi hj hij
    have hi' : i < d'.size := by omega
    have hj' : j < d'.size := by omega
    have e1 := at_Piece (hRl i _ d'[i] (List.getElem?_eq_getElem hi) (by rw [Array.getElem?_toList]; exact Array.getElem?_eq_getElem hi'))
    have e2 := at_Piece (hRl j _ d'[j] (List.getElem?_eq_getElem hj) (by rw [Array.getElem?_toList]; exact Array.getElem?_eq_getElem hj'))
    have h4 := hsort i j (Nat.zero_le _) hij (by omega)
    rw [ltP, getElem!_pos d' j hj', getElem!_pos d' i hi', e1, e2] at h4
    have := of_decide_eq_false h4
    unfold pAt
    omega
  subst this
  exact ⟨hG, hgr⟩
end SortOpen
end Go.Proofs.YtaabmaoldhoinaaGreat
namespace Go.Proofs.YtaabmaoldhoinaaGreat
open Go.ChangeShapes Go.WideShapes Go.ChangeAt Go.RowKit

/-- The cursor in block g, over n bytes at A. -/
def Cur (w : World) (g : Nat) (A : Option Addr) (n c : Nat) : Prop :=
  ∃ (i h : Int), 0 ≤ i ∧ i ≤ n ∧ Box w g 131 #[.slice A n c, .int .i64 i, .int .i64 h]

theorem cur1 {w : World} {g t : Nat} {x z : Value} {y : Value} (h : Box w g t #[x, y, z]) (u : Value) : Box (w.setCell ⟨g, 1, none⟩ u) g t #[x, u, z] := h.put 1 u

/-- The cursor in block g and the bytes that it reads. -/
def Curs (w : World) (g : Nat) (A : Option Addr) (n c : Nat) (l : List Int) : Prop := Cur w g A n c ∧ Ints .u8 w g A n l ∧ n ≤ 140737488355328
theorem Curs.size {w : World} {g n c : Nat} {A : Option Addr} {l : List Int} (h : Curs w g A n c l) : g < w.heap.size := by
  obtain ⟨⟨_, _, _, _, hb⟩, _⟩ := h; exact hb.size
theorem Curs.below {w w' : World} {g n c : Nat} {A : Option Addr} {l : List Int} (h : Curs w g A n c l) {B : Nat} (hB : Below B w w') (hg : g < B) : Curs w' g A n c l := by
  obtain ⟨⟨i, x, h0, h1, hb⟩, hi, hs⟩ := h
  exact ⟨⟨i, x, h0, h1, hb.below hB hg⟩, hi.below (hB.mono (by omega)), hs⟩
theorem Curs.drewN {w : World} {g n c : Nat} {A : Option Addr} {l : List Int} (h : Curs w g A n c l) (m : Nat) : Curs (w.drewN m) g A n c l := h
theorem Curs.alloc {w : World} {g n c : Nat} {A : Option Addr} {l : List Int} (h : Curs w g A n c l) (o : Obj) : Curs (w.alloc o) g A n c l :=
  h.below ((Below.refl w.heap.size w).alloc (Nat.le_refl _) o) h.size

end Go.Proofs.YtaabmaoldhoinaaGreat
namespace Go.Proofs.YtaabmaoldhoinaaGreat
set_option linter.unusedVariables false
open Go.RowKit
/-- Two worlds are alike in the blocks from K on, up to B. -/
def Alike (K B : Nat) (w w' : World) : Prop := ∀ b, K ≤ b → b < B → w'.heap[b]? = w.heap[b]?
theorem Alike.below {K B : Nat} {w w' : World} (h : Below B w w') : Alike K B w w' := fun b _ hb => h.block b hb
theorem Alike.grown {K B g : Nat} {w w' : World} (h : w.grownBy w' (some g)) (hg : g < K) (hB : B ≤ w.heap.size) : Alike K B w w' := fun b h1 h2 => h.block b (by omega) (fun e => by injection e with e; omega)
theorem Alike.put {K B : Nat} (w : World) {p : Addr} (hp : p.block < K) (u : Value) : Alike K B w (w.setCell p u) := fun b h1 _ => Below.heap_setCell w p u b (by omega)
section
variable {α : Type} {t : Ty α} {w w' : World} {K K' B B' : Nat} {cs : List Value} {a : α}
def XT (K : Nat) (t : Ty α) : Ty α where
  k := t.k
  R := fun w B cs a => ∀ w', Alike K B w w' → t.R w' B cs a
  O := fun _ _ _ _ => False
  lenR := fun h => t.lenR (h _ (fun _ _ _ => rfl))
  lenO := fun h => h.elim
  keep := fun h hk w' ha => h w' (fun b h1 h2 => (ha b h1 h2).trans (hk b h2))
  up := fun h hB w' ha => t.up (h w' (fun b h1 h2 => ha b h1 (Nat.lt_of_lt_of_le h2 hB))) hB
  kept := fun h => h.elim
  lt := fun h => h.elim
  read := fun h => h.elim
theorem xt_R (h : (XT K t).R w B cs a) : t.R w B cs a := h w (fun _ _ _ => rfl)
theorem xt_keep (h : (XT K t).R w B cs a) (ha : Alike K B w w') : (XT K t).R w' B cs a := fun w2 h2 => h w2 (fun b h1 h3 => (h2 b h1 h3).trans (ha b h1 h3))
theorem xt_at (h : (XT K t).R w w.heap.size cs a) (ha : Alike K w.heap.size w w') (hs : w.heap.size ≤ w'.heap.size) : (XT K t).R w' w'.heap.size cs a := (XT K t).up (xt_keep h ha) hs
/-- A row that hangs on no block below K, nor do its elements. -/
def RowX (K : Nat) (t : Ty α) (w : World) (v : Value) (l : List α) : Prop := (XT K t).row.R w w.heap.size [v] l ∧ (0 < l.length → ∀ b, v.ownBlock = some b → K ≤ b)
theorem RowX.nil (K : Nat) (t : Ty α) (w : World) : RowX K t w (.slice none 0 0) [] := ⟨⟨none, 0, 0, rfl, Nat.le_refl _, by omega, rfl, fun h => absurd h (by omega)⟩, fun h => absurd h (by simp)⟩
theorem RowX.below {v : Value} {l : List α} (h : RowX K t w v l) (hB : Below w.heap.size w w') : RowX K t w' v l := ⟨(XT K t).row.reach h.1 hB, h.2⟩
theorem RowX.at {v : Value} {l : List α} (h : RowX K t w v l) (ha : Alike K w.heap.size w w') (hs : w.heap.size ≤ w'.heap.size) : RowX K t w' v l := by
  obtain ⟨⟨A, n, c, e, h1, h2, h3, h4⟩, h5⟩ := h
  refine ⟨⟨A, n, c, e, h1, h2, h3, fun h0 => ?_⟩, h5⟩
  obtain ⟨b, off, rfl, hb, hc⟩ := h4 h0
  injection e with e _
  have hne : K ≤ b := h5 (by omega) b (by rw [e]; rfl)
  refine ⟨b, off, rfl, Nat.lt_of_lt_of_le hb hs, fun i a' ha' => ?_⟩
  obtain ⟨es, k1, k2⟩ := hc i a' ha'
  refine ⟨es, fun j hj => ?_, xt_at k2 ha hs⟩
  rw [← k1 j hj]
  exact World.cell?_of_block (ha b hne hb)
theorem RowX.plain {v : Value} {l : List α} (h : RowX K t w v l) : t.row.R w w.heap.size [v] l := by
  obtain ⟨⟨A, n, c, e, h1, h2, h3, h4⟩, -⟩ := h
  refine ⟨A, n, c, e, h1, h2, h3, fun h0 => ?_⟩
  obtain ⟨b, off, e1, hb, hc⟩ := h4 h0
  refine ⟨b, off, e1, hb, fun i a' ha => ?_⟩
  obtain ⟨es, k1, k2⟩ := hc i a' ha
  exact ⟨es, k1, xt_R k2⟩
end
theorem slX_O {K : IntKind} {w : World} {g : Nat} {cs : List Value} {l : List Int} {F : List Nat} (h : (tSl K).O w cs l F) (hF : ∀ f ∈ F, g ≤ f) : (XT g (tSl K)).R w w.heap.size cs l := by
  intro w' ha
  rcases h with ⟨A, c, e, hc, rfl, rfl⟩ | ⟨gg, off, c, cur, et, e, h0, h2, h3, hg, h4, h5, rfl⟩
  · exact ⟨A, 0, c, e, Nat.zero_le _, hc, Ints.nil⟩
  · have hlt := Box.size (t := et) hg
    have hg' : Box w' gg et cur := (ha gg (hF gg (by simp)) hlt).trans hg
    exact ⟨_, _, c, e, h2, h3, rfl, fun _ => ⟨gg, off, rfl, hlt, fun i hi => by rw [hg'.cell]; exact h4 i hi⟩, h5⟩
theorem slX_own {K : IntKind} {e : TypeId} {w : World} {base g : Nat} {v : Value} {l : List Int} (h : Own K e w base v l) (hb : g ≤ base) : (XT g (tSl K)).R w w.heap.size [v] l := by
  obtain ⟨F, hF, hN⟩ := h.tSl
  exact slX_O hF (fun f hf => Nat.le_trans hb (hN.2 f hf))
end Go.Proofs.YtaabmaoldhoinaaGreat
namespace Go.Proofs.YtaabmaoldhoinaaGreat
set_option linter.unusedVariables false
open Go.RowKit
/-- t's readings hang on no block below K. -/
def Firm {α : Type} (K : Nat) (t : Ty α) : Prop := ∀ (w w' : World) (B : Nat) (cs : List Value) (a : α), t.R w B cs a → Alike K B w w' → t.R w' B cs a
section
variable {α β : Type} {s : Ty β} {t : Ty α} {w w' : World} {K B base : Nat} {cs : List Value} {a : α} {v : Value} {l : List α} {e : TypeId}
theorem Firm.at (h : Firm K t) (hR : t.R w w.heap.size cs a) (ha : Alike K w.heap.size w w') (hs : w.heap.size ≤ w'.heap.size) : t.R w' w'.heap.size cs a := t.up (h _ _ _ _ _ hR ha) hs
/-- A row whose own block is not below K. -/
def RX (K : Nat) (t : Ty α) : Ty (List α) where
  k := 1
  R := fun w B cs l => ∃ A n c, cs = [.slice A n c] ∧ n ≤ c ∧ c ≤ 9223372036854775807 ∧ l.length = n ∧ (0 < n → ∃ b off, A = some ⟨b, off, none⟩ ∧ K ≤ b ∧ b < B ∧
    ∀ i a, l[i]? = some a → ∃ es, (∀ j, j < t.k → w.cell? ⟨b, off + i * t.k + j, none⟩ = es[j]?) ∧ t.R w B es a)
  O := fun _ _ _ _ => False
  lenR := fun h => by obtain ⟨A, n, c, h1, _⟩ := h; rw [h1]; rfl
  lenO := fun h => h.elim
  keep := fun h hk => by
    obtain ⟨A, n, c, h1, h2, h3, h4, h5⟩ := h
    refine ⟨A, n, c, h1, h2, h3, h4, fun h0 => ?_⟩
    obtain ⟨b, off, e, hK, hb, hc⟩ := h5 h0
    refine ⟨b, off, e, hK, hb, fun i a hi => ?_⟩
    obtain ⟨es, k1, k2⟩ := hc i a hi
    exact ⟨es, fun j hj => (World.cell?_of_block (hk _ hb)).trans (k1 j hj), t.keep k2 hk⟩
  up := fun h hB => by
    obtain ⟨A, n, c, h1, h2, h3, h4, h5⟩ := h
    refine ⟨A, n, c, h1, h2, h3, h4, fun h0 => ?_⟩
    obtain ⟨b, off, e, hK, hb, hc⟩ := h5 h0
    refine ⟨b, off, e, hK, Nat.lt_of_lt_of_le hb hB, fun i a hi => ?_⟩
    obtain ⟨es, k1, k2⟩ := hc i a hi
    exact ⟨es, k1, t.up k2 hB⟩
  kept := fun h => h.elim
  lt := fun h => h.elim
  read := fun h => h.elim
theorem rx_row (h : (RX K t).R w B cs l) : t.row.R w B cs l := by
  obtain ⟨A, n, c, h1, h2, h3, h4, h5⟩ := h
  refine ⟨A, n, c, h1, h2, h3, h4, fun h0 => ?_⟩
  obtain ⟨b, off, e, hK, hb, hc⟩ := h5 h0
  exact ⟨b, off, e, hb, hc⟩
theorem rx_of {A : Option Addr} {n c : Nat} (h : t.row.R w B [.slice A n c] l) (hK : 0 < n → ∀ b, (Value.slice A n c).ownBlock = some b → K ≤ b) : (RX K t).R w B [.slice A n c] l := by
  obtain ⟨A', n', c', h1, h2, h3, h4, h5⟩ := h
  injection h1 with h1 _
  injection h1 with e1 e2 e3
  subst e1 e2 e3
  refine ⟨A, n, c, rfl, h2, h3, h4, fun h0 => ?_⟩
  obtain ⟨b, off, e, hb, hc⟩ := h5 h0
  subst e
  exact ⟨b, off, rfl, hK h0 b rfl, hb, hc⟩
theorem rx_zero {A : Option Addr} {n c : Nat} (h : t.row.R w B [.slice A n c] l) : (RX 0 t).R w B [.slice A n c] l := rx_of h fun _ _ _ => Nat.zero_le _
theorem rx_nil (K : Nat) (t : Ty α) (w : World) (B : Nat) : (RX K t).R w B [.slice none 0 0] [] := ⟨none, 0, 0, rfl, Nat.le_refl _, by omega, rfl, fun h => absurd h (by omega)⟩
/-- A row that has grown, of blocks from K on. -/
theorem GrowR.doneX {A : Option Addr} {n c : Nat} (h : GrowR t e w base B (.slice A n c) l) (hw : B ≤ w.heap.size) (hK : K ≤ base) : (RX K t).R w w.heap.size [.slice A n c] l :=
  rx_of (h.doneAs hw) fun _ b hb => Nat.le_trans hK (h.own b hb).1
theorem rx_len {A : Option Addr} {n c : Nat} (h : (RX K t).R w B [.slice A n c] l) : l.length = n ∧ n ≤ c ∧ c ≤ 9223372036854775807 := rowR_len (rx_row h)
theorem rx_at {A : Option Addr} {n c i k : Nat} (h : (RX K t).R w B [.slice A n c] l) (hi : i < n) (hk : t.k = k) : ∃ a b off es, l[i]? = some a ∧ A = some ⟨b, off, none⟩ ∧ b < B ∧ (∀ j, j < k → w.cell? ⟨b, off + i * k + j, none⟩ = es[j]?) ∧ t.R w B es a := rowR_at (rx_row h) hi hk
end
/-! ### what has been read once -/
/-- Readings that were had: they hang on no world. -/
def tFix {α : Type} (k : Nat) (P : List Value → α → Prop) (hP : ∀ cs a, P cs a → cs.length = k) : Ty α where
  k := k
  R := fun _ _ cs a => P cs a
  O := fun _ _ _ _ => False
  lenR := fun h => hP _ _ h
  lenO := fun h => h.elim
  keep := fun h _ => h
  up := fun h _ => h
  kept := fun h => h.elim
  lt := fun h => h.elim
  read := fun h => h.elim
section
variable {α : Type} {s t : Ty α} {w w' : World} {K B base : Nat} {cs : List Value} {a : α} {v : Value} {l : List α} {e : TypeId}
theorem row_cast (hk : s.k = t.k) (hm : ∀ es a, s.R w B es a → t.R w B es a) (h : s.row.R w B cs l) : t.row.R w B cs l := by
  obtain ⟨A, n, c, h1, h2, h3, h4, h5⟩ := h
  refine ⟨A, n, c, h1, h2, h3, h4, fun h0 => ?_⟩
  obtain ⟨b, off, e, hb, hc⟩ := h5 h0
  refine ⟨b, off, e, hb, fun i a hi => ?_⟩
  obtain ⟨es, k1, k2⟩ := hc i a hi
  exact ⟨es, by rw [← hk]; exact k1, hm _ _ k2⟩
theorem rx_cast (hk : s.k = t.k) (hm : ∀ es a, s.R w B es a → t.R w B es a) (h : (RX K s).R w B cs l) : (RX K t).R w B cs l := by
  obtain ⟨A, n, c, h1, h2, h3, h4, h5⟩ := h
  refine ⟨A, n, c, h1, h2, h3, h4, fun h0 => ?_⟩
  obtain ⟨b, off, e, hK, hb, hc⟩ := h5 h0
  refine ⟨b, off, e, hK, hb, fun i a hi => ?_⟩
  obtain ⟨es, k1, k2⟩ := hc i a hi
  exact ⟨es, by rw [← hk]; exact k1, hm _ _ k2⟩
theorem row_zero {A : Option Addr} {c : Nat} (hc : c ≤ 9223372036854775807) : t.row.R w B [.slice A 0 c] [] := ⟨A, 0, c, rfl, Nat.zero_le _, hc, rfl, fun h => absurd h (by omega)⟩
theorem row_part {b off n c : Nat} (h : t.row.R w B [.slice (some ⟨b, off, none⟩) n c] l) {i m c' k : Nat} (hi : i + m ≤ n) (hc : m ≤ c') (hc' : c' ≤ 9223372036854775807) (hk : t.k = k) : t.row.R w B [.slice (some ⟨b, off + i * k, none⟩) m c'] ((l.drop i).take m) := by
  subst hk
  obtain ⟨A, n', c1, h1, h2, h3, h4, h5⟩ := h
  injection h1 with h1 _
  injection h1 with e1 e2 e3
  subst e1 e2 e3
  refine ⟨_, m, c', rfl, hc, hc', by rw [List.length_take, List.length_drop, h4]; omega, fun h0 => ?_⟩
  obtain ⟨b', off', e, hb, hcell⟩ := h5 (by omega)
  injection e with e
  injection e with e1 e2
  subst e1 e2
  refine ⟨b, off + i * t.k, rfl, hb, fun q a ha => ?_⟩
  have hq := (List.getElem?_eq_some_iff.1 ha).1
  rw [List.length_take] at hq
  rw [List.getElem?_take, if_pos (by omega), List.getElem?_drop] at ha
  obtain ⟨es, k1, k2⟩ := hcell (i + q) a ha
  refine ⟨es, fun j hj => ?_, k2⟩
  rw [← k1 j hj, Nat.add_mul]
  congr 2
  omega
theorem GrowR.lower {base' : Nat} (h : GrowR t e w base B v l) (hb : base' ≤ base) : GrowR t e w base' B v l := by
  obtain ⟨css, k1, k2, k3⟩ := h
  exact ⟨css, ⟨k1.1, k1.2.imp id (fun ⟨g, cap, cur, e1, hg, r⟩ => ⟨g, cap, cur, e1, Nat.le_trans hb hg, r⟩)⟩, k2, k3⟩
/-- A store into a block that is not the row's own. -/
theorem GrowR.putN (h : GrowR t e w base B v l) {p : Addr} (h1 : ∀ b, v.ownBlock = some b → b ≠ p.block) (h2 : B ≤ p.block) (u : Value) : GrowR t e (w.setCell p u) base B v l := by
  obtain ⟨css, k1, k2, k3⟩ := h
  refine ⟨css, k1.kept (row := some p.block) ⟨rfl, rfl, rfl, by simp [World.setCell], fun i hi hn => Below.heap_setCell w p u i (fun e => hn (by rw [e]))⟩ (.inr fun e => h1 _ e rfl), k2, fun i a es q1 q2 => t.keep (k3 i a es q1 q2) fun b hb => Below.heap_setCell w p u b (by omega)⟩
/-- The row's own block is no box of another kind of cells. -/
theorem own_not_box {g : Nat} {d : TypeId} {cells : Array Value} (hb : Box w g d cells) (h : GrowR t e w base B v l) (hne : (d == e) = false) : ∀ b, v.ownBlock = some b → b ≠ g := by
  intro b hv hbg
  subst hbg
  obtain ⟨css, h1, -, -⟩ := h
  rcases h1.2 with ⟨rfl, -⟩ | ⟨g', cap, cur, rfl, -, hg, -⟩
  · simp [Value.ownBlock] at hv
  · have e1 : g' = b := by simpa [Value.ownBlock] using hv
    subst e1
    have := hb.symm.trans hg
    injection this with this
    injection this with _ e2 _
    rw [e2] at hne
    simp at hne
end
/-! ### pieces, messages, desks -/
abbrev tPcX (K : Nat) : Ty DPiece := XT K tPiece
abbrev tWhX (K : Nat) : Ty DWhole := tInt.prod (tInt.prod (tInt.prod (RX K (tPcX K))))
abbrev tDkX (K : Nat) : Ty DDesk := (RX K (tWhX K)).prod (XT K tIs)
section
variable {w : World} {K B : Nat} {cs : List Value}
theorem xt_zero {α : Type} {t : Ty α} {a : α} (h : t.R w B cs a) : (XT 0 t).R w B cs a := fun w' ha => t.keep h fun b hb => ha b (Nat.zero_le _) hb
theorem openWhX {p : DWhole} (h : (tWhX K).R w B cs p) : ∃ A n c, cs = [.int .i64 p.1, .int .i64 p.2.1, .int .i64 p.2.2.1, .slice A n c] ∧ (Lit.int .i64 p.1).wf = true ∧ (Lit.int .i64 p.2.1).wf = true ∧ (Lit.int .i64 p.2.2.1).wf = true ∧ n ≤ c ∧ c ≤ 9223372036854775807 ∧ p.2.2.2.length = n ∧ (RX K (tPcX K)).R w B [.slice A n c] p.2.2.2 := by
  obtain ⟨c1, c2, rfl, ⟨rfl, h1⟩, c3, c4, rfl, ⟨rfl, h2⟩, c5, c6, rfl, ⟨rfl, h3⟩, h4⟩ := h
  have h5 := h4
  obtain ⟨A, n, c, e, k1, k2, k3, -⟩ := h5
  have e' : c6 = [.slice A n c] := e
  subst e'
  exact ⟨A, n, c, rfl, h1, h2, h3, k1, k2, k3, h4⟩
theorem makeWhX {p : DWhole} {v : Value} (h1 : (Lit.int .i64 p.1).wf = true) (h2 : (Lit.int .i64 p.2.1).wf = true) (h3 : (Lit.int .i64 p.2.2.1).wf = true) (h4 : (RX K (tPcX K)).R w B [v] p.2.2.2) : (tWhX K).R w B [.int .i64 p.1, .int .i64 p.2.1, .int .i64 p.2.2.1, v] p :=
  ⟨_, _, rfl, ⟨rfl, h1⟩, _, _, rfl, ⟨rfl, h2⟩, _, _, rfl, ⟨rfl, h3⟩, h4⟩
theorem whX_R {p : DWhole} (h : (tWhX K).R w B cs p) : tWhole.R w B cs p := by
  obtain ⟨A, n, c, rfl, h1, h2, h3, -, -, -, h4⟩ := openWhX h
  exact makeWhole h1 h2 h3 (row_cast (s := tPcX K) rfl (fun _ _ => xt_R) (rx_row h4))
theorem whX_zero {p : DWhole} (h : tWhole.R w B cs p) : (tWhX 0).R w B cs p := by
  obtain ⟨A, n, c, rfl, h1, h2, h3, -, -, -, h4⟩ := openWhole h
  exact makeWhX h1 h2 h3 (rx_zero (row_cast (s := tPiece) rfl (fun _ _ => xt_zero) h4))
theorem openDkX {p : DDesk} (h : (tDkX K).R w B cs p) : ∃ A0 n0 c0 A1 n1 c1, cs = [.slice A0 n0 c0, .slice A1 n1 c1] ∧ p.1.length = n0 ∧ (RX K (tWhX K)).R w B [.slice A0 n0 c0] p.1 ∧ p.2.length = n1 ∧ (XT K tIs).R w B [.slice A1 n1 c1] p.2 := by
  obtain ⟨c1, c2, rfl, h1, h2⟩ := h
  have k1 := h1
  obtain ⟨A0, n0, c0, e0, -, -, e1, -⟩ := k1
  have e0' : c1 = [.slice A0 n0 c0] := e0
  subst e0'
  obtain ⟨A1, n1, c1, e2, -, -, hI⟩ := xt_R h2
  have e2' : c2 = [.slice A1 n1 c1] := e2
  subst e2'
  exact ⟨A0, n0, c0, A1, n1, c1, rfl, e1, h1, hI.1, h2⟩
theorem makeDkX {p : DDesk} {v0 v1 : Value} (h0 : (RX K (tWhX K)).R w B [v0] p.1) (h1 : (XT K tIs).R w B [v1] p.2) : (tDkX K).R w B [v0, v1] p := ⟨_, _, rfl, h0, h1⟩
theorem dkX_R {p : DDesk} (h : (tDkX K).R w B cs p) : tDesk.R w B cs p := by
  obtain ⟨A0, n0, c0, A1, n1, c1, rfl, -, h0, -, h1⟩ := openDkX h
  exact makeDesk (row_cast (s := tWhX K) rfl (fun _ _ => whX_R) (rx_row h0)) (xt_R h1)
theorem dkX_zero {p : DDesk} (h : tDesk.R w B cs p) : (tDkX 0).R w B cs p := by
  obtain ⟨A0, n0, c0, A1, n1, c1, rfl, -, -, -, h0, -, -, -, h1⟩ := openDesk h
  exact makeDkX (rx_zero (row_cast (s := tWhole) rfl (fun _ _ => whX_zero) h0)) (xt_zero h1)
end
end Go.Proofs.YtaabmaoldhoinaaGreat
namespace Go.Proofs.YtaabmaoldhoinaaGreat
set_option maxRecDepth 100000
set_option linter.unusedVariables false
set_option linter.unusedSimpArgs false
open Go.ChangeShapes Go.WideShapes Go.ChangeAt Go.RowKit
open Fld
set_option maxHeartbeats 1600000 in
theorem i_with {w : World} {B0 n c n7 c7 : Nat} {A A7 : Option Addr} {x0 x1 x2 y0 y1 y2 : Int} {g : List DPiece} {qd : List Int} (hB0 : B0 ≤ w.heap.size) (hg : tPiece.row.R w B0 [.slice A n c] g) (hn : n ≤ 8) (hq : tPiece.R w B0 [.int .i64 y0, .int .i64 y1, .int .i64 y2, .slice A7 n7 c7] (y0, y1, y2, qd)) (hasc : Asc (g.map pAt)) (hne : ∀ p ∈ g, pAt p ≠ y1) :
    Calls Tryz.prog 50 #[.agg #[.int .i64 x0, .int .i64 x1, .int .i64 x2, .slice A n c], .agg #[.int .i64 y0, .int .i64 y1, .int .i64 y2, .slice A7 n7 c7]] w fun e w' => ∃ A' m' c', e = .returned (.agg #[.int .i64 x0, .int .i64 x1, .int .i64 x2, .slice A' m' c']) ∧ m' = (insB pAt (y0, y1, y2, qd) g).length ∧ GrowR tPiece 37 w' w.heap.size B0 (.slice A' m' c') (insB pAt (y0, y1, y2, qd) g) ∧ Below w.heap.size w w' := by
  obtain ⟨i1, hj0, hj1, hj2, hj3⟩ := info_parts info_Piece
  have E0 := Lib.hid (show g.length ≤ 8 by have := (rowR_len hg).1; omega)
  have tz : (Value.agg #[Value.int .i64 0, Value.int .i64 0, Value.int .i64 0, Value.slice none 0 0]).cells.size = 4 := by first | rfl | (simp [Value.cells]; done)
  have HPW := Lib.hid (insB_pw (f := pAt) (q := (y0, y1, y2, qd)) (asc_pairM (f := pAt) hasc))
  have HPM := Lib.hid (insB_perm (f := pAt) (q := (y0, y1, y2, qd)) hne).symm
  clear hasc hne
  have P0 : Box (((w.alloc (.cells #[.int .i64 x0, .int .i64 x1, .int .i64 x2, .slice A n c] 53)).alloc (.cells #[.int .i64 y0, .int .i64 y1, .int .i64 y2, .slice A7 n7 c7] 37)).alloc (.cells #[.int .i64 0, .int .i64 0, .int .i64 0, .slice none 0 0] 53)) w.heap.size 53 #[.int .i64 x0, .int .i64 x1, .int .i64 x2, .slice A n c] := ((Box.new w _ _).alloc _).alloc _
  have P1 : Box (((w.alloc (.cells #[.int .i64 x0, .int .i64 x1, .int .i64 x2, .slice A n c] 53)).alloc (.cells #[.int .i64 y0, .int .i64 y1, .int .i64 y2, .slice A7 n7 c7] 37)).alloc (.cells #[.int .i64 0, .int .i64 0, .int .i64 0, .slice none 0 0] 53)) (w.heap.size + 1) 37 #[.int .i64 y0, .int .i64 y1, .int .i64 y2, .slice A7 n7 c7] := Box.alloc (by simpa using Box.new (w.alloc (.cells #[.int .i64 x0, .int .i64 x1, .int .i64 x2, .slice A n c] 53)) 37 #[.int .i64 y0, .int .i64 y1, .int .i64 y2, .slice A7 n7 c7]) _
  have P2 : Box (((w.alloc (.cells #[.int .i64 x0, .int .i64 x1, .int .i64 x2, .slice A n c] 53)).alloc (.cells #[.int .i64 y0, .int .i64 y1, .int .i64 y2, .slice A7 n7 c7] 37)).alloc (.cells #[.int .i64 0, .int .i64 0, .int .i64 0, .slice none 0 0] 53)) (w.heap.size + 1 + 1) 53 #[.int .i64 0, .int .i64 0, .int .i64 0, .slice none 0 0] := by simpa using Box.new ((w.alloc (.cells #[.int .i64 x0, .int .i64 x1, .int .i64 x2, .slice A n c] 53)).alloc (.cells #[.int .i64 y0, .int .i64 y1, .int .i64 y2, .slice A7 n7 c7] 37)) 53 #[.int .i64 0, .int .i64 0, .int .i64 0, .slice none 0 0]
  have P0b := P0.alloc (.cells [.int .i64 y0, .int .i64 y1, .int .i64 y2, .slice A7 n7 c7].toArray 37)
  have P1b := P1.alloc (.cells [.int .i64 y0, .int .i64 y1, .int .i64 y2, .slice A7 n7 c7].toArray 37)
  have P2b := P2.alloc (.cells [.int .i64 y0, .int .i64 y1, .int .i64 y2, .slice A7 n7 c7].toArray 37)
  have PBb : Box ((((w.alloc (.cells #[.int .i64 x0, .int .i64 x1, .int .i64 x2, .slice A n c] 53)).alloc (.cells #[.int .i64 y0, .int .i64 y1, .int .i64 y2, .slice A7 n7 c7] 37)).alloc (.cells #[.int .i64 0, .int .i64 0, .int .i64 0, .slice none 0 0] 53)).alloc (.cells [.int .i64 y0, .int .i64 y1, .int .i64 y2, .slice A7 n7 c7].toArray 37)) (w.heap.size + 3) 37 [.int .i64 y0, .int .i64 y1, .int .i64 y2, .slice A7 n7 c7].toArray := by simpa using Box.new (((w.alloc (.cells #[.int .i64 x0, .int .i64 x1, .int .i64 x2, .slice A n c] 53)).alloc (.cells #[.int .i64 y0, .int .i64 y1, .int .i64 y2, .slice A7 n7 c7] 37)).alloc (.cells #[.int .i64 0, .int .i64 0, .int .i64 0, .slice none 0 0] 53)) 37 [.int .i64 y0, .int .i64 y1, .int .i64 y2, .slice A7 n7 c7].toArray
  have k3 := P0.cell 3
  have k3b := P0b.cell 3
  go_enter Tryz.func50, Tryz.ntmps50
  go_wp2_with fail
  refine wp_region_held_drew (S := (fun w' => w'.cell? ⟨w.heap.size + 1, 0, none⟩ = some (.int .i64 y0) ∧ w'.cell? ⟨w.heap.size + 1, 1, none⟩ = some (.int .i64 y1) ∧ w'.cell? ⟨w.heap.size + 1, 2, none⟩ = some (.int .i64 y2) ∧ w'.cell? ⟨w.heap.size + 1, 3, none⟩ = some (.slice A7 n7 c7))) (by kernel_rfl) (by exact ⟨(P1).cell 0, (P1).cell 1, (P1).cell 2, (P1).cell 3⟩) (fun hHeld => ?_)
  refine wpAnyH_take (i := 0) (oi := ⟨some 5, _, _, _, _, _⟩) (v := ?v1) rfl (by kernel_rfl) (by kernel_rfl) (by kernel_rfl) (fun _ _ _ h => h) (Or.inl ⟨by rfl, ?hy1⟩) (by assumption) ?_
  case hy1 => (intro w hSw; (try dsimp only at hSw); go_simp; try (with_reducible rfl))
  (try simp only [Act.put, qa_, qb_, qc_])
  refine wpAnyH_take (i := 3) (oi := ⟨some 8, _, _, _, _, _⟩) (v := ?v2) rfl (by kernel_rfl) (by kernel_rfl) (by kernel_rfl) (fun _ _ _ h => h) (Or.inl ⟨by rfl, ?hy2⟩) (by assumption) ?_
  case hy2 => (intro w hSw; (try dsimp only at hSw); go_simp; try (with_reducible rfl))
  (try simp only [Act.put, qa_, qb_, qc_])
  refine wpAnyH_ready (rs := [1, 4]) (by kernel_rfl) (by simp) ?_
  refine AllReadyH.cons rfl (fun K hK => ?_) ?_
  · go_simp
    refine hK.out _ _ (by exact ⟨(P1).cell 0, (P1).cell 1, (P1).cell 2, (P1).cell 3⟩) (fun hHeld => ?_)
    clear hK K
    (try simp only [Act.put, qa_, qb_, qc_])
    refine wpAnyH_ready (rs := [2, 4]) (by kernel_rfl) (by simp) ?_
    refine AllReadyH.cons rfl (fun K hK => ?_) ?_
    · go_simp
      go_at_call 95
      refine (i_copiedPc (w := (((w.alloc (.cells #[.int .i64 x0, .int .i64 x1, .int .i64 x2, .slice A n c] 53)).alloc (.cells #[.int .i64 y0, .int .i64 y1, .int .i64 y2, .slice A7 n7 c7] 37)).alloc (.cells #[.int .i64 0, .int .i64 0, .int .i64 0, .slice none 0 0] 53)).drew) (B := B0) (tPiece.row.keep hg (fun b hb => (show Below w.heap.size w ((((w.alloc (.cells #[.int .i64 x0, .int .i64 x1, .int .i64 x2, .slice A n c] 53)).alloc (.cells #[.int .i64 y0, .int .i64 y1, .int .i64 y2, .slice A7 n7 c7] 37)).alloc (.cells #[.int .i64 0, .int .i64 0, .int .i64 0, .slice none 0 0] 53)).drew) from (belx)).block b (by omega))) (by show _ ≤ (((w.alloc (.cells #[.int .i64 x0, .int .i64 x1, .int .i64 x2, .slice A n c] 53)).alloc (.cells #[.int .i64 y0, .int .i64 y1, .int .i64 y2, .slice A7 n7 c7] 37)).alloc (.cells #[.int .i64 0, .int .i64 0, .int .i64 0, .slice none 0 0] 53)).heap.size; simp; omega) (by omega)).mono ?_
      rintro e w3 ⟨v3, rfl, hG3, hb3⟩
      obtain ⟨A3, n3, c3, rfl, hn3⟩ := hG3.shapeN
      have HN3 := Lib.hid hn3
      clear hn3
      have hs3 : Below w.heap.size w w3 := bel_trans (show Below w.heap.size w (((w.alloc (.cells #[.int .i64 x0, .int .i64 x1, .int .i64 x2, .slice A n c] 53)).alloc (.cells #[.int .i64 y0, .int .i64 y1, .int .i64 y2, .slice A7 n7 c7] 37)).alloc (.cells #[.int .i64 0, .int .i64 0, .int .i64 0, .slice none 0 0] 53)) from (belx)) (bel_trans (bel_drew (Below.refl _ _)) hb3)
      have z3 : w.heap.size + 3 ≤ w3.heap.size := by have h : (((w.alloc (.cells #[.int .i64 x0, .int .i64 x1, .int .i64 x2, .slice A n c] 53)).alloc (.cells #[.int .i64 y0, .int .i64 y1, .int .i64 y2, .slice A7 n7 c7] 37)).alloc (.cells #[.int .i64 0, .int .i64 0, .int .i64 0, .slice none 0 0] 53)).heap.size ≤ w3.heap.size := hb3.size; simpa using h
      have hG3 : GrowR tPiece 37 w3 (w.heap.size + 3) B0 (.slice A3 n3 c3) g := hG3.lower (by show _ ≤ (((w.alloc (.cells #[.int .i64 x0, .int .i64 x1, .int .i64 x2, .slice A n c] 53)).alloc (.cells #[.int .i64 y0, .int .i64 y1, .int .i64 y2, .slice A7 n7 c7] 37)).alloc (.cells #[.int .i64 0, .int .i64 0, .int .i64 0, .slice none 0 0] 53)).heap.size; simp)
      have F0 := Box.below (Box.drew P0) hb3 (Box.drew P0).size
      have F1 := Box.below (Box.drew P1) hb3 (Box.drew P1).size
      have F2 := Box.below (Box.drew P2) hb3 (Box.drew P2).size
      have f30 := F0.cell 3
      go_wp2_with fail
      refine hK.out _ _ (by exact ⟨(F1).cell 0, (F1).cell 1, (F1).cell 2, (F1).cell 3⟩) (fun hHeld => ?_)
      clear hK K
      (try simp only [Act.put, qa_, qb_, qc_])
      refine wpAnyH_ready (rs := [4]) (by kernel_rfl) (by simp) ?_
      refine AllReadyH.cons rfl (fun K hK => ?_) ?_
      · go_simp
        refine hK.out _ _ (by exact ⟨(F1.alloc _).cell 0, (F1.alloc _).cell 1, (F1.alloc _).cell 2, (F1.alloc _).cell 3⟩) (fun hHeld => ?_)
        clear hK K
        (try simp only [Act.put, qa_, qb_, qc_])
        refine wpAnyH_ready (rs := [5]) (by kernel_rfl) (by simp) ?_
        refine AllReadyH.cons rfl (fun K hK => ?_) ?_
        · refine GrowR.step (t := tPiece) (e := 37) (w := (w3.alloc (.cells [.int .i64 y0, .int .i64 y1, .int .i64 y2, .slice A7 n7 c7].toArray 37))) (base := w.heap.size + 3) (B := B0) (by rfl) (.tmp 7) (.tmp 9) _ (by rfl) i1 _ 4 48 Tryz.underlying51 hj0 hj1 hj2 hj3 tz (by omega) rfl (by rfl) (hG3.below (belx) (by omega)) w3.heap.size [.int .i64 y0, .int .i64 y1, .int .i64 y2, .slice A7 n7 c7] (y0, y1, y2, qd) (by rfl) (Box.new w3 37 _) (tPiece.keep hq (fun b hb => (bel_alloc hs3 _).block b (by omega))) (by intro u hu; simp only [List.mem_cons, List.not_mem_nil, or_false] at hu; rcases hu with rfl | rfl | rfl | rfl <;> rfl) (by omega) (by first | omega | (simp; omega)) (by have := E0.out; simp only [maxLen]; omega) (by have := E0.out; omega) ?_
          intro v4 w4 hG4 hgr4
          obtain ⟨A4, n4, c4, rfl, hn4⟩ := hG4.shapeN
          have HN4 := Lib.hid hn4
          clear hn4
          have hOwn := hG3.own
          have hs4 : Below w.heap.size w w4 := Below.grown (w := (w3.alloc (.cells [.int .i64 y0, .int .i64 y1, .int .i64 y2, .slice A7 n7 c7].toArray 37))) (bel_alloc hs3 _) hgr4 (by first | omega | (simp; omega)) (fun b hb => by have := (hOwn b hb).1; omega)
          have G0 := Box.grown (w := (w3.alloc (.cells [.int .i64 y0, .int .i64 y1, .int .i64 y2, .slice A7 n7 c7].toArray 37))) (F0.alloc _) hgr4 (fun e => by have := (hOwn _ e.symm).1; omega)
          have G1 := Box.grown (w := (w3.alloc (.cells [.int .i64 y0, .int .i64 y1, .int .i64 y2, .slice A7 n7 c7].toArray 37))) (F1.alloc _) hgr4 (fun e => by have := (hOwn _ e.symm).1; omega)
          have G2 := Box.grown (w := (w3.alloc (.cells [.int .i64 y0, .int .i64 y1, .int .i64 y2, .slice A7 n7 c7].toArray 37))) (F2.alloc _) hgr4 (fun e => by have := (hOwn _ e.symm).1; omega)
          have z4 : w.heap.size + 3 ≤ w4.heap.size := G2.size
          have g03 := G0.cell 3; have g0f := G0.frozen 3
          have H0 := G0.put 3 (.slice A4 n4 c4)
          have H1 := G1.far (p := ⟨w.heap.size, 3, none⟩) (by show ¬ w.heap.size + 1 = w.heap.size; omega) (.slice A4 n4 c4)
          have H2 := G2.far (p := ⟨w.heap.size, 3, none⟩) (by show ¬ w.heap.size + 1 + 1 = w.heap.size; omega) (.slice A4 n4 c4)
          have h03 := H0.cell 3
          refine hK.out _ _ (by exact ⟨(G1).cell 0, (G1).cell 1, (G1).cell 2, (G1).cell 3⟩) (fun hHeld => ?_)
          clear hK K
          (try simp only [Act.put, qa_, qb_, qc_])
          refine wpAnyH_take (i := 6) (oi := ⟨some 11, _, _, _, _, _⟩) (v := ?v3) rfl (by kernel_rfl) (by kernel_rfl) (by kernel_rfl) (fun _ _ _ h => h) (Or.inl ⟨by rfl, ?hy3⟩) (by assumption) ?_
          case hy3 => (intro w hSw; (try dsimp only at hSw); go_simp; try (with_reducible rfl))
          (try simp only [Act.put, qa_, qb_, qc_])
          refine wpAnyH_ready (rs := [7]) (by kernel_rfl) (by simp) ?_
          refine AllReadyH.cons rfl (fun K hK => ?_) ?_
          · go_simp
            refine hK.out _ _ (by exact ⟨(H1).cell 0, (H1).cell 1, (H1).cell 2, (H1).cell 3⟩) (fun hHeld => ?_)
            clear hK K
            (try simp only [Act.put, qa_, qb_, qc_])
            refine wpAnyH_done (by kernel_rfl) ?_ _
            go_wp2_with fail
            have hG5 := hG4.put (p := ⟨w.heap.size, 3, none⟩) (by show w.heap.size < _; omega) hB0 (.slice A4 n4 c4)
            have hB5 := bel_put hs4 (p := ⟨w.heap.size, 3, none⟩) (Nat.le_refl _) (.slice A4 n4 c4)
            refine (i_SortPc hG5 (by simp) (by rw [List.length_append, List.length_singleton]; have := E0.out; omega) (by omega) HPW.out HPM.out).mono ?_
            rintro e w6 ⟨rfl, hG6, hgr6⟩
            have hOwn6 := hG5.own
            obtain ⟨A6_, n6_, c6_, e6_, hn6⟩ := hG6.shapeN
            have HN6 := Lib.hid (show n4 = (insB pAt (y0, y1, y2, qd) g).length by injection e6_ with _ e2 _; rw [e2]; exact hn6)
            clear hn6 e6_
            have K0 := Box.grown H0 hgr6 (fun e => by have := (hOwn6 _ e.symm).1; omega)
            have K2 := Box.grown H2 hgr6 (fun e => by have := (hOwn6 _ e.symm).1; omega)
            have hB6 : Below w.heap.size w w6 := Below.grown hB5 hgr6 (by simp [World.setCell]; omega) (fun b hb => by have := (hOwn6 b hb).1; omega)
            have k0 := K0.cell 0; have k1 := K0.cell 1; have k2 := K0.cell 2; have k3 := K0.cell 3; have r0 := K2.cell 0; have r1 := K2.cell 1; have r2 := K2.cell 2; have r3 := K2.cell 3; have rf0 := K2.frozen 0; have rf1 := K2.frozen 1; have rf2 := K2.frozen 2; have rf3 := K2.frozen 3
            go_wp2
            have RR := (((K2.put 0 (.int .i64 x0)).put 1 (.int .i64 x1)).put 2 (.int .i64 x2)).put 3 (.slice A4 n4 c4)
            have s0 := RR.cell 0; have s1 := RR.cell 1; have s2 := RR.cell 2; have s3 := RR.cell 3
            have GX := ((((hG6.put (p := ⟨w.heap.size + 1 + 1, 0, none⟩) (by show w.heap.size + 1 + 1 < _; omega) (by show _ ≤ w.heap.size + 1 + 1; omega) (.int .i64 x0)).put (p := ⟨w.heap.size + 1 + 1, 1, none⟩) (by show w.heap.size + 1 + 1 < _; omega) (by show _ ≤ w.heap.size + 1 + 1; omega) (.int .i64 x1)).put (p := ⟨w.heap.size + 1 + 1, 2, none⟩) (by show w.heap.size + 1 + 1 < _; omega) (by show _ ≤ w.heap.size + 1 + 1; omega) (.int .i64 x2)).put (p := ⟨w.heap.size + 1 + 1, 3, none⟩) (by show w.heap.size + 1 + 1 < _; omega) (by show _ ≤ w.heap.size + 1 + 1; omega) (.slice A4 n4 c4))
            have BX := (bel_put (bel_put (bel_put (bel_put hB6 (p := ⟨w.heap.size + 1 + 1, 0, none⟩) (by show _ ≤ w.heap.size + 1 + 1; omega) (.int .i64 x0)) (p := ⟨w.heap.size + 1 + 1, 1, none⟩) (by show _ ≤ w.heap.size + 1 + 1; omega) (.int .i64 x1)) (p := ⟨w.heap.size + 1 + 1, 2, none⟩) (by show _ ≤ w.heap.size + 1 + 1; omega) (.int .i64 x2)) (p := ⟨w.heap.size + 1 + 1, 3, none⟩) (by show _ ≤ w.heap.size + 1 + 1; omega) (.slice A4 n4 c4))
            refine bodyPost_ret (v := .agg #[.int .i64 x0, .int .i64 x1, .int .i64 x2, .slice A4 n4 c4]) (by simp [results, Tryz.results50, go_sem, s0, s1, s2, s3]) rfl ⟨A4, n4, c4, rfl, HN6.out, GX.lower (by omega), BX⟩
          exact AllReadyH.nil
        exact AllReadyH.nil
      exact AllReadyH.nil
    refine AllReadyH.cons rfl (fun K hK => ?_) ?_
    · go_simp
      refine hK.out _ _ (by exact ⟨(P1b).cell 0, (P1b).cell 1, (P1b).cell 2, (P1b).cell 3⟩) (fun hHeld => ?_)
      clear hK K
      (try simp only [Act.put, qa_, qb_, qc_])
      refine wpAnyH_ready (rs := [2]) (by kernel_rfl) (by simp) ?_
      refine AllReadyH.cons rfl (fun K hK => ?_) ?_
      · go_simp
        go_at_call 95
        refine (i_copiedPc (w := ((((w.alloc (.cells #[.int .i64 x0, .int .i64 x1, .int .i64 x2, .slice A n c] 53)).alloc (.cells #[.int .i64 y0, .int .i64 y1, .int .i64 y2, .slice A7 n7 c7] 37)).alloc (.cells #[.int .i64 0, .int .i64 0, .int .i64 0, .slice none 0 0] 53)).alloc (.cells [.int .i64 y0, .int .i64 y1, .int .i64 y2, .slice A7 n7 c7].toArray 37)).drew) (B := B0) (tPiece.row.keep hg (fun b hb => (show Below w.heap.size w (((((w.alloc (.cells #[.int .i64 x0, .int .i64 x1, .int .i64 x2, .slice A n c] 53)).alloc (.cells #[.int .i64 y0, .int .i64 y1, .int .i64 y2, .slice A7 n7 c7] 37)).alloc (.cells #[.int .i64 0, .int .i64 0, .int .i64 0, .slice none 0 0] 53)).alloc (.cells [.int .i64 y0, .int .i64 y1, .int .i64 y2, .slice A7 n7 c7].toArray 37)).drew) from (belx)).block b (by omega))) (by show _ ≤ ((((w.alloc (.cells #[.int .i64 x0, .int .i64 x1, .int .i64 x2, .slice A n c] 53)).alloc (.cells #[.int .i64 y0, .int .i64 y1, .int .i64 y2, .slice A7 n7 c7] 37)).alloc (.cells #[.int .i64 0, .int .i64 0, .int .i64 0, .slice none 0 0] 53)).alloc (.cells [.int .i64 y0, .int .i64 y1, .int .i64 y2, .slice A7 n7 c7].toArray 37)).heap.size; simp; omega) (by omega)).mono ?_
        rintro e w3 ⟨v3, rfl, hG3, hb3⟩
        obtain ⟨A3, n3, c3, rfl, hn3⟩ := hG3.shapeN
        have HN3 := Lib.hid hn3
        clear hn3
        have hs3 : Below w.heap.size w w3 := bel_trans (show Below w.heap.size w ((((w.alloc (.cells #[.int .i64 x0, .int .i64 x1, .int .i64 x2, .slice A n c] 53)).alloc (.cells #[.int .i64 y0, .int .i64 y1, .int .i64 y2, .slice A7 n7 c7] 37)).alloc (.cells #[.int .i64 0, .int .i64 0, .int .i64 0, .slice none 0 0] 53)).alloc (.cells [.int .i64 y0, .int .i64 y1, .int .i64 y2, .slice A7 n7 c7].toArray 37)) from (belx)) (bel_trans (bel_drew (Below.refl _ _)) hb3)
        have z3 : w.heap.size + 4 ≤ w3.heap.size := by have h : ((((w.alloc (.cells #[.int .i64 x0, .int .i64 x1, .int .i64 x2, .slice A n c] 53)).alloc (.cells #[.int .i64 y0, .int .i64 y1, .int .i64 y2, .slice A7 n7 c7] 37)).alloc (.cells #[.int .i64 0, .int .i64 0, .int .i64 0, .slice none 0 0] 53)).alloc (.cells [.int .i64 y0, .int .i64 y1, .int .i64 y2, .slice A7 n7 c7].toArray 37)).heap.size ≤ w3.heap.size := hb3.size; simpa using h
        have hG3 : GrowR tPiece 37 w3 (w.heap.size + 3) B0 (.slice A3 n3 c3) g := hG3.lower (by show _ ≤ ((((w.alloc (.cells #[.int .i64 x0, .int .i64 x1, .int .i64 x2, .slice A n c] 53)).alloc (.cells #[.int .i64 y0, .int .i64 y1, .int .i64 y2, .slice A7 n7 c7] 37)).alloc (.cells #[.int .i64 0, .int .i64 0, .int .i64 0, .slice none 0 0] 53)).alloc (.cells [.int .i64 y0, .int .i64 y1, .int .i64 y2, .slice A7 n7 c7].toArray 37)).heap.size; simp)
        have F0 := Box.below (Box.drew P0b) hb3 (Box.drew P0b).size
        have F1 := Box.below (Box.drew P1b) hb3 (Box.drew P1b).size
        have F2 := Box.below (Box.drew P2b) hb3 (Box.drew P2b).size
        have FB := Box.below (Box.drew PBb) hb3 (Box.drew PBb).size
        have f30 := F0.cell 3
        go_wp2_with fail
        refine hK.out _ _ (by exact ⟨(F1).cell 0, (F1).cell 1, (F1).cell 2, (F1).cell 3⟩) (fun hHeld => ?_)
        clear hK K
        (try simp only [Act.put, qa_, qb_, qc_])
        refine wpAnyH_ready (rs := [5]) (by kernel_rfl) (by simp) ?_
        refine AllReadyH.cons rfl (fun K hK => ?_) ?_
        · refine GrowR.step (t := tPiece) (e := 37) (w := w3) (base := w.heap.size + 3) (B := B0) (by rfl) (.tmp 7) (.tmp 9) _ (by rfl) i1 _ 4 48 Tryz.underlying51 hj0 hj1 hj2 hj3 tz (by omega) rfl (by rfl) hG3 (w.heap.size + 3) [.int .i64 y0, .int .i64 y1, .int .i64 y2, .slice A7 n7 c7] (y0, y1, y2, qd) (by rfl) FB (tPiece.keep hq (fun b hb => hs3.block b (by omega))) (by intro u hu; simp only [List.mem_cons, List.not_mem_nil, or_false] at hu; rcases hu with rfl | rfl | rfl | rfl <;> rfl) (by omega) (by first | omega | (simp; omega)) (by have := E0.out; simp only [maxLen]; omega) (by have := E0.out; omega) ?_
          intro v4 w4 hG4 hgr4
          obtain ⟨A4, n4, c4, rfl, hn4⟩ := hG4.shapeN
          have HN4 := Lib.hid hn4
          clear hn4
          have hOwn := hG3.own
          have hs4 : Below w.heap.size w w4 := Below.grown (w := w3) hs3 hgr4 (by first | omega | (simp; omega)) (fun b hb => by have := (hOwn b hb).1; omega)
          have G0 := Box.grown (w := w3) F0 hgr4 (fun e => by have := (hOwn _ e.symm).1; omega)
          have G1 := Box.grown (w := w3) F1 hgr4 (fun e => by have := (hOwn _ e.symm).1; omega)
          have G2 := Box.grown (w := w3) F2 hgr4 (fun e => by have := (hOwn _ e.symm).1; omega)
          have z4 : w.heap.size + 3 ≤ w4.heap.size := G2.size
          have g03 := G0.cell 3; have g0f := G0.frozen 3
          have H0 := G0.put 3 (.slice A4 n4 c4)
          have H1 := G1.far (p := ⟨w.heap.size, 3, none⟩) (by show ¬ w.heap.size + 1 = w.heap.size; omega) (.slice A4 n4 c4)
          have H2 := G2.far (p := ⟨w.heap.size, 3, none⟩) (by show ¬ w.heap.size + 1 + 1 = w.heap.size; omega) (.slice A4 n4 c4)
          have h03 := H0.cell 3
          refine hK.out _ _ (by exact ⟨(G1).cell 0, (G1).cell 1, (G1).cell 2, (G1).cell 3⟩) (fun hHeld => ?_)
          clear hK K
          (try simp only [Act.put, qa_, qb_, qc_])
          refine wpAnyH_take (i := 6) (oi := ⟨some 11, _, _, _, _, _⟩) (v := ?v4) rfl (by kernel_rfl) (by kernel_rfl) (by kernel_rfl) (fun _ _ _ h => h) (Or.inl ⟨by rfl, ?hy4⟩) (by assumption) ?_
          case hy4 => (intro w hSw; (try dsimp only at hSw); go_simp; try (with_reducible rfl))
          (try simp only [Act.put, qa_, qb_, qc_])
          refine wpAnyH_ready (rs := [7]) (by kernel_rfl) (by simp) ?_
          refine AllReadyH.cons rfl (fun K hK => ?_) ?_
          · go_simp
            refine hK.out _ _ (by exact ⟨(H1).cell 0, (H1).cell 1, (H1).cell 2, (H1).cell 3⟩) (fun hHeld => ?_)
            clear hK K
            (try simp only [Act.put, qa_, qb_, qc_])
            refine wpAnyH_done (by kernel_rfl) ?_ _
            go_wp2_with fail
            have hG5 := hG4.put (p := ⟨w.heap.size, 3, none⟩) (by show w.heap.size < _; omega) hB0 (.slice A4 n4 c4)
            have hB5 := bel_put hs4 (p := ⟨w.heap.size, 3, none⟩) (Nat.le_refl _) (.slice A4 n4 c4)
            refine (i_SortPc hG5 (by simp) (by rw [List.length_append, List.length_singleton]; have := E0.out; omega) (by omega) HPW.out HPM.out).mono ?_
            rintro e w6 ⟨rfl, hG6, hgr6⟩
            have hOwn6 := hG5.own
            obtain ⟨A6_, n6_, c6_, e6_, hn6⟩ := hG6.shapeN
            have HN6 := Lib.hid (show n4 = (insB pAt (y0, y1, y2, qd) g).length by injection e6_ with _ e2 _; rw [e2]; exact hn6)
            clear hn6 e6_
            have K0 := Box.grown H0 hgr6 (fun e => by have := (hOwn6 _ e.symm).1; omega)
            have K2 := Box.grown H2 hgr6 (fun e => by have := (hOwn6 _ e.symm).1; omega)
            have hB6 : Below w.heap.size w w6 := Below.grown hB5 hgr6 (by simp [World.setCell]; omega) (fun b hb => by have := (hOwn6 b hb).1; omega)
            have k0 := K0.cell 0; have k1 := K0.cell 1; have k2 := K0.cell 2; have k3 := K0.cell 3; have r0 := K2.cell 0; have r1 := K2.cell 1; have r2 := K2.cell 2; have r3 := K2.cell 3; have rf0 := K2.frozen 0; have rf1 := K2.frozen 1; have rf2 := K2.frozen 2; have rf3 := K2.frozen 3
            go_wp2
            have RR := (((K2.put 0 (.int .i64 x0)).put 1 (.int .i64 x1)).put 2 (.int .i64 x2)).put 3 (.slice A4 n4 c4)
            have s0 := RR.cell 0; have s1 := RR.cell 1; have s2 := RR.cell 2; have s3 := RR.cell 3
            have GX := ((((hG6.put (p := ⟨w.heap.size + 1 + 1, 0, none⟩) (by show w.heap.size + 1 + 1 < _; omega) (by show _ ≤ w.heap.size + 1 + 1; omega) (.int .i64 x0)).put (p := ⟨w.heap.size + 1 + 1, 1, none⟩) (by show w.heap.size + 1 + 1 < _; omega) (by show _ ≤ w.heap.size + 1 + 1; omega) (.int .i64 x1)).put (p := ⟨w.heap.size + 1 + 1, 2, none⟩) (by show w.heap.size + 1 + 1 < _; omega) (by show _ ≤ w.heap.size + 1 + 1; omega) (.int .i64 x2)).put (p := ⟨w.heap.size + 1 + 1, 3, none⟩) (by show w.heap.size + 1 + 1 < _; omega) (by show _ ≤ w.heap.size + 1 + 1; omega) (.slice A4 n4 c4))
            have BX := (bel_put (bel_put (bel_put (bel_put hB6 (p := ⟨w.heap.size + 1 + 1, 0, none⟩) (by show _ ≤ w.heap.size + 1 + 1; omega) (.int .i64 x0)) (p := ⟨w.heap.size + 1 + 1, 1, none⟩) (by show _ ≤ w.heap.size + 1 + 1; omega) (.int .i64 x1)) (p := ⟨w.heap.size + 1 + 1, 2, none⟩) (by show _ ≤ w.heap.size + 1 + 1; omega) (.int .i64 x2)) (p := ⟨w.heap.size + 1 + 1, 3, none⟩) (by show _ ≤ w.heap.size + 1 + 1; omega) (.slice A4 n4 c4))
            refine bodyPost_ret (v := .agg #[.int .i64 x0, .int .i64 x1, .int .i64 x2, .slice A4 n4 c4]) (by simp [results, Tryz.results50, go_sem, s0, s1, s2, s3]) rfl ⟨A4, n4, c4, rfl, HN6.out, GX.lower (by omega), BX⟩
          exact AllReadyH.nil
        exact AllReadyH.nil
      exact AllReadyH.nil
    exact AllReadyH.nil
  refine AllReadyH.cons rfl (fun K hK => ?_) ?_
  · go_simp
    refine hK.out _ _ (by exact ⟨(P1b).cell 0, (P1b).cell 1, (P1b).cell 2, (P1b).cell 3⟩) (fun hHeld => ?_)
    clear hK K
    (try simp only [Act.put, qa_, qb_, qc_])
    refine wpAnyH_ready (rs := [1]) (by kernel_rfl) (by simp) ?_
    refine AllReadyH.cons rfl (fun K hK => ?_) ?_
    · go_simp
      refine hK.out _ _ (by exact ⟨(P1b).cell 0, (P1b).cell 1, (P1b).cell 2, (P1b).cell 3⟩) (fun hHeld => ?_)
      clear hK K
      (try simp only [Act.put, qa_, qb_, qc_])
      refine wpAnyH_ready (rs := [2]) (by kernel_rfl) (by simp) ?_
      refine AllReadyH.cons rfl (fun K hK => ?_) ?_
      · go_simp
        go_at_call 95
        refine (i_copiedPc (w := ((((w.alloc (.cells #[.int .i64 x0, .int .i64 x1, .int .i64 x2, .slice A n c] 53)).alloc (.cells #[.int .i64 y0, .int .i64 y1, .int .i64 y2, .slice A7 n7 c7] 37)).alloc (.cells #[.int .i64 0, .int .i64 0, .int .i64 0, .slice none 0 0] 53)).alloc (.cells [.int .i64 y0, .int .i64 y1, .int .i64 y2, .slice A7 n7 c7].toArray 37)).drew) (B := B0) (tPiece.row.keep hg (fun b hb => (show Below w.heap.size w (((((w.alloc (.cells #[.int .i64 x0, .int .i64 x1, .int .i64 x2, .slice A n c] 53)).alloc (.cells #[.int .i64 y0, .int .i64 y1, .int .i64 y2, .slice A7 n7 c7] 37)).alloc (.cells #[.int .i64 0, .int .i64 0, .int .i64 0, .slice none 0 0] 53)).alloc (.cells [.int .i64 y0, .int .i64 y1, .int .i64 y2, .slice A7 n7 c7].toArray 37)).drew) from (belx)).block b (by omega))) (by show _ ≤ ((((w.alloc (.cells #[.int .i64 x0, .int .i64 x1, .int .i64 x2, .slice A n c] 53)).alloc (.cells #[.int .i64 y0, .int .i64 y1, .int .i64 y2, .slice A7 n7 c7] 37)).alloc (.cells #[.int .i64 0, .int .i64 0, .int .i64 0, .slice none 0 0] 53)).alloc (.cells [.int .i64 y0, .int .i64 y1, .int .i64 y2, .slice A7 n7 c7].toArray 37)).heap.size; simp; omega) (by omega)).mono ?_
        rintro e w3 ⟨v3, rfl, hG3, hb3⟩
        obtain ⟨A3, n3, c3, rfl, hn3⟩ := hG3.shapeN
        have HN3 := Lib.hid hn3
        clear hn3
        have hs3 : Below w.heap.size w w3 := bel_trans (show Below w.heap.size w ((((w.alloc (.cells #[.int .i64 x0, .int .i64 x1, .int .i64 x2, .slice A n c] 53)).alloc (.cells #[.int .i64 y0, .int .i64 y1, .int .i64 y2, .slice A7 n7 c7] 37)).alloc (.cells #[.int .i64 0, .int .i64 0, .int .i64 0, .slice none 0 0] 53)).alloc (.cells [.int .i64 y0, .int .i64 y1, .int .i64 y2, .slice A7 n7 c7].toArray 37)) from (belx)) (bel_trans (bel_drew (Below.refl _ _)) hb3)
        have z3 : w.heap.size + 4 ≤ w3.heap.size := by have h : ((((w.alloc (.cells #[.int .i64 x0, .int .i64 x1, .int .i64 x2, .slice A n c] 53)).alloc (.cells #[.int .i64 y0, .int .i64 y1, .int .i64 y2, .slice A7 n7 c7] 37)).alloc (.cells #[.int .i64 0, .int .i64 0, .int .i64 0, .slice none 0 0] 53)).alloc (.cells [.int .i64 y0, .int .i64 y1, .int .i64 y2, .slice A7 n7 c7].toArray 37)).heap.size ≤ w3.heap.size := hb3.size; simpa using h
        have hG3 : GrowR tPiece 37 w3 (w.heap.size + 3) B0 (.slice A3 n3 c3) g := hG3.lower (by show _ ≤ ((((w.alloc (.cells #[.int .i64 x0, .int .i64 x1, .int .i64 x2, .slice A n c] 53)).alloc (.cells #[.int .i64 y0, .int .i64 y1, .int .i64 y2, .slice A7 n7 c7] 37)).alloc (.cells #[.int .i64 0, .int .i64 0, .int .i64 0, .slice none 0 0] 53)).alloc (.cells [.int .i64 y0, .int .i64 y1, .int .i64 y2, .slice A7 n7 c7].toArray 37)).heap.size; simp)
        have F0 := Box.below (Box.drew P0b) hb3 (Box.drew P0b).size
        have F1 := Box.below (Box.drew P1b) hb3 (Box.drew P1b).size
        have F2 := Box.below (Box.drew P2b) hb3 (Box.drew P2b).size
        have FB := Box.below (Box.drew PBb) hb3 (Box.drew PBb).size
        have f30 := F0.cell 3
        go_wp2_with fail
        refine hK.out _ _ (by exact ⟨(F1).cell 0, (F1).cell 1, (F1).cell 2, (F1).cell 3⟩) (fun hHeld => ?_)
        clear hK K
        (try simp only [Act.put, qa_, qb_, qc_])
        refine wpAnyH_ready (rs := [5]) (by kernel_rfl) (by simp) ?_
        refine AllReadyH.cons rfl (fun K hK => ?_) ?_
        · refine GrowR.step (t := tPiece) (e := 37) (w := w3) (base := w.heap.size + 3) (B := B0) (by rfl) (.tmp 7) (.tmp 9) _ (by rfl) i1 _ 4 48 Tryz.underlying51 hj0 hj1 hj2 hj3 tz (by omega) rfl (by rfl) hG3 (w.heap.size + 3) [.int .i64 y0, .int .i64 y1, .int .i64 y2, .slice A7 n7 c7] (y0, y1, y2, qd) (by rfl) FB (tPiece.keep hq (fun b hb => hs3.block b (by omega))) (by intro u hu; simp only [List.mem_cons, List.not_mem_nil, or_false] at hu; rcases hu with rfl | rfl | rfl | rfl <;> rfl) (by omega) (by first | omega | (simp; omega)) (by have := E0.out; simp only [maxLen]; omega) (by have := E0.out; omega) ?_
          intro v4 w4 hG4 hgr4
          obtain ⟨A4, n4, c4, rfl, hn4⟩ := hG4.shapeN
          have HN4 := Lib.hid hn4
          clear hn4
          have hOwn := hG3.own
          have hs4 : Below w.heap.size w w4 := Below.grown (w := w3) hs3 hgr4 (by first | omega | (simp; omega)) (fun b hb => by have := (hOwn b hb).1; omega)
          have G0 := Box.grown (w := w3) F0 hgr4 (fun e => by have := (hOwn _ e.symm).1; omega)
          have G1 := Box.grown (w := w3) F1 hgr4 (fun e => by have := (hOwn _ e.symm).1; omega)
          have G2 := Box.grown (w := w3) F2 hgr4 (fun e => by have := (hOwn _ e.symm).1; omega)
          have z4 : w.heap.size + 3 ≤ w4.heap.size := G2.size
          have g03 := G0.cell 3; have g0f := G0.frozen 3
          have H0 := G0.put 3 (.slice A4 n4 c4)
          have H1 := G1.far (p := ⟨w.heap.size, 3, none⟩) (by show ¬ w.heap.size + 1 = w.heap.size; omega) (.slice A4 n4 c4)
          have H2 := G2.far (p := ⟨w.heap.size, 3, none⟩) (by show ¬ w.heap.size + 1 + 1 = w.heap.size; omega) (.slice A4 n4 c4)
          have h03 := H0.cell 3
          refine hK.out _ _ (by exact ⟨(G1).cell 0, (G1).cell 1, (G1).cell 2, (G1).cell 3⟩) (fun hHeld => ?_)
          clear hK K
          (try simp only [Act.put, qa_, qb_, qc_])
          refine wpAnyH_take (i := 6) (oi := ⟨some 11, _, _, _, _, _⟩) (v := ?v5) rfl (by kernel_rfl) (by kernel_rfl) (by kernel_rfl) (fun _ _ _ h => h) (Or.inl ⟨by rfl, ?hy5⟩) (by assumption) ?_
          case hy5 => (intro w hSw; (try dsimp only at hSw); go_simp; try (with_reducible rfl))
          (try simp only [Act.put, qa_, qb_, qc_])
          refine wpAnyH_ready (rs := [7]) (by kernel_rfl) (by simp) ?_
          refine AllReadyH.cons rfl (fun K hK => ?_) ?_
          · go_simp
            refine hK.out _ _ (by exact ⟨(H1).cell 0, (H1).cell 1, (H1).cell 2, (H1).cell 3⟩) (fun hHeld => ?_)
            clear hK K
            (try simp only [Act.put, qa_, qb_, qc_])
            refine wpAnyH_done (by kernel_rfl) ?_ _
            go_wp2_with fail
            have hG5 := hG4.put (p := ⟨w.heap.size, 3, none⟩) (by show w.heap.size < _; omega) hB0 (.slice A4 n4 c4)
            have hB5 := bel_put hs4 (p := ⟨w.heap.size, 3, none⟩) (Nat.le_refl _) (.slice A4 n4 c4)
            refine (i_SortPc hG5 (by simp) (by rw [List.length_append, List.length_singleton]; have := E0.out; omega) (by omega) HPW.out HPM.out).mono ?_
            rintro e w6 ⟨rfl, hG6, hgr6⟩
            have hOwn6 := hG5.own
            obtain ⟨A6_, n6_, c6_, e6_, hn6⟩ := hG6.shapeN
            have HN6 := Lib.hid (show n4 = (insB pAt (y0, y1, y2, qd) g).length by injection e6_ with _ e2 _; rw [e2]; exact hn6)
            clear hn6 e6_
            have K0 := Box.grown H0 hgr6 (fun e => by have := (hOwn6 _ e.symm).1; omega)
            have K2 := Box.grown H2 hgr6 (fun e => by have := (hOwn6 _ e.symm).1; omega)
            have hB6 : Below w.heap.size w w6 := Below.grown hB5 hgr6 (by simp [World.setCell]; omega) (fun b hb => by have := (hOwn6 b hb).1; omega)
            have k0 := K0.cell 0; have k1 := K0.cell 1; have k2 := K0.cell 2; have k3 := K0.cell 3; have r0 := K2.cell 0; have r1 := K2.cell 1; have r2 := K2.cell 2; have r3 := K2.cell 3; have rf0 := K2.frozen 0; have rf1 := K2.frozen 1; have rf2 := K2.frozen 2; have rf3 := K2.frozen 3
            go_wp2
            have RR := (((K2.put 0 (.int .i64 x0)).put 1 (.int .i64 x1)).put 2 (.int .i64 x2)).put 3 (.slice A4 n4 c4)
            have s0 := RR.cell 0; have s1 := RR.cell 1; have s2 := RR.cell 2; have s3 := RR.cell 3
            have GX := ((((hG6.put (p := ⟨w.heap.size + 1 + 1, 0, none⟩) (by show w.heap.size + 1 + 1 < _; omega) (by show _ ≤ w.heap.size + 1 + 1; omega) (.int .i64 x0)).put (p := ⟨w.heap.size + 1 + 1, 1, none⟩) (by show w.heap.size + 1 + 1 < _; omega) (by show _ ≤ w.heap.size + 1 + 1; omega) (.int .i64 x1)).put (p := ⟨w.heap.size + 1 + 1, 2, none⟩) (by show w.heap.size + 1 + 1 < _; omega) (by show _ ≤ w.heap.size + 1 + 1; omega) (.int .i64 x2)).put (p := ⟨w.heap.size + 1 + 1, 3, none⟩) (by show w.heap.size + 1 + 1 < _; omega) (by show _ ≤ w.heap.size + 1 + 1; omega) (.slice A4 n4 c4))
            have BX := (bel_put (bel_put (bel_put (bel_put hB6 (p := ⟨w.heap.size + 1 + 1, 0, none⟩) (by show _ ≤ w.heap.size + 1 + 1; omega) (.int .i64 x0)) (p := ⟨w.heap.size + 1 + 1, 1, none⟩) (by show _ ≤ w.heap.size + 1 + 1; omega) (.int .i64 x1)) (p := ⟨w.heap.size + 1 + 1, 2, none⟩) (by show _ ≤ w.heap.size + 1 + 1; omega) (.int .i64 x2)) (p := ⟨w.heap.size + 1 + 1, 3, none⟩) (by show _ ≤ w.heap.size + 1 + 1; omega) (.slice A4 n4 c4))
            refine bodyPost_ret (v := .agg #[.int .i64 x0, .int .i64 x1, .int .i64 x2, .slice A4 n4 c4]) (by simp [results, Tryz.results50, go_sem, s0, s1, s2, s3]) rfl ⟨A4, n4, c4, rfl, HN6.out, GX.lower (by omega), BX⟩
          exact AllReadyH.nil
        exact AllReadyH.nil
      exact AllReadyH.nil
    exact AllReadyH.nil
  exact AllReadyH.nil
end Go.Proofs.YtaabmaoldhoinaaGreat
namespace Go.Proofs.YtaabmaoldhoinaaGreat
set_option maxRecDepth 100000
set_option linter.unusedVariables false
set_option linter.unusedSimpArgs false
open Go.ChangeShapes Go.WideShapes Go.ChangeAt Go.RowKit
open Fld
theorem i_PcData {w : World} {cs : List Value} {p : DPiece} (h : tPiece.R w w.heap.size cs p) :
    Calls Tryz.prog 55 #[.agg cs.toArray] w fun e w' => ∃ A n c, e = .returned (.slice A n c) ∧ Ints .u8 w' w'.heap.size A n p.2.2.2 ∧ Below w.heap.size w w' := by
  obtain ⟨A3, n3, c3, rfl, -, -, -, -, -, -, h3⟩ := openPiece h
  go_enter Tryz.func55, Tryz.ntmps55
  go_wp2
  go_ret
  exact ⟨A3, n3, c3, rfl, reach (slR_ints h3).1 (belx), (belx)⟩
set_option maxHeartbeats 1000000 in
theorem i_joinedData {w : World} {n c : Nat} {A : Option Addr} {l : List DPiece} (F : Nat) (f : DPiece → List Int) (m : Nat) (hE : ∀ (cs : Array Value) (w : World), Sem.run Tryz.prog (callFunc F #[Value.agg cs]) w = .ok (.enter F #[Value.agg cs]) w)
    (hF : ∀ (i : Nat) (a : DPiece) (w' : World) (cs : List Value), l[i]? = some a → Below w.heap.size w w' → tPiece.R w' w'.heap.size cs a → Calls Tryz.prog F #[.agg cs.toArray] w' fun e w2 => ∃ A' n' c', e = .returned (.slice A' n' c') ∧ Ints .u8 w2 w2.heap.size A' n' (f a) ∧ Below w'.heap.size w' w2)
    (hm : ∀ a ∈ l, (f a).length ≤ m) (hmn : m * n ≤ 1000000) (hl : tPiece.row.R w w.heap.size [.slice A n c] l) (hn : n ≤ 1048576) :
    Calls Tryz.prog 54 #[.slice A n c, .func (.func F) #[] #[]] w fun e w' => ∃ v, e = .returned v ∧ Own .u8 5 w' w.heap.size v (l.flatMap f) ∧ Below w.heap.size w w' := by
  obtain ⟨i0, hi0, hz0, hz1, hz2⟩ := info_parts info_cb
  obtain ⟨e0, _, _⟩ := rowR_len hl
  have HL := Lib.hid e0
  clear e0
  have HF := Lib.hid hF
  have HE := Lib.hid hE
  have HM := Lib.hid hm
  have HMN := Lib.hid hmn
  clear hF hE hm hmn
  go_enter Tryz.func54, Tryz.ntmps54
  go_wp2_with fail
  go_loopw [5, 10] (fun v i wr => ∃ j : Nat, j ≤ n ∧ i = .int .i64 j ∧ Own .u8 5 wr w.heap.size v ((l.take j).flatMap f) ∧ Below w.heap.size w wr) (fun _ i _ => n - ixOf i)
  case atStart => exact ⟨0, by omega, rfl, Own.nil _ _ _ _, (belx)⟩
  case round =>
    obtain ⟨j, hj, rfl, hO, hB⟩ := hrel
    by_cases hlt : j < n
    · obtain ⟨a, b', off, es, hl2, rfl, hb, hes, hR⟩ := rowR_at (K := 4) hl hlt rfl
      have hRk := hR
      obtain ⟨A2, n2, c2, rfl, -, -, -, -, -, -, -⟩ := openPiece hR
      have e0 : wr.cell? ⟨b', off + j * 4, none⟩ = some (.int .i64 a.1) := cell_at hB hb (hes 0 (by omega))
      have e1 : wr.cell? ⟨b', off + j * 4 + 1, none⟩ = some (.int .i64 a.2.1) := cell_at hB hb (hes 1 (by omega))
      have e2 : wr.cell? ⟨b', off + j * 4 + 2, none⟩ = some (.int .i64 a.2.2.1) := cell_at hB hb (hes 2 (by omega))
      have e3 : wr.cell? ⟨b', off + j * 4 + 3, none⟩ = some (.slice A2 n2 c2) := cell_at hB hb (hes 3 (by omega))
      clear hes hR
      have HA := Lib.hid hl2
      have HS := Lib.hid (flS (f := f) hl2)
      have hm1 := HM.out a (alMem hl2)
      have hm2 : ((l.take j).flatMap f).length + (f a).length ≤ 1000000 := by
        have h1 := flLe (f := f) HM.out (j + 1)
        rw [HS.out, List.length_append, HL.out] at h1
        have := HMN.out
        omega
      clear hl2
      obtain ⟨bs, hbs⟩ : ∃ bs, (l.take j).flatMap f = bs := ⟨_, rfl⟩
      rw [hbs] at hO HS hm2
      have HM2 := Lib.hid hm2
      clear hbs hm1 hm2
      go_wp2_with fail
      rw [HE.out, Oper.upon_enter]
      refine (HF.out j a _ _ HA.out ?hB (tPiece.reach hRk ?hB2)).mono ?_
      case hB => exact bel_trans (a := w) hB (belx)
      case hB2 => exact bel_trans (a := w) hB (belx)
      rintro e w1 ⟨A1, n1, c1, rfl, hI1, hb1⟩
      obtain ⟨fa, hfa⟩ : ∃ y, f a = y := ⟨_, rfl⟩
      rw [hfa] at HS HM2 hI1
      clear hfa
      have hs1 : Below wr.heap.size wr w1 := bel_trans (belx) hb1
      have hO2 := hO.below hs1
      have HO1 := Lib.hid hI1.2.2
      have hS : Src w1 1 A1 n1 (fa.map (Value.int .u8)) := Src.of_ints hI1
      have HN1 := Lib.hid hI1.1.symm
      have zz := hs1.size
      have zw := hB.size
      clear hI1
      go_wp2_with (at_builtin; refine wpList_app _ rfl (.tmp 14) (.tmp 17) _ rfl w.heap.size 5 i0 _ 1 1 Tryz.underlying26 hi0 hz0 hz1 hz2 rfl (by omega) _ _ _ rfl hO2.1 A1 n1 c1 (fa.map (Value.int .u8)) rfl hS (one_ints _ _) (by simp only [maxLen]; have := HM2.out; have := HN1.out; omega) (by have := HM2.out; have := HN1.out; omega) (by omega) ?_; intro v2 w3 hown hgr hat)
      go_roundw
      case rel => exact ⟨j + 1, by omega, by go_num, by rw [HS.out]; exact own_appN (r := fa) hown HN1.out.symm hO2.2 HO1.out, (bel_trans hB hs1).grown hgr (by omega) (fun b hb => (hO2.block hb).1)⟩
      case measure => simp [ixOf]; omega
    · obtain rfl : n = j := by omega
      have HA := Lib.hid (show l.take n = l from List.take_of_length_le (Nat.le_of_eq HL.out))
      rw [HA.out] at hO
      go_wp2
      go_ret
      exact ⟨_, rfl, hO, hB⟩
theorem srt_ins {l : List Int} {y : Int} (h : Asc l) (hy : y ∉ l) : srt (l ++ [y]) = insB id y l := by
  refine asc_permS (f := id) (insB_pw (f := id) (asc_pw h)) ?_ ?_
  · have := List.pairwise_mergeSort (le := fun x y : Int => decide (x ≤ y)) (fun a b c h1 h2 => by simp at *; omega) (fun a b => by simp; omega) (l ++ [y])
    exact this.imp fun h' => of_decide_eq_true h'
  · exact (List.mergeSort_perm _ _).trans (insB_perm (f := id) fun a ha e => hy (by have : a = y := e; exact this ▸ ha)).symm
end Go.Proofs.YtaabmaoldhoinaaGreat
