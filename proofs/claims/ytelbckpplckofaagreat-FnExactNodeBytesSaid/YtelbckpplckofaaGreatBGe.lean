/-
  TpP, HrP, PPB, NbP, EvLetter, SortI, EvPiece, EvWhole, PDeskI, Tkx, PPBI: texts joined.
-/
import Derived.Test.YtelbckpplckofaaGreatBGa
import Derived.Test.YtelbckpplckofaaGreatBGc
import Derived.Test.YtelbckpplckofaaGreatBGd
import Derived.Test.YtelbckpplckofaaGreatBMLgP
import Derived.Test.YtelbckpplckofaaGreatShelf
import Derived.BigQuiet
import Derived.Deep.QuietTactic
import Derived.Deep.RegionHeld3
import Derived.Sort.OwnSortedInts
namespace Go.Proofs.YtelbckpplckofaaGreat
set_option linter.unusedVariables false
open Go.RowKit
/-- q put into a list by its number; what has the same number goes. -/
def insB {α : Type} (f : α → Int) (q : α) (l : List α) : List α := (l.filter fun p => decide (f p < f q)) ++ q :: l.filter fun p => decide (f q < f p)
section
variable {α : Type} {f : α → Int} {q a : α} {l : List α} {j : Nat}
end
/-! ### a piece taken -/
def pAt (p : DPiece) : Int := p.2.1
def tkBase (d : DDesk) (q : DPiece) (due : Int) : DWhole := (d.1.find? fun a => decide (a.1 = q.1)).getD (q.1, q.2.2.1, due, [])
def TkOld (d : DDesk) (q : DPiece) : Prop := q.1 ∈ d.2 ∨ ∃ a ∈ d.1, a.1 = q.1 ∧ (a.2.1 ≠ q.2.2.1 ∨ ∃ p ∈ a.2.2.2, p.2.1 = q.2.1)
def tkNew (d : DDesk) (q : DPiece) (due : Int) : DWhole := ((tkBase d q due).1, (tkBase d q due).2.1, (tkBase d q due).2.2.1, insB pAt q (tkBase d q due).2.2.2)
noncomputable instance (d : DDesk) (q : DPiece) : Decidable (TkOld d q) := Classical.propDecidable _
def TkDone (d : DDesk) (q : DPiece) (due : Int) : Prop := ((tkNew d q due).2.2.2.length : Int) = (tkNew d q due).2.1
noncomputable instance (d : DDesk) (q : DPiece) (due : Int) : Decidable (TkDone d q due) := Classical.propDecidable _
def TkFull (d : DDesk) (q : DPiece) : Prop := (∀ a ∈ d.1, a.1 ≠ q.1) ∧ 6 ≤ d.1.length
noncomputable instance (d : DDesk) (q : DPiece) : Decidable (TkFull d q) := Classical.propDecidable _
def TkIn (d : DDesk) (q : DPiece) (due : Int) : Prop := DkOk d ∧ PcOk q ∧ (0 ≤ due ∧ due ≤ 65535)
noncomputable instance (d : DDesk) (q : DPiece) (due : Int) : Decidable (TkIn d q due) := Classical.propDecidable _
section
variable {d : DDesk} {q : DPiece} {due : Int} {a : DWhole}
end
theorem pc_le8 {p : DPiece} (h : PcOk p) : 1 ≤ p.2.2.1 ∧ p.2.2.1 ≤ 8 ∧ p.2.2.2.length ≤ 20 ∧ 0 ≤ p.1 ∧ p.1 ≤ 255 ∧ 0 ≤ p.2.1 ∧ p.2.1 < 8 := by
  unfold PcOk PcN at h; omega
section
variable {d : DDesk} {q : DPiece} {due : Int} {a : DWhole}
end
/-- A desk in order is small. -/
theorem dkOk_sz {d : DDesk} (h : DkOk d) : szDesk d ≤ 4096 ∧ rsz szWhole d.1 ≤ 2000 := by
  have key : ∀ l : List DWhole, (∀ w ∈ l, WhN w) → rsz szWhole l ≤ 200 * l.length := by
    intro l
    induction l with
    | nil => intro _; simp [rsz, rsum]
    | cons a l ih =>
      intro hl
      have h1 := ih fun x hx => hl x (List.mem_cons_of_mem _ hx)
      have h2 := hl a List.mem_cons_self
      have h3 : ∀ g : List DPiece, (∀ p ∈ g, PcOk p) → rsz szPiece g ≤ 21 * g.length := by
        intro g
        induction g with
        | nil => intro _; simp [rsz, rsum]
        | cons p g ih =>
          intro hg
          have := ih fun x hx => hg x (List.mem_cons_of_mem _ hx)
          have h4 : szPiece p ≤ 20 := (pc_le8 (hg p List.mem_cons_self)).2.2.1
          unfold rsz at this ⊢
          rw [rsum, List.length_cons]; omega
      have h4 := h3 a.2.2.2 fun p hp => (h2.2.2.1 p hp).1
      have h5 : a.2.2.2.length ≤ 8 := by
        have h6 := h2.2.1
        have h7 := h2.2.2.1 _ (List.getElem_mem (l := a.2.2.2) (n := 0) (by omega))
        have := (pc_le8 h7.1).2.1
        omega
      have h6 : szWhole a ≤ 168 := by unfold szWhole; omega
      unfold rsz at h1 ⊢
      rw [rsum, List.length_cons]; omega
  have h1 := key d.1 fun w hw => (h.2.2.2.2 w hw).1
  have h2 := h.1
  have h3 := asc_len h.2.2.1 h.2.1
  unfold szDesk
  omega
end Go.Proofs.YtelbckpplckofaaGreat
namespace Go.Proofs.YtelbckpplckofaaGreat
set_option linter.unusedVariables false
open Go.RowKit
open Fld
def HrOk (n : DNode) (now : Int) (c pad : List Int) : Prop := NdOk n ∧ (0 ≤ now ∧ now ≤ 60000) ∧ c.length = 80 ∧ 80 ≤ pad.length
noncomputable instance (n : DNode) (now : Int) (c pad : List Int) : Decidable (HrOk n now c pad) := Classical.propDecidable _
/-- A node in order is small. -/
theorem ndOk_sz {n : DNode} (h : NdOk n) : szPool n.2.2.1 ≤ 1100 ∧ szDesk n.2.2.2.1 ≤ 4096 ∧ n.2.2.2.2.length ≤ 256 ∧ rsz szLetter n.2.2.2.2 ≤ 161 * n.2.2.2.2.length := by
  obtain ⟨-, -, hp, hd, hg, hg2⟩ := h
  refine ⟨?_, (dkOk_sz hd).1, ?_, ?_⟩
  · have key : ∀ l : List DHeld, (∀ x ∈ l, HdOk x) → rsz szHeld l ≤ 81 * l.length := by
      intro l
      induction l with
      | nil => intro _; simp [rsz, rsum]
      | cons a l ih =>
        intro hl
        have h1 := ih fun x hx => hl x (List.mem_cons_of_mem _ hx)
        have h2 : a.2.2.length = 80 := (hl a List.mem_cons_self).2.2.2.2
        have h3 : szHeld a = 80 := h2
        unfold rsz at h1 ⊢
        rw [rsum, List.length_cons, h3]
        omega
    have h1 := key n.2.2.1.1 hp.2.1
    have h2 := hp.1
    show rsz szHeld n.2.2.1.1 + n.2.2.1.2.length ≤ 1100
    omega
  · have h1 := hg2.length_eq
    rw [List.length_map] at h1
    have hn : (n.2.2.2.1.2.map Int.toNat).Nodup := List.pairwise_map.2 ((asc_pw hd.2.2.1).imp_of_mem fun {a b} ha hb h' e => by
      have := hd.2.1 a ha; have := hd.2.1 b hb; omega)
    have h4 := hn.length_le_of_subset (l₂ := List.range 256) (fun x hx => by
      obtain ⟨y, hy, rfl⟩ := List.mem_map.1 hx
      have := hd.2.1 y hy
      exact List.mem_range.2 (by omega))
    rw [List.length_map, List.length_range] at h4
    omega
  · have key : ∀ l : List DLetter, (∀ x ∈ l, x.2.length ≤ 160) → rsz szLetter l ≤ 161 * l.length := by
      intro l
      induction l with
      | nil => intro _; simp [rsz, rsum]
      | cons a l ih =>
        intro hl
        have h1 := ih fun x hx => hl x (List.mem_cons_of_mem _ hx)
        have h2 := hl a List.mem_cons_self
        have h3 : szLetter a ≤ 160 := h2
        unfold rsz at h1 ⊢
        rw [rsum, List.length_cons]
        omega
    exact key _ hg
end Go.Proofs.YtelbckpplckofaaGreat
namespace Go.Proofs.YtelbckpplckofaaGreat
set_option maxRecDepth 100000
set_option linter.unusedVariables false
set_option linter.unusedSimpArgs false
open Go.ChangeShapes Go.WideShapes Go.ChangeAt Go.RowKit
open Fld
def heldB (h : DHeld) : List Int := h.1 :: h.2.1 / 256 :: h.2.1 % 256 :: h.2.2
def plB (p : DPool) : List Int := [(p.1.length : Int), (p.2.length : Int)] ++ p.1.flatMap heldB ++ p.2.flatMap four
def fPlB (p : DPool) : List Int := if PlOk p then plB p else []
theorem fPlB_t {p : DPool} (h : PlOk p) : fPlB p = plB p := if_pos h
theorem fPlB_f {p : DPool} (h : ¬ PlOk p) : fPlB p = [] := if_neg h
theorem heldB_len {h : DHeld} (hh : HdOk h) : (heldB h).length = 83 := by
  have : h.2.2.length = 80 := hh.2.2.2.2
  unfold heldB; simp [this]
theorem hdsB_le {p : DPool} (h : PlOk p) (j : Nat) : ((p.1.take j).flatMap heldB).length ≤ 996 := by
  have h1 := flLe (f := heldB) (l := p.1) (m := 83) (fun a ha => Nat.le_of_eq (heldB_len (h.2.1 a ha))) j
  have h2 := h.1.1
  omega
theorem tagsB_le {p : DPool} (h : PlOk p) (j : Nat) : ((p.2.take j).flatMap four).length ≤ 240 := by
  have h1 := flLe (f := four) (l := p.2) (m := 4) (fun a ha => Nat.le_of_eq (four_len a)) j
  have h2 := h.1.2
  omega
theorem plB_le {p : DPool} (h : PlOk p) : (plB p).length ≤ 1238 := by
  have h1 := hdsB_le h p.1.length
  have h2 := tagsB_le h p.2.length
  rw [List.take_length] at h1 h2
  unfold plB
  simp only [List.length_append, List.length_cons, List.length_nil]
  omega
theorem fPlB_le (p : DPool) : (fPlB p).length ≤ 1238 := by
  by_cases h : PlOk p
  · rw [fPlB_t h]; exact plB_le h
  · rw [fPlB_f h]; simp
theorem cells_wf {w : World} {B n c : Nat} {A : Option Addr} {l : List DHeld} (h : tHeld.row.R w B [.slice A n c] l) : ∀ a ∈ l, ∀ x ∈ a.2.2, (Lit.int .u8 x).wf = true := by
  intro a ha
  obtain ⟨i, hi, rfl⟩ := List.getElem_of_mem ha
  obtain ⟨b, bb, off, es, hb, -, -, -, hR⟩ := rowR_at (K := 3) h (show i < n by have := (rowR_len h).1; omega) rfl
  rw [List.getElem?_eq_getElem hi] at hb
  injection hb with hb
  subst hb
  obtain ⟨A2, n2, c2, rfl, -, -, -, -, -, hr2⟩ := openHeld hR
  exact (slR_ints hr2).1.2.2
set_option maxHeartbeats 4000000 in
theorem s_l5bytes {w : World} {base n c : Nat} {A : Option Addr} {l : List Int} {cs : List Value} {p : DPool} (hO : Own .u8 5 w base (.slice A n c) l) (hbase : base ≤ w.heap.size) (hn : n ≤ 1000) (h : tPool.R w base cs p) (hp : PlOk p) :
    Calls Tryz.prog 99 #[.slice A n c, .agg cs.toArray] w fun e w' => ∃ v', e = .returned v' ∧ Own .u8 5 w' base v' (l ++ plB p) ∧ Ext w (.slice A n c) w' v' := by
  obtain ⟨i0, hi0, hz0, hz1, hz2⟩ := info_parts info_cb
  obtain ⟨A0, n0, c0, A1, n1, c1, rfl, -, -, -, hr0, -, -, -, hr1⟩ := openPool h
  obtain ⟨e0, _, _⟩ := rowR_len hr0
  have hI1 := (slR_ints hr1).1
  have hn0 : n0 ≤ 12 := by have := hp.1.1; omega
  have hn1 : n1 ≤ 60 := by have := hp.1.2; have := hI1.1; omega
  have E0 := Lib.hid e0
  have E1 := Lib.hid hI1.1
  have HP := Lib.hid hp
  have HW := Lib.hid (cells_wf hr0)
  have HL := Lib.hid hO.intsAt.2
  have HO := Lib.hid hO.2
  have hown0 : ∀ b, (Value.slice A n c).ownBlock = some b → base ≤ b ∧ b < w.heap.size := fun b hb => hO.block hb
  have HB0 := Lib.hid hown0
  have HT := Lib.hid (show l ++ [(n0 : Int), (n1 : Int)] ++ p.1.flatMap heldB ++ p.2.flatMap four = l ++ plB p from by unfold plB; rw [e0, hI1.1]; simp)
  have c0' : IntKind.u8.wrap (n0 : Int) = (n0 : Int) := IntWalk.u8_in _ (by omega)
  have c1' : IntKind.u8.wrap (n1 : Int) = (n1 : Int) := IntWalk.u8_in _ (by omega)
  have w0' : (Lit.int .u8 (n0 : Int)).wf = true := WalkArith.wf_u8 (by omega)
  have w1' : (Lit.int .u8 (n1 : Int)).wf = true := WalkArith.wf_u8 (by omega)
  have X0 : Box (w.alloc (.cells #[.slice A0 n0 c0, .slice A1 n1 c1] 39)) w.heap.size 39 #[.slice A0 n0 c0, .slice A1 n1 c1] := Box.new _ _ _
  have hng : (Value.slice A n c).ownBlock ≠ some w.heap.size := fun e => by have := (hown0 _ e).2; omega
  have E00 : Ext w (.slice A n c) (w.alloc (.cells #[.slice A0 n0 c0, .slice A1 n1 c1] 39)) (.slice A n c) := Ext.of (belx)
  have hx0 : w.heap.size < (w.alloc (.cells #[.slice A0 n0 c0, .slice A1 n1 c1] 39)).heap.size := by simp
  have hSC : Src ((w.alloc (.cells #[.slice A0 n0 c0, .slice A1 n1 c1] 39)).alloc (.cells #[.int .u8 (n0 : Int), .int .u8 (n1 : Int)] 5)) 1 (some ⟨w.heap.size + 1, 0, none⟩) 2 [.int .u8 (n0 : Int), .int .u8 (n1 : Int)] := by simpa using Src.cells (w.alloc (.cells #[.slice A0 n0 c0, .slice A1 n1 c1] 39)) 5 [.int .u8 (n0 : Int), .int .u8 (n1 : Int)]
  clear e0 h hown0
  go_enter Tryz.func99, Tryz.ntmps99
  go_wp2_with (at_builtin; refine wpList_app _ rfl (.tmp 7) (.tmp 16) _ rfl base 5 i0 _ 1 1 Tryz.underlying32 hi0 hz0 hz1 hz2 rfl (by omega) (.slice A n c) l.length (l.map (Value.int .u8)) rfl ((hO.alloc _).alloc _).1 _ 2 2 [.int .u8 (n0 : Int), .int .u8 (n1 : Int)] rfl hSC (by intro u hu; simp only [List.mem_cons, List.not_mem_nil, or_false] at hu; rcases hu with rfl | rfl <;> rfl) (by simp only [maxLen]; have := HL.out; omega) (by have := HL.out; omega) (by first | (simp; done) | (simp; omega)) ?_; intro v1 w1 hown hg hat)
  have hOs : Own .u8 5 w1 base v1 (l ++ [(n0 : Int), (n1 : Int)]) := own_appN (r := [(n0 : Int), (n1 : Int)]) hown rfl HO.out (fun x hx => by simp only [List.mem_cons, List.not_mem_nil, or_false] at hx; rcases hx with rfl | rfl; exact w0'; exact w1')
  have hEs : Ext (w.alloc (.cells #[.slice A0 n0 c0, .slice A1 n1 c1] 39)) (.slice A n c) w1 v1 := (Ext.refl _ _).app (belx) hg hat
  clear hown hg hat
  go_wp2_with fail
  go_loopw [0, 5] (fun v i wr => ∃ j : Nat, j ≤ n0 ∧ i = .int .i64 j ∧ Own .u8 5 wr base v (l ++ [(n0 : Int), (n1 : Int)] ++ (p.1.take j).flatMap heldB) ∧ Ext (w.alloc (.cells #[.slice A0 n0 c0, .slice A1 n1 c1] 39)) (.slice A n c) wr v) (fun _ i _ => n0 - (RowKit.intOf i).toNat)
  case atStart => exact ⟨0, by omega, rfl, by simpa using hOs, hEs⟩
  case round =>
    obtain ⟨j, hj, rfl, hOr, hE⟩ := hrel
    have hX := hE.box X0 hng
    have k0 : wr.cell? ⟨w.heap.size, 0, none⟩ = some (.slice A0 n0 c0) := hX.cell 0
    have k1 : wr.cell? ⟨w.heap.size, 1, none⟩ = some (.slice A1 n1 c1) := hX.cell 1
    have hBr : Below base w wr := (E00.trans hE).below hbase (fun b hb => (HB0.out b hb).1)
    have hnr := hE.not hx0 hng
    have hzr := hE.1.size
    by_cases hlt : j < n0
    · obtain ⟨a, b', off, es, hl2, rfl, hb, hes, hR⟩ := rowR_at (K := 3) hr0 hlt rfl
      have HS := Lib.hid (flS (f := heldB) hl2)
      have hh := HP.out.2.1 a (alMem hl2)
      have hwa := HW.out a (alMem hl2)
      have hle := hdsB_le HP.out j
      obtain ⟨bs, hbs⟩ : ∃ bs, (p.1.take j).flatMap heldB = bs := ⟨_, rfl⟩
      rw [hbs] at hOr HS hle
      clear hl2 hbs
      obtain ⟨A2, n2, c2, rfl, -, -, -, -, hl80, hr2⟩ := openHeld hR
      have hI2 := (slR_ints hr2).1
      obtain ⟨q1, q2, q3, q4, q5⟩ := hh
      obtain rfl : n2 = 80 := by omega
      have e0 : wr.cell? ⟨b', off + j * 3, none⟩ = some (.int .i64 a.1) := bcell hBr hb (hes 0 (by omega))
      have e1 : wr.cell? ⟨b', off + j * 3 + 1, none⟩ = some (.int .i64 a.2.1) := bcell hBr hb (hes 1 (by omega))
      have e2 : wr.cell? ⟨b', off + j * 3 + 2, none⟩ = some (.slice A2 80 c2) := bcell hBr hb (hes 2 (by omega))
      clear hR hl80
      obtain ⟨x, hx⟩ : ∃ x, a.1 = x := ⟨_, rfl⟩
      obtain ⟨d, hd⟩ : ∃ d, a.2.1 = d := ⟨_, rfl⟩
      have HHB := Lib.hid (show heldB a = [x, d / 256, d % 256] ++ a.2.2 by unfold heldB; rw [hx, hd]; rfl)
      rw [hx] at q1 q2 e0
      rw [hd] at q3 q4 e1
      have hes0 := Lib.hid (show w.cell? ⟨b', off + j * 3, none⟩ = some (.int .i64 x) from by rw [← hx]; exact hes 0 (by omega))
      have hes1 := Lib.hid (show w.cell? ⟨b', off + j * 3 + 1, none⟩ = some (.int .i64 d) from by rw [← hd]; exact hes 1 (by omega))
      have hes2 := Lib.hid (show w.cell? ⟨b', off + j * 3 + 2, none⟩ = some (.slice A2 80 c2) from hes 2 (by omega))
      clear hx hd hes
      have j1 : (j : Int) < (n0 : Int) := by omega
      have x8 : IntKind.u8.wrap x = x := IntWalk.u8_in _ (by omega)
      have y8 : IntKind.u8.wrap (d / 256) = d / 256 := IntWalk.u8_in _ (by omega)
      have z8 : IntKind.u8.wrap d = d % 256 := u8_mod d
      have hlen : (l ++ [(n0 : Int), (n1 : Int)] ++ bs).length ≤ 1998 := by simp only [List.length_append, List.length_cons, List.length_nil]; have := HL.out; omega
      obtain ⟨L, hL⟩ : ∃ L, l ++ [(n0 : Int), (n1 : Int)] ++ bs = L := ⟨_, rfl⟩
      rw [hL] at hOr hlen
      have HLL := Lib.hid hL
      clear hL
      go_wp2_with fail
      go_region_held3 (fun w' => w'.cell? ⟨w.heap.size, 0, none⟩ = some (.slice (some ⟨b', off, none⟩) n0 c0) ∧ w'.cell? ⟨b', off + j * 3, none⟩ = some (.int .i64 x) ∧ w'.cell? ⟨b', off + j * 3 + 1, none⟩ = some (.int .i64 d)) (first | (exact ⟨k0, e0, e1⟩) | (exact ⟨m0, m1, m2⟩) | go_keep)
        (first
          | (refine Own.stepRow (w := (wr.alloc (.cells #[.int .u8 x, .int .u8 (d / 256), .int .u8 (d % 256)] 5)).drew) (by rfl) (.tmp 25) (.tmp 48) _ (by rfl) i0 _ 1 Tryz.underlying32 hi0 hz0 hz1 hz2 rfl (by rfl) ((hOr.alloc _).drew) (by rfl) ((ints3 wr 5 (WalkArith.wf_u8 (by omega)) (WalkArith.wf_u8 (by omega)) (WalkArith.wf_u8 (by omega))).drew) (by show _ ≤ (World.alloc _ _).heap.size; simp; omega) (by simp only [maxLen]; omega) (by omega) ?_; intro v2 w2 hO2 hg2 hat2; have hE2 := hE.app (w2 := (wr.alloc (.cells #[.int .u8 x, .int .u8 (d / 256), .int .u8 (d % 256)] 5)).drew) (belx) hg2 hat2; have hX2 := hE2.box X0 hng; have m0 := hX2.cell 0; have hB2 : Below base w w2 := (E00.trans hE2).below hbase (fun b hb => (HB0.out b hb).1); have m1 : w2.cell? ⟨b', off + j * 3, none⟩ = some (.int .i64 x) := bcell hB2 hb hes0.out; have m2 : w2.cell? ⟨b', off + j * 3 + 1, none⟩ = some (.int .i64 d) := bcell hB2 hb hes1.out))
      have m3 : w2.cell? ⟨b', off + j * 3 + 2, none⟩ = some (.slice A2 80 c2) := bcell hB2 hb hes2.out
      obtain ⟨L2, hL2⟩ : ∃ L2, L ++ [x, d / 256, d % 256] = L2 := ⟨_, rfl⟩
      rw [hL2] at hO2
      have hlen2 : L2.length ≤ 2001 := by rw [← hL2]; simp only [List.length_append, List.length_cons, List.length_nil]; omega
      have HL2 := Lib.hid hL2
      have hz2' := hE2.1.size
      have hS2 : Src w2 1 A2 80 (a.2.2.map (Value.int .u8)) := Src.of_ints (hI2.below hB2)
      clear hL2
      go_wp2_with (at_builtin; refine wpList_app _ rfl (.tmp 50) (.tmp 57) _ rfl base 5 i0 _ 1 1 Tryz.underlying32 hi0 hz0 hz1 hz2 rfl (by omega) v2 L2.length (L2.map (Value.int .u8)) rfl hO2.1 A2 80 c2 (a.2.2.map (Value.int .u8)) rfl hS2 (one_ints _ _) (by simp only [maxLen]; omega) (by omega) (by simp at hzr hz2'; omega) ?_; intro v3 w3 hown3 hg3 hat3)
      have hO3 := own_appN (r := a.2.2) hown3 hI2.1 hO2.2 hwa
      go_roundw
      case rel => exact ⟨j + 1, by omega, by go_num, by rw [HS.out, HHB.out]; rw [← HL2.out, ← HLL.out] at hO3; simpa [List.append_assoc] using hO3, hE2.app (Below.refl _ _) hg3 hat3⟩
      case measure => simp [RowKit.intOf]; omega
    · obtain rfl : n0 = j := by omega
      have HA := Lib.hid (show p.1.take n0 = p.1 from List.take_of_length_le (Nat.le_of_eq E0.out))
      rw [HA.out] at hOr
      have hle := hdsB_le HP.out n0
      rw [HA.out] at hle
      obtain ⟨L, hL⟩ : ∃ L, l ++ [(n0 : Int), (n1 : Int)] ++ p.1.flatMap heldB = L := ⟨_, rfl⟩
      have hlen : L.length ≤ 1998 := by rw [← hL]; simp only [List.length_append, List.length_cons, List.length_nil]; have := HL.out; omega
      rw [hL] at hOr
      rw [hL] at HT
      clear hL hle hlt
      go_wp2_with fail
      go_loopw [0, 6] (fun v i wr => ∃ j : Nat, j ≤ n1 ∧ i = .int .i64 j ∧ Own .u8 5 wr base v (L ++ (p.2.take j).flatMap four) ∧ Ext (w.alloc (.cells #[.slice A0 n0 c0, .slice A1 n1 c1] 39)) (.slice A n c) wr v) (fun _ i _ => n1 - (RowKit.intOf i).toNat)
      case atStart => exact ⟨0, by omega, rfl, by simpa using hOr, hE⟩
      case round =>
        clear hOr hE hX k0 k1 hBr hnr hzr
        obtain ⟨j, hj, rfl, hOr, hE⟩ := hrel
        have hX := hE.box X0 hng
        have k0 : wr.cell? ⟨w.heap.size, 0, none⟩ = some (.slice A0 n0 c0) := hX.cell 0
        have k1 : wr.cell? ⟨w.heap.size, 1, none⟩ = some (.slice A1 n1 c1) := hX.cell 1
        have hBr : Below base w wr := (E00.trans hE).below hbase (fun b hb => (HB0.out b hb).1)
        have hzr := hE.1.size
        by_cases hlt : j < n1
        · obtain ⟨b', off, rfl, hb, hcell, -⟩ := (hI1.below hBr).at_ hlt
          have HA1 := Lib.hid (atI E1.out hlt)
          have HS := Lib.hid (flS (f := four) HA1.out)
          have ht := HP.out.2.2.1 _ (alMem HA1.out)
          have hle := tagsB_le HP.out j
          obtain ⟨bs, hbs⟩ : ∃ bs, (p.2.take j).flatMap four = bs := ⟨_, rfl⟩
          obtain ⟨tg, htg⟩ : ∃ tg, p.2.getD j 0 = tg := ⟨_, rfl⟩
          rw [hbs] at hOr HS hle
          rw [htg] at hcell ht HS
          clear hbs htg HA1
          have hlb : (L ++ bs).length ≤ 2300 := by rw [List.length_append]; omega
          obtain ⟨L3, hL3⟩ : ∃ L3, L ++ bs = L3 := ⟨_, rfl⟩
          rw [hL3] at hOr hlb
          have HL3 := Lib.hid hL3
          clear hL3
          obtain ⟨Av, nv, cv, rfl, hnv⟩ := hOr.shapeN
          have HNV := Lib.hid (show nv ≤ 1000000 by omega)
          have HSZ := Lib.hid (show base ≤ wr.heap.size by simp at hzr; omega)
          clear hnv
          have j1 : (j : Int) < (n1 : Int) := by omega
          go_wp2_with fail
          refine (s_fourG hOr HSZ.out HNV.out tg (by unfold Ok at ht; omega)).mono ?_
          rintro e w2 ⟨v2, rfl, hO2, hE2⟩
          go_wp2
          go_roundw
          case rel => exact ⟨j + 1, by omega, by go_num, by rw [HS.out, ← List.append_assoc, HL3.out]; exact hO2, hE.trans hE2⟩
          case measure => simp [RowKit.intOf]; omega
        · obtain rfl : n1 = j := by omega
          have HA1 := Lib.hid (show p.2.take n1 = p.2 from List.take_of_length_le (Nat.le_of_eq E1.out))
          rw [HA1.out, HT.out] at hOr
          go_wp2
          go_ret
          exact ⟨_, rfl, hOr, E00.trans hE⟩
end Go.Proofs.YtelbckpplckofaaGreat
namespace Go.Proofs.YtelbckpplckofaaGreat
set_option linter.unusedVariables false
open Go.RowKit
open Fld
def pcL (p : DPiece) : List Int := p.1 :: p.2.1 :: p.2.2.1 :: p.2.2.2
def pcG (p : DPiece) : List Int := ((pcL p).length : Int) :: pcL p
def whG (w : DWhole) : List Int := [w.2.2.1 / 256, w.2.2.1 % 256, (w.2.2.2.length : Int)] ++ w.2.2.2.flatMap pcG
def ltG (l : DLetter) : List Int := l.1 :: (l.2.length : Int) :: l.2
def dkG (d : DDesk) : List Int := (d.1.length : Int) :: d.1.flatMap whG
def gtG (l : List DLetter) : List Int := [(l.length : Int) / 256, (l.length : Int) % 256] ++ l.flatMap ltG
def ndG (n : DNode) : List Int := ((n.1 :: four n.2.1) ++ plB n.2.2.1) ++ dkG n.2.2.2.1 ++ gtG n.2.2.2.2
noncomputable def fNdB (n : DNode) : List Int := if NdOk n then ndG n else []
theorem fNdB_t {n : DNode} (h : NdOk n) : fNdB n = ndG n := if_pos h
theorem fNdB_f {n : DNode} (h : ¬ NdOk n) : fNdB n = [] := if_neg h
theorem flat_le {α : Type} {f : α → List Int} {l : List α} {m : Nat} (h : ∀ a ∈ l, (f a).length ≤ m) : (l.flatMap f).length ≤ m * l.length := by
  induction l with
  | nil => simp
  | cons a l ih =>
    have h1 := ih fun b hb => h b (List.mem_cons_of_mem _ hb)
    have h2 := h a List.mem_cons_self
    rw [List.flatMap_cons, List.length_append, List.length_cons, Nat.mul_succ]; omega
theorem pcG_le {p : DPiece} (h : PcOk p) : (pcG p).length ≤ 24 := by
  have := h.2.2.2.2.2.1
  show (p.2.2.2.length + 1 + 1 + 1) + 1 ≤ 24
  omega
theorem whG_le {w : DWhole} (h : WhN w) : (whG w).length ≤ 195 := by
  obtain ⟨-, ⟨h1, h2⟩, h3, -⟩ := h
  have h4 := flat_le (f := pcG) (l := w.2.2.2) (m := 24) (fun p hp => pcG_le (h3 p hp).1)
  have h5 : w.2.1 ≤ 8 := by
    have hm := List.getElem_mem (l := w.2.2.2) (n := 0) (by omega)
    obtain ⟨k1, -, k3⟩ := h3 _ hm
    unfold PcOk PcN at k1
    omega
  unfold whG
  rw [List.length_append]
  show 3 + _ ≤ _
  omega
theorem ltG_le {l : DLetter} (h : l.2.length ≤ 160) : (ltG l).length ≤ 162 := by show l.2.length + 1 + 1 ≤ 162; omega
theorem ndG_le {n : DNode} (h : NdOk n) : (dkG n.2.2.2.1).length ≤ 1171 ∧ (gtG n.2.2.2.2).length ≤ 41474 := by
  have hs := ndOk_sz h
  obtain ⟨-, -, -, hd, hg⟩ := h
  have h1 := flat_le (f := whG) (l := n.2.2.2.1.1) (m := 195) (fun w hw => whG_le (hd.2.2.2.2 w hw).1)
  have h2 := flat_le (f := ltG) (l := n.2.2.2.2) (m := 162) (fun l hl => ltG_le (hg.1 l hl))
  have h3 := hd.1
  refine ⟨?_, ?_⟩
  · show (n.2.2.2.1.1.flatMap whG).length + 1 ≤ 1171; omega
  · unfold gtG
    rw [List.length_append]
    show 2 + _ ≤ 41474
    omega
end Go.Proofs.YtelbckpplckofaaGreat
namespace Go.Proofs.YtelbckpplckofaaGreat
set_option maxRecDepth 100000
set_option linter.unusedVariables false
set_option linter.unusedSimpArgs false
open Go.ChangeShapes Go.WideShapes Go.ChangeAt Go.RowKit
set_option maxHeartbeats 400000 in
theorem i_evryLetter {w : World} {n c : Nat} {A : Option Addr} {l : List DLetter} (F : Nat) (p : DLetter → Bool) (hE : ∀ (cs : Array Value) (w : World), Sem.run Tryz.prog (callFunc F #[Value.agg cs]) w = .ok (.enter F #[Value.agg cs]) w)
    (hF : ∀ (i : Nat) (a : DLetter) (w' : World) (cs : List Value), l[i]? = some a → Below w.heap.size w w' → tLetter.R w' w'.heap.size cs a → Calls Tryz.prog F #[.agg cs.toArray] w' fun e w2 => e = .returned (.bool (p a)) ∧ Below w'.heap.size w' w2)
    (hl : tLetter.row.R w w.heap.size [.slice A n c] l) (hn : n ≤ 17592186043904) :
    Calls Tryz.prog 81 #[.slice A n c, .func (.func F) #[] #[]] w fun e w' => e = .returned (.bool (l.all p)) ∧ Below w.heap.size w w' := by
  obtain ⟨e0, _, _⟩ := rowR_len hl
  have HL := Lib.hid e0
  have HF := Lib.hid hF
  have HE := Lib.hid hE
  clear e0 hF hE
  go_enter Tryz.func81, Tryz.ntmps81
  go_wp2_with fail
  go_loopw [9] (fun i wr => ∃ j : Nat, j ≤ n ∧ i = .int .i64 j ∧ Below w.heap.size w wr ∧ ∀ h ∈ l.take j, p h = true) (fun i _ => n - (RowKit.intOf i).toNat)
  case atStart => exact ⟨0, by omega, rfl, (belx), al0⟩
  case round =>
    obtain ⟨j, hj, rfl, hB, hG⟩ := hrel
    have HG := Lib.hid hG
    clear hG
    by_cases hlt : j < n
    · obtain ⟨a, b', off, es, hl2, rfl, hb, hes, hR⟩ := rowR_at (K := 2) hl hlt rfl
      have HA := Lib.hid hl2
      clear hl2
      have hRk := hR
      obtain ⟨A2, n2, c2, rfl, -, -, -, -, -⟩ := openLetter hR
      have e0 : wr.cell? ⟨b', off + j * 2, none⟩ = some (.int .i64 a.1) := cell_at hB hb (hes 0 (by omega))
      have e1 : wr.cell? ⟨b', off + j * 2 + 1, none⟩ = some (.slice A2 n2 c2) := cell_at hB hb (hes 1 (by omega))
      clear hes
      go_wp2_with fail
      rw [HE.out, Oper.upon_enter]
      refine (HF.out j a _ _ HA.out ?hB (tLetter.reach hRk ?hB2)).mono ?_
      case hB => exact bel_trans (a := w) hB (belx)
      case hB2 => exact bel_trans (a := w) hB (belx)
      rintro e w1 ⟨rfl, hb1⟩
      have hB1 : Below w.heap.size w w1 := bel_trans (bel_trans (a := w) hB (belx)) hb1
      obtain ⟨d, hd⟩ : ∃ d, p a = d := ⟨_, rfl⟩
      rw [hd]
      have HD := Lib.hid hd
      clear hd
      cases d
      · have HR := Lib.hid (alF HA.out HD.out)
        go_wp2
        go_ret
        exact ⟨ret_bool HR.out.symm, hB1⟩
      · go_wp2
        go_roundw
        case rel => exact ⟨j + 1, by omega, by go_num, hB1, alS HG.out HA.out HD.out⟩
        case measure => simp [RowKit.intOf]; omega
    · obtain rfl : n = j := by omega
      have HR := Lib.hid (alT HG.out (Nat.le_of_eq HL.out))
      go_wp2
      go_ret
      exact ⟨ret_bool HR.out.symm, hB⟩
set_option maxHeartbeats 1000000 in
theorem i_eachLetterI {w : World} {n c : Nat} {A : Option Addr} {l : List DLetter} (F : Nat) (f : DLetter → Int) (hE : ∀ (cs : Array Value) (w : World), Sem.run Tryz.prog (callFunc F #[Value.agg cs]) w = .ok (.enter F #[Value.agg cs]) w)
    (hF : ∀ (i : Nat) (a : DLetter) (w' : World) (cs : List Value), l[i]? = some a → Below w.heap.size w w' → tLetter.R w' w'.heap.size cs a → Calls Tryz.prog F #[.agg cs.toArray] w' fun e w2 => e = .returned (.int .i64 (f a)) ∧ Below w'.heap.size w' w2)
    (hW : ∀ a ∈ l, (Lit.int .i64 (f a)).wf = true) (hl : tLetter.row.R w w.heap.size [.slice A n c] l) (hn : n ≤ 1048576) :
    Calls Tryz.prog 141 #[.slice A n c, .func (.func F) #[] #[]] w fun e w' => ∃ v, e = .returned v ∧ Own .i64 3 w' w.heap.size v (l.map f) ∧ Below w.heap.size w w' := by
  obtain ⟨i0, hi0, hz0, hz1, hz2⟩ := info_parts info_ci
  obtain ⟨e0, _, _⟩ := rowR_len hl
  have HL := Lib.hid e0
  have HF := Lib.hid hF
  have HE := Lib.hid hE
  have HW := Lib.hid hW
  clear e0 hF hE hW
  go_enter Tryz.func141, Tryz.ntmps141
  go_wp2_with fail
  go_loopw [5, 10] (fun v i wr => ∃ j : Nat, j ≤ n ∧ i = .int .i64 j ∧ Own .i64 3 wr w.heap.size v ((l.take j).map f) ∧ Below w.heap.size w wr) (fun _ i _ => n - (RowKit.intOf i).toNat)
  case atStart => exact ⟨0, by omega, rfl, Own.nil _ _ _ _, (belx)⟩
  case round =>
    obtain ⟨j, hj, rfl, hO, hB⟩ := hrel
    by_cases hlt : j < n
    · obtain ⟨a, b', off, es, hl2, rfl, hb, hes, hR⟩ := rowR_at (K := 2) hl hlt rfl
      have HA := Lib.hid hl2
      have HS := Lib.hid (mapS (f := f) hl2)
      have HLN := Lib.hid (mapLen (f := f) (l := l) (j := j) (by rw [HL.out]; exact hj))
      have HI := Lib.hid (HW.out a (alMem hl2))
      clear hl2
      have hRk := hR
      obtain ⟨A2, n2, c2, rfl, -, -, -, -, -⟩ := openLetter hR
      have e0 : wr.cell? ⟨b', off + j * 2, none⟩ = some (.int .i64 a.1) := cell_at hB hb (hes 0 (by omega))
      have e1 : wr.cell? ⟨b', off + j * 2 + 1, none⟩ = some (.slice A2 n2 c2) := cell_at hB hb (hes 1 (by omega))
      clear hes hR
      go_wp2_with fail
      rw [HE.out, Oper.upon_enter]
      refine (HF.out j a _ _ HA.out ?hB (tLetter.reach hRk ?hB2)).mono ?_
      case hB => exact bel_trans (a := w) hB (belx)
      case hB2 => exact bel_trans (a := w) hB (belx)
      rintro e w1 ⟨rfl, hb1⟩
      obtain ⟨y, hy⟩ : ∃ y, f a = y := ⟨_, rfl⟩
      rw [hy] at HS HI
      rw [hy]
      clear hy
      have hs1 : Below wr.heap.size wr w1 := bel_trans (belx) hb1
      have hO2 := hO.below hs1
      have zz := hs1.size
      have zw := hB.size
      have hlen2 := HLN.out
      go_wp2_with (at_builtin; refine wpList_app _ rfl (.tmp 14) (.tmp 18) _ rfl w.heap.size 3 i0 _ 1 8 Tryz.underlying23 hi0 hz0 hz1 hz2 rfl (by omega) _ _ _ rfl (hO2.1.alloc _) _ 1 1 [.int .i64 y] rfl (Src.one _ _ _) (one_int _ _) (by simp only [maxLen]; omega) (by omega) (by simp; omega) ?_; intro v1 w3 hown hgr hat)
      go_roundw
      case rel => exact ⟨j + 1, by omega, by go_num, own_sn hO2 hown HS.out HI.out, below_sn (hB.trans (hs1.mono hB.size)) hO2 (Nat.le_refl _) hgr⟩
      case measure => simp [RowKit.intOf]; omega
    · obtain rfl : n = j := by omega
      have HA := Lib.hid (show l.take n = l from List.take_of_length_le (Nat.le_of_eq HL.out))
      rw [HA.out] at hO
      go_wp2
      go_ret
      exact ⟨_, rfl, hO, hB⟩
end Go.Proofs.YtelbckpplckofaaGreat
namespace Go.Proofs.YtelbckpplckofaaGreat
set_option maxRecDepth 100000
set_option linter.unusedVariables false
set_option linter.unusedSimpArgs false
open Go.ChangeShapes Go.WideShapes Go.ChangeAt Go.RowKit Go.Sort
theorem Own.base {K : IntKind} {e : TypeId} {w : World} {b b' : Nat} {v : Value} {l : List Int} (h : Own K e w b v l) (hb : b' ≤ b) : Own K e w b' v l := by
  refine ⟨⟨h.1.1, ?_⟩, h.2⟩
  rcases h.1.2 with h' | ⟨g, cap, cur, h1, h2, h3⟩
  · exact .inl h'
  · exact .inr ⟨g, cap, cur, h1, Nat.le_trans hb h2, h3⟩
/-- Ascending, as the library's sort leaves it. -/
def srt (l : List Int) : List Int := l.mergeSort (fun x y => decide (x ≤ y))
theorem srt_len (l : List Int) : (srt l).length = l.length := List.length_mergeSort _
theorem srt_mem {l : List Int} {x : Int} : x ∈ srt l ↔ x ∈ l := List.mem_mergeSort
theorem srt_nil : srt [] = [] := by simp [srt]
/-- Sorting a slice of the call's own. -/
theorem i_SortI {w : World} {base : Nat} {v : Value} {l : List Int} (h : Own .i64 3 w base v l) (hb : base ≤ w.heap.size) (hn : l.length ≤ 1048576) :
    Calls Tryz.prog 184 #[v] w fun e w' => e = .returned (.tuple #[]) ∧ Own .i64 3 w' base v (srt l) ∧ w.grownBy w' v.ownBlock := by
  rcases h.1.2 with ⟨rfl, h0⟩ | ⟨g, cap, cur, rfl, hbg, hg, hnc, hm, hs, ht⟩
  · have : l = [] := List.eq_nil_of_length_eq_zero h0
    subst this
    refine (Tryz.slices_Sort_int_none none 0 w).mono ?_
    rintro e w' ⟨rfl, rfl⟩
    exact ⟨rfl, by rw [srt_nil]; exact Own.nil _ _ _ _, World.grownBy.refl _ _⟩
  · by_cases hz : l.length = 0
    · have : l = [] := List.eq_nil_of_length_eq_zero hz
      subst this
      refine (Tryz.slices_Sort_int_none _ cap w).mono ?_
      rintro e w' ⟨rfl, rfl⟩
      exact ⟨rfl, by rw [srt_nil]; exact h, World.grownBy.refl _ _⟩
    · have hgl : g < w.heap.size := (Array.getElem?_eq_some_iff.1 hg).1
      simp only [maxLen] at hm
      refine (Tryz.slices_Sort_int g 0 cap l w (holds_of_blockI hg (by simpa using ht)) hgl (by omega)).mono ?_
      rintro e w' ⟨rfl, n, os, rfl⟩
      have hl : (l.mergeSort fun x y => decide (x ≤ y)).length = l.length := List.length_mergeSort _
      refine ⟨rfl, ⟨?_, fun x hx => h.2 x (srt_mem.1 hx)⟩, grownBy_sortedI _⟩
      have := ownsRow_sortedI (n := n) (os := os) hl hbg hg (by omega) (by simp only [maxLen]; omega) hs
      rw [srt_len]
      exact this
end Go.Proofs.YtelbckpplckofaaGreat
namespace Go.Proofs.YtelbckpplckofaaGreat
set_option maxRecDepth 100000
set_option linter.unusedVariables false
set_option linter.unusedSimpArgs false
open Go.ChangeShapes Go.WideShapes Go.ChangeAt Go.RowKit
set_option maxHeartbeats 400000 in
theorem i_evryPieceV {w : World} {n c : Nat} {A : Option Addr} {l : List DPiece} (F : Nat) (V : Value) (p : DPiece → Bool) (hE : ∀ (cs : Array Value) (w : World), Sem.run Tryz.prog (callFunc F #[Value.agg cs, V]) w = .ok (.enter F #[Value.agg cs, V]) w)
    (hF : ∀ (i : Nat) (a : DPiece) (w' : World) (cs : List Value), l[i]? = some a → Below w.heap.size w w' → tPiece.R w' w'.heap.size cs a → Calls Tryz.prog F #[.agg cs.toArray, V] w' fun e w2 => e = .returned (.bool (p a)) ∧ Below w'.heap.size w' w2)
    (hl : tPiece.row.R w w.heap.size [.slice A n c] l) (hn : n ≤ 17592186043904) :
    Calls Tryz.prog 177 #[.slice A n c, .func (.func F) #[] #[V]] w fun e w' => e = .returned (.bool (l.all p)) ∧ Below w.heap.size w w' := by
  obtain ⟨e0, _, _⟩ := rowR_len hl
  have HL := Lib.hid e0
  have HF := Lib.hid hF
  have HE := Lib.hid hE
  clear e0 hF hE
  go_enter Tryz.func177, Tryz.ntmps177
  go_wp2_with fail
  go_loopw [9] (fun i wr => ∃ j : Nat, j ≤ n ∧ i = .int .i64 j ∧ Below w.heap.size w wr ∧ ∀ h ∈ l.take j, p h = true) (fun i _ => n - (RowKit.intOf i).toNat)
  case atStart => exact ⟨0, by omega, rfl, (belx), al0⟩
  case round =>
    obtain ⟨j, hj, rfl, hB, hG⟩ := hrel
    have HG := Lib.hid hG
    clear hG
    by_cases hlt : j < n
    · obtain ⟨a, b', off, es, hl2, rfl, hb, hes, hR⟩ := rowR_at (K := 4) hl hlt rfl
      have HA := Lib.hid hl2
      clear hl2
      have hRk := hR
      obtain ⟨A2, n2, c2, rfl, -, -, -, -, -, -, -⟩ := openPiece hR
      have e0 : wr.cell? ⟨b', off + j * 4, none⟩ = some (.int .i64 a.1) := cell_at hB hb (hes 0 (by omega))
      have e1 : wr.cell? ⟨b', off + j * 4 + 1, none⟩ = some (.int .i64 a.2.1) := cell_at hB hb (hes 1 (by omega))
      have e2 : wr.cell? ⟨b', off + j * 4 + 2, none⟩ = some (.int .i64 a.2.2.1) := cell_at hB hb (hes 2 (by omega))
      have e3 : wr.cell? ⟨b', off + j * 4 + 3, none⟩ = some (.slice A2 n2 c2) := cell_at hB hb (hes 3 (by omega))
      clear hes
      go_wp2_with fail
      rw [HE.out, Oper.upon_enter]
      refine (HF.out j a _ _ HA.out ?hB (tPiece.reach hRk ?hB2)).mono ?_
      case hB => exact bel_trans (a := w) hB (belx)
      case hB2 => exact bel_trans (a := w) hB (belx)
      rintro e w1 ⟨rfl, hb1⟩
      have hB1 : Below w.heap.size w w1 := bel_trans (bel_trans (a := w) hB (belx)) hb1
      obtain ⟨d, hd⟩ : ∃ d, p a = d := ⟨_, rfl⟩
      rw [hd]
      have HD := Lib.hid hd
      clear hd
      cases d
      · have HR := Lib.hid (alF HA.out HD.out)
        go_wp2
        go_ret
        exact ⟨ret_bool HR.out.symm, hB1⟩
      · go_wp2
        go_roundw
        case rel => exact ⟨j + 1, by omega, by go_num, hB1, alS HG.out HA.out HD.out⟩
        case measure => simp [RowKit.intOf]; omega
    · obtain rfl : n = j := by omega
      have HR := Lib.hid (alT HG.out (Nat.le_of_eq HL.out))
      go_wp2
      go_ret
      exact ⟨ret_bool HR.out.symm, hB⟩
set_option maxHeartbeats 1000000 in
theorem i_eachPieceI {w : World} {n c : Nat} {A : Option Addr} {l : List DPiece} (F : Nat) (f : DPiece → Int) (hE : ∀ (cs : Array Value) (w : World), Sem.run Tryz.prog (callFunc F #[Value.agg cs]) w = .ok (.enter F #[Value.agg cs]) w)
    (hF : ∀ (i : Nat) (a : DPiece) (w' : World) (cs : List Value), l[i]? = some a → Below w.heap.size w w' → tPiece.R w' w'.heap.size cs a → Calls Tryz.prog F #[.agg cs.toArray] w' fun e w2 => e = .returned (.int .i64 (f a)) ∧ Below w'.heap.size w' w2)
    (hW : ∀ a ∈ l, (Lit.int .i64 (f a)).wf = true) (hl : tPiece.row.R w w.heap.size [.slice A n c] l) (hn : n ≤ 1048576) :
    Calls Tryz.prog 180 #[.slice A n c, .func (.func F) #[] #[]] w fun e w' => ∃ v, e = .returned v ∧ Own .i64 3 w' w.heap.size v (l.map f) ∧ Below w.heap.size w w' := by
  obtain ⟨i0, hi0, hz0, hz1, hz2⟩ := info_parts info_ci
  obtain ⟨e0, _, _⟩ := rowR_len hl
  have HL := Lib.hid e0
  have HF := Lib.hid hF
  have HE := Lib.hid hE
  have HW := Lib.hid hW
  clear e0 hF hE hW
  go_enter Tryz.func180, Tryz.ntmps180
  go_wp2_with fail
  go_loopw [5, 10] (fun v i wr => ∃ j : Nat, j ≤ n ∧ i = .int .i64 j ∧ Own .i64 3 wr w.heap.size v ((l.take j).map f) ∧ Below w.heap.size w wr) (fun _ i _ => n - (RowKit.intOf i).toNat)
  case atStart => exact ⟨0, by omega, rfl, Own.nil _ _ _ _, (belx)⟩
  case round =>
    obtain ⟨j, hj, rfl, hO, hB⟩ := hrel
    by_cases hlt : j < n
    · obtain ⟨a, b', off, es, hl2, rfl, hb, hes, hR⟩ := rowR_at (K := 4) hl hlt rfl
      have HA := Lib.hid hl2
      have HS := Lib.hid (mapS (f := f) hl2)
      have HLN := Lib.hid (mapLen (f := f) (l := l) (j := j) (by rw [HL.out]; exact hj))
      have HI := Lib.hid (HW.out a (alMem hl2))
      clear hl2
      have hRk := hR
      obtain ⟨A2, n2, c2, rfl, -, -, -, -, -, -, -⟩ := openPiece hR
      have e0 : wr.cell? ⟨b', off + j * 4, none⟩ = some (.int .i64 a.1) := cell_at hB hb (hes 0 (by omega))
      have e1 : wr.cell? ⟨b', off + j * 4 + 1, none⟩ = some (.int .i64 a.2.1) := cell_at hB hb (hes 1 (by omega))
      have e2 : wr.cell? ⟨b', off + j * 4 + 2, none⟩ = some (.int .i64 a.2.2.1) := cell_at hB hb (hes 2 (by omega))
      have e3 : wr.cell? ⟨b', off + j * 4 + 3, none⟩ = some (.slice A2 n2 c2) := cell_at hB hb (hes 3 (by omega))
      clear hes hR
      go_wp2_with fail
      rw [HE.out, Oper.upon_enter]
      refine (HF.out j a _ _ HA.out ?hB (tPiece.reach hRk ?hB2)).mono ?_
      case hB => exact bel_trans (a := w) hB (belx)
      case hB2 => exact bel_trans (a := w) hB (belx)
      rintro e w1 ⟨rfl, hb1⟩
      obtain ⟨y, hy⟩ : ∃ y, f a = y := ⟨_, rfl⟩
      rw [hy] at HS HI
      rw [hy]
      clear hy
      have hs1 : Below wr.heap.size wr w1 := bel_trans (belx) hb1
      have hO2 := hO.below hs1
      have zz := hs1.size
      have zw := hB.size
      have hlen2 := HLN.out
      go_wp2_with (at_builtin; refine wpList_app _ rfl (.tmp 14) (.tmp 18) _ rfl w.heap.size 3 i0 _ 1 8 Tryz.underlying23 hi0 hz0 hz1 hz2 rfl (by omega) _ _ _ rfl (hO2.1.alloc _) _ 1 1 [.int .i64 y] rfl (Src.one _ _ _) (one_int _ _) (by simp only [maxLen]; omega) (by omega) (by simp; omega) ?_; intro v1 w3 hown hgr hat)
      go_roundw
      case rel => exact ⟨j + 1, by omega, by go_num, own_sn hO2 hown HS.out HI.out, below_sn (hB.trans (hs1.mono hB.size)) hO2 (Nat.le_refl _) hgr⟩
      case measure => simp [RowKit.intOf]; omega
    · obtain rfl : n = j := by omega
      have HA := Lib.hid (show l.take n = l from List.take_of_length_le (Nat.le_of_eq HL.out))
      rw [HA.out] at hO
      go_wp2
      go_ret
      exact ⟨_, rfl, hO, hB⟩
end Go.Proofs.YtelbckpplckofaaGreat
namespace Go.Proofs.YtelbckpplckofaaGreat
set_option maxRecDepth 100000
set_option linter.unusedVariables false
set_option linter.unusedSimpArgs false
open Go.ChangeShapes Go.WideShapes Go.ChangeAt Go.RowKit
set_option maxHeartbeats 400000 in
theorem i_evryWholeV {w : World} {n c : Nat} {A : Option Addr} {l : List DWhole} (F : Nat) (V : Value) (p : DWhole → Bool) (hE : ∀ (cs : Array Value) (w : World), Sem.run Tryz.prog (callFunc F #[Value.agg cs, V]) w = .ok (.enter F #[Value.agg cs, V]) w)
    (hF : ∀ (i : Nat) (a : DWhole) (w' : World) (cs : List Value), l[i]? = some a → Below w.heap.size w w' → tWhole.R w' w'.heap.size cs a → Calls Tryz.prog F #[.agg cs.toArray, V] w' fun e w2 => e = .returned (.bool (p a)) ∧ Below w'.heap.size w' w2)
    (hl : tWhole.row.R w w.heap.size [.slice A n c] l) (hn : n ≤ 17592186043904) :
    Calls Tryz.prog 135 #[.slice A n c, .func (.func F) #[] #[V]] w fun e w' => e = .returned (.bool (l.all p)) ∧ Below w.heap.size w w' := by
  obtain ⟨e0, _, _⟩ := rowR_len hl
  have HL := Lib.hid e0
  have HF := Lib.hid hF
  have HE := Lib.hid hE
  clear e0 hF hE
  go_enter Tryz.func135, Tryz.ntmps135
  go_wp2_with fail
  go_loopw [9] (fun i wr => ∃ j : Nat, j ≤ n ∧ i = .int .i64 j ∧ Below w.heap.size w wr ∧ ∀ h ∈ l.take j, p h = true) (fun i _ => n - (RowKit.intOf i).toNat)
  case atStart => exact ⟨0, by omega, rfl, (belx), al0⟩
  case round =>
    obtain ⟨j, hj, rfl, hB, hG⟩ := hrel
    have HG := Lib.hid hG
    clear hG
    by_cases hlt : j < n
    · obtain ⟨a, b', off, es, hl2, rfl, hb, hes, hR⟩ := rowR_at (K := 4) hl hlt rfl
      have HA := Lib.hid hl2
      clear hl2
      have hRk := hR
      obtain ⟨A2, n2, c2, rfl, -, -, -, -, -, -, -⟩ := openWhole hR
      have e0 : wr.cell? ⟨b', off + j * 4, none⟩ = some (.int .i64 a.1) := cell_at hB hb (hes 0 (by omega))
      have e1 : wr.cell? ⟨b', off + j * 4 + 1, none⟩ = some (.int .i64 a.2.1) := cell_at hB hb (hes 1 (by omega))
      have e2 : wr.cell? ⟨b', off + j * 4 + 2, none⟩ = some (.int .i64 a.2.2.1) := cell_at hB hb (hes 2 (by omega))
      have e3 : wr.cell? ⟨b', off + j * 4 + 3, none⟩ = some (.slice A2 n2 c2) := cell_at hB hb (hes 3 (by omega))
      clear hes
      go_wp2_with fail
      rw [HE.out, Oper.upon_enter]
      refine (HF.out j a _ _ HA.out ?hB (tWhole.reach hRk ?hB2)).mono ?_
      case hB => exact bel_trans (a := w) hB (belx)
      case hB2 => exact bel_trans (a := w) hB (belx)
      rintro e w1 ⟨rfl, hb1⟩
      have hB1 : Below w.heap.size w w1 := bel_trans (bel_trans (a := w) hB (belx)) hb1
      obtain ⟨d, hd⟩ : ∃ d, p a = d := ⟨_, rfl⟩
      rw [hd]
      have HD := Lib.hid hd
      clear hd
      cases d
      · have HR := Lib.hid (alF HA.out HD.out)
        go_wp2
        go_ret
        exact ⟨ret_bool HR.out.symm, hB1⟩
      · go_wp2
        go_roundw
        case rel => exact ⟨j + 1, by omega, by go_num, hB1, alS HG.out HA.out HD.out⟩
        case measure => simp [RowKit.intOf]; omega
    · obtain rfl : n = j := by omega
      have HR := Lib.hid (alT HG.out (Nat.le_of_eq HL.out))
      go_wp2
      go_ret
      exact ⟨ret_bool HR.out.symm, hB⟩
set_option maxHeartbeats 1000000 in
theorem i_eachWholeI {w : World} {n c : Nat} {A : Option Addr} {l : List DWhole} (F : Nat) (f : DWhole → Int) (hE : ∀ (cs : Array Value) (w : World), Sem.run Tryz.prog (callFunc F #[Value.agg cs]) w = .ok (.enter F #[Value.agg cs]) w)
    (hF : ∀ (i : Nat) (a : DWhole) (w' : World) (cs : List Value), l[i]? = some a → Below w.heap.size w w' → tWhole.R w' w'.heap.size cs a → Calls Tryz.prog F #[.agg cs.toArray] w' fun e w2 => e = .returned (.int .i64 (f a)) ∧ Below w'.heap.size w' w2)
    (hW : ∀ a ∈ l, (Lit.int .i64 (f a)).wf = true) (hl : tWhole.row.R w w.heap.size [.slice A n c] l) (hn : n ≤ 1048576) :
    Calls Tryz.prog 133 #[.slice A n c, .func (.func F) #[] #[]] w fun e w' => ∃ v, e = .returned v ∧ Own .i64 3 w' w.heap.size v (l.map f) ∧ Below w.heap.size w w' := by
  obtain ⟨i0, hi0, hz0, hz1, hz2⟩ := info_parts info_ci
  obtain ⟨e0, _, _⟩ := rowR_len hl
  have HL := Lib.hid e0
  have HF := Lib.hid hF
  have HE := Lib.hid hE
  have HW := Lib.hid hW
  clear e0 hF hE hW
  go_enter Tryz.func133, Tryz.ntmps133
  go_wp2_with fail
  go_loopw [5, 10] (fun v i wr => ∃ j : Nat, j ≤ n ∧ i = .int .i64 j ∧ Own .i64 3 wr w.heap.size v ((l.take j).map f) ∧ Below w.heap.size w wr) (fun _ i _ => n - (RowKit.intOf i).toNat)
  case atStart => exact ⟨0, by omega, rfl, Own.nil _ _ _ _, (belx)⟩
  case round =>
    obtain ⟨j, hj, rfl, hO, hB⟩ := hrel
    by_cases hlt : j < n
    · obtain ⟨a, b', off, es, hl2, rfl, hb, hes, hR⟩ := rowR_at (K := 4) hl hlt rfl
      have HA := Lib.hid hl2
      have HS := Lib.hid (mapS (f := f) hl2)
      have HLN := Lib.hid (mapLen (f := f) (l := l) (j := j) (by rw [HL.out]; exact hj))
      have HI := Lib.hid (HW.out a (alMem hl2))
      clear hl2
      have hRk := hR
      obtain ⟨A2, n2, c2, rfl, -, -, -, -, -, -, -⟩ := openWhole hR
      have e0 : wr.cell? ⟨b', off + j * 4, none⟩ = some (.int .i64 a.1) := cell_at hB hb (hes 0 (by omega))
      have e1 : wr.cell? ⟨b', off + j * 4 + 1, none⟩ = some (.int .i64 a.2.1) := cell_at hB hb (hes 1 (by omega))
      have e2 : wr.cell? ⟨b', off + j * 4 + 2, none⟩ = some (.int .i64 a.2.2.1) := cell_at hB hb (hes 2 (by omega))
      have e3 : wr.cell? ⟨b', off + j * 4 + 3, none⟩ = some (.slice A2 n2 c2) := cell_at hB hb (hes 3 (by omega))
      clear hes hR
      go_wp2_with fail
      rw [HE.out, Oper.upon_enter]
      refine (HF.out j a _ _ HA.out ?hB (tWhole.reach hRk ?hB2)).mono ?_
      case hB => exact bel_trans (a := w) hB (belx)
      case hB2 => exact bel_trans (a := w) hB (belx)
      rintro e w1 ⟨rfl, hb1⟩
      obtain ⟨y, hy⟩ : ∃ y, f a = y := ⟨_, rfl⟩
      rw [hy] at HS HI
      rw [hy]
      clear hy
      have hs1 : Below wr.heap.size wr w1 := bel_trans (belx) hb1
      have hO2 := hO.below hs1
      have zz := hs1.size
      have zw := hB.size
      have hlen2 := HLN.out
      go_wp2_with (at_builtin; refine wpList_app _ rfl (.tmp 14) (.tmp 18) _ rfl w.heap.size 3 i0 _ 1 8 Tryz.underlying23 hi0 hz0 hz1 hz2 rfl (by omega) _ _ _ rfl (hO2.1.alloc _) _ 1 1 [.int .i64 y] rfl (Src.one _ _ _) (one_int _ _) (by simp only [maxLen]; omega) (by omega) (by simp; omega) ?_; intro v1 w3 hown hgr hat)
      go_roundw
      case rel => exact ⟨j + 1, by omega, by go_num, own_sn hO2 hown HS.out HI.out, below_sn (hB.trans (hs1.mono hB.size)) hO2 (Nat.le_refl _) hgr⟩
      case measure => simp [RowKit.intOf]; omega
    · obtain rfl : n = j := by omega
      have HA := Lib.hid (show l.take n = l from List.take_of_length_le (Nat.le_of_eq HL.out))
      rw [HA.out] at hO
      go_wp2
      go_ret
      exact ⟨_, rfl, hO, hB⟩
end Go.Proofs.YtelbckpplckofaaGreat
namespace Go.Proofs.YtelbckpplckofaaGreat
set_option maxRecDepth 100000
set_option linter.unusedVariables false
set_option linter.unusedSimpArgs false
open Go.ChangeShapes Go.WideShapes Go.ChangeAt Go.RowKit
theorem i_isAsc {w : World} {n c : Nat} {A : Option Addr} {l : List Int} (b : Bool) (T : Asc l → b = true) (F : ¬ Asc l → b = false) (hl : Ints .i64 w w.heap.size A n l) (hn : n ≤ 17592186043904) :
    Calls Tryz.prog 132 #[.slice A n c] w fun e w' => e = .returned (.bool b) ∧ Below w.heap.size w w' := by
  have HL := Lib.hid hl.1
  have HT := Lib.hid T
  have HF := Lib.hid F
  clear T F
  go_enter Tryz.func132, Tryz.ntmps132
  go_wp2_with fail
  go_loopw [3] (fun i wr => ∃ q : Nat, (q < n ∨ q = 0) ∧ i = .int .i64 ((q : Int) + 1) ∧ Below w.heap.size w wr ∧ ∀ x, x < q → l.getD x 0 < l.getD (x + 1) 0) (fun i _ => n - (RowKit.intOf i).toNat)
  case atStart => exact ⟨0, .inr rfl, rfl, (belx), fun x h => absurd h (by omega)⟩
  case round =>
    obtain ⟨q, hq, rfl, hB, hG⟩ := hrel
    have HG := Lib.hid hG
    clear hG
    by_cases hlt : q + 1 < n
    · obtain ⟨bA, off, rfl, hb, hc⟩ := hl.2.1 (by omega)
      have u1 : wr.cell? ⟨bA, off + (q + 1), none⟩ = some (.int .i64 (l.getD (q + 1) 0)) := cell_at hB hb (hc (q + 1) hlt)
      have u0 : wr.cell? ⟨bA, off + q, none⟩ = some (.int .i64 (l.getD q 0)) := cell_at hB hb (hc q (by omega))
      obtain ⟨y, hy⟩ : ∃ y, l.getD (q + 1) 0 = y := ⟨_, rfl⟩
      obtain ⟨z, hz⟩ : ∃ z, l.getD q 0 = z := ⟨_, rfl⟩
      have HY := Lib.hid hy
      have HZ := Lib.hid hz
      rw [hy] at u1
      rw [hz] at u0
      clear hy hz hc
      have i1 : (q : Int) + 1 < (n : Int) := by omega
      have i2 : (0 : Int) ≤ (q : Int) := by omega
      have i3 : (q : Int) < (n : Int) := by omega
      have t1 : ((q : Int) + 1).toNat = q + 1 := by omega
      by_cases b2 : y ≤ z
      · obtain rfl := HF.out (fun h => by have := h q (by rw [HL.out]; exact hlt); rw [HY.out, HZ.out] at this; omega)
        have d2 : decide (y ≤ z) = true := decide_eq_true b2
        clear HT HF
        go_wp2_with fail
        go_quiet (fail)
        go_wp2
        go_ret
        exact ⟨rfl, below_drewN hB _⟩
      · have d2 : decide (y ≤ z) = false := decide_eq_false b2
        have HN := Lib.hid (show z < y by omega)
        go_wp2_with fail
        go_quiet (fail)
        go_wp2
        go_roundw
        case rel => exact ⟨q + 1, .inl hlt, by go_num, below_drewN hB _, fun x hx => by rcases Nat.lt_succ_iff_lt_or_eq.1 hx with h | rfl; exact HG.out x h; rw [HY.out, HZ.out]; exact HN.out⟩
        case measure => simp [RowKit.intOf]; omega
    · obtain rfl := HT.out (fun i hi => HG.out i (by rw [HL.out] at hi; omega))
      have i1 : ¬ (q : Int) + 1 < (n : Int) := by omega
      clear HT HF
      go_wp2
      go_ret
      exact ⟨rfl, hB⟩
theorem i_isIdB (x : Int) (w : World) : Calls Tryz.prog 131 #[.int .i64 x] w fun e w' => e = .returned (.bool (decide (0 ≤ x ∧ x ≤ 255))) ∧ w = w' := by
  by_cases h : 0 ≤ x ∧ x ≤ 255
  · rw [decide_eq_true h]; exact i_isId_t x w h.1 h.2
  · rw [decide_eq_false h]; exact i_isId_f x w h
theorem i4_isDue_t (x : Int) (w : World) (h1 : 0 ≤ x) (h2 : x ≤ 65535) : Calls Tryz.prog 174 #[.int .i64 x] w fun e w' => e = .returned (.bool true) ∧ w = w' := by
  go_enter Tryz.func174, Tryz.ntmps174
  go_wp2
  go_ret
  exact ⟨ret_bool (by first | (simp; done) | (simp; omega)), rfl⟩
theorem i4_isDue_f (x : Int) (w : World) (h : ¬ (0 ≤ x ∧ x ≤ 65535)) : Calls Tryz.prog 174 #[.int .i64 x] w fun e w' => e = .returned (.bool false) ∧ w = w' := by
  by_cases h1 : x < 0
  · clear h
    go_enter Tryz.func174, Tryz.ntmps174
    go_wp2
    go_ret
    exact ⟨rfl, rfl⟩
  · have h2 : 65535 < x := by omega
    clear h
    go_enter Tryz.func174, Tryz.ntmps174
    go_wp2
    go_ret
    exact ⟨ret_bool (by first | (simp; done) | (simp; omega)), rfl⟩
theorem i_IndexI_t {w : World} {B n c : Nat} {A : Option Addr} {l : List Int} (x : Int) (hl : Ints .i64 w B A n l) (hn : n ≤ 17592186043904) (hx : x ∈ l) :
    Calls Tryz.prog 182 #[.slice A n c, .int .i64 x] w fun e w' => (∃ k : Nat, e = .returned (.int .i64 k) ∧ k < 17592186043904) ∧ w = w' := by
  have HL := Lib.hid hl.1
  go_enter Tryz.func182, Tryz.ntmps182
  go_wp2_with fail
  go_loop [8] (fun i => ∃ j : Nat, j ≤ n ∧ i = .int .i64 j ∧ ∀ y ∈ l.take j, y ≠ x) (fun i => n - (RowKit.intOf i).toNat)
  case atStart => exact ⟨0, by omega, rfl, al0⟩
  case round =>
    obtain ⟨j, hj, rfl, hG⟩ := hrel
    have HG := Lib.hid hG
    clear hG
    by_cases hlt : j < n
    · obtain ⟨b, off, rfl, hb, hcell, hwf⟩ := hl.at_ hlt
      have HA := Lib.hid (atI HL.out hlt)
      obtain ⟨y, hy⟩ : ∃ y, l.getD j 0 = y := ⟨_, rfl⟩
      rw [hy] at hcell HA
      clear hy hwf
      by_cases he : x = y
      · subst he
        go_wp2
        go_ret
        exact ⟨⟨j, rfl, by omega⟩, rfl⟩
      · have q : (x == y) = false := by simpa using he
        have HN := Lib.hid (fun e : y = x => he e.symm)
        clear he
        go_wp2
        go_round
        case rel => exact ⟨j + 1, by omega, by go_num, alS HG.out HA.out HN.out⟩
        case measure => simp [RowKit.intOf]; omega
    · exact absurd rfl (alE HG.out (by rw [HL.out]; omega) x hx)
theorem i_IndexI_f {w : World} {B n c : Nat} {A : Option Addr} {l : List Int} (x : Int) (hl : Ints .i64 w B A n l) (hn : n ≤ 17592186043904) (hx : x ∉ l) :
    Calls Tryz.prog 182 #[.slice A n c, .int .i64 x] w fun e w' => e = .returned (.int .i64 (-1)) ∧ w = w' := by
  have HL := Lib.hid hl.1
  have HX := Lib.hid hx
  clear hx
  go_enter Tryz.func182, Tryz.ntmps182
  go_wp2_with fail
  go_loop [8] (fun i => ∃ j : Nat, j ≤ n ∧ i = .int .i64 j) (fun i => n - (RowKit.intOf i).toNat)
  case atStart => exact ⟨0, by omega, rfl⟩
  case round =>
    obtain ⟨j, hj, rfl⟩ := hrel
    by_cases hlt : j < n
    · obtain ⟨b, off, rfl, hb, hcell, hwf⟩ := hl.at_ hlt
      have HA := Lib.hid (atI HL.out hlt)
      obtain ⟨y, hy⟩ : ∃ y, l.getD j 0 = y := ⟨_, rfl⟩
      rw [hy] at hcell HA
      clear hy hwf
      have q : (x == y) = false := by simp; rintro rfl; exact HX.out (alMem HA.out)
      go_wp2
      go_round
      case rel => exact ⟨j + 1, by omega, by go_num⟩
      case measure => simp [RowKit.intOf]; omega
    · obtain rfl : n = j := by omega
      go_wp2
      go_ret
      exact ⟨rfl, rfl⟩
theorem i_ContainsI {w : World} {B n c : Nat} {A : Option Addr} {l : List Int} (x : Int) (hl : Ints .i64 w B A n l) (hn : n ≤ 17592186043904) :
    Calls Tryz.prog 138 #[.slice A n c, .int .i64 x] w fun e w' => e = .returned (.bool (decide (x ∈ l))) ∧ w = w' := by
  by_cases hx : x ∈ l
  · have HR := Lib.hid (show decide (x ∈ l) = true from decide_eq_true hx)
    go_enter Tryz.func138, Tryz.ntmps138
    go_wp2_with fail
    refine (i_IndexI_t x hl hn hx).mono ?_
    rintro e w' ⟨⟨k, rfl, hk⟩, rfl⟩
    clear hx
    go_wp2
    go_ret
    exact ⟨ret_bool (by first | (rw [HR.out]; done) | (rw [HR.out]; simp; done) | (rw [HR.out]; simp; omega)), rfl⟩
  · have HR := Lib.hid (show decide (x ∈ l) = false from decide_eq_false hx)
    go_enter Tryz.func138, Tryz.ntmps138
    go_wp2_with fail
    refine (i_IndexI_f x hl hn hx).mono ?_
    rintro e w' ⟨rfl, rfl⟩
    clear hx
    go_wp2
    go_ret
    exact ⟨ret_bool HR.out.symm, rfl⟩
theorem i_PcAt {w : World} {cs : List Value} {p : DPiece} (h : tPiece.R w w.heap.size cs p) :
    Calls Tryz.prog 181 #[.agg cs.toArray] w fun e w' => e = .returned (.int .i64 p.2.1) ∧ Below w.heap.size w w' := by
  obtain ⟨A3, n3, c3, rfl, hi0, hi1, hi2, ha3, hb3, hl3, hr3⟩ := openPiece h
  go_enter Tryz.func181, Tryz.ntmps181
  go_wp2
  go_ret
  exact ⟨rfl, (belx)⟩
theorem i_lacking (A3 : Option Addr) (n3 c3 : Nat) (x0 x1 x2 y : Int) (w : World) (hy : IntKind.i64.wrap (x1 - (n3 : Int)) = y) :
    Calls Tryz.prog 176 #[.agg #[.int .i64 x0, .int .i64 x1, .int .i64 x2, .slice A3 n3 c3]] w fun e w' => e = .returned (.int .i64 y) ∧ Below w.heap.size w w' := by
  go_enter Tryz.func176, Tryz.ntmps176
  go_wp2
  go_ret
  exact ⟨rfl, (belx)⟩
/-- What isPartial asks of each fragment. -/
def pcW (x0 x1 : Int) (p : DPiece) : Bool := decide (PcOk p ∧ p.1 = x0 ∧ p.2.2.1 = x1)
theorem i_isPart1 {w : World} {g : Nat} {cs : List Value} {p : DPiece} {x0 x1 : Int} (h : tPiece.R w w.heap.size cs p) (hz : szPiece p ≤ 1048576) (hg0 : w.cell? ⟨g, 0, none⟩ = some (.int .i64 x0)) (hg1 : w.cell? ⟨g, 1, none⟩ = some (.int .i64 x1)) :
    Calls Tryz.prog 178 #[.agg cs.toArray, .pointer (some ⟨g, 0, none⟩)] w fun e w' => e = .returned (.bool (pcW x0 x1 p)) ∧ Below w.heap.size w w' := by
  obtain ⟨A3, n3, c3, rfl, -, -, -, -, -, -, -⟩ := openPiece h
  by_cases hp : PcOk p
  · have HP := Lib.hid (decide_eq_true hp)
    have step : ∀ (b : Bool), pcW x0 x1 p = b → Calls Tryz.prog 178 #[.agg #[.int .i64 p.1, .int .i64 p.2.1, .int .i64 p.2.2.1, .slice A3 n3 c3], .pointer (some ⟨g, 0, none⟩)] w fun e w' => e = .returned (.bool b) ∧ Below w.heap.size w w' := by
      intro b hb
      have HPW := Lib.hid hb
      clear hb
      by_cases h1 : p.1 = x0
      · by_cases h2 : p.2.2.1 = x1
        · obtain rfl : true = b := by rw [← HPW.out]; exact (decide_eq_true ⟨hp, h1, h2⟩).symm
          have d1 : (p.1 == x0) = true := by simpa using h1
          have d2 : (p.2.2.1 == x1) = true := by simpa using h2
          clear hp h1 h2
          go_enter Tryz.func178, Tryz.ntmps178
          go_wp2_with fail
          refine (i_PieceOk (tPiece.reach h ?hB) hz).mono ?_
          case hB => exact (belx)
          rintro e w1 ⟨rfl, hb1⟩
          rw [HP.out]
          have X1 := (Box.new w 141 #[.int .i64 p.1, .int .i64 p.2.1, .int .i64 p.2.2.1, .slice A3 n3 c3]).below hb1 (by simp)
          have x0' := X1.cell 0
          have x2' := X1.cell 2
          have hB1 : Below w.heap.size w w1 := bel_trans (belx) hb1
          have g0 := cell_bel hB1 hg0
          have g1 := cell_bel hB1 hg1
          go_wp2
          go_ret
          exact ⟨ret_bool (by first | exact d2 | (simp [d1, d2]; done)), hB1⟩
        · obtain rfl : false = b := by rw [← HPW.out]; exact (decide_eq_false fun h => h2 h.2.2).symm
          have d1 : (p.1 == x0) = true := by simpa using h1
          have d2 : (p.2.2.1 == x1) = false := by simpa using h2
          clear hp h1 h2
          go_enter Tryz.func178, Tryz.ntmps178
          go_wp2_with fail
          refine (i_PieceOk (tPiece.reach h ?hB) hz).mono ?_
          case hB => exact (belx)
          rintro e w1 ⟨rfl, hb1⟩
          rw [HP.out]
          have X1 := (Box.new w 141 #[.int .i64 p.1, .int .i64 p.2.1, .int .i64 p.2.2.1, .slice A3 n3 c3]).below hb1 (by simp)
          have x0' := X1.cell 0
          have x2' := X1.cell 2
          have hB1 : Below w.heap.size w w1 := bel_trans (belx) hb1
          have g0 := cell_bel hB1 hg0
          have g1 := cell_bel hB1 hg1
          go_wp2
          go_ret
          exact ⟨ret_bool (by first | exact d2 | (simp [d1, d2]; done)), hB1⟩
      · obtain rfl : false = b := by rw [← HPW.out]; exact (decide_eq_false fun h => h1 h.2.1).symm
        have d1 : (p.1 == x0) = false := by simpa using h1
        clear hp h1
        go_enter Tryz.func178, Tryz.ntmps178
        go_wp2_with fail
        refine (i_PieceOk (tPiece.reach h ?hB) hz).mono ?_
        case hB => exact (belx)
        rintro e w1 ⟨rfl, hb1⟩
        rw [HP.out]
        have X1 := (Box.new w 141 #[.int .i64 p.1, .int .i64 p.2.1, .int .i64 p.2.2.1, .slice A3 n3 c3]).below hb1 (by simp)
        have x0' := X1.cell 0
        have x2' := X1.cell 2
        have hB1 : Below w.heap.size w w1 := bel_trans (belx) hb1
        have g0 := cell_bel hB1 hg0
        have g1 := cell_bel hB1 hg1
        go_wp2
        go_ret
        exact ⟨rfl, hB1⟩
    exact step _ rfl
  · have HP := Lib.hid (decide_eq_false hp)
    have HR := Lib.hid (show pcW x0 x1 p = false from decide_eq_false fun h => hp h.1)
    rw [HR.out]
    clear hp
    go_enter Tryz.func178, Tryz.ntmps178
    go_wp2_with fail
    refine (i_PieceOk (tPiece.reach h ?hB) hz).mono ?_
    case hB => exact (belx)
    rintro e w1 ⟨rfl, hb1⟩
    rw [HP.out]
    go_wp2
    go_ret
    exact ⟨rfl, bel_trans (belx) hb1⟩
theorem pcs_sz {r : List DPiece} {i : Nat} {a : DPiece} (h : rsz szPiece r ≤ 1048576) (ha : r[i]? = some a) : szPiece a ≤ 1048576 := by
  have := rsz_step (s := szPiece) ha; omega
theorem pcs_wf {w : World} {B n c : Nat} {A : Option Addr} {r : List DPiece} (h : tPiece.row.R w B [.slice A n c] r) : ∀ a ∈ r, (Lit.int .i64 a.2.1).wf = true := by
  intro a ha
  obtain ⟨i, hi, rfl⟩ := List.getElem_of_mem ha
  obtain ⟨b, bb, off, es, hb, -, -, -, hR⟩ := rowR_at (K := 4) h (show i < n by have := (rowR_len h).1; omega) rfl
  rw [List.getElem?_eq_getElem hi] at hb
  injection hb with hb
  subst hb
  obtain ⟨A3, n3, c3, rfl, hi0, hi1, hi2, -, -, -, -⟩ := openPiece hR
  exact hi1
set_option maxHeartbeats 8000000 in
theorem i_isPartialN {w : World} {A3 : Option Addr} {n3 c3 : Nat} {x0 x1 x2 : Int} {r3 : List DPiece} (b : Bool) (T : WhN (x0, x1, x2, r3) → b = true) (F : ¬ WhN (x0, x1, x2, r3) → b = false)
    (rg1 : -9223372036854775808 ≤ x1 ∧ x1 ≤ 9223372036854775807) (h3 : tPiece.row.R w w.heap.size [.slice A3 n3 c3] r3) (hz : rsz szPiece r3 ≤ 1048576) :
    Calls Tryz.prog 137 #[.agg #[.int .i64 x0, .int .i64 x1, .int .i64 x2, .slice A3 n3 c3]] w fun e w' => e = .returned (.bool b) ∧ Below w.heap.size w w' := by
  obtain ⟨e0, hnc, hcm⟩ := rowR_len h3
  have hn : n3 ≤ 1048576 := by have := rsz_le (s := szPiece) r3; omega
  have HL := Lib.hid e0
  have HZ := Lib.hid hz
  have HT := Lib.hid T
  have HF := Lib.hid F
  have hwf := Lib.hid (pcs_wf h3)
  clear T F e0 hz
  by_cases hd : 0 ≤ x2 ∧ x2 ≤ 65535
  rotate_left
  · obtain rfl := HF.out (fun h => hd h.1)
    clear HT HF
    go_enter Tryz.func137, Tryz.ntmps137
    go_wp2_with (go_at_call 174; refine (i4_isDue_f _ _ hd).mono ?_; rintro e w' ⟨rfl, rfl⟩)
    go_ret
    exact ⟨rfl, (belx)⟩
  obtain ⟨hd1, hd2⟩ := hd
  by_cases hn0 : n3 = 0
  · subst hn0
    obtain rfl := HF.out (fun h => by have := h.2.1.1; have := HL.out; dsimp only at *; omega)
    clear HT HF
    go_enter Tryz.func137, Tryz.ntmps137
    go_wp2_with (go_at_call 174; refine (i4_isDue_t _ _ hd1 hd2).mono ?_; rintro e w' ⟨rfl, rfl⟩)
    go_ret
    exact ⟨rfl, (belx)⟩
  have q0 : (0 : Int) < (n3 : Int) := by omega
  by_cases hlow : x1 ≤ (n3 : Int)
  · obtain rfl := HF.out (fun h => by have := h.2.1.2; have := HL.out; dsimp only at *; omega)
    by_cases hov : -9223372036854775808 ≤ x1 - (n3 : Int)
    · obtain ⟨y, hy, hy0⟩ : ∃ y, IntKind.i64.wrap (x1 - (n3 : Int)) = y ∧ y ≤ 0 := ⟨_, IntWalk.i64_in _ (by omega), by omega⟩
      clear HT HF hlow hov
      go_enter Tryz.func137, Tryz.ntmps137
      go_wp2_with (first
        | (go_at_call 174; refine (i4_isDue_t _ _ hd1 hd2).mono ?_; rintro e w' ⟨rfl, rfl⟩)
        | (go_at_call 176; refine (i_lacking _ _ _ _ _ _ y _ hy).mono ?_; rintro e w1 ⟨rfl, hb1⟩; have X1 := (Box.new w 93 #[.int .i64 x0, .int .i64 x1, .int .i64 x2, .slice A3 n3 c3]).below hb1 (by simp); have k0 := X1.cell 0; have k1 := X1.cell 1; have k3 := X1.cell 3; have hB1 : Below w.heap.size w w1 := bel_trans (belx) hb1))
      go_ret
      exact ⟨rfl, hB1⟩
    · obtain ⟨y, hy, hy0⟩ : ∃ y, IntKind.i64.wrap (x1 - (n3 : Int)) = y ∧ 0 < y := ⟨x1 - (n3 : Int) + 18446744073709551616, by have hb64 : IntKind.i64.bits = 64 := rfl; simp only [IntKind.wrap, hb64]; simp; omega, by omega⟩
      have HE := Lib.hid (show (r3.all (pcW x0 x1)) = false from by
        obtain ⟨a, ha⟩ : ∃ a, r3[0]? = some a := ⟨_, List.getElem?_eq_getElem (by rw [HL.out]; omega)⟩
        exact alF ha (decide_eq_false fun h => by have h1 := h.1; have h2 := h.2.2; unfold PcOk PcN at h1; omega))
      clear HT HF hlow hov
      go_enter Tryz.func137, Tryz.ntmps137
      go_wp2_with (go_at_call 174; refine (i4_isDue_t _ _ hd1 hd2).mono ?_; rintro e w' ⟨rfl, rfl⟩)
      refine (i_lacking _ _ _ _ _ _ y _ hy).mono ?_
      rintro e w1 ⟨rfl, hb1⟩
      have X1 := (Box.new w 93 #[.int .i64 x0, .int .i64 x1, .int .i64 x2, .slice A3 n3 c3]).below hb1 (by simp)
      have k0 := X1.cell 0
      have k1 := X1.cell 1
      have k3 := X1.cell 3
      have hB1 : Below w.heap.size w w1 := bel_trans (belx) hb1
      go_wp2_with fail
      refine (i_evryPieceV 178 (.pointer (some ⟨w.heap.size, 0, none⟩)) (pcW x0 x1) (fun _ _ => rfl) (fun i a w' cs ha hBw hR => i_isPart1 hR (pcs_sz HZ.out ha) (cell_bel hBw k0) (cell_bel hBw k1)) (tPiece.row.reach h3 hB1) (by omega)).mono ?_
      rintro e w2 ⟨rfl, hb2⟩
      rw [HE.out]
      have X2 := X1.below hb2 X1.size
      have m3 := X2.cell 3
      have hB2 : Below w.heap.size w w2 := bel_trans hB1 hb2
      go_wp2
      go_ret
      exact ⟨rfl, hB2⟩
  obtain ⟨y, hy, hy0⟩ : ∃ y, IntKind.i64.wrap (x1 - (n3 : Int)) = y ∧ 0 < y := ⟨_, IntWalk.i64_in _ (by omega), by omega⟩
  by_cases ha : ∀ p ∈ r3, PcOk p ∧ p.1 = x0 ∧ p.2.2.1 = x1
  rotate_left
  · obtain rfl := HF.out (fun h => ha h.2.2.1)
    have HE := Lib.hid (show (r3.all (pcW x0 x1)) = false from alDecF ha)
    clear HT HF ha
    go_enter Tryz.func137, Tryz.ntmps137
    go_wp2_with (go_at_call 174; refine (i4_isDue_t _ _ hd1 hd2).mono ?_; rintro e w' ⟨rfl, rfl⟩)
    refine (i_lacking _ _ _ _ _ _ y _ hy).mono ?_
    rintro e w1 ⟨rfl, hb1⟩
    have X1 := (Box.new w 93 #[.int .i64 x0, .int .i64 x1, .int .i64 x2, .slice A3 n3 c3]).below hb1 (by simp)
    have k0 := X1.cell 0
    have k1 := X1.cell 1
    have k3 := X1.cell 3
    have hB1 : Below w.heap.size w w1 := bel_trans (belx) hb1
    go_wp2_with fail
    refine (i_evryPieceV 178 (.pointer (some ⟨w.heap.size, 0, none⟩)) (pcW x0 x1) (fun _ _ => rfl) (fun i a w' cs ha hBw hR => i_isPart1 hR (pcs_sz HZ.out ha) (cell_bel hBw k0) (cell_bel hBw k1)) (tPiece.row.reach h3 hB1) (by omega)).mono ?_
    rintro e w2 ⟨rfl, hb2⟩
    rw [HE.out]
    have X2 := X1.below hb2 X1.size
    have m3 := X2.cell 3
    have hB2 : Below w.heap.size w w2 := bel_trans hB1 hb2
    go_wp2
    go_ret
    exact ⟨rfl, hB2⟩
  have HE := Lib.hid (show (r3.all (pcW x0 x1)) = true from alDec ha)
  obtain ⟨ats, hats⟩ : ∃ L, (r3.map fun p => p.2.1) = L := ⟨_, rfl⟩
  have HATS := Lib.hid hats
  have HTA := Lib.hid (show Asc ats → b = true from fun h => HT.out ⟨⟨hd1, hd2⟩, ⟨by have := HL.out; dsimp only; omega, by have := HL.out; dsimp only; omega⟩, ha, by show Asc (r3.map fun p => p.2.1); rw [hats]; exact h⟩)
  have HFA := Lib.hid (show ¬ Asc ats → b = false from fun h => HF.out fun hh => h (by rw [← hats]; exact hh.2.2.2))
  have hl5 : ats.length ≤ 17592186043904 := by rw [← hats, List.length_map, HL.out]; omega
  clear HT HF ha hlow hats
  go_enter Tryz.func137, Tryz.ntmps137
  go_wp2_with (go_at_call 174; refine (i4_isDue_t _ _ hd1 hd2).mono ?_; rintro e w' ⟨rfl, rfl⟩)
  refine (i_lacking _ _ _ _ _ _ y _ hy).mono ?_
  rintro e w1 ⟨rfl, hb1⟩
  have X1 := (Box.new w 93 #[.int .i64 x0, .int .i64 x1, .int .i64 x2, .slice A3 n3 c3]).below hb1 (by simp)
  have k0 := X1.cell 0
  have k1 := X1.cell 1
  have k3 := X1.cell 3
  have hB1 : Below w.heap.size w w1 := bel_trans (belx) hb1
  go_wp2_with fail
  refine (i_evryPieceV 178 (.pointer (some ⟨w.heap.size, 0, none⟩)) (pcW x0 x1) (fun _ _ => rfl) (fun i a w' cs ha hBw hR => i_isPart1 hR (pcs_sz HZ.out ha) (cell_bel hBw k0) (cell_bel hBw k1)) (tPiece.row.reach h3 hB1) (by omega)).mono ?_
  rintro e w2 ⟨rfl, hb2⟩
  rw [HE.out]
  have X2 := X1.below hb2 X1.size
  have m3 := X2.cell 3
  have hB2 : Below w.heap.size w w2 := bel_trans hB1 hb2
  go_wp2_with fail
  refine (i_eachPieceI 181 (fun p => p.2.1) (fun _ _ => rfl) (fun i a w' cs ha hBw hR => i_PcAt hR) hwf.out (tPiece.row.reach h3 hB2) hn).mono ?_
  rintro e w3 ⟨v, rfl, hO, hb3⟩
  rw [HATS.out] at hO
  obtain ⟨A5, c5, rfl, hle5, hI5, -⟩ := hO.ints
  have hB3 : Below w.heap.size w w3 := bel_trans hB2 hb3
  go_wp2_with fail
  refine (i_isAsc b HTA.out HFA.out hI5 hl5).mono ?_
  rintro e w4 ⟨rfl, hb4⟩
  go_wp2
  go_ret
  exact ⟨rfl, bel_trans hB3 hb4⟩
theorem i_WhId {w : World} {cs : List Value} {p : DWhole} (h : tWhole.R w w.heap.size cs p) :
    Calls Tryz.prog 134 #[.agg cs.toArray] w fun e w' => e = .returned (.int .i64 p.1) ∧ Below w.heap.size w w' := by
  obtain ⟨A3, n3, c3, rfl, hi0, hi1, hi2, ha3, hb3, hl3, hr3⟩ := openWhole h
  go_enter Tryz.func134, Tryz.ntmps134
  go_wp2
  go_ret
  exact ⟨rfl, (belx)⟩
theorem whs_sz {r : List DWhole} {i : Nat} {a : DWhole} (h : rsz szWhole r ≤ 1048576) (ha : r[i]? = some a) : szWhole a ≤ 1048576 := by
  have := rsz_step (s := szWhole) ha; omega
theorem whs_wf {w : World} {B n c : Nat} {A : Option Addr} {r : List DWhole} (h : tWhole.row.R w B [.slice A n c] r) : ∀ a ∈ r, (Lit.int .i64 a.1).wf = true := by
  intro a ha
  obtain ⟨i, hi, rfl⟩ := List.getElem_of_mem ha
  obtain ⟨b, bb, off, es, hb, -, -, -, hR⟩ := rowR_at (K := 4) h (show i < n by have := (rowR_len h).1; omega) rfl
  rw [List.getElem?_eq_getElem hi] at hb
  injection hb with hb
  subst hb
  obtain ⟨A3, n3, c3, rfl, hi0, hi1, hi2, -, -, -, -⟩ := openWhole hR
  exact hi0
/-- What DeskOk asks of each message. -/
noncomputable def whB (l1 : List Int) (a : DWhole) : Bool := @decide (WhN a ∧ a.1 ∉ l1) (Classical.propDecidable _)
theorem whB_t {l1 : List Int} {a : DWhole} (h : WhN a ∧ a.1 ∉ l1) : whB l1 a = true := @decide_eq_true _ (Classical.propDecidable _) h
theorem whB_f {l1 : List Int} {a : DWhole} (h : ¬ (WhN a ∧ a.1 ∉ l1)) : whB l1 a = false := @decide_eq_false _ (Classical.propDecidable _) h
theorem i_DeskOk1 {w : World} {g n1 c1 : Nat} {A1 : Option Addr} {cs : List Value} {a : DWhole} {l1 : List Int} (h : tWhole.R w w.heap.size cs a) (hz : szWhole a ≤ 1048576) (hg1 : w.cell? ⟨g, 1, none⟩ = some (.slice A1 n1 c1)) (hl : Ints .i64 w w.heap.size A1 n1 l1) (hn : n1 ≤ 17592186043904) :
    Calls Tryz.prog 136 #[.agg cs.toArray, .pointer (some ⟨g, 0, none⟩)] w fun e w' => e = .returned (.bool (whB l1 a)) ∧ Below w.heap.size w w' := by
  obtain ⟨A3, n3, c3, rfl, hi0, hi1, hi2, ha3, hb3, hl3, hr3⟩ := openWhole h
  have rg1 := i64_rg hi1
  by_cases hp : WhN a
  · have step : ∀ (b : Bool), whB l1 a = b → Calls Tryz.prog 136 #[.agg #[.int .i64 a.1, .int .i64 a.2.1, .int .i64 a.2.2.1, .slice A3 n3 c3], .pointer (some ⟨g, 0, none⟩)] w fun e w' => e = .returned (.bool b) ∧ Below w.heap.size w w' := by
      intro b hb
      have HBB := Lib.hid hb
      have HPN := Lib.hid (show WhN (a.1, a.2.1, a.2.2.1, a.2.2.2) from hp)
      have HMM := Lib.hid (show (!decide (a.1 ∈ l1)) = b from by
        rw [← hb]
        by_cases hm : a.1 ∈ l1
        · rw [decide_eq_true hm, whB_f fun h => h.2 hm]; rfl
        · rw [decide_eq_false hm, whB_t ⟨hp, hm⟩]; rfl)
      clear hb hp
      go_enter Tryz.func136, Tryz.ntmps136
      go_wp2_with fail
      refine (i_isPartialN true (fun _ => rfl) (fun h => absurd HPN.out h) rg1 (tPiece.row.reach hr3 ?hB) hz).mono ?_
      case hB => exact (belx)
      rintro e w1 ⟨rfl, hb1⟩
      have X1 := (Box.new w 93 #[.int .i64 a.1, .int .i64 a.2.1, .int .i64 a.2.2.1, .slice A3 n3 c3]).below hb1 (by simp)
      have x0' := X1.cell 0
      have hB1 : Below w.heap.size w w1 := bel_trans (belx) hb1
      have g1 := cell_bel hB1 hg1
      go_wp2_with fail
      refine (i_ContainsI a.1 (reach hl hB1) hn).mono ?_
      rintro e w2 ⟨rfl, rfl⟩
      go_wp2
      go_ret
      exact ⟨ret_bool HMM.out, hB1⟩
    exact step _ rfl
  · have HR := Lib.hid (show whB l1 a = false from whB_f fun h => hp h.1)
    rw [HR.out]
    have HPN := Lib.hid (show ¬ WhN (a.1, a.2.1, a.2.2.1, a.2.2.2) from hp)
    clear hp
    go_enter Tryz.func136, Tryz.ntmps136
    go_wp2_with fail
    refine (i_isPartialN false (fun h => absurd h HPN.out) (fun _ => rfl) rg1 (tPiece.row.reach hr3 ?hB) hz).mono ?_
    case hB => exact (belx)
    rintro e w1 ⟨rfl, hb1⟩
    go_wp2
    go_ret
    exact ⟨rfl, bel_trans (belx) hb1⟩
set_option maxHeartbeats 2000000 in
theorem i_DeskOkN {w : World} {A0 A1 : Option Addr} {n0 c0 n1 c1 : Nat} {r0 : List DWhole} {l1 : List Int} (b : Bool) (T : DkOk (r0, l1) → b = true) (F : ¬ DkOk (r0, l1) → b = false)
    (h0 : tWhole.row.R w w.heap.size [.slice A0 n0 c0] r0) (h1 : tIs.R w w.heap.size [.slice A1 n1 c1] l1) (hsz : rsz szWhole r0 ≤ 1048576) (hn1 : n1 ≤ 1048576) :
    Calls Tryz.prog 80 #[.agg #[.slice A0 n0 c0, .slice A1 n1 c1]] w fun e w' => e = .returned (.bool b) ∧ Below w.heap.size w w' := by
  obtain ⟨e0, hnc0, hcm0⟩ := rowR_len h0
  have hl1 := (slR_ints h1).1
  have hn0 : n0 ≤ 1048576 := by have := rsz_le (s := szWhole) r0; omega
  have E0 := Lib.hid e0
  have E1 := Lib.hid hl1.1
  have HT := Lib.hid T
  have HF := Lib.hid F
  have HS0 := Lib.hid hsz
  have hwf := Lib.hid (whs_wf h0)
  clear T F e0 h1 hsz
  by_cases a0 : ∀ x ∈ l1, 0 ≤ x ∧ x ≤ 255
  rotate_left
  · obtain rfl := HF.out (fun h => a0 h.2.1)
    have HA0 := Lib.hid (show (l1.all fun x => decide (0 ≤ x ∧ x ≤ 255)) = false from alDecF a0)
    clear HT HF a0
    go_enter Tryz.func80, Tryz.ntmps80
    go_wp2_with fail
    refine (i_everyI 131 (fun x => decide (0 ≤ x ∧ x ≤ 255)) (fun x w => rfl) i_isIdB (reach hl1 ?hB) (by omega)).mono ?_
    case hB => exact (belx)
    rintro e w1 ⟨rfl, rfl⟩
    rw [HA0.out]
    go_wp2
    go_ret
    exact ⟨rfl, (belx)⟩
  have HA0 := Lib.hid (show (l1.all fun x => decide (0 ≤ x ∧ x ≤ 255)) = true from alDec a0)
  by_cases a1 : Asc l1
  rotate_left
  · obtain rfl := HF.out (fun h => a1 h.2.2.1)
    have HA1 := Lib.hid a1
    clear HT HF a0 a1
    go_enter Tryz.func80, Tryz.ntmps80
    go_wp2_with fail
    refine (i_everyI 131 (fun x => decide (0 ≤ x ∧ x ≤ 255)) (fun x w => rfl) i_isIdB (reach hl1 ?hB) (by omega)).mono ?_
    case hB => exact (belx)
    rintro e w1 ⟨rfl, rfl⟩
    rw [HA0.out]
    go_wp2_with fail
    refine (i_isAsc false (fun h => absurd h HA1.out) (fun _ => rfl) (reach hl1 ?hB) (by omega)).mono ?_
    case hB => exact (belx)
    rintro e w2 ⟨rfl, hb2⟩
    have X2 := (Box.new w 42 #[.slice A0 n0 c0, .slice A1 n1 c1]).below hb2 (by simp)
    have k0 := X2.cell 0
    have k1 := X2.cell 1
    have hB2 : Below w.heap.size w w2 := bel_trans (belx) hb2
    go_wp2
    go_ret
    exact ⟨rfl, hB2⟩
  have HA1 := Lib.hid a1
  by_cases g0 : n0 ≤ 6
  rotate_left
  · obtain rfl := HF.out (fun h => by have := h.1; have := E0.out; dsimp only at *; omega)
    have q : ¬ (n0 : Int) ≤ 6 := by omega
    clear HT HF a0 a1
    go_enter Tryz.func80, Tryz.ntmps80
    go_wp2_with fail
    refine (i_everyI 131 (fun x => decide (0 ≤ x ∧ x ≤ 255)) (fun x w => rfl) i_isIdB (reach hl1 ?hB) (by omega)).mono ?_
    case hB => exact (belx)
    rintro e w1 ⟨rfl, rfl⟩
    rw [HA0.out]
    go_wp2_with fail
    refine (i_isAsc true (fun _ => rfl) (fun h => absurd HA1.out h) (reach hl1 ?hB) (by omega)).mono ?_
    case hB => exact (belx)
    rintro e w2 ⟨rfl, hb2⟩
    have X2 := (Box.new w 42 #[.slice A0 n0 c0, .slice A1 n1 c1]).below hb2 (by simp)
    have k0 := X2.cell 0
    have k1 := X2.cell 1
    have hB2 : Below w.heap.size w w2 := bel_trans (belx) hb2
    go_wp2
    go_ret
    exact ⟨rfl, hB2⟩
  have q : (n0 : Int) ≤ 6 := by omega
  obtain ⟨ids, hids⟩ : ∃ L, (r0.map fun p => p.1) = L := ⟨_, rfl⟩
  have HIDS := Lib.hid hids
  have hl5 : ids.length ≤ 17592186043904 := by rw [← hids, List.length_map, E0.out]; omega
  by_cases a3 : Asc ids
  rotate_left
  · obtain rfl := HF.out (fun h => a3 (by rw [← hids]; exact h.2.2.2.1))
    have HA3 := Lib.hid a3
    clear HT HF a0 a1 a3 hids
    go_enter Tryz.func80, Tryz.ntmps80
    go_wp2_with fail
    refine (i_everyI 131 (fun x => decide (0 ≤ x ∧ x ≤ 255)) (fun x w => rfl) i_isIdB (reach hl1 ?hB) (by omega)).mono ?_
    case hB => exact (belx)
    rintro e w1 ⟨rfl, rfl⟩
    rw [HA0.out]
    go_wp2_with fail
    refine (i_isAsc true (fun _ => rfl) (fun h => absurd HA1.out h) (reach hl1 ?hB) (by omega)).mono ?_
    case hB => exact (belx)
    rintro e w2 ⟨rfl, hb2⟩
    have X2 := (Box.new w 42 #[.slice A0 n0 c0, .slice A1 n1 c1]).below hb2 (by simp)
    have k0 := X2.cell 0
    have k1 := X2.cell 1
    have hB2 : Below w.heap.size w w2 := bel_trans (belx) hb2
    go_wp2_with fail
    refine (i_eachWholeI 134 (fun p => p.1) (fun _ _ => rfl) (fun i a w' cs ha hBw hR => i_WhId hR) hwf.out (tWhole.row.reach h0 hB2) (by omega)).mono ?_
    rintro e w3 ⟨v, rfl, hO, hb3⟩
    rw [HIDS.out] at hO
    obtain ⟨A5, c5, rfl, hle5, hI5, -⟩ := hO.ints
    have hB3 : Below w.heap.size w w3 := bel_trans hB2 hb3
    have X3 := X2.below hb3 X2.size
    go_wp2_with fail
    refine (i_isAsc false (fun h => absurd h HA3.out) (fun _ => rfl) hI5 hl5).mono ?_
    rintro e w4 ⟨rfl, hb4⟩
    have X4 := X3.below hb4 X3.size
    clear k0 k1
    have k0 := X4.cell 0
    have k1 := X4.cell 1
    have hB4 : Below w.heap.size w w4 := bel_trans hB3 hb4
    go_wp2
    go_ret
    exact ⟨rfl, hB4⟩
  have HA3 := Lib.hid a3
  have HB := Lib.hid (show (r0.all (whB l1)) = b from by
    by_cases a4 : ∀ a ∈ r0, WhN a ∧ a.1 ∉ l1
    · rw [HT.out ⟨by have := E0.out; dsimp only; omega, a0, a1, by show Asc (r0.map fun p => p.1); rw [hids]; exact a3, a4⟩]; exact List.all_eq_true.2 fun x hx => whB_t (a4 x hx)
    · rw [HF.out (fun h => a4 h.2.2.2.2)]; exact Bool.eq_false_iff.2 fun hh => a4 fun x hx => Classical.byContradiction fun hc => by have := List.all_eq_true.1 hh x hx; rw [whB_f hc] at this; cases this)
  clear HT HF a0 a1 a3 hids
  go_enter Tryz.func80, Tryz.ntmps80
  go_wp2_with fail
  refine (i_everyI 131 (fun x => decide (0 ≤ x ∧ x ≤ 255)) (fun x w => rfl) i_isIdB (reach hl1 ?hB) (by omega)).mono ?_
  case hB => exact (belx)
  rintro e w1 ⟨rfl, rfl⟩
  rw [HA0.out]
  go_wp2_with fail
  refine (i_isAsc true (fun _ => rfl) (fun h => absurd HA1.out h) (reach hl1 ?hB) (by omega)).mono ?_
  case hB => exact (belx)
  rintro e w2 ⟨rfl, hb2⟩
  have X2 := (Box.new w 42 #[.slice A0 n0 c0, .slice A1 n1 c1]).below hb2 (by simp)
  have k0 := X2.cell 0
  have k1 := X2.cell 1
  have hB2 : Below w.heap.size w w2 := bel_trans (belx) hb2
  go_wp2_with fail
  refine (i_eachWholeI 134 (fun p => p.1) (fun _ _ => rfl) (fun i a w' cs ha hBw hR => i_WhId hR) hwf.out (tWhole.row.reach h0 hB2) (by omega)).mono ?_
  rintro e w3 ⟨v, rfl, hO, hb3⟩
  rw [HIDS.out] at hO
  obtain ⟨A5, c5, rfl, hle5, hI5, -⟩ := hO.ints
  have hB3 : Below w.heap.size w w3 := bel_trans hB2 hb3
  have X3 := X2.below hb3 X2.size
  go_wp2_with fail
  refine (i_isAsc true (fun _ => rfl) (fun h => absurd HA3.out h) hI5 hl5).mono ?_
  rintro e w4 ⟨rfl, hb4⟩
  have X4 := X3.below hb4 X3.size
  clear k0 k1
  have k0 := X4.cell 0
  have k1 := X4.cell 1
  have hB4 : Below w.heap.size w w4 := bel_trans hB3 hb4
  go_wp2_with fail
  refine (i_evryWholeV 136 (.pointer (some ⟨w.heap.size, 0, none⟩)) (whB l1) (fun _ _ => rfl) (fun i a w' cs ha hBw hR => i_DeskOk1 hR (whs_sz HS0.out ha) (cell_bel hBw k1) (reach hl1 (bel_trans hB4 hBw)) (by omega)) (tWhole.row.reach h0 hB4) (by omega)).mono ?_
  rintro e w5 ⟨rfl, hb5⟩
  rw [HB.out]
  go_wp2
  go_ret
  exact ⟨rfl, bel_trans hB4 hb5⟩
theorem i_DeskOk {w : World} {cs : List Value} {p : DDesk} (h : tDesk.R w w.heap.size cs p) (hz : szDesk p ≤ 1048576) :
    Calls Tryz.prog 80 #[.agg cs.toArray] w fun e w' => e = .returned (.bool (decide (DkOk p))) ∧ Below w.heap.size w w' := by
  obtain ⟨A0, n0, c0, A1, n1, c1, rfl, -, -, -, hr0, -, -, hn1, hr1⟩ := openDesk h
  unfold szDesk at hz
  exact i_DeskOkN _ (fun hh => decide_eq_true hh) (fun hh => decide_eq_false hh) hr0 hr1 (by omega) (by omega)
end Go.Proofs.YtelbckpplckofaaGreat
namespace Go.Proofs.YtelbckpplckofaaGreat
set_option linter.unusedVariables false
variable {P : Program} {md : Region.Mode} {ops : Array Oper} {Q : Exit → Act → World → Prop} {S : World → Prop}
theorem tkx (i : Nat) (d : Option Nat) {o1 : Op} {o2 : TypeId} {o3 : String} {o4 : Array Edge} {o5 : Option (Nat × Bool)} {v : Value} {fuel : Nat} {listed : Array Bool} {a a' : Act} {w : World} (h : wpAnyH P md ops Q S fuel (listed.setIfInBounds i true) a' w)
    (hi : ops[i]? = some ⟨d, o1, o2, o3, o4, o5⟩ := by rfl)
    (hy : YieldsIf P ops S ⟨d, o1, o2, o3, o4, o5⟩ v a := by exact Or.inl ⟨by rfl, by intro w hSw; (try dsimp only at hSw); go_simp; try (with_reducible rfl)⟩)
    (hs : Region.noSelect ops = true := by kernel_rfl) (hf : Region.free md ops listed i = true := by kernel_rfl) (hr : (Region.ready md ops listed).contains i = true := by kernel_rfl)
    (ha : a.put d v = a' := by first | (simp only [Act.put, List.setIfInBounds_toArray, List.set_cons_zero, List.set_cons_succ]; rfl) | rfl)
    (hQ : ∀ c a w, Q (.panic c) (a.put d v) w → Q (.panic c) a w := by exact fun _ _ _ h => h) (hS : S w := by assumption) : wpAnyH P md ops Q S (fuel + 1) listed a w :=
  wpAnyH_take hi hs hf hr hQ hy hS (ha ▸ h)
theorem tkn (i : Nat) (d : Option Nat) {o1 : Op} {o2 : TypeId} {o3 : String} {o4 : Array Edge} {o5 : Option (Nat × Bool)} {fuel : Nat} {listed : Array Bool} {a a' : Act} {w : World} (h : wpAnyH P md ops Q S fuel (listed.setIfInBounds i true) a' w)
    (hi : ops[i]? = some ⟨d, o1, o2, o3, o4, o5⟩ := by rfl)
    (hy : YieldsIf P ops S ⟨d, o1, o2, o3, o4, o5⟩ undef a := by exact Or.inr ⟨by rfl, rfl⟩)
    (hs : Region.noSelect ops = true := by kernel_rfl) (hf : Region.free md ops listed i = true := by kernel_rfl) (hr : (Region.ready md ops listed).contains i = true := by kernel_rfl)
    (ha : a.put d undef = a' := by first | (simp only [Act.put, List.setIfInBounds_toArray, List.set_cons_zero, List.set_cons_succ]; rfl) | rfl)
    (hQ : ∀ c a w, Q (.panic c) (a.put d undef) w → Q (.panic c) a w := by exact fun _ _ _ h => h) (hS : S w := by assumption) : wpAnyH P md ops Q S (fuel + 1) listed a w :=
  wpAnyH_take hi hs hf hr hQ hy hS (ha ▸ h)
end Go.Proofs.YtelbckpplckofaaGreat
namespace Go.Proofs.YtelbckpplckofaaGreat
set_option maxRecDepth 100000
set_option linter.unusedVariables false
set_option linter.unusedSimpArgs false
open Go.ChangeShapes Go.WideShapes Go.ChangeAt Go.RowKit
open Fld
theorem i_four5 {w : World} (x : Int) (h : 0 ≤ x ∧ x < 2147483648) :
    Calls Tryz.prog 53 #[.int .i64 x] w fun e w' => ∃ v, e = .returned v ∧ Own .u8 5 w' w.heap.size v (four x) ∧ Below w.heap.size w w' := by
  have HF := Lib.hid (four_in h)
  go_enter Tryz.func53, Tryz.ntmps53
  go_wp2
  go_ret
  refine ⟨_, rfl, Own.of (n := 4) ?_ four_wf, (Below.refl _ _).alloc (Nat.le_refl _) _⟩
  rw [← HF.out]
  exact ⟨rfl, .inr ⟨w.heap.size, 4, _, rfl, Nat.le_refl _, heap_alloc_new w _, Nat.le_refl _, by simp only [maxLen]; omega, rfl, rfl⟩⟩
theorem i_HdBytes {w : World} {cs : List Value} {p : DHeld} (h : tHeld.R w w.heap.size cs p) (hp : HdOk p) :
    Calls Tryz.prog 103 #[.agg cs.toArray] w fun e w' => ∃ v, e = .returned v ∧ Own .u8 5 w' w.heap.size v (heldB p) ∧ Below w.heap.size w w' := by
  obtain ⟨i0, hi0, hz0, hz1, hz2⟩ := info_parts info_cb
  obtain ⟨A2, n2, c2, rfl, -, -, -, -, hl80, hr2⟩ := openHeld h
  have hI2 := (slR_ints hr2).1
  obtain ⟨q1, q2, q3, q4, q5⟩ := hp
  obtain rfl : n2 = 80 := by omega
  have HHB := Lib.hid (show heldB p = [p.1, p.2.1 / 256, p.2.1 % 256] ++ p.2.2 from rfl)
  rw [HHB.out]
  obtain ⟨x, hx⟩ : ∃ x, p.1 = x := ⟨_, rfl⟩
  obtain ⟨d, hd⟩ : ∃ d, p.2.1 = d := ⟨_, rfl⟩
  rw [hx, hd]
  rw [hx] at q1 q2
  rw [hd] at q3 q4
  clear hx hd hl80 HHB q5 h
  have x8 : IntKind.u8.wrap x = x := IntWalk.u8_in _ (by omega)
  have y8 : IntKind.u8.wrap (d / 256) = d / 256 := IntWalk.u8_in _ (by omega)
  have z8 : IntKind.u8.wrap d = d % 256 := u8_mod d
  have hwf : ∀ u ∈ [x, d / 256, d % 256], (Lit.int .u8 u).wf = true := by
    intro u hu
    simp only [List.mem_cons, List.not_mem_nil, or_false] at hu
    rcases hu with rfl | rfl | rfl
    · exact WalkArith.wf_u8 (by omega)
    · exact WalkArith.wf_u8 (by omega)
    · exact WalkArith.wf_u8 (by omega)
  have hrow : Own .u8 5 ((w.alloc (.cells #[.int .i64 x, .int .i64 d, .slice A2 80 c2] 116)).alloc (.cells #[.int .u8 x, .int .u8 (d / 256), .int .u8 (d % 256)] 5)) (w.heap.size + 1) (.slice (some ⟨w.heap.size + 1, 0, none⟩) 3 3) [x, d / 256, d % 256] :=
    Own.of (n := 3) ⟨rfl, .inr ⟨w.heap.size + 1, 3, #[.int .u8 x, .int .u8 (d / 256), .int .u8 (d % 256)], rfl, Nat.le_refl _, by simpa using heap_alloc_new (w.alloc (.cells #[.int .i64 x, .int .i64 d, .slice A2 80 c2] 116)) (.cells #[.int .u8 x, .int .u8 (d / 256), .int .u8 (d % 256)] 5), Nat.le_refl _, by simp only [maxLen]; omega, rfl, rfl⟩⟩ hwf
  have hsrc : Src ((w.alloc (.cells #[.int .i64 x, .int .i64 d, .slice A2 80 c2] 116)).alloc (.cells #[.int .u8 x, .int .u8 (d / 256), .int .u8 (d % 256)] 5)) 1 A2 80 (p.2.2.map (Value.int .u8)) := Src.of_ints (reach hI2 (belx))
  go_enter Tryz.func103, Tryz.ntmps103
  go_wp2_with (at_builtin; refine wpList_app _ rfl (.tmp 13) (.tmp 16) _ rfl (w.heap.size + 1) 5 i0 _ 1 1 Tryz.underlying32 hi0 hz0 hz1 hz2 rfl (by omega) _ _ _ rfl hrow.1 _ 80 c2 (p.2.2.map (Value.int .u8)) rfl hsrc (one_ints _ _) (by simp only [maxLen, List.length_cons, List.length_nil]; omega) (by simp only [List.length_cons, List.length_nil]; omega) (by simp; done) ?_; intro v1 w1 hown hgr hat)
  go_ret
  refine ⟨v1, rfl, Own.lower (base := w.heap.size + 1) (own_appN (l := [x, d / 256, d % 256]) (r := p.2.2) hown hI2.1 hwf hI2.2.2) (by omega), Below.grown (belx) hgr (by simp; omega) fun b hb => ?_⟩
  have e := Option.some.inj (show some (w.heap.size + 1) = some b from hb)
  omega
set_option maxHeartbeats 2000000 in
theorem i_PoolBytes {w : World} {cs : List Value} {p : DPool} (h : tPool.R w w.heap.size cs p) (hz : szPool p ≤ 1048576) :
    Calls Tryz.prog 51 #[.agg cs.toArray] w fun e w' => ∃ A c F, e = .returned (.tuple #[.slice A (fPlB p).length c, .bool (decide (PlOk p))]) ∧ tBy.O w' [.slice A (fPlB p).length c] (fPlB p) F ∧ New w.heap.size F ∧ Below w.heap.size w w' := by
  by_cases hp : PlOk p
  · have HP := Lib.hid (decide_eq_true hp)
    rw [HP.out]
    obtain ⟨A0, n0, c0, A1, n1, c1, rfl, -, -, -, hr0, -, -, -, hr1⟩ := openPool h
    obtain ⟨e0, _, _⟩ := rowR_len hr0
    have hI1 := (slR_ints hr1).1
    have hn0 : n0 ≤ 12 := by have := hp.1.1; omega
    have hn1 : n1 ≤ 60 := by have := hp.1.2; have := hI1.1; omega
    obtain ⟨BH, hBH⟩ : ∃ y, p.1.flatMap heldB = y := ⟨_, rfl⟩
    obtain ⟨BT, hBT⟩ : ∃ y, p.2.flatMap four = y := ⟨_, rfl⟩
    have lBH : BH.length ≤ 996 := by have := hdsB_le hp p.1.length; rw [List.take_length, hBH] at this; exact this
    have lBT : BT.length ≤ 240 := by have := tagsB_le hp p.2.length; rw [List.take_length, hBT] at this; exact this
    obtain ⟨R, hR⟩ : ∃ R, fPlB p = R := ⟨_, rfl⟩
    have HF := Lib.hid (show [(n0 : Int), (n1 : Int)] ++ BH ++ BT = R from by rw [← hR, fPlB_t hp, ← hBH, ← hBT]; unfold plB; rw [e0, hI1.1])
    have HBH := Lib.hid hBH
    have HBT := Lib.hid hBT
    have HPP := Lib.hid hp
    have LBH := Lib.hid lBH
    have LBT := Lib.hid lBT
    rw [hR]
    have c0' : IntKind.u8.wrap (n0 : Int) = (n0 : Int) := IntWalk.u8_in _ (by omega)
    have c1' : IntKind.u8.wrap (n1 : Int) = (n1 : Int) := IntWalk.u8_in _ (by omega)
    have w0' : (Lit.int .u8 (n0 : Int)).wf = true := WalkArith.wf_u8 (by omega)
    have w1' : (Lit.int .u8 (n1 : Int)).wf = true := WalkArith.wf_u8 (by omega)
    clear hp e0 hBH hBT lBH lBT hR
    go_enter Tryz.func51, Tryz.ntmps51
    go_wp2_with fail
    refine (i_PoolOk (tPool.reach h ?hB) hz).mono ?_
    case hB => exact (belx)
    rintro e w1 ⟨rfl, hb1⟩
    rw [HP.out]
    have X1 : Box w1 w.heap.size 39 #[.slice A0 n0 c0, .slice A1 n1 c1] := (Box.new _ _ _).below hb1 (by simp)
    have k0 : w1.cell? ⟨w.heap.size, 0, none⟩ = some (.slice A0 n0 c0) := X1.cell 0
    have k1 : w1.cell? ⟨w.heap.size, 1, none⟩ = some (.slice A1 n1 c1) := X1.cell 1
    have hB1 : Below w.heap.size w w1 := bel_trans (belx) hb1
    have hHd : Ints .u8 (w1.alloc (.cells #[.int .u8 (n0 : Int), .int .u8 (n1 : Int)] 5)) (w1.alloc (.cells #[.int .u8 (n0 : Int), .int .u8 (n1 : Int)] 5)).heap.size (some ⟨w1.heap.size, 0, none⟩) 2 [(n0 : Int), (n1 : Int)] := by
      refine ⟨rfl, fun _ => ⟨_, 0, rfl, by simp, fun i hi => ?_⟩, fun x hx => ?_⟩
      · rw [Nat.zero_add, (Box.new w1 5 _).cell]
        rcases (by omega : i = 0 ∨ i = 1) with rfl | rfl <;> rfl
      · simp only [List.mem_cons, List.not_mem_nil, or_false] at hx
        rcases hx with rfl | rfl
        · exact w0'
        · exact w1'
    have X2 := X1.alloc (.cells #[.int .u8 (n0 : Int), .int .u8 (n1 : Int)] 5)
    have d0 := X2.cell 0
    have d1 := X2.cell 1
    clear w0' w1'
    go_wp2_with fail
    go_region_held3 (fun w' => w'.cell? ⟨w.heap.size, 0, none⟩ = some (.slice A0 n0 c0) ∧ w'.cell? ⟨w.heap.size, 1, none⟩ = some (.slice A1 n1 c1)) (first | (exact ⟨d0, d1⟩) | (exact ⟨x0, x1⟩) | (exact ⟨y0, y1⟩) | (exact ⟨z0, z1⟩) | go_keep)
      (first
        | (go_at_call 102; refine (i_joinedHeldB 103 heldB 83 (fun _ _ => rfl) (fun i a w' cs ha hBw hR => i_HdBytes hR (HPP.out.2.1 a (alMem ha))) (fun a ha => Nat.le_of_eq (heldB_len (HPP.out.2.1 a ha))) (by omega) (tHeld.row.reach hr0 (bel_trans hB1 (belx))) (by omega)).mono ?_; rintro e w2 ⟨v2, rfl, hO2, hb2⟩; rw [HBH.out] at hO2; have hs2 : Below w1.heap.size w1 w2 := bel_trans (belx) hb2; have X3 := (Box.drew X2).below hb2 X2.size; have x0 := X3.cell 0; have x1 := X3.cell 1; obtain ⟨A2, m2, e2, rfl, hm2⟩ := hO2.shapeN; have HM2 := Lib.hid hm2; clear hm2)
        | (go_at_call 104; refine (i_joinedIB 53 four 4 (fun _ _ => rfl) (fun i a w' ha hBw => i_four5 a (by have := HPP.out.2.2.1 a (alMem ha); unfold Ok at this; omega)) (fun a _ => Nat.le_of_eq (four_len a)) (by omega) (reach hI1 (bel_trans hB1 (bel_trans hs2 (belx)))) (by omega)).mono ?_; rintro e w3 ⟨v3, rfl, hO3, hb3⟩; rw [HBT.out] at hO3; have hs3 : Below w1.heap.size w1 w3 := bel_trans hs2 hb3; have X4 := X3.below hb3 X3.size; have y0 := X4.cell 0; have y1 := X4.cell 1; obtain ⟨A3, m3, e3, rfl, hm3⟩ := hO3.shapeN; have HM3 := Lib.hid hm3; clear hm3)
        | (go_at_call 52; refine (ic_concat3 (Box.new w3 32 #[.slice (some ⟨w1.heap.size, 0, none⟩) 2 2, .slice A2 m2 e2, .slice A3 m3 e3]) (reach (reach (reach (Ints.drew hHd) hb2) hb3) (belx)) (reach (reach hO2.intsAt.1 hb3) (belx)) (reach hO3.intsAt.1 (belx)) (by omega) (by have := HM2.out; have := LBH.out; omega) (by have := HM3.out; have := LBT.out; omega)).mono ?_; rintro e w4 ⟨v4, rfl, hO4, hb4⟩; rw [HF.out] at hO4; have hs4 : Below w1.heap.size w1 w4 := bel_trans hs3 (bel_trans (belx) hb4); have X5 := (X4.alloc (.cells #[.slice (some ⟨w1.heap.size, 0, none⟩) 2 2, .slice A2 m2 e2, .slice A3 m3 e3] 32)).below hb4 (X4.alloc _).size; have z0 := X5.cell 0; have z1 := X5.cell 1; obtain ⟨A, c, F, rfl, hO5, hN5⟩ := own_slice hO4))
    go_wp2
    go_ret2
    exact ⟨A, c, F, rfl, hO5, hN5.lower (by have := hB1.size; have := hs3.size; simp; omega), bel_trans hB1 hs4⟩
  · have HP := Lib.hid (decide_eq_false hp)
    rw [HP.out]
    obtain ⟨A0, n0, c0, A1, n1, c1, rfl, -, -, -, hr0, -, -, -, hr1⟩ := openPool h
    rw [fPlB_f hp]
    clear hp
    go_enter Tryz.func51, Tryz.ntmps51
    go_wp2_with fail
    refine (i_PoolOk (tPool.reach h ?hB) hz).mono ?_
    case hB => exact (belx)
    rintro e w1 ⟨rfl, hb1⟩
    rw [HP.out]
    go_wp2
    go_ret2
    exact ⟨none, 0, [], rfl, nilO, New.nil _, bel_trans (belx) hb1⟩
end Go.Proofs.YtelbckpplckofaaGreat
