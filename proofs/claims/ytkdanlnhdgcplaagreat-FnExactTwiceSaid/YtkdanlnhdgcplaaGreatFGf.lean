/-
  TpP, HrP, PL3, EvGlance, EvMail, EvSent, EvLetter, SortI, EvPiece, EvWhole, PDeskI: texts joined.
-/
import Derived.Test.YtkdanlnhdgcplaaGreatFGa
import Derived.Test.YtkdanlnhdgcplaaGreatFGb
import Derived.Test.YtkdanlnhdgcplaaGreatFGd
import Derived.Test.YtkdanlnhdgcplaaGreatFGe
import Derived.Test.YtkdanlnhdgcplaaGreatFMLgP
import Derived.Test.YtkdanlnhdgcplaaGreatShelf
import Derived.BigQuiet
import Derived.Deep.QuietTactic
import Derived.Deep.RegionHeld3
import Derived.Sort.OwnSortedInts
namespace Go.Proofs.YtkdanlnhdgcplaaGreat
set_option linter.unusedVariables false
open Go.RowKit
def insB {α : Type} (f : α → Int) (q : α) (l : List α) : List α := (l.filter fun p => decide (f p < f q)) ++ q :: l.filter fun p => decide (f q < f p)
section
variable {α : Type} {f : α → Int} {q a : α} {l : List α} {j : Nat}
end
/-! ### a piece taken -/
def pAt (p : DPiece) : Int := p.2.1
def tkBase (d : DDesk) (q : DPiece) (due : Int) : DWhole := (d.1.find? fun a => decide (a.1 = q.1)).getD (q.1, q.2.2.1, due, [])
def TkOld (d : DDesk) (q : DPiece) : Prop := q.1 ∈ d.2 ∨ ∃ a ∈ d.1, a.1 = q.1 ∧ (a.2.1 ≠ q.2.2.1 ∨ ∃ p ∈ a.2.2.2, p.2.1 = q.2.1)
def tkNew (d : DDesk) (q : DPiece) (due : Int) : DWhole := ((tkBase d q due).1, (tkBase d q due).2.1, (tkBase d q due).2.2.1, insB pAt q (tkBase d q due).2.2.2)
noncomputable instance (d : DDesk) (q : DPiece) : Decidable (TkOld d q) := Classical.propDecidable _
def TkDone (d : DDesk) (q : DPiece) (due : Int) : Prop := ((tkNew d q due).2.2.2.length : Int) = (tkNew d q due).2.1
noncomputable instance (d : DDesk) (q : DPiece) (due : Int) : Decidable (TkDone d q due) := Classical.propDecidable _
def TkFull (d : DDesk) (q : DPiece) : Prop := (∀ a ∈ d.1, a.1 ≠ q.1) ∧ 6 ≤ d.1.length
noncomputable instance (d : DDesk) (q : DPiece) : Decidable (TkFull d q) := Classical.propDecidable _
def TkIn (d : DDesk) (q : DPiece) (due : Int) : Prop := DkOk d ∧ PcOk q ∧ (0 ≤ due ∧ due ≤ 65535)
noncomputable instance (d : DDesk) (q : DPiece) (due : Int) : Decidable (TkIn d q due) := Classical.propDecidable _
section
variable {d : DDesk} {q : DPiece} {due : Int} {a : DWhole}
end
theorem pc_le8 {p : DPiece} (h : PcOk p) : 1 ≤ p.2.2.1 ∧ p.2.2.1 ≤ 8 ∧ p.2.2.2.length ≤ 20 ∧ 0 ≤ p.1 ∧ p.1 ≤ 255 ∧ 0 ≤ p.2.1 ∧ p.2.1 < 8 := by
 unfold PcOk PcN at h; omega
section
variable {d : DDesk} {q : DPiece} {due : Int} {a : DWhole}
end
theorem dkOk_sz {d : DDesk} (h : DkOk d) : szDesk d ≤ 4096 ∧ rsz szWhole d.1 ≤ 2000 := by
 have key : ∀ l : List DWhole, (∀ w ∈ l, WhN w) → rsz szWhole l ≤ 200 * l.length := by
  intro l
  induction l with
  | nil => intro _; simp [rsz, rsum]
  | cons a l ih =>
   intro hl
   have h1 := ih fun x hx => hl x (List.mem_cons_of_mem _ hx)
   have h2 := hl a List.mem_cons_self
   have h3 : ∀ g : List DPiece, (∀ p ∈ g, PcOk p) → rsz szPiece g ≤ 21 * g.length := by
    intro g
    induction g with
    | nil => intro _; simp [rsz, rsum]
    | cons p g ih =>
     intro hg
     have := ih fun x hx => hg x (List.mem_cons_of_mem _ hx)
     have h4 : szPiece p ≤ 20 := (pc_le8 (hg p List.mem_cons_self)).2.2.1
     unfold rsz at this ⊢
     rw [rsum, List.length_cons]; omega
   have h4 := h3 a.2.2.2 fun p hp => (h2.2.2.1 p hp).1
   have h5 : a.2.2.2.length ≤ 8 := by
    have h6 := h2.2.1
    have h7 := h2.2.2.1 _ (List.getElem_mem (l := a.2.2.2) (n := 0) (by omega))
    have := (pc_le8 h7.1).2.1
    omega
   have h6 : szWhole a ≤ 168 := by unfold szWhole; omega
   unfold rsz at h1 ⊢
   rw [rsum, List.length_cons]; omega
 have h1 := key d.1 fun w hw => (h.2.2.2.2 w hw).1
 have h2 := h.1
 have h3 := asc_len h.2.2.1 h.2.1
 unfold szDesk
 omega
end Go.Proofs.YtkdanlnhdgcplaaGreat
namespace Go.Proofs.YtkdanlnhdgcplaaGreat
set_option linter.unusedVariables false
open Go.RowKit
open Fld
def HrOk (n : DNode) (now : Int) (c pad : List Int) : Prop := NdOk n ∧ (0 ≤ now ∧ now ≤ 60000) ∧ c.length = 80 ∧ 80 ≤ pad.length
noncomputable instance (n : DNode) (now : Int) (c pad : List Int) : Decidable (HrOk n now c pad) := Classical.propDecidable _
theorem ndOk_sz {n : DNode} (h : NdOk n) : szPool n.2.2.1 ≤ 1100 ∧ szDesk n.2.2.2.1 ≤ 4096 ∧ n.2.2.2.2.length ≤ 256 ∧ rsz szLetter n.2.2.2.2 ≤ 161 * n.2.2.2.2.length := by
 obtain ⟨-, -, hp, hd, hg, hg2⟩ := h
 refine ⟨?_, (dkOk_sz hd).1, ?_, ?_⟩
 ·have key : ∀ l : List DHeld, (∀ x ∈ l, HdOk x) → rsz szHeld l ≤ 81 * l.length := by
   intro l
   induction l with
   | nil => intro _; simp [rsz, rsum]
   | cons a l ih =>
    intro hl
    have h1 := ih fun x hx => hl x (List.mem_cons_of_mem _ hx)
    have h2 : a.2.2.length = 80 := (hl a List.mem_cons_self).2.2.2.2
    have h3 : szHeld a = 80 := h2
    unfold rsz at h1 ⊢
    rw [rsum, List.length_cons, h3]
    omega
  have h1 := key n.2.2.1.1 hp.2.1
  have h2 := hp.1
  show rsz szHeld n.2.2.1.1 + n.2.2.1.2.length ≤ 1100
  omega
 ·have h1 := hg2.length_eq
  rw [List.length_map] at h1
  have hn : (n.2.2.2.1.2.map Int.toNat).Nodup := List.pairwise_map.2 ((asc_pw hd.2.2.1).imp_of_mem fun {a b} ha hb h' e => by
   have := hd.2.1 a ha; have := hd.2.1 b hb; omega)
  have h4 := hn.length_le_of_subset (l₂ := List.range 256) (fun x hx => by
   obtain ⟨y, hy, rfl⟩ := List.mem_map.1 hx
   have := hd.2.1 y hy
   exact List.mem_range.2 (by omega))
  rw [List.length_map, List.length_range] at h4
  omega
 ·have key : ∀ l : List DLetter, (∀ x ∈ l, x.2.length ≤ 160) → rsz szLetter l ≤ 161 * l.length := by
   intro l
   induction l with
   | nil => intro _; simp [rsz, rsum]
   | cons a l ih =>
    intro hl
    have h1 := ih fun x hx => hl x (List.mem_cons_of_mem _ hx)
    have h2 := hl a List.mem_cons_self
    have h3 : szLetter a ≤ 160 := h2
    unfold rsz at h1 ⊢
    rw [rsum, List.length_cons]
    omega
  exact key _ hg
end Go.Proofs.YtkdanlnhdgcplaaGreat
namespace Go.Proofs.YtkdanlnhdgcplaaGreat
set_option maxRecDepth 100000
set_option linter.unusedVariables false
set_option linter.unusedSimpArgs false
open Go.ChangeShapes Go.WideShapes Go.ChangeAt Go.RowKit
open Fld
def secT (seed : Int) (j : Nat) : List Int := (List.range j).map fun i : Nat => nsec seed i
theorem secT_sn (seed : Int) (j : Nat) : secT seed (j + 1) = secT seed j ++ [nsec seed j] := by simp [secT, List.range_succ]
theorem secT_len (seed : Int) (j : Nat) : (secT seed j).length = j := by simp [secT]
def pubT (seed : Int) (j : Nat) : List Int := (List.range j).map fun i : Nat => powP 7 (nsec seed i).toNat
theorem pubT_sn (seed : Int) (j : Nat) : pubT seed (j + 1) = pubT seed j ++ [powP 7 (nsec seed j).toNat] := by simp [pubT, List.range_succ]
theorem pubT_len (seed : Int) (j : Nat) : (pubT seed j).length = j := by simp [pubT]
def pubL (seed : Int) : List Int := pubT seed 8
theorem apart_app {v v1 u : Value} {H H' : Nat} (hap : v.ownBlock = none ∨ v.ownBlock ≠ u.ownBlock) (hat : v1.ownBlock = v.ownBlock ∨ v1.ownBlock = some H') (hu : ∀ b, u.ownBlock = some b → b < H) (hH : H ≤ H') : v1.ownBlock = none ∨ v1.ownBlock ≠ u.ownBlock := by
 rcases hat with h | h
 ·rw [h]; exact hap
 ·right; rw [h]; intro e
  have := hu _ e.symm; omega
theorem apart_sy {a b : Option Nat} (h : a = none ∨ a ≠ b) : b = none ∨ b ≠ a := by
 rcases h with rfl | h
 ·cases b <;> simp
 ·exact .inr (Ne.symm h)
set_option maxHeartbeats 2000000 in
theorem s_l3nodes {w : World} {seed : Int} (h0 : 0 ≤ seed) (h1 : seed ≤ 1000) :
  Calls Tryz.prog 49 #[.int .i64 seed] w fun e w' => ∃ A c A' c', e = .returned (.tuple #[.slice A 8 c, .slice A' 8 c']) ∧ Ints .i64 w' w'.heap.size A 8 (secL seed) ∧ Ints .i64 w' w'.heap.size A' 8 (pubL seed) ∧ Bel w w' := by
 obtain ⟨i0, hi0, hz0, hz1, hz2⟩ := info_parts info_ci
 go_enter Tryz.func49, Tryz.ntmps49
 go_wp2_with fail
 go_loopw [4, 5, 6] (fun v u i wr => ∃ j : Nat, j ≤ 8 ∧ i = .int .i64 j ∧ Own .i64 3 wr w.heap.size v (secT seed j) ∧ Own .i64 3 wr w.heap.size u (pubT seed j) ∧ (v.ownBlock = none ∨ v.ownBlock ≠ u.ownBlock) ∧ Bel w wr) (fun _ _ i _ => 8 - (RowKit.intOf i).toNat)
 case atStart => exact ⟨0, by omega, rfl, Own.nil _ _ _ _, Own.nil _ _ _ _, .inl rfl, (belx)⟩
 case round =>
  obtain ⟨j, hj, rfl, hV, hU, hap, hB⟩ := hrel
  by_cases hlt : j < 8
  ·have he : nsec seed j = 1 + (seed * 1009 + (j : Int) * 7919 + 12345) % 1000000000 := by unfold nsec; omega
   have HS := Lib.hid (secT_sn seed j)
   have HP := Lib.hid (pubT_sn seed j)
   have hl1 := secT_len seed j
   have hl2 := pubT_len seed j
   have y1 : 1 ≤ 1 + (seed * 1009 + (j : Int) * 7919 + 12345) % 1000000000 := by omega
   have y2 : 1 + (seed * 1009 + (j : Int) * 7919 + 12345) % 1000000000 ≤ 1000000000 := by omega
   have rgp := powP_rg 7 (1 + (seed * 1009 + (j : Int) * 7919 + 12345) % 1000000000).toNat
   obtain ⟨pw, hpw⟩ : ∃ pw, powP 7 (1 + (seed * 1009 + (j : Int) * 7919 + 12345) % 1000000000).toNat = pw := ⟨_, rfl⟩
   have HPW := Lib.hid hpw
   rw [hpw] at rgp
   have p1 := rgp.1
   have p2 := rgp.2
   rw [he] at HS HP
   rw [hpw] at HP
   obtain ⟨T1, hT1⟩ : ∃ T, secT seed j = T := ⟨_, rfl⟩
   obtain ⟨T2, hT2⟩ : ∃ T, pubT seed j = T := ⟨_, rfl⟩
   rw [hT1] at HS hV hl1
   rw [hT2] at HP hU hl2
   have zw := hB.size
   have HTK := Lib.hid trivial
   clear he rgp hT1 hT2 hpw
   go_wp2_with (first
    | (at_builtin; have _t := HTK; refine wpList_app _ rfl (.tmp 20) (.tmp 22) _ rfl w.heap.size 3 i0 _ 1 8 Tryz.underlying82 hi0 hz0 hz1 hz2 rfl (by omega) _ _ _ rfl (hV.1.alloc _) _ 1 1 [.int .i64 (1 + (seed * 1009 + (j : Int) * 7919 + 12345) % 1000000000)] rfl (Src.one _ _ _) (one_int _ _) (by simp only [maxLen]; omega) (by omega) (by simp; omega) ?_; intro v1 w1 hown hgr hat; clear HTK; have hV1 := own_sn hV hown HS.out (WalkArith.wf_i64 ⟨by omega, by omega⟩); have hU1 : Own .i64 3 w1 w.heap.size _ T2 := (hU.alloc _).kept hgr (apart_sy hap); have hB1 := below_sn hB hV (Nat.le_refl _) hgr; have hap1 := apart_app (H := wr.heap.size) hap hat (fun b hb => (hU.block hb).2) (by simp); have zw1 := hB1.size)
    | (go_at_call 91; refine (s_pow 7 (1 + (seed * 1009 + (j : Int) * 7919 + 12345) % 1000000000) _ (by omega) (by omega) (by omega) (by omega)).mono ?_; rintro e w' ⟨rfl, rfl⟩; rw [HPW.out])
    | (at_builtin; refine wpList_app _ rfl (.tmp 24) (.tmp 27) _ rfl w.heap.size 3 i0 _ 1 8 Tryz.underlying82 hi0 hz0 hz1 hz2 rfl (by omega) _ _ _ rfl (hU1.1.alloc _) _ 1 1 [.int .i64 pw] rfl (Src.one _ _ _) (one_int _ _) (by simp only [maxLen]; omega) (by omega) (by simp; omega) ?_; intro v2 w2 hown2 hgr2 hat2; have hU3 := own_sn hU1 hown2 HP.out (WalkArith.wf_i64 ⟨by omega, by omega⟩); have hV3 : Own .i64 3 w2 w.heap.size v1 (secT seed (j + 1)) := (hV1.alloc _).kept hgr2 hap1; have hB3 := below_sn hB1 hU1 (Nat.le_refl _) hgr2; have hap3 := apart_sy (apart_app (H := w1.heap.size) (apart_sy hap1) hat2 (fun b hb => (hV1.block hb).2) (by simp))))
   go_roundw
   case rel => exact ⟨j + 1, by omega, by go_num, hV3, hU3, hap3, hB3⟩
   case measure => simp [RowKit.intOf]; omega
  ·obtain rfl : j = 8 := by omega
   obtain ⟨A, c, rfl, -, hI1, -⟩ := hV.ints
   obtain ⟨A', c', rfl, -, hI2, -⟩ := hU.ints
   have e1 := secT_len seed 8
   have e2 := pubT_len seed 8
   rw [e1] at hI1
   rw [e2] at hI2
   rw [e1, e2]
   clear hV hU hap e1 e2
   go_wp2
   go_ret2
   exact ⟨A, c, A', c', rfl, hI1, hI2, hB⟩
theorem rowR_head {α : Type} {t : Ty α} {w : World} {B n c : Nat} {A : Option Addr} {l : List α} (h : t.rowR w B [.slice A n c] l) {i : Nat} (hi : i ≤ n) : t.rowR w B [.slice A i c] (l.take i) := by
 obtain ⟨A', n', c', h1, h2, h3, h4, h5⟩ := h
 injection h1 with h1 _
 injection h1 with e1 e2 e3
 subst e1 e2 e3
 refine ⟨A, i, c, rfl, by omega, h3, by rw [List.length_take]; omega, fun h0 => ?_⟩
 obtain ⟨b, off, e, hb, hc⟩ := h5 (by omega)
 refine ⟨b, off, e, hb, fun j a hj => hc j a ?_⟩
 rw [List.getElem?_take] at hj
 split at hj
 ·exact hj
 ·cases hj
set_option maxHeartbeats 1000000 in
theorem s_l7sent {w : World} {B n c : Nat} {A : Option Addr} {l : List DSent} (x : Int) (h : tSent.row.R w B [.slice A n c] l) (hn : n ≤ 1048576) :
  Calls Tryz.prog 52 #[.slice A n c, .int .i64 x] w fun e w' => e = .returned (.int .i64 (sAt l x)) ∧ w = w' := by
 have HL := Lib.hid (rowR_len h).1
 go_enter Tryz.func52, Tryz.ntmps52
 go_wp2_with fail
 go_loop [5] (fun i => ∃ j : Nat, j ≤ n ∧ i = .int .i64 j ∧ ∀ s ∈ l.take j, s.1 ≠ x) (fun i => n - (RowKit.intOf i).toNat)
 case atStart => exact ⟨0, by omega, rfl, al0⟩
 case round =>
  obtain ⟨j, hj, rfl, hN⟩ := hrel
  have HN := Lib.hid hN
  clear hN
  by_cases hlt : j < n
  ·obtain ⟨a, b', off, es, hl2, rfl, hb, hes, hR⟩ := rowR_at (K := 3) h hlt rfl
   have HA := Lib.hid hl2
   obtain ⟨A2, n2, c2, rfl, -, -, -, -, -, -⟩ := openSent hR
   have u0 : w.cell? ⟨b', off + j * 3, none⟩ = some (.int .i64 a.1) := hes 0 (by omega)
   have i1 : (j : Int) < (n : Int) := by omega
   clear hes hR hl2
   by_cases he : a.1 = x
   ·have q : (a.1 == x) = true := by simp [he]
    have HR := Lib.hid (sAt_hit HN.out HA.out he)
    clear he
    go_wp2
    go_ret
    exact ⟨by first | (rw [HR.out]; done) | (rw [HR.out]; rfl), rfl⟩
   ·have q : (a.1 == x) = false := by simp [he]
    have HNE := Lib.hid he
    clear he
    go_wp2
    go_round
    case rel => exact ⟨j + 1, by omega, by go_num, alS HN.out HA.out HNE.out⟩
    case measure => simp [RowKit.intOf]; omega
  ·obtain rfl : n = j := by omega
   have HR := Lib.hid (sAt_miss (alE HN.out (Nat.le_of_eq HL.out)))
   go_wp2
   go_ret
   exact ⟨by first | (rw [HR.out]; done) | (rw [HR.out]; rfl), rfl⟩
end Go.Proofs.YtkdanlnhdgcplaaGreat
namespace Go.Proofs.YtkdanlnhdgcplaaGreat
set_option maxRecDepth 100000
set_option linter.unusedVariables false
set_option linter.unusedSimpArgs false
open Go.ChangeShapes Go.WideShapes Go.ChangeAt Go.RowKit
set_option maxHeartbeats 400000 in
theorem i_evryGlanceB {w : World} {n c : Nat} {A : Option Addr} {l : List DGlance} (F : Nat) (V : Value) (p : DGlance → Bool) (hE : ∀ (cs : Array Value) (w : World), Sem.run Tryz.prog (callFunc F #[V, Value.agg cs]) w = .ok (.enter F #[V, Value.agg cs]) w)
  (hF : ∀ (i : Nat) (a : DGlance) (w' : World) (cs : List Value), l[i]? = some a → Bel w w' → tGlance.R w' w'.heap.size cs a → Calls Tryz.prog F #[V, .agg cs.toArray] w' fun e w2 => e = .returned (.bool (p a)) ∧ Bel w' w2)
  (hl : tGlance.row.R w w.heap.size [.slice A n c] l) (hn : n ≤ 17592186043904) :
  Calls Tryz.prog 61 #[.slice A n c, .func (.func F) #[V] #[]] w fun e w' => e = .returned (.bool (l.all p)) ∧ Bel w w' := by
 obtain ⟨e0, _, _⟩ := rowR_len hl
 have HL := Lib.hid e0
 have HF := Lib.hid hF
 have HE := Lib.hid hE
 clear e0 hF hE
 go_enter Tryz.func61, Tryz.ntmps61
 go_wp2_with fail
 go_loopw [9] (fun i wr => ∃ j : Nat, j ≤ n ∧ i = .int .i64 j ∧ Bel w wr ∧ ∀ h ∈ l.take j, p h = true) (fun i _ => n - (RowKit.intOf i).toNat)
 case atStart => exact ⟨0, by omega, rfl, (belx), al0⟩
 case round =>
  obtain ⟨j, hj, rfl, hB, hG⟩ := hrel
  have HG := Lib.hid hG
  clear hG
  by_cases hlt : j < n
  ·obtain ⟨a, b', off, es, hl2, rfl, hb, hes, hR⟩ := rowR_at (K := 2) hl hlt rfl
   have HA := Lib.hid hl2
   clear hl2
   have hRk := hR
   obtain ⟨rfl, -, -⟩ := openGlance hR
   have e0 : wr.cell? ⟨b', off + j * 2, none⟩ = some (.int .i64 a.1) := cell_at hB hb (hes 0 (by omega))
   have e1 : wr.cell? ⟨b', off + j * 2 + 1, none⟩ = some (.int .i64 a.2) := cell_at hB hb (hes 1 (by omega))
   clear hes
   go_wp2_with fail
   rw [HE.out, Oper.upon_enter]
   refine (HF.out j a _ _ HA.out ?hB (tGlance.reach hRk ?hB2)).mono ?_
   case hB => exact bel_trans (a := w) hB (belx)
   case hB2 => exact bel_trans (a := w) hB (belx)
   rintro e w1 ⟨rfl, hb1⟩
   have hB1 : Bel w w1 := bel_trans (bel_trans (a := w) hB (belx)) hb1
   obtain ⟨d, hd⟩ : ∃ d, p a = d := ⟨_, rfl⟩
   rw [hd]
   have HD := Lib.hid hd
   clear hd
   cases d
   ·have HR := Lib.hid (alF HA.out HD.out)
    go_wp2
    go_ret
    exact ⟨ret_bool HR.out.symm, hB1⟩
   ·go_wp2
    go_roundw
    case rel => exact ⟨j + 1, by omega, by go_num, hB1, alS HG.out HA.out HD.out⟩
    case measure => simp [RowKit.intOf]; omega
  ·obtain rfl : n = j := by omega
   have HR := Lib.hid (alT HG.out (Nat.le_of_eq HL.out))
   go_wp2
   go_ret
   exact ⟨ret_bool HR.out.symm, hB⟩
end Go.Proofs.YtkdanlnhdgcplaaGreat
namespace Go.Proofs.YtkdanlnhdgcplaaGreat
set_option maxRecDepth 100000
set_option linter.unusedVariables false
set_option linter.unusedSimpArgs false
open Go.ChangeShapes Go.WideShapes Go.ChangeAt Go.RowKit
set_option maxHeartbeats 400000 in
theorem i_evryMail {w : World} {n c : Nat} {A : Option Addr} {l : List DMail} (F : Nat) (p : DMail → Bool) (hE : ∀ (cs : Array Value) (w : World), Sem.run Tryz.prog (callFunc F #[Value.agg cs]) w = .ok (.enter F #[Value.agg cs]) w)
  (hF : ∀ (i : Nat) (a : DMail) (w' : World) (cs : List Value), l[i]? = some a → Bel w w' → tMail.R w' w'.heap.size cs a → Calls Tryz.prog F #[.agg cs.toArray] w' fun e w2 => e = .returned (.bool (p a)) ∧ Bel w' w2)
  (hl : tMail.row.R w w.heap.size [.slice A n c] l) (hn : n ≤ 17592186043904) :
  Calls Tryz.prog 60 #[.slice A n c, .func (.func F) #[] #[]] w fun e w' => e = .returned (.bool (l.all p)) ∧ Bel w w' := by
 obtain ⟨e0, _, _⟩ := rowR_len hl
 have HL := Lib.hid e0
 have HF := Lib.hid hF
 have HE := Lib.hid hE
 clear e0 hF hE
 go_enter Tryz.func60, Tryz.ntmps60
 go_wp2_with fail
 go_loopw [9] (fun i wr => ∃ j : Nat, j ≤ n ∧ i = .int .i64 j ∧ Bel w wr ∧ ∀ h ∈ l.take j, p h = true) (fun i _ => n - (RowKit.intOf i).toNat)
 case atStart => exact ⟨0, by omega, rfl, (belx), al0⟩
 case round =>
  obtain ⟨j, hj, rfl, hB, hG⟩ := hrel
  have HG := Lib.hid hG
  clear hG
  by_cases hlt : j < n
  ·obtain ⟨a, b', off, es, hl2, rfl, hb, hes, hR⟩ := rowR_at (K := 2) hl hlt rfl
   have HA := Lib.hid hl2
   clear hl2
   have hRk := hR
   obtain ⟨A2, n2, c2, rfl, -, -, -, -, -⟩ := openMail hR
   have e0 : wr.cell? ⟨b', off + j * 2, none⟩ = some (.int .i64 a.1) := cell_at hB hb (hes 0 (by omega))
   have e1 : wr.cell? ⟨b', off + j * 2 + 1, none⟩ = some (.slice A2 n2 c2) := cell_at hB hb (hes 1 (by omega))
   clear hes
   go_wp2_with fail
   rw [HE.out, Oper.upon_enter]
   refine (HF.out j a _ _ HA.out ?hB (tMail.reach hRk ?hB2)).mono ?_
   case hB => exact bel_trans (a := w) hB (belx)
   case hB2 => exact bel_trans (a := w) hB (belx)
   rintro e w1 ⟨rfl, hb1⟩
   have hB1 : Bel w w1 := bel_trans (bel_trans (a := w) hB (belx)) hb1
   obtain ⟨d, hd⟩ : ∃ d, p a = d := ⟨_, rfl⟩
   rw [hd]
   have HD := Lib.hid hd
   clear hd
   cases d
   ·have HR := Lib.hid (alF HA.out HD.out)
    go_wp2
    go_ret
    exact ⟨ret_bool HR.out.symm, hB1⟩
   ·go_wp2
    go_roundw
    case rel => exact ⟨j + 1, by omega, by go_num, hB1, alS HG.out HA.out HD.out⟩
    case measure => simp [RowKit.intOf]; omega
  ·obtain rfl : n = j := by omega
   have HR := Lib.hid (alT HG.out (Nat.le_of_eq HL.out))
   go_wp2
   go_ret
   exact ⟨ret_bool HR.out.symm, hB⟩
end Go.Proofs.YtkdanlnhdgcplaaGreat
namespace Go.Proofs.YtkdanlnhdgcplaaGreat
set_option maxRecDepth 100000
set_option linter.unusedVariables false
set_option linter.unusedSimpArgs false
open Go.ChangeShapes Go.WideShapes Go.ChangeAt Go.RowKit
set_option maxHeartbeats 400000 in
theorem i_evrySent {w : World} {n c : Nat} {A : Option Addr} {l : List DSent} (F : Nat) (p : DSent → Bool) (hE : ∀ (cs : Array Value) (w : World), Sem.run Tryz.prog (callFunc F #[Value.agg cs]) w = .ok (.enter F #[Value.agg cs]) w)
  (hF : ∀ (i : Nat) (a : DSent) (w' : World) (cs : List Value), l[i]? = some a → Bel w w' → tSent.R w' w'.heap.size cs a → Calls Tryz.prog F #[.agg cs.toArray] w' fun e w2 => e = .returned (.bool (p a)) ∧ Bel w' w2)
  (hl : tSent.row.R w w.heap.size [.slice A n c] l) (hn : n ≤ 17592186043904) :
  Calls Tryz.prog 63 #[.slice A n c, .func (.func F) #[] #[]] w fun e w' => e = .returned (.bool (l.all p)) ∧ Bel w w' := by
 obtain ⟨e0, _, _⟩ := rowR_len hl
 have HL := Lib.hid e0
 have HF := Lib.hid hF
 have HE := Lib.hid hE
 clear e0 hF hE
 go_enter Tryz.func63, Tryz.ntmps63
 go_wp2_with fail
 go_loopw [9] (fun i wr => ∃ j : Nat, j ≤ n ∧ i = .int .i64 j ∧ Bel w wr ∧ ∀ h ∈ l.take j, p h = true) (fun i _ => n - (RowKit.intOf i).toNat)
 case atStart => exact ⟨0, by omega, rfl, (belx), al0⟩
 case round =>
  obtain ⟨j, hj, rfl, hB, hG⟩ := hrel
  have HG := Lib.hid hG
  clear hG
  by_cases hlt : j < n
  ·obtain ⟨a, b', off, es, hl2, rfl, hb, hes, hR⟩ := rowR_at (K := 3) hl hlt rfl
   have HA := Lib.hid hl2
   clear hl2
   have hRk := hR
   obtain ⟨A2, n2, c2, rfl, -, -, -, -, -, -⟩ := openSent hR
   have e0 : wr.cell? ⟨b', off + j * 3, none⟩ = some (.int .i64 a.1) := cell_at hB hb (hes 0 (by omega))
   have e1 : wr.cell? ⟨b', off + j * 3 + 1, none⟩ = some (.int .i64 a.2.1) := cell_at hB hb (hes 1 (by omega))
   have e2 : wr.cell? ⟨b', off + j * 3 + 2, none⟩ = some (.slice A2 n2 c2) := cell_at hB hb (hes 2 (by omega))
   clear hes
   go_wp2_with fail
   rw [HE.out, Oper.upon_enter]
   refine (HF.out j a _ _ HA.out ?hB (tSent.reach hRk ?hB2)).mono ?_
   case hB => exact bel_trans (a := w) hB (belx)
   case hB2 => exact bel_trans (a := w) hB (belx)
   rintro e w1 ⟨rfl, hb1⟩
   have hB1 : Bel w w1 := bel_trans (bel_trans (a := w) hB (belx)) hb1
   obtain ⟨d, hd⟩ : ∃ d, p a = d := ⟨_, rfl⟩
   rw [hd]
   have HD := Lib.hid hd
   clear hd
   cases d
   ·have HR := Lib.hid (alF HA.out HD.out)
    go_wp2
    go_ret
    exact ⟨ret_bool HR.out.symm, hB1⟩
   ·go_wp2
    go_roundw
    case rel => exact ⟨j + 1, by omega, by go_num, hB1, alS HG.out HA.out HD.out⟩
    case measure => simp [RowKit.intOf]; omega
  ·obtain rfl : n = j := by omega
   have HR := Lib.hid (alT HG.out (Nat.le_of_eq HL.out))
   go_wp2
   go_ret
   exact ⟨ret_bool HR.out.symm, hB⟩
set_option maxHeartbeats 1000000 in
theorem i_eachSentI {w : World} {n c : Nat} {A : Option Addr} {l : List DSent} (F : Nat) (f : DSent → Int) (hE : ∀ (cs : Array Value) (w : World), Sem.run Tryz.prog (callFunc F #[Value.agg cs]) w = .ok (.enter F #[Value.agg cs]) w)
  (hF : ∀ (i : Nat) (a : DSent) (w' : World) (cs : List Value), l[i]? = some a → Bel w w' → tSent.R w' w'.heap.size cs a → Calls Tryz.prog F #[.agg cs.toArray] w' fun e w2 => e = .returned (.int .i64 (f a)) ∧ Bel w' w2)
  (hW : ∀ a ∈ l, (Lit.int .i64 (f a)).wf = true) (hl : tSent.row.R w w.heap.size [.slice A n c] l) (hn : n ≤ 1048576) :
  Calls Tryz.prog 105 #[.slice A n c, .func (.func F) #[] #[]] w fun e w' => ∃ v, e = .returned v ∧ Own .i64 3 w' w.heap.size v (l.map f) ∧ Bel w w' := by
 obtain ⟨i0, hi0, hz0, hz1, hz2⟩ := info_parts info_ci
 obtain ⟨e0, _, _⟩ := rowR_len hl
 have HL := Lib.hid e0
 have HF := Lib.hid hF
 have HE := Lib.hid hE
 have HW := Lib.hid hW
 clear e0 hF hE hW
 go_enter Tryz.func105, Tryz.ntmps105
 go_wp2_with fail
 go_loopw [5, 10] (fun v i wr => ∃ j : Nat, j ≤ n ∧ i = .int .i64 j ∧ Own .i64 3 wr w.heap.size v ((l.take j).map f) ∧ Bel w wr) (fun _ i _ => n - (RowKit.intOf i).toNat)
 case atStart => exact ⟨0, by omega, rfl, Own.nil _ _ _ _, (belx)⟩
 case round =>
  obtain ⟨j, hj, rfl, hO, hB⟩ := hrel
  by_cases hlt : j < n
  ·obtain ⟨a, b', off, es, hl2, rfl, hb, hes, hR⟩ := rowR_at (K := 3) hl hlt rfl
   have HA := Lib.hid hl2
   have HS := Lib.hid (mapS (f := f) hl2)
   have HLN := Lib.hid (mapLen (f := f) (l := l) (j := j) (by rw [HL.out]; exact hj))
   have HI := Lib.hid (HW.out a (alMem hl2))
   clear hl2
   have hRk := hR
   obtain ⟨A2, n2, c2, rfl, -, -, -, -, -, -⟩ := openSent hR
   have e0 : wr.cell? ⟨b', off + j * 3, none⟩ = some (.int .i64 a.1) := cell_at hB hb (hes 0 (by omega))
   have e1 : wr.cell? ⟨b', off + j * 3 + 1, none⟩ = some (.int .i64 a.2.1) := cell_at hB hb (hes 1 (by omega))
   have e2 : wr.cell? ⟨b', off + j * 3 + 2, none⟩ = some (.slice A2 n2 c2) := cell_at hB hb (hes 2 (by omega))
   clear hes hR
   go_wp2_with fail
   rw [HE.out, Oper.upon_enter]
   refine (HF.out j a _ _ HA.out ?hB (tSent.reach hRk ?hB2)).mono ?_
   case hB => exact bel_trans (a := w) hB (belx)
   case hB2 => exact bel_trans (a := w) hB (belx)
   rintro e w1 ⟨rfl, hb1⟩
   obtain ⟨y, hy⟩ : ∃ y, f a = y := ⟨_, rfl⟩
   rw [hy] at HS HI
   rw [hy]
   clear hy
   have hs1 : Bel wr w1 := bel_trans (belx) hb1
   have hO2 := hO.below hs1
   have zz := hs1.size
   have zw := hB.size
   have hlen2 := HLN.out
   go_wp2_with (at_builtin; refine wpList_app _ rfl (.tmp 14) (.tmp 18) _ rfl w.heap.size 3 i0 _ 1 8 Tryz.underlying82 hi0 hz0 hz1 hz2 rfl (by omega) _ _ _ rfl (hO2.1.alloc _) _ 1 1 [.int .i64 y] rfl (Src.one _ _ _) (one_int _ _) (by simp only [maxLen]; omega) (by omega) (by simp; omega) ?_; intro v1 w3 hown hgr hat)
   go_roundw
   case rel => exact ⟨j + 1, by omega, by go_num, own_sn hO2 hown HS.out HI.out, below_sn (hB.trans (hs1.mono hB.size)) hO2 (Nat.le_refl _) hgr⟩
   case measure => simp [RowKit.intOf]; omega
  ·obtain rfl : n = j := by omega
   have HA := Lib.hid (show l.take n = l from List.take_of_length_le (Nat.le_of_eq HL.out))
   rw [HA.out] at hO
   go_wp2
   go_ret
   exact ⟨_, rfl, hO, hB⟩
end Go.Proofs.YtkdanlnhdgcplaaGreat
namespace Go.Proofs.YtkdanlnhdgcplaaGreat
set_option maxRecDepth 100000
set_option linter.unusedVariables false
set_option linter.unusedSimpArgs false
open Go.ChangeShapes Go.WideShapes Go.ChangeAt Go.RowKit
set_option maxHeartbeats 400000 in
theorem i_evryLetter {w : World} {n c : Nat} {A : Option Addr} {l : List DLetter} (F : Nat) (p : DLetter → Bool) (hE : ∀ (cs : Array Value) (w : World), Sem.run Tryz.prog (callFunc F #[Value.agg cs]) w = .ok (.enter F #[Value.agg cs]) w)
  (hF : ∀ (i : Nat) (a : DLetter) (w' : World) (cs : List Value), l[i]? = some a → Bel w w' → tLetter.R w' w'.heap.size cs a → Calls Tryz.prog F #[.agg cs.toArray] w' fun e w2 => e = .returned (.bool (p a)) ∧ Bel w' w2)
  (hl : tLetter.row.R w w.heap.size [.slice A n c] l) (hn : n ≤ 17592186043904) :
  Calls Tryz.prog 141 #[.slice A n c, .func (.func F) #[] #[]] w fun e w' => e = .returned (.bool (l.all p)) ∧ Bel w w' := by
 obtain ⟨e0, _, _⟩ := rowR_len hl
 have HL := Lib.hid e0
 have HF := Lib.hid hF
 have HE := Lib.hid hE
 clear e0 hF hE
 go_enter Tryz.func141, Tryz.ntmps141
 go_wp2_with fail
 go_loopw [9] (fun i wr => ∃ j : Nat, j ≤ n ∧ i = .int .i64 j ∧ Bel w wr ∧ ∀ h ∈ l.take j, p h = true) (fun i _ => n - (RowKit.intOf i).toNat)
 case atStart => exact ⟨0, by omega, rfl, (belx), al0⟩
 case round =>
  obtain ⟨j, hj, rfl, hB, hG⟩ := hrel
  have HG := Lib.hid hG
  clear hG
  by_cases hlt : j < n
  ·obtain ⟨a, b', off, es, hl2, rfl, hb, hes, hR⟩ := rowR_at (K := 2) hl hlt rfl
   have HA := Lib.hid hl2
   clear hl2
   have hRk := hR
   obtain ⟨A2, n2, c2, rfl, -, -, -, -, -⟩ := openLetter hR
   have e0 : wr.cell? ⟨b', off + j * 2, none⟩ = some (.int .i64 a.1) := cell_at hB hb (hes 0 (by omega))
   have e1 : wr.cell? ⟨b', off + j * 2 + 1, none⟩ = some (.slice A2 n2 c2) := cell_at hB hb (hes 1 (by omega))
   clear hes
   go_wp2_with fail
   rw [HE.out, Oper.upon_enter]
   refine (HF.out j a _ _ HA.out ?hB (tLetter.reach hRk ?hB2)).mono ?_
   case hB => exact bel_trans (a := w) hB (belx)
   case hB2 => exact bel_trans (a := w) hB (belx)
   rintro e w1 ⟨rfl, hb1⟩
   have hB1 : Bel w w1 := bel_trans (bel_trans (a := w) hB (belx)) hb1
   obtain ⟨d, hd⟩ : ∃ d, p a = d := ⟨_, rfl⟩
   rw [hd]
   have HD := Lib.hid hd
   clear hd
   cases d
   ·have HR := Lib.hid (alF HA.out HD.out)
    go_wp2
    go_ret
    exact ⟨ret_bool HR.out.symm, hB1⟩
   ·go_wp2
    go_roundw
    case rel => exact ⟨j + 1, by omega, by go_num, hB1, alS HG.out HA.out HD.out⟩
    case measure => simp [RowKit.intOf]; omega
  ·obtain rfl : n = j := by omega
   have HR := Lib.hid (alT HG.out (Nat.le_of_eq HL.out))
   go_wp2
   go_ret
   exact ⟨ret_bool HR.out.symm, hB⟩
set_option maxHeartbeats 1000000 in
theorem i_eachLetterI {w : World} {n c : Nat} {A : Option Addr} {l : List DLetter} (F : Nat) (f : DLetter → Int) (hE : ∀ (cs : Array Value) (w : World), Sem.run Tryz.prog (callFunc F #[Value.agg cs]) w = .ok (.enter F #[Value.agg cs]) w)
  (hF : ∀ (i : Nat) (a : DLetter) (w' : World) (cs : List Value), l[i]? = some a → Bel w w' → tLetter.R w' w'.heap.size cs a → Calls Tryz.prog F #[.agg cs.toArray] w' fun e w2 => e = .returned (.int .i64 (f a)) ∧ Bel w' w2)
  (hW : ∀ a ∈ l, (Lit.int .i64 (f a)).wf = true) (hl : tLetter.row.R w w.heap.size [.slice A n c] l) (hn : n ≤ 1048576) :
  Calls Tryz.prog 175 #[.slice A n c, .func (.func F) #[] #[]] w fun e w' => ∃ v, e = .returned v ∧ Own .i64 3 w' w.heap.size v (l.map f) ∧ Bel w w' := by
 obtain ⟨i0, hi0, hz0, hz1, hz2⟩ := info_parts info_ci
 obtain ⟨e0, _, _⟩ := rowR_len hl
 have HL := Lib.hid e0
 have HF := Lib.hid hF
 have HE := Lib.hid hE
 have HW := Lib.hid hW
 clear e0 hF hE hW
 go_enter Tryz.func175, Tryz.ntmps175
 go_wp2_with fail
 go_loopw [5, 10] (fun v i wr => ∃ j : Nat, j ≤ n ∧ i = .int .i64 j ∧ Own .i64 3 wr w.heap.size v ((l.take j).map f) ∧ Bel w wr) (fun _ i _ => n - (RowKit.intOf i).toNat)
 case atStart => exact ⟨0, by omega, rfl, Own.nil _ _ _ _, (belx)⟩
 case round =>
  obtain ⟨j, hj, rfl, hO, hB⟩ := hrel
  by_cases hlt : j < n
  ·obtain ⟨a, b', off, es, hl2, rfl, hb, hes, hR⟩ := rowR_at (K := 2) hl hlt rfl
   have HA := Lib.hid hl2
   have HS := Lib.hid (mapS (f := f) hl2)
   have HLN := Lib.hid (mapLen (f := f) (l := l) (j := j) (by rw [HL.out]; exact hj))
   have HI := Lib.hid (HW.out a (alMem hl2))
   clear hl2
   have hRk := hR
   obtain ⟨A2, n2, c2, rfl, -, -, -, -, -⟩ := openLetter hR
   have e0 : wr.cell? ⟨b', off + j * 2, none⟩ = some (.int .i64 a.1) := cell_at hB hb (hes 0 (by omega))
   have e1 : wr.cell? ⟨b', off + j * 2 + 1, none⟩ = some (.slice A2 n2 c2) := cell_at hB hb (hes 1 (by omega))
   clear hes hR
   go_wp2_with fail
   rw [HE.out, Oper.upon_enter]
   refine (HF.out j a _ _ HA.out ?hB (tLetter.reach hRk ?hB2)).mono ?_
   case hB => exact bel_trans (a := w) hB (belx)
   case hB2 => exact bel_trans (a := w) hB (belx)
   rintro e w1 ⟨rfl, hb1⟩
   obtain ⟨y, hy⟩ : ∃ y, f a = y := ⟨_, rfl⟩
   rw [hy] at HS HI
   rw [hy]
   clear hy
   have hs1 : Bel wr w1 := bel_trans (belx) hb1
   have hO2 := hO.below hs1
   have zz := hs1.size
   have zw := hB.size
   have hlen2 := HLN.out
   go_wp2_with (at_builtin; refine wpList_app _ rfl (.tmp 14) (.tmp 18) _ rfl w.heap.size 3 i0 _ 1 8 Tryz.underlying82 hi0 hz0 hz1 hz2 rfl (by omega) _ _ _ rfl (hO2.1.alloc _) _ 1 1 [.int .i64 y] rfl (Src.one _ _ _) (one_int _ _) (by simp only [maxLen]; omega) (by omega) (by simp; omega) ?_; intro v1 w3 hown hgr hat)
   go_roundw
   case rel => exact ⟨j + 1, by omega, by go_num, own_sn hO2 hown HS.out HI.out, below_sn (hB.trans (hs1.mono hB.size)) hO2 (Nat.le_refl _) hgr⟩
   case measure => simp [RowKit.intOf]; omega
  ·obtain rfl : n = j := by omega
   have HA := Lib.hid (show l.take n = l from List.take_of_length_le (Nat.le_of_eq HL.out))
   rw [HA.out] at hO
   go_wp2
   go_ret
   exact ⟨_, rfl, hO, hB⟩
end Go.Proofs.YtkdanlnhdgcplaaGreat
namespace Go.Proofs.YtkdanlnhdgcplaaGreat
set_option maxRecDepth 100000
set_option linter.unusedVariables false
set_option linter.unusedSimpArgs false
open Go.ChangeShapes Go.WideShapes Go.ChangeAt Go.RowKit Go.Sort
theorem Own.base {K : IntKind} {e : TypeId} {w : World} {b b' : Nat} {v : Value} {l : List Int} (h : Own K e w b v l) (hb : b' ≤ b) : Own K e w b' v l := by
 refine ⟨⟨h.1.1, ?_⟩, h.2⟩
 rcases h.1.2 with h' | ⟨g, cap, cur, h1, h2, h3⟩
 ·exact .inl h'
 ·exact .inr ⟨g, cap, cur, h1, Nat.le_trans hb h2, h3⟩
def srt (l : List Int) : List Int := l.mergeSort (fun x y => decide (x ≤ y))
theorem srt_len (l : List Int) : (srt l).length = l.length := List.length_mergeSort _
theorem srt_mem {l : List Int} {x : Int} : x ∈ srt l ↔ x ∈ l := List.mem_mergeSort
theorem srt_nil : srt [] = [] := by simp [srt]
theorem i_SortI {w : World} {base : Nat} {v : Value} {l : List Int} (h : Own .i64 3 w base v l) (hb : base ≤ w.heap.size) (hn : l.length ≤ 1048576) :
  Calls Tryz.prog 203 #[v] w fun e w' => e = .returned (.tuple #[]) ∧ Own .i64 3 w' base v (srt l) ∧ w.grownBy w' v.ownBlock := by
 rcases h.1.2 with ⟨rfl, h0⟩ | ⟨g, cap, cur, rfl, hbg, hg, hnc, hm, hs, ht⟩
 ·have : l = [] := List.eq_nil_of_length_eq_zero h0
  subst this
  refine (Tryz.slices_Sort_int_none none 0 w).mono ?_
  rintro e w' ⟨rfl, rfl⟩
  exact ⟨rfl, by rw [srt_nil]; exact Own.nil _ _ _ _, World.grownBy.refl _ _⟩
 ·by_cases hz : l.length = 0
  ·have : l = [] := List.eq_nil_of_length_eq_zero hz
   subst this
   refine (Tryz.slices_Sort_int_none _ cap w).mono ?_
   rintro e w' ⟨rfl, rfl⟩
   exact ⟨rfl, by rw [srt_nil]; exact h, World.grownBy.refl _ _⟩
  ·have hgl : g < w.heap.size := (Array.getElem?_eq_some_iff.1 hg).1
   simp only [maxLen] at hm
   refine (Tryz.slices_Sort_int g 0 cap l w (holds_of_blockI hg (by simpa using ht)) hgl (by omega)).mono ?_
   rintro e w' ⟨rfl, n, os, rfl⟩
   have hl : (l.mergeSort fun x y => decide (x ≤ y)).length = l.length := List.length_mergeSort _
   refine ⟨rfl, ⟨?_, fun x hx => h.2 x (srt_mem.1 hx)⟩, grownBy_sortedI _⟩
   have := ownsRow_sortedI (n := n) (os := os) hl hbg hg (by omega) (by simp only [maxLen]; omega) hs
   rw [srt_len]
   exact this
end Go.Proofs.YtkdanlnhdgcplaaGreat
namespace Go.Proofs.YtkdanlnhdgcplaaGreat
set_option maxRecDepth 100000
set_option linter.unusedVariables false
set_option linter.unusedSimpArgs false
open Go.ChangeShapes Go.WideShapes Go.ChangeAt Go.RowKit
set_option maxHeartbeats 400000 in
theorem i_evryPieceV {w : World} {n c : Nat} {A : Option Addr} {l : List DPiece} (F : Nat) (V : Value) (p : DPiece → Bool) (hE : ∀ (cs : Array Value) (w : World), Sem.run Tryz.prog (callFunc F #[Value.agg cs, V]) w = .ok (.enter F #[Value.agg cs, V]) w)
  (hF : ∀ (i : Nat) (a : DPiece) (w' : World) (cs : List Value), l[i]? = some a → Bel w w' → tPiece.R w' w'.heap.size cs a → Calls Tryz.prog F #[.agg cs.toArray, V] w' fun e w2 => e = .returned (.bool (p a)) ∧ Bel w' w2)
  (hl : tPiece.row.R w w.heap.size [.slice A n c] l) (hn : n ≤ 17592186043904) :
  Calls Tryz.prog 196 #[.slice A n c, .func (.func F) #[] #[V]] w fun e w' => e = .returned (.bool (l.all p)) ∧ Bel w w' := by
 obtain ⟨e0, _, _⟩ := rowR_len hl
 have HL := Lib.hid e0
 have HF := Lib.hid hF
 have HE := Lib.hid hE
 clear e0 hF hE
 go_enter Tryz.func196, Tryz.ntmps196
 go_wp2_with fail
 go_loopw [9] (fun i wr => ∃ j : Nat, j ≤ n ∧ i = .int .i64 j ∧ Bel w wr ∧ ∀ h ∈ l.take j, p h = true) (fun i _ => n - (RowKit.intOf i).toNat)
 case atStart => exact ⟨0, by omega, rfl, (belx), al0⟩
 case round =>
  obtain ⟨j, hj, rfl, hB, hG⟩ := hrel
  have HG := Lib.hid hG
  clear hG
  by_cases hlt : j < n
  ·obtain ⟨a, b', off, es, hl2, rfl, hb, hes, hR⟩ := rowR_at (K := 4) hl hlt rfl
   have HA := Lib.hid hl2
   clear hl2
   have hRk := hR
   obtain ⟨A2, n2, c2, rfl, -, -, -, -, -, -, -⟩ := openPiece hR
   have e0 : wr.cell? ⟨b', off + j * 4, none⟩ = some (.int .i64 a.1) := cell_at hB hb (hes 0 (by omega))
   have e1 : wr.cell? ⟨b', off + j * 4 + 1, none⟩ = some (.int .i64 a.2.1) := cell_at hB hb (hes 1 (by omega))
   have e2 : wr.cell? ⟨b', off + j * 4 + 2, none⟩ = some (.int .i64 a.2.2.1) := cell_at hB hb (hes 2 (by omega))
   have e3 : wr.cell? ⟨b', off + j * 4 + 3, none⟩ = some (.slice A2 n2 c2) := cell_at hB hb (hes 3 (by omega))
   clear hes
   go_wp2_with fail
   rw [HE.out, Oper.upon_enter]
   refine (HF.out j a _ _ HA.out ?hB (tPiece.reach hRk ?hB2)).mono ?_
   case hB => exact bel_trans (a := w) hB (belx)
   case hB2 => exact bel_trans (a := w) hB (belx)
   rintro e w1 ⟨rfl, hb1⟩
   have hB1 : Bel w w1 := bel_trans (bel_trans (a := w) hB (belx)) hb1
   obtain ⟨d, hd⟩ : ∃ d, p a = d := ⟨_, rfl⟩
   rw [hd]
   have HD := Lib.hid hd
   clear hd
   cases d
   ·have HR := Lib.hid (alF HA.out HD.out)
    go_wp2
    go_ret
    exact ⟨ret_bool HR.out.symm, hB1⟩
   ·go_wp2
    go_roundw
    case rel => exact ⟨j + 1, by omega, by go_num, hB1, alS HG.out HA.out HD.out⟩
    case measure => simp [RowKit.intOf]; omega
  ·obtain rfl : n = j := by omega
   have HR := Lib.hid (alT HG.out (Nat.le_of_eq HL.out))
   go_wp2
   go_ret
   exact ⟨ret_bool HR.out.symm, hB⟩
set_option maxHeartbeats 1000000 in
theorem i_eachPieceI {w : World} {n c : Nat} {A : Option Addr} {l : List DPiece} (F : Nat) (f : DPiece → Int) (hE : ∀ (cs : Array Value) (w : World), Sem.run Tryz.prog (callFunc F #[Value.agg cs]) w = .ok (.enter F #[Value.agg cs]) w)
  (hF : ∀ (i : Nat) (a : DPiece) (w' : World) (cs : List Value), l[i]? = some a → Bel w w' → tPiece.R w' w'.heap.size cs a → Calls Tryz.prog F #[.agg cs.toArray] w' fun e w2 => e = .returned (.int .i64 (f a)) ∧ Bel w' w2)
  (hW : ∀ a ∈ l, (Lit.int .i64 (f a)).wf = true) (hl : tPiece.row.R w w.heap.size [.slice A n c] l) (hn : n ≤ 1048576) :
  Calls Tryz.prog 199 #[.slice A n c, .func (.func F) #[] #[]] w fun e w' => ∃ v, e = .returned v ∧ Own .i64 3 w' w.heap.size v (l.map f) ∧ Bel w w' := by
 obtain ⟨i0, hi0, hz0, hz1, hz2⟩ := info_parts info_ci
 obtain ⟨e0, _, _⟩ := rowR_len hl
 have HL := Lib.hid e0
 have HF := Lib.hid hF
 have HE := Lib.hid hE
 have HW := Lib.hid hW
 clear e0 hF hE hW
 go_enter Tryz.func199, Tryz.ntmps199
 go_wp2_with fail
 go_loopw [5, 10] (fun v i wr => ∃ j : Nat, j ≤ n ∧ i = .int .i64 j ∧ Own .i64 3 wr w.heap.size v ((l.take j).map f) ∧ Bel w wr) (fun _ i _ => n - (RowKit.intOf i).toNat)
 case atStart => exact ⟨0, by omega, rfl, Own.nil _ _ _ _, (belx)⟩
 case round =>
  obtain ⟨j, hj, rfl, hO, hB⟩ := hrel
  by_cases hlt : j < n
  ·obtain ⟨a, b', off, es, hl2, rfl, hb, hes, hR⟩ := rowR_at (K := 4) hl hlt rfl
   have HA := Lib.hid hl2
   have HS := Lib.hid (mapS (f := f) hl2)
   have HLN := Lib.hid (mapLen (f := f) (l := l) (j := j) (by rw [HL.out]; exact hj))
   have HI := Lib.hid (HW.out a (alMem hl2))
   clear hl2
   have hRk := hR
   obtain ⟨A2, n2, c2, rfl, -, -, -, -, -, -, -⟩ := openPiece hR
   have e0 : wr.cell? ⟨b', off + j * 4, none⟩ = some (.int .i64 a.1) := cell_at hB hb (hes 0 (by omega))
   have e1 : wr.cell? ⟨b', off + j * 4 + 1, none⟩ = some (.int .i64 a.2.1) := cell_at hB hb (hes 1 (by omega))
   have e2 : wr.cell? ⟨b', off + j * 4 + 2, none⟩ = some (.int .i64 a.2.2.1) := cell_at hB hb (hes 2 (by omega))
   have e3 : wr.cell? ⟨b', off + j * 4 + 3, none⟩ = some (.slice A2 n2 c2) := cell_at hB hb (hes 3 (by omega))
   clear hes hR
   go_wp2_with fail
   rw [HE.out, Oper.upon_enter]
   refine (HF.out j a _ _ HA.out ?hB (tPiece.reach hRk ?hB2)).mono ?_
   case hB => exact bel_trans (a := w) hB (belx)
   case hB2 => exact bel_trans (a := w) hB (belx)
   rintro e w1 ⟨rfl, hb1⟩
   obtain ⟨y, hy⟩ : ∃ y, f a = y := ⟨_, rfl⟩
   rw [hy] at HS HI
   rw [hy]
   clear hy
   have hs1 : Bel wr w1 := bel_trans (belx) hb1
   have hO2 := hO.below hs1
   have zz := hs1.size
   have zw := hB.size
   have hlen2 := HLN.out
   go_wp2_with (at_builtin; refine wpList_app _ rfl (.tmp 14) (.tmp 18) _ rfl w.heap.size 3 i0 _ 1 8 Tryz.underlying82 hi0 hz0 hz1 hz2 rfl (by omega) _ _ _ rfl (hO2.1.alloc _) _ 1 1 [.int .i64 y] rfl (Src.one _ _ _) (one_int _ _) (by simp only [maxLen]; omega) (by omega) (by simp; omega) ?_; intro v1 w3 hown hgr hat)
   go_roundw
   case rel => exact ⟨j + 1, by omega, by go_num, own_sn hO2 hown HS.out HI.out, below_sn (hB.trans (hs1.mono hB.size)) hO2 (Nat.le_refl _) hgr⟩
   case measure => simp [RowKit.intOf]; omega
  ·obtain rfl : n = j := by omega
   have HA := Lib.hid (show l.take n = l from List.take_of_length_le (Nat.le_of_eq HL.out))
   rw [HA.out] at hO
   go_wp2
   go_ret
   exact ⟨_, rfl, hO, hB⟩
end Go.Proofs.YtkdanlnhdgcplaaGreat
namespace Go.Proofs.YtkdanlnhdgcplaaGreat
set_option maxRecDepth 100000
set_option linter.unusedVariables false
set_option linter.unusedSimpArgs false
open Go.ChangeShapes Go.WideShapes Go.ChangeAt Go.RowKit
set_option maxHeartbeats 400000 in
theorem i_evryWholeV {w : World} {n c : Nat} {A : Option Addr} {l : List DWhole} (F : Nat) (V : Value) (p : DWhole → Bool) (hE : ∀ (cs : Array Value) (w : World), Sem.run Tryz.prog (callFunc F #[Value.agg cs, V]) w = .ok (.enter F #[Value.agg cs, V]) w)
  (hF : ∀ (i : Nat) (a : DWhole) (w' : World) (cs : List Value), l[i]? = some a → Bel w w' → tWhole.R w' w'.heap.size cs a → Calls Tryz.prog F #[.agg cs.toArray, V] w' fun e w2 => e = .returned (.bool (p a)) ∧ Bel w' w2)
  (hl : tWhole.row.R w w.heap.size [.slice A n c] l) (hn : n ≤ 17592186043904) :
  Calls Tryz.prog 169 #[.slice A n c, .func (.func F) #[] #[V]] w fun e w' => e = .returned (.bool (l.all p)) ∧ Bel w w' := by
 obtain ⟨e0, _, _⟩ := rowR_len hl
 have HL := Lib.hid e0
 have HF := Lib.hid hF
 have HE := Lib.hid hE
 clear e0 hF hE
 go_enter Tryz.func169, Tryz.ntmps169
 go_wp2_with fail
 go_loopw [9] (fun i wr => ∃ j : Nat, j ≤ n ∧ i = .int .i64 j ∧ Bel w wr ∧ ∀ h ∈ l.take j, p h = true) (fun i _ => n - (RowKit.intOf i).toNat)
 case atStart => exact ⟨0, by omega, rfl, (belx), al0⟩
 case round =>
  obtain ⟨j, hj, rfl, hB, hG⟩ := hrel
  have HG := Lib.hid hG
  clear hG
  by_cases hlt : j < n
  ·obtain ⟨a, b', off, es, hl2, rfl, hb, hes, hR⟩ := rowR_at (K := 4) hl hlt rfl
   have HA := Lib.hid hl2
   clear hl2
   have hRk := hR
   obtain ⟨A2, n2, c2, rfl, -, -, -, -, -, -, -⟩ := openWhole hR
   have e0 : wr.cell? ⟨b', off + j * 4, none⟩ = some (.int .i64 a.1) := cell_at hB hb (hes 0 (by omega))
   have e1 : wr.cell? ⟨b', off + j * 4 + 1, none⟩ = some (.int .i64 a.2.1) := cell_at hB hb (hes 1 (by omega))
   have e2 : wr.cell? ⟨b', off + j * 4 + 2, none⟩ = some (.int .i64 a.2.2.1) := cell_at hB hb (hes 2 (by omega))
   have e3 : wr.cell? ⟨b', off + j * 4 + 3, none⟩ = some (.slice A2 n2 c2) := cell_at hB hb (hes 3 (by omega))
   clear hes
   go_wp2_with fail
   rw [HE.out, Oper.upon_enter]
   refine (HF.out j a _ _ HA.out ?hB (tWhole.reach hRk ?hB2)).mono ?_
   case hB => exact bel_trans (a := w) hB (belx)
   case hB2 => exact bel_trans (a := w) hB (belx)
   rintro e w1 ⟨rfl, hb1⟩
   have hB1 : Bel w w1 := bel_trans (bel_trans (a := w) hB (belx)) hb1
   obtain ⟨d, hd⟩ : ∃ d, p a = d := ⟨_, rfl⟩
   rw [hd]
   have HD := Lib.hid hd
   clear hd
   cases d
   ·have HR := Lib.hid (alF HA.out HD.out)
    go_wp2
    go_ret
    exact ⟨ret_bool HR.out.symm, hB1⟩
   ·go_wp2
    go_roundw
    case rel => exact ⟨j + 1, by omega, by go_num, hB1, alS HG.out HA.out HD.out⟩
    case measure => simp [RowKit.intOf]; omega
  ·obtain rfl : n = j := by omega
   have HR := Lib.hid (alT HG.out (Nat.le_of_eq HL.out))
   go_wp2
   go_ret
   exact ⟨ret_bool HR.out.symm, hB⟩
set_option maxHeartbeats 1000000 in
theorem i_eachWholeI {w : World} {n c : Nat} {A : Option Addr} {l : List DWhole} (F : Nat) (f : DWhole → Int) (hE : ∀ (cs : Array Value) (w : World), Sem.run Tryz.prog (callFunc F #[Value.agg cs]) w = .ok (.enter F #[Value.agg cs]) w)
  (hF : ∀ (i : Nat) (a : DWhole) (w' : World) (cs : List Value), l[i]? = some a → Bel w w' → tWhole.R w' w'.heap.size cs a → Calls Tryz.prog F #[.agg cs.toArray] w' fun e w2 => e = .returned (.int .i64 (f a)) ∧ Bel w' w2)
  (hW : ∀ a ∈ l, (Lit.int .i64 (f a)).wf = true) (hl : tWhole.row.R w w.heap.size [.slice A n c] l) (hn : n ≤ 1048576) :
  Calls Tryz.prog 167 #[.slice A n c, .func (.func F) #[] #[]] w fun e w' => ∃ v, e = .returned v ∧ Own .i64 3 w' w.heap.size v (l.map f) ∧ Bel w w' := by
 obtain ⟨i0, hi0, hz0, hz1, hz2⟩ := info_parts info_ci
 obtain ⟨e0, _, _⟩ := rowR_len hl
 have HL := Lib.hid e0
 have HF := Lib.hid hF
 have HE := Lib.hid hE
 have HW := Lib.hid hW
 clear e0 hF hE hW
 go_enter Tryz.func167, Tryz.ntmps167
 go_wp2_with fail
 go_loopw [5, 10] (fun v i wr => ∃ j : Nat, j ≤ n ∧ i = .int .i64 j ∧ Own .i64 3 wr w.heap.size v ((l.take j).map f) ∧ Bel w wr) (fun _ i _ => n - (RowKit.intOf i).toNat)
 case atStart => exact ⟨0, by omega, rfl, Own.nil _ _ _ _, (belx)⟩
 case round =>
  obtain ⟨j, hj, rfl, hO, hB⟩ := hrel
  by_cases hlt : j < n
  ·obtain ⟨a, b', off, es, hl2, rfl, hb, hes, hR⟩ := rowR_at (K := 4) hl hlt rfl
   have HA := Lib.hid hl2
   have HS := Lib.hid (mapS (f := f) hl2)
   have HLN := Lib.hid (mapLen (f := f) (l := l) (j := j) (by rw [HL.out]; exact hj))
   have HI := Lib.hid (HW.out a (alMem hl2))
   clear hl2
   have hRk := hR
   obtain ⟨A2, n2, c2, rfl, -, -, -, -, -, -, -⟩ := openWhole hR
   have e0 : wr.cell? ⟨b', off + j * 4, none⟩ = some (.int .i64 a.1) := cell_at hB hb (hes 0 (by omega))
   have e1 : wr.cell? ⟨b', off + j * 4 + 1, none⟩ = some (.int .i64 a.2.1) := cell_at hB hb (hes 1 (by omega))
   have e2 : wr.cell? ⟨b', off + j * 4 + 2, none⟩ = some (.int .i64 a.2.2.1) := cell_at hB hb (hes 2 (by omega))
   have e3 : wr.cell? ⟨b', off + j * 4 + 3, none⟩ = some (.slice A2 n2 c2) := cell_at hB hb (hes 3 (by omega))
   clear hes hR
   go_wp2_with fail
   rw [HE.out, Oper.upon_enter]
   refine (HF.out j a _ _ HA.out ?hB (tWhole.reach hRk ?hB2)).mono ?_
   case hB => exact bel_trans (a := w) hB (belx)
   case hB2 => exact bel_trans (a := w) hB (belx)
   rintro e w1 ⟨rfl, hb1⟩
   obtain ⟨y, hy⟩ : ∃ y, f a = y := ⟨_, rfl⟩
   rw [hy] at HS HI
   rw [hy]
   clear hy
   have hs1 : Bel wr w1 := bel_trans (belx) hb1
   have hO2 := hO.below hs1
   have zz := hs1.size
   have zw := hB.size
   have hlen2 := HLN.out
   go_wp2_with (at_builtin; refine wpList_app _ rfl (.tmp 14) (.tmp 18) _ rfl w.heap.size 3 i0 _ 1 8 Tryz.underlying82 hi0 hz0 hz1 hz2 rfl (by omega) _ _ _ rfl (hO2.1.alloc _) _ 1 1 [.int .i64 y] rfl (Src.one _ _ _) (one_int _ _) (by simp only [maxLen]; omega) (by omega) (by simp; omega) ?_; intro v1 w3 hown hgr hat)
   go_roundw
   case rel => exact ⟨j + 1, by omega, by go_num, own_sn hO2 hown HS.out HI.out, below_sn (hB.trans (hs1.mono hB.size)) hO2 (Nat.le_refl _) hgr⟩
   case measure => simp [RowKit.intOf]; omega
  ·obtain rfl : n = j := by omega
   have HA := Lib.hid (show l.take n = l from List.take_of_length_le (Nat.le_of_eq HL.out))
   rw [HA.out] at hO
   go_wp2
   go_ret
   exact ⟨_, rfl, hO, hB⟩
end Go.Proofs.YtkdanlnhdgcplaaGreat
namespace Go.Proofs.YtkdanlnhdgcplaaGreat
set_option maxRecDepth 100000
set_option linter.unusedVariables false
set_option linter.unusedSimpArgs false
open Go.ChangeShapes Go.WideShapes Go.ChangeAt Go.RowKit
theorem i_isAsc {w : World} {n c : Nat} {A : Option Addr} {l : List Int} (b : Bool) (T : Asc l → b = true) (F : ¬ Asc l → b = false) (hl : Ints .i64 w w.heap.size A n l) (hn : n ≤ 17592186043904) :
  Calls Tryz.prog 166 #[.slice A n c] w fun e w' => e = .returned (.bool b) ∧ Bel w w' := by
 have HL := Lib.hid hl.1
 have HT := Lib.hid T
 have HF := Lib.hid F
 clear T F
 go_enter Tryz.func166, Tryz.ntmps166
 go_wp2_with fail
 go_loopw [3] (fun i wr => ∃ q : Nat, (q < n ∨ q = 0) ∧ i = .int .i64 ((q : Int) + 1) ∧ Bel w wr ∧ ∀ x, x < q → l.getD x 0 < l.getD (x + 1) 0) (fun i _ => n - (RowKit.intOf i).toNat)
 case atStart => exact ⟨0, .inr rfl, rfl, (belx), fun x h => absurd h (by omega)⟩
 case round =>
  obtain ⟨q, hq, rfl, hB, hG⟩ := hrel
  have HG := Lib.hid hG
  clear hG
  by_cases hlt : q + 1 < n
  ·obtain ⟨bA, off, rfl, hb, hc⟩ := hl.2.1 (by omega)
   have u1 : wr.cell? ⟨bA, off + (q + 1), none⟩ = some (.int .i64 (l.getD (q + 1) 0)) := cell_at hB hb (hc (q + 1) hlt)
   have u0 : wr.cell? ⟨bA, off + q, none⟩ = some (.int .i64 (l.getD q 0)) := cell_at hB hb (hc q (by omega))
   obtain ⟨y, hy⟩ : ∃ y, l.getD (q + 1) 0 = y := ⟨_, rfl⟩
   obtain ⟨z, hz⟩ : ∃ z, l.getD q 0 = z := ⟨_, rfl⟩
   have HY := Lib.hid hy
   have HZ := Lib.hid hz
   rw [hy] at u1
   rw [hz] at u0
   clear hy hz hc
   have i1 : (q : Int) + 1 < (n : Int) := by omega
   have i2 : (0 : Int) ≤ (q : Int) := by omega
   have i3 : (q : Int) < (n : Int) := by omega
   have t1 : ((q : Int) + 1).toNat = q + 1 := by omega
   by_cases b2 : y ≤ z
   ·obtain rfl := HF.out (fun h => by have := h q (by rw [HL.out]; exact hlt); rw [HY.out, HZ.out] at this; omega)
    have d2 : decide (y ≤ z) = true := decide_eq_true b2
    clear HT HF
    go_wp2_with fail
    go_quiet (fail)
    go_wp2
    go_ret
    exact ⟨rfl, below_drewN hB _⟩
   ·have d2 : decide (y ≤ z) = false := decide_eq_false b2
    have HN := Lib.hid (show z < y by omega)
    go_wp2_with fail
    go_quiet (fail)
    go_wp2
    go_roundw
    case rel => exact ⟨q + 1, .inl hlt, by go_num, below_drewN hB _, fun x hx => by rcases Nat.lt_succ_iff_lt_or_eq.1 hx with h | rfl; exact HG.out x h; rw [HY.out, HZ.out]; exact HN.out⟩
    case measure => simp [RowKit.intOf]; omega
  ·obtain rfl := HT.out (fun i hi => HG.out i (by rw [HL.out] at hi; omega))
   have i1 : ¬ (q : Int) + 1 < (n : Int) := by omega
   clear HT HF
   go_wp2
   go_ret
   exact ⟨rfl, hB⟩
theorem i_isIdB (x : Int) (w : World) : Calls Tryz.prog 104 #[.int .i64 x] w fun e w' => e = .returned (.bool (decide (0 ≤ x ∧ x ≤ 255))) ∧ w = w' := by
 by_cases h : 0 ≤ x ∧ x ≤ 255
 ·rw [decide_eq_true h]; exact i_isId_t x w h.1 h.2
 ·rw [decide_eq_false h]; exact i_isId_f x w h
theorem i4_isDue_t (x : Int) (w : World) (h1 : 0 ≤ x) (h2 : x ≤ 65535) : Calls Tryz.prog 194 #[.int .i64 x] w fun e w' => e = .returned (.bool true) ∧ w = w' := by
 go_enter Tryz.func194, Tryz.ntmps194
 go_wp2
 go_ret
 exact ⟨ret_bool lez, rfl⟩
theorem i4_isDue_f (x : Int) (w : World) (h : ¬ (0 ≤ x ∧ x ≤ 65535)) : Calls Tryz.prog 194 #[.int .i64 x] w fun e w' => e = .returned (.bool false) ∧ w = w' := by
 by_cases h1 : x < 0
 ·clear h
  go_enter Tryz.func194, Tryz.ntmps194
  go_wp2
  go_ret
  exact ⟨rfl, rfl⟩
 ·have h2 : 65535 < x := by omega
  clear h
  go_enter Tryz.func194, Tryz.ntmps194
  go_wp2
  go_ret
  exact ⟨ret_bool lez, rfl⟩
theorem i_IndexI_t {w : World} {B n c : Nat} {A : Option Addr} {l : List Int} (x : Int) (hl : Ints .i64 w B A n l) (hn : n ≤ 17592186043904) (hx : x ∈ l) :
  Calls Tryz.prog 201 #[.slice A n c, .int .i64 x] w fun e w' => (∃ k : Nat, e = .returned (.int .i64 k) ∧ k < 17592186043904) ∧ w = w' := by
 have HL := Lib.hid hl.1
 go_enter Tryz.func201, Tryz.ntmps201
 go_wp2_with fail
 go_loop [8] (fun i => ∃ j : Nat, j ≤ n ∧ i = .int .i64 j ∧ ∀ y ∈ l.take j, y ≠ x) (fun i => n - (RowKit.intOf i).toNat)
 case atStart => exact ⟨0, by omega, rfl, al0⟩
 case round =>
  obtain ⟨j, hj, rfl, hG⟩ := hrel
  have HG := Lib.hid hG
  clear hG
  by_cases hlt : j < n
  ·obtain ⟨b, off, rfl, hb, hcell, hwf⟩ := hl.at_ hlt
   have HA := Lib.hid (atI HL.out hlt)
   obtain ⟨y, hy⟩ : ∃ y, l.getD j 0 = y := ⟨_, rfl⟩
   rw [hy] at hcell HA
   clear hy hwf
   by_cases he : x = y
   ·subst he
    go_wp2
    go_ret
    exact ⟨⟨j, rfl, by omega⟩, rfl⟩
   ·have q : (x == y) = false := by simpa using he
    have HN := Lib.hid (fun e : y = x => he e.symm)
    clear he
    go_wp2
    go_round
    case rel => exact ⟨j + 1, by omega, by go_num, alS HG.out HA.out HN.out⟩
    case measure => simp [RowKit.intOf]; omega
  ·exact absurd rfl (alE HG.out (by rw [HL.out]; omega) x hx)
theorem i_IndexI_f {w : World} {B n c : Nat} {A : Option Addr} {l : List Int} (x : Int) (hl : Ints .i64 w B A n l) (hn : n ≤ 17592186043904) (hx : x ∉ l) :
  Calls Tryz.prog 201 #[.slice A n c, .int .i64 x] w fun e w' => e = .returned (.int .i64 (-1)) ∧ w = w' := by
 have HL := Lib.hid hl.1
 have HX := Lib.hid hx
 clear hx
 go_enter Tryz.func201, Tryz.ntmps201
 go_wp2_with fail
 go_loop [8] (fun i => ∃ j : Nat, j ≤ n ∧ i = .int .i64 j) (fun i => n - (RowKit.intOf i).toNat)
 case atStart => exact ⟨0, by omega, rfl⟩
 case round =>
  obtain ⟨j, hj, rfl⟩ := hrel
  by_cases hlt : j < n
  ·obtain ⟨b, off, rfl, hb, hcell, hwf⟩ := hl.at_ hlt
   have HA := Lib.hid (atI HL.out hlt)
   obtain ⟨y, hy⟩ : ∃ y, l.getD j 0 = y := ⟨_, rfl⟩
   rw [hy] at hcell HA
   clear hy hwf
   have q : (x == y) = false := by simp; rintro rfl; exact HX.out (alMem HA.out)
   go_wp2
   go_round
   case rel => exact ⟨j + 1, by omega, by go_num⟩
   case measure => simp [RowKit.intOf]; omega
  ·obtain rfl : n = j := by omega
   go_wp2
   go_ret
   exact ⟨rfl, rfl⟩
theorem i_ContainsI {w : World} {B n c : Nat} {A : Option Addr} {l : List Int} (x : Int) (hl : Ints .i64 w B A n l) (hn : n ≤ 17592186043904) :
  Calls Tryz.prog 172 #[.slice A n c, .int .i64 x] w fun e w' => e = .returned (.bool (decide (x ∈ l))) ∧ w = w' := by
 by_cases hx : x ∈ l
 ·have HR := Lib.hid (show decide (x ∈ l) = true from decide_eq_true hx)
  go_enter Tryz.func172, Tryz.ntmps172
  go_wp2_with fail
  refine (i_IndexI_t x hl hn hx).mono ?_
  rintro e w' ⟨⟨k, rfl, hk⟩, rfl⟩
  clear hx
  go_wp2
  go_ret
  exact ⟨ret_bool (by first | (rw [HR.out]; done) | (rw [HR.out]; simp; done) | (rw [HR.out]; simp; omega)), rfl⟩
 ·have HR := Lib.hid (show decide (x ∈ l) = false from decide_eq_false hx)
  go_enter Tryz.func172, Tryz.ntmps172
  go_wp2_with fail
  refine (i_IndexI_f x hl hn hx).mono ?_
  rintro e w' ⟨rfl, rfl⟩
  clear hx
  go_wp2
  go_ret
  exact ⟨ret_bool HR.out.symm, rfl⟩
theorem i_PcAt {w : World} {cs : List Value} {p : DPiece} (h : tPiece.R w w.heap.size cs p) :
  Calls Tryz.prog 200 #[.agg cs.toArray] w fun e w' => e = .returned (.int .i64 p.2.1) ∧ Bel w w' := by
 obtain ⟨A3, n3, c3, rfl, hi0, hi1, hi2, ha3, hb3, hl3, hr3⟩ := openPiece h
 go_enter Tryz.func200, Tryz.ntmps200
 go_wp2
 go_ret
 exact ⟨rfl, (belx)⟩
theorem i_lacking (A3 : Option Addr) (n3 c3 : Nat) (x0 x1 x2 y : Int) (w : World) (hy : IntKind.i64.wrap (x1 - (n3 : Int)) = y) :
  Calls Tryz.prog 195 #[.agg #[.int .i64 x0, .int .i64 x1, .int .i64 x2, .slice A3 n3 c3]] w fun e w' => e = .returned (.int .i64 y) ∧ Bel w w' := by
 go_enter Tryz.func195, Tryz.ntmps195
 go_wp2
 go_ret
 exact ⟨rfl, (belx)⟩
def pcW (x0 x1 : Int) (p : DPiece) : Bool := decide (PcOk p ∧ p.1 = x0 ∧ p.2.2.1 = x1)
theorem i_isPart1 {w : World} {g : Nat} {cs : List Value} {p : DPiece} {x0 x1 : Int} (h : tPiece.R w w.heap.size cs p) (hz : szPiece p ≤ 1048576) (hg0 : w.cell? ⟨g, 0, none⟩ = some (.int .i64 x0)) (hg1 : w.cell? ⟨g, 1, none⟩ = some (.int .i64 x1)) :
  Calls Tryz.prog 197 #[.agg cs.toArray, .pointer (some ⟨g, 0, none⟩)] w fun e w' => e = .returned (.bool (pcW x0 x1 p)) ∧ Bel w w' := by
 obtain ⟨A3, n3, c3, rfl, -, -, -, -, -, -, -⟩ := openPiece h
 by_cases hp : PcOk p
 ·have HP := Lib.hid (decide_eq_true hp)
  have step : ∀ (b : Bool), pcW x0 x1 p = b → Calls Tryz.prog 197 #[.agg #[.int .i64 p.1, .int .i64 p.2.1, .int .i64 p.2.2.1, .slice A3 n3 c3], .pointer (some ⟨g, 0, none⟩)] w fun e w' => e = .returned (.bool b) ∧ Bel w w' := by
   intro b hb
   have HPW := Lib.hid hb
   clear hb
   by_cases h1 : p.1 = x0
   ·by_cases h2 : p.2.2.1 = x1
    ·obtain rfl : true = b := by rw [← HPW.out]; exact (decide_eq_true ⟨hp, h1, h2⟩).symm
     have d1 : (p.1 == x0) = true := by simpa using h1
     have d2 : (p.2.2.1 == x1) = true := by simpa using h2
     clear hp h1 h2
     go_enter Tryz.func197, Tryz.ntmps197
     go_wp2_with fail
     refine (i_PieceOk (tPiece.reach h ?hB) hz).mono ?_
     case hB => exact (belx)
     rintro e w1 ⟨rfl, hb1⟩
     rw [HP.out]
     have X1 := (Box.new w 185 #[.int .i64 p.1, .int .i64 p.2.1, .int .i64 p.2.2.1, .slice A3 n3 c3]).below hb1 (by simp)
     have x0' := X1.cell 0
     have x2' := X1.cell 2
     have hB1 : Bel w w1 := bel_trans (belx) hb1
     have g0 := cell_bel hB1 hg0
     have g1 := cell_bel hB1 hg1
     go_wp2
     go_ret
     exact ⟨ret_bool (by first | exact d2 | (simp [d1, d2]; done)), hB1⟩
    ·obtain rfl : false = b := by rw [← HPW.out]; exact (decide_eq_false fun h => h2 h.2.2).symm
     have d1 : (p.1 == x0) = true := by simpa using h1
     have d2 : (p.2.2.1 == x1) = false := by simpa using h2
     clear hp h1 h2
     go_enter Tryz.func197, Tryz.ntmps197
     go_wp2_with fail
     refine (i_PieceOk (tPiece.reach h ?hB) hz).mono ?_
     case hB => exact (belx)
     rintro e w1 ⟨rfl, hb1⟩
     rw [HP.out]
     have X1 := (Box.new w 185 #[.int .i64 p.1, .int .i64 p.2.1, .int .i64 p.2.2.1, .slice A3 n3 c3]).below hb1 (by simp)
     have x0' := X1.cell 0
     have x2' := X1.cell 2
     have hB1 : Bel w w1 := bel_trans (belx) hb1
     have g0 := cell_bel hB1 hg0
     have g1 := cell_bel hB1 hg1
     go_wp2
     go_ret
     exact ⟨ret_bool (by first | exact d2 | (simp [d1, d2]; done)), hB1⟩
   ·obtain rfl : false = b := by rw [← HPW.out]; exact (decide_eq_false fun h => h1 h.2.1).symm
    have d1 : (p.1 == x0) = false := by simpa using h1
    clear hp h1
    go_enter Tryz.func197, Tryz.ntmps197
    go_wp2_with fail
    refine (i_PieceOk (tPiece.reach h ?hB) hz).mono ?_
    case hB => exact (belx)
    rintro e w1 ⟨rfl, hb1⟩
    rw [HP.out]
    have X1 := (Box.new w 185 #[.int .i64 p.1, .int .i64 p.2.1, .int .i64 p.2.2.1, .slice A3 n3 c3]).below hb1 (by simp)
    have x0' := X1.cell 0
    have x2' := X1.cell 2
    have hB1 : Bel w w1 := bel_trans (belx) hb1
    have g0 := cell_bel hB1 hg0
    have g1 := cell_bel hB1 hg1
    go_wp2
    go_ret
    exact ⟨rfl, hB1⟩
  exact step _ rfl
 ·have HP := Lib.hid (decide_eq_false hp)
  have HR := Lib.hid (show pcW x0 x1 p = false from decide_eq_false fun h => hp h.1)
  rw [HR.out]
  clear hp
  go_enter Tryz.func197, Tryz.ntmps197
  go_wp2_with fail
  refine (i_PieceOk (tPiece.reach h ?hB) hz).mono ?_
  case hB => exact (belx)
  rintro e w1 ⟨rfl, hb1⟩
  rw [HP.out]
  go_wp2
  go_ret
  exact ⟨rfl, bel_trans (belx) hb1⟩
theorem pcs_sz {r : List DPiece} {i : Nat} {a : DPiece} (h : rsz szPiece r ≤ 1048576) (ha : r[i]? = some a) : szPiece a ≤ 1048576 := by
 have := rsz_step (s := szPiece) ha; omega
theorem pcs_wf {w : World} {B n c : Nat} {A : Option Addr} {r : List DPiece} (h : tPiece.row.R w B [.slice A n c] r) : ∀ a ∈ r, (Lit.int .i64 a.2.1).wf = true := by
 intro a ha
 obtain ⟨i, hi, rfl⟩ := List.getElem_of_mem ha
 obtain ⟨b, bb, off, es, hb, -, -, -, hR⟩ := rowR_at (K := 4) h (show i < n by have := (rowR_len h).1; omega) rfl
 rw [List.getElem?_eq_getElem hi] at hb
 injection hb with hb
 subst hb
 obtain ⟨A3, n3, c3, rfl, hi0, hi1, hi2, -, -, -, -⟩ := openPiece hR
 exact hi1
set_option maxHeartbeats 8000000 in
theorem i_isPartialN {w : World} {A3 : Option Addr} {n3 c3 : Nat} {x0 x1 x2 : Int} {r3 : List DPiece} (b : Bool) (T : WhN (x0, x1, x2, r3) → b = true) (F : ¬ WhN (x0, x1, x2, r3) → b = false)
  (rg1 : -9223372036854775808 ≤ x1 ∧ x1 ≤ 9223372036854775807) (h3 : tPiece.row.R w w.heap.size [.slice A3 n3 c3] r3) (hz : rsz szPiece r3 ≤ 1048576) :
  Calls Tryz.prog 171 #[.agg #[.int .i64 x0, .int .i64 x1, .int .i64 x2, .slice A3 n3 c3]] w fun e w' => e = .returned (.bool b) ∧ Bel w w' := by
 obtain ⟨e0, hnc, hcm⟩ := rowR_len h3
 have hn : n3 ≤ 1048576 := by have := rsz_le (s := szPiece) r3; omega
 have HL := Lib.hid e0
 have HZ := Lib.hid hz
 have HT := Lib.hid T
 have HF := Lib.hid F
 have hwf := Lib.hid (pcs_wf h3)
 clear T F e0 hz
 by_cases hd : 0 ≤ x2 ∧ x2 ≤ 65535
 rotate_left
 ·obtain rfl := HF.out (fun h => hd h.1)
  clear HT HF
  go_enter Tryz.func171, Tryz.ntmps171
  go_wp2_with (go_at_call 194; refine (i4_isDue_f _ _ hd).mono ?_; rintro e w' ⟨rfl, rfl⟩)
  go_ret
  exact ⟨rfl, (belx)⟩
 obtain ⟨hd1, hd2⟩ := hd
 by_cases hn0 : n3 = 0
 ·subst hn0
  obtain rfl := HF.out (fun h => by have := h.2.1.1; have := HL.out; dsimp only at *; omega)
  clear HT HF
  go_enter Tryz.func171, Tryz.ntmps171
  go_wp2_with (go_at_call 194; refine (i4_isDue_t _ _ hd1 hd2).mono ?_; rintro e w' ⟨rfl, rfl⟩)
  go_ret
  exact ⟨rfl, (belx)⟩
 have q0 : (0 : Int) < (n3 : Int) := by omega
 by_cases hlow : x1 ≤ (n3 : Int)
 ·obtain rfl := HF.out (fun h => by have := h.2.1.2; have := HL.out; dsimp only at *; omega)
  by_cases hov : -9223372036854775808 ≤ x1 - (n3 : Int)
  ·obtain ⟨y, hy, hy0⟩ : ∃ y, IntKind.i64.wrap (x1 - (n3 : Int)) = y ∧ y ≤ 0 := ⟨_, IntWalk.i64_in _ (by omega), by omega⟩
   clear HT HF hlow hov
   go_enter Tryz.func171, Tryz.ntmps171
   go_wp2_with (first
    | (go_at_call 194; refine (i4_isDue_t _ _ hd1 hd2).mono ?_; rintro e w' ⟨rfl, rfl⟩)
    | (go_at_call 195; refine (i_lacking _ _ _ _ _ _ y _ hy).mono ?_; rintro e w1 ⟨rfl, hb1⟩; have X1 := (Box.new w 177 #[.int .i64 x0, .int .i64 x1, .int .i64 x2, .slice A3 n3 c3]).below hb1 (by simp); have k0 := X1.cell 0; have k1 := X1.cell 1; have k3 := X1.cell 3; have hB1 : Bel w w1 := bel_trans (belx) hb1))
   go_ret
   exact ⟨rfl, hB1⟩
  ·obtain ⟨y, hy, hy0⟩ : ∃ y, IntKind.i64.wrap (x1 - (n3 : Int)) = y ∧ 0 < y := ⟨x1 - (n3 : Int) + 18446744073709551616, by have hb64 : IntKind.i64.bits = 64 := rfl; simp only [IntKind.wrap, hb64]; simp; omega, by omega⟩
   have HE := Lib.hid (show (r3.all (pcW x0 x1)) = false from by
    obtain ⟨a, ha⟩ : ∃ a, r3[0]? = some a := ⟨_, List.getElem?_eq_getElem (by rw [HL.out]; omega)⟩
    exact alF ha (decide_eq_false fun h => by have h1 := h.1; have h2 := h.2.2; unfold PcOk PcN at h1; omega))
   clear HT HF hlow hov
   go_enter Tryz.func171, Tryz.ntmps171
   go_wp2_with (go_at_call 194; refine (i4_isDue_t _ _ hd1 hd2).mono ?_; rintro e w' ⟨rfl, rfl⟩)
   refine (i_lacking _ _ _ _ _ _ y _ hy).mono ?_
   rintro e w1 ⟨rfl, hb1⟩
   have X1 := (Box.new w 177 #[.int .i64 x0, .int .i64 x1, .int .i64 x2, .slice A3 n3 c3]).below hb1 (by simp)
   have k0 := X1.cell 0
   have k1 := X1.cell 1
   have k3 := X1.cell 3
   have hB1 : Bel w w1 := bel_trans (belx) hb1
   go_wp2_with fail
   refine (i_evryPieceV 197 (.pointer (some ⟨w.heap.size, 0, none⟩)) (pcW x0 x1) (fun _ _ => rfl) (fun i a w' cs ha hBw hR => i_isPart1 hR (pcs_sz HZ.out ha) (cell_bel hBw k0) (cell_bel hBw k1)) (tPiece.row.reach h3 hB1) (by omega)).mono ?_
   rintro e w2 ⟨rfl, hb2⟩
   rw [HE.out]
   have X2 := X1.below hb2 X1.size
   have m3 := X2.cell 3
   have hB2 : Bel w w2 := bel_trans hB1 hb2
   go_wp2
   go_ret
   exact ⟨rfl, hB2⟩
 obtain ⟨y, hy, hy0⟩ : ∃ y, IntKind.i64.wrap (x1 - (n3 : Int)) = y ∧ 0 < y := ⟨_, IntWalk.i64_in _ (by omega), by omega⟩
 by_cases ha : ∀ p ∈ r3, PcOk p ∧ p.1 = x0 ∧ p.2.2.1 = x1
 rotate_left
 ·obtain rfl := HF.out (fun h => ha h.2.2.1)
  have HE := Lib.hid (show (r3.all (pcW x0 x1)) = false from alDecF ha)
  clear HT HF ha
  go_enter Tryz.func171, Tryz.ntmps171
  go_wp2_with (go_at_call 194; refine (i4_isDue_t _ _ hd1 hd2).mono ?_; rintro e w' ⟨rfl, rfl⟩)
  refine (i_lacking _ _ _ _ _ _ y _ hy).mono ?_
  rintro e w1 ⟨rfl, hb1⟩
  have X1 := (Box.new w 177 #[.int .i64 x0, .int .i64 x1, .int .i64 x2, .slice A3 n3 c3]).below hb1 (by simp)
  have k0 := X1.cell 0
  have k1 := X1.cell 1
  have k3 := X1.cell 3
  have hB1 : Bel w w1 := bel_trans (belx) hb1
  go_wp2_with fail
  refine (i_evryPieceV 197 (.pointer (some ⟨w.heap.size, 0, none⟩)) (pcW x0 x1) (fun _ _ => rfl) (fun i a w' cs ha hBw hR => i_isPart1 hR (pcs_sz HZ.out ha) (cell_bel hBw k0) (cell_bel hBw k1)) (tPiece.row.reach h3 hB1) (by omega)).mono ?_
  rintro e w2 ⟨rfl, hb2⟩
  rw [HE.out]
  have X2 := X1.below hb2 X1.size
  have m3 := X2.cell 3
  have hB2 : Bel w w2 := bel_trans hB1 hb2
  go_wp2
  go_ret
  exact ⟨rfl, hB2⟩
 have HE := Lib.hid (show (r3.all (pcW x0 x1)) = true from alDec ha)
 obtain ⟨ats, hats⟩ : ∃ L, (r3.map fun p => p.2.1) = L := ⟨_, rfl⟩
 have HATS := Lib.hid hats
 have HTA := Lib.hid (show Asc ats → b = true from fun h => HT.out ⟨⟨hd1, hd2⟩, ⟨by have := HL.out; dsimp only; omega, by have := HL.out; dsimp only; omega⟩, ha, by show Asc (r3.map fun p => p.2.1); rw [hats]; exact h⟩)
 have HFA := Lib.hid (show ¬ Asc ats → b = false from fun h => HF.out fun hh => h (by rw [← hats]; exact hh.2.2.2))
 have hl5 : ats.length ≤ 17592186043904 := by rw [← hats, List.length_map, HL.out]; omega
 clear HT HF ha hlow hats
 go_enter Tryz.func171, Tryz.ntmps171
 go_wp2_with (go_at_call 194; refine (i4_isDue_t _ _ hd1 hd2).mono ?_; rintro e w' ⟨rfl, rfl⟩)
 refine (i_lacking _ _ _ _ _ _ y _ hy).mono ?_
 rintro e w1 ⟨rfl, hb1⟩
 have X1 := (Box.new w 177 #[.int .i64 x0, .int .i64 x1, .int .i64 x2, .slice A3 n3 c3]).below hb1 (by simp)
 have k0 := X1.cell 0
 have k1 := X1.cell 1
 have k3 := X1.cell 3
 have hB1 : Bel w w1 := bel_trans (belx) hb1
 go_wp2_with fail
 refine (i_evryPieceV 197 (.pointer (some ⟨w.heap.size, 0, none⟩)) (pcW x0 x1) (fun _ _ => rfl) (fun i a w' cs ha hBw hR => i_isPart1 hR (pcs_sz HZ.out ha) (cell_bel hBw k0) (cell_bel hBw k1)) (tPiece.row.reach h3 hB1) (by omega)).mono ?_
 rintro e w2 ⟨rfl, hb2⟩
 rw [HE.out]
 have X2 := X1.below hb2 X1.size
 have m3 := X2.cell 3
 have hB2 : Bel w w2 := bel_trans hB1 hb2
 go_wp2_with fail
 refine (i_eachPieceI 200 (fun p => p.2.1) (fun _ _ => rfl) (fun i a w' cs ha hBw hR => i_PcAt hR) hwf.out (tPiece.row.reach h3 hB2) hn).mono ?_
 rintro e w3 ⟨v, rfl, hO, hb3⟩
 rw [HATS.out] at hO
 obtain ⟨A5, c5, rfl, hle5, hI5, -⟩ := hO.ints
 have hB3 : Bel w w3 := bel_trans hB2 hb3
 go_wp2_with fail
 refine (i_isAsc b HTA.out HFA.out hI5 hl5).mono ?_
 rintro e w4 ⟨rfl, hb4⟩
 go_wp2
 go_ret
 exact ⟨rfl, bel_trans hB3 hb4⟩
theorem i_WhId {w : World} {cs : List Value} {p : DWhole} (h : tWhole.R w w.heap.size cs p) :
  Calls Tryz.prog 168 #[.agg cs.toArray] w fun e w' => e = .returned (.int .i64 p.1) ∧ Bel w w' := by
 obtain ⟨A3, n3, c3, rfl, hi0, hi1, hi2, ha3, hb3, hl3, hr3⟩ := openWhole h
 go_enter Tryz.func168, Tryz.ntmps168
 go_wp2
 go_ret
 exact ⟨rfl, (belx)⟩
theorem whs_sz {r : List DWhole} {i : Nat} {a : DWhole} (h : rsz szWhole r ≤ 1048576) (ha : r[i]? = some a) : szWhole a ≤ 1048576 := by
 have := rsz_step (s := szWhole) ha; omega
theorem whs_wf {w : World} {B n c : Nat} {A : Option Addr} {r : List DWhole} (h : tWhole.row.R w B [.slice A n c] r) : ∀ a ∈ r, (Lit.int .i64 a.1).wf = true := by
 intro a ha
 obtain ⟨i, hi, rfl⟩ := List.getElem_of_mem ha
 obtain ⟨b, bb, off, es, hb, -, -, -, hR⟩ := rowR_at (K := 4) h (show i < n by have := (rowR_len h).1; omega) rfl
 rw [List.getElem?_eq_getElem hi] at hb
 injection hb with hb
 subst hb
 obtain ⟨A3, n3, c3, rfl, hi0, hi1, hi2, -, -, -, -⟩ := openWhole hR
 exact hi0
noncomputable def whB (l1 : List Int) (a : DWhole) : Bool := @decide (WhN a ∧ a.1 ∉ l1) (Classical.propDecidable _)
theorem whB_t {l1 : List Int} {a : DWhole} (h : WhN a ∧ a.1 ∉ l1) : whB l1 a = true := @decide_eq_true _ (Classical.propDecidable _) h
theorem whB_f {l1 : List Int} {a : DWhole} (h : ¬ (WhN a ∧ a.1 ∉ l1)) : whB l1 a = false := @decide_eq_false _ (Classical.propDecidable _) h
theorem i_DeskOk1 {w : World} {g n1 c1 : Nat} {A1 : Option Addr} {cs : List Value} {a : DWhole} {l1 : List Int} (h : tWhole.R w w.heap.size cs a) (hz : szWhole a ≤ 1048576) (hg1 : w.cell? ⟨g, 1, none⟩ = some (.slice A1 n1 c1)) (hl : Ints .i64 w w.heap.size A1 n1 l1) (hn : n1 ≤ 17592186043904) :
  Calls Tryz.prog 170 #[.agg cs.toArray, .pointer (some ⟨g, 0, none⟩)] w fun e w' => e = .returned (.bool (whB l1 a)) ∧ Bel w w' := by
 obtain ⟨A3, n3, c3, rfl, hi0, hi1, hi2, ha3, hb3, hl3, hr3⟩ := openWhole h
 have rg1 := i64_rg hi1
 by_cases hp : WhN a
 ·have step : ∀ (b : Bool), whB l1 a = b → Calls Tryz.prog 170 #[.agg #[.int .i64 a.1, .int .i64 a.2.1, .int .i64 a.2.2.1, .slice A3 n3 c3], .pointer (some ⟨g, 0, none⟩)] w fun e w' => e = .returned (.bool b) ∧ Bel w w' := by
   intro b hb
   have HBB := Lib.hid hb
   have HPN := Lib.hid (show WhN (a.1, a.2.1, a.2.2.1, a.2.2.2) from hp)
   have HMM := Lib.hid (show (!decide (a.1 ∈ l1)) = b from by
    rw [← hb]
    by_cases hm : a.1 ∈ l1
    ·rw [decide_eq_true hm, whB_f fun h => h.2 hm]; rfl
    ·rw [decide_eq_false hm, whB_t ⟨hp, hm⟩]; rfl)
   clear hb hp
   go_enter Tryz.func170, Tryz.ntmps170
   go_wp2_with fail
   refine (i_isPartialN true (fun _ => rfl) (fun h => absurd HPN.out h) rg1 (tPiece.row.reach hr3 ?hB) hz).mono ?_
   case hB => exact (belx)
   rintro e w1 ⟨rfl, hb1⟩
   have X1 := (Box.new w 177 #[.int .i64 a.1, .int .i64 a.2.1, .int .i64 a.2.2.1, .slice A3 n3 c3]).below hb1 (by simp)
   have x0' := X1.cell 0
   have hB1 : Bel w w1 := bel_trans (belx) hb1
   have g1 := cell_bel hB1 hg1
   go_wp2_with fail
   refine (i_ContainsI a.1 (reach hl hB1) hn).mono ?_
   rintro e w2 ⟨rfl, rfl⟩
   go_wp2
   go_ret
   exact ⟨ret_bool HMM.out, hB1⟩
  exact step _ rfl
 ·have HR := Lib.hid (show whB l1 a = false from whB_f fun h => hp h.1)
  rw [HR.out]
  have HPN := Lib.hid (show ¬ WhN (a.1, a.2.1, a.2.2.1, a.2.2.2) from hp)
  clear hp
  go_enter Tryz.func170, Tryz.ntmps170
  go_wp2_with fail
  refine (i_isPartialN false (fun h => absurd h HPN.out) (fun _ => rfl) rg1 (tPiece.row.reach hr3 ?hB) hz).mono ?_
  case hB => exact (belx)
  rintro e w1 ⟨rfl, hb1⟩
  go_wp2
  go_ret
  exact ⟨rfl, bel_trans (belx) hb1⟩
set_option maxHeartbeats 2000000 in
theorem i_DeskOkN {w : World} {A0 A1 : Option Addr} {n0 c0 n1 c1 : Nat} {r0 : List DWhole} {l1 : List Int} (b : Bool) (T : DkOk (r0, l1) → b = true) (F : ¬ DkOk (r0, l1) → b = false)
  (h0 : tWhole.row.R w w.heap.size [.slice A0 n0 c0] r0) (h1 : tIs.R w w.heap.size [.slice A1 n1 c1] l1) (hsz : rsz szWhole r0 ≤ 1048576) (hn1 : n1 ≤ 1048576) :
  Calls Tryz.prog 140 #[.agg #[.slice A0 n0 c0, .slice A1 n1 c1]] w fun e w' => e = .returned (.bool b) ∧ Bel w w' := by
 obtain ⟨e0, hnc0, hcm0⟩ := rowR_len h0
 have hl1 := (slR_ints h1).1
 have hn0 : n0 ≤ 1048576 := by have := rsz_le (s := szWhole) r0; omega
 have E0 := Lib.hid e0
 have E1 := Lib.hid hl1.1
 have HT := Lib.hid T
 have HF := Lib.hid F
 have HS0 := Lib.hid hsz
 have hwf := Lib.hid (whs_wf h0)
 clear T F e0 h1 hsz
 by_cases a0 : ∀ x ∈ l1, 0 ≤ x ∧ x ≤ 255
 rotate_left
 ·obtain rfl := HF.out (fun h => a0 h.2.1)
  have HA0 := Lib.hid (show (l1.all fun x => decide (0 ≤ x ∧ x ≤ 255)) = false from alDecF a0)
  clear HT HF a0
  go_enter Tryz.func140, Tryz.ntmps140
  go_wp2_with fail
  refine (i_everyI 104 (fun x => decide (0 ≤ x ∧ x ≤ 255)) (fun x w => rfl) i_isIdB (reach hl1 ?hB) (by omega)).mono ?_
  case hB => exact (belx)
  rintro e w1 ⟨rfl, rfl⟩
  rw [HA0.out]
  go_wp2
  go_ret
  exact ⟨rfl, (belx)⟩
 have HA0 := Lib.hid (show (l1.all fun x => decide (0 ≤ x ∧ x ≤ 255)) = true from alDec a0)
 by_cases a1 : Asc l1
 rotate_left
 ·obtain rfl := HF.out (fun h => a1 h.2.2.1)
  have HA1 := Lib.hid a1
  clear HT HF a0 a1
  go_enter Tryz.func140, Tryz.ntmps140
  go_wp2_with fail
  refine (i_everyI 104 (fun x => decide (0 ≤ x ∧ x ≤ 255)) (fun x w => rfl) i_isIdB (reach hl1 ?hB) (by omega)).mono ?_
  case hB => exact (belx)
  rintro e w1 ⟨rfl, rfl⟩
  rw [HA0.out]
  go_wp2_with fail
  refine (i_isAsc false (fun h => absurd h HA1.out) (fun _ => rfl) (reach hl1 ?hB) (by omega)).mono ?_
  case hB => exact (belx)
  rintro e w2 ⟨rfl, hb2⟩
  have X2 := (Box.new w 106 #[.slice A0 n0 c0, .slice A1 n1 c1]).below hb2 (by simp)
  have k0 := X2.cell 0
  have k1 := X2.cell 1
  have hB2 : Bel w w2 := bel_trans (belx) hb2
  go_wp2
  go_ret
  exact ⟨rfl, hB2⟩
 have HA1 := Lib.hid a1
 by_cases g0 : n0 ≤ 6
 rotate_left
 ·obtain rfl := HF.out (fun h => by have := h.1; have := E0.out; dsimp only at *; omega)
  have q : ¬ (n0 : Int) ≤ 6 := by omega
  clear HT HF a0 a1
  go_enter Tryz.func140, Tryz.ntmps140
  go_wp2_with fail
  refine (i_everyI 104 (fun x => decide (0 ≤ x ∧ x ≤ 255)) (fun x w => rfl) i_isIdB (reach hl1 ?hB) (by omega)).mono ?_
  case hB => exact (belx)
  rintro e w1 ⟨rfl, rfl⟩
  rw [HA0.out]
  go_wp2_with fail
  refine (i_isAsc true (fun _ => rfl) (fun h => absurd HA1.out h) (reach hl1 ?hB) (by omega)).mono ?_
  case hB => exact (belx)
  rintro e w2 ⟨rfl, hb2⟩
  have X2 := (Box.new w 106 #[.slice A0 n0 c0, .slice A1 n1 c1]).below hb2 (by simp)
  have k0 := X2.cell 0
  have k1 := X2.cell 1
  have hB2 : Bel w w2 := bel_trans (belx) hb2
  go_wp2
  go_ret
  exact ⟨rfl, hB2⟩
 have q : (n0 : Int) ≤ 6 := by omega
 obtain ⟨ids, hids⟩ : ∃ L, (r0.map fun p => p.1) = L := ⟨_, rfl⟩
 have HIDS := Lib.hid hids
 have hl5 : ids.length ≤ 17592186043904 := by rw [← hids, List.length_map, E0.out]; omega
 by_cases a3 : Asc ids
 rotate_left
 ·obtain rfl := HF.out (fun h => a3 (by rw [← hids]; exact h.2.2.2.1))
  have HA3 := Lib.hid a3
  clear HT HF a0 a1 a3 hids
  go_enter Tryz.func140, Tryz.ntmps140
  go_wp2_with fail
  refine (i_everyI 104 (fun x => decide (0 ≤ x ∧ x ≤ 255)) (fun x w => rfl) i_isIdB (reach hl1 ?hB) (by omega)).mono ?_
  case hB => exact (belx)
  rintro e w1 ⟨rfl, rfl⟩
  rw [HA0.out]
  go_wp2_with fail
  refine (i_isAsc true (fun _ => rfl) (fun h => absurd HA1.out h) (reach hl1 ?hB) (by omega)).mono ?_
  case hB => exact (belx)
  rintro e w2 ⟨rfl, hb2⟩
  have X2 := (Box.new w 106 #[.slice A0 n0 c0, .slice A1 n1 c1]).below hb2 (by simp)
  have k0 := X2.cell 0
  have k1 := X2.cell 1
  have hB2 : Bel w w2 := bel_trans (belx) hb2
  go_wp2_with fail
  refine (i_eachWholeI 168 (fun p => p.1) (fun _ _ => rfl) (fun i a w' cs ha hBw hR => i_WhId hR) hwf.out (tWhole.row.reach h0 hB2) (by omega)).mono ?_
  rintro e w3 ⟨v, rfl, hO, hb3⟩
  rw [HIDS.out] at hO
  obtain ⟨A5, c5, rfl, hle5, hI5, -⟩ := hO.ints
  have hB3 : Bel w w3 := bel_trans hB2 hb3
  have X3 := X2.below hb3 X2.size
  go_wp2_with fail
  refine (i_isAsc false (fun h => absurd h HA3.out) (fun _ => rfl) hI5 hl5).mono ?_
  rintro e w4 ⟨rfl, hb4⟩
  have X4 := X3.below hb4 X3.size
  clear k0 k1
  have k0 := X4.cell 0
  have k1 := X4.cell 1
  have hB4 : Bel w w4 := bel_trans hB3 hb4
  go_wp2
  go_ret
  exact ⟨rfl, hB4⟩
 have HA3 := Lib.hid a3
 have HB := Lib.hid (show (r0.all (whB l1)) = b from by
  by_cases a4 : ∀ a ∈ r0, WhN a ∧ a.1 ∉ l1
  ·rw [HT.out ⟨by have := E0.out; dsimp only; omega, a0, a1, by show Asc (r0.map fun p => p.1); rw [hids]; exact a3, a4⟩]; exact List.all_eq_true.2 fun x hx => whB_t (a4 x hx)
  ·rw [HF.out (fun h => a4 h.2.2.2.2)]; exact Bool.eq_false_iff.2 fun hh => a4 fun x hx => Classical.byContradiction fun hc => by have := List.all_eq_true.1 hh x hx; rw [whB_f hc] at this; cases this)
 clear HT HF a0 a1 a3 hids
 go_enter Tryz.func140, Tryz.ntmps140
 go_wp2_with fail
 refine (i_everyI 104 (fun x => decide (0 ≤ x ∧ x ≤ 255)) (fun x w => rfl) i_isIdB (reach hl1 ?hB) (by omega)).mono ?_
 case hB => exact (belx)
 rintro e w1 ⟨rfl, rfl⟩
 rw [HA0.out]
 go_wp2_with fail
 refine (i_isAsc true (fun _ => rfl) (fun h => absurd HA1.out h) (reach hl1 ?hB) (by omega)).mono ?_
 case hB => exact (belx)
 rintro e w2 ⟨rfl, hb2⟩
 have X2 := (Box.new w 106 #[.slice A0 n0 c0, .slice A1 n1 c1]).below hb2 (by simp)
 have k0 := X2.cell 0
 have k1 := X2.cell 1
 have hB2 : Bel w w2 := bel_trans (belx) hb2
 go_wp2_with fail
 refine (i_eachWholeI 168 (fun p => p.1) (fun _ _ => rfl) (fun i a w' cs ha hBw hR => i_WhId hR) hwf.out (tWhole.row.reach h0 hB2) (by omega)).mono ?_
 rintro e w3 ⟨v, rfl, hO, hb3⟩
 rw [HIDS.out] at hO
 obtain ⟨A5, c5, rfl, hle5, hI5, -⟩ := hO.ints
 have hB3 : Bel w w3 := bel_trans hB2 hb3
 have X3 := X2.below hb3 X2.size
 go_wp2_with fail
 refine (i_isAsc true (fun _ => rfl) (fun h => absurd HA3.out h) hI5 hl5).mono ?_
 rintro e w4 ⟨rfl, hb4⟩
 have X4 := X3.below hb4 X3.size
 clear k0 k1
 have k0 := X4.cell 0
 have k1 := X4.cell 1
 have hB4 : Bel w w4 := bel_trans hB3 hb4
 go_wp2_with fail
 refine (i_evryWholeV 170 (.pointer (some ⟨w.heap.size, 0, none⟩)) (whB l1) (fun _ _ => rfl) (fun i a w' cs ha hBw hR => i_DeskOk1 hR (whs_sz HS0.out ha) (cell_bel hBw k1) (reach hl1 (bel_trans hB4 hBw)) (by omega)) (tWhole.row.reach h0 hB4) (by omega)).mono ?_
 rintro e w5 ⟨rfl, hb5⟩
 rw [HB.out]
 go_wp2
 go_ret
 exact ⟨rfl, bel_trans hB4 hb5⟩
theorem i_DeskOk {w : World} {cs : List Value} {p : DDesk} (h : tDesk.R w w.heap.size cs p) (hz : szDesk p ≤ 1048576) :
  Calls Tryz.prog 140 #[.agg cs.toArray] w fun e w' => e = .returned (.bool (decide (DkOk p))) ∧ Bel w w' := by
 obtain ⟨A0, n0, c0, A1, n1, c1, rfl, -, -, -, hr0, -, -, hn1, hr1⟩ := openDesk h
 unfold szDesk at hz
 exact i_DeskOkN _ (fun hh => decide_eq_true hh) (fun hh => decide_eq_false hh) hr0 hr1 (by omega) (by omega)
end Go.Proofs.YtkdanlnhdgcplaaGreat
