/-
  FlP, PPB: texts joined.
-/
import Derived.Test.YtblcfncjghkegaaPGb
import Derived.Test.YtblcfncjghkegaaPGi
import Derived.Test.YtblcfncjghkegaaPGk
import Derived.Test.YtblcfncjghkegaaPGl
import Derived.Deep.RegionHeld3
namespace Go.Proofs.Ytblcfncjghkegaa
set_option linter.unusedVariables false
open Fld
def hdZ : DHeld := (0, 0, [])
def FlOk (p : DPool) (x : Int) : Prop := PlOk p ∧ (1 ≤ x ∧ x ≤ 12)
instance (p : DPool) (x : Int) : Decidable (FlOk p x) := by unfold FlOk; infer_instance
def pmut (l : List DHeld) (o : List Int) : List DHeld := o.map fun i => (l[i.toNat]?).getD hdZ
theorem pmut_len (l : List DHeld) (o : List Int) : (pmut l o).length = o.length := by simp [pmut]
theorem pmut_snoc {l : List DHeld} {o : List Int} {j : Nat} {a : DHeld} {m : Nat} (hj : j < o.length) (hm : o.getD j 0 = (m : Int)) (ha : l[m]? = some a) : pmut l (o.take (j + 1)) = pmut l (o.take j) ++ [a] := by
  unfold pmut
  rw [take_snocI hj, List.map_append, List.map_singleton, hm, Int.toNat_natCast, ha]
  rfl
def fFlP (p : DPool) (x : Int) (d : List Int) : DPool := if FlOk p x then (if (p.1.length : Int) < x ∨ shufU d p.1.length < 0 then p else ([], p.2)) else plZ
def fFlL (p : DPool) (x : Int) (d : List Int) : List DHeld := if FlOk p x ∧ ¬ ((p.1.length : Int) < x ∨ shufU d p.1.length < 0) then pmut p.1 (shufL d p.1.length) else []
def fFlN (p : DPool) (x : Int) (d : List Int) : Int := if FlOk p x then (if (p.1.length : Int) < x then 0 else shufU d p.1.length) else -2
theorem fl_bad {p : DPool} {x : Int} {d : List Int} (h : ¬ FlOk p x) : fFlP p x d = plZ ∧ fFlL p x d = [] ∧ fFlN p x d = -2 := by
  unfold fFlP fFlL fFlN; rw [if_neg h, if_neg fun y => h y.1, if_neg h]; exact ⟨rfl, rfl, rfl⟩
theorem fl_few {p : DPool} {x : Int} {d : List Int} (h : FlOk p x) (h2 : (p.1.length : Int) < x) : fFlP p x d = p ∧ fFlL p x d = [] ∧ fFlN p x d = 0 := by
  unfold fFlP fFlL fFlN; rw [if_pos h, if_pos h, if_pos h2, if_pos (.inl h2), if_neg fun y => y.2 (.inl h2)]; exact ⟨rfl, rfl, rfl⟩
theorem fl_fs {p : DPool} {d : List Int} (h : p.1.length ≤ 12) : fshuf d (p.1.length : Int) = shuf d (p.1.length - 1) (iota p.1.length) 0 := by
  rw [fshuf_t ⟨by omega, by omega⟩, Int.toNat_natCast]
theorem fl_no {p : DPool} {x : Int} {d : List Int} (h : FlOk p x) (h2 : ¬ (p.1.length : Int) < x) (hs : shuf d (p.1.length - 1) (iota p.1.length) 0 = none) : fFlP p x d = p ∧ fFlL p x d = [] ∧ fFlN p x d = -1 := by
  have e := shufU_f ((fl_fs (d := d) h.1.1.1).trans hs)
  unfold fFlP fFlL fFlN; rw [if_pos h, if_pos h, if_neg h2, e, if_pos (.inr (by omega)), if_neg fun y => y.2 (.inr (by omega))]; exact ⟨rfl, rfl, rfl⟩
theorem fl_yes {p : DPool} {x : Int} {d L : List Int} {U : Nat} (h : FlOk p x) (h2 : ¬ (p.1.length : Int) < x) (hs : shuf d (p.1.length - 1) (iota p.1.length) 0 = some (L, U)) : fFlP p x d = ([], p.2) ∧ fFlL p x d = pmut p.1 L ∧ fFlN p x d = U := by
  have e := shufU_t ((fl_fs (d := d) h.1.1.1).trans hs)
  have e2 := shufL_t ((fl_fs (d := d) h.1.1.1).trans hs)
  have hn : ¬ ((p.1.length : Int) < x ∨ ((U : Nat) : Int) < 0) := by rintro (y | y); exact h2 y; omega
  unfold fFlP fFlL fFlN; rw [if_pos h, if_pos h, if_neg h2, e, e2, if_neg hn, if_pos ⟨h, hn⟩]; exact ⟨rfl, rfl, rfl⟩
/-- A drawn order's places. -/
theorem ord_place {d L : List Int} {n U : Nat} (hd : Bytes d) (hs : shuf d (n - 1) (iota n) 0 = some (L, U)) : L.length = n ∧ ∀ j, j < n → ∃ m : Nat, m < n ∧ L.getD j 0 = (m : Int) := by
  have hp := (shuf_all hd hs).1
  have hl : L.length = n := by rw [hp.length_eq, iota_len]
  refine ⟨hl, fun j hj => ?_⟩
  have hm : L.getD j 0 ∈ iota n := hp.mem_iff.1 (by rw [List.getD_eq_getElem?_getD, List.getElem?_eq_getElem (by omega)]; exact List.getElem_mem _)
  have := mem_iota.1 hm
  exact ⟨(L.getD j 0).toNat, by omega, by omega⟩
end Go.Proofs.Ytblcfncjghkegaa
namespace Go.Proofs.Ytblcfncjghkegaa
set_option maxRecDepth 100000
set_option linter.unusedVariables false
set_option linter.unusedSimpArgs false
open Go.ChangeShapes Go.WideShapes Go.ChangeAt Go.RowKit
open Fld
def heldB (h : DHeld) : List Int := h.1 :: h.2.1 / 256 :: h.2.1 % 256 :: h.2.2
def plB (p : DPool) : List Int := [(p.1.length : Int), (p.2.length : Int)] ++ p.1.flatMap heldB ++ p.2.flatMap four
def fPlB (p : DPool) : List Int := if PlOk p then plB p else []
theorem fPlB_t {p : DPool} (h : PlOk p) : fPlB p = plB p := if_pos h
theorem fPlB_f {p : DPool} (h : ¬ PlOk p) : fPlB p = [] := if_neg h
theorem heldB_len {h : DHeld} (hh : HdOk h) : (heldB h).length = 83 := by
  have : h.2.2.length = 80 := hh.2.2.2.2
  unfold heldB; simp [this]
theorem hdsB_le {p : DPool} (h : PlOk p) (j : Nat) : ((p.1.take j).flatMap heldB).length ≤ 996 := by
  have h1 := flLe (f := heldB) (l := p.1) (m := 83) (fun a ha => Nat.le_of_eq (heldB_len (h.2.1 a ha))) j
  have h2 := h.1.1
  omega
theorem tagsB_le {p : DPool} (h : PlOk p) (j : Nat) : ((p.2.take j).flatMap four).length ≤ 240 := by
  have h1 := flLe (f := four) (l := p.2) (m := 4) (fun a ha => Nat.le_of_eq (four_len a)) j
  have h2 := h.1.2
  omega
theorem cells_wf {w : World} {B n c : Nat} {A : Option Addr} {l : List DHeld} (h : tHeld.row.R w B [.slice A n c] l) : ∀ a ∈ l, ∀ x ∈ a.2.2, (Lit.int .u8 x).wf = true := by
  intro a ha
  obtain ⟨i, hi, rfl⟩ := List.getElem_of_mem ha
  obtain ⟨b, bb, off, es, hb, -, -, -, hR⟩ := rowR_at (K := 3) h (show i < n by have := (rowR_len h).1; omega) rfl
  rw [List.getElem?_eq_getElem hi] at hb
  injection hb with hb
  subst hb
  obtain ⟨A2, n2, c2, rfl, -, -, -, -, -, hr2⟩ := openHeld hR
  exact (slR_ints hr2).1.2.2
set_option maxHeartbeats 4000000 in
theorem s_l5bytes {w : World} {base n c : Nat} {A : Option Addr} {l : List Int} {cs : List Value} {p : DPool} (hO : Own .u8 5 w base (.slice A n c) l) (hbase : base ≤ w.heap.size) (hn : n ≤ 1000) (h : tPool.R w base cs p) (hp : PlOk p) :
    Calls Try.prog 73 #[.slice A n c, .agg cs.toArray] w fun e w' => ∃ v', e = .returned v' ∧ Own .u8 5 w' base v' (l ++ plB p) ∧ Ext w (.slice A n c) w' v' := by
  obtain ⟨i0, hi0, hz0, hz1, hz2⟩ := info_parts info_cb
  obtain ⟨A0, n0, c0, A1, n1, c1, rfl, -, -, -, hr0, -, -, -, hr1⟩ := openPool h
  obtain ⟨e0, _, _⟩ := rowR_len hr0
  have hI1 := (slR_ints hr1).1
  have hn0 : n0 ≤ 12 := by have := hp.1.1; omega
  have hn1 : n1 ≤ 60 := by have := hp.1.2; have := hI1.1; omega
  have E0 := Lib.hid e0
  have E1 := Lib.hid hI1.1
  have HP := Lib.hid hp
  have HW := Lib.hid (cells_wf hr0)
  have HL := Lib.hid hO.intsAt.2
  have HO := Lib.hid hO.2
  have hown0 : ∀ b, (Value.slice A n c).ownBlock = some b → base ≤ b ∧ b < w.heap.size := fun b hb => hO.block hb
  have HB0 := Lib.hid hown0
  have HT := Lib.hid (show l ++ [(n0 : Int), (n1 : Int)] ++ p.1.flatMap heldB ++ p.2.flatMap four = l ++ plB p from by unfold plB; rw [e0, hI1.1]; simp)
  have c0' : IntKind.u8.wrap (n0 : Int) = (n0 : Int) := IntWalk.u8_in _ (by omega)
  have c1' : IntKind.u8.wrap (n1 : Int) = (n1 : Int) := IntWalk.u8_in _ (by omega)
  have w0' : (Lit.int .u8 (n0 : Int)).wf = true := WalkArith.wf_u8 (by omega)
  have w1' : (Lit.int .u8 (n1 : Int)).wf = true := WalkArith.wf_u8 (by omega)
  have X0 : Box (w.alloc (.cells #[.slice A0 n0 c0, .slice A1 n1 c1] 26)) w.heap.size 26 #[.slice A0 n0 c0, .slice A1 n1 c1] := Box.new _ _ _
  have hng : (Value.slice A n c).ownBlock ≠ some w.heap.size := fun e => by have := (hown0 _ e).2; omega
  have E00 : Ext w (.slice A n c) (w.alloc (.cells #[.slice A0 n0 c0, .slice A1 n1 c1] 26)) (.slice A n c) := Ext.of (belx)
  have hx0 : w.heap.size < (w.alloc (.cells #[.slice A0 n0 c0, .slice A1 n1 c1] 26)).heap.size := by simp
  have hSC : Src ((w.alloc (.cells #[.slice A0 n0 c0, .slice A1 n1 c1] 26)).alloc (.cells #[.int .u8 (n0 : Int), .int .u8 (n1 : Int)] 5)) 1 (some ⟨w.heap.size + 1, 0, none⟩) 2 [.int .u8 (n0 : Int), .int .u8 (n1 : Int)] := by simpa using Src.cells (w.alloc (.cells #[.slice A0 n0 c0, .slice A1 n1 c1] 26)) 5 [.int .u8 (n0 : Int), .int .u8 (n1 : Int)]
  clear e0 h hown0
  go_enter Try.func73, Try.ntmps73
  go_wp2_with (at_builtin; refine wpList_app _ rfl (.tmp 7) (.tmp 16) _ rfl base 5 i0 _ 1 1 Try.underlying22 hi0 hz0 hz1 hz2 rfl (by omega) (.slice A n c) l.length (l.map (Value.int .u8)) rfl ((hO.alloc _).alloc _).1 _ 2 2 [.int .u8 (n0 : Int), .int .u8 (n1 : Int)] rfl hSC (by intro u hu; simp only [List.mem_cons, List.not_mem_nil, or_false] at hu; rcases hu with rfl | rfl <;> rfl) (by simp only [maxLen]; have := HL.out; omega) (by have := HL.out; omega) (by first | (simp; done) | (simp; omega)) ?_; intro v1 w1 hown hg hat)
  have hOs : Own .u8 5 w1 base v1 (l ++ [(n0 : Int), (n1 : Int)]) := own_appN (r := [(n0 : Int), (n1 : Int)]) hown rfl HO.out (fun x hx => by simp only [List.mem_cons, List.not_mem_nil, or_false] at hx; rcases hx with rfl | rfl; exact w0'; exact w1')
  have hEs : Ext (w.alloc (.cells #[.slice A0 n0 c0, .slice A1 n1 c1] 26)) (.slice A n c) w1 v1 := (Ext.refl _ _).app (belx) hg hat
  clear hown hg hat
  go_wp2_with fail
  go_loopw [0, 5] (fun v i wr => ∃ j : Nat, j ≤ n0 ∧ i = .int .i64 j ∧ Own .u8 5 wr base v (l ++ [(n0 : Int), (n1 : Int)] ++ (p.1.take j).flatMap heldB) ∧ Ext (w.alloc (.cells #[.slice A0 n0 c0, .slice A1 n1 c1] 26)) (.slice A n c) wr v) (fun _ i _ => n0 - (intOf i).toNat)
  case atStart => exact ⟨0, by omega, rfl, by simpa using hOs, hEs⟩
  case round =>
    obtain ⟨j, hj, rfl, hOr, hE⟩ := hrel
    have hX := hE.box X0 hng
    have k0 : wr.cell? ⟨w.heap.size, 0, none⟩ = some (.slice A0 n0 c0) := hX.cell 0
    have k1 : wr.cell? ⟨w.heap.size, 1, none⟩ = some (.slice A1 n1 c1) := hX.cell 1
    have hBr : Below base w wr := (E00.trans hE).below hbase (fun b hb => (HB0.out b hb).1)
    have hnr := hE.not hx0 hng
    have hzr := hE.1.size
    by_cases hlt : j < n0
    · obtain ⟨a, b', off, es, hl2, rfl, hb, hes, hR⟩ := rowR_at (K := 3) hr0 hlt rfl
      have HS := Lib.hid (flS (f := heldB) hl2)
      have hh := HP.out.2.1 a (alMem hl2)
      have hwa := HW.out a (alMem hl2)
      have hle := hdsB_le HP.out j
      obtain ⟨bs, hbs⟩ : ∃ bs, (p.1.take j).flatMap heldB = bs := ⟨_, rfl⟩
      rw [hbs] at hOr HS hle
      clear hl2 hbs
      obtain ⟨A2, n2, c2, rfl, -, -, -, -, hl80, hr2⟩ := openHeld hR
      have hI2 := (slR_ints hr2).1
      obtain ⟨q1, q2, q3, q4, q5⟩ := hh
      obtain rfl : n2 = 80 := by omega
      have e0 : wr.cell? ⟨b', off + j * 3, none⟩ = some (.int .i64 a.1) := bcell hBr hb (hes 0 (by omega))
      have e1 : wr.cell? ⟨b', off + j * 3 + 1, none⟩ = some (.int .i64 a.2.1) := bcell hBr hb (hes 1 (by omega))
      have e2 : wr.cell? ⟨b', off + j * 3 + 2, none⟩ = some (.slice A2 80 c2) := bcell hBr hb (hes 2 (by omega))
      clear hR hl80
      obtain ⟨x, hx⟩ : ∃ x, a.1 = x := ⟨_, rfl⟩
      obtain ⟨d, hd⟩ : ∃ d, a.2.1 = d := ⟨_, rfl⟩
      have HHB := Lib.hid (show heldB a = [x, d / 256, d % 256] ++ a.2.2 by unfold heldB; rw [hx, hd]; rfl)
      rw [hx] at q1 q2 e0
      rw [hd] at q3 q4 e1
      have hes0 := Lib.hid (show w.cell? ⟨b', off + j * 3, none⟩ = some (.int .i64 x) from by rw [← hx]; exact hes 0 (by omega))
      have hes1 := Lib.hid (show w.cell? ⟨b', off + j * 3 + 1, none⟩ = some (.int .i64 d) from by rw [← hd]; exact hes 1 (by omega))
      have hes2 := Lib.hid (show w.cell? ⟨b', off + j * 3 + 2, none⟩ = some (.slice A2 80 c2) from hes 2 (by omega))
      clear hx hd hes
      have j1 : (j : Int) < (n0 : Int) := by omega
      have x8 : IntKind.u8.wrap x = x := IntWalk.u8_in _ (by omega)
      have y8 : IntKind.u8.wrap (d / 256) = d / 256 := IntWalk.u8_in _ (by omega)
      have z8 : IntKind.u8.wrap d = d % 256 := u8_mod d
      have hlen : (l ++ [(n0 : Int), (n1 : Int)] ++ bs).length ≤ 1998 := by simp only [List.length_append, List.length_cons, List.length_nil]; have := HL.out; omega
      obtain ⟨L, hL⟩ : ∃ L, l ++ [(n0 : Int), (n1 : Int)] ++ bs = L := ⟨_, rfl⟩
      rw [hL] at hOr hlen
      have HLL := Lib.hid hL
      clear hL
      go_wp2_with fail
      go_region_held3 (fun w' => w'.cell? ⟨w.heap.size, 0, none⟩ = some (.slice (some ⟨b', off, none⟩) n0 c0) ∧ w'.cell? ⟨b', off + j * 3, none⟩ = some (.int .i64 x) ∧ w'.cell? ⟨b', off + j * 3 + 1, none⟩ = some (.int .i64 d)) (first | (exact ⟨k0, e0, e1⟩) | (exact ⟨m0, m1, m2⟩) | go_keep)
        (first
          | (refine Own.stepRow (w := (wr.alloc (.cells #[.int .u8 x, .int .u8 (d / 256), .int .u8 (d % 256)] 5)).drew) (by rfl) (.tmp 25) (.tmp 48) _ (by rfl) i0 _ 1 Try.underlying22 hi0 hz0 hz1 hz2 rfl (by rfl) ((hOr.alloc _).drew) (by rfl) ((ints3 wr 5 (WalkArith.wf_u8 (by omega)) (WalkArith.wf_u8 (by omega)) (WalkArith.wf_u8 (by omega))).drew) (by show _ ≤ (World.alloc _ _).heap.size; simp; omega) (by simp only [maxLen]; omega) (by omega) ?_; intro v2 w2 hO2 hg2 hat2; have hE2 := hE.app (w2 := (wr.alloc (.cells #[.int .u8 x, .int .u8 (d / 256), .int .u8 (d % 256)] 5)).drew) (belx) hg2 hat2; have hX2 := hE2.box X0 hng; have m0 := hX2.cell 0; have hB2 : Below base w w2 := (E00.trans hE2).below hbase (fun b hb => (HB0.out b hb).1); have m1 : w2.cell? ⟨b', off + j * 3, none⟩ = some (.int .i64 x) := bcell hB2 hb hes0.out; have m2 : w2.cell? ⟨b', off + j * 3 + 1, none⟩ = some (.int .i64 d) := bcell hB2 hb hes1.out))
      have m3 : w2.cell? ⟨b', off + j * 3 + 2, none⟩ = some (.slice A2 80 c2) := bcell hB2 hb hes2.out
      obtain ⟨L2, hL2⟩ : ∃ L2, L ++ [x, d / 256, d % 256] = L2 := ⟨_, rfl⟩
      rw [hL2] at hO2
      have hlen2 : L2.length ≤ 2001 := by rw [← hL2]; simp only [List.length_append, List.length_cons, List.length_nil]; omega
      have HL2 := Lib.hid hL2
      have hz2' := hE2.1.size
      have hS2 : Src w2 1 A2 80 (a.2.2.map (Value.int .u8)) := Src.of_ints (hI2.below hB2)
      clear hL2
      go_wp2_with (at_builtin; refine wpList_app _ rfl (.tmp 50) (.tmp 57) _ rfl base 5 i0 _ 1 1 Try.underlying22 hi0 hz0 hz1 hz2 rfl (by omega) v2 L2.length (L2.map (Value.int .u8)) rfl hO2.1 A2 80 c2 (a.2.2.map (Value.int .u8)) rfl hS2 (one_ints _ _) (by simp only [maxLen]; omega) (by omega) (by simp at hzr hz2'; omega) ?_; intro v3 w3 hown3 hg3 hat3)
      have hO3 := own_appN (r := a.2.2) hown3 hI2.1 hO2.2 hwa
      go_roundw
      case rel => exact ⟨j + 1, by omega, by go_num, by rw [HS.out, HHB.out]; rw [← HL2.out, ← HLL.out] at hO3; simpa [List.append_assoc] using hO3, hE2.app (Below.refl _ _) hg3 hat3⟩
      case measure => simp [intOf]; omega
    · obtain rfl : n0 = j := by omega
      have HA := Lib.hid (show p.1.take n0 = p.1 from List.take_of_length_le (Nat.le_of_eq E0.out))
      rw [HA.out] at hOr
      have hle := hdsB_le HP.out n0
      rw [HA.out] at hle
      obtain ⟨L, hL⟩ : ∃ L, l ++ [(n0 : Int), (n1 : Int)] ++ p.1.flatMap heldB = L := ⟨_, rfl⟩
      have hlen : L.length ≤ 1998 := by rw [← hL]; simp only [List.length_append, List.length_cons, List.length_nil]; have := HL.out; omega
      rw [hL] at hOr
      rw [hL] at HT
      clear hL hle hlt
      go_wp2_with fail
      go_loopw [0, 6] (fun v i wr => ∃ j : Nat, j ≤ n1 ∧ i = .int .i64 j ∧ Own .u8 5 wr base v (L ++ (p.2.take j).flatMap four) ∧ Ext (w.alloc (.cells #[.slice A0 n0 c0, .slice A1 n1 c1] 26)) (.slice A n c) wr v) (fun _ i _ => n1 - (intOf i).toNat)
      case atStart => exact ⟨0, by omega, rfl, by simpa using hOr, hE⟩
      case round =>
        clear hOr hE hX k0 k1 hBr hnr hzr
        obtain ⟨j, hj, rfl, hOr, hE⟩ := hrel
        have hX := hE.box X0 hng
        have k0 : wr.cell? ⟨w.heap.size, 0, none⟩ = some (.slice A0 n0 c0) := hX.cell 0
        have k1 : wr.cell? ⟨w.heap.size, 1, none⟩ = some (.slice A1 n1 c1) := hX.cell 1
        have hBr : Below base w wr := (E00.trans hE).below hbase (fun b hb => (HB0.out b hb).1)
        have hzr := hE.1.size
        by_cases hlt : j < n1
        · obtain ⟨b', off, rfl, hb, hcell, -⟩ := (hI1.below hBr).at_ hlt
          have HA1 := Lib.hid (atI E1.out hlt)
          have HS := Lib.hid (flS (f := four) HA1.out)
          have ht := HP.out.2.2.1 _ (alMem HA1.out)
          have hle := tagsB_le HP.out j
          obtain ⟨bs, hbs⟩ : ∃ bs, (p.2.take j).flatMap four = bs := ⟨_, rfl⟩
          obtain ⟨tg, htg⟩ : ∃ tg, p.2.getD j 0 = tg := ⟨_, rfl⟩
          rw [hbs] at hOr HS hle
          rw [htg] at hcell ht HS
          clear hbs htg HA1
          have hlb : (L ++ bs).length ≤ 2300 := by rw [List.length_append]; omega
          obtain ⟨L3, hL3⟩ : ∃ L3, L ++ bs = L3 := ⟨_, rfl⟩
          rw [hL3] at hOr hlb
          have HL3 := Lib.hid hL3
          clear hL3
          obtain ⟨Av, nv, cv, rfl, hnv⟩ := hOr.shapeN
          have HNV := Lib.hid (show nv ≤ 1000000 by omega)
          have HSZ := Lib.hid (show base ≤ wr.heap.size by simp at hzr; omega)
          clear hnv
          have j1 : (j : Int) < (n1 : Int) := by omega
          go_wp2_with fail
          refine (s_fourG hOr HSZ.out HNV.out tg (by unfold Ok at ht; omega)).mono ?_
          rintro e w2 ⟨v2, rfl, hO2, hE2⟩
          go_wp2
          go_roundw
          case rel => exact ⟨j + 1, by omega, by go_num, by rw [HS.out, ← List.append_assoc, HL3.out]; exact hO2, hE.trans hE2⟩
          case measure => simp [intOf]; omega
        · obtain rfl : n1 = j := by omega
          have HA1 := Lib.hid (show p.2.take n1 = p.2 from List.take_of_length_le (Nat.le_of_eq E1.out))
          rw [HA1.out, HT.out] at hOr
          go_wp2
          go_ret
          exact ⟨_, rfl, hOr, E00.trans hE⟩
theorem s_PoolBytes {w : World} {cs : List Value} {p : DPool} (h : tPool.R w w.heap.size cs p) (hz : szPool p ≤ 1048576) :
    Calls Try.prog 43 #[.agg cs.toArray] w fun e w' => ∃ A c, e = .returned (.tuple #[.slice A (fPlB p).length c, .bool (decide (PlOk p))]) ∧ tBy.R w' w'.heap.size [.slice A (fPlB p).length c] (fPlB p) ∧ Below w.heap.size w w' := by
  by_cases hp : PlOk p
  · have HP := Lib.hid (decide_eq_true hp)
    rw [HP.out]
    have HF := Lib.hid (fPlB_t hp)
    have HPP := Lib.hid hp
    obtain ⟨A0, n0, c0, A1, n1, c1, rfl, -, -, -, hr0, -, -, -, hr1⟩ := openPool h
    clear hp
    go_enter Try.func43, Try.ntmps43
    go_wp2_with fail
    refine (s_PoolOk (tPool.reach h ?hB) hz).mono ?_
    case hB => exact (belx)
    rintro e w1 ⟨rfl, hb1⟩
    rw [HP.out]
    have X1 : Box w1 w.heap.size 26 #[.slice A0 n0 c0, .slice A1 n1 c1] := (Box.new _ _ _).below hb1 (by simp)
    have k0 : w1.cell? ⟨w.heap.size, 0, none⟩ = some (.slice A0 n0 c0) := X1.cell 0
    have k1 : w1.cell? ⟨w.heap.size, 1, none⟩ = some (.slice A1 n1 c1) := X1.cell 1
    have hB1 : Below w.heap.size w w1 := bel_trans (belx) hb1
    go_wp2_with fail
    refine (s_l5bytes (Own.nil _ _ _ w1.heap.size) (Nat.le_refl _) (by omega) (tPool.reach h hB1) HPP.out).mono ?_
    rintro e w2 ⟨v, rfl, hO, hE⟩
    rw [List.nil_append] at hO
    obtain ⟨A, c, F, rfl, hO2, _⟩ := own_slice hO
    rw [← HF.out] at hO2 ⊢
    have hB2 : Below w1.heap.size w1 w2 := hE.below (Nat.le_refl _) (fun b hb => by simp [Value.ownBlock] at hb)
    go_wp2
    go_ret2
    exact ⟨A, c, rfl, tBy.read hO2, bel_trans hB1 hB2⟩
  · have HP := Lib.hid (decide_eq_false hp)
    rw [HP.out]
    obtain ⟨A0, n0, c0, A1, n1, c1, rfl, -, -, -, hr0, -, -, -, hr1⟩ := openPool h
    rw [fPlB_f hp]
    clear hp
    go_enter Try.func43, Try.ntmps43
    go_wp2_with fail
    refine (s_PoolOk (tPool.reach h ?hB) hz).mono ?_
    case hB => exact (belx)
    rintro e w1 ⟨rfl, hb1⟩
    rw [HP.out]
    go_wp2
    go_ret2
    exact ⟨none, 0, rfl, nilR, bel_trans (belx) hb1⟩
end Go.Proofs.Ytblcfncjghkegaa
