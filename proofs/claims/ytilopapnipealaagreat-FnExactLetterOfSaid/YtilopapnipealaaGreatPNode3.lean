/-
  A node is asked for a letter; a new node: contracts of LetterOf, NodeNew, of both sides.
-/
import Derived.Test.YtilopapnipealaaGreatPNode2
namespace Go.Proofs.YtilopapnipealaaGreat
set_option maxRecDepth 100000
set_option linter.unusedVariables false
set_option linter.unusedSimpArgs false
open Go.ChangeShapes Go.WideShapes Go.ChangeAt Go.RowKit
open Fld
theorem nilRowR {α : Type} {t : Ty α} {w : World} {B : Nat} : t.row.R w B [.slice none 0 0] [] := ⟨none, 0, 0, rfl, Nat.le_refl _, by omega, rfl, fun h => absurd h (by omega)⟩
theorem nilRowO {α : Type} {t : Ty α} {w : World} : t.row.O w [.slice none 0 0] [] [] := .inl ⟨none, 0, rfl, by omega, rfl, rfl⟩

set_option maxHeartbeats 2000000 in
theorem s_LetterOf {w : World} {cs : List Value} {p : DNode} {x : Int} (h : tNode.R w w.heap.size cs p) (hz : szNode p ≤ 1048576) (hx : (Lit.int .i64 x).wf = true) :
    Calls Tryz.prog 20 #[.agg cs.toArray, .int .i64 x] w fun e w' => ∃ A c, e = .returned (.tuple #[.slice A (fLet p x).length c, .bool (fLetB p x)]) ∧ tBy.R w' w'.heap.size [.slice A (fLet p x).length c] (fLet p x) ∧ Below w.heap.size w w' := by
  obtain ⟨A2, n2, c2, A3, n3, c3, A4, n4, c4, A5, n5, c5, A6, n6, c6, rfl, -, -, hP, hD, hL⟩ := fopenNode h
  by_cases hp : NdOk p
  · have HP := Lib.hid (decide_eq_true hp)
    obtain ⟨i0, hi0, hz0, hz1, hz2⟩ := info_parts info_cb
    have e6 := (rowR_len hL).1
    have hn6 : n6 ≤ 1048576 := by have h7 := got_le (l := p.2.2.2.2); rw [e6] at h7; unfold szNode at hz; omega
    have E6 := Lib.hid e6
    have HLN := Lib.hid hp.2.2.2.2.1
    obtain ⟨B, hBB⟩ : ∃ B, fLetB p x = B := ⟨_, rfl⟩
    obtain ⟨R, hRR⟩ : ∃ R, fLet p x = R := ⟨_, rfl⟩
    have HHIT := Lib.hid (show ∀ j a, (∀ c ∈ p.2.2.2.2.take j, c.1 ≠ x) → p.2.2.2.2[j]? = some a → a.1 = x → B = true ∧ R = a.2 from fun j a h1 h2 h3 => by rw [← hBB, ← hRR, fLetB_t hp, fLet_t hp, (let_hit h1 h2 h3).1, (let_hit h1 h2 h3).2]; exact ⟨rfl, rfl⟩)
    have HMISS := Lib.hid (show (∀ c ∈ p.2.2.2.2, c.1 ≠ x) → B = false ∧ R = [] from fun h1 => by rw [← hBB, ← hRR, fLetB_t hp, fLet_t hp, (let_miss h1).1, (let_miss h1).2]; exact ⟨rfl, rfl⟩)
    rw [hBB, hRR]
    clear hBB hRR hp e6
    go_enter Tryz.func20, Tryz.ntmps20
    go_wp2_with fail
    refine (s_NodeOk (tNode.reach h ?hB) hz).mono ?_
    case hB => exact (by repeat (first | (with_reducible exact Below.refl _ _) | (with_reducible assumption) | (with_reducible refine bel_alloc ?_ _) | (with_reducible refine bel_drew ?_) | (with_reducible refine below_drewN ?_ _) | (with_reducible refine bel_put ?_ (by first | exact Nat.le_refl _ | (simp; done) | (simp; omega)) _)))
    rintro e w1 ⟨rfl, hb1⟩
    rw [HP.out]
    have X1 : Box w1 w.heap.size 42 #[.int .i64 p.1, .int .i64 p.2.1, .slice A2 n2 c2, .slice A3 n3 c3, .slice A4 n4 c4, .slice A5 n5 c5, .slice A6 n6 c6] := (Box.new _ _ _).below hb1 (by simp)
    have k0 : w1.cell? ⟨w.heap.size, 0, none⟩ = some (.int .i64 p.1) := X1.cell 0
    have k1 : w1.cell? ⟨w.heap.size, 1, none⟩ = some (.int .i64 p.2.1) := X1.cell 1
    have k2 : w1.cell? ⟨w.heap.size, 2, none⟩ = some (.slice A2 n2 c2) := X1.cell 2
    have k3 : w1.cell? ⟨w.heap.size, 3, none⟩ = some (.slice A3 n3 c3) := X1.cell 3
    have k4 : w1.cell? ⟨w.heap.size, 4, none⟩ = some (.slice A4 n4 c4) := X1.cell 4
    have k5 : w1.cell? ⟨w.heap.size, 5, none⟩ = some (.slice A5 n5 c5) := X1.cell 5
    have k6 : w1.cell? ⟨w.heap.size, 6, none⟩ = some (.slice A6 n6 c6) := X1.cell 6
    have hB1 : Below w.heap.size w w1 := bel_trans (by repeat (first | (with_reducible exact Below.refl _ _) | (with_reducible assumption) | (with_reducible refine bel_alloc ?_ _) | (with_reducible refine bel_drew ?_) | (with_reducible refine below_drewN ?_ _) | (with_reducible refine bel_put ?_ (by first | exact Nat.le_refl _ | (simp; done) | (simp; omega)) _))) hb1
    have z1 : w.heap.size + 1 ≤ w1.heap.size := by have := hb1.size; simpa using this
    clear hb1
    go_wp2_with fail
    go_loop [6] (fun i => ∃ j : Nat, j ≤ n6 ∧ i = .int .i64 j ∧ ∀ c ∈ p.2.2.2.2.take j, c.1 ≠ x) (fun i => n6 - (intOf i).toNat)
    case atStart => exact ⟨0, by omega, rfl, al0⟩
    case round =>
      obtain ⟨j, hj, rfl, hN⟩ := hrel
      have HN := Lib.hid hN
      clear hN
      by_cases hlt : j < n6
      · obtain ⟨a, b', off, es, hl2, rfl, hb, hes, hR⟩ := rowR_at (K := 2) hL hlt rfl
        have HA := Lib.hid hl2
        obtain ⟨A7, n7, c7, rfl, -, ha7, hb7, hl7, hr7⟩ := openLetter hR
        have hn7 : n7 ≤ 160 := by rw [← hl7]; exact HLN.out a (alMem hl2)
        have hI7 := (slR_ints hr7).1
        clear hl2
        have u0 : w1.cell? ⟨b', off + j * 2, none⟩ = some (.int .i64 a.1) := cell_at hB1 hb (hes 0 (by omega))
        have u1 : w1.cell? ⟨b', off + j * 2 + 1, none⟩ = some (.slice A7 n7 c7) := cell_at hB1 hb (hes 1 (by omega))
        have i1 : (j : Int) < (n6 : Int) := by omega
        clear hes hR hl7 hr7
        by_cases he : a.1 = x
        · obtain ⟨rfl, rfl⟩ := HHIT.out j a HN.out HA.out he
          have q : (a.1 == x) = true := by simp [he]
          clear HHIT HMISS he
          have X1b := X1.alloc (.cells #[] 5)
          have k6b : (w1.alloc (.cells #[] 5)).cell? ⟨w.heap.size, 6, none⟩ = some (.slice (some ⟨b', off, none⟩) n6 c6) := X1b.cell 6
          have u1b : (w1.alloc (.cells #[] 5)).cell? ⟨b', off + j * 2 + 1, none⟩ = some (.slice A7 n7 c7) := cell_bel (bel_alloc (Below.refl _ _) _) u1
          have hsrc : Src (w1.alloc (.cells #[] 5)) 1 A7 n7 (a.2.map (Value.int .u8)) := Src.of_ints ((hI7.below hB1).alloc hB1.size _)
          go_wp2_with (at_builtin; refine wpList_app _ rfl (.tmp 25) (.tmp 31) _ rfl w1.heap.size 5 i0 _ 1 1 Tryz.underlying50 hi0 hz0 hz1 hz2 rfl (by omega) _ _ _ rfl (empty6 _ _ _ (Nat.le_refl _)) _ n7 _ (a.2.map (Value.int .u8)) rfl hsrc (one_ints _ _) (by simp only [maxLen]; omega) (by omega) (by simp) ?_; intro v1 w3 hown hgr hat)
          go_ret2
          obtain ⟨A, c, F, rfl, hO2, hN2⟩ := own_slice (Own.of (n := 0 + n7) (by simpa using hown) hI7.2.2)
          exact ⟨A, c, rfl, tBy.read hO2, Below.grown (w := w1.alloc (.cells #[] 5)) (bel_alloc hB1 _) hgr (by simp; omega) (fun b hb => by have e := Option.some.inj (show some w1.heap.size = some b from hb); omega)⟩
        · have q : (a.1 == x) = false := by simp [he]
          have HNE := Lib.hid he
          clear he
          go_wp2
          go_round
          case rel => exact ⟨j + 1, by omega, by go_num, alS HN.out HA.out HNE.out⟩
          case measure => simp [intOf]; omega
      · obtain rfl : n6 = j := by omega
        obtain ⟨rfl, rfl⟩ := HMISS.out (alE HN.out (by rw [E6.out]; exact Nat.le_refl _))
        clear HHIT HMISS
        go_wp2
        go_ret2
        exact ⟨none, 0, rfl, nilR, hB1⟩
  · have HP := Lib.hid (decide_eq_false hp)
    rw [fLet_f hp, fLetB_f hp]
    clear hp
    go_enter Tryz.func20, Tryz.ntmps20
    go_wp2_with fail
    refine (s_NodeOk (tNode.reach h ?hB) hz).mono ?_
    case hB => exact (by repeat (first | (with_reducible exact Below.refl _ _) | (with_reducible assumption) | (with_reducible refine bel_alloc ?_ _) | (with_reducible refine bel_drew ?_) | (with_reducible refine below_drewN ?_ _) | (with_reducible refine bel_put ?_ (by first | exact Nat.le_refl _ | (simp; done) | (simp; omega)) _)))
    rintro e w1 ⟨rfl, hb1⟩
    rw [HP.out]
    go_wp2
    go_ret2
    exact ⟨none, 0, rfl, nilR, bel_trans (by repeat (first | (with_reducible exact Below.refl _ _) | (with_reducible assumption) | (with_reducible refine bel_alloc ?_ _) | (with_reducible refine bel_drew ?_) | (with_reducible refine below_drewN ?_ _) | (with_reducible refine bel_put ?_ (by first | exact Nat.le_refl _ | (simp; done) | (simp; omega)) _))) hb1⟩
set_option maxHeartbeats 2000000 in
theorem i_LetterOf {w : World} {cs : List Value} {p : DNode} {x : Int} (h : tNode.R w w.heap.size cs p) (hz : szNode p ≤ 1048576) (hx : (Lit.int .i64 x).wf = true) :
    Calls Tryz.prog 21 #[.agg cs.toArray, .int .i64 x] w fun e w' => ∃ A c F, e = .returned (.tuple #[.slice A (fLet p x).length c, .bool (fLetB p x)]) ∧ tBy.O w' [.slice A (fLet p x).length c] (fLet p x) F ∧ New w.heap.size F ∧ Below w.heap.size w w' := by
  obtain ⟨A2, n2, c2, A3, n3, c3, A4, n4, c4, A5, n5, c5, A6, n6, c6, rfl, -, -, hP, hD, hL⟩ := fopenNode h
  by_cases hp : NdOk p
  · have HP := Lib.hid (decide_eq_true hp)
    have e6 := (rowR_len hL).1
    have hn6 : n6 ≤ 1048576 := by have h7 := got_le (l := p.2.2.2.2); rw [e6] at h7; unfold szNode at hz; omega
    have E6 := Lib.hid e6
    have HLN := Lib.hid hp.2.2.2.2.1
    obtain ⟨B, hBB⟩ : ∃ B, fLetB p x = B := ⟨_, rfl⟩
    obtain ⟨R, hRR⟩ : ∃ R, fLet p x = R := ⟨_, rfl⟩
    have HHIT := Lib.hid (show ∀ j a, (∀ c ∈ p.2.2.2.2.take j, c.1 ≠ x) → p.2.2.2.2[j]? = some a → a.1 = x → B = true ∧ R = a.2 from fun j a h1 h2 h3 => by rw [← hBB, ← hRR, fLetB_t hp, fLet_t hp, (let_hit h1 h2 h3).1, (let_hit h1 h2 h3).2]; exact ⟨rfl, rfl⟩)
    have HMISS := Lib.hid (show (∀ c ∈ p.2.2.2.2, c.1 ≠ x) → B = false ∧ R = [] from fun h1 => by rw [← hBB, ← hRR, fLetB_t hp, fLet_t hp, (let_miss h1).1, (let_miss h1).2]; exact ⟨rfl, rfl⟩)
    rw [hBB, hRR]
    clear hBB hRR hp e6
    go_enter Tryz.func21, Tryz.ntmps21
    go_wp2_with fail
    refine (i_NodeOk (tNode.reach h ?hB) hz).mono ?_
    case hB => exact (by repeat (first | (with_reducible exact Below.refl _ _) | (with_reducible assumption) | (with_reducible refine bel_alloc ?_ _) | (with_reducible refine bel_drew ?_) | (with_reducible refine below_drewN ?_ _) | (with_reducible refine bel_put ?_ (by first | exact Nat.le_refl _ | (simp; done) | (simp; omega)) _)))
    rintro e w1 ⟨rfl, hb1⟩
    rw [HP.out]
    have X1 : Box w1 w.heap.size 42 #[.int .i64 p.1, .int .i64 p.2.1, .slice A2 n2 c2, .slice A3 n3 c3, .slice A4 n4 c4, .slice A5 n5 c5, .slice A6 n6 c6] := (Box.new _ _ _).below hb1 (by simp)
    have k0 : w1.cell? ⟨w.heap.size, 0, none⟩ = some (.int .i64 p.1) := X1.cell 0
    have k1 : w1.cell? ⟨w.heap.size, 1, none⟩ = some (.int .i64 p.2.1) := X1.cell 1
    have k2 : w1.cell? ⟨w.heap.size, 2, none⟩ = some (.slice A2 n2 c2) := X1.cell 2
    have k3 : w1.cell? ⟨w.heap.size, 3, none⟩ = some (.slice A3 n3 c3) := X1.cell 3
    have k4 : w1.cell? ⟨w.heap.size, 4, none⟩ = some (.slice A4 n4 c4) := X1.cell 4
    have k5 : w1.cell? ⟨w.heap.size, 5, none⟩ = some (.slice A5 n5 c5) := X1.cell 5
    have k6 : w1.cell? ⟨w.heap.size, 6, none⟩ = some (.slice A6 n6 c6) := X1.cell 6
    have hB1 : Below w.heap.size w w1 := bel_trans (by repeat (first | (with_reducible exact Below.refl _ _) | (with_reducible assumption) | (with_reducible refine bel_alloc ?_ _) | (with_reducible refine bel_drew ?_) | (with_reducible refine below_drewN ?_ _) | (with_reducible refine bel_put ?_ (by first | exact Nat.le_refl _ | (simp; done) | (simp; omega)) _))) hb1
    have z1 : w.heap.size + 1 ≤ w1.heap.size := by have := hb1.size; simpa using this
    clear hb1
    go_wp2_with fail
    go_loopw [14] (fun i wr => ∃ j : Nat, j ≤ n6 ∧ i = .int .i64 j ∧ Below w.heap.size w wr ∧ ∀ c ∈ p.2.2.2.2.take j, c.1 ≠ x) (fun i _ => n6 - (intOf i).toNat)
    case atStart => exact ⟨0, by omega, rfl, hB1, al0⟩
    case round =>
      obtain ⟨j, hj, rfl, hB, hN⟩ := hrel
      have HN := Lib.hid hN
      clear hN
      by_cases hlt : j < n6
      · obtain ⟨a, b', off, es, hl2, rfl, hb, hes, hR⟩ := rowR_at (K := 2) hL hlt rfl
        have HA := Lib.hid hl2
        obtain ⟨A7, n7, c7, rfl, -, ha7, hb7, hl7, hr7⟩ := openLetter hR
        have hn7 : n7 ≤ 160 := by rw [← hl7]; exact HLN.out a (alMem hl2)
        have hI7 := (slR_ints hr7).1
        clear hl2
        have u0 : wr.cell? ⟨b', off + j * 2, none⟩ = some (.int .i64 a.1) := cell_at hB hb (hes 0 (by omega))
        have u1 : wr.cell? ⟨b', off + j * 2 + 1, none⟩ = some (.slice A7 n7 c7) := cell_at hB hb (hes 1 (by omega))
        have i1 : (j : Int) < (n6 : Int) := by omega
        clear hes hR hl7 hr7
        by_cases he : a.1 = x
        · obtain ⟨rfl, rfl⟩ := HHIT.out j a HN.out HA.out he
          have q : (a.1 == x) = true := by simp [he]
          clear HHIT HMISS he
          go_wp2_with fail
          refine (i_copiedB5 (reach hI7 ?hB) (by omega)).mono ?_
          case hB => exact (by repeat (first | (with_reducible exact Below.refl _ _) | (with_reducible assumption) | (with_reducible refine bel_alloc ?_ _) | (with_reducible refine bel_drew ?_) | (with_reducible refine below_drewN ?_ _) | (with_reducible refine bel_put ?_ (by first | exact Nat.le_refl _ | (simp; done) | (simp; omega)) _)))
          rintro e w2 ⟨v, rfl, hO, hb2⟩
          obtain ⟨A, c, F, rfl, hO2, hN2⟩ := own_slice hO
          go_wp2
          go_ret2
          exact ⟨A, c, F, rfl, hO2, hN2.lower (by have := hB.size; simp; omega), bel_trans hB (bel_trans (by repeat (first | (with_reducible exact Below.refl _ _) | (with_reducible assumption) | (with_reducible refine bel_alloc ?_ _) | (with_reducible refine bel_drew ?_) | (with_reducible refine below_drewN ?_ _) | (with_reducible refine bel_put ?_ (by first | exact Nat.le_refl _ | (simp; done) | (simp; omega)) _))) hb2)⟩
        · have q : (a.1 == x) = false := by simp [he]
          have HNE := Lib.hid he
          clear he
          go_wp2
          go_roundw
          case rel => exact ⟨j + 1, by omega, by go_num, (by repeat (first | (with_reducible exact Below.refl _ _) | (with_reducible assumption) | (with_reducible refine bel_alloc ?_ _) | (with_reducible refine bel_drew ?_) | (with_reducible refine below_drewN ?_ _) | (with_reducible refine bel_put ?_ (by first | exact Nat.le_refl _ | (simp; done) | (simp; omega)) _))), alS HN.out HA.out HNE.out⟩
          case measure => simp [intOf]; omega
      · obtain rfl : n6 = j := by omega
        obtain ⟨rfl, rfl⟩ := HMISS.out (alE HN.out (by rw [E6.out]; exact Nat.le_refl _))
        clear HHIT HMISS
        go_wp2
        go_ret2
        exact ⟨none, 0, [], rfl, nilO, New.nil _, hB⟩
  · have HP := Lib.hid (decide_eq_false hp)
    rw [fLet_f hp, fLetB_f hp]
    clear hp
    go_enter Tryz.func21, Tryz.ntmps21
    go_wp2_with fail
    refine (i_NodeOk (tNode.reach h ?hB) hz).mono ?_
    case hB => exact (by repeat (first | (with_reducible exact Below.refl _ _) | (with_reducible assumption) | (with_reducible refine bel_alloc ?_ _) | (with_reducible refine bel_drew ?_) | (with_reducible refine below_drewN ?_ _) | (with_reducible refine bel_put ?_ (by first | exact Nat.le_refl _ | (simp; done) | (simp; omega)) _)))
    rintro e w1 ⟨rfl, hb1⟩
    rw [HP.out]
    go_wp2
    go_ret2
    exact ⟨none, 0, [], rfl, nilO, New.nil _, bel_trans (by repeat (first | (with_reducible exact Below.refl _ _) | (with_reducible assumption) | (with_reducible refine bel_alloc ?_ _) | (with_reducible refine bel_drew ?_) | (with_reducible refine below_drewN ?_ _) | (with_reducible refine bel_put ?_ (by first | exact Nat.le_refl _ | (simp; done) | (simp; omega)) _))) hb1⟩
def NwOk (i s : Int) : Prop := (0 ≤ i ∧ i < 8) ∧ Sec s
noncomputable instance (i s : Int) : Decidable (NwOk i s) := Classical.propDecidable _
def nwN (i s : Int) : DNode := (i, s, ([], []), ([], []), [])
theorem nw_iff {i s : Int} : NdOk (nwN i s) ↔ NwOk i s := by
  constructor
  · intro h; exact ⟨h.1, h.2.1⟩
  · rintro ⟨h1, h2⟩
    refine ⟨h1, h2, ⟨⟨by simp [nwN], by simp [nwN]⟩, by simp [nwN], by simp [nwN], by simp [nwN]⟩, ⟨by simp [nwN], by simp [nwN], ?_, ?_, by simp [nwN]⟩, by simp [nwN], by simp [nwN]⟩
    · intro i hi; simp [nwN] at hi
    · intro i hi; simp [nwN] at hi
noncomputable def fNew (i s : Int) : DNode := if NwOk i s then nwN i s else nwN 0 0
theorem fNew_t {i s : Int} (h : NwOk i s) : fNew i s = nwN i s := if_pos h
theorem fNew_f {i s : Int} (h : ¬ NwOk i s) : fNew i s = nwN 0 0 := if_neg h
theorem fNew_sz (i s : Int) : szNode (fNew i s) = 0 := by
  unfold fNew; split <;> rfl
theorem nwO {w : World} {i s : Int} (hi : (Lit.int .i64 i).wf = true) (hs : (Lit.int .i64 s).wf = true) : tNode.O w [.int .i64 i, .int .i64 s, .slice none 0 0, .slice none 0 0, .slice none 0 0, .slice none 0 0, .slice none 0 0] (nwN i s) [] :=
  fmakeONode (G2 := []) (G4 := []) (G6 := []) (p := nwN i s) hi hs ⟨_, _, [], [], rfl, rfl, nilRowO, nilO⟩ ⟨_, _, [], [], rfl, rfl, nilRowO, nilO⟩ nilRowO
set_option maxHeartbeats 1000000 in
theorem s_NodeNewO {w : World} {i s : Int} (hi : (Lit.int .i64 i).wf = true) (hs : (Lit.int .i64 s).wf = true) :
    Calls Tryz.prog 16 #[.int .i64 i, .int .i64 s] w fun e w' => ∃ cs F, e = .returned (.tuple #[.agg cs.toArray, .bool (decide (NwOk i s))]) ∧ tNode.O w' cs (fNew i s) F ∧ New w.heap.size F ∧ Below w.heap.size w w' := by
  obtain ⟨b, hb⟩ : ∃ b, decide (NdOk (nwN i s)) = b := ⟨_, rfl⟩
  have HB := Lib.hid hb
  clear hb
  by_cases hp : NwOk i s
  · obtain rfl : b = true := by rw [← HB.out]; exact decide_eq_true (nw_iff.2 hp)
    rw [decide_eq_true hp, fNew_t hp]
    clear hp
    go_enter Tryz.func16, Tryz.ntmps16
    go_wp2_with fail
    refine (s_NodeOk (p := nwN i s) (tNode.read (nwO hi hs)) (by show (0 : Nat) ≤ 1048576; omega)).mono ?_
    rintro e w1 ⟨rfl, hb1⟩
    rw [HB.out]
    have X1 : Box w1 w.heap.size 42 #[.int .i64 0, .int .i64 0, .slice none 0 0, .slice none 0 0, .slice none 0 0, .slice none 0 0, .slice none 0 0] := Box.below ((Box.new _ _ _).alloc _) hb1 (by first | (simp; done) | (simp; omega))
    have Y1 : Box w1 (w.heap.size + 1) 42 #[.int .i64 i, .int .i64 s, .slice none 0 0, .slice none 0 0, .slice none 0 0, .slice none 0 0, .slice none 0 0] := Box.below (by simpa using Box.new (w.alloc _) 42 #[.int .i64 i, .int .i64 s, .slice none 0 0, .slice none 0 0, .slice none 0 0, .slice none 0 0, .slice none 0 0]) hb1 (by first | (simp; done) | (simp; omega))
    have hB1 : Below w.heap.size w w1 := bel_trans (by repeat (first | (with_reducible exact Below.refl _ _) | (with_reducible assumption) | (with_reducible refine bel_alloc ?_ _) | (with_reducible refine bel_drew ?_) | (with_reducible refine below_drewN ?_ _) | (with_reducible refine bel_put ?_ (by first | exact Nat.le_refl _ | (simp; done) | (simp; omega)) _))) hb1
    have y0 := Y1.cell 0; have x0 := X1.cell 0; have f0 := X1.frozen 0
    have y1 := Y1.cell 1; have x1 := X1.cell 1; have f1 := X1.frozen 1
    have y2 := Y1.cell 2; have x2 := X1.cell 2; have f2 := X1.frozen 2
    have y3 := Y1.cell 3; have x3 := X1.cell 3; have f3 := X1.frozen 3
    have y4 := Y1.cell 4; have x4 := X1.cell 4; have f4 := X1.frozen 4
    have y5 := Y1.cell 5; have x5 := X1.cell 5; have f5 := X1.frozen 5
    have y6 := Y1.cell 6; have x6 := X1.cell 6; have f6 := X1.frozen 6
    go_wp2
    have Z := (((((((X1.put 0 (.int .i64 i)).put 1 (.int .i64 s)).put 2 (.slice none 0 0)).put 3 (.slice none 0 0)).put 4 (.slice none 0 0)).put 5 (.slice none 0 0)).put 6 (.slice none 0 0))
    have e0 := Z.cell 0
    have e1 := Z.cell 1
    have e2 := Z.cell 2
    have e3 := Z.cell 3
    have e4 := Z.cell 4
    have e5 := Z.cell 5
    have e6 := Z.cell 6
    refine bodyPost_ret (v := .tuple #[.agg #[.int .i64 i, .int .i64 s, .slice none 0 0, .slice none 0 0, .slice none 0 0, .slice none 0 0, .slice none 0 0], .bool true]) (by simp [results, Tryz.results16, go_sem, e0, e1, e2, e3, e4, e5, e6]) rfl ⟨_, [], rfl, nwO hi hs, New.nil _, (bel_put (bel_put (bel_put (bel_put (bel_put (bel_put (bel_put hB1 (by first | exact Nat.le_refl _ | (simp; done) | (simp; omega)) _) (by first | exact Nat.le_refl _ | (simp; done) | (simp; omega)) _) (by first | exact Nat.le_refl _ | (simp; done) | (simp; omega)) _) (by first | exact Nat.le_refl _ | (simp; done) | (simp; omega)) _) (by first | exact Nat.le_refl _ | (simp; done) | (simp; omega)) _) (by first | exact Nat.le_refl _ | (simp; done) | (simp; omega)) _) (by first | exact Nat.le_refl _ | (simp; done) | (simp; omega)) _)⟩
  · obtain rfl : b = false := by rw [← HB.out]; exact decide_eq_false (fun hh => hp (nw_iff.1 hh))
    rw [decide_eq_false hp, fNew_f hp]
    clear hp
    go_enter Tryz.func16, Tryz.ntmps16
    go_wp2_with fail
    refine (s_NodeOk (p := nwN i s) (tNode.read (nwO hi hs)) (by show (0 : Nat) ≤ 1048576; omega)).mono ?_
    rintro e w1 ⟨rfl, hb1⟩
    rw [HB.out]
    have X1 : Box w1 w.heap.size 42 #[.int .i64 0, .int .i64 0, .slice none 0 0, .slice none 0 0, .slice none 0 0, .slice none 0 0, .slice none 0 0] := Box.below ((Box.new _ _ _).alloc _) hb1 (by first | (simp; done) | (simp; omega))
    have Y1 : Box w1 (w.heap.size + 1) 42 #[.int .i64 i, .int .i64 s, .slice none 0 0, .slice none 0 0, .slice none 0 0, .slice none 0 0, .slice none 0 0] := Box.below (by simpa using Box.new (w.alloc _) 42 #[.int .i64 i, .int .i64 s, .slice none 0 0, .slice none 0 0, .slice none 0 0, .slice none 0 0, .slice none 0 0]) hb1 (by first | (simp; done) | (simp; omega))
    have hB1 : Below w.heap.size w w1 := bel_trans (by repeat (first | (with_reducible exact Below.refl _ _) | (with_reducible assumption) | (with_reducible refine bel_alloc ?_ _) | (with_reducible refine bel_drew ?_) | (with_reducible refine below_drewN ?_ _) | (with_reducible refine bel_put ?_ (by first | exact Nat.le_refl _ | (simp; done) | (simp; omega)) _))) hb1
    have y0 := Y1.cell 0; have x0 := X1.cell 0; have f0 := X1.frozen 0
    have y1 := Y1.cell 1; have x1 := X1.cell 1; have f1 := X1.frozen 1
    have y2 := Y1.cell 2; have x2 := X1.cell 2; have f2 := X1.frozen 2
    have y3 := Y1.cell 3; have x3 := X1.cell 3; have f3 := X1.frozen 3
    have y4 := Y1.cell 4; have x4 := X1.cell 4; have f4 := X1.frozen 4
    have y5 := Y1.cell 5; have x5 := X1.cell 5; have f5 := X1.frozen 5
    have y6 := Y1.cell 6; have x6 := X1.cell 6; have f6 := X1.frozen 6
    go_wp2
    have Z := (((((((X1.put 0 (.int .i64 0)).put 1 (.int .i64 0)).put 2 (.slice none 0 0)).put 3 (.slice none 0 0)).put 4 (.slice none 0 0)).put 5 (.slice none 0 0)).put 6 (.slice none 0 0))
    have e0 := Z.cell 0
    have e1 := Z.cell 1
    have e2 := Z.cell 2
    have e3 := Z.cell 3
    have e4 := Z.cell 4
    have e5 := Z.cell 5
    have e6 := Z.cell 6
    refine bodyPost_ret (v := .tuple #[.agg #[.int .i64 0, .int .i64 0, .slice none 0 0, .slice none 0 0, .slice none 0 0, .slice none 0 0, .slice none 0 0], .bool false]) (by simp [results, Tryz.results16, go_sem, e0, e1, e2, e3, e4, e5, e6]) rfl ⟨_, [], rfl, nwO (by decide) (by decide), New.nil _, (bel_put (bel_put (bel_put (bel_put (bel_put (bel_put (bel_put hB1 (by first | exact Nat.le_refl _ | (simp; done) | (simp; omega)) _) (by first | exact Nat.le_refl _ | (simp; done) | (simp; omega)) _) (by first | exact Nat.le_refl _ | (simp; done) | (simp; omega)) _) (by first | exact Nat.le_refl _ | (simp; done) | (simp; omega)) _) (by first | exact Nat.le_refl _ | (simp; done) | (simp; omega)) _) (by first | exact Nat.le_refl _ | (simp; done) | (simp; omega)) _) (by first | exact Nat.le_refl _ | (simp; done) | (simp; omega)) _)⟩
theorem s_NodeNew {w : World} {i s : Int} (hi : (Lit.int .i64 i).wf = true) (hs : (Lit.int .i64 s).wf = true) :
    Calls Tryz.prog 16 #[.int .i64 i, .int .i64 s] w fun e w' => ∃ cs, e = .returned (.tuple #[.agg cs.toArray, .bool (decide (NwOk i s))]) ∧ tNode.R w' w'.heap.size cs (fNew i s) ∧ Below w.heap.size w w' :=
  (s_NodeNewO hi hs).mono fun e w' ⟨cs, F, he, hO, _, hB⟩ => ⟨cs, he, tNode.read hO, hB⟩
set_option maxHeartbeats 1000000 in
theorem i_NodeNew {w : World} {i s : Int} (hi : (Lit.int .i64 i).wf = true) (hs : (Lit.int .i64 s).wf = true) :
    Calls Tryz.prog 17 #[.int .i64 i, .int .i64 s] w fun e w' => ∃ cs F, e = .returned (.tuple #[.agg cs.toArray, .bool (decide (NwOk i s))]) ∧ tNode.O w' cs (fNew i s) F ∧ New w.heap.size F ∧ Below w.heap.size w w' := by
  obtain ⟨b, hb⟩ : ∃ b, decide (NdOk (nwN i s)) = b := ⟨_, rfl⟩
  have HB := Lib.hid hb
  clear hb
  by_cases hp : NwOk i s
  · obtain rfl : b = true := by rw [← HB.out]; exact decide_eq_true (nw_iff.2 hp)
    rw [decide_eq_true hp, fNew_t hp]
    clear hp
    go_enter Tryz.func17, Tryz.ntmps17
    go_wp2_with fail
    refine (i_NodeOk (p := nwN i s) (tNode.read (nwO hi hs)) (by show (0 : Nat) ≤ 1048576; omega)).mono ?_
    rintro e w1 ⟨rfl, hb1⟩
    rw [HB.out]
    have X1 : Box w1 w.heap.size 42 #[.int .i64 0, .int .i64 0, .slice none 0 0, .slice none 0 0, .slice none 0 0, .slice none 0 0, .slice none 0 0] := Box.below ((Box.new _ _ _).alloc _) hb1 (by first | (simp; done) | (simp; omega))
    have Y1 : Box w1 (w.heap.size + 1) 42 #[.int .i64 i, .int .i64 s, .slice none 0 0, .slice none 0 0, .slice none 0 0, .slice none 0 0, .slice none 0 0] := Box.below (by simpa using Box.new (w.alloc _) 42 #[.int .i64 i, .int .i64 s, .slice none 0 0, .slice none 0 0, .slice none 0 0, .slice none 0 0, .slice none 0 0]) hb1 (by first | (simp; done) | (simp; omega))
    have hB1 : Below w.heap.size w w1 := bel_trans (by repeat (first | (with_reducible exact Below.refl _ _) | (with_reducible assumption) | (with_reducible refine bel_alloc ?_ _) | (with_reducible refine bel_drew ?_) | (with_reducible refine below_drewN ?_ _) | (with_reducible refine bel_put ?_ (by first | exact Nat.le_refl _ | (simp; done) | (simp; omega)) _))) hb1
    have y0 := Y1.cell 0; have x0 := X1.cell 0; have f0 := X1.frozen 0
    have y1 := Y1.cell 1; have x1 := X1.cell 1; have f1 := X1.frozen 1
    have y2 := Y1.cell 2; have x2 := X1.cell 2; have f2 := X1.frozen 2
    have y3 := Y1.cell 3; have x3 := X1.cell 3; have f3 := X1.frozen 3
    have y4 := Y1.cell 4; have x4 := X1.cell 4; have f4 := X1.frozen 4
    have y5 := Y1.cell 5; have x5 := X1.cell 5; have f5 := X1.frozen 5
    have y6 := Y1.cell 6; have x6 := X1.cell 6; have f6 := X1.frozen 6
    go_wp2
    have Z := (((((((X1.put 0 (.int .i64 i)).put 1 (.int .i64 s)).put 2 (.slice none 0 0)).put 3 (.slice none 0 0)).put 4 (.slice none 0 0)).put 5 (.slice none 0 0)).put 6 (.slice none 0 0))
    have e0 := Z.cell 0
    have e1 := Z.cell 1
    have e2 := Z.cell 2
    have e3 := Z.cell 3
    have e4 := Z.cell 4
    have e5 := Z.cell 5
    have e6 := Z.cell 6
    refine bodyPost_ret (v := .tuple #[.agg #[.int .i64 i, .int .i64 s, .slice none 0 0, .slice none 0 0, .slice none 0 0, .slice none 0 0, .slice none 0 0], .bool true]) (by simp [results, Tryz.results17, go_sem, e0, e1, e2, e3, e4, e5, e6]) rfl ⟨_, [], rfl, nwO hi hs, New.nil _, (bel_put (bel_put (bel_put (bel_put (bel_put (bel_put (bel_put hB1 (by first | exact Nat.le_refl _ | (simp; done) | (simp; omega)) _) (by first | exact Nat.le_refl _ | (simp; done) | (simp; omega)) _) (by first | exact Nat.le_refl _ | (simp; done) | (simp; omega)) _) (by first | exact Nat.le_refl _ | (simp; done) | (simp; omega)) _) (by first | exact Nat.le_refl _ | (simp; done) | (simp; omega)) _) (by first | exact Nat.le_refl _ | (simp; done) | (simp; omega)) _) (by first | exact Nat.le_refl _ | (simp; done) | (simp; omega)) _)⟩
  · obtain rfl : b = false := by rw [← HB.out]; exact decide_eq_false (fun hh => hp (nw_iff.1 hh))
    rw [decide_eq_false hp, fNew_f hp]
    clear hp
    go_enter Tryz.func17, Tryz.ntmps17
    go_wp2_with fail
    refine (i_NodeOk (p := nwN i s) (tNode.read (nwO hi hs)) (by show (0 : Nat) ≤ 1048576; omega)).mono ?_
    rintro e w1 ⟨rfl, hb1⟩
    rw [HB.out]
    have X1 : Box w1 w.heap.size 42 #[.int .i64 0, .int .i64 0, .slice none 0 0, .slice none 0 0, .slice none 0 0, .slice none 0 0, .slice none 0 0] := Box.below ((Box.new _ _ _).alloc _) hb1 (by first | (simp; done) | (simp; omega))
    have Y1 : Box w1 (w.heap.size + 1) 42 #[.int .i64 i, .int .i64 s, .slice none 0 0, .slice none 0 0, .slice none 0 0, .slice none 0 0, .slice none 0 0] := Box.below (by simpa using Box.new (w.alloc _) 42 #[.int .i64 i, .int .i64 s, .slice none 0 0, .slice none 0 0, .slice none 0 0, .slice none 0 0, .slice none 0 0]) hb1 (by first | (simp; done) | (simp; omega))
    have hB1 : Below w.heap.size w w1 := bel_trans (by repeat (first | (with_reducible exact Below.refl _ _) | (with_reducible assumption) | (with_reducible refine bel_alloc ?_ _) | (with_reducible refine bel_drew ?_) | (with_reducible refine below_drewN ?_ _) | (with_reducible refine bel_put ?_ (by first | exact Nat.le_refl _ | (simp; done) | (simp; omega)) _))) hb1
    have y0 := Y1.cell 0; have x0 := X1.cell 0; have f0 := X1.frozen 0
    have y1 := Y1.cell 1; have x1 := X1.cell 1; have f1 := X1.frozen 1
    have y2 := Y1.cell 2; have x2 := X1.cell 2; have f2 := X1.frozen 2
    have y3 := Y1.cell 3; have x3 := X1.cell 3; have f3 := X1.frozen 3
    have y4 := Y1.cell 4; have x4 := X1.cell 4; have f4 := X1.frozen 4
    have y5 := Y1.cell 5; have x5 := X1.cell 5; have f5 := X1.frozen 5
    have y6 := Y1.cell 6; have x6 := X1.cell 6; have f6 := X1.frozen 6
    go_wp2
    have Z := (((((((X1.put 0 (.int .i64 0)).put 1 (.int .i64 0)).put 2 (.slice none 0 0)).put 3 (.slice none 0 0)).put 4 (.slice none 0 0)).put 5 (.slice none 0 0)).put 6 (.slice none 0 0))
    have e0 := Z.cell 0
    have e1 := Z.cell 1
    have e2 := Z.cell 2
    have e3 := Z.cell 3
    have e4 := Z.cell 4
    have e5 := Z.cell 5
    have e6 := Z.cell 6
    refine bodyPost_ret (v := .tuple #[.agg #[.int .i64 0, .int .i64 0, .slice none 0 0, .slice none 0 0, .slice none 0 0, .slice none 0 0, .slice none 0 0], .bool false]) (by simp [results, Tryz.results17, go_sem, e0, e1, e2, e3, e4, e5, e6]) rfl ⟨_, [], rfl, nwO (by decide) (by decide), New.nil _, (bel_put (bel_put (bel_put (bel_put (bel_put (bel_put (bel_put hB1 (by first | exact Nat.le_refl _ | (simp; done) | (simp; omega)) _) (by first | exact Nat.le_refl _ | (simp; done) | (simp; omega)) _) (by first | exact Nat.le_refl _ | (simp; done) | (simp; omega)) _) (by first | exact Nat.le_refl _ | (simp; done) | (simp; omega)) _) (by first | exact Nat.le_refl _ | (simp; done) | (simp; omega)) _) (by first | exact Nat.le_refl _ | (simp; done) | (simp; omega)) _) (by first | exact Nat.le_refl _ | (simp; done) | (simp; omega)) _)⟩
end Go.Proofs.YtilopapnipealaaGreat
