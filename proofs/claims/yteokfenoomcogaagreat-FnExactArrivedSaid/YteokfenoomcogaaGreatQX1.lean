/-
  PNode3: texts joined.
-/
import Derived.Test.YteokfenoomcogaaGreatQGn
namespace Go.Proofs.YteokfenoomcogaaGreat
set_option maxRecDepth 100000
set_option linter.unusedVariables false
set_option linter.unusedSimpArgs false
open Go.ChangeShapes Go.WideShapes Go.ChangeAt Go.RowKit
open Fld
set_option maxHeartbeats 2000000 in
theorem s_LetterOf {w : World} {cs : List Value} {p : DNode} {x : Int} (h : tNode.R w w.heap.size cs p) (hz : szNode p ≤ 1048576) (hx : (Lit.int .i64 x).wf = true) :
    Calls Tryz.prog 87 #[.agg cs.toArray, .int .i64 x] w fun e w' => ∃ A c, e = .returned (.tuple #[.slice A (fLet p x).length c, .bool (fLetB p x)]) ∧ tBy.R w' w'.heap.size [.slice A (fLet p x).length c] (fLet p x) ∧ Below w.heap.size w w' := by
  obtain ⟨A2, n2, c2, A3, n3, c3, A4, n4, c4, A5, n5, c5, A6, n6, c6, rfl, -, -, hP, hD, hL⟩ := fopenNode h
  by_cases hp : NdOk p
  · have HP := Lib.hid (decide_eq_true hp)
    obtain ⟨i0, hi0, hz0, hz1, hz2⟩ := info_parts info_cb
    have e6 := (rowR_len hL).1
    have hn6 : n6 ≤ 1048576 := by have h7 := got_le (l := p.2.2.2.2); rw [e6] at h7; unfold szNode at hz; omega
    have E6 := Lib.hid e6
    have HLN := Lib.hid hp.2.2.2.2.1
    obtain ⟨B, hBB⟩ : ∃ B, fLetB p x = B := ⟨_, rfl⟩
    obtain ⟨R, hRR⟩ : ∃ R, fLet p x = R := ⟨_, rfl⟩
    have HHIT := Lib.hid (show ∀ j a, (∀ c ∈ p.2.2.2.2.take j, c.1 ≠ x) → p.2.2.2.2[j]? = some a → a.1 = x → B = true ∧ R = a.2 from fun j a h1 h2 h3 => by rw [← hBB, ← hRR, fLetB_t hp, fLet_t hp, (let_hit h1 h2 h3).1, (let_hit h1 h2 h3).2]; exact ⟨rfl, rfl⟩)
    have HMISS := Lib.hid (show (∀ c ∈ p.2.2.2.2, c.1 ≠ x) → B = false ∧ R = [] from fun h1 => by rw [← hBB, ← hRR, fLetB_t hp, fLet_t hp, (let_miss h1).1, (let_miss h1).2]; exact ⟨rfl, rfl⟩)
    rw [hBB, hRR]
    clear hBB hRR hp e6
    go_enter Tryz.func87, Tryz.ntmps87
    go_wp2_with fail
    refine (s_NodeOk (tNode.reach h ?hB) hz).mono ?_
    case hB => exact (belx)
    rintro e w1 ⟨rfl, hb1⟩
    rw [HP.out]
    have X1 : Box w1 w.heap.size 71 #[.int .i64 p.1, .int .i64 p.2.1, .slice A2 n2 c2, .slice A3 n3 c3, .slice A4 n4 c4, .slice A5 n5 c5, .slice A6 n6 c6] := (Box.new _ _ _).below hb1 (by simp)
    have k0 : w1.cell? ⟨w.heap.size, 0, none⟩ = some (.int .i64 p.1) := X1.cell 0
    have k1 : w1.cell? ⟨w.heap.size, 1, none⟩ = some (.int .i64 p.2.1) := X1.cell 1
    have k2 : w1.cell? ⟨w.heap.size, 2, none⟩ = some (.slice A2 n2 c2) := X1.cell 2
    have k3 : w1.cell? ⟨w.heap.size, 3, none⟩ = some (.slice A3 n3 c3) := X1.cell 3
    have k4 : w1.cell? ⟨w.heap.size, 4, none⟩ = some (.slice A4 n4 c4) := X1.cell 4
    have k5 : w1.cell? ⟨w.heap.size, 5, none⟩ = some (.slice A5 n5 c5) := X1.cell 5
    have k6 : w1.cell? ⟨w.heap.size, 6, none⟩ = some (.slice A6 n6 c6) := X1.cell 6
    have hB1 : Below w.heap.size w w1 := bel_trans (belx) hb1
    have z1 : w.heap.size + 1 ≤ w1.heap.size := by have := hb1.size; simpa using this
    clear hb1
    go_wp2_with fail
    go_loop [6] (fun i => ∃ j : Nat, j ≤ n6 ∧ i = .int .i64 j ∧ ∀ c ∈ p.2.2.2.2.take j, c.1 ≠ x) (fun i => n6 - (intOf i).toNat)
    case atStart => exact ⟨0, by omega, rfl, al0⟩
    case round =>
      obtain ⟨j, hj, rfl, hN⟩ := hrel
      have HN := Lib.hid hN
      clear hN
      by_cases hlt : j < n6
      · obtain ⟨a, b', off, es, hl2, rfl, hb, hes, hR⟩ := rowR_at (K := 2) hL hlt rfl
        have HA := Lib.hid hl2
        obtain ⟨A7, n7, c7, rfl, -, ha7, hb7, hl7, hr7⟩ := openLetter hR
        have hn7 : n7 ≤ 160 := by rw [← hl7]; exact HLN.out a (alMem hl2)
        have hI7 := (slR_ints hr7).1
        clear hl2
        have u0 : w1.cell? ⟨b', off + j * 2, none⟩ = some (.int .i64 a.1) := cell_at hB1 hb (hes 0 (by omega))
        have u1 : w1.cell? ⟨b', off + j * 2 + 1, none⟩ = some (.slice A7 n7 c7) := cell_at hB1 hb (hes 1 (by omega))
        have i1 : (j : Int) < (n6 : Int) := by omega
        clear hes hR hl7 hr7
        by_cases he : a.1 = x
        · obtain ⟨rfl, rfl⟩ := HHIT.out j a HN.out HA.out he
          have q : (a.1 == x) = true := by simp [he]
          clear HHIT HMISS he
          have X1b := X1.alloc (.cells #[] 5)
          have k6b : (w1.alloc (.cells #[] 5)).cell? ⟨w.heap.size, 6, none⟩ = some (.slice (some ⟨b', off, none⟩) n6 c6) := X1b.cell 6
          have u1b : (w1.alloc (.cells #[] 5)).cell? ⟨b', off + j * 2 + 1, none⟩ = some (.slice A7 n7 c7) := cell_bel (bel_alloc (Below.refl _ _) _) u1
          have hsrc : Src (w1.alloc (.cells #[] 5)) 1 A7 n7 (a.2.map (Value.int .u8)) := Src.of_ints ((hI7.below hB1).alloc hB1.size _)
          go_wp2_with (at_builtin; refine wpList_app _ rfl (.tmp 25) (.tmp 31) _ rfl w1.heap.size 5 i0 _ 1 1 Tryz.underlying50 hi0 hz0 hz1 hz2 rfl (by omega) _ _ _ rfl (empty6 _ _ _ (Nat.le_refl _)) _ n7 _ (a.2.map (Value.int .u8)) rfl hsrc (one_ints _ _) (by simp only [maxLen]; omega) (by omega) (by simp) ?_; intro v1 w3 hown hgr hat)
          go_ret2
          obtain ⟨A, c, F, rfl, hO2, hN2⟩ := own_slice (Own.of (n := 0 + n7) (by simpa using hown) hI7.2.2)
          exact ⟨A, c, rfl, tBy.read hO2, Below.grown (w := w1.alloc (.cells #[] 5)) (bel_alloc hB1 _) hgr (by simp; omega) (fun b hb => by have e := Option.some.inj (show some w1.heap.size = some b from hb); omega)⟩
        · have q : (a.1 == x) = false := by simp [he]
          have HNE := Lib.hid he
          clear he
          go_wp2
          go_round
          case rel => exact ⟨j + 1, by omega, by go_num, alS HN.out HA.out HNE.out⟩
          case measure => simp [intOf]; omega
      · obtain rfl : n6 = j := by omega
        obtain ⟨rfl, rfl⟩ := HMISS.out (alE HN.out (by rw [E6.out]; exact Nat.le_refl _))
        clear HHIT HMISS
        go_wp2
        go_ret2
        exact ⟨none, 0, rfl, nilR, hB1⟩
  · have HP := Lib.hid (decide_eq_false hp)
    rw [fLet_f hp, fLetB_f hp]
    clear hp
    go_enter Tryz.func87, Tryz.ntmps87
    go_wp2_with fail
    refine (s_NodeOk (tNode.reach h ?hB) hz).mono ?_
    case hB => exact (belx)
    rintro e w1 ⟨rfl, hb1⟩
    rw [HP.out]
    go_wp2
    go_ret2
    exact ⟨none, 0, rfl, nilR, bel_trans (belx) hb1⟩
def NwOk (i s : Int) : Prop := (0 ≤ i ∧ i < 8) ∧ Sec s
noncomputable instance (i s : Int) : Decidable (NwOk i s) := Classical.propDecidable _
end Go.Proofs.YteokfenoomcogaaGreat
