/-
  PFg1: texts joined.
-/
import Derived.Test.YtkdanlnhdgcplaaGreatFGa
import Derived.Test.YtkdanlnhdgcplaaGreatFMCpM
import Derived.Test.YtkdanlnhdgcplaaGreatFMShs
namespace Go.Proofs.YtkdanlnhdgcplaaGreat
set_option maxRecDepth 100000
set_option linter.unusedVariables false
set_option linter.unusedSimpArgs false
open Go.ChangeShapes Go.WideShapes Go.ChangeAt Go.RowKit
open Fld
def Blk (v : Value) (F : List Nat) (b : Nat) : Prop := v.ownBlock = some b ∨ b ∈ F
section
variable {α : Type} {t : Ty α} {e : TypeId} {w w' : World} {base B : Nat} {v : Value} {l : List α} {F : List Nat}
theorem GrowO.lower (h : GrowO t e w base v l F) (hb : B ≤ base) : GrowO t e w B v l F := by
 obtain ⟨⟨css, Fs, k1, k2, k3, k4, k5⟩, k6, k7⟩ := h
 exact ⟨⟨css, Fs, ⟨k1.1, k1.2.imp id (fun ⟨g, cap, cur, e1, hg, r⟩ => ⟨g, cap, cur, e1, Nat.le_trans hb hg, r⟩)⟩, k2, k3, k4, k5⟩, k6.lower hb, k7⟩
theorem GrowO.blk (h : GrowO t e w base v l F) : ∀ b, Blk v F b → base ≤ b ∧ b < w.heap.size := fun b hb => by
 rcases hb with hb | hb
 ·exact h.own b hb
 ·exact ⟨h.2.1.2 b hb, h.lt b hb⟩
theorem GrowO.done2 (h : GrowO t e w base v l F) : ∃ A c F', v = .slice A l.length c ∧ t.row.O w [.slice A l.length c] l F' ∧ F'.Nodup ∧ ∀ f ∈ F', Blk v F f := by
 obtain ⟨⟨css, Fs, h1, h2, h3, rfl, h5⟩, h6, h7⟩ := h
 rcases h1.2 with ⟨rfl, h0⟩ | ⟨g, cap, cur, rfl, hb, hg, hn, hm, hs, ht⟩
 ·have : l = [] := List.eq_nil_of_length_eq_zero h0
  subst this
  exact ⟨none, 0, [], rfl, .inl ⟨none, 0, rfl, by omega, rfl, rfl⟩, List.nodup_nil, fun f hf => by simp at hf⟩
 ·by_cases h0 : 0 < l.length
  ·refine ⟨_, cap, g :: Fs.flatten, rfl, .inr ⟨g, 0, cap, cur, e, Fs, rfl, h0, hn, by simp only [maxLen] at hm; omega, hg, h3, rfl, fun i a Fi q1 q2 => ?_⟩, List.nodup_cons.2 ⟨h7 g rfl, h6.1⟩, fun f hf => ?_⟩
   ·have hi : i < l.length := (List.getElem?_eq_some_iff.1 q1).1
    have hc : css[i]? = some (css[i]'(by omega)) := List.getElem?_eq_getElem (by omega)
    refine ⟨_, fun j hj => ?_, h5 i a _ Fi q1 hc q2⟩
    have hlen : ∀ es ∈ css, es.length = t.k := fun es hes => by
     obtain ⟨i', hi', rfl⟩ := List.getElem_of_mem hes
     exact t.lenO (h5 i' _ _ _ (List.getElem?_eq_getElem (by omega)) (List.getElem?_eq_getElem hi') (List.getElem?_eq_getElem (by omega)))
    have hb2 : (i + 1) * t.k ≤ l.length * t.k := Nat.mul_le_mul_right _ hi
    rw [Nat.succ_mul] at hb2
    rw [← flat_at hlen hc hj, ← ht, List.getElem?_take, if_pos (by omega)]
    simp
   ·rcases List.mem_cons.1 hf with rfl | hf
    ·exact .inl rfl
    ·exact .inr hf
  ·have : l = [] := List.eq_nil_of_length_eq_zero (by omega)
   subst this
   exact ⟨_, cap, [], rfl, .inl ⟨_, cap, rfl, by simp only [maxLen] at hm; omega, rfl, rfl⟩, List.nodup_nil, fun f hf => by simp at hf⟩
end
set_option maxHeartbeats 2000000 in
theorem i_NetCopyG {w : World} {cs : List Value} {p : DNet} (h : tNet.R w w.heap.size cs p) (hz : szNet p ≤ 1048576) :
  Calls Tryz.prog 69 #[.agg cs.toArray] w fun e w' => ∃ (D3 : Option Addr) (g3 : Nat) (F3 : List Nat) (D4 : Option Addr) (g4 : Nat) (F4 : List Nat) (D5 : Option Addr) (g5 : Nat) (F5 : List Nat) (D6 : Option Addr) (g6 b4 b5 b6 : Nat), e = .returned (.agg #[.int .i64 p.1, .int .i64 p.2.1, .int .i64 p.2.2.1, .slice D3 (p.2.2.2.1).length g3, .slice D4 (p.2.2.2.2.1).length g4, .slice D5 (p.2.2.2.2.2.1).length g5, .slice D6 (p.2.2.2.2.2.2).length g6]) ∧ GrowO tNode 109 w' w.heap.size (.slice D3 (p.2.2.2.1).length g3) (p.2.2.2.1) F3 ∧ GrowO tMail 62 w' b4 (.slice D4 (p.2.2.2.2.1).length g4) (p.2.2.2.2.1) F4 ∧ GrowO tSent 111 w' b5 (.slice D5 (p.2.2.2.2.2.1).length g5) (p.2.2.2.2.2.1) F5 ∧ GrowO tGlance 113 w' b6 (.slice D6 (p.2.2.2.2.2.2).length g6) (p.2.2.2.2.2.2) [] ∧ (w.heap.size ≤ b4 ∧ b4 ≤ b5 ∧ b5 ≤ b6 ∧ b6 ≤ w'.heap.size) ∧ (∀ b, Blk (.slice D3 (p.2.2.2.1).length g3) F3 b → b < b4) ∧ (∀ b, Blk (.slice D4 (p.2.2.2.2.1).length g4) F4 b → b < b5) ∧ (∀ b, Blk (.slice D5 (p.2.2.2.2.2.1).length g5) F5 b → b < b6) ∧ Bel w w' := by
 obtain ⟨A3, n3, c3, A4, n4, c4, A5, n5, c5, A6, n6, c6, rfl, i0, i1, i2, -, -, -, r3, -, -, -, r4, -, -, -, r5, -, -, -, r6⟩ := openNet h
 have hn3 : n3 ≤ 1048576 := by have := rsz_le (s := szNode) (p.2.2.2.1); have := (rowR_len r3).1; unfold szNet at hz; omega
 have HSZ3 := Lib.hid (show ∀ (i : Nat) (a : DNode), (p.2.2.2.1)[i]? = some a → szNode a ≤ 1048576 from fun i a ha => by have := rsz_step (s := szNode) ha; unfold szNet at hz; omega)
 have hn4 : n4 ≤ 1048576 := by have := rsz_le (s := szMail) (p.2.2.2.2.1); have := (rowR_len r4).1; unfold szNet at hz; omega
 have HSZ4 := Lib.hid (show ∀ (i : Nat) (a : DMail), (p.2.2.2.2.1)[i]? = some a → szMail a ≤ 1048576 from fun i a ha => by have := rsz_step (s := szMail) ha; unfold szNet at hz; omega)
 have hn5 : n5 ≤ 1048576 := by have := rsz_le (s := szSent) (p.2.2.2.2.2.1); have := (rowR_len r5).1; unfold szNet at hz; omega
 have HSZ5 := Lib.hid (show ∀ (i : Nat) (a : DSent), (p.2.2.2.2.2.1)[i]? = some a → szSent a ≤ 1048576 from fun i a ha => by have := rsz_step (s := szSent) ha; unfold szNet at hz; omega)
 have hn6 : n6 ≤ 1048576 := by have := rsz_le (s := szGlance) (p.2.2.2.2.2.2); have := (rowR_len r6).1; unfold szNet at hz; omega
 go_enter Tryz.func69, Tryz.ntmps69
 go_wp2_with fail
 refine (i_eachNodeG 109 (fun _ _ => rfl) (fun i a w' cs ha hB hR => i_NodeCopy hR (HSZ3.out i a ha)) (tNode.row.reach r3 ?hB) hn3).mono ?_
 case hB => exact (belx)
 rintro e w1 ⟨D3, g3, F3, rfl, hG3, hb1⟩
 have z1 : w.heap.size + 2 ≤ w1.heap.size := by have h : (World.alloc (World.alloc w _) _).heap.size ≤ w1.heap.size := hb1.size; simpa using h
 have P1 : Box w1 w.heap.size 35 #[.int .i64 p.1, .int .i64 p.2.1, .int .i64 p.2.2.1, .slice A3 n3 c3, .slice A4 n4 c4, .slice A5 n5 c5, .slice A6 n6 c6] := Box.below ((Box.new w _ _).alloc _) hb1 (by simp; omega)
 have R1 : Box w1 (w.heap.size + 1) 35 #[.int .i64 0, .int .i64 0, .int .i64 0, .slice none 0 0, .slice none 0 0, .slice none 0 0, .slice none 0 0] := Box.below (by simpa using Box.new (w.alloc _) 35 #[.int .i64 0, .int .i64 0, .int .i64 0, .slice none 0 0, .slice none 0 0, .slice none 0 0, .slice none 0 0]) hb1 (by simp)
 have hO3 : GrowO tNode 109 w1 (w.heap.size + 2) (.slice D3 (p.2.2.2.1).length g3) (p.2.2.2.1) F3 := hG3.lower (by simp)
 have hW1 : Bel w w1 := bel_trans (belx) hb1
 have l3 := hO3.blk
 clear hG3
 have p10 := P1.cell 0
 have p11 := P1.cell 1
 have p12 := P1.cell 2
 have p13 := P1.cell 3
 have p14 := P1.cell 4
 have p15 := P1.cell 5
 have p16 := P1.cell 6
 have pf1 := P1.frozen 3
 have hV1 : Bel w (w1.setCell ⟨w.heap.size, 3, none⟩ (.slice D3 (p.2.2.2.1).length g3)) := bel_put hW1 (Nat.le_refl _) _
 have Q1 : Box (w1.setCell ⟨w.heap.size, 3, none⟩ (.slice D3 (p.2.2.2.1).length g3)) w.heap.size 35 #[.int .i64 p.1, .int .i64 p.2.1, .int .i64 p.2.2.1, .slice D3 (p.2.2.2.1).length g3, .slice A4 n4 c4, .slice A5 n5 c5, .slice A6 n6 c6] := P1.put 3 (.slice D3 (p.2.2.2.1).length g3)
 have T1 : Box (w1.setCell ⟨w.heap.size, 3, none⟩ (.slice D3 (p.2.2.2.1).length g3)) (w.heap.size + 1) 35 #[.int .i64 0, .int .i64 0, .int .i64 0, .slice none 0 0, .slice none 0 0, .slice none 0 0, .slice none 0 0] := R1.far (p := ⟨w.heap.size, 3, none⟩) (by simp) (.slice D3 (p.2.2.2.1).length g3)
 have hO3 := hO3.put (p := ⟨w.heap.size, 3, none⟩) fsz (.slice D3 (p.2.2.2.1).length g3)
 go_wp2_with fail
 refine (i_eachMailG 71 (fun _ _ => rfl) (fun i a w' cs ha hB hR => i_MailCopy hR (HSZ4.out i a ha)) (tMail.row.reach r4 ?hB) hn4).mono ?_
 case hB => exact hV1
 rintro e w2 ⟨D4, g4, F4, rfl, hG4, hb2⟩
 have z2 : w1.heap.size ≤ w2.heap.size := by have h := hb2.size; simpa using h
 have P2 : Box w2 w.heap.size 35 #[.int .i64 p.1, .int .i64 p.2.1, .int .i64 p.2.2.1, .slice D3 (p.2.2.2.1).length g3, .slice A4 n4 c4, .slice A5 n5 c5, .slice A6 n6 c6] := Q1.below hb2 (by simp; omega)
 have R2 : Box w2 (w.heap.size + 1) 35 #[.int .i64 0, .int .i64 0, .int .i64 0, .slice none 0 0, .slice none 0 0, .slice none 0 0, .slice none 0 0] := T1.below hb2 (by simp; omega)
 have hO4 : GrowO tMail 62 w2 w1.heap.size (.slice D4 (p.2.2.2.2.1).length g4) (p.2.2.2.2.1) F4 := hG4.lower (by simp)
 have hW2 : Bel w w2 := bel_trans hV1 hb2
 have hO3 := hO3.below hb2
 have l4 := hO4.blk
 clear hG4
 have p20 := P2.cell 0
 have p21 := P2.cell 1
 have p22 := P2.cell 2
 have p23 := P2.cell 3
 have p24 := P2.cell 4
 have p25 := P2.cell 5
 have p26 := P2.cell 6
 have pf2 := P2.frozen 4
 have hV2 : Bel w (w2.setCell ⟨w.heap.size, 4, none⟩ (.slice D4 (p.2.2.2.2.1).length g4)) := bel_put hW2 (Nat.le_refl _) _
 have Q2 : Box (w2.setCell ⟨w.heap.size, 4, none⟩ (.slice D4 (p.2.2.2.2.1).length g4)) w.heap.size 35 #[.int .i64 p.1, .int .i64 p.2.1, .int .i64 p.2.2.1, .slice D3 (p.2.2.2.1).length g3, .slice D4 (p.2.2.2.2.1).length g4, .slice A5 n5 c5, .slice A6 n6 c6] := P2.put 4 (.slice D4 (p.2.2.2.2.1).length g4)
 have T2 : Box (w2.setCell ⟨w.heap.size, 4, none⟩ (.slice D4 (p.2.2.2.2.1).length g4)) (w.heap.size + 1) 35 #[.int .i64 0, .int .i64 0, .int .i64 0, .slice none 0 0, .slice none 0 0, .slice none 0 0, .slice none 0 0] := R2.far (p := ⟨w.heap.size, 4, none⟩) (by simp) (.slice D4 (p.2.2.2.2.1).length g4)
 have hO3 := hO3.put (p := ⟨w.heap.size, 4, none⟩) fsz (.slice D4 (p.2.2.2.2.1).length g4)
 have hO4 := hO4.put (p := ⟨w.heap.size, 4, none⟩) fsz (.slice D4 (p.2.2.2.2.1).length g4)
 go_wp2_with fail
 refine (i_eachSentG 112 (fun _ _ => rfl) (fun i a w' cs ha hB hR => i_SentCopy hR (HSZ5.out i a ha)) (tSent.row.reach r5 ?hB) hn5).mono ?_
 case hB => exact hV2
 rintro e w3 ⟨D5, g5, F5, rfl, hG5, hb3⟩
 have z3 : w2.heap.size ≤ w3.heap.size := by have h := hb3.size; simpa using h
 have P3 : Box w3 w.heap.size 35 #[.int .i64 p.1, .int .i64 p.2.1, .int .i64 p.2.2.1, .slice D3 (p.2.2.2.1).length g3, .slice D4 (p.2.2.2.2.1).length g4, .slice A5 n5 c5, .slice A6 n6 c6] := Q2.below hb3 (by simp; omega)
 have R3 : Box w3 (w.heap.size + 1) 35 #[.int .i64 0, .int .i64 0, .int .i64 0, .slice none 0 0, .slice none 0 0, .slice none 0 0, .slice none 0 0] := T2.below hb3 (by simp; omega)
 have hO5 : GrowO tSent 111 w3 w2.heap.size (.slice D5 (p.2.2.2.2.2.1).length g5) (p.2.2.2.2.2.1) F5 := hG5.lower (by simp)
 have hW3 : Bel w w3 := bel_trans hV2 hb3
 have hO3 := hO3.below hb3
 have hO4 := hO4.below hb3
 have l5 := hO5.blk
 clear hG5
 have p30 := P3.cell 0
 have p31 := P3.cell 1
 have p32 := P3.cell 2
 have p33 := P3.cell 3
 have p34 := P3.cell 4
 have p35 := P3.cell 5
 have p36 := P3.cell 6
 have pf3 := P3.frozen 5
 have hV3 : Bel w (w3.setCell ⟨w.heap.size, 5, none⟩ (.slice D5 (p.2.2.2.2.2.1).length g5)) := bel_put hW3 (Nat.le_refl _) _
 have Q3 : Box (w3.setCell ⟨w.heap.size, 5, none⟩ (.slice D5 (p.2.2.2.2.2.1).length g5)) w.heap.size 35 #[.int .i64 p.1, .int .i64 p.2.1, .int .i64 p.2.2.1, .slice D3 (p.2.2.2.1).length g3, .slice D4 (p.2.2.2.2.1).length g4, .slice D5 (p.2.2.2.2.2.1).length g5, .slice A6 n6 c6] := P3.put 5 (.slice D5 (p.2.2.2.2.2.1).length g5)
 have T3 : Box (w3.setCell ⟨w.heap.size, 5, none⟩ (.slice D5 (p.2.2.2.2.2.1).length g5)) (w.heap.size + 1) 35 #[.int .i64 0, .int .i64 0, .int .i64 0, .slice none 0 0, .slice none 0 0, .slice none 0 0, .slice none 0 0] := R3.far (p := ⟨w.heap.size, 5, none⟩) (by simp) (.slice D5 (p.2.2.2.2.2.1).length g5)
 have hO3 := hO3.put (p := ⟨w.heap.size, 5, none⟩) fsz (.slice D5 (p.2.2.2.2.2.1).length g5)
 have hO4 := hO4.put (p := ⟨w.heap.size, 5, none⟩) fsz (.slice D5 (p.2.2.2.2.2.1).length g5)
 have hO5 := hO5.put (p := ⟨w.heap.size, 5, none⟩) fsz (.slice D5 (p.2.2.2.2.2.1).length g5)
 go_wp2_with fail
 refine (i_copiedGlG (tGlance.row.reach r6 ?hB) hn6).mono ?_
 case hB => exact hV3
 rintro e w4 ⟨D6, g6, rfl, hG6, hb4⟩
 have z4 : w3.heap.size ≤ w4.heap.size := by have h := hb4.size; simpa using h
 have P4 : Box w4 w.heap.size 35 #[.int .i64 p.1, .int .i64 p.2.1, .int .i64 p.2.2.1, .slice D3 (p.2.2.2.1).length g3, .slice D4 (p.2.2.2.2.1).length g4, .slice D5 (p.2.2.2.2.2.1).length g5, .slice A6 n6 c6] := Q3.below hb4 (by simp; omega)
 have R4 : Box w4 (w.heap.size + 1) 35 #[.int .i64 0, .int .i64 0, .int .i64 0, .slice none 0 0, .slice none 0 0, .slice none 0 0, .slice none 0 0] := T3.below hb4 (by simp; omega)
 have hO6 : GrowO tGlance 113 w4 w3.heap.size (.slice D6 (p.2.2.2.2.2.2).length g6) (p.2.2.2.2.2.2) [] := hG6.lower (by simp)
 have hW4 : Bel w w4 := bel_trans hV3 hb4
 have hO3 := hO3.below hb4
 have hO4 := hO4.below hb4
 have hO5 := hO5.below hb4
 have l6 := hO6.blk
 clear hG6
 have p40 := P4.cell 0
 have p41 := P4.cell 1
 have p42 := P4.cell 2
 have p43 := P4.cell 3
 have p44 := P4.cell 4
 have p45 := P4.cell 5
 have p46 := P4.cell 6
 have pf4 := P4.frozen 6
 have x0 := R4.cell 0
 have g0f := R4.frozen 0
 have x1 := R4.cell 1
 have g1f := R4.frozen 1
 have x2 := R4.cell 2
 have g2f := R4.frozen 2
 have x3 := R4.cell 3
 have g3f := R4.frozen 3
 have x4 := R4.cell 4
 have g4f := R4.frozen 4
 have x5 := R4.cell 5
 have g5f := R4.frozen 5
 have x6 := R4.cell 6
 have g6f := R4.frozen 6
 go_wp2
 have RR := ((((((((R4.far (p := ⟨w.heap.size, 6, none⟩) (by simp) (.slice D6 (p.2.2.2.2.2.2).length g6)).put 0 (.int .i64 p.1)).put 1 (.int .i64 p.2.1)).put 2 (.int .i64 p.2.2.1)).put 3 (.slice D3 (p.2.2.2.1).length g3)).put 4 (.slice D4 (p.2.2.2.2.1).length g4)).put 5 (.slice D5 (p.2.2.2.2.2.1).length g5)).put 6 (.slice D6 (p.2.2.2.2.2.2).length g6))
 have e0 := RR.cell 0
 have e1 := RR.cell 1
 have e2 := RR.cell 2
 have e3 := RR.cell 3
 have e4 := RR.cell 4
 have e5 := RR.cell 5
 have e6 := RR.cell 6
 have u3 := ((((((((hO3.put (p := ⟨w.heap.size, 6, none⟩) fsz (.slice D6 (p.2.2.2.2.2.2).length g6)).put (p := ⟨w.heap.size + 1, 0, none⟩) fsz (.int .i64 p.1)).put (p := ⟨w.heap.size + 1, 1, none⟩) fsz (.int .i64 p.2.1)).put (p := ⟨w.heap.size + 1, 2, none⟩) fsz (.int .i64 p.2.2.1)).put (p := ⟨w.heap.size + 1, 3, none⟩) fsz (.slice D3 (p.2.2.2.1).length g3)).put (p := ⟨w.heap.size + 1, 4, none⟩) fsz (.slice D4 (p.2.2.2.2.1).length g4)).put (p := ⟨w.heap.size + 1, 5, none⟩) fsz (.slice D5 (p.2.2.2.2.2.1).length g5)).put (p := ⟨w.heap.size + 1, 6, none⟩) fsz (.slice D6 (p.2.2.2.2.2.2).length g6))
 have u4 := ((((((((hO4.put (p := ⟨w.heap.size, 6, none⟩) fsz (.slice D6 (p.2.2.2.2.2.2).length g6)).put (p := ⟨w.heap.size + 1, 0, none⟩) fsz (.int .i64 p.1)).put (p := ⟨w.heap.size + 1, 1, none⟩) fsz (.int .i64 p.2.1)).put (p := ⟨w.heap.size + 1, 2, none⟩) fsz (.int .i64 p.2.2.1)).put (p := ⟨w.heap.size + 1, 3, none⟩) fsz (.slice D3 (p.2.2.2.1).length g3)).put (p := ⟨w.heap.size + 1, 4, none⟩) fsz (.slice D4 (p.2.2.2.2.1).length g4)).put (p := ⟨w.heap.size + 1, 5, none⟩) fsz (.slice D5 (p.2.2.2.2.2.1).length g5)).put (p := ⟨w.heap.size + 1, 6, none⟩) fsz (.slice D6 (p.2.2.2.2.2.2).length g6))
 have u5 := ((((((((hO5.put (p := ⟨w.heap.size, 6, none⟩) fsz (.slice D6 (p.2.2.2.2.2.2).length g6)).put (p := ⟨w.heap.size + 1, 0, none⟩) fsz (.int .i64 p.1)).put (p := ⟨w.heap.size + 1, 1, none⟩) fsz (.int .i64 p.2.1)).put (p := ⟨w.heap.size + 1, 2, none⟩) fsz (.int .i64 p.2.2.1)).put (p := ⟨w.heap.size + 1, 3, none⟩) fsz (.slice D3 (p.2.2.2.1).length g3)).put (p := ⟨w.heap.size + 1, 4, none⟩) fsz (.slice D4 (p.2.2.2.2.1).length g4)).put (p := ⟨w.heap.size + 1, 5, none⟩) fsz (.slice D5 (p.2.2.2.2.2.1).length g5)).put (p := ⟨w.heap.size + 1, 6, none⟩) fsz (.slice D6 (p.2.2.2.2.2.2).length g6))
 have u6 := ((((((((hO6.put (p := ⟨w.heap.size, 6, none⟩) fsz (.slice D6 (p.2.2.2.2.2.2).length g6)).put (p := ⟨w.heap.size + 1, 0, none⟩) fsz (.int .i64 p.1)).put (p := ⟨w.heap.size + 1, 1, none⟩) fsz (.int .i64 p.2.1)).put (p := ⟨w.heap.size + 1, 2, none⟩) fsz (.int .i64 p.2.2.1)).put (p := ⟨w.heap.size + 1, 3, none⟩) fsz (.slice D3 (p.2.2.2.1).length g3)).put (p := ⟨w.heap.size + 1, 4, none⟩) fsz (.slice D4 (p.2.2.2.2.1).length g4)).put (p := ⟨w.heap.size + 1, 5, none⟩) fsz (.slice D5 (p.2.2.2.2.2.1).length g5)).put (p := ⟨w.heap.size + 1, 6, none⟩) fsz (.slice D6 (p.2.2.2.2.2.2).length g6))
 refine bodyPost_ret (v := .agg #[.int .i64 p.1, .int .i64 p.2.1, .int .i64 p.2.2.1, .slice D3 (p.2.2.2.1).length g3, .slice D4 (p.2.2.2.2.1).length g4, .slice D5 (p.2.2.2.2.2.1).length g5, .slice D6 (p.2.2.2.2.2.2).length g6]) (by simp [results, Tryz.results69, go_sem, e0, e1, e2, e3, e4, e5, e6]) rfl ⟨D3, g3, F3, D4, g4, F4, D5, g5, F5, D6, g6, w1.heap.size, w2.heap.size, w3.heap.size, rfl, u3.lower (by omega), u4, u5, u6, ⟨by omega, z2, z3, by simpa [World.setCell] using z4⟩, fun b hb => (l3 b hb).2, fun b hb => (l4 b hb).2, fun b hb => (l5 b hb).2, ?_⟩
 exact (bel_put (bel_put (bel_put (bel_put (bel_put (bel_put (bel_put (bel_put hW4 (by simp) _) (by simp) _) (by simp) _) (by simp) _) (by simp) _) (by simp) _) (by simp) _) (by simp) _)

section
variable {α : Type} {t : Ty α} {e : TypeId} {w w' : World} {base B : Nat} {v : Value} {l : List α} {F : List Nat}
theorem GrowO.past {row : Option Nat} (h : GrowO t e w base v l F) (hg : w.grownBy w' row) (hr : ∀ b, row = some b → ¬ Blk v F b) : GrowO t e w' base v l F := by
 have hlt := h.lt
 obtain ⟨⟨css, Fs, k1, k2, k3, rfl, k5⟩, k6, k7⟩ := h
 refine ⟨⟨css, Fs, k1.kept (row := row) hg ?_, k2, k3, rfl, fun i a es Fi q1 q2 q3 => own_past (k5 i a es Fi q1 q2 q3) hg fun b hb hx => hr b hb (.inr (mem_flat q3 hx))⟩, k6, k7⟩
 cases hv : v.ownBlock with
 | none => exact .inl rfl
 | some b => exact .inr fun e => hr b e.symm (.inl hv)
end
def Trf (w : World) (lo tb : Nat) (d : DNet) : Prop :=
 ∃ (v3 v4 v5 v6 : Value) (F3 F4 F5 : List Nat), Box w tb 68 #[.int .i64 d.1, .int .i64 d.2.1, .int .i64 d.2.2.1, v3, v4, v5, v6] ∧
  GrowO tNode 109 w lo v3 d.2.2.2.1 F3 ∧ GrowO tMail 62 w lo v4 d.2.2.2.2.1 F4 ∧ GrowO tSent 111 w lo v5 d.2.2.2.2.2.1 F5 ∧ GrowO tGlance 113 w lo v6 d.2.2.2.2.2.2 [] ∧
  (∀ b, Blk v3 F3 b → ¬ Blk v4 F4 b ∧ ¬ Blk v5 F5 b ∧ ¬ Blk v6 [] b) ∧ (∀ b, Blk v4 F4 b → ¬ Blk v5 F5 b ∧ ¬ Blk v6 [] b) ∧ (∀ b, Blk v5 F5 b → ¬ Blk v6 [] b) ∧
  ¬ Blk v3 F3 tb ∧ ¬ Blk v4 F4 tb ∧ ¬ Blk v5 F5 tb ∧ ¬ Blk v6 [] tb ∧ lo ≤ tb
set_option maxHeartbeats 1000000 in
theorem i_trafficOf {w : World} {cs : List Value} {p : DNet} (h : tNet.R w w.heap.size cs p) (hz : szNet p ≤ 1048576) :
  Calls Tryz.prog 30 #[.agg cs.toArray] w fun e w' => ∃ tb, e = .returned (.pointer (some ⟨tb, 0, none⟩)) ∧ Trf w' w.heap.size tb p ∧ Bel w w' := by
 have hk := h
 obtain ⟨A3, n3, c3, A4, n4, c4, A5, n5, c5, A6, n6, c6, rfl, -, -, -, -, -, -, hN, -, -, -, hM, -, -, -, hS, -, -, -, hG⟩ := openNet h
 go_enter Tryz.func30, Tryz.ntmps30
 go_wp2_with fail
 refine (i_NetCopyG (tNet.reach hk ?hB) hz).mono ?_
 case hB => exact (belx)
 rintro e w1 ⟨D3, g3, F3, D4, g4, F4, D5, g5, F5, D6, g6, b4, b5, b6, rfl, h3, h4, h5, h6, ⟨z1, z2, z3, z4⟩, l3, l4, l5, hb1⟩
 have hB1 : Bel w w1 := bel_trans (belx) hb1
 have zz : w.heap.size + 1 ≤ b4 := by simpa using z1
 have r3 := h3.blk
 have r4 := h4.blk
 have r5 := h5.blk
 have r6 := h6.blk
 have T1 : Trf (w1.alloc (.cells #[.int .i64 p.1, .int .i64 p.2.1, .int .i64 p.2.2.1, .slice D3 (p.2.2.2.1).length g3, .slice D4 (p.2.2.2.2.1).length g4, .slice D5 (p.2.2.2.2.2.1).length g5, .slice D6 (p.2.2.2.2.2.2).length g6] 68)) w.heap.size w1.heap.size p :=
  ⟨_, _, _, _, F3, F4, F5, Box.new _ _ _, (h3.below (belx)).lower (by simp), (h4.below (belx)).lower (by omega), (h5.below (belx)).lower (by omega), (h6.below (belx)).lower (by omega),
   fun b hb => ⟨fun hx => by have := l3 b hb; have := (r4 b hx).1; omega, fun hx => by have := l3 b hb; have := (r5 b hx).1; omega, fun hx => by have := l3 b hb; have := (r6 b hx).1; omega⟩,
   fun b hb => ⟨fun hx => by have := l4 b hb; have := (r5 b hx).1; omega, fun hx => by have := l4 b hb; have := (r6 b hx).1; omega⟩,
   fun b hb hx => by have := l5 b hb; have := (r6 b hx).1; omega,
   fun hx => by have := (r3 _ hx).2; omega, fun hx => by have := (r4 _ hx).2; omega, fun hx => by have := (r5 _ hx).2; omega, fun hx => by have := (r6 _ hx).2; omega, hB1.size⟩
 go_wp2
 go_ret
 exact ⟨_, rfl, T1, bel_alloc hB1 _⟩
theorem i_hasRoom {w : World} {x0 x1 x2 : Int} {A3 A4 A5 A6 : Option Addr} {n3 c3 n4 c4 n5 c5 n6 c6 : Nat} {k : Int} (h4 : n4 ≤ 1048576) (h6 : n6 ≤ 1048576) (hk0 : 0 ≤ k) (hk1 : k ≤ 1048576) :
  Calls Tryz.prog 70 #[.agg #[.int .i64 x0, .int .i64 x1, .int .i64 x2, .slice A3 n3 c3, .slice A4 n4 c4, .slice A5 n5 c5, .slice A6 n6 c6], .int .i64 k] w fun e w' => e = .returned (.bool (decide ((n4 : Int) + k ≤ 60) && decide ((n6 : Int) + k ≤ 500))) ∧ Bel w w' := by
 by_cases g : (n4 : Int) + k ≤ 60
 ·have HR := Lib.hid (show (decide ((n4 : Int) + k ≤ 60) && decide ((n6 : Int) + k ≤ 500)) = decide ((n6 : Int) + k ≤ 500) by rw [decide_eq_true g]; rfl)
  rw [HR.out]
  have g' : decide ((n4 : Int) + k ≤ 60) = true := decide_eq_true g
  go_enter Tryz.func70, Tryz.ntmps70
  go_wp2
  go_ret
  exact ⟨rfl, (belx)⟩
 ·have HR := Lib.hid (show (decide ((n4 : Int) + k ≤ 60) && decide ((n6 : Int) + k ≤ 500)) = false by rw [decide_eq_false g]; rfl)
  rw [HR.out]
  have g' : decide ((n4 : Int) + k ≤ 60) = false := decide_eq_false g
  go_enter Tryz.func70, Tryz.ntmps70
  go_wp2
  go_ret
  exact ⟨rfl, (belx)⟩
end Go.Proofs.YtkdanlnhdgcplaaGreat
