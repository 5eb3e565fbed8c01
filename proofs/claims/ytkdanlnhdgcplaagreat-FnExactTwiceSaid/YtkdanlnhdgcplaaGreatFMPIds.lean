/-
  PIds: texts joined.
-/
import Derived.Test.YtkdanlnhdgcplaaGreatFGa
import Derived.Test.YtkdanlnhdgcplaaGreatFGc
import Derived.Test.YtkdanlnhdgcplaaGreatFGe
import Derived.Test.YtkdanlnhdgcplaaGreatFGf
import Derived.Test.YtkdanlnhdgcplaaGreatFMSeq
import Derived.Test.YtkdanlnhdgcplaaGreatShelf
import Derived.Sort.OwnSortedInts
namespace Go.Proofs.YtkdanlnhdgcplaaGreat
set_option maxRecDepth 100000
set_option linter.unusedVariables false
set_option linter.unusedSimpArgs false
open Go.ChangeShapes Go.WideShapes Go.ChangeAt Go.RowKit Go.Sort
theorem i_SortedV {w : World} {Bs n c : Nat} {A : Option Addr} {l : List Int} (hl : Ints .i64 w w.heap.size A n l) (hn : n ≤ 1048576) (hb : w.cell? ⟨Bs, 0, none⟩ = some (.slice A n c)) (hBs : Bs < w.heap.size) :
  Calls Tryz.prog 173 #[.func (.func 204) #[] #[.pointer (some ⟨Bs, 0, none⟩)]] w fun e w' => ∃ v, e = .returned v ∧ Own .i64 3 w' w.heap.size v (srt l) ∧ Bel w w' := by
 have HL := Lib.hid hl.1
 go_enter Tryz.func173, Tryz.ntmps173
 go_wp2_with fail
 refine (i_Collect hl hn hb hBs).mono ?_
 rintro e w1 ⟨v, rfl, hO, hB1⟩
 go_wp2_with fail
 refine (i_SortI hO hB1.size (by rw [HL.out]; exact hn)).mono ?_
 rintro e w2 ⟨rfl, hO2, hg⟩
 have hB2 : Bel w w2 := hB1.trans (own_mem hO hg hB1.size)
 go_wp2
 go_ret
 exact ⟨_, rfl, hO2, hB2⟩
theorem i_fits {w : World} {cs : List Value} {p : DLetter} (h : tLetter.R w w.heap.size cs p) :
  Calls Tryz.prog 142 #[.agg cs.toArray] w fun e w' => e = .returned (.bool (decide (p.2.length ≤ 160))) ∧ Bel w w' := by
 obtain ⟨A1, n1, c1, rfl, -, -, -, hl1, -⟩ := openLetter h
 rw [hl1]
 clear hl1
 by_cases h1 : n1 ≤ 160
 ·have HR := Lib.hid (show decide (n1 ≤ 160) = true from decide_eq_true h1)
  have q : (n1 : Int) ≤ 160 := by omega
  go_enter Tryz.func142, Tryz.ntmps142
  go_wp2
  go_ret
  exact ⟨ret_bool (by first | rfl | (rw [HR.out]; first | rfl | (simp; done) | (simp; omega)) | (simp; done) | (simp; omega)), (belx)⟩
 ·have HR := Lib.hid (show decide (n1 ≤ 160) = false from decide_eq_false h1)
  have q : ¬ (n1 : Int) ≤ 160 := by omega
  go_enter Tryz.func142, Tryz.ntmps142
  go_wp2
  go_ret
  exact ⟨ret_bool (by first | rfl | (rw [HR.out]; first | rfl | (simp; done) | (simp; omega)) | (simp; done) | (simp; omega)), (belx)⟩
theorem i_LtId {w : World} {cs : List Value} {p : DLetter} (h : tLetter.R w w.heap.size cs p) :
  Calls Tryz.prog 176 #[.agg cs.toArray] w fun e w' => e = .returned (.int .i64 p.1) ∧ Bel w w' := by
 obtain ⟨A1, n1, c1, rfl, -, -, -, -, -⟩ := openLetter h
 go_enter Tryz.func176, Tryz.ntmps176
 go_wp2
 go_ret
 exact ⟨rfl, (belx)⟩
theorem lts_wf {w : World} {B n c : Nat} {A : Option Addr} {l : List DLetter} (h : tLetter.row.R w B [.slice A n c] l) : ∀ a ∈ l, (Lit.int .i64 a.1).wf = true := fun a ha => by
 obtain ⟨i, hi, rfl⟩ := List.getElem_of_mem ha
 have hln := (rowR_len h).1
 obtain ⟨a2, b, off, es, h1, -, -, -, hR⟩ := rowR_at (K := 2) h (show i < n by omega) rfl
 rw [List.getElem?_eq_getElem hi] at h1
 injection h1 with h1
 subst h1
 obtain ⟨A1, n1, c1, -, hw, -⟩ := openLetter hR
 exact hw
def sIds (l : List DLetter) : List Int := srt (l.map fun a => a.1)
theorem i_sortedIds {w : World} {n c : Nat} {A : Option Addr} {l : List DLetter} (hl : tLetter.row.R w w.heap.size [.slice A n c] l) (hn : n ≤ 1048576) :
  Calls Tryz.prog 144 #[.slice A n c] w fun e w' => ∃ v, e = .returned v ∧ Own .i64 3 w' w.heap.size v (sIds l) ∧ Bel w w' := by
 have HL := Lib.hid (rowR_len hl).1
 go_enter Tryz.func144, Tryz.ntmps144
 go_wp2_with fail
 refine (i_eachLetterI 176 (fun a => a.1) (fun _ _ => rfl) (fun i a w' cs ha hB hR => i_LtId hR) (lts_wf hl) hl hn).mono ?_
 rintro e w1 ⟨v, rfl, hO, hB1⟩
 obtain ⟨A2, c2, rfl, _, hI, _⟩ := hO.ints
 have hlen : (l.map fun a => a.1).length = n := by rw [List.length_map]; exact HL.out
 obtain ⟨L, hL⟩ : ∃ L, (l.map fun a => a.1) = L := ⟨_, rfl⟩
 have HLL := Lib.hid (show srt L = sIds l by rw [← hL]; rfl)
 rw [hL] at hI hlen
 rw [hL]
 rw [hlen] at hI
 rw [hlen]
 clear hL hO hlen
 go_wp2_with fail
 refine (i_Values _ _ _ _).mono ?_
 rintro e w2 ⟨rfl, rfl⟩
 have hI2 : Ints .i64 (w1.alloc (.cells #[.slice A2 n c2] 82)) (w1.alloc (.cells #[.slice A2 n c2] 82)).heap.size A2 n L := (hI.alloc (Nat.le_refl _) _).up (by simp)
 have X2 : Box (w1.alloc (.cells #[.slice A2 n c2] 82)) w1.heap.size 82 #[.slice A2 n c2] := Box.new _ _ _
 go_wp2_with fail
 refine (i_SortedV hI2 hn (X2.cell 0) X2.size).mono ?_
 rintro e w3 ⟨u, rfl, hO3, hB3⟩
 rw [HLL.out] at hO3
 go_wp2
 go_ret
 exact ⟨u, rfl, hO3.base (by have := hB1.size; simp; omega), bel_trans hB1 (bel_trans (belx) hB3)⟩
theorem i_EqualI {w : World} {B B' n m c d : Nat} {A A' : Option Addr} {l l' : List Int} (h : Ints .i64 w B A n l) (h' : Ints .i64 w B' A' m l') (hn : n ≤ 1048576) (hm : m ≤ 1048576) :
  Calls Tryz.prog 143 #[.slice A n c, .slice A' m d] w fun e w' => e = .returned (.bool (decide (l = l'))) ∧ Bel w w' := by
 have e1 := h.1
 have e2 := h'.1
 by_cases hnm : n = m
 ·subst hnm
  by_cases h0 : n = 0
  ·subst h0
   have : l = [] := List.eq_nil_of_length_eq_zero e1
   have : l' = [] := List.eq_nil_of_length_eq_zero e2
   subst l l'
   refine (Tryz.slices_Equal_int_empty _ _ _ 0 _ w (by omega)).mono ?_
   rintro e w' ⟨rfl, rfl⟩
   exact ⟨rfl, Below.refl _ _⟩
  ·obtain ⟨b, off, rfl, hb, hc⟩ := h.2.1 (by omega)
   obtain ⟨b', off', rfl, hb', hc'⟩ := h'.2.1 (by omega)
   refine (Tryz.slices_Equal_int b off n c b' off' n d l l' w (by omega) (by omega) (by omega) (by omega) (fun j hj => hc j (by omega)) (fun j hj => hc' j (by omega))).mono ?_
   rintro e w' ⟨rfl, q, rfl⟩
   rw [List.take_of_length_le (by omega), List.take_of_length_le (by omega)]
   refine ⟨?_, below_drewN (Below.refl _ _) _⟩
   congr 2
   rw [Bool.eq_iff_iff]; simp
 ·refine (Tryz.slices_Equal_int_lens _ _ n c m d w hnm).mono ?_
  rintro e w' ⟨rfl, rfl⟩
  refine ⟨?_, Below.refl _ _⟩
  rw [decide_eq_false (by rintro rfl; omega)]
end Go.Proofs.YtkdanlnhdgcplaaGreat
