/-
  PIds: texts joined.
-/
import Derived.Test.YtojbicecopkfbaaGreatFGi
import Derived.Test.YtojbicecopkfbaaGreatFMSeq
import Derived.Test.YtojbicecopkfbaaGreatShelf
import Derived.Sort.OwnSortedInts
namespace Go.Proofs.YtojbicecopkfbaaGreat
set_option maxRecDepth 100000
set_option linter.unusedVariables false
set_option linter.unusedSimpArgs false
open Go.ChangeShapes Go.WideShapes Go.ChangeAt Go.RowKit Go.Sort
theorem Own.base {K : IntKind} {e : TypeId} {w : World} {b b' : Nat} {v : Value} {l : List Int} (h : Own K e w b v l) (hb : b' ≤ b) : Own K e w b' v l := by
  refine ⟨⟨h.1.1, ?_⟩, h.2⟩
  rcases h.1.2 with h' | ⟨g, cap, cur, h1, h2, h3⟩
  · exact .inl h'
  · exact .inr ⟨g, cap, cur, h1, Nat.le_trans hb h2, h3⟩
/-- Ascending, as the library's sort leaves it. -/
def srt (l : List Int) : List Int := l.mergeSort (fun x y => decide (x ≤ y))
theorem srt_len (l : List Int) : (srt l).length = l.length := List.length_mergeSort _
theorem srt_mem {l : List Int} {x : Int} : x ∈ srt l ↔ x ∈ l := List.mem_mergeSort
theorem srt_nil : srt [] = [] := by simp [srt]
/-- Sorting a slice of the call's own. -/
theorem i_SortI {w : World} {base : Nat} {v : Value} {l : List Int} (h : Own .i64 3 w base v l) (hb : base ≤ w.heap.size) (hn : l.length ≤ 1048576) :
    Calls Tryz.prog 55 #[v] w fun e w' => e = .returned (.tuple #[]) ∧ Own .i64 3 w' base v (srt l) ∧ w.grownBy w' v.ownBlock := by
  rcases h.1.2 with ⟨rfl, h0⟩ | ⟨g, cap, cur, rfl, hbg, hg, hnc, hm, hs, ht⟩
  · have : l = [] := List.eq_nil_of_length_eq_zero h0
    subst this
    refine (Tryz.slices_Sort_int_none none 0 w).mono ?_
    rintro e w' ⟨rfl, rfl⟩
    exact ⟨rfl, by rw [srt_nil]; exact Own.nil _ _ _ _, World.grownBy.refl _ _⟩
  · by_cases hz : l.length = 0
    · have : l = [] := List.eq_nil_of_length_eq_zero hz
      subst this
      refine (Tryz.slices_Sort_int_none _ cap w).mono ?_
      rintro e w' ⟨rfl, rfl⟩
      exact ⟨rfl, by rw [srt_nil]; exact h, World.grownBy.refl _ _⟩
    · have hgl : g < w.heap.size := (Array.getElem?_eq_some_iff.1 hg).1
      simp only [maxLen] at hm
      refine (Tryz.slices_Sort_int g 0 cap l w (holds_of_blockI hg (by simpa using ht)) hgl (by omega)).mono ?_
      rintro e w' ⟨rfl, n, os, rfl⟩
      have hl : (l.mergeSort fun x y => decide (x ≤ y)).length = l.length := List.length_mergeSort _
      refine ⟨rfl, ⟨?_, fun x hx => h.2 x (srt_mem.1 hx)⟩, grownBy_sortedI _⟩
      have := ownsRow_sortedI (n := n) (os := os) hl hbg hg (by omega) (by simp only [maxLen]; omega) hs
      rw [srt_len]
      exact this
/-- slices.Sorted over slices.Values of a slice that lies in a box. -/
theorem i_SortedV {w : World} {Bs n c : Nat} {A : Option Addr} {l : List Int} (hl : Ints .i64 w w.heap.size A n l) (hn : n ≤ 1048576) (hb : w.cell? ⟨Bs, 0, none⟩ = some (.slice A n c)) (hBs : Bs < w.heap.size) :
    Calls Tryz.prog 115 #[.func (.func 226) #[] #[.pointer (some ⟨Bs, 0, none⟩)]] w fun e w' => ∃ v, e = .returned v ∧ Own .i64 3 w' w.heap.size v (srt l) ∧ Below w.heap.size w w' := by
  have HL := Lib.hid hl.1
  go_enter Tryz.func115, Tryz.ntmps115
  go_wp2_with fail
  refine (i_Collect hl hn hb hBs).mono ?_
  rintro e w1 ⟨v, rfl, hO, hB1⟩
  go_wp2_with fail
  refine (i_SortI hO hB1.size (by rw [HL.out]; exact hn)).mono ?_
  rintro e w2 ⟨rfl, hO2, hg⟩
  have hB2 : Below w.heap.size w w2 := hB1.trans (own_mem hO hg hB1.size)
  go_wp2
  go_ret
  exact ⟨_, rfl, hO2, hB2⟩
theorem i_fits {w : World} {cs : List Value} {p : DLetter} (h : tLetter.R w w.heap.size cs p) :
    Calls Tryz.prog 140 #[.agg cs.toArray] w fun e w' => e = .returned (.bool (decide (p.2.length ≤ 160))) ∧ Below w.heap.size w w' := by
  obtain ⟨A1, n1, c1, rfl, -, -, -, hl1, -⟩ := openLetter h
  rw [hl1]
  clear hl1
  by_cases h1 : n1 ≤ 160
  · have HR := Lib.hid (show decide (n1 ≤ 160) = true from decide_eq_true h1)
    have q : (n1 : Int) ≤ 160 := by omega
    go_enter Tryz.func140, Tryz.ntmps140
    go_wp2
    go_ret
    exact ⟨ret_bool (by first | rfl | (rw [HR.out]; first | rfl | (simp; done) | (simp; omega)) | (simp; done) | (simp; omega)), (belx)⟩
  · have HR := Lib.hid (show decide (n1 ≤ 160) = false from decide_eq_false h1)
    have q : ¬ (n1 : Int) ≤ 160 := by omega
    go_enter Tryz.func140, Tryz.ntmps140
    go_wp2
    go_ret
    exact ⟨ret_bool (by first | rfl | (rw [HR.out]; first | rfl | (simp; done) | (simp; omega)) | (simp; done) | (simp; omega)), (belx)⟩
theorem i_LtId {w : World} {cs : List Value} {p : DLetter} (h : tLetter.R w w.heap.size cs p) :
    Calls Tryz.prog 197 #[.agg cs.toArray] w fun e w' => e = .returned (.int .i64 p.1) ∧ Below w.heap.size w w' := by
  obtain ⟨A1, n1, c1, rfl, -, -, -, -, -⟩ := openLetter h
  go_enter Tryz.func197, Tryz.ntmps197
  go_wp2
  go_ret
  exact ⟨rfl, (belx)⟩
theorem lts_wf {w : World} {B n c : Nat} {A : Option Addr} {l : List DLetter} (h : tLetter.row.R w B [.slice A n c] l) : ∀ a ∈ l, (Lit.int .i64 a.1).wf = true := fun a ha => by
  obtain ⟨i, hi, rfl⟩ := List.getElem_of_mem ha
  have hln := (rowR_len h).1
  obtain ⟨a2, b, off, es, h1, -, -, -, hR⟩ := rowR_at (K := 2) h (show i < n by omega) rfl
  rw [List.getElem?_eq_getElem hi] at h1
  injection h1 with h1
  subst h1
  obtain ⟨A1, n1, c1, -, hw, -⟩ := openLetter hR
  exact hw
def sIds (l : List DLetter) : List Int := srt (l.map fun a => a.1)
theorem i_sortedIds {w : World} {n c : Nat} {A : Option Addr} {l : List DLetter} (hl : tLetter.row.R w w.heap.size [.slice A n c] l) (hn : n ≤ 1048576) :
    Calls Tryz.prog 142 #[.slice A n c] w fun e w' => ∃ v, e = .returned v ∧ Own .i64 3 w' w.heap.size v (sIds l) ∧ Below w.heap.size w w' := by
  have HL := Lib.hid (rowR_len hl).1
  go_enter Tryz.func142, Tryz.ntmps142
  go_wp2_with fail
  refine (i_eachLetterI 197 (fun a => a.1) (fun _ _ => rfl) (fun i a w' cs ha hB hR => i_LtId hR) (lts_wf hl) hl hn).mono ?_
  rintro e w1 ⟨v, rfl, hO, hB1⟩
  obtain ⟨A2, c2, rfl, _, hI, _⟩ := hO.ints
  have hlen : (l.map fun a => a.1).length = n := by rw [List.length_map]; exact HL.out
  obtain ⟨L, hL⟩ : ∃ L, (l.map fun a => a.1) = L := ⟨_, rfl⟩
  have HLL := Lib.hid (show srt L = sIds l by rw [← hL]; rfl)
  rw [hL] at hI hlen
  rw [hL]
  rw [hlen] at hI
  rw [hlen]
  clear hL hO hlen
  go_wp2_with fail
  refine (i_Values _ _ _ _).mono ?_
  rintro e w2 ⟨rfl, rfl⟩
  have hI2 : Ints .i64 (w1.alloc (.cells #[.slice A2 n c2] 23)) (w1.alloc (.cells #[.slice A2 n c2] 23)).heap.size A2 n L := (hI.alloc (Nat.le_refl _) _).up (by simp)
  have X2 : Box (w1.alloc (.cells #[.slice A2 n c2] 23)) w1.heap.size 23 #[.slice A2 n c2] := Box.new _ _ _
  go_wp2_with fail
  refine (i_SortedV hI2 hn (X2.cell 0) X2.size).mono ?_
  rintro e w3 ⟨u, rfl, hO3, hB3⟩
  rw [HLL.out] at hO3
  go_wp2
  go_ret
  exact ⟨u, rfl, hO3.base (by have := hB1.size; simp; omega), bel_trans hB1 (bel_trans (belx) hB3)⟩
theorem i_EqualI {w : World} {B B' n m c d : Nat} {A A' : Option Addr} {l l' : List Int} (h : Ints .i64 w B A n l) (h' : Ints .i64 w B' A' m l') (hn : n ≤ 1048576) (hm : m ≤ 1048576) :
    Calls Tryz.prog 141 #[.slice A n c, .slice A' m d] w fun e w' => e = .returned (.bool (decide (l = l'))) ∧ Below w.heap.size w w' := by
  have e1 := h.1
  have e2 := h'.1
  by_cases hnm : n = m
  · subst hnm
    by_cases h0 : n = 0
    · subst h0
      have : l = [] := List.eq_nil_of_length_eq_zero e1
      have : l' = [] := List.eq_nil_of_length_eq_zero e2
      subst l l'
      refine (Tryz.slices_Equal_int_empty _ _ _ 0 _ w (by omega)).mono ?_
      rintro e w' ⟨rfl, rfl⟩
      exact ⟨rfl, Below.refl _ _⟩
    · obtain ⟨b, off, rfl, hb, hc⟩ := h.2.1 (by omega)
      obtain ⟨b', off', rfl, hb', hc'⟩ := h'.2.1 (by omega)
      refine (Tryz.slices_Equal_int b off n c b' off' n d l l' w (by omega) (by omega) (by omega) (by omega) (fun j hj => hc j (by omega)) (fun j hj => hc' j (by omega))).mono ?_
      rintro e w' ⟨rfl, q, rfl⟩
      rw [List.take_of_length_le (by omega), List.take_of_length_le (by omega)]
      refine ⟨?_, below_drewN (Below.refl _ _) _⟩
      congr 2
      rw [Bool.eq_iff_iff]; simp
  · refine (Tryz.slices_Equal_int_lens _ _ n c m d w hnm).mono ?_
    rintro e w' ⟨rfl, rfl⟩
    refine ⟨?_, Below.refl _ _⟩
    rw [decide_eq_false (by rintro rfl; omega)]
end Go.Proofs.YtojbicecopkfbaaGreat
