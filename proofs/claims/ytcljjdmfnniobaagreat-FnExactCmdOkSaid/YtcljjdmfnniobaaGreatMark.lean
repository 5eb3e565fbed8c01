/-
  Contracts of the laws' functions on slices of integers and of bytes: are they alike; marks; are the marks still there.
-/
import Derived.Test.YtcljjdmfnniobaaGreatApp
import Derived.Deep.QuietTactic
import Derived.BigQuiet
import Derived.Outline
namespace Go.Proofs.YtcljjdmfnniobaaGreat
open Go.ChangeShapes Go.WideShapes Go.ChangeAt Go.RowKit
/-- The first j of l, turned into f 0, f 1, .. -/
def mks (f : Nat → Int) (l : List Int) (j : Nat) : List Int := (List.range l.length).map fun i => if i < j then f i else l.getD i 0
theorem mks_len (f : Nat → Int) (l : List Int) (j : Nat) : (mks f l j).length = l.length := by simp [mks]
theorem mks_zero (f : Nat → Int) (l : List Int) : mks f l 0 = l := by
  apply List.ext_getElem (mks_len _ _ _)
  intro i h1 h2
  simp [mks, List.getElem_map, h2]
theorem mks_set (f : Nat → Int) (l : List Int) (j : Nat) : (mks f l j).set j (f j) = mks f l (j + 1) := by
  apply List.ext_getElem (by simp [mks])
  intro i h1 h2
  rw [List.getElem_set]
  by_cases h : j = i
  · subst h; simp [mks]
  · rw [if_neg h]
    simp only [mks, List.getElem_map, List.getElem_range]
    by_cases h3 : i < j
    · rw [if_pos h3, if_pos (by omega)]
    · rw [if_neg h3, if_neg (by omega)]
theorem mks_all (f : Nat → Int) (l : List Int) : mks f l l.length = (List.range l.length).map f := by
  unfold mks
  apply List.map_congr_left
  intro i hi
  rw [if_pos (List.mem_range.1 hi)]
/-- The marks k, k + 1, .. of n integers; of n bytes. -/
def marks (k : Int) (n : Nat) : List Int := (List.range n).map fun i : Nat => k + (i : Int)
def marks8 (k : Int) (n : Nat) : List Int := (List.range n).map fun i : Nat => (k + (i : Int)) % 256
theorem marks_len (k : Int) (n : Nat) : (marks k n).length = n := by simp [marks]
theorem marks8_len (k : Int) (n : Nat) : (marks8 k n).length = n := by simp [marks8]
theorem marks_at {k : Int} {n i : Nat} (h : i < n) : (marks k n).getD i 0 = k + i := by
  rw [List.getD_eq_getElem?_getD, marks, List.getElem?_map, List.getElem?_range h]; rfl
theorem marks8_at {k : Int} {n i : Nat} (h : i < n) : (marks8 k n).getD i 0 = (k + i) % 256 := by
  rw [List.getD_eq_getElem?_getD, marks8, List.getElem?_map, List.getElem?_range h]; rfl
theorem own_mem {k : IntKind} {e : TypeId} {w w' : World} {v : Value} {base : Nat} {l : List Int} (h : Own k e w base v l) (h' : w.grownBy w' v.ownBlock) (hb : base ≤ w.heap.size) : Below base w w' :=
  (Below.refl _ _).grown h' hb fun _ hb => (h.block hb).1

theorem only_put {a w : World} {g : Nat} (h : a.grownBy w (some g)) (j : Nat) (u : Value) : a.grownBy (w.setCell ⟨g, j, none⟩ u) (some g) := gb_put h j u
set_option maxHeartbeats 400000 in
theorem l_eqIntS {w : World} {B n m c d : Nat} {A A' : Option Addr} {l l' : List Int} (h : Ints .i64 w B A n l) (h' : Ints .i64 w B A' m l') (hn : n ≤ maxLen) (hm : m ≤ maxLen) :
    Calls Tryz.prog 16 #[.slice A n c, .slice A' m d] w fun e w' => e = .returned (.bool (decide (l = l'))) ∧ Below w.heap.size w w' := by
  unfold maxLen at hn hm
  by_cases hlen : n = m
  · subst hlen
    go_enter Tryz.func16, Tryz.ntmps16
    go_wp2
    go_loopw [5] (fun i wr => ∃ k : Nat, k ≤ n ∧ i = .int .i64 k ∧ (∀ j, j < k → l.getD j 0 = l'.getD j 0) ∧ ∃ q, wr = w.drewN q) (fun i _ => n - (intOf i).toNat)
    case atStart => exact ⟨0, by omega, rfl, fun j hj => by omega, 0, rfl⟩
    case round =>
      obtain ⟨k, hk, rfl, hall, q, rfl⟩ := hrel
      have HA := Lib.hid hall
      clear hall
      by_cases hlt : k < n
      · obtain ⟨b, off, rfl, _, hc, hwf⟩ := h.at_ hlt
        obtain ⟨b', off', rfl, _, hc', hwf'⟩ := h'.at_ hlt
        by_cases heq : l.getD k 0 = l'.getD k 0
        · rw [← heq] at hc'
          have HE := Lib.hid heq
          clear heq
          obtain ⟨x, hx⟩ : ∃ x, l.getD k 0 = x := ⟨_, rfl⟩
          rw [hx] at hc hc'
          clear hx hwf hwf'
          go_wp2
          go_quiet (fail)
          go_wp2
          go_roundw
          case rel => exact ⟨k + 1, by omega, by go_num, fun j hj => by
            rcases Nat.lt_succ_iff_lt_or_eq.1 hj with h1 | rfl
            · exact HA.out j h1
            · exact HE.out, _, rfl⟩
          case measure => simp [intOf]; omega
        · have hne : (l.getD k 0 == l'.getD k 0) = false := by simpa using heq
          have HF := Lib.hid (show decide (l = l') = false from by simp; intro e; rw [e] at heq; exact heq rfl)
          clear heq
          obtain ⟨x, hx⟩ : ∃ x, l.getD k 0 = x := ⟨_, rfl⟩
          obtain ⟨y, hy⟩ : ∃ y, l'.getD k 0 = y := ⟨_, rfl⟩
          rw [hx] at hc hne
          rw [hy] at hc' hne
          have hne2 : (x != y) = true := by simp [bne, hne]
          clear hx hy hwf hwf'
          go_wp2
          go_quiet (fail)
          go_wp2
          go_ret
          exact ⟨by rw [HF.out]; rfl, below_drewN (below_drewN (Below.refl _ _) _) _⟩
      · obtain rfl : k = n := by omega
        have HT := Lib.hid (show decide (l = l') = true from by
          simp
          apply List.ext_getElem (by rw [h.1, h'.1])
          intro j h1 h2
          have := HA.out j (by rw [← h.1]; exact h1)
          rw [List.getD_eq_getElem?_getD, List.getD_eq_getElem?_getD, List.getElem?_eq_getElem h1, List.getElem?_eq_getElem h2] at this
          exact this)
        go_wp2
        go_ret
        exact ⟨by rw [HT.out]; rfl, below_drewN (Below.refl _ _) _⟩
  · have HF := Lib.hid (show decide (l = l') = false from by simp; intro e; exact hlen (by rw [← h.1, ← h'.1, e]))
    have hb : ((n : Int) == (m : Int)) = false := by simp; omega
    have hb2 : ((n : Int) != (m : Int)) = true := by simp; omega
    clear hlen
    go_enter Tryz.func16, Tryz.ntmps16
    go_wp2
    go_ret
    exact ⟨by rw [HF.out]; rfl, Below.refl _ _⟩
set_option maxHeartbeats 400000 in
theorem l_eqByteS {w : World} {B n m c d : Nat} {A A' : Option Addr} {l l' : List Int} (h : Ints .u8 w B A n l) (h' : Ints .u8 w B A' m l') (hn : n ≤ maxLen) (hm : m ≤ maxLen) :
    Calls Tryz.prog 17 #[.slice A n c, .slice A' m d] w fun e w' => e = .returned (.bool (decide (l = l'))) ∧ Below w.heap.size w w' := by
  unfold maxLen at hn hm
  by_cases hlen : n = m
  · subst hlen
    go_enter Tryz.func17, Tryz.ntmps17
    go_wp2
    go_loopw [5] (fun i wr => ∃ k : Nat, k ≤ n ∧ i = .int .i64 k ∧ (∀ j, j < k → l.getD j 0 = l'.getD j 0) ∧ ∃ q, wr = w.drewN q) (fun i _ => n - (intOf i).toNat)
    case atStart => exact ⟨0, by omega, rfl, fun j hj => by omega, 0, rfl⟩
    case round =>
      obtain ⟨k, hk, rfl, hall, q, rfl⟩ := hrel
      have HA := Lib.hid hall
      clear hall
      by_cases hlt : k < n
      · obtain ⟨b, off, rfl, _, hc, hwf⟩ := h.at_ hlt
        obtain ⟨b', off', rfl, _, hc', hwf'⟩ := h'.at_ hlt
        by_cases heq : l.getD k 0 = l'.getD k 0
        · rw [← heq] at hc'
          have HE := Lib.hid heq
          clear heq
          obtain ⟨x, hx⟩ : ∃ x, l.getD k 0 = x := ⟨_, rfl⟩
          rw [hx] at hc hc'
          clear hx hwf hwf'
          go_wp2
          go_quiet (fail)
          go_wp2
          go_roundw
          case rel => exact ⟨k + 1, by omega, by go_num, fun j hj => by
            rcases Nat.lt_succ_iff_lt_or_eq.1 hj with h1 | rfl
            · exact HA.out j h1
            · exact HE.out, _, rfl⟩
          case measure => simp [intOf]; omega
        · have hne : (l.getD k 0 == l'.getD k 0) = false := by simpa using heq
          have HF := Lib.hid (show decide (l = l') = false from by simp; intro e; rw [e] at heq; exact heq rfl)
          clear heq
          obtain ⟨x, hx⟩ : ∃ x, l.getD k 0 = x := ⟨_, rfl⟩
          obtain ⟨y, hy⟩ : ∃ y, l'.getD k 0 = y := ⟨_, rfl⟩
          rw [hx] at hc hne
          rw [hy] at hc' hne
          have hne2 : (x != y) = true := by simp [bne, hne]
          clear hx hy hwf hwf'
          go_wp2
          go_quiet (fail)
          go_wp2
          go_ret
          exact ⟨by rw [HF.out]; rfl, below_drewN (below_drewN (Below.refl _ _) _) _⟩
      · obtain rfl : k = n := by omega
        have HT := Lib.hid (show decide (l = l') = true from by
          simp
          apply List.ext_getElem (by rw [h.1, h'.1])
          intro j h1 h2
          have := HA.out j (by rw [← h.1]; exact h1)
          rw [List.getD_eq_getElem?_getD, List.getD_eq_getElem?_getD, List.getElem?_eq_getElem h1, List.getElem?_eq_getElem h2] at this
          exact this)
        go_wp2
        go_ret
        exact ⟨by rw [HT.out]; rfl, below_drewN (Below.refl _ _) _⟩
  · have HF := Lib.hid (show decide (l = l') = false from by simp; intro e; exact hlen (by rw [← h.1, ← h'.1, e]))
    have hb : ((n : Int) == (m : Int)) = false := by simp; omega
    have hb2 : ((n : Int) != (m : Int)) = true := by simp; omega
    clear hlen
    go_enter Tryz.func17, Tryz.ntmps17
    go_wp2
    go_ret
    exact ⟨by rw [HF.out]; rfl, Below.refl _ _⟩
end Go.Proofs.YtcljjdmfnniobaaGreat
