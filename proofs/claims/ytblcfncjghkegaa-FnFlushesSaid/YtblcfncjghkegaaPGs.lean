/-
  LawTwo: texts joined.
-/
import Derived.Test.YtblcfncjghkegaaPGr
import Derived.Lib.SlBytesConst
namespace Go.Proofs.Ytblcfncjghkegaa
open Go.ChangeShapes Go.WideShapes Go.ChangeAt Go.RowKit
open Fld
theorem l_same {w : World} {B B' n m c d : Nat} {A A' : Option Addr} {l r : List Int} (hl : Ints .u8 w B A n l) (hr : Ints .u8 w B' A' m r) :
    Calls Try.prog 13 #[.slice A n c, .slice A' m d] w fun e w' => e = .returned (.bool (decide (l = r))) ∧ w = w' := by
  have g1 := conv_bytes hl c 22 5 9 Try.underlying22 Try.underlying5 Try.underlying9
  have g2 := conv_bytes hr d 22 5 9 Try.underlying22 Try.underlying5 Try.underlying9
  have HN := Lib.hid (nums_eq hl.bytes hr.bytes)
  go_enter Try.func13, Try.ntmps13
  go_wp2
  go_ret
  exact ⟨ret_bool HN.out, rfl⟩
set_option maxHeartbeats 400000 in
theorem l_sameInts {w : World} {B n m c d : Nat} {A A' : Option Addr} {l l' : List Int} (h : Ints .i64 w B A n l) (h' : Ints .i64 w B A' m l') (hn : n ≤ maxLen) (hm : m ≤ maxLen) :
    Calls Try.prog 21 #[.slice A n c, .slice A' m d] w fun e w' => e = .returned (.bool (decide (l = l'))) ∧ Below w.heap.size w w' := by
  unfold maxLen at hn hm
  by_cases hlen : n = m
  · subst hlen
    go_enter Try.func21, Try.ntmps21
    go_wp2
    go_loopw [5] (fun i wr => ∃ k : Nat, k ≤ n ∧ i = .int .i64 k ∧ (∀ j, j < k → l.getD j 0 = l'.getD j 0) ∧ ∃ q, wr = w.drewN q) (fun i _ => n - (intOf i).toNat)
    case atStart => exact ⟨0, by omega, rfl, fun j hj => by omega, 0, rfl⟩
    case round =>
      obtain ⟨k, hk, rfl, hall, q, rfl⟩ := hrel
      have HA := Lib.hid hall
      clear hall
      by_cases hlt : k < n
      · obtain ⟨b, off, rfl, _, hc, hwf⟩ := h.at_ hlt
        obtain ⟨b', off', rfl, _, hc', hwf'⟩ := h'.at_ hlt
        by_cases heq : l.getD k 0 = l'.getD k 0
        · rw [← heq] at hc'
          have HE := Lib.hid heq
          clear heq
          obtain ⟨x, hx⟩ : ∃ x, l.getD k 0 = x := ⟨_, rfl⟩
          rw [hx] at hc hc'
          clear hx hwf hwf'
          go_wp2
          go_quiet (fail)
          go_wp2
          go_roundw
          case rel => exact ⟨k + 1, by omega, by go_num, fun j hj => by
            rcases Nat.lt_succ_iff_lt_or_eq.1 hj with h1 | rfl
            · exact HA.out j h1
            · exact HE.out, _, rfl⟩
          case measure => simp [intOf]; omega
        · have hne : (l.getD k 0 == l'.getD k 0) = false := by simpa using heq
          have HF := Lib.hid (show decide (l = l') = false from by simp; intro e; rw [e] at heq; exact heq rfl)
          clear heq
          obtain ⟨x, hx⟩ : ∃ x, l.getD k 0 = x := ⟨_, rfl⟩
          obtain ⟨y, hy⟩ : ∃ y, l'.getD k 0 = y := ⟨_, rfl⟩
          rw [hx] at hc hne
          rw [hy] at hc' hne
          have hne2 : (x != y) = true := by simp [bne, hne]
          clear hx hy hwf hwf'
          go_wp2
          go_quiet (fail)
          go_wp2
          go_ret
          exact ⟨by rw [HF.out]; rfl, below_drewN (below_drewN (Below.refl _ _) _) _⟩
      · obtain rfl : k = n := by omega
        have HT := Lib.hid (show decide (l = l') = true from by
          simp
          apply List.ext_getElem (by rw [h.1, h'.1])
          intro j h1 h2
          have := HA.out j (by rw [← h.1]; exact h1)
          rw [List.getD_eq_getElem?_getD, List.getD_eq_getElem?_getD, List.getElem?_eq_getElem h1, List.getElem?_eq_getElem h2] at this
          exact this)
        go_wp2
        go_ret
        exact ⟨by rw [HT.out]; rfl, below_drewN (Below.refl _ _) _⟩
  · have HF := Lib.hid (show decide (l = l') = false from by simp; intro e; exact hlen (by rw [← h.1, ← h'.1, e]))
    have hb : ((n : Int) == (m : Int)) = false := by simp; omega
    have hb2 : ((n : Int) != (m : Int)) = true := by simp; omega
    clear hlen
    go_enter Try.func21, Try.ntmps21
    go_wp2
    go_ret
    exact ⟨by rw [HF.out]; rfl, Below.refl _ _⟩
end Go.Proofs.Ytblcfncjghkegaa
