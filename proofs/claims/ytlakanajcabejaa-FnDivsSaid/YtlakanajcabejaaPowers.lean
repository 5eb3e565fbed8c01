/-
  Contracts of Powers, the model's and the program's.
-/
import Derived.Test.YtlakanajcabejaaImplOne
import Derived.Test.YtlakanajcabejaaApp
namespace Go.Proofs.Ytlakanajcabejaa
open Go.ChangeShapes Go.WideShapes Go.ChangeAt Go.RowKit
open Fld
theorem info_int : (Try.prog.info? 3).map (fun i => (i.zero, i.size, i.bytes)) = some (some (.int .i64 0), 1, 8) := by kernel_rfl
theorem ok_wf {x : Int} (h : Ok x) : (Lit.int .i64 x).wf = true := WalkArith.wf_i64 ⟨by have := h.lo; omega, by have := h.hi; omega⟩

theorem step_own {e : TypeId} {w w1 : World} {base : Nat} {v v1 : Value} {l l' : List Int} {x : Int} (h : Own .i64 e w base v l) (h1 : w1.ownsRow base e 1 v1 (l.length + 1) (l.map (Value.int .i64) ++ [.int .i64 x])) (hl : l' = l ++ [x]) (hx : (Lit.int .i64 x).wf = true) : Own .i64 e w1 base v1 l' := by
  subst hl
  refine Own.of (n := l.length + 1) (by simpa using h1) fun y hy => ?_
  rcases List.mem_append.1 hy with h' | h'
  · exact h.2 y h'
  · rw [List.mem_singleton] at h'; rw [h']; exact hx
theorem step_below {k : IntKind} {e : TypeId} {w wr w1 : World} {v : Value} {l : List Int} {o : Obj} (hB : Below w.heap.size w wr) (h : Own k e wr w.heap.size v l) (hg : (wr.alloc o).grownBy w1 v.ownBlock) : Below w.heap.size w w1 :=
  (hB.alloc hB.size o).grown hg (by simp; have := hB.size; omega) fun b hb => (h.1.lt b hb).1
theorem step_row (a : Int) (k : Nat) {m : Nat} : ∀ j, j < m → (if j = k then Value.int .i64 (powP a k) else .int .i64 (if j < k then powP a j else 0)) = .int .i64 (if j < k + 1 then powP a j else 0) := by
  intro j _
  by_cases h : j = k
  · subst h; simp
  · by_cases h2 : j < k
    · simp [h, h2, Nat.lt_succ_of_lt h2]
    · simp [h, h2, show ¬ j < k + 1 by omega]
theorem end_row (a : Int) (k : Nat) : ∀ j, j < k → Value.int .i64 (if j < k then powP a j else 0) = .int .i64 ((pw0 a k).getD j 0) := by
  intro j h
  rw [if_pos h, pw0_at h]
theorem i_Powers (a n : Int) (w : World) :
    Calls Try.prog 33 #[.int .i64 a, .int .i64 n] w fun e w' => ∃ v, e = .returned v ∧ Own .i64 3 w' w.heap.size v (pows a n) ∧ Below w.heap.size w w' := by
  rcases ok_or a with h | h
  · by_cases h0 : 0 ≤ n
    · by_cases h1 : n ≤ 64
      · obtain ⟨m, rfl⟩ := Int.eq_ofNat_of_zero_le h0
        have H := Lib.hid (pows_t (n := (m : Int)) h (by omega) h1)
        have a0 := h.lo
        have a1 := h.hi
        have t1 : decide ((m : Int) < 0) = false := by simp
        have t2 : decide (64 < (m : Int)) = false := by simp; omega
        obtain ⟨i0, hi0, hz0, hz1, hz2⟩ := info_parts info_int
        go_enter Try.func33, Try.ntmps33
        go_wp2_with (first | (go_at_call 20; with_reducible refine (i_FOk_t _ _ (by assumption)).mono ?_; rintro e w' ⟨rfl, rfl⟩) | (go_at_call 20; with_reducible refine (i_FOk_f _ _ (by assumption)).mono ?_; rintro e w' ⟨rfl, rfl⟩) | (at_make; refine wpList_mk _ rfl (.tmp 19) (.tmp 19) _ rfl 3 i0 _ Try.underlying31 hi0 hz0 rfl hz1 m rfl rfl (by rw [hz2]; omega) (by simp only [maxLen]; omega) ?_; intro w1 hrow hB1 hsz))
        go_loopw [6, 23] (fun x i wr => ∃ k : Nat, k ≤ m ∧ i = .int .i64 k ∧ x = .int .i64 (powP a k) ∧ wr.rowIs w.heap.size 3 m (fun j => .int .i64 (if j < k then powP a j else 0)) ∧ Below w.heap.size w wr) (fun _ i _ => m - (intOf i).toNat)
        case atStart => exact ⟨0, by omega, rfl, by rw [powP_zero], hrow.congr fun j _ => rfl, hB1⟩
        case round =>
          obtain ⟨k, hk, rfl, rfl, hO, hB⟩ := hrel
          by_cases hlt : k < m
          · have HP := Lib.hid (powP_succ a k)
            have ok1 := ok_pow a k
            have hcell := hO.cell hlt
            have hfz := hO.frozen k
            go_wp2_with (go_at_call 45; refine (i_mul _ _ _ ok1.lo ok1.hi a0 a1).mono ?_; rintro e w' ⟨rfl, rfl⟩)
            go_roundw
            case rel => exact ⟨k + 1, by omega, by go_num, by rw [HP.out], (hO.set k _).congr (step_row a k), hB.setCell (Nat.le_refl _) _⟩
            case measure => simp [intOf]; omega
          · obtain rfl : k = m := by omega
            go_wp2
            go_ret
            refine ⟨_, rfl, ?_, hB⟩
            rw [H.out]
            exact Own.of_row (hO.congr (end_row a k)) (pw0_len a k) (by simp only [maxLen]; omega) (Nat.le_refl _) fun x hx => ok_wf (pw0_ok hx)
      · have H := Lib.hid (pows_n (a := a) (n := n) (by omega))
        go_enter Try.func33, Try.ntmps33
        go_wp2_with (first | (go_at_call 20; with_reducible refine (i_FOk_t _ _ (by assumption)).mono ?_; rintro e w' ⟨rfl, rfl⟩) | (go_at_call 20; with_reducible refine (i_FOk_f _ _ (by assumption)).mono ?_; rintro e w' ⟨rfl, rfl⟩))
        go_ret
        exact ⟨_, rfl, by rw [H.out]; exact Own.nil _ _ _ _, Below.refl _ _⟩
    · have H := Lib.hid (pows_n (a := a) (n := n) (by omega))
      go_enter Try.func33, Try.ntmps33
      go_wp2_with (first | (go_at_call 20; with_reducible refine (i_FOk_t _ _ (by assumption)).mono ?_; rintro e w' ⟨rfl, rfl⟩) | (go_at_call 20; with_reducible refine (i_FOk_f _ _ (by assumption)).mono ?_; rintro e w' ⟨rfl, rfl⟩))
      go_ret
      exact ⟨_, rfl, by rw [H.out]; exact Own.nil _ _ _ _, Below.refl _ _⟩
  · have H := Lib.hid (pows_l (n := n) h)
    go_enter Try.func33, Try.ntmps33
    go_wp2_with (first | (go_at_call 20; with_reducible refine (i_FOk_t _ _ (by assumption)).mono ?_; rintro e w' ⟨rfl, rfl⟩) | (go_at_call 20; with_reducible refine (i_FOk_f _ _ (by assumption)).mono ?_; rintro e w' ⟨rfl, rfl⟩))
    go_ret
    exact ⟨_, rfl, by rw [H.out]; exact Own.nil _ _ _ _, Below.refl _ _⟩
theorem i_FPow_nat (a : Int) (k : Nat) (w : World) (h : Ok a) (hk : k ≤ 1000) : Calls Try.prog 22 #[.int .i64 a, .int .i64 k] w fun e w' => e = .returned (.int .i64 (powP a k)) ∧ w = w' := by
  refine (i_FPow a k w (by omega)).mono fun e w' hh => ⟨?_, hh.2⟩
  rw [hh.1, fpow_t h (by omega)]; rfl
/-- A call that leaves the world alone, inside a region whose order is open. -/
theorem q_same {P : Program} {f : FuncId} {args : Array Value} {w : World} {n : Nat} {v : Value}
    (h : ∀ W, Calls P f args W fun e w' => e = .returned v ∧ W = w') : Calls P f args (w.drewN n) fun e w'' => e = .returned v ∧ ∃ m, w'' = w.drewN m :=
  (h _).mono fun _ _ ⟨he, hw⟩ => ⟨he, n, hw.symm⟩
theorem q_add {P : Program} {f : FuncId} {args : Array Value} {w : World} {a n : Nat} {v : Value}
    (h : ∀ W, Calls P f args W fun e w' => e = .returned v ∧ W = w') : Calls P f args (w.drewN (a + n)) fun e w'' => e = .returned v ∧ ∃ m, w'' = w.drewN (a + m) :=
  (h _).mono fun _ _ ⟨he, hw⟩ => ⟨he, n, hw.symm⟩
end Go.Proofs.Ytlakanajcabejaa
