/-
  Lists all of whose numbers are keys: contracts of both sides.
-/
import Derived.Test.YtcljjdmfnniobaaGreatSpecThree
import Derived.Test.YtcljjdmfnniobaaGreatImplThree
namespace Go.Proofs.YtcljjdmfnniobaaGreat
set_option maxRecDepth 100000
set_option linter.unusedSimpArgs false
set_option linter.unusedVariables false
open Go.ChangeShapes Go.WideShapes Go.ChangeAt Go.RowKit
open Fld
attribute [local go_sem ↓] Go.wp_at_zero Go.wp_at_succ

/-- The first k hops are nodes, no two neighbours alike. -/
def Good (l : List Int) (k : Nat) : Prop := (∀ j, j < k → 0 ≤ l.getD j 0 ∧ l.getD j 0 < 8) ∧ ∀ j, j + 1 < k → l.getD j 0 ≠ l.getD (j + 1) 0
theorem Good.zero (l : List Int) : Good l 0 := ⟨fun j h => absurd h (by omega), fun j h => absurd h (by omega)⟩
theorem Good.succ {l : List Int} {k : Nat} (h : Good l k) (h1 : 0 ≤ l.getD k 0) (h2 : l.getD k 0 < 8) (h3 : 0 < k → l.getD (k - 1) 0 ≠ l.getD k 0) : Good l (k + 1) := by
  refine ⟨fun j hj => ?_, fun j hj => ?_⟩
  · rcases Nat.lt_succ_iff_lt_or_eq.1 hj with h' | rfl
    · exact h.1 j h'
    · exact ⟨h1, h2⟩
  · by_cases h' : j + 1 < k
    · exact h.2 j h'
    · have : j + 1 = k := by omega
      subst this
      have := h3 (by omega)
      rwa [Nat.add_sub_cancel] at this
theorem Good.route {l : List Int} (h : Good l l.length) (h1 : 1 ≤ l.length) (h4 : l.length ≤ 4) : Route l := by
  refine ⟨⟨h1, h4⟩, fun x hx => ?_, fun i hi => h.2 i (by omega)⟩
  obtain ⟨i, hi, rfl⟩ := List.getElem_of_mem hx
  have := h.1 i hi
  rwa [getD_lt hi] at this
theorem route_good {l : List Int} (h : Route l) : Good l l.length := by
  refine ⟨fun j hj => ?_, fun j hj => h.2.2 j (by omega)⟩
  rw [getD_lt hj]; exact h.2.1 _ (List.getElem_mem _)
theorem all_t {l : List Int} {p : Int → Bool} (h : ∀ j, j < l.length → p (l.getD j 0) = true) : l.all p = true := by
  rw [List.all_eq_true]
  intro x hx
  obtain ⟨i, hi, rfl⟩ := List.getElem_of_mem hx
  have := h i hi
  rwa [getD_lt hi] at this
theorem all_f {l : List Int} {p : Int → Bool} {j : Nat} (hj : j < l.length) (h : p (l.getD j 0) = false) : l.all p = false := by
  rw [List.all_eq_false]
  rw [getD_lt hj] at h
  exact ⟨_, List.getElem_mem hj, by rw [h]; decide⟩
theorem i_every {w : World} {B n c : Nat} {A : Option Addr} {l : List Int} (F : Nat) (p : Int → Bool) (hE : ∀ (x : Int) (w : World), Sem.run Tryz.prog (callFunc F #[Value.int .i64 x]) w = .ok (.enter F #[Value.int .i64 x]) w) (hF : ∀ (x : Int) (w : World), Calls Tryz.prog F #[.int .i64 x] w fun e w' => e = .returned (.bool (p x)) ∧ w = w') (hl : Ints .i64 w B A n l) (hn : n ≤ 17592186043904) :
    Calls Tryz.prog 46 #[.slice A n c, .func (.func F) #[] #[]] w fun e w' => e = .returned (.bool (l.all p)) ∧ w = w' := by
  have HL := Lib.hid hl.1
  have HF := Lib.hid hF
  have HE := Lib.hid hE
  clear hF hE
  go_enter Tryz.func46, Tryz.ntmps46
  go_wp2_with fail
  go_loopw [9] (fun i wr => ∃ k : Nat, k ≤ n ∧ i = .int .i64 k ∧ (∀ j, j < k → p (l.getD j 0) = true) ∧ wr = w) (fun i _ => n - (intOf i).toNat)
  case atStart => exact ⟨0, by omega, rfl, fun j h => absurd h (by omega), rfl⟩
  case round =>
    obtain ⟨k, hk, rfl, hG, rfl⟩ := hrel
    have HG := Lib.hid hG
    clear hG
    by_cases hlt : k < n
    · obtain ⟨b, off, rfl, hb, hcell, hwf⟩ := hl.at_ hlt
      obtain ⟨x, hx⟩ : ∃ x, l.getD k 0 = x := ⟨_, rfl⟩
      rw [hx] at hcell
      have HX := Lib.hid hx
      clear hx hwf
      have q2 : (k : Int) < (n : Int) := by omega
      go_wp2_with fail
      rw [HE.out, Oper.upon_enter]
      refine (HF.out x _).mono ?_
      rintro e w' ⟨rfl, rfl⟩
      obtain ⟨d, hd⟩ : ∃ d, p x = d := ⟨_, rfl⟩
      rw [hd]
      cases d
      · go_wp2
        go_ret
        exact ⟨by rw [all_f (by rw [HL.out]; exact hlt) (by rw [HX.out]; exact hd)]; rfl, rfl⟩
      · go_wp2
        go_roundw
        case rel => exact ⟨k + 1, by omega, by go_num, fun j hj => by rcases Nat.lt_succ_iff_lt_or_eq.1 hj with h | rfl; exact HG.out j h; rw [HX.out]; exact hd, trivial⟩
        case measure => simp [intOf]; omega
    · obtain rfl : k = n := by omega
      have q2 : ¬ (k : Int) < (k : Int) := by omega
      go_wp2
      go_ret
      exact ⟨by rw [all_t (fun j hj => HG.out j (by rw [HL.out] at hj; exact hj))]; rfl, rfl⟩
theorem i_isNode (x : Int) (w : World) : Calls Tryz.prog 40 #[.int .i64 x] w fun e w' => e = .returned (.bool (decide (0 ≤ x ∧ x < 8))) ∧ w = w' := by
  by_cases h1 : 0 ≤ x
  · by_cases h2 : x < 8
    · rw [decide_eq_true ⟨h1, h2⟩]
      go_enter Tryz.func40, Tryz.ntmps40
      go_wp2
      go_ret
      exact ⟨rfl, rfl⟩
    · rw [decide_eq_false (fun h => h2 h.2)]
      go_enter Tryz.func40, Tryz.ntmps40
      go_wp2
      go_ret
      exact ⟨rfl, rfl⟩
  · rw [decide_eq_false (fun h => h1 h.1)]
    go_enter Tryz.func40, Tryz.ntmps40
    go_wp2
    go_ret
    exact ⟨rfl, rfl⟩
theorem i_every_node {w : World} {B n c : Nat} {A : Option Addr} {l : List Int} (hl : Ints .i64 w B A n l) (hn : n ≤ 17592186043904) :
    Calls Tryz.prog 46 #[.slice A n c, .func (.func 40) #[] #[]] w fun e w' => e = .returned (.bool (l.all fun x => decide (0 ≤ x ∧ x < 8))) ∧ w = w' :=
  i_every 40 (fun x => decide (0 ≤ x ∧ x < 8)) (fun x w => rfl) i_isNode hl hn
theorem decide_all {l : List Int} {p : Int → Bool} {q : Prop} [Decidable q] (h : q ↔ ∀ x ∈ l, p x = true) : l.all p = decide q := by
  rw [Bool.eq_iff_iff, List.all_eq_true, decide_eq_true_iff]
  exact h.symm
theorem i_isLaySec (x : Int) (w : World) : Calls Tryz.prog 112 #[.int .i64 x] w fun e w' => e = .returned (.bool (decide (LaySec x))) ∧ w = w' := by
  rcases sec_or x with hs | hs
  · have H := Lib.hid (pubOf_t hs)
    rcases pub_or (powP 7 x.toNat) with hp | hp
    · have HD := Lib.hid (show decide (LaySec x) = true from decide_eq_true ⟨hs, hp⟩)
      rw [HD.out]
      go_enter Tryz.func112, Tryz.ntmps112
      go_wp2_with (first | (go_at_call 116; refine (i_PubOf _ _).mono ?_; rintro e w' ⟨rfl, rfl⟩; rw [H.out]) | (go_at_call 111; with_reducible refine (i_pub_t _ _ hp).mono ?_; rintro e w' ⟨rfl, rfl⟩))
      go_ret
      exact ⟨rfl, rfl⟩
    · have HD := Lib.hid (show decide (LaySec x) = false from decide_eq_false fun h => hp h.2)
      rw [HD.out]
      go_enter Tryz.func112, Tryz.ntmps112
      go_wp2_with (first | (go_at_call 116; refine (i_PubOf _ _).mono ?_; rintro e w' ⟨rfl, rfl⟩; rw [H.out]) | (go_at_call 111; with_reducible refine (i_pub_f _ _ hp).mono ?_; rintro e w' ⟨rfl, rfl⟩))
      go_ret
      exact ⟨rfl, rfl⟩
  · have H := Lib.hid (pubOf_f hs)
    have hp : NoPub (-1) := fun h => absurd h.1 (by decide)
    have HD := Lib.hid (show decide (LaySec x) = false from decide_eq_false fun h => hs h.1)
    rw [HD.out]
    go_enter Tryz.func112, Tryz.ntmps112
    go_wp2_with (first | (go_at_call 116; refine (i_PubOf _ _).mono ?_; rintro e w' ⟨rfl, rfl⟩; rw [H.out]) | (go_at_call 111; with_reducible refine (i_pub_f _ _ hp).mono ?_; rintro e w' ⟨rfl, rfl⟩))
    go_ret
    exact ⟨rfl, rfl⟩
theorem i_every_sec {w : World} {B n c : Nat} {A : Option Addr} {l : List Int} (hl : Ints .i64 w B A n l) (hn : n ≤ 17592186043904) :
    Calls Tryz.prog 46 #[.slice A n c, .func (.func 112) #[] #[]] w fun e w' => e = .returned (.bool (decide (Secs l))) ∧ w = w' :=
  (i_every 112 (fun x => decide (LaySec x)) (fun x w => rfl) i_isLaySec hl hn).mono fun e w' h => ⟨by rw [h.1, decide_all (q := Secs l)]; exact ⟨fun h x hx => decide_eq_true (h x hx), fun h x hx => of_decide_eq_true (h x hx)⟩, h.2⟩
theorem i_isPub (x : Int) (w : World) : Calls Tryz.prog 111 #[.int .i64 x] w fun e w' => e = .returned (.bool (decide (2 ≤ x ∧ x < 2147483646))) ∧ w = w' := by
  rcases pub_or x with hp | hp
  · rw [show decide (2 ≤ x ∧ x < 2147483646) = true from decide_eq_true hp]; exact i_pub_t x w hp
  · rw [show decide (2 ≤ x ∧ x < 2147483646) = false from decide_eq_false hp]; exact i_pub_f x w hp
theorem i_every_pub {w : World} {B n c : Nat} {A : Option Addr} {l : List Int} (hl : Ints .i64 w B A n l) (hn : n ≤ 17592186043904) :
    Calls Tryz.prog 46 #[.slice A n c, .func (.func 111) #[] #[]] w fun e w' => e = .returned (.bool (l.all fun x => decide (2 ≤ x ∧ x < 2147483646))) ∧ w = w' :=
  i_every 111 (fun x => decide (2 ≤ x ∧ x < 2147483646)) (fun x w => rfl) i_isPub hl hn
end Go.Proofs.YtcljjdmfnniobaaGreat
