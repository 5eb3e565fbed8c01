/-
  All of a list's first things; the map of its first things.
-/
import Derived.Test.YtpapkonejkdkhaaMk
import Derived.Test.YtpapkonejkdkhaaSn
namespace Go.Proofs.Ytpapkonejkdkhaa
set_option maxRecDepth 100000
set_option linter.unusedVariables false
set_option linter.unusedSimpArgs false
open Go.ChangeShapes Go.WideShapes Go.ChangeAt Go.RowKit
section
variable {α : Type} {P : α → Prop} {p : α → Bool} {f : α → Int} {l : List α} {a : α} {j : Nat}
theorem al0 : ∀ h ∈ l.take 0, P h := fun h hh => absurd hh (by simp)
theorem alS (h : ∀ x ∈ l.take j, P x) (hl : l[j]? = some a) (ha : P a) : ∀ x ∈ l.take (j + 1), P x := by
  rw [take_sn hl]
  intro x hx
  rcases List.mem_append.1 hx with h' | h'
  · exact h x h'
  · rw [List.mem_singleton] at h'; rw [h']; exact ha
theorem alE (h : ∀ x ∈ l.take j, P x) (hj : l.length ≤ j) : ∀ x ∈ l, P x := by rwa [List.take_of_length_le hj] at h
theorem alMem (hl : l[j]? = some a) : a ∈ l := List.mem_of_getElem? hl
theorem alF (hl : l[j]? = some a) (h : p a = false) : l.all p = false := List.all_eq_false.2 ⟨a, alMem hl, by rw [h]; decide⟩
theorem alT (h : ∀ x ∈ l.take j, p x = true) (hj : l.length ≤ j) : l.all p = true := List.all_eq_true.2 (alE h hj)
theorem mapS (hl : l[j]? = some a) : (l.take (j + 1)).map f = (l.take j).map f ++ [f a] := by rw [take_sn hl, List.map_append]; rfl
theorem mapLen (hn : j ≤ l.length) : ((l.take j).map f).length = j := by rw [List.length_map, List.length_take]; omega
theorem alDec [∀ x, Decidable (P x)] (h : ∀ x ∈ l, P x) : (l.all fun x => decide (P x)) = true := List.all_eq_true.2 fun x hx => decide_eq_true (h x hx)
theorem alDecF [∀ x, Decidable (P x)] (h : ¬ ∀ x ∈ l, P x) : (l.all fun x => decide (P x)) = false := Bool.eq_false_iff.2 fun hh => h fun x hx => of_decide_eq_true (List.all_eq_true.1 hh x hx)
end
theorem atI {l : List Int} {n j : Nat} (h : l.length = n) (hj : j < n) : l[j]? = some (l.getD j 0) := by
  rw [List.getD_eq_getElem?_getD, List.getElem?_eq_getElem (by omega)]; rfl
/-- every over whatever function of numbers. -/
theorem i_everyI {w : World} {B n c : Nat} {A : Option Addr} {l : List Int} (F : Nat) (p : Int → Bool) (hE : ∀ (x : Int) (w : World), Sem.run Try.prog (callFunc F #[Value.int .i64 x]) w = .ok (.enter F #[Value.int .i64 x]) w) (hF : ∀ (x : Int) (w : World), Calls Try.prog F #[.int .i64 x] w fun e w' => e = .returned (.bool (p x)) ∧ w = w') (hl : Ints .i64 w B A n l) (hn : n ≤ 17592186043904) :
    Calls Try.prog 106 #[.slice A n c, .func (.func F) #[] #[]] w fun e w' => e = .returned (.bool (l.all p)) ∧ w = w' := by
  have HL := Lib.hid hl.1
  have HF := Lib.hid hF
  have HE := Lib.hid hE
  clear hF hE
  go_enter Try.func106, Try.ntmps106
  go_wp2_with fail
  go_loopw [9] (fun i wr => ∃ k : Nat, k ≤ n ∧ i = .int .i64 k ∧ (∀ x ∈ l.take k, p x = true) ∧ wr = w) (fun i _ => n - (intOf i).toNat)
  case atStart => exact ⟨0, by omega, rfl, al0, rfl⟩
  case round =>
    obtain ⟨k, hk, rfl, hG, rfl⟩ := hrel
    have HG := Lib.hid hG
    clear hG
    by_cases hlt : k < n
    · obtain ⟨b, off, rfl, hb, hcell, hwf⟩ := hl.at_ hlt
      have HA := Lib.hid (atI HL.out hlt)
      obtain ⟨x, hx⟩ : ∃ x, l.getD k 0 = x := ⟨_, rfl⟩
      rw [hx] at hcell HA
      clear hx hwf
      have q2 : (k : Int) < (n : Int) := by omega
      go_wp2_with fail
      rw [HE.out, Oper.upon_enter]
      refine (HF.out x _).mono ?_
      rintro e w' ⟨rfl, rfl⟩
      obtain ⟨d, hd⟩ : ∃ d, p x = d := ⟨_, rfl⟩
      rw [hd]
      have HD := Lib.hid hd
      clear hd
      cases d
      · have HR := Lib.hid (alF HA.out HD.out)
        go_wp2
        go_ret
        exact ⟨ret_bool HR.out.symm, rfl⟩
      · go_wp2
        go_roundw
        case rel => exact ⟨k + 1, by omega, by go_num, alS HG.out HA.out HD.out, trivial⟩
        case measure => simp [intOf]; omega
    · obtain rfl : k = n := by omega
      have q2 : ¬ (k : Int) < (k : Int) := by omega
      have HR := Lib.hid (alT HG.out (Nat.le_of_eq HL.out))
      go_wp2
      go_ret
      exact ⟨ret_bool HR.out.symm, rfl⟩
end Go.Proofs.Ytpapkonejkdkhaa
