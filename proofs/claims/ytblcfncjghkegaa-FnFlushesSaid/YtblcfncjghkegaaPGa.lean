/-
  Fld: texts joined.
-/
namespace Go.Proofs.Ytblcfncjghkegaa.Fld

/-! ### Fermat's little theorem, for any p that is coprime to all smaller numbers -/
def ch : Nat → Nat → Nat
  | _, 0 => 1
  | 0, _ + 1 => 0
  | n + 1, k + 1 => ch n k + ch n (k + 1)

def S (a n : Nat) : Nat → Nat
  | 0 => 0
  | m + 1 => S a n m + ch n m * a ^ m
def Prim (p : Nat) : Prop := 2 ≤ p ∧ ∀ k, 0 < k → k < p → Nat.Coprime p k

/-! ### 2147483647 is prime -/
def nd (p : Nat) : Nat → Bool
  | 0 => true
  | n + 1 => p % (n + 2) != 0 && nd p n
theorem nd_at (p : Nat) : ∀ n, nd p n = true → ∀ d, 2 ≤ d → d < n + 2 → p % d ≠ 0
  | 0, _, d, h1, h2 => by omega
  | n + 1, h, d, h1, h2 => by
    simp only [nd, Bool.and_eq_true, bne_iff_ne] at h
    by_cases e : d = n + 2
    · rw [e]; exact h.1
    · exact nd_at p n h.2 d h1 (by omega)

theorem prim_of (p m : Nat) (h2 : 2 ≤ p) (hnd : nd p m = true) (hm : p < (m + 2) * (m + 2)) : Prim p := by
  refine ⟨h2, fun k h0 h1 => ?_⟩
  have hd1 : Nat.gcd p k ∣ p := Nat.gcd_dvd_left p k
  have hd2 : Nat.gcd p k ≤ k := Nat.gcd_le_right p h0
  have hd0 : 0 < Nat.gcd p k := Nat.gcd_pos_of_pos_right p h0
  show Nat.gcd p k = 1
  generalize Nat.gcd p k = d at *
  obtain ⟨e, he⟩ := hd1
  by_cases hd : d = 1
  · exact hd
  exfalso
  have he0 : e ≠ 0 := by intro h; rw [h] at he; omega
  have he1 : e ≠ 1 := by intro h; rw [h] at he; omega
  by_cases hc : d < m + 2
  · exact nd_at p m hnd d (by omega) hc (by rw [he]; exact Nat.mul_mod_right d e)
  · by_cases hc2 : e < m + 2
    · exact nd_at p m hnd e (by omega) hc2 (by rw [he]; exact Nat.mul_mod_left d e)
    · have : (m + 2) * (m + 2) ≤ d * e := Nat.mul_le_mul (by omega) (by omega)
      omega

theorem prime : Prim 2147483647 := prim_of 2147483647 46340 (by omega) (by decide +kernel) (by omega)

/-! ### the field's operations as the program's contracts have them -/
def addP (a b : Int) : Int := (a + b) % 2147483647
def mulP (a b : Int) : Int := a * b % 2147483647
def powP (a : Int) (n : Nat) : Int := a ^ n % 2147483647
def keyP (s l : Int) : Int := (((s + 7919 * l + 1) * 48271 % 2147483647 + l + 17) * 69621 % 2147483647 + s) % 2147483647

/-! ### what each function of chapter 1 answers -/
def Ok (a : Int) : Prop := 0 ≤ a ∧ a < 2147483647
def Bad (a : Int) : Prop := ¬ (0 ≤ a ∧ a < 2147483647)
def Sec (n : Int) : Prop := 1 ≤ n ∧ n < 2147483646
def Pub (n : Int) : Prop := 2 ≤ n ∧ n < 2147483646
def Lab (n : Int) : Prop := 0 ≤ n ∧ n ≤ 99
theorem ok_or (a : Int) : Ok a ∨ Bad a := Classical.em _
theorem Ok.lo {a : Int} (h : Ok a) : 0 ≤ a := h.1
theorem Ok.hi {a : Int} (h : Ok a) : a < 2147483647 := h.2
theorem Sec.lo {a : Int} (h : Sec a) : 1 ≤ a := h.1
theorem Sec.hi {a : Int} (h : Sec a) : a < 2147483646 := h.2
theorem Pub.lo {a : Int} (h : Pub a) : 2 ≤ a := h.1
theorem Pub.hi {a : Int} (h : Pub a) : a < 2147483646 := h.2
theorem Lab.lo {a : Int} (h : Lab a) : 0 ≤ a := h.1
theorem Lab.hi {a : Int} (h : Lab a) : a ≤ 99 := h.2
def fok (a : Int) : Bool := decide (0 ≤ a ∧ a < 2147483647)
def shared (s p : Int) : Int := if (1 ≤ s ∧ s < 2147483646) ∧ (2 ≤ p ∧ p < 2147483646) then powP p s.toNat else -1
theorem fok_t {a : Int} (h : Ok a) : fok a = true := decide_eq_true h
theorem fok_f {a : Int} (h : Bad a) : fok a = false := decide_eq_false h
/-! ### a list of powers -/
end Go.Proofs.Ytblcfncjghkegaa.Fld
