/-
  Fld: texts joined.
-/
namespace Go.Proofs.Ytnfmjgldcnokbaa.Fld

/-! ### Fermat's little theorem, for any p that is coprime to all smaller numbers -/
def ch : Nat → Nat → Nat
  | _, 0 => 1
  | 0, _ + 1 => 0
  | n + 1, k + 1 => ch n k + ch n (k + 1)

def S (a n : Nat) : Nat → Nat
  | 0 => 0
  | m + 1 => S a n m + ch n m * a ^ m
def Prim (p : Nat) : Prop := 2 ≤ p ∧ ∀ k, 0 < k → k < p → Nat.Coprime p k

/-! ### 2147483647 is prime -/
def nd (p : Nat) : Nat → Bool
  | 0 => true
  | n + 1 => p % (n + 2) != 0 && nd p n
theorem nd_at (p : Nat) : ∀ n, nd p n = true → ∀ d, 2 ≤ d → d < n + 2 → p % d ≠ 0
  | 0, _, d, h1, h2 => by omega
  | n + 1, h, d, h1, h2 => by
    simp only [nd, Bool.and_eq_true, bne_iff_ne] at h
    by_cases e : d = n + 2
    · rw [e]; exact h.1
    · exact nd_at p n h.2 d h1 (by omega)

theorem prim_of (p m : Nat) (h2 : 2 ≤ p) (hnd : nd p m = true) (hm : p < (m + 2) * (m + 2)) : Prim p := by
  refine ⟨h2, fun k h0 h1 => ?_⟩
  have hd1 : Nat.gcd p k ∣ p := Nat.gcd_dvd_left p k
  have hd2 : Nat.gcd p k ≤ k := Nat.gcd_le_right p h0
  have hd0 : 0 < Nat.gcd p k := Nat.gcd_pos_of_pos_right p h0
  show Nat.gcd p k = 1
  generalize Nat.gcd p k = d at *
  obtain ⟨e, he⟩ := hd1
  by_cases hd : d = 1
  · exact hd
  exfalso
  have he0 : e ≠ 0 := by intro h; rw [h] at he; omega
  have he1 : e ≠ 1 := by intro h; rw [h] at he; omega
  by_cases hc : d < m + 2
  · exact nd_at p m hnd d (by omega) hc (by rw [he]; exact Nat.mul_mod_right d e)
  · by_cases hc2 : e < m + 2
    · exact nd_at p m hnd e (by omega) hc2 (by rw [he]; exact Nat.mul_mod_left d e)
    · have : (m + 2) * (m + 2) ≤ d * e := Nat.mul_le_mul (by omega) (by omega)
      omega

theorem prime : Prim 2147483647 := prim_of 2147483647 46340 (by omega) (by decide +kernel) (by omega)

/-! ### the field's operations as the program's contracts have them -/
def addP (a b : Int) : Int := (a + b) % 2147483647
def mulP (a b : Int) : Int := a * b % 2147483647
def powP (a : Int) (n : Nat) : Int := a ^ n % 2147483647
def keyP (s l : Int) : Int := (((s + 7919 * l + 1) * 48271 % 2147483647 + l + 17) * 69621 % 2147483647 + s) % 2147483647

theorem addP_rg (a b : Int) : 0 ≤ addP a b ∧ addP a b < 2147483647 := by unfold addP; omega
theorem mulP_rg (a b : Int) : 0 ≤ mulP a b ∧ mulP a b < 2147483647 := by unfold mulP; omega
theorem powP_rg (a : Int) (n : Nat) : 0 ≤ powP a n ∧ powP a n < 2147483647 := by unfold powP; omega
theorem keyP_rg (s l : Int) : 0 ≤ keyP s l ∧ keyP s l < 2147483647 := by unfold keyP; omega

/-- A product of two field elements is below 2^62. -/
theorem mul_bd {a b : Int} (h1 : 0 ≤ a) (h2 : a < 2147483647) (h3 : 0 ≤ b) (h4 : b < 2147483647) : 0 ≤ a * b ∧ a * b ≤ 4611686014132420609 := by
  refine ⟨Int.mul_nonneg h1 h3, ?_⟩
  have : a * b ≤ 2147483647 * 2147483647 := Int.mul_le_mul (by omega) (by omega) h3 (by omega)
  omega

theorem mulP_comm (a b : Int) : mulP a b = mulP b a := by unfold mulP; rw [Int.mul_comm]
theorem mulP_mod_l (a b : Int) : mulP (a % 2147483647) b = mulP a b := by
  unfold mulP; rw [Int.mul_emod, Int.emod_emod, ← Int.mul_emod]
theorem mulP_mod_r (a b : Int) : mulP a (b % 2147483647) = mulP a b := by
  unfold mulP; rw [Int.mul_emod, Int.emod_emod, ← Int.mul_emod]
theorem mulP_assoc (a b c : Int) : mulP (mulP a b) c = mulP a (mulP b c) := by
  show mulP (a * b % 2147483647) c = mulP a (b * c % 2147483647)
  rw [mulP_mod_l, mulP_mod_r]; unfold mulP; rw [Int.mul_assoc]
theorem mulP_one {a : Int} (h1 : 0 ≤ a) (h2 : a < 2147483647) : mulP a 1 = a := by unfold mulP; omega
theorem one_mulP {a : Int} (h1 : 0 ≤ a) (h2 : a < 2147483647) : mulP 1 a = a := by unfold mulP; omega
theorem powP_zero (a : Int) : powP a 0 = 1 := by simp [powP]
theorem powP_one {a : Int} (h1 : 0 ≤ a) (h2 : a < 2147483647) : powP a 1 = a := by
  have e : a ^ 1 = a := by grind
  unfold powP; rw [e]; omega
theorem powP_succ (a : Int) (n : Nat) : powP a (n + 1) = mulP (powP a n) a := by
  unfold powP; rw [mulP_mod_l, Int.pow_succ]; rfl
theorem powP_mod (a : Int) : ∀ n, powP (a % 2147483647) n = powP a n
  | 0 => by simp [powP]
  | n + 1 => by rw [powP_succ, powP_succ, powP_mod a n, mulP_mod_r]
theorem powP_mul (a : Int) (m n : Nat) : powP (powP a m) n = powP a (m * n) := by
  show powP (a ^ m % 2147483647) n = _
  rw [powP_mod]; unfold powP; rw [Int.pow_mul]
theorem powP_comm (a : Int) (m n : Nat) : powP (powP a m) n = powP (powP a n) m := by
  rw [powP_mul, powP_mul, Nat.mul_comm]

/-- The relation of the power loops: r * a^n is the number sought. -/
def pw (r a : Int) (n : Nat) : Int := mulP r (powP a n)
theorem pw_start {a : Int} {n : Nat} : pw 1 a n = powP a n := by
  unfold pw; exact one_mulP (powP_rg _ _).1 (powP_rg _ _).2
theorem pw_end {r a : Int} (h1 : 0 ≤ r) (h2 : r < 2147483647) : pw r a 0 = r := by
  unfold pw; rw [powP_zero]; exact mulP_one h1 h2
theorem pw_one {r a : Int} (h1 : 0 ≤ a) (h2 : a < 2147483647) : pw r a 1 = mulP r a := by
  unfold pw; rw [powP_one h1 h2]
theorem sq (a : Int) (k : Nat) : powP (mulP a a) k = powP a (k + k) := by
  show powP (a * a % 2147483647) k = _
  rw [powP_mod]
  have : a * a = a ^ 2 := by grind
  rw [this]; unfold powP; rw [← Int.pow_mul, show 2 * k = k + k from by omega]
theorem pw_even (r a : Int) (n : Nat) (h : n % 2 = 0) : pw r (mulP a a) (n / 2) = pw r a n := by
  unfold pw; rw [sq, show n / 2 + n / 2 = n from by omega]
theorem pw_odd (r a : Int) (n : Nat) (h : n % 2 = 1) : pw (mulP r a) (mulP a a) (n / 2) = pw r a n := by
  unfold pw; rw [sq, mulP_assoc]
  have e : n = n / 2 + n / 2 + 1 := by omega
  have : mulP a (powP a (n / 2 + n / 2)) = powP a n := by
    rw [mulP_comm, ← powP_succ, ← e]
  rw [this]

/-! ### what each function of chapter 1 answers -/
def Ok (a : Int) : Prop := 0 ≤ a ∧ a < 2147483647
def Bad (a : Int) : Prop := ¬ (0 ≤ a ∧ a < 2147483647)
def Sec (n : Int) : Prop := 1 ≤ n ∧ n < 2147483646
def NoSec (n : Int) : Prop := ¬ (1 ≤ n ∧ n < 2147483646)
def Pub (n : Int) : Prop := 2 ≤ n ∧ n < 2147483646
def NoPub (n : Int) : Prop := ¬ (2 ≤ n ∧ n < 2147483646)
def Lab (n : Int) : Prop := 0 ≤ n ∧ n ≤ 99
def NoLab (n : Int) : Prop := ¬ (0 ≤ n ∧ n ≤ 99)
theorem ok_or (a : Int) : Ok a ∨ Bad a := Classical.em _
theorem sec_or (a : Int) : Sec a ∨ NoSec a := Classical.em _
theorem pub_or (a : Int) : Pub a ∨ NoPub a := Classical.em _
theorem Ok.lo {a : Int} (h : Ok a) : 0 ≤ a := h.1
theorem Ok.hi {a : Int} (h : Ok a) : a < 2147483647 := h.2
theorem Sec.lo {a : Int} (h : Sec a) : 1 ≤ a := h.1
theorem Sec.hi {a : Int} (h : Sec a) : a < 2147483646 := h.2
theorem Pub.lo {a : Int} (h : Pub a) : 2 ≤ a := h.1
theorem Pub.hi {a : Int} (h : Pub a) : a < 2147483646 := h.2
theorem Lab.lo {a : Int} (h : Lab a) : 0 ≤ a := h.1
theorem Lab.hi {a : Int} (h : Lab a) : a ≤ 99 := h.2
def pubOf (s : Int) : Int := if 1 ≤ s ∧ s < 2147483646 then powP 7 s.toNat else -1
def shared (s p : Int) : Int := if (1 ≤ s ∧ s < 2147483646) ∧ (2 ≤ p ∧ p < 2147483646) then powP p s.toNat else -1
def fkey (s l : Int) : Int := if (0 ≤ s ∧ s < 2147483647) ∧ (0 ≤ l ∧ l ≤ 99) then keyP s l else -1
theorem keyP_way (s l : Int) : addP (mulP ((mulP ((s + l * 7919 + 1) % 2147483647) 48271 + l + 17) % 2147483647) 69621) s = keyP s l := by
  rw [mulP_mod_l, mulP_mod_l]
  unfold addP mulP keyP
  rw [show l * 7919 = 7919 * l from Int.mul_comm _ _]
theorem keyP_el (s l : Int) : addP (mulP (addP (addP (mulP (addP (addP s (mulP l 7919)) 1) 48271) l) 17) 69621) s = keyP s l := by
  unfold addP mulP keyP; omega
theorem ok_pow (a : Int) (n : Nat) : Ok (powP a n) := powP_rg a n
theorem pubOf_t {a : Int} (h : Sec a) : pubOf a = powP 7 a.toNat := if_pos h
theorem pubOf_f {a : Int} (h : NoSec a) : pubOf a = -1 := if_neg h
theorem shared_t {a b : Int} (h : Sec a) (h' : Pub b) : shared a b = powP b a.toNat := if_pos ⟨h, h'⟩
theorem shared_l {a b : Int} (h : NoSec a) : shared a b = -1 := if_neg fun x => h x.1
theorem shared_r {a b : Int} (h : NoPub b) : shared a b = -1 := if_neg fun x => h x.2
theorem fkey_t {a b : Int} (h : Ok a) (h' : Lab b) : fkey a b = keyP a b := if_pos ⟨h, h'⟩
theorem fkey_l {a b : Int} (h : Bad a) : fkey a b = -1 := if_neg fun x => h x.1
theorem fkey_r {a b : Int} (h : NoLab b) : fkey a b = -1 := if_neg fun x => h x.2
/-! ### a list of powers -/
end Go.Proofs.Ytnfmjgldcnokbaa.Fld
