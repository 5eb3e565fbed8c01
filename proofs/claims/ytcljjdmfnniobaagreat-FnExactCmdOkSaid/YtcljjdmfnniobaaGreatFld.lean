/-
  Plain arithmetic modulo 2147483647: powers, inverses (Fermat), keys. Nothing of the program is imported.
-/
namespace Go.Proofs.YtcljjdmfnniobaaGreat.Fld

/-! ### Fermat's little theorem, for any p that is coprime to all smaller numbers -/
def ch : Nat → Nat → Nat
  | _, 0 => 1
  | 0, _ + 1 => 0
  | n + 1, k + 1 => ch n k + ch n (k + 1)

theorem ch_zero (n : Nat) : ch n 0 = 1 := by cases n <;> rfl
theorem ch_succ (n k : Nat) : ch (n + 1) (k + 1) = ch n k + ch n (k + 1) := rfl
theorem ch_gt : ∀ (n k : Nat), n < k → ch n k = 0
  | 0, k + 1, _ => rfl
  | n + 1, k + 1, h => by rw [ch_succ, ch_gt n k (by omega), ch_gt n (k + 1) (by omega)]
theorem ch_self : ∀ n : Nat, ch n n = 1
  | 0 => rfl
  | n + 1 => by rw [ch_succ, ch_self n, ch_gt n (n + 1) (by omega)]
theorem ch_mul : ∀ n k : Nat, (k + 1) * ch (n + 1) (k + 1) = (n + 1) * ch n k
  | 0, 0 => rfl
  | 0, k + 1 => by simp [ch]
  | n + 1, 0 => by
    have h := ch_mul n 0
    rw [ch_succ (n + 1) 0]
    simp only [ch_zero] at *
    omega
  | n + 1, j + 1 => by
    have h1 := ch_mul n j
    have h2 := ch_mul n (j + 1)
    have e := ch_succ n j
    rw [ch_succ (n + 1) (j + 1)]
    grind

def S (a n : Nat) : Nat → Nat
  | 0 => 0
  | m + 1 => S a n m + ch n m * a ^ m
theorem S_step (a n : Nat) : ∀ m, S a (n + 1) (m + 1) = S a n (m + 1) + a * S a n m
  | 0 => by simp [S, ch_zero]
  | m + 1 => by
    have h := S_step a n m
    show S a (n + 1) (m + 1) + ch (n + 1) (m + 1) * a ^ (m + 1) = S a n (m + 1) + ch n (m + 1) * a ^ (m + 1) + a * (S a n m + ch n m * a ^ m)
    rw [h, ch_succ, Nat.pow_succ]
    grind
theorem binom (a : Nat) : ∀ n, (a + 1) ^ n = S a n (n + 1)
  | 0 => by simp [S, ch]
  | n + 1 => by
    rw [Nat.pow_succ, binom a n, S_step]
    show _ = S a n (n + 1) + ch n (n + 1) * a ^ (n + 1) + _
    rw [ch_gt n (n + 1) (by omega)]
    grind

def Prim (p : Nat) : Prop := 2 ≤ p ∧ ∀ k, 0 < k → k < p → Nat.Coprime p k

theorem ch_dvd {p : Nat} (hp : Prim p) (k : Nat) (h0 : 0 < k) (h1 : k < p) : p ∣ ch p k := by
  obtain ⟨n, rfl⟩ : ∃ n, p = n + 1 := ⟨p - 1, by omega⟩
  obtain ⟨j, rfl⟩ : ∃ j, k = j + 1 := ⟨k - 1, by omega⟩
  have h := ch_mul n j
  exact (hp.2 (j + 1) h0 h1).dvd_of_dvd_mul_left ⟨ch n j, h⟩

theorem S_mod {p : Nat} (hp : Prim p) (a : Nat) : ∀ m, m < p → S a p (m + 1) % p = 1 % p
  | 0, _ => by simp [S, ch_zero]
  | m + 1, h => by
    show (S a p (m + 1) + ch p (m + 1) * a ^ (m + 1)) % p = _
    obtain ⟨c, hc⟩ := ch_dvd hp (m + 1) (by omega) h
    rw [hc, Nat.mul_assoc, Nat.add_mul_mod_self_left]
    exact S_mod hp a m (by omega)

theorem fermat {p : Nat} (hp : Prim p) : ∀ a : Nat, a ^ p % p = a % p
  | 0 => by rw [Nat.zero_pow (by have := hp.1; omega)]
  | a + 1 => by
    have ih := fermat hp a
    obtain ⟨n, rfl⟩ : ∃ n, p = n + 1 := ⟨p - 1, by have := hp.1; omega⟩
    rw [binom]
    show (S a (n + 1) (n + 1) + ch (n + 1) (n + 1) * a ^ (n + 1)) % (n + 1) = _
    rw [ch_self, Nat.one_mul, Nat.add_mod, ih, S_mod hp a n (by omega), ← Nat.add_mod, Nat.add_comm]

/-! ### 2147483647 is prime -/
def nd (p : Nat) : Nat → Bool
  | 0 => true
  | n + 1 => p % (n + 2) != 0 && nd p n
theorem nd_at (p : Nat) : ∀ n, nd p n = true → ∀ d, 2 ≤ d → d < n + 2 → p % d ≠ 0
  | 0, _, d, h1, h2 => by omega
  | n + 1, h, d, h1, h2 => by
    simp only [nd, Bool.and_eq_true, bne_iff_ne] at h
    by_cases e : d = n + 2
    · rw [e]; exact h.1
    · exact nd_at p n h.2 d h1 (by omega)

theorem prim_of (p m : Nat) (h2 : 2 ≤ p) (hnd : nd p m = true) (hm : p < (m + 2) * (m + 2)) : Prim p := by
  refine ⟨h2, fun k h0 h1 => ?_⟩
  have hd1 : Nat.gcd p k ∣ p := Nat.gcd_dvd_left p k
  have hd2 : Nat.gcd p k ≤ k := Nat.gcd_le_right p h0
  have hd0 : 0 < Nat.gcd p k := Nat.gcd_pos_of_pos_right p h0
  show Nat.gcd p k = 1
  generalize Nat.gcd p k = d at *
  obtain ⟨e, he⟩ := hd1
  by_cases hd : d = 1
  · exact hd
  exfalso
  have he0 : e ≠ 0 := by intro h; rw [h] at he; omega
  have he1 : e ≠ 1 := by intro h; rw [h] at he; omega
  by_cases hc : d < m + 2
  · exact nd_at p m hnd d (by omega) hc (by rw [he]; exact Nat.mul_mod_right d e)
  · by_cases hc2 : e < m + 2
    · exact nd_at p m hnd e (by omega) hc2 (by rw [he]; exact Nat.mul_mod_left d e)
    · have : (m + 2) * (m + 2) ≤ d * e := Nat.mul_le_mul (by omega) (by omega)
      omega

theorem prime : Prim 2147483647 := prim_of 2147483647 46340 (by omega) (by decide +kernel) (by omega)

/-! ### the field's operations as the program's contracts have them -/
def addP (a b : Int) : Int := (a + b) % 2147483647
def mulP (a b : Int) : Int := a * b % 2147483647
def powP (a : Int) (n : Nat) : Int := a ^ n % 2147483647
def invP (a : Int) : Int := powP a 2147483645
def keyP (s l : Int) : Int := (((s + 7919 * l + 1) * 48271 % 2147483647 + l + 17) * 69621 % 2147483647 + s) % 2147483647

theorem addP_rg (a b : Int) : 0 ≤ addP a b ∧ addP a b < 2147483647 := by unfold addP; omega
theorem mulP_rg (a b : Int) : 0 ≤ mulP a b ∧ mulP a b < 2147483647 := by unfold mulP; omega
theorem powP_rg (a : Int) (n : Nat) : 0 ≤ powP a n ∧ powP a n < 2147483647 := by unfold powP; omega
theorem invP_rg (a : Int) : 0 ≤ invP a ∧ invP a < 2147483647 := powP_rg _ _
theorem keyP_rg (s l : Int) : 0 ≤ keyP s l ∧ keyP s l < 2147483647 := by unfold keyP; omega

/-- A product of two field elements is below 2^62. -/
theorem mul_bd {a b : Int} (h1 : 0 ≤ a) (h2 : a < 2147483647) (h3 : 0 ≤ b) (h4 : b < 2147483647) : 0 ≤ a * b ∧ a * b ≤ 4611686014132420609 := by
  refine ⟨Int.mul_nonneg h1 h3, ?_⟩
  have : a * b ≤ 2147483647 * 2147483647 := Int.mul_le_mul (by omega) (by omega) h3 (by omega)
  omega

theorem mulP_comm (a b : Int) : mulP a b = mulP b a := by unfold mulP; rw [Int.mul_comm]
theorem mulP_mod_l (a b : Int) : mulP (a % 2147483647) b = mulP a b := by
  unfold mulP; rw [Int.mul_emod, Int.emod_emod, ← Int.mul_emod]
theorem mulP_mod_r (a b : Int) : mulP a (b % 2147483647) = mulP a b := by
  unfold mulP; rw [Int.mul_emod, Int.emod_emod, ← Int.mul_emod]
theorem mulP_assoc (a b c : Int) : mulP (mulP a b) c = mulP a (mulP b c) := by
  show mulP (a * b % 2147483647) c = mulP a (b * c % 2147483647)
  rw [mulP_mod_l, mulP_mod_r]; unfold mulP; rw [Int.mul_assoc]
theorem mulP_one {a : Int} (h1 : 0 ≤ a) (h2 : a < 2147483647) : mulP a 1 = a := by unfold mulP; omega
theorem one_mulP {a : Int} (h1 : 0 ≤ a) (h2 : a < 2147483647) : mulP 1 a = a := by unfold mulP; omega
theorem powP_zero (a : Int) : powP a 0 = 1 := by simp [powP]
theorem powP_one {a : Int} (h1 : 0 ≤ a) (h2 : a < 2147483647) : powP a 1 = a := by
  have e : a ^ 1 = a := by grind
  unfold powP; rw [e]; omega
theorem powP_add (a : Int) (m n : Nat) : powP a (m + n) = mulP (powP a m) (powP a n) := by
  unfold powP; rw [mulP_mod_l, mulP_mod_r, Int.pow_add]; rfl
theorem powP_succ (a : Int) (n : Nat) : powP a (n + 1) = mulP (powP a n) a := by
  unfold powP; rw [mulP_mod_l, Int.pow_succ]; rfl
theorem powP_mod (a : Int) : ∀ n, powP (a % 2147483647) n = powP a n
  | 0 => by simp [powP]
  | n + 1 => by rw [powP_succ, powP_succ, powP_mod a n, mulP_mod_r]
theorem powP_mul (a : Int) (m n : Nat) : powP (powP a m) n = powP a (m * n) := by
  show powP (a ^ m % 2147483647) n = _
  rw [powP_mod]; unfold powP; rw [Int.pow_mul]
theorem powP_comm (a : Int) (m n : Nat) : powP (powP a m) n = powP (powP a n) m := by
  rw [powP_mul, powP_mul, Nat.mul_comm]

/-- The relation of the power loops: r * a^n is the number sought. -/
def pw (r a : Int) (n : Nat) : Int := mulP r (powP a n)
theorem pw_start {a : Int} {n : Nat} : pw 1 a n = powP a n := by
  unfold pw; exact one_mulP (powP_rg _ _).1 (powP_rg _ _).2
theorem pw_end {r a : Int} (h1 : 0 ≤ r) (h2 : r < 2147483647) : pw r a 0 = r := by
  unfold pw; rw [powP_zero]; exact mulP_one h1 h2
theorem pw_one {r a : Int} (h1 : 0 ≤ a) (h2 : a < 2147483647) : pw r a 1 = mulP r a := by
  unfold pw; rw [powP_one h1 h2]
theorem sq (a : Int) (k : Nat) : powP (mulP a a) k = powP a (k + k) := by
  show powP (a * a % 2147483647) k = _
  rw [powP_mod]
  have : a * a = a ^ 2 := by grind
  rw [this]; unfold powP; rw [← Int.pow_mul, show 2 * k = k + k from by omega]
theorem pw_even (r a : Int) (n : Nat) (h : n % 2 = 0) : pw r (mulP a a) (n / 2) = pw r a n := by
  unfold pw; rw [sq, show n / 2 + n / 2 = n from by omega]
theorem pw_odd (r a : Int) (n : Nat) (h : n % 2 = 1) : pw (mulP r a) (mulP a a) (n / 2) = pw r a n := by
  unfold pw; rw [sq, mulP_assoc]
  have e : n = n / 2 + n / 2 + 1 := by omega
  have : mulP a (powP a (n / 2 + n / 2)) = powP a n := by
    rw [mulP_comm, ← powP_succ, ← e]
  rw [this]

/-- Fermat for the field: a number that is not 0 times its inverse is 1. -/
theorem fermat_one {p k : Nat} (hp : Prim p) (hk : p = k + 1) (n : Nat) (h0 : 0 < n) (h1 : n < p) : n ^ k % p = 1 := by
  have hf := fermat hp n
  rw [show n ^ p = n ^ k * n by rw [hk, Nat.pow_succ]] at hf
  have hge : 1 ≤ n ^ k := Nat.one_le_pow _ _ h0
  generalize n ^ k = q at *
  have hd : p ∣ n * (q - 1) := by
    have e1 : n * (q - 1) = q * n - n := by rw [Nat.mul_sub, Nat.mul_comm n q, Nat.mul_one]
    rw [e1]
    exact Nat.dvd_of_mod_eq_zero (Nat.sub_mod_eq_zero_of_mod_eq hf)
  have hdd := (hp.2 n h0 h1).dvd_of_dvd_mul_left hd
  obtain ⟨c, hc⟩ := hdd
  have hq : q = 1 + p * c := by omega
  rw [hq, Nat.add_mul_mod_self_left, Nat.mod_eq_of_lt (by have := hp.1; omega)]
theorem mul_inv_at {k : Nat} (hk : k = 2147483645) {b : Int} (h1 : 0 < b) (h2 : b < 2147483647) : mulP b (powP b k) = 1 := by
  obtain ⟨n, rfl⟩ := Int.eq_ofNat_of_zero_le (Int.le_of_lt h1)
  have h := fermat_one (k := k + 1) prime (by omega) n (by omega) (by omega)
  rw [mulP_comm, ← powP_succ]
  unfold powP
  rw [← Int.natCast_pow]
  generalize n ^ (k + 1) = q at *
  omega
theorem mul_inv {b : Int} (h1 : 0 < b) (h2 : b < 2147483647) : mulP b (invP b) = 1 := mul_inv_at rfl h1 h2

theorem inv_mul {b : Int} (h1 : 0 < b) (h2 : b < 2147483647) : mulP (invP b) b = 1 := by
  rw [mulP_comm]; exact mul_inv h1 h2
theorem powP_0 {n : Nat} (h : 0 < n) : powP 0 n = 0 := by
  unfold powP; rw [Int.zero_pow (by omega)]; rfl
theorem inv_zero : invP 0 = 0 := powP_0 (by omega)
/-- A quotient times its divisor. -/
theorem mul_div {a b : Int} (ha : 0 ≤ a) (ha' : a < 2147483647) (h1 : 0 < b) (h2 : b < 2147483647) : mulP (mulP a b) (invP b) = a := by
  rw [mulP_assoc, mul_inv h1 h2, mulP_one ha ha']
theorem div_mul {a b : Int} (ha : 0 ≤ a) (ha' : a < 2147483647) (h1 : 0 < b) (h2 : b < 2147483647) : mulP (mulP a (invP b)) b = a := by
  rw [mulP_assoc, inv_mul h1 h2, mulP_one ha ha']
theorem mulP_cancel {a b c : Int} (ha : 0 ≤ a) (ha' : a < 2147483647) (hb : 0 ≤ b) (hb' : b < 2147483647) (h1 : 0 < c) (h2 : c < 2147483647)
    (h : mulP a c = mulP b c) : a = b := by
  rw [← mul_div ha ha' h1 h2, h, mul_div hb hb' h1 h2]

/-- The key is a function of the shared number that can be turned back: with one label, unlike numbers give unlike keys. -/
theorem keyP_affine (s l : Int) : keyP s l = (s * 1213191645 + l * 1570345426 + 1214375201) % 2147483647 := by
  unfold keyP; omega
theorem affine_cancel {a b c d : Int} (h : (a * c + d) % 2147483647 = (b * c + d) % 2147483647) : mulP a c = mulP b c := by
  unfold mulP
  generalize a * c = x at *
  generalize b * c = y at *
  omega
theorem keyP_inj {a b l : Int} (ha : 0 ≤ a) (ha' : a < 2147483647) (hb : 0 ≤ b) (hb' : b < 2147483647) (h : keyP a l = keyP b l) : a = b := by
  rw [keyP_affine, keyP_affine, Int.add_assoc, Int.add_assoc] at h
  exact mulP_cancel ha ha' hb hb' (by decide) (by decide) (affine_cancel h)

/-! ### what each function of chapter 1 answers -/
def Ok (a : Int) : Prop := 0 ≤ a ∧ a < 2147483647
def Bad (a : Int) : Prop := ¬ (0 ≤ a ∧ a < 2147483647)
def Sec (n : Int) : Prop := 1 ≤ n ∧ n < 2147483646
def NoSec (n : Int) : Prop := ¬ (1 ≤ n ∧ n < 2147483646)
def Pub (n : Int) : Prop := 2 ≤ n ∧ n < 2147483646
def NoPub (n : Int) : Prop := ¬ (2 ≤ n ∧ n < 2147483646)
def Lab (n : Int) : Prop := 0 ≤ n ∧ n ≤ 99
def NoLab (n : Int) : Prop := ¬ (0 ≤ n ∧ n ≤ 99)
theorem ok_or (a : Int) : Ok a ∨ Bad a := Classical.em _
theorem sec_or (a : Int) : Sec a ∨ NoSec a := Classical.em _
theorem pub_or (a : Int) : Pub a ∨ NoPub a := Classical.em _
theorem lab_or (a : Int) : Lab a ∨ NoLab a := Classical.em _
theorem Ok.lo {a : Int} (h : Ok a) : 0 ≤ a := h.1
theorem Ok.hi {a : Int} (h : Ok a) : a < 2147483647 := h.2
theorem Sec.lo {a : Int} (h : Sec a) : 1 ≤ a := h.1
theorem Sec.hi {a : Int} (h : Sec a) : a < 2147483646 := h.2
theorem Pub.lo {a : Int} (h : Pub a) : 2 ≤ a := h.1
theorem Pub.hi {a : Int} (h : Pub a) : a < 2147483646 := h.2
theorem Lab.lo {a : Int} (h : Lab a) : 0 ≤ a := h.1
theorem Lab.hi {a : Int} (h : Lab a) : a ≤ 99 := h.2
def fok (a : Int) : Bool := decide (0 ≤ a ∧ a < 2147483647)
def isSec (n : Int) : Bool := decide (1 ≤ n ∧ n < 2147483646)
def isPub (n : Int) : Bool := decide (2 ≤ n ∧ n < 2147483646)
def fadd (a b : Int) : Int := if (0 ≤ a ∧ a < 2147483647) ∧ (0 ≤ b ∧ b < 2147483647) then addP a b else -1
def fmul (a b : Int) : Int := if (0 ≤ a ∧ a < 2147483647) ∧ (0 ≤ b ∧ b < 2147483647) then mulP a b else -1
def fpow (a n : Int) : Int := if (0 ≤ a ∧ a < 2147483647) ∧ 0 ≤ n then powP a n.toNat else -1
def finv (a : Int) : Int := if 0 ≤ a ∧ a < 2147483647 then invP a else -1
def pubOf (s : Int) : Int := if 1 ≤ s ∧ s < 2147483646 then powP 7 s.toNat else -1
def shared (s p : Int) : Int := if (1 ≤ s ∧ s < 2147483646) ∧ (2 ≤ p ∧ p < 2147483646) then powP p s.toNat else -1
def fkey (s l : Int) : Int := if (0 ≤ s ∧ s < 2147483647) ∧ (0 ≤ l ∧ l ≤ 99) then keyP s l else -1
def negP (a : Int) : Int := (2147483647 - a) % 2147483647
def subP (a b : Int) : Int := (a - b + 2147483647) % 2147483647
def fneg (a : Int) : Int := if 0 ≤ a ∧ a < 2147483647 then negP a else -1
def fsub (a b : Int) : Int := if (0 ≤ a ∧ a < 2147483647) ∧ (0 ≤ b ∧ b < 2147483647) then subP a b else -1
def fdiv (a b : Int) : Int := if (0 ≤ a ∧ a < 2147483647) ∧ (0 ≤ b ∧ b < 2147483647) then mulP a (invP b) else -1
theorem keyP_way (s l : Int) : addP (mulP ((mulP ((s + l * 7919 + 1) % 2147483647) 48271 + l + 17) % 2147483647) 69621) s = keyP s l := by
  rw [mulP_mod_l, mulP_mod_l]
  unfold addP mulP keyP
  rw [show l * 7919 = 7919 * l from Int.mul_comm _ _]
theorem keyP_el (s l : Int) : addP (mulP (addP (addP (mulP (addP (addP s (mulP l 7919)) 1) 48271) l) 17) 69621) s = keyP s l := by
  unfold addP mulP keyP; omega
theorem negP_rg (a : Int) : 0 ≤ negP a ∧ negP a < 2147483647 := by unfold negP; omega
theorem subP_rg (a b : Int) : 0 ≤ subP a b ∧ subP a b < 2147483647 := by unfold subP; omega
theorem add_neg (a b : Int) : addP a (negP b) = subP a b := by unfold addP negP subP; omega
theorem mulP_zero (a : Int) : mulP a 0 = 0 := by unfold mulP; simp
theorem ok_add (a b : Int) : Ok (addP a b) := addP_rg a b
theorem ok_mul (a b : Int) : Ok (mulP a b) := mulP_rg a b
theorem ok_pow (a : Int) (n : Nat) : Ok (powP a n) := powP_rg a n
theorem ok_inv (a : Int) : Ok (invP a) := invP_rg a
theorem ok_key (s l : Int) : Ok (keyP s l) := keyP_rg s l
theorem ok_neg (a : Int) : Ok (negP a) := negP_rg a
theorem ok_sub (a b : Int) : Ok (subP a b) := subP_rg a b
theorem fok_t {a : Int} (h : Ok a) : fok a = true := decide_eq_true h
theorem fok_f {a : Int} (h : Bad a) : fok a = false := decide_eq_false h
theorem isSec_t {a : Int} (h : Sec a) : isSec a = true := decide_eq_true h
theorem isSec_f {a : Int} (h : NoSec a) : isSec a = false := decide_eq_false h
theorem isPub_t {a : Int} (h : Pub a) : isPub a = true := decide_eq_true h
theorem isPub_f {a : Int} (h : NoPub a) : isPub a = false := decide_eq_false h
theorem fadd_t {a b : Int} (h : Ok a) (h' : Ok b) : fadd a b = addP a b := if_pos ⟨h, h'⟩
theorem fadd_l {a b : Int} (h : Bad a) : fadd a b = -1 := if_neg fun x => h x.1
theorem fadd_r {a b : Int} (h : Bad b) : fadd a b = -1 := if_neg fun x => h x.2
theorem fmul_t {a b : Int} (h : Ok a) (h' : Ok b) : fmul a b = mulP a b := if_pos ⟨h, h'⟩
theorem fmul_l {a b : Int} (h : Bad a) : fmul a b = -1 := if_neg fun x => h x.1
theorem fmul_r {a b : Int} (h : Bad b) : fmul a b = -1 := if_neg fun x => h x.2
theorem fpow_t {a n : Int} (h : Ok a) (h' : 0 ≤ n) : fpow a n = powP a n.toNat := if_pos ⟨h, h'⟩
theorem fpow_l {a n : Int} (h : Bad a) : fpow a n = -1 := if_neg fun x => h x.1
theorem fpow_r {a n : Int} (h : ¬ 0 ≤ n) : fpow a n = -1 := if_neg fun x => h x.2
theorem finv_t {a : Int} (h : Ok a) : finv a = invP a := if_pos h
theorem finv_f {a : Int} (h : Bad a) : finv a = -1 := if_neg h
theorem pubOf_t {a : Int} (h : Sec a) : pubOf a = powP 7 a.toNat := if_pos h
theorem pubOf_f {a : Int} (h : NoSec a) : pubOf a = -1 := if_neg h
theorem shared_t {a b : Int} (h : Sec a) (h' : Pub b) : shared a b = powP b a.toNat := if_pos ⟨h, h'⟩
theorem shared_l {a b : Int} (h : NoSec a) : shared a b = -1 := if_neg fun x => h x.1
theorem shared_r {a b : Int} (h : NoPub b) : shared a b = -1 := if_neg fun x => h x.2
theorem fkey_t {a b : Int} (h : Ok a) (h' : Lab b) : fkey a b = keyP a b := if_pos ⟨h, h'⟩
theorem fkey_l {a b : Int} (h : Bad a) : fkey a b = -1 := if_neg fun x => h x.1
theorem fkey_r {a b : Int} (h : NoLab b) : fkey a b = -1 := if_neg fun x => h x.2
theorem fneg_t {a : Int} (h : Ok a) : fneg a = negP a := if_pos h
theorem fneg_f {a : Int} (h : Bad a) : fneg a = -1 := if_neg h
theorem fsub_t {a b : Int} (h : Ok a) (h' : Ok b) : fsub a b = subP a b := if_pos ⟨h, h'⟩
theorem fsub_l {a b : Int} (h : Bad a) : fsub a b = -1 := if_neg fun x => h x.1
theorem fsub_r {a b : Int} (h : Bad b) : fsub a b = -1 := if_neg fun x => h x.2
theorem fdiv_t {a b : Int} (h : Ok a) (h' : Ok b) : fdiv a b = mulP a (invP b) := if_pos ⟨h, h'⟩
theorem fdiv_l {a b : Int} (h : Bad a) : fdiv a b = -1 := if_neg fun x => h x.1
theorem fdiv_r {a b : Int} (h : Bad b) : fdiv a b = -1 := if_neg fun x => h x.2
/-! ### a list of powers -/
def pw0 (a : Int) (n : Nat) : List Int := (List.range n).map (powP a)
def pows (a n : Int) : List Int := if (0 ≤ a ∧ a < 2147483647) ∧ (0 ≤ n ∧ n ≤ 64) then pw0 a n.toNat else []
theorem pows_t {a n : Int} (h : Ok a) (h0 : 0 ≤ n) (h1 : n ≤ 64) : pows a n = pw0 a n.toNat := if_pos ⟨h, h0, h1⟩
theorem pows_l {a n : Int} (h : Bad a) : pows a n = [] := if_neg fun x => h x.1
theorem pows_n {a n : Int} (h : ¬ (0 ≤ n ∧ n ≤ 64)) : pows a n = [] := if_neg fun x => h x.2
theorem pw0_len (a : Int) (n : Nat) : (pw0 a n).length = n := by simp [pw0]
theorem pw0_snoc (a : Int) (n : Nat) : pw0 a (n + 1) = pw0 a n ++ [powP a n] := by simp [pw0, List.range_succ]
theorem pw0_at {a : Int} {n i : Nat} (h : i < n) : (pw0 a n).getD i 0 = powP a i := by
  rw [List.getD_eq_getElem?_getD, pw0, List.getElem?_map, List.getElem?_range h]; rfl
theorem pw0_ok {a : Int} {n : Nat} {x : Int} (h : x ∈ pw0 a n) : Ok x := by
  simp only [pw0, List.mem_map] at h
  obtain ⟨k, _, rfl⟩ := h
  exact ok_pow a k
end Go.Proofs.YtcljjdmfnniobaaGreat.Fld
