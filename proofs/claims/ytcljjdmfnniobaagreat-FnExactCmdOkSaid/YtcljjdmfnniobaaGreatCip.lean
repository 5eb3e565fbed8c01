/-
  Plain words for chapter 2: the key stream, the code, sealing; draws, orders. Nothing of the program is imported.
-/
import Derived.Test.YtcljjdmfnniobaaGreatFld
import Derived.Laws.BitsAllLaws
namespace Go.Proofs.YtcljjdmfnniobaaGreat
open Fld

/-! ### bytes -/
def Bytes (l : List Int) : Prop := ∀ x ∈ l, 0 ≤ x ∧ x < 256
theorem Bytes.at_ {l : List Int} (h : Bytes l) (i : Nat) : 0 ≤ l.getD i 0 ∧ l.getD i 0 < 256 := by
  rw [List.getD_eq_getElem?_getD]
  by_cases hi : i < l.length
  · rw [List.getElem?_eq_getElem hi, Option.getD_some]; exact h _ (List.getElem_mem _)
  · rw [List.getElem?_eq_none (by omega)]; exact ⟨Int.le_refl _, by decide⟩
theorem Bytes.take {l : List Int} (h : Bytes l) (n : Nat) : Bytes (l.take n) := fun x hx => h x (List.mem_of_mem_take hx)
theorem Bytes.drop {l : List Int} (h : Bytes l) (n : Nat) : Bytes (l.drop n) := fun x hx => h x (List.mem_of_mem_drop hx)
theorem Bytes.app {l r : List Int} (h : Bytes l) (h' : Bytes r) : Bytes (l ++ r) := fun x hx => (List.mem_append.1 hx).elim (h x) (h' x)
theorem Bytes.set {l : List Int} (h : Bytes l) (i : Nat) {x : Int} (hx : 0 ≤ x ∧ x < 256) : Bytes (l.set i x) := fun y hy => by
  rcases List.mem_or_eq_of_mem_set hy with h' | rfl
  · exact h y h'
  · exact hx
theorem getD_lt {l : List Int} {i : Nat} (h : i < l.length) : l.getD i 0 = l[i] := by rw [List.getD_eq_getElem?_getD, List.getElem?_eq_getElem h]; rfl
theorem getD_app_l {l r : List Int} {i : Nat} (h : i < l.length) : (l ++ r).getD i 0 = l.getD i 0 := by
  rw [List.getD_eq_getElem?_getD, List.getElem?_append_left h, List.getD_eq_getElem?_getD]
theorem getD_app_r {l r : List Int} {i : Nat} : (l ++ r).getD (l.length + i) 0 = r.getD i 0 := by
  rw [List.getD_eq_getElem?_getD, List.getElem?_append_right (by omega), List.getD_eq_getElem?_getD, show l.length + i - l.length = i from by omega]
theorem getD_drop (l : List Int) (n i : Nat) : (l.drop n).getD i 0 = l.getD (n + i) 0 := by
  rw [List.getD_eq_getElem?_getD, List.getElem?_drop, List.getD_eq_getElem?_getD]
theorem getD_take {l : List Int} {n i : Nat} (h : i < n) : (l.take n).getD i 0 = l.getD i 0 := by
  rw [List.getD_eq_getElem?_getD, List.getElem?_take, if_pos h, List.getD_eq_getElem?_getD]
theorem ext_getD {l r : List Int} (hl : l.length = r.length) (h : ∀ i, i < l.length → l.getD i 0 = r.getD i 0) : l = r := by
  apply List.ext_getElem hl
  intro i h1 h2
  rw [← getD_lt h1, ← getD_lt h2]; exact h i h1
theorem getD_set {l : List Int} {i j : Nat} {x : Int} (h : i < l.length) : (l.set i x).getD j 0 = if i = j then x else l.getD j 0 := by
  rw [List.getD_eq_getElem?_getD, List.getElem?_set, List.getD_eq_getElem?_getD]
  by_cases e : i = j
  · subst e; simp [h]
  · simp [e]

theorem xor_rg {a b : Int} (h1 : 0 ≤ a ∧ a < 256) (h2 : 0 ≤ b ∧ b < 256) : 0 ≤ bits .xor .u8 a b ∧ bits .xor .u8 a b < 256 := by
  rw [u8_xor a b h1.1 h1.2 h2.1 h2.2]
  have : a.toNat ^^^ b.toNat < 2 ^ 8 := Nat.xor_lt_two_pow (by omega) (by omega)
  omega
theorem xor_xor {a b : Int} (h1 : 0 ≤ a ∧ a < 256) (h2 : 0 ≤ b ∧ b < 256) : bits .xor .u8 (bits .xor .u8 a b) b = a := by
  have h := xor_rg h1 h2
  rw [u8_xor _ b h.1 h.2 h2.1 h2.2, u8_xor a b h1.1 h1.2 h2.1 h2.2, Int.toNat_natCast, Nat.xor_assoc, Nat.xor_self, Nat.xor_zero]
  omega
theorem xor_same {a b : Int} (h1 : 0 ≤ a ∧ a < 256) (h2 : 0 ≤ b ∧ b < 256) : bits .xor .u8 (bits .xor .u8 a b) a = b := by
  have h := xor_rg h1 h2
  rw [u8_xor _ a h.1 h.2 h1.1 h1.2, u8_xor a b h1.1 h1.2 h2.1 h2.2, Int.toNat_natCast, Nat.xor_comm (a.toNat) (b.toNat), Nat.xor_assoc, Nat.xor_self, Nat.xor_zero]
  omega
theorem xor_ne {a b : Int} (h1 : 0 ≤ a ∧ a < 256) (h2 : 0 ≤ b ∧ b < 256) (hb : b ≠ 0) : bits .xor .u8 a b ≠ a := by
  intro h
  have := xor_same h1 h2
  rw [h] at this
  apply hb
  rw [← this, u8_xor a a h1.1 h1.2 h1.1 h1.2, Nat.xor_self]; rfl

/-! ### the key stream -/
def strY (k i : Int) : Int := mulP ((mulP ((k + i * 7919 + 3) % 2147483647) 48271 + k + i + 1) % 2147483647) 16807
def strB (k i : Int) : Int := strY k i / 256 % 256
theorem strY_el (k i : Int) : mulP (addP (addP (addP (mulP (addP (addP k (mulP i 7919)) 3) 48271) k) i) 1) 16807 = strY k i := by
  unfold strY addP mulP; omega
theorem strY_rg (k i : Int) : 0 ≤ strY k i ∧ strY k i < 2147483647 := mulP_rg _ _
theorem strB_rg (k i : Int) : 0 ≤ strB k i ∧ strB k i < 256 := by unfold strB; omega
def fstr (k i : Int) : Int := if (0 ≤ k ∧ k < 2147483647) ∧ (0 ≤ i ∧ i < 400) then strB k i else -1
theorem fstr_t {k i : Int} (h : Ok k) (h' : 0 ≤ i ∧ i < 400) : fstr k i = strB k i := if_pos ⟨h, h'⟩
theorem fstr_l {k i : Int} (h : Bad k) : fstr k i = -1 := if_neg fun x => h x.1
theorem fstr_r {k i : Int} (h : ¬ (0 ≤ i ∧ i < 400)) : fstr k i = -1 := if_neg fun x => h x.2

/-- The first j bytes of l, turned. -/
def xorn (k : Int) (l : List Int) (j : Nat) : List Int := (List.range j).map fun i : Nat => bits .xor .u8 (l.getD i 0) (strB k i)
def xorl (k : Int) (l : List Int) : List Int := xorn k l l.length
theorem xorn_len (k : Int) (l : List Int) (j : Nat) : (xorn k l j).length = j := by simp [xorn]
theorem xorl_len (k : Int) (l : List Int) : (xorl k l).length = l.length := xorn_len _ _ _
theorem xorn_zero (k : Int) (l : List Int) : xorn k l 0 = [] := rfl
theorem xorn_snoc (k : Int) (l : List Int) (j : Nat) : xorn k l (j + 1) = xorn k l j ++ [bits .xor .u8 (l.getD j 0) (strB k j)] := by simp [xorn, List.range_succ]
theorem xorn_at {k : Int} {l : List Int} {j i : Nat} (h : i < j) : (xorn k l j).getD i 0 = bits .xor .u8 (l.getD i 0) (strB k i) := by
  rw [List.getD_eq_getElem?_getD, xorn, List.getElem?_map, List.getElem?_range h]; rfl
theorem xorn_bytes {k : Int} {l : List Int} (h : Bytes l) (j : Nat) : Bytes (xorn k l j) := by
  intro x hx
  simp only [xorn, List.mem_map] at hx
  obtain ⟨i, _, rfl⟩ := hx
  exact xor_rg (h.at_ i) (strB_rg _ _)
theorem xorl_bytes {k : Int} {l : List Int} (h : Bytes l) : Bytes (xorl k l) := xorn_bytes h _
theorem xorl_xorl {k : Int} {l : List Int} (h : Bytes l) : xorl k (xorl k l) = l := by
  apply ext_getD (by rw [xorl_len, xorl_len])
  intro i hi
  rw [xorl_len, xorl_len] at hi
  unfold xorl
  rw [xorn_at (by rw [xorn_len]; exact hi), xorn_at hi]
  exact xor_xor (h.at_ i) (strB_rg _ _)
/-- May these bytes be turned with this key? -/
def Fits (k : Int) (l : List Int) (m : Nat) : Prop := (0 ≤ k ∧ k < 2147483647) ∧ l.length ≤ m
def fxor (k : Int) (l : List Int) : List Int := if (0 ≤ k ∧ k < 2147483647) ∧ l.length ≤ 400 then xorl k l else []
theorem fxor_t {k : Int} {l : List Int} (h : Ok k) (h' : l.length ≤ 400) : fxor k l = xorl k l := if_pos ⟨h, h'⟩
theorem fxor_l {k : Int} {l : List Int} (h : Bad k) : fxor k l = [] := if_neg fun x => h x.1
theorem fxor_r {k : Int} {l : List Int} (h : ¬ l.length ≤ 400) : fxor k l = [] := if_neg fun x => h x.2

/-! ### the code -/
def macR (k : Int) : Int := 1 + keyP k 71 % 2147483646
theorem macR_rg (k : Int) : 1 ≤ macR k ∧ macR k < 2147483647 := by unfold macR; omega
/-- What the code is when j bytes are over. -/
def macN (r n : Int) (l : List Int) (j : Nat) : Int := (l.take j).foldl (fun n b => addP (addP (mulP n r) b) 1) n
theorem macN_zero (r n : Int) (l : List Int) : macN r n l 0 = n := rfl
theorem macN_succ {r n : Int} {l : List Int} {j : Nat} (h : j < l.length) : macN r n l (j + 1) = addP (addP (mulP (macN r n l j) r) (l.getD j 0)) 1 := by
  unfold macN
  rw [List.take_succ_eq_append_getElem h, List.foldl_append, getD_lt h]; rfl
theorem mac_step (n r b : Int) : addP (addP (mulP n r) b) 1 = (mulP n r + b + 1) % 2147483647 := by unfold addP; omega
theorem macN_rg {r n : Int} {l : List Int} (h : 0 ≤ n ∧ n < 2147483647) (j : Nat) (hj : j ≤ l.length) : 0 ≤ macN r n l j ∧ macN r n l j < 2147483647 := by
  cases j with
  | zero => exact h
  | succ j => rw [macN_succ (by omega)]; exact addP_rg _ _
def macV (k : Int) (l : List Int) : Int := macN (macR k) (l.length + 1) l l.length
def mac (k : Int) (l : List Int) : Int := addP (mulP (macV k l) (macR k)) (keyP k 72)
theorem mac_rg (k : Int) (l : List Int) : 0 ≤ mac k l ∧ mac k l < 2147483647 := addP_rg _ _
theorem mac_way (k : Int) (l : List Int) : (mulP (macV k l) (macR k) + keyP k 72) % 2147483647 = mac k l := rfl
def fmac (k : Int) (l : List Int) : Int := if (0 ≤ k ∧ k < 2147483647) ∧ l.length ≤ 400 then mac k l else -1
theorem fmac_t {k : Int} {l : List Int} (h : Ok k) (h' : l.length ≤ 400) : fmac k l = mac k l := if_pos ⟨h, h'⟩
theorem fmac_l {k : Int} {l : List Int} (h : Bad k) : fmac k l = -1 := if_neg fun x => h x.1
theorem fmac_r {k : Int} {l : List Int} (h : ¬ l.length ≤ 400) : fmac k l = -1 := if_neg fun x => h x.2

theorem addP_cancel {a b c : Int} (ha : 0 ≤ a ∧ a < 2147483647) (hb : 0 ≤ b ∧ b < 2147483647) (h : addP a c = addP b c) : a = b := by unfold addP at h; omega
theorem addP_cancel_l {a b c : Int} (ha : 0 ≤ a ∧ a < 2147483647) (hb : 0 ≤ b ∧ b < 2147483647) (h : addP c a = addP c b) : a = b := by unfold addP at h; omega
theorem fold_ne {r : Int} (hr : 1 ≤ r ∧ r < 2147483647) : ∀ (l : List Int) {n m : Int}, (0 ≤ n ∧ n < 2147483647) → (0 ≤ m ∧ m < 2147483647) → n ≠ m →
    l.foldl (fun n b => addP (addP (mulP n r) b) 1) n ≠ l.foldl (fun n b => addP (addP (mulP n r) b) 1) m
  | [], _, _, _, _, h => h
  | b :: l, n, m, hn, hm, h => by
    refine fold_ne hr l (addP_rg _ _) (addP_rg _ _) fun e => h ?_
    exact mulP_cancel hn.1 hn.2 hm.1 hm.2 (by omega) hr.2 (addP_cancel (mulP_rg _ _) (mulP_rg _ _) (addP_cancel (addP_rg _ _) (addP_rg _ _) e))
theorem fold_ne_at {r : Int} (hr : 1 ≤ r ∧ r < 2147483647) (p s : List Int) {x y n : Int} (hx : 0 ≤ x ∧ x < 256) (hy : 0 ≤ y ∧ y < 256) (hne : x ≠ y) :
    (p ++ x :: s).foldl (fun n b => addP (addP (mulP n r) b) 1) n ≠ (p ++ y :: s).foldl (fun n b => addP (addP (mulP n r) b) 1) n := by
  rw [List.foldl_append, List.foldl_append, List.foldl_cons, List.foldl_cons]
  refine fold_ne hr _ (addP_rg _ _) (addP_rg _ _) fun e => hne ?_
  exact addP_cancel_l (by omega) (by omega) (addP_cancel (addP_rg _ _) (addP_rg _ _) e)
/-- Of bytes of which one is unlike, the code is unlike. -/
theorem mac_ne {k : Int} {l : List Int} {i : Nat} {x : Int} (hl : Bytes l) (hn : l.length ≤ 400) (hi : i < l.length) (hx : 0 ≤ x ∧ x < 256) (hne : x ≠ l.getD i 0) : mac k (l.set i x) ≠ mac k l := by
  intro h
  have hr := macR_rg k
  unfold mac macV at h
  rw [List.length_set] at h
  have hb : 0 ≤ ((l.length : Int) + 1) ∧ ((l.length : Int) + 1) < 2147483647 := by omega
  have h1 := addP_cancel (mulP_rg _ _) (mulP_rg _ _) h
  have h2 := mulP_cancel (macN_rg hb _ (by rw [List.length_set]; exact Nat.le_refl _)).1 (macN_rg hb _ (by rw [List.length_set]; exact Nat.le_refl _)).2 (macN_rg hb _ (Nat.le_refl _)).1 (macN_rg hb _ (Nat.le_refl _)).2 (by omega) hr.2 h1
  unfold macN at h2
  rw [List.take_of_length_le (by rw [List.length_set]; exact Nat.le_refl _), List.take_of_length_le (Nat.le_refl _)] at h2
  have e1 : l.set i x = l.take i ++ x :: l.drop (i + 1) := by rw [List.set_eq_take_append_cons_drop, if_pos hi]
  have e2 : l.take i ++ l.getD i 0 :: l.drop (i + 1) = l := by rw [getD_lt hi, ← List.drop_eq_getElem_cons hi, List.take_append_drop]
  rw [e1] at h2
  have h3 := fold_ne_at hr (l.take i) (l.drop (i + 1)) (n := (l.length : Int) + 1) hx (hl.at_ i) hne
  rw [e2] at h3
  exact h3 h2

/-! ### sealing -/
def four (n : Int) : List Int := [n / 16777216 % 256, n / 65536 % 256, n / 256 % 256, n % 256]
def get4 (l : List Int) : Int := l.getD 0 0 * 16777216 + l.getD 1 0 * 65536 + l.getD 2 0 * 256 + l.getD 3 0
theorem four_len (n : Int) : (four n).length = 4 := rfl
theorem four_bytes (n : Int) : Bytes (four n) := by
  intro x hx
  simp only [four, List.mem_cons, List.not_mem_nil, or_false] at hx
  omega
theorem get4_four {n : Int} (h : 0 ≤ n ∧ n < 4294967296) : get4 (four n) = n := by
  show n / 16777216 % 256 * 16777216 + n / 65536 % 256 * 65536 + n / 256 % 256 * 256 + n % 256 = n
  omega
theorem get4_app (a b : List Int) (h : a.length = 4) : get4 (a ++ b) = get4 a := by
  unfold get4
  rw [getD_app_l (by omega), getD_app_l (by omega), getD_app_l (by omega), getD_app_l (by omega)]
theorem get4_rg {l : List Int} (h : Bytes l) : 0 ≤ get4 l ∧ get4 l < 4294967296 := by
  have h0 := h.at_ 0; have h1 := h.at_ 1; have h2 := h.at_ 2; have h3 := h.at_ 3
  unfold get4; omega
theorem four_get4 {l : List Int} (h : Bytes l) (hl : l.length = 4) : four (get4 l) = l := by
  have h0 := h.at_ 0; have h1 := h.at_ 1; have h2 := h.at_ 2; have h3 := h.at_ 3
  apply ext_getD (by rw [four_len, hl])
  intro i hi
  rw [four_len] at hi
  unfold get4
  match i, hi with
  | 0, _ => show _ / 16777216 % 256 = _; omega
  | 1, _ => show _ / 65536 % 256 = _; omega
  | 2, _ => show _ / 256 % 256 = _; omega
  | 3, _ => show _ % 256 = _; omega
def sealL (k : Int) (l : List Int) : List Int := four (mac (keyP k 2) (xorl (keyP k 1) l)) ++ xorl (keyP k 1) l
theorem sealL_len (k : Int) (l : List Int) : (sealL k l).length = l.length + 4 := by
  rw [sealL, List.length_append, four_len, xorl_len]; omega
theorem sealL_bytes {k : Int} {l : List Int} (h : Bytes l) : Bytes (sealL k l) := (four_bytes _).app (xorl_bytes h)
def fseal (k : Int) (l : List Int) : List Int := if (0 ≤ k ∧ k < 2147483647) ∧ l.length ≤ 396 then sealL k l else []
theorem fseal_t {k : Int} {l : List Int} (h : Ok k) (h' : l.length ≤ 396) : fseal k l = sealL k l := if_pos ⟨h, h'⟩
theorem fseal_l {k : Int} {l : List Int} (h : Bad k) : fseal k l = [] := if_neg fun x => h x.1
theorem fseal_r {k : Int} {l : List Int} (h : ¬ l.length ≤ 396) : fseal k l = [] := if_neg fun x => h x.2
/-- What l opens to, if it does. -/
def openL (k : Int) (l : List Int) : List Int := xorl (keyP k 1) (l.drop 4)
def opens (k : Int) (l : List Int) : Prop := 4 ≤ l.length ∧ get4 l = mac (keyP k 2) (l.drop 4)
instance (k : Int) (l : List Int) : Decidable (opens k l) := by unfold opens; infer_instance
def fopen (k : Int) (l : List Int) : List Int × Bool := if ((0 ≤ k ∧ k < 2147483647) ∧ l.length ≤ 400) ∧ opens k l then (openL k l, true) else ([], false)
theorem fopen_t {k : Int} {l : List Int} (h : Ok k) (h' : l.length ≤ 400) (ho : opens k l) : fopen k l = (openL k l, true) := if_pos ⟨⟨h, h'⟩, ho⟩
theorem fopen_l {k : Int} {l : List Int} (h : Bad k) : fopen k l = ([], false) := if_neg fun x => h x.1.1
theorem fopen_r {k : Int} {l : List Int} (h : ¬ l.length ≤ 400) : fopen k l = ([], false) := if_neg fun x => h x.1.2
theorem fopen_n {k : Int} {l : List Int} (h : ¬ opens k l) : fopen k l = ([], false) := if_neg fun x => h x.2
theorem openL_len (k : Int) (l : List Int) : (openL k l).length = l.length - 4 := by rw [openL, xorl_len, List.length_drop]
theorem openL_bytes {k : Int} {l : List Int} (h : Bytes l) : Bytes (openL k l) := xorl_bytes (h.drop 4)
/-- What has been opened, sealed again, is the same bytes just where they open. -/
theorem seal_open {k : Int} {l : List Int} (h : Bytes l) (h4 : 4 ≤ l.length) : sealL k (openL k l) = l ↔ opens k l := by
  have e : sealL k (openL k l) = four (mac (keyP k 2) (l.drop 4)) ++ l.drop 4 := by
    unfold sealL openL; rw [xorl_xorl (h.drop 4)]
  have hm := mac_rg (keyP k 2) (l.drop 4)
  rw [e]
  constructor
  · intro hh
    refine ⟨h4, ?_⟩
    have hg : get4 (four (mac (keyP k 2) (l.drop 4)) ++ l.drop 4) = mac (keyP k 2) (l.drop 4) := by rw [get4_app _ _ rfl, get4_four (by omega)]
    rw [hh] at hg
    exact hg
  · rintro ⟨_, hh⟩
    rw [← hh]
    have : get4 l = get4 (l.take 4) := by
      conv => lhs; rw [← List.take_append_drop 4 l]
      exact get4_app _ _ (by rw [List.length_take]; omega)
    rw [this, four_get4 (h.take 4) (by rw [List.length_take]; omega), List.take_append_drop]
theorem open_seal {k : Int} {l : List Int} (h : Bytes l) : opens k (sealL k l) ∧ openL k (sealL k l) = l := by
  have hm := mac_rg (keyP k 2) (xorl (keyP k 1) l)
  have e : (sealL k l).drop 4 = xorl (keyP k 1) l := by unfold sealL; exact List.drop_left' rfl
  refine ⟨⟨by rw [sealL_len]; omega, ?_⟩, ?_⟩
  · rw [e]; unfold sealL; rw [get4_app _ _ rfl, get4_four (by omega)]
  · unfold openL; rw [e, xorl_xorl h]
/-- What was sealed, with one byte turned, does not open. -/
theorem open_turned {k : Int} {l : List Int} {i : Nat} {x : Int} (h : Bytes l) (hn : l.length ≤ 396) (hi : i < l.length + 4) (hx : 0 ≤ x ∧ x < 256) (hne : x ≠ (sealL k l).getD i 0) : ¬ opens k ((sealL k l).set i x) := by
  have hb := sealL_bytes (k := k) h
  have hs := (open_seal (k := k) h).1.2
  have hm := mac_rg (keyP k 2) (xorl (keyP k 1) l)
  have e : (sealL k l).drop 4 = xorl (keyP k 1) l := by unfold sealL; exact List.drop_left' rfl
  rintro ⟨_, ho⟩
  rw [e] at hs
  by_cases h4 : i < 4
  · have e2 : ((sealL k l).set i x).drop 4 = xorl (keyP k 1) l := by rw [List.drop_set_of_lt h4, e]
    rw [e2, ← hs] at ho
    have g0 := hb.at_ 0; have g1 := hb.at_ 1; have g2 := hb.at_ 2; have g3 := hb.at_ 3
    unfold get4 at ho
    rw [getD_set (by rw [sealL_len]; omega), getD_set (by rw [sealL_len]; omega), getD_set (by rw [sealL_len]; omega), getD_set (by rw [sealL_len]; omega)] at ho
    match i, h4 with
    | 0, _ => rw [if_pos rfl, if_neg (by omega), if_neg (by omega), if_neg (by omega)] at ho; omega
    | 1, _ => rw [if_neg (by omega), if_pos rfl, if_neg (by omega), if_neg (by omega)] at ho; omega
    | 2, _ => rw [if_neg (by omega), if_neg (by omega), if_pos rfl, if_neg (by omega)] at ho; omega
    | 3, _ => rw [if_neg (by omega), if_neg (by omega), if_neg (by omega), if_pos rfl] at ho; omega
  · have e2 : ((sealL k l).set i x).drop 4 = (xorl (keyP k 1) l).set (i - 4) x := by rw [List.drop_set, if_neg h4, e]
    have e3 : get4 ((sealL k l).set i x) = get4 (sealL k l) := by
      unfold get4
      rw [getD_set (by rw [sealL_len]; omega), getD_set (by rw [sealL_len]; omega), getD_set (by rw [sealL_len]; omega), getD_set (by rw [sealL_len]; omega)]
      rw [if_neg (by omega), if_neg (by omega), if_neg (by omega), if_neg (by omega)]
    rw [e2, e3, hs] at ho
    refine mac_ne (xorl_bytes h) (by rw [xorl_len]; omega) (by rw [xorl_len]; omega) hx ?_ ho.symm
    rw [← e, getD_drop, show 4 + (i - 4) = i from by omega]; exact hne
theorem fxor_le (k : Int) (l : List Int) : (fxor k l).length ≤ 400 := by
  unfold fxor
  split
  · rw [xorl_len]; omega
  · simp
theorem fseal_le (k : Int) (l : List Int) : (fseal k l).length ≤ 400 := by
  unfold fseal
  split
  · rw [sealL_len]; omega
  · simp
theorem fopen_le (k : Int) (l : List Int) : (fopen k l).1.length ≤ 400 := by
  unfold fopen
  split
  · show (openL k l).length ≤ 400
    rw [openL_len]; omega
  · simp
end Go.Proofs.YtcljjdmfnniobaaGreat
