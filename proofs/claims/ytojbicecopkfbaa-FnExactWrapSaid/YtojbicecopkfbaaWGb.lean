/-
  Cip, Onion: texts joined.
-/
import Derived.Test.YtojbicecopkfbaaWGa
import Derived.Laws.BitsAllLaws
namespace Go.Proofs.Ytojbicecopkfbaa
open Fld

/-! ### bytes -/
def Bytes (l : List Int) : Prop := ∀ x ∈ l, 0 ≤ x ∧ x < 256
theorem Bytes.at_ {l : List Int} (h : Bytes l) (i : Nat) : 0 ≤ l.getD i 0 ∧ l.getD i 0 < 256 := by
  rw [List.getD_eq_getElem?_getD]
  by_cases hi : i < l.length
  · rw [List.getElem?_eq_getElem hi, Option.getD_some]; exact h _ (List.getElem_mem _)
  · rw [List.getElem?_eq_none (by omega)]; exact ⟨Int.le_refl _, by decide⟩
theorem Bytes.take {l : List Int} (h : Bytes l) (n : Nat) : Bytes (l.take n) := fun x hx => h x (List.mem_of_mem_take hx)
theorem Bytes.drop {l : List Int} (h : Bytes l) (n : Nat) : Bytes (l.drop n) := fun x hx => h x (List.mem_of_mem_drop hx)
theorem Bytes.app {l r : List Int} (h : Bytes l) (h' : Bytes r) : Bytes (l ++ r) := fun x hx => (List.mem_append.1 hx).elim (h x) (h' x)
theorem Bytes.set {l : List Int} (h : Bytes l) (i : Nat) {x : Int} (hx : 0 ≤ x ∧ x < 256) : Bytes (l.set i x) := fun y hy => by
  rcases List.mem_or_eq_of_mem_set hy with h' | rfl
  · exact h y h'
  · exact hx
theorem getD_lt {l : List Int} {i : Nat} (h : i < l.length) : l.getD i 0 = l[i] := by rw [List.getD_eq_getElem?_getD, List.getElem?_eq_getElem h]; rfl
theorem getD_drop (l : List Int) (n i : Nat) : (l.drop n).getD i 0 = l.getD (n + i) 0 := by
  rw [List.getD_eq_getElem?_getD, List.getElem?_drop, List.getD_eq_getElem?_getD]
theorem xor_rg {a b : Int} (h1 : 0 ≤ a ∧ a < 256) (h2 : 0 ≤ b ∧ b < 256) : 0 ≤ bits .xor .u8 a b ∧ bits .xor .u8 a b < 256 := by
  rw [u8_xor a b h1.1 h1.2 h2.1 h2.2]
  have : a.toNat ^^^ b.toNat < 2 ^ 8 := Nat.xor_lt_two_pow (by omega) (by omega)
  omega
/-! ### the key stream -/
def strY (k i : Int) : Int := mulP ((mulP ((k + i * 7919 + 3) % 2147483647) 48271 + k + i + 1) % 2147483647) 16807
def strB (k i : Int) : Int := strY k i / 256 % 256
theorem strY_el (k i : Int) : mulP (addP (addP (addP (mulP (addP (addP k (mulP i 7919)) 3) 48271) k) i) 1) 16807 = strY k i := by
  unfold strY addP mulP; omega
theorem strB_rg (k i : Int) : 0 ≤ strB k i ∧ strB k i < 256 := by unfold strB; omega
/-- The first j bytes of l, turned. -/
def xorn (k : Int) (l : List Int) (j : Nat) : List Int := (List.range j).map fun i : Nat => bits .xor .u8 (l.getD i 0) (strB k i)
def xorl (k : Int) (l : List Int) : List Int := xorn k l l.length
theorem xorn_len (k : Int) (l : List Int) (j : Nat) : (xorn k l j).length = j := by simp [xorn]
theorem xorl_len (k : Int) (l : List Int) : (xorl k l).length = l.length := xorn_len _ _ _
theorem xorn_snoc (k : Int) (l : List Int) (j : Nat) : xorn k l (j + 1) = xorn k l j ++ [bits .xor .u8 (l.getD j 0) (strB k j)] := by simp [xorn, List.range_succ]
theorem xorn_at {k : Int} {l : List Int} {j i : Nat} (h : i < j) : (xorn k l j).getD i 0 = bits .xor .u8 (l.getD i 0) (strB k i) := by
  rw [List.getD_eq_getElem?_getD, xorn, List.getElem?_map, List.getElem?_range h]; rfl
theorem xorn_bytes {k : Int} {l : List Int} (h : Bytes l) (j : Nat) : Bytes (xorn k l j) := by
  intro x hx
  simp only [xorn, List.mem_map] at hx
  obtain ⟨i, _, rfl⟩ := hx
  exact xor_rg (h.at_ i) (strB_rg _ _)
theorem xorl_bytes {k : Int} {l : List Int} (h : Bytes l) : Bytes (xorl k l) := xorn_bytes h _
/-! ### the code -/
def macR (k : Int) : Int := 1 + keyP k 71 % 2147483646
theorem macR_rg (k : Int) : 1 ≤ macR k ∧ macR k < 2147483647 := by unfold macR; omega
/-- What the code is when j bytes are over. -/
def macN (r n : Int) (l : List Int) (j : Nat) : Int := (l.take j).foldl (fun n b => addP (addP (mulP n r) b) 1) n
theorem macN_succ {r n : Int} {l : List Int} {j : Nat} (h : j < l.length) : macN r n l (j + 1) = addP (addP (mulP (macN r n l j) r) (l.getD j 0)) 1 := by
  unfold macN
  rw [List.take_succ_eq_append_getElem h, List.foldl_append, getD_lt h]; rfl
theorem mac_step (n r b : Int) : addP (addP (mulP n r) b) 1 = (mulP n r + b + 1) % 2147483647 := by unfold addP; omega
theorem macN_rg {r n : Int} {l : List Int} (h : 0 ≤ n ∧ n < 2147483647) (j : Nat) (hj : j ≤ l.length) : 0 ≤ macN r n l j ∧ macN r n l j < 2147483647 := by
  cases j with
  | zero => exact h
  | succ j => rw [macN_succ (by omega)]; exact addP_rg _ _
def macV (k : Int) (l : List Int) : Int := macN (macR k) (l.length + 1) l l.length
def mac (k : Int) (l : List Int) : Int := addP (mulP (macV k l) (macR k)) (keyP k 72)
theorem mac_rg (k : Int) (l : List Int) : 0 ≤ mac k l ∧ mac k l < 2147483647 := addP_rg _ _
/-! ### sealing -/
def four (n : Int) : List Int := [n / 16777216 % 256, n / 65536 % 256, n / 256 % 256, n % 256]
def get4 (l : List Int) : Int := l.getD 0 0 * 16777216 + l.getD 1 0 * 65536 + l.getD 2 0 * 256 + l.getD 3 0
theorem four_len (n : Int) : (four n).length = 4 := rfl
theorem four_bytes (n : Int) : Bytes (four n) := by
  intro x hx
  simp only [four, List.mem_cons, List.not_mem_nil, or_false] at hx
  omega
def sealL (k : Int) (l : List Int) : List Int := four (mac (keyP k 2) (xorl (keyP k 1) l)) ++ xorl (keyP k 1) l
theorem sealL_len (k : Int) (l : List Int) : (sealL k l).length = l.length + 4 := by
  rw [sealL, List.length_append, four_len, xorl_len]; omega
theorem sealL_bytes {k : Int} {l : List Int} (h : Bytes l) : Bytes (sealL k l) := (four_bytes _).app (xorl_bytes h)
/-- What l opens to, if it does. -/
def openL (k : Int) (l : List Int) : List Int := xorl (keyP k 1) (l.drop 4)
def opens (k : Int) (l : List Int) : Prop := 4 ≤ l.length ∧ get4 l = mac (keyP k 2) (l.drop 4)
instance (k : Int) (l : List Int) : Decidable (opens k l) := by unfold opens; infer_instance
end Go.Proofs.Ytojbicecopkfbaa
namespace Go.Proofs.Ytojbicecopkfbaa
open Fld

/-! ### routes, keys -/
def Node (n : Int) : Prop := 0 ≤ n ∧ n < 8
def Route (l : List Int) : Prop := (1 ≤ l.length ∧ l.length ≤ 4) ∧ (∀ x ∈ l, 0 ≤ x ∧ x < 8) ∧ ∀ i, i < l.length - 1 → l.getD i 0 ≠ l.getD (i + 1) 0
def Pubs (l : List Int) : Prop := l.length = 8 ∧ ∀ x ∈ l, 2 ≤ x ∧ x < 2147483646
def LaySec (x : Int) : Prop := (1 ≤ x ∧ x < 2147483646) ∧ (2 ≤ powP 7 x.toNat ∧ powP 7 x.toNat < 2147483646)
instance (x : Int) : Decidable (LaySec x) := by unfold LaySec; infer_instance
def Secs (l : List Int) : Prop := ∀ x ∈ l, LaySec x
instance (l : List Int) : Decidable (Route l) := by unfold Route; infer_instance
instance (l : List Int) : Decidable (Pubs l) := by unfold Pubs; infer_instance
instance (l : List Int) : Decidable (Secs l) := by unfold Secs; infer_instance
theorem LaySec.sec {x : Int} (h : LaySec x) : Sec x := h.1
theorem LaySec.pub {x : Int} (h : LaySec x) : Pub (powP 7 x.toNat) := h.2

/-! ### sizes -/
/-! ### cells -/
def padL (b pad : List Int) : List Int := b ++ pad.take (80 - b.length)
theorem padL_len {b pad : List Int} (h : b.length ≤ 80) (h' : 80 ≤ pad.length) : (padL b pad).length = 80 := by
  unfold padL; rw [List.length_append, List.length_take]; omega
/-! ### layers -/
def headL (next due : Int) (n : Nat) : List Int := [next, due / 256, due % 256, (n : Int)]
theorem headL_len (next due : Int) (n : Nat) : (headL next due n).length = 4 := rfl
def layB (pub s next due : Int) (inner : List Int) : List Int := four (powP 7 s.toNat) ++ sealL (keyP (powP pub s.toNat) 5) (headL next due inner.length ++ inner)
theorem layB_len (pub s next due : Int) (inner : List Int) : (layB pub s next due inner).length = 12 + inner.length := by
  unfold layB; rw [List.length_append, four_len, sealL_len, List.length_append, headL_len]; omega
/-- The layers of a route, the outermost ahead. -/
def wrapL (pubs : List Int) (due : Int) (load : List Int) : List Int → List Int → List Int
  | [], _ => load
  | r :: rs, ss => layB (pubs.getD r.toNat 0) (ss.getD 0 0) (rs.getD 0 255) due (wrapL pubs due load rs (ss.drop 1))
theorem wrapL_len (pubs : List Int) (due : Int) (load : List Int) : ∀ (rs ss : List Int), (wrapL pubs due load rs ss).length = 12 * rs.length + load.length
  | [], _ => by simp [wrapL]
  | r :: rs, ss => by
    rw [wrapL, layB_len, wrapL_len pubs due load rs, List.length_cons]; omega
theorem next_rg {rs : List Int} (h : ∀ x ∈ rs, 0 ≤ x ∧ x < 8) : 0 ≤ rs.getD 0 255 ∧ rs.getD 0 255 < 256 := by
  cases rs with
  | nil => exact ⟨by decide, by decide⟩
  | cons a l => have := h a (List.mem_cons_self); rw [List.getD_cons_zero]; omega
/-- One layer more: what the loop over the route does. -/
theorem wrapL_step {pubs : List Int} {due : Int} {load rs ss : List Int} {i : Nat} (h : i < rs.length) :
    wrapL pubs due load (rs.drop i) (ss.drop i) = layB (pubs.getD (rs.getD i 0).toNat 0) (ss.getD i 0) ((rs.drop (i + 1)).getD 0 255) due (wrapL pubs due load (rs.drop (i + 1)) (ss.drop (i + 1))) := by
  rw [List.drop_eq_getElem_cons h, wrapL, List.drop_drop, getD_drop, getD_lt h]
  rfl
def WrapOk (route pubs secrets : List Int) (due : Int) (load pad : List Int) : Prop :=
  Route route ∧ Pubs pubs ∧ secrets.length = route.length ∧ Secs secrets ∧ (0 ≤ due ∧ due ≤ 65535) ∧ load.length ≤ 24 ∧ 80 ≤ pad.length
instance (route pubs secrets : List Int) (due : Int) (load pad : List Int) : Decidable (WrapOk route pubs secrets due load pad) := by unfold WrapOk; infer_instance
def fwrap (route pubs secrets : List Int) (due : Int) (load pad : List Int) : List Int × Bool :=
  if WrapOk route pubs secrets due load pad then (padL (wrapL pubs due load route secrets) pad, true) else ([], false)
theorem fwrap_t {route pubs secrets : List Int} {due : Int} {load pad : List Int} (h : WrapOk route pubs secrets due load pad) : fwrap route pubs secrets due load pad = (padL (wrapL pubs due load route secrets) pad, true) := if_pos h
theorem fwrap_f {route pubs secrets : List Int} {due : Int} {load pad : List Int} (h : ¬ WrapOk route pubs secrets due load pad) : fwrap route pubs secrets due load pad = ([], false) := if_neg h
theorem fwrap_le (route pubs secrets : List Int) (due : Int) (load pad : List Int) : (fwrap route pubs secrets due load pad).1.length ≤ 80 := by
  unfold fwrap
  split
  · rename_i h
    show (padL _ pad).length ≤ 80
    rw [padL_len (by rw [wrapL_len]; have := h.1.1.2; have := h.2.2.2.2.2.1; omega) h.2.2.2.2.2.2]
    exact Nat.le_refl _
  · simp

/-! ### what is peeled -/
structure Pel where
  next : Int
  due : Int
  tag : Int
  load : List Int
  cell : List Int
def Pel.zero : Pel := ⟨0, 0, 0, [], []⟩
def peelS (s : Int) (c : List Int) : Int := powP (get4 c) s.toNat
def peelK (s : Int) (c : List Int) : Int := keyP (peelS s c) 5
/-- The four bytes ahead of the content. -/
def peelH (s : Int) (c : List Int) : List Int := xorl (keyP (peelK s c) 1) ((c.drop 8).take 4)
def peelN (s : Int) (c : List Int) : Nat := ((peelH s c).getD 3 0).toNat
/-- What is sealed. -/
def peelB (s : Int) (c : List Int) : List Int := (c.drop 4).take (8 + peelN s c)
def peelX (s : Int) (c : List Int) : List Int := openL (peelK s c) (peelB s c)
def LayOk (next : Int) (n : Nat) : Prop := (next = 255 ∧ n ≤ 24) ∨ (next < 8 ∧ 12 ≤ n)
instance (next : Int) (n : Nat) : Decidable (LayOk next n) := by unfold LayOk; infer_instance
def peels (s : Int) (c : List Int) : Prop := (2 ≤ get4 c ∧ get4 c < 2147483646) ∧ peelN s c ≤ 68 ∧ opens (peelK s c) (peelB s c) ∧ LayOk ((peelX s c).getD 0 0) (peelN s c)
instance (s : Int) (c : List Int) : Decidable (peels s c) := by unfold peels; infer_instance
def PeelOk (s : Int) (c pad : List Int) : Prop := ((1 ≤ s ∧ s < 2147483646) ∧ c.length = 80 ∧ 80 ≤ pad.length) ∧ peels s c
instance (s : Int) (c pad : List Int) : Decidable (PeelOk s c pad) := by unfold PeelOk; infer_instance
/-! ### what is wrapped is peeled -/
section
variable {s s' next due : Int} {inner tail : List Int}
end
end Go.Proofs.Ytojbicecopkfbaa
