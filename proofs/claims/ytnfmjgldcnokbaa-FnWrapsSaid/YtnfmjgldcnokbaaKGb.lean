/-
  Cip, Onion: texts joined.
-/
import Derived.Test.YtnfmjgldcnokbaaKGa
import Derived.Laws.BitsAllLaws
namespace Go.Proofs.Ytnfmjgldcnokbaa
open Fld

/-! ### bytes -/
def Bytes (l : List Int) : Prop := ∀ x ∈ l, 0 ≤ x ∧ x < 256
theorem Bytes.at_ {l : List Int} (h : Bytes l) (i : Nat) : 0 ≤ l.getD i 0 ∧ l.getD i 0 < 256 := by
  rw [List.getD_eq_getElem?_getD]
  by_cases hi : i < l.length
  · rw [List.getElem?_eq_getElem hi, Option.getD_some]; exact h _ (List.getElem_mem _)
  · rw [List.getElem?_eq_none (by omega)]; exact ⟨Int.le_refl _, by decide⟩
theorem Bytes.take {l : List Int} (h : Bytes l) (n : Nat) : Bytes (l.take n) := fun x hx => h x (List.mem_of_mem_take hx)
theorem Bytes.drop {l : List Int} (h : Bytes l) (n : Nat) : Bytes (l.drop n) := fun x hx => h x (List.mem_of_mem_drop hx)
theorem Bytes.app {l r : List Int} (h : Bytes l) (h' : Bytes r) : Bytes (l ++ r) := fun x hx => (List.mem_append.1 hx).elim (h x) (h' x)
theorem Bytes.set {l : List Int} (h : Bytes l) (i : Nat) {x : Int} (hx : 0 ≤ x ∧ x < 256) : Bytes (l.set i x) := fun y hy => by
  rcases List.mem_or_eq_of_mem_set hy with h' | rfl
  · exact h y h'
  · exact hx
theorem getD_lt {l : List Int} {i : Nat} (h : i < l.length) : l.getD i 0 = l[i] := by rw [List.getD_eq_getElem?_getD, List.getElem?_eq_getElem h]; rfl
theorem getD_app_l {l r : List Int} {i : Nat} (h : i < l.length) : (l ++ r).getD i 0 = l.getD i 0 := by
  rw [List.getD_eq_getElem?_getD, List.getElem?_append_left h, List.getD_eq_getElem?_getD]
theorem getD_drop (l : List Int) (n i : Nat) : (l.drop n).getD i 0 = l.getD (n + i) 0 := by
  rw [List.getD_eq_getElem?_getD, List.getElem?_drop, List.getD_eq_getElem?_getD]
theorem getD_take {l : List Int} {n i : Nat} (h : i < n) : (l.take n).getD i 0 = l.getD i 0 := by
  rw [List.getD_eq_getElem?_getD, List.getElem?_take, if_pos h, List.getD_eq_getElem?_getD]
theorem ext_getD {l r : List Int} (hl : l.length = r.length) (h : ∀ i, i < l.length → l.getD i 0 = r.getD i 0) : l = r := by
  apply List.ext_getElem hl
  intro i h1 h2
  rw [← getD_lt h1, ← getD_lt h2]; exact h i h1
theorem xor_rg {a b : Int} (h1 : 0 ≤ a ∧ a < 256) (h2 : 0 ≤ b ∧ b < 256) : 0 ≤ bits .xor .u8 a b ∧ bits .xor .u8 a b < 256 := by
  rw [u8_xor a b h1.1 h1.2 h2.1 h2.2]
  have : a.toNat ^^^ b.toNat < 2 ^ 8 := Nat.xor_lt_two_pow (by omega) (by omega)
  omega
theorem xor_xor {a b : Int} (h1 : 0 ≤ a ∧ a < 256) (h2 : 0 ≤ b ∧ b < 256) : bits .xor .u8 (bits .xor .u8 a b) b = a := by
  have h := xor_rg h1 h2
  rw [u8_xor _ b h.1 h.2 h2.1 h2.2, u8_xor a b h1.1 h1.2 h2.1 h2.2, Int.toNat_natCast, Nat.xor_assoc, Nat.xor_self, Nat.xor_zero]
  omega
/-! ### the key stream -/
def strY (k i : Int) : Int := mulP ((mulP ((k + i * 7919 + 3) % 2147483647) 48271 + k + i + 1) % 2147483647) 16807
def strB (k i : Int) : Int := strY k i / 256 % 256
theorem strY_el (k i : Int) : mulP (addP (addP (addP (mulP (addP (addP k (mulP i 7919)) 3) 48271) k) i) 1) 16807 = strY k i := by
  unfold strY addP mulP; omega
theorem strB_rg (k i : Int) : 0 ≤ strB k i ∧ strB k i < 256 := by unfold strB; omega
/-- The first j bytes of l, turned. -/
def xorn (k : Int) (l : List Int) (j : Nat) : List Int := (List.range j).map fun i : Nat => bits .xor .u8 (l.getD i 0) (strB k i)
def xorl (k : Int) (l : List Int) : List Int := xorn k l l.length
theorem xorn_len (k : Int) (l : List Int) (j : Nat) : (xorn k l j).length = j := by simp [xorn]
theorem xorl_len (k : Int) (l : List Int) : (xorl k l).length = l.length := xorn_len _ _ _
theorem xorn_snoc (k : Int) (l : List Int) (j : Nat) : xorn k l (j + 1) = xorn k l j ++ [bits .xor .u8 (l.getD j 0) (strB k j)] := by simp [xorn, List.range_succ]
theorem xorn_at {k : Int} {l : List Int} {j i : Nat} (h : i < j) : (xorn k l j).getD i 0 = bits .xor .u8 (l.getD i 0) (strB k i) := by
  rw [List.getD_eq_getElem?_getD, xorn, List.getElem?_map, List.getElem?_range h]; rfl
theorem xorn_bytes {k : Int} {l : List Int} (h : Bytes l) (j : Nat) : Bytes (xorn k l j) := by
  intro x hx
  simp only [xorn, List.mem_map] at hx
  obtain ⟨i, _, rfl⟩ := hx
  exact xor_rg (h.at_ i) (strB_rg _ _)
theorem xorl_bytes {k : Int} {l : List Int} (h : Bytes l) : Bytes (xorl k l) := xorn_bytes h _
theorem xorl_xorl {k : Int} {l : List Int} (h : Bytes l) : xorl k (xorl k l) = l := by
  apply ext_getD (by rw [xorl_len, xorl_len])
  intro i hi
  rw [xorl_len, xorl_len] at hi
  unfold xorl
  rw [xorn_at (by rw [xorn_len]; exact hi), xorn_at hi]
  exact xor_xor (h.at_ i) (strB_rg _ _)
def fxor (k : Int) (l : List Int) : List Int := if (0 ≤ k ∧ k < 2147483647) ∧ l.length ≤ 400 then xorl k l else []
theorem fxor_t {k : Int} {l : List Int} (h : Ok k) (h' : l.length ≤ 400) : fxor k l = xorl k l := if_pos ⟨h, h'⟩
/-! ### the code -/
def macR (k : Int) : Int := 1 + keyP k 71 % 2147483646
theorem macR_rg (k : Int) : 1 ≤ macR k ∧ macR k < 2147483647 := by unfold macR; omega
/-- What the code is when j bytes are over. -/
def macN (r n : Int) (l : List Int) (j : Nat) : Int := (l.take j).foldl (fun n b => addP (addP (mulP n r) b) 1) n
theorem macN_succ {r n : Int} {l : List Int} {j : Nat} (h : j < l.length) : macN r n l (j + 1) = addP (addP (mulP (macN r n l j) r) (l.getD j 0)) 1 := by
  unfold macN
  rw [List.take_succ_eq_append_getElem h, List.foldl_append, getD_lt h]; rfl
theorem mac_step (n r b : Int) : addP (addP (mulP n r) b) 1 = (mulP n r + b + 1) % 2147483647 := by unfold addP; omega
theorem macN_rg {r n : Int} {l : List Int} (h : 0 ≤ n ∧ n < 2147483647) (j : Nat) (hj : j ≤ l.length) : 0 ≤ macN r n l j ∧ macN r n l j < 2147483647 := by
  cases j with
  | zero => exact h
  | succ j => rw [macN_succ (by omega)]; exact addP_rg _ _
def macV (k : Int) (l : List Int) : Int := macN (macR k) (l.length + 1) l l.length
def mac (k : Int) (l : List Int) : Int := addP (mulP (macV k l) (macR k)) (keyP k 72)
theorem mac_rg (k : Int) (l : List Int) : 0 ≤ mac k l ∧ mac k l < 2147483647 := addP_rg _ _
/-! ### sealing -/
def four (n : Int) : List Int := [n / 16777216 % 256, n / 65536 % 256, n / 256 % 256, n % 256]
def get4 (l : List Int) : Int := l.getD 0 0 * 16777216 + l.getD 1 0 * 65536 + l.getD 2 0 * 256 + l.getD 3 0
theorem four_len (n : Int) : (four n).length = 4 := rfl
theorem four_bytes (n : Int) : Bytes (four n) := by
  intro x hx
  simp only [four, List.mem_cons, List.not_mem_nil, or_false] at hx
  omega
theorem get4_four {n : Int} (h : 0 ≤ n ∧ n < 4294967296) : get4 (four n) = n := by
  show n / 16777216 % 256 * 16777216 + n / 65536 % 256 * 65536 + n / 256 % 256 * 256 + n % 256 = n
  omega
theorem get4_app (a b : List Int) (h : a.length = 4) : get4 (a ++ b) = get4 a := by
  unfold get4
  rw [getD_app_l (by omega), getD_app_l (by omega), getD_app_l (by omega), getD_app_l (by omega)]
theorem four_get4 {l : List Int} (h : Bytes l) (hl : l.length = 4) : four (get4 l) = l := by
  have h0 := h.at_ 0; have h1 := h.at_ 1; have h2 := h.at_ 2; have h3 := h.at_ 3
  apply ext_getD (by rw [four_len, hl])
  intro i hi
  rw [four_len] at hi
  unfold get4
  match i, hi with
  | 0, _ => show _ / 16777216 % 256 = _; omega
  | 1, _ => show _ / 65536 % 256 = _; omega
  | 2, _ => show _ / 256 % 256 = _; omega
  | 3, _ => show _ % 256 = _; omega
def sealL (k : Int) (l : List Int) : List Int := four (mac (keyP k 2) (xorl (keyP k 1) l)) ++ xorl (keyP k 1) l
theorem sealL_len (k : Int) (l : List Int) : (sealL k l).length = l.length + 4 := by
  rw [sealL, List.length_append, four_len, xorl_len]; omega
theorem sealL_bytes {k : Int} {l : List Int} (h : Bytes l) : Bytes (sealL k l) := (four_bytes _).app (xorl_bytes h)
/-- What l opens to, if it does. -/
def openL (k : Int) (l : List Int) : List Int := xorl (keyP k 1) (l.drop 4)
def opens (k : Int) (l : List Int) : Prop := 4 ≤ l.length ∧ get4 l = mac (keyP k 2) (l.drop 4)
instance (k : Int) (l : List Int) : Decidable (opens k l) := by unfold opens; infer_instance
theorem openL_len (k : Int) (l : List Int) : (openL k l).length = l.length - 4 := by rw [openL, xorl_len, List.length_drop]
theorem openL_bytes {k : Int} {l : List Int} (h : Bytes l) : Bytes (openL k l) := xorl_bytes (h.drop 4)
/-- What has been opened, sealed again, is the same bytes just where they open. -/
theorem seal_open {k : Int} {l : List Int} (h : Bytes l) (h4 : 4 ≤ l.length) : sealL k (openL k l) = l ↔ opens k l := by
  have e : sealL k (openL k l) = four (mac (keyP k 2) (l.drop 4)) ++ l.drop 4 := by
    unfold sealL openL; rw [xorl_xorl (h.drop 4)]
  have hm := mac_rg (keyP k 2) (l.drop 4)
  rw [e]
  constructor
  · intro hh
    refine ⟨h4, ?_⟩
    have hg : get4 (four (mac (keyP k 2) (l.drop 4)) ++ l.drop 4) = mac (keyP k 2) (l.drop 4) := by rw [get4_app _ _ rfl, get4_four (by omega)]
    rw [hh] at hg
    exact hg
  · rintro ⟨_, hh⟩
    rw [← hh]
    have : get4 l = get4 (l.take 4) := by
      conv => lhs; rw [← List.take_append_drop 4 l]
      exact get4_app _ _ (by rw [List.length_take]; omega)
    rw [this, four_get4 (h.take 4) (by rw [List.length_take]; omega), List.take_append_drop]
theorem open_seal {k : Int} {l : List Int} (h : Bytes l) : opens k (sealL k l) ∧ openL k (sealL k l) = l := by
  have hm := mac_rg (keyP k 2) (xorl (keyP k 1) l)
  have e : (sealL k l).drop 4 = xorl (keyP k 1) l := by unfold sealL; exact List.drop_left' rfl
  refine ⟨⟨by rw [sealL_len]; omega, ?_⟩, ?_⟩
  · rw [e]; unfold sealL; rw [get4_app _ _ rfl, get4_four (by omega)]
  · unfold openL; rw [e, xorl_xorl h]
end Go.Proofs.Ytnfmjgldcnokbaa
namespace Go.Proofs.Ytnfmjgldcnokbaa
open Fld

/-! ### routes, keys -/
def Node (n : Int) : Prop := 0 ≤ n ∧ n < 8
def Route (l : List Int) : Prop := (1 ≤ l.length ∧ l.length ≤ 4) ∧ (∀ x ∈ l, 0 ≤ x ∧ x < 8) ∧ ∀ i, i < l.length - 1 → l.getD i 0 ≠ l.getD (i + 1) 0
def Pubs (l : List Int) : Prop := l.length = 8 ∧ ∀ x ∈ l, 2 ≤ x ∧ x < 2147483646
def LaySec (x : Int) : Prop := (1 ≤ x ∧ x < 2147483646) ∧ (2 ≤ powP 7 x.toNat ∧ powP 7 x.toNat < 2147483646)
instance (x : Int) : Decidable (LaySec x) := by unfold LaySec; infer_instance
def Secs (l : List Int) : Prop := ∀ x ∈ l, LaySec x
instance (l : List Int) : Decidable (Route l) := by unfold Route; infer_instance
instance (l : List Int) : Decidable (Pubs l) := by unfold Pubs; infer_instance
instance (l : List Int) : Decidable (Secs l) := by unfold Secs; infer_instance
theorem LaySec.sec {x : Int} (h : LaySec x) : Sec x := h.1
theorem LaySec.pub {x : Int} (h : LaySec x) : Pub (powP 7 x.toNat) := h.2

/-! ### sizes -/
def fsize (h l : Int) : Int := if (1 ≤ h ∧ h ≤ 4) ∧ (0 ≤ l ∧ l ≤ 24) then 12 * h + l else -1

/-! ### cells -/
def padL (b pad : List Int) : List Int := b ++ pad.take (80 - b.length)
theorem padL_len {b pad : List Int} (h : b.length ≤ 80) (h' : 80 ≤ pad.length) : (padL b pad).length = 80 := by
  unfold padL; rw [List.length_append, List.length_take]; omega
theorem padL_bytes {b pad : List Int} (h : Bytes b) (h' : Bytes pad) : Bytes (padL b pad) := h.app (h'.take _)
def fdum (pad : List Int) : List Int × Bool := if 80 ≤ pad.length then (padL [] pad, true) else ([], false)

/-! ### layers -/
def headL (next due : Int) (n : Nat) : List Int := [next, due / 256, due % 256, (n : Int)]
theorem headL_len (next due : Int) (n : Nat) : (headL next due n).length = 4 := rfl
theorem headL_bytes {next due : Int} {n : Nat} (h1 : 0 ≤ next ∧ next < 256) (h2 : 0 ≤ due ∧ due ≤ 65535) (h3 : n < 256) : Bytes (headL next due n) := by
  intro x hx
  simp only [headL, List.mem_cons, List.not_mem_nil, or_false] at hx
  omega
def layB (pub s next due : Int) (inner : List Int) : List Int := four (powP 7 s.toNat) ++ sealL (keyP (powP pub s.toNat) 5) (headL next due inner.length ++ inner)
theorem layB_len (pub s next due : Int) (inner : List Int) : (layB pub s next due inner).length = 12 + inner.length := by
  unfold layB; rw [List.length_append, four_len, sealL_len, List.length_append, headL_len]; omega
theorem layB_bytes {pub s next due : Int} {inner : List Int} (h1 : 0 ≤ next ∧ next < 256) (h2 : 0 ≤ due ∧ due ≤ 65535) (h3 : inner.length < 256) (hi : Bytes inner) : Bytes (layB pub s next due inner) :=
  (four_bytes _).app (sealL_bytes ((headL_bytes h1 h2 h3).app hi))
/-- The layers of a route, the outermost ahead. -/
def wrapL (pubs : List Int) (due : Int) (load : List Int) : List Int → List Int → List Int
  | [], _ => load
  | r :: rs, ss => layB (pubs.getD r.toNat 0) (ss.getD 0 0) (rs.getD 0 255) due (wrapL pubs due load rs (ss.drop 1))
theorem wrapL_len (pubs : List Int) (due : Int) (load : List Int) : ∀ (rs ss : List Int), (wrapL pubs due load rs ss).length = 12 * rs.length + load.length
  | [], _ => by simp [wrapL]
  | r :: rs, ss => by
    rw [wrapL, layB_len, wrapL_len pubs due load rs, List.length_cons]; omega
theorem next_rg {rs : List Int} (h : ∀ x ∈ rs, 0 ≤ x ∧ x < 8) : 0 ≤ rs.getD 0 255 ∧ rs.getD 0 255 < 256 := by
  cases rs with
  | nil => exact ⟨by decide, by decide⟩
  | cons a l => have := h a (List.mem_cons_self); rw [List.getD_cons_zero]; omega
theorem wrapL_bytes {pubs : List Int} {due : Int} {load : List Int} (hd : 0 ≤ due ∧ due ≤ 65535) (hl : Bytes load) (hll : load.length ≤ 24) : ∀ (rs ss : List Int), (∀ x ∈ rs, 0 ≤ x ∧ x < 8) → rs.length ≤ 4 → Bytes (wrapL pubs due load rs ss)
  | [], _, _, _ => hl
  | r :: rs, ss, h, h4 => by
    have h' : ∀ x ∈ rs, 0 ≤ x ∧ x < 8 := fun x hx => h x (List.mem_cons_of_mem _ hx)
    rw [List.length_cons] at h4
    exact layB_bytes (next_rg h') hd (by rw [wrapL_len]; omega) (wrapL_bytes hd hl hll rs _ h' (by omega))
/-- One layer more: what the loop over the route does. -/
theorem wrapL_step {pubs : List Int} {due : Int} {load rs ss : List Int} {i : Nat} (h : i < rs.length) :
    wrapL pubs due load (rs.drop i) (ss.drop i) = layB (pubs.getD (rs.getD i 0).toNat 0) (ss.getD i 0) ((rs.drop (i + 1)).getD 0 255) due (wrapL pubs due load (rs.drop (i + 1)) (ss.drop (i + 1))) := by
  rw [List.drop_eq_getElem_cons h, wrapL, List.drop_drop, getD_drop, getD_lt h]
  rfl
def WrapOk (route pubs secrets : List Int) (due : Int) (load pad : List Int) : Prop :=
  Route route ∧ Pubs pubs ∧ secrets.length = route.length ∧ Secs secrets ∧ (0 ≤ due ∧ due ≤ 65535) ∧ load.length ≤ 24 ∧ 80 ≤ pad.length
instance (route pubs secrets : List Int) (due : Int) (load pad : List Int) : Decidable (WrapOk route pubs secrets due load pad) := by unfold WrapOk; infer_instance
def fwrap (route pubs secrets : List Int) (due : Int) (load pad : List Int) : List Int × Bool :=
  if WrapOk route pubs secrets due load pad then (padL (wrapL pubs due load route secrets) pad, true) else ([], false)
theorem fwrap_t {route pubs secrets : List Int} {due : Int} {load pad : List Int} (h : WrapOk route pubs secrets due load pad) : fwrap route pubs secrets due load pad = (padL (wrapL pubs due load route secrets) pad, true) := if_pos h
theorem fwrap_f {route pubs secrets : List Int} {due : Int} {load pad : List Int} (h : ¬ WrapOk route pubs secrets due load pad) : fwrap route pubs secrets due load pad = ([], false) := if_neg h
/-! ### what is peeled -/
structure Pel where
  next : Int
  due : Int
  tag : Int
  load : List Int
  cell : List Int
def Pel.zero : Pel := ⟨0, 0, 0, [], []⟩
def peelS (s : Int) (c : List Int) : Int := powP (get4 c) s.toNat
def peelK (s : Int) (c : List Int) : Int := keyP (peelS s c) 5
/-- The four bytes ahead of the content. -/
def peelH (s : Int) (c : List Int) : List Int := xorl (keyP (peelK s c) 1) ((c.drop 8).take 4)
def peelN (s : Int) (c : List Int) : Nat := ((peelH s c).getD 3 0).toNat
/-- What is sealed. -/
def peelB (s : Int) (c : List Int) : List Int := (c.drop 4).take (8 + peelN s c)
def peelX (s : Int) (c : List Int) : List Int := openL (peelK s c) (peelB s c)
def LayOk (next : Int) (n : Nat) : Prop := (next = 255 ∧ n ≤ 24) ∨ (next < 8 ∧ 12 ≤ n)
instance (next : Int) (n : Nat) : Decidable (LayOk next n) := by unfold LayOk; infer_instance
def peels (s : Int) (c : List Int) : Prop := (2 ≤ get4 c ∧ get4 c < 2147483646) ∧ peelN s c ≤ 68 ∧ opens (peelK s c) (peelB s c) ∧ LayOk ((peelX s c).getD 0 0) (peelN s c)
instance (s : Int) (c : List Int) : Decidable (peels s c) := by unfold peels; infer_instance
def peelV (s : Int) (c pad : List Int) : Pel :=
  { next := (peelX s c).getD 0 0, due := (peelX s c).getD 1 0 * 256 + (peelX s c).getD 2 0, tag := keyP (peelS s c) 9,
    load := if (peelX s c).getD 0 0 = 255 then (peelX s c).drop 4 else [], cell := if (peelX s c).getD 0 0 = 255 then [] else padL ((peelX s c).drop 4) pad }
def PeelOk (s : Int) (c pad : List Int) : Prop := ((1 ≤ s ∧ s < 2147483646) ∧ c.length = 80 ∧ 80 ≤ pad.length) ∧ peels s c
instance (s : Int) (c pad : List Int) : Decidable (PeelOk s c pad) := by unfold PeelOk; infer_instance
def fpeel (s : Int) (c pad : List Int) : Pel × Bool := if PeelOk s c pad then (peelV s c pad, true) else (Pel.zero, false)
theorem fpeel_t {s : Int} {c pad : List Int} (h : PeelOk s c pad) : fpeel s c pad = (peelV s c pad, true) := if_pos h
theorem fpeel_f {s : Int} {c pad : List Int} (h : ¬ PeelOk s c pad) : fpeel s c pad = (Pel.zero, false) := if_neg h
theorem peelH_len {s : Int} {c : List Int} (h : c.length = 80) : (peelH s c).length = 4 := by
  unfold peelH; rw [xorl_len, List.length_take, List.length_drop, h]; rfl
theorem peelH_bytes {s : Int} {c : List Int} (h : Bytes c) : Bytes (peelH s c) := xorl_bytes ((h.drop 8).take 4)
theorem peelN_eq {s : Int} {c : List Int} (h : Bytes c) : ((peelN s c : Nat) : Int) = (peelH s c).getD 3 0 := by
  have := (peelH_bytes (s := s) h).at_ 3
  unfold peelN; omega
theorem peelB_len {s : Int} {c : List Int} (h : c.length = 80) (hn : peelN s c ≤ 68) : (peelB s c).length = 8 + peelN s c := by
  unfold peelB; rw [List.length_take, List.length_drop]; omega
theorem peelB_bytes {s : Int} {c : List Int} (h : Bytes c) : Bytes (peelB s c) := (h.drop 4).take _
theorem peelX_len {s : Int} {c : List Int} (h : c.length = 80) (hn : peelN s c ≤ 68) : (peelX s c).length = 4 + peelN s c := by
  unfold peelX; rw [openL_len, peelB_len h hn]; omega
theorem peelX_bytes {s : Int} {c : List Int} (h : Bytes c) : Bytes (peelX s c) := openL_bytes (peelB_bytes h)
/-- The tag of a cell for a secret key. -/
def ftag (s : Int) (c : List Int) : Int := if (1 ≤ s ∧ s < 2147483646) ∧ c.length = 80 ∧ (2 ≤ get4 c ∧ get4 c < 2147483646) then keyP (powP (get4 c) s.toNat) 9 else -1

/-! ### what is wrapped is peeled -/
section
variable {s s' next due : Int} {inner tail : List Int}
theorem lay_get4 : get4 (layB (powP 7 s.toNat) s' next due inner ++ tail) = powP 7 s'.toNat := by
  have := powP_rg 7 s'.toNat
  unfold layB
  rw [List.append_assoc, get4_app _ _ (four_len _), get4_four (by omega)]
theorem lay_S : peelS s (layB (powP 7 s.toNat) s' next due inner ++ tail) = powP (powP 7 s.toNat) s'.toNat := by
  unfold peelS; rw [lay_get4, powP_comm]
theorem lay_K : peelK s (layB (powP 7 s.toNat) s' next due inner ++ tail) = keyP (powP (powP 7 s.toNat) s'.toNat) 5 := by
  unfold peelK; rw [lay_S]
theorem lay_drop4 : (layB (powP 7 s.toNat) s' next due inner ++ tail).drop 4 = sealL (keyP (powP (powP 7 s.toNat) s'.toNat) 5) (headL next due inner.length ++ inner) ++ tail := by
  unfold layB; rw [List.append_assoc]; exact List.drop_left' (four_len _)
theorem lay_drop8 : (layB (powP 7 s.toNat) s' next due inner ++ tail).drop 8 = xorl (keyP (keyP (powP (powP 7 s.toNat) s'.toNat) 5) 1) (headL next due inner.length ++ inner) ++ tail := by
  rw [show (8 : Nat) = 4 + 4 from rfl, ← List.drop_drop, lay_drop4]
  unfold sealL
  rw [List.append_assoc]
  exact List.drop_left' (four_len _)
theorem lay_H (hb : Bytes (headL next due inner.length ++ inner)) : (peelH s (layB (powP 7 s.toNat) s' next due inner ++ tail)).getD 3 0 = (inner.length : Int) := by
  unfold peelH
  rw [lay_K, lay_drop8]
  generalize keyP (keyP (powP (powP 7 s.toNat) s'.toNat) 5) 1 = k
  have hl : (xorl k (headL next due inner.length ++ inner)).length = 4 + inner.length := by rw [xorl_len, List.length_append, headL_len]
  rw [List.take_append_of_le_length (by omega)]
  unfold xorl at hl ⊢
  rw [xorn_at (by rw [List.length_take]; omega), getD_take (by omega), xorn_at (by rw [List.length_append, headL_len]; omega), xor_xor (hb.at_ 3) (strB_rg _ _), getD_app_l (by rw [headL_len]; omega)]
  rfl
theorem lay_N (hb : Bytes (headL next due inner.length ++ inner)) : peelN s (layB (powP 7 s.toNat) s' next due inner ++ tail) = inner.length := by
  unfold peelN; rw [lay_H hb]; omega
theorem lay_B (hb : Bytes (headL next due inner.length ++ inner)) : peelB s (layB (powP 7 s.toNat) s' next due inner ++ tail) = sealL (keyP (powP (powP 7 s.toNat) s'.toNat) 5) (headL next due inner.length ++ inner) := by
  unfold peelB
  rw [lay_N hb, lay_drop4]
  refine List.take_left' ?_
  rw [sealL_len, List.length_append, headL_len]; omega
theorem lay_X (hb : Bytes (headL next due inner.length ++ inner)) : peelX s (layB (powP 7 s.toNat) s' next due inner ++ tail) = headL next due inner.length ++ inner := by
  unfold peelX
  rw [lay_K, lay_B hb]
  exact (open_seal hb).2
theorem lay_peels (hp : Pub (powP 7 s'.toNat)) (hb : Bytes (headL next due inner.length ++ inner)) (hl : inner.length ≤ 68) (hok : LayOk next inner.length) : peels s (layB (powP 7 s.toNat) s' next due inner ++ tail) := by
  refine ⟨?_, ?_, ?_, ?_⟩
  · rw [lay_get4]; exact hp
  · rw [lay_N hb]; exact hl
  · rw [lay_K, lay_B hb]; exact (open_seal hb).1
  · rw [lay_X hb, lay_N hb]; exact hok
theorem lay_V (hb : Bytes (headL next due inner.length ++ inner)) (pad : List Int) : peelV s (layB (powP 7 s.toNat) s' next due inner ++ tail) pad =
    { next := next, due := due, tag := keyP (powP (powP 7 s.toNat) s'.toNat) 9, load := if next = 255 then inner else [], cell := if next = 255 then [] else padL inner pad } := by
  unfold peelV
  rw [lay_X hb, lay_S]
  show Pel.mk next (due / 256 * 256 + due % 256) _ (if next = 255 then inner else []) (if next = 255 then [] else padL inner pad) = _
  rw [show due / 256 * 256 + due % 256 = due by omega]
end
end Go.Proofs.Ytnfmjgldcnokbaa
