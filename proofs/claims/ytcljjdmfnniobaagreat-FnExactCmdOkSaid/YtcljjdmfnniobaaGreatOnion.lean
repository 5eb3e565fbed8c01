/-
  Plain words for chapter 3: routes, layers, cells, what is peeled. Nothing of the program is imported.
-/
import Derived.Test.YtcljjdmfnniobaaGreatCip
namespace Go.Proofs.YtcljjdmfnniobaaGreat
open Fld

/-! ### routes, keys -/
def Node (n : Int) : Prop := 0 ≤ n ∧ n < 8
def Route (l : List Int) : Prop := (1 ≤ l.length ∧ l.length ≤ 4) ∧ (∀ x ∈ l, 0 ≤ x ∧ x < 8) ∧ ∀ i, i < l.length - 1 → l.getD i 0 ≠ l.getD (i + 1) 0
def Pubs (l : List Int) : Prop := l.length = 8 ∧ ∀ x ∈ l, 2 ≤ x ∧ x < 2147483646
def LaySec (x : Int) : Prop := (1 ≤ x ∧ x < 2147483646) ∧ (2 ≤ powP 7 x.toNat ∧ powP 7 x.toNat < 2147483646)
instance (x : Int) : Decidable (LaySec x) := by unfold LaySec; infer_instance
def Secs (l : List Int) : Prop := ∀ x ∈ l, LaySec x
instance (l : List Int) : Decidable (Route l) := by unfold Route; infer_instance
instance (l : List Int) : Decidable (Pubs l) := by unfold Pubs; infer_instance
instance (l : List Int) : Decidable (Secs l) := by unfold Secs; infer_instance
theorem LaySec.sec {x : Int} (h : LaySec x) : Sec x := h.1
theorem LaySec.pub {x : Int} (h : LaySec x) : Pub (powP 7 x.toNat) := h.2

/-! ### sizes -/
def fsize (h l : Int) : Int := if (1 ≤ h ∧ h ≤ 4) ∧ (0 ≤ l ∧ l ≤ 24) then 12 * h + l else -1

/-! ### cells -/
def padL (b pad : List Int) : List Int := b ++ pad.take (80 - b.length)
theorem padL_len {b pad : List Int} (h : b.length ≤ 80) (h' : 80 ≤ pad.length) : (padL b pad).length = 80 := by
  unfold padL; rw [List.length_append, List.length_take]; omega
theorem padL_bytes {b pad : List Int} (h : Bytes b) (h' : Bytes pad) : Bytes (padL b pad) := h.app (h'.take _)
def fdum (pad : List Int) : List Int × Bool := if 80 ≤ pad.length then (padL [] pad, true) else ([], false)

theorem fdum_le (pad : List Int) : (fdum pad).1.length ≤ 80 := by
  unfold fdum
  split
  · exact Nat.le_of_eq (padL_len (by simp) (by assumption))
  · simp

/-! ### layers -/
def headL (next due : Int) (n : Nat) : List Int := [next, due / 256, due % 256, (n : Int)]
theorem headL_len (next due : Int) (n : Nat) : (headL next due n).length = 4 := rfl
theorem headL_bytes {next due : Int} {n : Nat} (h1 : 0 ≤ next ∧ next < 256) (h2 : 0 ≤ due ∧ due ≤ 65535) (h3 : n < 256) : Bytes (headL next due n) := by
  intro x hx
  simp only [headL, List.mem_cons, List.not_mem_nil, or_false] at hx
  omega
def layB (pub s next due : Int) (inner : List Int) : List Int := four (powP 7 s.toNat) ++ sealL (keyP (powP pub s.toNat) 5) (headL next due inner.length ++ inner)
theorem layB_len (pub s next due : Int) (inner : List Int) : (layB pub s next due inner).length = 12 + inner.length := by
  unfold layB; rw [List.length_append, four_len, sealL_len, List.length_append, headL_len]; omega
theorem layB_bytes {pub s next due : Int} {inner : List Int} (h1 : 0 ≤ next ∧ next < 256) (h2 : 0 ≤ due ∧ due ≤ 65535) (h3 : inner.length < 256) (hi : Bytes inner) : Bytes (layB pub s next due inner) :=
  (four_bytes _).app (sealL_bytes ((headL_bytes h1 h2 h3).app hi))
/-- The layers of a route, the outermost ahead. -/
def wrapL (pubs : List Int) (due : Int) (load : List Int) : List Int → List Int → List Int
  | [], _ => load
  | r :: rs, ss => layB (pubs.getD r.toNat 0) (ss.getD 0 0) (rs.getD 0 255) due (wrapL pubs due load rs (ss.drop 1))
theorem wrapL_len (pubs : List Int) (due : Int) (load : List Int) : ∀ (rs ss : List Int), (wrapL pubs due load rs ss).length = 12 * rs.length + load.length
  | [], _ => by simp [wrapL]
  | r :: rs, ss => by
    rw [wrapL, layB_len, wrapL_len pubs due load rs, List.length_cons]; omega
theorem next_rg {rs : List Int} (h : ∀ x ∈ rs, 0 ≤ x ∧ x < 8) : 0 ≤ rs.getD 0 255 ∧ rs.getD 0 255 < 256 := by
  cases rs with
  | nil => exact ⟨by decide, by decide⟩
  | cons a l => have := h a (List.mem_cons_self); rw [List.getD_cons_zero]; omega
theorem wrapL_bytes {pubs : List Int} {due : Int} {load : List Int} (hd : 0 ≤ due ∧ due ≤ 65535) (hl : Bytes load) (hll : load.length ≤ 24) : ∀ (rs ss : List Int), (∀ x ∈ rs, 0 ≤ x ∧ x < 8) → rs.length ≤ 4 → Bytes (wrapL pubs due load rs ss)
  | [], _, _, _ => hl
  | r :: rs, ss, h, h4 => by
    have h' : ∀ x ∈ rs, 0 ≤ x ∧ x < 8 := fun x hx => h x (List.mem_cons_of_mem _ hx)
    rw [List.length_cons] at h4
    exact layB_bytes (next_rg h') hd (by rw [wrapL_len]; omega) (wrapL_bytes hd hl hll rs _ h' (by omega))
/-- One layer more: what the loop over the route does. -/
theorem wrapL_step {pubs : List Int} {due : Int} {load rs ss : List Int} {i : Nat} (h : i < rs.length) :
    wrapL pubs due load (rs.drop i) (ss.drop i) = layB (pubs.getD (rs.getD i 0).toNat 0) (ss.getD i 0) ((rs.drop (i + 1)).getD 0 255) due (wrapL pubs due load (rs.drop (i + 1)) (ss.drop (i + 1))) := by
  rw [List.drop_eq_getElem_cons h, wrapL, List.drop_drop, getD_drop, getD_lt h]
  rfl
def WrapOk (route pubs secrets : List Int) (due : Int) (load pad : List Int) : Prop :=
  Route route ∧ Pubs pubs ∧ secrets.length = route.length ∧ Secs secrets ∧ (0 ≤ due ∧ due ≤ 65535) ∧ load.length ≤ 24 ∧ 80 ≤ pad.length
instance (route pubs secrets : List Int) (due : Int) (load pad : List Int) : Decidable (WrapOk route pubs secrets due load pad) := by unfold WrapOk; infer_instance
def fwrap (route pubs secrets : List Int) (due : Int) (load pad : List Int) : List Int × Bool :=
  if WrapOk route pubs secrets due load pad then (padL (wrapL pubs due load route secrets) pad, true) else ([], false)
theorem fwrap_t {route pubs secrets : List Int} {due : Int} {load pad : List Int} (h : WrapOk route pubs secrets due load pad) : fwrap route pubs secrets due load pad = (padL (wrapL pubs due load route secrets) pad, true) := if_pos h
theorem fwrap_f {route pubs secrets : List Int} {due : Int} {load pad : List Int} (h : ¬ WrapOk route pubs secrets due load pad) : fwrap route pubs secrets due load pad = ([], false) := if_neg h
theorem fwrap_le (route pubs secrets : List Int) (due : Int) (load pad : List Int) : (fwrap route pubs secrets due load pad).1.length ≤ 80 := by
  unfold fwrap
  split
  · rename_i h
    show (padL _ pad).length ≤ 80
    rw [padL_len (by rw [wrapL_len]; have := h.1.1.2; have := h.2.2.2.2.2.1; omega) h.2.2.2.2.2.2]
    exact Nat.le_refl _
  · simp

/-! ### what is peeled -/
structure Pel where
  next : Int
  due : Int
  tag : Int
  load : List Int
  cell : List Int
def Pel.zero : Pel := ⟨0, 0, 0, [], []⟩
def peelS (s : Int) (c : List Int) : Int := powP (get4 c) s.toNat
def peelK (s : Int) (c : List Int) : Int := keyP (peelS s c) 5
/-- The four bytes ahead of the content. -/
def peelH (s : Int) (c : List Int) : List Int := xorl (keyP (peelK s c) 1) ((c.drop 8).take 4)
def peelN (s : Int) (c : List Int) : Nat := ((peelH s c).getD 3 0).toNat
/-- What is sealed. -/
def peelB (s : Int) (c : List Int) : List Int := (c.drop 4).take (8 + peelN s c)
def peelX (s : Int) (c : List Int) : List Int := openL (peelK s c) (peelB s c)
def LayOk (next : Int) (n : Nat) : Prop := (next = 255 ∧ n ≤ 24) ∨ (next < 8 ∧ 12 ≤ n)
instance (next : Int) (n : Nat) : Decidable (LayOk next n) := by unfold LayOk; infer_instance
def peels (s : Int) (c : List Int) : Prop := (2 ≤ get4 c ∧ get4 c < 2147483646) ∧ peelN s c ≤ 68 ∧ opens (peelK s c) (peelB s c) ∧ LayOk ((peelX s c).getD 0 0) (peelN s c)
instance (s : Int) (c : List Int) : Decidable (peels s c) := by unfold peels; infer_instance
def peelV (s : Int) (c pad : List Int) : Pel :=
  { next := (peelX s c).getD 0 0, due := (peelX s c).getD 1 0 * 256 + (peelX s c).getD 2 0, tag := keyP (peelS s c) 9,
    load := if (peelX s c).getD 0 0 = 255 then (peelX s c).drop 4 else [], cell := if (peelX s c).getD 0 0 = 255 then [] else padL ((peelX s c).drop 4) pad }
def PeelOk (s : Int) (c pad : List Int) : Prop := ((1 ≤ s ∧ s < 2147483646) ∧ c.length = 80 ∧ 80 ≤ pad.length) ∧ peels s c
instance (s : Int) (c pad : List Int) : Decidable (PeelOk s c pad) := by unfold PeelOk; infer_instance
def fpeel (s : Int) (c pad : List Int) : Pel × Bool := if PeelOk s c pad then (peelV s c pad, true) else (Pel.zero, false)
theorem fpeel_t {s : Int} {c pad : List Int} (h : PeelOk s c pad) : fpeel s c pad = (peelV s c pad, true) := if_pos h
theorem fpeel_f {s : Int} {c pad : List Int} (h : ¬ PeelOk s c pad) : fpeel s c pad = (Pel.zero, false) := if_neg h
theorem peelH_len {s : Int} {c : List Int} (h : c.length = 80) : (peelH s c).length = 4 := by
  unfold peelH; rw [xorl_len, List.length_take, List.length_drop, h]; rfl
theorem peelH_bytes {s : Int} {c : List Int} (h : Bytes c) : Bytes (peelH s c) := xorl_bytes ((h.drop 8).take 4)
theorem peelN_eq {s : Int} {c : List Int} (h : Bytes c) : ((peelN s c : Nat) : Int) = (peelH s c).getD 3 0 := by
  have := (peelH_bytes (s := s) h).at_ 3
  unfold peelN; omega
theorem peelB_len {s : Int} {c : List Int} (h : c.length = 80) (hn : peelN s c ≤ 68) : (peelB s c).length = 8 + peelN s c := by
  unfold peelB; rw [List.length_take, List.length_drop]; omega
theorem peelB_bytes {s : Int} {c : List Int} (h : Bytes c) : Bytes (peelB s c) := (h.drop 4).take _
theorem peelX_len {s : Int} {c : List Int} (h : c.length = 80) (hn : peelN s c ≤ 68) : (peelX s c).length = 4 + peelN s c := by
  unfold peelX; rw [openL_len, peelB_len h hn]; omega
theorem peelX_bytes {s : Int} {c : List Int} (h : Bytes c) : Bytes (peelX s c) := openL_bytes (peelB_bytes h)
/-- The tag of a cell for a secret key. -/
def ftag (s : Int) (c : List Int) : Int := if (1 ≤ s ∧ s < 2147483646) ∧ c.length = 80 ∧ (2 ≤ get4 c ∧ get4 c < 2147483646) then keyP (powP (get4 c) s.toNat) 9 else -1

/-! ### what is wrapped is peeled -/
section
variable {s s' next due : Int} {inner tail : List Int}
theorem lay_get4 : get4 (layB (powP 7 s.toNat) s' next due inner ++ tail) = powP 7 s'.toNat := by
  have := powP_rg 7 s'.toNat
  unfold layB
  rw [List.append_assoc, get4_app _ _ (four_len _), get4_four (by omega)]
theorem lay_S : peelS s (layB (powP 7 s.toNat) s' next due inner ++ tail) = powP (powP 7 s.toNat) s'.toNat := by
  unfold peelS; rw [lay_get4, powP_comm]
theorem lay_K : peelK s (layB (powP 7 s.toNat) s' next due inner ++ tail) = keyP (powP (powP 7 s.toNat) s'.toNat) 5 := by
  unfold peelK; rw [lay_S]
theorem lay_drop4 : (layB (powP 7 s.toNat) s' next due inner ++ tail).drop 4 = sealL (keyP (powP (powP 7 s.toNat) s'.toNat) 5) (headL next due inner.length ++ inner) ++ tail := by
  unfold layB; rw [List.append_assoc]; exact List.drop_left' (four_len _)
theorem lay_drop8 : (layB (powP 7 s.toNat) s' next due inner ++ tail).drop 8 = xorl (keyP (keyP (powP (powP 7 s.toNat) s'.toNat) 5) 1) (headL next due inner.length ++ inner) ++ tail := by
  rw [show (8 : Nat) = 4 + 4 from rfl, ← List.drop_drop, lay_drop4]
  unfold sealL
  rw [List.append_assoc]
  exact List.drop_left' (four_len _)
theorem lay_H (hb : Bytes (headL next due inner.length ++ inner)) : (peelH s (layB (powP 7 s.toNat) s' next due inner ++ tail)).getD 3 0 = (inner.length : Int) := by
  unfold peelH
  rw [lay_K, lay_drop8]
  generalize keyP (keyP (powP (powP 7 s.toNat) s'.toNat) 5) 1 = k
  have hl : (xorl k (headL next due inner.length ++ inner)).length = 4 + inner.length := by rw [xorl_len, List.length_append, headL_len]
  rw [List.take_append_of_le_length (by omega)]
  unfold xorl at hl ⊢
  rw [xorn_at (by rw [List.length_take]; omega), getD_take (by omega), xorn_at (by rw [List.length_append, headL_len]; omega), xor_xor (hb.at_ 3) (strB_rg _ _), getD_app_l (by rw [headL_len]; omega)]
  rfl
theorem lay_N (hb : Bytes (headL next due inner.length ++ inner)) : peelN s (layB (powP 7 s.toNat) s' next due inner ++ tail) = inner.length := by
  unfold peelN; rw [lay_H hb]; omega
theorem lay_B (hb : Bytes (headL next due inner.length ++ inner)) : peelB s (layB (powP 7 s.toNat) s' next due inner ++ tail) = sealL (keyP (powP (powP 7 s.toNat) s'.toNat) 5) (headL next due inner.length ++ inner) := by
  unfold peelB
  rw [lay_N hb, lay_drop4]
  refine List.take_left' ?_
  rw [sealL_len, List.length_append, headL_len]; omega
theorem lay_X (hb : Bytes (headL next due inner.length ++ inner)) : peelX s (layB (powP 7 s.toNat) s' next due inner ++ tail) = headL next due inner.length ++ inner := by
  unfold peelX
  rw [lay_K, lay_B hb]
  exact (open_seal hb).2
theorem lay_peels (hp : Pub (powP 7 s'.toNat)) (hb : Bytes (headL next due inner.length ++ inner)) (hl : inner.length ≤ 68) (hok : LayOk next inner.length) : peels s (layB (powP 7 s.toNat) s' next due inner ++ tail) := by
  refine ⟨?_, ?_, ?_, ?_⟩
  · rw [lay_get4]; exact hp
  · rw [lay_N hb]; exact hl
  · rw [lay_K, lay_B hb]; exact (open_seal hb).1
  · rw [lay_X hb, lay_N hb]; exact hok
theorem lay_V (hb : Bytes (headL next due inner.length ++ inner)) (pad : List Int) : peelV s (layB (powP 7 s.toNat) s' next due inner ++ tail) pad =
    { next := next, due := due, tag := keyP (powP (powP 7 s.toNat) s'.toNat) 9, load := if next = 255 then inner else [], cell := if next = 255 then [] else padL inner pad } := by
  unfold peelV
  rw [lay_X hb, lay_S]
  show Pel.mk next (due / 256 * 256 + due % 256) _ (if next = 255 then inner else []) (if next = 255 then [] else padL inner pad) = _
  rw [show due / 256 * 256 + due % 256 = due by omega]
end
end Go.Proofs.YtcljjdmfnniobaaGreat
