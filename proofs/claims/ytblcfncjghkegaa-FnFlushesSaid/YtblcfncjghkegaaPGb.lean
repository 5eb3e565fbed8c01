/-
  Cip, Ord, Onion: texts joined.
-/
import Derived.Test.YtblcfncjghkegaaPGa
import Derived.Laws.BitsAllLaws
namespace Go.Proofs.Ytblcfncjghkegaa
open Fld

/-! ### bytes -/
def Bytes (l : List Int) : Prop := ∀ x ∈ l, 0 ≤ x ∧ x < 256
theorem Bytes.at_ {l : List Int} (h : Bytes l) (i : Nat) : 0 ≤ l.getD i 0 ∧ l.getD i 0 < 256 := by
  rw [List.getD_eq_getElem?_getD]
  by_cases hi : i < l.length
  · rw [List.getElem?_eq_getElem hi, Option.getD_some]; exact h _ (List.getElem_mem _)
  · rw [List.getElem?_eq_none (by omega)]; exact ⟨Int.le_refl _, by decide⟩
theorem Bytes.take {l : List Int} (h : Bytes l) (n : Nat) : Bytes (l.take n) := fun x hx => h x (List.mem_of_mem_take hx)
theorem Bytes.drop {l : List Int} (h : Bytes l) (n : Nat) : Bytes (l.drop n) := fun x hx => h x (List.mem_of_mem_drop hx)
theorem Bytes.app {l r : List Int} (h : Bytes l) (h' : Bytes r) : Bytes (l ++ r) := fun x hx => (List.mem_append.1 hx).elim (h x) (h' x)
theorem Bytes.set {l : List Int} (h : Bytes l) (i : Nat) {x : Int} (hx : 0 ≤ x ∧ x < 256) : Bytes (l.set i x) := fun y hy => by
  rcases List.mem_or_eq_of_mem_set hy with h' | rfl
  · exact h y h'
  · exact hx
theorem getD_lt {l : List Int} {i : Nat} (h : i < l.length) : l.getD i 0 = l[i] := by rw [List.getD_eq_getElem?_getD, List.getElem?_eq_getElem h]; rfl
theorem getD_drop (l : List Int) (n i : Nat) : (l.drop n).getD i 0 = l.getD (n + i) 0 := by
  rw [List.getD_eq_getElem?_getD, List.getElem?_drop, List.getD_eq_getElem?_getD]
theorem ext_getD {l r : List Int} (hl : l.length = r.length) (h : ∀ i, i < l.length → l.getD i 0 = r.getD i 0) : l = r := by
  apply List.ext_getElem hl
  intro i h1 h2
  rw [← getD_lt h1, ← getD_lt h2]; exact h i h1
/-! ### the key stream -/
def strY (k i : Int) : Int := mulP ((mulP ((k + i * 7919 + 3) % 2147483647) 48271 + k + i + 1) % 2147483647) 16807
def strB (k i : Int) : Int := strY k i / 256 % 256
/-- The first j bytes of l, turned. -/
def xorn (k : Int) (l : List Int) (j : Nat) : List Int := (List.range j).map fun i : Nat => bits .xor .u8 (l.getD i 0) (strB k i)
def xorl (k : Int) (l : List Int) : List Int := xorn k l l.length
/-! ### the code -/
def macR (k : Int) : Int := 1 + keyP k 71 % 2147483646
/-- What the code is when j bytes are over. -/
def macN (r n : Int) (l : List Int) (j : Nat) : Int := (l.take j).foldl (fun n b => addP (addP (mulP n r) b) 1) n
def macV (k : Int) (l : List Int) : Int := macN (macR k) (l.length + 1) l l.length
def mac (k : Int) (l : List Int) : Int := addP (mulP (macV k l) (macR k)) (keyP k 72)
/-! ### sealing -/
def four (n : Int) : List Int := [n / 16777216 % 256, n / 65536 % 256, n / 256 % 256, n % 256]
def get4 (l : List Int) : Int := l.getD 0 0 * 16777216 + l.getD 1 0 * 65536 + l.getD 2 0 * 256 + l.getD 3 0
theorem four_len (n : Int) : (four n).length = 4 := rfl
theorem four_bytes (n : Int) : Bytes (four n) := by
  intro x hx
  simp only [four, List.mem_cons, List.not_mem_nil, or_false] at hx
  omega
/-- What l opens to, if it does. -/
def openL (k : Int) (l : List Int) : List Int := xorl (keyP k 1) (l.drop 4)
def opens (k : Int) (l : List Int) : Prop := 4 ≤ l.length ∧ get4 l = mac (keyP k 2) (l.drop 4)
instance (k : Int) (l : List Int) : Decidable (opens k l) := by unfold opens; infer_instance
end Go.Proofs.Ytblcfncjghkegaa
namespace Go.Proofs.Ytblcfncjghkegaa

/-! ### a drawn number -/
def bel (m n : Int) : List Int → Nat → Int × Nat
  | [], i => (-1, i)
  | x :: r, i => if x < m then (x % n, i + 1) else bel m n r (i + 1)
theorem bel_shift (m n : Int) : ∀ (l : List Int) (i c : Nat), bel m n l (i + c) = ((bel m n l i).1, (bel m n l i).2 + c)
  | [], _, _ => rfl
  | x :: r, i, c => by
    unfold bel
    by_cases h : x < m
    · rw [if_pos h, if_pos h]; simp only [Prod.mk.injEq, true_and]; omega
    · rw [if_neg h, if_neg h, show i + c + 1 = (i + 1) + c from by omega]; exact bel_shift m n r (i + 1) c
/-- The number below n that the draws d give from place i on, and the place behind. -/
def belP (d : List Int) (i : Nat) (n : Int) : Int × Nat := bel (256 - 256 % n) n (d.drop i) i
theorem belP_end {d : List Int} {i : Nat} {n : Int} (h : d.length ≤ i) : belP d i n = (-1, i) := by
  unfold belP; rw [List.drop_of_length_le h]; rfl
theorem belP_hit {d : List Int} {i : Nat} {n : Int} (h : i < d.length) (h' : d.getD i 0 < 256 - 256 % n) : belP d i n = (d.getD i 0 % n, i + 1) := by
  unfold belP; rw [List.drop_eq_getElem_cons h]; unfold bel; rw [getD_lt h] at h'; rw [if_pos h', getD_lt h]
theorem belP_miss {d : List Int} {i : Nat} {n : Int} (h : i < d.length) (h' : ¬ d.getD i 0 < 256 - 256 % n) : belP d i n = belP d (i + 1) n := by
  unfold belP; rw [List.drop_eq_getElem_cons h]; rw [getD_lt h] at h'
  show (if _ then _ else _) = _
  rw [if_neg h']
theorem belP_shift (d : List Int) (i : Nat) (n : Int) : belP d i n = ((belP (d.drop i) 0 n).1, (belP (d.drop i) 0 n).2 + i) := by
  unfold belP
  have := bel_shift (256 - 256 % n) n (d.drop i) 0 i
  rw [Nat.zero_add] at this
  rw [this, List.drop_zero]
/-- Either there is one, below n, behind at least one draw; or all draws are used up. -/
theorem belP_is {d : List Int} {n : Int} (hn : 1 ≤ n) (hd : Bytes d) : ∀ (m i : Nat), i ≤ d.length → d.length - i = m →
    ((belP d i n).1 = -1 ∧ (belP d i n).2 = d.length) ∨ (0 ≤ (belP d i n).1 ∧ (belP d i n).1 < n ∧ i < (belP d i n).2 ∧ (belP d i n).2 ≤ d.length)
  | 0, i, hi, hm => by rw [belP_end (by omega)]; exact .inl ⟨rfl, by simp; omega⟩
  | m + 1, i, hi, hm => by
    by_cases h' : d.getD i 0 < 256 - 256 % n
    · rw [belP_hit (by omega) h']
      have := hd.at_ i
      exact .inr ⟨Int.emod_nonneg _ (by omega), Int.emod_lt_of_pos _ (by omega), by simp, by simp; omega⟩
    · rw [belP_miss (by omega) h']
      rcases belP_is hn hd m (i + 1) (by omega) (by omega) with h | h
      · exact .inl h
      · exact .inr ⟨h.1, h.2.1, by omega, h.2.2.2⟩
theorem belP_or {d : List Int} {n : Int} {i : Nat} (hn : 1 ≤ n) (hd : Bytes d) (hi : i ≤ d.length) :
    ((belP d i n).1 = -1 ∧ (belP d i n).2 = d.length) ∨ (0 ≤ (belP d i n).1 ∧ (belP d i n).1 < n ∧ i < (belP d i n).2 ∧ (belP d i n).2 ≤ d.length) := belP_is hn hd _ i hi rfl
def fbel (d : List Int) (n : Int) : Int × Nat := if 1 ≤ n ∧ n ≤ 256 then belP d 0 n else (-1, 0)
theorem fbel_t {d : List Int} {n : Int} (h : 1 ≤ n ∧ n ≤ 256) : fbel d n = belP d 0 n := if_pos h
theorem fbel_f {d : List Int} {n : Int} (h : ¬ (1 ≤ n ∧ n ≤ 256)) : fbel d n = (-1, 0) := if_neg h

/-! ### a drawn order -/
def iota (n : Nat) : List Int := (List.range n).map fun i : Nat => (i : Int)
theorem iota_len (n : Nat) : (iota n).length = n := by simp [iota]
theorem iota_zero : iota 0 = [] := rfl
theorem iota_at {n i : Nat} (h : i < n) : (iota n).getD i 0 = i := by
  rw [List.getD_eq_getElem?_getD, iota, List.getElem?_map, List.getElem?_range h]; rfl
theorem mem_iota {n : Nat} {x : Int} : x ∈ iota n ↔ 0 ≤ x ∧ x < n := by
  simp only [iota, List.mem_map, List.mem_range]
  constructor
  · rintro ⟨i, hi, rfl⟩; omega
  · intro h; exact ⟨x.toNat, by omega, by omega⟩
theorem iota_nodup (n : Nat) : (iota n).Nodup := by
  unfold iota
  exact List.Pairwise.map _ (fun a b h => by intro e; apply h; omega) (List.nodup_range (n := n))
def swp (l : List Int) (i j : Nat) : List Int := (l.set i (l.getD j 0)).set j (l.getD i 0)
theorem swp_len (l : List Int) (i j : Nat) : (swp l i j).length = l.length := by simp [swp]
theorem swp_perm {l : List Int} {i j : Nat} (hi : i < l.length) (hj : j < l.length) : (swp l i j).Perm l := by
  have h := Array.swap_perm (xs := l.toArray) (i := i) (j := j) (by simpa using hi) (by simpa using hj)
  have e : (l.toArray.swap i j (by simpa using hi) (by simpa using hj)).toList = swp l i j := by
    rw [Array.toList_swap]
    unfold swp
    rw [getD_lt hi, getD_lt hj]
    rfl
  have h2 := h.toList
  rw [e] at h2
  exact h2
def shuf (d : List Int) : Nat → List Int → Nat → Option (List Int × Nat)
  | 0, l, u => some (l, u)
  | i + 1, l, u => if (belP d u ((i : Int) + 2)).1 < 0 then none else shuf d i (swp l (i + 1) (belP d u ((i : Int) + 2)).1.toNat) (belP d u ((i : Int) + 2)).2
theorem shuf_zero (d l : List Int) (u : Nat) : shuf d 0 l u = some (l, u) := rfl
theorem shuf_no {d l : List Int} {i u : Nat} (h : (belP d u ((i : Int) + 2)).1 < 0) : shuf d (i + 1) l u = none := if_pos h
theorem shuf_yes {d l : List Int} {i u : Nat} (h : ¬ (belP d u ((i : Int) + 2)).1 < 0) :
    shuf d (i + 1) l u = shuf d i (swp l (i + 1) (belP d u ((i : Int) + 2)).1.toNat) (belP d u ((i : Int) + 2)).2 := if_neg h
def fshuf (d : List Int) (n : Int) : Option (List Int × Nat) := if 0 ≤ n ∧ n ≤ 64 then shuf d (n.toNat - 1) (iota n.toNat) 0 else none
theorem fshuf_t {d : List Int} {n : Int} (h : 0 ≤ n ∧ n ≤ 64) : fshuf d n = shuf d (n.toNat - 1) (iota n.toNat) 0 := if_pos h
/-- What a drawn order is: the elements of l, once each; so many draws are used. -/
theorem shuf_is {d : List Int} (hd : Bytes d) : ∀ {i : Nat} {l l' : List Int} {u u' : Nat}, i < l.length ∨ i = 0 → u ≤ d.length → shuf d i l u = some (l', u') → l'.Perm l ∧ u + i ≤ u' ∧ u' ≤ d.length
  | 0, l, l', u, u', _, hu, h => by
    rw [shuf_zero] at h; injection h with h; injection h with h1 h2; subst h1 h2
    exact ⟨List.Perm.refl _, by omega, hu⟩
  | i + 1, l, l', u, u', hi, hu, h => by
    by_cases hb : (belP d u ((i : Int) + 2)).1 < 0
    · rw [shuf_no hb] at h; cases h
    · rw [shuf_yes hb] at h
      rcases belP_or (n := (i : Int) + 2) (by omega) hd hu with h1 | h1
      · omega
      · obtain ⟨h2, h3, h4, h5⟩ := h1
        have hil : i + 1 < l.length := by omega
        obtain ⟨p1, p2, p3⟩ := shuf_is hd (i := i) (.inl (by rw [swp_len]; omega)) h5 h
        exact ⟨p1.trans (swp_perm hil (by omega)), by omega, p3⟩
/-! ### is it an order? -/
def Ord (l : List Int) : Prop := l.length ≤ 64 ∧ (∀ x ∈ l, 0 ≤ x ∧ x < l.length) ∧ l.Nodup
instance (l : List Int) : Decidable (Ord l) := by unfold Ord; infer_instance
theorem full {l : List Int} {n : Nat} (hl : l.length = n) (hr : ∀ x ∈ l, 0 ≤ x ∧ x < n) (hd : l.Nodup) : ∀ x : Int, 0 ≤ x → x < n → x ∈ l := by
  intro x h0 h1
  apply Classical.byContradiction
  intro hx
  have hs : l ⊆ (iota n).erase x := by
    intro y hy
    rw [List.Nodup.mem_erase_iff (iota_nodup n)]
    exact ⟨fun e => hx (e ▸ hy), mem_iota.2 (hr y hy)⟩
  have hle := List.Nodup.length_le_of_subset hd hs
  rw [List.length_erase_of_mem (mem_iota.2 ⟨h0, h1⟩), iota_len] at hle
  omega
theorem Ord.iota {l : List Int} (h : Ord l) : l.Perm (iota l.length) := by
  rw [List.perm_ext_iff_of_nodup h.2.2 (iota_nodup _)]
  intro x
  rw [mem_iota]
  exact ⟨h.2.1 x, fun hx => full rfl h.2.1 h.2.2 x hx.1 hx.2⟩
theorem take_snocI {l : List Int} {k : Nat} (hk : k < l.length) : l.take (k + 1) = l.take k ++ [l.getD k 0] := by
  rw [List.take_succ_eq_append_getElem hk, getD_lt hk]
def shufL (d : List Int) (n : Int) : List Int := match fshuf d n with | some (l, _) => l | none => []
def shufU (d : List Int) (n : Int) : Int := match fshuf d n with | some (_, u) => u | none => -1
theorem shufL_t {d L : List Int} {n : Int} {U : Nat} (h : fshuf d n = some (L, U)) : shufL d n = L := by unfold shufL; rw [h]
theorem shufU_t {d L : List Int} {n : Int} {U : Nat} (h : fshuf d n = some (L, U)) : shufU d n = U := by unfold shufU; rw [h]
theorem shufU_f {d : List Int} {n : Int} (h : fshuf d n = none) : shufU d n = -1 := by unfold shufU; rw [h]
theorem shuf_all {d L : List Int} {n : Nat} {U : Nat} (hd : Bytes d) (h : shuf d (n - 1) (iota n) 0 = some (L, U)) : L.Perm (iota n) ∧ n - 1 ≤ U ∧ U ≤ d.length := by
  have := shuf_is hd (i := n - 1) (l := iota n) (by rw [iota_len]; omega) (by omega) h
  rw [Nat.zero_add] at this
  exact this
end Go.Proofs.Ytblcfncjghkegaa
namespace Go.Proofs.Ytblcfncjghkegaa
open Fld

/-! ### routes, keys -/
def Node (n : Int) : Prop := 0 ≤ n ∧ n < 8
def Route (l : List Int) : Prop := (1 ≤ l.length ∧ l.length ≤ 4) ∧ (∀ x ∈ l, 0 ≤ x ∧ x < 8) ∧ ∀ i, i < l.length - 1 → l.getD i 0 ≠ l.getD (i + 1) 0
def Pubs (l : List Int) : Prop := l.length = 8 ∧ ∀ x ∈ l, 2 ≤ x ∧ x < 2147483646
def LaySec (x : Int) : Prop := (1 ≤ x ∧ x < 2147483646) ∧ (2 ≤ powP 7 x.toNat ∧ powP 7 x.toNat < 2147483646)
instance (x : Int) : Decidable (LaySec x) := by unfold LaySec; infer_instance
def Secs (l : List Int) : Prop := ∀ x ∈ l, LaySec x
instance (l : List Int) : Decidable (Route l) := by unfold Route; infer_instance
instance (l : List Int) : Decidable (Pubs l) := by unfold Pubs; infer_instance
instance (l : List Int) : Decidable (Secs l) := by unfold Secs; infer_instance
/-! ### sizes -/
/-! ### cells -/
def padL (b pad : List Int) : List Int := b ++ pad.take (80 - b.length)
theorem padL_len {b pad : List Int} (h : b.length ≤ 80) (h' : 80 ≤ pad.length) : (padL b pad).length = 80 := by
  unfold padL; rw [List.length_append, List.length_take]; omega
def fdum (pad : List Int) : List Int × Bool := if 80 ≤ pad.length then (padL [] pad, true) else ([], false)

/-! ### layers -/
def WrapOk (route pubs secrets : List Int) (due : Int) (load pad : List Int) : Prop :=
  Route route ∧ Pubs pubs ∧ secrets.length = route.length ∧ Secs secrets ∧ (0 ≤ due ∧ due ≤ 65535) ∧ load.length ≤ 24 ∧ 80 ≤ pad.length
instance (route pubs secrets : List Int) (due : Int) (load pad : List Int) : Decidable (WrapOk route pubs secrets due load pad) := by unfold WrapOk; infer_instance
/-! ### what is peeled -/
structure Pel where
  next : Int
  due : Int
  tag : Int
  load : List Int
  cell : List Int
def Pel.zero : Pel := ⟨0, 0, 0, [], []⟩
def peelS (s : Int) (c : List Int) : Int := powP (get4 c) s.toNat
def peelK (s : Int) (c : List Int) : Int := keyP (peelS s c) 5
/-- The four bytes ahead of the content. -/
def peelH (s : Int) (c : List Int) : List Int := xorl (keyP (peelK s c) 1) ((c.drop 8).take 4)
def peelN (s : Int) (c : List Int) : Nat := ((peelH s c).getD 3 0).toNat
/-- What is sealed. -/
def peelB (s : Int) (c : List Int) : List Int := (c.drop 4).take (8 + peelN s c)
def peelX (s : Int) (c : List Int) : List Int := openL (peelK s c) (peelB s c)
def LayOk (next : Int) (n : Nat) : Prop := (next = 255 ∧ n ≤ 24) ∨ (next < 8 ∧ 12 ≤ n)
instance (next : Int) (n : Nat) : Decidable (LayOk next n) := by unfold LayOk; infer_instance
def peels (s : Int) (c : List Int) : Prop := (2 ≤ get4 c ∧ get4 c < 2147483646) ∧ peelN s c ≤ 68 ∧ opens (peelK s c) (peelB s c) ∧ LayOk ((peelX s c).getD 0 0) (peelN s c)
instance (s : Int) (c : List Int) : Decidable (peels s c) := by unfold peels; infer_instance
def PeelOk (s : Int) (c pad : List Int) : Prop := ((1 ≤ s ∧ s < 2147483646) ∧ c.length = 80 ∧ 80 ≤ pad.length) ∧ peels s c
instance (s : Int) (c pad : List Int) : Decidable (PeelOk s c pad) := by unfold PeelOk; infer_instance
/-! ### what is wrapped is peeled -/
section
variable {s s' next due : Int} {inner tail : List Int}
end
end Go.Proofs.Ytblcfncjghkegaa
