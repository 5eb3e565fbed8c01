/-
  Plain words for the draws and the orders of chapter 2. Nothing of the program is imported.
-/
import Derived.Test.YtjehcmmbbjidkaaCip
namespace Go.Proofs.Ytjehcmmbbjidkaa

/-! ### a drawn number -/
def bel (m n : Int) : List Int → Nat → Int × Nat
  | [], i => (-1, i)
  | x :: r, i => if x < m then (x % n, i + 1) else bel m n r (i + 1)
theorem bel_shift (m n : Int) : ∀ (l : List Int) (i c : Nat), bel m n l (i + c) = ((bel m n l i).1, (bel m n l i).2 + c)
  | [], _, _ => rfl
  | x :: r, i, c => by
    unfold bel
    by_cases h : x < m
    · rw [if_pos h, if_pos h]; simp only [Prod.mk.injEq, true_and]; omega
    · rw [if_neg h, if_neg h, show i + c + 1 = (i + 1) + c from by omega]; exact bel_shift m n r (i + 1) c
/-- The number below n that the draws d give from place i on, and the place behind. -/
def belP (d : List Int) (i : Nat) (n : Int) : Int × Nat := bel (256 - 256 % n) n (d.drop i) i
theorem belP_end {d : List Int} {i : Nat} {n : Int} (h : d.length ≤ i) : belP d i n = (-1, i) := by
  unfold belP; rw [List.drop_of_length_le h]; rfl
theorem belP_hit {d : List Int} {i : Nat} {n : Int} (h : i < d.length) (h' : d.getD i 0 < 256 - 256 % n) : belP d i n = (d.getD i 0 % n, i + 1) := by
  unfold belP; rw [List.drop_eq_getElem_cons h]; unfold bel; rw [getD_lt h] at h'; rw [if_pos h', getD_lt h]
theorem belP_miss {d : List Int} {i : Nat} {n : Int} (h : i < d.length) (h' : ¬ d.getD i 0 < 256 - 256 % n) : belP d i n = belP d (i + 1) n := by
  unfold belP; rw [List.drop_eq_getElem_cons h]; rw [getD_lt h] at h'
  show (if _ then _ else _) = _
  rw [if_neg h']
theorem belP_shift (d : List Int) (i : Nat) (n : Int) : belP d i n = ((belP (d.drop i) 0 n).1, (belP (d.drop i) 0 n).2 + i) := by
  unfold belP
  have := bel_shift (256 - 256 % n) n (d.drop i) 0 i
  rw [Nat.zero_add] at this
  rw [this, List.drop_zero]
/-- Either there is one, below n, behind at least one draw; or all draws are used up. -/
theorem belP_is {d : List Int} {n : Int} (hn : 1 ≤ n) (hd : Bytes d) : ∀ (m i : Nat), i ≤ d.length → d.length - i = m →
    ((belP d i n).1 = -1 ∧ (belP d i n).2 = d.length) ∨ (0 ≤ (belP d i n).1 ∧ (belP d i n).1 < n ∧ i < (belP d i n).2 ∧ (belP d i n).2 ≤ d.length)
  | 0, i, hi, hm => by rw [belP_end (by omega)]; exact .inl ⟨rfl, by simp; omega⟩
  | m + 1, i, hi, hm => by
    by_cases h' : d.getD i 0 < 256 - 256 % n
    · rw [belP_hit (by omega) h']
      have := hd.at_ i
      exact .inr ⟨Int.emod_nonneg _ (by omega), Int.emod_lt_of_pos _ (by omega), by simp, by simp; omega⟩
    · rw [belP_miss (by omega) h']
      rcases belP_is hn hd m (i + 1) (by omega) (by omega) with h | h
      · exact .inl h
      · exact .inr ⟨h.1, h.2.1, by omega, h.2.2.2⟩
theorem belP_or {d : List Int} {n : Int} {i : Nat} (hn : 1 ≤ n) (hd : Bytes d) (hi : i ≤ d.length) :
    ((belP d i n).1 = -1 ∧ (belP d i n).2 = d.length) ∨ (0 ≤ (belP d i n).1 ∧ (belP d i n).1 < n ∧ i < (belP d i n).2 ∧ (belP d i n).2 ≤ d.length) := belP_is hn hd _ i hi rfl
/-- Draws behind those that were taken play no part. -/
theorem belP_tail {d s : List Int} {n : Int} (hn : 1 ≤ n) (hd : Bytes d) {v : Nat} (hv : v ≤ d.length) : ∀ (m i : Nat), i ≤ d.length → d.length - i = m → 0 ≤ (belP d i n).1 → (belP d i n).2 ≤ v →
    belP (d.take v ++ s) i n = belP d i n
  | 0, i, hi, hm, h0, _ => by rw [belP_end (by omega)] at h0; exact absurd h0 (by simp)
  | m + 1, i, hi, hm, h0, hle => by
    have hr : i < (belP d i n).2 := by
      rcases belP_or hn hd hi with h | h
      · omega
      · exact h.2.2.1
    have hlen : (d.take v).length = v := by rw [List.length_take]; omega
    have hiv : i < (d.take v ++ s).length := by rw [List.length_append]; omega
    have hg : (d.take v ++ s).getD i 0 = d.getD i 0 := by rw [getD_app_l (by omega), getD_take (by omega)]
    by_cases h' : d.getD i 0 < 256 - 256 % n
    · rw [belP_hit (by omega) h', belP_hit hiv (by rw [hg]; exact h'), hg]
    · rw [belP_miss (by omega) h'] at h0 hle ⊢
      rw [belP_miss hiv (by rw [hg]; exact h')]
      exact belP_tail hn hd hv m (i + 1) (by omega) (by omega) h0 hle
def fbel (d : List Int) (n : Int) : Int × Nat := if 1 ≤ n ∧ n ≤ 256 then belP d 0 n else (-1, 0)
theorem fbel_t {d : List Int} {n : Int} (h : 1 ≤ n ∧ n ≤ 256) : fbel d n = belP d 0 n := if_pos h
theorem fbel_f {d : List Int} {n : Int} (h : ¬ (1 ≤ n ∧ n ≤ 256)) : fbel d n = (-1, 0) := if_neg h

/-! ### a drawn order -/
def iota (n : Nat) : List Int := (List.range n).map fun i : Nat => (i : Int)
theorem iota_len (n : Nat) : (iota n).length = n := by simp [iota]
theorem iota_zero : iota 0 = [] := rfl
theorem iota_snoc (n : Nat) : iota (n + 1) = iota n ++ [(n : Int)] := by simp [iota, List.range_succ]
theorem iota_at {n i : Nat} (h : i < n) : (iota n).getD i 0 = i := by
  rw [List.getD_eq_getElem?_getD, iota, List.getElem?_map, List.getElem?_range h]; rfl
theorem mem_iota {n : Nat} {x : Int} : x ∈ iota n ↔ 0 ≤ x ∧ x < n := by
  simp only [iota, List.mem_map, List.mem_range]
  constructor
  · rintro ⟨i, hi, rfl⟩; omega
  · intro h; exact ⟨x.toNat, by omega, by omega⟩
theorem iota_nodup (n : Nat) : (iota n).Nodup := by
  unfold iota
  exact List.Pairwise.map _ (fun a b h => by intro e; apply h; omega) (List.nodup_range (n := n))
def swp (l : List Int) (i j : Nat) : List Int := (l.set i (l.getD j 0)).set j (l.getD i 0)
theorem swp_len (l : List Int) (i j : Nat) : (swp l i j).length = l.length := by simp [swp]
theorem swp_perm {l : List Int} {i j : Nat} (hi : i < l.length) (hj : j < l.length) : (swp l i j).Perm l := by
  have h := Array.swap_perm (xs := l.toArray) (i := i) (j := j) (by simpa using hi) (by simpa using hj)
  have e : (l.toArray.swap i j (by simpa using hi) (by simpa using hj)).toList = swp l i j := by
    rw [Array.toList_swap]
    unfold swp
    rw [getD_lt hi, getD_lt hj]
    rfl
  have h2 := h.toList
  rw [e] at h2
  exact h2
def shuf (d : List Int) : Nat → List Int → Nat → Option (List Int × Nat)
  | 0, l, u => some (l, u)
  | i + 1, l, u => if (belP d u ((i : Int) + 2)).1 < 0 then none else shuf d i (swp l (i + 1) (belP d u ((i : Int) + 2)).1.toNat) (belP d u ((i : Int) + 2)).2
theorem shuf_zero (d l : List Int) (u : Nat) : shuf d 0 l u = some (l, u) := rfl
theorem shuf_no {d l : List Int} {i u : Nat} (h : (belP d u ((i : Int) + 2)).1 < 0) : shuf d (i + 1) l u = none := if_pos h
theorem shuf_yes {d l : List Int} {i u : Nat} (h : ¬ (belP d u ((i : Int) + 2)).1 < 0) :
    shuf d (i + 1) l u = shuf d i (swp l (i + 1) (belP d u ((i : Int) + 2)).1.toNat) (belP d u ((i : Int) + 2)).2 := if_neg h
def fshuf (d : List Int) (n : Int) : Option (List Int × Nat) := if 0 ≤ n ∧ n ≤ 64 then shuf d (n.toNat - 1) (iota n.toNat) 0 else none
theorem fshuf_t {d : List Int} {n : Int} (h : 0 ≤ n ∧ n ≤ 64) : fshuf d n = shuf d (n.toNat - 1) (iota n.toNat) 0 := if_pos h
theorem fshuf_f {d : List Int} {n : Int} (h : ¬ (0 ≤ n ∧ n ≤ 64)) : fshuf d n = none := if_neg h
/-- What a drawn order is: the elements of l, once each; so many draws are used. -/
theorem shuf_is {d : List Int} (hd : Bytes d) : ∀ {i : Nat} {l l' : List Int} {u u' : Nat}, i < l.length ∨ i = 0 → u ≤ d.length → shuf d i l u = some (l', u') → l'.Perm l ∧ u + i ≤ u' ∧ u' ≤ d.length
  | 0, l, l', u, u', _, hu, h => by
    rw [shuf_zero] at h; injection h with h; injection h with h1 h2; subst h1 h2
    exact ⟨List.Perm.refl _, by omega, hu⟩
  | i + 1, l, l', u, u', hi, hu, h => by
    by_cases hb : (belP d u ((i : Int) + 2)).1 < 0
    · rw [shuf_no hb] at h; cases h
    · rw [shuf_yes hb] at h
      rcases belP_or (n := (i : Int) + 2) (by omega) hd hu with h1 | h1
      · omega
      · obtain ⟨h2, h3, h4, h5⟩ := h1
        have hil : i + 1 < l.length := by omega
        obtain ⟨p1, p2, p3⟩ := shuf_is hd (i := i) (.inl (by rw [swp_len]; omega)) h5 h
        exact ⟨p1.trans (swp_perm hil (by omega)), by omega, p3⟩
theorem shuf_tail {d s : List Int} (hd : Bytes d) {v : Nat} (hv : v ≤ d.length) : ∀ {i : Nat} {l l' : List Int} {u u' : Nat}, i < l.length ∨ i = 0 → u ≤ d.length → shuf d i l u = some (l', u') → u' ≤ v → shuf (d.take v ++ s) i l u = some (l', u')
  | 0, l, l', u, u', _, _, h, _ => h
  | i + 1, l, l', u, u', hi, hu, h, hle => by
    by_cases hb : (belP d u ((i : Int) + 2)).1 < 0
    · rw [shuf_no hb] at h; cases h
    · rw [shuf_yes hb] at h
      have hil : i + 1 < l.length := by omega
      rcases belP_or (n := (i : Int) + 2) (by omega) hd hu with h1 | h1
      · omega
      · obtain ⟨h2, h3, h4, h5⟩ := h1
        have h6 := (shuf_is hd (i := i) (.inl (by rw [swp_len]; omega)) h5 h).2.1
        have hb2 := belP_tail (s := s) (n := (i : Int) + 2) (by omega) hd hv _ u hu rfl (by omega) (by omega)
        rw [shuf_yes (by rw [hb2]; exact hb), hb2]
        exact shuf_tail hd hv (.inl (by rw [swp_len]; omega)) h5 h hle

/-! ### is it an order? -/
def Ord (l : List Int) : Prop := l.length ≤ 64 ∧ (∀ x ∈ l, 0 ≤ x ∧ x < l.length) ∧ l.Nodup
instance (l : List Int) : Decidable (Ord l) := by unfold Ord; infer_instance
theorem ord_iota {n : Nat} (h : n ≤ 64) : Ord (iota n) := ⟨by rw [iota_len]; exact h, fun x hx => by rw [iota_len]; exact mem_iota.1 hx, iota_nodup n⟩
theorem Ord.perm {l l' : List Int} (h : Ord l) (p : l'.Perm l) : Ord l' :=
  ⟨by rw [p.length_eq]; exact h.1, fun x hx => by rw [p.length_eq]; exact h.2.1 x (p.mem_iff.1 hx), p.nodup_iff.2 h.2.2⟩
theorem full {l : List Int} {n : Nat} (hl : l.length = n) (hr : ∀ x ∈ l, 0 ≤ x ∧ x < n) (hd : l.Nodup) : ∀ x : Int, 0 ≤ x → x < n → x ∈ l := by
  intro x h0 h1
  apply Classical.byContradiction
  intro hx
  have hs : l ⊆ (iota n).erase x := by
    intro y hy
    rw [List.Nodup.mem_erase_iff (iota_nodup n)]
    exact ⟨fun e => hx (e ▸ hy), mem_iota.2 (hr y hy)⟩
  have hle := List.Nodup.length_le_of_subset hd hs
  rw [List.length_erase_of_mem (mem_iota.2 ⟨h0, h1⟩), iota_len] at hle
  omega
theorem Ord.iota {l : List Int} (h : Ord l) : l.Perm (iota l.length) := by
  rw [List.perm_ext_iff_of_nodup h.2.2 (iota_nodup _)]
  intro x
  rw [mem_iota]
  exact ⟨h.2.1 x, fun hx => full rfl h.2.1 h.2.2 x hx.1 hx.2⟩
/-- Counting: an order has each of its places once, and nothing else. -/
theorem ord_count {l : List Int} (hl : l.length ≤ 64) (hr : ∀ x ∈ l, 0 ≤ x ∧ x < l.length) :
    Ord l ↔ ∀ v : Nat, v < 64 → l.count (v : Int) = if v < l.length then 1 else 0 := by
  constructor
  · intro h v hv
    by_cases hvl : v < l.length
    · rw [if_pos hvl, List.Nodup.count h.2.2, if_pos (full rfl hr h.2.2 v (by omega) (by omega))]
    · rw [if_neg hvl]
      exact List.count_eq_zero.2 fun hm => hvl (by have := (hr _ hm).2; omega)
  · intro h
    refine ⟨hl, hr, ?_⟩
    rw [List.nodup_iff_count]
    intro a
    by_cases ha : a ∈ l
    · have h1 := hr a ha
      have h2 := h a.toNat (by omega)
      rw [show ((a.toNat : Nat) : Int) = a from by omega, if_pos (by omega)] at h2
      omega
    · rw [List.count_eq_zero.2 ha]; omega
def reor (b o : List Int) : List Int := o.map fun i => b.getD i.toNat 0
theorem reor_len (b o : List Int) : (reor b o).length = o.length := by simp [reor]
theorem reor_bytes {b : List Int} (h : Bytes b) (o : List Int) : Bytes (reor b o) := by
  intro x hx
  simp only [reor, List.mem_map] at hx
  obtain ⟨i, _, rfl⟩ := hx
  exact h.at_ _
theorem reor_at {b o : List Int} {i : Nat} (h : i < o.length) : (reor b o).getD i 0 = b.getD (o.getD i 0).toNat 0 := by
  rw [List.getD_eq_getElem?_getD, reor, List.getElem?_map, List.getElem?_eq_getElem h, getD_lt h]; rfl
theorem reor_iota (b : List Int) : reor b (Go.Proofs.Ytjehcmmbbjidkaa.iota b.length) = b := by
  apply ext_getD (by rw [reor_len, iota_len])
  intro i hi
  rw [reor_len, iota_len] at hi
  rw [reor_at (by rw [iota_len]; exact hi), iota_at hi]
  rfl
/-- Bytes in another order are the same bytes. -/
theorem reor_perm {b o : List Int} (h : Ord o) (hl : b.length = o.length) : (reor b o).Perm b := by
  have := (h.iota).map fun i => b.getD i.toNat 0
  have e := reor_iota b
  rw [hl] at e
  unfold reor at e ⊢
  rwa [e] at this
def ordB (l : List Int) : Bool := decide (Ord l)
theorem ordB_t {l : List Int} (h : Ord l) : ordB l = true := decide_eq_true h
theorem ordB_f {l : List Int} (h : ¬ Ord l) : ordB l = false := decide_eq_false h
theorem ordB_iff {l : List Int} : ordB l = true ↔ Ord l := decide_eq_true_iff
theorem not_ord_at {l : List Int} {k : Nat} (hk : k < l.length) (h : ¬ (0 ≤ l.getD k 0 ∧ l.getD k 0 < l.length)) : ¬ Ord l := fun ho => by
  rw [getD_lt hk] at h
  exact h (ho.2.1 _ (List.getElem_mem _))
theorem not_ord_twice {l : List Int} {k : Nat} (hk : k < l.length) (h : l.getD k 0 ∈ l.take k) : ¬ Ord l := fun ho => by
  have h2 := ho.2.2
  rw [← List.take_append_drop k l, List.drop_eq_getElem_cons hk, List.nodup_append] at h2
  rw [getD_lt hk] at h
  exact h2.2.2 _ h _ (List.mem_cons_self) rfl
theorem take_snoc {l : List Int} {k : Nat} (hk : k < l.length) : l.take (k + 1) = l.take k ++ [l.getD k 0] := by
  rw [List.take_succ_eq_append_getElem hk, getD_lt hk]
theorem nodup_snoc {l : List Int} {k : Nat} (hk : k < l.length) (hd : (l.take k).Nodup) (h : l.getD k 0 ∉ l.take k) : (l.take (k + 1)).Nodup := by
  rw [take_snoc hk, List.nodup_append]
  refine ⟨hd, by simp, fun a ha b hb e => ?_⟩
  rw [List.mem_singleton] at hb
  subst hb e
  exact h ha
theorem range_snoc {l : List Int} {k n : Nat} (hk : k < l.length) (hr : ∀ x ∈ l.take k, 0 ≤ x ∧ x < n) (h : 0 ≤ l.getD k 0 ∧ l.getD k 0 < n) : ∀ x ∈ l.take (k + 1), 0 ≤ x ∧ x < n := by
  rw [take_snoc hk]
  intro x hx
  rcases List.mem_append.1 hx with h' | h'
  · exact hr x h'
  · rw [List.mem_singleton] at h'; subst h'; exact h
def shufL (d : List Int) (n : Int) : List Int := match fshuf d n with | some (l, _) => l | none => []
def shufU (d : List Int) (n : Int) : Int := match fshuf d n with | some (_, u) => u | none => -1
theorem shufL_t {d L : List Int} {n : Int} {U : Nat} (h : fshuf d n = some (L, U)) : shufL d n = L := by unfold shufL; rw [h]
theorem shufU_t {d L : List Int} {n : Int} {U : Nat} (h : fshuf d n = some (L, U)) : shufU d n = U := by unfold shufU; rw [h]
theorem shufL_f {d : List Int} {n : Int} (h : fshuf d n = none) : shufL d n = [] := by unfold shufL; rw [h]
theorem shufU_f {d : List Int} {n : Int} (h : fshuf d n = none) : shufU d n = -1 := by unfold shufU; rw [h]
theorem shuf_all {d L : List Int} {n : Nat} {U : Nat} (hd : Bytes d) (h : shuf d (n - 1) (iota n) 0 = some (L, U)) : L.Perm (iota n) ∧ n - 1 ≤ U ∧ U ≤ d.length := by
  have := shuf_is hd (i := n - 1) (l := iota n) (by rw [iota_len]; omega) (by omega) h
  rw [Nat.zero_add] at this
  exact this
theorem shufL_le (d : List Int) (n : Int) (hd : Bytes d) : (shufL d n).length ≤ 64 := by
  unfold shufL
  cases h : fshuf d n with
  | none => simp
  | some p =>
    obtain ⟨L, U⟩ := p
    by_cases hn : 0 ≤ n ∧ n ≤ 64
    · rw [fshuf_t hn] at h
      have := (shuf_all hd h).1.length_eq
      rw [iota_len] at this
      show L.length ≤ 64
      omega
    · rw [fshuf_f hn] at h; cases h
def freor (b o : List Int) : List Int × Bool := if b.length = o.length ∧ ordB o = true then (reor b o, true) else ([], false)
theorem freor_t {b o : List Int} (h : b.length = o.length) (h' : Ord o) : freor b o = (reor b o, true) := if_pos ⟨h, ordB_t h'⟩
theorem freor_l {b o : List Int} (h : ¬ b.length = o.length) : freor b o = ([], false) := if_neg fun x => h x.1
theorem freor_r {b o : List Int} (h : ¬ Ord o) : freor b o = ([], false) := if_neg fun x => h (ordB_iff.1 x.2)
theorem freor_le (b o : List Int) : (freor b o).1.length ≤ 64 := by
  unfold freor
  split
  · rename_i h
    show (reor b o).length ≤ 64
    rw [reor_len]; exact (ordB_iff.1 h.2).1
  · simp
theorem reor_snoc {b o : List Int} {k : Nat} (hk : k < o.length) : reor b (o.take (k + 1)) = reor b (o.take k) ++ [b.getD (o.getD k 0).toNat 0] := by
  rw [take_snoc hk]; simp [reor]
theorem ord_at {o : List Int} (h : Ord o) {k : Nat} (hk : k < o.length) : ∃ x : Nat, o.getD k 0 = x ∧ x < o.length := by
  have := h.2.1 _ (List.getElem_mem hk)
  refine ⟨o[k].toNat, ?_, by omega⟩
  rw [getD_lt hk]; omega
def fneed (n : Int) : Int := if 0 ≤ n ∧ n ≤ 64 then (if n = 0 then 0 else n - 1) else -1
end Go.Proofs.Ytjehcmmbbjidkaa
