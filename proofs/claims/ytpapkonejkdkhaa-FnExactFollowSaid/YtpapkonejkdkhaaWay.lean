/-
  Plain words for following a route: who can peel, who is reached, what comes out.
-/
import Derived.Test.YtpapkonejkdkhaaPeel
namespace Go.Proofs.Ytpapkonejkdkhaa
open Fld

/-! ### peeling a cell that is one -/
theorem ppeel_cell {s : Int} {c pad : List Int} (hc : c.length = 80) (hp : 80 ≤ pad.length) (h : (ppeel s c pad).2 = true) (h1 : (ppeel s c pad).1.next ≠ 255) : (ppeel s c pad).1.cell.length = 80 := by
  by_cases hpe : peels s c
  · rw [ppeel_t hpe] at h1 ⊢
    show (peelV s c pad).cell.length = 80
    have h1' : ¬ (peelX s c).getD 0 0 = 255 := h1
    unfold peelV
    show (if (peelX s c).getD 0 0 = 255 then [] else padL ((peelX s c).drop 4) pad).length = 80
    rw [if_neg h1', padL_len _ hp]
    rw [List.length_drop, peelX_len hc hpe.2.1]
    have := hpe.2.1
    omega
  · rw [ppeel_f hpe] at h; exact absurd h (by simp)
theorem ppeel_next {s : Int} {c pad : List Int} (hb : Bytes c) (h : (ppeel s c pad).2 = true) : (ppeel s c pad).1.next = 255 ∨ (0 ≤ (ppeel s c pad).1.next ∧ (ppeel s c pad).1.next < 8) := by
  by_cases hpe : peels s c
  · rw [ppeel_t hpe]
    show (peelX s c).getD 0 0 = 255 ∨ _
    have := (peelX_bytes (s := s) hb).at_ 0
    rcases hpe.2.2.2 with h' | h'
    · exact .inl h'.1
    · exact .inr ⟨this.1, h'.1⟩
  · rw [ppeel_f hpe] at h; exact absurd h (by simp)
theorem ppeel_load_len {s : Int} {c pad : List Int} (hc : c.length = 80) (h : (ppeel s c pad).2 = true) : (ppeel s c pad).1.load.length ≤ 24 := by
  by_cases hpe : peels s c
  · rw [ppeel_t hpe]
    show (if (peelX s c).getD 0 0 = 255 then (peelX s c).drop 4 else []).length ≤ 24
    rcases hpe.2.2.2 with h' | h'
    · rw [if_pos h'.1, List.length_drop, peelX_len hc hpe.2.1]; omega
    · rw [if_neg (by omega)]; simp
  · rw [ppeel_f hpe] at h; exact absurd h (by simp)
theorem ppeel_cell_bytes {s : Int} {c pad : List Int} (hb : Bytes c) (hp : Bytes pad) : Bytes (ppeel s c pad).1.cell := by
  by_cases hpe : peels s c
  · rw [ppeel_t hpe]
    show Bytes (if (peelX s c).getD 0 0 = 255 then [] else padL ((peelX s c).drop 4) pad)
    split
    · exact fun x hx => absurd hx (by simp)
    · exact padL_bytes ((peelX_bytes hb).drop 4) hp
  · rw [ppeel_f hpe]; exact fun x hx => absurd hx (by simp [Pel.zero])
theorem zer_bytes : Bytes zer := fun x hx => by
  unfold zer at hx
  rw [List.mem_replicate] at hx
  omega

/-! ### who has what it takes -/
def CanF (S c : List Int) : Prop := S.length = 8 ∧ Secs S ∧ c.length = 80
instance (S c : List Int) : Decidable (CanF S c) := by unfold CanF; infer_instance
theorem Secs.at_ {S : List Int} (h : Secs S) {i : Nat} (hi : i < S.length) : LaySec (S.getD i 0) := by
  rw [getD_lt hi]; exact h _ (List.getElem_mem _)
theorem secs_take {S : List Int} {k : Nat} (h : Secs (S.take k)) (hk : k < S.length) (h1 : LaySec (S.getD k 0)) : Secs (S.take (k + 1)) := by
  rw [List.take_succ_eq_append_getElem hk]
  intro x hx
  rcases List.mem_append.1 hx with h' | h'
  · exact h x h'
  · rw [List.mem_singleton] at h'; rw [h']; rwa [getD_lt hk] at h1

/-! ### who can peel -/
def can0 (S c : List Int) (k : Nat) : List Int := ((List.range k).filter fun i => decide (fnext (S.getD i 0) c ≠ -1)).map fun i : Nat => (i : Int)
theorem can0_zero (S c : List Int) : can0 S c 0 = [] := rfl
theorem can0_t {S c : List Int} {k : Nat} (h : fnext (S.getD k 0) c ≠ -1) : can0 S c (k + 1) = can0 S c k ++ [(k : Int)] := by
  unfold can0
  rw [List.range_succ, List.filter_append, List.map_append, List.filter_cons_of_pos (by exact decide_eq_true h)]
  rfl
theorem can0_f {S c : List Int} {k : Nat} (h : fnext (S.getD k 0) c = -1) : can0 S c (k + 1) = can0 S c k := by
  unfold can0
  rw [List.range_succ, List.filter_append, List.map_append, List.filter_cons_of_neg (by rw [decide_eq_true_iff]; exact fun x => x h)]
  simp
theorem can0_le (S c : List Int) (k : Nat) : (can0 S c k).length ≤ k := by
  unfold can0
  rw [List.length_map]
  exact Nat.le_trans (List.length_filter_le _ _) (by simp)
theorem can0_rg {S c : List Int} {k : Nat} : ∀ x ∈ can0 S c k, 0 ≤ x ∧ x < k := by
  intro x hx
  unfold can0 at hx
  rw [List.mem_map] at hx
  obtain ⟨i, hi, rfl⟩ := hx
  have := List.mem_range.1 (List.mem_filter.1 hi).1
  omega
def fcan (S c : List Int) : List Int := if CanF S c then can0 S c 8 else []
theorem fcan_t {S c : List Int} (h : CanF S c) : fcan S c = can0 S c 8 := if_pos h
theorem fcan_f {S c : List Int} (h : ¬ CanF S c) : fcan S c = [] := if_neg h
theorem fcan_le (S c : List Int) : (fcan S c).length ≤ 8 := by
  unfold fcan
  split
  · exact can0_le _ _ _
  · simp
theorem fnext_or {s : Int} {c : List Int} (hb : Bytes c) : fnext s c = -1 ∨ (0 ≤ fnext s c ∧ fnext s c ≤ 255) := by
  unfold fnext
  split
  · rename_i h
    right
    by_cases hp : PeelOk s c zer
    · rw [fpeel_t hp]
      show 0 ≤ (peelX s c).getD 0 0 ∧ (peelX s c).getD 0 0 ≤ 255
      have := (peelX_bytes (s := s) hb).at_ 0
      omega
    · rw [fpeel_f hp] at h; exact absurd h (by simp)
  · exact .inl rfl

/-! ### who is reached -/
def reachL (S : List Int) : Nat → Int → List Int → List Int
  | 0, _, _ => []
  | k + 1, a, c => if (0 ≤ a ∧ a < 8) ∧ (ppeel (S.getD a.toNat 0) c zer).2 = true then a :: reachL S k (ppeel (S.getD a.toNat 0) c zer).1.next (ppeel (S.getD a.toNat 0) c zer).1.cell else []
theorem reachL_t {S : List Int} {k : Nat} {a : Int} {c : List Int} (h1 : 0 ≤ a ∧ a < 8) (h2 : (ppeel (S.getD a.toNat 0) c zer).2 = true) :
    reachL S (k + 1) a c = a :: reachL S k (ppeel (S.getD a.toNat 0) c zer).1.next (ppeel (S.getD a.toNat 0) c zer).1.cell := if_pos ⟨h1, h2⟩
theorem reachL_f {S : List Int} {k : Nat} {a : Int} {c : List Int} (h : (ppeel (S.getD a.toNat 0) c zer).2 = false) : reachL S k a c = [] := by
  cases k with
  | zero => rfl
  | succ k => exact if_neg (fun x => by rw [h] at x; exact absurd x.2 (by simp))
theorem reachL_o {S : List Int} {k : Nat} {a : Int} {c : List Int} (h : ¬ (0 ≤ a ∧ a < 8)) : reachL S k a c = [] := by
  cases k with
  | zero => rfl
  | succ k => exact if_neg (fun x => h x.1)
theorem reachL_le {S : List Int} : ∀ (k : Nat) (a : Int) (c : List Int), (reachL S k a c).length ≤ k
  | 0, _, _ => by simp [reachL]
  | k + 1, a, c => by
    unfold reachL
    split
    · rw [List.length_cons]; exact Nat.succ_le_succ (reachL_le k _ _)
    · simp
def freach (S : List Int) (a : Int) (c : List Int) : List Int := if CanF S c then reachL S 4 a c else []
theorem freach_t {S c : List Int} {a : Int} (h : CanF S c) : freach S a c = reachL S 4 a c := if_pos h
theorem freach_f {S c : List Int} {a : Int} (h : ¬ CanF S c) : freach S a c = [] := if_neg h
theorem freach_le (S : List Int) (a : Int) (c : List Int) : (freach S a c).length ≤ 4 := by
  unfold freach
  split
  · exact reachL_le _ _ _
  · simp
def fdepth (S c : List Int) : Int := match fcan S c with
  | [] => 0
  | a :: _ => ((freach S a c).length : Int)
theorem fdepth_nil {S c : List Int} (h : fcan S c = []) : fdepth S c = 0 := by unfold fdepth; rw [h]
theorem fdepth_cons {S c : List Int} (h : 0 < (fcan S c).length) : fdepth S c = ((freach S ((fcan S c).getD 0 0) c).length : Int) := by
  unfold fdepth
  cases e : fcan S c with
  | nil => rw [e] at h; exact absurd h (by simp)
  | cons a l => rfl

/-! ### following a route -/
def folL (S : List Int) : List Int → List Int → List Int × Bool
  | [], _ => ([], false)
  | r :: rs, c =>
    if (ppeel (S.getD r.toNat 0) c zer).2 = true ∧ (ppeel (S.getD r.toNat 0) c zer).1.next = rs.getD 0 255 then
      (if rs = [] then ((ppeel (S.getD r.toNat 0) c zer).1.load, true) else folL S rs (ppeel (S.getD r.toNat 0) c zer).1.cell)
    else ([], false)
theorem folL_f {S : List Int} {r : Int} {rs c : List Int} (h : (ppeel (S.getD r.toNat 0) c zer).2 = false) : folL S (r :: rs) c = ([], false) :=
  if_neg fun x => by rw [h] at x; exact absurd x.1 (by simp)
theorem folL_n {S : List Int} {r : Int} {rs c : List Int} (h : (ppeel (S.getD r.toNat 0) c zer).1.next ≠ rs.getD 0 255) : folL S (r :: rs) c = ([], false) :=
  if_neg fun x => h x.2
theorem folL_e {S : List Int} {r : Int} {c : List Int} (h : (ppeel (S.getD r.toNat 0) c zer).2 = true) (h1 : (ppeel (S.getD r.toNat 0) c zer).1.next = 255) : folL S [r] c = ((ppeel (S.getD r.toNat 0) c zer).1.load, true) := by
  unfold folL
  rw [if_pos ⟨h, h1⟩, if_pos rfl]
theorem folL_r {S : List Int} {r : Int} {rs c : List Int} (h : (ppeel (S.getD r.toNat 0) c zer).2 = true) (h1 : (ppeel (S.getD r.toNat 0) c zer).1.next = rs.getD 0 255) (h2 : rs ≠ []) : folL S (r :: rs) c = folL S rs (ppeel (S.getD r.toNat 0) c zer).1.cell := by
  show (if _ then _ else _) = _
  rw [if_pos ⟨h, h1⟩, if_neg h2]
theorem folL_le {S : List Int} : ∀ (rs c : List Int), (∀ x ∈ rs, 0 ≤ x ∧ x < 8) → c.length = 80 → (folL S rs c).1.length ≤ 24
  | [], _, _, _ => by simp [folL]
  | r :: rs, c, h, hc => by
    unfold folL
    split
    · rename_i h'
      split
      · exact ppeel_load_len hc h'.1
      · rename_i hrs
        refine folL_le rs _ (fun x hx => h x (List.mem_cons_of_mem _ hx)) (ppeel_cell hc (by rw [zer_len]; exact Nat.le_refl _) h'.1 ?_)
        rw [h'.2]
        cases rs with
        | nil => exact absurd rfl hrs
        | cons a l => rw [List.getD_cons_zero]; have := h a (by simp); omega
    · simp
def FolOk (S route c : List Int) : Prop := Route route ∧ CanF S c
instance (S route c : List Int) : Decidable (FolOk S route c) := by unfold FolOk; infer_instance
def ffol (S route c : List Int) : List Int × Bool := if FolOk S route c then folL S route c else ([], false)
theorem ffol_t {S route c : List Int} (h : FolOk S route c) : ffol S route c = folL S route c := if_pos h
theorem ffol_f {S route c : List Int} (h : ¬ FolOk S route c) : ffol S route c = ([], false) := if_neg h
theorem ffol_le (S route c : List Int) : (ffol S route c).1.length ≤ 24 := by
  unfold ffol
  split
  · rename_i h; exact folL_le _ _ h.1.2.1 h.2.2.2
  · simp
end Go.Proofs.Ytpapkonejkdkhaa
