/-
  What a message lacks, in plain words.
-/
import Derived.Test.YtpapkonejkdkhaaPDk
import Derived.Test.YtpapkonejkdkhaaOp0
namespace Go.Proofs.Ytpapkonejkdkhaa
set_option linter.unusedVariables false
def lackAt (g : List DPiece) (n : Nat) : List Int := ((List.range n).map fun i : Nat => (i : Int)).filter fun x => decide (x ∉ g.map fun p => p.2.1)
theorem lackAt_t {g : List DPiece} {n : Nat} (h : (n : Int) ∉ g.map fun p => p.2.1) : lackAt g (n + 1) = lackAt g n ++ [(n : Int)] := by
  unfold lackAt
  rw [List.range_succ, List.map_append, List.filter_append, List.map_singleton, List.filter_cons_of_pos (by exact decide_eq_true h)]
  rfl
theorem lackAt_f {g : List DPiece} {n : Nat} (h : (n : Int) ∈ g.map fun p => p.2.1) : lackAt g (n + 1) = lackAt g n := by
  unfold lackAt
  rw [List.range_succ, List.map_append, List.filter_append, List.map_singleton, List.filter_cons_of_neg (by rw [decide_eq_true_iff]; exact fun x => x h)]
  simp
theorem lackAt_le (g : List DPiece) (n : Nat) : (lackAt g n).length ≤ n := by
  unfold lackAt
  exact Nat.le_trans (List.length_filter_le _ _) (by simp)
def misL (id : Int) : List DWhole → List Int
  | [] => []
  | a :: l => (if a.1 = id then lackAt a.2.2.2 a.2.1.toNat else []) ++ misL id l
theorem misL_app (id : Int) : ∀ (l r : List DWhole), misL id (l ++ r) = misL id l ++ misL id r
  | [], r => rfl
  | a :: l, r => by
    show (if a.1 = id then lackAt a.2.2.2 a.2.1.toNat else []) ++ misL id (l ++ r) = _
    rw [misL_app id l r, ← List.append_assoc]
    rfl
theorem misL_none {id : Int} : ∀ {l : List DWhole}, (∀ a ∈ l, a.1 ≠ id) → misL id l = []
  | [], _ => rfl
  | a :: l, h => by
    show (if a.1 = id then lackAt a.2.2.2 a.2.1.toNat else []) ++ misL id l = []
    rw [if_neg (h a (by simp)), misL_none (fun b hb => h b (List.mem_cons_of_mem _ hb))]
    rfl
theorem misL_sn {id : Int} {r : List DWhole} {j : Nat} {a : DWhole} (h : r[j]? = some a) : misL id (r.take (j + 1)) = misL id (r.take j) ++ (if a.1 = id then lackAt a.2.2.2 a.2.1.toNat else []) := by
  rw [take_snoc h, misL_app]
  show _ ++ (_ ++ []) = _
  rw [List.append_nil]
theorem misL_one {id : Int} {r : List DWhole} {a : DWhole} (hap : Apart (fun a : DWhole => a.1) r) (ha : a ∈ r) (hid : a.1 = id) : misL id r = lackAt a.2.2.2 a.2.1.toNat := by
  obtain ⟨j, hj, rfl⟩ := List.getElem_of_mem ha
  have h1 : r[j]? = some r[j] := List.getElem?_eq_getElem hj
  have e : r = r.take j ++ r[j] :: r.drop (j + 1) := by rw [← List.drop_eq_getElem_cons hj, List.take_append_drop]
  have n1 : ∀ b ∈ r.take j, b.1 ≠ id := fun b hb => by rw [← hid]; exact hap.take h1 b hb
  have n2 : ∀ b ∈ r.drop (j + 1), b.1 ≠ id := fun b hb => by
    obtain ⟨i, hi, rfl⟩ := List.getElem_of_mem hb
    rw [List.length_drop] at hi
    rw [← hid]
    exact (hap j (j + 1 + i) _ _ (by omega) h1 (by rw [List.getElem_drop]; exact List.getElem?_eq_getElem (by omega))).symm
  generalize r[j] = a at *
  rw [e, misL_app, misL_none n1]
  show [] ++ ((if a.1 = id then lackAt a.2.2.2 a.2.1.toNat else []) ++ misL id _) = _
  rw [if_pos hid, misL_none n2]
  simp
noncomputable def fMis (p : DDesk) (id : Int) : List Int := if DkOk p then misL id p.1 else []
theorem fMis_t {p : DDesk} {id : Int} (h : DkOk p) : fMis p id = misL id p.1 := if_pos h
theorem fMis_f {p : DDesk} {id : Int} (h : ¬ DkOk p) : fMis p id = [] := if_neg h
theorem asc_lt {l : List Int} (h : Asc l) : ∀ i j, i < j → j < l.length → l.getD i 0 < l.getD j 0 := by
  intro i j hij
  induction j with
  | zero => omega
  | succ j ih =>
    intro hj
    have h1 := h j hj
    rcases Nat.lt_succ_iff_lt_or_eq.1 hij with h' | rfl
    · have := ih h' (by omega); omega
    · exact h1
theorem dk_apart {p : DDesk} (h : DkOk p) : Apart (fun a : DWhole => a.1) p.1 := by
  intro i j a b hij ha hb
  have h1 := asc_lt h.2.2.2.1 i j hij (by rw [List.length_map]; exact (List.getElem?_eq_some_iff.1 hb).1)
  rw [map_at ha, map_at hb] at h1
  exact fun e => by have e' : a.1 = b.1 := e; have h1' : a.1 < b.1 := h1; omega
theorem dk_wh {p : DDesk} (h : DkOk p) {a : DWhole} (ha : a ∈ p.1) : 1 ≤ a.2.2.2.length ∧ (a.2.2.2.length : Int) < a.2.1 ∧ a.2.1 ≤ 8 := by
  obtain ⟨-, ⟨h1, h2⟩, h3, -⟩ := (h.2.2.2.2 a ha).1
  refine ⟨h1, h2, ?_⟩
  have hm := List.getElem_mem (l := a.2.2.2) (n := 0) (by omega)
  have h4 := h3 _ hm
  have h5 := h4.1.2.2.1
  omega
theorem misL_le {p : DDesk} (h : DkOk p) (id : Int) : (misL id p.1).length ≤ 48 := by
  have h6 := h.1
  have hw : ∀ a ∈ p.1, a.2.1 ≤ 8 := fun a ha => (dk_wh h ha).2.2
  generalize p.1 = l at *
  have : ∀ l : List DWhole, (∀ a ∈ l, a.2.1 ≤ 8) → (misL id l).length ≤ 8 * l.length := by
    intro l
    induction l with
    | nil => intro _; simp [misL]
    | cons a l ih =>
      intro hl
      show ((if a.1 = id then lackAt a.2.2.2 a.2.1.toNat else []) ++ misL id l).length ≤ _
      rw [List.length_append, List.length_cons]
      have h1 := ih fun b hb => hl b (List.mem_cons_of_mem _ hb)
      have h2 := hl a (by simp)
      split
      · have := lackAt_le a.2.2.2 a.2.1.toNat; omega
      · simp; omega
  have := this l hw
  omega
theorem fMis_le (p : DDesk) (id : Int) : (fMis p id).length ≤ 48 := by
  unfold fMis
  split
  · exact misL_le ‹_› id
  · simp
end Go.Proofs.Ytpapkonejkdkhaa
