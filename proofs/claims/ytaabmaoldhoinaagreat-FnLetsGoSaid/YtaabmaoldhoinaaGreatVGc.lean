/-
  TpP, SplP, DrawFou, Xt, Xf: texts joined.
-/
import Derived.Test.YtaabmaoldhoinaaGreatVGa
import Derived.Test.YtaabmaoldhoinaaGreatVGb
import Derived.Test.YtaabmaoldhoinaaGreatVMLgP
import Derived.Test.YtaabmaoldhoinaaGreatVMPHasP
namespace Go.Proofs.YtaabmaoldhoinaaGreat
set_option linter.unusedVariables false
open Go.RowKit
/-- q put into a list by its number; what has the same number goes. -/
def insB {α : Type} (f : α → Int) (q : α) (l : List α) : List α := (l.filter fun p => decide (f p < f q)) ++ q :: l.filter fun p => decide (f q < f p)
section
variable {α : Type} {f : α → Int} {q a : α} {l : List α} {j : Nat}
theorem asc_pairM (h : Asc (l.map f)) : l.Pairwise (fun a b => f a < f b) := List.pairwise_map.1 (asc_pw h)
theorem asc_ofM (h : l.Pairwise (fun a b => f a < f b)) : Asc (l.map f) := by
  intro i hi
  have h1 := List.pairwise_map.2 h
  rw [List.pairwise_iff_getElem] at h1
  have := h1 i (i + 1) (by omega) hi (by omega)
  rwa [List.getD_eq_getElem?_getD, List.getD_eq_getElem?_getD, List.getElem?_eq_getElem hi, List.getElem?_eq_getElem (by omega)]
theorem asc_ofL {l : List Int} (h : l.Pairwise (fun a b => a < b)) : Asc l := by
  have := asc_ofM (f := id) (l := l) h
  rwa [List.map_id] at this
theorem insB_pw (h : l.Pairwise (fun a b => f a < f b)) : (insB f q l).Pairwise (fun a b => f a < f b) := by
  unfold insB
  rw [List.pairwise_append, List.pairwise_cons]
  refine ⟨h.filter _, ⟨fun b hb => of_decide_eq_true (List.mem_filter.1 hb).2, h.filter _⟩, fun b hb c hc => ?_⟩
  have h1 := of_decide_eq_true (List.mem_filter.1 hb).2
  rcases List.mem_cons.1 hc with rfl | hc
  · exact h1
  · have h2 := of_decide_eq_true (List.mem_filter.1 hc).2; omega
theorem insB_mem {x : α} : x ∈ insB f q l ↔ x = q ∨ (x ∈ l ∧ f x ≠ f q) := by
  unfold insB
  rw [List.mem_append, List.mem_cons, List.mem_filter, List.mem_filter, decide_eq_true_iff, decide_eq_true_iff]
  constructor
  · rintro (⟨h1, h2⟩ | rfl | ⟨h1, h2⟩)
    · exact .inr ⟨h1, by omega⟩
    · exact .inl rfl
    · exact .inr ⟨h1, by omega⟩
  · rintro (rfl | ⟨h1, h2⟩)
    · exact .inr (.inl rfl)
    · by_cases h : f x < f q
      · exact .inl ⟨h1, h⟩
      · exact .inr (.inr ⟨h1, by omega⟩)
theorem insB_len_le (f : α → Int) (q : α) (l : List α) : (insB f q l).length ≤ l.length + 1 := by
  unfold insB
  induction l with
  | nil => simp
  | cons a l ih =>
    simp only [List.length_append, List.length_cons, List.filter_cons] at ih ⊢
    by_cases h1 : f a < f q
    · rw [if_pos (by simpa using h1), if_neg (by simp; omega)]; simp only [List.length_cons]; omega
    · rw [if_neg (by simpa using h1)]
      split
      · simp only [List.length_cons]; omega
      · omega
theorem insB_len (h : ∀ a ∈ l, f a ≠ f q) : (insB f q l).length = l.length + 1 := by
  unfold insB
  induction l with
  | nil => simp
  | cons a l ih =>
    have ih := ih fun b hb => h b (List.mem_cons_of_mem _ hb)
    have ha := h a (by simp)
    simp only [List.length_append, List.length_cons, List.filter_cons] at ih ⊢
    by_cases h1 : f a < f q
    · rw [if_pos (by simpa using h1), if_neg (by simp; omega)]; simp only [List.length_cons]; omega
    · rw [if_neg (by simpa using h1), if_pos (by simp; omega)]; simp only [List.length_cons]; omega
/-- Two ascending lists of the same things are the same. -/
theorem asc_same {l m : List α} (h : l.Pairwise (fun a b => f a < f b)) (k : m.Pairwise (fun a b => f a < f b)) (hm : ∀ a, a ∈ l ↔ a ∈ m) : l = m := by
  have n1 : l.Nodup := h.imp fun h' e => by subst e; omega
  have n2 : m.Nodup := k.imp fun h' e => by subst e; omega
  refine List.Perm.eq_of_pairwise (le := fun a b => f a < f b) ?_ h k ((List.perm_ext_iff_of_nodup n1 n2).2 hm)
  intro a b _ _ h1 h2; omega
theorem asc_permS {l m : List α} (h : l.Pairwise (fun a b => f a < f b)) (k : m.Pairwise (fun a b => f a ≤ f b)) (hm : m.Perm l) : m = l := by
  refine List.Perm.eq_of_pairwise (le := fun a b => f a ≤ f b) ?_ k (h.imp fun h' => by omega) hm
  intro a b ha hb h1 h2
  have hab : f a = f b := by omega
  have ha' : a ∈ l := hm.mem_iff.1 ha
  obtain ⟨i, hi, rfl⟩ := List.getElem_of_mem ha'
  obtain ⟨j, hj, rfl⟩ := List.getElem_of_mem hb
  rw [List.pairwise_iff_getElem] at h
  rcases Nat.lt_trichotomy i j with h' | h' | h'
  · have := h i j hi hj h'; omega
  · subst h'; rfl
  · have := h j i hj hi h'; omega
theorem insB_perm (h : ∀ a ∈ l, f a ≠ f q) : (insB f q l).Perm (l ++ [q]) := by
  unfold insB
  refine (List.perm_middle).trans ?_
  refine List.Perm.trans ?_ (List.perm_append_comm (l₁ := [q]))
  refine List.Perm.cons q ?_
  have h2 := List.filter_append_perm (fun p => decide (f p < f q)) l
  refine List.Perm.trans ?_ h2
  refine List.Perm.append_left _ ?_
  rw [List.filter_congr (q := fun x => !decide (f x < f q)) fun a ha => ?_]
  have := h a ha
  by_cases h1 : f a < f q
  · rw [decide_eq_true h1, decide_eq_false (by omega)]; rfl
  · rw [decide_eq_false h1, decide_eq_true (by omega)]; rfl
/-- While it is gone through: put is said to have been where there is something greater. -/
theorem insB_step (ha : l[j]? = some a) (h : f q < f a) : insB f q (l.take (j + 1)) = insB f q (l.take j) ++ [a] := by
  unfold insB
  rw [take_snoc ha, List.filter_append, List.filter_append, List.filter_cons_of_neg (by simp; omega), List.filter_cons_of_pos (by simpa using h)]
  simp
theorem insB_none (h : ∀ a ∈ l, f a < f q) : insB f q l = l ++ [q] := by
  unfold insB
  rw [List.filter_eq_self.2 (fun a ha => decide_eq_true (h a ha)), List.filter_eq_nil_iff.2 (fun a ha => by have := h a ha; simp; omega)]
end
/-- A number put ahead of the first that is greater. -/
def insI (x : Int) : List Int → List Int
  | [] => [x]
  | a :: l => if x < a then x :: a :: l else a :: insI x l
theorem insI_none {x : Int} {l : List Int} (h : ∀ b ∈ l, ¬ x < b) : insI x l = l ++ [x] := by
  induction l with
  | nil => rfl
  | cons a l ih => unfold insI; rw [if_neg (h a (by simp)), ih fun b hb => h b (List.mem_cons_of_mem _ hb)]; rfl
theorem insI_here {x a : Int} {l : List Int} (h : ∀ b ∈ l, ¬ x < b) (ha : x < a) : insI x (l ++ [a]) = (l ++ [x]) ++ [a] := by
  induction l with
  | nil => show insI x [a] = _; unfold insI; rw [if_pos ha]; rfl
  | cons c l ih =>
    rw [List.cons_append]; unfold insI
    rw [if_neg (h c (by simp)), ih fun b hb => h b (List.mem_cons_of_mem _ hb)]; rfl
theorem insI_past {x a : Int} {l : List Int} (h : ∃ b ∈ l, x < b) : insI x (l ++ [a]) = insI x l ++ [a] := by
  induction l with
  | nil => obtain ⟨b, hb, _⟩ := h; exact absurd hb (by simp)
  | cons c l ih =>
    rw [List.cons_append]; unfold insI
    by_cases hc : x < c
    · rw [if_pos hc, if_pos hc]; rfl
    · rw [if_neg hc, if_neg hc, ih ?_]; · rfl
      obtain ⟨b, hb, hx⟩ := h
      rcases List.mem_cons.1 hb with rfl | hb
      · exact absurd hx hc
      · exact ⟨b, hb, hx⟩
theorem insI_insB {x : Int} {l : List Int} (h : Asc l) (hx : x ∉ l) : insI x l = insB id x l := by
  have hp := asc_pw h
  clear h
  induction l with
  | nil => rfl
  | cons a l ih =>
    rw [List.pairwise_cons] at hp
    have ha : a ≠ x := fun e => hx (by rw [e]; simp)
    have ih := ih (fun h => hx (List.mem_cons_of_mem _ h)) hp.2
    unfold insI
    by_cases hc : x < a
    · rw [if_pos hc]
      unfold insB
      rw [List.filter_eq_nil_iff.2, List.filter_eq_self.2]
      · rfl
      · intro b hb
        rcases List.mem_cons.1 hb with rfl | hb
        · exact decide_eq_true hc
        · have := hp.1 b hb; exact decide_eq_true (by show x < b; omega)
      · intro b hb
        rcases List.mem_cons.1 hb with rfl | hb
        · simp; omega
        · have := hp.1 b hb; simp; omega
    · rw [if_neg hc, ih]
      unfold insB
      rw [List.filter_cons_of_pos (by simp; omega), List.filter_cons_of_neg (by simp; omega)]
      rfl
/-! ### a piece taken -/
def pAt (p : DPiece) : Int := p.2.1
def wId (a : DWhole) : Int := a.1
def tkBase (d : DDesk) (q : DPiece) (due : Int) : DWhole := (d.1.find? fun a => decide (a.1 = q.1)).getD (q.1, q.2.2.1, due, [])
def TkOld (d : DDesk) (q : DPiece) : Prop := q.1 ∈ d.2 ∨ ∃ a ∈ d.1, a.1 = q.1 ∧ (a.2.1 ≠ q.2.2.1 ∨ ∃ p ∈ a.2.2.2, p.2.1 = q.2.1)
def tkNew (d : DDesk) (q : DPiece) (due : Int) : DWhole := ((tkBase d q due).1, (tkBase d q due).2.1, (tkBase d q due).2.2.1, insB pAt q (tkBase d q due).2.2.2)
def tkData (g : List DPiece) : List Int := g.flatMap fun p => p.2.2.2
noncomputable instance (d : DDesk) (q : DPiece) : Decidable (TkOld d q) := Classical.propDecidable _
def TkDone (d : DDesk) (q : DPiece) (due : Int) : Prop := ((tkNew d q due).2.2.2.length : Int) = (tkNew d q due).2.1
noncomputable instance (d : DDesk) (q : DPiece) (due : Int) : Decidable (TkDone d q due) := Classical.propDecidable _
def TkFull (d : DDesk) (q : DPiece) : Prop := (∀ a ∈ d.1, a.1 ≠ q.1) ∧ 6 ≤ d.1.length
noncomputable instance (d : DDesk) (q : DPiece) : Decidable (TkFull d q) := Classical.propDecidable _
/-- What the model's l4take answers. -/
noncomputable def tkT (d : DDesk) (q : DPiece) (due : Int) : DDesk × List Int × Int :=
  if TkOld d q then (d, [], -1)
  else if TkDone d q due then ((d.1.filter fun a => decide (a.1 ≠ q.1), insB id q.1 d.2), tkData (tkNew d q due).2.2.2, 1)
  else if TkFull d q then (d, [], -2)
  else ((insB wId (tkNew d q due) d.1, d.2), [], 0)
def TkIn (d : DDesk) (q : DPiece) (due : Int) : Prop := DkOk d ∧ PcOk q ∧ (0 ≤ due ∧ due ≤ 65535)
noncomputable instance (d : DDesk) (q : DPiece) (due : Int) : Decidable (TkIn d q due) := Classical.propDecidable _
noncomputable def fTp (d : DDesk) (q : DPiece) (due : Int) : DDesk × List Int × Int := if TkIn d q due then tkT d q due else (dkZ, [], -3)
theorem fTp_t {d : DDesk} {q : DPiece} {due : Int} (h : TkIn d q due) : fTp d q due = tkT d q due := if_pos h
theorem fTp_f {d : DDesk} {q : DPiece} {due : Int} (h : ¬ TkIn d q due) : fTp d q due = (dkZ, [], -3) := if_neg h
section
variable {d : DDesk} {q : DPiece} {due : Int} {a : DWhole}
theorem tkBase_there (hd : DkOk d) (ha : a ∈ d.1) (e : a.1 = q.1) : tkBase d q due = a := by
  unfold tkBase
  cases hf : d.1.find? fun a => decide (a.1 = q.1) with
  | none => exact absurd (List.find?_eq_none.1 hf a ha) (by simp [e])
  | some b =>
    have h1 := List.find?_some hf
    have h2 := List.mem_of_find?_eq_some hf
    exact asc_one hd.2.2.2.1 h2 ha ((of_decide_eq_true h1).trans e.symm)
theorem tkBase_new (h : ∀ a ∈ d.1, a.1 ≠ q.1) : tkBase d q due = (q.1, q.2.2.1, due, []) := by
  unfold tkBase
  rw [List.find?_eq_none.2 (fun a ha => by simpa using h a ha)]; rfl
theorem tkOld_there (hd : DkOk d) (ha : a ∈ d.1) (e : a.1 = q.1) : TkOld d q ↔ (a.2.1 ≠ q.2.2.1 ∨ ∃ p ∈ a.2.2.2, p.2.1 = q.2.1) := by
  constructor
  · rintro (h | ⟨b, hb, h1, h2⟩)
    · exact absurd (e ▸ h) (hd.2.2.2.2 a ha).2
    · rw [asc_one hd.2.2.2.1 hb ha (h1.trans e.symm)] at h2; exact h2
  · intro h; exact .inr ⟨a, ha, e, h⟩
theorem tkOld_new (h : ∀ a ∈ d.1, a.1 ≠ q.1) : TkOld d q ↔ q.1 ∈ d.2 := by
  constructor
  · rintro (h' | ⟨b, hb, h1, _⟩)
    · exact h'
    · exact absurd h1 (h b hb)
  · exact fun h' => .inl h'
end
/-- What a message is that has just taken a piece: it may lack nothing. -/
def WhM (w : DWhole) : Prop := (0 ≤ w.2.2.1 ∧ w.2.2.1 ≤ 65535) ∧ (1 ≤ w.2.2.2.length ∧ (w.2.2.2.length : Int) ≤ w.2.1) ∧ (∀ p ∈ w.2.2.2, PcOk p ∧ p.1 = w.1 ∧ p.2.2.1 = w.2.1) ∧ Asc (w.2.2.2.map fun p => p.2.1)
theorem WhM.strict {w : DWhole} (h : WhM w) (hn : ¬ (w.2.2.2.length : Int) = w.2.1) : WhN w := ⟨h.1, ⟨h.2.1.1, by have := h.2.1.2; omega⟩, h.2.2⟩
theorem pc_le8 {p : DPiece} (h : PcOk p) : 1 ≤ p.2.2.1 ∧ p.2.2.1 ≤ 8 ∧ p.2.2.2.length ≤ 20 ∧ 0 ≤ p.1 ∧ p.1 ≤ 255 ∧ 0 ≤ p.2.1 ∧ p.2.1 < 8 := by
  unfold PcOk PcN at h; omega
section
variable {d : DDesk} {q : DPiece} {due : Int} {a : DWhole}
theorem tkNew_there (hd : DkOk d) (ha : a ∈ d.1) (e : a.1 = q.1) : tkNew d q due = (a.1, a.2.1, a.2.2.1, insB pAt q a.2.2.2) := by
  unfold tkNew; rw [tkBase_there hd ha e]
theorem tkNew_new (h : ∀ a ∈ d.1, a.1 ≠ q.1) : tkNew d q due = (q.1, q.2.2.1, due, [q]) := by
  unfold tkNew; rw [tkBase_new h]; rfl
theorem tkNew_ok (hd : DkOk d) (hq : PcOk q) (hdue : 0 ≤ due ∧ due ≤ 65535) (ho : ¬ TkOld d q) : WhM (tkNew d q due) ∧ (tkNew d q due).1 = q.1 ∧ q.1 ∉ d.2 ∧ ∀ p ∈ (tkBase d q due).2.2.2, p.2.1 ≠ q.2.1 := by
  have hnd : q.1 ∉ d.2 := fun h => ho (.inl h)
  by_cases hx : ∃ a ∈ d.1, a.1 = q.1
  · obtain ⟨a, ha, e⟩ := hx
    rw [tkNew_there hd ha e, tkBase_there hd ha e]
    have hk := fun h => ho ((tkOld_there hd ha e).2 h)
    have ht : a.2.1 = q.2.2.1 := Classical.byContradiction fun h => hk (.inl h)
    have hat : ∀ p ∈ a.2.2.2, p.2.1 ≠ q.2.1 := fun p hp h => hk (.inr ⟨p, hp, h⟩)
    obtain ⟨⟨h1, h2⟩, ⟨h3, h4⟩, h5, h6⟩ := (hd.2.2.2.2 a ha).1
    have hl : (insB pAt q a.2.2.2).length = a.2.2.2.length + 1 := insB_len hat
    refine ⟨⟨⟨h1, h2⟩, ⟨by show 1 ≤ (insB pAt q a.2.2.2).length; omega, by show ((insB pAt q a.2.2.2).length : Int) ≤ a.2.1; omega⟩, fun p hp => ?_, asc_ofM (f := pAt) (insB_pw (asc_pairM (f := pAt) h6))⟩, e, hnd, hat⟩
    rcases insB_mem.1 hp with rfl | ⟨hp, _⟩
    · exact ⟨hq, e.symm, ht.symm⟩
    · exact h5 p hp
  · have hn : ∀ a ∈ d.1, a.1 ≠ q.1 := fun a ha e => hx ⟨a, ha, e⟩
    rw [tkNew_new hn, tkBase_new hn]
    have := pc_le8 hq
    refine ⟨⟨hdue, ⟨Nat.le_refl _, by show ((1 : Nat) : Int) ≤ q.2.2.1; omega⟩, fun p hp => ?_, fun i hi => absurd hi (by simp)⟩, rfl, hnd, fun p hp => absurd hp (by simp)⟩
    rw [List.mem_singleton.1 hp]; exact ⟨hq, rfl, rfl⟩
theorem filter_ne_len {l : List DWhole} {k : Int} (hx : ∃ a ∈ l, a.1 = k) : (l.filter fun a => decide (a.1 ≠ k)).length < l.length := by
  obtain ⟨a, ha, e⟩ := hx
  have h := List.length_filter_le (fun a : DWhole => decide (a.1 ≠ k)) l
  rcases Nat.lt_or_eq_of_le h with h' | h'
  · exact h'
  · have := List.filter_eq_self.1 (List.length_filter_eq_length_iff.1 h' |> fun h2 => List.filter_eq_self.2 h2) a ha
    simp [e] at this
theorem insW_len (hd : DkOk d) (hf : ¬ TkFull d q) {W : DWhole} (hW : W.1 = q.1) : (insB wId W d.1).length ≤ 6 := by
  by_cases hx : ∃ a ∈ d.1, a.1 = q.1
  · have h1 := filter_ne_len hx
    have h2 : (insB wId W d.1) = insB wId W (d.1.filter fun a => decide (a.1 ≠ q.1)) := by
      unfold insB
      rw [List.filter_filter, List.filter_filter]
      congr 1
      · refine List.filter_congr fun a _ => ?_
        show decide (a.1 < W.1) = (decide (a.1 < W.1) && decide (a.1 ≠ q.1))
        rw [hW]
        by_cases h : a.1 < q.1
        · rw [decide_eq_true h, decide_eq_true (by omega)]; rfl
        · rw [decide_eq_false h]; rfl
      · congr 1
        refine List.filter_congr fun a _ => ?_
        show decide (W.1 < a.1) = (decide (W.1 < a.1) && decide (a.1 ≠ q.1))
        rw [hW]
        by_cases h : q.1 < a.1
        · rw [decide_eq_true h, decide_eq_true (by omega)]; rfl
        · rw [decide_eq_false h]; rfl
    rw [h2]
    have := insB_len_le wId W (d.1.filter fun a => decide (a.1 ≠ q.1))
    have := hd.1
    omega
  · have h1 : ¬ 6 ≤ d.1.length := fun h => hf ⟨fun a ha e => hx ⟨a, ha, e⟩, h⟩
    have := insB_len_le wId W d.1
    omega
theorem tkT_ok (hd : DkOk d) (hq : PcOk q) (hdue : 0 ≤ due ∧ due ≤ 65535) : DkOk (tkT d q due).1 := by
  unfold tkT
  by_cases ho : TkOld d q
  · rw [if_pos ho]; exact hd
  rw [if_neg ho]
  obtain ⟨hM, hid, hnd, -⟩ := tkNew_ok hd hq hdue ho
  have hq8 := pc_le8 hq
  obtain ⟨h1, h2, h3, h4, h5⟩ := hd
  have hd : DkOk d := ⟨h1, h2, h3, h4, h5⟩
  by_cases hdn : TkDone d q due
  · rw [if_pos hdn]
    refine ⟨Nat.le_trans (List.length_filter_le _ _) h1, fun x hx => ?_, ?_, asc_filter _ h4, fun a ha => ?_⟩
    · rcases insB_mem.1 hx with rfl | ⟨hx, _⟩
      · exact ⟨hq8.2.2.2.1, hq8.2.2.2.2.1⟩
      · exact h2 x hx
    · exact asc_ofL (insB_pw (f := id) (asc_pw h3))
    · obtain ⟨ha, hne⟩ := List.mem_filter.1 ha
      have hne := of_decide_eq_true hne
      refine ⟨(h5 a ha).1, fun hx => ?_⟩
      rcases insB_mem.1 hx with h | ⟨h, _⟩
      · exact hne h
      · exact (h5 a ha).2 h
  rw [if_neg hdn]
  by_cases hf : TkFull d q
  · rw [if_pos hf]; exact hd
  rw [if_neg hf]
  refine ⟨insW_len hd hf hid, h2, h3, asc_ofM (f := wId) (insB_pw (asc_pairM (f := wId) h4)), fun a ha => ?_⟩
  rcases insB_mem.1 ha with rfl | ⟨ha, _⟩
  · exact ⟨hM.strict hdn, by rw [hid]; exact hnd⟩
  · exact h5 a ha
end
/-- A desk in order is small. -/
theorem dkOk_sz {d : DDesk} (h : DkOk d) : szDesk d ≤ 4096 ∧ rsz szWhole d.1 ≤ 2000 := by
  have key : ∀ l : List DWhole, (∀ w ∈ l, WhN w) → rsz szWhole l ≤ 200 * l.length := by
    intro l
    induction l with
    | nil => intro _; simp [rsz, rsum]
    | cons a l ih =>
      intro hl
      have h1 := ih fun x hx => hl x (List.mem_cons_of_mem _ hx)
      have h2 := hl a List.mem_cons_self
      have h3 : ∀ g : List DPiece, (∀ p ∈ g, PcOk p) → rsz szPiece g ≤ 21 * g.length := by
        intro g
        induction g with
        | nil => intro _; simp [rsz, rsum]
        | cons p g ih =>
          intro hg
          have := ih fun x hx => hg x (List.mem_cons_of_mem _ hx)
          have h4 : szPiece p ≤ 20 := (pc_le8 (hg p List.mem_cons_self)).2.2.1
          unfold rsz at this ⊢
          rw [rsum, List.length_cons]; omega
      have h4 := h3 a.2.2.2 fun p hp => (h2.2.2.1 p hp).1
      have h5 : a.2.2.2.length ≤ 8 := by
        have h6 := h2.2.1
        have h7 := h2.2.2.1 _ (List.getElem_mem (l := a.2.2.2) (n := 0) (by omega))
        have := (pc_le8 h7.1).2.1
        omega
      have h6 : szWhole a ≤ 168 := by unfold szWhole; omega
      unfold rsz at h1 ⊢
      rw [rsum, List.length_cons]; omega
  have h1 := key d.1 fun w hw => (h.2.2.2.2 w hw).1
  have h2 := h.1
  have h3 := asc_len h.2.2.1 h.2.1
  unfold szDesk
  omega
end Go.Proofs.YtaabmaoldhoinaaGreat
namespace Go.Proofs.YtaabmaoldhoinaaGreat
set_option linter.unusedVariables false
open Go.RowKit
section
variable {id : Int} {msg : List Int} {N : Nat}
theorem pcAt_ok (hs : SpOk id msg) (hN : splN msg.length = N) {j : Nat} (hj : j < N) : PcOk (id, (j : Int), (N : Int), (msg.drop (j * 20)).take 20) := by
  have h8 := splN_le hs.2
  obtain ⟨⟨h1, h2⟩, h3⟩ := hs
  unfold PcOk PcN
  dsimp only
  rw [List.length_take, List.length_drop]
  unfold splN at hN h8
  split at hN
  · omega
  · refine ⟨h1, h2, by omega, by omega, by omega, by omega, fun h => ?_, fun h => ?_⟩ <;> omega
theorem take_chunks (msg : List Int) (m : Nat) : (List.range m).flatMap (fun j => (msg.drop (j * 20)).take 20) = msg.take (m * 20) := by
  induction m with
  | zero => simp
  | succ m ih =>
    rw [List.range_succ, List.flatMap_append, ih, Nat.succ_mul, List.take_add]
    simp
theorem tkData_spl (hs : SpOk id msg) : tkData (splL id msg) = msg := by
  unfold tkData splL
  rw [List.flatMap_map]
  show (List.range (splN msg.length)).flatMap (fun j => (msg.drop (j * 20)).take 20) = msg
  rw [take_chunks, List.take_of_length_le]
  unfold splN; split <;> omega
def gotS (id : Int) (msg : List Int) (K : Nat → Bool) : List DPiece := (splL id msg).filter fun p => K p.2.1.toNat
theorem splL_pw (id : Int) (msg : List Int) : (splL id msg).Pairwise (fun a b => pAt a < pAt b) := by
  unfold splL
  rw [List.pairwise_map]
  refine List.pairwise_lt_range.imp fun {a b} h => ?_
  show (a : Int) < (b : Int); omega
theorem gotS_mem {K : Nat → Bool} {p : DPiece} : p ∈ gotS id msg K ↔ p ∈ splL id msg ∧ K p.2.1.toNat = true := List.mem_filter
theorem splL_get {p : DPiece} (hN : splN msg.length = N) (hp : p ∈ splL id msg) : ∃ j, j < N ∧ p = (id, (j : Int), (N : Int), (msg.drop (j * 20)).take 20) := by
  unfold splL at hp
  obtain ⟨j, hj, rfl⟩ := List.mem_map.1 hp
  rw [hN] at hj ⊢
  exact ⟨j, List.mem_range.1 hj, rfl⟩
theorem splL_in (hN : splN msg.length = N) {j : Nat} (hj : j < N) : (id, (j : Int), (N : Int), (msg.drop (j * 20)).take 20) ∈ splL id msg := List.mem_of_getElem? (splL_at hN hj)
theorem gotS_put {K : Nat → Bool} {k : Nat} (hN : splN msg.length = N) (hk : k < N) (hK : K k = false) :
    insB pAt (id, (k : Int), (N : Int), (msg.drop (k * 20)).take 20) (gotS id msg K) = gotS id msg (fun j => K j || k == j) := by
  refine asc_same (f := pAt) (insB_pw ((splL_pw id msg).filter _)) ((splL_pw id msg).filter _) fun p => ?_
  rw [insB_mem, gotS_mem, gotS_mem]
  constructor
  · rintro (rfl | ⟨⟨h1, h2⟩, -⟩)
    · exact ⟨splL_in hN hk, by show (K (k : Int).toNat || k == (k : Int).toNat) = true; simp⟩
    · exact ⟨h1, by show (K p.2.1.toNat || _) = true; rw [h2]; rfl⟩
  · rintro ⟨h1, h2⟩
    obtain ⟨j, hj, rfl⟩ := splL_get hN h1
    by_cases e : j = k
    · subst e; exact .inl rfl
    · refine .inr ⟨⟨h1, ?_⟩, fun h => e ?_⟩
      · have h3 : (K (j : Int).toNat || k == (j : Int).toNat) = true := h2
        rw [Int.toNat_natCast, show (k == j) = false from beq_eq_false_iff_ne.2 (fun h => e h.symm), Bool.or_false] at h3
        show K (j : Int).toNat = true
        rw [Int.toNat_natCast]; exact h3
      · have h4 : ((j : Nat) : Int) = ((k : Nat) : Int) := h
        omega
theorem gotS_all {K : Nat → Bool} (hN : splN msg.length = N) (h : ∀ j, j < N → K j = true) : gotS id msg K = splL id msg := by
  refine List.filter_eq_self.2 fun p hp => ?_
  obtain ⟨j, hj, rfl⟩ := splL_get hN hp
  show K (j : Int).toNat = true
  rw [Int.toNat_natCast]; exact h j hj
theorem gotS_some {K : Nat → Bool} (hN : splN msg.length = N) {j : Nat} (hj : j < N) (h : K j = false) : (gotS id msg K).length < N := by
  have h1 := List.length_filter_le (fun p : DPiece => K p.2.1.toNat) (splL id msg)
  rw [splL_len, hN] at h1
  rcases Nat.lt_or_eq_of_le h1 with h' | h'
  · exact h'
  · have h2 := List.length_filter_eq_length_iff.1 (h'.trans (by rw [splL_len, hN])) _ (splL_in (id := id) hN hj)
    have h3 : K (j : Int).toNat = true := h2
    rw [Int.toNat_natCast, h] at h3
    cases h3
theorem gotS_none {K : Nat → Bool} (hN : splN msg.length = N) (h : ∀ j, j < N → K j = false) : gotS id msg K = [] := by
  refine List.filter_eq_nil_iff.2 fun p hp => ?_
  obtain ⟨j, hj, rfl⟩ := splL_get hN hp
  have : K (j : Int).toNat = false := by rw [Int.toNat_natCast]; exact h j hj
  rw [this]; simp
/-- The desk when these fragments have been taken. -/
noncomputable def spD (id : Int) (msg : List Int) (N : Nat) (K : Nat → Bool) : DDesk :=
  open Classical in if ∀ j, j < N → K j = true then ([], [id]) else if ∀ j, j < N → K j = false then ([], []) else ([(id, (N : Int), 9, gotS id msg K)], [])
theorem sp_tk {K : Nat → Bool} {k : Nat} (hs : SpOk id msg) (hN : splN msg.length = N) (hk : k < N) (hK : K k = false) :
    tkT (spD id msg N K) (id, (k : Int), (N : Int), (msg.drop (k * 20)).take 20) 9 = (spD id msg N (fun j => K j || k == j), open Classical in if ∀ j, j < N → (K j || k == j) = true then (msg, 1) else ([], 0)) := by
  have h8 := splN_le hs.2
  rw [hN] at h8
  obtain ⟨q, hq⟩ : ∃ q : DPiece, q = (id, (k : Int), (N : Int), (msg.drop (k * 20)).take 20) := ⟨_, rfl⟩
  have q1 : q.1 = id := by rw [hq]
  have q2 : q.2.1 = (k : Int) := by rw [hq]
  have q3 : q.2.2.1 = (N : Int) := by rw [hq]
  have hna : ¬ ∀ j, j < N → K j = true := fun h => by rw [h k hk] at hK; cases hK
  have hput := gotS_put (id := id) hN hk hK
  rw [← hq] at hput ⊢
  have hD : spD id msg N K = (if ∀ j, j < N → K j = false then ([], []) else ([(id, (N : Int), 9, gotS id msg K)], [])) := by unfold spD; rw [if_neg hna]
  have hold : ¬ TkOld (spD id msg N K) q := by
    rw [hD]
    split
    · rintro (h | ⟨a, ha, -⟩)
      · exact absurd h (by simp)
      · exact absurd ha (by simp)
    · rintro (h | ⟨a, ha, -, h⟩)
      · exact absurd h (by simp)
      · rw [List.mem_singleton.1 ha] at h
        rcases h with h | ⟨p, hp, h⟩
        · exact h q3.symm
        · obtain ⟨h1, h2⟩ := gotS_mem.1 hp
          obtain ⟨j, hj, rfl⟩ := splL_get hN h1
          have h3 : (j : Int) = (k : Int) := h.trans q2
          have h4 : K (j : Int).toNat = true := h2
          rw [h3, Int.toNat_natCast, hK] at h4
          cases h4
  have hnew : tkNew (spD id msg N K) q 9 = (id, (N : Int), 9, gotS id msg (fun j => K j || k == j)) := by
    rw [hD]
    split
    · rename_i hn
      rw [tkNew_new (by simp), ← hput, gotS_none hN hn, q1, q3]
      rfl
    · unfold tkNew tkBase
      rw [List.find?_cons_of_pos (by simp [q1])]
      show (id, (N : Int), (9 : Int), insB pAt q (gotS id msg K)) = _
      rw [hput]
  unfold tkT
  rw [if_neg hold]
  by_cases hall : ∀ j, j < N → (K j || k == j) = true
  · have hdone : TkDone (spD id msg N K) q 9 := by
      unfold TkDone
      rw [hnew]
      show (((gotS id msg (fun j => K j || k == j)).length : Nat) : Int) = (N : Int)
      rw [gotS_all hN hall, splL_len, hN]
    rw [if_pos hdone, if_pos hall, hnew]
    have hr : spD id msg N (fun j => K j || k == j) = ([], [id]) := by unfold spD; rw [if_pos hall]
    rw [hr]
    show ((((spD id msg N K).1.filter fun a => decide (a.1 ≠ q.1)), insB _root_.id q.1 (spD id msg N K).2), tkData (gotS id msg (fun j => K j || k == j)), (1 : Int)) = _
    rw [gotS_all hN hall, tkData_spl hs, q1, hD]
    split
    · rfl
    · show ((List.filter (fun a : DWhole => decide (a.1 ≠ id)) [(id, (N : Int), 9, gotS id msg K)], insB _root_.id id ([] : List Int)), msg, (1 : Int)) = _
      rw [List.filter_cons_of_neg (by simp)]
      rfl
  · have hlt : ∃ j, j < N ∧ (K j || k == j) = false := by
      refine Classical.byContradiction fun h => hall fun j hj => ?_
      cases hb : (K j || k == j) with
      | true => rfl
      | false => exact absurd ⟨j, hj, hb⟩ h
    obtain ⟨j, hj, hjf⟩ := hlt
    have hdone : ¬ TkDone (spD id msg N K) q 9 := by
      unfold TkDone
      rw [hnew]
      show ¬ (((gotS id msg (fun j => K j || k == j)).length : Nat) : Int) = (N : Int)
      have := gotS_some (id := id) (K := fun j => K j || k == j) hN hj hjf
      omega
    have hfull : ¬ TkFull (spD id msg N K) q := by
      rintro ⟨-, h⟩
      rw [hD] at h
      split at h
      · exact absurd h (by simp)
      · exact absurd h (by simp)
    rw [if_neg hdone, if_neg hfull, if_neg hall, hnew]
    have hkk : (K k || k == k) = true := by simp
    have hr : spD id msg N (fun j => K j || k == j) = ([(id, (N : Int), 9, gotS id msg (fun j => K j || k == j))], []) := by
      unfold spD
      rw [if_neg hall, if_neg (fun h => by have hk2 : (K k || k == k) = false := h k hk; rw [hk2] at hkk; cases hkk)]
    rw [hr, hD]
    split
    · rfl
    · have hi : insB wId (id, (N : Int), (9 : Int), gotS id msg (fun j => K j || k == j)) [(id, (N : Int), 9, gotS id msg K)] = [(id, (N : Int), 9, gotS id msg (fun j => K j || k == j))] := by
        unfold insB
        rw [List.filter_cons_of_neg (by simp [wId]), List.filter_cons_of_neg (by simp [wId])]
        rfl
      show ((insB wId (id, (N : Int), (9 : Int), gotS id msg (fun j => K j || k == j)) [(id, (N : Int), 9, gotS id msg K)], ([] : List Int)), ([] : List Int), (0 : Int)) = _
      rw [hi]
theorem spD_all {K : Nat → Bool} (h : ∀ j, j < N → K j = true) : spD id msg N K = ([], [id]) := by unfold spD; rw [if_pos h]
theorem sp_old {q : DPiece} {K : Nat → Bool} (h : ∀ j, j < N → K j = true) (hq : q.1 = id) : tkT (spD id msg N K) q 9 = (spD id msg N K, [], -1) := by
  unfold tkT
  rw [if_pos]
  rw [spD_all h]
  exact .inl (by rw [hq]; simp)
end
/-- Which fragment is the i-th that is taken. -/
def kf (N s a i : Nat) : Nat := if N % 2 = 0 ∨ N % s = 0 then (i + a) % N else (i * s + a) % N
section
variable {N s a i j : Nat}
theorem kf_lt (h : 1 ≤ N) : kf N s a i < N := by unfold kf; split <;> exact Nat.mod_lt _ (by omega)
theorem kf_inj (h1 : 1 ≤ N) (h8 : N ≤ 8) (hs : s = 1 ∨ s = 3 ∨ s = 5 ∨ s = 7) (hi : i < N) (hj : j < N) (h : kf N s a i = kf N s a j) : i = j := by
  unfold kf at h
  rcases (by omega : N = 1 ∨ N = 2 ∨ N = 3 ∨ N = 4 ∨ N = 5 ∨ N = 6 ∨ N = 7 ∨ N = 8) with rfl | rfl | rfl | rfl | rfl | rfl | rfl | rfl <;>
    rcases hs with rfl | rfl | rfl | rfl <;> simp at h <;> omega
theorem kf_sur (h1 : 1 ≤ N) (h8 : N ≤ 8) (hs : s = 1 ∨ s = 3 ∨ s = 5 ∨ s = 7) (hj : j < N) : ∃ i, i < N ∧ kf N s a i = j := by
  have hN := (by omega : N = 1 ∨ N = 2 ∨ N = 3 ∨ N = 4 ∨ N = 5 ∨ N = 6 ∨ N = 7 ∨ N = 8)
  by_cases hc : N % 2 = 0 ∨ N % s = 0
  · refine ⟨(j + (N - a % N)) % N, Nat.mod_lt _ (by omega), ?_⟩
    unfold kf; rw [if_pos hc]
    rcases hN with rfl | rfl | rfl | rfl | rfl | rfl | rfl | rfl <;> omega
  · have key : ∀ t, (s * t) % N = 1 % N → ∃ i, i < N ∧ kf N s a i = j := fun t ht => by
      refine ⟨((j + (N - a % N)) * t) % N, Nat.mod_lt _ (by omega), ?_⟩
      unfold kf; rw [if_neg hc]
      have e1 : ((j + (N - a % N)) * t % N * s + a) % N = ((j + (N - a % N)) * (s * t % N) + a) % N := by
        rw [Nat.add_mod, Nat.mul_mod, Nat.mod_mod, ← Nat.mul_mod, ← Nat.add_mod]
        rw [Nat.add_mod ((j + (N - a % N)) * (s * t % N)), Nat.mul_mod (j + (N - a % N)) (s * t % N), Nat.mod_mod, ← Nat.mul_mod, ← Nat.add_mod]
        congr 2
        rw [Nat.mul_assoc, Nat.mul_comm t s]
      rw [e1, ht]
      rcases hN with rfl | rfl | rfl | rfl | rfl | rfl | rfl | rfl <;> simp <;> omega
    rcases hN with rfl | rfl | rfl | rfl | rfl | rfl | rfl | rfl <;> rcases hs with rfl | rfl | rfl | rfl <;>
      first
      | (exfalso; revert hc; decide)
      | exact key 1 (by decide)
      | exact key 2 (by decide)
      | exact key 3 (by decide)
      | exact key 4 (by decide)
      | exact key 5 (by decide)
      | exact key 6 (by decide)
def KS (N s a i : Nat) : Nat → Bool := fun j => (List.range i).any fun x => kf N s a x == j
theorem KS_succ : KS N s a (i + 1) = fun j => KS N s a i j || kf N s a i == j := by
  funext j
  unfold KS
  rw [List.range_succ, List.any_append]
  simp
theorem KS_t {x : Nat} (hx : x < i) (h : kf N s a x = j) : KS N s a i j = true := List.any_eq_true.2 ⟨x, List.mem_range.2 hx, by simpa using h⟩
theorem KS_new (h1 : 1 ≤ N) (h8 : N ≤ 8) (hs : s = 1 ∨ s = 3 ∨ s = 5 ∨ s = 7) (hi : i < N) : KS N s a i (kf N s a i) = false := by
  cases h : KS N s a i (kf N s a i) with
  | false => rfl
  | true =>
    obtain ⟨x, hx, e⟩ := List.any_eq_true.1 h
    have hx := List.mem_range.1 hx
    have := kf_inj (a := a) h1 h8 hs (show x < N by omega) hi (by simpa using e)
    omega
theorem KS_all (h1 : 1 ≤ N) (h8 : N ≤ 8) (hs : s = 1 ∨ s = 3 ∨ s = 5 ∨ s = 7) (hi : N ≤ i) : ∀ j, j < N → KS N s a i j = true := fun j hj => by
  obtain ⟨x, hx, e⟩ := kf_sur (a := a) h1 h8 hs hj
  exact KS_t (by omega) e
end
section
variable {id : Int} {msg : List Int} {N s a i : Nat}
noncomputable def spS (id : Int) (msg : List Int) (N s a i : Nat) : DDesk := spD id msg N (KS N s a i)
def spq (id : Int) (msg : List Int) (N k : Nat) : DPiece := (id, (k : Int), (N : Int), (msg.drop (k * 20)).take 20)
theorem spS_zero (h1 : 1 ≤ N) : spS id msg N s a 0 = ([], []) := by
  unfold spS spD
  have h : ∀ j, KS N s a 0 j = false := fun j => rfl
  rw [if_neg (fun hh => by have := hh 0 (by omega); rw [h] at this; cases this), if_pos (fun j _ => h j)]
theorem spS_end (hs : SpOk id msg) (hN : splN msg.length = N) (h3 : s = 1 ∨ s = 3 ∨ s = 5 ∨ s = 7) (hi : N ≤ i) : spS id msg N s a i = ([], [id]) := by
  have h8 := splN_le hs.2
  rw [hN] at h8
  exact spD_all (KS_all h8.1 h8.2 h3 hi)
theorem sp_step (hs : SpOk id msg) (hN : splN msg.length = N) (h3 : s = 1 ∨ s = 3 ∨ s = 5 ∨ s = 7) :
    tkT (spS id msg N s a i) (spq id msg N (kf N s a i)) 9 = (spS id msg N s a (i + 1), if i + 1 = N then (msg, 1) else if i + 1 < N then ([], 0) else ([], -1)) := by
  have h8 := splN_le hs.2
  rw [hN] at h8
  by_cases hi : i < N
  · have h := sp_tk (k := kf N s a i) hs hN (kf_lt h8.1) (KS_new (a := a) h8.1 h8.2 h3 hi)
    rw [← KS_succ] at h
    refine h.trans ?_
    by_cases he : i + 1 = N
    · rw [if_pos he, if_pos (fun j hj => by have := KS_all (a := a) h8.1 h8.2 h3 (Nat.le_of_eq he.symm) j hj; rw [KS_succ] at this; exact this)]; rfl
    · have hlt : i + 1 < N := by omega
      rw [if_neg he, if_pos hlt, if_neg (fun hh => by
        have h1 : (KS N s a i (kf N s a (i + 1)) || kf N s a i == kf N s a (i + 1)) = true := hh _ (kf_lt (s := s) (a := a) (i := i + 1) h8.1)
        have h2 := KS_new (a := a) h8.1 h8.2 h3 hlt
        rw [KS_succ] at h2
        have h2 : (KS N s a i (kf N s a (i + 1)) || kf N s a i == kf N s a (i + 1)) = false := h2
        rw [h2] at h1; cases h1)]; rfl
  · rw [if_neg (by omega), if_neg (by omega), spS_end (i := i + 1) hs hN h3 (by omega)]
    have h := sp_old (id := id) (msg := msg) (q := spq id msg N (kf N s a i)) (KS_all (a := a) h8.1 h8.2 h3 (show N ≤ i by omega)) rfl
    rw [spD_all (KS_all (a := a) h8.1 h8.2 h3 (show N ≤ i by omega))] at h
    rw [spS_end hs hN h3 (by omega)]
    exact h
theorem spS_ok (hs : SpOk id msg) (hN : splN msg.length = N) (h3 : s = 1 ∨ s = 3 ∨ s = 5 ∨ s = 7) (i : Nat) : DkOk (spS id msg N s a i) := by
  have h8 := splN_le hs.2
  rw [hN] at h8
  induction i with
  | zero =>
    rw [spS_zero h8.1]
    exact ⟨by simp, fun x hx => absurd hx (by simp), fun i hi => absurd hi (by simp), fun i hi => absurd hi (by simp), fun w hw => absurd hw (by simp)⟩
  | succ i ih =>
    have h := tkT_ok ih (pcAt_ok hs hN (kf_lt (s := s) (a := a) (i := i) h8.1)) (due := 9) ⟨by decide, by decide⟩
    have e := sp_step (a := a) (i := i) hs hN h3
    unfold spq at e
    rw [e] at h
    exact h
end
end Go.Proofs.YtaabmaoldhoinaaGreat
namespace Go.Proofs.YtaabmaoldhoinaaGreat
set_option maxRecDepth 100000
set_option linter.unusedVariables false
set_option linter.unusedSimpArgs false
open Go.ChangeShapes Go.WideShapes Go.ChangeAt Go.RowKit
open Fld
theorem gb_over4 {a b c : World} {g : Nat} {row : Option Nat} (h : a.grownBy b (some g)) (k : b.grownBy c row) (hr : ∀ r, row = some r → a.heap.size ≤ r) : a.grownBy c (some g) :=
  ⟨k.os.trans h.os, k.tape.trans h.tape, k.output.trans h.output, Nat.le_trans h.size k.size, fun i hi hn => (k.block i (Nat.lt_of_lt_of_le hi h.size) (fun e => by have := hr i e.symm; omega)).trans (h.block i hi hn)⟩
theorem gb_far4 {a w : World} {g b : Nat} (h : a.grownBy w (some g)) (hb : a.heap.size ≤ b) (i : Nat) (u : Value) : a.grownBy (w.setCell ⟨b, i, none⟩ u) (some g) :=
  gb_over4 h (gb_put (gb_self w b) i u) (fun r hr => by injection hr with hr; omega)
theorem gb_bel4 {a b c : World} {g : Nat} (h : a.grownBy b (some g)) (k : Below b.heap.size b c) : a.grownBy c (some g) :=
  gb_over4 (row := none) h (below_grownBy k) (fun r hr => by cases hr)
theorem own_draw4 {K : IntKind} {e : TypeId} {w w' : World} {base g : Nat} {v : Value} {l : List Int} (h : Own K e w base v l) (hg : w.grownBy w' (some g)) (hb : g < base) : Own K e w' base v l :=
  h.kept hg (.inr (fun e => by have := (h.block e).1; omega))
theorem curs_put4 {w : World} {g n c b i : Nat} {A : Option Addr} {l : List Int} (h : Curs w g A n c l) (hb : g < b) (u : Value) : Curs (w.setCell ⟨b, i, none⟩ u) g A n c l :=
  h.below (B := g + 1) ((Below.refl _ _).setCell (by show g + 1 ≤ b; omega) _) (by omega)
theorem curs_new4 {w w' : World} {g n c B : Nat} {A : Option Addr} {l : List Int} {o : Obj} {row : Option Nat} (h : Curs w g A n c l) (k : (w.alloc o).grownBy w' row) (hB : g < B) (hBw : B ≤ w.heap.size) (hr : ∀ r, row = some r → B ≤ r) : Curs w' g A n c l :=
  (h.alloc o).below (B := B) ((Below.refl _ _).grown k (by simp; omega) (fun b hb => hr b hb)) hB
theorem rowcells4 (w : World) (t : TypeId) (zs : List Int) : ∀ i, i < zs.length → (w.alloc (.cells (zs.map (Value.int .i64)).toArray t)).cell? ⟨w.heap.size, 0 + i, none⟩ = some (.int .i64 (zs.getD i 0)) := by
  intro i hi
  rw [(Box.new w t _).cell, Nat.zero_add, List.getElem?_toArray, List.getElem?_map, List.getElem?_eq_getElem hi, List.getD_eq_getElem?_getD, List.getElem?_eq_getElem hi]
  rfl
theorem u8_mod4 (d : Int) : IntKind.u8.wrap d = d % 256 := by
  unfold IntKind.wrap IntKind.bits IntKind.signed; simp
theorem own_R4 {K : IntKind} {e : TypeId} {w : World} {base : Nat} {v : Value} {l : List Int} (h : Own K e w base v l) : (tSl K).R w w.heap.size [v] l := by
  obtain ⟨F, hF, -⟩ := h.tSl
  exact (tSl K).read hF
def valI4 : Value → Int | .int _ q => q | _ => 0
set_option maxHeartbeats 2000000 in
theorem k_msg {w : World} {g n c : Nat} {A : Option Addr} {l : List Int} (h : Curs w g A n c l) :
    Calls Tryz.prog 80 #[.pointer (some ⟨g, 0, none⟩)] w fun e w' => ∃ v l', e = .returned v ∧ Own .u8 5 w' w.heap.size v l' ∧ l'.length ≤ 160 ∧ Curs w' g A n c l ∧ w.grownBy w' (some g) := by
  have hgs := h.size
  have hc : ∀ i, i < 7 → (w.alloc (.cells #[.int .i64 0, .int .i64 1, .int .i64 20, .int .i64 21, .int .i64 45, .int .i64 160, .int .i64 30] 3)).cell? ⟨w.heap.size, 0 + i, none⟩ = some (.int .i64 (([0, 1, 20, 21, 45, 160, 30] : List Int).getD i 0)) := rowcells4 w 3 [0, 1, 20, 21, 45, 160, 30]
  go_enter Tryz.func80, Tryz.ntmps80
  go_wp2_with fail
  refine (k_Pick (L := some ⟨w.heap.size, 0, none⟩) (m := 7) (d := 7) (zs := [0, 1, 20, 21, 45, 160, 30]) w (Curs.alloc h _) (gb_alloc (gb_self w g) _) ⟨w.heap.size, 0, rfl, by omega, by simp, hc⟩ (by omega) (by omega) rfl).mono ?_
  rintro e w1 ⟨x, rfl, hx, hC1, hG1⟩
  have hx2 : 0 ≤ x ∧ x ≤ 160 := by simp only [List.mem_cons, List.not_mem_nil, or_false] at hx; omega
  obtain ⟨p, rfl⟩ := Int.eq_ofNat_of_zero_le hx2.1
  have hp : p ≤ 160 := by omega
  clear hx hx2 hc
  have z1 := hG1.size
  have hmk := fun W => run_make_row' (P := Tryz.prog) 26 5 (.int .u8 0) 1 Tryz.underlying26 info_by rfl .i64 .i64 p (by omega) (by omega) W
  go_wp2_with fail
  have hrow := World.rowIs_made w1 (.int .u8 0) p 5
  have hO0 : Own .u8 5 (w1.alloc (.cells (madeCells #[.int .u8 0] p) 5)) w.heap.size (.slice (some ⟨w1.heap.size, 0, none⟩) p p) (List.replicate p 0) :=
    Own.of_row (hrow.congr fun j hj => by rw [List.getD_eq_getElem?_getD, List.getElem?_replicate, if_pos hj]; rfl) (by simp) (by simp only [maxLen]; omega) z1 (fun x hx => by rw [List.eq_of_mem_replicate hx]; decide)
  have hC2 : Curs (w1.alloc (.cells (madeCells #[.int .u8 0] p) 5)) g A n c l := hC1.alloc _
  have hG2 : w.grownBy (w1.alloc (.cells (madeCells #[.int .u8 0] p) 5)) (some g) := gb_alloc hG1 _
  obtain ⟨G, hG⟩ : ∃ G, w1.heap.size = G := ⟨_, rfl⟩
  rw [hG] at hO0 z1 ⊢
  obtain ⟨w2, hw2⟩ : ∃ w2, w1.alloc (.cells (madeCells #[.int .u8 0] p) 5) = w2 := ⟨_, rfl⟩
  rw [hw2] at hO0 hC2 hG2 ⊢
  clear hmk hrow hC1 hG1 hG hw2
  go_loopw [4] (fun i wr => ∃ (k : Nat) (l' : List Int), k ≤ p ∧ i = .int .i64 k ∧ l'.length = p ∧ Own .u8 5 wr w.heap.size (.slice (some ⟨G, 0, none⟩) p p) l' ∧ Curs wr g A n c l ∧ w.grownBy wr (some g)) (fun i _ => p - (valI4 i).toNat)
  case atStart => exact ⟨0, _, by omega, rfl, by simp, hO0, hC2, hG2⟩
  case round =>
    obtain ⟨k, l', hk, rfl, hlen, hO, hC, hGr⟩ := hrel
    have HL := Lib.hid hlen
    have zw := hGr.size
    clear hlen
    by_cases hlt : k < p
    · have q1 : (0 : Int) ≤ (k : Int) := by omega
      have q2 : (k : Int) < (p : Int) := by omega
      have HLT := Lib.hid hlt
      go_wp2_with (go_at_call 111; refine (k_Byte hC).mono ?_; rintro e w3 ⟨y, rfl, hy0, hy1, hC3, hG3⟩; have hO3 := own_draw4 hO hG3 hgs; obtain ⟨gb', cb'', e1, -, -, -, -, hcell, hfz⟩ := hO3.row (by rw [HL.out]; omega); simp only [Value.slice.injEq, Option.some.injEq, Addr.mk.injEq, and_true] at e1; obtain ⟨e1, -, e2⟩ := e1; subst e1 e2; have hcc := hcell k (by rw [HL.out]; exact HLT.out); have hff := hfz k)
      go_roundw
      case rel => exact ⟨k + 1, l'.set k (IntKind.u8.wrap ((k : Int) * 7 + y)), by omega, by go_num, by rw [List.length_set, HL.out], by
          have := Own.put (l := l') (c := p) (by rw [HL.out]; exact hO3) k (IntKind.u8.wrap ((k : Int) * 7 + y)) (wf8 (by rw [u8_mod4]; omega))
          rw [HL.out] at this; exact this, curs_put4 hC3 (by omega) _, gb_far4 (gb_trans hGr hG3) z1 _ _⟩
      case measure => simp [valI4]; omega
    · obtain rfl : k = p := by omega
      go_wp2
      go_ret
      exact ⟨_, _, rfl, hO, by rw [HL.out]; omega, hC, hGr⟩
theorem putb {w : World} {b i : Nat} {K : IntKind} {e : TypeId} {base : Nat} {v : Value} {l : List Int} (h : Own K e w base v l) (hb : b < base) (u : Value) : Own K e (w.setCell ⟨b, i, none⟩ u) base v l :=
  h.kept (gb_put (gb_self w b) i u) (.inr (fun e => by have := (h.block e).1; omega))
set_option maxHeartbeats 2000000 in
theorem k_piece {w : World} {g n c : Nat} {A : Option Addr} {l : List Int} (h : Curs w g A n c l) :
    Calls Tryz.prog 108 #[.pointer (some ⟨g, 0, none⟩)] w fun e w' => ∃ v q, e = .returned (.agg #[.int .i64 q.1, .int .i64 q.2.1, .int .i64 q.2.2.1, v]) ∧ Own .u8 5 w' w.heap.size v (q : DPiece).2.2.2 ∧ PcOk q ∧ Curs w' g A n c l ∧ w.grownBy w' (some g) := by
  have hgs := h.size
  have hC0 : Curs (w.alloc (.cells #[.int .i64 0, .int .i64 0, .int .i64 0, .slice none 0 0] 37)) g A n c l := h.alloc _
  have hG0 : w.grownBy (w.alloc (.cells #[.int .i64 0, .int .i64 0, .int .i64 0, .slice none 0 0] 37)) (some g) := gb_alloc (gb_self w g) _
  have B0 : Box (w.alloc (.cells #[.int .i64 0, .int .i64 0, .int .i64 0, .slice none 0 0] 37)) w.heap.size 37 #[.int .i64 0, .int .i64 0, .int .i64 0, .slice none 0 0] := Box.new _ _ _
  have hne : some w.heap.size ≠ some g := fun e => by injection e with e; omega
  go_enter Tryz.func108, Tryz.ntmps108
  go_wp2_with fail
  refine (k_Below (w.alloc (.cells #[.int .i64 0, .int .i64 0, .int .i64 0, .slice none 0 0] 37)) 4 hC0 (gb_self _ g) (by omega) (by omega)).mono ?_
  rintro e w1 ⟨x, rfl, hx0, hx1, hC1, hG1⟩
  go_wp2_with fail
  refine (k_msg hC1).mono ?_
  rintro e w2 ⟨v2, m, rfl, hO2, hm, hC2, hG2⟩
  obtain ⟨Am, cm, rfl, -⟩ := hO2.shape
  have hR2 := own_R4 hO2
  have hs : SpOk x m := ⟨⟨hx0, by omega⟩, hm⟩
  have B2 := (B0.grown hG1 hne).grown hG2 hne
  have hGw := gb_trans (gb_trans hG0 hG1) hG2
  have z2 := B2.size
  have hgs2 := hC2.size
  go_wp2_with fail
  refine (s_SplitZ (WalkArith.wf_i64 ⟨by omega, by omega⟩) hR2 (by omega)).mono ?_
  rintro e w3 ⟨A3, c3, F3, rfl, hO3, hN3, hb3⟩
  have hC3 := hC2.below hb3 hgs2
  have hG3 := gb_bel4 hGw hb3
  have B3 := B2.below hb3 z2
  rw [fSpl_t hs] at hO3 ⊢
  have h8 := splN_le hs.2
  have HLN := Lib.hid (splL_len x m)
  obtain ⟨N, hN⟩ : ∃ N, splN m.length = N := ⟨_, rfl⟩
  rw [hN] at h8
  rw [HLN.out, hN] at hO3 ⊢
  have HN := Lib.hid hN
  have HS := Lib.hid hs
  clear hN hs hC1 hG1 hC2 hG2 hR2 hO2
  go_wp2_with fail
  refine (k_Below w3 (N : Int) hC3 (gb_self w3 g) (by omega) (by omega)).mono ?_
  rintro e w4 ⟨y, rfl, hy0, hy1, hC4, hG4⟩
  have B4 := B3.grown hG4 hne
  obtain ⟨j, rfl⟩ := Int.eq_ofNat_of_zero_le hy0
  have hj : j < N := by omega
  have hl := splL_at (id := x) HN.out hj
  have hO4 : tPieceZ.row.O w4 [.slice A3 N c3] (splL x m) F3 := tPieceZ.row.kept hO3 (fun f hf => hG4.block f (tPieceZ.row.lt hO3 f hf) (fun e => by injection e with e; have := hN3.2 f hf; omega))
  obtain ⟨gb, off, cur, et, es, Fi, rfl, hg, hc, hOi, -, -, hsub, -, -⟩ := rowO_at (K := 4) hO4 hN3.1 hl rfl
  obtain ⟨v3, rfl, hOv, hbl⟩ := openOPieceZ hOi
  have hOw : Own .u8 5 w4 (w.heap.size + 1) v3 ((m.drop (j * 20)).take 20) := Own.raise hOv (fun b hb => by have := hN3.2 b (hsub _ (hbl b hb)); omega)
  have s0 : w4.cell? ⟨gb, off + j * 4, none⟩ = some (.int .i64 x) := by rw [Box.cell (t := et) hg]; exact hc 0 (by omega)
  have s1 : w4.cell? ⟨gb, off + j * 4 + 1, none⟩ = some (.int .i64 (j : Int)) := by rw [Box.cell (t := et) hg]; exact hc 1 (by omega)
  have s2 : w4.cell? ⟨gb, off + j * 4 + 2, none⟩ = some (.int .i64 (N : Int)) := by rw [Box.cell (t := et) hg]; exact hc 2 (by omega)
  have s3 : w4.cell? ⟨gb, off + j * 4 + 3, none⟩ = some v3 := by rw [Box.cell (t := et) hg]; exact hc 3 (by omega)
  have q1 : (0 : Int) ≤ (j : Int) := by omega
  have q2 : (j : Int) < (N : Int) := by omega
  have hGf := gb_trans hG3 hG4
  have HOK := Lib.hid (pcAt_ok HS.out HN.out hj)
  obtain ⟨d3, hd3⟩ : ∃ d3, (m.drop (j * 20)).take 20 = d3 := ⟨_, rfl⟩
  rw [hd3] at HOK hOw
  obtain ⟨A5, c5, rfl, -⟩ := hOw.shape
  have y0 := B4.cell 0; have y1 := B4.cell 1; have y2 := B4.cell 2; have y3 := B4.cell 3; have f0 := B4.frozen 0; have f1 := B4.frozen 1; have f2 := B4.frozen 2; have f3 := B4.frozen 3
  clear hd3 hl hO3 hO4 hOi hOv hc hg hbl hsub hN3
  go_wp2
  have RR := (((B4.put 0 (.int .i64 x)).put 1 (.int .i64 (j : Int))).put 2 (.int .i64 (N : Int))).put 3 (.slice A5 d3.length c5)
  have e0 := RR.cell 0; have e1 := RR.cell 1; have e2 := RR.cell 2; have e3 := RR.cell 3
  refine bodyPost_ret (v := .agg #[.int .i64 x, .int .i64 (j : Int), .int .i64 (N : Int), .slice A5 d3.length c5]) (by simp [results, Tryz.results108, go_sem, e0, e1, e2, e3]) rfl ⟨_, (x, (j : Int), (N : Int), d3), rfl, Own.lower (putb (putb (putb (putb hOw (by omega) _) (by omega) _) (by omega) _) (by omega) _) (by omega), HOK.out, curs_put4 (curs_put4 (curs_put4 (curs_put4 hC4 hgs _) hgs _) hgs _) hgs _, gb_far4 (gb_far4 (gb_far4 (gb_far4 hGf (Nat.le_refl _) 0 _) (Nat.le_refl _) 1 _) (Nat.le_refl _) 2 _) (Nat.le_refl _) 3 _⟩
theorem own_awayB {w : World} {b i : Nat} {K : IntKind} {e : TypeId} {base : Nat} {v : Value} {l : List Int} (h : Own K e w base v l) (hb : v.ownBlock ≠ some b) (u : Value) : Own K e (w.setCell ⟨b, i, none⟩ u) base v l :=
  h.kept (gb_put (gb_self w b) i u) (.inr hb)
/-- The bounds of a drawn fragment. -/
def PcLim (q : DPiece) : Prop := (-1 ≤ q.1 ∧ q.1 ≤ 256) ∧ (-1 ≤ q.2.1 ∧ q.2.1 ≤ 9) ∧ (0 ≤ q.2.2.1 ∧ q.2.2.1 ≤ 9) ∧ q.2.2.2.length ≤ 21
set_option maxHeartbeats 4000000 in
theorem k_bentP {w : World} {g n c : Nat} {A : Option Addr} {l : List Int} (h : Curs w g A n c l) :
    Calls Tryz.prog 77 #[.pointer (some ⟨g, 0, none⟩)] w fun e w' => ∃ v q, e = .returned (.agg #[.int .i64 q.1, .int .i64 q.2.1, .int .i64 q.2.2.1, v]) ∧ Own .u8 5 w' w.heap.size v (q : DPiece).2.2.2 ∧ PcLim q ∧ Curs w' g A n c l ∧ w.grownBy w' (some g) := by
  obtain ⟨i0, hi0, hz0, hz1, hz2⟩ := info_parts info_by
  have hgs := h.size
  have hC0 : Curs (w.alloc (.cells #[.int .i64 0, .int .i64 0, .int .i64 0, .slice none 0 0] 37)) g A n c l := h.alloc _
  have hG0 : w.grownBy (w.alloc (.cells #[.int .i64 0, .int .i64 0, .int .i64 0, .slice none 0 0] 37)) (some g) := gb_alloc (gb_self w g) _
  have B0 : Box (w.alloc (.cells #[.int .i64 0, .int .i64 0, .int .i64 0, .slice none 0 0] 37)) w.heap.size 37 #[.int .i64 0, .int .i64 0, .int .i64 0, .slice none 0 0] := Box.new _ _ _
  have hne : some w.heap.size ≠ some g := fun e => by injection e with e; omega
  go_enter Tryz.func77, Tryz.ntmps77
  go_wp2_with fail
  refine (k_piece hC0).mono ?_
  rintro e w2 ⟨v2, q, rfl, hO2, hok, hC2, hG2⟩
  have h8 := pc_le8 hok
  obtain ⟨A2, c2, rfl, -⟩ := hO2.shape
  obtain ⟨x0, x1, x2, qd⟩ := q
  dsimp only at h8 hO2 ⊢
  have B2 := B0.grown hG2 hne
  have z2 := B2.size
  obtain ⟨pb, hpb⟩ : ∃ pb, w2.heap.size = pb := ⟨_, rfl⟩
  obtain ⟨w3, hw3⟩ : ∃ w3, w2.alloc (.cells #[.int .i64 x0, .int .i64 x1, .int .i64 x2, .slice A2 qd.length c2] 37) = w3 := ⟨_, rfl⟩
  have B3 : Box w3 w.heap.size 37 #[.int .i64 0, .int .i64 0, .int .i64 0, .slice none 0 0] := by rw [← hw3]; exact B2.alloc _
  have P3 : Box w3 pb 37 #[.int .i64 x0, .int .i64 x1, .int .i64 x2, .slice A2 qd.length c2] := by rw [← hw3, ← hpb]; exact Box.new _ _ _
  have O3 : Own .u8 5 w3 (w.heap.size + 1) (.slice A2 qd.length c2) qd := by rw [← hw3]; simpa using hO2.alloc _
  have hpo : ∀ b, (Value.slice A2 qd.length c2).ownBlock = some b → b < pb := fun b hb => by have := (hO2.block hb).2; omega
  have hC3 : Curs w3 g A n c l := by rw [← hw3]; exact hC2.alloc _
  have G3 : w.grownBy w3 (some g) := by rw [← hw3]; exact gb_alloc (gb_trans hG0 hG2) _
  have hnp : some pb ≠ some g := fun e => by injection e with e; have := hC2.size; omega
  have hpw : w.heap.size < pb := by omega
  go_wp2_with fail
  clear hpb hw3 hO2 hok hC2 hG2 B2 hC0 hG0 B0
  refine (k_Once w3 6 hC3 (gb_self w3 g) (by omega) (by omega)).mono ?_
  rintro e w5 ⟨b, rfl, hC5, hG5⟩
  have B5 := B3.grown hG5 hne
  have P5 := P3.grown hG5 hnp
  have O5 := own_draw4 O3 hG5 (by omega)
  have G5 := gb_trans G3 hG5
  have z5 := hG5.size
  have z5p := P5.size
  clear B3 P3 O3 G3 hC3
  cases b with
  | false =>
    have y0 := B5.cell 0; have y1 := B5.cell 1; have y2 := B5.cell 2; have y3 := B5.cell 3; have f0 := B5.frozen 0; have f1 := B5.frozen 1; have f2 := B5.frozen 2; have f3 := B5.frozen 3
    have j0 := P5.cell 0; have j1 := P5.cell 1; have j2 := P5.cell 2; have j3 := P5.cell 3
    go_wp2
    have RR := (((B5.put 0 (.int .i64 x0)).put 1 (.int .i64 x1)).put 2 (.int .i64 x2)).put 3 (.slice A2 qd.length c2)
    have e0 := RR.cell 0; have e1 := RR.cell 1; have e2 := RR.cell 2; have e3 := RR.cell 3
    refine bodyPost_ret (v := .agg #[.int .i64 x0, .int .i64 x1, .int .i64 x2, .slice A2 qd.length c2]) (by simp [results, Tryz.results77, go_sem, e0, e1, e2, e3]) rfl ⟨_, (x0, x1, x2, qd), rfl, Own.lower (putb (putb (putb (putb O5 (by omega) _) (by omega) _) (by omega) _) (by omega) _) (by omega), ⟨⟨by show -1 ≤ x0; omega, by show x0 ≤ 256; omega⟩, ⟨by show -1 ≤ x1; omega, by show x1 ≤ 9; omega⟩, ⟨by show 0 ≤ x2; omega, by show x2 ≤ 9; omega⟩, by show qd.length ≤ 21; omega⟩, curs_put4 (curs_put4 (curs_put4 (curs_put4 hC5 hgs _) hgs _) hgs _) hgs _, gb_far4 (gb_far4 (gb_far4 (gb_far4 G5 (Nat.le_refl _) 0 _) (Nat.le_refl _) 1 _) (Nat.le_refl _) 2 _) (Nat.le_refl _) 3 _⟩
  | true =>
    go_wp2_with fail
    refine (k_Below w5 4 hC5 (gb_self w5 g) (by omega) (by omega)).mono ?_
    rintro e w6 ⟨x, rfl, hx0, hx1, hC6, hG6⟩
    have B6 := B5.grown hG6 hne
    have P6 := P5.grown hG6 hnp
    have O6 := own_draw4 O5 hG6 (by omega)
    have G6 := gb_trans G5 hG6
    have z6 := hG6.size
    have z6p := P6.size
    have hC6s := hC6.size
    clear B5 P5 O5 G5 hC5
    have hx : x = 0 ∨ x = 1 ∨ x = 2 ∨ x = 3 := by omega
    clear hx0 hx1
    rcases hx with rfl | rfl | rfl | rfl
    · have hc : ∀ i, i < 3 → (w6.alloc (.cells #[.int .i64 (-1), .int .i64 255, .int .i64 256] 3)).cell? ⟨w6.heap.size, 0 + i, none⟩ = some (.int .i64 (([-1, 255, 256] : List Int).getD i 0)) := rowcells4 w6 3 [-1, 255, 256]
      go_wp2_with fail
      refine (k_Pick (L := some ⟨w6.heap.size, 0, none⟩) (m := 3) (d := 3) (zs := [-1, 255, 256]) w6 (Curs.alloc hC6 _) (gb_alloc (gb_self w6 g) _) ⟨w6.heap.size, 0, rfl, by omega, by simp, hc⟩ (by omega) (by omega) rfl).mono ?_
      rintro e w7 ⟨y, rfl, hy, hC7, hG7⟩
      have hy2 : -1 ≤ y ∧ y ≤ 256 := by simp only [List.mem_cons, List.not_mem_nil, or_false] at hy; omega
      have B7 := B6.grown hG7 hne
      have P7 := P6.grown hG7 hnp
      have O7 := own_draw4 O6 hG7 (by omega)
      have G7 := gb_trans G6 hG7
      have z7 := hG7.size
      have k0 := P7.cell 0; have k1 := P7.cell 1; have k2 := P7.cell 2; have k3 := P7.cell 3; have g0 := P7.frozen 0; have g1 := P7.frozen 1; have g2 := P7.frozen 2
      clear hc hy
      have P8 := P7.put 0 (.int .i64 y)
      have B8 := B7.far (p := ⟨pb, 0, none⟩) (by show w.heap.size ≠ pb; omega) (.int .i64 y)
      have O8 := own_awayB (b := pb) (i := 0) O7 (fun e => by have := hpo _ e; omega) (.int .i64 y)
      have C8 := curs_put4 (b := pb) (i := 0) hC7 (by omega) (.int .i64 y)
      have G8 := gb_far4 (b := pb) G7 (by omega) 0 (.int .i64 y)
      clear B7 P7 O7 hC7 G7
      have y0 := B8.cell 0; have y1 := B8.cell 1; have y2 := B8.cell 2; have y3 := B8.cell 3; have f0 := B8.frozen 0; have f1 := B8.frozen 1; have f2 := B8.frozen 2; have f3 := B8.frozen 3
      have j0 := P8.cell 0; have j1 := P8.cell 1; have j2 := P8.cell 2; have j3 := P8.cell 3
      go_wp2
      have RR := (((B8.put 0 (.int .i64 y)).put 1 (.int .i64 x1)).put 2 (.int .i64 x2)).put 3 (.slice A2 qd.length c2)
      have e0 := RR.cell 0; have e1 := RR.cell 1; have e2 := RR.cell 2; have e3 := RR.cell 3
      refine bodyPost_ret (v := .agg #[.int .i64 y, .int .i64 x1, .int .i64 x2, .slice A2 qd.length c2]) (by simp [results, Tryz.results77, go_sem, e0, e1, e2, e3]) rfl ⟨_, (y, x1, x2, qd), rfl, Own.lower (putb (putb (putb (putb O8 (by omega) _) (by omega) _) (by omega) _) (by omega) _) (by omega), ⟨⟨by show -1 ≤ y; omega, by show y ≤ 256; omega⟩, ⟨by show -1 ≤ x1; omega, by show x1 ≤ 9; omega⟩, ⟨by show 0 ≤ x2; omega, by show x2 ≤ 9; omega⟩, by show qd.length ≤ 21; omega⟩, curs_put4 (curs_put4 (curs_put4 (curs_put4 C8 hgs _) hgs _) hgs _) hgs _, gb_far4 (gb_far4 (gb_far4 (gb_far4 G8 (Nat.le_refl _) 0 _) (Nat.le_refl _) 1 _) (Nat.le_refl _) 2 _) (Nat.le_refl _) 3 _⟩
    · have k2 := P6.cell 2
      have hc : ∀ i, i < 3 → (w6.alloc (.cells #[.int .i64 (-1), .int .i64 0, .int .i64 x2] 3)).cell? ⟨w6.heap.size, 0 + i, none⟩ = some (.int .i64 (([-1, 0, x2] : List Int).getD i 0)) := rowcells4 w6 3 [-1, 0, x2]
      go_wp2_with fail
      refine (k_Pick (L := some ⟨w6.heap.size, 0, none⟩) (m := 3) (d := 3) (zs := [-1, 0, x2]) w6 (Curs.alloc hC6 _) (gb_alloc (gb_self w6 g) _) ⟨w6.heap.size, 0, rfl, by omega, by simp, hc⟩ (by omega) (by omega) rfl).mono ?_
      rintro e w7 ⟨y, rfl, hy, hC7, hG7⟩
      have hy2 : -1 ≤ y ∧ y ≤ 9 := by simp only [List.mem_cons, List.not_mem_nil, or_false] at hy; omega
      have B7 := B6.grown hG7 hne
      have P7 := P6.grown hG7 hnp
      have O7 := own_draw4 O6 hG7 (by omega)
      have G7 := gb_trans G6 hG7
      have z7 := hG7.size
      clear k2
      have k0 := P7.cell 0; have k1 := P7.cell 1; have k2 := P7.cell 2; have k3 := P7.cell 3; have g0 := P7.frozen 0; have g1 := P7.frozen 1; have g2 := P7.frozen 2
      clear hc hy
      have P8 := P7.put 1 (.int .i64 y)
      have B8 := B7.far (p := ⟨pb, 1, none⟩) (by show w.heap.size ≠ pb; omega) (.int .i64 y)
      have O8 := own_awayB (b := pb) (i := 1) O7 (fun e => by have := hpo _ e; omega) (.int .i64 y)
      have C8 := curs_put4 (b := pb) (i := 1) hC7 (by omega) (.int .i64 y)
      have G8 := gb_far4 (b := pb) G7 (by omega) 1 (.int .i64 y)
      clear B7 P7 O7 hC7 G7
      have y0 := B8.cell 0; have y1 := B8.cell 1; have y2 := B8.cell 2; have y3 := B8.cell 3; have f0 := B8.frozen 0; have f1 := B8.frozen 1; have f2 := B8.frozen 2; have f3 := B8.frozen 3
      have j0 := P8.cell 0; have j1 := P8.cell 1; have j2 := P8.cell 2; have j3 := P8.cell 3
      go_wp2
      have RR := (((B8.put 0 (.int .i64 x0)).put 1 (.int .i64 y)).put 2 (.int .i64 x2)).put 3 (.slice A2 qd.length c2)
      have e0 := RR.cell 0; have e1 := RR.cell 1; have e2 := RR.cell 2; have e3 := RR.cell 3
      refine bodyPost_ret (v := .agg #[.int .i64 x0, .int .i64 y, .int .i64 x2, .slice A2 qd.length c2]) (by simp [results, Tryz.results77, go_sem, e0, e1, e2, e3]) rfl ⟨_, (x0, y, x2, qd), rfl, Own.lower (putb (putb (putb (putb O8 (by omega) _) (by omega) _) (by omega) _) (by omega) _) (by omega), ⟨⟨by show -1 ≤ x0; omega, by show x0 ≤ 256; omega⟩, ⟨by show -1 ≤ y; omega, by show y ≤ 9; omega⟩, ⟨by show 0 ≤ x2; omega, by show x2 ≤ 9; omega⟩, by show qd.length ≤ 21; omega⟩, curs_put4 (curs_put4 (curs_put4 (curs_put4 C8 hgs _) hgs _) hgs _) hgs _, gb_far4 (gb_far4 (gb_far4 (gb_far4 G8 (Nat.le_refl _) 0 _) (Nat.le_refl _) 1 _) (Nat.le_refl _) 2 _) (Nat.le_refl _) 3 _⟩
    · have hc : ∀ i, i < 3 → (w6.alloc (.cells #[.int .i64 0, .int .i64 8, .int .i64 9] 3)).cell? ⟨w6.heap.size, 0 + i, none⟩ = some (.int .i64 (([0, 8, 9] : List Int).getD i 0)) := rowcells4 w6 3 [0, 8, 9]
      go_wp2_with fail
      refine (k_Pick (L := some ⟨w6.heap.size, 0, none⟩) (m := 3) (d := 3) (zs := [0, 8, 9]) w6 (Curs.alloc hC6 _) (gb_alloc (gb_self w6 g) _) ⟨w6.heap.size, 0, rfl, by omega, by simp, hc⟩ (by omega) (by omega) rfl).mono ?_
      rintro e w7 ⟨y, rfl, hy, hC7, hG7⟩
      have hy2 : 0 ≤ y ∧ y ≤ 9 := by simp only [List.mem_cons, List.not_mem_nil, or_false] at hy; omega
      have B7 := B6.grown hG7 hne
      have P7 := P6.grown hG7 hnp
      have O7 := own_draw4 O6 hG7 (by omega)
      have G7 := gb_trans G6 hG7
      have z7 := hG7.size
      have k0 := P7.cell 0; have k1 := P7.cell 1; have k2 := P7.cell 2; have k3 := P7.cell 3; have g0 := P7.frozen 0; have g1 := P7.frozen 1; have g2 := P7.frozen 2
      clear hc hy
      have P8 := P7.put 2 (.int .i64 y)
      have B8 := B7.far (p := ⟨pb, 2, none⟩) (by show w.heap.size ≠ pb; omega) (.int .i64 y)
      have O8 := own_awayB (b := pb) (i := 2) O7 (fun e => by have := hpo _ e; omega) (.int .i64 y)
      have C8 := curs_put4 (b := pb) (i := 2) hC7 (by omega) (.int .i64 y)
      have G8 := gb_far4 (b := pb) G7 (by omega) 2 (.int .i64 y)
      clear B7 P7 O7 hC7 G7
      have y0 := B8.cell 0; have y1 := B8.cell 1; have y2 := B8.cell 2; have y3 := B8.cell 3; have f0 := B8.frozen 0; have f1 := B8.frozen 1; have f2 := B8.frozen 2; have f3 := B8.frozen 3
      have j0 := P8.cell 0; have j1 := P8.cell 1; have j2 := P8.cell 2; have j3 := P8.cell 3
      go_wp2
      have RR := (((B8.put 0 (.int .i64 x0)).put 1 (.int .i64 x1)).put 2 (.int .i64 y)).put 3 (.slice A2 qd.length c2)
      have e0 := RR.cell 0; have e1 := RR.cell 1; have e2 := RR.cell 2; have e3 := RR.cell 3
      refine bodyPost_ret (v := .agg #[.int .i64 x0, .int .i64 x1, .int .i64 y, .slice A2 qd.length c2]) (by simp [results, Tryz.results77, go_sem, e0, e1, e2, e3]) rfl ⟨_, (x0, x1, y, qd), rfl, Own.lower (putb (putb (putb (putb O8 (by omega) _) (by omega) _) (by omega) _) (by omega) _) (by omega), ⟨⟨by show -1 ≤ x0; omega, by show x0 ≤ 256; omega⟩, ⟨by show -1 ≤ x1; omega, by show x1 ≤ 9; omega⟩, ⟨by show 0 ≤ y; omega, by show y ≤ 9; omega⟩, by show qd.length ≤ 21; omega⟩, curs_put4 (curs_put4 (curs_put4 (curs_put4 C8 hgs _) hgs _) hgs _) hgs _, gb_far4 (gb_far4 (gb_far4 (gb_far4 G8 (Nat.le_refl _) 0 _) (Nat.le_refl _) 1 _) (Nat.le_refl _) 2 _) (Nat.le_refl _) 3 _⟩
    · have k3 := P6.cell 3; have f3 := P6.frozen 3
      go_wp2_with (at_builtin; refine wpList_app _ rfl (.tmp 11) (.tmp 12) _ rfl (w.heap.size + 1) 5 i0 _ 1 1 Tryz.underlying26 hi0 hz0 hz1 hz2 rfl (by omega) _ _ _ rfl (O6.1.alloc _) _ 1 1 [.int .u8 1] rfl (Src.one _ _ _) (one_int _ _) (by simp only [maxLen]; omega) (by omega) (by simp; omega) ?_; intro v7 w7 hown hgr hat; have P7 := (P6.alloc (.cells #[.int .u8 1] 5)).grown hgr (fun e => by have := hpo _ e.symm; omega); have O7 := own_sn O6 hown rfl (by decide); obtain ⟨A7, c7, hv7, -⟩ := O7.shape; obtain ⟨n7, hn7⟩ : ∃ m, (qd ++ [1]).length = m := ⟨_, rfl⟩; rw [hn7] at hv7; subst hv7; have k7 := P7.cell 3; have f7 := P7.frozen 3; have B7 := (B6.alloc (.cells #[.int .u8 1] 5)).grown hgr (fun e => by have := (O6.block e.symm).1; omega); have P8 := P7.put 3 (.slice A7 n7 c7); have B8 := B7.far (p := ⟨pb, 3, none⟩) (by show w.heap.size ≠ pb; omega) (.slice A7 n7 c7); have j0 := P8.cell 0; have j1 := P8.cell 1; have j2 := P8.cell 2; have j3 := P8.cell 3; have y0 := B8.cell 0; have y1 := B8.cell 1; have y2 := B8.cell 2; have y3 := B8.cell 3; have h0 := B8.frozen 0; have h1 := B8.frozen 1; have h2 := B8.frozen 2; have h3 := B8.frozen 3)
      have C7 := curs_new4 hC6 hgr (B := w.heap.size) hgs (by omega) (fun r hr => by have := (O6.block hr).1; omega)
      have G7 := gb_over4 (gb_alloc G6 (.cells #[.int .u8 1] 5)) hgr (fun r hr => by have := (O6.block hr).1; omega)
      have O8 := own_awayB (b := pb) (i := 3) O7 (fun e => by rcases hat with h | h; · have := hpo _ (h.symm.trans e); omega
                                                              · have e2 := h.symm.trans e; injection e2 with e2; simp at e2; omega) (.slice A7 n7 c7)
      have C8 := curs_put4 (b := pb) (i := 3) C7 (by omega) (.slice A7 n7 c7)
      have G8 := gb_far4 (b := pb) G7 (by omega) 3 (.slice A7 n7 c7)
      have hql : (qd ++ [1]).length ≤ 21 := by rw [List.length_append]; simp; omega
      clear B7 P7 O7 C7 G7
      have RR := (((B8.put 0 (.int .i64 x0)).put 1 (.int .i64 x1)).put 2 (.int .i64 x2)).put 3 (.slice A7 n7 c7)
      have e0 := RR.cell 0; have e1 := RR.cell 1; have e2 := RR.cell 2; have e3 := RR.cell 3
      refine bodyPost_ret (v := .agg #[.int .i64 x0, .int .i64 x1, .int .i64 x2, .slice A7 n7 c7]) (by simp [results, Tryz.results77, go_sem, e0, e1, e2, e3]) rfl ⟨_, (x0, x1, x2, qd ++ [1]), rfl, Own.lower (putb (putb (putb (putb O8 (by omega) _) (by omega) _) (by omega) _) (by omega) _) (by omega), ⟨⟨by show -1 ≤ x0; omega, by show x0 ≤ 256; omega⟩, ⟨by show -1 ≤ x1; omega, by show x1 ≤ 9; omega⟩, ⟨by show 0 ≤ x2; omega, by show x2 ≤ 9; omega⟩, hql⟩, curs_put4 (curs_put4 (curs_put4 (curs_put4 C8 hgs _) hgs _) hgs _) hgs _, gb_far4 (gb_far4 (gb_far4 (gb_far4 G8 (Nat.le_refl _) 0 _) (Nat.le_refl _) 1 _) (Nat.le_refl _) 2 _) (Nat.le_refl _) 3 _⟩
set_option maxHeartbeats 2000000 in
theorem d_Split {w : World} {n c : Nat} {A : Option Addr} {l : List Int} (hl : Ints .u8 w w.heap.size A n l) (hn : n ≤ 140737488355328) :
    Calls Tryz.prog 31 #[.slice A n c] w fun e w' => ∃ x A' c' m, e = .returned (.tuple #[.int .i64 x, .slice A' m.length c']) ∧ (-1 ≤ x ∧ x ≤ 256) ∧ tBy.R w' w'.heap.size [.slice A' (m : List Int).length c'] m ∧ m.length ≤ 161 ∧ Below w.heap.size w w' := by
  obtain ⟨j0, hj0, hyz0, hyz1, hyz2⟩ := info_parts info_by
  go_enter Tryz.func31, Tryz.ntmps31
  go_wp2_with fail
  refine (k_New hl hn).mono ?_
  rintro e w1 ⟨g, rfl, hg, hC1, hB1⟩
  go_wp2_with fail
  refine (k_msg hC1).mono ?_
  rintro e w2 ⟨v2, m, rfl, hO2, hm, hC2, hG2⟩
  have hB2 := below_gb2 hB1 hg hG2
  have z1 := hC1.size
  have z2 := hG2.size
  obtain ⟨A2, c2, rfl, -⟩ := hO2.shape
  go_wp2_with fail
  refine (k_Once w2 12 hC2 (gb_self w2 g) (by omega) (by omega)).mono ?_
  rintro e w3 ⟨b, rfl, hC3, hG3⟩
  have hB3 := below_gb2 hB2 hg hG3
  have O3 := own_draw4 hO2 hG3 (by omega)
  have z3 := hC3.size
  have z3w := hB3.size
  clear hO2 hC1 hC2
  cases b with
  | false =>
    have hc : ∀ i, i < 5 → (w3.alloc (.cells #[.int .i64 0, .int .i64 255, .int .i64 256, .int .i64 (-1), .int .i64 9] 3)).cell? ⟨w3.heap.size, 0 + i, none⟩ = some (.int .i64 (([0, 255, 256, -1, 9] : List Int).getD i 0)) := rowcells4 w3 3 [0, 255, 256, -1, 9]
    go_wp2_with fail
    refine (k_Pick (L := some ⟨w3.heap.size, 0, none⟩) (m := 5) (d := 5) (zs := [0, 255, 256, -1, 9]) w3 (Curs.alloc hC3 _) (gb_alloc (gb_self w3 g) _) ⟨w3.heap.size, 0, rfl, by omega, by simp, hc⟩ (by omega) (by omega) rfl).mono ?_
    rintro e w7 ⟨y, rfl, hy, hC7, hG7⟩
    have hy2 : -1 ≤ y ∧ y ≤ 256 := by simp only [List.mem_cons, List.not_mem_nil, or_false] at hy; omega
    have O7 := own_draw4 O3 hG7 (by omega)
    have hB7 := below_gb2 hB3 hg hG7
    clear hc hy
    go_wp2
    go_ret2
    exact ⟨y, _, _, m, rfl, hy2, own_R4 O7, by omega, hB7⟩
  | true =>
    go_wp2_with (at_make; refine wpList_mk _ rfl (.const (.int .i64 161)) (.const (.int .i64 161)) _ rfl 5 j0 _ Tryz.underlying26 hj0 hyz0 rfl hyz1 161 rfl rfl (by rw [hyz2]; omega) (by simp only [maxLen]; omega) ?_; intro w4 hrow hb4 hsz)
    have O4 : Own .u8 5 w4 w.heap.size (.slice (some ⟨w3.heap.size, 0, none⟩) 161 161) (List.replicate 161 0) :=
      Own.of_row (hrow.congr fun j hj => by rw [List.getD_eq_getElem?_getD, List.getElem?_replicate, if_pos hj]; rfl) (by simp) (by simp only [maxLen]; omega) z3w (fun x hx => by rw [List.eq_of_mem_replicate hx]; decide)
    have O4 := O4.raise (base' := w3.heap.size) (fun b hb => by injection hb with hb; have hb : w3.heap.size = b := hb; omega)
    have C4 := hC3.below hb4 z3
    have B4 := bel_trans hB3 hb4
    have z4 := C4.size
    obtain ⟨G, hG⟩ : ∃ G, w3.heap.size = G := ⟨_, rfl⟩
    rw [hG] at O4 z3 ⊢
    clear hrow hG hb4 hsz O3 hC3
    have hc : ∀ i, i < 5 → (w4.alloc (.cells #[.int .i64 0, .int .i64 255, .int .i64 256, .int .i64 (-1), .int .i64 9] 3)).cell? ⟨w4.heap.size, 0 + i, none⟩ = some (.int .i64 (([0, 255, 256, -1, 9] : List Int).getD i 0)) := rowcells4 w4 3 [0, 255, 256, -1, 9]
    go_wp2_with fail
    refine (k_Pick (L := some ⟨w4.heap.size, 0, none⟩) (m := 5) (d := 5) (zs := [0, 255, 256, -1, 9]) w4 (Curs.alloc C4 _) (gb_alloc (gb_self w4 g) _) ⟨w4.heap.size, 0, rfl, by omega, by simp, hc⟩ (by omega) (by omega) rfl).mono ?_
    rintro e w7 ⟨y, rfl, hy, hC7, hG7⟩
    have hy2 : -1 ≤ y ∧ y ≤ 256 := by simp only [List.mem_cons, List.not_mem_nil, or_false] at hy; omega
    have O7 := own_draw4 O4 hG7 (by omega)
    have hB7 := below_gb2 B4 hg hG7
    clear hc hy
    go_wp2
    go_ret2
    refine ⟨y, some ⟨G, 0, none⟩, 161, (List.replicate 161 0), rfl, hy2, by have := own_R4 O7; simpa using this, by simp, hB7⟩
end Go.Proofs.YtaabmaoldhoinaaGreat
namespace Go.Proofs.YtaabmaoldhoinaaGreat
set_option linter.unusedVariables false
open Go.RowKit
/-- Two worlds are alike in the blocks from K on, up to B. -/
def Alike (K B : Nat) (w w' : World) : Prop := ∀ b, K ≤ b → b < B → w'.heap[b]? = w.heap[b]?
theorem Alike.below {K B : Nat} {w w' : World} (h : Below B w w') : Alike K B w w' := fun b _ hb => h.block b hb
theorem Alike.grown {K B g : Nat} {w w' : World} (h : w.grownBy w' (some g)) (hg : g < K) (hB : B ≤ w.heap.size) : Alike K B w w' := fun b h1 h2 => h.block b (by omega) (fun e => by injection e with e; omega)
theorem Alike.put {K B : Nat} (w : World) {p : Addr} (hp : p.block < K) (u : Value) : Alike K B w (w.setCell p u) := fun b h1 _ => Below.heap_setCell w p u b (by omega)
section
variable {α : Type} {t : Ty α} {w w' : World} {K K' B B' : Nat} {cs : List Value} {a : α}
def XT (K : Nat) (t : Ty α) : Ty α where
  k := t.k
  R := fun w B cs a => ∀ w', Alike K B w w' → t.R w' B cs a
  O := fun _ _ _ _ => False
  lenR := fun h => t.lenR (h _ (fun _ _ _ => rfl))
  lenO := fun h => h.elim
  keep := fun h hk w' ha => h w' (fun b h1 h2 => (ha b h1 h2).trans (hk b h2))
  up := fun h hB w' ha => t.up (h w' (fun b h1 h2 => ha b h1 (Nat.lt_of_lt_of_le h2 hB))) hB
  kept := fun h => h.elim
  lt := fun h => h.elim
  read := fun h => h.elim
theorem xt_R (h : (XT K t).R w B cs a) : t.R w B cs a := h w (fun _ _ _ => rfl)
theorem xt_keep (h : (XT K t).R w B cs a) (ha : Alike K B w w') : (XT K t).R w' B cs a := fun w2 h2 => h w2 (fun b h1 h3 => (h2 b h1 h3).trans (ha b h1 h3))
theorem xt_low (h : (XT K t).R w B cs a) (hK : K' ≤ K) : (XT K' t).R w B cs a := fun w2 h2 => h w2 (fun b h1 h3 => h2 b (Nat.le_trans hK h1) h3)
theorem xt_at (h : (XT K t).R w w.heap.size cs a) (ha : Alike K w.heap.size w w') (hs : w.heap.size ≤ w'.heap.size) : (XT K t).R w' w'.heap.size cs a := (XT K t).up (xt_keep h ha) hs
/-- A row that hangs on no block below K, nor do its elements. -/
def RowX (K : Nat) (t : Ty α) (w : World) (v : Value) (l : List α) : Prop := (XT K t).row.R w w.heap.size [v] l ∧ (0 < l.length → ∀ b, v.ownBlock = some b → K ≤ b)
theorem RowX.nil (K : Nat) (t : Ty α) (w : World) : RowX K t w (.slice none 0 0) [] := ⟨⟨none, 0, 0, rfl, Nat.le_refl _, by omega, rfl, fun h => absurd h (by omega)⟩, fun h => absurd h (by simp)⟩
theorem RowX.below {v : Value} {l : List α} (h : RowX K t w v l) (hB : Below w.heap.size w w') : RowX K t w' v l := ⟨(XT K t).row.reach h.1 hB, h.2⟩
theorem RowX.at {v : Value} {l : List α} (h : RowX K t w v l) (ha : Alike K w.heap.size w w') (hs : w.heap.size ≤ w'.heap.size) : RowX K t w' v l := by
  obtain ⟨⟨A, n, c, e, h1, h2, h3, h4⟩, h5⟩ := h
  refine ⟨⟨A, n, c, e, h1, h2, h3, fun h0 => ?_⟩, h5⟩
  obtain ⟨b, off, rfl, hb, hc⟩ := h4 h0
  injection e with e _
  have hne : K ≤ b := h5 (by omega) b (by rw [e]; rfl)
  refine ⟨b, off, rfl, Nat.lt_of_lt_of_le hb hs, fun i a' ha' => ?_⟩
  obtain ⟨es, k1, k2⟩ := hc i a' ha'
  refine ⟨es, fun j hj => ?_, xt_at k2 ha hs⟩
  rw [← k1 j hj]
  exact World.cell?_of_block (ha b hne hb)
theorem RowX.plain {v : Value} {l : List α} (h : RowX K t w v l) : t.row.R w w.heap.size [v] l := by
  obtain ⟨⟨A, n, c, e, h1, h2, h3, h4⟩, -⟩ := h
  refine ⟨A, n, c, e, h1, h2, h3, fun h0 => ?_⟩
  obtain ⟨b, off, e1, hb, hc⟩ := h4 h0
  refine ⟨b, off, e1, hb, fun i a' ha => ?_⟩
  obtain ⟨es, k1, k2⟩ := hc i a' ha
  exact ⟨es, k1, xt_R k2⟩
end
theorem slX_O {K : IntKind} {w : World} {g : Nat} {cs : List Value} {l : List Int} {F : List Nat} (h : (tSl K).O w cs l F) (hF : ∀ f ∈ F, g ≤ f) : (XT g (tSl K)).R w w.heap.size cs l := by
  intro w' ha
  rcases h with ⟨A, c, e, hc, rfl, rfl⟩ | ⟨gg, off, c, cur, et, e, h0, h2, h3, hg, h4, h5, rfl⟩
  · exact ⟨A, 0, c, e, Nat.zero_le _, hc, Ints.nil⟩
  · have hlt := Box.size (t := et) hg
    have hg' : Box w' gg et cur := (ha gg (hF gg (by simp)) hlt).trans hg
    exact ⟨_, _, c, e, h2, h3, rfl, fun _ => ⟨gg, off, rfl, hlt, fun i hi => by rw [hg'.cell]; exact h4 i hi⟩, h5⟩
theorem slX_own {K : IntKind} {e : TypeId} {w : World} {base g : Nat} {v : Value} {l : List Int} (h : Own K e w base v l) (hb : g ≤ base) : (XT g (tSl K)).R w w.heap.size [v] l := by
  obtain ⟨F, hF, hN⟩ := h.tSl
  exact slX_O hF (fun f hf => Nat.le_trans hb (hN.2 f hf))
theorem slX_nil {K : IntKind} (g : Nat) (w : World) : (XT g (tSl K)).R w w.heap.size [.slice none 0 0] [] := fun w' _ => ⟨none, 0, 0, rfl, Nat.le_refl _, by omega, Ints.nil⟩
end Go.Proofs.YtaabmaoldhoinaaGreat
namespace Go.Proofs.YtaabmaoldhoinaaGreat
set_option linter.unusedVariables false
open Go.RowKit
/-- t's readings hang on no block below K. -/
def Firm {α : Type} (K : Nat) (t : Ty α) : Prop := ∀ (w w' : World) (B : Nat) (cs : List Value) (a : α), t.R w B cs a → Alike K B w w' → t.R w' B cs a
section
variable {α β : Type} {s : Ty β} {t : Ty α} {w w' : World} {K B base : Nat} {cs : List Value} {a : α} {v : Value} {l : List α} {e : TypeId}
theorem firm_xt (K : Nat) (t : Ty α) : Firm K (XT K t) := fun _ _ _ _ _ h ha => xt_keep h ha
theorem firm_prod (h : Firm K s) (k : Firm K t) : Firm K (s.prod t) := fun w w' B cs p h' ha => by
  obtain ⟨c1, c2, rfl, h1, h2⟩ := h'
  exact ⟨c1, c2, rfl, h _ _ _ _ _ h1 ha, k _ _ _ _ _ h2 ha⟩
theorem firm_int (K : Nat) : Firm K tInt := fun _ _ _ _ _ h _ => h
theorem Firm.at (h : Firm K t) (hR : t.R w w.heap.size cs a) (ha : Alike K w.heap.size w w') (hs : w.heap.size ≤ w'.heap.size) : t.R w' w'.heap.size cs a := t.up (h _ _ _ _ _ hR ha) hs
/-- A row whose own block is not below K. -/
def RX (K : Nat) (t : Ty α) : Ty (List α) where
  k := 1
  R := fun w B cs l => ∃ A n c, cs = [.slice A n c] ∧ n ≤ c ∧ c ≤ 9223372036854775807 ∧ l.length = n ∧ (0 < n → ∃ b off, A = some ⟨b, off, none⟩ ∧ K ≤ b ∧ b < B ∧
    ∀ i a, l[i]? = some a → ∃ es, (∀ j, j < t.k → w.cell? ⟨b, off + i * t.k + j, none⟩ = es[j]?) ∧ t.R w B es a)
  O := fun _ _ _ _ => False
  lenR := fun h => by obtain ⟨A, n, c, h1, _⟩ := h; rw [h1]; rfl
  lenO := fun h => h.elim
  keep := fun h hk => by
    obtain ⟨A, n, c, h1, h2, h3, h4, h5⟩ := h
    refine ⟨A, n, c, h1, h2, h3, h4, fun h0 => ?_⟩
    obtain ⟨b, off, e, hK, hb, hc⟩ := h5 h0
    refine ⟨b, off, e, hK, hb, fun i a hi => ?_⟩
    obtain ⟨es, k1, k2⟩ := hc i a hi
    exact ⟨es, fun j hj => (World.cell?_of_block (hk _ hb)).trans (k1 j hj), t.keep k2 hk⟩
  up := fun h hB => by
    obtain ⟨A, n, c, h1, h2, h3, h4, h5⟩ := h
    refine ⟨A, n, c, h1, h2, h3, h4, fun h0 => ?_⟩
    obtain ⟨b, off, e, hK, hb, hc⟩ := h5 h0
    refine ⟨b, off, e, hK, Nat.lt_of_lt_of_le hb hB, fun i a hi => ?_⟩
    obtain ⟨es, k1, k2⟩ := hc i a hi
    exact ⟨es, k1, t.up k2 hB⟩
  kept := fun h => h.elim
  lt := fun h => h.elim
  read := fun h => h.elim
theorem rx_row (h : (RX K t).R w B cs l) : t.row.R w B cs l := by
  obtain ⟨A, n, c, h1, h2, h3, h4, h5⟩ := h
  refine ⟨A, n, c, h1, h2, h3, h4, fun h0 => ?_⟩
  obtain ⟨b, off, e, hK, hb, hc⟩ := h5 h0
  exact ⟨b, off, e, hb, hc⟩
theorem firm_rx (h : Firm K t) : Firm K (RX K t) := fun w w' B cs l hR ha => by
  obtain ⟨A, n, c, h1, h2, h3, h4, h5⟩ := hR
  refine ⟨A, n, c, h1, h2, h3, h4, fun h0 => ?_⟩
  obtain ⟨b, off, e, hK, hb, hc⟩ := h5 h0
  refine ⟨b, off, e, hK, hb, fun i a hi => ?_⟩
  obtain ⟨es, k1, k2⟩ := hc i a hi
  exact ⟨es, fun j hj => (World.cell?_of_block (ha b hK hb)).trans (k1 j hj), h _ _ _ _ _ k2 ha⟩
theorem rx_of {A : Option Addr} {n c : Nat} (h : t.row.R w B [.slice A n c] l) (hK : 0 < n → ∀ b, (Value.slice A n c).ownBlock = some b → K ≤ b) : (RX K t).R w B [.slice A n c] l := by
  obtain ⟨A', n', c', h1, h2, h3, h4, h5⟩ := h
  injection h1 with h1 _
  injection h1 with e1 e2 e3
  subst e1 e2 e3
  refine ⟨A, n, c, rfl, h2, h3, h4, fun h0 => ?_⟩
  obtain ⟨b, off, e, hb, hc⟩ := h5 h0
  subst e
  exact ⟨b, off, rfl, hK h0 b rfl, hb, hc⟩
theorem rx_nil (K : Nat) (t : Ty α) (w : World) (B : Nat) : (RX K t).R w B [.slice none 0 0] [] := ⟨none, 0, 0, rfl, Nat.le_refl _, by omega, rfl, fun h => absurd h (by omega)⟩
/-- A row that has grown, of blocks from K on. -/
theorem GrowR.doneX {A : Option Addr} {n c : Nat} (h : GrowR t e w base B (.slice A n c) l) (hw : B ≤ w.heap.size) (hK : K ≤ base) : (RX K t).R w w.heap.size [.slice A n c] l :=
  rx_of (h.doneAs hw) fun _ b hb => Nat.le_trans hK (h.own b hb).1
theorem rx_len {A : Option Addr} {n c : Nat} (h : (RX K t).R w B [.slice A n c] l) : l.length = n ∧ n ≤ c ∧ c ≤ 9223372036854775807 := rowR_len (rx_row h)
theorem rx_at {A : Option Addr} {n c i k : Nat} (h : (RX K t).R w B [.slice A n c] l) (hi : i < n) (hk : t.k = k) : ∃ a b off es, l[i]? = some a ∧ A = some ⟨b, off, none⟩ ∧ b < B ∧ (∀ j, j < k → w.cell? ⟨b, off + i * k + j, none⟩ = es[j]?) ∧ t.R w B es a := rowR_at (rx_row h) hi hk
end
/-! ### what has been read once -/
/-- Readings that were had: they hang on no world. -/
def tFix {α : Type} (k : Nat) (P : List Value → α → Prop) (hP : ∀ cs a, P cs a → cs.length = k) : Ty α where
  k := k
  R := fun _ _ cs a => P cs a
  O := fun _ _ _ _ => False
  lenR := fun h => hP _ _ h
  lenO := fun h => h.elim
  keep := fun h _ => h
  up := fun h _ => h
  kept := fun h => h.elim
  lt := fun h => h.elim
  read := fun h => h.elim
section
variable {α : Type} {s t : Ty α} {w w' : World} {K B base : Nat} {cs : List Value} {a : α} {v : Value} {l : List α} {e : TypeId}
theorem row_cast (hk : s.k = t.k) (hm : ∀ es a, s.R w B es a → t.R w B es a) (h : s.row.R w B cs l) : t.row.R w B cs l := by
  obtain ⟨A, n, c, h1, h2, h3, h4, h5⟩ := h
  refine ⟨A, n, c, h1, h2, h3, h4, fun h0 => ?_⟩
  obtain ⟨b, off, e, hb, hc⟩ := h5 h0
  refine ⟨b, off, e, hb, fun i a hi => ?_⟩
  obtain ⟨es, k1, k2⟩ := hc i a hi
  exact ⟨es, by rw [← hk]; exact k1, hm _ _ k2⟩
theorem rx_cast (hk : s.k = t.k) (hm : ∀ es a, s.R w B es a → t.R w B es a) (h : (RX K s).R w B cs l) : (RX K t).R w B cs l := by
  obtain ⟨A, n, c, h1, h2, h3, h4, h5⟩ := h
  refine ⟨A, n, c, h1, h2, h3, h4, fun h0 => ?_⟩
  obtain ⟨b, off, e, hK, hb, hc⟩ := h5 h0
  refine ⟨b, off, e, hK, hb, fun i a hi => ?_⟩
  obtain ⟨es, k1, k2⟩ := hc i a hi
  exact ⟨es, by rw [← hk]; exact k1, hm _ _ k2⟩
theorem row_zero {A : Option Addr} {c : Nat} (hc : c ≤ 9223372036854775807) : t.row.R w B [.slice A 0 c] [] := ⟨A, 0, c, rfl, Nat.zero_le _, hc, rfl, fun h => absurd h (by omega)⟩
theorem row_part {b off n c : Nat} (h : t.row.R w B [.slice (some ⟨b, off, none⟩) n c] l) {i m c' k : Nat} (hi : i + m ≤ n) (hc : m ≤ c') (hc' : c' ≤ 9223372036854775807) (hk : t.k = k) : t.row.R w B [.slice (some ⟨b, off + i * k, none⟩) m c'] ((l.drop i).take m) := by
  subst hk
  obtain ⟨A, n', c1, h1, h2, h3, h4, h5⟩ := h
  injection h1 with h1 _
  injection h1 with e1 e2 e3
  subst e1 e2 e3
  refine ⟨_, m, c', rfl, hc, hc', by rw [List.length_take, List.length_drop, h4]; omega, fun h0 => ?_⟩
  obtain ⟨b', off', e, hb, hcell⟩ := h5 (by omega)
  injection e with e
  injection e with e1 e2
  subst e1 e2
  refine ⟨b, off + i * t.k, rfl, hb, fun q a ha => ?_⟩
  have hq := (List.getElem?_eq_some_iff.1 ha).1
  rw [List.length_take] at hq
  rw [List.getElem?_take, if_pos (by omega), List.getElem?_drop] at ha
  obtain ⟨es, k1, k2⟩ := hcell (i + q) a ha
  refine ⟨es, fun j hj => ?_, k2⟩
  rw [← k1 j hj, Nat.add_mul]
  congr 2
  omega
theorem GrowR.lower {base' : Nat} (h : GrowR t e w base B v l) (hb : base' ≤ base) : GrowR t e w base' B v l := by
  obtain ⟨css, k1, k2, k3⟩ := h
  exact ⟨css, ⟨k1.1, k1.2.imp id (fun ⟨g, cap, cur, e1, hg, r⟩ => ⟨g, cap, cur, e1, Nat.le_trans hb hg, r⟩)⟩, k2, k3⟩
/-- A store into a block that is not the row's own. -/
theorem GrowR.putN (h : GrowR t e w base B v l) {p : Addr} (h1 : ∀ b, v.ownBlock = some b → b ≠ p.block) (h2 : B ≤ p.block) (u : Value) : GrowR t e (w.setCell p u) base B v l := by
  obtain ⟨css, k1, k2, k3⟩ := h
  refine ⟨css, k1.kept (row := some p.block) ⟨rfl, rfl, rfl, by simp [World.setCell], fun i hi hn => Below.heap_setCell w p u i (fun e => hn (by rw [e]))⟩ (.inr fun e => h1 _ e rfl), k2, fun i a es q1 q2 => t.keep (k3 i a es q1 q2) fun b hb => Below.heap_setCell w p u b (by omega)⟩
/-- The row's own block is no box of another kind of cells. -/
theorem own_not_box {g : Nat} {d : TypeId} {cells : Array Value} (hb : Box w g d cells) (h : GrowR t e w base B v l) (hne : (d == e) = false) : ∀ b, v.ownBlock = some b → b ≠ g := by
  intro b hv hbg
  subst hbg
  obtain ⟨css, h1, -, -⟩ := h
  rcases h1.2 with ⟨rfl, -⟩ | ⟨g', cap, cur, rfl, -, hg, -⟩
  · simp [Value.ownBlock] at hv
  · have e1 : g' = b := by simpa [Value.ownBlock] using hv
    subst e1
    have := hb.symm.trans hg
    injection this with this
    injection this with _ e2 _
    rw [e2] at hne
    simp at hne
end
/-! ### pieces, messages, desks -/
abbrev tPcX (K : Nat) : Ty DPiece := XT K tPiece
abbrev tWhX (K : Nat) : Ty DWhole := tInt.prod (tInt.prod (tInt.prod (RX K (tPcX K))))
abbrev tDkX (K : Nat) : Ty DDesk := (RX K (tWhX K)).prod (XT K tIs)
theorem firm_Pc (K : Nat) : Firm K (tPcX K) := firm_xt K _
theorem firm_Wh (K : Nat) : Firm K (tWhX K) := firm_prod (firm_int K) (firm_prod (firm_int K) (firm_prod (firm_int K) (firm_rx (firm_Pc K))))
theorem firm_Dk (K : Nat) : Firm K (tDkX K) := firm_prod (firm_rx (firm_Wh K)) (firm_xt K _)
section
variable {w : World} {K B : Nat} {cs : List Value}
theorem openWhX {p : DWhole} (h : (tWhX K).R w B cs p) : ∃ A n c, cs = [.int .i64 p.1, .int .i64 p.2.1, .int .i64 p.2.2.1, .slice A n c] ∧ (Lit.int .i64 p.1).wf = true ∧ (Lit.int .i64 p.2.1).wf = true ∧ (Lit.int .i64 p.2.2.1).wf = true ∧ n ≤ c ∧ c ≤ 9223372036854775807 ∧ p.2.2.2.length = n ∧ (RX K (tPcX K)).R w B [.slice A n c] p.2.2.2 := by
  obtain ⟨c1, c2, rfl, ⟨rfl, h1⟩, c3, c4, rfl, ⟨rfl, h2⟩, c5, c6, rfl, ⟨rfl, h3⟩, h4⟩ := h
  have h5 := h4
  obtain ⟨A, n, c, e, k1, k2, k3, -⟩ := h5
  have e' : c6 = [.slice A n c] := e
  subst e'
  exact ⟨A, n, c, rfl, h1, h2, h3, k1, k2, k3, h4⟩
theorem makeWhX {p : DWhole} {v : Value} (h1 : (Lit.int .i64 p.1).wf = true) (h2 : (Lit.int .i64 p.2.1).wf = true) (h3 : (Lit.int .i64 p.2.2.1).wf = true) (h4 : (RX K (tPcX K)).R w B [v] p.2.2.2) : (tWhX K).R w B [.int .i64 p.1, .int .i64 p.2.1, .int .i64 p.2.2.1, v] p :=
  ⟨_, _, rfl, ⟨rfl, h1⟩, _, _, rfl, ⟨rfl, h2⟩, _, _, rfl, ⟨rfl, h3⟩, h4⟩
theorem whX_R {p : DWhole} (h : (tWhX K).R w B cs p) : tWhole.R w B cs p := by
  obtain ⟨A, n, c, rfl, h1, h2, h3, -, -, -, h4⟩ := openWhX h
  exact makeWhole h1 h2 h3 (row_cast (s := tPcX K) rfl (fun _ _ => xt_R) (rx_row h4))
theorem openDkX {p : DDesk} (h : (tDkX K).R w B cs p) : ∃ A0 n0 c0 A1 n1 c1, cs = [.slice A0 n0 c0, .slice A1 n1 c1] ∧ p.1.length = n0 ∧ (RX K (tWhX K)).R w B [.slice A0 n0 c0] p.1 ∧ p.2.length = n1 ∧ (XT K tIs).R w B [.slice A1 n1 c1] p.2 := by
  obtain ⟨c1, c2, rfl, h1, h2⟩ := h
  have k1 := h1
  obtain ⟨A0, n0, c0, e0, -, -, e1, -⟩ := k1
  have e0' : c1 = [.slice A0 n0 c0] := e0
  subst e0'
  obtain ⟨A1, n1, c1, e2, -, -, hI⟩ := xt_R h2
  have e2' : c2 = [.slice A1 n1 c1] := e2
  subst e2'
  exact ⟨A0, n0, c0, A1, n1, c1, rfl, e1, h1, hI.1, h2⟩
theorem makeDkX {p : DDesk} {v0 v1 : Value} (h0 : (RX K (tWhX K)).R w B [v0] p.1) (h1 : (XT K tIs).R w B [v1] p.2) : (tDkX K).R w B [v0, v1] p := ⟨_, _, rfl, h0, h1⟩
theorem dkX_R {p : DDesk} (h : (tDkX K).R w B cs p) : tDesk.R w B cs p := by
  obtain ⟨A0, n0, c0, A1, n1, c1, rfl, -, h0, -, h1⟩ := openDkX h
  exact makeDesk (row_cast (s := tWhX K) rfl (fun _ _ => whX_R) (rx_row h0)) (xt_R h1)
end
end Go.Proofs.YtaabmaoldhoinaaGreat
