/-
  TpP, SplP, DrawFou, ImplTwo, LawTwo, PHeld, PPool, PD5, POwn, PMv5, LgO, EvPiece, EvWhole, PDeskI, Ext, LWholeS, POp: texts joined.
-/
import Derived.Test.YtaabmaoldhoinaaQGa
import Derived.Test.YtaabmaoldhoinaaQGb
import Derived.Test.YtaabmaoldhoinaaQMLgP
import Derived.Test.YtaabmaoldhoinaaQMMp
import Derived.BigQuiet
import Derived.CallsIn
import Derived.Deep.QuietTactic
import Derived.Deep.RegionHeld3
import Derived.Laws.BytesArg
import Derived.Lib.Bytes
import Derived.Lib.SlBytesConst
import Derived.LoopIn
import Derived.LoopNIn
import Derived.Outline
import Derived.OwnWalkIn
import Derived.RangeFuncBound
import Derived.RangeFuncBox
import Derived.RangeFuncCalls
import Derived.RangeFuncFrom
import Derived.RangeFuncLeaves
import Derived.RangeFuncNested
import Derived.ScopeJumps
import Derived.Shelf.Abstract
import Derived.Shelf.Bytes.SlSmallAll
import Derived.Shelf.RegionOpen
import Derived.StillTactics
import Derived.StillTail
import Derived.TacticsInMore
import Derived.WalkMore
namespace Go.Proofs.Ytaabmaoldhoinaa
set_option linter.unusedVariables false
open Go.RowKit
/-- q put into a list by its number; what has the same number goes. -/
def insB {α : Type} (f : α → Int) (q : α) (l : List α) : List α := (l.filter fun p => decide (f p < f q)) ++ q :: l.filter fun p => decide (f q < f p)
section
variable {α : Type} {f : α → Int} {q a : α} {l : List α} {j : Nat}
theorem asc_pairM (h : Asc (l.map f)) : l.Pairwise (fun a b => f a < f b) := List.pairwise_map.1 (asc_pw h)
theorem asc_ofM (h : l.Pairwise (fun a b => f a < f b)) : Asc (l.map f) := by
  intro i hi
  have h1 := List.pairwise_map.2 h
  rw [List.pairwise_iff_getElem] at h1
  have := h1 i (i + 1) (by omega) hi (by omega)
  rwa [List.getD_eq_getElem?_getD, List.getD_eq_getElem?_getD, List.getElem?_eq_getElem hi, List.getElem?_eq_getElem (by omega)]
theorem asc_ofL {l : List Int} (h : l.Pairwise (fun a b => a < b)) : Asc l := by
  have := asc_ofM (f := id) (l := l) h
  rwa [List.map_id] at this
theorem insB_pw (h : l.Pairwise (fun a b => f a < f b)) : (insB f q l).Pairwise (fun a b => f a < f b) := by
  unfold insB
  rw [List.pairwise_append, List.pairwise_cons]
  refine ⟨h.filter _, ⟨fun b hb => of_decide_eq_true (List.mem_filter.1 hb).2, h.filter _⟩, fun b hb c hc => ?_⟩
  have h1 := of_decide_eq_true (List.mem_filter.1 hb).2
  rcases List.mem_cons.1 hc with rfl | hc
  · exact h1
  · have h2 := of_decide_eq_true (List.mem_filter.1 hc).2; omega
theorem insB_mem {x : α} : x ∈ insB f q l ↔ x = q ∨ (x ∈ l ∧ f x ≠ f q) := by
  unfold insB
  rw [List.mem_append, List.mem_cons, List.mem_filter, List.mem_filter, decide_eq_true_iff, decide_eq_true_iff]
  constructor
  · rintro (⟨h1, h2⟩ | rfl | ⟨h1, h2⟩)
    · exact .inr ⟨h1, by omega⟩
    · exact .inl rfl
    · exact .inr ⟨h1, by omega⟩
  · rintro (rfl | ⟨h1, h2⟩)
    · exact .inr (.inl rfl)
    · by_cases h : f x < f q
      · exact .inl ⟨h1, h⟩
      · exact .inr (.inr ⟨h1, by omega⟩)
theorem insB_len_le (f : α → Int) (q : α) (l : List α) : (insB f q l).length ≤ l.length + 1 := by
  unfold insB
  induction l with
  | nil => simp
  | cons a l ih =>
    simp only [List.length_append, List.length_cons, List.filter_cons] at ih ⊢
    by_cases h1 : f a < f q
    · rw [if_pos (by simpa using h1), if_neg (by simp; omega)]; simp only [List.length_cons]; omega
    · rw [if_neg (by simpa using h1)]
      split
      · simp only [List.length_cons]; omega
      · omega
theorem insB_len (h : ∀ a ∈ l, f a ≠ f q) : (insB f q l).length = l.length + 1 := by
  unfold insB
  induction l with
  | nil => simp
  | cons a l ih =>
    have ih := ih fun b hb => h b (List.mem_cons_of_mem _ hb)
    have ha := h a (by simp)
    simp only [List.length_append, List.length_cons, List.filter_cons] at ih ⊢
    by_cases h1 : f a < f q
    · rw [if_pos (by simpa using h1), if_neg (by simp; omega)]; simp only [List.length_cons]; omega
    · rw [if_neg (by simpa using h1), if_pos (by simp; omega)]; simp only [List.length_cons]; omega
/-- Two ascending lists of the same things are the same. -/
theorem asc_same {l m : List α} (h : l.Pairwise (fun a b => f a < f b)) (k : m.Pairwise (fun a b => f a < f b)) (hm : ∀ a, a ∈ l ↔ a ∈ m) : l = m := by
  have n1 : l.Nodup := h.imp fun h' e => by subst e; omega
  have n2 : m.Nodup := k.imp fun h' e => by subst e; omega
  refine List.Perm.eq_of_pairwise (le := fun a b => f a < f b) ?_ h k ((List.perm_ext_iff_of_nodup n1 n2).2 hm)
  intro a b _ _ h1 h2; omega
theorem asc_permS {l m : List α} (h : l.Pairwise (fun a b => f a < f b)) (k : m.Pairwise (fun a b => f a ≤ f b)) (hm : m.Perm l) : m = l := by
  refine List.Perm.eq_of_pairwise (le := fun a b => f a ≤ f b) ?_ k (h.imp fun h' => by omega) hm
  intro a b ha hb h1 h2
  have hab : f a = f b := by omega
  have ha' : a ∈ l := hm.mem_iff.1 ha
  obtain ⟨i, hi, rfl⟩ := List.getElem_of_mem ha'
  obtain ⟨j, hj, rfl⟩ := List.getElem_of_mem hb
  rw [List.pairwise_iff_getElem] at h
  rcases Nat.lt_trichotomy i j with h' | h' | h'
  · have := h i j hi hj h'; omega
  · subst h'; rfl
  · have := h j i hj hi h'; omega
theorem insB_perm (h : ∀ a ∈ l, f a ≠ f q) : (insB f q l).Perm (l ++ [q]) := by
  unfold insB
  refine (List.perm_middle).trans ?_
  refine List.Perm.trans ?_ (List.perm_append_comm (l₁ := [q]))
  refine List.Perm.cons q ?_
  have h2 := List.filter_append_perm (fun p => decide (f p < f q)) l
  refine List.Perm.trans ?_ h2
  refine List.Perm.append_left _ ?_
  rw [List.filter_congr (q := fun x => !decide (f x < f q)) fun a ha => ?_]
  have := h a ha
  by_cases h1 : f a < f q
  · rw [decide_eq_true h1, decide_eq_false (by omega)]; rfl
  · rw [decide_eq_false h1, decide_eq_true (by omega)]; rfl
end
/-! ### a piece taken -/
def pAt (p : DPiece) : Int := p.2.1
def wId (a : DWhole) : Int := a.1
def tkBase (d : DDesk) (q : DPiece) (due : Int) : DWhole := (d.1.find? fun a => decide (a.1 = q.1)).getD (q.1, q.2.2.1, due, [])
def TkOld (d : DDesk) (q : DPiece) : Prop := q.1 ∈ d.2 ∨ ∃ a ∈ d.1, a.1 = q.1 ∧ (a.2.1 ≠ q.2.2.1 ∨ ∃ p ∈ a.2.2.2, p.2.1 = q.2.1)
def tkNew (d : DDesk) (q : DPiece) (due : Int) : DWhole := ((tkBase d q due).1, (tkBase d q due).2.1, (tkBase d q due).2.2.1, insB pAt q (tkBase d q due).2.2.2)
def tkData (g : List DPiece) : List Int := g.flatMap fun p => p.2.2.2
noncomputable instance (d : DDesk) (q : DPiece) : Decidable (TkOld d q) := Classical.propDecidable _
def TkDone (d : DDesk) (q : DPiece) (due : Int) : Prop := ((tkNew d q due).2.2.2.length : Int) = (tkNew d q due).2.1
noncomputable instance (d : DDesk) (q : DPiece) (due : Int) : Decidable (TkDone d q due) := Classical.propDecidable _
def TkFull (d : DDesk) (q : DPiece) : Prop := (∀ a ∈ d.1, a.1 ≠ q.1) ∧ 6 ≤ d.1.length
noncomputable instance (d : DDesk) (q : DPiece) : Decidable (TkFull d q) := Classical.propDecidable _
/-- What the model's l4take answers. -/
noncomputable def tkT (d : DDesk) (q : DPiece) (due : Int) : DDesk × List Int × Int :=
  if TkOld d q then (d, [], -1)
  else if TkDone d q due then ((d.1.filter fun a => decide (a.1 ≠ q.1), insB id q.1 d.2), tkData (tkNew d q due).2.2.2, 1)
  else if TkFull d q then (d, [], -2)
  else ((insB wId (tkNew d q due) d.1, d.2), [], 0)
def TkIn (d : DDesk) (q : DPiece) (due : Int) : Prop := DkOk d ∧ PcOk q ∧ (0 ≤ due ∧ due ≤ 65535)
noncomputable instance (d : DDesk) (q : DPiece) (due : Int) : Decidable (TkIn d q due) := Classical.propDecidable _
noncomputable def fTp (d : DDesk) (q : DPiece) (due : Int) : DDesk × List Int × Int := if TkIn d q due then tkT d q due else (dkZ, [], -3)
theorem fTp_t {d : DDesk} {q : DPiece} {due : Int} (h : TkIn d q due) : fTp d q due = tkT d q due := if_pos h
theorem fTp_f {d : DDesk} {q : DPiece} {due : Int} (h : ¬ TkIn d q due) : fTp d q due = (dkZ, [], -3) := if_neg h
section
variable {d : DDesk} {q : DPiece} {due : Int} {a : DWhole}
theorem tkBase_there (hd : DkOk d) (ha : a ∈ d.1) (e : a.1 = q.1) : tkBase d q due = a := by
  unfold tkBase
  cases hf : d.1.find? fun a => decide (a.1 = q.1) with
  | none => exact absurd (List.find?_eq_none.1 hf a ha) (by simp [e])
  | some b =>
    have h1 := List.find?_some hf
    have h2 := List.mem_of_find?_eq_some hf
    exact asc_one hd.2.2.2.1 h2 ha ((of_decide_eq_true h1).trans e.symm)
theorem tkBase_new (h : ∀ a ∈ d.1, a.1 ≠ q.1) : tkBase d q due = (q.1, q.2.2.1, due, []) := by
  unfold tkBase
  rw [List.find?_eq_none.2 (fun a ha => by simpa using h a ha)]; rfl
theorem tkOld_there (hd : DkOk d) (ha : a ∈ d.1) (e : a.1 = q.1) : TkOld d q ↔ (a.2.1 ≠ q.2.2.1 ∨ ∃ p ∈ a.2.2.2, p.2.1 = q.2.1) := by
  constructor
  · rintro (h | ⟨b, hb, h1, h2⟩)
    · exact absurd (e ▸ h) (hd.2.2.2.2 a ha).2
    · rw [asc_one hd.2.2.2.1 hb ha (h1.trans e.symm)] at h2; exact h2
  · intro h; exact .inr ⟨a, ha, e, h⟩
theorem tkOld_new (h : ∀ a ∈ d.1, a.1 ≠ q.1) : TkOld d q ↔ q.1 ∈ d.2 := by
  constructor
  · rintro (h' | ⟨b, hb, h1, _⟩)
    · exact h'
    · exact absurd h1 (h b hb)
  · exact fun h' => .inl h'
end
/-- What a message is that has just taken a piece: it may lack nothing. -/
def WhM (w : DWhole) : Prop := (0 ≤ w.2.2.1 ∧ w.2.2.1 ≤ 65535) ∧ (1 ≤ w.2.2.2.length ∧ (w.2.2.2.length : Int) ≤ w.2.1) ∧ (∀ p ∈ w.2.2.2, PcOk p ∧ p.1 = w.1 ∧ p.2.2.1 = w.2.1) ∧ Asc (w.2.2.2.map fun p => p.2.1)
theorem WhM.strict {w : DWhole} (h : WhM w) (hn : ¬ (w.2.2.2.length : Int) = w.2.1) : WhN w := ⟨h.1, ⟨h.2.1.1, by have := h.2.1.2; omega⟩, h.2.2⟩
theorem pc_le8 {p : DPiece} (h : PcOk p) : 1 ≤ p.2.2.1 ∧ p.2.2.1 ≤ 8 ∧ p.2.2.2.length ≤ 20 ∧ 0 ≤ p.1 ∧ p.1 ≤ 255 ∧ 0 ≤ p.2.1 ∧ p.2.1 < 8 := by
  unfold PcOk PcN at h; omega
section
variable {d : DDesk} {q : DPiece} {due : Int} {a : DWhole}
theorem tkNew_there (hd : DkOk d) (ha : a ∈ d.1) (e : a.1 = q.1) : tkNew d q due = (a.1, a.2.1, a.2.2.1, insB pAt q a.2.2.2) := by
  unfold tkNew; rw [tkBase_there hd ha e]
theorem tkNew_new (h : ∀ a ∈ d.1, a.1 ≠ q.1) : tkNew d q due = (q.1, q.2.2.1, due, [q]) := by
  unfold tkNew; rw [tkBase_new h]; rfl
theorem tkNew_ok (hd : DkOk d) (hq : PcOk q) (hdue : 0 ≤ due ∧ due ≤ 65535) (ho : ¬ TkOld d q) : WhM (tkNew d q due) ∧ (tkNew d q due).1 = q.1 ∧ q.1 ∉ d.2 ∧ ∀ p ∈ (tkBase d q due).2.2.2, p.2.1 ≠ q.2.1 := by
  have hnd : q.1 ∉ d.2 := fun h => ho (.inl h)
  by_cases hx : ∃ a ∈ d.1, a.1 = q.1
  · obtain ⟨a, ha, e⟩ := hx
    rw [tkNew_there hd ha e, tkBase_there hd ha e]
    have hk := fun h => ho ((tkOld_there hd ha e).2 h)
    have ht : a.2.1 = q.2.2.1 := Classical.byContradiction fun h => hk (.inl h)
    have hat : ∀ p ∈ a.2.2.2, p.2.1 ≠ q.2.1 := fun p hp h => hk (.inr ⟨p, hp, h⟩)
    obtain ⟨⟨h1, h2⟩, ⟨h3, h4⟩, h5, h6⟩ := (hd.2.2.2.2 a ha).1
    have hl : (insB pAt q a.2.2.2).length = a.2.2.2.length + 1 := insB_len hat
    refine ⟨⟨⟨h1, h2⟩, ⟨by show 1 ≤ (insB pAt q a.2.2.2).length; omega, by show ((insB pAt q a.2.2.2).length : Int) ≤ a.2.1; omega⟩, fun p hp => ?_, asc_ofM (f := pAt) (insB_pw (asc_pairM (f := pAt) h6))⟩, e, hnd, hat⟩
    rcases insB_mem.1 hp with rfl | ⟨hp, _⟩
    · exact ⟨hq, e.symm, ht.symm⟩
    · exact h5 p hp
  · have hn : ∀ a ∈ d.1, a.1 ≠ q.1 := fun a ha e => hx ⟨a, ha, e⟩
    rw [tkNew_new hn, tkBase_new hn]
    have := pc_le8 hq
    refine ⟨⟨hdue, ⟨Nat.le_refl _, by show ((1 : Nat) : Int) ≤ q.2.2.1; omega⟩, fun p hp => ?_, fun i hi => absurd hi (by simp)⟩, rfl, hnd, fun p hp => absurd hp (by simp)⟩
    rw [List.mem_singleton.1 hp]; exact ⟨hq, rfl, rfl⟩
theorem filter_ne_len {l : List DWhole} {k : Int} (hx : ∃ a ∈ l, a.1 = k) : (l.filter fun a => decide (a.1 ≠ k)).length < l.length := by
  obtain ⟨a, ha, e⟩ := hx
  have h := List.length_filter_le (fun a : DWhole => decide (a.1 ≠ k)) l
  rcases Nat.lt_or_eq_of_le h with h' | h'
  · exact h'
  · have := List.filter_eq_self.1 (List.length_filter_eq_length_iff.1 h' |> fun h2 => List.filter_eq_self.2 h2) a ha
    simp [e] at this
theorem insW_len (hd : DkOk d) (hf : ¬ TkFull d q) {W : DWhole} (hW : W.1 = q.1) : (insB wId W d.1).length ≤ 6 := by
  by_cases hx : ∃ a ∈ d.1, a.1 = q.1
  · have h1 := filter_ne_len hx
    have h2 : (insB wId W d.1) = insB wId W (d.1.filter fun a => decide (a.1 ≠ q.1)) := by
      unfold insB
      rw [List.filter_filter, List.filter_filter]
      congr 1
      · refine List.filter_congr fun a _ => ?_
        show decide (a.1 < W.1) = (decide (a.1 < W.1) && decide (a.1 ≠ q.1))
        rw [hW]
        by_cases h : a.1 < q.1
        · rw [decide_eq_true h, decide_eq_true (by omega)]; rfl
        · rw [decide_eq_false h]; rfl
      · congr 1
        refine List.filter_congr fun a _ => ?_
        show decide (W.1 < a.1) = (decide (W.1 < a.1) && decide (a.1 ≠ q.1))
        rw [hW]
        by_cases h : q.1 < a.1
        · rw [decide_eq_true h, decide_eq_true (by omega)]; rfl
        · rw [decide_eq_false h]; rfl
    rw [h2]
    have := insB_len_le wId W (d.1.filter fun a => decide (a.1 ≠ q.1))
    have := hd.1
    omega
  · have h1 : ¬ 6 ≤ d.1.length := fun h => hf ⟨fun a ha e => hx ⟨a, ha, e⟩, h⟩
    have := insB_len_le wId W d.1
    omega
theorem tkT_ok (hd : DkOk d) (hq : PcOk q) (hdue : 0 ≤ due ∧ due ≤ 65535) : DkOk (tkT d q due).1 := by
  unfold tkT
  by_cases ho : TkOld d q
  · rw [if_pos ho]; exact hd
  rw [if_neg ho]
  obtain ⟨hM, hid, hnd, -⟩ := tkNew_ok hd hq hdue ho
  have hq8 := pc_le8 hq
  obtain ⟨h1, h2, h3, h4, h5⟩ := hd
  have hd : DkOk d := ⟨h1, h2, h3, h4, h5⟩
  by_cases hdn : TkDone d q due
  · rw [if_pos hdn]
    refine ⟨Nat.le_trans (List.length_filter_le _ _) h1, fun x hx => ?_, ?_, asc_filter _ h4, fun a ha => ?_⟩
    · rcases insB_mem.1 hx with rfl | ⟨hx, _⟩
      · exact ⟨hq8.2.2.2.1, hq8.2.2.2.2.1⟩
      · exact h2 x hx
    · exact asc_ofL (insB_pw (f := id) (asc_pw h3))
    · obtain ⟨ha, hne⟩ := List.mem_filter.1 ha
      have hne := of_decide_eq_true hne
      refine ⟨(h5 a ha).1, fun hx => ?_⟩
      rcases insB_mem.1 hx with h | ⟨h, _⟩
      · exact hne h
      · exact (h5 a ha).2 h
  rw [if_neg hdn]
  by_cases hf : TkFull d q
  · rw [if_pos hf]; exact hd
  rw [if_neg hf]
  refine ⟨insW_len hd hf hid, h2, h3, asc_ofM (f := wId) (insB_pw (asc_pairM (f := wId) h4)), fun a ha => ?_⟩
  rcases insB_mem.1 ha with rfl | ⟨ha, _⟩
  · exact ⟨hM.strict hdn, by rw [hid]; exact hnd⟩
  · exact h5 a ha
end
/-- A desk in order is small. -/
theorem dkOk_sz {d : DDesk} (h : DkOk d) : szDesk d ≤ 4096 ∧ rsz szWhole d.1 ≤ 2000 := by
  have key : ∀ l : List DWhole, (∀ w ∈ l, WhN w) → rsz szWhole l ≤ 200 * l.length := by
    intro l
    induction l with
    | nil => intro _; simp [rsz, rsum]
    | cons a l ih =>
      intro hl
      have h1 := ih fun x hx => hl x (List.mem_cons_of_mem _ hx)
      have h2 := hl a List.mem_cons_self
      have h3 : ∀ g : List DPiece, (∀ p ∈ g, PcOk p) → rsz szPiece g ≤ 21 * g.length := by
        intro g
        induction g with
        | nil => intro _; simp [rsz, rsum]
        | cons p g ih =>
          intro hg
          have := ih fun x hx => hg x (List.mem_cons_of_mem _ hx)
          have h4 : szPiece p ≤ 20 := (pc_le8 (hg p List.mem_cons_self)).2.2.1
          unfold rsz at this ⊢
          rw [rsum, List.length_cons]; omega
      have h4 := h3 a.2.2.2 fun p hp => (h2.2.2.1 p hp).1
      have h5 : a.2.2.2.length ≤ 8 := by
        have h6 := h2.2.1
        have h7 := h2.2.2.1 _ (List.getElem_mem (l := a.2.2.2) (n := 0) (by omega))
        have := (pc_le8 h7.1).2.1
        omega
      have h6 : szWhole a ≤ 168 := by unfold szWhole; omega
      unfold rsz at h1 ⊢
      rw [rsum, List.length_cons]; omega
  have h1 := key d.1 fun w hw => (h.2.2.2.2 w hw).1
  have h2 := h.1
  have h3 := asc_len h.2.2.1 h.2.1
  unfold szDesk
  omega
end Go.Proofs.Ytaabmaoldhoinaa
namespace Go.Proofs.Ytaabmaoldhoinaa
set_option linter.unusedVariables false
open Go.RowKit
section
variable {id : Int} {msg : List Int} {N : Nat}
theorem pcAt_ok (hs : SpOk id msg) (hN : splN msg.length = N) {j : Nat} (hj : j < N) : PcOk (id, (j : Int), (N : Int), (msg.drop (j * 20)).take 20) := by
  have h8 := splN_le hs.2
  obtain ⟨⟨h1, h2⟩, h3⟩ := hs
  unfold PcOk PcN
  dsimp only
  rw [List.length_take, List.length_drop]
  unfold splN at hN h8
  split at hN
  · omega
  · refine ⟨h1, h2, by omega, by omega, by omega, by omega, fun h => ?_, fun h => ?_⟩ <;> omega
theorem take_chunks (msg : List Int) (m : Nat) : (List.range m).flatMap (fun j => (msg.drop (j * 20)).take 20) = msg.take (m * 20) := by
  induction m with
  | zero => simp
  | succ m ih =>
    rw [List.range_succ, List.flatMap_append, ih, Nat.succ_mul, List.take_add]
    simp
theorem tkData_spl (hs : SpOk id msg) : tkData (splL id msg) = msg := by
  unfold tkData splL
  rw [List.flatMap_map]
  show (List.range (splN msg.length)).flatMap (fun j => (msg.drop (j * 20)).take 20) = msg
  rw [take_chunks, List.take_of_length_le]
  unfold splN; split <;> omega
def gotS (id : Int) (msg : List Int) (K : Nat → Bool) : List DPiece := (splL id msg).filter fun p => K p.2.1.toNat
theorem splL_pw (id : Int) (msg : List Int) : (splL id msg).Pairwise (fun a b => pAt a < pAt b) := by
  unfold splL
  rw [List.pairwise_map]
  refine List.pairwise_lt_range.imp fun {a b} h => ?_
  show (a : Int) < (b : Int); omega
theorem gotS_mem {K : Nat → Bool} {p : DPiece} : p ∈ gotS id msg K ↔ p ∈ splL id msg ∧ K p.2.1.toNat = true := List.mem_filter
theorem splL_get {p : DPiece} (hN : splN msg.length = N) (hp : p ∈ splL id msg) : ∃ j, j < N ∧ p = (id, (j : Int), (N : Int), (msg.drop (j * 20)).take 20) := by
  unfold splL at hp
  obtain ⟨j, hj, rfl⟩ := List.mem_map.1 hp
  rw [hN] at hj ⊢
  exact ⟨j, List.mem_range.1 hj, rfl⟩
theorem splL_in (hN : splN msg.length = N) {j : Nat} (hj : j < N) : (id, (j : Int), (N : Int), (msg.drop (j * 20)).take 20) ∈ splL id msg := List.mem_of_getElem? (splL_at hN hj)
theorem gotS_put {K : Nat → Bool} {k : Nat} (hN : splN msg.length = N) (hk : k < N) (hK : K k = false) :
    insB pAt (id, (k : Int), (N : Int), (msg.drop (k * 20)).take 20) (gotS id msg K) = gotS id msg (fun j => K j || k == j) := by
  refine asc_same (f := pAt) (insB_pw ((splL_pw id msg).filter _)) ((splL_pw id msg).filter _) fun p => ?_
  rw [insB_mem, gotS_mem, gotS_mem]
  constructor
  · rintro (rfl | ⟨⟨h1, h2⟩, -⟩)
    · exact ⟨splL_in hN hk, by show (K (k : Int).toNat || k == (k : Int).toNat) = true; simp⟩
    · exact ⟨h1, by show (K p.2.1.toNat || _) = true; rw [h2]; rfl⟩
  · rintro ⟨h1, h2⟩
    obtain ⟨j, hj, rfl⟩ := splL_get hN h1
    by_cases e : j = k
    · subst e; exact .inl rfl
    · refine .inr ⟨⟨h1, ?_⟩, fun h => e ?_⟩
      · have h3 : (K (j : Int).toNat || k == (j : Int).toNat) = true := h2
        rw [Int.toNat_natCast, show (k == j) = false from beq_eq_false_iff_ne.2 (fun h => e h.symm), Bool.or_false] at h3
        show K (j : Int).toNat = true
        rw [Int.toNat_natCast]; exact h3
      · have h4 : ((j : Nat) : Int) = ((k : Nat) : Int) := h
        omega
theorem gotS_all {K : Nat → Bool} (hN : splN msg.length = N) (h : ∀ j, j < N → K j = true) : gotS id msg K = splL id msg := by
  refine List.filter_eq_self.2 fun p hp => ?_
  obtain ⟨j, hj, rfl⟩ := splL_get hN hp
  show K (j : Int).toNat = true
  rw [Int.toNat_natCast]; exact h j hj
theorem gotS_some {K : Nat → Bool} (hN : splN msg.length = N) {j : Nat} (hj : j < N) (h : K j = false) : (gotS id msg K).length < N := by
  have h1 := List.length_filter_le (fun p : DPiece => K p.2.1.toNat) (splL id msg)
  rw [splL_len, hN] at h1
  rcases Nat.lt_or_eq_of_le h1 with h' | h'
  · exact h'
  · have h2 := List.length_filter_eq_length_iff.1 (h'.trans (by rw [splL_len, hN])) _ (splL_in (id := id) hN hj)
    have h3 : K (j : Int).toNat = true := h2
    rw [Int.toNat_natCast, h] at h3
    cases h3
theorem gotS_none {K : Nat → Bool} (hN : splN msg.length = N) (h : ∀ j, j < N → K j = false) : gotS id msg K = [] := by
  refine List.filter_eq_nil_iff.2 fun p hp => ?_
  obtain ⟨j, hj, rfl⟩ := splL_get hN hp
  have : K (j : Int).toNat = false := by rw [Int.toNat_natCast]; exact h j hj
  rw [this]; simp
/-- The desk when these fragments have been taken. -/
noncomputable def spD (id : Int) (msg : List Int) (N : Nat) (K : Nat → Bool) : DDesk :=
  open Classical in if ∀ j, j < N → K j = true then ([], [id]) else if ∀ j, j < N → K j = false then ([], []) else ([(id, (N : Int), 9, gotS id msg K)], [])
theorem sp_tk {K : Nat → Bool} {k : Nat} (hs : SpOk id msg) (hN : splN msg.length = N) (hk : k < N) (hK : K k = false) :
    tkT (spD id msg N K) (id, (k : Int), (N : Int), (msg.drop (k * 20)).take 20) 9 = (spD id msg N (fun j => K j || k == j), open Classical in if ∀ j, j < N → (K j || k == j) = true then (msg, 1) else ([], 0)) := by
  have h8 := splN_le hs.2
  rw [hN] at h8
  obtain ⟨q, hq⟩ : ∃ q : DPiece, q = (id, (k : Int), (N : Int), (msg.drop (k * 20)).take 20) := ⟨_, rfl⟩
  have q1 : q.1 = id := by rw [hq]
  have q2 : q.2.1 = (k : Int) := by rw [hq]
  have q3 : q.2.2.1 = (N : Int) := by rw [hq]
  have hna : ¬ ∀ j, j < N → K j = true := fun h => by rw [h k hk] at hK; cases hK
  have hput := gotS_put (id := id) hN hk hK
  rw [← hq] at hput ⊢
  have hD : spD id msg N K = (if ∀ j, j < N → K j = false then ([], []) else ([(id, (N : Int), 9, gotS id msg K)], [])) := by unfold spD; rw [if_neg hna]
  have hold : ¬ TkOld (spD id msg N K) q := by
    rw [hD]
    split
    · rintro (h | ⟨a, ha, -⟩)
      · exact absurd h (by simp)
      · exact absurd ha (by simp)
    · rintro (h | ⟨a, ha, -, h⟩)
      · exact absurd h (by simp)
      · rw [List.mem_singleton.1 ha] at h
        rcases h with h | ⟨p, hp, h⟩
        · exact h q3.symm
        · obtain ⟨h1, h2⟩ := gotS_mem.1 hp
          obtain ⟨j, hj, rfl⟩ := splL_get hN h1
          have h3 : (j : Int) = (k : Int) := h.trans q2
          have h4 : K (j : Int).toNat = true := h2
          rw [h3, Int.toNat_natCast, hK] at h4
          cases h4
  have hnew : tkNew (spD id msg N K) q 9 = (id, (N : Int), 9, gotS id msg (fun j => K j || k == j)) := by
    rw [hD]
    split
    · rename_i hn
      rw [tkNew_new (by simp), ← hput, gotS_none hN hn, q1, q3]
      rfl
    · unfold tkNew tkBase
      rw [List.find?_cons_of_pos (by simp [q1])]
      show (id, (N : Int), (9 : Int), insB pAt q (gotS id msg K)) = _
      rw [hput]
  unfold tkT
  rw [if_neg hold]
  by_cases hall : ∀ j, j < N → (K j || k == j) = true
  · have hdone : TkDone (spD id msg N K) q 9 := by
      unfold TkDone
      rw [hnew]
      show (((gotS id msg (fun j => K j || k == j)).length : Nat) : Int) = (N : Int)
      rw [gotS_all hN hall, splL_len, hN]
    rw [if_pos hdone, if_pos hall, hnew]
    have hr : spD id msg N (fun j => K j || k == j) = ([], [id]) := by unfold spD; rw [if_pos hall]
    rw [hr]
    show ((((spD id msg N K).1.filter fun a => decide (a.1 ≠ q.1)), insB _root_.id q.1 (spD id msg N K).2), tkData (gotS id msg (fun j => K j || k == j)), (1 : Int)) = _
    rw [gotS_all hN hall, tkData_spl hs, q1, hD]
    split
    · rfl
    · show ((List.filter (fun a : DWhole => decide (a.1 ≠ id)) [(id, (N : Int), 9, gotS id msg K)], insB _root_.id id ([] : List Int)), msg, (1 : Int)) = _
      rw [List.filter_cons_of_neg (by simp)]
      rfl
  · have hlt : ∃ j, j < N ∧ (K j || k == j) = false := by
      refine Classical.byContradiction fun h => hall fun j hj => ?_
      cases hb : (K j || k == j) with
      | true => rfl
      | false => exact absurd ⟨j, hj, hb⟩ h
    obtain ⟨j, hj, hjf⟩ := hlt
    have hdone : ¬ TkDone (spD id msg N K) q 9 := by
      unfold TkDone
      rw [hnew]
      show ¬ (((gotS id msg (fun j => K j || k == j)).length : Nat) : Int) = (N : Int)
      have := gotS_some (id := id) (K := fun j => K j || k == j) hN hj hjf
      omega
    have hfull : ¬ TkFull (spD id msg N K) q := by
      rintro ⟨-, h⟩
      rw [hD] at h
      split at h
      · exact absurd h (by simp)
      · exact absurd h (by simp)
    rw [if_neg hdone, if_neg hfull, if_neg hall, hnew]
    have hkk : (K k || k == k) = true := by simp
    have hr : spD id msg N (fun j => K j || k == j) = ([(id, (N : Int), 9, gotS id msg (fun j => K j || k == j))], []) := by
      unfold spD
      rw [if_neg hall, if_neg (fun h => by have hk2 : (K k || k == k) = false := h k hk; rw [hk2] at hkk; cases hkk)]
    rw [hr, hD]
    split
    · rfl
    · have hi : insB wId (id, (N : Int), (9 : Int), gotS id msg (fun j => K j || k == j)) [(id, (N : Int), 9, gotS id msg K)] = [(id, (N : Int), 9, gotS id msg (fun j => K j || k == j))] := by
        unfold insB
        rw [List.filter_cons_of_neg (by simp [wId]), List.filter_cons_of_neg (by simp [wId])]
        rfl
      show ((insB wId (id, (N : Int), (9 : Int), gotS id msg (fun j => K j || k == j)) [(id, (N : Int), 9, gotS id msg K)], ([] : List Int)), ([] : List Int), (0 : Int)) = _
      rw [hi]
theorem spD_all {K : Nat → Bool} (h : ∀ j, j < N → K j = true) : spD id msg N K = ([], [id]) := by unfold spD; rw [if_pos h]
theorem sp_old {q : DPiece} {K : Nat → Bool} (h : ∀ j, j < N → K j = true) (hq : q.1 = id) : tkT (spD id msg N K) q 9 = (spD id msg N K, [], -1) := by
  unfold tkT
  rw [if_pos]
  rw [spD_all h]
  exact .inl (by rw [hq]; simp)
end
/-- Which fragment is the i-th that is taken. -/
def kf (N s a i : Nat) : Nat := if N % 2 = 0 ∨ N % s = 0 then (i + a) % N else (i * s + a) % N
section
variable {N s a i j : Nat}
theorem kf_lt (h : 1 ≤ N) : kf N s a i < N := by unfold kf; split <;> exact Nat.mod_lt _ (by omega)
theorem kf_inj (h1 : 1 ≤ N) (h8 : N ≤ 8) (hs : s = 1 ∨ s = 3 ∨ s = 5 ∨ s = 7) (hi : i < N) (hj : j < N) (h : kf N s a i = kf N s a j) : i = j := by
  unfold kf at h
  rcases (by omega : N = 1 ∨ N = 2 ∨ N = 3 ∨ N = 4 ∨ N = 5 ∨ N = 6 ∨ N = 7 ∨ N = 8) with rfl | rfl | rfl | rfl | rfl | rfl | rfl | rfl <;>
    rcases hs with rfl | rfl | rfl | rfl <;> simp at h <;> omega
theorem kf_sur (h1 : 1 ≤ N) (h8 : N ≤ 8) (hs : s = 1 ∨ s = 3 ∨ s = 5 ∨ s = 7) (hj : j < N) : ∃ i, i < N ∧ kf N s a i = j := by
  have hN := (by omega : N = 1 ∨ N = 2 ∨ N = 3 ∨ N = 4 ∨ N = 5 ∨ N = 6 ∨ N = 7 ∨ N = 8)
  by_cases hc : N % 2 = 0 ∨ N % s = 0
  · refine ⟨(j + (N - a % N)) % N, Nat.mod_lt _ (by omega), ?_⟩
    unfold kf; rw [if_pos hc]
    rcases hN with rfl | rfl | rfl | rfl | rfl | rfl | rfl | rfl <;> omega
  · have key : ∀ t, (s * t) % N = 1 % N → ∃ i, i < N ∧ kf N s a i = j := fun t ht => by
      refine ⟨((j + (N - a % N)) * t) % N, Nat.mod_lt _ (by omega), ?_⟩
      unfold kf; rw [if_neg hc]
      have e1 : ((j + (N - a % N)) * t % N * s + a) % N = ((j + (N - a % N)) * (s * t % N) + a) % N := by
        rw [Nat.add_mod, Nat.mul_mod, Nat.mod_mod, ← Nat.mul_mod, ← Nat.add_mod]
        rw [Nat.add_mod ((j + (N - a % N)) * (s * t % N)), Nat.mul_mod (j + (N - a % N)) (s * t % N), Nat.mod_mod, ← Nat.mul_mod, ← Nat.add_mod]
        congr 2
        rw [Nat.mul_assoc, Nat.mul_comm t s]
      rw [e1, ht]
      rcases hN with rfl | rfl | rfl | rfl | rfl | rfl | rfl | rfl <;> simp <;> omega
    rcases hN with rfl | rfl | rfl | rfl | rfl | rfl | rfl | rfl <;> rcases hs with rfl | rfl | rfl | rfl <;>
      first
      | (exfalso; revert hc; decide)
      | exact key 1 (by decide)
      | exact key 2 (by decide)
      | exact key 3 (by decide)
      | exact key 4 (by decide)
      | exact key 5 (by decide)
      | exact key 6 (by decide)
theorem kf_int {k : Nat} (h : kf N s a i = k) : (((N : Int) % 2 == 0) = true ∧ ((i : Int) + (a : Int)) % (N : Int) = (k : Int)) ∨ (((N : Int) % 2 == 0) = false ∧ ((N : Int) % (s : Int) == 0) = true ∧ ((i : Int) + (a : Int)) % (N : Int) = (k : Int)) ∨ (((N : Int) % 2 == 0) = false ∧ ((N : Int) % (s : Int) == 0) = false ∧ ((i : Int) * (s : Int) + (a : Int)) % (N : Int) = (k : Int)) := by
  unfold kf at h
  have e1 : (N : Int) % 2 = ((N % 2 : Nat) : Int) := by omega
  have e2 : (N : Int) % (s : Int) = ((N % s : Nat) : Int) := by simp
  have e3 : ((i : Int) + (a : Int)) % (N : Int) = (((i + a) % N : Nat) : Int) := by simp
  have e4 : ((i : Int) * (s : Int) + (a : Int)) % (N : Int) = (((i * s + a) % N : Nat) : Int) := by simp
  rw [e1, e2, e3, e4]
  by_cases h1 : N % 2 = 0
  · rw [if_pos (.inl h1)] at h
    exact .inl ⟨by rw [h1]; rfl, by rw [h]⟩
  · have b1 : (((N % 2 : Nat) : Int) == 0) = false := by rw [beq_eq_false_iff_ne]; omega
    by_cases h2 : N % s = 0
    · rw [if_pos (.inr h2)] at h
      exact .inr (.inl ⟨b1, by rw [h2]; rfl, by rw [h]⟩)
    · have b2 : (((N % s : Nat) : Int) == 0) = false := by rw [beq_eq_false_iff_ne]; omega
      rw [if_neg (fun h => h.elim h1 h2)] at h
      exact .inr (.inr ⟨b1, b2, by rw [h]⟩)
def KS (N s a i : Nat) : Nat → Bool := fun j => (List.range i).any fun x => kf N s a x == j
theorem KS_succ : KS N s a (i + 1) = fun j => KS N s a i j || kf N s a i == j := by
  funext j
  unfold KS
  rw [List.range_succ, List.any_append]
  simp
theorem KS_t {x : Nat} (hx : x < i) (h : kf N s a x = j) : KS N s a i j = true := List.any_eq_true.2 ⟨x, List.mem_range.2 hx, by simpa using h⟩
theorem KS_new (h1 : 1 ≤ N) (h8 : N ≤ 8) (hs : s = 1 ∨ s = 3 ∨ s = 5 ∨ s = 7) (hi : i < N) : KS N s a i (kf N s a i) = false := by
  cases h : KS N s a i (kf N s a i) with
  | false => rfl
  | true =>
    obtain ⟨x, hx, e⟩ := List.any_eq_true.1 h
    have hx := List.mem_range.1 hx
    have := kf_inj (a := a) h1 h8 hs (show x < N by omega) hi (by simpa using e)
    omega
theorem KS_all (h1 : 1 ≤ N) (h8 : N ≤ 8) (hs : s = 1 ∨ s = 3 ∨ s = 5 ∨ s = 7) (hi : N ≤ i) : ∀ j, j < N → KS N s a i j = true := fun j hj => by
  obtain ⟨x, hx, e⟩ := kf_sur (a := a) h1 h8 hs hj
  exact KS_t (by omega) e
end
section
variable {id : Int} {msg : List Int} {N s a i : Nat}
noncomputable def spS (id : Int) (msg : List Int) (N s a i : Nat) : DDesk := spD id msg N (KS N s a i)
def spq (id : Int) (msg : List Int) (N k : Nat) : DPiece := (id, (k : Int), (N : Int), (msg.drop (k * 20)).take 20)
theorem spS_zero (h1 : 1 ≤ N) : spS id msg N s a 0 = ([], []) := by
  unfold spS spD
  have h : ∀ j, KS N s a 0 j = false := fun j => rfl
  rw [if_neg (fun hh => by have := hh 0 (by omega); rw [h] at this; cases this), if_pos (fun j _ => h j)]
theorem spS_end (hs : SpOk id msg) (hN : splN msg.length = N) (h3 : s = 1 ∨ s = 3 ∨ s = 5 ∨ s = 7) (hi : N ≤ i) : spS id msg N s a i = ([], [id]) := by
  have h8 := splN_le hs.2
  rw [hN] at h8
  exact spD_all (KS_all h8.1 h8.2 h3 hi)
theorem sp_step (hs : SpOk id msg) (hN : splN msg.length = N) (h3 : s = 1 ∨ s = 3 ∨ s = 5 ∨ s = 7) :
    tkT (spS id msg N s a i) (spq id msg N (kf N s a i)) 9 = (spS id msg N s a (i + 1), if i + 1 = N then (msg, 1) else if i + 1 < N then ([], 0) else ([], -1)) := by
  have h8 := splN_le hs.2
  rw [hN] at h8
  by_cases hi : i < N
  · have h := sp_tk (k := kf N s a i) hs hN (kf_lt h8.1) (KS_new (a := a) h8.1 h8.2 h3 hi)
    rw [← KS_succ] at h
    refine h.trans ?_
    by_cases he : i + 1 = N
    · rw [if_pos he, if_pos (fun j hj => by have := KS_all (a := a) h8.1 h8.2 h3 (Nat.le_of_eq he.symm) j hj; rw [KS_succ] at this; exact this)]; rfl
    · have hlt : i + 1 < N := by omega
      rw [if_neg he, if_pos hlt, if_neg (fun hh => by
        have h1 : (KS N s a i (kf N s a (i + 1)) || kf N s a i == kf N s a (i + 1)) = true := hh _ (kf_lt (s := s) (a := a) (i := i + 1) h8.1)
        have h2 := KS_new (a := a) h8.1 h8.2 h3 hlt
        rw [KS_succ] at h2
        have h2 : (KS N s a i (kf N s a (i + 1)) || kf N s a i == kf N s a (i + 1)) = false := h2
        rw [h2] at h1; cases h1)]; rfl
  · rw [if_neg (by omega), if_neg (by omega), spS_end (i := i + 1) hs hN h3 (by omega)]
    have h := sp_old (id := id) (msg := msg) (q := spq id msg N (kf N s a i)) (KS_all (a := a) h8.1 h8.2 h3 (show N ≤ i by omega)) rfl
    rw [spD_all (KS_all (a := a) h8.1 h8.2 h3 (show N ≤ i by omega))] at h
    rw [spS_end hs hN h3 (by omega)]
    exact h
theorem spS_ok (hs : SpOk id msg) (hN : splN msg.length = N) (h3 : s = 1 ∨ s = 3 ∨ s = 5 ∨ s = 7) (i : Nat) : DkOk (spS id msg N s a i) := by
  have h8 := splN_le hs.2
  rw [hN] at h8
  induction i with
  | zero =>
    rw [spS_zero h8.1]
    exact ⟨by simp, fun x hx => absurd hx (by simp), fun i hi => absurd hi (by simp), fun i hi => absurd hi (by simp), fun w hw => absurd hw (by simp)⟩
  | succ i ih =>
    have h := tkT_ok ih (pcAt_ok hs hN (kf_lt (s := s) (a := a) (i := i) h8.1)) (due := 9) ⟨by decide, by decide⟩
    have e := sp_step (a := a) (i := i) hs hN h3
    unfold spq at e
    rw [e] at h
    exact h
theorem sp_round (hs : SpOk id msg) (hN : splN msg.length = N) (h3 : s = 1 ∨ s = 3 ∨ s = 5 ∨ s = 7) (i : Nat) :
    ∃ bs cd, fTp (spS id msg N s a i) (spq id msg N (kf N s a i)) 9 = (spS id msg N s a (i + 1), bs, cd) ∧ (i + 1 = N → bs = msg ∧ cd = 1) ∧ (¬ i + 1 = N → cd = 0 ∨ cd = -1) := by
  have h8 := splN_le hs.2
  rw [hN] at h8
  have e := sp_step (a := a) (i := i) hs hN h3
  have hin : TkIn (spS id msg N s a i) (spq id msg N (kf N s a i)) 9 := ⟨spS_ok hs hN h3 i, pcAt_ok hs hN (kf_lt h8.1), by decide, by decide⟩
  by_cases he : i + 1 = N
  · rw [if_pos he] at e
    exact ⟨msg, 1, by rw [fTp_t hin, e], fun _ => ⟨rfl, rfl⟩, fun h => absurd he h⟩
  · rw [if_neg he] at e
    by_cases hl : i + 1 < N
    · rw [if_pos hl] at e
      exact ⟨[], 0, by rw [fTp_t hin, e], fun h => absurd h he, fun _ => .inl rfl⟩
    · rw [if_neg hl] at e
      exact ⟨[], -1, by rw [fTp_t hin, e], fun h => absurd h he, fun _ => .inr rfl⟩
end
end Go.Proofs.Ytaabmaoldhoinaa
namespace Go.Proofs.Ytaabmaoldhoinaa
set_option maxRecDepth 100000
set_option linter.unusedVariables false
set_option linter.unusedSimpArgs false
open Go.ChangeShapes Go.WideShapes Go.ChangeAt Go.RowKit
open Fld
theorem gb_over4 {a b c : World} {g : Nat} {row : Option Nat} (h : a.grownBy b (some g)) (k : b.grownBy c row) (hr : ∀ r, row = some r → a.heap.size ≤ r) : a.grownBy c (some g) :=
  ⟨k.os.trans h.os, k.tape.trans h.tape, k.output.trans h.output, Nat.le_trans h.size k.size, fun i hi hn => (k.block i (Nat.lt_of_lt_of_le hi h.size) (fun e => by have := hr i e.symm; omega)).trans (h.block i hi hn)⟩
theorem gb_far4 {a w : World} {g b : Nat} (h : a.grownBy w (some g)) (hb : a.heap.size ≤ b) (i : Nat) (u : Value) : a.grownBy (w.setCell ⟨b, i, none⟩ u) (some g) :=
  gb_over4 h (gb_put (gb_self w b) i u) (fun r hr => by injection hr with hr; omega)
theorem gb_bel4 {a b c : World} {g : Nat} (h : a.grownBy b (some g)) (k : Below b.heap.size b c) : a.grownBy c (some g) :=
  gb_over4 (row := none) h (below_grownBy k) (fun r hr => by cases hr)
theorem own_draw4 {K : IntKind} {e : TypeId} {w w' : World} {base g : Nat} {v : Value} {l : List Int} (h : Own K e w base v l) (hg : w.grownBy w' (some g)) (hb : g < base) : Own K e w' base v l :=
  h.kept hg (.inr (fun e => by have := (h.block e).1; omega))
theorem curs_put4 {w : World} {g n c b i : Nat} {A : Option Addr} {l : List Int} (h : Curs w g A n c l) (hb : g < b) (u : Value) : Curs (w.setCell ⟨b, i, none⟩ u) g A n c l :=
  h.below (B := g + 1) ((Below.refl _ _).setCell (by show g + 1 ≤ b; omega) _) (by omega)
theorem curs_new4 {w w' : World} {g n c B : Nat} {A : Option Addr} {l : List Int} {o : Obj} {row : Option Nat} (h : Curs w g A n c l) (k : (w.alloc o).grownBy w' row) (hB : g < B) (hBw : B ≤ w.heap.size) (hr : ∀ r, row = some r → B ≤ r) : Curs w' g A n c l :=
  (h.alloc o).below (B := B) ((Below.refl _ _).grown k (by simp; omega) (fun b hb => hr b hb)) hB
theorem rowcells4 (w : World) (t : TypeId) (zs : List Int) : ∀ i, i < zs.length → (w.alloc (.cells (zs.map (Value.int .i64)).toArray t)).cell? ⟨w.heap.size, 0 + i, none⟩ = some (.int .i64 (zs.getD i 0)) := by
  intro i hi
  rw [(Box.new w t _).cell, Nat.zero_add, List.getElem?_toArray, List.getElem?_map, List.getElem?_eq_getElem hi, List.getD_eq_getElem?_getD, List.getElem?_eq_getElem hi]
  rfl
theorem u8_mod4 (d : Int) : IntKind.u8.wrap d = d % 256 := by
  unfold IntKind.wrap IntKind.bits IntKind.signed; simp
theorem own_R4 {K : IntKind} {e : TypeId} {w : World} {base : Nat} {v : Value} {l : List Int} (h : Own K e w base v l) : (tSl K).R w w.heap.size [v] l := by
  obtain ⟨F, hF, -⟩ := h.tSl
  exact (tSl K).read hF
def valI4 : Value → Int | .int _ q => q | _ => 0
set_option maxHeartbeats 2000000 in
theorem k_msg {w : World} {g n c : Nat} {A : Option Addr} {l : List Int} (h : Curs w g A n c l) :
    Calls Try.prog 50 #[.pointer (some ⟨g, 0, none⟩)] w fun e w' => ∃ v l', e = .returned v ∧ Own .u8 5 w' w.heap.size v l' ∧ l'.length ≤ 160 ∧ Curs w' g A n c l ∧ w.grownBy w' (some g) := by
  have hgs := h.size
  have hc : ∀ i, i < 7 → (w.alloc (.cells #[.int .i64 0, .int .i64 1, .int .i64 20, .int .i64 21, .int .i64 45, .int .i64 160, .int .i64 30] 3)).cell? ⟨w.heap.size, 0 + i, none⟩ = some (.int .i64 (([0, 1, 20, 21, 45, 160, 30] : List Int).getD i 0)) := rowcells4 w 3 [0, 1, 20, 21, 45, 160, 30]
  go_enter Try.func50, Try.ntmps50
  go_wp2_with fail
  refine (k_Pick (L := some ⟨w.heap.size, 0, none⟩) (m := 7) (d := 7) (zs := [0, 1, 20, 21, 45, 160, 30]) w (Curs.alloc h _) (gb_alloc (gb_self w g) _) ⟨w.heap.size, 0, rfl, by omega, by simp, hc⟩ (by omega) (by omega) rfl).mono ?_
  rintro e w1 ⟨x, rfl, hx, hC1, hG1⟩
  have hx2 : 0 ≤ x ∧ x ≤ 160 := by simp only [List.mem_cons, List.not_mem_nil, or_false] at hx; omega
  obtain ⟨p, rfl⟩ := Int.eq_ofNat_of_zero_le hx2.1
  have hp : p ≤ 160 := by omega
  clear hx hx2 hc
  have z1 := hG1.size
  have hmk := fun W => run_make_row' (P := Try.prog) 22 5 (.int .u8 0) 1 Try.underlying22 info_by rfl .i64 .i64 p (by omega) (by omega) W
  go_wp2_with fail
  have hrow := World.rowIs_made w1 (.int .u8 0) p 5
  have hO0 : Own .u8 5 (w1.alloc (.cells (madeCells #[.int .u8 0] p) 5)) w.heap.size (.slice (some ⟨w1.heap.size, 0, none⟩) p p) (List.replicate p 0) :=
    Own.of_row (hrow.congr fun j hj => by rw [List.getD_eq_getElem?_getD, List.getElem?_replicate, if_pos hj]; rfl) (by simp) (by simp only [maxLen]; omega) z1 (fun x hx => by rw [List.eq_of_mem_replicate hx]; decide)
  have hC2 : Curs (w1.alloc (.cells (madeCells #[.int .u8 0] p) 5)) g A n c l := hC1.alloc _
  have hG2 : w.grownBy (w1.alloc (.cells (madeCells #[.int .u8 0] p) 5)) (some g) := gb_alloc hG1 _
  obtain ⟨G, hG⟩ : ∃ G, w1.heap.size = G := ⟨_, rfl⟩
  rw [hG] at hO0 z1 ⊢
  obtain ⟨w2, hw2⟩ : ∃ w2, w1.alloc (.cells (madeCells #[.int .u8 0] p) 5) = w2 := ⟨_, rfl⟩
  rw [hw2] at hO0 hC2 hG2 ⊢
  clear hmk hrow hC1 hG1 hG hw2
  go_loopw [4] (fun i wr => ∃ (k : Nat) (l' : List Int), k ≤ p ∧ i = .int .i64 k ∧ l'.length = p ∧ Own .u8 5 wr w.heap.size (.slice (some ⟨G, 0, none⟩) p p) l' ∧ Curs wr g A n c l ∧ w.grownBy wr (some g)) (fun i _ => p - (valI4 i).toNat)
  case atStart => exact ⟨0, _, by omega, rfl, by simp, hO0, hC2, hG2⟩
  case round =>
    obtain ⟨k, l', hk, rfl, hlen, hO, hC, hGr⟩ := hrel
    have HL := Lib.hid hlen
    have zw := hGr.size
    clear hlen
    by_cases hlt : k < p
    · have q1 : (0 : Int) ≤ (k : Int) := by omega
      have q2 : (k : Int) < (p : Int) := by omega
      have HLT := Lib.hid hlt
      go_wp2_with (go_at_call 29; refine (k_Byte hC).mono ?_; rintro e w3 ⟨y, rfl, hy0, hy1, hC3, hG3⟩; have hO3 := own_draw4 hO hG3 hgs; obtain ⟨gb', cb'', e1, -, -, -, -, hcell, hfz⟩ := hO3.row (by rw [HL.out]; omega); simp only [Value.slice.injEq, Option.some.injEq, Addr.mk.injEq, and_true] at e1; obtain ⟨e1, -, e2⟩ := e1; subst e1 e2; have hcc := hcell k (by rw [HL.out]; exact HLT.out); have hff := hfz k)
      go_roundw
      case rel => exact ⟨k + 1, l'.set k (IntKind.u8.wrap ((k : Int) * 7 + y)), by omega, by go_num, by rw [List.length_set, HL.out], by
          have := Own.put (l := l') (c := p) (by rw [HL.out]; exact hO3) k (IntKind.u8.wrap ((k : Int) * 7 + y)) (wf8 (by rw [u8_mod4]; omega))
          rw [HL.out] at this; exact this, curs_put4 hC3 (by omega) _, gb_far4 (gb_trans hGr hG3) z1 _ _⟩
      case measure => simp [valI4]; omega
    · obtain rfl : k = p := by omega
      go_wp2
      go_ret
      exact ⟨_, _, rfl, hO, by rw [HL.out]; omega, hC, hGr⟩
theorem putb {w : World} {b i : Nat} {K : IntKind} {e : TypeId} {base : Nat} {v : Value} {l : List Int} (h : Own K e w base v l) (hb : b < base) (u : Value) : Own K e (w.setCell ⟨b, i, none⟩ u) base v l :=
  h.kept (gb_put (gb_self w b) i u) (.inr (fun e => by have := (h.block e).1; omega))
set_option maxHeartbeats 2000000 in
theorem k_piece {w : World} {g n c : Nat} {A : Option Addr} {l : List Int} (h : Curs w g A n c l) :
    Calls Try.prog 26 #[.pointer (some ⟨g, 0, none⟩)] w fun e w' => ∃ v q, e = .returned (.agg #[.int .i64 q.1, .int .i64 q.2.1, .int .i64 q.2.2.1, v]) ∧ Own .u8 5 w' w.heap.size v (q : DPiece).2.2.2 ∧ PcOk q ∧ Curs w' g A n c l ∧ w.grownBy w' (some g) := by
  have hgs := h.size
  have hC0 : Curs (w.alloc (.cells #[.int .i64 0, .int .i64 0, .int .i64 0, .slice none 0 0] 24)) g A n c l := h.alloc _
  have hG0 : w.grownBy (w.alloc (.cells #[.int .i64 0, .int .i64 0, .int .i64 0, .slice none 0 0] 24)) (some g) := gb_alloc (gb_self w g) _
  have B0 : Box (w.alloc (.cells #[.int .i64 0, .int .i64 0, .int .i64 0, .slice none 0 0] 24)) w.heap.size 24 #[.int .i64 0, .int .i64 0, .int .i64 0, .slice none 0 0] := Box.new _ _ _
  have hne : some w.heap.size ≠ some g := fun e => by injection e with e; omega
  go_enter Try.func26, Try.ntmps26
  go_wp2_with fail
  refine (k_Below (w.alloc (.cells #[.int .i64 0, .int .i64 0, .int .i64 0, .slice none 0 0] 24)) 4 hC0 (gb_self _ g) (by omega) (by omega)).mono ?_
  rintro e w1 ⟨x, rfl, hx0, hx1, hC1, hG1⟩
  go_wp2_with fail
  refine (k_msg hC1).mono ?_
  rintro e w2 ⟨v2, m, rfl, hO2, hm, hC2, hG2⟩
  obtain ⟨Am, cm, rfl, -⟩ := hO2.shape
  have hR2 := own_R4 hO2
  have hs : SpOk x m := ⟨⟨hx0, by omega⟩, hm⟩
  have B2 := (B0.grown hG1 hne).grown hG2 hne
  have hGw := gb_trans (gb_trans hG0 hG1) hG2
  have z2 := B2.size
  have hgs2 := hC2.size
  go_wp2_with fail
  refine (s_SplitZ (WalkArith.wf_i64 ⟨by omega, by omega⟩) hR2 (by omega)).mono ?_
  rintro e w3 ⟨A3, c3, F3, rfl, hO3, hN3, hb3⟩
  have hC3 := hC2.below hb3 hgs2
  have hG3 := gb_bel4 hGw hb3
  have B3 := B2.below hb3 z2
  rw [fSpl_t hs] at hO3 ⊢
  have h8 := splN_le hs.2
  have HLN := Lib.hid (splL_len x m)
  obtain ⟨N, hN⟩ : ∃ N, splN m.length = N := ⟨_, rfl⟩
  rw [hN] at h8
  rw [HLN.out, hN] at hO3 ⊢
  have HN := Lib.hid hN
  have HS := Lib.hid hs
  clear hN hs hC1 hG1 hC2 hG2 hR2 hO2
  go_wp2_with fail
  refine (k_Below w3 (N : Int) hC3 (gb_self w3 g) (by omega) (by omega)).mono ?_
  rintro e w4 ⟨y, rfl, hy0, hy1, hC4, hG4⟩
  have B4 := B3.grown hG4 hne
  obtain ⟨j, rfl⟩ := Int.eq_ofNat_of_zero_le hy0
  have hj : j < N := by omega
  have hl := splL_at (id := x) HN.out hj
  have hO4 : tPieceZ.row.O w4 [.slice A3 N c3] (splL x m) F3 := tPieceZ.row.kept hO3 (fun f hf => hG4.block f (tPieceZ.row.lt hO3 f hf) (fun e => by injection e with e; have := hN3.2 f hf; omega))
  obtain ⟨gb, off, cur, et, es, Fi, rfl, hg, hc, hOi, -, -, hsub, -, -⟩ := rowO_at (K := 4) hO4 hN3.1 hl rfl
  obtain ⟨v3, rfl, hOv, hbl⟩ := openOPieceZ hOi
  have hOw : Own .u8 5 w4 (w.heap.size + 1) v3 ((m.drop (j * 20)).take 20) := Own.raise hOv (fun b hb => by have := hN3.2 b (hsub _ (hbl b hb)); omega)
  have s0 : w4.cell? ⟨gb, off + j * 4, none⟩ = some (.int .i64 x) := by rw [Box.cell (t := et) hg]; exact hc 0 (by omega)
  have s1 : w4.cell? ⟨gb, off + j * 4 + 1, none⟩ = some (.int .i64 (j : Int)) := by rw [Box.cell (t := et) hg]; exact hc 1 (by omega)
  have s2 : w4.cell? ⟨gb, off + j * 4 + 2, none⟩ = some (.int .i64 (N : Int)) := by rw [Box.cell (t := et) hg]; exact hc 2 (by omega)
  have s3 : w4.cell? ⟨gb, off + j * 4 + 3, none⟩ = some v3 := by rw [Box.cell (t := et) hg]; exact hc 3 (by omega)
  have q1 : (0 : Int) ≤ (j : Int) := by omega
  have q2 : (j : Int) < (N : Int) := by omega
  have hGf := gb_trans hG3 hG4
  have HOK := Lib.hid (pcAt_ok HS.out HN.out hj)
  obtain ⟨d3, hd3⟩ : ∃ d3, (m.drop (j * 20)).take 20 = d3 := ⟨_, rfl⟩
  rw [hd3] at HOK hOw
  obtain ⟨A5, c5, rfl, -⟩ := hOw.shape
  have y0 := B4.cell 0; have y1 := B4.cell 1; have y2 := B4.cell 2; have y3 := B4.cell 3; have f0 := B4.frozen 0; have f1 := B4.frozen 1; have f2 := B4.frozen 2; have f3 := B4.frozen 3
  clear hd3 hl hO3 hO4 hOi hOv hc hg hbl hsub hN3
  go_wp2
  have RR := (((B4.put 0 (.int .i64 x)).put 1 (.int .i64 (j : Int))).put 2 (.int .i64 (N : Int))).put 3 (.slice A5 d3.length c5)
  have e0 := RR.cell 0; have e1 := RR.cell 1; have e2 := RR.cell 2; have e3 := RR.cell 3
  refine bodyPost_ret (v := .agg #[.int .i64 x, .int .i64 (j : Int), .int .i64 (N : Int), .slice A5 d3.length c5]) (by simp [results, Try.results26, go_sem, e0, e1, e2, e3]) rfl ⟨_, (x, (j : Int), (N : Int), d3), rfl, Own.lower (putb (putb (putb (putb hOw (by omega) _) (by omega) _) (by omega) _) (by omega) _) (by omega), HOK.out, curs_put4 (curs_put4 (curs_put4 (curs_put4 hC4 hgs _) hgs _) hgs _) hgs _, gb_far4 (gb_far4 (gb_far4 (gb_far4 hGf (Nat.le_refl _) 0 _) (Nat.le_refl _) 1 _) (Nat.le_refl _) 2 _) (Nat.le_refl _) 3 _⟩
theorem own_awayB {w : World} {b i : Nat} {K : IntKind} {e : TypeId} {base : Nat} {v : Value} {l : List Int} (h : Own K e w base v l) (hb : v.ownBlock ≠ some b) (u : Value) : Own K e (w.setCell ⟨b, i, none⟩ u) base v l :=
  h.kept (gb_put (gb_self w b) i u) (.inr hb)
/-- The bounds of a drawn fragment. -/
def PcLim (q : DPiece) : Prop := (-1 ≤ q.1 ∧ q.1 ≤ 256) ∧ (-1 ≤ q.2.1 ∧ q.2.1 ≤ 9) ∧ (0 ≤ q.2.2.1 ∧ q.2.2.1 ≤ 9) ∧ q.2.2.2.length ≤ 21
set_option maxHeartbeats 4000000 in
theorem k_bentP {w : World} {g n c : Nat} {A : Option Addr} {l : List Int} (h : Curs w g A n c l) :
    Calls Try.prog 21 #[.pointer (some ⟨g, 0, none⟩)] w fun e w' => ∃ v q, e = .returned (.agg #[.int .i64 q.1, .int .i64 q.2.1, .int .i64 q.2.2.1, v]) ∧ Own .u8 5 w' w.heap.size v (q : DPiece).2.2.2 ∧ PcLim q ∧ Curs w' g A n c l ∧ w.grownBy w' (some g) := by
  obtain ⟨i0, hi0, hz0, hz1, hz2⟩ := info_parts info_by
  have hgs := h.size
  have hC0 : Curs (w.alloc (.cells #[.int .i64 0, .int .i64 0, .int .i64 0, .slice none 0 0] 24)) g A n c l := h.alloc _
  have hG0 : w.grownBy (w.alloc (.cells #[.int .i64 0, .int .i64 0, .int .i64 0, .slice none 0 0] 24)) (some g) := gb_alloc (gb_self w g) _
  have B0 : Box (w.alloc (.cells #[.int .i64 0, .int .i64 0, .int .i64 0, .slice none 0 0] 24)) w.heap.size 24 #[.int .i64 0, .int .i64 0, .int .i64 0, .slice none 0 0] := Box.new _ _ _
  have hne : some w.heap.size ≠ some g := fun e => by injection e with e; omega
  go_enter Try.func21, Try.ntmps21
  go_wp2_with fail
  refine (k_piece hC0).mono ?_
  rintro e w2 ⟨v2, q, rfl, hO2, hok, hC2, hG2⟩
  have h8 := pc_le8 hok
  obtain ⟨A2, c2, rfl, -⟩ := hO2.shape
  obtain ⟨x0, x1, x2, qd⟩ := q
  dsimp only at h8 hO2 ⊢
  have B2 := B0.grown hG2 hne
  have z2 := B2.size
  obtain ⟨pb, hpb⟩ : ∃ pb, w2.heap.size = pb := ⟨_, rfl⟩
  obtain ⟨w3, hw3⟩ : ∃ w3, w2.alloc (.cells #[.int .i64 x0, .int .i64 x1, .int .i64 x2, .slice A2 qd.length c2] 24) = w3 := ⟨_, rfl⟩
  have B3 : Box w3 w.heap.size 24 #[.int .i64 0, .int .i64 0, .int .i64 0, .slice none 0 0] := by rw [← hw3]; exact B2.alloc _
  have P3 : Box w3 pb 24 #[.int .i64 x0, .int .i64 x1, .int .i64 x2, .slice A2 qd.length c2] := by rw [← hw3, ← hpb]; exact Box.new _ _ _
  have O3 : Own .u8 5 w3 (w.heap.size + 1) (.slice A2 qd.length c2) qd := by rw [← hw3]; simpa using hO2.alloc _
  have hpo : ∀ b, (Value.slice A2 qd.length c2).ownBlock = some b → b < pb := fun b hb => by have := (hO2.block hb).2; omega
  have hC3 : Curs w3 g A n c l := by rw [← hw3]; exact hC2.alloc _
  have G3 : w.grownBy w3 (some g) := by rw [← hw3]; exact gb_alloc (gb_trans hG0 hG2) _
  have hnp : some pb ≠ some g := fun e => by injection e with e; have := hC2.size; omega
  have hpw : w.heap.size < pb := by omega
  go_wp2_with fail
  clear hpb hw3 hO2 hok hC2 hG2 B2 hC0 hG0 B0
  refine (k_Once w3 6 hC3 (gb_self w3 g) (by omega) (by omega)).mono ?_
  rintro e w5 ⟨b, rfl, hC5, hG5⟩
  have B5 := B3.grown hG5 hne
  have P5 := P3.grown hG5 hnp
  have O5 := own_draw4 O3 hG5 (by omega)
  have G5 := gb_trans G3 hG5
  have z5 := hG5.size
  have z5p := P5.size
  clear B3 P3 O3 G3 hC3
  cases b with
  | false =>
    have y0 := B5.cell 0; have y1 := B5.cell 1; have y2 := B5.cell 2; have y3 := B5.cell 3; have f0 := B5.frozen 0; have f1 := B5.frozen 1; have f2 := B5.frozen 2; have f3 := B5.frozen 3
    have j0 := P5.cell 0; have j1 := P5.cell 1; have j2 := P5.cell 2; have j3 := P5.cell 3
    go_wp2
    have RR := (((B5.put 0 (.int .i64 x0)).put 1 (.int .i64 x1)).put 2 (.int .i64 x2)).put 3 (.slice A2 qd.length c2)
    have e0 := RR.cell 0; have e1 := RR.cell 1; have e2 := RR.cell 2; have e3 := RR.cell 3
    refine bodyPost_ret (v := .agg #[.int .i64 x0, .int .i64 x1, .int .i64 x2, .slice A2 qd.length c2]) (by simp [results, Try.results21, go_sem, e0, e1, e2, e3]) rfl ⟨_, (x0, x1, x2, qd), rfl, Own.lower (putb (putb (putb (putb O5 (by omega) _) (by omega) _) (by omega) _) (by omega) _) (by omega), ⟨⟨by show -1 ≤ x0; omega, by show x0 ≤ 256; omega⟩, ⟨by show -1 ≤ x1; omega, by show x1 ≤ 9; omega⟩, ⟨by show 0 ≤ x2; omega, by show x2 ≤ 9; omega⟩, by show qd.length ≤ 21; omega⟩, curs_put4 (curs_put4 (curs_put4 (curs_put4 hC5 hgs _) hgs _) hgs _) hgs _, gb_far4 (gb_far4 (gb_far4 (gb_far4 G5 (Nat.le_refl _) 0 _) (Nat.le_refl _) 1 _) (Nat.le_refl _) 2 _) (Nat.le_refl _) 3 _⟩
  | true =>
    go_wp2_with fail
    refine (k_Below w5 4 hC5 (gb_self w5 g) (by omega) (by omega)).mono ?_
    rintro e w6 ⟨x, rfl, hx0, hx1, hC6, hG6⟩
    have B6 := B5.grown hG6 hne
    have P6 := P5.grown hG6 hnp
    have O6 := own_draw4 O5 hG6 (by omega)
    have G6 := gb_trans G5 hG6
    have z6 := hG6.size
    have z6p := P6.size
    have hC6s := hC6.size
    clear B5 P5 O5 G5 hC5
    have hx : x = 0 ∨ x = 1 ∨ x = 2 ∨ x = 3 := by omega
    clear hx0 hx1
    rcases hx with rfl | rfl | rfl | rfl
    · have hc : ∀ i, i < 3 → (w6.alloc (.cells #[.int .i64 (-1), .int .i64 255, .int .i64 256] 3)).cell? ⟨w6.heap.size, 0 + i, none⟩ = some (.int .i64 (([-1, 255, 256] : List Int).getD i 0)) := rowcells4 w6 3 [-1, 255, 256]
      go_wp2_with fail
      refine (k_Pick (L := some ⟨w6.heap.size, 0, none⟩) (m := 3) (d := 3) (zs := [-1, 255, 256]) w6 (Curs.alloc hC6 _) (gb_alloc (gb_self w6 g) _) ⟨w6.heap.size, 0, rfl, by omega, by simp, hc⟩ (by omega) (by omega) rfl).mono ?_
      rintro e w7 ⟨y, rfl, hy, hC7, hG7⟩
      have hy2 : -1 ≤ y ∧ y ≤ 256 := by simp only [List.mem_cons, List.not_mem_nil, or_false] at hy; omega
      have B7 := B6.grown hG7 hne
      have P7 := P6.grown hG7 hnp
      have O7 := own_draw4 O6 hG7 (by omega)
      have G7 := gb_trans G6 hG7
      have z7 := hG7.size
      have k0 := P7.cell 0; have k1 := P7.cell 1; have k2 := P7.cell 2; have k3 := P7.cell 3; have g0 := P7.frozen 0; have g1 := P7.frozen 1; have g2 := P7.frozen 2
      clear hc hy
      have P8 := P7.put 0 (.int .i64 y)
      have B8 := B7.far (p := ⟨pb, 0, none⟩) (by show w.heap.size ≠ pb; omega) (.int .i64 y)
      have O8 := own_awayB (b := pb) (i := 0) O7 (fun e => by have := hpo _ e; omega) (.int .i64 y)
      have C8 := curs_put4 (b := pb) (i := 0) hC7 (by omega) (.int .i64 y)
      have G8 := gb_far4 (b := pb) G7 (by omega) 0 (.int .i64 y)
      clear B7 P7 O7 hC7 G7
      have y0 := B8.cell 0; have y1 := B8.cell 1; have y2 := B8.cell 2; have y3 := B8.cell 3; have f0 := B8.frozen 0; have f1 := B8.frozen 1; have f2 := B8.frozen 2; have f3 := B8.frozen 3
      have j0 := P8.cell 0; have j1 := P8.cell 1; have j2 := P8.cell 2; have j3 := P8.cell 3
      go_wp2
      have RR := (((B8.put 0 (.int .i64 y)).put 1 (.int .i64 x1)).put 2 (.int .i64 x2)).put 3 (.slice A2 qd.length c2)
      have e0 := RR.cell 0; have e1 := RR.cell 1; have e2 := RR.cell 2; have e3 := RR.cell 3
      refine bodyPost_ret (v := .agg #[.int .i64 y, .int .i64 x1, .int .i64 x2, .slice A2 qd.length c2]) (by simp [results, Try.results21, go_sem, e0, e1, e2, e3]) rfl ⟨_, (y, x1, x2, qd), rfl, Own.lower (putb (putb (putb (putb O8 (by omega) _) (by omega) _) (by omega) _) (by omega) _) (by omega), ⟨⟨by show -1 ≤ y; omega, by show y ≤ 256; omega⟩, ⟨by show -1 ≤ x1; omega, by show x1 ≤ 9; omega⟩, ⟨by show 0 ≤ x2; omega, by show x2 ≤ 9; omega⟩, by show qd.length ≤ 21; omega⟩, curs_put4 (curs_put4 (curs_put4 (curs_put4 C8 hgs _) hgs _) hgs _) hgs _, gb_far4 (gb_far4 (gb_far4 (gb_far4 G8 (Nat.le_refl _) 0 _) (Nat.le_refl _) 1 _) (Nat.le_refl _) 2 _) (Nat.le_refl _) 3 _⟩
    · have k2 := P6.cell 2
      have hc : ∀ i, i < 3 → (w6.alloc (.cells #[.int .i64 (-1), .int .i64 0, .int .i64 x2] 3)).cell? ⟨w6.heap.size, 0 + i, none⟩ = some (.int .i64 (([-1, 0, x2] : List Int).getD i 0)) := rowcells4 w6 3 [-1, 0, x2]
      go_wp2_with fail
      refine (k_Pick (L := some ⟨w6.heap.size, 0, none⟩) (m := 3) (d := 3) (zs := [-1, 0, x2]) w6 (Curs.alloc hC6 _) (gb_alloc (gb_self w6 g) _) ⟨w6.heap.size, 0, rfl, by omega, by simp, hc⟩ (by omega) (by omega) rfl).mono ?_
      rintro e w7 ⟨y, rfl, hy, hC7, hG7⟩
      have hy2 : -1 ≤ y ∧ y ≤ 9 := by simp only [List.mem_cons, List.not_mem_nil, or_false] at hy; omega
      have B7 := B6.grown hG7 hne
      have P7 := P6.grown hG7 hnp
      have O7 := own_draw4 O6 hG7 (by omega)
      have G7 := gb_trans G6 hG7
      have z7 := hG7.size
      clear k2
      have k0 := P7.cell 0; have k1 := P7.cell 1; have k2 := P7.cell 2; have k3 := P7.cell 3; have g0 := P7.frozen 0; have g1 := P7.frozen 1; have g2 := P7.frozen 2
      clear hc hy
      have P8 := P7.put 1 (.int .i64 y)
      have B8 := B7.far (p := ⟨pb, 1, none⟩) (by show w.heap.size ≠ pb; omega) (.int .i64 y)
      have O8 := own_awayB (b := pb) (i := 1) O7 (fun e => by have := hpo _ e; omega) (.int .i64 y)
      have C8 := curs_put4 (b := pb) (i := 1) hC7 (by omega) (.int .i64 y)
      have G8 := gb_far4 (b := pb) G7 (by omega) 1 (.int .i64 y)
      clear B7 P7 O7 hC7 G7
      have y0 := B8.cell 0; have y1 := B8.cell 1; have y2 := B8.cell 2; have y3 := B8.cell 3; have f0 := B8.frozen 0; have f1 := B8.frozen 1; have f2 := B8.frozen 2; have f3 := B8.frozen 3
      have j0 := P8.cell 0; have j1 := P8.cell 1; have j2 := P8.cell 2; have j3 := P8.cell 3
      go_wp2
      have RR := (((B8.put 0 (.int .i64 x0)).put 1 (.int .i64 y)).put 2 (.int .i64 x2)).put 3 (.slice A2 qd.length c2)
      have e0 := RR.cell 0; have e1 := RR.cell 1; have e2 := RR.cell 2; have e3 := RR.cell 3
      refine bodyPost_ret (v := .agg #[.int .i64 x0, .int .i64 y, .int .i64 x2, .slice A2 qd.length c2]) (by simp [results, Try.results21, go_sem, e0, e1, e2, e3]) rfl ⟨_, (x0, y, x2, qd), rfl, Own.lower (putb (putb (putb (putb O8 (by omega) _) (by omega) _) (by omega) _) (by omega) _) (by omega), ⟨⟨by show -1 ≤ x0; omega, by show x0 ≤ 256; omega⟩, ⟨by show -1 ≤ y; omega, by show y ≤ 9; omega⟩, ⟨by show 0 ≤ x2; omega, by show x2 ≤ 9; omega⟩, by show qd.length ≤ 21; omega⟩, curs_put4 (curs_put4 (curs_put4 (curs_put4 C8 hgs _) hgs _) hgs _) hgs _, gb_far4 (gb_far4 (gb_far4 (gb_far4 G8 (Nat.le_refl _) 0 _) (Nat.le_refl _) 1 _) (Nat.le_refl _) 2 _) (Nat.le_refl _) 3 _⟩
    · have hc : ∀ i, i < 3 → (w6.alloc (.cells #[.int .i64 0, .int .i64 8, .int .i64 9] 3)).cell? ⟨w6.heap.size, 0 + i, none⟩ = some (.int .i64 (([0, 8, 9] : List Int).getD i 0)) := rowcells4 w6 3 [0, 8, 9]
      go_wp2_with fail
      refine (k_Pick (L := some ⟨w6.heap.size, 0, none⟩) (m := 3) (d := 3) (zs := [0, 8, 9]) w6 (Curs.alloc hC6 _) (gb_alloc (gb_self w6 g) _) ⟨w6.heap.size, 0, rfl, by omega, by simp, hc⟩ (by omega) (by omega) rfl).mono ?_
      rintro e w7 ⟨y, rfl, hy, hC7, hG7⟩
      have hy2 : 0 ≤ y ∧ y ≤ 9 := by simp only [List.mem_cons, List.not_mem_nil, or_false] at hy; omega
      have B7 := B6.grown hG7 hne
      have P7 := P6.grown hG7 hnp
      have O7 := own_draw4 O6 hG7 (by omega)
      have G7 := gb_trans G6 hG7
      have z7 := hG7.size
      have k0 := P7.cell 0; have k1 := P7.cell 1; have k2 := P7.cell 2; have k3 := P7.cell 3; have g0 := P7.frozen 0; have g1 := P7.frozen 1; have g2 := P7.frozen 2
      clear hc hy
      have P8 := P7.put 2 (.int .i64 y)
      have B8 := B7.far (p := ⟨pb, 2, none⟩) (by show w.heap.size ≠ pb; omega) (.int .i64 y)
      have O8 := own_awayB (b := pb) (i := 2) O7 (fun e => by have := hpo _ e; omega) (.int .i64 y)
      have C8 := curs_put4 (b := pb) (i := 2) hC7 (by omega) (.int .i64 y)
      have G8 := gb_far4 (b := pb) G7 (by omega) 2 (.int .i64 y)
      clear B7 P7 O7 hC7 G7
      have y0 := B8.cell 0; have y1 := B8.cell 1; have y2 := B8.cell 2; have y3 := B8.cell 3; have f0 := B8.frozen 0; have f1 := B8.frozen 1; have f2 := B8.frozen 2; have f3 := B8.frozen 3
      have j0 := P8.cell 0; have j1 := P8.cell 1; have j2 := P8.cell 2; have j3 := P8.cell 3
      go_wp2
      have RR := (((B8.put 0 (.int .i64 x0)).put 1 (.int .i64 x1)).put 2 (.int .i64 y)).put 3 (.slice A2 qd.length c2)
      have e0 := RR.cell 0; have e1 := RR.cell 1; have e2 := RR.cell 2; have e3 := RR.cell 3
      refine bodyPost_ret (v := .agg #[.int .i64 x0, .int .i64 x1, .int .i64 y, .slice A2 qd.length c2]) (by simp [results, Try.results21, go_sem, e0, e1, e2, e3]) rfl ⟨_, (x0, x1, y, qd), rfl, Own.lower (putb (putb (putb (putb O8 (by omega) _) (by omega) _) (by omega) _) (by omega) _) (by omega), ⟨⟨by show -1 ≤ x0; omega, by show x0 ≤ 256; omega⟩, ⟨by show -1 ≤ x1; omega, by show x1 ≤ 9; omega⟩, ⟨by show 0 ≤ y; omega, by show y ≤ 9; omega⟩, by show qd.length ≤ 21; omega⟩, curs_put4 (curs_put4 (curs_put4 (curs_put4 C8 hgs _) hgs _) hgs _) hgs _, gb_far4 (gb_far4 (gb_far4 (gb_far4 G8 (Nat.le_refl _) 0 _) (Nat.le_refl _) 1 _) (Nat.le_refl _) 2 _) (Nat.le_refl _) 3 _⟩
    · have k3 := P6.cell 3; have f3 := P6.frozen 3
      go_wp2_with (at_builtin; refine wpList_app _ rfl (.tmp 11) (.tmp 12) _ rfl (w.heap.size + 1) 5 i0 _ 1 1 Try.underlying22 hi0 hz0 hz1 hz2 rfl (by omega) _ _ _ rfl (O6.1.alloc _) _ 1 1 [.int .u8 1] rfl (Src.one _ _ _) (one_int _ _) (by simp only [maxLen]; omega) (by omega) (by simp; omega) ?_; intro v7 w7 hown hgr hat; have P7 := (P6.alloc (.cells #[.int .u8 1] 5)).grown hgr (fun e => by have := hpo _ e.symm; omega); have O7 := own_sn O6 hown rfl (by decide); obtain ⟨A7, c7, hv7, -⟩ := O7.shape; obtain ⟨n7, hn7⟩ : ∃ m, (qd ++ [1]).length = m := ⟨_, rfl⟩; rw [hn7] at hv7; subst hv7; have k7 := P7.cell 3; have f7 := P7.frozen 3; have B7 := (B6.alloc (.cells #[.int .u8 1] 5)).grown hgr (fun e => by have := (O6.block e.symm).1; omega); have P8 := P7.put 3 (.slice A7 n7 c7); have B8 := B7.far (p := ⟨pb, 3, none⟩) (by show w.heap.size ≠ pb; omega) (.slice A7 n7 c7); have j0 := P8.cell 0; have j1 := P8.cell 1; have j2 := P8.cell 2; have j3 := P8.cell 3; have y0 := B8.cell 0; have y1 := B8.cell 1; have y2 := B8.cell 2; have y3 := B8.cell 3; have h0 := B8.frozen 0; have h1 := B8.frozen 1; have h2 := B8.frozen 2; have h3 := B8.frozen 3)
      have C7 := curs_new4 hC6 hgr (B := w.heap.size) hgs (by omega) (fun r hr => by have := (O6.block hr).1; omega)
      have G7 := gb_over4 (gb_alloc G6 (.cells #[.int .u8 1] 5)) hgr (fun r hr => by have := (O6.block hr).1; omega)
      have O8 := own_awayB (b := pb) (i := 3) O7 (fun e => by rcases hat with h | h; · have := hpo _ (h.symm.trans e); omega
                                                              · have e2 := h.symm.trans e; injection e2 with e2; simp at e2; omega) (.slice A7 n7 c7)
      have C8 := curs_put4 (b := pb) (i := 3) C7 (by omega) (.slice A7 n7 c7)
      have G8 := gb_far4 (b := pb) G7 (by omega) 3 (.slice A7 n7 c7)
      have hql : (qd ++ [1]).length ≤ 21 := by rw [List.length_append]; simp; omega
      clear B7 P7 O7 C7 G7
      have RR := (((B8.put 0 (.int .i64 x0)).put 1 (.int .i64 x1)).put 2 (.int .i64 x2)).put 3 (.slice A7 n7 c7)
      have e0 := RR.cell 0; have e1 := RR.cell 1; have e2 := RR.cell 2; have e3 := RR.cell 3
      refine bodyPost_ret (v := .agg #[.int .i64 x0, .int .i64 x1, .int .i64 x2, .slice A7 n7 c7]) (by simp [results, Try.results21, go_sem, e0, e1, e2, e3]) rfl ⟨_, (x0, x1, x2, qd ++ [1]), rfl, Own.lower (putb (putb (putb (putb O8 (by omega) _) (by omega) _) (by omega) _) (by omega) _) (by omega), ⟨⟨by show -1 ≤ x0; omega, by show x0 ≤ 256; omega⟩, ⟨by show -1 ≤ x1; omega, by show x1 ≤ 9; omega⟩, ⟨by show 0 ≤ x2; omega, by show x2 ≤ 9; omega⟩, hql⟩, curs_put4 (curs_put4 (curs_put4 (curs_put4 C8 hgs _) hgs _) hgs _) hgs _, gb_far4 (gb_far4 (gb_far4 (gb_far4 G8 (Nat.le_refl _) 0 _) (Nat.le_refl _) 1 _) (Nat.le_refl _) 2 _) (Nat.le_refl _) 3 _⟩
set_option maxHeartbeats 2000000 in
theorem d_PieceBytes {w : World} {n c : Nat} {A : Option Addr} {l : List Int} (hl : Ints .u8 w w.heap.size A n l) (hn : n ≤ 140737488355328) :
    Calls Try.prog 6 #[.slice A n c] w fun e w' => ∃ ch q, e = .returned (.agg ch.toArray) ∧ tPiece.R w' w'.heap.size ch q ∧ PcLim q ∧ Below w.heap.size w w' := by
  have B0 : Box (w.alloc (.cells #[.int .i64 0, .int .i64 0, .int .i64 0, .slice none 0 0] 24)) w.heap.size 24 #[.int .i64 0, .int .i64 0, .int .i64 0, .slice none 0 0] := Box.new _ _ _
  have hl0 : Ints .u8 (w.alloc (.cells #[.int .i64 0, .int .i64 0, .int .i64 0, .slice none 0 0] 24)) (w.alloc (.cells #[.int .i64 0, .int .i64 0, .int .i64 0, .slice none 0 0] 24)).heap.size A n l := reach hl (show Below w.heap.size w (w.alloc (.cells #[.int .i64 0, .int .i64 0, .int .i64 0, .slice none 0 0] 24)) from (belx))
  go_enter Try.func6, Try.ntmps6
  go_wp2_with fail
  refine (k_New hl0 hn).mono ?_
  rintro e w1 ⟨g, rfl, hg, hC1, hb1⟩
  have hB1 : Below w.heap.size w w1 := bel_trans (show Below w.heap.size w (w.alloc (.cells #[.int .i64 0, .int .i64 0, .int .i64 0, .slice none 0 0] 24)) from (belx)) hb1
  have B1 := B0.below hb1 (by simp)
  simp only [World.size_alloc] at hg
  have hne : some w.heap.size ≠ some g := fun e => by injection e with e; omega
  go_wp2_with fail
  refine (k_bentP hC1).mono ?_
  rintro e w2 ⟨v2, q, rfl, hO2, hlim, hC2, hG2⟩
  have B2 := B1.grown hG2 hne
  have hB2 := below_gb2 hB1 (by omega) hG2
  have z1 := B1.size
  obtain ⟨A2, c2, rfl, -⟩ := hO2.shape
  obtain ⟨x0, x1, x2, qd⟩ := q
  dsimp only at hO2 ⊢
  obtain ⟨l0, l1, l2, l3⟩ := hlim
  dsimp only at l0 l1 l2 l3
  have wf0 : (Lit.int .i64 x0).wf = true := WalkArith.wf_i64 ⟨by omega, by omega⟩
  have wf1 : (Lit.int .i64 x1).wf = true := WalkArith.wf_i64 ⟨by omega, by omega⟩
  have wf2 : (Lit.int .i64 x2).wf = true := WalkArith.wf_i64 ⟨by omega, by omega⟩
  have y0 := B2.cell 0; have y1 := B2.cell 1; have y2 := B2.cell 2; have y3 := B2.cell 3; have f0 := B2.frozen 0; have f1 := B2.frozen 1; have f2 := B2.frozen 2; have f3 := B2.frozen 3
  go_wp2
  have RR := (((B2.put 0 (.int .i64 x0)).put 1 (.int .i64 x1)).put 2 (.int .i64 x2)).put 3 (.slice A2 qd.length c2)
  have e0 := RR.cell 0; have e1 := RR.cell 1; have e2 := RR.cell 2; have e3 := RR.cell 3
  have hO5 := putb (b := w.heap.size) (i := 3) (putb (b := w.heap.size) (i := 2) (putb (b := w.heap.size) (i := 1) (putb (b := w.heap.size) (i := 0) hO2 (by omega) (.int .i64 x0)) (by omega) (.int .i64 x1)) (by omega) (.int .i64 x2)) (by omega) (.slice A2 qd.length c2)
  refine bodyPost_ret (v := .agg #[.int .i64 x0, .int .i64 x1, .int .i64 x2, .slice A2 qd.length c2]) (by simp [results, Try.results6, go_sem, e0, e1, e2, e3]) rfl ⟨_, (x0, x1, x2, qd), rfl, makePiece (p := (x0, x1, x2, qd)) wf0 wf1 wf2 (own_R4 hO5), ⟨l0, l1, l2, l3⟩, ?_⟩
  exact (((hB2.setCell (p := ⟨w.heap.size, 0, none⟩) (Nat.le_refl _) _).setCell (p := ⟨w.heap.size, 1, none⟩) (Nat.le_refl _) _).setCell (p := ⟨w.heap.size, 2, none⟩) (Nat.le_refl _) _).setCell (p := ⟨w.heap.size, 3, none⟩) (Nat.le_refl _) _
set_option maxHeartbeats 2000000 in
theorem d_Split {w : World} {n c : Nat} {A : Option Addr} {l : List Int} (hl : Ints .u8 w w.heap.size A n l) (hn : n ≤ 140737488355328) :
    Calls Try.prog 18 #[.slice A n c] w fun e w' => ∃ x A' c' m, e = .returned (.tuple #[.int .i64 x, .slice A' m.length c']) ∧ (-1 ≤ x ∧ x ≤ 256) ∧ tBy.R w' w'.heap.size [.slice A' (m : List Int).length c'] m ∧ m.length ≤ 161 ∧ Below w.heap.size w w' := by
  obtain ⟨j0, hj0, hyz0, hyz1, hyz2⟩ := info_parts info_by
  go_enter Try.func18, Try.ntmps18
  go_wp2_with fail
  refine (k_New hl hn).mono ?_
  rintro e w1 ⟨g, rfl, hg, hC1, hB1⟩
  go_wp2_with fail
  refine (k_msg hC1).mono ?_
  rintro e w2 ⟨v2, m, rfl, hO2, hm, hC2, hG2⟩
  have hB2 := below_gb2 hB1 hg hG2
  have z1 := hC1.size
  have z2 := hG2.size
  obtain ⟨A2, c2, rfl, -⟩ := hO2.shape
  go_wp2_with fail
  refine (k_Once w2 12 hC2 (gb_self w2 g) (by omega) (by omega)).mono ?_
  rintro e w3 ⟨b, rfl, hC3, hG3⟩
  have hB3 := below_gb2 hB2 hg hG3
  have O3 := own_draw4 hO2 hG3 (by omega)
  have z3 := hC3.size
  have z3w := hB3.size
  clear hO2 hC1 hC2
  cases b with
  | false =>
    have hc : ∀ i, i < 5 → (w3.alloc (.cells #[.int .i64 0, .int .i64 255, .int .i64 256, .int .i64 (-1), .int .i64 9] 3)).cell? ⟨w3.heap.size, 0 + i, none⟩ = some (.int .i64 (([0, 255, 256, -1, 9] : List Int).getD i 0)) := rowcells4 w3 3 [0, 255, 256, -1, 9]
    go_wp2_with fail
    refine (k_Pick (L := some ⟨w3.heap.size, 0, none⟩) (m := 5) (d := 5) (zs := [0, 255, 256, -1, 9]) w3 (Curs.alloc hC3 _) (gb_alloc (gb_self w3 g) _) ⟨w3.heap.size, 0, rfl, by omega, by simp, hc⟩ (by omega) (by omega) rfl).mono ?_
    rintro e w7 ⟨y, rfl, hy, hC7, hG7⟩
    have hy2 : -1 ≤ y ∧ y ≤ 256 := by simp only [List.mem_cons, List.not_mem_nil, or_false] at hy; omega
    have O7 := own_draw4 O3 hG7 (by omega)
    have hB7 := below_gb2 hB3 hg hG7
    clear hc hy
    go_wp2
    go_ret2
    exact ⟨y, _, _, m, rfl, hy2, own_R4 O7, by omega, hB7⟩
  | true =>
    go_wp2_with (at_make; refine wpList_mk _ rfl (.const (.int .i64 161)) (.const (.int .i64 161)) _ rfl 5 j0 _ Try.underlying22 hj0 hyz0 rfl hyz1 161 rfl rfl (by rw [hyz2]; omega) (by simp only [maxLen]; omega) ?_; intro w4 hrow hb4 hsz)
    have O4 : Own .u8 5 w4 w.heap.size (.slice (some ⟨w3.heap.size, 0, none⟩) 161 161) (List.replicate 161 0) :=
      Own.of_row (hrow.congr fun j hj => by rw [List.getD_eq_getElem?_getD, List.getElem?_replicate, if_pos hj]; rfl) (by simp) (by simp only [maxLen]; omega) z3w (fun x hx => by rw [List.eq_of_mem_replicate hx]; decide)
    have O4 := O4.raise (base' := w3.heap.size) (fun b hb => by injection hb with hb; have hb : w3.heap.size = b := hb; omega)
    have C4 := hC3.below hb4 z3
    have B4 := bel_trans hB3 hb4
    have z4 := C4.size
    obtain ⟨G, hG⟩ : ∃ G, w3.heap.size = G := ⟨_, rfl⟩
    rw [hG] at O4 z3 ⊢
    clear hrow hG hb4 hsz O3 hC3
    have hc : ∀ i, i < 5 → (w4.alloc (.cells #[.int .i64 0, .int .i64 255, .int .i64 256, .int .i64 (-1), .int .i64 9] 3)).cell? ⟨w4.heap.size, 0 + i, none⟩ = some (.int .i64 (([0, 255, 256, -1, 9] : List Int).getD i 0)) := rowcells4 w4 3 [0, 255, 256, -1, 9]
    go_wp2_with fail
    refine (k_Pick (L := some ⟨w4.heap.size, 0, none⟩) (m := 5) (d := 5) (zs := [0, 255, 256, -1, 9]) w4 (Curs.alloc C4 _) (gb_alloc (gb_self w4 g) _) ⟨w4.heap.size, 0, rfl, by omega, by simp, hc⟩ (by omega) (by omega) rfl).mono ?_
    rintro e w7 ⟨y, rfl, hy, hC7, hG7⟩
    have hy2 : -1 ≤ y ∧ y ≤ 256 := by simp only [List.mem_cons, List.not_mem_nil, or_false] at hy; omega
    have O7 := own_draw4 O4 hG7 (by omega)
    have hB7 := below_gb2 B4 hg hG7
    clear hc hy
    go_wp2
    go_ret2
    refine ⟨y, some ⟨G, 0, none⟩, 161, (List.replicate 161 0), rfl, hy2, by have := own_R4 O7; simpa using this, by simp, hB7⟩
def ReadDraw4 (w w' : World) (e : Ending) : Prop := ∃ A' n' c' b, e = .returned (.slice A' n' c') ∧ tBy.R w' w'.heap.size [.slice A' n' c'] b ∧ b.length ≤ 24 ∧ Below w.heap.size w w'
theorem Ints.head4 {K : IntKind} {w : World} {B n : Nat} {A : Option Addr} {l : List Int} (h : Ints K w B A n l) (m : Nat) (hm : m ≤ n) : Ints K w B A m (l.take m) := by
  refine ⟨by rw [List.length_take, h.1]; omega, fun h0 => ?_, fun x hx => h.2.2 x (List.mem_of_mem_take hx)⟩
  obtain ⟨b, off, e, hlt, hcell⟩ := h.2.1 (by omega)
  refine ⟨b, off, e, hlt, fun j hj => ?_⟩
  rw [hcell j (by omega), List.getD_eq_getElem?_getD, List.getD_eq_getElem?_getD, List.getElem?_take, if_pos hj]
theorem Own.cap4 {k : IntKind} {e : TypeId} {w : World} {base n c : Nat} {A : Option Addr} {l : List Int} (h : Own k e w base (.slice A n c) l) : n ≤ c ∧ c ≤ 9223372036854775807 := by
  rcases h.1.2 with ⟨e1, -⟩ | ⟨g, cap, cur, e1, -, -, h1, h2, -⟩
  · injection e1 with _ e2 e3; omega
  · injection e1 with _ e2 e3; simp only [maxLen] at h2; have := h.intsAt.2; omega
set_option maxHeartbeats 4000000 in
theorem d_PieceRead {w : World} {n c : Nat} {A : Option Addr} {l : List Int} (hl : Ints .u8 w w.heap.size A n l) (hn : n ≤ 140737488355328) :
    Calls Try.prog 12 #[.slice A n c] w fun e w' => ReadDraw4 w w' e := by
  obtain ⟨i0, hi0, hz0, hz1, hz2⟩ := info_parts info_by
  go_enter Try.func12, Try.ntmps12
  go_wp2_with fail
  refine (k_New hl hn).mono ?_
  rintro e w1 ⟨g, rfl, hg, hC1, hB1⟩
  have z1 := hC1.size
  go_wp2_with fail
  refine (k_piece hC1).mono ?_
  rintro e w2 ⟨v2, q, rfl, hO2, hok, hC2, hG2⟩
  have hB2 := below_gb2 hB1 hg hG2
  have z2 := hG2.size
  have h8 := pc_le8 hok
  obtain ⟨A2, c2, rfl, -⟩ := hO2.shape
  have hI2 := hO2.intsAt.1
  obtain ⟨x0, x1, x2, qd⟩ := q
  dsimp only at h8 hO2 hI2 ⊢
  go_wp2_with fail
  refine (s_l4bytes (by omega) (by omega) (by omega) (by omega) hI2).mono ?_
  rintro e w3 ⟨vb, rfl, hO3, hb3⟩
  obtain ⟨bl, hbl⟩ : ∃ bl, x0 :: x1 :: x2 :: qd = bl := ⟨_, rfl⟩
  have hln : 3 ≤ bl.length ∧ bl.length ≤ 23 := by rw [← hbl]; simp only [List.length_cons]; omega
  rw [hbl] at hO3
  obtain ⟨Ab, cb, rfl, -⟩ := hO3.shape
  have hbc := hO3.cap4
  obtain ⟨m, hm⟩ : ∃ m, bl.length = m := ⟨_, rfl⟩
  have HM := Lib.hid hm
  rw [hm] at hO3 hln hbc ⊢
  have hB3 := hB2.trans (hb3.mono hB2.size)
  have hC3 := hC2.below hb3 hC2.size
  have z3 := hb3.size
  have hC2s := hC2.size
  clear hm hbl hok hC1 hC2 hb3 hO2 hI2 h8
  go_wp2_with fail
  refine (k_Once w3 3 hC3 (gb_self w3 g) (by omega) (by omega)).mono ?_
  rintro e w4 ⟨b, rfl, hC4, hG4⟩
  have hB4 := below_gb2 hB3 hg hG4
  have O4 := own_draw4 hO3 hG4 (by omega)
  have z4 := hG4.size
  clear hO3 hC3
  cases b with
  | false =>
    go_wp2
    go_ret
    exact ⟨_, _, _, bl, rfl, own_R4 O4, by rw [HM.out]; omega, hB4⟩
  | true =>
    go_wp2_with fail
    refine (k_Below w4 (m : Int) hC4 (gb_self w4 g) (by omega) (by omega)).mono ?_
    rintro e w5 ⟨i, rfl, hi0', hi1', hC5, hG5⟩
    obtain ⟨j, rfl⟩ := Int.eq_ofNat_of_zero_le hi0'
    have hj : j < m := by omega
    have hB5 := below_gb2 hB4 hg hG5
    have O5 := own_draw4 O4 hG5 (by omega)
    have z5 := hG5.size
    go_wp2_with fail
    refine (k_Below w5 3 hC5 (gb_self w5 g) (by omega) (by omega)).mono ?_
    rintro e w6 ⟨x, rfl, hx0, hx1, hC6, hG6⟩
    have hB6 := below_gb2 hB5 hg hG6
    have O6 := own_draw4 O5 hG6 (by omega)
    have z6 := hG6.size
    clear O4 O5 hC4 hC5
    have hx : x = 0 ∨ x = 1 ∨ x = 2 := by omega
    clear hx0 hx1
    rcases hx with rfl | rfl | rfl
    · obtain ⟨gb, cb', e1, hcc, hcm, hgw, hgs, -, -⟩ := O6.row (by rw [HM.out]; omega)
      injection e1 with e1 em e2
      clear em
      subst e1 e2
      have q1 : (0 : Int) ≤ (j : Int) := by omega
      have q2 : (j : Int) < (m : Int) := by omega
      clear hcm hgs
      go_wp2_with (go_at_call 29; refine (k_Byte hC6).mono ?_; rintro e w7 ⟨y, rfl, hy0, hy1, hC7, hG7⟩; have O7 := own_draw4 O6 hG7 (by omega); obtain ⟨gb', cb'', e1, -, -, -, -, hcell, hfz⟩ := O7.row (by rw [HM.out]; omega); simp only [Value.slice.injEq, Option.some.injEq, Addr.mk.injEq, and_true] at e1; obtain ⟨e1, -, e2⟩ := e1; subst e1 e2; have hc := hcell j (by rw [HM.out]; exact hj); have hf := hfz j; have u7 : IntKind.u8.wrap y = y := u8w ⟨hy0, by omega⟩)
      have hB7 := below_gb2 hB6 hg hG7
      have O8 := Own.put (l := bl) (c := cb) (by rw [HM.out]; exact O7) j y (wf8 (by omega))
      rw [HM.out] at O8
      go_ret
      exact ⟨_, _, _, bl.set j y, rfl, own_R4 O8, by rw [List.length_set, HM.out]; omega, hB7.setCell (p := ⟨gb, j, none⟩) (by have := hB2.size; show w.heap.size ≤ gb; omega) _⟩
    · have hI6 := O6.intsAt.1
      have h6m := hI6
      have q1 : (j : Int) ≤ (cb : Int) := by omega
      have q2 : (0 : Int) ≤ (j : Int) := by omega
      have hT := Ints.head4 hI6 j (by omega)
      go_wp2
      go_ret
      exact ⟨_, _, _, bl.take j, rfl, ints_slR hT (by omega) (by omega), by rw [List.length_take, HM.out]; omega, hB6⟩
    · go_wp2_with (at_builtin; refine wpList_app _ rfl (.tmp 19) (.tmp 20) _ rfl w2.heap.size 5 i0 _ 1 1 Try.underlying22 hi0 hz0 hz1 hz2 rfl (by omega) _ _ _ rfl (O6.1.alloc _) _ 1 1 [.int .u8 0] rfl (Src.one _ _ _) (one_int _ _) (by simp only [maxLen]; rw [HM.out]; omega) (by rw [HM.out]; omega) (by simp; omega) ?_; intro v7 w7 hown hgr hat)
      have O7 := own_sn O6 hown rfl (by decide)
      obtain ⟨A7, c7, rfl, -⟩ := O7.shape
      have hB7 : Below w.heap.size w w7 := Below.grown (w := w6.alloc (.cells #[.int .u8 0] 5)) (bel_alloc hB6 _) hgr (by simp; have := hB6.size; omega) (fun b hb => by have := (O6.block hb).1; have := hB2.size; omega)
      go_ret
      exact ⟨_, _, _, bl ++ [0], rfl, own_R4 O7, by rw [List.length_append, HM.out]; simp; omega, hB7⟩
end Go.Proofs.Ytaabmaoldhoinaa
namespace Go.Proofs.Ytaabmaoldhoinaa
set_option maxRecDepth 100000
open Go.ChangeShapes Go.WideShapes Go.ChangeAt Go.RowKit
open Fld
attribute [local go_sem ↓] Go.wp_at_zero Go.wp_at_succ

theorem conv_bytes {w : World} {B n : Nat} {A : Option Addr} {l : List Int} (h : Ints .u8 w B A n l) (c : Nat) (src e dst : TypeId) (hs : Try.prog.underlying src = some (.slice e)) (he : Try.prog.underlying e = some (.int .u8)) (hd : Try.prog.underlying dst = some .string) :
    (convert src dst (.slice A n c)).run Try.prog w = .ok (.string (strOfNums l)) w := by
  by_cases h0 : n = 0
  · subst h0
    obtain rfl : l = [] := List.eq_nil_of_length_eq_zero h.1
    exact run_convert_bytes_zero w src e hs he A c dst hd
  · obtain ⟨b, off, rfl, _, hc⟩ := h.2.1 (by omega)
    exact run_convert_bytes_arg w src e hs he b off n c l h.1 hc dst hd
theorem nums_eq {l r : List Int} (hl : Bytes l) (hr : Bytes r) : ((strOfNums l).toList == (strOfNums r).toList) = decide (l = r) := by
  rw [Lib.strOfNums_toList, Lib.strOfNums_toList, Lib.bytesOf, Lib.bytesOf, Bool.eq_iff_iff]
  simp only [beq_iff_eq, decide_eq_true_eq]
  constructor
  · intro h
    have hlen : l.length = r.length := by have := congrArg List.length h; simpa using this
    apply ext_getD hlen
    intro i hi
    have h2 := congrArg (fun x => x[i]?) h
    simp only [List.getElem?_map, List.getElem?_eq_getElem hi, List.getElem?_eq_getElem (show i < r.length by omega), Option.map_some, Option.some.injEq] at h2
    have a1 := hl.at_ i
    have a2 := hr.at_ i
    rw [getD_lt hi] at a1
    rw [getD_lt (show i < r.length by omega)] at a2
    rw [getD_lt hi, getD_lt (show i < r.length by omega)]
    have h3 := congrArg UInt8.toNat h2
    simp only [UInt8.toNat_ofNat'] at h3
    omega
  · intro h; rw [h]
end Go.Proofs.Ytaabmaoldhoinaa
namespace Go.Proofs.Ytaabmaoldhoinaa
open Go.ChangeShapes Go.WideShapes Go.ChangeAt Go.RowKit
open Fld
theorem l_same {w : World} {B B' n m c d : Nat} {A A' : Option Addr} {l r : List Int} (hl : Ints .u8 w B A n l) (hr : Ints .u8 w B' A' m r) :
    Calls Try.prog 11 #[.slice A n c, .slice A' m d] w fun e w' => e = .returned (.bool (decide (l = r))) ∧ w = w' := by
  have g1 := conv_bytes hl c 22 5 9 Try.underlying22 Try.underlying5 Try.underlying9
  have g2 := conv_bytes hr d 22 5 9 Try.underlying22 Try.underlying5 Try.underlying9
  have HN := Lib.hid (nums_eq hl.bytes hr.bytes)
  go_enter Try.func11, Try.ntmps11
  go_wp2
  go_ret
  exact ⟨ret_bool HN.out, rfl⟩
def atV (l : List Int) (i : Int) : Int := if l.length = 0 then 0 else l.getD (i % (l.length : Int)).toNat 0
theorem atV_rg {l : List Int} (h : Bytes l) (i : Int) : 0 ≤ atV l i ∧ atV l i < 256 := by
  unfold atV
  split
  · omega
  · exact h.at_ _
theorem l_at {w : World} {B n c : Nat} {A : Option Addr} {l : List Int} (i : Int) (hl : Ints .u8 w B A n l) (hn : n ≤ 140737488355328) (h0 : 0 ≤ i) :
    Calls Try.prog 20 #[.slice A n c, .int .i64 i] w fun e w' => e = .returned (.int .i64 (atV l i)) ∧ w = w' := by
  have hlen := hl.1
  by_cases hz : n = 0
  · subst hz
    have H := Lib.hid (show atV l i = 0 from if_pos hlen)
    clear hlen
    go_enter Try.func20, Try.ntmps20
    go_wp2
    go_ret
    exact ⟨ret_i64 H.out.symm, rfl⟩
  · have hby := hl.bytes
    have H : atV l i = l.getD (i % (n : Int)).toNat 0 := by unfold atV; rw [if_neg (by omega), hlen]
    obtain ⟨j, hj⟩ : ∃ j : Nat, i % (n : Int) = j := ⟨(i % (n : Int)).toNat, by have := Int.emod_nonneg i (show (n : Int) ≠ 0 by omega); omega⟩
    have hjn : j < n := by have := Int.emod_lt_of_pos i (show (0 : Int) < n by omega); omega
    obtain ⟨b, off, rfl, _, hc, _⟩ := hl.at_ hjn
    have bx := hby.at_ j
    have d0 : ((n : Int) == 0) = false := by simp; omega
    have r0 := Int.emod_nonneg i (show (n : Int) ≠ 0 by omega)
    have r1 := Int.emod_lt_of_pos i (show (0 : Int) < n by omega)
    have tm : i.tmod (n : Int) = (j : Int) := by rw [Int.tmod_eq_emod_of_nonneg h0, hj]
    rw [hj, Int.toNat_natCast] at H
    obtain ⟨x, hx⟩ : ∃ x, l.getD j 0 = x := ⟨_, rfl⟩
    rw [hx] at hc bx H
    have HH := Lib.hid H
    clear hz hx hj H hlen
    go_enter Try.func20, Try.ntmps20
    go_wp2
    go_ret
    exact ⟨ret_i64 HH.out.symm, rfl⟩
theorem marked_ints (w : World) (t : TypeId) (x y : Int) (hx : 0 ≤ x ∧ x < 256) (hy : 0 ≤ y ∧ y < 256) (fr : Nat × Nat) : Ints .u8 (w.alloc (.cells #[.int .u8 x, .int .u8 y] t fr)) (w.heap.size + 1) (some ⟨w.heap.size, 0, none⟩) 2 [x, y] := by
  refine ⟨rfl, fun _ => ⟨w.heap.size, 0, rfl, by omega, fun i hi => ?_⟩, fun z hz => ?_⟩
  · rw [Nat.zero_add, cell_of_row _ w.heap.size i #[.int .u8 x, .int .u8 y] t fr (heap_alloc_new w _)]
    match i, hi with
    | 0, _ => rfl
    | 1, _ => rfl
  · simp only [List.mem_cons, List.not_mem_nil, or_false] at hz
    rcases hz with rfl | rfl
    · exact wf8 hx
    · exact wf8 hy
end Go.Proofs.Ytaabmaoldhoinaa
namespace Go.Proofs.Ytaabmaoldhoinaa
set_option maxRecDepth 100000
set_option linter.unusedVariables false
set_option linter.unusedSimpArgs false
open Go.ChangeShapes Go.WideShapes Go.ChangeAt Go.RowKit
/-- A held cell in order: its next node, its time, and so many bytes. -/
def HdN (a d : Int) (n : Nat) : Prop := 0 ≤ a ∧ a < 8 ∧ 0 ≤ d ∧ d ≤ 65535 ∧ n = 80
instance (a d : Int) (n : Nat) : Decidable (HdN a d n) := by unfold HdN; infer_instance
def HdOk (p : DHeld) : Prop := HdN p.1 p.2.1 p.2.2.length
instance (p : DHeld) : Decidable (HdOk p) := by unfold HdOk; infer_instance
end Go.Proofs.Ytaabmaoldhoinaa
namespace Go.Proofs.Ytaabmaoldhoinaa
set_option maxRecDepth 100000
set_option linter.unusedVariables false
set_option linter.unusedSimpArgs false
open Go.ChangeShapes Go.WideShapes Go.ChangeAt Go.RowKit
open Fld
instance (a : Int) : Decidable (Ok a) := by unfold Ok; infer_instance
/-- A pool in order. -/
def PlOk (p : DPool) : Prop := (p.1.length ≤ 12 ∧ p.2.length ≤ 60) ∧ (∀ h ∈ p.1, HdOk h) ∧ (∀ x ∈ p.2, Ok x) ∧ p.2.Nodup
instance (p : DPool) : Decidable (PlOk p) := by unfold PlOk; infer_instance
section
variable {α : Type} {P : α → Prop} {l : List α} {a : α} {j : Nat}
end
end Go.Proofs.Ytaabmaoldhoinaa
namespace Go.Proofs.Ytaabmaoldhoinaa
set_option linter.unusedVariables false
open Fld
/-! ### Forget -/
/-! ### Expire -/
/-! ### Admit -/
def AdOk (p : DPool) (h : DHeld) (tag : Int) : Prop := PlOk p ∧ HdOk h ∧ Ok tag
instance (p : DPool) (h : DHeld) (tag : Int) : Decidable (AdOk p h tag) := by unfold AdOk; infer_instance
end Go.Proofs.Ytaabmaoldhoinaa
namespace Go.Proofs.Ytaabmaoldhoinaa
set_option maxRecDepth 100000
set_option linter.unusedVariables false
set_option linter.unusedSimpArgs false
open Go.ChangeShapes Go.WideShapes Go.ChangeAt Go.RowKit
open Fld
theorem Ty.far3 {α : Type} {t : Ty α} {w : World} {cs : List Value} {a : α} {F : List Nat} (h : t.O w cs a F) {p : Addr} (hp : p.block ∉ F) (u : Value) : t.O (w.setCell p u) cs a F :=
  t.kept h fun f hf => Below.heap_setCell w p u f (by rintro rfl; exact hp hf)
theorem i_copiedB5 {w : World} {n c : Nat} {A : Option Addr} {l : List Int} (hl : Ints .u8 w w.heap.size A n l) (hn : n ≤ 1048576) :
    Calls Try.prog 52 #[.slice A n c] w fun e w' => ∃ v, e = .returned v ∧ Own .u8 5 w' w.heap.size v l ∧ Below w.heap.size w w' := by
  obtain ⟨i0, hi0, hz0, hz1, hz2⟩ := info_parts info_cb
  go_enter Try.func52, Try.ntmps52
  go_wp2_with (at_builtin; refine wpList_app _ rfl _ (.tmp 3) _ rfl w.heap.size 5 i0 _ 1 1 Try.underlying22 hi0 hz0 hz1 hz2 rfl (by omega) (.slice none 0 0) 0 [] rfl (World.ownsRow_nil _ _ _ _) _ n c (l.map (Value.int .u8)) rfl (Src.of_ints hl) (one_ints _ _) (by simp only [maxLen]; omega) (by omega) (Nat.le_refl _) ?_; intro v1 w1 hown hgr hat)
  go_ret
  exact ⟨v1, rfl, Own.of (n := 0 + n) (by simpa using hown) hl.2.2, Below.grown (Below.refl _ _) hgr (Nat.le_refl _) fun b hb => by simp [Value.ownBlock] at hb⟩
end Go.Proofs.Ytaabmaoldhoinaa
namespace Go.Proofs.Ytaabmaoldhoinaa
set_option maxRecDepth 100000
set_option linter.unusedVariables false
set_option linter.unusedSimpArgs false
open Go.ChangeShapes Go.WideShapes Go.ChangeAt Go.RowKit
open Fld
theorem slO_own {K : IntKind} {w : World} {v : Value} {l : List Int} {F : List Nat} (h : (tSl K).O w [v] l F) : ∀ f ∈ F, v.ownBlock = some f := by
  intro f hf
  rcases h with ⟨A, c, _, _, _, rfl⟩ | ⟨g, off, c, cur, t, h1, h2, h3, h4, h5, h6, h7, rfl⟩
  · exact absurd hf (by simp)
  · injection h1 with h1 _
    rw [List.mem_singleton] at hf
    rw [h1, hf]; rfl
/-- What an append of integers leaves of another's blocks. -/
theorem own_past {α : Type} {t : Ty α} {w w' : World} {cs : List Value} {a : α} {F : List Nat} {row : Option Nat} (h : t.O w cs a F) (hg : w.grownBy w' row) (hr : ∀ b, row = some b → b ∉ F) : t.O w' cs a F :=
  t.kept h fun f hf => hg.block f (t.lt h f hf) fun e => hr f e.symm hf
theorem new_pair {B : Nat} {F G : List Nat} (hF : New B F) (hG : New B G) (hd : ∀ f ∈ F, f ∉ G) : New B (F ++ G) :=
  ⟨List.nodup_append.2 ⟨hF.1, hG.1, fun x hx y hy e => hd x hx (e ▸ hy)⟩, fun f hf => by
    rcases List.mem_append.1 hf with h | h
    · exact hF.2 f h
    · exact hG.2 f h⟩
theorem i_copiedI5 {w : World} {n c : Nat} {A : Option Addr} {l : List Int} (hl : Ints .i64 w w.heap.size A n l) (hn : n ≤ 1048576) :
    Calls Try.prog 39 #[.slice A n c] w fun e w' => ∃ v, e = .returned v ∧ Own .i64 3 w' w.heap.size v l ∧ Below w.heap.size w w' := by
  obtain ⟨i0, hi0, hz0, hz1, hz2⟩ := info_parts info_ci
  go_enter Try.func39, Try.ntmps39
  go_wp2_with (at_builtin; refine wpList_app _ rfl _ (.tmp 3) _ rfl w.heap.size 3 i0 _ 1 8 Try.underlying36 hi0 hz0 hz1 hz2 rfl (by omega) (.slice none 0 0) 0 [] rfl (World.ownsRow_nil _ _ _ _) _ n c (l.map (Value.int .i64)) rfl (Src.of_ints hl) (one_ints _ _) (by simp only [maxLen]; omega) (by omega) (Nat.le_refl _) ?_; intro v1 w1 hown hgr hat)
  go_ret
  exact ⟨v1, rfl, Own.of (n := 0 + n) (by simpa using hown) hl.2.2, Below.grown (Below.refl _ _) hgr (Nat.le_refl _) fun b hb => by simp [Value.ownBlock] at hb⟩

end Go.Proofs.Ytaabmaoldhoinaa
namespace Go.Proofs.Ytaabmaoldhoinaa
set_option linter.unusedVariables false
open Go.RowKit
theorem dkzO {w : World} : tDesk.O w [.slice none 0 0, .slice none 0 0] dkZ [] := by
  obtain ⟨F, h, rfl⟩ := makeODesk (w := w) (p := dkZ) (v0 := .slice none 0 0) (v1 := .slice none 0 0) (F0 := []) (F1 := []) (.inl ⟨none, 0, rfl, by omega, rfl, rfl⟩) nilO
  exact h
theorem put2D_O {w : World} {g : Nat} {v0 v1 : Value} {p : DDesk} {F : List Nat} (h : tDesk.O w [v0, v1] p F) (hg : g ∉ F) : tDesk.O ((w.setCell ⟨g, 0, none⟩ v0).setCell ⟨g, 1, none⟩ v1) [v0, v1] p F :=
  Ty.far3 (t := tDesk) (Ty.far3 (t := tDesk) h (p := ⟨g, 0, none⟩) hg v0) (p := ⟨g, 1, none⟩) hg v1
end Go.Proofs.Ytaabmaoldhoinaa
namespace Go.Proofs.Ytaabmaoldhoinaa
set_option maxRecDepth 100000
set_option linter.unusedVariables false
set_option linter.unusedSimpArgs false
open Go.ChangeShapes Go.WideShapes Go.ChangeAt Go.RowKit
set_option maxHeartbeats 400000 in
theorem i_evryPieceV {w : World} {n c : Nat} {A : Option Addr} {l : List DPiece} (F : Nat) (V : Value) (p : DPiece → Bool) (hE : ∀ (cs : Array Value) (w : World), Sem.run Try.prog (callFunc F #[Value.agg cs, V]) w = .ok (.enter F #[Value.agg cs, V]) w)
    (hF : ∀ (i : Nat) (a : DPiece) (w' : World) (cs : List Value), l[i]? = some a → Below w.heap.size w w' → tPiece.R w' w'.heap.size cs a → Calls Try.prog F #[.agg cs.toArray, V] w' fun e w2 => e = .returned (.bool (p a)) ∧ Below w'.heap.size w' w2)
    (hl : tPiece.row.R w w.heap.size [.slice A n c] l) (hn : n ≤ 17592186043904) :
    Calls Try.prog 67 #[.slice A n c, .func (.func F) #[] #[V]] w fun e w' => e = .returned (.bool (l.all p)) ∧ Below w.heap.size w w' := by
  obtain ⟨e0, _, _⟩ := rowR_len hl
  have HL := Lib.hid e0
  have HF := Lib.hid hF
  have HE := Lib.hid hE
  clear e0 hF hE
  go_enter Try.func67, Try.ntmps67
  go_wp2_with fail
  go_loopw [9] (fun i wr => ∃ j : Nat, j ≤ n ∧ i = .int .i64 j ∧ Below w.heap.size w wr ∧ ∀ h ∈ l.take j, p h = true) (fun i _ => n - (RowKit.intOf i).toNat)
  case atStart => exact ⟨0, by omega, rfl, (belx), al0⟩
  case round =>
    obtain ⟨j, hj, rfl, hB, hG⟩ := hrel
    have HG := Lib.hid hG
    clear hG
    by_cases hlt : j < n
    · obtain ⟨a, b', off, es, hl2, rfl, hb, hes, hR⟩ := rowR_at (K := 4) hl hlt rfl
      have HA := Lib.hid hl2
      clear hl2
      have hRk := hR
      obtain ⟨A2, n2, c2, rfl, -, -, -, -, -, -, -⟩ := openPiece hR
      have e0 : wr.cell? ⟨b', off + j * 4, none⟩ = some (.int .i64 a.1) := cell_at hB hb (hes 0 (by omega))
      have e1 : wr.cell? ⟨b', off + j * 4 + 1, none⟩ = some (.int .i64 a.2.1) := cell_at hB hb (hes 1 (by omega))
      have e2 : wr.cell? ⟨b', off + j * 4 + 2, none⟩ = some (.int .i64 a.2.2.1) := cell_at hB hb (hes 2 (by omega))
      have e3 : wr.cell? ⟨b', off + j * 4 + 3, none⟩ = some (.slice A2 n2 c2) := cell_at hB hb (hes 3 (by omega))
      clear hes
      go_wp2_with fail
      rw [HE.out, Oper.upon_enter]
      refine (HF.out j a _ _ HA.out ?hB (tPiece.reach hRk ?hB2)).mono ?_
      case hB => exact bel_trans (a := w) hB (belx)
      case hB2 => exact bel_trans (a := w) hB (belx)
      rintro e w1 ⟨rfl, hb1⟩
      have hB1 : Below w.heap.size w w1 := bel_trans (bel_trans (a := w) hB (belx)) hb1
      obtain ⟨d, hd⟩ : ∃ d, p a = d := ⟨_, rfl⟩
      rw [hd]
      have HD := Lib.hid hd
      clear hd
      cases d
      · have HR := Lib.hid (alF HA.out HD.out)
        go_wp2
        go_ret
        exact ⟨ret_bool HR.out.symm, hB1⟩
      · go_wp2
        go_roundw
        case rel => exact ⟨j + 1, by omega, by go_num, hB1, alS HG.out HA.out HD.out⟩
        case measure => simp [RowKit.intOf]; omega
    · obtain rfl : n = j := by omega
      have HR := Lib.hid (alT HG.out (Nat.le_of_eq HL.out))
      go_wp2
      go_ret
      exact ⟨ret_bool HR.out.symm, hB⟩
set_option maxHeartbeats 1000000 in
theorem i_eachPieceI {w : World} {n c : Nat} {A : Option Addr} {l : List DPiece} (F : Nat) (f : DPiece → Int) (hE : ∀ (cs : Array Value) (w : World), Sem.run Try.prog (callFunc F #[Value.agg cs]) w = .ok (.enter F #[Value.agg cs]) w)
    (hF : ∀ (i : Nat) (a : DPiece) (w' : World) (cs : List Value), l[i]? = some a → Below w.heap.size w w' → tPiece.R w' w'.heap.size cs a → Calls Try.prog F #[.agg cs.toArray] w' fun e w2 => e = .returned (.int .i64 (f a)) ∧ Below w'.heap.size w' w2)
    (hW : ∀ a ∈ l, (Lit.int .i64 (f a)).wf = true) (hl : tPiece.row.R w w.heap.size [.slice A n c] l) (hn : n ≤ 1048576) :
    Calls Try.prog 56 #[.slice A n c, .func (.func F) #[] #[]] w fun e w' => ∃ v, e = .returned v ∧ Own .i64 3 w' w.heap.size v (l.map f) ∧ Below w.heap.size w w' := by
  obtain ⟨i0, hi0, hz0, hz1, hz2⟩ := info_parts info_ci
  obtain ⟨e0, _, _⟩ := rowR_len hl
  have HL := Lib.hid e0
  have HF := Lib.hid hF
  have HE := Lib.hid hE
  have HW := Lib.hid hW
  clear e0 hF hE hW
  go_enter Try.func56, Try.ntmps56
  go_wp2_with fail
  go_loopw [5, 10] (fun v i wr => ∃ j : Nat, j ≤ n ∧ i = .int .i64 j ∧ Own .i64 3 wr w.heap.size v ((l.take j).map f) ∧ Below w.heap.size w wr) (fun _ i _ => n - (RowKit.intOf i).toNat)
  case atStart => exact ⟨0, by omega, rfl, Own.nil _ _ _ _, (belx)⟩
  case round =>
    obtain ⟨j, hj, rfl, hO, hB⟩ := hrel
    by_cases hlt : j < n
    · obtain ⟨a, b', off, es, hl2, rfl, hb, hes, hR⟩ := rowR_at (K := 4) hl hlt rfl
      have HA := Lib.hid hl2
      have HS := Lib.hid (mapS (f := f) hl2)
      have HLN := Lib.hid (mapLen (f := f) (l := l) (j := j) (by rw [HL.out]; exact hj))
      have HI := Lib.hid (HW.out a (alMem hl2))
      clear hl2
      have hRk := hR
      obtain ⟨A2, n2, c2, rfl, -, -, -, -, -, -, -⟩ := openPiece hR
      have e0 : wr.cell? ⟨b', off + j * 4, none⟩ = some (.int .i64 a.1) := cell_at hB hb (hes 0 (by omega))
      have e1 : wr.cell? ⟨b', off + j * 4 + 1, none⟩ = some (.int .i64 a.2.1) := cell_at hB hb (hes 1 (by omega))
      have e2 : wr.cell? ⟨b', off + j * 4 + 2, none⟩ = some (.int .i64 a.2.2.1) := cell_at hB hb (hes 2 (by omega))
      have e3 : wr.cell? ⟨b', off + j * 4 + 3, none⟩ = some (.slice A2 n2 c2) := cell_at hB hb (hes 3 (by omega))
      clear hes hR
      go_wp2_with fail
      rw [HE.out, Oper.upon_enter]
      refine (HF.out j a _ _ HA.out ?hB (tPiece.reach hRk ?hB2)).mono ?_
      case hB => exact bel_trans (a := w) hB (belx)
      case hB2 => exact bel_trans (a := w) hB (belx)
      rintro e w1 ⟨rfl, hb1⟩
      obtain ⟨y, hy⟩ : ∃ y, f a = y := ⟨_, rfl⟩
      rw [hy] at HS HI
      rw [hy]
      clear hy
      have hs1 : Below wr.heap.size wr w1 := bel_trans (belx) hb1
      have hO2 := hO.below hs1
      have zz := hs1.size
      have zw := hB.size
      have hlen2 := HLN.out
      go_wp2_with (at_builtin; refine wpList_app _ rfl (.tmp 14) (.tmp 18) _ rfl w.heap.size 3 i0 _ 1 8 Try.underlying36 hi0 hz0 hz1 hz2 rfl (by omega) _ _ _ rfl (hO2.1.alloc _) _ 1 1 [.int .i64 y] rfl (Src.one _ _ _) (one_int _ _) (by simp only [maxLen]; omega) (by omega) (by simp; omega) ?_; intro v1 w3 hown hgr hat)
      go_roundw
      case rel => exact ⟨j + 1, by omega, by go_num, own_sn hO2 hown HS.out HI.out, below_sn (hB.trans (hs1.mono hB.size)) hO2 (Nat.le_refl _) hgr⟩
      case measure => simp [RowKit.intOf]; omega
    · obtain rfl : n = j := by omega
      have HA := Lib.hid (show l.take n = l from List.take_of_length_le (Nat.le_of_eq HL.out))
      rw [HA.out] at hO
      go_wp2
      go_ret
      exact ⟨_, rfl, hO, hB⟩
end Go.Proofs.Ytaabmaoldhoinaa
namespace Go.Proofs.Ytaabmaoldhoinaa
set_option maxRecDepth 100000
set_option linter.unusedVariables false
set_option linter.unusedSimpArgs false
open Go.ChangeShapes Go.WideShapes Go.ChangeAt Go.RowKit
set_option maxHeartbeats 400000 in
theorem i_evryWholeV {w : World} {n c : Nat} {A : Option Addr} {l : List DWhole} (F : Nat) (V : Value) (p : DWhole → Bool) (hE : ∀ (cs : Array Value) (w : World), Sem.run Try.prog (callFunc F #[Value.agg cs, V]) w = .ok (.enter F #[Value.agg cs, V]) w)
    (hF : ∀ (i : Nat) (a : DWhole) (w' : World) (cs : List Value), l[i]? = some a → Below w.heap.size w w' → tWhole.R w' w'.heap.size cs a → Calls Try.prog F #[.agg cs.toArray, V] w' fun e w2 => e = .returned (.bool (p a)) ∧ Below w'.heap.size w' w2)
    (hl : tWhole.row.R w w.heap.size [.slice A n c] l) (hn : n ≤ 17592186043904) :
    Calls Try.prog 47 #[.slice A n c, .func (.func F) #[] #[V]] w fun e w' => e = .returned (.bool (l.all p)) ∧ Below w.heap.size w w' := by
  obtain ⟨e0, _, _⟩ := rowR_len hl
  have HL := Lib.hid e0
  have HF := Lib.hid hF
  have HE := Lib.hid hE
  clear e0 hF hE
  go_enter Try.func47, Try.ntmps47
  go_wp2_with fail
  go_loopw [9] (fun i wr => ∃ j : Nat, j ≤ n ∧ i = .int .i64 j ∧ Below w.heap.size w wr ∧ ∀ h ∈ l.take j, p h = true) (fun i _ => n - (RowKit.intOf i).toNat)
  case atStart => exact ⟨0, by omega, rfl, (belx), al0⟩
  case round =>
    obtain ⟨j, hj, rfl, hB, hG⟩ := hrel
    have HG := Lib.hid hG
    clear hG
    by_cases hlt : j < n
    · obtain ⟨a, b', off, es, hl2, rfl, hb, hes, hR⟩ := rowR_at (K := 4) hl hlt rfl
      have HA := Lib.hid hl2
      clear hl2
      have hRk := hR
      obtain ⟨A2, n2, c2, rfl, -, -, -, -, -, -, -⟩ := openWhole hR
      have e0 : wr.cell? ⟨b', off + j * 4, none⟩ = some (.int .i64 a.1) := cell_at hB hb (hes 0 (by omega))
      have e1 : wr.cell? ⟨b', off + j * 4 + 1, none⟩ = some (.int .i64 a.2.1) := cell_at hB hb (hes 1 (by omega))
      have e2 : wr.cell? ⟨b', off + j * 4 + 2, none⟩ = some (.int .i64 a.2.2.1) := cell_at hB hb (hes 2 (by omega))
      have e3 : wr.cell? ⟨b', off + j * 4 + 3, none⟩ = some (.slice A2 n2 c2) := cell_at hB hb (hes 3 (by omega))
      clear hes
      go_wp2_with fail
      rw [HE.out, Oper.upon_enter]
      refine (HF.out j a _ _ HA.out ?hB (tWhole.reach hRk ?hB2)).mono ?_
      case hB => exact bel_trans (a := w) hB (belx)
      case hB2 => exact bel_trans (a := w) hB (belx)
      rintro e w1 ⟨rfl, hb1⟩
      have hB1 : Below w.heap.size w w1 := bel_trans (bel_trans (a := w) hB (belx)) hb1
      obtain ⟨d, hd⟩ : ∃ d, p a = d := ⟨_, rfl⟩
      rw [hd]
      have HD := Lib.hid hd
      clear hd
      cases d
      · have HR := Lib.hid (alF HA.out HD.out)
        go_wp2
        go_ret
        exact ⟨ret_bool HR.out.symm, hB1⟩
      · go_wp2
        go_roundw
        case rel => exact ⟨j + 1, by omega, by go_num, hB1, alS HG.out HA.out HD.out⟩
        case measure => simp [RowKit.intOf]; omega
    · obtain rfl : n = j := by omega
      have HR := Lib.hid (alT HG.out (Nat.le_of_eq HL.out))
      go_wp2
      go_ret
      exact ⟨ret_bool HR.out.symm, hB⟩
set_option maxHeartbeats 1000000 in
theorem i_eachWholeI {w : World} {n c : Nat} {A : Option Addr} {l : List DWhole} (F : Nat) (f : DWhole → Int) (hE : ∀ (cs : Array Value) (w : World), Sem.run Try.prog (callFunc F #[Value.agg cs]) w = .ok (.enter F #[Value.agg cs]) w)
    (hF : ∀ (i : Nat) (a : DWhole) (w' : World) (cs : List Value), l[i]? = some a → Below w.heap.size w w' → tWhole.R w' w'.heap.size cs a → Calls Try.prog F #[.agg cs.toArray] w' fun e w2 => e = .returned (.int .i64 (f a)) ∧ Below w'.heap.size w' w2)
    (hW : ∀ a ∈ l, (Lit.int .i64 (f a)).wf = true) (hl : tWhole.row.R w w.heap.size [.slice A n c] l) (hn : n ≤ 1048576) :
    Calls Try.prog 45 #[.slice A n c, .func (.func F) #[] #[]] w fun e w' => ∃ v, e = .returned v ∧ Own .i64 3 w' w.heap.size v (l.map f) ∧ Below w.heap.size w w' := by
  obtain ⟨i0, hi0, hz0, hz1, hz2⟩ := info_parts info_ci
  obtain ⟨e0, _, _⟩ := rowR_len hl
  have HL := Lib.hid e0
  have HF := Lib.hid hF
  have HE := Lib.hid hE
  have HW := Lib.hid hW
  clear e0 hF hE hW
  go_enter Try.func45, Try.ntmps45
  go_wp2_with fail
  go_loopw [5, 10] (fun v i wr => ∃ j : Nat, j ≤ n ∧ i = .int .i64 j ∧ Own .i64 3 wr w.heap.size v ((l.take j).map f) ∧ Below w.heap.size w wr) (fun _ i _ => n - (RowKit.intOf i).toNat)
  case atStart => exact ⟨0, by omega, rfl, Own.nil _ _ _ _, (belx)⟩
  case round =>
    obtain ⟨j, hj, rfl, hO, hB⟩ := hrel
    by_cases hlt : j < n
    · obtain ⟨a, b', off, es, hl2, rfl, hb, hes, hR⟩ := rowR_at (K := 4) hl hlt rfl
      have HA := Lib.hid hl2
      have HS := Lib.hid (mapS (f := f) hl2)
      have HLN := Lib.hid (mapLen (f := f) (l := l) (j := j) (by rw [HL.out]; exact hj))
      have HI := Lib.hid (HW.out a (alMem hl2))
      clear hl2
      have hRk := hR
      obtain ⟨A2, n2, c2, rfl, -, -, -, -, -, -, -⟩ := openWhole hR
      have e0 : wr.cell? ⟨b', off + j * 4, none⟩ = some (.int .i64 a.1) := cell_at hB hb (hes 0 (by omega))
      have e1 : wr.cell? ⟨b', off + j * 4 + 1, none⟩ = some (.int .i64 a.2.1) := cell_at hB hb (hes 1 (by omega))
      have e2 : wr.cell? ⟨b', off + j * 4 + 2, none⟩ = some (.int .i64 a.2.2.1) := cell_at hB hb (hes 2 (by omega))
      have e3 : wr.cell? ⟨b', off + j * 4 + 3, none⟩ = some (.slice A2 n2 c2) := cell_at hB hb (hes 3 (by omega))
      clear hes hR
      go_wp2_with fail
      rw [HE.out, Oper.upon_enter]
      refine (HF.out j a _ _ HA.out ?hB (tWhole.reach hRk ?hB2)).mono ?_
      case hB => exact bel_trans (a := w) hB (belx)
      case hB2 => exact bel_trans (a := w) hB (belx)
      rintro e w1 ⟨rfl, hb1⟩
      obtain ⟨y, hy⟩ : ∃ y, f a = y := ⟨_, rfl⟩
      rw [hy] at HS HI
      rw [hy]
      clear hy
      have hs1 : Below wr.heap.size wr w1 := bel_trans (belx) hb1
      have hO2 := hO.below hs1
      have zz := hs1.size
      have zw := hB.size
      have hlen2 := HLN.out
      go_wp2_with (at_builtin; refine wpList_app _ rfl (.tmp 14) (.tmp 18) _ rfl w.heap.size 3 i0 _ 1 8 Try.underlying36 hi0 hz0 hz1 hz2 rfl (by omega) _ _ _ rfl (hO2.1.alloc _) _ 1 1 [.int .i64 y] rfl (Src.one _ _ _) (one_int _ _) (by simp only [maxLen]; omega) (by omega) (by simp; omega) ?_; intro v1 w3 hown hgr hat)
      go_roundw
      case rel => exact ⟨j + 1, by omega, by go_num, own_sn hO2 hown HS.out HI.out, below_sn (hB.trans (hs1.mono hB.size)) hO2 (Nat.le_refl _) hgr⟩
      case measure => simp [RowKit.intOf]; omega
    · obtain rfl : n = j := by omega
      have HA := Lib.hid (show l.take n = l from List.take_of_length_le (Nat.le_of_eq HL.out))
      rw [HA.out] at hO
      go_wp2
      go_ret
      exact ⟨_, rfl, hO, hB⟩
end Go.Proofs.Ytaabmaoldhoinaa
namespace Go.Proofs.Ytaabmaoldhoinaa
set_option maxRecDepth 100000
set_option linter.unusedVariables false
set_option linter.unusedSimpArgs false
open Go.ChangeShapes Go.WideShapes Go.ChangeAt Go.RowKit
theorem i_isAsc {w : World} {n c : Nat} {A : Option Addr} {l : List Int} (b : Bool) (T : Asc l → b = true) (F : ¬ Asc l → b = false) (hl : Ints .i64 w w.heap.size A n l) (hn : n ≤ 17592186043904) :
    Calls Try.prog 44 #[.slice A n c] w fun e w' => e = .returned (.bool b) ∧ Below w.heap.size w w' := by
  have HL := Lib.hid hl.1
  have HT := Lib.hid T
  have HF := Lib.hid F
  clear T F
  go_enter Try.func44, Try.ntmps44
  go_wp2_with fail
  go_loopw [3] (fun i wr => ∃ q : Nat, (q < n ∨ q = 0) ∧ i = .int .i64 ((q : Int) + 1) ∧ Below w.heap.size w wr ∧ ∀ x, x < q → l.getD x 0 < l.getD (x + 1) 0) (fun i _ => n - (RowKit.intOf i).toNat)
  case atStart => exact ⟨0, .inr rfl, rfl, (belx), fun x h => absurd h (by omega)⟩
  case round =>
    obtain ⟨q, hq, rfl, hB, hG⟩ := hrel
    have HG := Lib.hid hG
    clear hG
    by_cases hlt : q + 1 < n
    · obtain ⟨bA, off, rfl, hb, hc⟩ := hl.2.1 (by omega)
      have u1 : wr.cell? ⟨bA, off + (q + 1), none⟩ = some (.int .i64 (l.getD (q + 1) 0)) := cell_at hB hb (hc (q + 1) hlt)
      have u0 : wr.cell? ⟨bA, off + q, none⟩ = some (.int .i64 (l.getD q 0)) := cell_at hB hb (hc q (by omega))
      obtain ⟨y, hy⟩ : ∃ y, l.getD (q + 1) 0 = y := ⟨_, rfl⟩
      obtain ⟨z, hz⟩ : ∃ z, l.getD q 0 = z := ⟨_, rfl⟩
      have HY := Lib.hid hy
      have HZ := Lib.hid hz
      rw [hy] at u1
      rw [hz] at u0
      clear hy hz hc
      have i1 : (q : Int) + 1 < (n : Int) := by omega
      have i2 : (0 : Int) ≤ (q : Int) := by omega
      have i3 : (q : Int) < (n : Int) := by omega
      have t1 : ((q : Int) + 1).toNat = q + 1 := by omega
      by_cases b2 : y ≤ z
      · obtain rfl := HF.out (fun h => by have := h q (by rw [HL.out]; exact hlt); rw [HY.out, HZ.out] at this; omega)
        have d2 : decide (y ≤ z) = true := decide_eq_true b2
        clear HT HF
        go_wp2_with fail
        go_quiet (fail)
        go_wp2
        go_ret
        exact ⟨rfl, below_drewN hB _⟩
      · have d2 : decide (y ≤ z) = false := decide_eq_false b2
        have HN := Lib.hid (show z < y by omega)
        go_wp2_with fail
        go_quiet (fail)
        go_wp2
        go_roundw
        case rel => exact ⟨q + 1, .inl hlt, by go_num, below_drewN hB _, fun x hx => by rcases Nat.lt_succ_iff_lt_or_eq.1 hx with h | rfl; exact HG.out x h; rw [HY.out, HZ.out]; exact HN.out⟩
        case measure => simp [RowKit.intOf]; omega
    · obtain rfl := HT.out (fun i hi => HG.out i (by rw [HL.out] at hi; omega))
      have i1 : ¬ (q : Int) + 1 < (n : Int) := by omega
      clear HT HF
      go_wp2
      go_ret
      exact ⟨rfl, hB⟩
theorem i_isIdB (x : Int) (w : World) : Calls Try.prog 23 #[.int .i64 x] w fun e w' => e = .returned (.bool (decide (0 ≤ x ∧ x ≤ 255))) ∧ w = w' := by
  by_cases h : 0 ≤ x ∧ x ≤ 255
  · rw [decide_eq_true h]; exact i_isId_t x w h.1 h.2
  · rw [decide_eq_false h]; exact i_isId_f x w h
theorem i4_isDue_t (x : Int) (w : World) (h1 : 0 ≤ x) (h2 : x ≤ 65535) : Calls Try.prog 32 #[.int .i64 x] w fun e w' => e = .returned (.bool true) ∧ w = w' := by
  go_enter Try.func32, Try.ntmps32
  go_wp2
  go_ret
  exact ⟨ret_bool (by first | (simp; done) | (simp; omega)), rfl⟩
theorem i4_isDue_f (x : Int) (w : World) (h : ¬ (0 ≤ x ∧ x ≤ 65535)) : Calls Try.prog 32 #[.int .i64 x] w fun e w' => e = .returned (.bool false) ∧ w = w' := by
  by_cases h1 : x < 0
  · clear h
    go_enter Try.func32, Try.ntmps32
    go_wp2
    go_ret
    exact ⟨rfl, rfl⟩
  · have h2 : 65535 < x := by omega
    clear h
    go_enter Try.func32, Try.ntmps32
    go_wp2
    go_ret
    exact ⟨ret_bool (by first | (simp; done) | (simp; omega)), rfl⟩
theorem i_IndexI_t {w : World} {B n c : Nat} {A : Option Addr} {l : List Int} (x : Int) (hl : Ints .i64 w B A n l) (hn : n ≤ 17592186043904) (hx : x ∈ l) :
    Calls Try.prog 55 #[.slice A n c, .int .i64 x] w fun e w' => (∃ k : Nat, e = .returned (.int .i64 k) ∧ k < 17592186043904) ∧ w = w' := by
  have HL := Lib.hid hl.1
  go_enter Try.func55, Try.ntmps55
  go_wp2_with fail
  go_loop [8] (fun i => ∃ j : Nat, j ≤ n ∧ i = .int .i64 j ∧ ∀ y ∈ l.take j, y ≠ x) (fun i => n - (RowKit.intOf i).toNat)
  case atStart => exact ⟨0, by omega, rfl, al0⟩
  case round =>
    obtain ⟨j, hj, rfl, hG⟩ := hrel
    have HG := Lib.hid hG
    clear hG
    by_cases hlt : j < n
    · obtain ⟨b, off, rfl, hb, hcell, hwf⟩ := hl.at_ hlt
      have HA := Lib.hid (atI HL.out hlt)
      obtain ⟨y, hy⟩ : ∃ y, l.getD j 0 = y := ⟨_, rfl⟩
      rw [hy] at hcell HA
      clear hy hwf
      by_cases he : x = y
      · subst he
        go_wp2
        go_ret
        exact ⟨⟨j, rfl, by omega⟩, rfl⟩
      · have q : (x == y) = false := by simpa using he
        have HN := Lib.hid (fun e : y = x => he e.symm)
        clear he
        go_wp2
        go_round
        case rel => exact ⟨j + 1, by omega, by go_num, alS HG.out HA.out HN.out⟩
        case measure => simp [RowKit.intOf]; omega
    · exact absurd rfl (alE HG.out (by rw [HL.out]; omega) x hx)
theorem i_IndexI_f {w : World} {B n c : Nat} {A : Option Addr} {l : List Int} (x : Int) (hl : Ints .i64 w B A n l) (hn : n ≤ 17592186043904) (hx : x ∉ l) :
    Calls Try.prog 55 #[.slice A n c, .int .i64 x] w fun e w' => e = .returned (.int .i64 (-1)) ∧ w = w' := by
  have HL := Lib.hid hl.1
  have HX := Lib.hid hx
  clear hx
  go_enter Try.func55, Try.ntmps55
  go_wp2_with fail
  go_loop [8] (fun i => ∃ j : Nat, j ≤ n ∧ i = .int .i64 j) (fun i => n - (RowKit.intOf i).toNat)
  case atStart => exact ⟨0, by omega, rfl⟩
  case round =>
    obtain ⟨j, hj, rfl⟩ := hrel
    by_cases hlt : j < n
    · obtain ⟨b, off, rfl, hb, hcell, hwf⟩ := hl.at_ hlt
      have HA := Lib.hid (atI HL.out hlt)
      obtain ⟨y, hy⟩ : ∃ y, l.getD j 0 = y := ⟨_, rfl⟩
      rw [hy] at hcell HA
      clear hy hwf
      have q : (x == y) = false := by simp; rintro rfl; exact HX.out (alMem HA.out)
      go_wp2
      go_round
      case rel => exact ⟨j + 1, by omega, by go_num⟩
      case measure => simp [RowKit.intOf]; omega
    · obtain rfl : n = j := by omega
      go_wp2
      go_ret
      exact ⟨rfl, rfl⟩
theorem i_ContainsI {w : World} {B n c : Nat} {A : Option Addr} {l : List Int} (x : Int) (hl : Ints .i64 w B A n l) (hn : n ≤ 17592186043904) :
    Calls Try.prog 34 #[.slice A n c, .int .i64 x] w fun e w' => e = .returned (.bool (decide (x ∈ l))) ∧ w = w' := by
  by_cases hx : x ∈ l
  · have HR := Lib.hid (show decide (x ∈ l) = true from decide_eq_true hx)
    go_enter Try.func34, Try.ntmps34
    go_wp2_with fail
    refine (i_IndexI_t x hl hn hx).mono ?_
    rintro e w' ⟨⟨k, rfl, hk⟩, rfl⟩
    clear hx
    go_wp2
    go_ret
    exact ⟨ret_bool (by first | (rw [HR.out]; done) | (rw [HR.out]; simp; done) | (rw [HR.out]; simp; omega)), rfl⟩
  · have HR := Lib.hid (show decide (x ∈ l) = false from decide_eq_false hx)
    go_enter Try.func34, Try.ntmps34
    go_wp2_with fail
    refine (i_IndexI_f x hl hn hx).mono ?_
    rintro e w' ⟨rfl, rfl⟩
    clear hx
    go_wp2
    go_ret
    exact ⟨ret_bool HR.out.symm, rfl⟩
theorem i_PcAt {w : World} {cs : List Value} {p : DPiece} (h : tPiece.R w w.heap.size cs p) :
    Calls Try.prog 57 #[.agg cs.toArray] w fun e w' => e = .returned (.int .i64 p.2.1) ∧ Below w.heap.size w w' := by
  obtain ⟨A3, n3, c3, rfl, hi0, hi1, hi2, ha3, hb3, hl3, hr3⟩ := openPiece h
  go_enter Try.func57, Try.ntmps57
  go_wp2
  go_ret
  exact ⟨rfl, (belx)⟩
theorem i_lacking (A3 : Option Addr) (n3 c3 : Nat) (x0 x1 x2 y : Int) (w : World) (hy : IntKind.i64.wrap (x1 - (n3 : Int)) = y) :
    Calls Try.prog 38 #[.agg #[.int .i64 x0, .int .i64 x1, .int .i64 x2, .slice A3 n3 c3]] w fun e w' => e = .returned (.int .i64 y) ∧ Below w.heap.size w w' := by
  go_enter Try.func38, Try.ntmps38
  go_wp2
  go_ret
  exact ⟨rfl, (belx)⟩
/-- What isPartial asks of each fragment. -/
def pcW (x0 x1 : Int) (p : DPiece) : Bool := decide (PcOk p ∧ p.1 = x0 ∧ p.2.2.1 = x1)
theorem i_isPart1 {w : World} {g : Nat} {cs : List Value} {p : DPiece} {x0 x1 : Int} (h : tPiece.R w w.heap.size cs p) (hz : szPiece p ≤ 1048576) (hg0 : w.cell? ⟨g, 0, none⟩ = some (.int .i64 x0)) (hg1 : w.cell? ⟨g, 1, none⟩ = some (.int .i64 x1)) :
    Calls Try.prog 68 #[.agg cs.toArray, .pointer (some ⟨g, 0, none⟩)] w fun e w' => e = .returned (.bool (pcW x0 x1 p)) ∧ Below w.heap.size w w' := by
  obtain ⟨A3, n3, c3, rfl, -, -, -, -, -, -, -⟩ := openPiece h
  by_cases hp : PcOk p
  · have HP := Lib.hid (decide_eq_true hp)
    have step : ∀ (b : Bool), pcW x0 x1 p = b → Calls Try.prog 68 #[.agg #[.int .i64 p.1, .int .i64 p.2.1, .int .i64 p.2.2.1, .slice A3 n3 c3], .pointer (some ⟨g, 0, none⟩)] w fun e w' => e = .returned (.bool b) ∧ Below w.heap.size w w' := by
      intro b hb
      have HPW := Lib.hid hb
      clear hb
      by_cases h1 : p.1 = x0
      · by_cases h2 : p.2.2.1 = x1
        · obtain rfl : true = b := by rw [← HPW.out]; exact (decide_eq_true ⟨hp, h1, h2⟩).symm
          have d1 : (p.1 == x0) = true := by simpa using h1
          have d2 : (p.2.2.1 == x1) = true := by simpa using h2
          clear hp h1 h2
          go_enter Try.func68, Try.ntmps68
          go_wp2_with fail
          refine (i_PieceOk (tPiece.reach h ?hB) hz).mono ?_
          case hB => exact (belx)
          rintro e w1 ⟨rfl, hb1⟩
          rw [HP.out]
          have X1 := (Box.new w 24 #[.int .i64 p.1, .int .i64 p.2.1, .int .i64 p.2.2.1, .slice A3 n3 c3]).below hb1 (by simp)
          have x0' := X1.cell 0
          have x2' := X1.cell 2
          have hB1 : Below w.heap.size w w1 := bel_trans (belx) hb1
          have g0 := cell_bel hB1 hg0
          have g1 := cell_bel hB1 hg1
          go_wp2
          go_ret
          exact ⟨ret_bool (by first | exact d2 | (simp [d1, d2]; done)), hB1⟩
        · obtain rfl : false = b := by rw [← HPW.out]; exact (decide_eq_false fun h => h2 h.2.2).symm
          have d1 : (p.1 == x0) = true := by simpa using h1
          have d2 : (p.2.2.1 == x1) = false := by simpa using h2
          clear hp h1 h2
          go_enter Try.func68, Try.ntmps68
          go_wp2_with fail
          refine (i_PieceOk (tPiece.reach h ?hB) hz).mono ?_
          case hB => exact (belx)
          rintro e w1 ⟨rfl, hb1⟩
          rw [HP.out]
          have X1 := (Box.new w 24 #[.int .i64 p.1, .int .i64 p.2.1, .int .i64 p.2.2.1, .slice A3 n3 c3]).below hb1 (by simp)
          have x0' := X1.cell 0
          have x2' := X1.cell 2
          have hB1 : Below w.heap.size w w1 := bel_trans (belx) hb1
          have g0 := cell_bel hB1 hg0
          have g1 := cell_bel hB1 hg1
          go_wp2
          go_ret
          exact ⟨ret_bool (by first | exact d2 | (simp [d1, d2]; done)), hB1⟩
      · obtain rfl : false = b := by rw [← HPW.out]; exact (decide_eq_false fun h => h1 h.2.1).symm
        have d1 : (p.1 == x0) = false := by simpa using h1
        clear hp h1
        go_enter Try.func68, Try.ntmps68
        go_wp2_with fail
        refine (i_PieceOk (tPiece.reach h ?hB) hz).mono ?_
        case hB => exact (belx)
        rintro e w1 ⟨rfl, hb1⟩
        rw [HP.out]
        have X1 := (Box.new w 24 #[.int .i64 p.1, .int .i64 p.2.1, .int .i64 p.2.2.1, .slice A3 n3 c3]).below hb1 (by simp)
        have x0' := X1.cell 0
        have x2' := X1.cell 2
        have hB1 : Below w.heap.size w w1 := bel_trans (belx) hb1
        have g0 := cell_bel hB1 hg0
        have g1 := cell_bel hB1 hg1
        go_wp2
        go_ret
        exact ⟨rfl, hB1⟩
    exact step _ rfl
  · have HP := Lib.hid (decide_eq_false hp)
    have HR := Lib.hid (show pcW x0 x1 p = false from decide_eq_false fun h => hp h.1)
    rw [HR.out]
    clear hp
    go_enter Try.func68, Try.ntmps68
    go_wp2_with fail
    refine (i_PieceOk (tPiece.reach h ?hB) hz).mono ?_
    case hB => exact (belx)
    rintro e w1 ⟨rfl, hb1⟩
    rw [HP.out]
    go_wp2
    go_ret
    exact ⟨rfl, bel_trans (belx) hb1⟩
theorem pcs_sz {r : List DPiece} {i : Nat} {a : DPiece} (h : rsz szPiece r ≤ 1048576) (ha : r[i]? = some a) : szPiece a ≤ 1048576 := by
  have := rsz_step (s := szPiece) ha; omega
theorem pcs_wf {w : World} {B n c : Nat} {A : Option Addr} {r : List DPiece} (h : tPiece.row.R w B [.slice A n c] r) : ∀ a ∈ r, (Lit.int .i64 a.2.1).wf = true := by
  intro a ha
  obtain ⟨i, hi, rfl⟩ := List.getElem_of_mem ha
  obtain ⟨b, bb, off, es, hb, -, -, -, hR⟩ := rowR_at (K := 4) h (show i < n by have := (rowR_len h).1; omega) rfl
  rw [List.getElem?_eq_getElem hi] at hb
  injection hb with hb
  subst hb
  obtain ⟨A3, n3, c3, rfl, hi0, hi1, hi2, -, -, -, -⟩ := openPiece hR
  exact hi1
set_option maxHeartbeats 8000000 in
theorem i_isPartialN {w : World} {A3 : Option Addr} {n3 c3 : Nat} {x0 x1 x2 : Int} {r3 : List DPiece} (b : Bool) (T : WhN (x0, x1, x2, r3) → b = true) (F : ¬ WhN (x0, x1, x2, r3) → b = false)
    (rg1 : -9223372036854775808 ≤ x1 ∧ x1 ≤ 9223372036854775807) (h3 : tPiece.row.R w w.heap.size [.slice A3 n3 c3] r3) (hz : rsz szPiece r3 ≤ 1048576) :
    Calls Try.prog 49 #[.agg #[.int .i64 x0, .int .i64 x1, .int .i64 x2, .slice A3 n3 c3]] w fun e w' => e = .returned (.bool b) ∧ Below w.heap.size w w' := by
  obtain ⟨e0, hnc, hcm⟩ := rowR_len h3
  have hn : n3 ≤ 1048576 := by have := rsz_le (s := szPiece) r3; omega
  have HL := Lib.hid e0
  have HZ := Lib.hid hz
  have HT := Lib.hid T
  have HF := Lib.hid F
  have hwf := Lib.hid (pcs_wf h3)
  clear T F e0 hz
  by_cases hd : 0 ≤ x2 ∧ x2 ≤ 65535
  rotate_left
  · obtain rfl := HF.out (fun h => hd h.1)
    clear HT HF
    go_enter Try.func49, Try.ntmps49
    go_wp2_with (go_at_call 32; refine (i4_isDue_f _ _ hd).mono ?_; rintro e w' ⟨rfl, rfl⟩)
    go_ret
    exact ⟨rfl, (belx)⟩
  obtain ⟨hd1, hd2⟩ := hd
  by_cases hn0 : n3 = 0
  · subst hn0
    obtain rfl := HF.out (fun h => by have := h.2.1.1; have := HL.out; dsimp only at *; omega)
    clear HT HF
    go_enter Try.func49, Try.ntmps49
    go_wp2_with (go_at_call 32; refine (i4_isDue_t _ _ hd1 hd2).mono ?_; rintro e w' ⟨rfl, rfl⟩)
    go_ret
    exact ⟨rfl, (belx)⟩
  have q0 : (0 : Int) < (n3 : Int) := by omega
  by_cases hlow : x1 ≤ (n3 : Int)
  · obtain rfl := HF.out (fun h => by have := h.2.1.2; have := HL.out; dsimp only at *; omega)
    by_cases hov : -9223372036854775808 ≤ x1 - (n3 : Int)
    · obtain ⟨y, hy, hy0⟩ : ∃ y, IntKind.i64.wrap (x1 - (n3 : Int)) = y ∧ y ≤ 0 := ⟨_, IntWalk.i64_in _ (by omega), by omega⟩
      clear HT HF hlow hov
      go_enter Try.func49, Try.ntmps49
      go_wp2_with (first
        | (go_at_call 32; refine (i4_isDue_t _ _ hd1 hd2).mono ?_; rintro e w' ⟨rfl, rfl⟩)
        | (go_at_call 38; refine (i_lacking _ _ _ _ _ _ y _ hy).mono ?_; rintro e w1 ⟨rfl, hb1⟩; have X1 := (Box.new w 65 #[.int .i64 x0, .int .i64 x1, .int .i64 x2, .slice A3 n3 c3]).below hb1 (by simp); have k0 := X1.cell 0; have k1 := X1.cell 1; have k3 := X1.cell 3; have hB1 : Below w.heap.size w w1 := bel_trans (belx) hb1))
      go_ret
      exact ⟨rfl, hB1⟩
    · obtain ⟨y, hy, hy0⟩ : ∃ y, IntKind.i64.wrap (x1 - (n3 : Int)) = y ∧ 0 < y := ⟨x1 - (n3 : Int) + 18446744073709551616, by have hb64 : IntKind.i64.bits = 64 := rfl; simp only [IntKind.wrap, hb64]; simp; omega, by omega⟩
      have HE := Lib.hid (show (r3.all (pcW x0 x1)) = false from by
        obtain ⟨a, ha⟩ : ∃ a, r3[0]? = some a := ⟨_, List.getElem?_eq_getElem (by rw [HL.out]; omega)⟩
        exact alF ha (decide_eq_false fun h => by have h1 := h.1; have h2 := h.2.2; unfold PcOk PcN at h1; omega))
      clear HT HF hlow hov
      go_enter Try.func49, Try.ntmps49
      go_wp2_with (go_at_call 32; refine (i4_isDue_t _ _ hd1 hd2).mono ?_; rintro e w' ⟨rfl, rfl⟩)
      refine (i_lacking _ _ _ _ _ _ y _ hy).mono ?_
      rintro e w1 ⟨rfl, hb1⟩
      have X1 := (Box.new w 65 #[.int .i64 x0, .int .i64 x1, .int .i64 x2, .slice A3 n3 c3]).below hb1 (by simp)
      have k0 := X1.cell 0
      have k1 := X1.cell 1
      have k3 := X1.cell 3
      have hB1 : Below w.heap.size w w1 := bel_trans (belx) hb1
      go_wp2_with fail
      refine (i_evryPieceV 68 (.pointer (some ⟨w.heap.size, 0, none⟩)) (pcW x0 x1) (fun _ _ => rfl) (fun i a w' cs ha hBw hR => i_isPart1 hR (pcs_sz HZ.out ha) (cell_bel hBw k0) (cell_bel hBw k1)) (tPiece.row.reach h3 hB1) (by omega)).mono ?_
      rintro e w2 ⟨rfl, hb2⟩
      rw [HE.out]
      have X2 := X1.below hb2 X1.size
      have m3 := X2.cell 3
      have hB2 : Below w.heap.size w w2 := bel_trans hB1 hb2
      go_wp2
      go_ret
      exact ⟨rfl, hB2⟩
  obtain ⟨y, hy, hy0⟩ : ∃ y, IntKind.i64.wrap (x1 - (n3 : Int)) = y ∧ 0 < y := ⟨_, IntWalk.i64_in _ (by omega), by omega⟩
  by_cases ha : ∀ p ∈ r3, PcOk p ∧ p.1 = x0 ∧ p.2.2.1 = x1
  rotate_left
  · obtain rfl := HF.out (fun h => ha h.2.2.1)
    have HE := Lib.hid (show (r3.all (pcW x0 x1)) = false from alDecF ha)
    clear HT HF ha
    go_enter Try.func49, Try.ntmps49
    go_wp2_with (go_at_call 32; refine (i4_isDue_t _ _ hd1 hd2).mono ?_; rintro e w' ⟨rfl, rfl⟩)
    refine (i_lacking _ _ _ _ _ _ y _ hy).mono ?_
    rintro e w1 ⟨rfl, hb1⟩
    have X1 := (Box.new w 65 #[.int .i64 x0, .int .i64 x1, .int .i64 x2, .slice A3 n3 c3]).below hb1 (by simp)
    have k0 := X1.cell 0
    have k1 := X1.cell 1
    have k3 := X1.cell 3
    have hB1 : Below w.heap.size w w1 := bel_trans (belx) hb1
    go_wp2_with fail
    refine (i_evryPieceV 68 (.pointer (some ⟨w.heap.size, 0, none⟩)) (pcW x0 x1) (fun _ _ => rfl) (fun i a w' cs ha hBw hR => i_isPart1 hR (pcs_sz HZ.out ha) (cell_bel hBw k0) (cell_bel hBw k1)) (tPiece.row.reach h3 hB1) (by omega)).mono ?_
    rintro e w2 ⟨rfl, hb2⟩
    rw [HE.out]
    have X2 := X1.below hb2 X1.size
    have m3 := X2.cell 3
    have hB2 : Below w.heap.size w w2 := bel_trans hB1 hb2
    go_wp2
    go_ret
    exact ⟨rfl, hB2⟩
  have HE := Lib.hid (show (r3.all (pcW x0 x1)) = true from alDec ha)
  obtain ⟨ats, hats⟩ : ∃ L, (r3.map fun p => p.2.1) = L := ⟨_, rfl⟩
  have HATS := Lib.hid hats
  have HTA := Lib.hid (show Asc ats → b = true from fun h => HT.out ⟨⟨hd1, hd2⟩, ⟨by have := HL.out; dsimp only; omega, by have := HL.out; dsimp only; omega⟩, ha, by show Asc (r3.map fun p => p.2.1); rw [hats]; exact h⟩)
  have HFA := Lib.hid (show ¬ Asc ats → b = false from fun h => HF.out fun hh => h (by rw [← hats]; exact hh.2.2.2))
  have hl5 : ats.length ≤ 17592186043904 := by rw [← hats, List.length_map, HL.out]; omega
  clear HT HF ha hlow hats
  go_enter Try.func49, Try.ntmps49
  go_wp2_with (go_at_call 32; refine (i4_isDue_t _ _ hd1 hd2).mono ?_; rintro e w' ⟨rfl, rfl⟩)
  refine (i_lacking _ _ _ _ _ _ y _ hy).mono ?_
  rintro e w1 ⟨rfl, hb1⟩
  have X1 := (Box.new w 65 #[.int .i64 x0, .int .i64 x1, .int .i64 x2, .slice A3 n3 c3]).below hb1 (by simp)
  have k0 := X1.cell 0
  have k1 := X1.cell 1
  have k3 := X1.cell 3
  have hB1 : Below w.heap.size w w1 := bel_trans (belx) hb1
  go_wp2_with fail
  refine (i_evryPieceV 68 (.pointer (some ⟨w.heap.size, 0, none⟩)) (pcW x0 x1) (fun _ _ => rfl) (fun i a w' cs ha hBw hR => i_isPart1 hR (pcs_sz HZ.out ha) (cell_bel hBw k0) (cell_bel hBw k1)) (tPiece.row.reach h3 hB1) (by omega)).mono ?_
  rintro e w2 ⟨rfl, hb2⟩
  rw [HE.out]
  have X2 := X1.below hb2 X1.size
  have m3 := X2.cell 3
  have hB2 : Below w.heap.size w w2 := bel_trans hB1 hb2
  go_wp2_with fail
  refine (i_eachPieceI 57 (fun p => p.2.1) (fun _ _ => rfl) (fun i a w' cs ha hBw hR => i_PcAt hR) hwf.out (tPiece.row.reach h3 hB2) hn).mono ?_
  rintro e w3 ⟨v, rfl, hO, hb3⟩
  rw [HATS.out] at hO
  obtain ⟨A5, c5, rfl, hle5, hI5, -⟩ := hO.ints
  have hB3 : Below w.heap.size w w3 := bel_trans hB2 hb3
  go_wp2_with fail
  refine (i_isAsc b HTA.out HFA.out hI5 hl5).mono ?_
  rintro e w4 ⟨rfl, hb4⟩
  go_wp2
  go_ret
  exact ⟨rfl, bel_trans hB3 hb4⟩
theorem i_WhId {w : World} {cs : List Value} {p : DWhole} (h : tWhole.R w w.heap.size cs p) :
    Calls Try.prog 46 #[.agg cs.toArray] w fun e w' => e = .returned (.int .i64 p.1) ∧ Below w.heap.size w w' := by
  obtain ⟨A3, n3, c3, rfl, hi0, hi1, hi2, ha3, hb3, hl3, hr3⟩ := openWhole h
  go_enter Try.func46, Try.ntmps46
  go_wp2
  go_ret
  exact ⟨rfl, (belx)⟩
theorem whs_sz {r : List DWhole} {i : Nat} {a : DWhole} (h : rsz szWhole r ≤ 1048576) (ha : r[i]? = some a) : szWhole a ≤ 1048576 := by
  have := rsz_step (s := szWhole) ha; omega
theorem whs_wf {w : World} {B n c : Nat} {A : Option Addr} {r : List DWhole} (h : tWhole.row.R w B [.slice A n c] r) : ∀ a ∈ r, (Lit.int .i64 a.1).wf = true := by
  intro a ha
  obtain ⟨i, hi, rfl⟩ := List.getElem_of_mem ha
  obtain ⟨b, bb, off, es, hb, -, -, -, hR⟩ := rowR_at (K := 4) h (show i < n by have := (rowR_len h).1; omega) rfl
  rw [List.getElem?_eq_getElem hi] at hb
  injection hb with hb
  subst hb
  obtain ⟨A3, n3, c3, rfl, hi0, hi1, hi2, -, -, -, -⟩ := openWhole hR
  exact hi0
/-- What DeskOk asks of each message. -/
noncomputable def whB (l1 : List Int) (a : DWhole) : Bool := @decide (WhN a ∧ a.1 ∉ l1) (Classical.propDecidable _)
theorem whB_t {l1 : List Int} {a : DWhole} (h : WhN a ∧ a.1 ∉ l1) : whB l1 a = true := @decide_eq_true _ (Classical.propDecidable _) h
theorem whB_f {l1 : List Int} {a : DWhole} (h : ¬ (WhN a ∧ a.1 ∉ l1)) : whB l1 a = false := @decide_eq_false _ (Classical.propDecidable _) h
theorem i_DeskOk1 {w : World} {g n1 c1 : Nat} {A1 : Option Addr} {cs : List Value} {a : DWhole} {l1 : List Int} (h : tWhole.R w w.heap.size cs a) (hz : szWhole a ≤ 1048576) (hg1 : w.cell? ⟨g, 1, none⟩ = some (.slice A1 n1 c1)) (hl : Ints .i64 w w.heap.size A1 n1 l1) (hn : n1 ≤ 17592186043904) :
    Calls Try.prog 48 #[.agg cs.toArray, .pointer (some ⟨g, 0, none⟩)] w fun e w' => e = .returned (.bool (whB l1 a)) ∧ Below w.heap.size w w' := by
  obtain ⟨A3, n3, c3, rfl, hi0, hi1, hi2, ha3, hb3, hl3, hr3⟩ := openWhole h
  have rg1 := i64_rg hi1
  by_cases hp : WhN a
  · have step : ∀ (b : Bool), whB l1 a = b → Calls Try.prog 48 #[.agg #[.int .i64 a.1, .int .i64 a.2.1, .int .i64 a.2.2.1, .slice A3 n3 c3], .pointer (some ⟨g, 0, none⟩)] w fun e w' => e = .returned (.bool b) ∧ Below w.heap.size w w' := by
      intro b hb
      have HBB := Lib.hid hb
      have HPN := Lib.hid (show WhN (a.1, a.2.1, a.2.2.1, a.2.2.2) from hp)
      have HMM := Lib.hid (show (!decide (a.1 ∈ l1)) = b from by
        rw [← hb]
        by_cases hm : a.1 ∈ l1
        · rw [decide_eq_true hm, whB_f fun h => h.2 hm]; rfl
        · rw [decide_eq_false hm, whB_t ⟨hp, hm⟩]; rfl)
      clear hb hp
      go_enter Try.func48, Try.ntmps48
      go_wp2_with fail
      refine (i_isPartialN true (fun _ => rfl) (fun h => absurd HPN.out h) rg1 (tPiece.row.reach hr3 ?hB) hz).mono ?_
      case hB => exact (belx)
      rintro e w1 ⟨rfl, hb1⟩
      have X1 := (Box.new w 65 #[.int .i64 a.1, .int .i64 a.2.1, .int .i64 a.2.2.1, .slice A3 n3 c3]).below hb1 (by simp)
      have x0' := X1.cell 0
      have hB1 : Below w.heap.size w w1 := bel_trans (belx) hb1
      have g1 := cell_bel hB1 hg1
      go_wp2_with fail
      refine (i_ContainsI a.1 (reach hl hB1) hn).mono ?_
      rintro e w2 ⟨rfl, rfl⟩
      go_wp2
      go_ret
      exact ⟨ret_bool HMM.out, hB1⟩
    exact step _ rfl
  · have HR := Lib.hid (show whB l1 a = false from whB_f fun h => hp h.1)
    rw [HR.out]
    have HPN := Lib.hid (show ¬ WhN (a.1, a.2.1, a.2.2.1, a.2.2.2) from hp)
    clear hp
    go_enter Try.func48, Try.ntmps48
    go_wp2_with fail
    refine (i_isPartialN false (fun h => absurd h HPN.out) (fun _ => rfl) rg1 (tPiece.row.reach hr3 ?hB) hz).mono ?_
    case hB => exact (belx)
    rintro e w1 ⟨rfl, hb1⟩
    go_wp2
    go_ret
    exact ⟨rfl, bel_trans (belx) hb1⟩
set_option maxHeartbeats 2000000 in
theorem i_DeskOkN {w : World} {A0 A1 : Option Addr} {n0 c0 n1 c1 : Nat} {r0 : List DWhole} {l1 : List Int} (b : Bool) (T : DkOk (r0, l1) → b = true) (F : ¬ DkOk (r0, l1) → b = false)
    (h0 : tWhole.row.R w w.heap.size [.slice A0 n0 c0] r0) (h1 : tIs.R w w.heap.size [.slice A1 n1 c1] l1) (hsz : rsz szWhole r0 ≤ 1048576) (hn1 : n1 ≤ 1048576) :
    Calls Try.prog 16 #[.agg #[.slice A0 n0 c0, .slice A1 n1 c1]] w fun e w' => e = .returned (.bool b) ∧ Below w.heap.size w w' := by
  obtain ⟨e0, hnc0, hcm0⟩ := rowR_len h0
  have hl1 := (slR_ints h1).1
  have hn0 : n0 ≤ 1048576 := by have := rsz_le (s := szWhole) r0; omega
  have E0 := Lib.hid e0
  have E1 := Lib.hid hl1.1
  have HT := Lib.hid T
  have HF := Lib.hid F
  have HS0 := Lib.hid hsz
  have hwf := Lib.hid (whs_wf h0)
  clear T F e0 h1 hsz
  by_cases a0 : ∀ x ∈ l1, 0 ≤ x ∧ x ≤ 255
  rotate_left
  · obtain rfl := HF.out (fun h => a0 h.2.1)
    have HA0 := Lib.hid (show (l1.all fun x => decide (0 ≤ x ∧ x ≤ 255)) = false from alDecF a0)
    clear HT HF a0
    go_enter Try.func16, Try.ntmps16
    go_wp2_with fail
    refine (i_everyI 23 (fun x => decide (0 ≤ x ∧ x ≤ 255)) (fun x w => rfl) i_isIdB (reach hl1 ?hB) (by omega)).mono ?_
    case hB => exact (belx)
    rintro e w1 ⟨rfl, rfl⟩
    rw [HA0.out]
    go_wp2
    go_ret
    exact ⟨rfl, (belx)⟩
  have HA0 := Lib.hid (show (l1.all fun x => decide (0 ≤ x ∧ x ≤ 255)) = true from alDec a0)
  by_cases a1 : Asc l1
  rotate_left
  · obtain rfl := HF.out (fun h => a1 h.2.2.1)
    have HA1 := Lib.hid a1
    clear HT HF a0 a1
    go_enter Try.func16, Try.ntmps16
    go_wp2_with fail
    refine (i_everyI 23 (fun x => decide (0 ≤ x ∧ x ≤ 255)) (fun x w => rfl) i_isIdB (reach hl1 ?hB) (by omega)).mono ?_
    case hB => exact (belx)
    rintro e w1 ⟨rfl, rfl⟩
    rw [HA0.out]
    go_wp2_with fail
    refine (i_isAsc false (fun h => absurd h HA1.out) (fun _ => rfl) (reach hl1 ?hB) (by omega)).mono ?_
    case hB => exact (belx)
    rintro e w2 ⟨rfl, hb2⟩
    have X2 := (Box.new w 38 #[.slice A0 n0 c0, .slice A1 n1 c1]).below hb2 (by simp)
    have k0 := X2.cell 0
    have k1 := X2.cell 1
    have hB2 : Below w.heap.size w w2 := bel_trans (belx) hb2
    go_wp2
    go_ret
    exact ⟨rfl, hB2⟩
  have HA1 := Lib.hid a1
  by_cases g0 : n0 ≤ 6
  rotate_left
  · obtain rfl := HF.out (fun h => by have := h.1; have := E0.out; dsimp only at *; omega)
    have q : ¬ (n0 : Int) ≤ 6 := by omega
    clear HT HF a0 a1
    go_enter Try.func16, Try.ntmps16
    go_wp2_with fail
    refine (i_everyI 23 (fun x => decide (0 ≤ x ∧ x ≤ 255)) (fun x w => rfl) i_isIdB (reach hl1 ?hB) (by omega)).mono ?_
    case hB => exact (belx)
    rintro e w1 ⟨rfl, rfl⟩
    rw [HA0.out]
    go_wp2_with fail
    refine (i_isAsc true (fun _ => rfl) (fun h => absurd HA1.out h) (reach hl1 ?hB) (by omega)).mono ?_
    case hB => exact (belx)
    rintro e w2 ⟨rfl, hb2⟩
    have X2 := (Box.new w 38 #[.slice A0 n0 c0, .slice A1 n1 c1]).below hb2 (by simp)
    have k0 := X2.cell 0
    have k1 := X2.cell 1
    have hB2 : Below w.heap.size w w2 := bel_trans (belx) hb2
    go_wp2
    go_ret
    exact ⟨rfl, hB2⟩
  have q : (n0 : Int) ≤ 6 := by omega
  obtain ⟨ids, hids⟩ : ∃ L, (r0.map fun p => p.1) = L := ⟨_, rfl⟩
  have HIDS := Lib.hid hids
  have hl5 : ids.length ≤ 17592186043904 := by rw [← hids, List.length_map, E0.out]; omega
  by_cases a3 : Asc ids
  rotate_left
  · obtain rfl := HF.out (fun h => a3 (by rw [← hids]; exact h.2.2.2.1))
    have HA3 := Lib.hid a3
    clear HT HF a0 a1 a3 hids
    go_enter Try.func16, Try.ntmps16
    go_wp2_with fail
    refine (i_everyI 23 (fun x => decide (0 ≤ x ∧ x ≤ 255)) (fun x w => rfl) i_isIdB (reach hl1 ?hB) (by omega)).mono ?_
    case hB => exact (belx)
    rintro e w1 ⟨rfl, rfl⟩
    rw [HA0.out]
    go_wp2_with fail
    refine (i_isAsc true (fun _ => rfl) (fun h => absurd HA1.out h) (reach hl1 ?hB) (by omega)).mono ?_
    case hB => exact (belx)
    rintro e w2 ⟨rfl, hb2⟩
    have X2 := (Box.new w 38 #[.slice A0 n0 c0, .slice A1 n1 c1]).below hb2 (by simp)
    have k0 := X2.cell 0
    have k1 := X2.cell 1
    have hB2 : Below w.heap.size w w2 := bel_trans (belx) hb2
    go_wp2_with fail
    refine (i_eachWholeI 46 (fun p => p.1) (fun _ _ => rfl) (fun i a w' cs ha hBw hR => i_WhId hR) hwf.out (tWhole.row.reach h0 hB2) (by omega)).mono ?_
    rintro e w3 ⟨v, rfl, hO, hb3⟩
    rw [HIDS.out] at hO
    obtain ⟨A5, c5, rfl, hle5, hI5, -⟩ := hO.ints
    have hB3 : Below w.heap.size w w3 := bel_trans hB2 hb3
    have X3 := X2.below hb3 X2.size
    go_wp2_with fail
    refine (i_isAsc false (fun h => absurd h HA3.out) (fun _ => rfl) hI5 hl5).mono ?_
    rintro e w4 ⟨rfl, hb4⟩
    have X4 := X3.below hb4 X3.size
    clear k0 k1
    have k0 := X4.cell 0
    have k1 := X4.cell 1
    have hB4 : Below w.heap.size w w4 := bel_trans hB3 hb4
    go_wp2
    go_ret
    exact ⟨rfl, hB4⟩
  have HA3 := Lib.hid a3
  have HB := Lib.hid (show (r0.all (whB l1)) = b from by
    by_cases a4 : ∀ a ∈ r0, WhN a ∧ a.1 ∉ l1
    · rw [HT.out ⟨by have := E0.out; dsimp only; omega, a0, a1, by show Asc (r0.map fun p => p.1); rw [hids]; exact a3, a4⟩]; exact List.all_eq_true.2 fun x hx => whB_t (a4 x hx)
    · rw [HF.out (fun h => a4 h.2.2.2.2)]; exact Bool.eq_false_iff.2 fun hh => a4 fun x hx => Classical.byContradiction fun hc => by have := List.all_eq_true.1 hh x hx; rw [whB_f hc] at this; cases this)
  clear HT HF a0 a1 a3 hids
  go_enter Try.func16, Try.ntmps16
  go_wp2_with fail
  refine (i_everyI 23 (fun x => decide (0 ≤ x ∧ x ≤ 255)) (fun x w => rfl) i_isIdB (reach hl1 ?hB) (by omega)).mono ?_
  case hB => exact (belx)
  rintro e w1 ⟨rfl, rfl⟩
  rw [HA0.out]
  go_wp2_with fail
  refine (i_isAsc true (fun _ => rfl) (fun h => absurd HA1.out h) (reach hl1 ?hB) (by omega)).mono ?_
  case hB => exact (belx)
  rintro e w2 ⟨rfl, hb2⟩
  have X2 := (Box.new w 38 #[.slice A0 n0 c0, .slice A1 n1 c1]).below hb2 (by simp)
  have k0 := X2.cell 0
  have k1 := X2.cell 1
  have hB2 : Below w.heap.size w w2 := bel_trans (belx) hb2
  go_wp2_with fail
  refine (i_eachWholeI 46 (fun p => p.1) (fun _ _ => rfl) (fun i a w' cs ha hBw hR => i_WhId hR) hwf.out (tWhole.row.reach h0 hB2) (by omega)).mono ?_
  rintro e w3 ⟨v, rfl, hO, hb3⟩
  rw [HIDS.out] at hO
  obtain ⟨A5, c5, rfl, hle5, hI5, -⟩ := hO.ints
  have hB3 : Below w.heap.size w w3 := bel_trans hB2 hb3
  have X3 := X2.below hb3 X2.size
  go_wp2_with fail
  refine (i_isAsc true (fun _ => rfl) (fun h => absurd HA3.out h) hI5 hl5).mono ?_
  rintro e w4 ⟨rfl, hb4⟩
  have X4 := X3.below hb4 X3.size
  clear k0 k1
  have k0 := X4.cell 0
  have k1 := X4.cell 1
  have hB4 : Below w.heap.size w w4 := bel_trans hB3 hb4
  go_wp2_with fail
  refine (i_evryWholeV 48 (.pointer (some ⟨w.heap.size, 0, none⟩)) (whB l1) (fun _ _ => rfl) (fun i a w' cs ha hBw hR => i_DeskOk1 hR (whs_sz HS0.out ha) (cell_bel hBw k1) (reach hl1 (bel_trans hB4 hBw)) (by omega)) (tWhole.row.reach h0 hB4) (by omega)).mono ?_
  rintro e w5 ⟨rfl, hb5⟩
  rw [HB.out]
  go_wp2
  go_ret
  exact ⟨rfl, bel_trans hB4 hb5⟩
theorem i_DeskOk {w : World} {cs : List Value} {p : DDesk} (h : tDesk.R w w.heap.size cs p) (hz : szDesk p ≤ 1048576) :
    Calls Try.prog 16 #[.agg cs.toArray] w fun e w' => e = .returned (.bool (decide (DkOk p))) ∧ Below w.heap.size w w' := by
  obtain ⟨A0, n0, c0, A1, n1, c1, rfl, -, -, -, hr0, -, -, hn1, hr1⟩ := openDesk h
  unfold szDesk at hz
  exact i_DeskOkN _ (fun hh => decide_eq_true hh) (fun hh => decide_eq_false hh) hr0 hr1 (by omega) (by omega)
end Go.Proofs.Ytaabmaoldhoinaa
namespace Go.Proofs.Ytaabmaoldhoinaa
set_option maxRecDepth 100000
set_option linter.unusedVariables false
set_option linter.unusedSimpArgs false
open Go.ChangeShapes Go.WideShapes Go.ChangeAt Go.RowKit
/-- From w with v to w' with v': beside v's own block nothing old has changed; v' has v's block or a new one. -/
def Ext (w : World) (v : Value) (w' : World) (v' : Value) : Prop := w.grownBy w' v.ownBlock ∧ (v'.ownBlock = v.ownBlock ∨ ∃ b, v'.ownBlock = some b ∧ w.heap.size ≤ b)
section
variable {w w' w1 w2 : World} {v v' v1 v2 : Value} {B g : Nat} {t : TypeId} {cs : Array Value}
theorem Ext.refl (w : World) (v : Value) : Ext w v w v := ⟨World.grownBy.refl _ _, .inl rfl⟩
theorem Ext.trans (h : Ext w v w1 v1) (k : Ext w1 v1 w2 v2) : Ext w v w2 v2 := by
  refine ⟨⟨k.1.os.trans h.1.os, k.1.tape.trans h.1.tape, k.1.output.trans h.1.output, Nat.le_trans h.1.size k.1.size, fun i hi hn => ?_⟩, ?_⟩
  · refine (k.1.block i (Nat.lt_of_lt_of_le hi h.1.size) ?_).trans (h.1.block i hi hn)
    intro e
    rcases h.2 with h2 | ⟨b, h2, h3⟩
    · exact hn (e.trans h2)
    · rw [h2] at e; injection e with e; omega
  · rcases k.2 with k2 | ⟨b, k2, k3⟩
    · rcases h.2 with h2 | ⟨b, h2, h3⟩
      · exact .inl (k2.trans h2)
      · exact .inr ⟨b, k2.trans h2, h3⟩
    · exact .inr ⟨b, k2, Nat.le_trans h.1.size k3⟩
theorem Ext.of (h : Below w.heap.size w w') : Ext w v w' v := ⟨below_grownBy h, .inl rfl⟩
theorem Ext.app (h : Ext w v w1 v1) (hB : Below w1.heap.size w1 w2) (hg : w2.grownBy w' v1.ownBlock) (ha : v'.ownBlock = v1.ownBlock ∨ v'.ownBlock = some w2.heap.size) : Ext w v w' v' :=
  h.trans ((Ext.of hB).trans ⟨hg, ha.imp id fun e => ⟨_, e, Nat.le_refl _⟩⟩)
theorem Ext.not (h : Ext w v w' v') (hg : g < w.heap.size) (hn : v.ownBlock ≠ some g) : v'.ownBlock ≠ some g := fun e => by
  rcases h.2 with h2 | ⟨b, h2, h3⟩
  · exact hn (h2.symm.trans e)
  · rw [h2] at e; injection e with e; omega
theorem Ext.below (h : Ext w v w' v') (hB : B ≤ w.heap.size) (hv : ∀ b, v.ownBlock = some b → B ≤ b) : Below B w w' :=
  ⟨h.1.os, h.1.tape, h.1.output, h.1.size, fun k hk => h.1.block k (by omega) fun e => by have := hv k e.symm; omega⟩
end
/-- Cells that have just been laid. -/
theorem Src.cells (w : World) (t : TypeId) (us : List Value) : Src (w.alloc (.cells us.toArray t)) 1 (some ⟨w.heap.size, 0, none⟩) us.length us := by
  refine ⟨by simp, fun _ => ⟨_, 0, rfl, fun j u hj => ?_⟩⟩
  rw [Nat.zero_add, (Box.new w t _).cell]
  simpa using hj
theorem flS {α : Type} {f : α → List Int} {l : List α} {j : Nat} {a : α} (hl : l[j]? = some a) : (l.take (j + 1)).flatMap f = (l.take j).flatMap f ++ f a := by
  rw [take_sn hl, List.flatMap_append]; simp
theorem flLe {α : Type} {f : α → List Int} {l : List α} {m : Nat} (h : ∀ a ∈ l, (f a).length ≤ m) (j : Nat) : ((l.take j).flatMap f).length ≤ m * l.length := by
  induction l generalizing j with
  | nil => simp
  | cons a l ih =>
    cases j with
    | zero => simp
    | succ j =>
      have := ih (fun x hx => h x (by simp [hx])) j
      have := h a (by simp)
      rw [List.take_succ_cons, List.flatMap_cons, List.length_append, List.length_cons, Nat.mul_succ]
      omega
theorem own_appN {K : IntKind} {e : TypeId} {w : World} {base n : Nat} {v : Value} {l r : List Int} (h : w.ownsRow base e 1 v (l.length + n) (l.map (Value.int K) ++ r.map (Value.int K))) (hn : r.length = n) (hl : ∀ x ∈ l, (Lit.int K x).wf = true) (hr : ∀ x ∈ r, (Lit.int K x).wf = true) : Own K e w base v (l ++ r) :=
  Own.of (n := l.length + n) (by rw [List.map_append]; exact h) fun x hx => by
    rcases List.mem_append.1 hx with h' | h'
    · exact hl x h'
    · exact hr x h'
end Go.Proofs.Ytaabmaoldhoinaa
namespace Go.Proofs.Ytaabmaoldhoinaa
set_option maxRecDepth 100000
set_option linter.unusedVariables false
set_option linter.unusedSimpArgs false
open Go.ChangeShapes Go.WideShapes Go.ChangeAt Go.RowKit
theorem info_Whole : (Try.prog.info? 65).map (fun i => (i.zero, i.size, i.bytes)) = some (some (.agg #[.int .i64 0, .int .i64 0, .int .i64 0, .slice none 0 0]), 4, 48) := by kernel_rfl
end Go.Proofs.Ytaabmaoldhoinaa
namespace Go.Proofs.Ytaabmaoldhoinaa
set_option maxRecDepth 100000
set_option linter.unusedVariables false
set_option linter.unusedSimpArgs false
open Go.ChangeShapes Go.WideShapes Go.ChangeAt Go.RowKit
theorem ms_keyed : Go.Maps.Keyed Try.prog 3 := Go.Maps.int_keyed Try.underlying3
set_option maxHeartbeats 1000000 in
theorem i_opened {w : World} {A0 A1 : Option Addr} {n0 c0 n1 c1 : Nat} {r : List DWhole} (hr : tWhole.row.R w w.heap.size [.slice A0 n0 c0] r) (hn : n0 ≤ 1048576) (hap : Apart (fun a : DWhole => a.1) r) (hwf : ∀ a ∈ r, (Lit.int .i64 a.1).wf = true) :
    Calls Try.prog 33 #[.agg #[.slice A0 n0 c0, .slice A1 n1 c1]] w fun e w' => ∃ b D, e = .returned (.map (some b)) ∧ w'.ownsMap Try.prog 3 mR b n0 D ∧ MapW tWhole (fun a => a.1) w' w.heap.size D r ∧ w.heap.size ≤ b ∧ Below w.heap.size w w' := by
  have hmm := @run_makeMap Try.prog
  obtain ⟨e0, _, _⟩ := rowR_len hr
  have E0 := Lib.hid e0
  clear e0
  have HAP := Lib.hid hap
  have HWF := Lib.hid hwf
  clear hap hwf
  have X0 : Box ((w.alloc (.cells #[.slice A0 n0 c0, .slice A1 n1 c1] 38)).alloc (.map #[] 0)) w.heap.size 38 #[.slice A0 n0 c0, .slice A1 n1 c1] := (Box.new _ _ _).alloc _
  have m0 : ((w.alloc (.cells #[.slice A0 n0 c0, .slice A1 n1 c1] 38)).alloc (.map #[] 0)).ownsMap (H := Value) Try.prog 3 mR (w.heap.size + 1) 0 (.map []) := by
    have := World.ownsMap_made (H := Value) (w.alloc (.cells #[.slice A0 n0 c0, .slice A1 n1 c1] 38)) Try.prog 3 mR
    simpa using this
  have x0 := X0.cell 0
  have hB0 : Below w.heap.size w ((w.alloc (.cells #[.slice A0 n0 c0, .slice A1 n1 c1] 38)).alloc (.map #[] 0)) := bel_alloc (bel_alloc (Below.refl _ _) _) _
  go_enter Try.func33, Try.ntmps33
  go_wp2_with fail
  go_loopw [10] (fun i wr => ∃ (j : Nat) (D : MD), j ≤ n0 ∧ i = .int .i64 j ∧ wr.ownsMap Try.prog 3 mR (w.heap.size + 1) j D ∧ MapW tWhole (fun a => a.1) wr w.heap.size D (r.take j) ∧ Below w.heap.size w wr) (fun i _ => n0 - ixOf i)
  case atStart => exact ⟨0, .map [], by omega, rfl, m0, MapW.nil _ _ _ _, hB0⟩
  case round =>
    obtain ⟨j, D, hj, rfl, hM, hW, hB⟩ := hrel
    by_cases hlt : j < n0
    · obtain ⟨a, b', off, es, hl2, rfl, hb, hes, hR⟩ := rowR_at (K := 4) hr hlt rfl
      have HTk := Lib.hid (take_snoc hl2)
      have HD := Lib.hid (HAP.out.take hl2)
      have hwa := HWF.out a (List.mem_of_getElem? hl2)
      have hRk := hR
      obtain ⟨A2, n2, c2, rfl, -⟩ := openWhole hR
      have h0 : wr.cell? ⟨b', off + j * 4, none⟩ = some (.int .i64 a.1) := cell_at hB hb (hes 0 (by omega))
      have h1 : wr.cell? ⟨b', off + j * 4 + 1, none⟩ = some (.int .i64 a.2.1) := cell_at hB hb (hes 1 (by omega))
      have h2 : wr.cell? ⟨b', off + j * 4 + 2, none⟩ = some (.int .i64 a.2.2.1) := cell_at hB hb (hes 2 (by omega))
      have h3 : wr.cell? ⟨b', off + j * 4 + 3, none⟩ = some (.slice A2 n2 c2) := cell_at hB hb (hes 3 (by omega))
      have i1 : (j : Int) < (n0 : Int) := by omega
      have hkey : keyOf Try.prog 3 (.int .i64 a.1) = some (mK a.1) := Go.Maps.keyOf_int_mk Try.underlying3 hwa
      clear hes hR hl2
      go_wp2_with (at_mapUpdate; refine wpList_mapUpdate_own _ rfl _ _ _ 62 rfl 3 65 ms_keyed Try.underlying62 mR (w.heap.size + 1) j D rfl (hM.alloc _) (by simp only [maxLen]; omega) _ _ (mK a.1) rfl rfl hkey _ [] rfl ?_; intro w1 hown1 hgr1)
      have hB1 : Below w.heap.size w w1 := Below.grown (w := wr.alloc (.cells #[.int .i64 a.1, .int .i64 a.2.1, .int .i64 a.2.2.1, .slice A2 n2 c2] 65)) (bel_alloc hB _) hgr1 (by simp; have := hB.size; omega) (fun b hb => by have e := Option.some.inj hb; omega)
      have hk : ∀ b, b < w.heap.size → w1.heap[b]? = wr.heap[b]? := fun b hb => (hB1.block b hb).trans (hB.block b hb).symm
      have hW1 := (hW.keep hk).putNew (tWhole.keep hRk hB1.block) HD.out
      rw [← HTk.out] at hW1
      go_roundw
      case rel => exact ⟨j + 1, _, by omega, by go_num, hown1, hW1, hB1⟩
      case measure => simp [ixOf]; omega
    · obtain rfl : j = n0 := by omega
      have HT := Lib.hid (show r.take j = r from List.take_of_length_le (Nat.le_of_eq E0.out))
      rw [HT.out] at hW
      go_wp2
      go_ret
      exact ⟨_, D, rfl, hM, hW, by omega, hB⟩
end Go.Proofs.Ytaabmaoldhoinaa
