/-
  TpL: texts joined.
-/
import Derived.Test.YtaabmaoldhoinaaGreatVGf
namespace Go.Proofs.YtaabmaoldhoinaaGreat
set_option linter.unusedVariables false
open Go.RowKit
theorem lackAt_none {g : List DPiece} {n : Nat} {p : DPiece} (h : p ∈ g) : p.2.1 ∉ lackAt g n := fun hx => by
  have h1 := of_decide_eq_true (List.mem_filter.1 hx).2
  exact h1 (List.mem_map.2 ⟨p, h, rfl⟩)
theorem lackAt_some {g : List DPiece} {n : Nat} (h : g.length < n) : 0 < (lackAt g n).length := by
  refine Nat.pos_of_ne_zero fun h0 => ?_
  have h1 := List.filter_eq_nil_iff.1 (List.eq_nil_of_length_eq_zero h0)
  have hn : ((List.range n).map fun i : Nat => (i : Int)).Nodup := List.pairwise_map.2 (List.nodup_range.imp (fun h e => h (by omega)))
  have h2 := hn.length_le_of_subset (l₂ := g.map fun p => p.2.1) (fun x hx => by
    have h3 := h1 x hx
    rw [decide_eq_true_iff] at h3
    exact Classical.byContradiction h3)
  rw [List.length_map, List.length_range, List.length_map] at h2
  omega
def TkFacts (d : DDesk) (q : DPiece) (r : DDesk × List Int × Int) : Prop :=
  DkOk r.1 ∧ ((r.2.1 = [] ∧ r.1 = d ∧ (r.2.2 = -1 ∨ r.2.2 = -2)) ∨ (r.2.2 = 1 ∧ r.1.2.length = d.2.length + 1 ∧ TkOld r.1 q ∧ fMis r.1 q.1 = [] ∧ q.1 ∈ r.1.2 ∧ ∀ a ∈ r.1.1, a.1 ≠ q.1) ∨
    (r.2.2 = 0 ∧ r.2.1 = [] ∧ r.1.2 = d.2 ∧ TkOld r.1 q ∧ q.2.1 ∉ fMis r.1 q.1 ∧ 0 < (fMis r.1 q.1).length ∧ q.1 ∉ r.1.2 ∧ ∃ a ∈ r.1.1, a.1 = q.1 ∧ q ∈ a.2.2.2))
theorem tk_facts {d : DDesk} {q : DPiece} {due : Int} (h : TkIn d q due) : TkFacts d q (fTp d q due) := by
  have hd := h.1
  have hq := h.2.1
  have hx := h.2.2
  rw [fTp_t h]
  have hok := tkT_ok hd hq hx
  refine ⟨hok, ?_⟩
  by_cases ho : TkOld d q
  · rw [tkT_old ho]; exact .inl ⟨rfl, rfl, .inl rfl⟩
  obtain ⟨hM, hid, hnd, -⟩ := tkNew_ok hd hq hx ho
  have hmq : q ∈ (tkNew d q due).2.2.2 := insB_mem.2 (.inl rfl)
  by_cases hdn : TkDone d q due
  · rw [tkT_done ho hdn] at hok ⊢
    have hal : ∀ a ∈ (d.1.filter fun a => decide (a.1 ≠ q.1)), a.1 ≠ q.1 := fun a ha => of_decide_eq_true (List.mem_filter.1 ha).2
    have hin : q.1 ∈ insB id q.1 d.2 := insB_mem.2 (.inl rfl)
    refine .inr (.inl ⟨rfl, insB_len (f := id) (fun a ha e => hnd (by have e' : a = q.1 := e; rw [← e']; exact ha)), .inl hin, ?_, hin, hal⟩)
    rw [fMis_t hok]
    exact misL_none hal
  by_cases hf : TkFull d q
  · rw [tkT_full ho hdn hf]; exact .inl ⟨rfl, rfl, .inr rfl⟩
  rw [tkT_put ho hdn hf] at hok ⊢
  have hW : tkNew d q due ∈ insB wId (tkNew d q due) d.1 := insB_mem.2 (.inl rfl)
  have hmis : fMis (insB wId (tkNew d q due) d.1, d.2) q.1 = lackAt (tkNew d q due).2.2.2 (tkNew d q due).2.1.toNat := by
    rw [fMis_t hok]
    exact misL_one (dk_apart hok) hW hid
  refine .inr (.inr ⟨rfl, rfl, rfl, .inr ⟨_, hW, hid, .inr ⟨q, hmq, rfl⟩⟩, ?_, ?_, hnd, ⟨_, hW, hid, hmq⟩⟩)
  · show q.2.1 ∉ fMis (insB wId (tkNew d q due) d.1, d.2) q.1
    rw [hmis]; exact lackAt_none hmq
  · show 0 < (fMis (insB wId (tkNew d q due) d.1, d.2) q.1).length
    rw [hmis]
    refine lackAt_some ?_
    have h1 := hM.2.1
    have h2 : ¬ ((tkNew d q due).2.2.2.length : Int) = (tkNew d q due).2.1 := hdn
    omega
end Go.Proofs.YtaabmaoldhoinaaGreat
