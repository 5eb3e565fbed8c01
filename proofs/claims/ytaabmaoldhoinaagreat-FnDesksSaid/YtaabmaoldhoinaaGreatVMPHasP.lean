/-
  PHasP: texts joined.
-/
import Derived.Test.YtaabmaoldhoinaaGreatVGb
namespace Go.Proofs.YtaabmaoldhoinaaGreat
set_option linter.unusedVariables false
def HasIn (p : DDesk) (q : DPiece) : Prop := DkOk p ∧ PcOk q ∧ ∃ a ∈ p.1, q ∈ a.2.2.2
noncomputable instance (p : DDesk) (q : DPiece) : Decidable (HasIn p q) := Classical.propDecidable _
noncomputable def fHas (p : DDesk) (q : DPiece) : Bool := decide (HasIn p q)
theorem fHas_t {p : DDesk} {q : DPiece} (h : HasIn p q) : fHas p q = true := decide_eq_true h
theorem fHas_f {p : DDesk} {q : DPiece} (h : ¬ HasIn p q) : fHas p q = false := decide_eq_false h
theorem dk_pc {p : DDesk} (h : DkOk p) {a : DWhole} (ha : a ∈ p.1) {q : DPiece} (hq : q ∈ a.2.2.2) : PcOk q ∧ q.1 = a.1 := by
  obtain ⟨-, -, h3, -⟩ := (h.2.2.2.2 a ha).1
  exact ⟨(h3 q hq).1, (h3 q hq).2.1⟩
theorem fHas_one {p : DDesk} {q : DPiece} (h : DkOk p) {a : DWhole} (ha : a ∈ p.1) (hid : a.1 = q.1) : fHas p q = a.2.2.2.any (fun x => decide (q = x)) := by
  by_cases hq : q ∈ a.2.2.2
  · rw [fHas_t ⟨h, (dk_pc h ha hq).1, a, ha, hq⟩, List.any_eq_true.2 ⟨q, hq, decide_eq_true rfl⟩]
  · rw [List.any_eq_false.2 (fun x hx => by rw [decide_eq_true_iff]; exact fun e => hq (e ▸ hx))]
    refine fHas_f fun hh => ?_
    obtain ⟨-, -, b, hb, hqb⟩ := hh
    have e := (dk_pc h hb hqb).2
    have hap := dk_apart h
    obtain ⟨i, hi, rfl⟩ := List.getElem_of_mem ha
    obtain ⟨j, hj, rfl⟩ := List.getElem_of_mem hb
    rcases Nat.lt_trichotomy i j with h' | h' | h'
    · exact hap i j _ _ h' (List.getElem?_eq_getElem hi) (List.getElem?_eq_getElem hj) (hid.trans e)
    · subst h'; exact hq hqb
    · exact hap j i _ _ h' (List.getElem?_eq_getElem hj) (List.getElem?_eq_getElem hi) (e.symm.trans hid.symm)
theorem fHas_none {p : DDesk} {q : DPiece} (hno : ∀ a ∈ p.1, a.1 ≠ q.1) : fHas p q = false := fHas_f fun hh => by
  obtain ⟨h, -, b, hb, hqb⟩ := hh
  exact hno b hb (dk_pc h hb hqb).2.symm
end Go.Proofs.YtaabmaoldhoinaaGreat
