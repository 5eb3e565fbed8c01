/-
  Keys: texts joined.
-/
import Derived.Test.YtkdanlnhdgcplaaGreatFMMp
import Derived.Maps.Range
namespace Go.Proofs.YtkdanlnhdgcplaaGreat
set_option linter.unusedVariables false
open Go.RowKit
section MapsOpen
open Go.Maps
theorem key_int {P : Program} {k : TypeId} {v : Value} {l : Lit} (hk : P.underlying k = some (.int .i64)) (h : keyOf P k v = some l) : ∃ i, l = mK i ∧ (Lit.int .i64 i).wf = true := by
 cases v <;> simp [keyOf, mapKey, hk] at h
 exact ⟨_, h.2.symm, h.1.2⟩
theorem owns_kind {H : Type} {P : Program} {k : TypeId} {R : Value → Option (DataW H × List MemPlace)} {w : World} {b n : Nat} {D : DataW H} (h : w.ownsMap P k R b n D) (hk : P.underlying k = some (.int .i64)) :
  ∃ es, D = .map es ∧ es.Pairwise (fun p q => p.1 ≠ q.1) ∧ ∀ p ∈ es, ∃ i, p.1 = mK i ∧ (Lit.int .i64 i).wf = true := by
 obtain ⟨es, e1, h2, _⟩ := h.entries (int_keyed hk)
 refine ⟨es, e1, h2, fun p hp => ?_⟩
 obtain ⟨es0, clock, _, F, _, e2⟩ := h
 rw [e1] at e2
 injection e2 with e2
 subst e2
 have hkey : KeysOf P k p.1 := Maps.fit_keys F p (mem_sorted.1 hp)
 obtain ⟨v, hv⟩ := hkey
 exact key_int hk hv
theorem keys_nodup {D : MD} {es : List (Lit × MD)} (hD : D = .map es) (hp : es.Pairwise (fun p q => p.1 ≠ q.1)) (hk : ∀ p ∈ es, ∃ i, p.1 = mK i ∧ (Lit.int .i64 i).wf = true) : (intKeys D).Nodup := by
 subst hD
 show (List.map (fun p : Lit × MD => intOf p.1) es).Nodup
 unfold List.Nodup
 rw [List.pairwise_map]
 refine List.Pairwise.imp_of_mem (fun {p q} hp' hq' hne e => ?_) hp
 obtain ⟨i, hi, _⟩ := hk p hp'
 obtain ⟨j, hj, _⟩ := hk q hq'
 rw [hi, hj] at e
 exact hne (by rw [hi, hj]; exact congrArg mK e)
theorem mem_keys {D : MD} {es : List (Lit × MD)} (hD : D = .map es) (hk : ∀ p ∈ es, ∃ i, p.1 = mK i ∧ (Lit.int .i64 i).wf = true) (k : Int) : k ∈ intKeys D ↔ has D (mK k) = true := by
 subst hD
 rw [has_eq, List.any_eq_true]
 show k ∈ List.map (fun p : Lit × MD => intOf p.1) es ↔ _
 rw [List.mem_map]
 constructor
 ·rintro ⟨p, hp, e⟩
  obtain ⟨i, hi, _⟩ := hk p hp
  rw [hi] at e
  refine ⟨p, hp, ?_⟩
  rw [hi]
  have e' : i = k := e
  rw [e']
  exact WideAt.sameKey_self (mK_key k)
 ·rintro ⟨p, hp, e⟩
  refine ⟨p, hp, ?_⟩
  rw [(WideAt.sameKey_iff (mK_key k)).1 e]
  rfl
theorem MapW.keys {α : Type} {t : Ty α} {id : α → Int} {w w0 : World} {B b n : Nat} {D : MD} {l : List α} {P : Program} {K : TypeId} (h : MapW t id w B D l) (hown : w0.ownsMap P K mR b n D) (hK : P.underlying K = some (.int .i64)) (hn : (l.map id).Nodup) :
  (intKeys D).Perm (l.map id) ∧ ∀ k ∈ intKeys D, (Lit.int .i64 k).wf = true := by
 obtain ⟨es, hD, hp, hk⟩ := owns_kind hown hK
 refine ⟨(List.perm_ext_iff_of_nodup (keys_nodup hD hp hk) hn).2 fun k => ?_, fun k hkk => ?_⟩
 ·rw [mem_keys hD hk, List.mem_map]
  constructor
  ·intro hh
   by_cases hx : ∃ a ∈ l, id a = k
   ·exact hx
   ·rw [h.has0 k (fun a ha e => hx ⟨a, ha, e⟩)] at hh
    exact absurd hh (by simp)
  ·rintro ⟨a, ha, rfl⟩
   exact h.has1 a ha
 ·subst hD
  obtain ⟨p, hp', rfl⟩ := List.mem_map.1 hkk
  obtain ⟨i, hi, hw⟩ := hk p hp'
  rw [hi]
  exact hw
end MapsOpen
end Go.Proofs.YtkdanlnhdgcplaaGreat
