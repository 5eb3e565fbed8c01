/-
  DkL: texts joined.
-/
import Derived.Test.YtaabmaoldhoinaaGreatVGb
import Derived.Test.YtaabmaoldhoinaaGreatVMPDesk4
import Derived.Test.YtaabmaoldhoinaaGreatVMPFor
import Derived.Test.YtaabmaoldhoinaaGreatVMTpL
namespace Go.Proofs.YtaabmaoldhoinaaGreat
set_option linter.unusedVariables false
open Go.RowKit
theorem lackAt_len {g : List DPiece} {n : Nat} (hN : (g.map fun p => p.2.1).Nodup) (hr : ∀ p ∈ g, 0 ≤ p.2.1 ∧ p.2.1 < (n : Int)) : (lackAt g n).length + g.length = n := by
  have hn : ((List.range n).map fun i : Nat => (i : Int)).Nodup := List.pairwise_map.2 (List.nodup_range.imp (fun h e => h (by omega)))
  have h1 := (List.filter_append_perm (fun x => decide (x ∉ g.map fun p => p.2.1)) ((List.range n).map fun i : Nat => (i : Int))).length_eq
  rw [List.length_append, List.length_map, List.length_range] at h1
  have h2 : (((List.range n).map fun i : Nat => (i : Int)).filter fun x => !decide (x ∉ g.map fun p => p.2.1)).Perm (g.map fun p => p.2.1) := by
    refine (List.perm_ext_iff_of_nodup (hn.filter _) hN).2 fun x => ?_
    rw [List.mem_filter]
    constructor
    · rintro ⟨-, h⟩
      refine Classical.byContradiction fun hx => ?_
      rw [decide_eq_true hx] at h; cases h
    · intro hx
      obtain ⟨p, hp, rfl⟩ := List.mem_map.1 hx
      have h3 := hr p hp
      refine ⟨List.mem_map.2 ⟨p.2.1.toNat, List.mem_range.2 (by omega), by omega⟩, ?_⟩
      rw [decide_eq_false (fun h => h hx)]; rfl
  have h3 := h2.length_eq
  rw [List.length_map] at h3
  unfold lackAt
  omega
theorem fMis_len {d : DDesk} {a : DWhole} (h : DkOk d) (ha : a ∈ d.1) : ((fMis d a.1).length : Int) = lk a := by
  rw [fMis_t h, misL_one (dk_apart h) ha rfl]
  obtain ⟨-, ⟨h1, h2⟩, h3, h4⟩ := (h.2.2.2.2 a ha).1
  have hn : (a.2.2.2.map fun p => p.2.1).Nodup := (asc_pw h4).imp (fun h' e => by omega)
  have h5 := lackAt_len (n := a.2.1.toNat) hn (fun p hp => by
    obtain ⟨k1, -, k3⟩ := h3 p hp
    unfold PcOk PcN at k1
    omega)
  unfold lk
  omega
theorem spl_pf (m : List Int) (h : m.length ≤ 160) : ((splN m.length : Nat) : Int) = fPF (m.length : Int) := by
  unfold splN
  split
  · rename_i h0; rw [h0]; rfl
  · rw [fPF_q (by omega) (by omega)]; omega
end Go.Proofs.YtaabmaoldhoinaaGreat
