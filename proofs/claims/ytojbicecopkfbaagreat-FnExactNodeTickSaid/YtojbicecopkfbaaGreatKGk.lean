/-
  Keys, POp: texts joined.
-/
import Derived.Test.YtojbicecopkfbaaGreatKGh
import Derived.Test.YtojbicecopkfbaaGreatKMMp
import Derived.Maps.Range
namespace Go.Proofs.YtojbicecopkfbaaGreat
set_option linter.unusedVariables false
open Go.RowKit
section MapsOpen
open Go.Maps
theorem key_int {P : Program} {k : TypeId} {v : Value} {l : Lit} (hk : P.underlying k = some (.int .i64)) (h : keyOf P k v = some l) : ∃ i, l = mK i ∧ (Lit.int .i64 i).wf = true := by
  cases v <;> simp [keyOf, mapKey, hk] at h
  exact ⟨_, h.2.symm, h.1.2⟩
theorem owns_kind {H : Type} {P : Program} {k : TypeId} {R : Value → Option (DataW H × List MemPlace)} {w : World} {b n : Nat} {D : DataW H} (h : w.ownsMap P k R b n D) (hk : P.underlying k = some (.int .i64)) :
    ∃ es, D = .map es ∧ es.Pairwise (fun p q => p.1 ≠ q.1) ∧ ∀ p ∈ es, ∃ i, p.1 = mK i ∧ (Lit.int .i64 i).wf = true := by
  obtain ⟨es, e1, h2, _⟩ := h.entries (int_keyed hk)
  refine ⟨es, e1, h2, fun p hp => ?_⟩
  obtain ⟨es0, clock, _, F, _, e2⟩ := h
  rw [e1] at e2
  injection e2 with e2
  subst e2
  have hkey : KeysOf P k p.1 := Maps.fit_keys F p (mem_sorted.1 hp)
  obtain ⟨v, hv⟩ := hkey
  exact key_int hk hv
theorem keys_nodup {D : MD} {es : List (Lit × MD)} (hD : D = .map es) (hp : es.Pairwise (fun p q => p.1 ≠ q.1)) (hk : ∀ p ∈ es, ∃ i, p.1 = mK i ∧ (Lit.int .i64 i).wf = true) : (intKeys D).Nodup := by
  subst hD
  show (List.map (fun p : Lit × MD => intOf p.1) es).Nodup
  unfold List.Nodup
  rw [List.pairwise_map]
  refine List.Pairwise.imp_of_mem (fun {p q} hp' hq' hne e => ?_) hp
  obtain ⟨i, hi, _⟩ := hk p hp'
  obtain ⟨j, hj, _⟩ := hk q hq'
  rw [hi, hj] at e
  exact hne (by rw [hi, hj]; exact congrArg mK e)
theorem mem_keys {D : MD} {es : List (Lit × MD)} (hD : D = .map es) (hk : ∀ p ∈ es, ∃ i, p.1 = mK i ∧ (Lit.int .i64 i).wf = true) (k : Int) : k ∈ intKeys D ↔ has D (mK k) = true := by
  subst hD
  rw [has_eq, List.any_eq_true]
  show k ∈ List.map (fun p : Lit × MD => intOf p.1) es ↔ _
  rw [List.mem_map]
  constructor
  · rintro ⟨p, hp, e⟩
    obtain ⟨i, hi, _⟩ := hk p hp
    rw [hi] at e
    refine ⟨p, hp, ?_⟩
    rw [hi]
    have e' : i = k := e
    rw [e']
    exact WideAt.sameKey_self (mK_key k)
  · rintro ⟨p, hp, e⟩
    refine ⟨p, hp, ?_⟩
    rw [(WideAt.sameKey_iff (mK_key k)).1 e]
    rfl
/-- The numbers that stand in a map are those of its elements, each once. -/
theorem MapW.keys {α : Type} {t : Ty α} {id : α → Int} {w w0 : World} {B b n : Nat} {D : MD} {l : List α} {P : Program} {K : TypeId} (h : MapW t id w B D l) (hown : w0.ownsMap P K mR b n D) (hK : P.underlying K = some (.int .i64)) (hn : (l.map id).Nodup) :
    (intKeys D).Perm (l.map id) ∧ ∀ k ∈ intKeys D, (Lit.int .i64 k).wf = true := by
  obtain ⟨es, hD, hp, hk⟩ := owns_kind hown hK
  refine ⟨(List.perm_ext_iff_of_nodup (keys_nodup hD hp hk) hn).2 fun k => ?_, fun k hkk => ?_⟩
  · rw [mem_keys hD hk, List.mem_map]
    constructor
    · intro hh
      by_cases hx : ∃ a ∈ l, id a = k
      · exact hx
      · rw [h.has0 k (fun a ha e => hx ⟨a, ha, e⟩)] at hh
        exact absurd hh (by simp)
    · rintro ⟨a, ha, rfl⟩
      exact h.has1 a ha
  · subst hD
    obtain ⟨p, hp', rfl⟩ := List.mem_map.1 hkk
    obtain ⟨i, hi, hw⟩ := hk p hp'
    rw [hi]
    exact hw
end MapsOpen
end Go.Proofs.YtojbicecopkfbaaGreat
namespace Go.Proofs.YtojbicecopkfbaaGreat
set_option maxRecDepth 100000
set_option linter.unusedVariables false
set_option linter.unusedSimpArgs false
open Go.ChangeShapes Go.WideShapes Go.ChangeAt Go.RowKit
theorem ms_keyed : Go.Maps.Keyed Tryz.prog 3 := Go.Maps.int_keyed Tryz.underlying3
set_option maxHeartbeats 1000000 in
theorem i_opened {w : World} {A0 A1 : Option Addr} {n0 c0 n1 c1 : Nat} {r : List DWhole} (hr : tWhole.row.R w w.heap.size [.slice A0 n0 c0] r) (hn : n0 ≤ 1048576) (hap : Apart (fun a : DWhole => a.1) r) (hwf : ∀ a ∈ r, (Lit.int .i64 a.1).wf = true) :
    Calls Tryz.prog 48 #[.agg #[.slice A0 n0 c0, .slice A1 n1 c1]] w fun e w' => ∃ b D, e = .returned (.map (some b)) ∧ w'.ownsMap Tryz.prog 3 mR b n0 D ∧ MapW tWhole (fun a => a.1) w' w.heap.size D r ∧ w.heap.size ≤ b ∧ Below w.heap.size w w' := by
  have hmm := @run_makeMap Tryz.prog
  obtain ⟨e0, _, _⟩ := rowR_len hr
  have E0 := Lib.hid e0
  clear e0
  have HAP := Lib.hid hap
  have HWF := Lib.hid hwf
  clear hap hwf
  have X0 : Box ((w.alloc (.cells #[.slice A0 n0 c0, .slice A1 n1 c1] 33)).alloc (.map #[] 0)) w.heap.size 33 #[.slice A0 n0 c0, .slice A1 n1 c1] := (Box.new _ _ _).alloc _
  have m0 : ((w.alloc (.cells #[.slice A0 n0 c0, .slice A1 n1 c1] 33)).alloc (.map #[] 0)).ownsMap (H := Value) Tryz.prog 3 mR (w.heap.size + 1) 0 (.map []) := by
    have := World.ownsMap_made (H := Value) (w.alloc (.cells #[.slice A0 n0 c0, .slice A1 n1 c1] 33)) Tryz.prog 3 mR
    simpa using this
  have x0 := X0.cell 0
  have hB0 : Below w.heap.size w ((w.alloc (.cells #[.slice A0 n0 c0, .slice A1 n1 c1] 33)).alloc (.map #[] 0)) := bel_alloc (bel_alloc (Below.refl _ _) _) _
  go_enter Tryz.func48, Tryz.ntmps48
  go_wp2_with fail
  go_loopw [10] (fun i wr => ∃ (j : Nat) (D : MD), j ≤ n0 ∧ i = .int .i64 j ∧ wr.ownsMap Tryz.prog 3 mR (w.heap.size + 1) j D ∧ MapW tWhole (fun a => a.1) wr w.heap.size D (r.take j) ∧ Below w.heap.size w wr) (fun i _ => n0 - ixOf i)
  case atStart => exact ⟨0, .map [], by omega, rfl, m0, MapW.nil _ _ _ _, hB0⟩
  case round =>
    obtain ⟨j, D, hj, rfl, hM, hW, hB⟩ := hrel
    by_cases hlt : j < n0
    · obtain ⟨a, b', off, es, hl2, rfl, hb, hes, hR⟩ := rowR_at (K := 4) hr hlt rfl
      have HTk := Lib.hid (take_snoc hl2)
      have HD := Lib.hid (HAP.out.take hl2)
      have hwa := HWF.out a (List.mem_of_getElem? hl2)
      have hRk := hR
      obtain ⟨A2, n2, c2, rfl, -⟩ := openWhole hR
      have h0 : wr.cell? ⟨b', off + j * 4, none⟩ = some (.int .i64 a.1) := cell_at hB hb (hes 0 (by omega))
      have h1 : wr.cell? ⟨b', off + j * 4 + 1, none⟩ = some (.int .i64 a.2.1) := cell_at hB hb (hes 1 (by omega))
      have h2 : wr.cell? ⟨b', off + j * 4 + 2, none⟩ = some (.int .i64 a.2.2.1) := cell_at hB hb (hes 2 (by omega))
      have h3 : wr.cell? ⟨b', off + j * 4 + 3, none⟩ = some (.slice A2 n2 c2) := cell_at hB hb (hes 3 (by omega))
      have i1 : (j : Int) < (n0 : Int) := by omega
      have hkey : keyOf Tryz.prog 3 (.int .i64 a.1) = some (mK a.1) := Go.Maps.keyOf_int_mk Tryz.underlying3 hwa
      clear hes hR hl2
      go_wp2_with (at_mapUpdate; refine wpList_mapUpdate_own _ rfl _ _ _ 82 rfl 3 86 ms_keyed Tryz.underlying82 mR (w.heap.size + 1) j D rfl (hM.alloc _) (by simp only [maxLen]; omega) _ _ (mK a.1) rfl rfl hkey _ [] rfl ?_; intro w1 hown1 hgr1)
      have hB1 : Below w.heap.size w w1 := Below.grown (w := wr.alloc (.cells #[.int .i64 a.1, .int .i64 a.2.1, .int .i64 a.2.2.1, .slice A2 n2 c2] 86)) (bel_alloc hB _) hgr1 (by simp; have := hB.size; omega) (fun b hb => by have e := Option.some.inj hb; omega)
      have hk : ∀ b, b < w.heap.size → w1.heap[b]? = wr.heap[b]? := fun b hb => (hB1.block b hb).trans (hB.block b hb).symm
      have hW1 := (hW.keep hk).putNew (tWhole.keep hRk hB1.block) HD.out
      rw [← HTk.out] at hW1
      go_roundw
      case rel => exact ⟨j + 1, _, by omega, by go_num, hown1, hW1, hB1⟩
      case measure => simp [ixOf]; omega
    · obtain rfl : j = n0 := by omega
      have HT := Lib.hid (show r.take j = r from List.take_of_length_le (Nat.le_of_eq E0.out))
      rw [HT.out] at hW
      go_wp2
      go_ret
      exact ⟨_, D, rfl, hM, hW, by omega, hB⟩
end Go.Proofs.YtojbicecopkfbaaGreat
