/-
  Contracts of the laws' copies of slices; slices that lie apart.
-/
import Derived.Test.YtcljjdmfnniobaaGreatMark
namespace Go.Proofs.YtcljjdmfnniobaaGreat
open Go.ChangeShapes Go.WideShapes Go.ChangeAt Go.RowKit

theorem Own.apart {k k' : IntKind} {e e' : TypeId} {w w1 : World} {base base' : Nat} {v v' : Value} {l l' : List Int} (hx : Own k e w base v l) (hy : Own k' e' w1 base' v' l') (hle : w1.heap.size ≤ base) : v.ownBlock = none ∨ v.ownBlock ≠ v'.ownBlock := by
  cases hv : v.ownBlock with
  | none => exact .inl rfl
  | some b =>
    refine .inr fun h => ?_
    have h1 := (hx.block hv).1
    have h2 := (hy.block h.symm).2
    omega
theorem apart_symm {a b : Option Nat} (h : a = none ∨ a ≠ b) : b = none ∨ b ≠ a := by
  rcases h with rfl | h
  · cases b <;> simp
  · exact .inr (Ne.symm h)
theorem copy_step {K : IntKind} {l : List Int} {k j : Nat} {x : Int} (hx : l.getD k 0 = x) : (if j = k then Value.int K x else .int K (if j < k then l.getD j 0 else 0)) = .int K (if j < k + 1 then l.getD j 0 else 0) := by
  by_cases h : j = k
  · subst h; rw [if_pos rfl, if_pos (by omega), hx]
  · by_cases h2 : j < k
    · simp [h, h2, Nat.lt_succ_of_lt h2]
    · simp [h, h2, show ¬ j < k + 1 by omega]
/-- What a mark has written lies above the first world. -/
theorem below_mark {k : IntKind} {e : TypeId} {a w w' : World} {base : Nat} {v : Value} {l : List Int} (hB : Below a.heap.size a w) (h : Own k e w base v l) (hg : w.grownBy w' v.ownBlock) (hb : a.heap.size ≤ base) : Below a.heap.size a w' :=
  hB.trans ((Below.refl _ _).grown hg hB.size fun _ hv => Nat.le_trans hb (h.block hv).1)
theorem to_below {w : World} {v : Value} (e : Ending) (w' : World) (h : e = .returned v ∧ ∃ q, w' = w.drewN q) : e = .returned v ∧ Below w.heap.size w w' :=
  ⟨h.1, by obtain ⟨_, q, rfl⟩ := h; exact below_drewN (Below.refl _ _) q⟩
theorem to_below0 {w : World} {v : Value} (e : Ending) (w' : World) (h : e = .returned v ∧ w = w') : e = .returned v ∧ Below w.heap.size w w' :=
  ⟨h.1, by obtain ⟨_, rfl⟩ := h; exact Below.refl _ _⟩
theorem i64_rg {x : Int} (h : (Lit.int .i64 x).wf = true) : -9223372036854775808 ≤ x ∧ x ≤ 9223372036854775807 := by
  simp [Lit.wf] at h
  have e1 : IntKind.i64.min = -9223372036854775808 := by decide
  have e2 : IntKind.i64.max = 9223372036854775807 := by decide
  omega
theorem info_cb : (Tryz.prog.info? 5).map (fun i => (i.zero, i.size, i.bytes)) = some (some (.int .u8 0), 1, 1) := by kernel_rfl
theorem l_toByteS {w : World} {n c : Nat} {A : Option Addr} {l : List Int} (hl : Ints .u8 w w.heap.size A n l) (hn : n ≤ 140737488351232) :
    Calls Tryz.prog 13 #[.slice A n c] w fun e w' => e = .returned (.slice (some ⟨w.heap.size, 0, none⟩) n n) ∧ Own .u8 5 w' w.heap.size (.slice (some ⟨w.heap.size, 0, none⟩) n n) l ∧ Below w.heap.size w w' := by
  obtain ⟨i0, hi0, hz0, hz1, hz2⟩ := info_parts info_cb
  have HL := Lib.hid hl.1
  have HW := Lib.hid hl.2.2
  go_enter Tryz.func13, Tryz.ntmps13
  go_wp2_with (at_make; refine wpList_mk _ rfl (.tmp 6) (.tmp 6) _ rfl 5 i0 _ Tryz.underlying23 hi0 hz0 rfl hz1 n rfl rfl (by rw [hz2]; omega) (by simp only [maxLen]; omega) ?_; intro w1 hrow hB1 hsz)
  go_loopw [4] (fun i wr => ∃ k : Nat, k ≤ n ∧ i = .int .i64 k ∧ wr.rowIs w.heap.size 5 n (fun j => .int .u8 (if j < k then l.getD j 0 else 0)) ∧ Below w.heap.size w wr) (fun i _ => n - (intOf i).toNat)
  case atStart => exact ⟨0, by omega, rfl, hrow.congr fun j _ => rfl, hB1⟩
  case round =>
    obtain ⟨k, hk, rfl, hO, hB⟩ := hrel
    by_cases hlt : k < n
    · obtain ⟨b, off, rfl, _, hc, _⟩ := (hl.below hB).at_ hlt
      have hcell := hO.cell hlt
      have hfz := hO.frozen k
      obtain ⟨x, hx⟩ : ∃ x, l.getD k 0 = x := ⟨_, rfl⟩
      rw [hx] at hc
      have HX := Lib.hid hx
      clear hx
      go_wp2
      go_roundw
      case rel => exact ⟨k + 1, by omega, by go_num, (hO.set k _).congr fun j _ => copy_step HX.out, hB.setCell (Nat.le_refl _) _⟩
      case measure => simp [intOf]; omega
    · obtain rfl : k = n := by omega
      go_wp2
      go_ret
      refine ⟨rfl, Own.of_row (hO.congr fun j hj => by rw [if_pos hj]) HL.out (by simp only [maxLen]; omega) (Nat.le_refl _) HW.out, hB⟩
theorem info_ci : (Tryz.prog.info? 3).map (fun i => (i.zero, i.size, i.bytes)) = some (some (.int .i64 0), 1, 8) := by kernel_rfl
theorem l_toIntS {w : World} {n c : Nat} {A : Option Addr} {l : List Int} (hl : Ints .i64 w w.heap.size A n l) (hn : n ≤ 17592186043904) :
    Calls Tryz.prog 12 #[.slice A n c] w fun e w' => e = .returned (.slice (some ⟨w.heap.size, 0, none⟩) n n) ∧ Own .i64 3 w' w.heap.size (.slice (some ⟨w.heap.size, 0, none⟩) n n) l ∧ Below w.heap.size w w' := by
  obtain ⟨i0, hi0, hz0, hz1, hz2⟩ := info_parts info_ci
  have HL := Lib.hid hl.1
  have HW := Lib.hid hl.2.2
  go_enter Tryz.func12, Tryz.ntmps12
  go_wp2_with (at_make; refine wpList_mk _ rfl (.tmp 6) (.tmp 6) _ rfl 3 i0 _ Tryz.underlying22 hi0 hz0 rfl hz1 n rfl rfl (by rw [hz2]; omega) (by simp only [maxLen]; omega) ?_; intro w1 hrow hB1 hsz)
  go_loopw [4] (fun i wr => ∃ k : Nat, k ≤ n ∧ i = .int .i64 k ∧ wr.rowIs w.heap.size 3 n (fun j => .int .i64 (if j < k then l.getD j 0 else 0)) ∧ Below w.heap.size w wr) (fun i _ => n - (intOf i).toNat)
  case atStart => exact ⟨0, by omega, rfl, hrow.congr fun j _ => rfl, hB1⟩
  case round =>
    obtain ⟨k, hk, rfl, hO, hB⟩ := hrel
    by_cases hlt : k < n
    · obtain ⟨b, off, rfl, _, hc, _⟩ := (hl.below hB).at_ hlt
      have hcell := hO.cell hlt
      have hfz := hO.frozen k
      obtain ⟨x, hx⟩ : ∃ x, l.getD k 0 = x := ⟨_, rfl⟩
      rw [hx] at hc
      have HX := Lib.hid hx
      clear hx
      go_wp2
      go_roundw
      case rel => exact ⟨k + 1, by omega, by go_num, (hO.set k _).congr fun j _ => copy_step HX.out, hB.setCell (Nat.le_refl _) _⟩
      case measure => simp [intOf]; omega
    · obtain rfl : k = n := by omega
      go_wp2
      go_ret
      refine ⟨rfl, Own.of_row (hO.congr fun j hj => by rw [if_pos hj]) HL.out (by simp only [maxLen]; omega) (Nat.le_refl _) HW.out, hB⟩
end Go.Proofs.YtcljjdmfnniobaaGreat
