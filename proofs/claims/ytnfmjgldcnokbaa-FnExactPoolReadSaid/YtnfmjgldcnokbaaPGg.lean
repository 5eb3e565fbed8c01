/-
  Mark, Copy, Rd, Dat, Cell, Sn: texts joined.
-/
import Derived.Test.YtnfmjgldcnokbaaPGd
import Derived.Test.YtnfmjgldcnokbaaPGf
import Derived.BigQuiet
import Derived.Deep.QuietTactic
import Derived.Outline
namespace Go.Proofs.Ytnfmjgldcnokbaa
open Go.ChangeShapes Go.WideShapes Go.ChangeAt Go.RowKit
/-- The first j of l, turned into f 0, f 1, .. -/
def mks (f : Nat → Int) (l : List Int) (j : Nat) : List Int := (List.range l.length).map fun i => if i < j then f i else l.getD i 0
theorem mks_len (f : Nat → Int) (l : List Int) (j : Nat) : (mks f l j).length = l.length := by simp [mks]
theorem mks_zero (f : Nat → Int) (l : List Int) : mks f l 0 = l := by
  apply List.ext_getElem (mks_len _ _ _)
  intro i h1 h2
  simp [mks, List.getElem_map, h2]
theorem mks_set (f : Nat → Int) (l : List Int) (j : Nat) : (mks f l j).set j (f j) = mks f l (j + 1) := by
  apply List.ext_getElem (by simp [mks])
  intro i h1 h2
  rw [List.getElem_set]
  by_cases h : j = i
  · subst h; simp [mks]
  · rw [if_neg h]
    simp only [mks, List.getElem_map, List.getElem_range]
    by_cases h3 : i < j
    · rw [if_pos h3, if_pos (by omega)]
    · rw [if_neg h3, if_neg (by omega)]
theorem mks_all (f : Nat → Int) (l : List Int) : mks f l l.length = (List.range l.length).map f := by
  unfold mks
  apply List.map_congr_left
  intro i hi
  rw [if_pos (List.mem_range.1 hi)]
/-- The marks k, k + 1, .. of n integers; of n bytes. -/
def marks (k : Int) (n : Nat) : List Int := (List.range n).map fun i : Nat => k + (i : Int)
def marks8 (k : Int) (n : Nat) : List Int := (List.range n).map fun i : Nat => (k + (i : Int)) % 256
theorem marks_len (k : Int) (n : Nat) : (marks k n).length = n := by simp [marks]
theorem marks8_len (k : Int) (n : Nat) : (marks8 k n).length = n := by simp [marks8]
theorem marks_at {k : Int} {n i : Nat} (h : i < n) : (marks k n).getD i 0 = k + i := by
  rw [List.getD_eq_getElem?_getD, marks, List.getElem?_map, List.getElem?_range h]; rfl
theorem marks8_at {k : Int} {n i : Nat} (h : i < n) : (marks8 k n).getD i 0 = (k + i) % 256 := by
  rw [List.getD_eq_getElem?_getD, marks8, List.getElem?_map, List.getElem?_range h]; rfl
set_option maxHeartbeats 400000 in
theorem l_eqIntS {w : World} {B n m c d : Nat} {A A' : Option Addr} {l l' : List Int} (h : Ints .i64 w B A n l) (h' : Ints .i64 w B A' m l') (hn : n ≤ maxLen) (hm : m ≤ maxLen) :
    Calls Try.prog 78 #[.slice A n c, .slice A' m d] w fun e w' => e = .returned (.bool (decide (l = l'))) ∧ Below w.heap.size w w' := by
  unfold maxLen at hn hm
  by_cases hlen : n = m
  · subst hlen
    go_enter Try.func78, Try.ntmps78
    go_wp2
    go_loopw [5] (fun i wr => ∃ k : Nat, k ≤ n ∧ i = .int .i64 k ∧ (∀ j, j < k → l.getD j 0 = l'.getD j 0) ∧ ∃ q, wr = w.drewN q) (fun i _ => n - (intOf i).toNat)
    case atStart => exact ⟨0, by omega, rfl, fun j hj => by omega, 0, rfl⟩
    case round =>
      obtain ⟨k, hk, rfl, hall, q, rfl⟩ := hrel
      have HA := Lib.hid hall
      clear hall
      by_cases hlt : k < n
      · obtain ⟨b, off, rfl, _, hc, hwf⟩ := h.at_ hlt
        obtain ⟨b', off', rfl, _, hc', hwf'⟩ := h'.at_ hlt
        by_cases heq : l.getD k 0 = l'.getD k 0
        · rw [← heq] at hc'
          have HE := Lib.hid heq
          clear heq
          obtain ⟨x, hx⟩ : ∃ x, l.getD k 0 = x := ⟨_, rfl⟩
          rw [hx] at hc hc'
          clear hx hwf hwf'
          go_wp2
          go_quiet (fail)
          go_wp2
          go_roundw
          case rel => exact ⟨k + 1, by omega, by go_num, fun j hj => by
            rcases Nat.lt_succ_iff_lt_or_eq.1 hj with h1 | rfl
            · exact HA.out j h1
            · exact HE.out, _, rfl⟩
          case measure => simp [intOf]; omega
        · have hne : (l.getD k 0 == l'.getD k 0) = false := by simpa using heq
          have HF := Lib.hid (show decide (l = l') = false from by simp; intro e; rw [e] at heq; exact heq rfl)
          clear heq
          obtain ⟨x, hx⟩ : ∃ x, l.getD k 0 = x := ⟨_, rfl⟩
          obtain ⟨y, hy⟩ : ∃ y, l'.getD k 0 = y := ⟨_, rfl⟩
          rw [hx] at hc hne
          rw [hy] at hc' hne
          have hne2 : (x != y) = true := by simp [bne, hne]
          clear hx hy hwf hwf'
          go_wp2
          go_quiet (fail)
          go_wp2
          go_ret
          exact ⟨by rw [HF.out]; rfl, below_drewN (below_drewN (Below.refl _ _) _) _⟩
      · obtain rfl : k = n := by omega
        have HT := Lib.hid (show decide (l = l') = true from by
          simp
          apply List.ext_getElem (by rw [h.1, h'.1])
          intro j h1 h2
          have := HA.out j (by rw [← h.1]; exact h1)
          rw [List.getD_eq_getElem?_getD, List.getD_eq_getElem?_getD, List.getElem?_eq_getElem h1, List.getElem?_eq_getElem h2] at this
          exact this)
        go_wp2
        go_ret
        exact ⟨by rw [HT.out]; rfl, below_drewN (Below.refl _ _) _⟩
  · have HF := Lib.hid (show decide (l = l') = false from by simp; intro e; exact hlen (by rw [← h.1, ← h'.1, e]))
    have hb : ((n : Int) == (m : Int)) = false := by simp; omega
    have hb2 : ((n : Int) != (m : Int)) = true := by simp; omega
    clear hlen
    go_enter Try.func78, Try.ntmps78
    go_wp2
    go_ret
    exact ⟨by rw [HF.out]; rfl, Below.refl _ _⟩
set_option maxHeartbeats 400000 in
theorem l_heldIntS {w : World} {B n c : Nat} {A : Option Addr} (k : Int) (h : Ints .i64 w B A n (marks k n)) (h0 : 0 ≤ k) (hk : k + n ≤ 4611686018427387904) :
    Calls Try.prog 82 #[.slice A n c, .int .i64 k] w fun e w' => e = .returned (.int .i64 (k + n)) ∧ w = w' := by
  go_enter Try.func82, Try.ntmps82
  go_wp2
  go_loop [1, 5] (fun x i => ∃ j : Nat, j ≤ n ∧ x = .int .i64 (k + j) ∧ i = .int .i64 j) (fun _ i => n - (intOf i).toNat)
  case atStart => exact ⟨0, by omega, by go_num, rfl⟩
  case round =>
    obtain ⟨j, hj, rfl, rfl⟩ := hrel
    by_cases hlt : j < n
    · obtain ⟨b, off, rfl, _, hc, _⟩ := h.at_ hlt
      rw [marks_at hlt] at hc
      have hb1 : ((k + (j : Int)) != (k + (j : Int))) = false := by simp
      go_wp2
      go_round
      case rel => exact ⟨j + 1, by omega, by go_num, by go_num⟩
      case measure => simp [intOf]; omega
    · obtain rfl : j = n := by omega
      go_wp2
      go_ret
      exact ⟨rfl, rfl⟩
set_option maxHeartbeats 400000 in
theorem l_eqByteS {w : World} {B n m c d : Nat} {A A' : Option Addr} {l l' : List Int} (h : Ints .u8 w B A n l) (h' : Ints .u8 w B A' m l') (hn : n ≤ maxLen) (hm : m ≤ maxLen) :
    Calls Try.prog 32 #[.slice A n c, .slice A' m d] w fun e w' => e = .returned (.bool (decide (l = l'))) ∧ Below w.heap.size w w' := by
  unfold maxLen at hn hm
  by_cases hlen : n = m
  · subst hlen
    go_enter Try.func32, Try.ntmps32
    go_wp2
    go_loopw [5] (fun i wr => ∃ k : Nat, k ≤ n ∧ i = .int .i64 k ∧ (∀ j, j < k → l.getD j 0 = l'.getD j 0) ∧ ∃ q, wr = w.drewN q) (fun i _ => n - (intOf i).toNat)
    case atStart => exact ⟨0, by omega, rfl, fun j hj => by omega, 0, rfl⟩
    case round =>
      obtain ⟨k, hk, rfl, hall, q, rfl⟩ := hrel
      have HA := Lib.hid hall
      clear hall
      by_cases hlt : k < n
      · obtain ⟨b, off, rfl, _, hc, hwf⟩ := h.at_ hlt
        obtain ⟨b', off', rfl, _, hc', hwf'⟩ := h'.at_ hlt
        by_cases heq : l.getD k 0 = l'.getD k 0
        · rw [← heq] at hc'
          have HE := Lib.hid heq
          clear heq
          obtain ⟨x, hx⟩ : ∃ x, l.getD k 0 = x := ⟨_, rfl⟩
          rw [hx] at hc hc'
          clear hx hwf hwf'
          go_wp2
          go_quiet (fail)
          go_wp2
          go_roundw
          case rel => exact ⟨k + 1, by omega, by go_num, fun j hj => by
            rcases Nat.lt_succ_iff_lt_or_eq.1 hj with h1 | rfl
            · exact HA.out j h1
            · exact HE.out, _, rfl⟩
          case measure => simp [intOf]; omega
        · have hne : (l.getD k 0 == l'.getD k 0) = false := by simpa using heq
          have HF := Lib.hid (show decide (l = l') = false from by simp; intro e; rw [e] at heq; exact heq rfl)
          clear heq
          obtain ⟨x, hx⟩ : ∃ x, l.getD k 0 = x := ⟨_, rfl⟩
          obtain ⟨y, hy⟩ : ∃ y, l'.getD k 0 = y := ⟨_, rfl⟩
          rw [hx] at hc hne
          rw [hy] at hc' hne
          have hne2 : (x != y) = true := by simp [bne, hne]
          clear hx hy hwf hwf'
          go_wp2
          go_quiet (fail)
          go_wp2
          go_ret
          exact ⟨by rw [HF.out]; rfl, below_drewN (below_drewN (Below.refl _ _) _) _⟩
      · obtain rfl : k = n := by omega
        have HT := Lib.hid (show decide (l = l') = true from by
          simp
          apply List.ext_getElem (by rw [h.1, h'.1])
          intro j h1 h2
          have := HA.out j (by rw [← h.1]; exact h1)
          rw [List.getD_eq_getElem?_getD, List.getD_eq_getElem?_getD, List.getElem?_eq_getElem h1, List.getElem?_eq_getElem h2] at this
          exact this)
        go_wp2
        go_ret
        exact ⟨by rw [HT.out]; rfl, below_drewN (Below.refl _ _) _⟩
  · have HF := Lib.hid (show decide (l = l') = false from by simp; intro e; exact hlen (by rw [← h.1, ← h'.1, e]))
    have hb : ((n : Int) == (m : Int)) = false := by simp; omega
    have hb2 : ((n : Int) != (m : Int)) = true := by simp; omega
    clear hlen
    go_enter Try.func32, Try.ntmps32
    go_wp2
    go_ret
    exact ⟨by rw [HF.out]; rfl, Below.refl _ _⟩
set_option maxHeartbeats 400000 in
theorem l_heldByteS {w : World} {B n c : Nat} {A : Option Addr} (k : Int) (h : Ints .u8 w B A n (marks8 k n)) (h0 : 0 ≤ k) (hk : k + n ≤ 4611686018427387904) :
    Calls Try.prog 116 #[.slice A n c, .int .i64 k] w fun e w' => e = .returned (.int .i64 (k + n)) ∧ w = w' := by
  go_enter Try.func116, Try.ntmps116
  go_wp2
  go_loop [1, 5] (fun x i => ∃ j : Nat, j ≤ n ∧ x = .int .i64 (k + j) ∧ i = .int .i64 j) (fun _ i => n - (intOf i).toNat)
  case atStart => exact ⟨0, by omega, by go_num, rfl⟩
  case round =>
    obtain ⟨j, hj, rfl, rfl⟩ := hrel
    by_cases hlt : j < n
    · obtain ⟨b, off, rfl, _, hc, _⟩ := h.at_ hlt
      rw [marks8_at hlt] at hc
      have hb1 : ((k + (j : Int)) != (k + (j : Int))) = false := by simp
      go_wp2
      go_round
      case rel => exact ⟨j + 1, by omega, by go_num, by go_num⟩
      case measure => simp [intOf]; omega
    · obtain rfl : j = n := by omega
      go_wp2
      go_ret
      exact ⟨rfl, rfl⟩
end Go.Proofs.Ytnfmjgldcnokbaa
namespace Go.Proofs.Ytnfmjgldcnokbaa
open Go.ChangeShapes Go.WideShapes Go.ChangeAt Go.RowKit

theorem Own.apart {k k' : IntKind} {e e' : TypeId} {w w1 : World} {base base' : Nat} {v v' : Value} {l l' : List Int} (hx : Own k e w base v l) (hy : Own k' e' w1 base' v' l') (hle : w1.heap.size ≤ base) : v.ownBlock = none ∨ v.ownBlock ≠ v'.ownBlock := by
  cases hv : v.ownBlock with
  | none => exact .inl rfl
  | some b =>
    refine .inr fun h => ?_
    have h1 := (hx.block hv).1
    have h2 := (hy.block h.symm).2
    omega
theorem copy_step {K : IntKind} {l : List Int} {k j : Nat} {x : Int} (hx : l.getD k 0 = x) : (if j = k then Value.int K x else .int K (if j < k then l.getD j 0 else 0)) = .int K (if j < k + 1 then l.getD j 0 else 0) := by
  by_cases h : j = k
  · subst h; rw [if_pos rfl, if_pos (by omega), hx]
  · by_cases h2 : j < k
    · simp [h, h2, Nat.lt_succ_of_lt h2]
    · simp [h, h2, show ¬ j < k + 1 by omega]
theorem info_cb : (Try.prog.info? 5).map (fun i => (i.zero, i.size, i.bytes)) = some (some (.int .u8 0), 1, 1) := by kernel_rfl
theorem l_toByteS {w : World} {n c : Nat} {A : Option Addr} {l : List Int} (hl : Ints .u8 w w.heap.size A n l) (hn : n ≤ 140737488351232) :
    Calls Try.prog 29 #[.slice A n c] w fun e w' => e = .returned (.slice (some ⟨w.heap.size, 0, none⟩) n n) ∧ Own .u8 5 w' w.heap.size (.slice (some ⟨w.heap.size, 0, none⟩) n n) l ∧ Below w.heap.size w w' := by
  obtain ⟨i0, hi0, hz0, hz1, hz2⟩ := info_parts info_cb
  have HL := Lib.hid hl.1
  have HW := Lib.hid hl.2.2
  go_enter Try.func29, Try.ntmps29
  go_wp2_with (at_make; refine wpList_mk _ rfl (.tmp 6) (.tmp 6) _ rfl 5 i0 _ Try.underlying22 hi0 hz0 rfl hz1 n rfl rfl (by rw [hz2]; omega) (by simp only [maxLen]; omega) ?_; intro w1 hrow hB1 hsz)
  go_loopw [4] (fun i wr => ∃ k : Nat, k ≤ n ∧ i = .int .i64 k ∧ wr.rowIs w.heap.size 5 n (fun j => .int .u8 (if j < k then l.getD j 0 else 0)) ∧ Below w.heap.size w wr) (fun i _ => n - (intOf i).toNat)
  case atStart => exact ⟨0, by omega, rfl, hrow.congr fun j _ => rfl, hB1⟩
  case round =>
    obtain ⟨k, hk, rfl, hO, hB⟩ := hrel
    by_cases hlt : k < n
    · obtain ⟨b, off, rfl, _, hc, _⟩ := (hl.below hB).at_ hlt
      have hcell := hO.cell hlt
      have hfz := hO.frozen k
      obtain ⟨x, hx⟩ : ∃ x, l.getD k 0 = x := ⟨_, rfl⟩
      rw [hx] at hc
      have HX := Lib.hid hx
      clear hx
      go_wp2
      go_roundw
      case rel => exact ⟨k + 1, by omega, by go_num, (hO.set k _).congr fun j _ => copy_step HX.out, hB.setCell (Nat.le_refl _) _⟩
      case measure => simp [intOf]; omega
    · obtain rfl : k = n := by omega
      go_wp2
      go_ret
      refine ⟨rfl, Own.of_row (hO.congr fun j hj => by rw [if_pos hj]) HL.out (by simp only [maxLen]; omega) (Nat.le_refl _) HW.out, hB⟩
theorem info_ci : (Try.prog.info? 3).map (fun i => (i.zero, i.size, i.bytes)) = some (some (.int .i64 0), 1, 8) := by kernel_rfl
end Go.Proofs.Ytnfmjgldcnokbaa
namespace Go.Proofs.Ytnfmjgldcnokbaa
set_option linter.unusedVariables false
open Go.RowKit

/-- w' is w with new blocks, and what is written of the old lies in the blocks F. -/
structure Only (F : List Nat) (w w' : World) : Prop where
  os : w'.os = w.os
  tape : w'.tape = w.tape
  output : w'.output = w.output
  size : w.heap.size ≤ w'.heap.size
  block : ∀ b, b < w.heap.size → b ∉ F → w'.heap[b]? = w.heap[b]?
section
variable {F G : List Nat} {a b c w w' : World} {B : Nat}
theorem Only.refl (F : List Nat) (w : World) : Only F w w := ⟨rfl, rfl, rfl, Nat.le_refl _, fun _ _ _ => rfl⟩
theorem Only.trans (h : Only F a b) (k : Only F b c) : Only F a c :=
  ⟨k.os.trans h.os, k.tape.trans h.tape, k.output.trans h.output, Nat.le_trans h.size k.size, fun i hi hn => (k.block i (Nat.lt_of_lt_of_le hi h.size) hn).trans (h.block i hi hn)⟩
theorem Only.mono (h : Only F a b) (hs : ∀ x ∈ F, x ∈ G) : Only G a b := ⟨h.os, h.tape, h.output, h.size, fun i hi hn => h.block i hi fun hx => hn (hs _ hx)⟩
theorem Only.drewN (h : Only F a w) (n : Nat) : Only F a (w.drewN n) := ⟨h.os, h.tape, h.output, h.size, h.block⟩
theorem Only.drew (h : Only F a w) : Only F a w.drew := ⟨h.os, h.tape, h.output, h.size, h.block⟩
theorem Only.alloc (h : Only F a w) (o : Obj) : Only F a (w.alloc o) :=
  ⟨h.os, h.tape, h.output, Nat.le_trans h.size (by simp), fun i hi hn => (Below.heap_alloc w o i (Nat.lt_of_lt_of_le hi h.size)).trans (h.block i hi hn)⟩
theorem Only.put (h : Only F a w) {p : Addr} (hp : p.block ∈ F ∨ a.heap.size ≤ p.block) (u : Value) : Only F a (w.setCell p u) :=
  ⟨h.os, h.tape, h.output, by simpa [World.setCell] using h.size, fun i hi hn => (Below.heap_setCell w p u i (by
    rintro rfl
    rcases hp with hp | hp
    · exact hn hp
    · omega)).trans (h.block i hi hn)⟩
theorem Only.below (h : Only F a w) (hF : ∀ f ∈ F, B ≤ f) (hB : B ≤ a.heap.size) : Below B a w :=
  ⟨h.os, h.tape, h.output, h.size, fun k hk => h.block k (by omega) fun hx => by have := hF k hx; omega⟩
theorem Only.nil (h : Only [] a w) : Below a.heap.size a w := h.below (fun f hf => absurd hf (by simp)) (Nat.le_refl _)
/-- Below a, then a write into what is newer than a. -/
theorem Only.since (h : Below a.heap.size a w) (k : Only F w w') (hF : ∀ f ∈ F, a.heap.size ≤ f) : Below a.heap.size a w' :=
  h.trans (k.below hF h.size)
end

/-- How a type's data lie in memory. 'R w B cs a': the cells cs read as a, all below block B. 'O w cs a F': they are a call's own; their blocks are F, not frozen. -/
structure Ty (α : Type) where
  k : Nat
  R : World → Nat → List Value → α → Prop
  O : World → List Value → α → List Nat → Prop
  lenR : ∀ {w B cs a}, R w B cs a → cs.length = k
  lenO : ∀ {w cs a F}, O w cs a F → cs.length = k
  keep : ∀ {w w' B cs a}, R w B cs a → (∀ b, b < B → w'.heap[b]? = w.heap[b]?) → R w' B cs a
  up : ∀ {w B B' cs a}, R w B cs a → B ≤ B' → R w B' cs a
  kept : ∀ {w w' cs a F}, O w cs a F → (∀ f ∈ F, w'.heap[f]? = w.heap[f]?) → O w' cs a F
  lt : ∀ {w cs a F}, O w cs a F → ∀ f ∈ F, f < w.heap.size
  read : ∀ {w cs a F}, O w cs a F → R w w.heap.size cs a
section
variable {α β : Type} {t : Ty α} {w w' : World} {B B' : Nat} {cs : List Value} {a : α} {F G : List Nat}
theorem Ty.reach (h : t.R w w.heap.size cs a) (hB : Below w.heap.size w w') : t.R w' w'.heap.size cs a := t.up (t.keep h hB.block) hB.size
theorem Ty.below (h : t.O w cs a F) (hB : Below w.heap.size w w') : t.O w' cs a F := t.kept h fun f hf => hB.block f (t.lt h f hf)
theorem Ty.only (h : t.O w cs a F) (hG : Only G w w') (hd : ∀ f ∈ F, f ∉ G) : t.O w' cs a F := t.kept h fun f hf => hG.block f (t.lt h f hf) (hd f hf)
/-- All of F is new since the world of B blocks, none twice. -/
def New (B : Nat) (F : List Nat) : Prop := F.Nodup ∧ ∀ f ∈ F, B ≤ f
theorem New.nil (B : Nat) : New B [] := ⟨List.nodup_nil, fun f hf => absurd hf (by simp)⟩
theorem New.lower (h : New B F) (hB : B' ≤ B) : New B' F := ⟨h.1, fun f hf => Nat.le_trans hB (h.2 f hf)⟩
theorem New.app (h : New B F) (k : New B' G) (hB : B ≤ B') (hF : ∀ f ∈ F, f < B') : New B (F ++ G) := by
  refine ⟨List.nodup_append.2 ⟨h.1, k.1, fun x hx y hy e => ?_⟩, fun f hf => ?_⟩
  · have h1 := hF x hx; have h2 := k.2 y hy; omega
  · rcases List.mem_append.1 hf with h' | h'
    · exact h.2 f h'
    · exact Nat.le_trans hB (k.2 f h')
theorem New.apart (h : New B F) (hG : ∀ f ∈ G, f < B) : ∀ f ∈ F, f ∉ G := fun f hf hx => by have := h.2 f hf; have := hG f hx; omega
end

/-! ### numbers -/
def tInt : Ty Int where
  k := 1
  R := fun _ _ cs x => cs = [.int .i64 x] ∧ (Lit.int .i64 x).wf = true
  O := fun _ cs x F => cs = [.int .i64 x] ∧ (Lit.int .i64 x).wf = true ∧ F = []
  lenR := fun h => by rw [h.1]; rfl
  lenO := fun h => by rw [h.1]; rfl
  keep := fun h _ => h
  up := fun h _ => h
  kept := fun h _ => h
  lt := fun h f hf => by rw [h.2.2] at hf; exact absurd hf (by simp)
  read := fun h => ⟨h.1, h.2.1⟩

/-! ### slices of numbers -/
def sliceR (K : IntKind) (w : World) (B : Nat) (cs : List Value) (l : List Int) : Prop := ∃ A n c, cs = [.slice A n c] ∧ n ≤ c ∧ c ≤ 9223372036854775807 ∧ Ints K w B A n l
def sliceO (K : IntKind) (w : World) (cs : List Value) (l : List Int) (F : List Nat) : Prop :=
  (∃ A c, cs = [.slice A 0 c] ∧ c ≤ 9223372036854775807 ∧ l = [] ∧ F = []) ∨
  ∃ g off c cur t, cs = [.slice (some ⟨g, off, none⟩) l.length c] ∧ 0 < l.length ∧ l.length ≤ c ∧ c ≤ 9223372036854775807 ∧ w.heap[g]? = some (.cells cur t (0, 0)) ∧ (∀ i, i < l.length → cur[off + i]? = some (.int K (l.getD i 0))) ∧ (∀ x ∈ l, (Lit.int K x).wf = true) ∧ F = [g]
theorem sliceO.read {K : IntKind} {w : World} {cs : List Value} {l : List Int} {F : List Nat} (h : sliceO K w cs l F) : sliceR K w w.heap.size cs l := by
  rcases h with ⟨A, c, h1, h2, rfl, _⟩ | ⟨g, off, c, cur, t, h1, h2, h3, h4, h5, h6, h7, _⟩
  · exact ⟨A, 0, c, h1, Nat.zero_le _, h2, Ints.nil⟩
  · refine ⟨_, _, c, h1, h3, h4, rfl, fun _ => ⟨g, off, rfl, Box.size (t := t) h5, fun i hi => ?_⟩, h7⟩
    rw [Box.cell (t := t) h5]; exact h6 i hi
def tSl (K : IntKind) : Ty (List Int) where
  k := 1
  R := sliceR K
  O := sliceO K
  lenR := fun h => by obtain ⟨A, n, c, h1, _⟩ := h; rw [h1]; rfl
  lenO := fun h => by rcases h with ⟨A, c, h1, _⟩ | ⟨g, off, c, cur, t, h1, _⟩ <;> rw [h1] <;> rfl
  keep := fun h hk => by obtain ⟨A, n, c, h1, h2, h3, h4⟩ := h; exact ⟨A, n, c, h1, h2, h3, h4.keep hk⟩
  up := fun h hB => by obtain ⟨A, n, c, h1, h2, h3, h4⟩ := h; exact ⟨A, n, c, h1, h2, h3, h4.up hB⟩
  kept := fun h hk => by
    rcases h with h | ⟨g, off, c, cur, t, h1, h2, h3, h4, h5, h6, h7, rfl⟩
    · exact .inl h
    · exact .inr ⟨g, off, c, cur, t, h1, h2, h3, h4, (hk g (by simp)).trans h5, h6, h7, rfl⟩
  lt := fun h f hf => by
    rcases h with ⟨A, c, _, _, _, rfl⟩ | ⟨g, off, c, cur, t, h1, h2, h3, h4, h5, h6, h7, rfl⟩
    · exact absurd hf (by simp)
    · rw [List.mem_singleton] at hf; rw [hf]; exact Box.size (t := t) h5
  read := sliceO.read
abbrev tBy : Ty (List Int) := tSl .u8
abbrev tIs : Ty (List Int) := tSl .i64
/-- An own slice in the words of the earlier texts. -/
theorem Own.tSl {K : IntKind} {e : TypeId} {w : World} {base : Nat} {v : Value} {l : List Int} (h : Own K e w base v l) : ∃ F, (tSl K).O w [v] l F ∧ New base F := by
  rcases h.1.2 with ⟨rfl, h0⟩ | ⟨g, cap, cur, rfl, hb, hg, hn, hm, hs, ht⟩
  · have : l = [] := List.eq_nil_of_length_eq_zero h0
    subst this
    exact ⟨[], .inl ⟨none, 0, rfl, by omega, rfl, rfl⟩, New.nil _⟩
  · by_cases h0 : l.length = 0
    · have : l = [] := List.eq_nil_of_length_eq_zero h0
      subst this
      exact ⟨[], .inl ⟨_, cap, rfl, hm, rfl, rfl⟩, New.nil _⟩
    · refine ⟨[g], .inr ⟨g, 0, cap, cur, e, rfl, by omega, hn, hm, hg, fun i hi => ?_, h.2, rfl⟩, ⟨by simp, fun f hf => by rw [List.mem_singleton] at hf; omega⟩⟩
      have h4 : (l.map (Value.int K))[i]? = some (.int K (l.getD i 0)) := by rw [List.getElem?_map, List.getD_eq_getElem?_getD, List.getElem?_eq_getElem hi]; rfl
      rw [← h4, ← ht, List.getElem?_take, if_pos (by omega), Nat.zero_add]
      simp
/-! ### structs -/
def Ty.prod {α β : Type} (s : Ty α) (t : Ty β) : Ty (α × β) where
  k := s.k + t.k
  R := fun w B cs p => ∃ c1 c2, cs = c1 ++ c2 ∧ s.R w B c1 p.1 ∧ t.R w B c2 p.2
  O := fun w cs p F => ∃ c1 c2 F1 F2, cs = c1 ++ c2 ∧ F = F1 ++ F2 ∧ s.O w c1 p.1 F1 ∧ t.O w c2 p.2 F2
  lenR := fun h => by obtain ⟨c1, c2, rfl, h1, h2⟩ := h; rw [List.length_append, s.lenR h1, t.lenR h2]
  lenO := fun h => by obtain ⟨c1, c2, F1, F2, rfl, rfl, h1, h2⟩ := h; rw [List.length_append, s.lenO h1, t.lenO h2]
  keep := fun h hk => by obtain ⟨c1, c2, rfl, h1, h2⟩ := h; exact ⟨c1, c2, rfl, s.keep h1 hk, t.keep h2 hk⟩
  up := fun h hB => by obtain ⟨c1, c2, rfl, h1, h2⟩ := h; exact ⟨c1, c2, rfl, s.up h1 hB, t.up h2 hB⟩
  kept := fun h hk => by
    obtain ⟨c1, c2, F1, F2, rfl, rfl, h1, h2⟩ := h
    exact ⟨c1, c2, F1, F2, rfl, rfl, s.kept h1 fun f hf => hk f (List.mem_append.2 (.inl hf)), t.kept h2 fun f hf => hk f (List.mem_append.2 (.inr hf))⟩
  lt := fun h f hf => by
    obtain ⟨c1, c2, F1, F2, rfl, rfl, h1, h2⟩ := h
    rcases List.mem_append.1 hf with h' | h'
    · exact s.lt h1 f h'
    · exact t.lt h2 f h'
  read := fun h => by obtain ⟨c1, c2, F1, F2, rfl, rfl, h1, h2⟩ := h; exact ⟨c1, c2, rfl, s.read h1, t.read h2⟩

/-! ### slices of structs -/
def Ty.rowR {α : Type} (t : Ty α) (w : World) (B : Nat) (cs : List Value) (l : List α) : Prop :=
  ∃ A n c, cs = [.slice A n c] ∧ n ≤ c ∧ c ≤ 9223372036854775807 ∧ l.length = n ∧ (0 < n → ∃ b off, A = some ⟨b, off, none⟩ ∧ b < B ∧
    ∀ i a, l[i]? = some a → ∃ es, (∀ j, j < t.k → w.cell? ⟨b, off + i * t.k + j, none⟩ = es[j]?) ∧ t.R w B es a)
def Ty.rowO {α : Type} (t : Ty α) (w : World) (cs : List Value) (l : List α) (F : List Nat) : Prop :=
  (∃ A c, cs = [.slice A 0 c] ∧ c ≤ 9223372036854775807 ∧ l = [] ∧ F = []) ∨
  ∃ (g off c : Nat) (cur : Array Value) (e : TypeId) (Fs : List (List Nat)), cs = [.slice (some ⟨g, off, none⟩) l.length c] ∧ 0 < l.length ∧ l.length ≤ c ∧ c ≤ 9223372036854775807 ∧ w.heap[g]? = some (.cells cur e (0, 0)) ∧ Fs.length = l.length ∧ F = g :: Fs.flatten ∧
    ∀ i a Fi, l[i]? = some a → Fs[i]? = some Fi → ∃ es, (∀ j, j < t.k → cur[off + i * t.k + j]? = es[j]?) ∧ t.O w es a Fi
theorem mem_flat {Fs : List (List Nat)} {i : Nat} {Fi : List Nat} (h : Fs[i]? = some Fi) {f : Nat} (hf : f ∈ Fi) : f ∈ Fs.flatten :=
  List.mem_flatten.2 ⟨Fi, List.mem_of_getElem? h, hf⟩
theorem Ty.rowO_read {α : Type} {t : Ty α} {w : World} {cs : List Value} {l : List α} {F : List Nat} (h : t.rowO w cs l F) : t.rowR w w.heap.size cs l := by
  rcases h with ⟨A, c, h1, h2, rfl, _⟩ | ⟨g, off, c, cur, e, Fs, h1, h2, h3, h4, h5, h6, h7, h8⟩
  · exact ⟨A, 0, c, h1, Nat.zero_le _, h2, rfl, fun h => absurd h (by omega)⟩
  · refine ⟨_, _, c, h1, h3, h4, rfl, fun _ => ⟨g, off, rfl, Box.size (t := e) h5, fun i a hi => ?_⟩⟩
    have hl : i < Fs.length := by rw [h6]; exact (List.getElem?_eq_some_iff.1 hi).1
    obtain ⟨es, k1, k2⟩ := h8 i a _ hi (List.getElem?_eq_getElem hl)
    exact ⟨es, fun j hj => by rw [Box.cell (t := e) h5]; exact k1 j hj, t.read k2⟩
def Ty.row {α : Type} (t : Ty α) : Ty (List α) where
  k := 1
  R := t.rowR
  O := t.rowO
  lenR := fun h => by obtain ⟨A, n, c, h1, _⟩ := h; rw [h1]; rfl
  lenO := fun h => by rcases h with ⟨A, c, h1, _⟩ | ⟨g, off, c, cur, e, Fs, h1, _⟩ <;> rw [h1] <;> rfl
  keep := fun h hk => by
    obtain ⟨A, n, c, h1, h2, h3, h4, h5⟩ := h
    refine ⟨A, n, c, h1, h2, h3, h4, fun h0 => ?_⟩
    obtain ⟨b, off, e, hb, hc⟩ := h5 h0
    refine ⟨b, off, e, hb, fun i a hi => ?_⟩
    obtain ⟨es, k1, k2⟩ := hc i a hi
    exact ⟨es, fun j hj => (World.cell?_of_block (hk _ hb)).trans (k1 j hj), t.keep k2 hk⟩
  up := fun h hB => by
    obtain ⟨A, n, c, h1, h2, h3, h4, h5⟩ := h
    refine ⟨A, n, c, h1, h2, h3, h4, fun h0 => ?_⟩
    obtain ⟨b, off, e, hb, hc⟩ := h5 h0
    refine ⟨b, off, e, Nat.lt_of_lt_of_le hb hB, fun i a hi => ?_⟩
    obtain ⟨es, k1, k2⟩ := hc i a hi
    exact ⟨es, k1, t.up k2 hB⟩
  kept := fun h hk => by
    rcases h with h | ⟨g, off, c, cur, e, Fs, h1, h2, h3, h4, h5, h6, rfl, h8⟩
    · exact .inl h
    · refine .inr ⟨g, off, c, cur, e, Fs, h1, h2, h3, h4, (hk g (by simp)).trans h5, h6, rfl, fun i a Fi hi hF => ?_⟩
      obtain ⟨es, k1, k2⟩ := h8 i a Fi hi hF
      exact ⟨es, k1, t.kept k2 fun f hf => hk f (List.mem_cons_of_mem _ (mem_flat hF hf))⟩
  lt := fun h f hf => by
    rcases h with ⟨A, c, _, _, _, rfl⟩ | ⟨g, off, c, cur, e, Fs, h1, h2, h3, h4, h5, h6, rfl, h8⟩
    · exact absurd hf (by simp)
    · rcases List.mem_cons.1 hf with rfl | hf
      · exact Box.size (t := e) h5
      · obtain ⟨Fi, hFi, hfi⟩ := List.mem_flatten.1 hf
        obtain ⟨i, hi, e1⟩ := List.getElem_of_mem hFi
        have hi' : i < _ := h6 ▸ hi
        obtain ⟨es, _, k2⟩ := h8 i _ Fi (List.getElem?_eq_getElem hi') (by rw [List.getElem?_eq_getElem hi, e1])
        exact t.lt k2 f hfi
  read := Ty.rowO_read
end Go.Proofs.Ytnfmjgldcnokbaa
namespace Go.Proofs.Ytnfmjgldcnokbaa
set_option linter.unusedVariables false
section
variable {α : Type}
/-- The sum of c over l. -/
def rsum (c : α → Nat) : List α → Nat
  | [] => 0
  | a :: l => c a + rsum c l
/-- Each marked, from k on, each with what its elders count behind k. -/
def rmk (c : α → Nat) (m : Int → α → α) : Int → List α → List α
  | _, [] => []
  | k, a :: l => m k a :: rmk c m (k + c a) l
/-- The first i marked. -/
def rpart (c : α → Nat) (m : Int → α → α) (k : Int) (l : List α) (i : Nat) : List α := rmk c m k (l.take i) ++ l.drop i
/-- The size of a row: one an element, and what they count. -/
def rsz (s : α → Nat) (l : List α) : Nat := l.length + rsum s l
variable {c s : α → Nat} {m : Int → α → α} {k : Int} {l l' : List α} {i : Nat} {a : α}
theorem rsum_app : rsum c (l ++ l') = rsum c l + rsum c l' := by
  induction l with
  | nil => simp [rsum]
  | cons b l ih => simp only [List.cons_append, rsum, ih]; omega
theorem rsum_take_le (c : α → Nat) (l : List α) (i : Nat) : rsum c (l.take i) ≤ rsum c l := by
  have h := rsum_app (c := c) (l := l.take i) (l' := l.drop i)
  rw [List.take_append_drop] at h; omega
theorem take_sn (h : l[i]? = some a) : l.take (i + 1) = l.take i ++ [a] := by
  rw [List.take_add_one, h]; rfl
theorem rsum_sn (h : l[i]? = some a) : rsum c (l.take (i + 1)) = rsum c (l.take i) + c a := by
  rw [take_sn h, rsum_app]; simp [rsum]
theorem rsum_at (h : l[i]? = some a) : rsum c (l.take i) + c a ≤ rsum c l := by
  rw [← rsum_sn h]; exact rsum_take_le _ _ _
theorem rsum_zero : rsum c (l.take 0) = 0 := by simp [rsum]
theorem rsum_all (h : l.length ≤ i) : rsum c (l.take i) = rsum c l := by rw [List.take_of_length_le h]
theorem rmk_len (k : Int) (l : List α) : (rmk c m k l).length = l.length := by
  induction l generalizing k with
  | nil => rfl
  | cons b l ih => simp [rmk, ih]
theorem rmk_app : rmk c m k (l ++ l') = rmk c m k l ++ rmk c m (k + rsum c l) l' := by
  induction l generalizing k with
  | nil => simp [rmk, rsum]
  | cons b l ih =>
    simp only [List.cons_append, rmk, rsum, ih]
    rw [show k + ((c b + rsum c l : Nat) : Int) = k + (c b : Int) + (rsum c l : Int) by omega]
theorem rmk_at (h : l[i]? = some a) : (rmk c m k l)[i]? = some (m (k + rsum c (l.take i)) a) := by
  induction l generalizing k i with
  | nil => simp at h
  | cons b l ih =>
    cases i with
    | zero => simp only [List.getElem?_cons_zero, Option.some.injEq] at h; subst h; simp [rmk, rsum]
    | succ i =>
      simp only [List.getElem?_cons_succ] at h
      simp only [rmk, List.getElem?_cons_succ, List.take_succ_cons, rsum, ih h]
      rw [show k + ((c b + rsum c (l.take i) : Nat) : Int) = k + (c b : Int) + (rsum c (l.take i) : Int) by omega]
theorem rpart_zero : rpart c m k l 0 = l := by simp [rpart, rmk]
theorem rpart_all (h : l.length ≤ i) : rpart c m k l i = rmk c m k l := by
  unfold rpart; rw [List.take_of_length_le h, List.drop_eq_nil_of_le h, List.append_nil]
theorem rpart_at (h : l[i]? = some a) : (rpart c m k l i)[i]? = some a := by
  have hi := (List.getElem?_eq_some_iff.1 h).1
  unfold rpart
  rw [List.getElem?_append_right (by rw [rmk_len, List.length_take]; omega), rmk_len, List.length_take, Nat.min_eq_left (by omega), Nat.sub_self, List.getElem?_drop, Nat.add_zero, h]
theorem rpart_set (h : l[i]? = some a) : (rpart c m k l i).set i (m (k + rsum c (l.take i)) a) = rpart c m k l (i + 1) := by
  have hi := (List.getElem?_eq_some_iff.1 h).1
  have hl : (rmk c m k (l.take i)).length = i := by rw [rmk_len, List.length_take]; omega
  unfold rpart
  rw [List.set_append_right _ _ (by omega), hl, Nat.sub_self, take_sn h, rmk_app, List.append_assoc]
  congr 1
  have e : l.drop i = a :: l.drop (i + 1) := by
    rw [List.drop_eq_getElem_cons hi]
    have := List.getElem?_eq_getElem hi
    rw [h] at this
    rw [← Option.some.inj this]
  rw [e]
  simp [rmk]
theorem rsz_le (l : List α) : l.length ≤ rsz s l := by unfold rsz; omega
/-- What is counted is at most M times the size. -/
theorem rsum_M {M : Nat} (h : ∀ a, c a ≤ M + M * s a) (l : List α) : rsum c l ≤ M * rsz s l := by
  induction l with
  | nil => simp [rsum]
  | cons b l ih =>
    have := h b
    simp only [rsum, rsz, List.length_cons] at ih ⊢
    rw [Nat.mul_add] at ih
    rw [Nat.mul_add, Nat.mul_add, Nat.mul_add]
    omega
/-- The size of the first i elements, the rest's count of one each not yet. -/
theorem rsz_step (h : l[i]? = some a) : l.length + rsum s (l.take i) + s a ≤ rsz s l := by
  have := rsum_at (c := s) h; unfold rsz; omega
end
end Go.Proofs.Ytnfmjgldcnokbaa
namespace Go.Proofs.Ytnfmjgldcnokbaa
set_option maxRecDepth 100000
open Go.ChangeShapes Go.WideShapes Go.ChangeAt Go.RowKit

theorem bel_alloc {w w' : World} (h : Below w.heap.size w w') (o : Obj) : Below w.heap.size w (w'.alloc o) := h.alloc h.size o
theorem bel_put {w w' : World} (h : Below w.heap.size w w') {p : Addr} (hp : w.heap.size ≤ p.block) (u : Value) : Below w.heap.size w (w'.setCell p u) := h.setCell hp u
theorem bel_drew {w w' : World} (h : Below w.heap.size w w') : Below w.heap.size w w'.drew := h.drew
theorem belx {w w' : World} (h : Below w.heap.size w w' := by repeat (first | (with_reducible exact Below.refl _ _) | (with_reducible assumption) | (with_reducible refine bel_alloc ?_ _) | (with_reducible refine bel_drew ?_) | (with_reducible refine below_drewN ?_ _) | (with_reducible refine bel_put ?_ (by first | exact Nat.le_refl _ | (simp; done) | (simp; omega)) _))) : Below w.heap.size w w' := h
theorem qa_ {α : Type} (l : List α) (i : Nat) (a : α) : l.toArray.setIfInBounds i a = (l.set i a).toArray := List.setIfInBounds_toArray ..
theorem qb_ {α : Type} (a : α) (xs : List α) (b : α) : (a :: xs).set 0 b = b :: xs := rfl
theorem qc_ {α : Type} (a : α) (xs : List α) (n : Nat) (b : α) : (a :: xs).set (n + 1) b = a :: xs.set n b := rfl
theorem bel_trans {a w w' : World} (h : Below a.heap.size a w) (h' : Below w.heap.size w w') : Below a.heap.size a w' := h.trans (h'.mono h.size)
theorem reach {k : IntKind} {w w' : World} {A : Option Addr} {n : Nat} {l : List Int} (h : Ints k w w.heap.size A n l) (hB : Below w.heap.size w w') : Ints k w' w'.heap.size A n l := (h.below hB).up hB.size
theorem getDtk {l : List Int} {n i : Nat} (h : i < n) : (l.take n).getD i 0 = l.getD i 0 := by
  rw [List.getD_eq_getElem?_getD, List.getElem?_take, if_pos h, List.getD_eq_getElem?_getD]
theorem Ints.head {k : IntKind} {w : World} {B n : Nat} {A : Option Addr} {l : List Int} (h : Ints k w B A n l) (m : Nat) (hm : m ≤ n) : Ints k w B A m (l.take m) := by
  refine ⟨by rw [List.length_take, h.1]; omega, fun h0 => ?_, fun x hx => h.2.2 x (List.mem_of_mem_take hx)⟩
  obtain ⟨b, off, e, hb, hc⟩ := h.2.1 (by omega)
  exact ⟨b, off, e, hb, fun i hi => by rw [Go.Proofs.Ytnfmjgldcnokbaa.getDtk hi]; exact hc i (by omega)⟩
theorem Own.far {k : IntKind} {e : TypeId} {w : World} {base g : Nat} {v : Value} {l : List Int} (h : Own k e w base v l) (hg : g < base) (j : Nat) (u : Value) : Own k e (w.setCell ⟨g, j, none⟩ u) base v l :=
  h.kept (gb_put (World.grownBy.refl _ _) j u) (by
    cases hv : v.ownBlock with
    | none => exact .inl rfl
    | some b => exact .inr (fun e => by have := (h.block hv).1; injection e; omega))
theorem cell_bel {w w' : World} {b o : Nat} {v : Value} (h : Below w.heap.size w w') (hc : w.cell? ⟨b, o, none⟩ = some v) : w'.cell? ⟨b, o, none⟩ = some v :=
  (World.cell?_of_block (h.block b (World.block_lt_of_cell? w _ hc))).trans hc
theorem l_toByteS' {w : World} {n c : Nat} {A : Option Addr} {l : List Int} (hl : Ints .u8 w w.heap.size A n l) (hn : n ≤ 140737488351232) :
    Calls Try.prog 29 #[.slice A n c] w fun e w' => ∃ b, e = .returned (.slice (some ⟨b, 0, none⟩) n n) ∧ Own .u8 5 w' w.heap.size (.slice (some ⟨b, 0, none⟩) n n) l ∧ Below w.heap.size w w' :=
  (l_toByteS hl hn).mono fun _ _ h => ⟨_, h⟩
end Go.Proofs.Ytnfmjgldcnokbaa
namespace Go.Proofs.Ytnfmjgldcnokbaa
open Go.RowKit

theorem wf_i64 {x : Int} (h1 : -9223372036854775808 ≤ x) (h2 : x ≤ 9223372036854775807) : (Lit.int .i64 x).wf = true := WalkArith.wf_i64 ⟨by omega, by omega⟩
end Go.Proofs.Ytnfmjgldcnokbaa
