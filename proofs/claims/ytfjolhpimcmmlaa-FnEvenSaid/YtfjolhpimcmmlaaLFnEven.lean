/-
  Of three all orders come as often, over all draws of two bytes that suffice, for every drawn input. No further condition.
-/
import Derived.Test.YtfjolhpimcmmlaaRows
import Derived.WalkKit
import Derived.ProofKit
import Derived.OpenShut
import Derived.ShutString
import Derived.ChangeOld
import Derived.SizedLaws
import Derived.Below
import Derived.Test.YtfjolhpimcmmlaaImplOrd
import Derived.Test.YtfjolhpimcmmlaaLawTwo
import Derived.Test.YtfjolhpimcmmlaaEven
namespace Go.Proofs.Ytfjolhpimcmmlaa.fnEven
open Go.ChangeShapes Go.WideShapes Go.ChangeAt Go.RowKit
open Go.ChangeMaps (open_string shut_string)
set_option linter.unusedVariables false

theorem bytes5 : Try.prog.bytesOf 5 = 1 := by kernel_rfl
open Go.Proofs.Ytfjolhpimcmmlaa Fld
theorem own : ownKnob Try.prog.godebug = none := by kernel_rfl
theorem laidOut : laidOutB Try.prog = true := by kernel_rfl

/-- WHAT THE WALK IS TOLD OF A SLICE OF INTEGERS THAT CAME IN: it is nil; or it leads to a row of 'cap' cells, the numbers 'zs' (the first 'len' are its elements, the rest its spare room), each fitting its kind. -/
def IsRow (k : IntKind) (w : World) (a : Option Addr) (len cap : Nat) (zs : List Int) : Prop :=
  (a = none ∧ len = 0 ∧ cap = 0 ∧ zs = []) ∨
  ∃ x, a = some x ∧ len ≤ cap ∧ cap ≤ maxLen ∧ zs.length = cap ∧ (∀ i, i < zs.length → w.cell? (x.add i) = some (.int k (zs.getD i 0))) ∧ ∀ n ∈ zs, (Lit.int k n).wf = true

theorem rowInts {w : World} {a : Option Addr} {n c : Nat} {zs : List Int} (h : IsRow .u8 w a n c zs) : Ints .u8 w w.heap.size a n (zs.take n) ∧ n ≤ c := by
  rcases h with ⟨rfl, rfl, rfl, rfl⟩ | ⟨x, rfl, hl, _, hz, hc, hw⟩
  · exact ⟨Ints.nil, Nat.le_refl _⟩
  · exact ⟨Ints.ofRow (by omega) hc hw, hl⟩
theorem ev_step {k b q j : Nat} (hb : b < 2) (hq : keyE (k % 3) b = q) : (if j = q then Value.int .i64 ((evC (2 * k + b) q : Int) + 1) else .int .i64 (evC (2 * k + b) j)) = .int .i64 (evC (2 * k + (b + 1)) j) := by
  rw [evC_step hb, hq]
  by_cases e : j = q
  · subst e
    rw [if_pos rfl, if_pos rfl]; simp
  · rw [if_neg e, if_neg (fun h => e h.symm)]; simp
theorem rowIs_kept {W W' : World} {b : Nat} {t : TypeId} {n : Nat} {f : Nat → Value} (h : W.rowIs b t n f) (hB : Below W.heap.size W W') (hb : b < W.heap.size) : W'.rowIs b t n f := by
  have e := hB.block b hb
  obtain ⟨cs, h1, h2⟩ := h
  exact ⟨cs, e.trans h1, h2⟩

/-! ### STEP 1: THE WALK: the Go text returns true, AND WRITES NOTHING THAT WAS THERE: 'Below w.heap.size w w'' (Derived/Below.lean: '.refl', '.alloc', '.drew', '.setCell' at a new block, '.trans'). Open each 'IsRow' by 'rcases' AHEAD of 'go_enter'; part every test ahead of the walk. -/
set_option maxHeartbeats 2000000 in
theorem walk (a0 : Option Addr) (len0 cap0 : Nat) (z0 : List Int) (w : World) (w0 : IsRow .u8 w a0 len0 cap0 z0) (r0 : cap0 ≤ 140737488351232) :
    Calls Try.prog 8 #[.slice a0 len0 cap0] w fun e w' => e = .returned (.bool true) ∧ Below w.heap.size w w' := by
  obtain ⟨hl, hn⟩ := rowInts w0
  go_enter Try.func8, Try.ntmps8
  go_wp2_with fail
  refine (l_at 1 hl (by omega) (by omega)).mono ?_
  rintro e w' ⟨rfl, rfl⟩
  have rf := atV_rg hl.bytes 1
  obtain ⟨f, hf⟩ := Int.eq_ofNat_of_zero_le rf.1
  rw [hf] at rf ⊢
  have hf2 : f < 256 := by omega
  have hmk : ∀ W : World, (Instr.makeSlice 39 (.int .i64 27) (.int .i64 27)).run Try.prog W = .ok (.slice (some ⟨W.heap.size, 0, none⟩) 27 27) (W.alloc (.cells (madeCells #[.int .i64 0] 27) 3)) := fun W => run_make_row' (P := Try.prog) 39 3 (.int .i64 0) 8 Try.underlying39 info_ii rfl .i64 .i64 27 (by omega) (by omega) W
  clear hf rf
  go_wp2_with fail
  clear hmk
  have hrow := World.rowIs_made w (.int .i64 0) 27 3
  have hB2 : Below w.heap.size w (w.alloc (.cells (madeCells #[.int .i64 0] 27) 3)) := (Below.refl _ w).alloc (Nat.le_refl _) _
  go_loopw [5] (fun i wr => ∃ k : Nat, k ≤ 255 ∧ i = .int .i64 k ∧ wr.rowIs w.heap.size 3 27 (fun j => .int .i64 (evC (2 * k) j)) ∧ Below w.heap.size w wr) (fun i _ => 255 - (intOf i).toNat)
  case atStart => exact ⟨0, by omega, rfl, hrow.congr fun j _ => rfl, hB2⟩
  case round =>
    obtain ⟨k, hk, rfl, hR, hB⟩ := hrel
    clear hrow hB2
    by_cases hlt : k < 255
    · set_option maxRecDepth 100000 in
      go_wp2
      go_loopw [6] (fun i wr => ∃ b : Nat, b ≤ 2 ∧ i = .int .i64 b ∧ wr.rowIs w.heap.size 3 27 (fun j => .int .i64 (evC (2 * k + b) j)) ∧ Below w.heap.size w wr) (fun i _ => 2 - (intOf i).toNat)
      case atStart => exact ⟨0, by omega, rfl, hR, hB⟩
      case round =>
        obtain ⟨b, hb, rfl, hR2, hB2⟩ := hrel
        by_cases hlb : b < 2
        · obtain ⟨j, hj⟩ : ∃ j : Int, IntKind.u8.wrap (2 * (f : Int) + b) = j := ⟨_, rfl⟩
          have hjr : (0 ≤ j ∧ j < 256) ∧ j % 2 = b := by rw [← hj, IntKind.wrap_u8]; omega
          have z1 : IntKind.i64.wrap (2 * (f : Int)) = 2 * f := IntWalk.i64_in _ (by omega)
          have z2 : IntKind.i64.wrap (2 * (f : Int) + b) = 2 * f + b := IntWalk.i64_in _ (by omega)
          have z3 : IntKind.u8.wrap (k : Int) = k := u8w (by omega)
          have HF := fshuf_two hlt hjr.1 hjr.2
          have HL := Lib.hid (shufL_t HF)
          have HU := Lib.hid (shufU_t HF)
          obtain ⟨x, y, z, ho, hx, hy, hz, hq⟩ := ordE_three (Nat.mod_lt k (show 0 < 3 by omega)) hlb
          obtain ⟨q, hqe⟩ : ∃ q, keyE (k % 3) b = q := ⟨_, rfl⟩
          rw [hqe] at hq
          have hq27 : q < 27 := by omega
          have HO := Lib.hid ho
          have HQ := Lib.hid hqe
          have hI := two_ints wr 5 (k : Int) j ⟨by omega, by omega⟩ hjr.1
          have hR3 := hR2.alloc (.cells #[.int .u8 (k : Int), .int .u8 j] 5)
          have hB3 := hB2.alloc hB2.size (.cells #[.int .u8 (k : Int), .int .u8 j] 5)
          have hGs : w.heap.size < (wr.alloc (.cells #[.int .u8 (k : Int), .int .u8 j] 5)).heap.size := by have := hB2.size; simp; omega
          clear HF ho hqe hR hB hR2 hjr
          set_option maxRecDepth 100000 in
          go_wp2_with fail
          refine (i_Shuffle 3 hI.intsAt.1 (by omega) (by omega) (by omega) (.inr ⟨_, 0, rfl⟩)).mono ?_
          rintro e w7 ⟨v7, rfl, hx7, hb7⟩
          rw [HL.out, HO.out] at hx7
          rw [HU.out]
          obtain ⟨g, c2, rfl, hcc, hcm, hgw, hgs, hcell, hfz⟩ := hx7.row (by simp)
          have hR7 := rowIs_kept hR3 hb7 hGs
          have hB7 := hB3.trans (hb7.mono (Nat.le_of_lt hGs))
          have hc0 : w7.cell? ⟨g, 0, none⟩ = some (.int .i64 x) := hcell 0 (by simp)
          have hc1 : w7.cell? ⟨g, 1, none⟩ = some (.int .i64 y) := hcell 1 (by simp)
          have hc2 : w7.cell? ⟨g, 2, none⟩ = some (.int .i64 z) := hcell 2 (by simp)
          have hcq := hR7.cell hq27
          have hfq := hR7.frozen q
          have y1 : IntKind.i64.wrap ((x : Int) * 9) = x * 9 := IntWalk.i64_in _ (by omega)
          have y2 : IntKind.i64.wrap ((y : Int) * 3) = y * 3 := IntWalk.i64_in _ (by omega)
          have y3 : IntKind.i64.wrap ((x : Int) * 9 + y * 3) = x * 9 + y * 3 := IntWalk.i64_in _ (by omega)
          have y4 : IntKind.i64.wrap ((x : Int) * 9 + y * 3 + z) = (q : Int) := by rw [← hq]; exact IntWalk.i64_in _ (by omega)
          have q1 : (0 : Int) ≤ (q : Int) := Int.natCast_nonneg _
          have q2 : (q : Int) < 27 := by omega
          have q3 : decide ((q : Int) < 0) = false := by simp
          have q4 : decide (26 < (q : Int)) = false := by simp; omega
          have hle := evC_le (2 * k + b) q
          have hev : evC (2 * k + b) q ≤ 1000 := by omega
          clear hcell hfz hx7 hI hq z1 z2 z3 hj hcc hcm hB2 hB3 hR3
          simp only [List.length_cons, List.length_nil, Nat.reduceAdd]
          set_option maxRecDepth 100000 in
          go_wp2
          go_quiet (fail)
          go_wp2
          go_roundw
          case rel => exact ⟨b + 1, by omega, by go_num, (hR7.set q _).congr fun j _ => ev_step hlb HQ.out, (below_drewN hB7 _).setCell (p := ⟨w.heap.size, q, none⟩) (Nat.le_refl _) _⟩
          case measure => simp [intOf]; omega
        · obtain rfl : b = 2 := by omega
          go_wp2
          go_roundw
          case rel => exact ⟨k + 1, by omega, by go_num, hR2.congr fun j _ => by rw [show 2 * (k + 1) = 2 * k + 2 from by omega], hB2⟩
          case measure => simp [intOf]; omega
    · obtain rfl : k = 255 := by omega
      clear hlt hk
      obtain ⟨wo, rfl⟩ : ∃ wo : World, wo = wr := ⟨_, rfl⟩
      go_wp2
      go_loopw [10, 11] (fun n i wr => ∃ k : Nat, k ≤ 27 ∧ i = .int .i64 k ∧ n = .int .i64 (nE k) ∧ wr = wo) (fun _ i _ => 27 - (intOf i).toNat)
      case atStart => exact ⟨0, by omega, rfl, rfl, rfl⟩
      case round =>
        obtain ⟨k, hk, rfl, rfl, rfl⟩ := hrel
        have hle := nE_le k
        by_cases hlt : k < 27
        · have hc := hR.cell hlt
          have q1 : (0 : Int) ≤ (k : Int) := Int.natCast_nonneg _
          have q2 : (k : Int) < 27 := by omega
          have hs : nE (k + 1) = nE k + (if 0 < evC 510 k then 1 else 0) := rfl
          rcases evC_all k hlt with h | h
          · rw [show 2 * 255 = 510 from rfl, h] at hc
            rw [h] at hs
            have HS := Lib.hid hs
            clear hs h
            go_wp2
            go_roundw
            case rel => exact ⟨k + 1, by omega, by go_num, by rw [HS.out]; go_num, trivial⟩
            case measure => simp [intOf]; omega
          · rw [show 2 * 255 = 510 from rfl, h] at hc
            rw [h] at hs
            have HS := Lib.hid hs
            clear hs h
            go_wp2
            go_roundw
            case rel => exact ⟨k + 1, by omega, by go_num, by rw [HS.out]; go_num, trivial⟩
            case measure => simp [intOf]; omega
        · obtain rfl : k = 27 := by omega
          rw [nE_all]
          clear hlt hk hle
          go_wp2_with (go_at_call 18; refine (l_seals _).mono ?_; rintro e w4 ⟨rfl, hb4⟩)
          go_ret
          exact ⟨rfl, hB.trans (hb4.mono hB.size)⟩

/-! ### THE ROW's STEP: WRITTEN OUT: LEAVE IT -/
set_option maxRecDepth 100000 in
theorem lifted (os : Os) (started : os.Started) (H : Type) (enc : TypeId × Value → H) :
    ReturnsInHanded {} Try.checked os 8 .any (Rows.fnEvenSpec.pre6 enc Try.prog Try.f8 Rows.fnEvenRow.domain false) (Rows.fnEvenSpec.post enc Try.prog Try.f8 false true false false) := by
  refine returnsInHanded_of_change_sized (C := Try.checked) own started (by kernel_rfl) Try.func8
    (ChangeSpec.witness6 (enc := enc) (C := Try.checked) false ⟨#[], #[.slice none 0 0], []⟩ 8 (by kernel_rfl) (by kernel_rfl) (by kernel_rfl) (by kernel_rfl)) ?_
  intro W base args ds gs before hval0 hW hcnd hsz0 _
  have hval : ∀ (j : Nat) t v, Try.f8.params[j]? = some t → args[j]? = some v → Value.okWide Try.prog W .any base t v := hval0
  have hW' := hW
  obtain ⟨p, q, hA0, hV, rfl, hfz, hnd⟩ := hW
  have hA : DataW.TrodAll enc Try.prog W 0 (fun _ => true) true Try.f8.params.toList args.toList ds p := hA0
  have hsz : (DataW.weightsEach Try.prog (Try.f8.params.toList ++ Rows.fnEvenSpec.plain.varTypes Try.prog) (ds ++ gs)).all (· ≤ reachBytes) = true := hsz0
  rw [Try.params8] at hA hval hsz
  obtain ⟨v0, vs0, d0, ds0, p0, q0, hargs, rfl, rfl, h0, r0⟩ := trodAll_cons hA
  obtain ⟨rfl, rfl, rfl⟩ := trodAll_nil r0
  obtain rfl : args = #[v0] := by cases args; simp_all
  obtain ⟨rfl, rfl⟩ := trodVars_none hV
  obtain ⟨a0, len0, cap0, rfl⟩ := okWide_slice Try.underlying22 (hval 0 22 v0 rfl rfl)
  have k0 := h0
  have lt0 : ∀ x ∈ p0, x.block < W.heap.size := by obtain ⟨m, hm⟩ := k0; exact DataW.trod_lt m _ _ _ hm
  obtain ⟨z0, w0, r0⟩ : ∃ zs, IsRow .u8 W a0 len0 cap0 zs ∧ cap0 ≤ 140737488351232 := by
    obtain ⟨fuel, hf⟩ := h0
    rcases open_ints Try.underlying22 Try.underlying5 (by kernel_rfl) hf with ⟨hcs, _⟩ | ⟨x, l, c, zs, hcs, _, hl, hm, hz, hxx, hcell, hwz⟩
    · simp [Value.cells] at hcs
      obtain ⟨rfl, rfl, rfl⟩ := hcs
      exact ⟨[], .inl ⟨rfl, rfl, rfl, rfl⟩, by omega⟩
    · simp [Value.cells] at hcs
      obtain ⟨rfl, rfl, rfl⟩ := hcs
      have hz' : zs.length = cap0 := by simpa using hz
      refine ⟨zs, .inr ⟨_, rfl, hl, hm, hz', hcell, hwz⟩, ?_⟩
      simp only [Prod.mk.injEq] at hxx
      rw [hxx.1] at hsz
      have h := sized_slice hsz (j := 0) (t := 22) (e := 5) rfl rfl Try.underlying22
      rw [bytes5] at h
      simp only [lits, List.length_map, List.length_take, List.length_drop, reachBytes] at h
      omega
  clear hA0 hval0
  refine (walk a0 len0 cap0 z0 W w0 r0).mono fun e W' ⟨he, bel⟩ => ?_
  subst he
  exact ⟨_, rfl, _, _, _, [], _, [], hW', trodAll_mk1 (shut_bool Try.underlying4 _), (trodAll_cons_mk (Below.trod laidOut (by kernel_rfl) (of_decide_eq_true (by kernel_rfl)) k0 bel lt0) trodAll_mk0), rfl, bel.frame _, fun h => by cases h⟩

theorem over : Rows.fnEvenRow.holds Try.pinned (OpenSpec.ofChange Rows.fnEvenSpec) :=
  OpenClaim.holds_of_wide 8 Try.f8 rfl rfl rfl rfl rfl rfl rfl ⟨rfl, rfl, rfl, rfl, rfl⟩ rfl rfl rfl rfl rfl (by kernel_rfl) Try.func8 (by kernel_rfl)
    (of_decide_eq_true (by kernel_rfl)) (by unfold Func.isWrapper; first | (rw [if_pos (by decide +kernel)]; kernel_rfl) | (rw [if_neg (by decide +kernel)]; exact ⟨rfl, rfl⟩))
    (fun os started H enc _ => lifted os started H enc)

/-- ████ THE STATEMENT ████ -/
theorem proved : Rows.FnEvenSaid := over
#print axioms proved
end Go.Proofs.Ytfjolhpimcmmlaa.fnEven
