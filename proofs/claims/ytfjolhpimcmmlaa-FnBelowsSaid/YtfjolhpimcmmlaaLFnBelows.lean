/-
  A drawn number is below its bound, and over all single bytes every number occurs equally often, for every drawn input. No further condition.
-/
import Derived.Test.YtfjolhpimcmmlaaRows
import Derived.WalkKit
import Derived.ProofKit
import Derived.OpenShut
import Derived.ShutString
import Derived.ChangeOld
import Derived.SizedLaws
import Derived.Below
import Derived.Test.YtfjolhpimcmmlaaDrawOrd
import Derived.Test.YtfjolhpimcmmlaaImplOrd
import Derived.Test.YtfjolhpimcmmlaaLawTwo
import Derived.Test.YtfjolhpimcmmlaaCount
namespace Go.Proofs.Ytfjolhpimcmmlaa.fnBelows
open Go.ChangeShapes Go.WideShapes Go.ChangeAt Go.RowKit
open Go.ChangeMaps (open_string shut_string)
set_option linter.unusedVariables false

theorem bytes5 : Try.prog.bytesOf 5 = 1 := by kernel_rfl
open Go.Proofs.Ytfjolhpimcmmlaa Fld
theorem own : ownKnob Try.prog.godebug = none := by kernel_rfl
theorem laidOut : laidOutB Try.prog = true := by kernel_rfl

/-- WHAT THE WALK IS TOLD OF A SLICE OF INTEGERS THAT CAME IN: it is nil; or it leads to a row of 'cap' cells, the numbers 'zs' (the first 'len' are its elements, the rest its spare room), each fitting its kind. -/
def IsRow (k : IntKind) (w : World) (a : Option Addr) (len cap : Nat) (zs : List Int) : Prop :=
  (a = none ∧ len = 0 ∧ cap = 0 ∧ zs = []) ∨
  ∃ x, a = some x ∧ len ≤ cap ∧ cap ≤ maxLen ∧ zs.length = cap ∧ (∀ i, i < zs.length → w.cell? (x.add i) = some (.int k (zs.getD i 0))) ∧ ∀ n ∈ zs, (Lit.int k n).wf = true

theorem rowInts {w : World} {a : Option Addr} {n c : Nat} {zs : List Int} (h : IsRow .u8 w a n c zs) : Ints .u8 w w.heap.size a n (zs.take n) ∧ n ≤ c := by
  rcases h with ⟨rfl, rfl, rfl, rfl⟩ | ⟨x, rfl, hl, _, hz, hc, hw⟩
  · exact ⟨Ints.nil, Nat.le_refl _⟩
  · exact ⟨Ints.ofRow (by omega) hc hw, hl⟩
theorem which {y : Int} (h : y ∈ ([1, 2, 3, 10, 100, 256, 257, 0] : List Int)) : (∃ p : Nat, y = p ∧ p ∈ [1, 2, 3, 10, 100, 256] ∧ 1 ≤ p ∧ p ≤ 256) ∨ y = 257 ∨ y = 0 := by
  simp only [List.mem_cons, List.not_mem_nil, or_false] at h
  rcases h with rfl | rfl | rfl | rfl | rfl | rfl | rfl | rfl
  · exact .inl ⟨1, rfl, by simp, by omega, by omega⟩
  · exact .inl ⟨2, rfl, by simp, by omega, by omega⟩
  · exact .inl ⟨3, rfl, by simp, by omega, by omega⟩
  · exact .inl ⟨10, rfl, by simp, by omega, by omega⟩
  · exact .inl ⟨100, rfl, by simp, by omega, by omega⟩
  · exact .inl ⟨256, rfl, by simp, by omega, by omega⟩
  · exact .inr (.inl rfl)
  · exact .inr (.inr rfl)
theorem one_byte (w : World) (t : TypeId) (x : Int) (hx : 0 ≤ x ∧ x < 256) : Ints .u8 (w.alloc (.cells #[.int .u8 x] t)) (w.heap.size + 1) (some ⟨w.heap.size, 0, none⟩) 1 [x] := by
  refine ⟨rfl, fun _ => ⟨w.heap.size, 0, rfl, by omega, fun i hi => ?_⟩, fun z hz => ?_⟩
  · rw [Nat.zero_add, (Box.new w t _).cell]
    match i, hi with
    | 0, _ => rfl
  · rw [List.mem_singleton] at hz; rw [hz]; exact wf8 hx
theorem ct_step {p i k j : Nat} (hk : i < 256 - 256 % p) (hm : i % p = k) : (if j = k then Value.int .i64 ((ctB p i k : Int) + 1) else .int .i64 (ctB p i j)) = .int .i64 (ctB p (i + 1) j) := by
  by_cases e : j = k
  · subst e
    rw [if_pos rfl]
    show _ = Value.int .i64 ((ctB p i j + (if i < 256 - 256 % p ∧ i % p = j then 1 else 0) : Nat) : Int)
    rw [if_pos ⟨hk, hm⟩]; simp
  · rw [if_neg e]
    show _ = Value.int .i64 ((ctB p i j + (if i < 256 - 256 % p ∧ i % p = j then 1 else 0) : Nat) : Int)
    rw [if_neg (fun h => e (by rw [← hm]; exact h.2.symm))]; simp
theorem ct_same {p i j : Nat} (hk : ¬ i < 256 - 256 % p) : Value.int .i64 (ctB p i j) = .int .i64 (ctB p (i + 1) j) := by
  show _ = Value.int .i64 ((ctB p i j + (if i < 256 - 256 % p ∧ i % p = j then 1 else 0) : Nat) : Int)
  rw [if_neg (fun h => hk h.1)]; simp
theorem keep_below {wa w1 : World} {p : Addr} {u : Value} (hb : Below wa.heap.size wa w1) (h : wa.cell? p = some u) : w1.cell? p = some u :=
  (hb.cell (World.block_lt_of_cell? wa _ h)).trans h

/-! ### STEP 1: THE WALK: the Go text returns true, AND WRITES NOTHING THAT WAS THERE: 'Below w.heap.size w w'' (Derived/Below.lean: '.refl', '.alloc', '.drew', '.setCell' at a new block, '.trans'). Open each 'IsRow' by 'rcases' AHEAD of 'go_enter'; part every test ahead of the walk. -/
set_option maxHeartbeats 2000000 in
theorem walk (a0 : Option Addr) (len0 cap0 : Nat) (z0 : List Int) (w : World) (w0 : IsRow .u8 w a0 len0 cap0 z0) (r0 : cap0 ≤ 140737488351232) :
    Calls Try.prog 6 #[.slice a0 len0 cap0] w fun e w' => e = .returned (.bool true) ∧ Below w.heap.size w w' := by
  obtain ⟨i0, hi0, hz0, hz1, hz2⟩ := info_parts info_ii
  obtain ⟨hl, hn⟩ := rowInts w0
  go_enter Try.func6, Try.ntmps6
  go_wp2_with fail
  refine (d_Below hl (by omega)).mono ?_
  rintro e w1 ⟨v, d, n, rfl, hn8, hO, hlen, hB1⟩
  obtain ⟨A1, c1, rfl, _, hI1, _⟩ := hO.ints
  have hby := hI1.bytes
  rcases which hn8 with ⟨p, rfl, hp, hp1, hp2⟩ | hbad
  · have HF := Lib.hid (fbel_t (d := d) (n := (p : Int)) ⟨by omega, by omega⟩)
    have hor := belP_or (d := d) (n := (p : Int)) (i := 0) (by omega) hby (Nat.zero_le _)
    obtain ⟨x, hx⟩ : ∃ x, (belP d 0 (p : Int)).1 = x := ⟨_, rfl⟩
    obtain ⟨u, hu⟩ : ∃ u, (belP d 0 (p : Int)).2 = u := ⟨_, rfl⟩
    rw [hx, hu] at hor
    have HX := Lib.hid hx
    have HU := Lib.hid hu
    have HP := Lib.hid hp
    clear hn8 hx hu hp
    have g1 : decide ((p : Int) < 1) = false := by simp; omega
    have g2 : decide (256 < (p : Int)) = false := by simp; omega
    have g3 : decide ((p : Int) ≤ x) = false := by simp; omega
    have g4 : decide (x < -1) = false := by simp; omega
    have g5 : decide ((u : Int) < 0) = false := by simp
    have g6 : decide ((d.length : Int) < (u : Int)) = false := by simp; omega
    have g6' : u ≤ d.length := by omega
    have g6'' : decide (d.length < u) = false := by simp; omega
    have g7 : (0 ≤ x ∧ decide (0 ≤ x) = true ∧ ((u : Int) == 0) = false) ∨ decide (0 ≤ x) = false := by
      rcases hor with h | h
      · exact .inr (by simp; omega)
      · by_cases hx : 0 ≤ x
        · exact .inl ⟨hx, by simp [hx], by rw [beq_eq_false_iff_ne]; omega⟩
        · exact .inr (by simp; omega)
    clear hor
    rcases g7 with ⟨g8, g7, g9⟩ | g7
    all_goals
      go_wp2_with fail
      refine (i_Below (p : Int) hI1 (by omega)).mono ?_
      rintro e w' ⟨rfl, rfl⟩
      rw [HF.out, HX.out, HU.out]
      have hmk := fun W => run_make_row' (P := Try.prog) 39 3 (.int .i64 0) 8 Try.underlying39 info_ii rfl .i64 .i64 p (by omega) (by omega) W
      go_wp2_with fail
      clear hmk
      have hrow := World.rowIs_made w1 (.int .i64 0) p 3
      have hB2 : Below w.heap.size w (w1.alloc (.cells (madeCells #[.int .i64 0] p) 3)) := hB1.alloc hB1.size _
      obtain ⟨G, hG⟩ : ∃ G, w1.heap.size = G := ⟨_, rfl⟩
      have HG := Lib.hid hG
      rw [hG] at hrow
      have hGB : w.heap.size ≤ G := by rw [← hG]; exact hB1.size
      try rw [hG]
      clear hG
      clear g3 g4 g5 g6 g6'' g7
      try clear g8
      try clear g9
      go_loopw [8] (fun i wr => ∃ k : Nat, k ≤ 256 ∧ i = .int .i64 k ∧ wr.rowIs G 3 p (fun j => .int .i64 (ctB p k j)) ∧ Below w.heap.size w wr) (fun i _ => 256 - (intOf i).toNat)
      case atStart => exact ⟨0, by omega, rfl, hrow.congr fun j _ => rfl, hB2⟩
      case round =>
        obtain ⟨k, hk, rfl, hR, hB⟩ := hrel
        by_cases hlt : k < 256
        · have hF1 := fbel_one (i := k) (n := p) hlt hp1 hp2
          by_cases hin : k < 256 - 256 % p
          · rw [if_pos hin] at hF1
            have hmp : k % p < p := Nat.mod_lt _ (by omega)
            obtain ⟨q, hq⟩ : ∃ q, k % p = q := ⟨_, rfl⟩
            rw [hq] at hF1 hmp
            have hR2 := hR.alloc (.cells #[.int .u8 (k : Int)] 5)
            have hc := hR2.cell hmp
            have hf := hR2.frozen q
            have hle := ctB_le p k q
            have HF1 := Lib.hid hF1
            have HQ := Lib.hid hq
            have HIN := Lib.hid hin
            have q1 : (0 : Int) ≤ (q : Int) := Int.natCast_nonneg _
            have q2 : (q : Int) < (p : Int) := by omega
            have q3 : ¬ p ≤ q := by omega
            clear hF1 hq hin
            set_option maxRecDepth 100000 in
            go_wp2_with (go_at_call 29; refine (i_Below (p : Int) (one_byte wr 5 (k : Int) (by omega)) (by omega)).mono ?_; rintro e w' ⟨rfl, rfl⟩; rw [HF1.out])
            go_roundw
            case rel => exact ⟨k + 1, by omega, by go_num, (hR2.set q _).congr fun j _ => ct_step HIN.out HQ.out, (hB.alloc hB.size _).setCell (p := ⟨G, q, none⟩) hGB _⟩
            case measure => simp [intOf]; omega
          · rw [if_neg hin] at hF1
            have HF1 := Lib.hid hF1
            have HIN := Lib.hid hin
            have q3 : ¬ (p : Int) ≤ -1 := by omega
            clear hF1 hin
            set_option maxRecDepth 100000 in
            go_wp2_with (go_at_call 29; refine (i_Below (p : Int) (one_byte wr 5 (k : Int) (by omega)) (by omega)).mono ?_; rintro e w' ⟨rfl, rfl⟩; rw [HF1.out])
            go_roundw
            case rel => exact ⟨k + 1, by omega, by go_num, (hR.alloc _).congr fun j _ => ct_same HIN.out, hB.alloc hB.size _⟩
            case measure => simp [intOf]; omega
        · obtain rfl : k = 256 := by omega
          clear hlt hk
          obtain ⟨wo, rfl⟩ : ∃ wo : World, wo = wr := ⟨_, rfl⟩
          have hR3 := hR.congr (g := fun _ => .int .i64 ((256 / p : Nat) : Int)) (fun j hj => by rw [ctB_all p HP.out j hj])
          have hp0 : ((p : Int) == 0) = false := by rw [beq_eq_false_iff_ne]; omega
          have hdv : Int.tdiv 256 (p : Int) = ((256 / p : Nat) : Int) := by rw [Int.tdiv_eq_ediv_of_nonneg (by omega)]; simp
          have hdl : 256 / p ≤ 256 := Nat.div_le_self _ _
          obtain ⟨t, ht⟩ : ∃ t, 256 / p = t := ⟨_, rfl⟩
          rw [ht] at hR3 hdv hdl
          clear ht hR
          go_wp2
          go_loopw [11] (fun i wr => ∃ k : Nat, 1 ≤ k ∧ k ≤ p ∧ i = .int .i64 k ∧ ∃ q, wr = wo.drewN q) (fun i _ => p - (intOf i).toNat)
          case atStart => exact ⟨1, by omega, by omega, rfl, 0, rfl⟩
          case round =>
            obtain ⟨k, hk1, hk, rfl, q, rfl⟩ := hrel
            by_cases hlt : k < p
            · have hc1 := hR3.cell hlt
              have hc0 := hR3.cell (show 0 < p by omega)
              have q1 : (0 : Int) ≤ (k : Int) := Int.natCast_nonneg _
              have q2 : (k : Int) < (p : Int) := by omega
              have q3 : (0 : Int) < (p : Int) := by omega
              go_wp2
              go_quiet (fail)
              go_wp2
              go_roundw
              case rel => exact ⟨k + 1, by omega, by omega, by go_num, _, rfl⟩
              case measure => simp [intOf]; omega
            · obtain rfl : k = p := by omega
              have hBq := (below_drewN hB q).drew
              have hc0 := hR3.cell (show 0 < k by omega)
              have hcq : (wo.drewN q).drew.cell? ⟨G, 0, none⟩ = some (.int .i64 t) := hc0
              have q3 : (0 : Int) < (k : Int) := by omega
              have q5 : 0 < k := by omega
              have q6 : ¬ k ≤ 0 := by omega
              have q7 : ¬ k = 0 := by omega
              clear hlt hR3 hrow hB2 hc0 hB hk1 q6
              go_wp2
              obtain ⟨n', hn'⟩ : ∃ n' : Int, (k : Int) = n' := ⟨_, rfl⟩
              have r1 : ¬ n' = 0 := by omega
              have hw2 : IntKind.i64.wrap (t : Int) = t := IntWalk.i64_in _ (by omega)
              rw [hn'] at hdv
              rw [hn']
              have HNN := Lib.hid hn'
              have hw1 : IntKind.i64.wrap (Int.tdiv 256 n') = t := by rw [hdv]; exact hw2
              have HDV := Lib.hid hdv
              clear hn' hp0 q7 q3 hk g1 g2 hp1 hp2 hdv
              set_option maxRecDepth 100000 in
              go_region_held3 (fun w' => w'.cell? ⟨G, 0, none⟩ = some (.int .i64 t) ∧ Below w.heap.size w w') (first | (exact ⟨hcq, hBq⟩) | (exact ⟨by assumption, by assumption⟩) | (exact ⟨keep_below (by assumption) (by assumption), Below.trans (by assumption) (Below.mono (by assumption) (Below.size (by assumption)))⟩)) (first | (go_at_call 18; refine (l_seals _).mono ?_; rintro e w4 ⟨rfl, hb4⟩))

              go_wp2_with fail
              go_ret
              exact ⟨rfl, (‹_ ∧ Below w.heap.size w _›).2⟩
  · have HF := Lib.hid (fbel_f (d := d) (n := n) (by omega))
    rcases hbad with rfl | rfl
    · go_wp2_with fail
      refine (i_Below _ hI1 (by omega)).mono ?_
      rintro e w' ⟨rfl, rfl⟩
      rw [HF.out]
      go_wp2_with (go_at_call 18; refine (l_seals _).mono ?_; rintro e w4 ⟨rfl, hb4⟩)
      go_ret
      exact ⟨rfl, hB1.trans (hb4.mono hB1.size)⟩
    · go_wp2_with fail
      refine (i_Below _ hI1 (by omega)).mono ?_
      rintro e w' ⟨rfl, rfl⟩
      rw [HF.out]
      go_wp2_with (go_at_call 18; refine (l_seals _).mono ?_; rintro e w4 ⟨rfl, hb4⟩)
      go_ret
      exact ⟨rfl, hB1.trans (hb4.mono hB1.size)⟩

/-! ### THE ROW's STEP: WRITTEN OUT: LEAVE IT -/
set_option maxRecDepth 100000 in
theorem lifted (os : Os) (started : os.Started) (H : Type) (enc : TypeId × Value → H) :
    ReturnsInHanded {} Try.checked os 6 .any (Rows.fnBelowsSpec.pre6 enc Try.prog Try.f6 Rows.fnBelowsRow.domain false) (Rows.fnBelowsSpec.post enc Try.prog Try.f6 false true false false) := by
  refine returnsInHanded_of_change_sized (C := Try.checked) own started (by kernel_rfl) Try.func6
    (ChangeSpec.witness6 (enc := enc) (C := Try.checked) false ⟨#[], #[.slice none 0 0], []⟩ 8 (by kernel_rfl) (by kernel_rfl) (by kernel_rfl) (by kernel_rfl)) ?_
  intro W base args ds gs before hval0 hW hcnd hsz0 _
  have hval : ∀ (j : Nat) t v, Try.f6.params[j]? = some t → args[j]? = some v → Value.okWide Try.prog W .any base t v := hval0
  have hW' := hW
  obtain ⟨p, q, hA0, hV, rfl, hfz, hnd⟩ := hW
  have hA : DataW.TrodAll enc Try.prog W 0 (fun _ => true) true Try.f6.params.toList args.toList ds p := hA0
  have hsz : (DataW.weightsEach Try.prog (Try.f6.params.toList ++ Rows.fnBelowsSpec.plain.varTypes Try.prog) (ds ++ gs)).all (· ≤ reachBytes) = true := hsz0
  rw [Try.params6] at hA hval hsz
  obtain ⟨v0, vs0, d0, ds0, p0, q0, hargs, rfl, rfl, h0, r0⟩ := trodAll_cons hA
  obtain ⟨rfl, rfl, rfl⟩ := trodAll_nil r0
  obtain rfl : args = #[v0] := by cases args; simp_all
  obtain ⟨rfl, rfl⟩ := trodVars_none hV
  obtain ⟨a0, len0, cap0, rfl⟩ := okWide_slice Try.underlying22 (hval 0 22 v0 rfl rfl)
  have k0 := h0
  have lt0 : ∀ x ∈ p0, x.block < W.heap.size := by obtain ⟨m, hm⟩ := k0; exact DataW.trod_lt m _ _ _ hm
  obtain ⟨z0, w0, r0⟩ : ∃ zs, IsRow .u8 W a0 len0 cap0 zs ∧ cap0 ≤ 140737488351232 := by
    obtain ⟨fuel, hf⟩ := h0
    rcases open_ints Try.underlying22 Try.underlying5 (by kernel_rfl) hf with ⟨hcs, _⟩ | ⟨x, l, c, zs, hcs, _, hl, hm, hz, hxx, hcell, hwz⟩
    · simp [Value.cells] at hcs
      obtain ⟨rfl, rfl, rfl⟩ := hcs
      exact ⟨[], .inl ⟨rfl, rfl, rfl, rfl⟩, by omega⟩
    · simp [Value.cells] at hcs
      obtain ⟨rfl, rfl, rfl⟩ := hcs
      have hz' : zs.length = cap0 := by simpa using hz
      refine ⟨zs, .inr ⟨_, rfl, hl, hm, hz', hcell, hwz⟩, ?_⟩
      simp only [Prod.mk.injEq] at hxx
      rw [hxx.1] at hsz
      have h := sized_slice hsz (j := 0) (t := 22) (e := 5) rfl rfl Try.underlying22
      rw [bytes5] at h
      simp only [lits, List.length_map, List.length_take, List.length_drop, reachBytes] at h
      omega
  clear hA0 hval0
  refine (walk a0 len0 cap0 z0 W w0 r0).mono fun e W' ⟨he, bel⟩ => ?_
  subst he
  exact ⟨_, rfl, _, _, _, [], _, [], hW', trodAll_mk1 (shut_bool Try.underlying4 _), (trodAll_cons_mk (Below.trod laidOut (by kernel_rfl) (of_decide_eq_true (by kernel_rfl)) k0 bel lt0) trodAll_mk0), rfl, bel.frame _, fun h => by cases h⟩

theorem over : Rows.fnBelowsRow.holds Try.pinned (OpenSpec.ofChange Rows.fnBelowsSpec) :=
  OpenClaim.holds_of_wide 6 Try.f6 rfl rfl rfl rfl rfl rfl rfl ⟨rfl, rfl, rfl, rfl, rfl⟩ rfl rfl rfl rfl rfl (by kernel_rfl) Try.func6 (by kernel_rfl)
    (of_decide_eq_true (by kernel_rfl)) (by unfold Func.isWrapper; first | (rw [if_pos (by decide +kernel)]; kernel_rfl) | (rw [if_neg (by decide +kernel)]; exact ⟨rfl, rfl⟩))
    (fun os started H enc _ => lifted os started H enc)

/-- ████ THE STATEMENT ████ -/
theorem proved : Rows.FnBelowsSaid := over
#print axioms proved
end Go.Proofs.Ytfjolhpimcmmlaa.fnBelows
