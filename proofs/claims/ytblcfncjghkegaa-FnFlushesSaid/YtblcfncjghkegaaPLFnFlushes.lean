/-
  For every draw: a pool goes whole, each cell once, or not at all. No further condition.
-/
import Derived.Test.YtblcfncjghkegaaPGo
import Derived.Test.YtblcfncjghkegaaPGq
import Derived.Test.YtblcfncjghkegaaPGv
import Derived.Test.YtblcfncjghkegaaRows
import Derived.Below
import Derived.ChangeOld
import Derived.OpenShut
import Derived.ProofKit
import Derived.ShutString
import Derived.SizedLaws
import Derived.WalkKit
namespace Go.Proofs.Ytblcfncjghkegaa.fnFlushes
open Go.ChangeShapes Go.WideShapes Go.ChangeAt Go.RowKit
open Go.ChangeMaps (open_string shut_string)
set_option linter.unusedVariables false

theorem bytes5 : Try.prog.bytesOf 5 = 1 := by kernel_rfl
open Go.Proofs.Ytblcfncjghkegaa Fld
theorem own : ownKnob Try.prog.godebug = none := by kernel_rfl
theorem laidOut : laidOutB Try.prog = true := by kernel_rfl

/-- WHAT THE WALK IS TOLD OF A SLICE OF INTEGERS THAT CAME IN: it is nil; or it leads to a row of 'cap' cells, the numbers 'zs' (the first 'len' are its elements, the rest its spare room), each fitting its kind. -/
def IsRow (k : IntKind) (w : World) (a : Option Addr) (len cap : Nat) (zs : List Int) : Prop :=
  (a = none ∧ len = 0 ∧ cap = 0 ∧ zs = []) ∨
  ∃ x, a = some x ∧ len ≤ cap ∧ cap ≤ maxLen ∧ zs.length = cap ∧ (∀ i, i < zs.length → w.cell? (x.add i) = some (.int k (zs.getD i 0))) ∧ ∀ n ∈ zs, (Lit.int k n).wf = true

theorem rowInts {w : World} {a : Option Addr} {n c : Nat} {zs : List Int} (h : IsRow .u8 w a n c zs) : Ints .u8 w w.heap.size a n (zs.take n) ∧ n ≤ c := by
  rcases h with ⟨rfl, rfl, rfl, rfl⟩ | ⟨x, rfl, hl, _, hz, hc, hw⟩
  · exact ⟨Ints.nil, Nat.le_refl _⟩
  · exact ⟨Ints.ofRow (by omega) hc hw, hl⟩
theorem poolShape {w : World} {B : Nat} {v0 v1 : Value} {p : DPool} (h : tPool.R w B [v0, v1] p) : ∃ A0 c0 A1 c1, v0 = .slice A0 p.1.length c0 ∧ v1 = .slice A1 p.2.length c1 := by
  obtain ⟨A0, n0, c0, A1, n1, c1, e, -, -, h0, -, -, -, h1, -⟩ := openPool h
  simp only [List.cons.injEq, and_true] at e
  exact ⟨A0, c0, A1, c1, by rw [e.1, h0], by rw [e.2, h1]⟩
theorem cellsShape {w : World} {B : Nat} {cs : List Value} {p : DPool} (h : tPool.R w B cs p) : ∃ A0 c0 A1 c1, cs = [.slice A0 p.1.length c0, .slice A1 p.2.length c1] := by
  obtain ⟨A0, n0, c0, A1, n1, c1, rfl, -, -, h0, -, -, -, h1, -⟩ := openPool h
  exact ⟨A0, c0, A1, c1, by rw [h0, h1]⟩
theorem info_cB : (Try.prog.info? 4).map (fun i => (i.zero, i.size, i.bytes)) = some (some (.bool false), 1, 1) := by kernel_rfl
theorem own_RF {K : IntKind} {e : TypeId} {w : World} {base n c : Nat} {A : Option Addr} {l : List Int} (h : Own K e w base (.slice A n c) l) : (tSl K).R w w.heap.size [.slice A n c] l := by
  obtain ⟨F, hF, -⟩ := h.tSl
  exact (tSl K).read hF
theorem own_AF {K : IntKind} {e : TypeId} {w : World} {base n c : Nat} {A : Option Addr} {l : List Int} (h : Own K e w base (.slice A n c) l) : (A = none ∧ c = 0) ∨ ∃ b off, A = some ⟨b, off, none⟩ := by
  rcases h.1.2 with ⟨e1, _⟩ | ⟨g, cap, cur, e1, _⟩
  · injection e1 with h1 _ h3; exact .inl ⟨h1, h3⟩
  · injection e1 with h1 _ _; exact .inr ⟨g, 0, h1⟩
/-- What of l is not taken yet. -/
def fr : List DHeld → (Nat → Bool) → List DHeld
  | [], _ => []
  | a :: l, U => if U 0 then fr l (fun t => U (t + 1)) else a :: fr l (fun t => U (t + 1))
theorem fr_cons (a : DHeld) (l : List DHeld) (U : Nat → Bool) : fr (a :: l) U = if U 0 = true then fr l (fun t => U (t + 1)) else a :: fr l (fun t => U (t + 1)) := rfl
theorem fr_none (l : List DHeld) : fr l (fun _ => false) = l := by
  induction l with
  | nil => rfl
  | cons a l ih => unfold fr; rw [if_neg (by simp)]; exact congrArg _ ih
theorem fr_mem {l : List DHeld} {U : Nat → Bool} {c : DHeld} (h : c ∈ fr l U) : ∃ t, t < l.length ∧ U t = false ∧ l[t]? = some c := by
  induction l generalizing U with
  | nil => cases h
  | cons a l ih =>
    unfold fr at h
    cases hu : U 0 with
    | true =>
      rw [hu, if_pos rfl] at h
      obtain ⟨t, h0, h1, h2⟩ := ih h
      exact ⟨t + 1, by rw [List.length_cons]; omega, h1, h2⟩
    | false =>
      rw [hu, if_neg (by simp)] at h
      rcases List.mem_cons.mp h with e | e
      · exact ⟨0, by rw [List.length_cons]; omega, hu, by rw [e]; rfl⟩
      · obtain ⟨t, h0, h1, h2⟩ := ih e
        exact ⟨t + 1, by rw [List.length_cons]; omega, h1, h2⟩
def tak (U : Nat → Bool) (k : Nat) : Nat → Bool := fun t => if t = k then true else U t
theorem fr_tak {l : List DHeld} {U : Nat → Bool} {k : Nat} {c : DHeld} (hu : U k = false) (hk : l[k]? = some c) : (c :: fr l (tak U k)).Perm (fr l U) := by
  induction l generalizing U k with
  | nil => cases hk
  | cons a l ih =>
    cases k with
    | zero =>
      have hc : a = c := by simpa using hk
      subst hc
      have e0 : tak U 0 0 = true := by simp [tak]
      have e1 : (fun t => tak U 0 (t + 1)) = fun t => U (t + 1) := by funext t; simp [tak]
      rw [show fr (a :: l) (tak U 0) = fr l (fun t => tak U 0 (t + 1)) from by rw [fr_cons, if_pos e0], show fr (a :: l) U = a :: fr l (fun t => U (t + 1)) from by rw [fr_cons, if_neg (by rw [hu]; simp)], e1]
    | succ k =>
      have h1 := ih (U := fun t => U (t + 1)) (k := k) hu (by simpa using hk)
      have h2 : (fun t => tak U (k + 1) (t + 1)) = tak (fun t => U (t + 1)) k := by funext t; simp [tak]
      have h3 : tak U (k + 1) 0 = U 0 := by simp [tak]
      unfold fr
      rw [h2, h3]
      cases U 0 with
      | true => exact h1
      | false => exact (List.Perm.swap a c _).trans (h1.cons a)
theorem pmut_perm {l : List DHeld} {L : List Int} (h : L.Perm (iota l.length)) : (pmut l L).Perm l := by
  have h1 := h.map (fun i => (l[i.toNat]?).getD hdZ)
  have h2 : (iota l.length).map (fun i => (l[i.toNat]?).getD hdZ) = l := by
    refine List.ext_getElem (by rw [List.length_map, iota_len]) fun i h3 h4 => ?_
    have h5 : (iota l.length)[i]'(by rw [iota_len]; exact h4) = (i : Int) := by rw [← getD_lt]; exact iota_at h4
    rw [List.getElem_map, h5, Int.toNat_natCast, List.getElem?_eq_getElem h4]
    rfl
  rw [h2] at h1
  exact h1
theorem drop_cons {l : List DHeld} {j : Nat} {c : DHeld} (h : l[j]? = some c) : l.drop j = c :: l.drop (j + 1) := by
  obtain ⟨h1, h2⟩ := List.getElem?_eq_some_iff.mp h
  rw [List.drop_eq_getElem_cons h1, h2]

/-! ### STEP 1: THE WALK: the Go text returns true, AND WRITES NOTHING THAT WAS THERE: 'Below w.heap.size w w'' (Derived/Below.lean: '.refl', '.alloc', '.drew', '.setCell' at a new block, '.trans'). Open each 'IsRow' by 'rcases' AHEAD of 'go_enter'; part every test ahead of the walk. -/
set_option maxRecDepth 100000 in
set_option maxHeartbeats 2000000 in
theorem walk (a0 : Option Addr) (len0 cap0 : Nat) (z0 : List Int) (w : World) (w0 : IsRow .u8 w a0 len0 cap0 z0) (r0 : cap0 ≤ 140737488351232) :
    Calls Try.prog 5 #[.slice a0 len0 cap0] w fun e w' => e = .returned (.bool true) ∧ Below w.heap.size w w' := by
  obtain ⟨hl, hn⟩ := rowInts w0
  go_enter Try.func5, Try.ntmps5
  go_wp2_with fail
  refine (d_Flush hl (by omega)).mono ?_
  rintro e w1 ⟨v0, v1, p, x, vd, dd, rfl, hP, hS, hxr, hO, hdl, hB1⟩
  obtain ⟨A0, a0, A1, a1, rfl, rfl⟩ := poolShape hP
  obtain ⟨n0, hn0⟩ : ∃ m, p.1.length = m := ⟨_, rfl⟩
  obtain ⟨n1, hn1⟩ : ∃ m, p.2.length = m := ⟨_, rfl⟩
  have N0 := Lib.hid hn0
  have N1 := Lib.hid hn1
  rw [hn0, hn1] at hP ⊢
  clear hn0 hn1
  have hz := hS.sz
  have m0 : p.1.length ≤ 13 := hS.1
  have m1 : p.2.length ≤ 60 := hS.2.1
  rw [N0.out] at m0
  rw [N1.out] at m1
  obtain ⟨A3, c3, rfl, -⟩ := hO.shape
  have hA3 := own_AF hO
  have hby := ints_byI (Own.intsAt hO).1
  have hD := own_RF hO
  have HBY := Lib.hid hby
  obtain ⟨n3, hn3⟩ : ∃ m, dd.length = m := ⟨_, rfl⟩
  have N3 := Lib.hid hn3
  rw [hn3] at hD hdl ⊢
  have V1 : Box (w1.alloc (.cells #[.slice A0 n0 a0, .slice A1 n1 a1] 26)) w1.heap.size 26 #[.slice A0 n0 a0, .slice A1 n1 a1] := Box.new _ _ _
  have hx1 : Below w1.heap.size w1 (w1.alloc (.cells #[.slice A0 n0 a0, .slice A1 n1 a1] 26)) := bel_alloc (Below.refl _ _) _
  have hP := tPool.reach hP hx1
  have hD := tBy.reach hD hx1
  have hB2 := bel_trans hB1 hx1
  have hwx : (Lit.int .i64 x).wf = true := WalkArith.wf_i64 ⟨by omega, by omega⟩
  have k0 := V1.cell 0
  have k1 := V1.cell 1
  clear hn3 hby hO
  go_wp2_with fail
  refine (i_Flush hP hz hwx hD (by rw [N3.out]; omega) hA3).mono ?_
  rintro e w2 ⟨cs2, A5, c5, F5, G5, rfl, hO5, hR5, -, hb2⟩
  have hX := tPool.read hO5
  have hL := tHeld.row.read hR5
  obtain ⟨D0, d0, D1, d1, rfl⟩ := cellsShape hX
  clear hO5 hR5 hA3
  have hP := tPool.reach hP hb2
  have V1 := V1.below hb2 V1.size
  have hB3 := bel_trans hB2 hb2
  clear k0 k1
  by_cases hf : FlOk p x
  rotate_left
  · obtain ⟨e1, e2, e3⟩ := fl_bad (d := dd) hf
    rw [e1, e2, e3]
    rw [show plZ.1.length = 0 from rfl, show plZ.2.length = 0 from rfl, show ([] : List DHeld).length = 0 from rfl]
    clear e1 e2 e3 hf hX hL
    go_wp2_with fail
    refine (l_pools _).mono ?_
    rintro e w9 ⟨rfl, hb9⟩
    go_wp2_with fail
    go_ret
    exact ⟨rfl, bel_trans (bel_alloc hB3 _) hb9⟩
  · have HPO := Lib.hid hf.1
    have hn12 : p.1.length ≤ 12 := hf.1.1.1
    rw [N0.out] at hn12
    have same_ : ∀ N : Int, fFlP p x dd = p → fFlL p x dd = [] → fFlN p x dd = N → True := fun _ _ _ _ => trivial
    by_cases hfew : (p.1.length : Int) < x
    · obtain ⟨e1, e2, e3⟩ := fl_few (d := dd) hf hfew
      rw [e1] at hX
      rw [e1, e2, e3]
      rw [N0.out, N1.out] at hX
      rw [N0.out, N1.out, show ([] : List DHeld).length = 0 from rfl]
      rw [N0.out] at hfew
      have hdf : decide ((n0 : Int) < x) = true := decide_eq_true hfew
      clear e1 e2 e3 hf hL same_
      have hx2 : Below w2.heap.size w2 (w2.alloc (.cells #[.slice D0 n0 d0, .slice D1 n1 d1] 26)) := bel_alloc (Below.refl _ _) _
      have hXs := tPool.reach hX hx2
      have hPs := tPool.reach hP hx2
      have hB6 := bel_trans hB3 hx2
      have V1 := V1.alloc (.cells #[.slice D0 n0 d0, .slice D1 n1 d1] 26)
      have k0 := V1.cell 0
      have k1 := V1.cell 1
      go_wp2_with fail
      refine (l_samePool hXs hPs HPO.out).mono ?_
      rintro e w8 ⟨rfl, hb8⟩
      have hB8 := bel_trans hB6 hb8
      have V1 := V1.below hb8 V1.size
      have j0 := V1.cell 0
      go_wp2_with fail
      refine (l_pools _).mono ?_
      rintro e w9 ⟨rfl, hb9⟩
      go_wp2_with fail
      go_ret
      exact ⟨rfl, bel_trans hB8 hb9⟩
    · cases hs : shuf dd (p.1.length - 1) (iota p.1.length) 0 with
      | none =>
        obtain ⟨e1, e2, e3⟩ := fl_no hf hfew hs
        rw [e1] at hX
        rw [e1, e2, e3]
        rw [N0.out, N1.out] at hX
        rw [N0.out, N1.out, show ([] : List DHeld).length = 0 from rfl]
        rw [N0.out] at hfew
        have hdf : decide ((n0 : Int) < x) = false := decide_eq_false hfew
        clear e1 e2 e3 hf hL same_ hs
        have hx2 : Below w2.heap.size w2 (w2.alloc (.cells #[.slice D0 n0 d0, .slice D1 n1 d1] 26)) := bel_alloc (Below.refl _ _) _
        have hXs := tPool.reach hX hx2
        have hPs := tPool.reach hP hx2
        have hB6 := bel_trans hB3 hx2
        have V1 := V1.alloc (.cells #[.slice D0 n0 d0, .slice D1 n1 d1] 26)
        have k0 := V1.cell 0
        have k1 := V1.cell 1
        go_wp2_with fail
        refine (l_samePool hXs hPs HPO.out).mono ?_
        rintro e w8 ⟨rfl, hb8⟩
        have hB8 := bel_trans hB6 hb8
        have V1 := V1.below hb8 V1.size
        have j0 := V1.cell 0
        go_wp2_with fail
        refine (l_pools _).mono ?_
        rintro e w9 ⟨rfl, hb9⟩
        go_wp2_with fail
        go_ret
        exact ⟨rfl, bel_trans hB8 hb9⟩
      | some q =>
        obtain ⟨LL, U0⟩ := q
        obtain ⟨e1, e2, e3⟩ := fl_yes hf hfew hs
        have hpm := pmut_perm (shuf_all HBY.out hs).1
        have hU0 := (shuf_all HBY.out hs).2.2
        rw [N3.out] at hU0
        rw [e1] at hX
        rw [e2] at hL
        rw [e1, e2, e3]
        obtain ⟨L, hLq⟩ : ∃ L, pmut p.1 LL = L := ⟨_, rfl⟩
        rw [hLq] at hL hpm ⊢
        have hLl : L.length = n0 := by rw [hpm.length_eq, N0.out]
        rw [hLl] at hL ⊢
        have HLL := Lib.hid hLl
        rw [show (([], p.2) : DPool).1.length = 0 from rfl, show (([], p.2) : DPool).2.length = n1 from N1.out] at hX ⊢
        rw [N0.out] at hfew
        have hx1 := hf.2.1
        have HPM := Lib.hid hpm
        clear e1 e2 e3 hf hLq hs hpm hLl same_
        have hx2 : Below w2.heap.size w2 (w2.alloc (.cells #[.slice D0 0 d0, .slice D1 n1 d1] 26)) := bel_alloc (Below.refl _ _) _
        have hX := tPool.reach hX hx2
        have hP := tPool.reach hP hx2
        have hL := tHeld.row.reach hL hx2
        have hB4 := bel_trans hB3 hx2
        have V1 := V1.alloc (.cells #[.slice D0 0 d0, .slice D1 n1 d1] 26)
        have V2 : Box (w2.alloc (.cells #[.slice D0 0 d0, .slice D1 n1 d1] 26)) w2.heap.size 26 #[.slice D0 0 d0, .slice D1 n1 d1] := Box.new _ _ _
        have k0 := V1.cell 0
        have k1 := V1.cell 1
        have k2 := V2.cell 0
        have k3 := V2.cell 1
        have hun : ((U0 : Int) == -2) = false := by first | (simp; done) | (simp; omega)
        have hnz : ((n0 : Int) == 0) = false := by first | (simp; done) | (simp; omega)
        have hnn : ((n0 : Int) != (n0 : Int)) = false := by simp
        have hdf : decide ((n0 : Int) < x) = false := decide_eq_false hfew
        have hdu : decide ((n3 : Int) < (U0 : Int)) = false := decide_eq_false (by omega)
        clear hx2
        go_wp2_with fail
        obtain ⟨w3, hw3⟩ : ∃ w3, w2.alloc (.cells #[.slice D0 0 d0, .slice D1 n1 d1] 26) = w3 := ⟨_, rfl⟩
        rw [hw3] at hX hP hL hB4 V1 ⊢
        clear hw3 V2 k0 k1 k2 k3
        obtain ⟨_, _, _, _, _, _, ea, -, -, -, -, -, -, -, htX⟩ := openPool hX
        simp only [List.cons.injEq, Value.slice.injEq, and_true] at ea
        obtain ⟨⟨rfl, rfl, rfl⟩, ⟨rfl, rfl, rfl⟩⟩ := ea
        obtain ⟨_, _, _, _, _, _, ea, -, -, -, hrP, -, -, -, htP⟩ := openPool hP
        simp only [List.cons.injEq, Value.slice.injEq, and_true] at ea
        obtain ⟨⟨rfl, rfl, rfl⟩, ⟨rfl, rfl, rfl⟩⟩ := ea
        refine (l_sameInts (slR_ints htX).1 (slR_ints htP).1 (by unfold maxLen; omega) (by unfold maxLen; omega)).mono ?_
        rintro e wu ⟨rfl, hbu⟩
        rw [show decide (p.2 = p.2) = true from by simp]
        have hrP := tHeld.row.reach hrP hbu
        have hL := tHeld.row.reach hL hbu
        have V1 := V1.below hbu V1.size
        have hB5 := bel_trans hB4 hbu
        have k0 := V1.cell 0
        clear htX htP hX hP hbu
        obtain ⟨i0, hi0, hz0, hz1, hz2⟩ := info_parts info_cB
        go_wp2_with (at_make; refine wpList_mk _ rfl _ _ _ rfl 4 i0 _ Try.underlying49 hi0 hz0 rfl hz1 n0 rfl rfl (by rw [hz2]; omega) (by simp only [maxLen]; omega) ?_; intro w4 hrow hb4 hsz)
        have hP0 := V1.cell 0
        clear k0
        go_loopw [10] (fun iv wo => ∃ (i : Nat) (U : Nat → Bool), iv = .int .i64 i ∧ i ≤ n0 ∧ wo.rowIs wu.heap.size 4 n0 (fun t => .bool (U t)) ∧ (fr p.1 U).Perm (L.drop i) ∧ Below wu.heap.size wu wo) (fun iv _ => n0 - (intOf iv).toNat)
        case atStart => exact ⟨0, fun _ => false, rfl, by omega, hrow, by rw [fr_none]; exact HPM.out.symm, hb4⟩
        case round =>
          obtain ⟨i, U, rfl, hi, hU0, hpmU, hbr0⟩ := hrel
          by_cases hlt : i < n0
          · obtain ⟨hc, hl1⟩ : ∃ c, L[i]? = some c := ⟨_, List.getElem?_eq_getElem (by rw [HLL.out]; exact hlt)⟩
            rw [drop_cons hl1] at hpmU
            have HDR := Lib.hid hpmU
            have HEX := Lib.hid (fr_mem (hpmU.mem_iff.mpr List.mem_cons_self))
            have HL1 := Lib.hid hl1
            have hwi : IntKind.i64.wrap ((i : Int) + 1) = ((i + 1 : Nat) : Int) := IntWalk.i64_in _ (by omega)
            have hi0 : (0 : Int) ≤ (i : Int) := by omega
            have hin : (i : Int) < (n0 : Int) := by omega
            have hdi : decide ((i : Int) < (n0 : Int)) = true := decide_eq_true hin
            clear hpmU hl1
            go_wp2_with fail
            go_loopw [11, 12] (fun fv kv wr => ∃ (j : Nat) (U2 : Nat → Bool), kv = .int .i64 j ∧ j ≤ n0 ∧ wr.rowIs wu.heap.size 4 n0 (fun t => .bool (U2 t)) ∧ Below wu.heap.size wu wr ∧ ((fv = .bool false ∧ U = U2 ∧ ∀ t, t < j → ¬ (U t = false ∧ p.1[t]? = some hc)) ∨ (fv = .bool true ∧ (hc :: fr p.1 U2).Perm (fr p.1 U)))) (fun _ kv _ => n0 - (intOf kv).toNat)
            case atStart => exact ⟨0, U, rfl, by omega, hU0, hbr0, .inl ⟨rfl, rfl, fun t ht => absurd ht (by omega)⟩⟩
            case round =>
              obtain ⟨j, U2, rfl, hj, hU, hbr, hcase⟩ := hrel
              have Vr := V1.below hbr V1.size
              have k0 := Vr.cell 0
              rcases hcase with ⟨rfl, rfl, hno⟩ | ⟨rfl, hfd⟩
              · by_cases hlt2 : j < n0
                · obtain ⟨hc2, bl, ol, es, hl2, rfl, -, hes, hRa⟩ := rowR_at (K := 3) (tHeld.row.reach hL hbr) hlt rfl
                  obtain rfl : hc = hc2 := by rw [HL1.out] at hl2; injection hl2
                  obtain ⟨hb, bx, ox, es2, hk2, rfl, -, hes2, hRb⟩ := rowR_at (K := 3) (tHeld.row.reach hrP hbr) hlt2 rfl
                  obtain ⟨AC, nC, cC, rfl, -, -, -, -, -, rA⟩ := openHeld hRa
                  obtain ⟨AE, nE, cE, rfl, -, -, -, -, -, rB⟩ := openHeld hRb
                  have s0 := Vr.cell 0
                  have sU := hU.cell hlt2
                  have s2 : wr.cell? ⟨bl, ol + i * 3, none⟩ = some (.int .i64 hc.1) := hes 0 (by omega)
                  have s3 : wr.cell? ⟨bl, ol + i * 3 + 1, none⟩ = some (.int .i64 hc.2.1) := hes 1 (by omega)
                  have s4 : wr.cell? ⟨bl, ol + i * 3 + 2, none⟩ = some (.slice AC nC cC) := hes 2 (by omega)
                  have s5 : wr.cell? ⟨bx, ox + j * 3, none⟩ = some (.int .i64 hb.1) := hes2 0 (by omega)
                  have s6 : wr.cell? ⟨bx, ox + j * 3 + 1, none⟩ = some (.int .i64 hb.2.1) := hes2 1 (by omega)
                  have s7 : wr.cell? ⟨bx, ox + j * 3 + 2, none⟩ = some (.slice AE nE cE) := hes2 2 (by omega)
                  have hj0 : (0 : Int) ≤ (j : Int) := by omega
                  have hjn : (j : Int) < (n0 : Int) := by omega
                  have hdj : decide ((j : Int) < (n0 : Int)) = true := decide_eq_true hjn
                  have hwj : IntKind.i64.wrap ((j : Int) + 1) = ((j + 1 : Nat) : Int) := IntWalk.i64_in _ (by omega)
                  have hnext : ¬ (U j = false ∧ p.1[j]? = some hc) → ∀ t, t < j + 1 → ¬ (U t = false ∧ p.1[t]? = some hc) := fun h t ht => by
                    by_cases e : t = j
                    · rw [e]; exact h
                    · exact hno t (by omega)
                  clear hl2 hes hes2 hRa hRb hno
                  cases hu : U j with
                  | true =>
                    have HNX := Lib.hid (hnext (by rw [hu]; simp))
                    rw [hu] at sU
                    have s1 := sU
                    clear sU hu hk2 hnext
                    have hk : ∀ W, Below wr.heap.size wr W → (fun w' => w'.cell? ⟨w1.heap.size, 0, none⟩ = some (.slice (some ⟨bx, ox, none⟩) n0 a0) ∧ w'.cell? ⟨wu.heap.size, j, none⟩ = some (.bool true) ∧ w'.cell? ⟨bl, ol + i * 3, none⟩ = some (.int .i64 hc.1) ∧ w'.cell? ⟨bl, ol + i * 3 + 1, none⟩ = some (.int .i64 hc.2.1) ∧ w'.cell? ⟨bl, ol + i * 3 + 2, none⟩ = some (.slice AC nC cC) ∧ w'.cell? ⟨bx, ox + j * 3, none⟩ = some (.int .i64 hb.1) ∧ w'.cell? ⟨bx, ox + j * 3 + 1, none⟩ = some (.int .i64 hb.2.1) ∧ w'.cell? ⟨bx, ox + j * 3 + 2, none⟩ = some (.slice AE nE cE)) W := fun W hW => ⟨cell_bel hW s0, cell_bel hW s1, cell_bel hW s2, cell_bel hW s3, cell_bel hW s4, cell_bel hW s5, cell_bel hW s6, cell_bel hW s7⟩
                    go_wp2_with fail
                    refine wp_region_held_drew (S := (fun w' => w'.cell? ⟨w1.heap.size, 0, none⟩ = some (.slice (some ⟨bx, ox, none⟩) n0 a0) ∧ w'.cell? ⟨wu.heap.size, j, none⟩ = some (.bool true) ∧ w'.cell? ⟨bl, ol + i * 3, none⟩ = some (.int .i64 hc.1) ∧ w'.cell? ⟨bl, ol + i * 3 + 1, none⟩ = some (.int .i64 hc.2.1) ∧ w'.cell? ⟨bl, ol + i * 3 + 2, none⟩ = some (.slice AC nC cC) ∧ w'.cell? ⟨bx, ox + j * 3, none⟩ = some (.int .i64 hb.1) ∧ w'.cell? ⟨bx, ox + j * 3 + 1, none⟩ = some (.int .i64 hb.2.1) ∧ w'.cell? ⟨bx, ox + j * 3 + 2, none⟩ = some (.slice AE nE cE))) (by kernel_rfl) (by exact hk _ (belx)) (fun hHeld => ?_)
                    refine wpAnyH_take (i := 0) (oi := ⟨some 113, _, _, _, _, _⟩) (v := ?v208) rfl (by kernel_rfl) (by kernel_rfl) (by kernel_rfl) (fun _ _ _ h => h) (Or.inl ⟨by rfl, ?hy208⟩) (by assumption) ?_
                    case hy208 => (intro w hSw; (try dsimp only at hSw); go_simp; try (with_reducible rfl))
                    (try simp only [Act.put, qa_, qb_, qc_])
                    refine wpAnyH_take (i := 1) (oi := ⟨some 114, _, _, _, _, _⟩) (v := ?v209) rfl (by kernel_rfl) (by kernel_rfl) (by kernel_rfl) (fun _ _ _ h => h) (Or.inl ⟨by rfl, ?hy209⟩) (by assumption) ?_
                    case hy209 => (intro w hSw; (try dsimp only at hSw); go_simp; try (with_reducible rfl))
                    (try simp only [Act.put, qa_, qb_, qc_])
                    refine wpAnyH_take (i := 2) (oi := ⟨some 115, _, _, _, _, _⟩) (v := ?v210) rfl (by kernel_rfl) (by kernel_rfl) (by kernel_rfl) (fun _ _ _ h => h) (Or.inl ⟨by rfl, ?hy210⟩) (by assumption) ?_
                    case hy210 => (intro w hSw; (try dsimp only at hSw); go_simp; try (with_reducible rfl))
                    (try simp only [Act.put, qa_, qb_, qc_])
                    refine wpAnyH_take (i := 3) (oi := ⟨some 116, _, _, _, _, _⟩) (v := ?v211) rfl (by kernel_rfl) (by kernel_rfl) (by kernel_rfl) (fun _ _ _ h => h) (Or.inl ⟨by rfl, ?hy211⟩) (by assumption) ?_
                    case hy211 => (intro w hSw; (try dsimp only at hSw); go_simp; try (with_reducible rfl))
                    (try simp only [Act.put, qa_, qb_, qc_])
                    refine wpAnyH_take (i := 4) (oi := ⟨some 117, _, _, _, _, _⟩) (v := ?v212) rfl (by kernel_rfl) (by kernel_rfl) (by kernel_rfl) (fun _ _ _ h => h) (Or.inl ⟨by rfl, ?hy212⟩) (by assumption) ?_
                    case hy212 => (intro w hSw; (try dsimp only at hSw); go_simp; try (with_reducible rfl))
                    (try simp only [Act.put, qa_, qb_, qc_])
                    refine wpAnyH_take (i := 5) (oi := ⟨some 118, _, _, _, _, _⟩) (v := ?v213) rfl (by kernel_rfl) (by kernel_rfl) (by kernel_rfl) (fun _ _ _ h => h) (Or.inl ⟨by rfl, ?hy213⟩) (by assumption) ?_
                    case hy213 => (intro w hSw; (try dsimp only at hSw); go_simp; try (with_reducible rfl))
                    (try simp only [Act.put, qa_, qb_, qc_])
                    refine wpAnyH_take (i := 6) (oi := ⟨some 119, _, _, _, _, _⟩) (v := undef) rfl (by kernel_rfl) (by kernel_rfl) (by kernel_rfl) (fun _ _ _ h => h) (Or.inr ⟨by rfl, rfl⟩) (by assumption) ?_
                    (try simp only [Act.put, qa_, qb_, qc_])
                    refine wpAnyH_take (i := 7) (oi := ⟨some 120, _, _, _, _, _⟩) (v := undef) rfl (by kernel_rfl) (by kernel_rfl) (by kernel_rfl) (fun _ _ _ h => h) (Or.inr ⟨by rfl, rfl⟩) (by assumption) ?_
                    (try simp only [Act.put, qa_, qb_, qc_])
                    refine wpAnyH_take (i := 8) (oi := ⟨some 121, _, _, _, _, _⟩) (v := undef) rfl (by kernel_rfl) (by kernel_rfl) (by kernel_rfl) (fun _ _ _ h => h) (Or.inr ⟨by rfl, rfl⟩) (by assumption) ?_
                    (try simp only [Act.put, qa_, qb_, qc_])
                    refine wpAnyH_take (i := 9) (oi := ⟨some 122, _, _, _, _, _⟩) (v := undef) rfl (by kernel_rfl) (by kernel_rfl) (by kernel_rfl) (fun _ _ _ h => h) (Or.inr ⟨by rfl, rfl⟩) (by assumption) ?_
                    (try simp only [Act.put, qa_, qb_, qc_])
                    refine wpAnyH_take (i := 10) (oi := ⟨some 123, _, _, _, _, _⟩) (v := undef) rfl (by kernel_rfl) (by kernel_rfl) (by kernel_rfl) (fun _ _ _ h => h) (Or.inr ⟨by rfl, rfl⟩) (by assumption) ?_
                    (try simp only [Act.put, qa_, qb_, qc_])
                    refine wpAnyH_take (i := 11) (oi := ⟨some 124, _, _, _, _, _⟩) (v := undef) rfl (by kernel_rfl) (by kernel_rfl) (by kernel_rfl) (fun _ _ _ h => h) (Or.inr ⟨by rfl, rfl⟩) (by assumption) ?_
                    (try simp only [Act.put, qa_, qb_, qc_])
                    refine wpAnyH_take (i := 12) (oi := ⟨some 125, _, _, _, _, _⟩) (v := undef) rfl (by kernel_rfl) (by kernel_rfl) (by kernel_rfl) (fun _ _ _ h => h) (Or.inr ⟨by rfl, rfl⟩) (by assumption) ?_
                    (try simp only [Act.put, qa_, qb_, qc_])
                    refine wpAnyH_take (i := 13) (oi := ⟨some 126, _, _, _, _, _⟩) (v := undef) rfl (by kernel_rfl) (by kernel_rfl) (by kernel_rfl) (fun _ _ _ h => h) (Or.inr ⟨by rfl, rfl⟩) (by assumption) ?_
                    (try simp only [Act.put, qa_, qb_, qc_])
                    refine wpAnyH_take (i := 14) (oi := ⟨some 127, _, _, _, _, _⟩) (v := undef) rfl (by kernel_rfl) (by kernel_rfl) (by kernel_rfl) (fun _ _ _ h => h) (Or.inr ⟨by rfl, rfl⟩) (by assumption) ?_
                    (try simp only [Act.put, qa_, qb_, qc_])
                    refine wpAnyH_take (i := 15) (oi := ⟨some 128, _, _, _, _, _⟩) (v := undef) rfl (by kernel_rfl) (by kernel_rfl) (by kernel_rfl) (fun _ _ _ h => h) (Or.inr ⟨by rfl, rfl⟩) (by assumption) ?_
                    (try simp only [Act.put, qa_, qb_, qc_])
                    refine wpAnyH_take (i := 16) (oi := ⟨some 129, _, _, _, _, _⟩) (v := undef) rfl (by kernel_rfl) (by kernel_rfl) (by kernel_rfl) (fun _ _ _ h => h) (Or.inr ⟨by rfl, rfl⟩) (by assumption) ?_
                    (try simp only [Act.put, qa_, qb_, qc_])
                    refine wpAnyH_take (i := 17) (oi := ⟨some 130, _, _, _, _, _⟩) (v := undef) rfl (by kernel_rfl) (by kernel_rfl) (by kernel_rfl) (fun _ _ _ h => h) (Or.inr ⟨by rfl, rfl⟩) (by assumption) ?_
                    (try simp only [Act.put, qa_, qb_, qc_])
                    refine wpAnyH_take (i := 18) (oi := ⟨some 131, _, _, _, _, _⟩) (v := ?v214) rfl (by kernel_rfl) (by kernel_rfl) (by kernel_rfl) (fun _ _ _ h => h) (Or.inl ⟨by rfl, ?hy214⟩) (by assumption) ?_
                    case hy214 => (intro w hSw; (try dsimp only at hSw); go_simp; try (with_reducible rfl))
                    (try simp only [Act.put, qa_, qb_, qc_])
                    refine wpAnyH_take (i := 19) (oi := ⟨some 132, _, _, _, _, _⟩) (v := ?v215) rfl (by kernel_rfl) (by kernel_rfl) (by kernel_rfl) (fun _ _ _ h => h) (Or.inl ⟨by rfl, ?hy215⟩) (by assumption) ?_
                    case hy215 => (intro w hSw; (try dsimp only at hSw); go_simp; try (with_reducible rfl))
                    (try simp only [Act.put, qa_, qb_, qc_])
                    refine wpAnyH_take (i := 20) (oi := ⟨some 133, _, _, _, _, _⟩) (v := undef) rfl (by kernel_rfl) (by kernel_rfl) (by kernel_rfl) (fun _ _ _ h => h) (Or.inr ⟨by rfl, rfl⟩) (by assumption) ?_
                    (try simp only [Act.put, qa_, qb_, qc_])
                    refine wpAnyH_take (i := 21) (oi := ⟨some 134, _, _, _, _, _⟩) (v := undef) rfl (by kernel_rfl) (by kernel_rfl) (by kernel_rfl) (fun _ _ _ h => h) (Or.inr ⟨by rfl, rfl⟩) (by assumption) ?_
                    (try simp only [Act.put, qa_, qb_, qc_])
                    refine wpAnyH_take (i := 22) (oi := ⟨some 135, _, _, _, _, _⟩) (v := undef) rfl (by kernel_rfl) (by kernel_rfl) (by kernel_rfl) (fun _ _ _ h => h) (Or.inr ⟨by rfl, rfl⟩) (by assumption) ?_
                    (try simp only [Act.put, qa_, qb_, qc_])
                    refine wpAnyH_take (i := 23) (oi := ⟨some 136, _, _, _, _, _⟩) (v := undef) rfl (by kernel_rfl) (by kernel_rfl) (by kernel_rfl) (fun _ _ _ h => h) (Or.inr ⟨by rfl, rfl⟩) (by assumption) ?_
                    (try simp only [Act.put, qa_, qb_, qc_])
                    refine wpAnyH_take (i := 24) (oi := ⟨some 137, _, _, _, _, _⟩) (v := undef) rfl (by kernel_rfl) (by kernel_rfl) (by kernel_rfl) (fun _ _ _ h => h) (Or.inr ⟨by rfl, rfl⟩) (by assumption) ?_
                    (try simp only [Act.put, qa_, qb_, qc_])
                    refine wpAnyH_take (i := 25) (oi := ⟨some 138, _, _, _, _, _⟩) (v := undef) rfl (by kernel_rfl) (by kernel_rfl) (by kernel_rfl) (fun _ _ _ h => h) (Or.inr ⟨by rfl, rfl⟩) (by assumption) ?_
                    (try simp only [Act.put, qa_, qb_, qc_])
                    refine wpAnyH_take (i := 26) (oi := ⟨some 139, _, _, _, _, _⟩) (v := undef) rfl (by kernel_rfl) (by kernel_rfl) (by kernel_rfl) (fun _ _ _ h => h) (Or.inr ⟨by rfl, rfl⟩) (by assumption) ?_
                    (try simp only [Act.put, qa_, qb_, qc_])
                    refine wpAnyH_take (i := 27) (oi := ⟨some 140, _, _, _, _, _⟩) (v := undef) rfl (by kernel_rfl) (by kernel_rfl) (by kernel_rfl) (fun _ _ _ h => h) (Or.inr ⟨by rfl, rfl⟩) (by assumption) ?_
                    (try simp only [Act.put, qa_, qb_, qc_])
                    refine wpAnyH_take (i := 28) (oi := ⟨some 141, _, _, _, _, _⟩) (v := undef) rfl (by kernel_rfl) (by kernel_rfl) (by kernel_rfl) (fun _ _ _ h => h) (Or.inr ⟨by rfl, rfl⟩) (by assumption) ?_
                    (try simp only [Act.put, qa_, qb_, qc_])
                    refine wpAnyH_take (i := 29) (oi := ⟨some 142, _, _, _, _, _⟩) (v := undef) rfl (by kernel_rfl) (by kernel_rfl) (by kernel_rfl) (fun _ _ _ h => h) (Or.inr ⟨by rfl, rfl⟩) (by assumption) ?_
                    (try simp only [Act.put, qa_, qb_, qc_])
                    refine wpAnyH_take (i := 30) (oi := ⟨some 143, _, _, _, _, _⟩) (v := undef) rfl (by kernel_rfl) (by kernel_rfl) (by kernel_rfl) (fun _ _ _ h => h) (Or.inr ⟨by rfl, rfl⟩) (by assumption) ?_
                    (try simp only [Act.put, qa_, qb_, qc_])
                    refine wpAnyH_take (i := 31) (oi := ⟨some 144, _, _, _, _, _⟩) (v := undef) rfl (by kernel_rfl) (by kernel_rfl) (by kernel_rfl) (fun _ _ _ h => h) (Or.inr ⟨by rfl, rfl⟩) (by assumption) ?_
                    (try simp only [Act.put, qa_, qb_, qc_])
                    refine wpAnyH_take (i := 32) (oi := ⟨some 145, _, _, _, _, _⟩) (v := ?v216) rfl (by kernel_rfl) (by kernel_rfl) (by kernel_rfl) (fun _ _ _ h => h) (Or.inl ⟨by rfl, ?hy216⟩) (by assumption) ?_
                    case hy216 => (intro w hSw; (try dsimp only at hSw); go_simp; try (with_reducible rfl))
                    (try simp only [Act.put, qa_, qb_, qc_])
                    refine wpAnyH_take (i := 33) (oi := ⟨some 146, _, _, _, _, _⟩) (v := ?v217) rfl (by kernel_rfl) (by kernel_rfl) (by kernel_rfl) (fun _ _ _ h => h) (Or.inl ⟨by rfl, ?hy217⟩) (by assumption) ?_
                    case hy217 => (intro w hSw; (try dsimp only at hSw); go_simp; try (with_reducible rfl))
                    (try simp only [Act.put, qa_, qb_, qc_])
                    refine wpAnyH_take (i := 34) (oi := ⟨some 147, _, _, _, _, _⟩) (v := undef) rfl (by kernel_rfl) (by kernel_rfl) (by kernel_rfl) (fun _ _ _ h => h) (Or.inr ⟨by rfl, rfl⟩) (by assumption) ?_
                    (try simp only [Act.put, qa_, qb_, qc_])
                    refine wpAnyH_take (i := 35) (oi := ⟨some 148, _, _, _, _, _⟩) (v := undef) rfl (by kernel_rfl) (by kernel_rfl) (by kernel_rfl) (fun _ _ _ h => h) (Or.inr ⟨by rfl, rfl⟩) (by assumption) ?_
                    (try simp only [Act.put, qa_, qb_, qc_])
                    refine wpAnyH_take (i := 36) (oi := ⟨some 149, _, _, _, _, _⟩) (v := undef) rfl (by kernel_rfl) (by kernel_rfl) (by kernel_rfl) (fun _ _ _ h => h) (Or.inr ⟨by rfl, rfl⟩) (by assumption) ?_
                    (try simp only [Act.put, qa_, qb_, qc_])
                    refine wpAnyH_take (i := 37) (oi := ⟨some 150, _, _, _, _, _⟩) (v := undef) rfl (by kernel_rfl) (by kernel_rfl) (by kernel_rfl) (fun _ _ _ h => h) (Or.inr ⟨by rfl, rfl⟩) (by assumption) ?_
                    (try simp only [Act.put, qa_, qb_, qc_])
                    refine wpAnyH_take (i := 38) (oi := ⟨some 151, _, _, _, _, _⟩) (v := undef) rfl (by kernel_rfl) (by kernel_rfl) (by kernel_rfl) (fun _ _ _ h => h) (Or.inr ⟨by rfl, rfl⟩) (by assumption) ?_
                    (try simp only [Act.put, qa_, qb_, qc_])
                    refine wpAnyH_take (i := 39) (oi := ⟨some 152, _, _, _, _, _⟩) (v := undef) rfl (by kernel_rfl) (by kernel_rfl) (by kernel_rfl) (fun _ _ _ h => h) (Or.inr ⟨by rfl, rfl⟩) (by assumption) ?_
                    (try simp only [Act.put, qa_, qb_, qc_])
                    refine wpAnyH_take (i := 40) (oi := ⟨some 153, _, _, _, _, _⟩) (v := undef) rfl (by kernel_rfl) (by kernel_rfl) (by kernel_rfl) (fun _ _ _ h => h) (Or.inr ⟨by rfl, rfl⟩) (by assumption) ?_
                    (try simp only [Act.put, qa_, qb_, qc_])
                    refine wpAnyH_take (i := 41) (oi := ⟨some 154, _, _, _, _, _⟩) (v := undef) rfl (by kernel_rfl) (by kernel_rfl) (by kernel_rfl) (fun _ _ _ h => h) (Or.inr ⟨by rfl, rfl⟩) (by assumption) ?_
                    (try simp only [Act.put, qa_, qb_, qc_])
                    refine wpAnyH_take (i := 42) (oi := ⟨some 155, _, _, _, _, _⟩) (v := undef) rfl (by kernel_rfl) (by kernel_rfl) (by kernel_rfl) (fun _ _ _ h => h) (Or.inr ⟨by rfl, rfl⟩) (by assumption) ?_
                    (try simp only [Act.put, qa_, qb_, qc_])
                    refine wpAnyH_take (i := 43) (oi := ⟨some 156, _, _, _, _, _⟩) (v := undef) rfl (by kernel_rfl) (by kernel_rfl) (by kernel_rfl) (fun _ _ _ h => h) (Or.inr ⟨by rfl, rfl⟩) (by assumption) ?_
                    (try simp only [Act.put, qa_, qb_, qc_])
                    refine wpAnyH_take (i := 44) (oi := ⟨some 157, _, _, _, _, _⟩) (v := undef) rfl (by kernel_rfl) (by kernel_rfl) (by kernel_rfl) (fun _ _ _ h => h) (Or.inr ⟨by rfl, rfl⟩) (by assumption) ?_
                    (try simp only [Act.put, qa_, qb_, qc_])
                    refine wpAnyH_take (i := 45) (oi := ⟨some 158, _, _, _, _, _⟩) (v := undef) rfl (by kernel_rfl) (by kernel_rfl) (by kernel_rfl) (fun _ _ _ h => h) (Or.inr ⟨by rfl, rfl⟩) (by assumption) ?_
                    (try simp only [Act.put, qa_, qb_, qc_])
                    refine wpAnyH_take (i := 46) (oi := ⟨some 159, _, _, _, _, _⟩) (v := undef) rfl (by kernel_rfl) (by kernel_rfl) (by kernel_rfl) (fun _ _ _ h => h) (Or.inr ⟨by rfl, rfl⟩) (by assumption) ?_
                    (try simp only [Act.put, qa_, qb_, qc_])
                    refine wpAnyH_take (i := 47) (oi := ⟨some 160, _, _, _, _, _⟩) (v := undef) rfl (by kernel_rfl) (by kernel_rfl) (by kernel_rfl) (fun _ _ _ h => h) (Or.inr ⟨by rfl, rfl⟩) (by assumption) ?_
                    (try simp only [Act.put, qa_, qb_, qc_])
                    refine wpAnyH_take (i := 48) (oi := ⟨some 161, _, _, _, _, _⟩) (v := ?v218) rfl (by kernel_rfl) (by kernel_rfl) (by kernel_rfl) (fun _ _ _ h => h) (Or.inl ⟨by rfl, ?hy218⟩) (by assumption) ?_
                    case hy218 => (intro w hSw; (try dsimp only at hSw); go_simp; try (with_reducible rfl))
                    (try simp only [Act.put, qa_, qb_, qc_])
                    refine wpAnyH_done (by kernel_rfl) ?_ _
                    go_wp2
                    go_roundw
                    case rel => exact ⟨j + 1, U, by go_num, by omega, by exact hU.drew, bel_trans hbr (belx), by first | exact .inl ⟨rfl, rfl, HNX.out⟩ | exact .inl ⟨trivial, trivial, HNX.out⟩ | simpa using HNX.out⟩
                    case measure => simp [intOf]; omega
                  | false =>
                    have s1 := sU
                    rw [hu] at s1
                    by_cases e1 : hc.1 = hb.1
                    · have g1u : (hc.1 == hb.1) = true := by simpa using e1
                      by_cases e2 : hc.2.1 = hb.2.1
                      · have g2u : (hc.2.1 == hb.2.1) = true := by simpa using e2
                        by_cases e3 : hc.2.2 = hb.2.2
                        · have hcb : hc = hb := by
                            obtain ⟨c1, c2, c3⟩ := hc
                            obtain ⟨d1, d2, d3⟩ := hb
                            dsimp only at e1 e2 e3
                            rw [e1, e2, e3]
                          have HSM := Lib.hid (decide_eq_true e3)
                          have HPT := Lib.hid (fr_tak (l := p.1) (c := hc) hu (by rw [hk2, hcb]))
                          have hUs : (wr.drew.setCell ⟨wu.heap.size, j, none⟩ (.bool true)).rowIs wu.heap.size 4 n0 (fun t => .bool (tak U j t)) := (hU.drew.set j (.bool true)).congr (fun t _ => by unfold tak; split <;> rfl)
                          have HUT := Lib.hid hUs
                          have hfz := hU.drew.frozen j
                          clear hUs hcb hk2 hnext sU hu e1 e2 e3
                          have hk : ∀ W, Below wr.heap.size wr W → (fun w' => w'.cell? ⟨w1.heap.size, 0, none⟩ = some (.slice (some ⟨bx, ox, none⟩) n0 a0) ∧ w'.cell? ⟨wu.heap.size, j, none⟩ = some (.bool false) ∧ w'.cell? ⟨bl, ol + i * 3, none⟩ = some (.int .i64 hc.1) ∧ w'.cell? ⟨bl, ol + i * 3 + 1, none⟩ = some (.int .i64 hc.2.1) ∧ w'.cell? ⟨bl, ol + i * 3 + 2, none⟩ = some (.slice AC nC cC) ∧ w'.cell? ⟨bx, ox + j * 3, none⟩ = some (.int .i64 hb.1) ∧ w'.cell? ⟨bx, ox + j * 3 + 1, none⟩ = some (.int .i64 hb.2.1) ∧ w'.cell? ⟨bx, ox + j * 3 + 2, none⟩ = some (.slice AE nE cE)) W := fun W hW => ⟨cell_bel hW s0, cell_bel hW s1, cell_bel hW s2, cell_bel hW s3, cell_bel hW s4, cell_bel hW s5, cell_bel hW s6, cell_bel hW s7⟩
                          go_wp2_with fail
                          refine wp_region_held_drew (S := (fun w' => w'.cell? ⟨w1.heap.size, 0, none⟩ = some (.slice (some ⟨bx, ox, none⟩) n0 a0) ∧ w'.cell? ⟨wu.heap.size, j, none⟩ = some (.bool false) ∧ w'.cell? ⟨bl, ol + i * 3, none⟩ = some (.int .i64 hc.1) ∧ w'.cell? ⟨bl, ol + i * 3 + 1, none⟩ = some (.int .i64 hc.2.1) ∧ w'.cell? ⟨bl, ol + i * 3 + 2, none⟩ = some (.slice AC nC cC) ∧ w'.cell? ⟨bx, ox + j * 3, none⟩ = some (.int .i64 hb.1) ∧ w'.cell? ⟨bx, ox + j * 3 + 1, none⟩ = some (.int .i64 hb.2.1) ∧ w'.cell? ⟨bx, ox + j * 3 + 2, none⟩ = some (.slice AE nE cE))) (by kernel_rfl) (by exact hk _ (belx)) (fun hHeld => ?_)
                          refine wpAnyH_take (i := 0) (oi := ⟨some 113, _, _, _, _, _⟩) (v := ?v219) rfl (by kernel_rfl) (by kernel_rfl) (by kernel_rfl) (fun _ _ _ h => h) (Or.inl ⟨by rfl, ?hy219⟩) (by assumption) ?_
                          case hy219 => (intro w hSw; (try dsimp only at hSw); go_simp; try (with_reducible rfl))
                          (try simp only [Act.put, qa_, qb_, qc_])
                          refine wpAnyH_take (i := 1) (oi := ⟨some 114, _, _, _, _, _⟩) (v := ?v220) rfl (by kernel_rfl) (by kernel_rfl) (by kernel_rfl) (fun _ _ _ h => h) (Or.inl ⟨by rfl, ?hy220⟩) (by assumption) ?_
                          case hy220 => (intro w hSw; (try dsimp only at hSw); go_simp; try (with_reducible rfl))
                          (try simp only [Act.put, qa_, qb_, qc_])
                          refine wpAnyH_take (i := 2) (oi := ⟨some 115, _, _, _, _, _⟩) (v := ?v221) rfl (by kernel_rfl) (by kernel_rfl) (by kernel_rfl) (fun _ _ _ h => h) (Or.inl ⟨by rfl, ?hy221⟩) (by assumption) ?_
                          case hy221 => (intro w hSw; (try dsimp only at hSw); go_simp; try (with_reducible rfl))
                          (try simp only [Act.put, qa_, qb_, qc_])
                          refine wpAnyH_take (i := 3) (oi := ⟨some 116, _, _, _, _, _⟩) (v := ?v222) rfl (by kernel_rfl) (by kernel_rfl) (by kernel_rfl) (fun _ _ _ h => h) (Or.inl ⟨by rfl, ?hy222⟩) (by assumption) ?_
                          case hy222 => (intro w hSw; (try dsimp only at hSw); go_simp; try (with_reducible rfl))
                          (try simp only [Act.put, qa_, qb_, qc_])
                          refine wpAnyH_take (i := 4) (oi := ⟨some 117, _, _, _, _, _⟩) (v := ?v223) rfl (by kernel_rfl) (by kernel_rfl) (by kernel_rfl) (fun _ _ _ h => h) (Or.inl ⟨by rfl, ?hy223⟩) (by assumption) ?_
                          case hy223 => (intro w hSw; (try dsimp only at hSw); go_simp; try (with_reducible rfl))
                          (try simp only [Act.put, qa_, qb_, qc_])
                          refine wpAnyH_take (i := 5) (oi := ⟨some 118, _, _, _, _, _⟩) (v := ?v224) rfl (by kernel_rfl) (by kernel_rfl) (by kernel_rfl) (fun _ _ _ h => h) (Or.inl ⟨by rfl, ?hy224⟩) (by assumption) ?_
                          case hy224 => (intro w hSw; (try dsimp only at hSw); go_simp; try (with_reducible rfl))
                          (try simp only [Act.put, qa_, qb_, qc_])
                          refine wpAnyH_take (i := 6) (oi := ⟨some 119, _, _, _, _, _⟩) (v := ?v225) rfl (by kernel_rfl) (by kernel_rfl) (by kernel_rfl) (fun _ _ _ h => h) (Or.inl ⟨by rfl, ?hy225⟩) (by assumption) ?_
                          case hy225 => (intro w hSw; (try dsimp only at hSw); go_simp; try (with_reducible rfl))
                          (try simp only [Act.put, qa_, qb_, qc_])
                          refine wpAnyH_take (i := 7) (oi := ⟨some 120, _, _, _, _, _⟩) (v := ?v226) rfl (by kernel_rfl) (by kernel_rfl) (by kernel_rfl) (fun _ _ _ h => h) (Or.inl ⟨by rfl, ?hy226⟩) (by assumption) ?_
                          case hy226 => (intro w hSw; (try dsimp only at hSw); go_simp; try (with_reducible rfl))
                          (try simp only [Act.put, qa_, qb_, qc_])
                          refine wpAnyH_take (i := 8) (oi := ⟨some 121, _, _, _, _, _⟩) (v := ?v227) rfl (by kernel_rfl) (by kernel_rfl) (by kernel_rfl) (fun _ _ _ h => h) (Or.inl ⟨by rfl, ?hy227⟩) (by assumption) ?_
                          case hy227 => (intro w hSw; (try dsimp only at hSw); go_simp; try (with_reducible rfl))
                          (try simp only [Act.put, qa_, qb_, qc_])
                          refine wpAnyH_take (i := 9) (oi := ⟨some 122, _, _, _, _, _⟩) (v := ?v228) rfl (by kernel_rfl) (by kernel_rfl) (by kernel_rfl) (fun _ _ _ h => h) (Or.inl ⟨by rfl, ?hy228⟩) (by assumption) ?_
                          case hy228 => (intro w hSw; (try dsimp only at hSw); go_simp; try (with_reducible rfl))
                          (try simp only [Act.put, qa_, qb_, qc_])
                          refine wpAnyH_take (i := 10) (oi := ⟨some 123, _, _, _, _, _⟩) (v := ?v229) rfl (by kernel_rfl) (by kernel_rfl) (by kernel_rfl) (fun _ _ _ h => h) (Or.inl ⟨by rfl, ?hy229⟩) (by assumption) ?_
                          case hy229 => (intro w hSw; (try dsimp only at hSw); go_simp; try (with_reducible rfl))
                          (try simp only [Act.put, qa_, qb_, qc_])
                          refine wpAnyH_take (i := 11) (oi := ⟨some 124, _, _, _, _, _⟩) (v := ?v230) rfl (by kernel_rfl) (by kernel_rfl) (by kernel_rfl) (fun _ _ _ h => h) (Or.inl ⟨by rfl, ?hy230⟩) (by assumption) ?_
                          case hy230 => (intro w hSw; (try dsimp only at hSw); go_simp; try (with_reducible rfl))
                          (try simp only [Act.put, qa_, qb_, qc_])
                          refine wpAnyH_take (i := 12) (oi := ⟨some 125, _, _, _, _, _⟩) (v := ?v231) rfl (by kernel_rfl) (by kernel_rfl) (by kernel_rfl) (fun _ _ _ h => h) (Or.inl ⟨by rfl, ?hy231⟩) (by assumption) ?_
                          case hy231 => (intro w hSw; (try dsimp only at hSw); go_simp; try (with_reducible rfl))
                          (try simp only [Act.put, qa_, qb_, qc_])
                          refine wpAnyH_take (i := 13) (oi := ⟨some 126, _, _, _, _, _⟩) (v := ?v232) rfl (by kernel_rfl) (by kernel_rfl) (by kernel_rfl) (fun _ _ _ h => h) (Or.inl ⟨by rfl, ?hy232⟩) (by assumption) ?_
                          case hy232 => (intro w hSw; (try dsimp only at hSw); go_simp; try (with_reducible rfl))
                          (try simp only [Act.put, qa_, qb_, qc_])
                          refine wpAnyH_take (i := 14) (oi := ⟨some 127, _, _, _, _, _⟩) (v := ?v233) rfl (by kernel_rfl) (by kernel_rfl) (by kernel_rfl) (fun _ _ _ h => h) (Or.inl ⟨by rfl, ?hy233⟩) (by assumption) ?_
                          case hy233 => (intro w hSw; (try dsimp only at hSw); go_simp; try (with_reducible rfl))
                          (try simp only [Act.put, qa_, qb_, qc_])
                          refine wpAnyH_take (i := 15) (oi := ⟨some 128, _, _, _, _, _⟩) (v := ?v234) rfl (by kernel_rfl) (by kernel_rfl) (by kernel_rfl) (fun _ _ _ h => h) (Or.inl ⟨by rfl, ?hy234⟩) (by assumption) ?_
                          case hy234 => (intro w hSw; (try dsimp only at hSw); go_simp; try (with_reducible rfl))
                          (try simp only [Act.put, qa_, qb_, qc_])
                          refine wpAnyH_take (i := 16) (oi := ⟨some 129, _, _, _, _, _⟩) (v := ?v235) rfl (by kernel_rfl) (by kernel_rfl) (by kernel_rfl) (fun _ _ _ h => h) (Or.inl ⟨by rfl, ?hy235⟩) (by assumption) ?_
                          case hy235 => (intro w hSw; (try dsimp only at hSw); go_simp; try (with_reducible rfl))
                          (try simp only [Act.put, qa_, qb_, qc_])
                          refine wpAnyH_take (i := 17) (oi := ⟨some 130, _, _, _, _, _⟩) (v := ?v236) rfl (by kernel_rfl) (by kernel_rfl) (by kernel_rfl) (fun _ _ _ h => h) (Or.inl ⟨by rfl, ?hy236⟩) (by assumption) ?_
                          case hy236 => (intro w hSw; (try dsimp only at hSw); go_simp; try (with_reducible rfl))
                          (try simp only [Act.put, qa_, qb_, qc_])
                          refine wpAnyH_take (i := 18) (oi := ⟨some 131, _, _, _, _, _⟩) (v := ?v237) rfl (by kernel_rfl) (by kernel_rfl) (by kernel_rfl) (fun _ _ _ h => h) (Or.inl ⟨by rfl, ?hy237⟩) (by assumption) ?_
                          case hy237 => (intro w hSw; (try dsimp only at hSw); go_simp; try (with_reducible rfl))
                          (try simp only [Act.put, qa_, qb_, qc_])
                          refine wpAnyH_take (i := 19) (oi := ⟨some 132, _, _, _, _, _⟩) (v := ?v238) rfl (by kernel_rfl) (by kernel_rfl) (by kernel_rfl) (fun _ _ _ h => h) (Or.inl ⟨by rfl, ?hy238⟩) (by assumption) ?_
                          case hy238 => (intro w hSw; (try dsimp only at hSw); go_simp; try (with_reducible rfl))
                          (try simp only [Act.put, qa_, qb_, qc_])
                          refine wpAnyH_take (i := 20) (oi := ⟨some 133, _, _, _, _, _⟩) (v := ?v239) rfl (by kernel_rfl) (by kernel_rfl) (by kernel_rfl) (fun _ _ _ h => h) (Or.inl ⟨by rfl, ?hy239⟩) (by assumption) ?_
                          case hy239 => (intro w hSw; (try dsimp only at hSw); go_simp; try (with_reducible rfl))
                          (try simp only [Act.put, qa_, qb_, qc_])
                          refine wpAnyH_take (i := 21) (oi := ⟨some 134, _, _, _, _, _⟩) (v := ?v240) rfl (by kernel_rfl) (by kernel_rfl) (by kernel_rfl) (fun _ _ _ h => h) (Or.inl ⟨by rfl, ?hy240⟩) (by assumption) ?_
                          case hy240 => (intro w hSw; (try dsimp only at hSw); go_simp; try (with_reducible rfl))
                          (try simp only [Act.put, qa_, qb_, qc_])
                          refine wpAnyH_take (i := 22) (oi := ⟨some 135, _, _, _, _, _⟩) (v := ?v241) rfl (by kernel_rfl) (by kernel_rfl) (by kernel_rfl) (fun _ _ _ h => h) (Or.inl ⟨by rfl, ?hy241⟩) (by assumption) ?_
                          case hy241 => (intro w hSw; (try dsimp only at hSw); go_simp; try (with_reducible rfl))
                          (try simp only [Act.put, qa_, qb_, qc_])
                          refine wpAnyH_take (i := 23) (oi := ⟨some 136, _, _, _, _, _⟩) (v := ?v242) rfl (by kernel_rfl) (by kernel_rfl) (by kernel_rfl) (fun _ _ _ h => h) (Or.inl ⟨by rfl, ?hy242⟩) (by assumption) ?_
                          case hy242 => (intro w hSw; (try dsimp only at hSw); go_simp; try (with_reducible rfl))
                          (try simp only [Act.put, qa_, qb_, qc_])
                          refine wpAnyH_take (i := 24) (oi := ⟨some 137, _, _, _, _, _⟩) (v := ?v243) rfl (by kernel_rfl) (by kernel_rfl) (by kernel_rfl) (fun _ _ _ h => h) (Or.inl ⟨by rfl, ?hy243⟩) (by assumption) ?_
                          case hy243 => (intro w hSw; (try dsimp only at hSw); go_simp; try (with_reducible rfl))
                          (try simp only [Act.put, qa_, qb_, qc_])
                          refine wpAnyH_take (i := 25) (oi := ⟨some 138, _, _, _, _, _⟩) (v := ?v244) rfl (by kernel_rfl) (by kernel_rfl) (by kernel_rfl) (fun _ _ _ h => h) (Or.inl ⟨by rfl, ?hy244⟩) (by assumption) ?_
                          case hy244 => (intro w hSw; (try dsimp only at hSw); go_simp; try (with_reducible rfl))
                          (try simp only [Act.put, qa_, qb_, qc_])
                          refine wpAnyH_take (i := 26) (oi := ⟨some 139, _, _, _, _, _⟩) (v := ?v245) rfl (by kernel_rfl) (by kernel_rfl) (by kernel_rfl) (fun _ _ _ h => h) (Or.inl ⟨by rfl, ?hy245⟩) (by assumption) ?_
                          case hy245 => (intro w hSw; (try dsimp only at hSw); go_simp; try (with_reducible rfl))
                          (try simp only [Act.put, qa_, qb_, qc_])
                          refine wpAnyH_take (i := 27) (oi := ⟨some 140, _, _, _, _, _⟩) (v := ?v246) rfl (by kernel_rfl) (by kernel_rfl) (by kernel_rfl) (fun _ _ _ h => h) (Or.inl ⟨by rfl, ?hy246⟩) (by assumption) ?_
                          case hy246 => (intro w hSw; (try dsimp only at hSw); go_simp; try (with_reducible rfl))
                          (try simp only [Act.put, qa_, qb_, qc_])
                          refine wpAnyH_take (i := 28) (oi := ⟨some 141, _, _, _, _, _⟩) (v := ?v247) rfl (by kernel_rfl) (by kernel_rfl) (by kernel_rfl) (fun _ _ _ h => h) (Or.inl ⟨by rfl, ?hy247⟩) (by assumption) ?_
                          case hy247 => (intro w hSw; (try dsimp only at hSw); go_simp; try (with_reducible rfl))
                          (try simp only [Act.put, qa_, qb_, qc_])
                          refine wpAnyH_take (i := 29) (oi := ⟨some 142, _, _, _, _, _⟩) (v := ?v248) rfl (by kernel_rfl) (by kernel_rfl) (by kernel_rfl) (fun _ _ _ h => h) (Or.inl ⟨by rfl, ?hy248⟩) (by assumption) ?_
                          case hy248 => (intro w hSw; (try dsimp only at hSw); go_simp; try (with_reducible rfl))
                          (try simp only [Act.put, qa_, qb_, qc_])
                          refine wpAnyH_take (i := 30) (oi := ⟨some 143, _, _, _, _, _⟩) (v := ?v249) rfl (by kernel_rfl) (by kernel_rfl) (by kernel_rfl) (fun _ _ _ h => h) (Or.inl ⟨by rfl, ?hy249⟩) (by assumption) ?_
                          case hy249 => (intro w hSw; (try dsimp only at hSw); go_simp; try (with_reducible rfl))
                          (try simp only [Act.put, qa_, qb_, qc_])
                          refine wpAnyH_take (i := 31) (oi := ⟨some 144, _, _, _, _, _⟩) (v := ?v250) rfl (by kernel_rfl) (by kernel_rfl) (by kernel_rfl) (fun _ _ _ h => h) (Or.inl ⟨by rfl, ?hy250⟩) (by assumption) ?_
                          case hy250 => (intro w hSw; (try dsimp only at hSw); go_simp; try (with_reducible rfl))
                          (try simp only [Act.put, qa_, qb_, qc_])
                          refine wpAnyH_take (i := 32) (oi := ⟨some 145, _, _, _, _, _⟩) (v := ?v251) rfl (by kernel_rfl) (by kernel_rfl) (by kernel_rfl) (fun _ _ _ h => h) (Or.inl ⟨by rfl, ?hy251⟩) (by assumption) ?_
                          case hy251 => (intro w hSw; (try dsimp only at hSw); go_simp; try (with_reducible rfl))
                          (try simp only [Act.put, qa_, qb_, qc_])
                          refine wpAnyH_take (i := 33) (oi := ⟨some 146, _, _, _, _, _⟩) (v := ?v252) rfl (by kernel_rfl) (by kernel_rfl) (by kernel_rfl) (fun _ _ _ h => h) (Or.inl ⟨by rfl, ?hy252⟩) (by assumption) ?_
                          case hy252 => (intro w hSw; (try dsimp only at hSw); go_simp; try (with_reducible rfl))
                          (try simp only [Act.put, qa_, qb_, qc_])
                          refine wpAnyH_take (i := 34) (oi := ⟨some 147, _, _, _, _, _⟩) (v := ?v253) rfl (by kernel_rfl) (by kernel_rfl) (by kernel_rfl) (fun _ _ _ h => h) (Or.inl ⟨by rfl, ?hy253⟩) (by assumption) ?_
                          case hy253 => (intro w hSw; (try dsimp only at hSw); go_simp; try (with_reducible rfl))
                          (try simp only [Act.put, qa_, qb_, qc_])
                          refine wpAnyH_take (i := 35) (oi := ⟨some 148, _, _, _, _, _⟩) (v := ?v254) rfl (by kernel_rfl) (by kernel_rfl) (by kernel_rfl) (fun _ _ _ h => h) (Or.inl ⟨by rfl, ?hy254⟩) (by assumption) ?_
                          case hy254 => (intro w hSw; (try dsimp only at hSw); go_simp; try (with_reducible rfl))
                          (try simp only [Act.put, qa_, qb_, qc_])
                          refine wpAnyH_take (i := 36) (oi := ⟨some 149, _, _, _, _, _⟩) (v := ?v255) rfl (by kernel_rfl) (by kernel_rfl) (by kernel_rfl) (fun _ _ _ h => h) (Or.inl ⟨by rfl, ?hy255⟩) (by assumption) ?_
                          case hy255 => (intro w hSw; (try dsimp only at hSw); go_simp; try (with_reducible rfl))
                          (try simp only [Act.put, qa_, qb_, qc_])
                          refine wpAnyH_take (i := 37) (oi := ⟨some 150, _, _, _, _, _⟩) (v := ?v256) rfl (by kernel_rfl) (by kernel_rfl) (by kernel_rfl) (fun _ _ _ h => h) (Or.inl ⟨by rfl, ?hy256⟩) (by assumption) ?_
                          case hy256 => (intro w hSw; (try dsimp only at hSw); go_simp; try (with_reducible rfl))
                          (try simp only [Act.put, qa_, qb_, qc_])
                          refine wpAnyH_take (i := 38) (oi := ⟨some 151, _, _, _, _, _⟩) (v := ?v257) rfl (by kernel_rfl) (by kernel_rfl) (by kernel_rfl) (fun _ _ _ h => h) (Or.inl ⟨by rfl, ?hy257⟩) (by assumption) ?_
                          case hy257 => (intro w hSw; (try dsimp only at hSw); go_simp; try (with_reducible rfl))
                          (try simp only [Act.put, qa_, qb_, qc_])
                          refine wpAnyH_take (i := 39) (oi := ⟨some 152, _, _, _, _, _⟩) (v := ?v258) rfl (by kernel_rfl) (by kernel_rfl) (by kernel_rfl) (fun _ _ _ h => h) (Or.inl ⟨by rfl, ?hy258⟩) (by assumption) ?_
                          case hy258 => (intro w hSw; (try dsimp only at hSw); go_simp; try (with_reducible rfl))
                          (try simp only [Act.put, qa_, qb_, qc_])
                          refine wpAnyH_take (i := 40) (oi := ⟨some 153, _, _, _, _, _⟩) (v := ?v259) rfl (by kernel_rfl) (by kernel_rfl) (by kernel_rfl) (fun _ _ _ h => h) (Or.inl ⟨by rfl, ?hy259⟩) (by assumption) ?_
                          case hy259 => (intro w hSw; (try dsimp only at hSw); go_simp; try (with_reducible rfl))
                          (try simp only [Act.put, qa_, qb_, qc_])
                          refine wpAnyH_take (i := 41) (oi := ⟨some 154, _, _, _, _, _⟩) (v := ?v260) rfl (by kernel_rfl) (by kernel_rfl) (by kernel_rfl) (fun _ _ _ h => h) (Or.inl ⟨by rfl, ?hy260⟩) (by assumption) ?_
                          case hy260 => (intro w hSw; (try dsimp only at hSw); go_simp; try (with_reducible rfl))
                          (try simp only [Act.put, qa_, qb_, qc_])
                          refine wpAnyH_take (i := 42) (oi := ⟨some 155, _, _, _, _, _⟩) (v := ?v261) rfl (by kernel_rfl) (by kernel_rfl) (by kernel_rfl) (fun _ _ _ h => h) (Or.inl ⟨by rfl, ?hy261⟩) (by assumption) ?_
                          case hy261 => (intro w hSw; (try dsimp only at hSw); go_simp; try (with_reducible rfl))
                          (try simp only [Act.put, qa_, qb_, qc_])
                          refine wpAnyH_take (i := 43) (oi := ⟨some 156, _, _, _, _, _⟩) (v := ?v262) rfl (by kernel_rfl) (by kernel_rfl) (by kernel_rfl) (fun _ _ _ h => h) (Or.inl ⟨by rfl, ?hy262⟩) (by assumption) ?_
                          case hy262 => (intro w hSw; (try dsimp only at hSw); go_simp; try (with_reducible rfl))
                          (try simp only [Act.put, qa_, qb_, qc_])
                          refine wpAnyH_take (i := 44) (oi := ⟨some 157, _, _, _, _, _⟩) (v := ?v263) rfl (by kernel_rfl) (by kernel_rfl) (by kernel_rfl) (fun _ _ _ h => h) (Or.inl ⟨by rfl, ?hy263⟩) (by assumption) ?_
                          case hy263 => (intro w hSw; (try dsimp only at hSw); go_simp; try (with_reducible rfl))
                          (try simp only [Act.put, qa_, qb_, qc_])
                          refine wpAnyH_take (i := 45) (oi := ⟨some 158, _, _, _, _, _⟩) (v := ?v264) rfl (by kernel_rfl) (by kernel_rfl) (by kernel_rfl) (fun _ _ _ h => h) (Or.inl ⟨by rfl, ?hy264⟩) (by assumption) ?_
                          case hy264 => (intro w hSw; (try dsimp only at hSw); go_simp; try (with_reducible rfl))
                          (try simp only [Act.put, qa_, qb_, qc_])
                          refine wpAnyH_take (i := 46) (oi := ⟨some 159, _, _, _, _, _⟩) (v := ?v265) rfl (by kernel_rfl) (by kernel_rfl) (by kernel_rfl) (fun _ _ _ h => h) (Or.inl ⟨by rfl, ?hy265⟩) (by assumption) ?_
                          case hy265 => (intro w hSw; (try dsimp only at hSw); go_simp; try (with_reducible rfl))
                          (try simp only [Act.put, qa_, qb_, qc_])
                          refine wpAnyH_ready (rs := [47]) (by kernel_rfl) (by simp) ?_
                          refine AllReadyH.cons rfl (fun K hK => ?_) ?_
                          · go_simp
                            go_at_call 13
                            refine (l_same (slR_ints (tBy.reach rA (belx))).1 (slR_ints (tBy.reach rB (belx))).1).mono ?_
                            rintro e wz ⟨rfl, rfl⟩
                            rw [HSM.out]
                            go_wp2_with fail
                            refine hK.out _ _ (by exact hk _ (belx)) (fun hHeld => ?_)
                            clear hK K
                            (try simp only [Act.put, qa_, qb_, qc_])
                            refine wpAnyH_take (i := 48) (oi := ⟨some 161, _, _, _, _, _⟩) (v := ?v266) rfl (by kernel_rfl) (by kernel_rfl) (by kernel_rfl) (fun _ _ _ h => h) (Or.inl ⟨by rfl, ?hy266⟩) (by assumption) ?_
                            case hy266 => (intro w hSw; (try dsimp only at hSw); go_simp; try (with_reducible rfl))
                            (try simp only [Act.put, qa_, qb_, qc_])
                            refine wpAnyH_done (by kernel_rfl) ?_ _
                            go_wp2
                            go_roundw
                            case rel => exact ⟨j + 1, tak U j, by go_num, by omega, by exact HUT.out, bel_put (bel_drew hbr) (Nat.le_refl _) _, by first | exact .inr ⟨rfl, HPT.out⟩ | exact .inr ⟨trivial, HPT.out⟩ | simpa using HPT.out⟩
                            case measure => simp [intOf]; omega
                          exact AllReadyH.nil
                        · have HNX := Lib.hid (hnext (fun h => e3 (by have h2 := h.2; rw [hk2] at h2; injection h2 with h2; rw [h2])))
                          have HSM := Lib.hid (decide_eq_false e3)
                          clear hk2 hnext sU hu e1 e2 e3
                          have hk : ∀ W, Below wr.heap.size wr W → (fun w' => w'.cell? ⟨w1.heap.size, 0, none⟩ = some (.slice (some ⟨bx, ox, none⟩) n0 a0) ∧ w'.cell? ⟨wu.heap.size, j, none⟩ = some (.bool false) ∧ w'.cell? ⟨bl, ol + i * 3, none⟩ = some (.int .i64 hc.1) ∧ w'.cell? ⟨bl, ol + i * 3 + 1, none⟩ = some (.int .i64 hc.2.1) ∧ w'.cell? ⟨bl, ol + i * 3 + 2, none⟩ = some (.slice AC nC cC) ∧ w'.cell? ⟨bx, ox + j * 3, none⟩ = some (.int .i64 hb.1) ∧ w'.cell? ⟨bx, ox + j * 3 + 1, none⟩ = some (.int .i64 hb.2.1) ∧ w'.cell? ⟨bx, ox + j * 3 + 2, none⟩ = some (.slice AE nE cE)) W := fun W hW => ⟨cell_bel hW s0, cell_bel hW s1, cell_bel hW s2, cell_bel hW s3, cell_bel hW s4, cell_bel hW s5, cell_bel hW s6, cell_bel hW s7⟩
                          go_wp2_with fail
                          refine wp_region_held_drew (S := (fun w' => w'.cell? ⟨w1.heap.size, 0, none⟩ = some (.slice (some ⟨bx, ox, none⟩) n0 a0) ∧ w'.cell? ⟨wu.heap.size, j, none⟩ = some (.bool false) ∧ w'.cell? ⟨bl, ol + i * 3, none⟩ = some (.int .i64 hc.1) ∧ w'.cell? ⟨bl, ol + i * 3 + 1, none⟩ = some (.int .i64 hc.2.1) ∧ w'.cell? ⟨bl, ol + i * 3 + 2, none⟩ = some (.slice AC nC cC) ∧ w'.cell? ⟨bx, ox + j * 3, none⟩ = some (.int .i64 hb.1) ∧ w'.cell? ⟨bx, ox + j * 3 + 1, none⟩ = some (.int .i64 hb.2.1) ∧ w'.cell? ⟨bx, ox + j * 3 + 2, none⟩ = some (.slice AE nE cE))) (by kernel_rfl) (by exact hk _ (belx)) (fun hHeld => ?_)
                          refine wpAnyH_take (i := 0) (oi := ⟨some 113, _, _, _, _, _⟩) (v := ?v267) rfl (by kernel_rfl) (by kernel_rfl) (by kernel_rfl) (fun _ _ _ h => h) (Or.inl ⟨by rfl, ?hy267⟩) (by assumption) ?_
                          case hy267 => (intro w hSw; (try dsimp only at hSw); go_simp; try (with_reducible rfl))
                          (try simp only [Act.put, qa_, qb_, qc_])
                          refine wpAnyH_take (i := 1) (oi := ⟨some 114, _, _, _, _, _⟩) (v := ?v268) rfl (by kernel_rfl) (by kernel_rfl) (by kernel_rfl) (fun _ _ _ h => h) (Or.inl ⟨by rfl, ?hy268⟩) (by assumption) ?_
                          case hy268 => (intro w hSw; (try dsimp only at hSw); go_simp; try (with_reducible rfl))
                          (try simp only [Act.put, qa_, qb_, qc_])
                          refine wpAnyH_take (i := 2) (oi := ⟨some 115, _, _, _, _, _⟩) (v := ?v269) rfl (by kernel_rfl) (by kernel_rfl) (by kernel_rfl) (fun _ _ _ h => h) (Or.inl ⟨by rfl, ?hy269⟩) (by assumption) ?_
                          case hy269 => (intro w hSw; (try dsimp only at hSw); go_simp; try (with_reducible rfl))
                          (try simp only [Act.put, qa_, qb_, qc_])
                          refine wpAnyH_take (i := 3) (oi := ⟨some 116, _, _, _, _, _⟩) (v := ?v270) rfl (by kernel_rfl) (by kernel_rfl) (by kernel_rfl) (fun _ _ _ h => h) (Or.inl ⟨by rfl, ?hy270⟩) (by assumption) ?_
                          case hy270 => (intro w hSw; (try dsimp only at hSw); go_simp; try (with_reducible rfl))
                          (try simp only [Act.put, qa_, qb_, qc_])
                          refine wpAnyH_take (i := 4) (oi := ⟨some 117, _, _, _, _, _⟩) (v := ?v271) rfl (by kernel_rfl) (by kernel_rfl) (by kernel_rfl) (fun _ _ _ h => h) (Or.inl ⟨by rfl, ?hy271⟩) (by assumption) ?_
                          case hy271 => (intro w hSw; (try dsimp only at hSw); go_simp; try (with_reducible rfl))
                          (try simp only [Act.put, qa_, qb_, qc_])
                          refine wpAnyH_take (i := 5) (oi := ⟨some 118, _, _, _, _, _⟩) (v := ?v272) rfl (by kernel_rfl) (by kernel_rfl) (by kernel_rfl) (fun _ _ _ h => h) (Or.inl ⟨by rfl, ?hy272⟩) (by assumption) ?_
                          case hy272 => (intro w hSw; (try dsimp only at hSw); go_simp; try (with_reducible rfl))
                          (try simp only [Act.put, qa_, qb_, qc_])
                          refine wpAnyH_take (i := 6) (oi := ⟨some 119, _, _, _, _, _⟩) (v := ?v273) rfl (by kernel_rfl) (by kernel_rfl) (by kernel_rfl) (fun _ _ _ h => h) (Or.inl ⟨by rfl, ?hy273⟩) (by assumption) ?_
                          case hy273 => (intro w hSw; (try dsimp only at hSw); go_simp; try (with_reducible rfl))
                          (try simp only [Act.put, qa_, qb_, qc_])
                          refine wpAnyH_take (i := 7) (oi := ⟨some 120, _, _, _, _, _⟩) (v := ?v274) rfl (by kernel_rfl) (by kernel_rfl) (by kernel_rfl) (fun _ _ _ h => h) (Or.inl ⟨by rfl, ?hy274⟩) (by assumption) ?_
                          case hy274 => (intro w hSw; (try dsimp only at hSw); go_simp; try (with_reducible rfl))
                          (try simp only [Act.put, qa_, qb_, qc_])
                          refine wpAnyH_take (i := 8) (oi := ⟨some 121, _, _, _, _, _⟩) (v := ?v275) rfl (by kernel_rfl) (by kernel_rfl) (by kernel_rfl) (fun _ _ _ h => h) (Or.inl ⟨by rfl, ?hy275⟩) (by assumption) ?_
                          case hy275 => (intro w hSw; (try dsimp only at hSw); go_simp; try (with_reducible rfl))
                          (try simp only [Act.put, qa_, qb_, qc_])
                          refine wpAnyH_take (i := 9) (oi := ⟨some 122, _, _, _, _, _⟩) (v := ?v276) rfl (by kernel_rfl) (by kernel_rfl) (by kernel_rfl) (fun _ _ _ h => h) (Or.inl ⟨by rfl, ?hy276⟩) (by assumption) ?_
                          case hy276 => (intro w hSw; (try dsimp only at hSw); go_simp; try (with_reducible rfl))
                          (try simp only [Act.put, qa_, qb_, qc_])
                          refine wpAnyH_take (i := 10) (oi := ⟨some 123, _, _, _, _, _⟩) (v := ?v277) rfl (by kernel_rfl) (by kernel_rfl) (by kernel_rfl) (fun _ _ _ h => h) (Or.inl ⟨by rfl, ?hy277⟩) (by assumption) ?_
                          case hy277 => (intro w hSw; (try dsimp only at hSw); go_simp; try (with_reducible rfl))
                          (try simp only [Act.put, qa_, qb_, qc_])
                          refine wpAnyH_take (i := 11) (oi := ⟨some 124, _, _, _, _, _⟩) (v := ?v278) rfl (by kernel_rfl) (by kernel_rfl) (by kernel_rfl) (fun _ _ _ h => h) (Or.inl ⟨by rfl, ?hy278⟩) (by assumption) ?_
                          case hy278 => (intro w hSw; (try dsimp only at hSw); go_simp; try (with_reducible rfl))
                          (try simp only [Act.put, qa_, qb_, qc_])
                          refine wpAnyH_take (i := 12) (oi := ⟨some 125, _, _, _, _, _⟩) (v := ?v279) rfl (by kernel_rfl) (by kernel_rfl) (by kernel_rfl) (fun _ _ _ h => h) (Or.inl ⟨by rfl, ?hy279⟩) (by assumption) ?_
                          case hy279 => (intro w hSw; (try dsimp only at hSw); go_simp; try (with_reducible rfl))
                          (try simp only [Act.put, qa_, qb_, qc_])
                          refine wpAnyH_take (i := 13) (oi := ⟨some 126, _, _, _, _, _⟩) (v := ?v280) rfl (by kernel_rfl) (by kernel_rfl) (by kernel_rfl) (fun _ _ _ h => h) (Or.inl ⟨by rfl, ?hy280⟩) (by assumption) ?_
                          case hy280 => (intro w hSw; (try dsimp only at hSw); go_simp; try (with_reducible rfl))
                          (try simp only [Act.put, qa_, qb_, qc_])
                          refine wpAnyH_take (i := 14) (oi := ⟨some 127, _, _, _, _, _⟩) (v := ?v281) rfl (by kernel_rfl) (by kernel_rfl) (by kernel_rfl) (fun _ _ _ h => h) (Or.inl ⟨by rfl, ?hy281⟩) (by assumption) ?_
                          case hy281 => (intro w hSw; (try dsimp only at hSw); go_simp; try (with_reducible rfl))
                          (try simp only [Act.put, qa_, qb_, qc_])
                          refine wpAnyH_take (i := 15) (oi := ⟨some 128, _, _, _, _, _⟩) (v := ?v282) rfl (by kernel_rfl) (by kernel_rfl) (by kernel_rfl) (fun _ _ _ h => h) (Or.inl ⟨by rfl, ?hy282⟩) (by assumption) ?_
                          case hy282 => (intro w hSw; (try dsimp only at hSw); go_simp; try (with_reducible rfl))
                          (try simp only [Act.put, qa_, qb_, qc_])
                          refine wpAnyH_take (i := 16) (oi := ⟨some 129, _, _, _, _, _⟩) (v := ?v283) rfl (by kernel_rfl) (by kernel_rfl) (by kernel_rfl) (fun _ _ _ h => h) (Or.inl ⟨by rfl, ?hy283⟩) (by assumption) ?_
                          case hy283 => (intro w hSw; (try dsimp only at hSw); go_simp; try (with_reducible rfl))
                          (try simp only [Act.put, qa_, qb_, qc_])
                          refine wpAnyH_take (i := 17) (oi := ⟨some 130, _, _, _, _, _⟩) (v := ?v284) rfl (by kernel_rfl) (by kernel_rfl) (by kernel_rfl) (fun _ _ _ h => h) (Or.inl ⟨by rfl, ?hy284⟩) (by assumption) ?_
                          case hy284 => (intro w hSw; (try dsimp only at hSw); go_simp; try (with_reducible rfl))
                          (try simp only [Act.put, qa_, qb_, qc_])
                          refine wpAnyH_take (i := 18) (oi := ⟨some 131, _, _, _, _, _⟩) (v := ?v285) rfl (by kernel_rfl) (by kernel_rfl) (by kernel_rfl) (fun _ _ _ h => h) (Or.inl ⟨by rfl, ?hy285⟩) (by assumption) ?_
                          case hy285 => (intro w hSw; (try dsimp only at hSw); go_simp; try (with_reducible rfl))
                          (try simp only [Act.put, qa_, qb_, qc_])
                          refine wpAnyH_take (i := 19) (oi := ⟨some 132, _, _, _, _, _⟩) (v := ?v286) rfl (by kernel_rfl) (by kernel_rfl) (by kernel_rfl) (fun _ _ _ h => h) (Or.inl ⟨by rfl, ?hy286⟩) (by assumption) ?_
                          case hy286 => (intro w hSw; (try dsimp only at hSw); go_simp; try (with_reducible rfl))
                          (try simp only [Act.put, qa_, qb_, qc_])
                          refine wpAnyH_take (i := 20) (oi := ⟨some 133, _, _, _, _, _⟩) (v := ?v287) rfl (by kernel_rfl) (by kernel_rfl) (by kernel_rfl) (fun _ _ _ h => h) (Or.inl ⟨by rfl, ?hy287⟩) (by assumption) ?_
                          case hy287 => (intro w hSw; (try dsimp only at hSw); go_simp; try (with_reducible rfl))
                          (try simp only [Act.put, qa_, qb_, qc_])
                          refine wpAnyH_take (i := 21) (oi := ⟨some 134, _, _, _, _, _⟩) (v := ?v288) rfl (by kernel_rfl) (by kernel_rfl) (by kernel_rfl) (fun _ _ _ h => h) (Or.inl ⟨by rfl, ?hy288⟩) (by assumption) ?_
                          case hy288 => (intro w hSw; (try dsimp only at hSw); go_simp; try (with_reducible rfl))
                          (try simp only [Act.put, qa_, qb_, qc_])
                          refine wpAnyH_take (i := 22) (oi := ⟨some 135, _, _, _, _, _⟩) (v := ?v289) rfl (by kernel_rfl) (by kernel_rfl) (by kernel_rfl) (fun _ _ _ h => h) (Or.inl ⟨by rfl, ?hy289⟩) (by assumption) ?_
                          case hy289 => (intro w hSw; (try dsimp only at hSw); go_simp; try (with_reducible rfl))
                          (try simp only [Act.put, qa_, qb_, qc_])
                          refine wpAnyH_take (i := 23) (oi := ⟨some 136, _, _, _, _, _⟩) (v := ?v290) rfl (by kernel_rfl) (by kernel_rfl) (by kernel_rfl) (fun _ _ _ h => h) (Or.inl ⟨by rfl, ?hy290⟩) (by assumption) ?_
                          case hy290 => (intro w hSw; (try dsimp only at hSw); go_simp; try (with_reducible rfl))
                          (try simp only [Act.put, qa_, qb_, qc_])
                          refine wpAnyH_take (i := 24) (oi := ⟨some 137, _, _, _, _, _⟩) (v := ?v291) rfl (by kernel_rfl) (by kernel_rfl) (by kernel_rfl) (fun _ _ _ h => h) (Or.inl ⟨by rfl, ?hy291⟩) (by assumption) ?_
                          case hy291 => (intro w hSw; (try dsimp only at hSw); go_simp; try (with_reducible rfl))
                          (try simp only [Act.put, qa_, qb_, qc_])
                          refine wpAnyH_take (i := 25) (oi := ⟨some 138, _, _, _, _, _⟩) (v := ?v292) rfl (by kernel_rfl) (by kernel_rfl) (by kernel_rfl) (fun _ _ _ h => h) (Or.inl ⟨by rfl, ?hy292⟩) (by assumption) ?_
                          case hy292 => (intro w hSw; (try dsimp only at hSw); go_simp; try (with_reducible rfl))
                          (try simp only [Act.put, qa_, qb_, qc_])
                          refine wpAnyH_take (i := 26) (oi := ⟨some 139, _, _, _, _, _⟩) (v := ?v293) rfl (by kernel_rfl) (by kernel_rfl) (by kernel_rfl) (fun _ _ _ h => h) (Or.inl ⟨by rfl, ?hy293⟩) (by assumption) ?_
                          case hy293 => (intro w hSw; (try dsimp only at hSw); go_simp; try (with_reducible rfl))
                          (try simp only [Act.put, qa_, qb_, qc_])
                          refine wpAnyH_take (i := 27) (oi := ⟨some 140, _, _, _, _, _⟩) (v := ?v294) rfl (by kernel_rfl) (by kernel_rfl) (by kernel_rfl) (fun _ _ _ h => h) (Or.inl ⟨by rfl, ?hy294⟩) (by assumption) ?_
                          case hy294 => (intro w hSw; (try dsimp only at hSw); go_simp; try (with_reducible rfl))
                          (try simp only [Act.put, qa_, qb_, qc_])
                          refine wpAnyH_take (i := 28) (oi := ⟨some 141, _, _, _, _, _⟩) (v := ?v295) rfl (by kernel_rfl) (by kernel_rfl) (by kernel_rfl) (fun _ _ _ h => h) (Or.inl ⟨by rfl, ?hy295⟩) (by assumption) ?_
                          case hy295 => (intro w hSw; (try dsimp only at hSw); go_simp; try (with_reducible rfl))
                          (try simp only [Act.put, qa_, qb_, qc_])
                          refine wpAnyH_take (i := 29) (oi := ⟨some 142, _, _, _, _, _⟩) (v := ?v296) rfl (by kernel_rfl) (by kernel_rfl) (by kernel_rfl) (fun _ _ _ h => h) (Or.inl ⟨by rfl, ?hy296⟩) (by assumption) ?_
                          case hy296 => (intro w hSw; (try dsimp only at hSw); go_simp; try (with_reducible rfl))
                          (try simp only [Act.put, qa_, qb_, qc_])
                          refine wpAnyH_take (i := 30) (oi := ⟨some 143, _, _, _, _, _⟩) (v := ?v297) rfl (by kernel_rfl) (by kernel_rfl) (by kernel_rfl) (fun _ _ _ h => h) (Or.inl ⟨by rfl, ?hy297⟩) (by assumption) ?_
                          case hy297 => (intro w hSw; (try dsimp only at hSw); go_simp; try (with_reducible rfl))
                          (try simp only [Act.put, qa_, qb_, qc_])
                          refine wpAnyH_take (i := 31) (oi := ⟨some 144, _, _, _, _, _⟩) (v := ?v298) rfl (by kernel_rfl) (by kernel_rfl) (by kernel_rfl) (fun _ _ _ h => h) (Or.inl ⟨by rfl, ?hy298⟩) (by assumption) ?_
                          case hy298 => (intro w hSw; (try dsimp only at hSw); go_simp; try (with_reducible rfl))
                          (try simp only [Act.put, qa_, qb_, qc_])
                          refine wpAnyH_take (i := 32) (oi := ⟨some 145, _, _, _, _, _⟩) (v := ?v299) rfl (by kernel_rfl) (by kernel_rfl) (by kernel_rfl) (fun _ _ _ h => h) (Or.inl ⟨by rfl, ?hy299⟩) (by assumption) ?_
                          case hy299 => (intro w hSw; (try dsimp only at hSw); go_simp; try (with_reducible rfl))
                          (try simp only [Act.put, qa_, qb_, qc_])
                          refine wpAnyH_take (i := 33) (oi := ⟨some 146, _, _, _, _, _⟩) (v := ?v300) rfl (by kernel_rfl) (by kernel_rfl) (by kernel_rfl) (fun _ _ _ h => h) (Or.inl ⟨by rfl, ?hy300⟩) (by assumption) ?_
                          case hy300 => (intro w hSw; (try dsimp only at hSw); go_simp; try (with_reducible rfl))
                          (try simp only [Act.put, qa_, qb_, qc_])
                          refine wpAnyH_take (i := 34) (oi := ⟨some 147, _, _, _, _, _⟩) (v := ?v301) rfl (by kernel_rfl) (by kernel_rfl) (by kernel_rfl) (fun _ _ _ h => h) (Or.inl ⟨by rfl, ?hy301⟩) (by assumption) ?_
                          case hy301 => (intro w hSw; (try dsimp only at hSw); go_simp; try (with_reducible rfl))
                          (try simp only [Act.put, qa_, qb_, qc_])
                          refine wpAnyH_take (i := 35) (oi := ⟨some 148, _, _, _, _, _⟩) (v := ?v302) rfl (by kernel_rfl) (by kernel_rfl) (by kernel_rfl) (fun _ _ _ h => h) (Or.inl ⟨by rfl, ?hy302⟩) (by assumption) ?_
                          case hy302 => (intro w hSw; (try dsimp only at hSw); go_simp; try (with_reducible rfl))
                          (try simp only [Act.put, qa_, qb_, qc_])
                          refine wpAnyH_take (i := 36) (oi := ⟨some 149, _, _, _, _, _⟩) (v := ?v303) rfl (by kernel_rfl) (by kernel_rfl) (by kernel_rfl) (fun _ _ _ h => h) (Or.inl ⟨by rfl, ?hy303⟩) (by assumption) ?_
                          case hy303 => (intro w hSw; (try dsimp only at hSw); go_simp; try (with_reducible rfl))
                          (try simp only [Act.put, qa_, qb_, qc_])
                          refine wpAnyH_take (i := 37) (oi := ⟨some 150, _, _, _, _, _⟩) (v := ?v304) rfl (by kernel_rfl) (by kernel_rfl) (by kernel_rfl) (fun _ _ _ h => h) (Or.inl ⟨by rfl, ?hy304⟩) (by assumption) ?_
                          case hy304 => (intro w hSw; (try dsimp only at hSw); go_simp; try (with_reducible rfl))
                          (try simp only [Act.put, qa_, qb_, qc_])
                          refine wpAnyH_take (i := 38) (oi := ⟨some 151, _, _, _, _, _⟩) (v := ?v305) rfl (by kernel_rfl) (by kernel_rfl) (by kernel_rfl) (fun _ _ _ h => h) (Or.inl ⟨by rfl, ?hy305⟩) (by assumption) ?_
                          case hy305 => (intro w hSw; (try dsimp only at hSw); go_simp; try (with_reducible rfl))
                          (try simp only [Act.put, qa_, qb_, qc_])
                          refine wpAnyH_take (i := 39) (oi := ⟨some 152, _, _, _, _, _⟩) (v := ?v306) rfl (by kernel_rfl) (by kernel_rfl) (by kernel_rfl) (fun _ _ _ h => h) (Or.inl ⟨by rfl, ?hy306⟩) (by assumption) ?_
                          case hy306 => (intro w hSw; (try dsimp only at hSw); go_simp; try (with_reducible rfl))
                          (try simp only [Act.put, qa_, qb_, qc_])
                          refine wpAnyH_take (i := 40) (oi := ⟨some 153, _, _, _, _, _⟩) (v := ?v307) rfl (by kernel_rfl) (by kernel_rfl) (by kernel_rfl) (fun _ _ _ h => h) (Or.inl ⟨by rfl, ?hy307⟩) (by assumption) ?_
                          case hy307 => (intro w hSw; (try dsimp only at hSw); go_simp; try (with_reducible rfl))
                          (try simp only [Act.put, qa_, qb_, qc_])
                          refine wpAnyH_take (i := 41) (oi := ⟨some 154, _, _, _, _, _⟩) (v := ?v308) rfl (by kernel_rfl) (by kernel_rfl) (by kernel_rfl) (fun _ _ _ h => h) (Or.inl ⟨by rfl, ?hy308⟩) (by assumption) ?_
                          case hy308 => (intro w hSw; (try dsimp only at hSw); go_simp; try (with_reducible rfl))
                          (try simp only [Act.put, qa_, qb_, qc_])
                          refine wpAnyH_take (i := 42) (oi := ⟨some 155, _, _, _, _, _⟩) (v := ?v309) rfl (by kernel_rfl) (by kernel_rfl) (by kernel_rfl) (fun _ _ _ h => h) (Or.inl ⟨by rfl, ?hy309⟩) (by assumption) ?_
                          case hy309 => (intro w hSw; (try dsimp only at hSw); go_simp; try (with_reducible rfl))
                          (try simp only [Act.put, qa_, qb_, qc_])
                          refine wpAnyH_take (i := 43) (oi := ⟨some 156, _, _, _, _, _⟩) (v := ?v310) rfl (by kernel_rfl) (by kernel_rfl) (by kernel_rfl) (fun _ _ _ h => h) (Or.inl ⟨by rfl, ?hy310⟩) (by assumption) ?_
                          case hy310 => (intro w hSw; (try dsimp only at hSw); go_simp; try (with_reducible rfl))
                          (try simp only [Act.put, qa_, qb_, qc_])
                          refine wpAnyH_take (i := 44) (oi := ⟨some 157, _, _, _, _, _⟩) (v := ?v311) rfl (by kernel_rfl) (by kernel_rfl) (by kernel_rfl) (fun _ _ _ h => h) (Or.inl ⟨by rfl, ?hy311⟩) (by assumption) ?_
                          case hy311 => (intro w hSw; (try dsimp only at hSw); go_simp; try (with_reducible rfl))
                          (try simp only [Act.put, qa_, qb_, qc_])
                          refine wpAnyH_take (i := 45) (oi := ⟨some 158, _, _, _, _, _⟩) (v := ?v312) rfl (by kernel_rfl) (by kernel_rfl) (by kernel_rfl) (fun _ _ _ h => h) (Or.inl ⟨by rfl, ?hy312⟩) (by assumption) ?_
                          case hy312 => (intro w hSw; (try dsimp only at hSw); go_simp; try (with_reducible rfl))
                          (try simp only [Act.put, qa_, qb_, qc_])
                          refine wpAnyH_take (i := 46) (oi := ⟨some 159, _, _, _, _, _⟩) (v := ?v313) rfl (by kernel_rfl) (by kernel_rfl) (by kernel_rfl) (fun _ _ _ h => h) (Or.inl ⟨by rfl, ?hy313⟩) (by assumption) ?_
                          case hy313 => (intro w hSw; (try dsimp only at hSw); go_simp; try (with_reducible rfl))
                          (try simp only [Act.put, qa_, qb_, qc_])
                          refine wpAnyH_ready (rs := [47]) (by kernel_rfl) (by simp) ?_
                          refine AllReadyH.cons rfl (fun K hK => ?_) ?_
                          · go_simp
                            go_at_call 13
                            refine (l_same (slR_ints (tBy.reach rA (belx))).1 (slR_ints (tBy.reach rB (belx))).1).mono ?_
                            rintro e wz ⟨rfl, rfl⟩
                            rw [HSM.out]
                            go_wp2_with fail
                            refine hK.out _ _ (by exact hk _ (belx)) (fun hHeld => ?_)
                            clear hK K
                            (try simp only [Act.put, qa_, qb_, qc_])
                            refine wpAnyH_take (i := 48) (oi := ⟨some 161, _, _, _, _, _⟩) (v := ?v314) rfl (by kernel_rfl) (by kernel_rfl) (by kernel_rfl) (fun _ _ _ h => h) (Or.inl ⟨by rfl, ?hy314⟩) (by assumption) ?_
                            case hy314 => (intro w hSw; (try dsimp only at hSw); go_simp; try (with_reducible rfl))
                            (try simp only [Act.put, qa_, qb_, qc_])
                            refine wpAnyH_done (by kernel_rfl) ?_ _
                            go_wp2
                            go_roundw
                            case rel => exact ⟨j + 1, U, by go_num, by omega, by exact hU.drew, bel_trans hbr (belx), by first | exact .inl ⟨rfl, rfl, HNX.out⟩ | exact .inl ⟨trivial, trivial, HNX.out⟩ | simpa using HNX.out⟩
                            case measure => simp [intOf]; omega
                          exact AllReadyH.nil
                      · have HNX := Lib.hid (hnext (fun h => e2 (by have h2 := h.2; rw [hk2] at h2; injection h2 with h2; rw [h2])))
                        have g2u : (hc.2.1 == hb.2.1) = false := by simpa using e2
                        clear hk2 hnext sU hu e1 e2
                        have hk : ∀ W, Below wr.heap.size wr W → (fun w' => w'.cell? ⟨w1.heap.size, 0, none⟩ = some (.slice (some ⟨bx, ox, none⟩) n0 a0) ∧ w'.cell? ⟨wu.heap.size, j, none⟩ = some (.bool false) ∧ w'.cell? ⟨bl, ol + i * 3, none⟩ = some (.int .i64 hc.1) ∧ w'.cell? ⟨bl, ol + i * 3 + 1, none⟩ = some (.int .i64 hc.2.1) ∧ w'.cell? ⟨bl, ol + i * 3 + 2, none⟩ = some (.slice AC nC cC) ∧ w'.cell? ⟨bx, ox + j * 3, none⟩ = some (.int .i64 hb.1) ∧ w'.cell? ⟨bx, ox + j * 3 + 1, none⟩ = some (.int .i64 hb.2.1) ∧ w'.cell? ⟨bx, ox + j * 3 + 2, none⟩ = some (.slice AE nE cE)) W := fun W hW => ⟨cell_bel hW s0, cell_bel hW s1, cell_bel hW s2, cell_bel hW s3, cell_bel hW s4, cell_bel hW s5, cell_bel hW s6, cell_bel hW s7⟩
                        go_wp2_with fail
                        refine wp_region_held_drew (S := (fun w' => w'.cell? ⟨w1.heap.size, 0, none⟩ = some (.slice (some ⟨bx, ox, none⟩) n0 a0) ∧ w'.cell? ⟨wu.heap.size, j, none⟩ = some (.bool false) ∧ w'.cell? ⟨bl, ol + i * 3, none⟩ = some (.int .i64 hc.1) ∧ w'.cell? ⟨bl, ol + i * 3 + 1, none⟩ = some (.int .i64 hc.2.1) ∧ w'.cell? ⟨bl, ol + i * 3 + 2, none⟩ = some (.slice AC nC cC) ∧ w'.cell? ⟨bx, ox + j * 3, none⟩ = some (.int .i64 hb.1) ∧ w'.cell? ⟨bx, ox + j * 3 + 1, none⟩ = some (.int .i64 hb.2.1) ∧ w'.cell? ⟨bx, ox + j * 3 + 2, none⟩ = some (.slice AE nE cE))) (by kernel_rfl) (by exact hk _ (belx)) (fun hHeld => ?_)
                        refine wpAnyH_take (i := 0) (oi := ⟨some 113, _, _, _, _, _⟩) (v := ?v315) rfl (by kernel_rfl) (by kernel_rfl) (by kernel_rfl) (fun _ _ _ h => h) (Or.inl ⟨by rfl, ?hy315⟩) (by assumption) ?_
                        case hy315 => (intro w hSw; (try dsimp only at hSw); go_simp; try (with_reducible rfl))
                        (try simp only [Act.put, qa_, qb_, qc_])
                        refine wpAnyH_take (i := 1) (oi := ⟨some 114, _, _, _, _, _⟩) (v := ?v316) rfl (by kernel_rfl) (by kernel_rfl) (by kernel_rfl) (fun _ _ _ h => h) (Or.inl ⟨by rfl, ?hy316⟩) (by assumption) ?_
                        case hy316 => (intro w hSw; (try dsimp only at hSw); go_simp; try (with_reducible rfl))
                        (try simp only [Act.put, qa_, qb_, qc_])
                        refine wpAnyH_take (i := 2) (oi := ⟨some 115, _, _, _, _, _⟩) (v := ?v317) rfl (by kernel_rfl) (by kernel_rfl) (by kernel_rfl) (fun _ _ _ h => h) (Or.inl ⟨by rfl, ?hy317⟩) (by assumption) ?_
                        case hy317 => (intro w hSw; (try dsimp only at hSw); go_simp; try (with_reducible rfl))
                        (try simp only [Act.put, qa_, qb_, qc_])
                        refine wpAnyH_take (i := 3) (oi := ⟨some 116, _, _, _, _, _⟩) (v := ?v318) rfl (by kernel_rfl) (by kernel_rfl) (by kernel_rfl) (fun _ _ _ h => h) (Or.inl ⟨by rfl, ?hy318⟩) (by assumption) ?_
                        case hy318 => (intro w hSw; (try dsimp only at hSw); go_simp; try (with_reducible rfl))
                        (try simp only [Act.put, qa_, qb_, qc_])
                        refine wpAnyH_take (i := 4) (oi := ⟨some 117, _, _, _, _, _⟩) (v := ?v319) rfl (by kernel_rfl) (by kernel_rfl) (by kernel_rfl) (fun _ _ _ h => h) (Or.inl ⟨by rfl, ?hy319⟩) (by assumption) ?_
                        case hy319 => (intro w hSw; (try dsimp only at hSw); go_simp; try (with_reducible rfl))
                        (try simp only [Act.put, qa_, qb_, qc_])
                        refine wpAnyH_take (i := 5) (oi := ⟨some 118, _, _, _, _, _⟩) (v := ?v320) rfl (by kernel_rfl) (by kernel_rfl) (by kernel_rfl) (fun _ _ _ h => h) (Or.inl ⟨by rfl, ?hy320⟩) (by assumption) ?_
                        case hy320 => (intro w hSw; (try dsimp only at hSw); go_simp; try (with_reducible rfl))
                        (try simp only [Act.put, qa_, qb_, qc_])
                        refine wpAnyH_take (i := 6) (oi := ⟨some 119, _, _, _, _, _⟩) (v := ?v321) rfl (by kernel_rfl) (by kernel_rfl) (by kernel_rfl) (fun _ _ _ h => h) (Or.inl ⟨by rfl, ?hy321⟩) (by assumption) ?_
                        case hy321 => (intro w hSw; (try dsimp only at hSw); go_simp; try (with_reducible rfl))
                        (try simp only [Act.put, qa_, qb_, qc_])
                        refine wpAnyH_take (i := 7) (oi := ⟨some 120, _, _, _, _, _⟩) (v := ?v322) rfl (by kernel_rfl) (by kernel_rfl) (by kernel_rfl) (fun _ _ _ h => h) (Or.inl ⟨by rfl, ?hy322⟩) (by assumption) ?_
                        case hy322 => (intro w hSw; (try dsimp only at hSw); go_simp; try (with_reducible rfl))
                        (try simp only [Act.put, qa_, qb_, qc_])
                        refine wpAnyH_take (i := 8) (oi := ⟨some 121, _, _, _, _, _⟩) (v := ?v323) rfl (by kernel_rfl) (by kernel_rfl) (by kernel_rfl) (fun _ _ _ h => h) (Or.inl ⟨by rfl, ?hy323⟩) (by assumption) ?_
                        case hy323 => (intro w hSw; (try dsimp only at hSw); go_simp; try (with_reducible rfl))
                        (try simp only [Act.put, qa_, qb_, qc_])
                        refine wpAnyH_take (i := 9) (oi := ⟨some 122, _, _, _, _, _⟩) (v := ?v324) rfl (by kernel_rfl) (by kernel_rfl) (by kernel_rfl) (fun _ _ _ h => h) (Or.inl ⟨by rfl, ?hy324⟩) (by assumption) ?_
                        case hy324 => (intro w hSw; (try dsimp only at hSw); go_simp; try (with_reducible rfl))
                        (try simp only [Act.put, qa_, qb_, qc_])
                        refine wpAnyH_take (i := 10) (oi := ⟨some 123, _, _, _, _, _⟩) (v := ?v325) rfl (by kernel_rfl) (by kernel_rfl) (by kernel_rfl) (fun _ _ _ h => h) (Or.inl ⟨by rfl, ?hy325⟩) (by assumption) ?_
                        case hy325 => (intro w hSw; (try dsimp only at hSw); go_simp; try (with_reducible rfl))
                        (try simp only [Act.put, qa_, qb_, qc_])
                        refine wpAnyH_take (i := 11) (oi := ⟨some 124, _, _, _, _, _⟩) (v := ?v326) rfl (by kernel_rfl) (by kernel_rfl) (by kernel_rfl) (fun _ _ _ h => h) (Or.inl ⟨by rfl, ?hy326⟩) (by assumption) ?_
                        case hy326 => (intro w hSw; (try dsimp only at hSw); go_simp; try (with_reducible rfl))
                        (try simp only [Act.put, qa_, qb_, qc_])
                        refine wpAnyH_take (i := 12) (oi := ⟨some 125, _, _, _, _, _⟩) (v := ?v327) rfl (by kernel_rfl) (by kernel_rfl) (by kernel_rfl) (fun _ _ _ h => h) (Or.inl ⟨by rfl, ?hy327⟩) (by assumption) ?_
                        case hy327 => (intro w hSw; (try dsimp only at hSw); go_simp; try (with_reducible rfl))
                        (try simp only [Act.put, qa_, qb_, qc_])
                        refine wpAnyH_take (i := 13) (oi := ⟨some 126, _, _, _, _, _⟩) (v := ?v328) rfl (by kernel_rfl) (by kernel_rfl) (by kernel_rfl) (fun _ _ _ h => h) (Or.inl ⟨by rfl, ?hy328⟩) (by assumption) ?_
                        case hy328 => (intro w hSw; (try dsimp only at hSw); go_simp; try (with_reducible rfl))
                        (try simp only [Act.put, qa_, qb_, qc_])
                        refine wpAnyH_take (i := 14) (oi := ⟨some 127, _, _, _, _, _⟩) (v := ?v329) rfl (by kernel_rfl) (by kernel_rfl) (by kernel_rfl) (fun _ _ _ h => h) (Or.inl ⟨by rfl, ?hy329⟩) (by assumption) ?_
                        case hy329 => (intro w hSw; (try dsimp only at hSw); go_simp; try (with_reducible rfl))
                        (try simp only [Act.put, qa_, qb_, qc_])
                        refine wpAnyH_take (i := 15) (oi := ⟨some 128, _, _, _, _, _⟩) (v := ?v330) rfl (by kernel_rfl) (by kernel_rfl) (by kernel_rfl) (fun _ _ _ h => h) (Or.inl ⟨by rfl, ?hy330⟩) (by assumption) ?_
                        case hy330 => (intro w hSw; (try dsimp only at hSw); go_simp; try (with_reducible rfl))
                        (try simp only [Act.put, qa_, qb_, qc_])
                        refine wpAnyH_take (i := 16) (oi := ⟨some 129, _, _, _, _, _⟩) (v := ?v331) rfl (by kernel_rfl) (by kernel_rfl) (by kernel_rfl) (fun _ _ _ h => h) (Or.inl ⟨by rfl, ?hy331⟩) (by assumption) ?_
                        case hy331 => (intro w hSw; (try dsimp only at hSw); go_simp; try (with_reducible rfl))
                        (try simp only [Act.put, qa_, qb_, qc_])
                        refine wpAnyH_take (i := 17) (oi := ⟨some 130, _, _, _, _, _⟩) (v := ?v332) rfl (by kernel_rfl) (by kernel_rfl) (by kernel_rfl) (fun _ _ _ h => h) (Or.inl ⟨by rfl, ?hy332⟩) (by assumption) ?_
                        case hy332 => (intro w hSw; (try dsimp only at hSw); go_simp; try (with_reducible rfl))
                        (try simp only [Act.put, qa_, qb_, qc_])
                        refine wpAnyH_take (i := 18) (oi := ⟨some 131, _, _, _, _, _⟩) (v := ?v333) rfl (by kernel_rfl) (by kernel_rfl) (by kernel_rfl) (fun _ _ _ h => h) (Or.inl ⟨by rfl, ?hy333⟩) (by assumption) ?_
                        case hy333 => (intro w hSw; (try dsimp only at hSw); go_simp; try (with_reducible rfl))
                        (try simp only [Act.put, qa_, qb_, qc_])
                        refine wpAnyH_take (i := 19) (oi := ⟨some 132, _, _, _, _, _⟩) (v := ?v334) rfl (by kernel_rfl) (by kernel_rfl) (by kernel_rfl) (fun _ _ _ h => h) (Or.inl ⟨by rfl, ?hy334⟩) (by assumption) ?_
                        case hy334 => (intro w hSw; (try dsimp only at hSw); go_simp; try (with_reducible rfl))
                        (try simp only [Act.put, qa_, qb_, qc_])
                        refine wpAnyH_take (i := 20) (oi := ⟨some 133, _, _, _, _, _⟩) (v := ?v335) rfl (by kernel_rfl) (by kernel_rfl) (by kernel_rfl) (fun _ _ _ h => h) (Or.inl ⟨by rfl, ?hy335⟩) (by assumption) ?_
                        case hy335 => (intro w hSw; (try dsimp only at hSw); go_simp; try (with_reducible rfl))
                        (try simp only [Act.put, qa_, qb_, qc_])
                        refine wpAnyH_take (i := 21) (oi := ⟨some 134, _, _, _, _, _⟩) (v := ?v336) rfl (by kernel_rfl) (by kernel_rfl) (by kernel_rfl) (fun _ _ _ h => h) (Or.inl ⟨by rfl, ?hy336⟩) (by assumption) ?_
                        case hy336 => (intro w hSw; (try dsimp only at hSw); go_simp; try (with_reducible rfl))
                        (try simp only [Act.put, qa_, qb_, qc_])
                        refine wpAnyH_take (i := 22) (oi := ⟨some 135, _, _, _, _, _⟩) (v := ?v337) rfl (by kernel_rfl) (by kernel_rfl) (by kernel_rfl) (fun _ _ _ h => h) (Or.inl ⟨by rfl, ?hy337⟩) (by assumption) ?_
                        case hy337 => (intro w hSw; (try dsimp only at hSw); go_simp; try (with_reducible rfl))
                        (try simp only [Act.put, qa_, qb_, qc_])
                        refine wpAnyH_take (i := 23) (oi := ⟨some 136, _, _, _, _, _⟩) (v := ?v338) rfl (by kernel_rfl) (by kernel_rfl) (by kernel_rfl) (fun _ _ _ h => h) (Or.inl ⟨by rfl, ?hy338⟩) (by assumption) ?_
                        case hy338 => (intro w hSw; (try dsimp only at hSw); go_simp; try (with_reducible rfl))
                        (try simp only [Act.put, qa_, qb_, qc_])
                        refine wpAnyH_take (i := 24) (oi := ⟨some 137, _, _, _, _, _⟩) (v := ?v339) rfl (by kernel_rfl) (by kernel_rfl) (by kernel_rfl) (fun _ _ _ h => h) (Or.inl ⟨by rfl, ?hy339⟩) (by assumption) ?_
                        case hy339 => (intro w hSw; (try dsimp only at hSw); go_simp; try (with_reducible rfl))
                        (try simp only [Act.put, qa_, qb_, qc_])
                        refine wpAnyH_take (i := 25) (oi := ⟨some 138, _, _, _, _, _⟩) (v := ?v340) rfl (by kernel_rfl) (by kernel_rfl) (by kernel_rfl) (fun _ _ _ h => h) (Or.inl ⟨by rfl, ?hy340⟩) (by assumption) ?_
                        case hy340 => (intro w hSw; (try dsimp only at hSw); go_simp; try (with_reducible rfl))
                        (try simp only [Act.put, qa_, qb_, qc_])
                        refine wpAnyH_take (i := 26) (oi := ⟨some 139, _, _, _, _, _⟩) (v := ?v341) rfl (by kernel_rfl) (by kernel_rfl) (by kernel_rfl) (fun _ _ _ h => h) (Or.inl ⟨by rfl, ?hy341⟩) (by assumption) ?_
                        case hy341 => (intro w hSw; (try dsimp only at hSw); go_simp; try (with_reducible rfl))
                        (try simp only [Act.put, qa_, qb_, qc_])
                        refine wpAnyH_take (i := 27) (oi := ⟨some 140, _, _, _, _, _⟩) (v := ?v342) rfl (by kernel_rfl) (by kernel_rfl) (by kernel_rfl) (fun _ _ _ h => h) (Or.inl ⟨by rfl, ?hy342⟩) (by assumption) ?_
                        case hy342 => (intro w hSw; (try dsimp only at hSw); go_simp; try (with_reducible rfl))
                        (try simp only [Act.put, qa_, qb_, qc_])
                        refine wpAnyH_take (i := 28) (oi := ⟨some 141, _, _, _, _, _⟩) (v := ?v343) rfl (by kernel_rfl) (by kernel_rfl) (by kernel_rfl) (fun _ _ _ h => h) (Or.inl ⟨by rfl, ?hy343⟩) (by assumption) ?_
                        case hy343 => (intro w hSw; (try dsimp only at hSw); go_simp; try (with_reducible rfl))
                        (try simp only [Act.put, qa_, qb_, qc_])
                        refine wpAnyH_take (i := 29) (oi := ⟨some 142, _, _, _, _, _⟩) (v := ?v344) rfl (by kernel_rfl) (by kernel_rfl) (by kernel_rfl) (fun _ _ _ h => h) (Or.inl ⟨by rfl, ?hy344⟩) (by assumption) ?_
                        case hy344 => (intro w hSw; (try dsimp only at hSw); go_simp; try (with_reducible rfl))
                        (try simp only [Act.put, qa_, qb_, qc_])
                        refine wpAnyH_take (i := 30) (oi := ⟨some 143, _, _, _, _, _⟩) (v := ?v345) rfl (by kernel_rfl) (by kernel_rfl) (by kernel_rfl) (fun _ _ _ h => h) (Or.inl ⟨by rfl, ?hy345⟩) (by assumption) ?_
                        case hy345 => (intro w hSw; (try dsimp only at hSw); go_simp; try (with_reducible rfl))
                        (try simp only [Act.put, qa_, qb_, qc_])
                        refine wpAnyH_take (i := 31) (oi := ⟨some 144, _, _, _, _, _⟩) (v := ?v346) rfl (by kernel_rfl) (by kernel_rfl) (by kernel_rfl) (fun _ _ _ h => h) (Or.inl ⟨by rfl, ?hy346⟩) (by assumption) ?_
                        case hy346 => (intro w hSw; (try dsimp only at hSw); go_simp; try (with_reducible rfl))
                        (try simp only [Act.put, qa_, qb_, qc_])
                        refine wpAnyH_take (i := 32) (oi := ⟨some 145, _, _, _, _, _⟩) (v := ?v347) rfl (by kernel_rfl) (by kernel_rfl) (by kernel_rfl) (fun _ _ _ h => h) (Or.inl ⟨by rfl, ?hy347⟩) (by assumption) ?_
                        case hy347 => (intro w hSw; (try dsimp only at hSw); go_simp; try (with_reducible rfl))
                        (try simp only [Act.put, qa_, qb_, qc_])
                        refine wpAnyH_take (i := 33) (oi := ⟨some 146, _, _, _, _, _⟩) (v := ?v348) rfl (by kernel_rfl) (by kernel_rfl) (by kernel_rfl) (fun _ _ _ h => h) (Or.inl ⟨by rfl, ?hy348⟩) (by assumption) ?_
                        case hy348 => (intro w hSw; (try dsimp only at hSw); go_simp; try (with_reducible rfl))
                        (try simp only [Act.put, qa_, qb_, qc_])
                        refine wpAnyH_take (i := 34) (oi := ⟨some 147, _, _, _, _, _⟩) (v := undef) rfl (by kernel_rfl) (by kernel_rfl) (by kernel_rfl) (fun _ _ _ h => h) (Or.inr ⟨by rfl, rfl⟩) (by assumption) ?_
                        (try simp only [Act.put, qa_, qb_, qc_])
                        refine wpAnyH_take (i := 35) (oi := ⟨some 148, _, _, _, _, _⟩) (v := undef) rfl (by kernel_rfl) (by kernel_rfl) (by kernel_rfl) (fun _ _ _ h => h) (Or.inr ⟨by rfl, rfl⟩) (by assumption) ?_
                        (try simp only [Act.put, qa_, qb_, qc_])
                        refine wpAnyH_take (i := 36) (oi := ⟨some 149, _, _, _, _, _⟩) (v := undef) rfl (by kernel_rfl) (by kernel_rfl) (by kernel_rfl) (fun _ _ _ h => h) (Or.inr ⟨by rfl, rfl⟩) (by assumption) ?_
                        (try simp only [Act.put, qa_, qb_, qc_])
                        refine wpAnyH_take (i := 37) (oi := ⟨some 150, _, _, _, _, _⟩) (v := undef) rfl (by kernel_rfl) (by kernel_rfl) (by kernel_rfl) (fun _ _ _ h => h) (Or.inr ⟨by rfl, rfl⟩) (by assumption) ?_
                        (try simp only [Act.put, qa_, qb_, qc_])
                        refine wpAnyH_take (i := 38) (oi := ⟨some 151, _, _, _, _, _⟩) (v := undef) rfl (by kernel_rfl) (by kernel_rfl) (by kernel_rfl) (fun _ _ _ h => h) (Or.inr ⟨by rfl, rfl⟩) (by assumption) ?_
                        (try simp only [Act.put, qa_, qb_, qc_])
                        refine wpAnyH_take (i := 39) (oi := ⟨some 152, _, _, _, _, _⟩) (v := undef) rfl (by kernel_rfl) (by kernel_rfl) (by kernel_rfl) (fun _ _ _ h => h) (Or.inr ⟨by rfl, rfl⟩) (by assumption) ?_
                        (try simp only [Act.put, qa_, qb_, qc_])
                        refine wpAnyH_take (i := 40) (oi := ⟨some 153, _, _, _, _, _⟩) (v := undef) rfl (by kernel_rfl) (by kernel_rfl) (by kernel_rfl) (fun _ _ _ h => h) (Or.inr ⟨by rfl, rfl⟩) (by assumption) ?_
                        (try simp only [Act.put, qa_, qb_, qc_])
                        refine wpAnyH_take (i := 41) (oi := ⟨some 154, _, _, _, _, _⟩) (v := undef) rfl (by kernel_rfl) (by kernel_rfl) (by kernel_rfl) (fun _ _ _ h => h) (Or.inr ⟨by rfl, rfl⟩) (by assumption) ?_
                        (try simp only [Act.put, qa_, qb_, qc_])
                        refine wpAnyH_take (i := 42) (oi := ⟨some 155, _, _, _, _, _⟩) (v := undef) rfl (by kernel_rfl) (by kernel_rfl) (by kernel_rfl) (fun _ _ _ h => h) (Or.inr ⟨by rfl, rfl⟩) (by assumption) ?_
                        (try simp only [Act.put, qa_, qb_, qc_])
                        refine wpAnyH_take (i := 43) (oi := ⟨some 156, _, _, _, _, _⟩) (v := undef) rfl (by kernel_rfl) (by kernel_rfl) (by kernel_rfl) (fun _ _ _ h => h) (Or.inr ⟨by rfl, rfl⟩) (by assumption) ?_
                        (try simp only [Act.put, qa_, qb_, qc_])
                        refine wpAnyH_take (i := 44) (oi := ⟨some 157, _, _, _, _, _⟩) (v := undef) rfl (by kernel_rfl) (by kernel_rfl) (by kernel_rfl) (fun _ _ _ h => h) (Or.inr ⟨by rfl, rfl⟩) (by assumption) ?_
                        (try simp only [Act.put, qa_, qb_, qc_])
                        refine wpAnyH_take (i := 45) (oi := ⟨some 158, _, _, _, _, _⟩) (v := undef) rfl (by kernel_rfl) (by kernel_rfl) (by kernel_rfl) (fun _ _ _ h => h) (Or.inr ⟨by rfl, rfl⟩) (by assumption) ?_
                        (try simp only [Act.put, qa_, qb_, qc_])
                        refine wpAnyH_take (i := 46) (oi := ⟨some 159, _, _, _, _, _⟩) (v := undef) rfl (by kernel_rfl) (by kernel_rfl) (by kernel_rfl) (fun _ _ _ h => h) (Or.inr ⟨by rfl, rfl⟩) (by assumption) ?_
                        (try simp only [Act.put, qa_, qb_, qc_])
                        refine wpAnyH_take (i := 47) (oi := ⟨some 160, _, _, _, _, _⟩) (v := undef) rfl (by kernel_rfl) (by kernel_rfl) (by kernel_rfl) (fun _ _ _ h => h) (Or.inr ⟨by rfl, rfl⟩) (by assumption) ?_
                        (try simp only [Act.put, qa_, qb_, qc_])
                        refine wpAnyH_take (i := 48) (oi := ⟨some 161, _, _, _, _, _⟩) (v := ?v349) rfl (by kernel_rfl) (by kernel_rfl) (by kernel_rfl) (fun _ _ _ h => h) (Or.inl ⟨by rfl, ?hy349⟩) (by assumption) ?_
                        case hy349 => (intro w hSw; (try dsimp only at hSw); go_simp; try (with_reducible rfl))
                        (try simp only [Act.put, qa_, qb_, qc_])
                        refine wpAnyH_done (by kernel_rfl) ?_ _
                        go_wp2
                        go_roundw
                        case rel => exact ⟨j + 1, U, by go_num, by omega, by exact hU.drew, bel_trans hbr (belx), by first | exact .inl ⟨rfl, rfl, HNX.out⟩ | exact .inl ⟨trivial, trivial, HNX.out⟩ | simpa using HNX.out⟩
                        case measure => simp [intOf]; omega
                    · have HNX := Lib.hid (hnext (fun h => e1 (by have h2 := h.2; rw [hk2] at h2; injection h2 with h2; rw [h2])))
                      have g1u : (hc.1 == hb.1) = false := by simpa using e1
                      clear hk2 hnext sU hu e1
                      have hk : ∀ W, Below wr.heap.size wr W → (fun w' => w'.cell? ⟨w1.heap.size, 0, none⟩ = some (.slice (some ⟨bx, ox, none⟩) n0 a0) ∧ w'.cell? ⟨wu.heap.size, j, none⟩ = some (.bool false) ∧ w'.cell? ⟨bl, ol + i * 3, none⟩ = some (.int .i64 hc.1) ∧ w'.cell? ⟨bl, ol + i * 3 + 1, none⟩ = some (.int .i64 hc.2.1) ∧ w'.cell? ⟨bl, ol + i * 3 + 2, none⟩ = some (.slice AC nC cC) ∧ w'.cell? ⟨bx, ox + j * 3, none⟩ = some (.int .i64 hb.1) ∧ w'.cell? ⟨bx, ox + j * 3 + 1, none⟩ = some (.int .i64 hb.2.1) ∧ w'.cell? ⟨bx, ox + j * 3 + 2, none⟩ = some (.slice AE nE cE)) W := fun W hW => ⟨cell_bel hW s0, cell_bel hW s1, cell_bel hW s2, cell_bel hW s3, cell_bel hW s4, cell_bel hW s5, cell_bel hW s6, cell_bel hW s7⟩
                      go_wp2_with fail
                      refine wp_region_held_drew (S := (fun w' => w'.cell? ⟨w1.heap.size, 0, none⟩ = some (.slice (some ⟨bx, ox, none⟩) n0 a0) ∧ w'.cell? ⟨wu.heap.size, j, none⟩ = some (.bool false) ∧ w'.cell? ⟨bl, ol + i * 3, none⟩ = some (.int .i64 hc.1) ∧ w'.cell? ⟨bl, ol + i * 3 + 1, none⟩ = some (.int .i64 hc.2.1) ∧ w'.cell? ⟨bl, ol + i * 3 + 2, none⟩ = some (.slice AC nC cC) ∧ w'.cell? ⟨bx, ox + j * 3, none⟩ = some (.int .i64 hb.1) ∧ w'.cell? ⟨bx, ox + j * 3 + 1, none⟩ = some (.int .i64 hb.2.1) ∧ w'.cell? ⟨bx, ox + j * 3 + 2, none⟩ = some (.slice AE nE cE))) (by kernel_rfl) (by exact hk _ (belx)) (fun hHeld => ?_)
                      refine wpAnyH_take (i := 0) (oi := ⟨some 113, _, _, _, _, _⟩) (v := ?v350) rfl (by kernel_rfl) (by kernel_rfl) (by kernel_rfl) (fun _ _ _ h => h) (Or.inl ⟨by rfl, ?hy350⟩) (by assumption) ?_
                      case hy350 => (intro w hSw; (try dsimp only at hSw); go_simp; try (with_reducible rfl))
                      (try simp only [Act.put, qa_, qb_, qc_])
                      refine wpAnyH_take (i := 1) (oi := ⟨some 114, _, _, _, _, _⟩) (v := ?v351) rfl (by kernel_rfl) (by kernel_rfl) (by kernel_rfl) (fun _ _ _ h => h) (Or.inl ⟨by rfl, ?hy351⟩) (by assumption) ?_
                      case hy351 => (intro w hSw; (try dsimp only at hSw); go_simp; try (with_reducible rfl))
                      (try simp only [Act.put, qa_, qb_, qc_])
                      refine wpAnyH_take (i := 2) (oi := ⟨some 115, _, _, _, _, _⟩) (v := ?v352) rfl (by kernel_rfl) (by kernel_rfl) (by kernel_rfl) (fun _ _ _ h => h) (Or.inl ⟨by rfl, ?hy352⟩) (by assumption) ?_
                      case hy352 => (intro w hSw; (try dsimp only at hSw); go_simp; try (with_reducible rfl))
                      (try simp only [Act.put, qa_, qb_, qc_])
                      refine wpAnyH_take (i := 3) (oi := ⟨some 116, _, _, _, _, _⟩) (v := ?v353) rfl (by kernel_rfl) (by kernel_rfl) (by kernel_rfl) (fun _ _ _ h => h) (Or.inl ⟨by rfl, ?hy353⟩) (by assumption) ?_
                      case hy353 => (intro w hSw; (try dsimp only at hSw); go_simp; try (with_reducible rfl))
                      (try simp only [Act.put, qa_, qb_, qc_])
                      refine wpAnyH_take (i := 4) (oi := ⟨some 117, _, _, _, _, _⟩) (v := ?v354) rfl (by kernel_rfl) (by kernel_rfl) (by kernel_rfl) (fun _ _ _ h => h) (Or.inl ⟨by rfl, ?hy354⟩) (by assumption) ?_
                      case hy354 => (intro w hSw; (try dsimp only at hSw); go_simp; try (with_reducible rfl))
                      (try simp only [Act.put, qa_, qb_, qc_])
                      refine wpAnyH_take (i := 5) (oi := ⟨some 118, _, _, _, _, _⟩) (v := ?v355) rfl (by kernel_rfl) (by kernel_rfl) (by kernel_rfl) (fun _ _ _ h => h) (Or.inl ⟨by rfl, ?hy355⟩) (by assumption) ?_
                      case hy355 => (intro w hSw; (try dsimp only at hSw); go_simp; try (with_reducible rfl))
                      (try simp only [Act.put, qa_, qb_, qc_])
                      refine wpAnyH_take (i := 6) (oi := ⟨some 119, _, _, _, _, _⟩) (v := ?v356) rfl (by kernel_rfl) (by kernel_rfl) (by kernel_rfl) (fun _ _ _ h => h) (Or.inl ⟨by rfl, ?hy356⟩) (by assumption) ?_
                      case hy356 => (intro w hSw; (try dsimp only at hSw); go_simp; try (with_reducible rfl))
                      (try simp only [Act.put, qa_, qb_, qc_])
                      refine wpAnyH_take (i := 7) (oi := ⟨some 120, _, _, _, _, _⟩) (v := ?v357) rfl (by kernel_rfl) (by kernel_rfl) (by kernel_rfl) (fun _ _ _ h => h) (Or.inl ⟨by rfl, ?hy357⟩) (by assumption) ?_
                      case hy357 => (intro w hSw; (try dsimp only at hSw); go_simp; try (with_reducible rfl))
                      (try simp only [Act.put, qa_, qb_, qc_])
                      refine wpAnyH_take (i := 8) (oi := ⟨some 121, _, _, _, _, _⟩) (v := ?v358) rfl (by kernel_rfl) (by kernel_rfl) (by kernel_rfl) (fun _ _ _ h => h) (Or.inl ⟨by rfl, ?hy358⟩) (by assumption) ?_
                      case hy358 => (intro w hSw; (try dsimp only at hSw); go_simp; try (with_reducible rfl))
                      (try simp only [Act.put, qa_, qb_, qc_])
                      refine wpAnyH_take (i := 9) (oi := ⟨some 122, _, _, _, _, _⟩) (v := ?v359) rfl (by kernel_rfl) (by kernel_rfl) (by kernel_rfl) (fun _ _ _ h => h) (Or.inl ⟨by rfl, ?hy359⟩) (by assumption) ?_
                      case hy359 => (intro w hSw; (try dsimp only at hSw); go_simp; try (with_reducible rfl))
                      (try simp only [Act.put, qa_, qb_, qc_])
                      refine wpAnyH_take (i := 10) (oi := ⟨some 123, _, _, _, _, _⟩) (v := ?v360) rfl (by kernel_rfl) (by kernel_rfl) (by kernel_rfl) (fun _ _ _ h => h) (Or.inl ⟨by rfl, ?hy360⟩) (by assumption) ?_
                      case hy360 => (intro w hSw; (try dsimp only at hSw); go_simp; try (with_reducible rfl))
                      (try simp only [Act.put, qa_, qb_, qc_])
                      refine wpAnyH_take (i := 11) (oi := ⟨some 124, _, _, _, _, _⟩) (v := ?v361) rfl (by kernel_rfl) (by kernel_rfl) (by kernel_rfl) (fun _ _ _ h => h) (Or.inl ⟨by rfl, ?hy361⟩) (by assumption) ?_
                      case hy361 => (intro w hSw; (try dsimp only at hSw); go_simp; try (with_reducible rfl))
                      (try simp only [Act.put, qa_, qb_, qc_])
                      refine wpAnyH_take (i := 12) (oi := ⟨some 125, _, _, _, _, _⟩) (v := ?v362) rfl (by kernel_rfl) (by kernel_rfl) (by kernel_rfl) (fun _ _ _ h => h) (Or.inl ⟨by rfl, ?hy362⟩) (by assumption) ?_
                      case hy362 => (intro w hSw; (try dsimp only at hSw); go_simp; try (with_reducible rfl))
                      (try simp only [Act.put, qa_, qb_, qc_])
                      refine wpAnyH_take (i := 13) (oi := ⟨some 126, _, _, _, _, _⟩) (v := ?v363) rfl (by kernel_rfl) (by kernel_rfl) (by kernel_rfl) (fun _ _ _ h => h) (Or.inl ⟨by rfl, ?hy363⟩) (by assumption) ?_
                      case hy363 => (intro w hSw; (try dsimp only at hSw); go_simp; try (with_reducible rfl))
                      (try simp only [Act.put, qa_, qb_, qc_])
                      refine wpAnyH_take (i := 14) (oi := ⟨some 127, _, _, _, _, _⟩) (v := ?v364) rfl (by kernel_rfl) (by kernel_rfl) (by kernel_rfl) (fun _ _ _ h => h) (Or.inl ⟨by rfl, ?hy364⟩) (by assumption) ?_
                      case hy364 => (intro w hSw; (try dsimp only at hSw); go_simp; try (with_reducible rfl))
                      (try simp only [Act.put, qa_, qb_, qc_])
                      refine wpAnyH_take (i := 15) (oi := ⟨some 128, _, _, _, _, _⟩) (v := ?v365) rfl (by kernel_rfl) (by kernel_rfl) (by kernel_rfl) (fun _ _ _ h => h) (Or.inl ⟨by rfl, ?hy365⟩) (by assumption) ?_
                      case hy365 => (intro w hSw; (try dsimp only at hSw); go_simp; try (with_reducible rfl))
                      (try simp only [Act.put, qa_, qb_, qc_])
                      refine wpAnyH_take (i := 16) (oi := ⟨some 129, _, _, _, _, _⟩) (v := ?v366) rfl (by kernel_rfl) (by kernel_rfl) (by kernel_rfl) (fun _ _ _ h => h) (Or.inl ⟨by rfl, ?hy366⟩) (by assumption) ?_
                      case hy366 => (intro w hSw; (try dsimp only at hSw); go_simp; try (with_reducible rfl))
                      (try simp only [Act.put, qa_, qb_, qc_])
                      refine wpAnyH_take (i := 17) (oi := ⟨some 130, _, _, _, _, _⟩) (v := ?v367) rfl (by kernel_rfl) (by kernel_rfl) (by kernel_rfl) (fun _ _ _ h => h) (Or.inl ⟨by rfl, ?hy367⟩) (by assumption) ?_
                      case hy367 => (intro w hSw; (try dsimp only at hSw); go_simp; try (with_reducible rfl))
                      (try simp only [Act.put, qa_, qb_, qc_])
                      refine wpAnyH_take (i := 18) (oi := ⟨some 131, _, _, _, _, _⟩) (v := ?v368) rfl (by kernel_rfl) (by kernel_rfl) (by kernel_rfl) (fun _ _ _ h => h) (Or.inl ⟨by rfl, ?hy368⟩) (by assumption) ?_
                      case hy368 => (intro w hSw; (try dsimp only at hSw); go_simp; try (with_reducible rfl))
                      (try simp only [Act.put, qa_, qb_, qc_])
                      refine wpAnyH_take (i := 19) (oi := ⟨some 132, _, _, _, _, _⟩) (v := ?v369) rfl (by kernel_rfl) (by kernel_rfl) (by kernel_rfl) (fun _ _ _ h => h) (Or.inl ⟨by rfl, ?hy369⟩) (by assumption) ?_
                      case hy369 => (intro w hSw; (try dsimp only at hSw); go_simp; try (with_reducible rfl))
                      (try simp only [Act.put, qa_, qb_, qc_])
                      refine wpAnyH_take (i := 20) (oi := ⟨some 133, _, _, _, _, _⟩) (v := undef) rfl (by kernel_rfl) (by kernel_rfl) (by kernel_rfl) (fun _ _ _ h => h) (Or.inr ⟨by rfl, rfl⟩) (by assumption) ?_
                      (try simp only [Act.put, qa_, qb_, qc_])
                      refine wpAnyH_take (i := 21) (oi := ⟨some 134, _, _, _, _, _⟩) (v := undef) rfl (by kernel_rfl) (by kernel_rfl) (by kernel_rfl) (fun _ _ _ h => h) (Or.inr ⟨by rfl, rfl⟩) (by assumption) ?_
                      (try simp only [Act.put, qa_, qb_, qc_])
                      refine wpAnyH_take (i := 22) (oi := ⟨some 135, _, _, _, _, _⟩) (v := undef) rfl (by kernel_rfl) (by kernel_rfl) (by kernel_rfl) (fun _ _ _ h => h) (Or.inr ⟨by rfl, rfl⟩) (by assumption) ?_
                      (try simp only [Act.put, qa_, qb_, qc_])
                      refine wpAnyH_take (i := 23) (oi := ⟨some 136, _, _, _, _, _⟩) (v := undef) rfl (by kernel_rfl) (by kernel_rfl) (by kernel_rfl) (fun _ _ _ h => h) (Or.inr ⟨by rfl, rfl⟩) (by assumption) ?_
                      (try simp only [Act.put, qa_, qb_, qc_])
                      refine wpAnyH_take (i := 24) (oi := ⟨some 137, _, _, _, _, _⟩) (v := undef) rfl (by kernel_rfl) (by kernel_rfl) (by kernel_rfl) (fun _ _ _ h => h) (Or.inr ⟨by rfl, rfl⟩) (by assumption) ?_
                      (try simp only [Act.put, qa_, qb_, qc_])
                      refine wpAnyH_take (i := 25) (oi := ⟨some 138, _, _, _, _, _⟩) (v := undef) rfl (by kernel_rfl) (by kernel_rfl) (by kernel_rfl) (fun _ _ _ h => h) (Or.inr ⟨by rfl, rfl⟩) (by assumption) ?_
                      (try simp only [Act.put, qa_, qb_, qc_])
                      refine wpAnyH_take (i := 26) (oi := ⟨some 139, _, _, _, _, _⟩) (v := undef) rfl (by kernel_rfl) (by kernel_rfl) (by kernel_rfl) (fun _ _ _ h => h) (Or.inr ⟨by rfl, rfl⟩) (by assumption) ?_
                      (try simp only [Act.put, qa_, qb_, qc_])
                      refine wpAnyH_take (i := 27) (oi := ⟨some 140, _, _, _, _, _⟩) (v := undef) rfl (by kernel_rfl) (by kernel_rfl) (by kernel_rfl) (fun _ _ _ h => h) (Or.inr ⟨by rfl, rfl⟩) (by assumption) ?_
                      (try simp only [Act.put, qa_, qb_, qc_])
                      refine wpAnyH_take (i := 28) (oi := ⟨some 141, _, _, _, _, _⟩) (v := undef) rfl (by kernel_rfl) (by kernel_rfl) (by kernel_rfl) (fun _ _ _ h => h) (Or.inr ⟨by rfl, rfl⟩) (by assumption) ?_
                      (try simp only [Act.put, qa_, qb_, qc_])
                      refine wpAnyH_take (i := 29) (oi := ⟨some 142, _, _, _, _, _⟩) (v := undef) rfl (by kernel_rfl) (by kernel_rfl) (by kernel_rfl) (fun _ _ _ h => h) (Or.inr ⟨by rfl, rfl⟩) (by assumption) ?_
                      (try simp only [Act.put, qa_, qb_, qc_])
                      refine wpAnyH_take (i := 30) (oi := ⟨some 143, _, _, _, _, _⟩) (v := undef) rfl (by kernel_rfl) (by kernel_rfl) (by kernel_rfl) (fun _ _ _ h => h) (Or.inr ⟨by rfl, rfl⟩) (by assumption) ?_
                      (try simp only [Act.put, qa_, qb_, qc_])
                      refine wpAnyH_take (i := 31) (oi := ⟨some 144, _, _, _, _, _⟩) (v := undef) rfl (by kernel_rfl) (by kernel_rfl) (by kernel_rfl) (fun _ _ _ h => h) (Or.inr ⟨by rfl, rfl⟩) (by assumption) ?_
                      (try simp only [Act.put, qa_, qb_, qc_])
                      refine wpAnyH_take (i := 32) (oi := ⟨some 145, _, _, _, _, _⟩) (v := ?v370) rfl (by kernel_rfl) (by kernel_rfl) (by kernel_rfl) (fun _ _ _ h => h) (Or.inl ⟨by rfl, ?hy370⟩) (by assumption) ?_
                      case hy370 => (intro w hSw; (try dsimp only at hSw); go_simp; try (with_reducible rfl))
                      (try simp only [Act.put, qa_, qb_, qc_])
                      refine wpAnyH_take (i := 33) (oi := ⟨some 146, _, _, _, _, _⟩) (v := ?v371) rfl (by kernel_rfl) (by kernel_rfl) (by kernel_rfl) (fun _ _ _ h => h) (Or.inl ⟨by rfl, ?hy371⟩) (by assumption) ?_
                      case hy371 => (intro w hSw; (try dsimp only at hSw); go_simp; try (with_reducible rfl))
                      (try simp only [Act.put, qa_, qb_, qc_])
                      refine wpAnyH_take (i := 34) (oi := ⟨some 147, _, _, _, _, _⟩) (v := undef) rfl (by kernel_rfl) (by kernel_rfl) (by kernel_rfl) (fun _ _ _ h => h) (Or.inr ⟨by rfl, rfl⟩) (by assumption) ?_
                      (try simp only [Act.put, qa_, qb_, qc_])
                      refine wpAnyH_take (i := 35) (oi := ⟨some 148, _, _, _, _, _⟩) (v := undef) rfl (by kernel_rfl) (by kernel_rfl) (by kernel_rfl) (fun _ _ _ h => h) (Or.inr ⟨by rfl, rfl⟩) (by assumption) ?_
                      (try simp only [Act.put, qa_, qb_, qc_])
                      refine wpAnyH_take (i := 36) (oi := ⟨some 149, _, _, _, _, _⟩) (v := undef) rfl (by kernel_rfl) (by kernel_rfl) (by kernel_rfl) (fun _ _ _ h => h) (Or.inr ⟨by rfl, rfl⟩) (by assumption) ?_
                      (try simp only [Act.put, qa_, qb_, qc_])
                      refine wpAnyH_take (i := 37) (oi := ⟨some 150, _, _, _, _, _⟩) (v := undef) rfl (by kernel_rfl) (by kernel_rfl) (by kernel_rfl) (fun _ _ _ h => h) (Or.inr ⟨by rfl, rfl⟩) (by assumption) ?_
                      (try simp only [Act.put, qa_, qb_, qc_])
                      refine wpAnyH_take (i := 38) (oi := ⟨some 151, _, _, _, _, _⟩) (v := undef) rfl (by kernel_rfl) (by kernel_rfl) (by kernel_rfl) (fun _ _ _ h => h) (Or.inr ⟨by rfl, rfl⟩) (by assumption) ?_
                      (try simp only [Act.put, qa_, qb_, qc_])
                      refine wpAnyH_take (i := 39) (oi := ⟨some 152, _, _, _, _, _⟩) (v := undef) rfl (by kernel_rfl) (by kernel_rfl) (by kernel_rfl) (fun _ _ _ h => h) (Or.inr ⟨by rfl, rfl⟩) (by assumption) ?_
                      (try simp only [Act.put, qa_, qb_, qc_])
                      refine wpAnyH_take (i := 40) (oi := ⟨some 153, _, _, _, _, _⟩) (v := undef) rfl (by kernel_rfl) (by kernel_rfl) (by kernel_rfl) (fun _ _ _ h => h) (Or.inr ⟨by rfl, rfl⟩) (by assumption) ?_
                      (try simp only [Act.put, qa_, qb_, qc_])
                      refine wpAnyH_take (i := 41) (oi := ⟨some 154, _, _, _, _, _⟩) (v := undef) rfl (by kernel_rfl) (by kernel_rfl) (by kernel_rfl) (fun _ _ _ h => h) (Or.inr ⟨by rfl, rfl⟩) (by assumption) ?_
                      (try simp only [Act.put, qa_, qb_, qc_])
                      refine wpAnyH_take (i := 42) (oi := ⟨some 155, _, _, _, _, _⟩) (v := undef) rfl (by kernel_rfl) (by kernel_rfl) (by kernel_rfl) (fun _ _ _ h => h) (Or.inr ⟨by rfl, rfl⟩) (by assumption) ?_
                      (try simp only [Act.put, qa_, qb_, qc_])
                      refine wpAnyH_take (i := 43) (oi := ⟨some 156, _, _, _, _, _⟩) (v := undef) rfl (by kernel_rfl) (by kernel_rfl) (by kernel_rfl) (fun _ _ _ h => h) (Or.inr ⟨by rfl, rfl⟩) (by assumption) ?_
                      (try simp only [Act.put, qa_, qb_, qc_])
                      refine wpAnyH_take (i := 44) (oi := ⟨some 157, _, _, _, _, _⟩) (v := undef) rfl (by kernel_rfl) (by kernel_rfl) (by kernel_rfl) (fun _ _ _ h => h) (Or.inr ⟨by rfl, rfl⟩) (by assumption) ?_
                      (try simp only [Act.put, qa_, qb_, qc_])
                      refine wpAnyH_take (i := 45) (oi := ⟨some 158, _, _, _, _, _⟩) (v := undef) rfl (by kernel_rfl) (by kernel_rfl) (by kernel_rfl) (fun _ _ _ h => h) (Or.inr ⟨by rfl, rfl⟩) (by assumption) ?_
                      (try simp only [Act.put, qa_, qb_, qc_])
                      refine wpAnyH_take (i := 46) (oi := ⟨some 159, _, _, _, _, _⟩) (v := undef) rfl (by kernel_rfl) (by kernel_rfl) (by kernel_rfl) (fun _ _ _ h => h) (Or.inr ⟨by rfl, rfl⟩) (by assumption) ?_
                      (try simp only [Act.put, qa_, qb_, qc_])
                      refine wpAnyH_take (i := 47) (oi := ⟨some 160, _, _, _, _, _⟩) (v := undef) rfl (by kernel_rfl) (by kernel_rfl) (by kernel_rfl) (fun _ _ _ h => h) (Or.inr ⟨by rfl, rfl⟩) (by assumption) ?_
                      (try simp only [Act.put, qa_, qb_, qc_])
                      refine wpAnyH_take (i := 48) (oi := ⟨some 161, _, _, _, _, _⟩) (v := ?v372) rfl (by kernel_rfl) (by kernel_rfl) (by kernel_rfl) (fun _ _ _ h => h) (Or.inl ⟨by rfl, ?hy372⟩) (by assumption) ?_
                      case hy372 => (intro w hSw; (try dsimp only at hSw); go_simp; try (with_reducible rfl))
                      (try simp only [Act.put, qa_, qb_, qc_])
                      refine wpAnyH_done (by kernel_rfl) ?_ _
                      go_wp2
                      go_roundw
                      case rel => exact ⟨j + 1, U, by go_num, by omega, by exact hU.drew, bel_trans hbr (belx), by first | exact .inl ⟨rfl, rfl, HNX.out⟩ | exact .inl ⟨trivial, trivial, HNX.out⟩ | simpa using HNX.out⟩
                      case measure => simp [intOf]; omega
                · exfalso
                  obtain ⟨t, h1, h2, h3⟩ := HEX.out
                  rw [N0.out] at h1
                  exact hno t (by omega) ⟨h2, h3⟩
              · have HP2 := Lib.hid ((hfd.trans HDR.out).cons_inv)
                clear hfd
                by_cases hlt2 : j < n0
                · have hdj : decide ((j : Int) < (n0 : Int)) = true := decide_eq_true (by omega)
                  go_wp2
                  go_roundw
                  case rel => exact ⟨i + 1, U2, by go_num, by omega, hU, HP2.out, hbr⟩
                  case measure => simp [intOf]; omega
                · obtain rfl : n0 = j := by omega
                  go_wp2
                  go_roundw
                  case rel => exact ⟨i + 1, U2, by go_num, by omega, hU, HP2.out, hbr⟩
                  case measure => simp [intOf]; omega
          · obtain rfl : n0 = i := by omega
            have hB8 := bel_trans hB5 hbr0
            go_wp2_with fail
            refine (l_pools _).mono ?_
            rintro e w9 ⟨rfl, hb9⟩
            go_wp2_with fail
            go_ret
            exact ⟨rfl, bel_trans hB8 hb9⟩

/-! ### THE ROW's STEP: WRITTEN OUT: LEAVE IT -/
set_option maxRecDepth 100000 in
theorem lifted (os : Os) (started : os.Started) (H : Type) (enc : TypeId × Value → H) :
    ReturnsInHanded {} Try.checked os 5 .any (Rows.fnFlushesSpec.pre6 enc Try.prog Try.f5 Rows.fnFlushesRow.domain false) (Rows.fnFlushesSpec.post enc Try.prog Try.f5 false true false false) := by
  refine returnsInHanded_of_change_sized (C := Try.checked) own started (by kernel_rfl) Try.func5
    (ChangeSpec.witness6 (enc := enc) (C := Try.checked) false ⟨#[], #[.slice none 0 0], []⟩ 8 (by kernel_rfl) (by kernel_rfl) (by kernel_rfl) (by kernel_rfl)) ?_
  intro W base args ds gs before hval0 hW hcnd hsz0 _
  have hval : ∀ (j : Nat) t v, Try.f5.params[j]? = some t → args[j]? = some v → Value.okWide Try.prog W .any base t v := hval0
  have hW' := hW
  obtain ⟨p, q, hA0, hV, rfl, hfz, hnd⟩ := hW
  have hA : DataW.TrodAll enc Try.prog W 0 (fun _ => true) true Try.f5.params.toList args.toList ds p := hA0
  have hsz : (DataW.weightsEach Try.prog (Try.f5.params.toList ++ Rows.fnFlushesSpec.plain.varTypes Try.prog) (ds ++ gs)).all (· ≤ reachBytes) = true := hsz0
  rw [Try.params5] at hA hval hsz
  obtain ⟨v0, vs0, d0, ds0, p0, q0, hargs, rfl, rfl, h0, r0⟩ := trodAll_cons hA
  obtain ⟨rfl, rfl, rfl⟩ := trodAll_nil r0
  obtain rfl : args = #[v0] := by cases args; simp_all
  obtain ⟨rfl, rfl⟩ := trodVars_none hV
  obtain ⟨a0, len0, cap0, rfl⟩ := okWide_slice Try.underlying22 (hval 0 22 v0 rfl rfl)
  have k0 := h0
  have lt0 : ∀ x ∈ p0, x.block < W.heap.size := by obtain ⟨m, hm⟩ := k0; exact DataW.trod_lt m _ _ _ hm
  obtain ⟨z0, w0, r0⟩ : ∃ zs, IsRow .u8 W a0 len0 cap0 zs ∧ cap0 ≤ 140737488351232 := by
    obtain ⟨fuel, hf⟩ := h0
    rcases open_ints Try.underlying22 Try.underlying5 (by kernel_rfl) hf with ⟨hcs, _⟩ | ⟨x, l, c, zs, hcs, _, hl, hm, hz, hxx, hcell, hwz⟩
    · simp [Value.cells] at hcs
      obtain ⟨rfl, rfl, rfl⟩ := hcs
      exact ⟨[], .inl ⟨rfl, rfl, rfl, rfl⟩, by omega⟩
    · simp [Value.cells] at hcs
      obtain ⟨rfl, rfl, rfl⟩ := hcs
      have hz' : zs.length = cap0 := by simpa using hz
      refine ⟨zs, .inr ⟨_, rfl, hl, hm, hz', hcell, hwz⟩, ?_⟩
      simp only [Prod.mk.injEq] at hxx
      rw [hxx.1] at hsz
      have h := sized_slice hsz (j := 0) (t := 22) (e := 5) rfl rfl Try.underlying22
      rw [bytes5] at h
      simp only [lits, List.length_map, List.length_take, List.length_drop, reachBytes] at h
      omega
  clear hA0 hval0
  refine (walk a0 len0 cap0 z0 W w0 r0).mono fun e W' ⟨he, bel⟩ => ?_
  subst he
  exact ⟨_, rfl, _, _, _, [], _, [], hW', trodAll_mk1 (shut_bool Try.underlying4 _), (trodAll_cons_mk (Below.trod laidOut (by kernel_rfl) (of_decide_eq_true (by kernel_rfl)) k0 bel lt0) trodAll_mk0), rfl, bel.frame _, fun h => by cases h⟩

theorem over : Rows.fnFlushesRow.holds Try.pinned (OpenSpec.ofChange Rows.fnFlushesSpec) :=
  OpenClaim.holds_of_wide 5 Try.f5 rfl rfl rfl rfl rfl rfl rfl ⟨rfl, rfl, rfl, rfl, rfl⟩ rfl rfl rfl rfl rfl (by kernel_rfl) Try.func5 (by kernel_rfl)
    (of_decide_eq_true (by kernel_rfl)) (by unfold Func.isWrapper; first | (rw [if_pos (by decide +kernel)]; kernel_rfl) | (rw [if_neg (by decide +kernel)]; exact ⟨rfl, rfl⟩))
    (fun os started H enc _ => lifted os started H enc)

/-- ████ THE STATEMENT ████ -/
theorem proved : Rows.FnFlushesSaid := over
#print axioms proved
end Go.Proofs.Ytblcfncjghkegaa.fnFlushes
