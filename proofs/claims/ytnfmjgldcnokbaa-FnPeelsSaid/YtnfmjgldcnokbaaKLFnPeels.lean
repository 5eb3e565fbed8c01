/-
  For every draw: removing a layer yields a cell for the next node with the same expiry time and the same bytes that this node would have been sent. No further condition.
-/
import Derived.Test.YtnfmjgldcnokbaaKGr
import Derived.Test.YtnfmjgldcnokbaaKGv
import Derived.Test.YtnfmjgldcnokbaaKGw
import Derived.Test.YtnfmjgldcnokbaaRows
import Derived.Below
import Derived.ChangeOld
import Derived.Deep.Cut
import Derived.Deep.CutRange
import Derived.Deep.DeepCutAuto
import Derived.OpenShut
import Derived.ProofKit
import Derived.ShutString
import Derived.SizedLaws
import Derived.WalkKit
namespace Go.Proofs.Ytnfmjgldcnokbaa.fnPeels
open Go.ChangeShapes Go.WideShapes Go.ChangeAt Go.RowKit
open Go.ChangeMaps (open_string shut_string)
set_option linter.unusedVariables false

theorem bytes5 : Try.prog.bytesOf 5 = 1 := by kernel_rfl
open Go.Proofs.Ytnfmjgldcnokbaa Fld
theorem own : ownKnob Try.prog.godebug = none := by kernel_rfl
theorem laidOut : laidOutB Try.prog = true := by kernel_rfl

/-- WHAT THE WALK IS TOLD OF A SLICE OF INTEGERS THAT CAME IN: it is nil; or it leads to a row of 'cap' cells, the numbers 'zs' (the first 'len' are its elements, the rest its spare room), each fitting its kind. -/
def IsRow (k : IntKind) (w : World) (a : Option Addr) (len cap : Nat) (zs : List Int) : Prop :=
  (a = none ∧ len = 0 ∧ cap = 0 ∧ zs = []) ∨
  ∃ x, a = some x ∧ len ≤ cap ∧ cap ≤ maxLen ∧ zs.length = cap ∧ (∀ i, i < zs.length → w.cell? (x.add i) = some (.int k (zs.getD i 0))) ∧ ∀ n ∈ zs, (Lit.int k n).wf = true

theorem rowInts {w : World} {a : Option Addr} {n c : Nat} {zs : List Int} (h : IsRow .u8 w a n c zs) : Ints .u8 w w.heap.size a n (zs.take n) ∧ n ≤ c := by
  rcases h with ⟨rfl, rfl, rfl, rfl⟩ | ⟨x, rfl, hl, _, hz, hc, hw⟩
  · exact ⟨Ints.nil, Nat.le_refl _⟩
  · exact ⟨Ints.ofRow (by omega) hc hw, hl⟩
theorem shapeR {K : IntKind} {w : World} {B : Nat} {v : Value} {l : List Int} (h : (tSl K).R w B [v] l) : ∃ A c, v = .slice A l.length c := by
  obtain ⟨A, n, c, e, -, -, hI⟩ := h
  injection e with e _
  subst e
  exact ⟨A, c, by rw [hI.1]⟩
theorem sizeR {w : World} {cs : List Value} {l : List Int} (h : tCell.R w w.heap.size cs l) : ∃ A c, cs = [.slice A l.length c] := by
  obtain ⟨A, n, c, e, -, -, hI⟩ := h
  exact ⟨A, c, by rw [e, hI.1]⟩
theorem Ints.headK {K : IntKind} {w : World} {B n : Nat} {A : Option Addr} {l : List Int} (h : Ints K w B A n l) (m : Nat) (hm : m ≤ n) : Ints K w B A m (l.take m) := by
  refine ⟨by rw [List.length_take, h.1]; omega, fun h0 => ?_, fun x hx => h.2.2 x (List.mem_of_mem_take hx)⟩
  obtain ⟨b, off, e, hlt, hcell⟩ := h.2.1 (by omega)
  refine ⟨b, off, e, hlt, fun j hj => ?_⟩
  rw [hcell j (by omega), getD_take hj]
set_option maxRecDepth 100000 in
theorem l_begins_t {w : World} {B B' n m c d k : Nat} {A A' : Option Addr} {l l' : List Int} (h1 : Ints .u8 w B A n l) (h2 : Ints .u8 w B' A' m l') (hk1 : k ≤ n) (hk2 : k ≤ m) (hn : n ≤ c) (hm : m ≤ d) (hc : c ≤ 9223372036854775807) (hd : d ≤ 9223372036854775807) (he : l.take k = l'.take k) :
    Calls Try.prog 21 #[.slice A n c, .slice A' m d, .int .i64 (k : Int)] w fun e w' => e = .returned (.bool true) ∧ Below w.heap.size w w' := by
  have HE := Lib.hid (decide_eq_true he)
  have q0 : (0 : Int) ≤ (k : Int) := by omega
  have q1 : (k : Int) ≤ (n : Int) := by omega
  have q2 : (k : Int) ≤ (m : Int) := by omega
  have q3 : (k : Int) ≤ (c : Int) := by omega
  have q4 : (k : Int) ≤ (d : Int) := by omega
  have b0 : decide ((0 : Int) ≤ (k : Int)) = true := decide_eq_true q0
  have b1 : decide ((k : Int) ≤ (n : Int)) = true := decide_eq_true q1
  have b2 : decide ((k : Int) ≤ (m : Int)) = true := decide_eq_true q2
  have b3 : decide (k ≤ n) = true := decide_eq_true hk1
  have b4 : decide (k ≤ m) = true := decide_eq_true hk2
  clear he
  go_enter Try.func21, Try.ntmps21
  go_wp2_with fail
  refine wp_region_held_drew (S := (fun _ => True)) (by kernel_rfl) (by trivial) (fun hHeld => ?_)
  refine wpAnyH_take (i := 0) (oi := ⟨some 7, _, _, _, _, _⟩) (v := ?v176) rfl (by kernel_rfl) (by kernel_rfl) (by kernel_rfl) (fun _ _ _ h => h) (Or.inl ⟨by rfl, ?hy176⟩) (by assumption) ?_
  case hy176 => (intro w hSw; (try dsimp only at hSw); go_simp; try (with_reducible rfl))
  (try simp only [Act.put, qa_, qb_, qc_])
  refine wpAnyH_take (i := 1) (oi := ⟨some 8, _, _, _, _, _⟩) (v := ?v177) rfl (by kernel_rfl) (by kernel_rfl) (by kernel_rfl) (fun _ _ _ h => h) (Or.inl ⟨by rfl, ?hy177⟩) (by assumption) ?_
  case hy177 => (intro w hSw; (try dsimp only at hSw); go_simp; try (with_reducible rfl))
  (try simp only [Act.put, qa_, qb_, qc_])
  refine wpAnyH_take (i := 2) (oi := ⟨some 9, _, _, _, _, _⟩) (v := ?v178) rfl (by kernel_rfl) (by kernel_rfl) (by kernel_rfl) (fun _ _ _ h => h) (Or.inl ⟨by rfl, ?hy178⟩) (by assumption) ?_
  case hy178 => (intro w hSw; (try dsimp only at hSw); go_simp; try (with_reducible rfl))
  (try simp only [Act.put, qa_, qb_, qc_])
  refine wpAnyH_take (i := 3) (oi := ⟨some 10, _, _, _, _, _⟩) (v := ?v179) rfl (by kernel_rfl) (by kernel_rfl) (by kernel_rfl) (fun _ _ _ h => h) (Or.inl ⟨by rfl, ?hy179⟩) (by assumption) ?_
  case hy179 => (intro w hSw; (try dsimp only at hSw); go_simp; try (with_reducible rfl))
  (try simp only [Act.put, qa_, qb_, qc_])
  refine wpAnyH_take (i := 4) (oi := ⟨some 11, _, _, _, _, _⟩) (v := ?v180) rfl (by kernel_rfl) (by kernel_rfl) (by kernel_rfl) (fun _ _ _ h => h) (Or.inl ⟨by rfl, ?hy180⟩) (by assumption) ?_
  case hy180 => (intro w hSw; (try dsimp only at hSw); go_simp; try (with_reducible rfl))
  (try simp only [Act.put, qa_, qb_, qc_])
  refine wpAnyH_take (i := 5) (oi := ⟨some 12, _, _, _, _, _⟩) (v := ?v181) rfl (by kernel_rfl) (by kernel_rfl) (by kernel_rfl) (fun _ _ _ h => h) (Or.inl ⟨by rfl, ?hy181⟩) (by assumption) ?_
  case hy181 => (intro w hSw; (try dsimp only at hSw); go_simp; try (with_reducible rfl))
  (try simp only [Act.put, qa_, qb_, qc_])
  refine wpAnyH_take (i := 6) (oi := ⟨some 13, _, _, _, _, _⟩) (v := ?v182) rfl (by kernel_rfl) (by kernel_rfl) (by kernel_rfl) (fun _ _ _ h => h) (Or.inl ⟨by rfl, ?hy182⟩) (by assumption) ?_
  case hy182 => (intro w hSw; (try dsimp only at hSw); go_simp; try (with_reducible rfl))
  (try simp only [Act.put, qa_, qb_, qc_])
  refine wpAnyH_take (i := 7) (oi := ⟨some 14, _, _, _, _, _⟩) (v := ?v183) rfl (by kernel_rfl) (by kernel_rfl) (by kernel_rfl) (fun _ _ _ h => h) (Or.inl ⟨by rfl, ?hy183⟩) (by assumption) ?_
  case hy183 => (intro w hSw; (try dsimp only at hSw); go_simp; try (with_reducible rfl))
  (try simp only [Act.put, qa_, qb_, qc_])
  refine wpAnyH_take (i := 8) (oi := ⟨some 15, _, _, _, _, _⟩) (v := ?v184) rfl (by kernel_rfl) (by kernel_rfl) (by kernel_rfl) (fun _ _ _ h => h) (Or.inl ⟨by rfl, ?hy184⟩) (by assumption) ?_
  case hy184 => (intro w hSw; (try dsimp only at hSw); go_simp; try (with_reducible rfl))
  (try simp only [Act.put, qa_, qb_, qc_])
  refine wpAnyH_take (i := 9) (oi := ⟨some 16, _, _, _, _, _⟩) (v := ?v185) rfl (by kernel_rfl) (by kernel_rfl) (by kernel_rfl) (fun _ _ _ h => h) (Or.inl ⟨by rfl, ?hy185⟩) (by assumption) ?_
  case hy185 => (intro w hSw; (try dsimp only at hSw); go_simp; try (with_reducible rfl))
  (try simp only [Act.put, qa_, qb_, qc_])
  refine wpAnyH_take (i := 10) (oi := ⟨some 17, _, _, _, _, _⟩) (v := ?v186) rfl (by kernel_rfl) (by kernel_rfl) (by kernel_rfl) (fun _ _ _ h => h) (Or.inl ⟨by rfl, ?hy186⟩) (by assumption) ?_
  case hy186 => (intro w hSw; (try dsimp only at hSw); go_simp; try (with_reducible rfl))
  (try simp only [Act.put, qa_, qb_, qc_])
  refine wpAnyH_take (i := 11) (oi := ⟨some 18, _, _, _, _, _⟩) (v := ?v187) rfl (by kernel_rfl) (by kernel_rfl) (by kernel_rfl) (fun _ _ _ h => h) (Or.inl ⟨by rfl, ?hy187⟩) (by assumption) ?_
  case hy187 => (intro w hSw; (try dsimp only at hSw); go_simp; try (with_reducible rfl))
  (try simp only [Act.put, qa_, qb_, qc_])
  refine wpAnyH_take (i := 12) (oi := ⟨some 19, _, _, _, _, _⟩) (v := ?v188) rfl (by kernel_rfl) (by kernel_rfl) (by kernel_rfl) (fun _ _ _ h => h) (Or.inl ⟨by rfl, ?hy188⟩) (by assumption) ?_
  case hy188 => (intro w hSw; (try dsimp only at hSw); go_simp; try (with_reducible rfl))
  (try simp only [Act.put, qa_, qb_, qc_])
  refine wpAnyH_take (i := 13) (oi := ⟨some 20, _, _, _, _, _⟩) (v := ?v189) rfl (by kernel_rfl) (by kernel_rfl) (by kernel_rfl) (fun _ _ _ h => h) (Or.inl ⟨by rfl, ?hy189⟩) (by assumption) ?_
  case hy189 => (intro w hSw; (try dsimp only at hSw); go_simp; try (with_reducible rfl))
  (try simp only [Act.put, qa_, qb_, qc_])
  refine wpAnyH_take (i := 14) (oi := ⟨some 21, _, _, _, _, _⟩) (v := ?v190) rfl (by kernel_rfl) (by kernel_rfl) (by kernel_rfl) (fun _ _ _ h => h) (Or.inl ⟨by rfl, ?hy190⟩) (by assumption) ?_
  case hy190 => (intro w hSw; (try dsimp only at hSw); go_simp; try (with_reducible rfl))
  (try simp only [Act.put, qa_, qb_, qc_])
  refine wpAnyH_take (i := 15) (oi := ⟨some 22, _, _, _, _, _⟩) (v := ?v191) rfl (by kernel_rfl) (by kernel_rfl) (by kernel_rfl) (fun _ _ _ h => h) (Or.inl ⟨by rfl, ?hy191⟩) (by assumption) ?_
  case hy191 => (intro w hSw; (try dsimp only at hSw); go_simp; try (with_reducible rfl))
  (try simp only [Act.put, qa_, qb_, qc_])
  refine wpAnyH_take (i := 16) (oi := ⟨some 23, _, _, _, _, _⟩) (v := ?v192) rfl (by kernel_rfl) (by kernel_rfl) (by kernel_rfl) (fun _ _ _ h => h) (Or.inl ⟨by rfl, ?hy192⟩) (by assumption) ?_
  case hy192 => (intro w hSw; (try dsimp only at hSw); go_simp; try (with_reducible rfl))
  (try simp only [Act.put, qa_, qb_, qc_])
  refine wpAnyH_take (i := 17) (oi := ⟨some 24, _, _, _, _, _⟩) (v := ?v193) rfl (by kernel_rfl) (by kernel_rfl) (by kernel_rfl) (fun _ _ _ h => h) (Or.inl ⟨by rfl, ?hy193⟩) (by assumption) ?_
  case hy193 => (intro w hSw; (try dsimp only at hSw); go_simp; try (with_reducible rfl))
  (try simp only [Act.put, qa_, qb_, qc_])
  refine wpAnyH_take (i := 18) (oi := ⟨some 25, _, _, _, _, _⟩) (v := ?v194) rfl (by kernel_rfl) (by kernel_rfl) (by kernel_rfl) (fun _ _ _ h => h) (Or.inl ⟨by rfl, ?hy194⟩) (by assumption) ?_
  case hy194 => (intro w hSw; (try dsimp only at hSw); go_simp; try (with_reducible rfl))
  (try simp only [Act.put, qa_, qb_, qc_])
  refine wpAnyH_take (i := 19) (oi := ⟨some 26, _, _, _, _, _⟩) (v := ?v195) rfl (by kernel_rfl) (by kernel_rfl) (by kernel_rfl) (fun _ _ _ h => h) (Or.inl ⟨by rfl, ?hy195⟩) (by assumption) ?_
  case hy195 => (intro w hSw; (try dsimp only at hSw); go_simp; try (with_reducible rfl))
  (try simp only [Act.put, qa_, qb_, qc_])
  refine wpAnyH_take (i := 20) (oi := ⟨some 27, _, _, _, _, _⟩) (v := ?v196) rfl (by kernel_rfl) (by kernel_rfl) (by kernel_rfl) (fun _ _ _ h => h) (Or.inl ⟨by rfl, ?hy196⟩) (by assumption) ?_
  case hy196 => (intro w hSw; (try dsimp only at hSw); go_simp; try (with_reducible rfl))
  (try simp only [Act.put, qa_, qb_, qc_])
  refine wpAnyH_ready (rs := [21]) (by kernel_rfl) (by simp) ?_
  refine AllReadyH.cons rfl (fun K hK => ?_) ?_
  · go_simp
    go_at_call 15
    refine (l_same (Ints.headK h1 k hk1).drew (Ints.headK h2 k hk2).drew).mono ?_
    rintro e w' ⟨rfl, rfl⟩
    rw [HE.out]
    go_wp2_with fail
    refine hK.out _ _ (by trivial) (fun hHeld => ?_)
    clear hK K
    (try simp only [Act.put, qa_, qb_, qc_])
    refine wpAnyH_take (i := 22) (oi := ⟨some 29, _, _, _, _, _⟩) (v := ?v197) rfl (by kernel_rfl) (by kernel_rfl) (by kernel_rfl) (fun _ _ _ h => h) (Or.inl ⟨by rfl, ?hy197⟩) (by assumption) ?_
    case hy197 => (intro w hSw; (try dsimp only at hSw); go_simp; try (with_reducible rfl))
    (try simp only [Act.put, qa_, qb_, qc_])
    refine wpAnyH_take (i := 23) (oi := ⟨some 6, _, _, _, _, _⟩) (v := ?v198) rfl (by kernel_rfl) (by kernel_rfl) (by kernel_rfl) (fun _ _ _ h => h) (Or.inl ⟨by rfl, ?hy198⟩) (by assumption) ?_
    case hy198 => (intro w hSw; (try dsimp only at hSw); go_simp; try (with_reducible rfl))
    (try simp only [Act.put, qa_, qb_, qc_])
    refine wpAnyH_done (by kernel_rfl) ?_ _
    go_wp2
    go_ret
    exact ⟨by first | rfl | (simp; done), (belx)⟩
  exact AllReadyH.nil

/-! ### STEP 1: THE WALK: the Go text returns true, AND WRITES NOTHING THAT WAS THERE: 'Below w.heap.size w w'' (Derived/Below.lean: '.refl', '.alloc', '.drew', '.setCell' at a new block, '.trans'). Open each 'IsRow' by 'rcases' AHEAD of 'go_enter'; part every test ahead of the walk. -/
set_option maxRecDepth 100000 in
set_option maxHeartbeats 2000000 in
theorem walk (a0 : Option Addr) (len0 cap0 : Nat) (z0 : List Int) (w : World) (w0 : IsRow .u8 w a0 len0 cap0 z0) (r0 : cap0 ≤ 140737488351232) :
    Calls Try.prog 4 #[.slice a0 len0 cap0] w fun e w' => e = .returned (.bool true) ∧ Below w.heap.size w w' := by
  obtain ⟨hl, hn⟩ := rowInts w0
  go_enter Try.func4, Try.ntmps4
  go_wp2_with fail
  refine (d_Wrap hl (by omega)).mono ?_
  rintro e w1 ⟨vr, vp, vs, vl, vd, r, s, ld, pd, u, rfl, h0, h2, h4, h5, ⟨q0, q2, q4, q5⟩, ⟨u0, u1⟩, hB1⟩
  obtain ⟨A0, c0, rfl⟩ := shapeR h0
  obtain ⟨A2, c2, rfl⟩ := shapeR h2
  obtain ⟨A4, c4, rfl⟩ := shapeR h4
  obtain ⟨A5, c5, rfl⟩ := shapeR h5
  have hby := (slR_ints h4).1.bytes
  obtain ⟨n0, hn0⟩ : ∃ m, r.length = m := ⟨_, rfl⟩
  obtain ⟨n2, hn2⟩ : ∃ m, s.length = m := ⟨_, rfl⟩
  obtain ⟨n4, hn4⟩ : ∃ m, ld.length = m := ⟨_, rfl⟩
  obtain ⟨n5, hn5⟩ : ∃ m, pd.length = m := ⟨_, rfl⟩
  have N0 := Lib.hid hn0
  have N2 := Lib.hid hn2
  have N4 := Lib.hid hn4
  have N5 := Lib.hid hn5
  have Q0 := Lib.hid q0
  have Q2 := Lib.hid q2
  have Q4 := Lib.hid q4
  have Q5 := Lib.hid q5
  rw [hn0] at h0 q0 ⊢
  rw [hn2] at h2 q2 ⊢
  rw [hn4] at h4 q4 ⊢
  rw [hn5] at h5 q5 ⊢
  clear hn0 hn2 hn4 hn5
  go_wp2_with fail
  refine (l_at 1 (hl.below hB1) (by omega) (by omega)).mono ?_
  rintro e w' ⟨rfl, rfl⟩
  have rsd := atV_rg hl.bytes 1
  obtain ⟨sd, hsd⟩ : ∃ sd, atV (List.take len0 z0) 1 = sd := ⟨_, rfl⟩
  rw [hsd] at rsd ⊢
  clear hsd
  go_wp2_with fail
  refine (l_nodes (by omega) (by omega)).mono ?_
  rintro e w2 ⟨Aa, ca, Ab, cb, rfl, ha, hb, hb2⟩
  have h0 := tIs.reach h0 hb2
  have h2 := tIs.reach h2 hb2
  have h4 := tBy.reach h4 hb2
  have h5 := tBy.reach h5 hb2
  have hB2 := bel_trans hB1 hb2
  go_wp2_with fail
  refine (i_WrapR h0 (by have := Q0.out; omega) hb (by rw [ndP_len]; omega) h2 (by have := Q2.out; omega) (WalkArith.wf_i64 ⟨by omega, by omega⟩) h4 (by have := Q4.out; omega) h5 (by have := Q5.out; omega)).mono ?_
  rintro e w3 ⟨cs, F, rfl, hO, -, hb3⟩
  have h0 := tIs.reach h0 hb3
  have h2 := tIs.reach h2 hb3
  have h4 := tBy.reach h4 hb3
  have h5 := tBy.reach h5 hb3
  have ha := tIs.reach ha hb3
  have hb := tIs.reach hb hb3
  have hB3 := bel_trans hB2 hb3
  have hR := tCell.read hO
  obtain ⟨Ac, cc, rfl⟩ := sizeR hR
  clear hO
  by_cases ho : WrapOk r (ndP sd) s u ld pd
  · have HO := Lib.hid ho
    have HK := Lib.hid (show (fwrap r (ndP sd) s u ld pd).2 = true by rw [fwrap_t ho])
    have HW := Lib.hid (wrapped_len ho)
    rw [HK.out]
    rw [HW.out] at hR ⊢
    go_wp2_with fail
    have hx := bel_alloc (Below.refl w3.heap.size w3) (.cells #[.slice Ac 80 cc] 30)
    refine (s_WrapR (tIs.reach h0 hx) (by have := Q0.out; omega) (tIs.reach hb hx) (by rw [ndP_len]; omega) (tIs.reach h2 hx) (by have := Q2.out; omega) (WalkArith.wf_i64 ⟨by omega, by omega⟩) (tBy.reach h4 hx) (by have := Q4.out; omega) (tBy.reach h5 hx) (by have := Q5.out; omega)).mono ?_
    rintro e w4 ⟨cs', rfl, hR', hb4⟩
    rw [HK.out]
    obtain ⟨Ac', cc', rfl⟩ := sizeR hR'
    rw [HW.out]
    have hx4 := bel_trans hx hb4
    have bx := (Box.below (B := (w3.alloc (.cells #[.slice Ac 80 cc] 30)).heap.size) (Box.new w3 30 #[.slice Ac 80 cc]) hb4 (by simp)).alloc (.cells #[.slice Ac' 80 cc'] 30)
    have hx5 : Below w3.heap.size w3 (w4.alloc (.cells #[.slice Ac' 80 cc'] 30)) := bel_alloc hx4 _
    have z5 : w3.heap.size < w4.heap.size := by have h := hb4.size; simp at h; omega
    have h0 := tIs.reach h0 hx5
    have h2 := tIs.reach h2 hx5
    have h4 := tBy.reach h4 hx5
    have h5 := tBy.reach h5 hx5
    have ha := tIs.reach ha hx5
    have hb := tIs.reach hb hx5
    have hR := tCell.reach hR hx5
    have hB5 := bel_trans hB3 hx5
    obtain ⟨cl, hcl⟩ : ∃ cl, (fwrap r (ndP sd) s u ld pd).1 = cl := ⟨_, rfl⟩
    rw [hcl] at hR
    have HC := Lib.hid hcl
    have HL := Lib.hid (show cl.length = 80 by rw [← hcl]; exact HW.out)
    have k0 := bx.cell 0
    obtain ⟨wx, hwx⟩ : ∃ wx, w4.alloc (.cells #[.slice Ac' 80 cc'] 30) = wx := ⟨_, rfl⟩
    have zx : w3.heap.size < wx.heap.size := by rw [← hwx]; simp; omega
    rw [hwx] at h0 h2 h4 h5 ha hb hR hB5 bx k0
    clear hx hx4 hx5 hR' hb4 hb3 hb2 hcl ho
    have hps := nd_pubsOf sd
    have hsl := ndS_len sd
    have hsc := ndS_sec rsd
    have hfst := wrapped_first HO.out
    have hpd := HO.out.2.2.2.2.2.2
    have how := wrapped_own HO.out
    have hpe := fun c => wrapped_peel hps hsl hsc HO.out hby c pd
    rw [HC.out] at how
    obtain ⟨x0, hx0⟩ : ∃ k : Nat, r.getD 0 0 = (k : Int) := ⟨(r.getD 0 0).toNat, by omega⟩
    rw [hx0] at hfst
    have HTG := Lib.hid (fun c hc hl => wrapped_tag hps hsl hsc HO.out hby c hc hl)
    have HPE := Lib.hid hpe
    have HOW := Lib.hid how
    have HX0 := Lib.hid hx0
    have HPD := Lib.hid hpd
    obtain ⟨s0, hs0⟩ : ∃ s0, (ndS sd).getD x0 0 = s0 := ⟨_, rfl⟩
    have HS0 := Lib.hid hs0
    have x8 : x0 < 8 := by omega
    have wf0 : (Lit.int .i64 (x0 : Int)).wf = true := WalkArith.wf_i64 ⟨by omega, by omega⟩
    have wfs : (Lit.int .i64 s0).wf = true := by rw [← hs0, ndS_at sd x8]; exact WalkArith.wf_i64 ⟨by omega, by omega⟩
    have hr1 := HO.out.1.1
    rw [N0.out] at hr1
    have n01 : 1 ≤ n0 := hr1.1
    have n04 : n0 ≤ 4 := hr1.2
    have hl4 := HO.out.2.2.2.2.2.1
    rw [N4.out] at hl4
    obtain ⟨br, of, e0, -, d0, -⟩ := (slR_ints h0).1.at_ (i := 0) (by omega)
    obtain ⟨ba, oa, ea, -, d1, -⟩ := (slR_ints ha).1.at_ (i := x0) x8
    subst e0 ea
    rw [hx0, Nat.add_zero] at d0
    rw [hs0] at d1
    have p0 : (0 : Int) < (n0 : Int) := by omega
    have p1 : (0 : Int) ≤ (x0 : Int) := by omega
    have p2 : (x0 : Int) < 8 := by omega
    have pn : 0 < n0 := by omega
    clear hps hsl hsc hfst hpd how hpe hx0 hs0 hr1
    have hE1 := HPE.out cl HOW.out HL.out HPD.out
    rw [HX0.out, Int.toNat_natCast, HS0.out] at hE1
    have hE2 := HTG.out cl HOW.out HL.out
    rw [HX0.out, Int.toNat_natCast, HS0.out] at hE2
    obtain ⟨tg, htg⟩ : ∃ tg, keyP (powP (powP 7 s0.toNat) (s.getD 0 0).toNat) 9 = tg := ⟨_, rfl⟩
    have tg0 : 0 ≤ tg := by rw [← htg]; exact (keyP_rg _ _).1
    rw [htg] at hE1 hE2
    have HTA := Lib.hid hE2
    obtain ⟨PP, hPP⟩ : ∃ PP : DPeeled, fPl s0 cl pd = PP := ⟨_, rfl⟩
    have FT1 := Lib.hid (show (fpeel s0 cl pd).2 = true by rw [hE1])
    have FP1 := Lib.hid hPP
    have E1 := Lib.hid (show PP.1 = r.getD 1 255 by rw [← hPP]; unfold fPl; rw [hE1]; rfl)
    have E2 := Lib.hid (show PP.2.1 = u by rw [← hPP]; unfold fPl; rw [hE1]; rfl)
    have E3 := Lib.hid (show PP.2.2.1 = tg by rw [← hPP]; unfold fPl; rw [hE1]; rfl)
    have E4 := Lib.hid (show PP.2.2.2.1 = (if r.length = 1 then ld else []) by rw [← hPP]; unfold fPl; rw [hE1]; rfl)
    have E5 := Lib.hid (show PP.2.2.2.2 = (if r.length = 1 then [] else padL (wrapL (ndP sd) u ld (r.drop 1) (s.drop 1)) pd) by rw [← hPP]; unfold fPl; rw [hE1]; rfl)
    clear hE1 hE2 htg hPP
    have kc := k0
    have n28 : n2 ≤ 4 := q2
    have n20 : n2 = n0 := by rw [← N0.out, ← N2.out]; exact HO.out.2.2.1
    have N20 := Lib.hid n20
    clear n20
    go_wp2_with fail
    try rw [hwx]
    go_cut [17, 18] (fun t17 t18 wc => ∃ (pb : Nat) (AL AC : Option Addr) (nL cL nC cC : Nat), t17 = .pointer (some ⟨pb, 0, none⟩) ∧ t18 = .bool true ∧ Box wc pb 42 #[.int .i64 PP.1, .int .i64 PP.2.1, .int .i64 PP.2.2.1, .slice AL nL cL, .slice AC nC cC] ∧ tPeeled.R wc wc.heap.size [.int .i64 PP.1, .int .i64 PP.2.1, .int .i64 PP.2.2.1, .slice AL nL cL, .slice AC nC cC] PP ∧ Below wx.heap.size wx wc ∧ wx.heap.size ≤ pb)
    case first =>
      refine wp_region_held_drew (S := (fun w' => w'.cell? ⟨br, of, none⟩ = some (.int .i64 (x0 : Int)) ∧ w'.cell? ⟨ba, oa + x0, none⟩ = some (.int .i64 s0) ∧ w'.cell? ⟨w3.heap.size, 0, none⟩ = some (.slice Ac 80 cc))) (by kernel_rfl) (by exact ⟨d0, d1, kc⟩) (fun hHeld => ?_)
      refine wpAnyH_take (i := 0) (oi := ⟨some 74, _, _, _, _, _⟩) (v := ?v135) rfl (by kernel_rfl) (by kernel_rfl) (by kernel_rfl) (fun _ _ _ h => h) (Or.inl ⟨by rfl, ?hy135⟩) (by assumption) ?_
      case hy135 => (intro w hSw; (try dsimp only at hSw); go_simp; try (with_reducible rfl))
      (try simp only [Act.put, qa_, qb_, qc_])
      refine wpAnyH_take (i := 1) (oi := ⟨some 75, _, _, _, _, _⟩) (v := ?v136) rfl (by kernel_rfl) (by kernel_rfl) (by kernel_rfl) (fun _ _ _ h => h) (Or.inl ⟨by rfl, ?hy136⟩) (by assumption) ?_
      case hy136 => (intro w hSw; (try dsimp only at hSw); go_simp; try (with_reducible rfl))
      (try simp only [Act.put, qa_, qb_, qc_])
      refine wpAnyH_take (i := 2) (oi := ⟨some 76, _, _, _, _, _⟩) (v := ?v137) rfl (by kernel_rfl) (by kernel_rfl) (by kernel_rfl) (fun _ _ _ h => h) (Or.inl ⟨by rfl, ?hy137⟩) (by assumption) ?_
      case hy137 => (intro w hSw; (try dsimp only at hSw); go_simp; try (with_reducible rfl))
      (try simp only [Act.put, qa_, qb_, qc_])
      refine wpAnyH_take (i := 3) (oi := ⟨some 77, _, _, _, _, _⟩) (v := ?v138) rfl (by kernel_rfl) (by kernel_rfl) (by kernel_rfl) (fun _ _ _ h => h) (Or.inl ⟨by rfl, ?hy138⟩) (by assumption) ?_
      case hy138 => (intro w hSw; (try dsimp only at hSw); go_simp; try (with_reducible rfl))
      (try simp only [Act.put, qa_, qb_, qc_])
      refine wpAnyH_take (i := 4) (oi := ⟨some 78, _, _, _, _, _⟩) (v := ?v139) rfl (by kernel_rfl) (by kernel_rfl) (by kernel_rfl) (fun _ _ _ h => h) (Or.inl ⟨by rfl, ?hy139⟩) (by assumption) ?_
      case hy139 => (intro w hSw; (try dsimp only at hSw); go_simp; try (with_reducible rfl))
      (try simp only [Act.put, qa_, qb_, qc_])
      refine wpAnyH_take (i := 5) (oi := ⟨some 79, _, _, _, _, _⟩) (v := ?v140) rfl (by kernel_rfl) (by kernel_rfl) (by kernel_rfl) (fun _ _ _ h => h) (Or.inl ⟨by rfl, ?hy140⟩) (by assumption) ?_
      case hy140 => (intro w hSw; (try dsimp only at hSw); go_simp; try (with_reducible rfl))
      (try simp only [Act.put, qa_, qb_, qc_])
      refine wpAnyH_take (i := 6) (oi := ⟨some 80, _, _, _, _, _⟩) (v := ?v141) rfl (by kernel_rfl) (by kernel_rfl) (by kernel_rfl) (fun _ _ _ h => h) (Or.inl ⟨by rfl, ?hy141⟩) (by assumption) ?_
      case hy141 => (intro w hSw; (try dsimp only at hSw); go_simp; try (with_reducible rfl))
      (try simp only [Act.put, qa_, qb_, qc_])
      refine wpAnyH_take (i := 7) (oi := ⟨some 81, _, _, _, _, _⟩) (v := ?v142) rfl (by kernel_rfl) (by kernel_rfl) (by kernel_rfl) (fun _ _ _ h => h) (Or.inl ⟨by rfl, ?hy142⟩) (by assumption) ?_
      case hy142 => (intro w hSw; (try dsimp only at hSw); go_simp; try (with_reducible rfl))
      (try simp only [Act.put, qa_, qb_, qc_])
      refine wpAnyH_ready (rs := [8, 12]) (by kernel_rfl) (by simp) ?_
      refine AllReadyH.cons rfl (fun K hK => ?_) ?_
      · have hX : Below wx.heap.size wx (wx.drew) := (belx)
        go_simp
        go_at_call 19
        refine (i_PeelR wfs (tCell.reach hR hX) (by show cl.length ≤ _; have := HL.out; omega) (tBy.reach h5 hX) (by have := Q5.out; omega)).mono ?_
        rintro e w2 ⟨cs2, F2, rfl, hO2, hN2, hb2⟩
        rw [FT1.out]
        rw [FP1.out] at hO2
        obtain ⟨AL, nL, cL, AC, nC, cC, rfl, -⟩ := openPeeled (tPeeled.read hO2)
        have hx : Below wx.heap.size wx w2 := bel_trans hX hb2
        go_wp2_with fail
        refine hK.out _ _ (by exact ⟨cell_bel hx d0, cell_bel hx d1, cell_bel hx kc⟩) (fun hHeld => ?_)
        clear hK K
        (try simp only [Act.put, qa_, qb_, qc_])
        refine wpAnyH_take (i := 9) (oi := ⟨some 73, _, _, _, _, _⟩) (v := ?v143) rfl (by kernel_rfl) (by kernel_rfl) (by kernel_rfl) (fun _ _ _ h => h) (Or.inl ⟨by rfl, ?hy143⟩) (by assumption) ?_
        case hy143 => (intro w hSw; (try dsimp only at hSw); go_simp; try (with_reducible rfl))
        (try simp only [Act.put, qa_, qb_, qc_])
        refine wpAnyH_take (i := 10) (oi := ⟨some 83, _, _, _, _, _⟩) (v := ?v144) rfl (by kernel_rfl) (by kernel_rfl) (by kernel_rfl) (fun _ _ _ h => h) (Or.inl ⟨by rfl, ?hy144⟩) (by assumption) ?_
        case hy144 => (intro w hSw; (try dsimp only at hSw); go_simp; try (with_reducible rfl))
        (try simp only [Act.put, qa_, qb_, qc_])
        refine wpAnyH_take (i := 11) (oi := ⟨some 84, _, _, _, _, _⟩) (v := ?v145) rfl (by kernel_rfl) (by kernel_rfl) (by kernel_rfl) (fun _ _ _ h => h) (Or.inl ⟨by rfl, ?hy145⟩) (by assumption) ?_
        case hy145 => (intro w hSw; (try dsimp only at hSw); go_simp; try (with_reducible rfl))
        (try simp only [Act.put, qa_, qb_, qc_])
        refine wpAnyH_ready (rs := [12]) (by kernel_rfl) (by simp) ?_
        refine AllReadyH.cons rfl (fun K hK => ?_) ?_
        · go_simp
          refine hK.out _ _ (by exact ⟨cell_bel (show Below wx.heap.size wx (w2.alloc (.cells #[.int .i64 0, .int .i64 0, .int .i64 0, .slice none 0 0, .slice none 0 0] 42)) from bel_alloc hx _) d0, cell_bel (show Below wx.heap.size wx (w2.alloc (.cells #[.int .i64 0, .int .i64 0, .int .i64 0, .slice none 0 0, .slice none 0 0] 42)) from bel_alloc hx _) d1, cell_bel (show Below wx.heap.size wx (w2.alloc (.cells #[.int .i64 0, .int .i64 0, .int .i64 0, .slice none 0 0, .slice none 0 0] 42)) from bel_alloc hx _) kc⟩) (fun hHeld => ?_)
          clear hK K
          (try simp only [Act.put, qa_, qb_, qc_])
          refine wpAnyH_ready (rs := [13]) (by kernel_rfl) (by simp) ?_
          refine AllReadyH.cons rfl (fun K hK => ?_) ?_
          · have Zg : Box (w2.alloc (.cells #[.int .i64 PP.1, .int .i64 PP.2.1, .int .i64 PP.2.2.1, .slice AL nL cL, .slice AC nC cC] 42)) w2.heap.size 42 #[.int .i64 PP.1, .int .i64 PP.2.1, .int .i64 PP.2.2.1, .slice AL nL cL, .slice AC nC cC] := Box.new _ _ _
            have hfin : Below wx.heap.size wx (w2.alloc (.cells #[.int .i64 PP.1, .int .i64 PP.2.1, .int .i64 PP.2.2.1, .slice AL nL cL, .slice AC nC cC] 42)) := bel_alloc hx _
            have hgl : wx.heap.size ≤ w2.heap.size := hx.size
            have hRP := tPeeled.read (Ty.below (t := tPeeled) hO2 (show Below w2.heap.size w2 (w2.alloc (.cells #[.int .i64 PP.1, .int .i64 PP.2.1, .int .i64 PP.2.2.1, .slice AL nL cL, .slice AC nC cC] 42)) from bel_alloc (Below.refl _ _) _))
            go_simp
            refine hK.out _ _ (by exact ⟨cell_bel hfin d0, cell_bel hfin d1, cell_bel hfin kc⟩) (fun hHeld => ?_)
            clear hK K
            (try simp only [Act.put, qa_, qb_, qc_])
            refine wpAnyH_take (i := 14) (oi := ⟨some 18, _, _, _, _, _⟩) (v := ?v146) rfl (by kernel_rfl) (by kernel_rfl) (by kernel_rfl) (fun _ _ _ h => h) (Or.inl ⟨by rfl, ?hy146⟩) (by assumption) ?_
            case hy146 => (intro w hSw; (try dsimp only at hSw); go_simp; try (with_reducible rfl))
            (try simp only [Act.put, qa_, qb_, qc_])
            refine wpAnyH_done (by kernel_rfl) ?_ _
            go_wp2_with fail
            go_meet
            exact ⟨_, AL, AC, nL, cL, nC, cC, rfl, rfl, by first | exact Zg | simpa using Zg, by first | exact hRP | simpa using hRP, by first | exact hfin | simpa using hfin, hgl⟩
          exact AllReadyH.nil
        exact AllReadyH.nil
      refine AllReadyH.cons rfl (fun K hK => ?_) ?_
      · go_simp
        refine hK.out _ _ (by exact ⟨cell_bel (show Below wx.heap.size wx (wx.alloc (.cells #[.int .i64 0, .int .i64 0, .int .i64 0, .slice none 0 0, .slice none 0 0] 42)).drew from (belx)) d0, cell_bel (show Below wx.heap.size wx (wx.alloc (.cells #[.int .i64 0, .int .i64 0, .int .i64 0, .slice none 0 0, .slice none 0 0] 42)).drew from (belx)) d1, cell_bel (show Below wx.heap.size wx (wx.alloc (.cells #[.int .i64 0, .int .i64 0, .int .i64 0, .slice none 0 0, .slice none 0 0] 42)).drew from (belx)) kc⟩) (fun hHeld => ?_)
        clear hK K
        (try simp only [Act.put, qa_, qb_, qc_])
        refine wpAnyH_ready (rs := [8]) (by kernel_rfl) (by simp) ?_
        refine AllReadyH.cons rfl (fun K hK => ?_) ?_
        · have hX : Below wx.heap.size wx ((wx.alloc (.cells #[.int .i64 0, .int .i64 0, .int .i64 0, .slice none 0 0, .slice none 0 0] 42)).drew) := (belx)
          go_simp
          go_at_call 19
          refine (i_PeelR wfs (tCell.reach hR hX) (by show cl.length ≤ _; have := HL.out; omega) (tBy.reach h5 hX) (by have := Q5.out; omega)).mono ?_
          rintro e w2 ⟨cs2, F2, rfl, hO2, hN2, hb2⟩
          rw [FT1.out]
          rw [FP1.out] at hO2
          obtain ⟨AL, nL, cL, AC, nC, cC, rfl, -⟩ := openPeeled (tPeeled.read hO2)
          have hx : Below wx.heap.size wx w2 := bel_trans hX hb2
          have Zb : Box w2 wx.heap.size 42 #[.int .i64 0, .int .i64 0, .int .i64 0, .slice none 0 0, .slice none 0 0] := Box.below (show Box ((wx.alloc (.cells #[.int .i64 0, .int .i64 0, .int .i64 0, .slice none 0 0, .slice none 0 0] 42)).drew) wx.heap.size 42 #[.int .i64 0, .int .i64 0, .int .i64 0, .slice none 0 0, .slice none 0 0] from Box.drew (Box.new wx 42 #[.int .i64 0, .int .i64 0, .int .i64 0, .slice none 0 0, .slice none 0 0])) hb2 (by show wx.heap.size < (World.alloc _ _).heap.size; simp)
          have zb0 := Zb.cell 0; have zf0 := Zb.frozen 0
          have zb1 := Zb.cell 1; have zf1 := Zb.frozen 1
          have zb2 := Zb.cell 2; have zf2 := Zb.frozen 2
          have zb3 := Zb.cell 3; have zf3 := Zb.frozen 3
          have zb4 := Zb.cell 4; have zf4 := Zb.frozen 4
          go_wp2_with fail
          refine hK.out _ _ (by exact ⟨cell_bel hx d0, cell_bel hx d1, cell_bel hx kc⟩) (fun hHeld => ?_)
          clear hK K
          (try simp only [Act.put, qa_, qb_, qc_])
          refine wpAnyH_take (i := 9) (oi := ⟨some 73, _, _, _, _, _⟩) (v := ?v147) rfl (by kernel_rfl) (by kernel_rfl) (by kernel_rfl) (fun _ _ _ h => h) (Or.inl ⟨by rfl, ?hy147⟩) (by assumption) ?_
          case hy147 => (intro w hSw; (try dsimp only at hSw); go_simp; try (with_reducible rfl))
          (try simp only [Act.put, qa_, qb_, qc_])
          refine wpAnyH_take (i := 10) (oi := ⟨some 83, _, _, _, _, _⟩) (v := ?v148) rfl (by kernel_rfl) (by kernel_rfl) (by kernel_rfl) (fun _ _ _ h => h) (Or.inl ⟨by rfl, ?hy148⟩) (by assumption) ?_
          case hy148 => (intro w hSw; (try dsimp only at hSw); go_simp; try (with_reducible rfl))
          (try simp only [Act.put, qa_, qb_, qc_])
          refine wpAnyH_take (i := 11) (oi := ⟨some 84, _, _, _, _, _⟩) (v := ?v149) rfl (by kernel_rfl) (by kernel_rfl) (by kernel_rfl) (fun _ _ _ h => h) (Or.inl ⟨by rfl, ?hy149⟩) (by assumption) ?_
          case hy149 => (intro w hSw; (try dsimp only at hSw); go_simp; try (with_reducible rfl))
          (try simp only [Act.put, qa_, qb_, qc_])
          refine wpAnyH_ready (rs := [13]) (by kernel_rfl) (by simp) ?_
          refine AllReadyH.cons rfl (fun K hK => ?_) ?_
          · have hgl : wx.heap.size ≤ wx.heap.size := Nat.le_refl _
            have hgB : wx.heap.size < ((wx.alloc (.cells #[.int .i64 0, .int .i64 0, .int .i64 0, .slice none 0 0, .slice none 0 0] 42)).drew).heap.size := by show wx.heap.size < (World.alloc _ _).heap.size; simp
            have hfin := (bel_put (bel_put (bel_put (bel_put (bel_put hx (p := ⟨wx.heap.size, 0, none⟩) (Nat.le_refl _) (.int .i64 PP.1)) (p := ⟨wx.heap.size, 1, none⟩) (Nat.le_refl _) (.int .i64 PP.2.1)) (p := ⟨wx.heap.size, 2, none⟩) (Nat.le_refl _) (.int .i64 PP.2.2.1)) (p := ⟨wx.heap.size, 3, none⟩) (Nat.le_refl _) (.slice AL nL cL)) (p := ⟨wx.heap.size, 4, none⟩) (Nat.le_refl _) (.slice AC nC cC))
            have Zg := (((((Zb.put 0 (.int .i64 PP.1)).put 1 (.int .i64 PP.2.1)).put 2 (.int .i64 PP.2.2.1)).put 3 (.slice AL nL cL)).put 4 (.slice AC nC cC))
            have hRP : tPeeled.R (((((w2.setCell ⟨wx.heap.size, 0, none⟩ (.int .i64 PP.1)).setCell ⟨wx.heap.size, 1, none⟩ (.int .i64 PP.2.1)).setCell ⟨wx.heap.size, 2, none⟩ (.int .i64 PP.2.2.1)).setCell ⟨wx.heap.size, 3, none⟩ (.slice AL nL cL)).setCell ⟨wx.heap.size, 4, none⟩ (.slice AC nC cC)) (((((w2.setCell ⟨wx.heap.size, 0, none⟩ (.int .i64 PP.1)).setCell ⟨wx.heap.size, 1, none⟩ (.int .i64 PP.2.1)).setCell ⟨wx.heap.size, 2, none⟩ (.int .i64 PP.2.2.1)).setCell ⟨wx.heap.size, 3, none⟩ (.slice AL nL cL)).setCell ⟨wx.heap.size, 4, none⟩ (.slice AC nC cC)).heap.size _ PP := tPeeled.read (Ty.far (t := tPeeled) (Ty.far (t := tPeeled) (Ty.far (t := tPeeled) (Ty.far (t := tPeeled) (Ty.far (t := tPeeled) hO2 hN2 (p := ⟨wx.heap.size, 0, none⟩) hgB (.int .i64 PP.1)) hN2 (p := ⟨wx.heap.size, 1, none⟩) hgB (.int .i64 PP.2.1)) hN2 (p := ⟨wx.heap.size, 2, none⟩) hgB (.int .i64 PP.2.2.1)) hN2 (p := ⟨wx.heap.size, 3, none⟩) hgB (.slice AL nL cL)) hN2 (p := ⟨wx.heap.size, 4, none⟩) hgB (.slice AC nC cC))
            go_simp
            refine hK.out _ _ (by exact ⟨cell_bel hfin d0, cell_bel hfin d1, cell_bel hfin kc⟩) (fun hHeld => ?_)
            clear hK K
            (try simp only [Act.put, qa_, qb_, qc_])
            refine wpAnyH_take (i := 14) (oi := ⟨some 18, _, _, _, _, _⟩) (v := ?v150) rfl (by kernel_rfl) (by kernel_rfl) (by kernel_rfl) (fun _ _ _ h => h) (Or.inl ⟨by rfl, ?hy150⟩) (by assumption) ?_
            case hy150 => (intro w hSw; (try dsimp only at hSw); go_simp; try (with_reducible rfl))
            (try simp only [Act.put, qa_, qb_, qc_])
            refine wpAnyH_done (by kernel_rfl) ?_ _
            go_wp2_with fail
            go_meet
            exact ⟨_, AL, AC, nL, cL, nC, cC, rfl, rfl, by first | exact Zg | simpa using Zg, by first | exact hRP | simpa using hRP, by first | exact hfin | simpa using hfin, hgl⟩
          exact AllReadyH.nil
        exact AllReadyH.nil
      exact AllReadyH.nil
    case rest =>
    obtain ⟨pa, AL, AC, nL, cL, nC, cC, rfl, rfl, Ba, ra, hba, hpa⟩ := hcut
    rw [E1.out, E2.out, E3.out] at Ba ra
    have h0 := tIs.reach h0 hba
    have h2 := tIs.reach h2 hba
    have h4 := tBy.reach h4 hba
    have h5 := tBy.reach h5 hba
    have ha := tIs.reach ha hba
    have hb := tIs.reach hb hba
    have hR := tCell.reach hR hba
    have d0 := cell_bel hba d0
    have d1 := cell_bel hba d1
    have kc := cell_bel hba kc
    have hBa := bel_trans hB5 hba
    obtain ⟨wa, hwa⟩ : ∃ wa, wc = wa := ⟨_, rfl⟩
    rw [hwa] at h0 h2 h4 h5 ha hb hR d0 d1 kc hBa Ba ra ⊢
    clear hwa
    have a1 := Ba.cell 1
    have a2 := Ba.cell 2
    have zpa := Ba.size
    have hk : ∀ W, Below wa.heap.size wa W → (fun w' : World => w'.cell? ⟨pa, 1, none⟩ = some (.int .i64 u) ∧ w'.cell? ⟨pa, 2, none⟩ = some (.int .i64 tg) ∧ w'.cell? ⟨br, of, none⟩ = some (.int .i64 (x0 : Int)) ∧ w'.cell? ⟨ba, oa + x0, none⟩ = some (.int .i64 s0) ∧ w'.cell? ⟨w3.heap.size, 0, none⟩ = some (.slice Ac 80 cc)) W := fun W hW => ⟨cell_bel hW a1, cell_bel hW a2, cell_bel hW d0, cell_bel hW d1, cell_bel hW kc⟩
    have v1 : (u != u) = false := by simp
    have v2 : (tg != tg) = false := by simp
    have v3 : decide (tg < 0) = false := by simp; omega
    go_wp2_with fail
    refine wp_region_held_drew (S := (fun w' => w'.cell? ⟨pa, 1, none⟩ = some (.int .i64 u) ∧ w'.cell? ⟨pa, 2, none⟩ = some (.int .i64 tg) ∧ w'.cell? ⟨br, of, none⟩ = some (.int .i64 (x0 : Int)) ∧ w'.cell? ⟨ba, oa + x0, none⟩ = some (.int .i64 s0) ∧ w'.cell? ⟨w3.heap.size, 0, none⟩ = some (.slice Ac 80 cc))) (by kernel_rfl) (by exact hk _ (belx)) (fun hHeld => ?_)
    refine wpAnyH_take (i := 0) (oi := ⟨some 85, _, _, _, _, _⟩) (v := ?v151) rfl (by kernel_rfl) (by kernel_rfl) (by kernel_rfl) (fun _ _ _ h => h) (Or.inl ⟨by rfl, ?hy151⟩) (by assumption) ?_
    case hy151 => (intro w hSw; (try dsimp only at hSw); go_simp; try (with_reducible rfl))
    (try simp only [Act.put, qa_, qb_, qc_])
    refine wpAnyH_take (i := 1) (oi := ⟨some 86, _, _, _, _, _⟩) (v := ?v152) rfl (by kernel_rfl) (by kernel_rfl) (by kernel_rfl) (fun _ _ _ h => h) (Or.inl ⟨by rfl, ?hy152⟩) (by assumption) ?_
    case hy152 => (intro w hSw; (try dsimp only at hSw); go_simp; try (with_reducible rfl))
    (try simp only [Act.put, qa_, qb_, qc_])
    refine wpAnyH_take (i := 2) (oi := ⟨some 87, _, _, _, _, _⟩) (v := ?v153) rfl (by kernel_rfl) (by kernel_rfl) (by kernel_rfl) (fun _ _ _ h => h) (Or.inl ⟨by rfl, ?hy153⟩) (by assumption) ?_
    case hy153 => (intro w hSw; (try dsimp only at hSw); go_simp; try (with_reducible rfl))
    (try simp only [Act.put, qa_, qb_, qc_])
    refine wpAnyH_take (i := 3) (oi := ⟨some 88, _, _, _, _, _⟩) (v := ?v154) rfl (by kernel_rfl) (by kernel_rfl) (by kernel_rfl) (fun _ _ _ h => h) (Or.inl ⟨by rfl, ?hy154⟩) (by assumption) ?_
    case hy154 => (intro w hSw; (try dsimp only at hSw); go_simp; try (with_reducible rfl))
    (try simp only [Act.put, qa_, qb_, qc_])
    refine wpAnyH_take (i := 4) (oi := ⟨some 89, _, _, _, _, _⟩) (v := ?v155) rfl (by kernel_rfl) (by kernel_rfl) (by kernel_rfl) (fun _ _ _ h => h) (Or.inl ⟨by rfl, ?hy155⟩) (by assumption) ?_
    case hy155 => (intro w hSw; (try dsimp only at hSw); go_simp; try (with_reducible rfl))
    (try simp only [Act.put, qa_, qb_, qc_])
    refine wpAnyH_take (i := 5) (oi := ⟨some 90, _, _, _, _, _⟩) (v := ?v156) rfl (by kernel_rfl) (by kernel_rfl) (by kernel_rfl) (fun _ _ _ h => h) (Or.inl ⟨by rfl, ?hy156⟩) (by assumption) ?_
    case hy156 => (intro w hSw; (try dsimp only at hSw); go_simp; try (with_reducible rfl))
    (try simp only [Act.put, qa_, qb_, qc_])
    refine wpAnyH_take (i := 6) (oi := ⟨some 91, _, _, _, _, _⟩) (v := ?v157) rfl (by kernel_rfl) (by kernel_rfl) (by kernel_rfl) (fun _ _ _ h => h) (Or.inl ⟨by rfl, ?hy157⟩) (by assumption) ?_
    case hy157 => (intro w hSw; (try dsimp only at hSw); go_simp; try (with_reducible rfl))
    (try simp only [Act.put, qa_, qb_, qc_])
    refine wpAnyH_take (i := 7) (oi := ⟨some 92, _, _, _, _, _⟩) (v := ?v158) rfl (by kernel_rfl) (by kernel_rfl) (by kernel_rfl) (fun _ _ _ h => h) (Or.inl ⟨by rfl, ?hy158⟩) (by assumption) ?_
    case hy158 => (intro w hSw; (try dsimp only at hSw); go_simp; try (with_reducible rfl))
    (try simp only [Act.put, qa_, qb_, qc_])
    refine wpAnyH_take (i := 8) (oi := ⟨some 93, _, _, _, _, _⟩) (v := ?v159) rfl (by kernel_rfl) (by kernel_rfl) (by kernel_rfl) (fun _ _ _ h => h) (Or.inl ⟨by rfl, ?hy159⟩) (by assumption) ?_
    case hy159 => (intro w hSw; (try dsimp only at hSw); go_simp; try (with_reducible rfl))
    (try simp only [Act.put, qa_, qb_, qc_])
    refine wpAnyH_take (i := 9) (oi := ⟨some 94, _, _, _, _, _⟩) (v := ?v160) rfl (by kernel_rfl) (by kernel_rfl) (by kernel_rfl) (fun _ _ _ h => h) (Or.inl ⟨by rfl, ?hy160⟩) (by assumption) ?_
    case hy160 => (intro w hSw; (try dsimp only at hSw); go_simp; try (with_reducible rfl))
    (try simp only [Act.put, qa_, qb_, qc_])
    refine wpAnyH_take (i := 10) (oi := ⟨some 95, _, _, _, _, _⟩) (v := ?v161) rfl (by kernel_rfl) (by kernel_rfl) (by kernel_rfl) (fun _ _ _ h => h) (Or.inl ⟨by rfl, ?hy161⟩) (by assumption) ?_
    case hy161 => (intro w hSw; (try dsimp only at hSw); go_simp; try (with_reducible rfl))
    (try simp only [Act.put, qa_, qb_, qc_])
    refine wpAnyH_take (i := 11) (oi := ⟨some 96, _, _, _, _, _⟩) (v := ?v162) rfl (by kernel_rfl) (by kernel_rfl) (by kernel_rfl) (fun _ _ _ h => h) (Or.inl ⟨by rfl, ?hy162⟩) (by assumption) ?_
    case hy162 => (intro w hSw; (try dsimp only at hSw); go_simp; try (with_reducible rfl))
    (try simp only [Act.put, qa_, qb_, qc_])
    refine wpAnyH_take (i := 12) (oi := ⟨some 97, _, _, _, _, _⟩) (v := ?v163) rfl (by kernel_rfl) (by kernel_rfl) (by kernel_rfl) (fun _ _ _ h => h) (Or.inl ⟨by rfl, ?hy163⟩) (by assumption) ?_
    case hy163 => (intro w hSw; (try dsimp only at hSw); go_simp; try (with_reducible rfl))
    (try simp only [Act.put, qa_, qb_, qc_])
    refine wpAnyH_take (i := 13) (oi := ⟨some 98, _, _, _, _, _⟩) (v := ?v164) rfl (by kernel_rfl) (by kernel_rfl) (by kernel_rfl) (fun _ _ _ h => h) (Or.inl ⟨by rfl, ?hy164⟩) (by assumption) ?_
    case hy164 => (intro w hSw; (try dsimp only at hSw); go_simp; try (with_reducible rfl))
    (try simp only [Act.put, qa_, qb_, qc_])
    refine wpAnyH_take (i := 14) (oi := ⟨some 99, _, _, _, _, _⟩) (v := ?v165) rfl (by kernel_rfl) (by kernel_rfl) (by kernel_rfl) (fun _ _ _ h => h) (Or.inl ⟨by rfl, ?hy165⟩) (by assumption) ?_
    case hy165 => (intro w hSw; (try dsimp only at hSw); go_simp; try (with_reducible rfl))
    (try simp only [Act.put, qa_, qb_, qc_])
    refine wpAnyH_take (i := 15) (oi := ⟨some 100, _, _, _, _, _⟩) (v := ?v166) rfl (by kernel_rfl) (by kernel_rfl) (by kernel_rfl) (fun _ _ _ h => h) (Or.inl ⟨by rfl, ?hy166⟩) (by assumption) ?_
    case hy166 => (intro w hSw; (try dsimp only at hSw); go_simp; try (with_reducible rfl))
    (try simp only [Act.put, qa_, qb_, qc_])
    refine wpAnyH_take (i := 16) (oi := ⟨some 101, _, _, _, _, _⟩) (v := ?v167) rfl (by kernel_rfl) (by kernel_rfl) (by kernel_rfl) (fun _ _ _ h => h) (Or.inl ⟨by rfl, ?hy167⟩) (by assumption) ?_
    case hy167 => (intro w hSw; (try dsimp only at hSw); go_simp; try (with_reducible rfl))
    (try simp only [Act.put, qa_, qb_, qc_])
    refine wpAnyH_take (i := 17) (oi := ⟨some 102, _, _, _, _, _⟩) (v := ?v168) rfl (by kernel_rfl) (by kernel_rfl) (by kernel_rfl) (fun _ _ _ h => h) (Or.inl ⟨by rfl, ?hy168⟩) (by assumption) ?_
    case hy168 => (intro w hSw; (try dsimp only at hSw); go_simp; try (with_reducible rfl))
    (try simp only [Act.put, qa_, qb_, qc_])
    refine wpAnyH_ready (rs := [18]) (by kernel_rfl) (by simp) ?_
    refine AllReadyH.cons rfl (fun K hK => ?_) ?_
    · go_simp
      go_at_call 20
      refine (i_TagOf s0 (slR_ints (tCell.reach hR (belx))).1 (slR_ints hR).2.1 (slR_ints hR).2.2).mono ?_
      rintro e w21 ⟨rfl, hb21⟩
      rw [HTA.out]
      have hs1 : Below wa.heap.size wa w21 := bel_trans (belx) hb21
      go_wp2_with fail
      refine hK.out _ _ (by exact hk _ hs1) (fun hHeld => ?_)
      clear hK K
      (try simp only [Act.put, qa_, qb_, qc_])
      refine wpAnyH_take (i := 19) (oi := ⟨some 104, _, _, _, _, _⟩) (v := ?v169) rfl (by kernel_rfl) (by kernel_rfl) (by kernel_rfl) (fun _ _ _ h => h) (Or.inl ⟨by rfl, ?hy169⟩) (by assumption) ?_
      case hy169 => (intro w hSw; (try dsimp only at hSw); go_simp; try (with_reducible rfl))
      (try simp only [Act.put, qa_, qb_, qc_])
      refine wpAnyH_take (i := 20) (oi := ⟨some 105, _, _, _, _, _⟩) (v := ?v170) rfl (by kernel_rfl) (by kernel_rfl) (by kernel_rfl) (fun _ _ _ h => h) (Or.inl ⟨by rfl, ?hy170⟩) (by assumption) ?_
      case hy170 => (intro w hSw; (try dsimp only at hSw); go_simp; try (with_reducible rfl))
      (try simp only [Act.put, qa_, qb_, qc_])
      refine wpAnyH_take (i := 21) (oi := ⟨some 106, _, _, _, _, _⟩) (v := ?v171) rfl (by kernel_rfl) (by kernel_rfl) (by kernel_rfl) (fun _ _ _ h => h) (Or.inl ⟨by rfl, ?hy171⟩) (by assumption) ?_
      case hy171 => (intro w hSw; (try dsimp only at hSw); go_simp; try (with_reducible rfl))
      (try simp only [Act.put, qa_, qb_, qc_])
      refine wpAnyH_take (i := 22) (oi := ⟨some 107, _, _, _, _, _⟩) (v := ?v172) rfl (by kernel_rfl) (by kernel_rfl) (by kernel_rfl) (fun _ _ _ h => h) (Or.inl ⟨by rfl, ?hy172⟩) (by assumption) ?_
      case hy172 => (intro w hSw; (try dsimp only at hSw); go_simp; try (with_reducible rfl))
      (try simp only [Act.put, qa_, qb_, qc_])
      refine wpAnyH_take (i := 23) (oi := ⟨some 108, _, _, _, _, _⟩) (v := ?v173) rfl (by kernel_rfl) (by kernel_rfl) (by kernel_rfl) (fun _ _ _ h => h) (Or.inl ⟨by rfl, ?hy173⟩) (by assumption) ?_
      case hy173 => (intro w hSw; (try dsimp only at hSw); go_simp; try (with_reducible rfl))
      (try simp only [Act.put, qa_, qb_, qc_])
      refine wpAnyH_take (i := 24) (oi := ⟨some 109, _, _, _, _, _⟩) (v := ?v174) rfl (by kernel_rfl) (by kernel_rfl) (by kernel_rfl) (fun _ _ _ h => h) (Or.inl ⟨by rfl, ?hy174⟩) (by assumption) ?_
      case hy174 => (intro w hSw; (try dsimp only at hSw); go_simp; try (with_reducible rfl))
      (try simp only [Act.put, qa_, qb_, qc_])
      refine wpAnyH_take (i := 25) (oi := ⟨some 110, _, _, _, _, _⟩) (v := ?v175) rfl (by kernel_rfl) (by kernel_rfl) (by kernel_rfl) (fun _ _ _ h => h) (Or.inl ⟨by rfl, ?hy175⟩) (by assumption) ?_
      case hy175 => (intro w hSw; (try dsimp only at hSw); go_simp; try (with_reducible rfl))
      (try simp only [Act.put, qa_, qb_, qc_])
      refine wpAnyH_done (by kernel_rfl) ?_ _
      have h0 := tIs.reach h0 hs1
      have h2 := tIs.reach h2 hs1
      have h4 := tBy.reach h4 hs1
      have h5 := tBy.reach h5 hs1
      have hb := tIs.reach hb hs1
      have Ba := Ba.below hs1 Ba.size
      have ra := tPeeled.reach ra hs1
      have hBb := bel_trans hBa hs1
      obtain ⟨wq, hwq⟩ : ∃ wq, w21 = wq := ⟨_, rfl⟩
      rw [hwq] at h0 h2 h4 h5 hb Ba ra hBb ⊢
      clear hk hs1 hb21 hwq a1 a2 d0 d1 kc hR ha v1 v2 v3
      obtain ⟨_, _, _, _, _, _, ea, -, -, -, -, -, hl3, r3, -, -, hl4', r4⟩ := openPeeled ra
      simp only [List.cons.injEq, Value.slice.injEq, and_true] at ea
      by_cases h1 : n0 = 1
      · subst h1
        have hr1 : r.length = 1 := N0.out
        rw [E4.out, if_pos hr1] at r3 hl3
        rw [E5.out, if_pos hr1] at hl4'
        have hnx : r.getD 1 255 = 255 := by rw [List.getD_eq_getElem?_getD, List.getElem?_eq_none (by omega)]; rfl
        rw [hnx] at Ba
        obtain ⟨-, -, -, ⟨rfl, rfl, rfl⟩, rfl, rfl, rfl⟩ := ea
        obtain rfl : nC = 0 := hl4'.symm
        have a0 := Ba.cell 0
        have a3 := Ba.cell 3
        have a4 := Ba.cell 4
        clear hr1 hnx hl3 hl4'
        go_wp2_with fail
        refine (l_same (slR_ints r3).1 (slR_ints h4).1).mono ?_
        rintro e w' ⟨rfl, rfl⟩
        rw [show decide (ld = ld) = true from by simp]
        go_wp2_with fail
        refine (l_onions _).mono ?_
        rintro e w9 ⟨rfl, hb9⟩
        go_wp2_with fail
        go_ret
        exact ⟨rfl, bel_trans hBb hb9⟩
      · have hr1 : ¬ r.length = 1 := by rw [N0.out]; exact h1
        have hto := wrapped_tailOk HO.out hr1
        rw [E4.out, if_neg hr1] at r3 hl3
        rw [E5.out, if_neg hr1] at r4 hl4'
        obtain ⟨dl, hdl⟩ : ∃ dl, padL (wrapL (ndP sd) u ld (r.drop 1) (s.drop 1)) pd = dl := ⟨_, rfl⟩
        have hd80 : dl.length = 80 := by
          rw [← hdl]
          have h := wrapped_len hto
          rw [fwrap_t hto] at h
          exact h
        have WT1 := Lib.hid (show (fwrap (r.drop 1) (ndP sd) (s.drop 1) u ld pd).1 = dl by rw [fwrap_t hto]; exact hdl)
        have WT2 := Lib.hid (show (fwrap (r.drop 1) (ndP sd) (s.drop 1) u ld pd).2 = true by rw [fwrap_t hto])
        have DL := Lib.hid hd80
        rw [hdl] at r4 hl4'
        obtain ⟨-, -, -, ⟨rfl, rfl, rfl⟩, rfl, rfl, rfl⟩ := ea
        obtain rfl : nL = 0 := hl3.symm
        obtain rfl : nC = 80 := by rw [← hl4']; exact hd80
        have rC := r4
        have n2' : 1 < n0 := by omega
        obtain ⟨y1, hy1⟩ : ∃ y1, r.getD 1 0 = y1 := ⟨_, rfl⟩
        have HN1 : r.getD 1 255 = y1 := by rw [← hy1, List.getD_eq_getElem?_getD, List.getD_eq_getElem?_getD, List.getElem?_eq_getElem (by rw [N0.out]; omega)]; rfl
        rw [HN1] at Ba
        obtain ⟨br', of', e7, -, d7, -⟩ := (slR_ints h0).1.at_ (i := 1) n2'
        injection e7 with e7
        injection e7 with e7 e8 _
        subst e7 e8
        rw [hy1] at d7
        have n2s := N20.out
        obtain ⟨bs, os, es, -, -, -⟩ := (slR_ints h2).1.at_ (i := 0) (by omega)
        subst es
        have u0' := (slR_ints h0).2
        have u2' := (slR_ints h2).2
        have ht0 : tIs.R wq wq.heap.size [.slice (some ⟨br, of + 1, none⟩) (n0 - 1) (c0 - 1)] (r.drop 1) := ints_slR (Ints.tailK (slR_ints h0).1 1 (by omega)) (by omega) (by omega)
        have ht2 : tIs.R wq wq.heap.size [.slice (some ⟨bs, os + 1, none⟩) (n2 - 1) (c2 - 1)] (s.drop 1) := ints_slR (Ints.tailK (slR_ints h2).1 1 (by omega)) (by omega) (by omega)
        have g0 : ¬ c0 = 1 := by omega
        have g2 : ¬ c2 = 1 := by omega
        have g3 : (1 : Int) ≤ (n0 : Int) := by omega
        have g4 : (1 : Int) ≤ (n2 : Int) := by omega
        have g5 : (1 : Int) < (n0 : Int) := by omega
        have g6 : ((n0 : Int) == 1) = false := by simp; omega
        have g7 : (n0 : Int) ≤ (c0 : Int) := by omega
        have g8 : (n2 : Int) ≤ (c2 : Int) := by omega
        have a0 := Ba.cell 0
        have a3 := Ba.cell 3
        have a4 := Ba.cell 4
        clear hr1 hto hdl hd80 hl3 hl4' hy1 HN1 n2s h1
        go_wp2_with fail
        go_cut [19, 20] (fun t19 t20 wc => ∃ (pd2 : Nat) (AD : Option Addr) (cD : Nat), t19 = .pointer (some ⟨pd2, 0, none⟩) ∧ t20 = .bool true ∧ Box wc pd2 30 #[.slice AD 80 cD] ∧ tCell.R wc wc.heap.size [.slice AD 80 cD] dl ∧ Below wq.heap.size wq wc ∧ wq.heap.size ≤ pd2)
        case first =>
          refine wp_region_held_drew (S := (fun _ => True)) (by kernel_rfl) (by trivial) (fun hHeld => ?_)
          refine wpAnyH_take (i := 0) (oi := ⟨some 134, _, _, _, _, _⟩) (v := ?v89) rfl (by kernel_rfl) (by kernel_rfl) (by kernel_rfl) (fun _ _ _ h => h) (Or.inl ⟨by rfl, ?hy89⟩) (by assumption) ?_
          case hy89 => (intro w hSw; (try dsimp only at hSw); go_simp; try (with_reducible rfl))
          (try simp only [Act.put, qa_, qb_, qc_])
          refine wpAnyH_take (i := 1) (oi := ⟨some 135, _, _, _, _, _⟩) (v := ?v90) rfl (by kernel_rfl) (by kernel_rfl) (by kernel_rfl) (fun _ _ _ h => h) (Or.inl ⟨by rfl, ?hy90⟩) (by assumption) ?_
          case hy90 => (intro w hSw; (try dsimp only at hSw); go_simp; try (with_reducible rfl))
          (try simp only [Act.put, qa_, qb_, qc_])
          refine wpAnyH_take (i := 2) (oi := ⟨some 136, _, _, _, _, _⟩) (v := ?v91) rfl (by kernel_rfl) (by kernel_rfl) (by kernel_rfl) (fun _ _ _ h => h) (Or.inl ⟨by rfl, ?hy91⟩) (by assumption) ?_
          case hy91 => (intro w hSw; (try dsimp only at hSw); go_simp; try (with_reducible rfl))
          (try simp only [Act.put, qa_, qb_, qc_])
          refine wpAnyH_take (i := 3) (oi := ⟨some 137, _, _, _, _, _⟩) (v := ?v92) rfl (by kernel_rfl) (by kernel_rfl) (by kernel_rfl) (fun _ _ _ h => h) (Or.inl ⟨by rfl, ?hy92⟩) (by assumption) ?_
          case hy92 => (intro w hSw; (try dsimp only at hSw); go_simp; try (with_reducible rfl))
          (try simp only [Act.put, qa_, qb_, qc_])
          refine wpAnyH_take (i := 4) (oi := ⟨some 138, _, _, _, _, _⟩) (v := ?v93) rfl (by kernel_rfl) (by kernel_rfl) (by kernel_rfl) (fun _ _ _ h => h) (Or.inl ⟨by rfl, ?hy93⟩) (by assumption) ?_
          case hy93 => (intro w hSw; (try dsimp only at hSw); go_simp; try (with_reducible rfl))
          (try simp only [Act.put, qa_, qb_, qc_])
          refine wpAnyH_take (i := 5) (oi := ⟨some 139, _, _, _, _, _⟩) (v := ?v94) rfl (by kernel_rfl) (by kernel_rfl) (by kernel_rfl) (fun _ _ _ h => h) (Or.inl ⟨by rfl, ?hy94⟩) (by assumption) ?_
          case hy94 => (intro w hSw; (try dsimp only at hSw); go_simp; try (with_reducible rfl))
          (try simp only [Act.put, qa_, qb_, qc_])
          refine wpAnyH_take (i := 6) (oi := ⟨some 140, _, _, _, _, _⟩) (v := ?v95) rfl (by kernel_rfl) (by kernel_rfl) (by kernel_rfl) (fun _ _ _ h => h) (Or.inl ⟨by rfl, ?hy95⟩) (by assumption) ?_
          case hy95 => (intro w hSw; (try dsimp only at hSw); go_simp; try (with_reducible rfl))
          (try simp only [Act.put, qa_, qb_, qc_])
          refine wpAnyH_take (i := 7) (oi := ⟨some 141, _, _, _, _, _⟩) (v := ?v96) rfl (by kernel_rfl) (by kernel_rfl) (by kernel_rfl) (fun _ _ _ h => h) (Or.inl ⟨by rfl, ?hy96⟩) (by assumption) ?_
          case hy96 => (intro w hSw; (try dsimp only at hSw); go_simp; try (with_reducible rfl))
          (try simp only [Act.put, qa_, qb_, qc_])
          refine wpAnyH_ready (rs := [8, 12]) (by kernel_rfl) (by simp) ?_
          refine AllReadyH.cons rfl (fun K hK => ?_) ?_
          · have hX : Below wq.heap.size wq (wq.drew) := (belx)
            go_simp
            go_at_call 11
            refine (i_WrapR (tIs.reach ht0 hX) (by rw [List.length_drop, N0.out]; omega) (tIs.reach hb hX) (by rw [ndP_len]; omega) (tIs.reach ht2 hX) (by rw [List.length_drop, N2.out]; omega) (WalkArith.wf_i64 ⟨by omega, by omega⟩) (tBy.reach h4 hX) (by have := Q4.out; omega) (tBy.reach h5 hX) (by have := Q5.out; omega)).mono ?_
            rintro e w2 ⟨cs2, F2, rfl, hO2, hN2, hb2⟩
            rw [WT2.out]
            rw [WT1.out] at hO2
            obtain ⟨AD, cD, rfl, -, -⟩ := slO_one hO2
            rw [DL.out] at hO2 ⊢
            have hx : Below wq.heap.size wq w2 := bel_trans hX hb2
            go_wp2_with fail
            refine hK.out _ _ (by trivial) (fun hHeld => ?_)
            clear hK K
            (try simp only [Act.put, qa_, qb_, qc_])
            refine wpAnyH_take (i := 9) (oi := ⟨some 133, _, _, _, _, _⟩) (v := ?v97) rfl (by kernel_rfl) (by kernel_rfl) (by kernel_rfl) (fun _ _ _ h => h) (Or.inl ⟨by rfl, ?hy97⟩) (by assumption) ?_
            case hy97 => (intro w hSw; (try dsimp only at hSw); go_simp; try (with_reducible rfl))
            (try simp only [Act.put, qa_, qb_, qc_])
            refine wpAnyH_take (i := 10) (oi := ⟨some 143, _, _, _, _, _⟩) (v := ?v98) rfl (by kernel_rfl) (by kernel_rfl) (by kernel_rfl) (fun _ _ _ h => h) (Or.inl ⟨by rfl, ?hy98⟩) (by assumption) ?_
            case hy98 => (intro w hSw; (try dsimp only at hSw); go_simp; try (with_reducible rfl))
            (try simp only [Act.put, qa_, qb_, qc_])
            refine wpAnyH_take (i := 11) (oi := ⟨some 144, _, _, _, _, _⟩) (v := ?v99) rfl (by kernel_rfl) (by kernel_rfl) (by kernel_rfl) (fun _ _ _ h => h) (Or.inl ⟨by rfl, ?hy99⟩) (by assumption) ?_
            case hy99 => (intro w hSw; (try dsimp only at hSw); go_simp; try (with_reducible rfl))
            (try simp only [Act.put, qa_, qb_, qc_])
            refine wpAnyH_ready (rs := [12]) (by kernel_rfl) (by simp) ?_
            refine AllReadyH.cons rfl (fun K hK => ?_) ?_
            · go_simp
              refine hK.out _ _ (by trivial) (fun hHeld => ?_)
              clear hK K
              (try simp only [Act.put, qa_, qb_, qc_])
              refine wpAnyH_ready (rs := [13]) (by kernel_rfl) (by simp) ?_
              refine AllReadyH.cons rfl (fun K hK => ?_) ?_
              · have Zg : Box (w2.alloc (.cells #[.slice AD 80 cD] 30)) w2.heap.size 30 #[.slice AD 80 cD] := Box.new _ _ _
                have hfin : Below wq.heap.size wq (w2.alloc (.cells #[.slice AD 80 cD] 30)) := bel_alloc hx _
                have hgl : wq.heap.size ≤ w2.heap.size := hx.size
                have hRP := tCell.read (Ty.below (t := tCell) hO2 (show Below w2.heap.size w2 (w2.alloc (.cells #[.slice AD 80 cD] 30)) from bel_alloc (Below.refl _ _) _))
                go_simp
                refine hK.out _ _ (by trivial) (fun hHeld => ?_)
                clear hK K
                (try simp only [Act.put, qa_, qb_, qc_])
                refine wpAnyH_take (i := 14) (oi := ⟨some 20, _, _, _, _, _⟩) (v := ?v100) rfl (by kernel_rfl) (by kernel_rfl) (by kernel_rfl) (fun _ _ _ h => h) (Or.inl ⟨by rfl, ?hy100⟩) (by assumption) ?_
                case hy100 => (intro w hSw; (try dsimp only at hSw); go_simp; try (with_reducible rfl))
                (try simp only [Act.put, qa_, qb_, qc_])
                refine wpAnyH_done (by kernel_rfl) ?_ _
                go_wp2_with fail
                go_meet
                exact ⟨_, AD, cD, rfl, rfl, by first | exact Zg | simpa using Zg, by first | exact hRP | simpa using hRP, by first | exact hfin | simpa using hfin, hgl⟩
              exact AllReadyH.nil
            exact AllReadyH.nil
          refine AllReadyH.cons rfl (fun K hK => ?_) ?_
          · go_simp
            refine hK.out _ _ (by trivial) (fun hHeld => ?_)
            clear hK K
            (try simp only [Act.put, qa_, qb_, qc_])
            refine wpAnyH_ready (rs := [8]) (by kernel_rfl) (by simp) ?_
            refine AllReadyH.cons rfl (fun K hK => ?_) ?_
            · have hX : Below wq.heap.size wq ((wq.alloc (.cells #[.slice none 0 0] 30)).drew) := (belx)
              go_simp
              go_at_call 11
              refine (i_WrapR (tIs.reach ht0 hX) (by rw [List.length_drop, N0.out]; omega) (tIs.reach hb hX) (by rw [ndP_len]; omega) (tIs.reach ht2 hX) (by rw [List.length_drop, N2.out]; omega) (WalkArith.wf_i64 ⟨by omega, by omega⟩) (tBy.reach h4 hX) (by have := Q4.out; omega) (tBy.reach h5 hX) (by have := Q5.out; omega)).mono ?_
              rintro e w2 ⟨cs2, F2, rfl, hO2, hN2, hb2⟩
              rw [WT2.out]
              rw [WT1.out] at hO2
              obtain ⟨AD, cD, rfl, -, -⟩ := slO_one hO2
              rw [DL.out] at hO2 ⊢
              have hx : Below wq.heap.size wq w2 := bel_trans hX hb2
              have Zb : Box w2 wq.heap.size 30 #[.slice none 0 0] := Box.below (show Box ((wq.alloc (.cells #[.slice none 0 0] 30)).drew) wq.heap.size 30 #[.slice none 0 0] from Box.drew (Box.new wq 30 #[.slice none 0 0])) hb2 (by show wq.heap.size < (World.alloc _ _).heap.size; simp)
              have zb0 := Zb.cell 0; have zf0 := Zb.frozen 0
              go_wp2_with fail
              refine hK.out _ _ (by trivial) (fun hHeld => ?_)
              clear hK K
              (try simp only [Act.put, qa_, qb_, qc_])
              refine wpAnyH_take (i := 9) (oi := ⟨some 133, _, _, _, _, _⟩) (v := ?v101) rfl (by kernel_rfl) (by kernel_rfl) (by kernel_rfl) (fun _ _ _ h => h) (Or.inl ⟨by rfl, ?hy101⟩) (by assumption) ?_
              case hy101 => (intro w hSw; (try dsimp only at hSw); go_simp; try (with_reducible rfl))
              (try simp only [Act.put, qa_, qb_, qc_])
              refine wpAnyH_take (i := 10) (oi := ⟨some 143, _, _, _, _, _⟩) (v := ?v102) rfl (by kernel_rfl) (by kernel_rfl) (by kernel_rfl) (fun _ _ _ h => h) (Or.inl ⟨by rfl, ?hy102⟩) (by assumption) ?_
              case hy102 => (intro w hSw; (try dsimp only at hSw); go_simp; try (with_reducible rfl))
              (try simp only [Act.put, qa_, qb_, qc_])
              refine wpAnyH_take (i := 11) (oi := ⟨some 144, _, _, _, _, _⟩) (v := ?v103) rfl (by kernel_rfl) (by kernel_rfl) (by kernel_rfl) (fun _ _ _ h => h) (Or.inl ⟨by rfl, ?hy103⟩) (by assumption) ?_
              case hy103 => (intro w hSw; (try dsimp only at hSw); go_simp; try (with_reducible rfl))
              (try simp only [Act.put, qa_, qb_, qc_])
              refine wpAnyH_ready (rs := [13]) (by kernel_rfl) (by simp) ?_
              refine AllReadyH.cons rfl (fun K hK => ?_) ?_
              · have hgl : wq.heap.size ≤ wq.heap.size := Nat.le_refl _
                have hgB : wq.heap.size < ((wq.alloc (.cells #[.slice none 0 0] 30)).drew).heap.size := by show wq.heap.size < (World.alloc _ _).heap.size; simp
                have hfin := bel_put hx (p := ⟨wq.heap.size, 0, none⟩) (Nat.le_refl _) (.slice AD 80 cD)
                have Zg := Zb.put 0 (.slice AD 80 cD)
                have hRP : tCell.R (w2.setCell ⟨wq.heap.size, 0, none⟩ (.slice AD 80 cD)) (w2.setCell ⟨wq.heap.size, 0, none⟩ (.slice AD 80 cD)).heap.size [.slice AD 80 cD] dl := tCell.read (Ty.far (t := tCell) hO2 hN2 (p := ⟨wq.heap.size, 0, none⟩) hgB (.slice AD 80 cD))
                go_simp
                refine hK.out _ _ (by trivial) (fun hHeld => ?_)
                clear hK K
                (try simp only [Act.put, qa_, qb_, qc_])
                refine wpAnyH_take (i := 14) (oi := ⟨some 20, _, _, _, _, _⟩) (v := ?v104) rfl (by kernel_rfl) (by kernel_rfl) (by kernel_rfl) (fun _ _ _ h => h) (Or.inl ⟨by rfl, ?hy104⟩) (by assumption) ?_
                case hy104 => (intro w hSw; (try dsimp only at hSw); go_simp; try (with_reducible rfl))
                (try simp only [Act.put, qa_, qb_, qc_])
                refine wpAnyH_done (by kernel_rfl) ?_ _
                go_wp2_with fail
                go_meet
                exact ⟨_, AD, cD, rfl, rfl, by first | exact Zg | simpa using Zg, by first | exact hRP | simpa using hRP, by first | exact hfin | simpa using hfin, hgl⟩
              exact AllReadyH.nil
            exact AllReadyH.nil
          exact AllReadyH.nil
        case rest =>
        obtain ⟨pd2, AD, cD, rfl, rfl, Bd, rD, hbd, hpd2⟩ := hcut
        have hBb := bel_trans hBb hbd
        have rC := tCell.reach rC hbd
        have a0 := cell_bel hbd a0
        have a3 := cell_bel hbd a3
        have a4 := cell_bel hbd a4
        have d7 := cell_bel hbd d7
        have bd0 := Bd.cell 0
        obtain ⟨wb, hwb⟩ : ∃ wb, wc = wb := ⟨_, rfl⟩
        rw [hwb] at hBb rC rD a0 a3 a4 d7 bd0 ⊢
        clear hwb
        have hfs : fsize ((n0 : Int) - 1) (n4 : Int) = ((12 * (n0 - 1) + n4 : Nat) : Int) := by unfold fsize; rw [if_pos (by omega)]; omega
        obtain ⟨sz, hsz⟩ : ∃ sz, 12 * (n0 - 1) + n4 = sz := ⟨_, rfl⟩
        have sz80 : sz ≤ 72 := by omega
        rw [hsz] at hfs
        have HFS := Lib.hid hfs
        have m1 : IntKind.i64.wrap ((n0 : Int) - 1) = (n0 : Int) - 1 := IntWalk.i64_in _ (by omega)
        clear hfs hsz
        have hk2 : ∀ W, Below wb.heap.size wb W → (fun w' : World => w'.cell? ⟨pa, 0, none⟩ = some (.int .i64 y1) ∧ w'.cell? ⟨pa, 3, none⟩ = some (.slice AL 0 cL) ∧ w'.cell? ⟨pa, 4, none⟩ = some (.slice AC 80 cC) ∧ w'.cell? ⟨br, of + 1, none⟩ = some (.int .i64 y1) ∧ w'.cell? ⟨pd2, 0, none⟩ = some (.slice AD 80 cD)) W := fun W hW => ⟨cell_bel hW a0, cell_bel hW a3, cell_bel hW a4, cell_bel hW d7, cell_bel hW bd0⟩
        go_wp2_with fail
        refine (i_LayerSize ((n0 : Int) - 1) (n4 : Int) _).mono ?_
        rintro e w' ⟨rfl, rfl⟩
        rw [HFS.out]
        go_wp2_with fail
        refine wp_region_held_drew (S := (fun w' => w'.cell? ⟨pa, 0, none⟩ = some (.int .i64 y1) ∧ w'.cell? ⟨pa, 3, none⟩ = some (.slice AL 0 cL) ∧ w'.cell? ⟨pa, 4, none⟩ = some (.slice AC 80 cC) ∧ w'.cell? ⟨br, of + 1, none⟩ = some (.int .i64 y1) ∧ w'.cell? ⟨pd2, 0, none⟩ = some (.slice AD 80 cD))) (by kernel_rfl) (by exact hk2 _ (belx)) (fun hHeld => ?_)
        refine wpAnyH_take (i := 0) (oi := ⟨some 151, _, _, _, _, _⟩) (v := ?v105) rfl (by kernel_rfl) (by kernel_rfl) (by kernel_rfl) (fun _ _ _ h => h) (Or.inl ⟨by rfl, ?hy105⟩) (by assumption) ?_
        case hy105 => (intro w hSw; (try dsimp only at hSw); go_simp; try (with_reducible rfl))
        (try simp only [Act.put, qa_, qb_, qc_])
        refine wpAnyH_take (i := 1) (oi := ⟨some 152, _, _, _, _, _⟩) (v := ?v106) rfl (by kernel_rfl) (by kernel_rfl) (by kernel_rfl) (fun _ _ _ h => h) (Or.inl ⟨by rfl, ?hy106⟩) (by assumption) ?_
        case hy106 => (intro w hSw; (try dsimp only at hSw); go_simp; try (with_reducible rfl))
        (try simp only [Act.put, qa_, qb_, qc_])
        refine wpAnyH_take (i := 2) (oi := ⟨some 153, _, _, _, _, _⟩) (v := ?v107) rfl (by kernel_rfl) (by kernel_rfl) (by kernel_rfl) (fun _ _ _ h => h) (Or.inl ⟨by rfl, ?hy107⟩) (by assumption) ?_
        case hy107 => (intro w hSw; (try dsimp only at hSw); go_simp; try (with_reducible rfl))
        (try simp only [Act.put, qa_, qb_, qc_])
        refine wpAnyH_take (i := 3) (oi := ⟨some 154, _, _, _, _, _⟩) (v := ?v108) rfl (by kernel_rfl) (by kernel_rfl) (by kernel_rfl) (fun _ _ _ h => h) (Or.inl ⟨by rfl, ?hy108⟩) (by assumption) ?_
        case hy108 => (intro w hSw; (try dsimp only at hSw); go_simp; try (with_reducible rfl))
        (try simp only [Act.put, qa_, qb_, qc_])
        refine wpAnyH_take (i := 4) (oi := ⟨some 155, _, _, _, _, _⟩) (v := ?v109) rfl (by kernel_rfl) (by kernel_rfl) (by kernel_rfl) (fun _ _ _ h => h) (Or.inl ⟨by rfl, ?hy109⟩) (by assumption) ?_
        case hy109 => (intro w hSw; (try dsimp only at hSw); go_simp; try (with_reducible rfl))
        (try simp only [Act.put, qa_, qb_, qc_])
        refine wpAnyH_take (i := 5) (oi := ⟨some 156, _, _, _, _, _⟩) (v := ?v110) rfl (by kernel_rfl) (by kernel_rfl) (by kernel_rfl) (fun _ _ _ h => h) (Or.inl ⟨by rfl, ?hy110⟩) (by assumption) ?_
        case hy110 => (intro w hSw; (try dsimp only at hSw); go_simp; try (with_reducible rfl))
        (try simp only [Act.put, qa_, qb_, qc_])
        refine wpAnyH_take (i := 6) (oi := ⟨some 157, _, _, _, _, _⟩) (v := ?v111) rfl (by kernel_rfl) (by kernel_rfl) (by kernel_rfl) (fun _ _ _ h => h) (Or.inl ⟨by rfl, ?hy111⟩) (by assumption) ?_
        case hy111 => (intro w hSw; (try dsimp only at hSw); go_simp; try (with_reducible rfl))
        (try simp only [Act.put, qa_, qb_, qc_])
        refine wpAnyH_take (i := 7) (oi := ⟨some 158, _, _, _, _, _⟩) (v := ?v112) rfl (by kernel_rfl) (by kernel_rfl) (by kernel_rfl) (fun _ _ _ h => h) (Or.inl ⟨by rfl, ?hy112⟩) (by assumption) ?_
        case hy112 => (intro w hSw; (try dsimp only at hSw); go_simp; try (with_reducible rfl))
        (try simp only [Act.put, qa_, qb_, qc_])
        refine wpAnyH_take (i := 8) (oi := ⟨some 159, _, _, _, _, _⟩) (v := ?v113) rfl (by kernel_rfl) (by kernel_rfl) (by kernel_rfl) (fun _ _ _ h => h) (Or.inl ⟨by rfl, ?hy113⟩) (by assumption) ?_
        case hy113 => (intro w hSw; (try dsimp only at hSw); go_simp; try (with_reducible rfl))
        (try simp only [Act.put, qa_, qb_, qc_])
        refine wpAnyH_ready (rs := [9]) (by kernel_rfl) (by simp) ?_
        refine AllReadyH.cons rfl (fun K hK => ?_) ?_
        · go_simp
          go_at_call 16
          refine (i_CellOk (slR_ints (tCell.reach rC (belx))).1).mono ?_
          rintro e w31 ⟨rfl, hb31⟩
          rw [show decide (dl.length = 80) = true from decide_eq_true DL.out]
          have hq1 : Below wb.heap.size wb w31 := bel_trans (belx) hb31
          go_wp2_with fail
          refine hK.out _ _ (by exact hk2 _ hq1) (fun hHeld => ?_)
          clear hK K
          (try simp only [Act.put, qa_, qb_, qc_])
          refine wpAnyH_take (i := 10) (oi := ⟨some 161, _, _, _, _, _⟩) (v := ?v114) rfl (by kernel_rfl) (by kernel_rfl) (by kernel_rfl) (fun _ _ _ h => h) (Or.inl ⟨by rfl, ?hy114⟩) (by assumption) ?_
          case hy114 => (intro w hSw; (try dsimp only at hSw); go_simp; try (with_reducible rfl))
          (try simp only [Act.put, qa_, qb_, qc_])
          refine wpAnyH_take (i := 11) (oi := ⟨some 162, _, _, _, _, _⟩) (v := ?v115) rfl (by kernel_rfl) (by kernel_rfl) (by kernel_rfl) (fun _ _ _ h => h) (Or.inl ⟨by rfl, ?hy115⟩) (by assumption) ?_
          case hy115 => (intro w hSw; (try dsimp only at hSw); go_simp; try (with_reducible rfl))
          (try simp only [Act.put, qa_, qb_, qc_])
          refine wpAnyH_take (i := 12) (oi := ⟨some 163, _, _, _, _, _⟩) (v := ?v116) rfl (by kernel_rfl) (by kernel_rfl) (by kernel_rfl) (fun _ _ _ h => h) (Or.inl ⟨by rfl, ?hy116⟩) (by assumption) ?_
          case hy116 => (intro w hSw; (try dsimp only at hSw); go_simp; try (with_reducible rfl))
          (try simp only [Act.put, qa_, qb_, qc_])
          refine wpAnyH_take (i := 13) (oi := ⟨some 164, _, _, _, _, _⟩) (v := ?v117) rfl (by kernel_rfl) (by kernel_rfl) (by kernel_rfl) (fun _ _ _ h => h) (Or.inl ⟨by rfl, ?hy117⟩) (by assumption) ?_
          case hy117 => (intro w hSw; (try dsimp only at hSw); go_simp; try (with_reducible rfl))
          (try simp only [Act.put, qa_, qb_, qc_])
          refine wpAnyH_take (i := 14) (oi := ⟨some 165, _, _, _, _, _⟩) (v := ?v118) rfl (by kernel_rfl) (by kernel_rfl) (by kernel_rfl) (fun _ _ _ h => h) (Or.inl ⟨by rfl, ?hy118⟩) (by assumption) ?_
          case hy118 => (intro w hSw; (try dsimp only at hSw); go_simp; try (with_reducible rfl))
          (try simp only [Act.put, qa_, qb_, qc_])
          refine wpAnyH_take (i := 15) (oi := ⟨some 166, _, _, _, _, _⟩) (v := ?v119) rfl (by kernel_rfl) (by kernel_rfl) (by kernel_rfl) (fun _ _ _ h => h) (Or.inl ⟨by rfl, ?hy119⟩) (by assumption) ?_
          case hy119 => (intro w hSw; (try dsimp only at hSw); go_simp; try (with_reducible rfl))
          (try simp only [Act.put, qa_, qb_, qc_])
          refine wpAnyH_take (i := 16) (oi := ⟨some 167, _, _, _, _, _⟩) (v := ?v120) rfl (by kernel_rfl) (by kernel_rfl) (by kernel_rfl) (fun _ _ _ h => h) (Or.inl ⟨by rfl, ?hy120⟩) (by assumption) ?_
          case hy120 => (intro w hSw; (try dsimp only at hSw); go_simp; try (with_reducible rfl))
          (try simp only [Act.put, qa_, qb_, qc_])
          refine wpAnyH_take (i := 17) (oi := ⟨some 168, _, _, _, _, _⟩) (v := ?v121) rfl (by kernel_rfl) (by kernel_rfl) (by kernel_rfl) (fun _ _ _ h => h) (Or.inl ⟨by rfl, ?hy121⟩) (by assumption) ?_
          case hy121 => (intro w hSw; (try dsimp only at hSw); go_simp; try (with_reducible rfl))
          (try simp only [Act.put, qa_, qb_, qc_])
          refine wpAnyH_take (i := 18) (oi := ⟨some 169, _, _, _, _, _⟩) (v := ?v122) rfl (by kernel_rfl) (by kernel_rfl) (by kernel_rfl) (fun _ _ _ h => h) (Or.inl ⟨by rfl, ?hy122⟩) (by assumption) ?_
          case hy122 => (intro w hSw; (try dsimp only at hSw); go_simp; try (with_reducible rfl))
          (try simp only [Act.put, qa_, qb_, qc_])
          refine wpAnyH_take (i := 19) (oi := ⟨some 170, _, _, _, _, _⟩) (v := ?v123) rfl (by kernel_rfl) (by kernel_rfl) (by kernel_rfl) (fun _ _ _ h => h) (Or.inl ⟨by rfl, ?hy123⟩) (by assumption) ?_
          case hy123 => (intro w hSw; (try dsimp only at hSw); go_simp; try (with_reducible rfl))
          (try simp only [Act.put, qa_, qb_, qc_])
          refine wpAnyH_take (i := 20) (oi := ⟨some 171, _, _, _, _, _⟩) (v := ?v124) rfl (by kernel_rfl) (by kernel_rfl) (by kernel_rfl) (fun _ _ _ h => h) (Or.inl ⟨by rfl, ?hy124⟩) (by assumption) ?_
          case hy124 => (intro w hSw; (try dsimp only at hSw); go_simp; try (with_reducible rfl))
          (try simp only [Act.put, qa_, qb_, qc_])
          refine wpAnyH_take (i := 21) (oi := ⟨some 172, _, _, _, _, _⟩) (v := ?v125) rfl (by kernel_rfl) (by kernel_rfl) (by kernel_rfl) (fun _ _ _ h => h) (Or.inl ⟨by rfl, ?hy125⟩) (by assumption) ?_
          case hy125 => (intro w hSw; (try dsimp only at hSw); go_simp; try (with_reducible rfl))
          (try simp only [Act.put, qa_, qb_, qc_])
          refine wpAnyH_take (i := 22) (oi := ⟨some 173, _, _, _, _, _⟩) (v := ?v126) rfl (by kernel_rfl) (by kernel_rfl) (by kernel_rfl) (fun _ _ _ h => h) (Or.inl ⟨by rfl, ?hy126⟩) (by assumption) ?_
          case hy126 => (intro w hSw; (try dsimp only at hSw); go_simp; try (with_reducible rfl))
          (try simp only [Act.put, qa_, qb_, qc_])
          refine wpAnyH_take (i := 23) (oi := ⟨some 174, _, _, _, _, _⟩) (v := ?v127) rfl (by kernel_rfl) (by kernel_rfl) (by kernel_rfl) (fun _ _ _ h => h) (Or.inl ⟨by rfl, ?hy127⟩) (by assumption) ?_
          case hy127 => (intro w hSw; (try dsimp only at hSw); go_simp; try (with_reducible rfl))
          (try simp only [Act.put, qa_, qb_, qc_])
          refine wpAnyH_take (i := 24) (oi := ⟨some 175, _, _, _, _, _⟩) (v := ?v128) rfl (by kernel_rfl) (by kernel_rfl) (by kernel_rfl) (fun _ _ _ h => h) (Or.inl ⟨by rfl, ?hy128⟩) (by assumption) ?_
          case hy128 => (intro w hSw; (try dsimp only at hSw); go_simp; try (with_reducible rfl))
          (try simp only [Act.put, qa_, qb_, qc_])
          refine wpAnyH_take (i := 25) (oi := ⟨some 176, _, _, _, _, _⟩) (v := ?v129) rfl (by kernel_rfl) (by kernel_rfl) (by kernel_rfl) (fun _ _ _ h => h) (Or.inl ⟨by rfl, ?hy129⟩) (by assumption) ?_
          case hy129 => (intro w hSw; (try dsimp only at hSw); go_simp; try (with_reducible rfl))
          (try simp only [Act.put, qa_, qb_, qc_])
          refine wpAnyH_take (i := 26) (oi := ⟨some 177, _, _, _, _, _⟩) (v := ?v130) rfl (by kernel_rfl) (by kernel_rfl) (by kernel_rfl) (fun _ _ _ h => h) (Or.inl ⟨by rfl, ?hy130⟩) (by assumption) ?_
          case hy130 => (intro w hSw; (try dsimp only at hSw); go_simp; try (with_reducible rfl))
          (try simp only [Act.put, qa_, qb_, qc_])
          refine wpAnyH_ready (rs := [27]) (by kernel_rfl) (by simp) ?_
          refine AllReadyH.cons rfl (fun K hK => ?_) ?_
          · go_simp
            go_at_call 21
            refine (l_begins_t (slR_ints (tCell.reach rC (bel_trans hq1 (belx)))).1 (slR_ints (tCell.reach rD (bel_trans hq1 (belx)))).1 (by omega) (by omega) (slR_ints rC).2.1 (slR_ints rD).2.1 (slR_ints rC).2.2 (slR_ints rD).2.2 rfl).mono ?_
            rintro e w32 ⟨rfl, hb32⟩
            have hq2 : Below wb.heap.size wb w32 := bel_trans hq1 (bel_trans (belx) hb32)
            go_wp2_with fail
            refine hK.out _ _ (by exact hk2 _ hq2) (fun hHeld => ?_)
            clear hK K
            (try simp only [Act.put, qa_, qb_, qc_])
            refine wpAnyH_take (i := 28) (oi := ⟨some 179, _, _, _, _, _⟩) (v := ?v131) rfl (by kernel_rfl) (by kernel_rfl) (by kernel_rfl) (fun _ _ _ h => h) (Or.inl ⟨by rfl, ?hy131⟩) (by assumption) ?_
            case hy131 => (intro w hSw; (try dsimp only at hSw); go_simp; try (with_reducible rfl))
            (try simp only [Act.put, qa_, qb_, qc_])
            refine wpAnyH_take (i := 29) (oi := ⟨some 180, _, _, _, _, _⟩) (v := ?v132) rfl (by kernel_rfl) (by kernel_rfl) (by kernel_rfl) (fun _ _ _ h => h) (Or.inl ⟨by rfl, ?hy132⟩) (by assumption) ?_
            case hy132 => (intro w hSw; (try dsimp only at hSw); go_simp; try (with_reducible rfl))
            (try simp only [Act.put, qa_, qb_, qc_])
            refine wpAnyH_ready (rs := [30]) (by kernel_rfl) (by simp) ?_
            refine AllReadyH.cons rfl (fun K hK => ?_) ?_
            · go_simp
              go_at_call 13
              refine (l_onions _).mono ?_
              rintro e w33 ⟨rfl, hb33⟩
              have hq3 : Below wb.heap.size wb w33 := bel_trans hq2 (bel_trans (belx) hb33)
              go_wp2_with fail
              refine hK.out _ _ (by exact hk2 _ hq3) (fun hHeld => ?_)
              clear hK K
              (try simp only [Act.put, qa_, qb_, qc_])
              refine wpAnyH_take (i := 31) (oi := ⟨some 182, _, _, _, _, _⟩) (v := ?v133) rfl (by kernel_rfl) (by kernel_rfl) (by kernel_rfl) (fun _ _ _ h => h) (Or.inl ⟨by rfl, ?hy133⟩) (by assumption) ?_
              case hy133 => (intro w hSw; (try dsimp only at hSw); go_simp; try (with_reducible rfl))
              (try simp only [Act.put, qa_, qb_, qc_])
              refine wpAnyH_take (i := 32) (oi := ⟨some 2, _, _, _, _, _⟩) (v := ?v134) rfl (by kernel_rfl) (by kernel_rfl) (by kernel_rfl) (fun _ _ _ h => h) (Or.inl ⟨by rfl, ?hy134⟩) (by assumption) ?_
              case hy134 => (intro w hSw; (try dsimp only at hSw); go_simp; try (with_reducible rfl))
              (try simp only [Act.put, qa_, qb_, qc_])
              refine wpAnyH_done (by kernel_rfl) ?_ _
              go_wp2
              go_ret
              exact ⟨by first | rfl | (simp; done), bel_trans hBb hq3⟩
            exact AllReadyH.nil
          exact AllReadyH.nil
        exact AllReadyH.nil
    exact AllReadyH.nil
  · have HK := Lib.hid (show (fwrap r (ndP sd) s u ld pd).2 = false by rw [fwrap_f ho])
    have HF := Lib.hid (show (fwrap r (ndP sd) s u ld pd).1 = [] by rw [fwrap_f ho])
    rw [HK.out]
    rw [HF.out] at hR ⊢
    rw [show (([] : List Int).length) = 0 from rfl] at hR ⊢
    go_wp2_with fail
    have hx := bel_alloc (Below.refl w3.heap.size w3) (.cells #[.slice Ac 0 cc] 30)
    refine (s_WrapR (tIs.reach h0 hx) (by have := Q0.out; omega) (tIs.reach hb hx) (by rw [ndP_len]; omega) (tIs.reach h2 hx) (by have := Q2.out; omega) (WalkArith.wf_i64 ⟨by omega, by omega⟩) (tBy.reach h4 hx) (by have := Q4.out; omega) (tBy.reach h5 hx) (by have := Q5.out; omega)).mono ?_
    rintro e w4 ⟨cs', rfl, hR', hb4⟩
    rw [HK.out]
    obtain ⟨Ac', cc', rfl⟩ := sizeR hR'
    rw [HF.out, show (([] : List Int).length) = 0 from rfl]
    have hx4 := bel_trans hx hb4
    have bx := (Box.below (B := (w3.alloc (.cells #[.slice Ac 0 cc] 30)).heap.size) (Box.new w3 30 #[.slice Ac 0 cc]) hb4 (by simp)).alloc (.cells #[.slice Ac' 0 cc'] 30)
    have hx5 : Below w3.heap.size w3 (w4.alloc (.cells #[.slice Ac' 0 cc'] 30)) := bel_alloc hx4 _
    have h5 := tBy.reach h5 hx5
    have ha := tIs.reach ha hx5
    have hR := tCell.reach hR hx5
    have hB5 := bel_trans hB3 hx5
    have k0 := bx.cell 0
    obtain ⟨wx, hwx⟩ : ∃ wx, w4.alloc (.cells #[.slice Ac' 0 cc'] 30) = wx := ⟨_, rfl⟩
    rw [hwx] at h5 ha hR hB5 bx k0
    clear hx hx4 hx5 hR' hb4 hb3 hb2 ho h0 h2 h4 hb
    go_wp2_with fail
    try rw [hwx]
    refine (i_PeelR (by decide) hR (by decide) h5 (by have := Q5.out; omega)).mono ?_
    rintro e w6 ⟨cs6, F6, rfl, hO6, -, hb6⟩
    rw [show (fpeel 0 [] pd).2 = false by rw [fpeel_f (fun h => by have := h.1.1.1; omega)]]
    obtain ⟨A3, n3, c3, A4', n4', c4', rfl, -⟩ := openPeeled (tPeeled.read hO6)
    have hB6 := bel_trans hB5 hb6
    go_wp2_with fail
    refine (l_onions _).mono ?_
    rintro e w9 ⟨rfl, hb9⟩
    go_wp2_with fail
    go_ret
    exact ⟨rfl, bel_trans (bel_alloc hB6 _) hb9⟩

/-! ### THE ROW's STEP: WRITTEN OUT: LEAVE IT -/
set_option maxRecDepth 100000 in
theorem lifted (os : Os) (started : os.Started) (H : Type) (enc : TypeId × Value → H) :
    ReturnsInHanded {} Try.checked os 4 .any (Rows.fnPeelsSpec.pre6 enc Try.prog Try.f4 Rows.fnPeelsRow.domain false) (Rows.fnPeelsSpec.post enc Try.prog Try.f4 false true false false) := by
  refine returnsInHanded_of_change_sized (C := Try.checked) own started (by kernel_rfl) Try.func4
    (ChangeSpec.witness6 (enc := enc) (C := Try.checked) false ⟨#[], #[.slice none 0 0], []⟩ 8 (by kernel_rfl) (by kernel_rfl) (by kernel_rfl) (by kernel_rfl)) ?_
  intro W base args ds gs before hval0 hW hcnd hsz0 _
  have hval : ∀ (j : Nat) t v, Try.f4.params[j]? = some t → args[j]? = some v → Value.okWide Try.prog W .any base t v := hval0
  have hW' := hW
  obtain ⟨p, q, hA0, hV, rfl, hfz, hnd⟩ := hW
  have hA : DataW.TrodAll enc Try.prog W 0 (fun _ => true) true Try.f4.params.toList args.toList ds p := hA0
  have hsz : (DataW.weightsEach Try.prog (Try.f4.params.toList ++ Rows.fnPeelsSpec.plain.varTypes Try.prog) (ds ++ gs)).all (· ≤ reachBytes) = true := hsz0
  rw [Try.params4] at hA hval hsz
  obtain ⟨v0, vs0, d0, ds0, p0, q0, hargs, rfl, rfl, h0, r0⟩ := trodAll_cons hA
  obtain ⟨rfl, rfl, rfl⟩ := trodAll_nil r0
  obtain rfl : args = #[v0] := by cases args; simp_all
  obtain ⟨rfl, rfl⟩ := trodVars_none hV
  obtain ⟨a0, len0, cap0, rfl⟩ := okWide_slice Try.underlying22 (hval 0 22 v0 rfl rfl)
  have k0 := h0
  have lt0 : ∀ x ∈ p0, x.block < W.heap.size := by obtain ⟨m, hm⟩ := k0; exact DataW.trod_lt m _ _ _ hm
  obtain ⟨z0, w0, r0⟩ : ∃ zs, IsRow .u8 W a0 len0 cap0 zs ∧ cap0 ≤ 140737488351232 := by
    obtain ⟨fuel, hf⟩ := h0
    rcases open_ints Try.underlying22 Try.underlying5 (by kernel_rfl) hf with ⟨hcs, _⟩ | ⟨x, l, c, zs, hcs, _, hl, hm, hz, hxx, hcell, hwz⟩
    · simp [Value.cells] at hcs
      obtain ⟨rfl, rfl, rfl⟩ := hcs
      exact ⟨[], .inl ⟨rfl, rfl, rfl, rfl⟩, by omega⟩
    · simp [Value.cells] at hcs
      obtain ⟨rfl, rfl, rfl⟩ := hcs
      have hz' : zs.length = cap0 := by simpa using hz
      refine ⟨zs, .inr ⟨_, rfl, hl, hm, hz', hcell, hwz⟩, ?_⟩
      simp only [Prod.mk.injEq] at hxx
      rw [hxx.1] at hsz
      have h := sized_slice hsz (j := 0) (t := 22) (e := 5) rfl rfl Try.underlying22
      rw [bytes5] at h
      simp only [lits, List.length_map, List.length_take, List.length_drop, reachBytes] at h
      omega
  clear hA0 hval0
  refine (walk a0 len0 cap0 z0 W w0 r0).mono fun e W' ⟨he, bel⟩ => ?_
  subst he
  exact ⟨_, rfl, _, _, _, [], _, [], hW', trodAll_mk1 (shut_bool Try.underlying4 _), (trodAll_cons_mk (Below.trod laidOut (by kernel_rfl) (of_decide_eq_true (by kernel_rfl)) k0 bel lt0) trodAll_mk0), rfl, bel.frame _, fun h => by cases h⟩

theorem over : Rows.fnPeelsRow.holds Try.pinned (OpenSpec.ofChange Rows.fnPeelsSpec) :=
  OpenClaim.holds_of_wide 4 Try.f4 rfl rfl rfl rfl rfl rfl rfl ⟨rfl, rfl, rfl, rfl, rfl⟩ rfl rfl rfl rfl rfl (by kernel_rfl) Try.func4 (by kernel_rfl)
    (of_decide_eq_true (by kernel_rfl)) (by unfold Func.isWrapper; first | (rw [if_pos (by decide +kernel)]; kernel_rfl) | (rw [if_neg (by decide +kernel)]; exact ⟨rfl, rfl⟩))
    (fun os started H enc _ => lifted os started H enc)

/-- ████ THE STATEMENT ████ -/
theorem proved : Rows.FnPeelsSaid := over
#print axioms proved
end Go.Proofs.Ytnfmjgldcnokbaa.fnPeels
