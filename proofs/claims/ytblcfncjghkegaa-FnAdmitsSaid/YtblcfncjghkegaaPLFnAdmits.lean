/-
  For every draw: a cell is appended to the pool once, and a replayed one is not. No further condition.
-/
import Derived.Test.YtblcfncjghkegaaPGy
import Derived.Test.YtblcfncjghkegaaRows
import Derived.Below
import Derived.ChangeOld
import Derived.OpenShut
import Derived.ProofKit
import Derived.ShutString
import Derived.SizedLaws
import Derived.WalkKit
namespace Go.Proofs.Ytblcfncjghkegaa.fnAdmits
open Go.ChangeShapes Go.WideShapes Go.ChangeAt Go.RowKit
open Go.ChangeMaps (open_string shut_string)
set_option linter.unusedVariables false

theorem bytes5 : Try.prog.bytesOf 5 = 1 := by kernel_rfl
open Go.Proofs.Ytblcfncjghkegaa Fld
theorem own : ownKnob Try.prog.godebug = none := by kernel_rfl
theorem laidOut : laidOutB Try.prog = true := by kernel_rfl

/-- WHAT THE WALK IS TOLD OF A SLICE OF INTEGERS THAT CAME IN: it is nil; or it leads to a row of 'cap' cells, the numbers 'zs' (the first 'len' are its elements, the rest its spare room), each fitting its kind. -/
def IsRow (k : IntKind) (w : World) (a : Option Addr) (len cap : Nat) (zs : List Int) : Prop :=
  (a = none ∧ len = 0 ∧ cap = 0 ∧ zs = []) ∨
  ∃ x, a = some x ∧ len ≤ cap ∧ cap ≤ maxLen ∧ zs.length = cap ∧ (∀ i, i < zs.length → w.cell? (x.add i) = some (.int k (zs.getD i 0))) ∧ ∀ n ∈ zs, (Lit.int k n).wf = true

theorem rowInts {w : World} {a : Option Addr} {n c : Nat} {zs : List Int} (h : IsRow .u8 w a n c zs) : Ints .u8 w w.heap.size a n (zs.take n) ∧ n ≤ c := by
  rcases h with ⟨rfl, rfl, rfl, rfl⟩ | ⟨x, rfl, hl, _, hz, hc, hw⟩
  · exact ⟨Ints.nil, Nat.le_refl _⟩
  · exact ⟨Ints.ofRow (by omega) hc hw, hl⟩
theorem poolShape {w : World} {B : Nat} {v0 v1 : Value} {p : DPool} (h : tPool.R w B [v0, v1] p) : ∃ A0 c0 A1 c1, v0 = .slice A0 p.1.length c0 ∧ v1 = .slice A1 p.2.length c1 := by
  obtain ⟨A0, n0, c0, A1, n1, c1, e, -, -, h0, -, -, -, h1, -⟩ := openPool h
  simp only [List.cons.injEq, and_true] at e
  exact ⟨A0, c0, A1, c1, by rw [e.1, h0], by rw [e.2, h1]⟩
theorem cellsShape {w : World} {B : Nat} {cs : List Value} {p : DPool} (h : tPool.R w B cs p) : ∃ A0 c0 A1 c1, cs = [.slice A0 p.1.length c0, .slice A1 p.2.length c1] := by
  obtain ⟨A0, n0, c0, A1, n1, c1, rfl, -, -, h0, -, -, -, h1, -⟩ := openPool h
  exact ⟨A0, c0, A1, c1, by rw [h0, h1]⟩

/-! ### STEP 1: THE WALK: the Go text returns true, AND WRITES NOTHING THAT WAS THERE: 'Below w.heap.size w w'' (Derived/Below.lean: '.refl', '.alloc', '.drew', '.setCell' at a new block, '.trans'). Open each 'IsRow' by 'rcases' AHEAD of 'go_enter'; part every test ahead of the walk. -/
set_option maxRecDepth 100000 in
set_option maxHeartbeats 2000000 in
theorem walk (a0 : Option Addr) (len0 cap0 : Nat) (z0 : List Int) (w : World) (w0 : IsRow .u8 w a0 len0 cap0 z0) (r0 : cap0 ≤ 140737488351232) :
    Calls Try.prog 3 #[.slice a0 len0 cap0] w fun e w' => e = .returned (.bool true) ∧ Below w.heap.size w w' := by
  obtain ⟨hl, hn⟩ := rowInts w0
  go_enter Try.func3, Try.ntmps3
  go_wp2_with fail
  refine (d_Admit hl (by omega)).mono ?_
  rintro e w1 ⟨v0, v1, p, ch, hd, x, rfl, hP, hS, hH, h80, hx, hB1⟩
  obtain ⟨A0, c0, A1, c1, rfl, rfl⟩ := poolShape hP
  obtain ⟨n0, hn0⟩ : ∃ m, p.1.length = m := ⟨_, rfl⟩
  obtain ⟨n1, hn1⟩ : ∃ m, p.2.length = m := ⟨_, rfl⟩
  have N0 := Lib.hid hn0
  have N1 := Lib.hid hn1
  rw [hn0, hn1] at hP ⊢
  clear hn0 hn1
  obtain ⟨AH, nH, cH, rfl, -⟩ := openHeld hH
  have hz := hS.sz
  have hzh : szHeld hd ≤ 1048576 := by show hd.2.2.length ≤ _; omega
  have HZH := Lib.hid hzh
  have V1 : Box ((w1.alloc (.cells #[.slice A0 n0 c0, .slice A1 n1 c1] 26)).alloc (.cells #[.int .i64 hd.1, .int .i64 hd.2.1, .slice AH nH cH] 30)) w1.heap.size 26 #[.slice A0 n0 c0, .slice A1 n1 c1] := (Box.new _ _ _).alloc _
  have V2 : Box ((w1.alloc (.cells #[.slice A0 n0 c0, .slice A1 n1 c1] 26)).alloc (.cells #[.int .i64 hd.1, .int .i64 hd.2.1, .slice AH nH cH] 30)) (w1.heap.size + 1) 30 #[.int .i64 hd.1, .int .i64 hd.2.1, .slice AH nH cH] := by simpa using Box.new (w1.alloc (.cells #[.slice A0 n0 c0, .slice A1 n1 c1] 26)) 30 #[.int .i64 hd.1, .int .i64 hd.2.1, .slice AH nH cH]
  have hx1 : Below w1.heap.size w1 ((w1.alloc (.cells #[.slice A0 n0 c0, .slice A1 n1 c1] 26)).alloc (.cells #[.int .i64 hd.1, .int .i64 hd.2.1, .slice AH nH cH] 30)) := (belx)
  have hP := tPool.reach hP hx1
  have hH := tHeld.reach hH hx1
  have hB2 := bel_trans hB1 hx1
  have hwx : (Lit.int .i64 x).wf = true := WalkArith.wf_i64 ⟨by omega, by omega⟩
  have m0 : p.1.length ≤ 13 := hS.1
  go_wp2_with fail
  refine (i_Admit hP hz hH hzh hwx).mono ?_
  rintro e w2 ⟨cs2, F2, rfl, hO2, -, hb2⟩
  have hX := tPool.read hO2
  clear hO2
  have hP := tPool.reach hP hb2
  have hH := tHeld.reach hH hb2
  have V1 := V1.below hb2 V1.size
  have V2 := V2.below hb2 V2.size
  have hB3 := bel_trans hB2 hb2
  have z2 : w1.heap.size + 2 ≤ w2.heap.size := by have h : (World.alloc (World.alloc w1 _) _).heap.size ≤ w2.heap.size := hb2.size; simpa using h
  by_cases hA : AdOk p hd x
  rotate_left
  · have N := Lib.hid (fAdmN_f hA)
    rw [fAdm_f hA] at hX
    rw [N.out]
    obtain ⟨D0, g0, D1, g1, rfl⟩ := cellsShape hX
    rw [show plZ.1.length = 0 from rfl, show plZ.2.length = 0 from rfl]
    clear hA
    go_wp2_with fail
    refine (l_pools _).mono ?_
    rintro e w9 ⟨rfl, hb9⟩
    go_wp2_with fail
    go_ret
    exact ⟨rfl, bel_trans (bel_alloc hB3 _) hb9⟩
  · have hpo := hA.1
    have HPO := Lib.hid hpo
    by_cases hf : p.1.length = 12 ∨ ¬ recN p.2 x = 0
    · have hXp : fAdm p hd x = p := by unfold fAdm; rw [if_pos hA, if_pos hf]
      obtain ⟨cN, hcN⟩ : ∃ cN, fAdmN p hd x = cN := ⟨_, rfl⟩
      have hneg : cN < 0 := by
        rw [← hcN]
        unfold fAdmN
        rw [if_pos hA]
        split
        · omega
        · rename_i h12
          have := recN_le p.2 x
          have := hf.resolve_left h12
          omega
      have hsum : ¬ n0 + n1 = 0 := by
        rcases hf with h | h
        · rw [N0.out] at h; omega
        · intro e
          have : p.2 = [] := List.eq_nil_of_length_eq_zero (by rw [N1.out]; omega)
          rw [this] at h
          exact h (recN_ok (by simp) (by simp))
      rw [hXp] at hX
      rw [hcN]
      obtain ⟨D0, g0, D1, g1, rfl⟩ := cellsShape hX
      rw [N0.out, N1.out] at hX ⊢
      have hdn : decide (cN < 0) = true := decide_eq_true hneg
      have hbs : ((n0 : Int) + (n1 : Int) == 0) = false := by simp; omega
      have hws : IntKind.i64.wrap ((n0 : Int) + (n1 : Int)) = (n0 : Int) + (n1 : Int) := IntWalk.i64_in _ (by have := hS.1; have := hS.2.1; rw [N0.out] at *; rw [N1.out] at *; omega)
      have hx2 : Below w2.heap.size w2 (w2.alloc (.cells #[.slice D0 n0 g0, .slice D1 n1 g1] 26)) := bel_alloc (Below.refl _ _) _
      have q0 := (V1.alloc (.cells #[.slice D0 n0 g0, .slice D1 n1 g1] 26)).cell 0
      have q1 := (V1.alloc (.cells #[.slice D0 n0 g0, .slice D1 n1 g1] 26)).cell 1
      clear hA hf hXp hcN
      go_wp2_with fail
      refine (l_samePool (tPool.reach hX hx2) (tPool.reach hP hx2) HPO.out).mono ?_
      rintro e w8 ⟨rfl, hb8⟩
      have hB8 := bel_trans hB3 (bel_trans hx2 hb8)
      go_wp2_with fail
      refine (l_pools _).mono ?_
      rintro e w9 ⟨rfl, hb9⟩
      go_wp2_with fail
      go_ret
      exact ⟨rfl, bel_trans hB8 hb9⟩
    · have h12 : ¬ p.1.length = 12 := fun h => hf (.inl h)
      have hr : recN p.2 x = 0 := Classical.byContradiction fun h => hf (.inr h)
      have hXe : fAdm p hd x = (p.1 ++ [hd], p.2 ++ [x]) := fAdm_ok hA h12 hr
      have hN0 : fAdmN p hd x = 0 := by rw [fAdmN_no hA h12, hr]
      have hpx : PlOk (p.1 ++ [hd], p.2 ++ [x]) := by
        have h := admP_ok hpo hA.2.1 hA.2.2
        unfold admP at h
        rwa [if_neg hf] at h
      have HPX := Lib.hid (decide_eq_true hpx)
      have HZX := Lib.hid (plOk_sz hpx)
      have HHD := Lib.hid (decide_eq_true hA.2.1)
      have hA2 : AdOk (p.1 ++ [hd], p.2 ++ [x]) hd x := ⟨hpx, hA.2.1, hA.2.2⟩
      obtain ⟨cN, hcN⟩ : ∃ cN, fAdmN (p.1 ++ [hd], p.2 ++ [x]) hd x = cN := ⟨_, rfl⟩
      have hneg : cN < 0 := by
        rw [← hcN]
        unfold fAdmN
        rw [if_pos hA2]
        split
        · omega
        · rw [recN_seen (by simp)]; omega
      have HCN := Lib.hid hcN
      have hdn : decide (cN < 0) = true := decide_eq_true hneg
      rw [hXe] at hX
      rw [hN0]
      obtain ⟨D0, g0, D1, g1, rfl⟩ := cellsShape hX
      have e1 : (p.1 ++ [hd]).length = n0 + 1 := by rw [List.length_append, N0.out]; rfl
      have e2 : (p.2 ++ [x]).length = n1 + 1 := by rw [List.length_append, N1.out]; rfl
      rw [show ((p.1 ++ [hd], p.2 ++ [x]) : DPool).1.length = n0 + 1 from e1, show ((p.1 ++ [hd], p.2 ++ [x]) : DPool).2.length = n1 + 1 from e2] at hX ⊢
      have hi : (p.1 ++ [hd])[n0]? = some hd := by rw [List.getElem?_append_right (by rw [N0.out]; exact Nat.le_refl _), N0.out]; simp
      clear hA hf hXe hN0 hpx hA2 hcN h12 hr e1 e2
      have hx2 : Below w2.heap.size w2 (w2.alloc (.cells #[.slice D0 (n0 + 1) g0, .slice D1 (n1 + 1) g1] 26)) := bel_alloc (Below.refl _ _) _
      have hX := tPool.reach hX hx2
      have hP := tPool.reach hP hx2
      have hH := tHeld.reach hH hx2
      have V1 := V1.alloc (.cells #[.slice D0 (n0 + 1) g0, .slice D1 (n1 + 1) g1] 26)
      have V2 := V2.alloc (.cells #[.slice D0 (n0 + 1) g0, .slice D1 (n1 + 1) g1] 26)
      have V3 : Box (w2.alloc (.cells #[.slice D0 (n0 + 1) g0, .slice D1 (n1 + 1) g1] 26)) w2.heap.size 26 #[.slice D0 (n0 + 1) g0, .slice D1 (n1 + 1) g1] := Box.new _ _ _
      have hB4 := bel_trans hB3 hx2
      have k0 := V2.cell 0
      have k1 := V2.cell 1
      have k2 := V2.cell 2
      go_wp2_with fail
      refine (i_Admit hX HZX.out hH HZH.out hwx).mono ?_
      rintro e w5 ⟨cs5, F5, rfl, hO5, -, hb5⟩
      rw [HCN.out]
      obtain ⟨E0, h0, E1, h1, rfl⟩ := cellsShape (tPool.read hO5)
      obtain ⟨l0, hl0⟩ : ∃ m, (fAdm (p.1 ++ [hd], p.2 ++ [x]) hd x).1.length = m := ⟨_, rfl⟩
      obtain ⟨l1, hl1⟩ : ∃ m, (fAdm (p.1 ++ [hd], p.2 ++ [x]) hd x).2.length = m := ⟨_, rfl⟩
      rw [hl0, hl1]
      clear hl0 hl1 hO5
      have hx5 : Below w5.heap.size w5 (w5.alloc (.cells #[.slice E0 l0 h0, .slice E1 l1 h1] 26)) := bel_alloc (Below.refl _ _) _
      have hy5 := bel_trans hb5 hx5
      have hXy := tPool.reach hX hy5
      have hHy := tHeld.reach hH hy5
      have U1 := (V1.below hb5 V1.size).alloc (.cells #[.slice E0 l0 h0, .slice E1 l1 h1] 26)
      have U2 := (V2.below hb5 V2.size).alloc (.cells #[.slice E0 l0 h0, .slice E1 l1 h1] 26)
      have U3 := (V3.below hb5 V3.size).alloc (.cells #[.slice E0 l0 h0, .slice E1 l1 h1] 26)
      have hB5 := bel_trans hB4 hy5
      clear hx5 hy5 hb5 hP k0 k1 k2
      go_wp2_with fail
      obtain ⟨wy, hwy⟩ : ∃ wy, w5.alloc (.cells #[.slice E0 l0 h0, .slice E1 l1 h1] 26) = wy := ⟨_, rfl⟩
      rw [hwy] at hXy hHy U1 U2 U3 hB5 ⊢
      clear hwy hX hH V1 V2 V3
      obtain ⟨_, _, _, _, _, _, ea, -, -, -, hrow, -⟩ := openPool hXy
      simp only [List.cons.injEq, Value.slice.injEq, and_true] at ea
      obtain ⟨⟨rfl, rfl, rfl⟩, -, -, -⟩ := ea
      obtain ⟨a, bx, ox, es, hai, rfl, -, hes, hRa⟩ := rowR_at (K := 3) hrow (Nat.lt_succ_self n0) rfl
      have hah : a = hd := by rw [hi] at hai; injection hai with hai; exact hai.symm
      subst hah
      obtain ⟨A9, n9, c9, rfl, -, -, -, -, -, r9⟩ := openHeld hRa
      obtain ⟨_, _, _, eb, -, -, -, -, -, rH⟩ := openHeld hHy
      simp only [List.cons.injEq, Value.slice.injEq, true_and, and_true] at eb
      obtain ⟨rfl, rfl, rfl⟩ := eb
      have q0 := U3.cell 0
      have q1 := U3.cell 1
      have q2 := U1.cell 0
      have q3 := U2.cell 0
      have q4 := U2.cell 1
      have q5 := U2.cell 2
      have q6 : wy.cell? ⟨bx, ox + n0 * 3, none⟩ = some (.int .i64 a.1) := by have h := hes 0 (by omega); rw [Nat.add_zero] at h; exact h
      have q7 : wy.cell? ⟨bx, ox + n0 * 3 + 2, none⟩ = some (.slice A9 n9 c9) := hes 2 (by omega)
      have hBy := hB5
      have hk : ∀ W, Below wy.heap.size wy W → (fun w' => w'.cell? ⟨w2.heap.size, 0, none⟩ = some (.slice (some ⟨bx, ox, none⟩) (n0 + 1) g0) ∧ w'.cell? ⟨w2.heap.size, 1, none⟩ = some (.slice D1 (n1 + 1) g1) ∧ w'.cell? ⟨w1.heap.size, 0, none⟩ = some (.slice A0 n0 c0) ∧ w'.cell? ⟨w1.heap.size + 1, 0, none⟩ = some (.int .i64 a.1) ∧ w'.cell? ⟨w1.heap.size + 1, 1, none⟩ = some (.int .i64 a.2.1) ∧ w'.cell? ⟨w1.heap.size + 1, 2, none⟩ = some (.slice AH nH cH) ∧ w'.cell? ⟨bx, ox + n0 * 3, none⟩ = some (.int .i64 a.1) ∧ w'.cell? ⟨bx, ox + n0 * 3 + 2, none⟩ = some (.slice A9 n9 c9)) W := fun W hW => ⟨cell_bel hW q0, cell_bel hW q1, cell_bel hW q2, cell_bel hW q3, cell_bel hW q4, cell_bel hW q5, cell_bel hW q6, cell_bel hW q7⟩
      have hpx2 := HPX.out
      have g1u : (((n0 + 1 : Nat) : Int) == (n0 : Int) + 1) = true := by simp
      have g2u : IntKind.i64.wrap ((n0 : Int) + 1) = (n0 : Int) + 1 := IntWalk.i64_in _ (by have := hS.1; rw [N0.out] at this; omega)
      have g3u : (0 : Int) ≤ (n0 : Int) := by omega
      have g4u : (n0 : Int) < ((n0 + 1 : Nat) : Int) := by omega
      have g5u : (n0 : Int) < (n0 : Int) + 1 := by omega
      have g6u : (a.1 == a.1) = true := by simp
      clear hpx2 hes hai hi hRa U1 U2 U3
      go_wp2_with fail
      refine wp_region_held_drew (S := (fun w' => w'.cell? ⟨w2.heap.size, 0, none⟩ = some (.slice (some ⟨bx, ox, none⟩) (n0 + 1) g0) ∧ w'.cell? ⟨w2.heap.size, 1, none⟩ = some (.slice D1 (n1 + 1) g1) ∧ w'.cell? ⟨w1.heap.size, 0, none⟩ = some (.slice A0 n0 c0) ∧ w'.cell? ⟨w1.heap.size + 1, 0, none⟩ = some (.int .i64 a.1) ∧ w'.cell? ⟨w1.heap.size + 1, 1, none⟩ = some (.int .i64 a.2.1) ∧ w'.cell? ⟨w1.heap.size + 1, 2, none⟩ = some (.slice AH nH cH) ∧ w'.cell? ⟨bx, ox + n0 * 3, none⟩ = some (.int .i64 a.1) ∧ w'.cell? ⟨bx, ox + n0 * 3 + 2, none⟩ = some (.slice A9 n9 c9))) (by kernel_rfl) (by exact hk _ (belx)) (fun hHeld => ?_)
      refine wpAnyH_take (i := 0) (oi := ⟨some 48, _, _, _, _, _⟩) (v := ?v1) rfl (by kernel_rfl) (by kernel_rfl) (by kernel_rfl) (fun _ _ _ h => h) (Or.inl ⟨by rfl, ?hy1⟩) (by assumption) ?_
      case hy1 => (intro w hSw; (try dsimp only at hSw); go_simp; try (with_reducible rfl))
      (try simp only [Act.put, qa_, qb_, qc_])
      refine wpAnyH_take (i := 1) (oi := ⟨some 49, _, _, _, _, _⟩) (v := ?v2) rfl (by kernel_rfl) (by kernel_rfl) (by kernel_rfl) (fun _ _ _ h => h) (Or.inl ⟨by rfl, ?hy2⟩) (by assumption) ?_
      case hy2 => (intro w hSw; (try dsimp only at hSw); go_simp; try (with_reducible rfl))
      (try simp only [Act.put, qa_, qb_, qc_])
      refine wpAnyH_take (i := 2) (oi := ⟨some 50, _, _, _, _, _⟩) (v := ?v3) rfl (by kernel_rfl) (by kernel_rfl) (by kernel_rfl) (fun _ _ _ h => h) (Or.inl ⟨by rfl, ?hy3⟩) (by assumption) ?_
      case hy3 => (intro w hSw; (try dsimp only at hSw); go_simp; try (with_reducible rfl))
      (try simp only [Act.put, qa_, qb_, qc_])
      refine wpAnyH_take (i := 3) (oi := ⟨some 51, _, _, _, _, _⟩) (v := ?v4) rfl (by kernel_rfl) (by kernel_rfl) (by kernel_rfl) (fun _ _ _ h => h) (Or.inl ⟨by rfl, ?hy4⟩) (by assumption) ?_
      case hy4 => (intro w hSw; (try dsimp only at hSw); go_simp; try (with_reducible rfl))
      (try simp only [Act.put, qa_, qb_, qc_])
      refine wpAnyH_take (i := 4) (oi := ⟨some 52, _, _, _, _, _⟩) (v := ?v5) rfl (by kernel_rfl) (by kernel_rfl) (by kernel_rfl) (fun _ _ _ h => h) (Or.inl ⟨by rfl, ?hy5⟩) (by assumption) ?_
      case hy5 => (intro w hSw; (try dsimp only at hSw); go_simp; try (with_reducible rfl))
      (try simp only [Act.put, qa_, qb_, qc_])
      refine wpAnyH_take (i := 5) (oi := ⟨some 53, _, _, _, _, _⟩) (v := ?v6) rfl (by kernel_rfl) (by kernel_rfl) (by kernel_rfl) (fun _ _ _ h => h) (Or.inl ⟨by rfl, ?hy6⟩) (by assumption) ?_
      case hy6 => (intro w hSw; (try dsimp only at hSw); go_simp; try (with_reducible rfl))
      (try simp only [Act.put, qa_, qb_, qc_])
      refine wpAnyH_take (i := 6) (oi := ⟨some 54, _, _, _, _, _⟩) (v := ?v7) rfl (by kernel_rfl) (by kernel_rfl) (by kernel_rfl) (fun _ _ _ h => h) (Or.inl ⟨by rfl, ?hy7⟩) (by assumption) ?_
      case hy7 => (intro w hSw; (try dsimp only at hSw); go_simp; try (with_reducible rfl))
      (try simp only [Act.put, qa_, qb_, qc_])
      refine wpAnyH_take (i := 7) (oi := ⟨some 55, _, _, _, _, _⟩) (v := ?v8) rfl (by kernel_rfl) (by kernel_rfl) (by kernel_rfl) (fun _ _ _ h => h) (Or.inl ⟨by rfl, ?hy8⟩) (by assumption) ?_
      case hy8 => (intro w hSw; (try dsimp only at hSw); go_simp; try (with_reducible rfl))
      (try simp only [Act.put, qa_, qb_, qc_])
      refine wpAnyH_take (i := 8) (oi := ⟨some 56, _, _, _, _, _⟩) (v := ?v9) rfl (by kernel_rfl) (by kernel_rfl) (by kernel_rfl) (fun _ _ _ h => h) (Or.inl ⟨by rfl, ?hy9⟩) (by assumption) ?_
      case hy9 => (intro w hSw; (try dsimp only at hSw); go_simp; try (with_reducible rfl))
      (try simp only [Act.put, qa_, qb_, qc_])
      refine wpAnyH_take (i := 9) (oi := ⟨some 57, _, _, _, _, _⟩) (v := ?v10) rfl (by kernel_rfl) (by kernel_rfl) (by kernel_rfl) (fun _ _ _ h => h) (Or.inl ⟨by rfl, ?hy10⟩) (by assumption) ?_
      case hy10 => (intro w hSw; (try dsimp only at hSw); go_simp; try (with_reducible rfl))
      (try simp only [Act.put, qa_, qb_, qc_])
      refine wpAnyH_take (i := 10) (oi := ⟨some 58, _, _, _, _, _⟩) (v := ?v11) rfl (by kernel_rfl) (by kernel_rfl) (by kernel_rfl) (fun _ _ _ h => h) (Or.inl ⟨by rfl, ?hy11⟩) (by assumption) ?_
      case hy11 => (intro w hSw; (try dsimp only at hSw); go_simp; try (with_reducible rfl))
      (try simp only [Act.put, qa_, qb_, qc_])
      refine wpAnyH_take (i := 11) (oi := ⟨some 59, _, _, _, _, _⟩) (v := ?v12) rfl (by kernel_rfl) (by kernel_rfl) (by kernel_rfl) (fun _ _ _ h => h) (Or.inl ⟨by rfl, ?hy12⟩) (by assumption) ?_
      case hy12 => (intro w hSw; (try dsimp only at hSw); go_simp; try (with_reducible rfl))
      (try simp only [Act.put, qa_, qb_, qc_])
      refine wpAnyH_take (i := 12) (oi := ⟨some 60, _, _, _, _, _⟩) (v := ?v13) rfl (by kernel_rfl) (by kernel_rfl) (by kernel_rfl) (fun _ _ _ h => h) (Or.inl ⟨by rfl, ?hy13⟩) (by assumption) ?_
      case hy13 => (intro w hSw; (try dsimp only at hSw); go_simp; try (with_reducible rfl))
      (try simp only [Act.put, qa_, qb_, qc_])
      refine wpAnyH_take (i := 13) (oi := ⟨some 61, _, _, _, _, _⟩) (v := ?v14) rfl (by kernel_rfl) (by kernel_rfl) (by kernel_rfl) (fun _ _ _ h => h) (Or.inl ⟨by rfl, ?hy14⟩) (by assumption) ?_
      case hy14 => (intro w hSw; (try dsimp only at hSw); go_simp; try (with_reducible rfl))
      (try simp only [Act.put, qa_, qb_, qc_])
      refine wpAnyH_take (i := 14) (oi := ⟨some 62, _, _, _, _, _⟩) (v := ?v15) rfl (by kernel_rfl) (by kernel_rfl) (by kernel_rfl) (fun _ _ _ h => h) (Or.inl ⟨by rfl, ?hy15⟩) (by assumption) ?_
      case hy15 => (intro w hSw; (try dsimp only at hSw); go_simp; try (with_reducible rfl))
      (try simp only [Act.put, qa_, qb_, qc_])
      refine wpAnyH_take (i := 15) (oi := ⟨some 63, _, _, _, _, _⟩) (v := ?v16) rfl (by kernel_rfl) (by kernel_rfl) (by kernel_rfl) (fun _ _ _ h => h) (Or.inl ⟨by rfl, ?hy16⟩) (by assumption) ?_
      case hy16 => (intro w hSw; (try dsimp only at hSw); go_simp; try (with_reducible rfl))
      (try simp only [Act.put, qa_, qb_, qc_])
      refine wpAnyH_take (i := 16) (oi := ⟨some 64, _, _, _, _, _⟩) (v := ?v17) rfl (by kernel_rfl) (by kernel_rfl) (by kernel_rfl) (fun _ _ _ h => h) (Or.inl ⟨by rfl, ?hy17⟩) (by assumption) ?_
      case hy17 => (intro w hSw; (try dsimp only at hSw); go_simp; try (with_reducible rfl))
      (try simp only [Act.put, qa_, qb_, qc_])
      refine wpAnyH_take (i := 17) (oi := ⟨some 65, _, _, _, _, _⟩) (v := ?v18) rfl (by kernel_rfl) (by kernel_rfl) (by kernel_rfl) (fun _ _ _ h => h) (Or.inl ⟨by rfl, ?hy18⟩) (by assumption) ?_
      case hy18 => (intro w hSw; (try dsimp only at hSw); go_simp; try (with_reducible rfl))
      (try simp only [Act.put, qa_, qb_, qc_])
      refine wpAnyH_take (i := 18) (oi := ⟨some 66, _, _, _, _, _⟩) (v := ?v19) rfl (by kernel_rfl) (by kernel_rfl) (by kernel_rfl) (fun _ _ _ h => h) (Or.inl ⟨by rfl, ?hy19⟩) (by assumption) ?_
      case hy19 => (intro w hSw; (try dsimp only at hSw); go_simp; try (with_reducible rfl))
      (try simp only [Act.put, qa_, qb_, qc_])
      refine wpAnyH_take (i := 19) (oi := ⟨some 67, _, _, _, _, _⟩) (v := ?v20) rfl (by kernel_rfl) (by kernel_rfl) (by kernel_rfl) (fun _ _ _ h => h) (Or.inl ⟨by rfl, ?hy20⟩) (by assumption) ?_
      case hy20 => (intro w hSw; (try dsimp only at hSw); go_simp; try (with_reducible rfl))
      (try simp only [Act.put, qa_, qb_, qc_])
      refine wpAnyH_take (i := 20) (oi := ⟨some 68, _, _, _, _, _⟩) (v := ?v21) rfl (by kernel_rfl) (by kernel_rfl) (by kernel_rfl) (fun _ _ _ h => h) (Or.inl ⟨by rfl, ?hy21⟩) (by assumption) ?_
      case hy21 => (intro w hSw; (try dsimp only at hSw); go_simp; try (with_reducible rfl))
      (try simp only [Act.put, qa_, qb_, qc_])
      refine wpAnyH_take (i := 21) (oi := ⟨some 69, _, _, _, _, _⟩) (v := ?v22) rfl (by kernel_rfl) (by kernel_rfl) (by kernel_rfl) (fun _ _ _ h => h) (Or.inl ⟨by rfl, ?hy22⟩) (by assumption) ?_
      case hy22 => (intro w hSw; (try dsimp only at hSw); go_simp; try (with_reducible rfl))
      (try simp only [Act.put, qa_, qb_, qc_])
      refine wpAnyH_take (i := 22) (oi := ⟨some 70, _, _, _, _, _⟩) (v := ?v23) rfl (by kernel_rfl) (by kernel_rfl) (by kernel_rfl) (fun _ _ _ h => h) (Or.inl ⟨by rfl, ?hy23⟩) (by assumption) ?_
      case hy23 => (intro w hSw; (try dsimp only at hSw); go_simp; try (with_reducible rfl))
      (try simp only [Act.put, qa_, qb_, qc_])
      refine wpAnyH_take (i := 23) (oi := ⟨some 71, _, _, _, _, _⟩) (v := ?v24) rfl (by kernel_rfl) (by kernel_rfl) (by kernel_rfl) (fun _ _ _ h => h) (Or.inl ⟨by rfl, ?hy24⟩) (by assumption) ?_
      case hy24 => (intro w hSw; (try dsimp only at hSw); go_simp; try (with_reducible rfl))
      (try simp only [Act.put, qa_, qb_, qc_])
      refine wpAnyH_take (i := 24) (oi := ⟨some 72, _, _, _, _, _⟩) (v := ?v25) rfl (by kernel_rfl) (by kernel_rfl) (by kernel_rfl) (fun _ _ _ h => h) (Or.inl ⟨by rfl, ?hy25⟩) (by assumption) ?_
      case hy25 => (intro w hSw; (try dsimp only at hSw); go_simp; try (with_reducible rfl))
      (try simp only [Act.put, qa_, qb_, qc_])
      refine wpAnyH_take (i := 25) (oi := ⟨some 73, _, _, _, _, _⟩) (v := ?v26) rfl (by kernel_rfl) (by kernel_rfl) (by kernel_rfl) (fun _ _ _ h => h) (Or.inl ⟨by rfl, ?hy26⟩) (by assumption) ?_
      case hy26 => (intro w hSw; (try dsimp only at hSw); go_simp; try (with_reducible rfl))
      (try simp only [Act.put, qa_, qb_, qc_])
      refine wpAnyH_take (i := 26) (oi := ⟨some 74, _, _, _, _, _⟩) (v := ?v27) rfl (by kernel_rfl) (by kernel_rfl) (by kernel_rfl) (fun _ _ _ h => h) (Or.inl ⟨by rfl, ?hy27⟩) (by assumption) ?_
      case hy27 => (intro w hSw; (try dsimp only at hSw); go_simp; try (with_reducible rfl))
      (try simp only [Act.put, qa_, qb_, qc_])
      refine wpAnyH_take (i := 27) (oi := ⟨some 75, _, _, _, _, _⟩) (v := ?v28) rfl (by kernel_rfl) (by kernel_rfl) (by kernel_rfl) (fun _ _ _ h => h) (Or.inl ⟨by rfl, ?hy28⟩) (by assumption) ?_
      case hy28 => (intro w hSw; (try dsimp only at hSw); go_simp; try (with_reducible rfl))
      (try simp only [Act.put, qa_, qb_, qc_])
      refine wpAnyH_take (i := 28) (oi := ⟨some 76, _, _, _, _, _⟩) (v := ?v29) rfl (by kernel_rfl) (by kernel_rfl) (by kernel_rfl) (fun _ _ _ h => h) (Or.inl ⟨by rfl, ?hy29⟩) (by assumption) ?_
      case hy29 => (intro w hSw; (try dsimp only at hSw); go_simp; try (with_reducible rfl))
      (try simp only [Act.put, qa_, qb_, qc_])
      refine wpAnyH_take (i := 29) (oi := ⟨some 77, _, _, _, _, _⟩) (v := ?v30) rfl (by kernel_rfl) (by kernel_rfl) (by kernel_rfl) (fun _ _ _ h => h) (Or.inl ⟨by rfl, ?hy30⟩) (by assumption) ?_
      case hy30 => (intro w hSw; (try dsimp only at hSw); go_simp; try (with_reducible rfl))
      (try simp only [Act.put, qa_, qb_, qc_])
      refine wpAnyH_take (i := 30) (oi := ⟨some 78, _, _, _, _, _⟩) (v := ?v31) rfl (by kernel_rfl) (by kernel_rfl) (by kernel_rfl) (fun _ _ _ h => h) (Or.inl ⟨by rfl, ?hy31⟩) (by assumption) ?_
      case hy31 => (intro w hSw; (try dsimp only at hSw); go_simp; try (with_reducible rfl))
      (try simp only [Act.put, qa_, qb_, qc_])
      refine wpAnyH_take (i := 31) (oi := ⟨some 79, _, _, _, _, _⟩) (v := ?v32) rfl (by kernel_rfl) (by kernel_rfl) (by kernel_rfl) (fun _ _ _ h => h) (Or.inl ⟨by rfl, ?hy32⟩) (by assumption) ?_
      case hy32 => (intro w hSw; (try dsimp only at hSw); go_simp; try (with_reducible rfl))
      (try simp only [Act.put, qa_, qb_, qc_])
      refine wpAnyH_take (i := 32) (oi := ⟨some 80, _, _, _, _, _⟩) (v := ?v33) rfl (by kernel_rfl) (by kernel_rfl) (by kernel_rfl) (fun _ _ _ h => h) (Or.inl ⟨by rfl, ?hy33⟩) (by assumption) ?_
      case hy33 => (intro w hSw; (try dsimp only at hSw); go_simp; try (with_reducible rfl))
      (try simp only [Act.put, qa_, qb_, qc_])
      refine wpAnyH_take (i := 33) (oi := ⟨some 81, _, _, _, _, _⟩) (v := ?v34) rfl (by kernel_rfl) (by kernel_rfl) (by kernel_rfl) (fun _ _ _ h => h) (Or.inl ⟨by rfl, ?hy34⟩) (by assumption) ?_
      case hy34 => (intro w hSw; (try dsimp only at hSw); go_simp; try (with_reducible rfl))
      (try simp only [Act.put, qa_, qb_, qc_])
      refine wpAnyH_ready (rs := [34]) (by kernel_rfl) (by simp) ?_
      refine AllReadyH.cons rfl (fun K hK => ?_) ?_
      · go_simp
        go_at_call 13
        refine (l_same (slR_ints (tBy.reach r9 (belx))).1 (slR_ints (tBy.reach rH (belx))).1).mono ?_
        rintro e w21 ⟨rfl, rfl⟩
        rw [show decide (a.2.2 = a.2.2) = true from by simp]
        have hs1 : Below wy.heap.size wy wy.drew := (belx)
        go_wp2_with fail
        refine hK.out _ _ (by exact hk _ hs1) (fun hHeld => ?_)
        clear hK K
        (try simp only [Act.put, qa_, qb_, qc_])
        refine wpAnyH_take (i := 35) (oi := ⟨some 83, _, _, _, _, _⟩) (v := ?v35) rfl (by kernel_rfl) (by kernel_rfl) (by kernel_rfl) (fun _ _ _ h => h) (Or.inl ⟨by rfl, ?hy35⟩) (by assumption) ?_
        case hy35 => (intro w hSw; (try dsimp only at hSw); go_simp; try (with_reducible rfl))
        (try simp only [Act.put, qa_, qb_, qc_])
        refine wpAnyH_take (i := 36) (oi := ⟨some 84, _, _, _, _, _⟩) (v := ?v36) rfl (by kernel_rfl) (by kernel_rfl) (by kernel_rfl) (fun _ _ _ h => h) (Or.inl ⟨by rfl, ?hy36⟩) (by assumption) ?_
        case hy36 => (intro w hSw; (try dsimp only at hSw); go_simp; try (with_reducible rfl))
        (try simp only [Act.put, qa_, qb_, qc_])
        refine wpAnyH_take (i := 37) (oi := ⟨some 85, _, _, _, _, _⟩) (v := ?v37) rfl (by kernel_rfl) (by kernel_rfl) (by kernel_rfl) (fun _ _ _ h => h) (Or.inl ⟨by rfl, ?hy37⟩) (by assumption) ?_
        case hy37 => (intro w hSw; (try dsimp only at hSw); go_simp; try (with_reducible rfl))
        (try simp only [Act.put, qa_, qb_, qc_])
        refine wpAnyH_ready (rs := [38]) (by kernel_rfl) (by simp) ?_
        refine AllReadyH.cons rfl (fun K hK => ?_) ?_
        · go_simp
          go_at_call 14
          refine (i_PoolOk (tPool.reach hXy (bel_trans hs1 (belx))) HZX.out).mono ?_
          rintro e w22 ⟨rfl, hb22⟩
          rw [HPX.out]
          have hs2 : Below wy.heap.size wy w22 := bel_trans hs1 (bel_trans (belx) hb22)
          go_wp2_with fail
          refine hK.out _ _ (by exact hk _ hs2) (fun hHeld => ?_)
          clear hK K
          (try simp only [Act.put, qa_, qb_, qc_])
          refine wpAnyH_take (i := 39) (oi := ⟨some 87, _, _, _, _, _⟩) (v := ?v38) rfl (by kernel_rfl) (by kernel_rfl) (by kernel_rfl) (fun _ _ _ h => h) (Or.inl ⟨by rfl, ?hy38⟩) (by assumption) ?_
          case hy38 => (intro w hSw; (try dsimp only at hSw); go_simp; try (with_reducible rfl))
          (try simp only [Act.put, qa_, qb_, qc_])
          refine wpAnyH_take (i := 40) (oi := ⟨some 88, _, _, _, _, _⟩) (v := ?v39) rfl (by kernel_rfl) (by kernel_rfl) (by kernel_rfl) (fun _ _ _ h => h) (Or.inl ⟨by rfl, ?hy39⟩) (by assumption) ?_
          case hy39 => (intro w hSw; (try dsimp only at hSw); go_simp; try (with_reducible rfl))
          (try simp only [Act.put, qa_, qb_, qc_])
          refine wpAnyH_take (i := 41) (oi := ⟨some 89, _, _, _, _, _⟩) (v := ?v40) rfl (by kernel_rfl) (by kernel_rfl) (by kernel_rfl) (fun _ _ _ h => h) (Or.inl ⟨by rfl, ?hy40⟩) (by assumption) ?_
          case hy40 => (intro w hSw; (try dsimp only at hSw); go_simp; try (with_reducible rfl))
          (try simp only [Act.put, qa_, qb_, qc_])
          refine wpAnyH_take (i := 42) (oi := ⟨some 90, _, _, _, _, _⟩) (v := ?v41) rfl (by kernel_rfl) (by kernel_rfl) (by kernel_rfl) (fun _ _ _ h => h) (Or.inl ⟨by rfl, ?hy41⟩) (by assumption) ?_
          case hy41 => (intro w hSw; (try dsimp only at hSw); go_simp; try (with_reducible rfl))
          (try simp only [Act.put, qa_, qb_, qc_])
          refine wpAnyH_take (i := 43) (oi := ⟨some 91, _, _, _, _, _⟩) (v := ?v42) rfl (by kernel_rfl) (by kernel_rfl) (by kernel_rfl) (fun _ _ _ h => h) (Or.inl ⟨by rfl, ?hy42⟩) (by assumption) ?_
          case hy42 => (intro w hSw; (try dsimp only at hSw); go_simp; try (with_reducible rfl))
          (try simp only [Act.put, qa_, qb_, qc_])
          refine wpAnyH_take (i := 44) (oi := ⟨some 92, _, _, _, _, _⟩) (v := ?v43) rfl (by kernel_rfl) (by kernel_rfl) (by kernel_rfl) (fun _ _ _ h => h) (Or.inl ⟨by rfl, ?hy43⟩) (by assumption) ?_
          case hy43 => (intro w hSw; (try dsimp only at hSw); go_simp; try (with_reducible rfl))
          (try simp only [Act.put, qa_, qb_, qc_])
          refine wpAnyH_take (i := 45) (oi := ⟨some 93, _, _, _, _, _⟩) (v := ?v44) rfl (by kernel_rfl) (by kernel_rfl) (by kernel_rfl) (fun _ _ _ h => h) (Or.inl ⟨by rfl, ?hy44⟩) (by assumption) ?_
          case hy44 => (intro w hSw; (try dsimp only at hSw); go_simp; try (with_reducible rfl))
          (try simp only [Act.put, qa_, qb_, qc_])
          refine wpAnyH_ready (rs := [46]) (by kernel_rfl) (by simp) ?_
          refine AllReadyH.cons rfl (fun K hK => ?_) ?_
          · go_simp
            go_at_call 15
            refine (i_HeldOk (tHeld.reach hHy (bel_trans hs2 (belx))) HZH.out).mono ?_
            rintro e w23 ⟨rfl, hb23⟩
            rw [HHD.out]
            have hs3 : Below wy.heap.size wy w23 := bel_trans hs2 (bel_trans (belx) hb23)
            go_wp2_with fail
            refine hK.out _ _ (by exact hk _ hs3) (fun hHeld => ?_)
            clear hK K
            (try simp only [Act.put, qa_, qb_, qc_])
            refine wpAnyH_take (i := 47) (oi := ⟨some 95, _, _, _, _, _⟩) (v := ?v45) rfl (by kernel_rfl) (by kernel_rfl) (by kernel_rfl) (fun _ _ _ h => h) (Or.inl ⟨by rfl, ?hy45⟩) (by assumption) ?_
            case hy45 => (intro w hSw; (try dsimp only at hSw); go_simp; try (with_reducible rfl))
            (try simp only [Act.put, qa_, qb_, qc_])
            refine wpAnyH_take (i := 48) (oi := ⟨some 96, _, _, _, _, _⟩) (v := ?v46) rfl (by kernel_rfl) (by kernel_rfl) (by kernel_rfl) (fun _ _ _ h => h) (Or.inl ⟨by rfl, ?hy46⟩) (by assumption) ?_
            case hy46 => (intro w hSw; (try dsimp only at hSw); go_simp; try (with_reducible rfl))
            (try simp only [Act.put, qa_, qb_, qc_])
            refine wpAnyH_ready (rs := [49]) (by kernel_rfl) (by simp) ?_
            refine AllReadyH.cons rfl (fun K hK => ?_) ?_
            · go_simp
              go_at_call 12
              refine (l_pools _).mono ?_
              rintro e w24 ⟨rfl, hb24⟩
              have hs4 : Below wy.heap.size wy w24 := bel_trans hs3 (bel_trans (belx) hb24)
              go_wp2_with fail
              refine hK.out _ _ (by exact hk _ hs4) (fun hHeld => ?_)
              clear hK K
              (try simp only [Act.put, qa_, qb_, qc_])
              refine wpAnyH_take (i := 50) (oi := ⟨some 98, _, _, _, _, _⟩) (v := ?v47) rfl (by kernel_rfl) (by kernel_rfl) (by kernel_rfl) (fun _ _ _ h => h) (Or.inl ⟨by rfl, ?hy47⟩) (by assumption) ?_
              case hy47 => (intro w hSw; (try dsimp only at hSw); go_simp; try (with_reducible rfl))
              (try simp only [Act.put, qa_, qb_, qc_])
              refine wpAnyH_take (i := 51) (oi := ⟨some 2, _, _, _, _, _⟩) (v := ?v48) rfl (by kernel_rfl) (by kernel_rfl) (by kernel_rfl) (fun _ _ _ h => h) (Or.inl ⟨by rfl, ?hy48⟩) (by assumption) ?_
              case hy48 => (intro w hSw; (try dsimp only at hSw); go_simp; try (with_reducible rfl))
              (try simp only [Act.put, qa_, qb_, qc_])
              refine wpAnyH_done (by kernel_rfl) ?_ _
              go_wp2
              go_ret
              exact ⟨by first | rfl | (simp; done), bel_trans hBy hs4⟩
            exact AllReadyH.nil
          exact AllReadyH.nil
        exact AllReadyH.nil
      exact AllReadyH.nil

/-! ### THE ROW's STEP: WRITTEN OUT: LEAVE IT -/
set_option maxRecDepth 100000 in
theorem lifted (os : Os) (started : os.Started) (H : Type) (enc : TypeId × Value → H) :
    ReturnsInHanded {} Try.checked os 3 .any (Rows.fnAdmitsSpec.pre6 enc Try.prog Try.f3 Rows.fnAdmitsRow.domain false) (Rows.fnAdmitsSpec.post enc Try.prog Try.f3 false true false false) := by
  refine returnsInHanded_of_change_sized (C := Try.checked) own started (by kernel_rfl) Try.func3
    (ChangeSpec.witness6 (enc := enc) (C := Try.checked) false ⟨#[], #[.slice none 0 0], []⟩ 8 (by kernel_rfl) (by kernel_rfl) (by kernel_rfl) (by kernel_rfl)) ?_
  intro W base args ds gs before hval0 hW hcnd hsz0 _
  have hval : ∀ (j : Nat) t v, Try.f3.params[j]? = some t → args[j]? = some v → Value.okWide Try.prog W .any base t v := hval0
  have hW' := hW
  obtain ⟨p, q, hA0, hV, rfl, hfz, hnd⟩ := hW
  have hA : DataW.TrodAll enc Try.prog W 0 (fun _ => true) true Try.f3.params.toList args.toList ds p := hA0
  have hsz : (DataW.weightsEach Try.prog (Try.f3.params.toList ++ Rows.fnAdmitsSpec.plain.varTypes Try.prog) (ds ++ gs)).all (· ≤ reachBytes) = true := hsz0
  rw [Try.params3] at hA hval hsz
  obtain ⟨v0, vs0, d0, ds0, p0, q0, hargs, rfl, rfl, h0, r0⟩ := trodAll_cons hA
  obtain ⟨rfl, rfl, rfl⟩ := trodAll_nil r0
  obtain rfl : args = #[v0] := by cases args; simp_all
  obtain ⟨rfl, rfl⟩ := trodVars_none hV
  obtain ⟨a0, len0, cap0, rfl⟩ := okWide_slice Try.underlying22 (hval 0 22 v0 rfl rfl)
  have k0 := h0
  have lt0 : ∀ x ∈ p0, x.block < W.heap.size := by obtain ⟨m, hm⟩ := k0; exact DataW.trod_lt m _ _ _ hm
  obtain ⟨z0, w0, r0⟩ : ∃ zs, IsRow .u8 W a0 len0 cap0 zs ∧ cap0 ≤ 140737488351232 := by
    obtain ⟨fuel, hf⟩ := h0
    rcases open_ints Try.underlying22 Try.underlying5 (by kernel_rfl) hf with ⟨hcs, _⟩ | ⟨x, l, c, zs, hcs, _, hl, hm, hz, hxx, hcell, hwz⟩
    · simp [Value.cells] at hcs
      obtain ⟨rfl, rfl, rfl⟩ := hcs
      exact ⟨[], .inl ⟨rfl, rfl, rfl, rfl⟩, by omega⟩
    · simp [Value.cells] at hcs
      obtain ⟨rfl, rfl, rfl⟩ := hcs
      have hz' : zs.length = cap0 := by simpa using hz
      refine ⟨zs, .inr ⟨_, rfl, hl, hm, hz', hcell, hwz⟩, ?_⟩
      simp only [Prod.mk.injEq] at hxx
      rw [hxx.1] at hsz
      have h := sized_slice hsz (j := 0) (t := 22) (e := 5) rfl rfl Try.underlying22
      rw [bytes5] at h
      simp only [lits, List.length_map, List.length_take, List.length_drop, reachBytes] at h
      omega
  clear hA0 hval0
  refine (walk a0 len0 cap0 z0 W w0 r0).mono fun e W' ⟨he, bel⟩ => ?_
  subst he
  exact ⟨_, rfl, _, _, _, [], _, [], hW', trodAll_mk1 (shut_bool Try.underlying4 _), (trodAll_cons_mk (Below.trod laidOut (by kernel_rfl) (of_decide_eq_true (by kernel_rfl)) k0 bel lt0) trodAll_mk0), rfl, bel.frame _, fun h => by cases h⟩

theorem over : Rows.fnAdmitsRow.holds Try.pinned (OpenSpec.ofChange Rows.fnAdmitsSpec) :=
  OpenClaim.holds_of_wide 3 Try.f3 rfl rfl rfl rfl rfl rfl rfl ⟨rfl, rfl, rfl, rfl, rfl⟩ rfl rfl rfl rfl rfl (by kernel_rfl) Try.func3 (by kernel_rfl)
    (of_decide_eq_true (by kernel_rfl)) (by unfold Func.isWrapper; first | (rw [if_pos (by decide +kernel)]; kernel_rfl) | (rw [if_neg (by decide +kernel)]; exact ⟨rfl, rfl⟩))
    (fun os started H enc _ => lifted os started H enc)

/-- ████ THE STATEMENT ████ -/
theorem proved : Rows.FnAdmitsSaid := over
#print axioms proved
end Go.Proofs.Ytblcfncjghkegaa.fnAdmits
