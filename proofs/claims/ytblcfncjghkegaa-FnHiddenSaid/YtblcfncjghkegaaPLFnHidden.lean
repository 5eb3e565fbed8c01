/-
  For every draw: two cells change their order with the byte that is drawn. No further condition.
-/
import Derived.Test.YtblcfncjghkegaaPGo
import Derived.Test.YtblcfncjghkegaaPGq
import Derived.Test.YtblcfncjghkegaaPGv
import Derived.Test.YtblcfncjghkegaaRows
import Derived.Below
import Derived.ChangeOld
import Derived.Deep.Cut
import Derived.Deep.CutRange
import Derived.Deep.DeepCutAuto
import Derived.OpenShut
import Derived.ProofKit
import Derived.ShutString
import Derived.SizedLaws
import Derived.StillTailTactics
import Derived.WalkKit
namespace Go.Proofs.Ytblcfncjghkegaa.fnHidden
open Go.ChangeShapes Go.WideShapes Go.ChangeAt Go.RowKit
open Go.ChangeMaps (open_string shut_string)
set_option linter.unusedVariables false

theorem bytes5 : Try.prog.bytesOf 5 = 1 := by kernel_rfl
open Go.Proofs.Ytblcfncjghkegaa Fld
theorem own : ownKnob Try.prog.godebug = none := by kernel_rfl
theorem laidOut : laidOutB Try.prog = true := by kernel_rfl

/-- WHAT THE WALK IS TOLD OF A SLICE OF INTEGERS THAT CAME IN: it is nil; or it leads to a row of 'cap' cells, the numbers 'zs' (the first 'len' are its elements, the rest its spare room), each fitting its kind. -/
def IsRow (k : IntKind) (w : World) (a : Option Addr) (len cap : Nat) (zs : List Int) : Prop :=
  (a = none ∧ len = 0 ∧ cap = 0 ∧ zs = []) ∨
  ∃ x, a = some x ∧ len ≤ cap ∧ cap ≤ maxLen ∧ zs.length = cap ∧ (∀ i, i < zs.length → w.cell? (x.add i) = some (.int k (zs.getD i 0))) ∧ ∀ n ∈ zs, (Lit.int k n).wf = true

theorem rowInts {w : World} {a : Option Addr} {n c : Nat} {zs : List Int} (h : IsRow .u8 w a n c zs) : Ints .u8 w w.heap.size a n (zs.take n) ∧ n ≤ c := by
  rcases h with ⟨rfl, rfl, rfl, rfl⟩ | ⟨x, rfl, hl, _, hz, hc, hw⟩
  · exact ⟨Ints.nil, Nat.le_refl _⟩
  · exact ⟨Ints.ofRow (by omega) hc hw, hl⟩
theorem poolShape {w : World} {B : Nat} {v0 v1 : Value} {p : DPool} (h : tPool.R w B [v0, v1] p) : ∃ A0 c0 A1 c1, v0 = .slice A0 p.1.length c0 ∧ v1 = .slice A1 p.2.length c1 := by
  obtain ⟨A0, n0, c0, A1, n1, c1, e, -, -, h0, -, -, -, h1, -⟩ := openPool h
  simp only [List.cons.injEq, and_true] at e
  exact ⟨A0, c0, A1, c1, by rw [e.1, h0], by rw [e.2, h1]⟩
theorem cellsShape {w : World} {B : Nat} {cs : List Value} {p : DPool} (h : tPool.R w B cs p) : ∃ A0 c0 A1 c1, cs = [.slice A0 p.1.length c0, .slice A1 p.2.length c1] := by
  obtain ⟨A0, n0, c0, A1, n1, c1, rfl, -, -, h0, -, -, -, h1, -⟩ := openPool h
  exact ⟨A0, c0, A1, c1, by rw [h0, h1]⟩
theorem one_u8 {w : World} {g : Nat} {T : TypeId} {d : Int} (h : Box w g T #[.int .u8 d]) (hd : 0 ≤ d ∧ d < 256) : tBy.R w w.heap.size [.slice (some ⟨g, 0, none⟩) 1 1] [d] := by
  refine ⟨_, 1, 1, rfl, Nat.le_refl _, by omega, rfl, fun _ => ⟨g, 0, rfl, h.size, fun i hi => ?_⟩, fun x hx => ?_⟩
  · obtain rfl : i = 0 := by omega
    exact h.cell 0
  · rw [List.mem_singleton] at hx
    subst hx
    exact WalkArith.wf_u8 ⟨by omega, by omega⟩
theorem two_pool {w : World} {g n m c k : Nat} {A B : Option Addr} {T : TypeId} {a b : DHeld} (h : Box w g T #[.int .i64 a.1, .int .i64 a.2.1, .slice A n c, .int .i64 b.1, .int .i64 b.2.1, .slice B m k])
    (ha : tHeld.R w w.heap.size [.int .i64 a.1, .int .i64 a.2.1, .slice A n c] a) (hb : tHeld.R w w.heap.size [.int .i64 b.1, .int .i64 b.2.1, .slice B m k] b) :
    tPool.R w w.heap.size [.slice (some ⟨g, 0, none⟩) 2 2, .slice none 0 0] ([a, b], []) := by
  refine makePool (p := ([a, b], [])) ⟨_, 2, 2, rfl, Nat.le_refl _, by omega, rfl, fun _ => ⟨g, 0, rfl, h.size, fun i x hi => ?_⟩⟩ ⟨none, 0, 0, rfl, Nat.le_refl _, by omega, Ints.nil⟩
  have c0 := h.cell 0; have c1 := h.cell 1; have c2 := h.cell 2; have c3 := h.cell 3; have c4 := h.cell 4; have c5 := h.cell 5
  have h3 : tHeld.k = 3 := rfl
  rw [h3]
  match i, hi with
  | 0, hi =>
    injection hi with hi; subst hi
    refine ⟨_, fun j hj => ?_, ha⟩
    have : j = 0 ∨ j = 1 ∨ j = 2 := by omega
    rcases this with rfl | rfl | rfl
    · exact c0
    · exact c1
    · exact c2
  | 1, hi =>
    injection hi with hi; subst hi
    refine ⟨_, fun j hj => ?_, hb⟩
    have : j = 0 ∨ j = 1 ∨ j = 2 := by omega
    rcases this with rfl | rfl | rfl
    · exact c3
    · exact c4
    · exact c5
  | _ + 2, hi => simp at hi
theorem shuf_two {d : Int} (h : 0 ≤ d ∧ d < 256) : shuf [d] 1 (iota 2) 0 = some (if d % 2 = 0 then [1, 0] else [0, 1], 1) := by
  have hb : belP [d] 0 2 = (d % 2, 1) := belP_hit (d := [d]) (i := 0) (n := 2) (by simp) (by show d < 256 - 256 % 2; omega)
  have hy := shuf_yes (d := [d]) (i := 0) (l := iota 2) (u := 0) (by rw [show (((0 : Nat) : Int) + 2) = 2 from rfl, hb]; show ¬ d % 2 < 0; omega)
  rw [hy, show (((0 : Nat) : Int) + 2) = 2 from rfl, hb, shuf_zero]
  have h2 : d % 2 = 0 ∨ d % 2 = 1 := by omega
  rcases h2 with e | e
  · rw [e]; rfl
  · rw [e]; rfl
theorem par_xor {d : Int} (h : 0 ≤ d ∧ d < 256) : (bits .xor .u8 d 1) % 2 = 1 - d % 2 := by
  rw [u8_xor d 1 h.1 h.2 (by omega) (by omega)]
  have e := Nat.xor_mod_two_eq_one (a := d.toNat) (b := 1)
  rw [show (1 : Int).toNat = 1 from rfl]
  by_cases h2 : d.toNat % 2 = 1
  · have : ¬ (d.toNat ^^^ 1) % 2 = 1 := fun h3 => (e.mp h3) ⟨fun _ => rfl, fun _ => h2⟩
    omega
  · have : (d.toNat ^^^ 1) % 2 = 1 := e.mpr fun h3 => h2 (h3.mpr rfl)
    omega
theorem u8_modH (d : Int) : IntKind.u8.wrap d = d % 256 := by
  unfold IntKind.wrap IntKind.bits IntKind.signed; simp
theorem two_ok {a b : DHeld} (ha : HdOk a) (hb : HdOk b) : PlOk (([a, b], []) : DPool) := ⟨⟨by simp, by simp⟩, fun x hx => by
    rcases List.mem_cons.mp hx with e | e
    · rw [e]; exact ha
    · rw [List.mem_singleton.mp e]; exact hb, fun x hx => absurd hx (by simp), List.nodup_nil⟩
/-- Two cells go in the order that a byte's last bit tells. -/
theorem two_flush {a b : DHeld} (ha : HdOk a) (hb : HdOk b) {d : Int} (h : 0 ≤ d ∧ d < 256) : fFlL ([a, b], []) 2 [d] = if d % 2 = 0 then [b, a] else [a, b] := by
  have hp := two_ok ha hb
  rw [(fl_yes (p := ([a, b], [])) (x := 2) (d := [d]) (L := _) (U := _) ⟨hp, by omega, by omega⟩ (by show ¬ (((2 : Nat) : Int) < 2); omega) (shuf_two h)).2.1]
  split <;> rfl
theorem two_hidden {a b : DHeld} (ha : HdOk a) (hb : HdOk b) {d : Int} (h : 0 ≤ d ∧ d < 256) : fFlL ([b, a], []) 2 [bits .xor .u8 d 1] = fFlL ([a, b], []) 2 [d] ∧ (fFlL ([a, b], []) 2 [d]).length = 2 := by
  have hx := xor_rg h (show 0 ≤ (1 : Int) ∧ (1 : Int) < 256 from ⟨by omega, by omega⟩)
  have e := par_xor h
  rw [two_flush hb ha hx, two_flush ha hb h, e]
  have h2 : d % 2 = 0 ∨ d % 2 = 1 := by omega
  rcases h2 with e2 | e2
  · rw [e2]; exact ⟨rfl, rfl⟩
  · rw [e2]; exact ⟨rfl, rfl⟩

/-! ### STEP 1: THE WALK: the Go text returns true, AND WRITES NOTHING THAT WAS THERE: 'Below w.heap.size w w'' (Derived/Below.lean: '.refl', '.alloc', '.drew', '.setCell' at a new block, '.trans'). Open each 'IsRow' by 'rcases' AHEAD of 'go_enter'; part every test ahead of the walk. -/
set_option maxRecDepth 100000 in
set_option maxHeartbeats 2000000 in
theorem walk (a0 : Option Addr) (len0 cap0 : Nat) (z0 : List Int) (w : World) (w0 : IsRow .u8 w a0 len0 cap0 z0) (r0 : cap0 ≤ 140737488351232) :
    Calls Try.prog 6 #[.slice a0 len0 cap0] w fun e w' => e = .returned (.bool true) ∧ Below w.heap.size w w' := by
  obtain ⟨hl, hn⟩ := rowInts w0
  go_enter Try.func6, Try.ntmps6
  go_wp2_with fail
  refine (d_Flush hl (by omega)).mono ?_
  rintro e w1 ⟨v0, v1, p, x, vd, dd, rfl, hP, hS, hxr, -, -, hB1⟩
  obtain ⟨A0, a0, A1, a1, rfl, rfl⟩ := poolShape hP
  obtain ⟨n0, hn0⟩ : ∃ m, p.1.length = m := ⟨_, rfl⟩
  obtain ⟨n1, hn1⟩ : ∃ m, p.2.length = m := ⟨_, rfl⟩
  have N0 := Lib.hid hn0
  have N1 := Lib.hid hn1
  rw [hn0, hn1] at hP ⊢
  clear hn0 hn1
  have hz := hS.sz
  have m0 : p.1.length ≤ 13 := hS.1
  rw [N0.out] at m0
  have V1 : Box (w1.alloc (.cells #[.slice A0 n0 a0, .slice A1 n1 a1] 26)) w1.heap.size 26 #[.slice A0 n0 a0, .slice A1 n1 a1] := Box.new _ _ _
  have hx1 : Below w1.heap.size w1 (w1.alloc (.cells #[.slice A0 n0 a0, .slice A1 n1 a1] 26)) := bel_alloc (Below.refl _ _) _
  have hP := tPool.reach hP hx1
  have hB2 := bel_trans hB1 hx1
  have k0 := V1.cell 0
  have k1 := V1.cell 1
  go_wp2_with fail
  refine (s_PoolOk hP hz).mono ?_
  rintro e w2 ⟨rfl, hb2⟩
  have hP := tPool.reach hP hb2
  have V1 := V1.below hb2 V1.size
  have hB3 := bel_trans hB2 hb2
  have k0 := V1.cell 0
  by_cases hp : PlOk p ∧ 2 ≤ n0
  rotate_left
  · have fin : ∀ w3, Below w.heap.size w w3 → Calls Try.prog 12 #[] w3 fun e w' => e = .returned (.bool true) ∧ Below w3.heap.size w3 w' := fun w3 _ => l_pools w3
    by_cases hq : PlOk p
    · rw [decide_eq_true hq]
      have hnn : ¬ 2 ≤ n0 := fun h => hp ⟨hq, h⟩
      have hdn : decide ((n0 : Int) < 2) = true := decide_eq_true (by omega)
      clear hp hq
      go_wp2_with fail
      refine (l_pools _).mono ?_
      rintro e w9 ⟨rfl, hb9⟩
      go_wp2_with fail
      go_ret
      exact ⟨rfl, bel_trans hB3 hb9⟩
    · rw [decide_eq_false hq]
      clear hp hq
      go_wp2_with fail
      refine (l_pools _).mono ?_
      rintro e w9 ⟨rfl, hb9⟩
      go_wp2_with fail
      go_ret
      exact ⟨rfl, bel_trans hB3 hb9⟩
  · rw [decide_eq_true hp.1]
    have hn2 := hp.2
    have hdn : decide ((n0 : Int) < 2) = false := decide_eq_false (by omega)
    obtain ⟨_, _, _, _, _, _, ea, -, -, -, hrP, -⟩ := openPool hP
    simp only [List.cons.injEq, Value.slice.injEq, and_true] at ea
    obtain ⟨⟨rfl, rfl, rfl⟩, -, -, -⟩ := ea
    obtain ⟨a, bx, ox, es, hai, rfl, hbx, hes, hRa⟩ := rowR_at (K := 3) hrP (show 0 < n0 by omega) rfl
    obtain ⟨b, bx2, ox2, es2, hbi, e2, -, hes2, hRb⟩ := rowR_at (K := 3) hrP (show 1 < n0 by omega) rfl
    simp only [Option.some.injEq, Addr.mk.injEq, and_true] at e2
    obtain ⟨rfl, rfl⟩ := e2
    obtain ⟨AA, nA, cA, rfl, -⟩ := openHeld hRa
    obtain ⟨AB, nB, cB, rfl, -⟩ := openHeld hRb
    have hOa := hp.1.2.1 a (List.mem_of_getElem? hai)
    have hOb := hp.1.2.1 b (List.mem_of_getElem? hbi)
    have HOA := Lib.hid hOa
    have HOB := Lib.hid hOb
    have q0 := V1.cell 0
    have h0n : 0 < n0 := by omega
    have h1n : 1 < n0 := by omega
    have h1i : (1 : Int) < (n0 : Int) := by omega
    have h0i : (0 : Int) < (n0 : Int) := by omega
    have q1 : w2.cell? ⟨bx, ox, none⟩ = some (.int .i64 a.1) := hes 0 (by omega)
    have q2 : w2.cell? ⟨bx, ox + 1, none⟩ = some (.int .i64 a.2.1) := hes 1 (by omega)
    have q3 : w2.cell? ⟨bx, ox + 2, none⟩ = some (.slice AA nA cA) := hes 2 (by omega)
    have q4 : w2.cell? ⟨bx, ox + 3, none⟩ = some (.int .i64 b.1) := hes2 0 (by omega)
    have q5 : w2.cell? ⟨bx, ox + 3 + 1, none⟩ = some (.int .i64 b.2.1) := hes2 1 (by omega)
    have q6 : w2.cell? ⟨bx, ox + 3 + 2, none⟩ = some (.slice AB nB cB) := hes2 2 (by omega)
    clear hp hai hbi hes hes2 hOa hOb hx1 k0 k1
    go_upto_region 4 with fail
    have hk : ∀ W, Below w2.heap.size w2 W → (fun w' => w'.cell? ⟨w1.heap.size, 0, none⟩ = some (.slice (some ⟨bx, ox, none⟩) n0 a0) ∧ w'.cell? ⟨bx, ox, none⟩ = some (.int .i64 a.1) ∧ w'.cell? ⟨bx, ox + 1, none⟩ = some (.int .i64 a.2.1) ∧ w'.cell? ⟨bx, ox + 2, none⟩ = some (.slice AA nA cA) ∧ w'.cell? ⟨bx, ox + 3, none⟩ = some (.int .i64 b.1) ∧ w'.cell? ⟨bx, ox + 3 + 1, none⟩ = some (.int .i64 b.2.1) ∧ w'.cell? ⟨bx, ox + 3 + 2, none⟩ = some (.slice AB nB cB)) W := fun W hW => ⟨cell_bel hW q0, cell_bel hW q1, cell_bel hW q2, cell_bel hW q3, cell_bel hW q4, cell_bel hW q5, cell_bel hW q6⟩
    go_cut [6] (fun t6 wc => ∃ g bb : Nat, t6 = .pointer (some ⟨g, 0, none⟩) ∧ Box wc g 26 #[.slice (some ⟨bb, 0, none⟩) 2 2, .slice none 0 0] ∧ tPool.R wc wc.heap.size [.slice (some ⟨bb, 0, none⟩) 2 2, .slice none 0 0] ([a, b], []) ∧ Below w2.heap.size w2 wc)
    case first =>
      refine wp_region_held_drew (S := (fun w' => w'.cell? ⟨w1.heap.size, 0, none⟩ = some (.slice (some ⟨bx, ox, none⟩) n0 a0) ∧ w'.cell? ⟨bx, ox, none⟩ = some (.int .i64 a.1) ∧ w'.cell? ⟨bx, ox + 1, none⟩ = some (.int .i64 a.2.1) ∧ w'.cell? ⟨bx, ox + 2, none⟩ = some (.slice AA nA cA) ∧ w'.cell? ⟨bx, ox + 3, none⟩ = some (.int .i64 b.1) ∧ w'.cell? ⟨bx, ox + 3 + 1, none⟩ = some (.int .i64 b.2.1) ∧ w'.cell? ⟨bx, ox + 3 + 2, none⟩ = some (.slice AB nB cB))) (by kernel_rfl) (by exact hk _ (belx)) (fun hHeld => ?_)
      refine wpAnyH_take (i := 0) (oi := ⟨some 32, _, _, _, _, _⟩) (v := ?v149) rfl (by kernel_rfl) (by kernel_rfl) (by kernel_rfl) (fun _ _ _ h => h) (Or.inl ⟨by rfl, ?hy149⟩) (by assumption) ?_
      case hy149 => (intro w hSw; (try dsimp only at hSw); go_simp; try (with_reducible rfl))
      (try simp only [Act.put, qa_, qb_, qc_])
      refine wpAnyH_take (i := 1) (oi := ⟨some 33, _, _, _, _, _⟩) (v := ?v150) rfl (by kernel_rfl) (by kernel_rfl) (by kernel_rfl) (fun _ _ _ h => h) (Or.inl ⟨by rfl, ?hy150⟩) (by assumption) ?_
      case hy150 => (intro w hSw; (try dsimp only at hSw); go_simp; try (with_reducible rfl))
      (try simp only [Act.put, qa_, qb_, qc_])
      refine wpAnyH_take (i := 2) (oi := ⟨some 34, _, _, _, _, _⟩) (v := ?v151) rfl (by kernel_rfl) (by kernel_rfl) (by kernel_rfl) (fun _ _ _ h => h) (Or.inl ⟨by rfl, ?hy151⟩) (by assumption) ?_
      case hy151 => (intro w hSw; (try dsimp only at hSw); go_simp; try (with_reducible rfl))
      (try simp only [Act.put, qa_, qb_, qc_])
      refine wpAnyH_take (i := 3) (oi := ⟨some 35, _, _, _, _, _⟩) (v := ?v152) rfl (by kernel_rfl) (by kernel_rfl) (by kernel_rfl) (fun _ _ _ h => h) (Or.inl ⟨by rfl, ?hy152⟩) (by assumption) ?_
      case hy152 => (intro w hSw; (try dsimp only at hSw); go_simp; try (with_reducible rfl))
      (try simp only [Act.put, qa_, qb_, qc_])
      refine wpAnyH_take (i := 4) (oi := ⟨some 36, _, _, _, _, _⟩) (v := ?v153) rfl (by kernel_rfl) (by kernel_rfl) (by kernel_rfl) (fun _ _ _ h => h) (Or.inl ⟨by rfl, ?hy153⟩) (by assumption) ?_
      case hy153 => (intro w hSw; (try dsimp only at hSw); go_simp; try (with_reducible rfl))
      (try simp only [Act.put, qa_, qb_, qc_])
      refine wpAnyH_take (i := 5) (oi := ⟨some 37, _, _, _, _, _⟩) (v := ?v154) rfl (by kernel_rfl) (by kernel_rfl) (by kernel_rfl) (fun _ _ _ h => h) (Or.inl ⟨by rfl, ?hy154⟩) (by assumption) ?_
      case hy154 => (intro w hSw; (try dsimp only at hSw); go_simp; try (with_reducible rfl))
      (try simp only [Act.put, qa_, qb_, qc_])
      refine wpAnyH_take (i := 6) (oi := ⟨some 38, _, _, _, _, _⟩) (v := ?v155) rfl (by kernel_rfl) (by kernel_rfl) (by kernel_rfl) (fun _ _ _ h => h) (Or.inl ⟨by rfl, ?hy155⟩) (by assumption) ?_
      case hy155 => (intro w hSw; (try dsimp only at hSw); go_simp; try (with_reducible rfl))
      (try simp only [Act.put, qa_, qb_, qc_])
      refine wpAnyH_take (i := 7) (oi := ⟨some 39, _, _, _, _, _⟩) (v := ?v156) rfl (by kernel_rfl) (by kernel_rfl) (by kernel_rfl) (fun _ _ _ h => h) (Or.inl ⟨by rfl, ?hy156⟩) (by assumption) ?_
      case hy156 => (intro w hSw; (try dsimp only at hSw); go_simp; try (with_reducible rfl))
      (try simp only [Act.put, qa_, qb_, qc_])
      refine wpAnyH_ready (rs := [8, 10]) (by kernel_rfl) (by simp) ?_
      refine AllReadyH.cons rfl (fun K hK => ?_) ?_
      · go_simp
        refine hK.out _ _ (by exact hk _ (belx)) (fun hHeld => ?_)
        clear hK K
        (try simp only [Act.put, qa_, qb_, qc_])
        refine wpAnyH_take (i := 9) (oi := ⟨some 41, _, _, _, _, _⟩) (v := ?v157) rfl (by kernel_rfl) (by kernel_rfl) (by kernel_rfl) (fun _ _ _ h => h) (Or.inl ⟨by rfl, ?hy157⟩) (by assumption) ?_
        case hy157 => (intro w hSw; (try dsimp only at hSw); go_simp; try (with_reducible rfl))
        (try simp only [Act.put, qa_, qb_, qc_])
        refine wpAnyH_ready (rs := [10]) (by kernel_rfl) (by simp) ?_
        refine AllReadyH.cons rfl (fun K hK => ?_) ?_
        · go_simp
          refine hK.out _ _ (by exact hk _ (belx)) (fun hHeld => ?_)
          clear hK K
          (try simp only [Act.put, qa_, qb_, qc_])
          refine wpAnyH_ready (rs := [11]) (by kernel_rfl) (by simp) ?_
          refine AllReadyH.cons rfl (fun K hK => ?_) ?_
          · go_simp
            refine hK.out _ _ (by exact hk _ (belx)) (fun hHeld => ?_)
            clear hK K
            (try simp only [Act.put, qa_, qb_, qc_])
            refine wpAnyH_done (by kernel_rfl) ?_ _
            have zP : Box (((w2.alloc (.cells #[.int .i64 a.1, .int .i64 a.2.1, .slice AA nA cA, .int .i64 b.1, .int .i64 b.2.1, .slice AB nB cB] 30)).alloc (.cells #[.slice (some ⟨w2.heap.size, 0, none⟩) 2 2, .slice none 0 0] 26)).drew) (w2.heap.size + 1) 26 #[.slice (some ⟨w2.heap.size, 0, none⟩) 2 2, .slice none 0 0] := Box.drew (by simpa using Box.new (w2.alloc (.cells #[.int .i64 a.1, .int .i64 a.2.1, .slice AA nA cA, .int .i64 b.1, .int .i64 b.2.1, .slice AB nB cB] 30)) 26 #[.slice (some ⟨w2.heap.size, 0, none⟩) 2 2, .slice none 0 0])
            have zR : Box (((w2.alloc (.cells #[.int .i64 a.1, .int .i64 a.2.1, .slice AA nA cA, .int .i64 b.1, .int .i64 b.2.1, .slice AB nB cB] 30)).alloc (.cells #[.slice (some ⟨w2.heap.size, 0, none⟩) 2 2, .slice none 0 0] 26)).drew) w2.heap.size 30 #[.int .i64 a.1, .int .i64 a.2.1, .slice AA nA cA, .int .i64 b.1, .int .i64 b.2.1, .slice AB nB cB] := Box.drew ((Box.new w2 30 #[.int .i64 a.1, .int .i64 a.2.1, .slice AA nA cA, .int .i64 b.1, .int .i64 b.2.1, .slice AB nB cB]).alloc _)
            have zB : Below w2.heap.size w2 (((w2.alloc (.cells #[.int .i64 a.1, .int .i64 a.2.1, .slice AA nA cA, .int .i64 b.1, .int .i64 b.2.1, .slice AB nB cB] 30)).alloc (.cells #[.slice (some ⟨w2.heap.size, 0, none⟩) 2 2, .slice none 0 0] 26)).drew) := (belx)
            go_wp2_with fail
            go_meet
            exact ⟨_, _, rfl, zP, two_pool zR (tHeld.reach hRa zB) (tHeld.reach hRb zB), zB⟩
          exact AllReadyH.nil
        exact AllReadyH.nil
      refine AllReadyH.cons rfl (fun K hK => ?_) ?_
      · go_simp
        refine hK.out _ _ (by exact hk _ (belx)) (fun hHeld => ?_)
        clear hK K
        (try simp only [Act.put, qa_, qb_, qc_])
        refine wpAnyH_ready (rs := [8]) (by kernel_rfl) (by simp) ?_
        refine AllReadyH.cons rfl (fun K hK => ?_) ?_
        · go_simp
          refine hK.out _ _ (by exact hk _ (belx)) (fun hHeld => ?_)
          clear hK K
          (try simp only [Act.put, qa_, qb_, qc_])
          refine wpAnyH_take (i := 9) (oi := ⟨some 41, _, _, _, _, _⟩) (v := ?v158) rfl (by kernel_rfl) (by kernel_rfl) (by kernel_rfl) (fun _ _ _ h => h) (Or.inl ⟨by rfl, ?hy158⟩) (by assumption) ?_
          case hy158 => (intro w hSw; (try dsimp only at hSw); go_simp; try (with_reducible rfl))
          (try simp only [Act.put, qa_, qb_, qc_])
          refine wpAnyH_ready (rs := [11]) (by kernel_rfl) (by simp) ?_
          refine AllReadyH.cons rfl (fun K hK => ?_) ?_
          · go_simp
            refine hK.out _ _ (by exact hk _ (belx)) (fun hHeld => ?_)
            clear hK K
            (try simp only [Act.put, qa_, qb_, qc_])
            refine wpAnyH_done (by kernel_rfl) ?_ _
            have zP : Box (((w2.alloc (.cells #[.slice (some ⟨w2.heap.size + 1, 0, none⟩) 2 2, .slice none 0 0] 26)).alloc (.cells #[.int .i64 a.1, .int .i64 a.2.1, .slice AA nA cA, .int .i64 b.1, .int .i64 b.2.1, .slice AB nB cB] 30)).drew) w2.heap.size 26 #[.slice (some ⟨w2.heap.size + 1, 0, none⟩) 2 2, .slice none 0 0] := Box.drew ((Box.new w2 26 #[.slice (some ⟨w2.heap.size + 1, 0, none⟩) 2 2, .slice none 0 0]).alloc _)
            have zR : Box (((w2.alloc (.cells #[.slice (some ⟨w2.heap.size + 1, 0, none⟩) 2 2, .slice none 0 0] 26)).alloc (.cells #[.int .i64 a.1, .int .i64 a.2.1, .slice AA nA cA, .int .i64 b.1, .int .i64 b.2.1, .slice AB nB cB] 30)).drew) (w2.heap.size + 1) 30 #[.int .i64 a.1, .int .i64 a.2.1, .slice AA nA cA, .int .i64 b.1, .int .i64 b.2.1, .slice AB nB cB] := Box.drew (by simpa using Box.new (w2.alloc (.cells #[.slice (some ⟨w2.heap.size + 1, 0, none⟩) 2 2, .slice none 0 0] 26)) 30 #[.int .i64 a.1, .int .i64 a.2.1, .slice AA nA cA, .int .i64 b.1, .int .i64 b.2.1, .slice AB nB cB])
            have zB : Below w2.heap.size w2 (((w2.alloc (.cells #[.slice (some ⟨w2.heap.size + 1, 0, none⟩) 2 2, .slice none 0 0] 26)).alloc (.cells #[.int .i64 a.1, .int .i64 a.2.1, .slice AA nA cA, .int .i64 b.1, .int .i64 b.2.1, .slice AB nB cB] 30)).drew) := (belx)
            go_wp2_with fail
            go_meet
            exact ⟨_, _, rfl, zP, two_pool zR (tHeld.reach hRa zB) (tHeld.reach hRb zB), zB⟩
          exact AllReadyH.nil
        exact AllReadyH.nil
      exact AllReadyH.nil
    case rest =>
    obtain ⟨g1, r1, rfl, Xa, hXa, hb3⟩ := hcut
    rename World => w3
    have hRa := tHeld.reach hRa hb3
    have hRb := tHeld.reach hRb hb3
    have q0 := cell_bel hb3 q0
    have q1 := cell_bel hb3 q1
    have q2 := cell_bel hb3 q2
    have q3 := cell_bel hb3 q3
    have q4 := cell_bel hb3 q4
    have q5 := cell_bel hb3 q5
    have q6 := cell_bel hb3 q6
    have hB4 := bel_trans hB3 hb3
    clear hk
    go_upto_region 5 with fail
    have hk : ∀ W, Below w3.heap.size w3 W → (fun w' => w'.cell? ⟨w1.heap.size, 0, none⟩ = some (.slice (some ⟨bx, ox, none⟩) n0 a0) ∧ w'.cell? ⟨bx, ox, none⟩ = some (.int .i64 a.1) ∧ w'.cell? ⟨bx, ox + 1, none⟩ = some (.int .i64 a.2.1) ∧ w'.cell? ⟨bx, ox + 2, none⟩ = some (.slice AA nA cA) ∧ w'.cell? ⟨bx, ox + 3, none⟩ = some (.int .i64 b.1) ∧ w'.cell? ⟨bx, ox + 3 + 1, none⟩ = some (.int .i64 b.2.1) ∧ w'.cell? ⟨bx, ox + 3 + 2, none⟩ = some (.slice AB nB cB)) W := fun W hW => ⟨cell_bel hW q0, cell_bel hW q1, cell_bel hW q2, cell_bel hW q3, cell_bel hW q4, cell_bel hW q5, cell_bel hW q6⟩
    go_cut [7] (fun t7 wc => ∃ g bb : Nat, t7 = .pointer (some ⟨g, 0, none⟩) ∧ Box wc g 26 #[.slice (some ⟨bb, 0, none⟩) 2 2, .slice none 0 0] ∧ tPool.R wc wc.heap.size [.slice (some ⟨bb, 0, none⟩) 2 2, .slice none 0 0] ([b, a], []) ∧ Below w3.heap.size w3 wc)
    case first =>
      refine wp_region_held_drew (S := (fun w' => w'.cell? ⟨w1.heap.size, 0, none⟩ = some (.slice (some ⟨bx, ox, none⟩) n0 a0) ∧ w'.cell? ⟨bx, ox, none⟩ = some (.int .i64 a.1) ∧ w'.cell? ⟨bx, ox + 1, none⟩ = some (.int .i64 a.2.1) ∧ w'.cell? ⟨bx, ox + 2, none⟩ = some (.slice AA nA cA) ∧ w'.cell? ⟨bx, ox + 3, none⟩ = some (.int .i64 b.1) ∧ w'.cell? ⟨bx, ox + 3 + 1, none⟩ = some (.int .i64 b.2.1) ∧ w'.cell? ⟨bx, ox + 3 + 2, none⟩ = some (.slice AB nB cB))) (by kernel_rfl) (by exact hk _ (belx)) (fun hHeld => ?_)
      refine wpAnyH_take (i := 0) (oi := ⟨some 42, _, _, _, _, _⟩) (v := ?v159) rfl (by kernel_rfl) (by kernel_rfl) (by kernel_rfl) (fun _ _ _ h => h) (Or.inl ⟨by rfl, ?hy159⟩) (by assumption) ?_
      case hy159 => (intro w hSw; (try dsimp only at hSw); go_simp; try (with_reducible rfl))
      (try simp only [Act.put, qa_, qb_, qc_])
      refine wpAnyH_take (i := 1) (oi := ⟨some 43, _, _, _, _, _⟩) (v := ?v160) rfl (by kernel_rfl) (by kernel_rfl) (by kernel_rfl) (fun _ _ _ h => h) (Or.inl ⟨by rfl, ?hy160⟩) (by assumption) ?_
      case hy160 => (intro w hSw; (try dsimp only at hSw); go_simp; try (with_reducible rfl))
      (try simp only [Act.put, qa_, qb_, qc_])
      refine wpAnyH_take (i := 2) (oi := ⟨some 44, _, _, _, _, _⟩) (v := ?v161) rfl (by kernel_rfl) (by kernel_rfl) (by kernel_rfl) (fun _ _ _ h => h) (Or.inl ⟨by rfl, ?hy161⟩) (by assumption) ?_
      case hy161 => (intro w hSw; (try dsimp only at hSw); go_simp; try (with_reducible rfl))
      (try simp only [Act.put, qa_, qb_, qc_])
      refine wpAnyH_take (i := 3) (oi := ⟨some 45, _, _, _, _, _⟩) (v := ?v162) rfl (by kernel_rfl) (by kernel_rfl) (by kernel_rfl) (fun _ _ _ h => h) (Or.inl ⟨by rfl, ?hy162⟩) (by assumption) ?_
      case hy162 => (intro w hSw; (try dsimp only at hSw); go_simp; try (with_reducible rfl))
      (try simp only [Act.put, qa_, qb_, qc_])
      refine wpAnyH_take (i := 4) (oi := ⟨some 46, _, _, _, _, _⟩) (v := ?v163) rfl (by kernel_rfl) (by kernel_rfl) (by kernel_rfl) (fun _ _ _ h => h) (Or.inl ⟨by rfl, ?hy163⟩) (by assumption) ?_
      case hy163 => (intro w hSw; (try dsimp only at hSw); go_simp; try (with_reducible rfl))
      (try simp only [Act.put, qa_, qb_, qc_])
      refine wpAnyH_take (i := 5) (oi := ⟨some 47, _, _, _, _, _⟩) (v := ?v164) rfl (by kernel_rfl) (by kernel_rfl) (by kernel_rfl) (fun _ _ _ h => h) (Or.inl ⟨by rfl, ?hy164⟩) (by assumption) ?_
      case hy164 => (intro w hSw; (try dsimp only at hSw); go_simp; try (with_reducible rfl))
      (try simp only [Act.put, qa_, qb_, qc_])
      refine wpAnyH_take (i := 6) (oi := ⟨some 48, _, _, _, _, _⟩) (v := ?v165) rfl (by kernel_rfl) (by kernel_rfl) (by kernel_rfl) (fun _ _ _ h => h) (Or.inl ⟨by rfl, ?hy165⟩) (by assumption) ?_
      case hy165 => (intro w hSw; (try dsimp only at hSw); go_simp; try (with_reducible rfl))
      (try simp only [Act.put, qa_, qb_, qc_])
      refine wpAnyH_take (i := 7) (oi := ⟨some 49, _, _, _, _, _⟩) (v := ?v166) rfl (by kernel_rfl) (by kernel_rfl) (by kernel_rfl) (fun _ _ _ h => h) (Or.inl ⟨by rfl, ?hy166⟩) (by assumption) ?_
      case hy166 => (intro w hSw; (try dsimp only at hSw); go_simp; try (with_reducible rfl))
      (try simp only [Act.put, qa_, qb_, qc_])
      refine wpAnyH_ready (rs := [8, 10]) (by kernel_rfl) (by simp) ?_
      refine AllReadyH.cons rfl (fun K hK => ?_) ?_
      · go_simp
        refine hK.out _ _ (by exact hk _ (belx)) (fun hHeld => ?_)
        clear hK K
        (try simp only [Act.put, qa_, qb_, qc_])
        refine wpAnyH_take (i := 9) (oi := ⟨some 51, _, _, _, _, _⟩) (v := ?v167) rfl (by kernel_rfl) (by kernel_rfl) (by kernel_rfl) (fun _ _ _ h => h) (Or.inl ⟨by rfl, ?hy167⟩) (by assumption) ?_
        case hy167 => (intro w hSw; (try dsimp only at hSw); go_simp; try (with_reducible rfl))
        (try simp only [Act.put, qa_, qb_, qc_])
        refine wpAnyH_ready (rs := [10]) (by kernel_rfl) (by simp) ?_
        refine AllReadyH.cons rfl (fun K hK => ?_) ?_
        · go_simp
          refine hK.out _ _ (by exact hk _ (belx)) (fun hHeld => ?_)
          clear hK K
          (try simp only [Act.put, qa_, qb_, qc_])
          refine wpAnyH_ready (rs := [11]) (by kernel_rfl) (by simp) ?_
          refine AllReadyH.cons rfl (fun K hK => ?_) ?_
          · go_simp
            refine hK.out _ _ (by exact hk _ (belx)) (fun hHeld => ?_)
            clear hK K
            (try simp only [Act.put, qa_, qb_, qc_])
            refine wpAnyH_done (by kernel_rfl) ?_ _
            have zP : Box (((w3.alloc (.cells #[.int .i64 b.1, .int .i64 b.2.1, .slice AB nB cB, .int .i64 a.1, .int .i64 a.2.1, .slice AA nA cA] 30)).alloc (.cells #[.slice (some ⟨w3.heap.size, 0, none⟩) 2 2, .slice none 0 0] 26)).drew) (w3.heap.size + 1) 26 #[.slice (some ⟨w3.heap.size, 0, none⟩) 2 2, .slice none 0 0] := Box.drew (by simpa using Box.new (w3.alloc (.cells #[.int .i64 b.1, .int .i64 b.2.1, .slice AB nB cB, .int .i64 a.1, .int .i64 a.2.1, .slice AA nA cA] 30)) 26 #[.slice (some ⟨w3.heap.size, 0, none⟩) 2 2, .slice none 0 0])
            have zR : Box (((w3.alloc (.cells #[.int .i64 b.1, .int .i64 b.2.1, .slice AB nB cB, .int .i64 a.1, .int .i64 a.2.1, .slice AA nA cA] 30)).alloc (.cells #[.slice (some ⟨w3.heap.size, 0, none⟩) 2 2, .slice none 0 0] 26)).drew) w3.heap.size 30 #[.int .i64 b.1, .int .i64 b.2.1, .slice AB nB cB, .int .i64 a.1, .int .i64 a.2.1, .slice AA nA cA] := Box.drew ((Box.new w3 30 #[.int .i64 b.1, .int .i64 b.2.1, .slice AB nB cB, .int .i64 a.1, .int .i64 a.2.1, .slice AA nA cA]).alloc _)
            have zB : Below w3.heap.size w3 (((w3.alloc (.cells #[.int .i64 b.1, .int .i64 b.2.1, .slice AB nB cB, .int .i64 a.1, .int .i64 a.2.1, .slice AA nA cA] 30)).alloc (.cells #[.slice (some ⟨w3.heap.size, 0, none⟩) 2 2, .slice none 0 0] 26)).drew) := (belx)
            go_wp2_with fail
            go_meet
            exact ⟨_, _, rfl, zP, two_pool zR (tHeld.reach hRb zB) (tHeld.reach hRa zB), zB⟩
          exact AllReadyH.nil
        exact AllReadyH.nil
      refine AllReadyH.cons rfl (fun K hK => ?_) ?_
      · go_simp
        refine hK.out _ _ (by exact hk _ (belx)) (fun hHeld => ?_)
        clear hK K
        (try simp only [Act.put, qa_, qb_, qc_])
        refine wpAnyH_ready (rs := [8]) (by kernel_rfl) (by simp) ?_
        refine AllReadyH.cons rfl (fun K hK => ?_) ?_
        · go_simp
          refine hK.out _ _ (by exact hk _ (belx)) (fun hHeld => ?_)
          clear hK K
          (try simp only [Act.put, qa_, qb_, qc_])
          refine wpAnyH_take (i := 9) (oi := ⟨some 51, _, _, _, _, _⟩) (v := ?v168) rfl (by kernel_rfl) (by kernel_rfl) (by kernel_rfl) (fun _ _ _ h => h) (Or.inl ⟨by rfl, ?hy168⟩) (by assumption) ?_
          case hy168 => (intro w hSw; (try dsimp only at hSw); go_simp; try (with_reducible rfl))
          (try simp only [Act.put, qa_, qb_, qc_])
          refine wpAnyH_ready (rs := [11]) (by kernel_rfl) (by simp) ?_
          refine AllReadyH.cons rfl (fun K hK => ?_) ?_
          · go_simp
            refine hK.out _ _ (by exact hk _ (belx)) (fun hHeld => ?_)
            clear hK K
            (try simp only [Act.put, qa_, qb_, qc_])
            refine wpAnyH_done (by kernel_rfl) ?_ _
            have zP : Box (((w3.alloc (.cells #[.slice (some ⟨w3.heap.size + 1, 0, none⟩) 2 2, .slice none 0 0] 26)).alloc (.cells #[.int .i64 b.1, .int .i64 b.2.1, .slice AB nB cB, .int .i64 a.1, .int .i64 a.2.1, .slice AA nA cA] 30)).drew) w3.heap.size 26 #[.slice (some ⟨w3.heap.size + 1, 0, none⟩) 2 2, .slice none 0 0] := Box.drew ((Box.new w3 26 #[.slice (some ⟨w3.heap.size + 1, 0, none⟩) 2 2, .slice none 0 0]).alloc _)
            have zR : Box (((w3.alloc (.cells #[.slice (some ⟨w3.heap.size + 1, 0, none⟩) 2 2, .slice none 0 0] 26)).alloc (.cells #[.int .i64 b.1, .int .i64 b.2.1, .slice AB nB cB, .int .i64 a.1, .int .i64 a.2.1, .slice AA nA cA] 30)).drew) (w3.heap.size + 1) 30 #[.int .i64 b.1, .int .i64 b.2.1, .slice AB nB cB, .int .i64 a.1, .int .i64 a.2.1, .slice AA nA cA] := Box.drew (by simpa using Box.new (w3.alloc (.cells #[.slice (some ⟨w3.heap.size + 1, 0, none⟩) 2 2, .slice none 0 0] 26)) 30 #[.int .i64 b.1, .int .i64 b.2.1, .slice AB nB cB, .int .i64 a.1, .int .i64 a.2.1, .slice AA nA cA])
            have zB : Below w3.heap.size w3 (((w3.alloc (.cells #[.slice (some ⟨w3.heap.size + 1, 0, none⟩) 2 2, .slice none 0 0] 26)).alloc (.cells #[.int .i64 b.1, .int .i64 b.2.1, .slice AB nB cB, .int .i64 a.1, .int .i64 a.2.1, .slice AA nA cA] 30)).drew) := (belx)
            go_wp2_with fail
            go_meet
            exact ⟨_, _, rfl, zP, two_pool zR (tHeld.reach hRb zB) (tHeld.reach hRa zB), zB⟩
          exact AllReadyH.nil
        exact AllReadyH.nil
      exact AllReadyH.nil
    case rest =>
    obtain ⟨g2, r2, rfl, Xb, hXb, hb4⟩ := hcut
    rename World => w4
    have Xa := Xa.below hb4 Xa.size
    have hXa := tPool.reach hXa hb4
    have hB5 := bel_trans hB4 hb4
    have hlw := reach hl hB5
    clear hk q0 q1 q2 q3 q4 q5 q6 hRa hRb hb3 hb4
    go_wp2_with fail
    refine (l_at 1 hlw (by omega) (by omega)).mono ?_
    rintro e w' ⟨rfl, rfl⟩
    obtain ⟨dv, hdv⟩ : ∃ dv, IntKind.u8.wrap (atV (z0.take len0) 1) = dv := ⟨_, rfl⟩
    have hd : 0 ≤ dv ∧ dv < 256 := by rw [← hdv, u8_modH]; omega
    have hdx := xor_rg hd (show 0 ≤ (1 : Int) ∧ (1 : Int) < 256 from ⟨by omega, by omega⟩)
    obtain ⟨e1, e2⟩ := two_hidden HOA.out HOB.out hd
    have k0 := Xa.cell 0
    have k1 := Xa.cell 1
    have hz1 := plOk_sz (two_ok HOA.out HOB.out)
    have hz2 := plOk_sz (two_ok HOB.out HOA.out)
    obtain ⟨L, hL⟩ : ∃ L, fFlL ([a, b], []) 2 [dv] = L := ⟨_, rfl⟩
    rw [hL] at e1 e2
    have HL := Lib.hid hL
    have HE1 := Lib.hid e1
    have HE2 := Lib.hid e2
    clear e1 e2 hL
    go_wp2_with fail
    clear hdv
    have zd : Box (w4.alloc (.cells #[.int .u8 dv] 5)) w4.heap.size 5 #[.int .u8 dv] := Box.new _ _ _
    have hx4 : Below w4.heap.size w4 (w4.alloc (.cells #[.int .u8 dv] 5)) := bel_alloc (Below.refl _ _) _
    refine (i_Flush (x := 2) (tPool.reach hXa hx4) hz1 (by rfl) (one_u8 zd hd) (by show 1 ≤ 1048576; omega) (.inr ⟨_, _, rfl⟩)).mono ?_
    rintro e w5 ⟨cs5, A5, c5, F5, G5, rfl, hO5, hR5, -, hb5⟩
    rw [HL.out, HE2.out] at hR5
    rw [HL.out, HE2.out]
    have hRl := tHeld.row.read hR5
    obtain ⟨D0, d0, D1, d1, rfl⟩ := cellsShape (tPool.read hO5)
    obtain ⟨y0, hy0⟩ : ∃ m, (fFlP ([a, b], []) 2 [dv]).1.length = m := ⟨_, rfl⟩
    obtain ⟨y1, hy1⟩ : ∃ m, (fFlP ([a, b], []) 2 [dv]).2.length = m := ⟨_, rfl⟩
    obtain ⟨un, hun⟩ : ∃ m, fFlN ([a, b], []) 2 [dv] = m := ⟨_, rfl⟩
    rw [hy0, hy1, hun]
    clear hy0 hy1 hun hO5 hR5 zd k0 k1 Xa hXa
    have hx5 : Below w5.heap.size w5 (w5.alloc (.cells #[.slice D0 y0 d0, .slice D1 y1 d1] 26)) := bel_alloc (Below.refl _ _) _
    have hy5 : Below w4.heap.size w4 (w5.alloc (.cells #[.slice D0 y0 d0, .slice D1 y1 d1] 26)) := bel_trans (bel_trans hx4 hb5) hx5
    have Xb := Xb.below hy5 Xb.size
    have hXb := tPool.reach hXb hy5
    have hRl := tHeld.row.reach hRl hx5
    have hB6 := bel_trans hB5 hy5
    have k0 := Xb.cell 0
    have k1 := Xb.cell 1
    clear hx4 hb5 hx5 hy5
    go_wp2_with fail
    obtain ⟨wx, hwx⟩ : ∃ wx, w5.alloc (.cells #[.slice D0 y0 d0, .slice D1 y1 d1] 26) = wx := ⟨_, rfl⟩
    have hsz : w5.heap.size + 1 = wx.heap.size := by rw [← hwx]; simp
    rw [hwx] at hXb hRl hB6 ⊢
    rw [hsz]
    clear hwx hsz k0 k1 Xb
    have zd : Box (wx.alloc (.cells #[.int .u8 (bits .xor .u8 dv 1)] 5)) wx.heap.size 5 #[.int .u8 (bits .xor .u8 dv 1)] := Box.new _ _ _
    have hx6 : Below wx.heap.size wx (wx.alloc (.cells #[.int .u8 (bits .xor .u8 dv 1)] 5)) := bel_alloc (Below.refl _ _) _
    refine (i_Flush (x := 2) (tPool.reach hXb hx6) hz2 (by rfl) (one_u8 zd hdx) (by show 1 ≤ 1048576; omega) (.inr ⟨_, _, rfl⟩)).mono ?_
    rintro e w6 ⟨cs6, A6, c6, F6, G6, rfl, hO6, hR6, -, hb6⟩
    rw [HE1.out, HE2.out] at hR6
    rw [HE1.out, HE2.out]
    have hRm := tHeld.row.read hR6
    obtain ⟨E0, e0, E1, e1, rfl⟩ := cellsShape (tPool.read hO6)
    obtain ⟨y2, hy2⟩ : ∃ m, (fFlP ([b, a], []) 2 [bits .xor .u8 dv 1]).1.length = m := ⟨_, rfl⟩
    obtain ⟨y3, hy3⟩ : ∃ m, (fFlP ([b, a], []) 2 [bits .xor .u8 dv 1]).2.length = m := ⟨_, rfl⟩
    obtain ⟨um, hum⟩ : ∃ m, fFlN ([b, a], []) 2 [bits .xor .u8 dv 1] = m := ⟨_, rfl⟩
    rw [hy2, hy3, hum]
    clear hy2 hy3 hum hO6 hR6 zd hXb
    have hx7 : Below w6.heap.size w6 (w6.alloc (.cells #[.slice E0 y2 e0, .slice E1 y3 e1] 26)) := bel_alloc (Below.refl _ _) _
    have hRl := tHeld.row.reach hRl (bel_trans (bel_trans hx6 hb6) hx7)
    have hRm := tHeld.row.reach hRm hx7
    have hB7 := bel_trans hB6 (bel_trans (bel_trans hx6 hb6) hx7)
    clear hx6 hb6 hx7
    obtain ⟨w7, hw7⟩ : ∃ w7, w6.alloc (.cells #[.slice E0 y2 e0, .slice E1 y3 e1] 26) = w7 := ⟨_, rfl⟩
    rw [hw7] at hRl hRm hB7
    go_wp2_with (rw [hw7])
    go_loopw [15] (fun i wr => ∃ j : Nat, i = .int .i64 j ∧ j ≤ 2 ∧ Below w7.heap.size w7 wr) (fun i _ => 2 - (intOf i).toNat)
    case atStart => exact ⟨0, rfl, by omega, by first | exact Below.refl _ _ | (rw [hw7]; exact Below.refl _ _)⟩
    case round =>
      obtain ⟨j, rfl, hj, hbr⟩ := hrel
      by_cases hlt : j < 2
      · obtain ⟨hc, bl, ol, es, hl1, rfl, -, hes, hRa⟩ := rowR_at (K := 3) (tHeld.row.reach hRl hbr) hlt rfl
        obtain ⟨hc2, bm, om, es2, hl2, rfl, -, hes2, hRb⟩ := rowR_at (K := 3) (tHeld.row.reach hRm hbr) hlt rfl
        obtain rfl : hc = hc2 := by rw [hl1] at hl2; injection hl2
        obtain ⟨AC, nC, cC, rfl, -, -, -, -, -, rA⟩ := openHeld hRa
        obtain ⟨AE, nE, cE, rfl, -, -, -, -, -, rB⟩ := openHeld hRb
        have s0 : wr.cell? ⟨bl, ol + j * 3, none⟩ = some (.int .i64 hc.1) := hes 0 (by omega)
        have s1 : wr.cell? ⟨bl, ol + j * 3 + 1, none⟩ = some (.int .i64 hc.2.1) := hes 1 (by omega)
        have s2 : wr.cell? ⟨bl, ol + j * 3 + 2, none⟩ = some (.slice AC nC cC) := hes 2 (by omega)
        have s3 : wr.cell? ⟨bm, om + j * 3, none⟩ = some (.int .i64 hc.1) := hes2 0 (by omega)
        have s4 : wr.cell? ⟨bm, om + j * 3 + 1, none⟩ = some (.int .i64 hc.2.1) := hes2 1 (by omega)
        have s5 : wr.cell? ⟨bm, om + j * 3 + 2, none⟩ = some (.slice AE nE cE) := hes2 2 (by omega)
        have hj0 : (0 : Int) ≤ (j : Int) := by omega
        have hj2 : (j : Int) < 2 := by omega
        have hdj : decide ((j : Int) < 2) = true := decide_eq_true hj2
        have hwj : IntKind.i64.wrap ((j : Int) + 1) = ((j + 1 : Nat) : Int) := IntWalk.i64_in _ (by omega)
        clear hl1 hl2 hes hes2 hRa hRb
        have hk : ∀ W, Below wr.heap.size wr W → (fun w' => w'.cell? ⟨bl, ol + j * 3, none⟩ = some (.int .i64 hc.1) ∧ w'.cell? ⟨bl, ol + j * 3 + 1, none⟩ = some (.int .i64 hc.2.1) ∧ w'.cell? ⟨bl, ol + j * 3 + 2, none⟩ = some (.slice AC nC cC) ∧ w'.cell? ⟨bm, om + j * 3, none⟩ = some (.int .i64 hc.1) ∧ w'.cell? ⟨bm, om + j * 3 + 1, none⟩ = some (.int .i64 hc.2.1) ∧ w'.cell? ⟨bm, om + j * 3 + 2, none⟩ = some (.slice AE nE cE)) W := fun W hW => ⟨cell_bel hW s0, cell_bel hW s1, cell_bel hW s2, cell_bel hW s3, cell_bel hW s4, cell_bel hW s5⟩
        go_wp2_with fail
        refine wp_region_held_drew (S := (fun w' => w'.cell? ⟨bl, ol + j * 3, none⟩ = some (.int .i64 hc.1) ∧ w'.cell? ⟨bl, ol + j * 3 + 1, none⟩ = some (.int .i64 hc.2.1) ∧ w'.cell? ⟨bl, ol + j * 3 + 2, none⟩ = some (.slice AC nC cC) ∧ w'.cell? ⟨bm, om + j * 3, none⟩ = some (.int .i64 hc.1) ∧ w'.cell? ⟨bm, om + j * 3 + 1, none⟩ = some (.int .i64 hc.2.1) ∧ w'.cell? ⟨bm, om + j * 3 + 2, none⟩ = some (.slice AE nE cE))) (by kernel_rfl) (by exact hk _ (belx)) (fun hHeld => ?_)
        refine wpAnyH_take (i := 0) (oi := ⟨some 84, _, _, _, _, _⟩) (v := ?v169) rfl (by kernel_rfl) (by kernel_rfl) (by kernel_rfl) (fun _ _ _ h => h) (Or.inl ⟨by rfl, ?hy169⟩) (by assumption) ?_
        case hy169 => (intro w hSw; (try dsimp only at hSw); go_simp; try (with_reducible rfl))
        (try simp only [Act.put, qa_, qb_, qc_])
        refine wpAnyH_take (i := 1) (oi := ⟨some 85, _, _, _, _, _⟩) (v := ?v170) rfl (by kernel_rfl) (by kernel_rfl) (by kernel_rfl) (fun _ _ _ h => h) (Or.inl ⟨by rfl, ?hy170⟩) (by assumption) ?_
        case hy170 => (intro w hSw; (try dsimp only at hSw); go_simp; try (with_reducible rfl))
        (try simp only [Act.put, qa_, qb_, qc_])
        refine wpAnyH_take (i := 2) (oi := ⟨some 86, _, _, _, _, _⟩) (v := ?v171) rfl (by kernel_rfl) (by kernel_rfl) (by kernel_rfl) (fun _ _ _ h => h) (Or.inl ⟨by rfl, ?hy171⟩) (by assumption) ?_
        case hy171 => (intro w hSw; (try dsimp only at hSw); go_simp; try (with_reducible rfl))
        (try simp only [Act.put, qa_, qb_, qc_])
        refine wpAnyH_take (i := 3) (oi := ⟨some 87, _, _, _, _, _⟩) (v := ?v172) rfl (by kernel_rfl) (by kernel_rfl) (by kernel_rfl) (fun _ _ _ h => h) (Or.inl ⟨by rfl, ?hy172⟩) (by assumption) ?_
        case hy172 => (intro w hSw; (try dsimp only at hSw); go_simp; try (with_reducible rfl))
        (try simp only [Act.put, qa_, qb_, qc_])
        refine wpAnyH_take (i := 4) (oi := ⟨some 88, _, _, _, _, _⟩) (v := ?v173) rfl (by kernel_rfl) (by kernel_rfl) (by kernel_rfl) (fun _ _ _ h => h) (Or.inl ⟨by rfl, ?hy173⟩) (by assumption) ?_
        case hy173 => (intro w hSw; (try dsimp only at hSw); go_simp; try (with_reducible rfl))
        (try simp only [Act.put, qa_, qb_, qc_])
        refine wpAnyH_take (i := 5) (oi := ⟨some 89, _, _, _, _, _⟩) (v := ?v174) rfl (by kernel_rfl) (by kernel_rfl) (by kernel_rfl) (fun _ _ _ h => h) (Or.inl ⟨by rfl, ?hy174⟩) (by assumption) ?_
        case hy174 => (intro w hSw; (try dsimp only at hSw); go_simp; try (with_reducible rfl))
        (try simp only [Act.put, qa_, qb_, qc_])
        refine wpAnyH_take (i := 6) (oi := ⟨some 90, _, _, _, _, _⟩) (v := ?v175) rfl (by kernel_rfl) (by kernel_rfl) (by kernel_rfl) (fun _ _ _ h => h) (Or.inl ⟨by rfl, ?hy175⟩) (by assumption) ?_
        case hy175 => (intro w hSw; (try dsimp only at hSw); go_simp; try (with_reducible rfl))
        (try simp only [Act.put, qa_, qb_, qc_])
        refine wpAnyH_take (i := 7) (oi := ⟨some 91, _, _, _, _, _⟩) (v := ?v176) rfl (by kernel_rfl) (by kernel_rfl) (by kernel_rfl) (fun _ _ _ h => h) (Or.inl ⟨by rfl, ?hy176⟩) (by assumption) ?_
        case hy176 => (intro w hSw; (try dsimp only at hSw); go_simp; try (with_reducible rfl))
        (try simp only [Act.put, qa_, qb_, qc_])
        refine wpAnyH_take (i := 8) (oi := ⟨some 92, _, _, _, _, _⟩) (v := ?v177) rfl (by kernel_rfl) (by kernel_rfl) (by kernel_rfl) (fun _ _ _ h => h) (Or.inl ⟨by rfl, ?hy177⟩) (by assumption) ?_
        case hy177 => (intro w hSw; (try dsimp only at hSw); go_simp; try (with_reducible rfl))
        (try simp only [Act.put, qa_, qb_, qc_])
        refine wpAnyH_take (i := 9) (oi := ⟨some 93, _, _, _, _, _⟩) (v := ?v178) rfl (by kernel_rfl) (by kernel_rfl) (by kernel_rfl) (fun _ _ _ h => h) (Or.inl ⟨by rfl, ?hy178⟩) (by assumption) ?_
        case hy178 => (intro w hSw; (try dsimp only at hSw); go_simp; try (with_reducible rfl))
        (try simp only [Act.put, qa_, qb_, qc_])
        refine wpAnyH_take (i := 10) (oi := ⟨some 94, _, _, _, _, _⟩) (v := ?v179) rfl (by kernel_rfl) (by kernel_rfl) (by kernel_rfl) (fun _ _ _ h => h) (Or.inl ⟨by rfl, ?hy179⟩) (by assumption) ?_
        case hy179 => (intro w hSw; (try dsimp only at hSw); go_simp; try (with_reducible rfl))
        (try simp only [Act.put, qa_, qb_, qc_])
        refine wpAnyH_take (i := 11) (oi := ⟨some 95, _, _, _, _, _⟩) (v := ?v180) rfl (by kernel_rfl) (by kernel_rfl) (by kernel_rfl) (fun _ _ _ h => h) (Or.inl ⟨by rfl, ?hy180⟩) (by assumption) ?_
        case hy180 => (intro w hSw; (try dsimp only at hSw); go_simp; try (with_reducible rfl))
        (try simp only [Act.put, qa_, qb_, qc_])
        refine wpAnyH_take (i := 12) (oi := ⟨some 96, _, _, _, _, _⟩) (v := ?v181) rfl (by kernel_rfl) (by kernel_rfl) (by kernel_rfl) (fun _ _ _ h => h) (Or.inl ⟨by rfl, ?hy181⟩) (by assumption) ?_
        case hy181 => (intro w hSw; (try dsimp only at hSw); go_simp; try (with_reducible rfl))
        (try simp only [Act.put, qa_, qb_, qc_])
        refine wpAnyH_take (i := 13) (oi := ⟨some 97, _, _, _, _, _⟩) (v := ?v182) rfl (by kernel_rfl) (by kernel_rfl) (by kernel_rfl) (fun _ _ _ h => h) (Or.inl ⟨by rfl, ?hy182⟩) (by assumption) ?_
        case hy182 => (intro w hSw; (try dsimp only at hSw); go_simp; try (with_reducible rfl))
        (try simp only [Act.put, qa_, qb_, qc_])
        refine wpAnyH_take (i := 14) (oi := ⟨some 98, _, _, _, _, _⟩) (v := ?v183) rfl (by kernel_rfl) (by kernel_rfl) (by kernel_rfl) (fun _ _ _ h => h) (Or.inl ⟨by rfl, ?hy183⟩) (by assumption) ?_
        case hy183 => (intro w hSw; (try dsimp only at hSw); go_simp; try (with_reducible rfl))
        (try simp only [Act.put, qa_, qb_, qc_])
        refine wpAnyH_take (i := 15) (oi := ⟨some 99, _, _, _, _, _⟩) (v := ?v184) rfl (by kernel_rfl) (by kernel_rfl) (by kernel_rfl) (fun _ _ _ h => h) (Or.inl ⟨by rfl, ?hy184⟩) (by assumption) ?_
        case hy184 => (intro w hSw; (try dsimp only at hSw); go_simp; try (with_reducible rfl))
        (try simp only [Act.put, qa_, qb_, qc_])
        refine wpAnyH_take (i := 16) (oi := ⟨some 100, _, _, _, _, _⟩) (v := ?v185) rfl (by kernel_rfl) (by kernel_rfl) (by kernel_rfl) (fun _ _ _ h => h) (Or.inl ⟨by rfl, ?hy185⟩) (by assumption) ?_
        case hy185 => (intro w hSw; (try dsimp only at hSw); go_simp; try (with_reducible rfl))
        (try simp only [Act.put, qa_, qb_, qc_])
        refine wpAnyH_take (i := 17) (oi := ⟨some 101, _, _, _, _, _⟩) (v := ?v186) rfl (by kernel_rfl) (by kernel_rfl) (by kernel_rfl) (fun _ _ _ h => h) (Or.inl ⟨by rfl, ?hy186⟩) (by assumption) ?_
        case hy186 => (intro w hSw; (try dsimp only at hSw); go_simp; try (with_reducible rfl))
        (try simp only [Act.put, qa_, qb_, qc_])
        refine wpAnyH_take (i := 18) (oi := ⟨some 102, _, _, _, _, _⟩) (v := ?v187) rfl (by kernel_rfl) (by kernel_rfl) (by kernel_rfl) (fun _ _ _ h => h) (Or.inl ⟨by rfl, ?hy187⟩) (by assumption) ?_
        case hy187 => (intro w hSw; (try dsimp only at hSw); go_simp; try (with_reducible rfl))
        (try simp only [Act.put, qa_, qb_, qc_])
        refine wpAnyH_take (i := 19) (oi := ⟨some 103, _, _, _, _, _⟩) (v := ?v188) rfl (by kernel_rfl) (by kernel_rfl) (by kernel_rfl) (fun _ _ _ h => h) (Or.inl ⟨by rfl, ?hy188⟩) (by assumption) ?_
        case hy188 => (intro w hSw; (try dsimp only at hSw); go_simp; try (with_reducible rfl))
        (try simp only [Act.put, qa_, qb_, qc_])
        refine wpAnyH_take (i := 20) (oi := ⟨some 104, _, _, _, _, _⟩) (v := ?v189) rfl (by kernel_rfl) (by kernel_rfl) (by kernel_rfl) (fun _ _ _ h => h) (Or.inl ⟨by rfl, ?hy189⟩) (by assumption) ?_
        case hy189 => (intro w hSw; (try dsimp only at hSw); go_simp; try (with_reducible rfl))
        (try simp only [Act.put, qa_, qb_, qc_])
        refine wpAnyH_take (i := 21) (oi := ⟨some 105, _, _, _, _, _⟩) (v := ?v190) rfl (by kernel_rfl) (by kernel_rfl) (by kernel_rfl) (fun _ _ _ h => h) (Or.inl ⟨by rfl, ?hy190⟩) (by assumption) ?_
        case hy190 => (intro w hSw; (try dsimp only at hSw); go_simp; try (with_reducible rfl))
        (try simp only [Act.put, qa_, qb_, qc_])
        refine wpAnyH_take (i := 22) (oi := ⟨some 106, _, _, _, _, _⟩) (v := ?v191) rfl (by kernel_rfl) (by kernel_rfl) (by kernel_rfl) (fun _ _ _ h => h) (Or.inl ⟨by rfl, ?hy191⟩) (by assumption) ?_
        case hy191 => (intro w hSw; (try dsimp only at hSw); go_simp; try (with_reducible rfl))
        (try simp only [Act.put, qa_, qb_, qc_])
        refine wpAnyH_take (i := 23) (oi := ⟨some 107, _, _, _, _, _⟩) (v := ?v192) rfl (by kernel_rfl) (by kernel_rfl) (by kernel_rfl) (fun _ _ _ h => h) (Or.inl ⟨by rfl, ?hy192⟩) (by assumption) ?_
        case hy192 => (intro w hSw; (try dsimp only at hSw); go_simp; try (with_reducible rfl))
        (try simp only [Act.put, qa_, qb_, qc_])
        refine wpAnyH_take (i := 24) (oi := ⟨some 108, _, _, _, _, _⟩) (v := ?v193) rfl (by kernel_rfl) (by kernel_rfl) (by kernel_rfl) (fun _ _ _ h => h) (Or.inl ⟨by rfl, ?hy193⟩) (by assumption) ?_
        case hy193 => (intro w hSw; (try dsimp only at hSw); go_simp; try (with_reducible rfl))
        (try simp only [Act.put, qa_, qb_, qc_])
        refine wpAnyH_take (i := 25) (oi := ⟨some 109, _, _, _, _, _⟩) (v := ?v194) rfl (by kernel_rfl) (by kernel_rfl) (by kernel_rfl) (fun _ _ _ h => h) (Or.inl ⟨by rfl, ?hy194⟩) (by assumption) ?_
        case hy194 => (intro w hSw; (try dsimp only at hSw); go_simp; try (with_reducible rfl))
        (try simp only [Act.put, qa_, qb_, qc_])
        refine wpAnyH_take (i := 26) (oi := ⟨some 110, _, _, _, _, _⟩) (v := ?v195) rfl (by kernel_rfl) (by kernel_rfl) (by kernel_rfl) (fun _ _ _ h => h) (Or.inl ⟨by rfl, ?hy195⟩) (by assumption) ?_
        case hy195 => (intro w hSw; (try dsimp only at hSw); go_simp; try (with_reducible rfl))
        (try simp only [Act.put, qa_, qb_, qc_])
        refine wpAnyH_take (i := 27) (oi := ⟨some 111, _, _, _, _, _⟩) (v := ?v196) rfl (by kernel_rfl) (by kernel_rfl) (by kernel_rfl) (fun _ _ _ h => h) (Or.inl ⟨by rfl, ?hy196⟩) (by assumption) ?_
        case hy196 => (intro w hSw; (try dsimp only at hSw); go_simp; try (with_reducible rfl))
        (try simp only [Act.put, qa_, qb_, qc_])
        refine wpAnyH_take (i := 28) (oi := ⟨some 112, _, _, _, _, _⟩) (v := ?v197) rfl (by kernel_rfl) (by kernel_rfl) (by kernel_rfl) (fun _ _ _ h => h) (Or.inl ⟨by rfl, ?hy197⟩) (by assumption) ?_
        case hy197 => (intro w hSw; (try dsimp only at hSw); go_simp; try (with_reducible rfl))
        (try simp only [Act.put, qa_, qb_, qc_])
        refine wpAnyH_take (i := 29) (oi := ⟨some 113, _, _, _, _, _⟩) (v := ?v198) rfl (by kernel_rfl) (by kernel_rfl) (by kernel_rfl) (fun _ _ _ h => h) (Or.inl ⟨by rfl, ?hy198⟩) (by assumption) ?_
        case hy198 => (intro w hSw; (try dsimp only at hSw); go_simp; try (with_reducible rfl))
        (try simp only [Act.put, qa_, qb_, qc_])
        refine wpAnyH_take (i := 30) (oi := ⟨some 114, _, _, _, _, _⟩) (v := ?v199) rfl (by kernel_rfl) (by kernel_rfl) (by kernel_rfl) (fun _ _ _ h => h) (Or.inl ⟨by rfl, ?hy199⟩) (by assumption) ?_
        case hy199 => (intro w hSw; (try dsimp only at hSw); go_simp; try (with_reducible rfl))
        (try simp only [Act.put, qa_, qb_, qc_])
        refine wpAnyH_take (i := 31) (oi := ⟨some 115, _, _, _, _, _⟩) (v := ?v200) rfl (by kernel_rfl) (by kernel_rfl) (by kernel_rfl) (fun _ _ _ h => h) (Or.inl ⟨by rfl, ?hy200⟩) (by assumption) ?_
        case hy200 => (intro w hSw; (try dsimp only at hSw); go_simp; try (with_reducible rfl))
        (try simp only [Act.put, qa_, qb_, qc_])
        refine wpAnyH_take (i := 32) (oi := ⟨some 116, _, _, _, _, _⟩) (v := ?v201) rfl (by kernel_rfl) (by kernel_rfl) (by kernel_rfl) (fun _ _ _ h => h) (Or.inl ⟨by rfl, ?hy201⟩) (by assumption) ?_
        case hy201 => (intro w hSw; (try dsimp only at hSw); go_simp; try (with_reducible rfl))
        (try simp only [Act.put, qa_, qb_, qc_])
        refine wpAnyH_take (i := 33) (oi := ⟨some 117, _, _, _, _, _⟩) (v := ?v202) rfl (by kernel_rfl) (by kernel_rfl) (by kernel_rfl) (fun _ _ _ h => h) (Or.inl ⟨by rfl, ?hy202⟩) (by assumption) ?_
        case hy202 => (intro w hSw; (try dsimp only at hSw); go_simp; try (with_reducible rfl))
        (try simp only [Act.put, qa_, qb_, qc_])
        refine wpAnyH_take (i := 34) (oi := ⟨some 118, _, _, _, _, _⟩) (v := ?v203) rfl (by kernel_rfl) (by kernel_rfl) (by kernel_rfl) (fun _ _ _ h => h) (Or.inl ⟨by rfl, ?hy203⟩) (by assumption) ?_
        case hy203 => (intro w hSw; (try dsimp only at hSw); go_simp; try (with_reducible rfl))
        (try simp only [Act.put, qa_, qb_, qc_])
        refine wpAnyH_take (i := 35) (oi := ⟨some 119, _, _, _, _, _⟩) (v := ?v204) rfl (by kernel_rfl) (by kernel_rfl) (by kernel_rfl) (fun _ _ _ h => h) (Or.inl ⟨by rfl, ?hy204⟩) (by assumption) ?_
        case hy204 => (intro w hSw; (try dsimp only at hSw); go_simp; try (with_reducible rfl))
        (try simp only [Act.put, qa_, qb_, qc_])
        refine wpAnyH_take (i := 36) (oi := ⟨some 120, _, _, _, _, _⟩) (v := ?v205) rfl (by kernel_rfl) (by kernel_rfl) (by kernel_rfl) (fun _ _ _ h => h) (Or.inl ⟨by rfl, ?hy205⟩) (by assumption) ?_
        case hy205 => (intro w hSw; (try dsimp only at hSw); go_simp; try (with_reducible rfl))
        (try simp only [Act.put, qa_, qb_, qc_])
        refine wpAnyH_ready (rs := [37]) (by kernel_rfl) (by simp) ?_
        refine AllReadyH.cons rfl (fun K hK => ?_) ?_
        · go_simp
          go_at_call 13
          refine (l_same (slR_ints (tBy.reach rA (belx))).1 (slR_ints (tBy.reach rB (belx))).1).mono ?_
          rintro e wz ⟨rfl, rfl⟩
          rw [show decide (hc.2.2 = hc.2.2) = true from by simp]
          go_wp2_with fail
          refine hK.out _ _ (by exact hk _ (belx)) (fun hHeld => ?_)
          clear hK K
          (try simp only [Act.put, qa_, qb_, qc_])
          refine wpAnyH_take (i := 38) (oi := ⟨some 122, _, _, _, _, _⟩) (v := ?v206) rfl (by kernel_rfl) (by kernel_rfl) (by kernel_rfl) (fun _ _ _ h => h) (Or.inl ⟨by rfl, ?hy206⟩) (by assumption) ?_
          case hy206 => (intro w hSw; (try dsimp only at hSw); go_simp; try (with_reducible rfl))
          (try simp only [Act.put, qa_, qb_, qc_])
          refine wpAnyH_take (i := 39) (oi := ⟨some 123, _, _, _, _, _⟩) (v := ?v207) rfl (by kernel_rfl) (by kernel_rfl) (by kernel_rfl) (fun _ _ _ h => h) (Or.inl ⟨by rfl, ?hy207⟩) (by assumption) ?_
          case hy207 => (intro w hSw; (try dsimp only at hSw); go_simp; try (with_reducible rfl))
          (try simp only [Act.put, qa_, qb_, qc_])
          refine wpAnyH_done (by kernel_rfl) ?_ _
          go_wp2
          go_roundw
          case rel => exact ⟨j + 1, by go_num, by omega, bel_trans hbr (belx)⟩
          case measure => simp [intOf]; omega
        exact AllReadyH.nil
      · obtain rfl : j = 2 := by omega
        have hB8 := bel_trans hB7 hbr
        go_wp2_with fail
        refine (l_pools _).mono ?_
        rintro e w9 ⟨rfl, hb9⟩
        go_wp2_with fail
        go_ret
        exact ⟨rfl, bel_trans hB8 hb9⟩

/-! ### THE ROW's STEP: WRITTEN OUT: LEAVE IT -/
set_option maxRecDepth 100000 in
theorem lifted (os : Os) (started : os.Started) (H : Type) (enc : TypeId × Value → H) :
    ReturnsInHanded {} Try.checked os 6 .any (Rows.fnHiddenSpec.pre6 enc Try.prog Try.f6 Rows.fnHiddenRow.domain false) (Rows.fnHiddenSpec.post enc Try.prog Try.f6 false true false false) := by
  refine returnsInHanded_of_change_sized (C := Try.checked) own started (by kernel_rfl) Try.func6
    (ChangeSpec.witness6 (enc := enc) (C := Try.checked) false ⟨#[], #[.slice none 0 0], []⟩ 8 (by kernel_rfl) (by kernel_rfl) (by kernel_rfl) (by kernel_rfl)) ?_
  intro W base args ds gs before hval0 hW hcnd hsz0 _
  have hval : ∀ (j : Nat) t v, Try.f6.params[j]? = some t → args[j]? = some v → Value.okWide Try.prog W .any base t v := hval0
  have hW' := hW
  obtain ⟨p, q, hA0, hV, rfl, hfz, hnd⟩ := hW
  have hA : DataW.TrodAll enc Try.prog W 0 (fun _ => true) true Try.f6.params.toList args.toList ds p := hA0
  have hsz : (DataW.weightsEach Try.prog (Try.f6.params.toList ++ Rows.fnHiddenSpec.plain.varTypes Try.prog) (ds ++ gs)).all (· ≤ reachBytes) = true := hsz0
  rw [Try.params6] at hA hval hsz
  obtain ⟨v0, vs0, d0, ds0, p0, q0, hargs, rfl, rfl, h0, r0⟩ := trodAll_cons hA
  obtain ⟨rfl, rfl, rfl⟩ := trodAll_nil r0
  obtain rfl : args = #[v0] := by cases args; simp_all
  obtain ⟨rfl, rfl⟩ := trodVars_none hV
  obtain ⟨a0, len0, cap0, rfl⟩ := okWide_slice Try.underlying22 (hval 0 22 v0 rfl rfl)
  have k0 := h0
  have lt0 : ∀ x ∈ p0, x.block < W.heap.size := by obtain ⟨m, hm⟩ := k0; exact DataW.trod_lt m _ _ _ hm
  obtain ⟨z0, w0, r0⟩ : ∃ zs, IsRow .u8 W a0 len0 cap0 zs ∧ cap0 ≤ 140737488351232 := by
    obtain ⟨fuel, hf⟩ := h0
    rcases open_ints Try.underlying22 Try.underlying5 (by kernel_rfl) hf with ⟨hcs, _⟩ | ⟨x, l, c, zs, hcs, _, hl, hm, hz, hxx, hcell, hwz⟩
    · simp [Value.cells] at hcs
      obtain ⟨rfl, rfl, rfl⟩ := hcs
      exact ⟨[], .inl ⟨rfl, rfl, rfl, rfl⟩, by omega⟩
    · simp [Value.cells] at hcs
      obtain ⟨rfl, rfl, rfl⟩ := hcs
      have hz' : zs.length = cap0 := by simpa using hz
      refine ⟨zs, .inr ⟨_, rfl, hl, hm, hz', hcell, hwz⟩, ?_⟩
      simp only [Prod.mk.injEq] at hxx
      rw [hxx.1] at hsz
      have h := sized_slice hsz (j := 0) (t := 22) (e := 5) rfl rfl Try.underlying22
      rw [bytes5] at h
      simp only [lits, List.length_map, List.length_take, List.length_drop, reachBytes] at h
      omega
  clear hA0 hval0
  refine (walk a0 len0 cap0 z0 W w0 r0).mono fun e W' ⟨he, bel⟩ => ?_
  subst he
  exact ⟨_, rfl, _, _, _, [], _, [], hW', trodAll_mk1 (shut_bool Try.underlying4 _), (trodAll_cons_mk (Below.trod laidOut (by kernel_rfl) (of_decide_eq_true (by kernel_rfl)) k0 bel lt0) trodAll_mk0), rfl, bel.frame _, fun h => by cases h⟩

theorem over : Rows.fnHiddenRow.holds Try.pinned (OpenSpec.ofChange Rows.fnHiddenSpec) :=
  OpenClaim.holds_of_wide 6 Try.f6 rfl rfl rfl rfl rfl rfl rfl ⟨rfl, rfl, rfl, rfl, rfl⟩ rfl rfl rfl rfl rfl (by kernel_rfl) Try.func6 (by kernel_rfl)
    (of_decide_eq_true (by kernel_rfl)) (by unfold Func.isWrapper; first | (rw [if_pos (by decide +kernel)]; kernel_rfl) | (rw [if_neg (by decide +kernel)]; exact ⟨rfl, rfl⟩))
    (fun os started H enc _ => lifted os started H enc)

/-- ████ THE STATEMENT ████ -/
theorem proved : Rows.FnHiddenSaid := over
#print axioms proved
end Go.Proofs.Ytblcfncjghkegaa.fnHidden
