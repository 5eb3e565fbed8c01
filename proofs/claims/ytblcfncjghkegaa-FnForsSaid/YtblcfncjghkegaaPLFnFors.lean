/-
  For every draw: what waits for each node is counted, and the earliest is told. No further condition.
-/
import Derived.Test.YtblcfncjghkegaaPGm
import Derived.Test.YtblcfncjghkegaaPGq
import Derived.Test.YtblcfncjghkegaaRows
import Derived.Below
import Derived.ChangeOld
import Derived.OpenShut
import Derived.ProofKit
import Derived.ShutString
import Derived.SizedLaws
import Derived.WalkKit
namespace Go.Proofs.Ytblcfncjghkegaa.fnFors
open Go.ChangeShapes Go.WideShapes Go.ChangeAt Go.RowKit
open Go.ChangeMaps (open_string shut_string)
set_option linter.unusedVariables false

theorem bytes5 : Try.prog.bytesOf 5 = 1 := by kernel_rfl
open Go.Proofs.Ytblcfncjghkegaa Fld
theorem own : ownKnob Try.prog.godebug = none := by kernel_rfl
theorem laidOut : laidOutB Try.prog = true := by kernel_rfl

/-- WHAT THE WALK IS TOLD OF A SLICE OF INTEGERS THAT CAME IN: it is nil; or it leads to a row of 'cap' cells, the numbers 'zs' (the first 'len' are its elements, the rest its spare room), each fitting its kind. -/
def IsRow (k : IntKind) (w : World) (a : Option Addr) (len cap : Nat) (zs : List Int) : Prop :=
  (a = none ∧ len = 0 ∧ cap = 0 ∧ zs = []) ∨
  ∃ x, a = some x ∧ len ≤ cap ∧ cap ≤ maxLen ∧ zs.length = cap ∧ (∀ i, i < zs.length → w.cell? (x.add i) = some (.int k (zs.getD i 0))) ∧ ∀ n ∈ zs, (Lit.int k n).wf = true

theorem rowInts {w : World} {a : Option Addr} {n c : Nat} {zs : List Int} (h : IsRow .u8 w a n c zs) : Ints .u8 w w.heap.size a n (zs.take n) ∧ n ≤ c := by
  rcases h with ⟨rfl, rfl, rfl, rfl⟩ | ⟨x, rfl, hl, _, hz, hc, hw⟩
  · exact ⟨Ints.nil, Nat.le_refl _⟩
  · exact ⟨Ints.ofRow (by omega) hc hw, hl⟩
theorem poolShape {w : World} {B : Nat} {v0 v1 : Value} {p : DPool} (h : tPool.R w B [v0, v1] p) : ∃ A0 c0 A1 c1, v0 = .slice A0 p.1.length c0 ∧ v1 = .slice A1 p.2.length c1 := by
  obtain ⟨A0, n0, c0, A1, n1, c1, e, -, -, h0, -, -, -, h1, -⟩ := openPool h
  simp only [List.cons.injEq, and_true] at e
  exact ⟨A0, c0, A1, c1, by rw [e.1, h0], by rw [e.2, h1]⟩
theorem cellsShape {w : World} {B : Nat} {cs : List Value} {p : DPool} (h : tPool.R w B cs p) : ∃ A0 c0 A1 c1, cs = [.slice A0 p.1.length c0, .slice A1 p.2.length c1] := by
  obtain ⟨A0, n0, c0, A1, n1, c1, rfl, -, -, h0, -, -, -, h1, -⟩ := openPool h
  exact ⟨A0, c0, A1, c1, by rw [h0, h1]⟩
theorem filt_cons_len (x : Int) (a : DHeld) (l : List DHeld) : (filt x (a :: l)).length = (filt x l).length + (if a.1 = x then 1 else 0) := by
  unfold filt
  by_cases h : a.1 = x
  · rw [List.filter_cons_of_pos (by simpa using h), if_pos h]; rfl
  · rw [List.filter_cons_of_neg (by simpa using h), if_neg h]; rfl
/-- How many go to the nodes below i. -/
def fsum (l : List DHeld) : Nat → Nat
  | 0 => 0
  | i + 1 => fsum l i + (filt (i : Int) l).length
theorem fsum_le (l : List DHeld) (i : Nat) : fsum l i ≤ i * l.length := by
  induction i with
  | zero => simp [fsum]
  | succ i ih => have := filt_len (i : Int) l; rw [fsum, Nat.succ_mul]; omega
theorem fsum8 (l : List DHeld) : fsum l 8 = 0 + (filt 0 l).length + (filt 1 l).length + (filt 2 l).length + (filt 3 l).length + (filt 4 l).length + (filt 5 l).length + (filt 6 l).length + (filt 7 l).length := rfl
theorem fsum_all {l : List DHeld} (h : ∀ a ∈ l, 0 ≤ a.1 ∧ a.1 < 8) : fsum l 8 = l.length := by
  induction l with
  | nil => rfl
  | cons a l ih =>
    have h1 := ih fun x hx => h x (List.mem_cons_of_mem _ hx)
    have h2 := h a List.mem_cons_self
    rw [fsum8] at h1
    simp only [fsum8, filt_cons_len, List.length_cons]
    have h3 : a.1 = 0 ∨ a.1 = 1 ∨ a.1 = 2 ∨ a.1 = 3 ∨ a.1 = 4 ∨ a.1 = 5 ∨ a.1 = 6 ∨ a.1 = 7 := by omega
    rcases h3 with e | e | e | e | e | e | e | e <;> simp [e] <;> omega
theorem cnts_app (l : List DHeld) (a : DHeld) : cnts (l ++ [a]) = (cnts l).set a.1.toNat ((cnts l).getD a.1.toNat 0 + 1) := by
  unfold cnts; rw [List.foldl_append]; rfl
theorem cnts_filt {l : List DHeld} (h : ∀ a ∈ l, 0 ≤ a.1 ∧ a.1 < 8) {i : Nat} (hi : i < 8) : (cnts l).getD i 0 = ((filt (i : Int) l).length : Int) := by
  have key : ∀ n : Nat, n ≤ l.length → (cnts (l.take n)).getD i 0 = ((filt (i : Int) (l.take n)).length : Int) := by
    intro n
    induction n with
    | zero =>
      intro _
      rw [List.take_zero]
      have h3 : i = 0 ∨ i = 1 ∨ i = 2 ∨ i = 3 ∨ i = 4 ∨ i = 5 ∨ i = 6 ∨ i = 7 := by omega
      rcases h3 with e | e | e | e | e | e | e | e <;> subst e <;> rfl
    | succ n ih =>
      intro hn
      have h1 := ih (by omega)
      have hg : l[n]? = some l[n] := List.getElem?_eq_getElem (by omega)
      obtain ⟨q1, q2⟩ := h l[n] (List.getElem_mem _)
      rw [cnts_sn hg]
      have hL := cnts_len (l.take n)
      by_cases he : l[n].1 = (i : Int)
      · rw [filt_t hg he, List.length_append, List.getD_eq_getElem?_getD, List.getElem?_set, if_pos (by omega), if_pos (by omega)]
        rw [show l[n].1.toNat = i from by omega]
        simp only [Option.getD_some, List.length_singleton, h1]
        omega
      · rw [filt_f hg he, List.getD_eq_getElem?_getD, List.getElem?_set, if_neg (by omega), ← List.getD_eq_getElem?_getD, h1]
  have := key l.length (Nat.le_refl _)
  rwa [List.take_length] at this
theorem earL_le {l : List Int} (h : ∀ d ∈ l, 0 ≤ d ∧ d ≤ 65535) : ∀ d ∈ l, earL l ≤ d := by
  have key : ∀ (l : List Int) (n : Int), (∀ d ∈ l, 0 ≤ d ∧ d ≤ 65535) → (0 ≤ n → l.foldl upd n ≤ n) ∧ ∀ d ∈ l, l.foldl upd n ≤ d := by
    intro l
    induction l with
    | nil => intro n _; exact ⟨fun _ => Int.le_refl _, fun d hd => absurd hd (by simp)⟩
    | cons a l ih =>
      intro n hl
      have ha := hl a (by simp)
      obtain ⟨i1, i2⟩ := ih (upd n a) (fun d hd => hl d (by simp [hd]))
      have hu : 0 ≤ upd n a → upd n a ≤ a ∧ (0 ≤ n → upd n a ≤ n) := by intro _; unfold upd; split <;> omega
      have hu0 : 0 ≤ upd n a := by unfold upd; split <;> omega
      have hu2 := hu hu0
      have hi1 := i1 hu0
      refine ⟨fun hn => ?_, fun d hd => ?_⟩
      · have := hu2.2 hn; rw [List.foldl_cons]; omega
      · rw [List.foldl_cons]
        rcases List.mem_cons.mp hd with e | e
        · subst e; omega
        · exact i2 d e
  exact (key l (-1) h).2

/-! ### STEP 1: THE WALK: the Go text returns true, AND WRITES NOTHING THAT WAS THERE: 'Below w.heap.size w w'' (Derived/Below.lean: '.refl', '.alloc', '.drew', '.setCell' at a new block, '.trans'). Open each 'IsRow' by 'rcases' AHEAD of 'go_enter'; part every test ahead of the walk. -/
set_option maxRecDepth 100000 in
set_option maxHeartbeats 2000000 in
theorem walk (a0 : Option Addr) (len0 cap0 : Nat) (z0 : List Int) (w : World) (w0 : IsRow .u8 w a0 len0 cap0 z0) (r0 : cap0 ≤ 140737488351232) :
    Calls Try.prog 8 #[.slice a0 len0 cap0] w fun e w' => e = .returned (.bool true) ∧ Below w.heap.size w w' := by
  obtain ⟨hl, hn⟩ := rowInts w0
  go_enter Try.func8, Try.ntmps8
  go_wp2_with fail
  refine (d_For hl (by omega)).mono ?_
  rintro e w1 ⟨v0, v1, p, x, rfl, hP, hS, hxr, hB1⟩
  obtain ⟨A0, a0, A1, a1, rfl, rfl⟩ := poolShape hP
  obtain ⟨n0, hn0⟩ : ∃ m, p.1.length = m := ⟨_, rfl⟩
  obtain ⟨n1, hn1⟩ : ∃ m, p.2.length = m := ⟨_, rfl⟩
  have N0 := Lib.hid hn0
  have N1 := Lib.hid hn1
  rw [hn0, hn1] at hP ⊢
  clear hn0 hn1
  have hz := hS.sz
  have m0 : p.1.length ≤ 13 := hS.1
  rw [N0.out] at m0
  have V1 : Box (w1.alloc (.cells #[.slice A0 n0 a0, .slice A1 n1 a1] 26)) w1.heap.size 26 #[.slice A0 n0 a0, .slice A1 n1 a1] := Box.new _ _ _
  have hx1 : Below w1.heap.size w1 (w1.alloc (.cells #[.slice A0 n0 a0, .slice A1 n1 a1] 26)) := bel_alloc (Below.refl _ _) _
  have hP := tPool.reach hP hx1
  have hB2 := bel_trans hB1 hx1
  have k0 := V1.cell 0
  have k1 := V1.cell 1
  go_wp2_with fail
  refine (i_Nexts hP hz).mono ?_
  rintro e w2 ⟨AN, cN, F2, rfl, hO2, -, hb2⟩
  have hN := (slR_ints (tIs.read hO2)).1
  obtain ⟨nn, hnn⟩ : ∃ m, (fNexts p).length = m := ⟨_, rfl⟩
  rw [hnn] at hN ⊢
  have NN := Lib.hid hnn
  clear hnn hO2
  have hP := tPool.reach hP hb2
  have V1 := V1.below hb2 V1.size
  have hB3 := bel_trans hB2 hb2
  have k0 := V1.cell 0
  have k1 := V1.cell 1
  go_wp2_with fail
  refine (i_Earliest hP hz).mono ?_
  rintro e w3 ⟨rfl, hb3⟩
  obtain ⟨er, her⟩ : ∃ er, fEar p = er := ⟨_, rfl⟩
  rw [her]
  have ER := Lib.hid her
  clear her
  have hN := reach hN hb3
  have hP := tPool.reach hP hb3
  have V1 := V1.below hb3 V1.size
  have hB4 := bel_trans hB3 hb3
  have k0 := V1.cell 0
  have k1 := V1.cell 1
  go_wp2_with fail
  refine (s_PoolOk hP hz).mono ?_
  rintro e w4 ⟨rfl, hb4⟩
  have hN := reach hN hb4
  have hP := tPool.reach hP hb4
  have V1 := V1.below hb4 V1.size
  have hB5 := bel_trans hB4 hb4
  clear hb4 hb3 hb2 hx1
  by_cases hp : PlOk p
  rotate_left
  · obtain rfl : nn = 0 := by rw [← NN.out, fNexts_f hp]; rfl
    obtain rfl : er = -1 := by rw [← ER.out]; exact fEar_f hp
    have HF := Lib.hid (fFor_f (x := 0) hp)
    rw [decide_eq_false hp]
    have k0 := V1.cell 0
    have k1 := V1.cell 1
    clear hp
    go_wp2_with fail
    refine (i_For hP hz (x := 0) (by rfl)).mono ?_
    rintro e w5 ⟨AF, cF, F5, rfl, -, -, hb5⟩
    rw [HF.out, show ([] : List DHeld).length = 0 from rfl]
    go_wp2_with fail
    refine (l_pools _).mono ?_
    rintro e w9 ⟨rfl, hb9⟩
    go_wp2_with fail
    go_ret
    exact ⟨rfl, bel_trans (bel_trans hB5 hb5) hb9⟩
  · have h8 : ∀ a ∈ p.1, 0 ≤ a.1 ∧ a.1 < 8 := fun a ha => by have := hp.2.1 a ha; unfold HdOk HdN at this; omega
    have hdu : ∀ d ∈ dues p.1, 0 ≤ d ∧ d ≤ 65535 := dues_ok hp.2.1
    obtain rfl : nn = 8 := by rw [← NN.out, fNexts_t hp]; exact cnts_len _
    have hearl : er = earL (dues p.1) := by rw [← ER.out]; exact fEar_t hp
    have hel : ∀ a ∈ p.1, er ≤ a.2.1 := fun a ha => by rw [hearl]; exact earL_le hdu _ (List.mem_map.mpr ⟨a, ha, rfl⟩)
    have he1 : n0 = 0 → er = -1 := fun h => by rw [hearl, List.eq_nil_of_length_eq_zero (show p.1.length = 0 from by rw [N0.out]; exact h)]; rfl
    have he2 : 0 < n0 → 0 ≤ er := fun h => by rw [hearl]; exact (earL_rg hdu).2 (by unfold dues; rw [List.length_map, N0.out]; exact h)
    have HE1 := Lib.hid he1
    have HE2 := Lib.hid he2
    have HEL := Lib.hid hel
    have H8 := Lib.hid h8
    have HFR := Lib.hid (fun i : Int => fFor_t (x := i) hp)
    rw [fNexts_t hp] at hN
    obtain ⟨bN, oN, rfl, hbN, hcN⟩ := hN.2.1 (by omega)
    have HCN := Lib.hid hcN
    rw [decide_eq_true hp]
    clear hp h8 hdu hearl hel he1 he2 hcN hN
    go_wp2_with fail
    go_loopw [7, 8] (fun sv i wr => ∃ j : Nat, sv = .int .i64 (fsum p.1 j : Nat) ∧ i = .int .i64 j ∧ j ≤ 8 ∧ Below w4.heap.size w4 wr) (fun _ i _ => 8 - (intOf i).toNat)
    case atStart => exact ⟨0, rfl, rfl, by omega, Below.refl _ _⟩
    case round =>
      obtain ⟨j, rfl, rfl, hj, hbr⟩ := hrel
      have Vr := V1.below hbr V1.size
      have hPr := tPool.reach hP hbr
      have hsl := fsum_le p.1 j
      rw [N0.out] at hsl
      by_cases hlt : j < 8
      · have hdj : decide ((j : Int) < 8) = true := decide_eq_true (by omega)
        have hwj : IntKind.i64.wrap ((j : Int) + 1) = ((j + 1 : Nat) : Int) := IntWalk.i64_in _ (by omega)
        have r0 := Vr.cell 0
        have r1 := Vr.cell 1
        obtain ⟨sj, hsj⟩ : ∃ m, fsum p.1 j = m := ⟨_, rfl⟩
        have SJ := Lib.hid hsj
        rw [hsj] at hsl ⊢
        have hsl : sj ≤ 104 := by have : j * n0 ≤ 8 * 13 := Nat.mul_le_mul (by omega) m0; omega
        clear hsj
        go_wp2_with fail
        refine (i_For hPr hz (x := (j : Int)) (WalkArith.wf_i64 ⟨by omega, by omega⟩)).mono ?_
        rintro e w5 ⟨AF, cF, F5, rfl, hO5, -, hb5⟩
        rw [HFR.out] at hO5 ⊢
        have hRow := tHeld.row.read hO5
        obtain ⟨m, hm⟩ : ∃ m, (filt (j : Int) p.1).length = m := ⟨_, rfl⟩
        have HM := Lib.hid hm
        rw [hm] at hRow ⊢
        have hm13 : m ≤ 13 := by have := filt_len (j : Int) p.1; rw [N0.out, hm] at this; omega
        have hc9 : w5.cell? ⟨bN, oN + j, none⟩ = some (.int .i64 (m : Int)) := by
          have h := cell_at (bel_trans hbr hb5) hbN (HCN.out j hlt)
          rw [h, cnts_filt H8.out hlt, hm]
        have hws : IntKind.i64.wrap ((sj : Int) + (m : Int)) = ((fsum p.1 (j + 1) : Nat) : Int) := by
          rw [fsum, SJ.out, hm]
          exact IntWalk.i64_in _ (by omega)
        obtain ⟨s2, hs2⟩ : ∃ s2, fsum p.1 (j + 1) = s2 := ⟨_, rfl⟩
        have HS2 := Lib.hid hs2
        rw [hs2] at hws
        have hb6 := bel_trans hbr hb5
        clear hm hO5 hs2 r0 r1
        go_wp2_with fail
        go_loopw [10] (fun k wr2 => ∃ t : Nat, k = .int .i64 t ∧ t ≤ m ∧ w5 = wr2) (fun k _ => m - (intOf k).toNat)
        case atStart => exact ⟨0, rfl, by omega, rfl⟩
        case round =>
          obtain ⟨t, rfl, ht, rfl⟩ := hrel
          by_cases hlm : t < m
          · obtain ⟨a, b', off, es, hl2, rfl, hb, hes, hR⟩ := rowR_at (K := 3) hRow hlm rfl
            obtain ⟨A9, n9, c9, rfl, -⟩ := openHeld hR
            have hmem := List.mem_filter.mp (List.mem_of_getElem? hl2)
            have haj : a.1 = (j : Int) := by simpa using hmem.2
            have i0 : w5.cell? ⟨b', off + t * 3, none⟩ = some (.int .i64 (j : Int)) := by have h := hes 0 (by omega); rw [Nat.add_zero] at h; rw [← haj]; exact h
            have i1 : w5.cell? ⟨b', off + t * 3 + 1, none⟩ = some (.int .i64 a.2.1) := hes 1 (by omega)
            have hde : decide (a.2.1 < er) = false := decide_eq_false (by have := HEL.out a hmem.1; omega)
            have hdt : decide ((t : Int) < (m : Int)) = true := decide_eq_true (by omega)
            have hwt : IntKind.i64.wrap ((t : Int) + 1) = ((t + 1 : Nat) : Int) := IntWalk.i64_in _ (by omega)
            clear hl2 hes hR hmem haj
            go_wp2
            go_roundw
            case rel => exact ⟨t + 1, by go_num, by omega, trivial⟩
            case measure => simp [intOf]; omega
          · obtain rfl : m = t := by omega
            go_wp2
            go_roundw
            case rel => exact ⟨j + 1, by rw [HS2.out], by go_num, by omega, hb6⟩
            case measure => simp [intOf]; omega
      · obtain rfl : j = 8 := by omega
        have hs8 := fsum_all H8.out
        rw [hs8, N0.out] at hsl ⊢
        clear hs8 hsl
        have hB6 := bel_trans hB5 hbr
        have hlr := reach hl hB6
        have r0 := Vr.cell 0
        go_wp2_with fail
        refine (d_Admit hlr (by omega)).mono ?_
        rintro e w6 ⟨v0, v1, q, ch, hd, tg, rfl, hQ, hT, hH, h80, htr, hb6⟩
        obtain ⟨B0, e0, B1, e1, rfl, rfl⟩ := poolShape hQ
        obtain ⟨b0, hb0⟩ : ∃ m, q.1.length = m := ⟨_, rfl⟩
        obtain ⟨b1, hb1⟩ : ∃ m, q.2.length = m := ⟨_, rfl⟩
        have M0 := Lib.hid hb0
        have M1 := Lib.hid hb1
        rw [hb0, hb1] at hQ ⊢
        clear hb0 hb1
        obtain ⟨AH, nH, cH, rfl, -⟩ := openHeld hH
        have hzq := hT.sz
        have hzh : szHeld hd ≤ 1048576 := by show hd.2.2.length ≤ _; omega
        have W1 : Box ((w6.alloc (.cells #[.slice B0 b0 e0, .slice B1 b1 e1] 26)).alloc (.cells #[.int .i64 hd.1, .int .i64 hd.2.1, .slice AH nH cH] 30)) w6.heap.size 26 #[.slice B0 b0 e0, .slice B1 b1 e1] := (Box.new _ _ _).alloc _
        have W2 : Box ((w6.alloc (.cells #[.slice B0 b0 e0, .slice B1 b1 e1] 26)).alloc (.cells #[.int .i64 hd.1, .int .i64 hd.2.1, .slice AH nH cH] 30)) (w6.heap.size + 1) 30 #[.int .i64 hd.1, .int .i64 hd.2.1, .slice AH nH cH] := by simpa using Box.new (w6.alloc (.cells #[.slice B0 b0 e0, .slice B1 b1 e1] 26)) 30 #[.int .i64 hd.1, .int .i64 hd.2.1, .slice AH nH cH]
        have hx6 : Below w6.heap.size w6 ((w6.alloc (.cells #[.slice B0 b0 e0, .slice B1 b1 e1] 26)).alloc (.cells #[.int .i64 hd.1, .int .i64 hd.2.1, .slice AH nH cH] 30)) := (belx)
        have hQ := tPool.reach hQ hx6
        have hH := tHeld.reach hH hx6
        have hy6 := bel_trans hb6 hx6
        have Vr := Vr.below hy6 Vr.size
        have hB7 := bel_trans hB6 hy6
        have hwx : (Lit.int .i64 tg).wf = true := WalkArith.wf_i64 ⟨by omega, by omega⟩
        have j0 := W1.cell 0
        have j1 := W1.cell 1
        have j2 := W2.cell 0
        have j3 := W2.cell 1
        have j4 := W2.cell 2
        go_wp2_with fail
        refine (i_Admit hQ hzq hH hzh hwx).mono ?_
        rintro e w7 ⟨cs7, F7, rfl, hO7, -, hb7⟩
        have hX := tPool.read hO7
        clear hO7 j0 j1 j2 j3 j4 r0
        have hQ := tPool.reach hQ hb7
        have W1 := W1.below hb7 W1.size
        have Vr := Vr.below hb7 Vr.size
        have hB8 := bel_trans hB7 hb7
        obtain ⟨D0, d0, D1, d1, rfl⟩ := cellsShape hX
        by_cases hcc : fAdmN q hd tg = 0
        · have hAd : AdOk q hd tg := by
            apply Classical.byContradiction
            intro h
            rw [fAdmN_f h] at hcc
            omega
          have h12 : ¬ q.1.length = 12 := by
            intro h
            rw [fAdmN_full hAd h] at hcc
            omega
          have hrc : recN q.2 tg = 0 := by rw [← fAdmN_no hAd h12]; exact hcc
          have hni : ¬ tg ∈ q.2 := by
            intro h
            rw [recN_seen h] at hrc
            omega
          have hf : ¬ (q.1.length = 12 ∨ ¬ recN q.2 tg = 0) := by rintro (h | h); exact h12 h; exact h hrc
          have hpx : PlOk (q.1 ++ [hd], q.2 ++ [tg]) := by
            have h := admP_ok hAd.1 hAd.2.1 hAd.2.2
            unfold admP at h
            rwa [if_neg hf] at h
          rw [fAdm_ok hAd h12 hrc] at hX ⊢
          rw [hcc]
          have hs1 : fSaw (q.1 ++ [hd], q.2 ++ [tg]) tg = true := by rw [fSaw_t hpx]; exact decide_eq_true (by simp)
          have hs2 : fSaw q tg = false := by rw [fSaw_t hAd.1]; exact decide_eq_false hni
          have HS1 := Lib.hid hs1
          have HS2 := Lib.hid hs2
          have hzx := plOk_sz hpx
          have f1 : (q.1 ++ [hd]).length = b0 + 1 := by rw [List.length_append, M0.out]; rfl
          have f2 : (q.2 ++ [tg]).length = b1 + 1 := by rw [List.length_append, M1.out]; rfl
          rw [show ((q.1 ++ [hd], q.2 ++ [tg]) : DPool).1.length = b0 + 1 from f1, show ((q.1 ++ [hd], q.2 ++ [tg]) : DPool).2.length = b1 + 1 from f2] at hX ⊢
          clear hcc hAd h12 hrc hni hf hpx hs1 hs2 f1 f2
          have hx7 : Below w7.heap.size w7 (w7.alloc (.cells #[.slice D0 (b0 + 1) d0, .slice D1 (b1 + 1) d1] 26)) := bel_alloc (Below.refl _ _) _
          have hX := tPool.reach hX hx7
          have hQ := tPool.reach hQ hx7
          have W1 := W1.alloc (.cells #[.slice D0 (b0 + 1) d0, .slice D1 (b1 + 1) d1] 26)
          have Vr := Vr.alloc (.cells #[.slice D0 (b0 + 1) d0, .slice D1 (b1 + 1) d1] 26)
          have W3 : Box (w7.alloc (.cells #[.slice D0 (b0 + 1) d0, .slice D1 (b1 + 1) d1] 26)) w7.heap.size 26 #[.slice D0 (b0 + 1) d0, .slice D1 (b1 + 1) d1] := Box.new _ _ _
          have hB9 := bel_trans hB8 hx7
          have r0 := Vr.cell 0
          have j0 := W3.cell 0
          have j1 := W3.cell 1
          by_cases hz0 : n0 = 0
          · obtain rfl : er = -1 := HE1.out hz0
            subst hz0
            go_wp2_with fail
            refine (i_Saw hX hzx hwx).mono ?_
            rintro e w8 ⟨rfl, hb8⟩
            rw [HS1.out]
            have hQ := tPool.reach hQ hb8
            have W1 := W1.below hb8 W1.size
            have j2 := W1.cell 0
            have j3 := W1.cell 1
            go_wp2_with fail
            refine (i_Saw hQ hzq hwx).mono ?_
            rintro e w10 ⟨rfl, hb10⟩
            rw [HS2.out]
            go_wp2_with fail
            refine (l_pools _).mono ?_
            rintro e w9 ⟨rfl, hb9⟩
            go_wp2_with fail
            go_ret
            exact ⟨rfl, bel_trans (bel_trans (bel_trans hB9 hb8) hb10) hb9⟩
          · have heb : (er == -1) = false := by have := HE2.out (by omega); simp; omega
            have hnb : ((n0 : Int) == 0) = false := by simp; omega
            go_wp2_with fail
            refine (i_Saw hX hzx hwx).mono ?_
            rintro e w8 ⟨rfl, hb8⟩
            rw [HS1.out]
            have hQ := tPool.reach hQ hb8
            have W1 := W1.below hb8 W1.size
            have j2 := W1.cell 0
            have j3 := W1.cell 1
            go_wp2_with fail
            refine (i_Saw hQ hzq hwx).mono ?_
            rintro e w10 ⟨rfl, hb10⟩
            rw [HS2.out]
            go_wp2_with fail
            refine (l_pools _).mono ?_
            rintro e w9 ⟨rfl, hb9⟩
            go_wp2_with fail
            go_ret
            exact ⟨rfl, bel_trans (bel_trans (bel_trans hB9 hb8) hb10) hb9⟩
        · obtain ⟨cc, hcq⟩ : ∃ cc, fAdmN q hd tg = cc := ⟨_, rfl⟩
          rw [hcq] at hcc ⊢
          have hcb : (cc == 0) = false := by simpa using hcc
          have hcb2 : (cc != 0) = true := by simpa using hcc
          obtain ⟨l0, hl0⟩ : ∃ m, (fAdm q hd tg).1.length = m := ⟨_, rfl⟩
          obtain ⟨l1, hl1⟩ : ∃ m, (fAdm q hd tg).2.length = m := ⟨_, rfl⟩
          rw [hl0, hl1]
          clear hcq hl0 hl1 hcc hX
          have Vr := Vr.alloc (.cells #[.slice D0 l0 d0, .slice D1 l1 d1] 26)
          have r0 := Vr.cell 0
          have hB9 := bel_trans hB8 (show Below w7.heap.size w7 (w7.alloc (.cells #[.slice D0 l0 d0, .slice D1 l1 d1] 26)) from bel_alloc (Below.refl _ _) _)
          by_cases hz0 : n0 = 0
          · obtain rfl : er = -1 := HE1.out hz0
            subst hz0
            go_wp2_with fail
            refine (l_pools _).mono ?_
            rintro e w9 ⟨rfl, hb9⟩
            go_wp2_with fail
            go_ret
            exact ⟨rfl, bel_trans hB9 hb9⟩
          · have heb : (er == -1) = false := by have := HE2.out (by omega); simp; omega
            have hnb : ((n0 : Int) == 0) = false := by simp; omega
            go_wp2_with fail
            refine (l_pools _).mono ?_
            rintro e w9 ⟨rfl, hb9⟩
            go_wp2_with fail
            go_ret
            exact ⟨rfl, bel_trans hB9 hb9⟩

/-! ### THE ROW's STEP: WRITTEN OUT: LEAVE IT -/
set_option maxRecDepth 100000 in
theorem lifted (os : Os) (started : os.Started) (H : Type) (enc : TypeId × Value → H) :
    ReturnsInHanded {} Try.checked os 8 .any (Rows.fnForsSpec.pre6 enc Try.prog Try.f8 Rows.fnForsRow.domain false) (Rows.fnForsSpec.post enc Try.prog Try.f8 false true false false) := by
  refine returnsInHanded_of_change_sized (C := Try.checked) own started (by kernel_rfl) Try.func8
    (ChangeSpec.witness6 (enc := enc) (C := Try.checked) false ⟨#[], #[.slice none 0 0], []⟩ 8 (by kernel_rfl) (by kernel_rfl) (by kernel_rfl) (by kernel_rfl)) ?_
  intro W base args ds gs before hval0 hW hcnd hsz0 _
  have hval : ∀ (j : Nat) t v, Try.f8.params[j]? = some t → args[j]? = some v → Value.okWide Try.prog W .any base t v := hval0
  have hW' := hW
  obtain ⟨p, q, hA0, hV, rfl, hfz, hnd⟩ := hW
  have hA : DataW.TrodAll enc Try.prog W 0 (fun _ => true) true Try.f8.params.toList args.toList ds p := hA0
  have hsz : (DataW.weightsEach Try.prog (Try.f8.params.toList ++ Rows.fnForsSpec.plain.varTypes Try.prog) (ds ++ gs)).all (· ≤ reachBytes) = true := hsz0
  rw [Try.params8] at hA hval hsz
  obtain ⟨v0, vs0, d0, ds0, p0, q0, hargs, rfl, rfl, h0, r0⟩ := trodAll_cons hA
  obtain ⟨rfl, rfl, rfl⟩ := trodAll_nil r0
  obtain rfl : args = #[v0] := by cases args; simp_all
  obtain ⟨rfl, rfl⟩ := trodVars_none hV
  obtain ⟨a0, len0, cap0, rfl⟩ := okWide_slice Try.underlying22 (hval 0 22 v0 rfl rfl)
  have k0 := h0
  have lt0 : ∀ x ∈ p0, x.block < W.heap.size := by obtain ⟨m, hm⟩ := k0; exact DataW.trod_lt m _ _ _ hm
  obtain ⟨z0, w0, r0⟩ : ∃ zs, IsRow .u8 W a0 len0 cap0 zs ∧ cap0 ≤ 140737488351232 := by
    obtain ⟨fuel, hf⟩ := h0
    rcases open_ints Try.underlying22 Try.underlying5 (by kernel_rfl) hf with ⟨hcs, _⟩ | ⟨x, l, c, zs, hcs, _, hl, hm, hz, hxx, hcell, hwz⟩
    · simp [Value.cells] at hcs
      obtain ⟨rfl, rfl, rfl⟩ := hcs
      exact ⟨[], .inl ⟨rfl, rfl, rfl, rfl⟩, by omega⟩
    · simp [Value.cells] at hcs
      obtain ⟨rfl, rfl, rfl⟩ := hcs
      have hz' : zs.length = cap0 := by simpa using hz
      refine ⟨zs, .inr ⟨_, rfl, hl, hm, hz', hcell, hwz⟩, ?_⟩
      simp only [Prod.mk.injEq] at hxx
      rw [hxx.1] at hsz
      have h := sized_slice hsz (j := 0) (t := 22) (e := 5) rfl rfl Try.underlying22
      rw [bytes5] at h
      simp only [lits, List.length_map, List.length_take, List.length_drop, reachBytes] at h
      omega
  clear hA0 hval0
  refine (walk a0 len0 cap0 z0 W w0 r0).mono fun e W' ⟨he, bel⟩ => ?_
  subst he
  exact ⟨_, rfl, _, _, _, [], _, [], hW', trodAll_mk1 (shut_bool Try.underlying4 _), (trodAll_cons_mk (Below.trod laidOut (by kernel_rfl) (of_decide_eq_true (by kernel_rfl)) k0 bel lt0) trodAll_mk0), rfl, bel.frame _, fun h => by cases h⟩

theorem over : Rows.fnForsRow.holds Try.pinned (OpenSpec.ofChange Rows.fnForsSpec) :=
  OpenClaim.holds_of_wide 8 Try.f8 rfl rfl rfl rfl rfl rfl rfl ⟨rfl, rfl, rfl, rfl, rfl⟩ rfl rfl rfl rfl rfl (by kernel_rfl) Try.func8 (by kernel_rfl)
    (of_decide_eq_true (by kernel_rfl)) (by unfold Func.isWrapper; first | (rw [if_pos (by decide +kernel)]; kernel_rfl) | (rw [if_neg (by decide +kernel)]; exact ⟨rfl, rfl⟩))
    (fun os started H enc _ => lifted os started H enc)

/-- ████ THE STATEMENT ████ -/
theorem proved : Rows.FnForsSaid := over
#print axioms proved
end Go.Proofs.Ytblcfncjghkegaa.fnFors
