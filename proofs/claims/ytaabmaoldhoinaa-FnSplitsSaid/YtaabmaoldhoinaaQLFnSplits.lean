/-
  For every draw: the fragments of a message, in any order and more than once, give that message exactly once. No further condition.
-/
import Derived.Test.YtaabmaoldhoinaaQGb
import Derived.Test.YtaabmaoldhoinaaQGc
import Derived.Test.YtaabmaoldhoinaaQGg
import Derived.Test.YtaabmaoldhoinaaRows
import Derived.Below
import Derived.ChangeOld
import Derived.Deep.Cut
import Derived.Deep.CutRange
import Derived.Deep.DeepCutAuto
import Derived.OpenShut
import Derived.ProofKit
import Derived.ShutString
import Derived.SizedLaws
import Derived.WalkKit
namespace Go.Proofs.Ytaabmaoldhoinaa.fnSplits
open Go.ChangeShapes Go.WideShapes Go.ChangeAt Go.RowKit
open Go.ChangeMaps (open_string shut_string)
set_option linter.unusedVariables false

theorem bytes5 : Try.prog.bytesOf 5 = 1 := by kernel_rfl
open Go.Proofs.Ytaabmaoldhoinaa Fld
theorem own : ownKnob Try.prog.godebug = none := by kernel_rfl
theorem laidOut : laidOutB Try.prog = true := by kernel_rfl

/-- WHAT THE WALK IS TOLD OF A SLICE OF INTEGERS THAT CAME IN: it is nil; or it leads to a row of 'cap' cells, the numbers 'zs' (the first 'len' are its elements, the rest its spare room), each fitting its kind. -/
def IsRow (k : IntKind) (w : World) (a : Option Addr) (len cap : Nat) (zs : List Int) : Prop :=
  (a = none ∧ len = 0 ∧ cap = 0 ∧ zs = []) ∨
  ∃ x, a = some x ∧ len ≤ cap ∧ cap ≤ maxLen ∧ zs.length = cap ∧ (∀ i, i < zs.length → w.cell? (x.add i) = some (.int k (zs.getD i 0))) ∧ ∀ n ∈ zs, (Lit.int k n).wf = true

theorem rowInts {w : World} {a : Option Addr} {n c : Nat} {zs : List Int} (h : IsRow .u8 w a n c zs) : Ints .u8 w w.heap.size a n (zs.take n) ∧ n ≤ c := by
  rcases h with ⟨rfl, rfl, rfl, rfl⟩ | ⟨x, rfl, hl, _, hz, hc, hw⟩
  · exact ⟨Ints.nil, Nat.le_refl _⟩
  · exact ⟨Ints.ofRow (by omega) hc hw, hl⟩
/-- What has been given so far: nothing, or the message. -/
def GotR (w : World) (db nm N i : Nat) (m : List Int) (gv : Value) (tn : Int) : Prop := (i < N ∧ tn = 0) ∨ (N ≤ i ∧ tn = 1 ∧ ∃ Ag cg G, gv = .slice Ag nm cg ∧ tBy.O w [.slice Ag nm cg] m G ∧ ∀ f ∈ G, db < f)
theorem GotR.next {w wx : World} {db nm N i : Nat} {m : List Int} {gv : Value} {tn : Int} (h : GotR w db nm N i m gv tn) (he : ¬ i + 1 = N) (hb : Below w.heap.size w wx) (u v : Value) : GotR ((wx.setCell ⟨db, 0, none⟩ u).setCell ⟨db, 1, none⟩ v) db nm N (i + 1) m gv tn := by
  rcases h with h | ⟨h1, h2, Ag, cg, G, h4, h5, h6⟩
  · exact .inl ⟨by omega, h.2⟩
  · exact .inr ⟨by omega, h2, Ag, cg, G, h4, Ty.far3 (t := tBy) (Ty.far3 (t := tBy) (Ty.below (t := tBy) h5 hb) (p := ⟨db, 0, none⟩) (fun hx => Nat.lt_irrefl _ (h6 _ hx)) u) (p := ⟨db, 1, none⟩) (fun hx => Nat.lt_irrefl _ (h6 _ hx)) v, h6⟩
theorem GotR.zero {w : World} {db nm N i : Nat} {m : List Int} {gv : Value} {tn : Int} (h : GotR w db nm N i m gv tn) (he : i + 1 = N) : tn = 0 := by
  rcases h with h | h
  · exact h.2
  · omega
theorem GotR.fin {w : World} {db nm N i : Nat} {m : List Int} {gv : Value} {tn : Int} (h : GotR w db nm N i m gv tn) (he : N ≤ i) : tn = 1 ∧ ∃ Ag cg G, gv = .slice Ag nm cg ∧ tBy.O w [.slice Ag nm cg] m G ∧ ∀ f ∈ G, db < f := by
  rcases h with h | h
  · omega
  · exact h.2

/-! ### STEP 1: THE WALK: the Go text returns true, AND WRITES NOTHING THAT WAS THERE: 'Below w.heap.size w w'' (Derived/Below.lean: '.refl', '.alloc', '.drew', '.setCell' at a new block, '.trans'). Open each 'IsRow' by 'rcases' AHEAD of 'go_enter'; part every test ahead of the walk. -/
set_option maxRecDepth 100000 in
set_option maxHeartbeats 2000000 in
theorem walk (a0 : Option Addr) (len0 cap0 : Nat) (z0 : List Int) (w : World) (w0 : IsRow .u8 w a0 len0 cap0 z0) (r0 : cap0 ≤ 140737488351232) :
    Calls Try.prog 5 #[.slice a0 len0 cap0] w fun e w' => e = .returned (.bool true) ∧ Below w.heap.size w w' := by
  obtain ⟨hl, hn⟩ := rowInts w0
  go_enter Try.func5, Try.ntmps5
  go_wp2_with fail
  refine (d_Split hl (by omega)).mono ?_
  rintro e w1 ⟨id, Am, cm, m, rfl, hid, hM, hml, hB1⟩
  obtain ⟨nm, hnm⟩ : ∃ x, m.length = x := ⟨_, rfl⟩
  rw [hnm] at hM hml ⊢
  have HNM := Lib.hid hnm
  clear hnm
  go_wp2_with fail
  refine (i_Split (WalkArith.wf_i64 ⟨by omega, by omega⟩) hM (by have := HNM.out; omega)).mono ?_
  rintro e w2 ⟨A2, c2, F2, rfl, hO2, -, hb2⟩
  have hM := tBy.reach hM hb2
  have hB2 := bel_trans hB1 hb2
  have hR2 := tPiece.row.read hO2
  have hl2 := reach hl hB2
  clear hO2 hb2 hB1
  by_cases hs : SpOk id m
  rotate_left
  · rw [fSpl_f hs, decide_eq_false hs, show ([] : List DPiece).length = 0 from rfl]
    clear hs hR2 hM
    go_wp2_with fail
    refine (l_desks _).mono ?_
    rintro e w9 ⟨rfl, hb9⟩
    go_wp2_with fail
    go_ret
    exact ⟨rfl, bel_trans hB2 hb9⟩
  · rw [decide_eq_true hs]
    rw [fSpl_t hs] at hR2 ⊢
    have h8 := splN_le hs.2
    have HLN := Lib.hid (splL_len id m)
    obtain ⟨N, hN⟩ : ∃ N, splN m.length = N := ⟨_, rfl⟩
    rw [hN] at h8
    rw [HLN.out, hN] at hR2 ⊢
    have HN := Lib.hid hN
    have HSP := Lib.hid hs
    clear hN hs
    obtain ⟨db, hdb⟩ : ∃ db, w2.heap.size = db := ⟨_, rfl⟩
    have hBd0 : Box (w2.alloc (.cells #[.slice none 0 0, .slice none 0 0] 38)) w2.heap.size 38 #[.slice none 0 0, .slice none 0 0] := Box.new _ _ _
    have hb3 : Below w2.heap.size w2 (w2.alloc (.cells #[.slice none 0 0, .slice none 0 0] 38)) := (belx)
    have hla := reach hl2 hb3
    obtain ⟨w3, hw3⟩ : ∃ w3, w2.alloc (.cells #[.slice none 0 0, .slice none 0 0] 38) = w3 := ⟨_, rfl⟩
    rw [hw3] at hBd0 hb3 hla
    rw [hdb] at hBd0
    have hdb2 : w2.heap.size ≤ db := Nat.le_of_eq hdb
    go_wp2_with fail
    refine (l_at 1 hla (by omega) (by omega)).mono ?_
    rintro e w' ⟨rfl, rfl⟩
    have rsd := atV_rg hl.bytes 1
    have rs2 := atV_rg hl.bytes 2
    obtain ⟨t1, ht1⟩ : ∃ t : Nat, atV (List.take len0 z0) 1 = (t : Int) := ⟨(atV (List.take len0 z0) 1).toNat, by omega⟩
    obtain ⟨a, ha⟩ : ∃ t : Nat, atV (List.take len0 z0) 2 = (t : Int) := ⟨(atV (List.take len0 z0) 2).toNat, by omega⟩
    rw [ht1] at rsd ⊢
    rw [ha] at rs2
    have HA := Lib.hid ha
    obtain ⟨s, hs⟩ : ∃ s, 1 + 2 * (t1 % 4) = s := ⟨_, rfl⟩
    have h3 : s = 1 ∨ s = 3 ∨ s = 5 ∨ s = 7 := by omega
    have hsi : 1 + 2 * ((t1 : Int) % 4) = (s : Int) := by omega
    clear hdb hw3 ht1 ha
    go_upto_region 10 with fail
    clear hs hsi rsd
    go_wp2_with fail
    go_loopw [8, 9, 12] (fun gv tv iv wr => ∃ (i : Nat) (A0 : Option Addr) (c0 : Nat) (A1 : Option Addr) (c1 : Nat) (F : List Nat) (tn : Int), iv = .int .i64 i ∧ i ≤ 2 * N ∧ Box wr db 38 #[.slice A0 (spS id m N s a i).1.length c0, .slice A1 (spS id m N s a i).2.length c1] ∧ tDesk.O wr [.slice A0 (spS id m N s a i).1.length c0, .slice A1 (spS id m N s a i).2.length c1] (spS id m N s a i) F ∧ (∀ f ∈ F, db < f) ∧ tv = .int .i64 tn ∧ GotR wr db nm N i m gv tn ∧ Below w2.heap.size w2 wr) (fun _ _ iv _ => 2 * N - (valI4 iv).toNat)
    case atStart =>
      refine ⟨0, none, 0, none, 0, [], 0, rfl, by omega, ?_, ?_, fun f hf => absurd hf (by simp), rfl, .inl ⟨by omega, rfl⟩, hb3⟩
      · rw [spS_zero h8.1]; exact hBd0
      · rw [spS_zero h8.1]; exact dkzO
    case round =>
      obtain ⟨i, A0, c0, A1, c1, F, tn, rfl, hi, hBd, hDO, hF, rfl, hgt, hBr⟩ := hrel
      have zr := hBd.size
      by_cases hlt : i < 2 * N
      · have Bd := hBd
        have hDr := tDesk.read hDO
        have hqR := tPiece.row.reach hR2 hBr
        obtain ⟨k, hk⟩ : ∃ k, kf N s a i = k := ⟨_, rfl⟩
        have hkN : k < N := by rw [← hk]; exact kf_lt h8.1
        obtain ⟨q, lb, lo, es, hlq, rfl, hlb, hes, hq⟩ := rowR_at (K := 4) hqR hkN rfl
        have hqe : q = spq id m N k := by
          have h := (splL_at (id := id) HN.out hkN).symm.trans hlq
          injection h with h; exact h.symm
        subst hqe
        obtain ⟨A7, n7, c7, e7, -⟩ := openPiece hq
        subst e7
        have HZD := Lib.hid (show szDesk (spS id m N s a i) ≤ 1048576 by have := (dkOk_sz (spS_ok (a := a) HSP.out HN.out h3 i)).1; omega)
        have HZQ := Lib.hid (show szPiece (spq id m N k) ≤ 1048576 by
          have h : ((m.drop (k * 20)).take 20).length ≤ 20 := (pc_le8 (pcAt_ok HSP.out HN.out hkN)).2.2.1
          show ((m.drop (k * 20)).take 20).length ≤ _
          omega)
        obtain ⟨bs, cd, hT, hc1, hc2⟩ := sp_round (a := a) HSP.out HN.out h3 i
        rw [hk] at hT
        have HT1 := Lib.hid (show (fTp (spS id m N s a i) (spq id m N k) 9).1 = spS id m N s a (i + 1) by rw [hT])
        have HT2 := Lib.hid (show (fTp (spS id m N s a i) (spq id m N k) 9).2.1 = bs by rw [hT])
        have HT3 := Lib.hid (show (fTp (spS id m N s a i) (spq id m N k) 9).2.2 = cd by rw [hT])
        have HC1 := Lib.hid hc1
        have HC2 := Lib.hid hc2
        obtain ⟨n0, hn0⟩ : ∃ x, (spS id m N s a i).1.length = x := ⟨_, rfl⟩
        obtain ⟨n1, hn1⟩ : ∃ x, (spS id m N s a i).2.length = x := ⟨_, rfl⟩
        obtain ⟨m0, hm0⟩ : ∃ x, (spS id m N s a (i + 1)).1.length = x := ⟨_, rfl⟩
        obtain ⟨m1, hm1⟩ : ∃ x, (spS id m N s a (i + 1)).2.length = x := ⟨_, rfl⟩
        obtain ⟨nb, hnb⟩ : ∃ x, bs.length = x := ⟨_, rfl⟩
        have HM0 := Lib.hid hm0
        have HM1 := Lib.hid hm1
        have HBS := Lib.hid hnb
        rw [hn0, hn1] at hDr Bd
        have q0 : wr.cell? ⟨db, 0, none⟩ = some (.slice A0 n0 c0) := Bd.cell 0
        have q1 : wr.cell? ⟨db, 1, none⟩ = some (.slice A1 n1 c1) := Bd.cell 1
        have q2 : wr.cell? ⟨lb, lo + k * 4, none⟩ = some (.int .i64 id) := hes 0 (by omega)
        have q3 : wr.cell? ⟨lb, lo + k * 4 + 1, none⟩ = some (.int .i64 (k : Int)) := hes 1 (by omega)
        have q4 : wr.cell? ⟨lb, lo + k * 4 + 2, none⟩ = some (.int .i64 (N : Int)) := hes 2 (by omega)
        have q5 : wr.cell? ⟨lb, lo + k * 4 + 3, none⟩ = some (.slice A7 n7 c7) := hes 3 (by omega)
        have hk0 : (0 : Int) ≤ (k : Int) := by omega
        have hkn : (k : Int) < (N : Int) := by omega
        have hlr := reach hl2 hBr
        have hlt2 : (i : Int) < 2 * (N : Int) := by omega
        have hd2 : decide ((i : Int) < 2 * (N : Int)) = true := decide_eq_true hlt2
        have hw2 : IntKind.i64.wrap ((i : Int) + 1) = ((i + 1 : Nat) : Int) := IntWalk.i64_in _ (by omega)
        have hN0 : ¬ (N : Int) = 0 := by omega
        have hs0 : ¬ (s : Int) = 0 := by omega
        have hkf : (((N : Int) % 2 == 0) = true ∧ ((i : Int) + (a : Int)) % (N : Int) = (k : Int)) ∨ (((N : Int) % 2 == 0) = false ∧ ((N : Int) % (s : Int) == 0) = true ∧ ((i : Int) + (a : Int)) % (N : Int) = (k : Int)) ∨ (((N : Int) % 2 == 0) = false ∧ ((N : Int) % (s : Int) == 0) = false ∧ ((i : Int) * (s : Int) + (a : Int)) % (N : Int) = (k : Int)) := kf_int hk
        have his : 0 ≤ (i : Int) * (s : Int) ∧ (i : Int) * (s : Int) ≤ 112 := by
          rcases h3 with rfl | rfl | rfl | rfl <;> omega
        clear hT hc1 hc2 hn0 hn1 hm0 hm1 hnb hlq hes hk hqR
        obtain ⟨cv, hkf⟩ : ∃ cv : Bool, (((N : Int) % 2 == 0) = true ∧ cv = true ∧ ((i : Int) + (a : Int)) % (N : Int) = (k : Int)) ∨ (((N : Int) % 2 == 0) = false ∧ ((N : Int) % (s : Int) == 0) = true ∧ cv = true ∧ ((i : Int) + (a : Int)) % (N : Int) = (k : Int)) ∨ (((N : Int) % 2 == 0) = false ∧ ((N : Int) % (s : Int) == 0) = false ∧ cv = false ∧ ((i : Int) * (s : Int) + (a : Int)) % (N : Int) = (k : Int)) := by
          rcases hkf with h | h | h
          · exact ⟨true, .inl ⟨h.1, rfl, h.2⟩⟩
          · exact ⟨true, .inr (.inl ⟨h.1, h.2.1, rfl, h.2.2⟩)⟩
          · exact ⟨false, .inr (.inr ⟨h.1, h.2.1, rfl, h.2.2⟩)⟩
        go_wp2_with fail
        refine (l_at 2 hlr (by omega) (by omega)).mono ?_
        rintro e w' ⟨rfl, rfl⟩
        rw [HA.out]
        go_upto_region 14 with fail
        go_cut [65] (fun t65 wc => t65 = .bool cv ∧ wr = wc)
        case first =>
          rcases hkf with ⟨g1, rfl, g3⟩ | ⟨g1, g2, rfl, g3⟩ | ⟨g1, g2, rfl, g3⟩
          all_goals
            clear g3
            go_wp2_with fail
            go_meet
            exact ⟨rfl, rfl⟩
        case rest =>
        obtain ⟨rfl, rfl⟩ := hcut
        go_upto_if 65 with fail
        go_cut [13] (fun kv wc => kv = .int .i64 (k : Int) ∧ wr = wc)
        case first =>
          rcases hkf with ⟨-, rfl, g3⟩ | ⟨-, -, rfl, g3⟩ | ⟨-, -, rfl, g3⟩
          · go_wp2_with fail
            refine (l_at 2 hlr (by omega) (by omega)).mono ?_
            rintro e w' ⟨rfl, rfl⟩
            rw [HA.out]
            go_wp2_with fail
            go_meet
            first | exact ⟨rfl, rfl⟩ | exact ⟨by rw [g3], rfl⟩
          · go_wp2_with fail
            refine (l_at 2 hlr (by omega) (by omega)).mono ?_
            rintro e w' ⟨rfl, rfl⟩
            rw [HA.out]
            go_wp2_with fail
            go_meet
            first | exact ⟨rfl, rfl⟩ | exact ⟨by rw [g3], rfl⟩
          · go_wp2_with fail
            go_meet
            first | exact ⟨rfl, rfl⟩ | exact ⟨by rw [g3], rfl⟩
        case rest =>
        obtain ⟨rfl, rfl⟩ := hcut
        go_upto_region 16 with fail
        have hk : ∀ W, Below wr.heap.size wr W → (fun w' => w'.cell? ⟨db, 0, none⟩ = some (.slice A0 n0 c0) ∧ w'.cell? ⟨db, 1, none⟩ = some (.slice A1 n1 c1) ∧ w'.cell? ⟨lb, lo + k * 4, none⟩ = some (.int .i64 id) ∧ w'.cell? ⟨lb, lo + k * 4 + 1, none⟩ = some (.int .i64 (k : Int)) ∧ w'.cell? ⟨lb, lo + k * 4 + 2, none⟩ = some (.int .i64 (N : Int)) ∧ w'.cell? ⟨lb, lo + k * 4 + 3, none⟩ = some (.slice A7 n7 c7)) W := fun W hW => ⟨cell_bel hW q0, cell_bel hW q1, cell_bel hW q2, cell_bel hW q3, cell_bel hW q4, cell_bel hW q5⟩
        go_cut [14, 15, 16] (fun t14 t15 t16 wx => ∃ (gx : Nat) (D0 : Option Addr) (d0 : Nat) (D1 : Option Addr) (d1 : Nat) (Ab : Option Addr) (cb : Nat) (G1 G2 : List Nat), t14 = .pointer (some ⟨gx, 0, none⟩) ∧ t15 = .slice Ab nb cb ∧ t16 = .int .i64 cd ∧ Box wx gx 38 #[.slice D0 m0 d0, .slice D1 m1 d1] ∧ tDesk.O wx [.slice D0 m0 d0, .slice D1 m1 d1] (spS id m N s a (i + 1)) G1 ∧ tBy.O wx [.slice Ab nb cb] bs G2 ∧ New wr.heap.size (G1 ++ G2) ∧ (∀ f ∈ G1 ++ G2, ¬ f = gx) ∧ Below wr.heap.size wr wx ∧ wr.heap.size ≤ gx ∧ gx < wx.heap.size)
        case first =>
          go_wp2_with fail
          refine wp_region_held_drew (S := (fun w' => w'.cell? ⟨db, 0, none⟩ = some (.slice A0 n0 c0) ∧ w'.cell? ⟨db, 1, none⟩ = some (.slice A1 n1 c1) ∧ w'.cell? ⟨lb, lo + k * 4, none⟩ = some (.int .i64 id) ∧ w'.cell? ⟨lb, lo + k * 4 + 1, none⟩ = some (.int .i64 (k : Int)) ∧ w'.cell? ⟨lb, lo + k * 4 + 2, none⟩ = some (.int .i64 (N : Int)) ∧ w'.cell? ⟨lb, lo + k * 4 + 3, none⟩ = some (.slice A7 n7 c7))) (by kernel_rfl) (by exact hk _ (belx)) (fun hHeld => ?_)
          refine wpAnyH_take (i := 0) (oi := ⟨some 73, _, _, _, _, _⟩) (v := ?v1) rfl (by kernel_rfl) (by kernel_rfl) (by kernel_rfl) (fun _ _ _ h => h) (Or.inl ⟨by rfl, ?hy1⟩) (by assumption) ?_
          case hy1 => (intro w hSw; (try dsimp only at hSw); go_simp; try (with_reducible rfl))
          (try simp only [Act.put, qa_, qb_, qc_])
          refine wpAnyH_take (i := 1) (oi := ⟨some 74, _, _, _, _, _⟩) (v := ?v2) rfl (by kernel_rfl) (by kernel_rfl) (by kernel_rfl) (fun _ _ _ h => h) (Or.inl ⟨by rfl, ?hy2⟩) (by assumption) ?_
          case hy2 => (intro w hSw; (try dsimp only at hSw); go_simp; try (with_reducible rfl))
          (try simp only [Act.put, qa_, qb_, qc_])
          refine wpAnyH_take (i := 2) (oi := ⟨some 75, _, _, _, _, _⟩) (v := ?v3) rfl (by kernel_rfl) (by kernel_rfl) (by kernel_rfl) (fun _ _ _ h => h) (Or.inl ⟨by rfl, ?hy3⟩) (by assumption) ?_
          case hy3 => (intro w hSw; (try dsimp only at hSw); go_simp; try (with_reducible rfl))
          (try simp only [Act.put, qa_, qb_, qc_])
          refine wpAnyH_take (i := 3) (oi := ⟨some 76, _, _, _, _, _⟩) (v := ?v4) rfl (by kernel_rfl) (by kernel_rfl) (by kernel_rfl) (fun _ _ _ h => h) (Or.inl ⟨by rfl, ?hy4⟩) (by assumption) ?_
          case hy4 => (intro w hSw; (try dsimp only at hSw); go_simp; try (with_reducible rfl))
          (try simp only [Act.put, qa_, qb_, qc_])
          refine wpAnyH_take (i := 4) (oi := ⟨some 77, _, _, _, _, _⟩) (v := ?v5) rfl (by kernel_rfl) (by kernel_rfl) (by kernel_rfl) (fun _ _ _ h => h) (Or.inl ⟨by rfl, ?hy5⟩) (by assumption) ?_
          case hy5 => (intro w hSw; (try dsimp only at hSw); go_simp; try (with_reducible rfl))
          (try simp only [Act.put, qa_, qb_, qc_])
          refine wpAnyH_ready (rs := [5, 10]) (by kernel_rfl) (by simp) ?_
          refine AllReadyH.cons rfl (fun K hK => ?_) ?_
          · have hX : Below wr.heap.size wr (wr.drew) := (belx)
            go_simp
            go_at_call 15
            refine (i_TakePiece (p := spS id m N s a i) (q := spq id m N k) (tDesk.reach hDr hX) HZD.out (tPiece.reach hq hX) HZQ.out (by decide)).mono ?_
            rintro e w4 ⟨cs4, G1, A4, c4, G2, rfl, hO4, hb4, hN4, hbe⟩
            rw [HT1.out] at hO4
            rw [HT2.out] at hb4 ⊢
            rw [HT3.out]
            obtain ⟨D0, d0, -, D1, d1, -, rfl, -⟩ := openODesk hO4
            rw [HM0.out, HM1.out] at hO4 ⊢
            rw [HBS.out] at hb4 ⊢
            have hNw : New wr.heap.size (G1 ++ G2) := hN4.lower hX.size
            have hs1 : Below wr.heap.size wr w4 := bel_trans hX hbe
            go_wp2_with fail
            refine hK.out _ _ (by exact hk _ hs1) (fun hHeld => ?_)
            clear hK K
            (try simp only [Act.put, qa_, qb_, qc_])
            refine wpAnyH_take (i := 6) (oi := ⟨some 72, _, _, _, _, _⟩) (v := ?v6) rfl (by kernel_rfl) (by kernel_rfl) (by kernel_rfl) (fun _ _ _ h => h) (Or.inl ⟨by rfl, ?hy6⟩) (by assumption) ?_
            case hy6 => (intro w hSw; (try dsimp only at hSw); go_simp; try (with_reducible rfl))
            (try simp only [Act.put, qa_, qb_, qc_])
            refine wpAnyH_take (i := 7) (oi := ⟨some 79, _, _, _, _, _⟩) (v := ?v7) rfl (by kernel_rfl) (by kernel_rfl) (by kernel_rfl) (fun _ _ _ h => h) (Or.inl ⟨by rfl, ?hy7⟩) (by assumption) ?_
            case hy7 => (intro w hSw; (try dsimp only at hSw); go_simp; try (with_reducible rfl))
            (try simp only [Act.put, qa_, qb_, qc_])
            refine wpAnyH_take (i := 8) (oi := ⟨some 80, _, _, _, _, _⟩) (v := ?v8) rfl (by kernel_rfl) (by kernel_rfl) (by kernel_rfl) (fun _ _ _ h => h) (Or.inl ⟨by rfl, ?hy8⟩) (by assumption) ?_
            case hy8 => (intro w hSw; (try dsimp only at hSw); go_simp; try (with_reducible rfl))
            (try simp only [Act.put, qa_, qb_, qc_])
            refine wpAnyH_take (i := 9) (oi := ⟨some 81, _, _, _, _, _⟩) (v := ?v9) rfl (by kernel_rfl) (by kernel_rfl) (by kernel_rfl) (fun _ _ _ h => h) (Or.inl ⟨by rfl, ?hy9⟩) (by assumption) ?_
            case hy9 => (intro w hSw; (try dsimp only at hSw); go_simp; try (with_reducible rfl))
            (try simp only [Act.put, qa_, qb_, qc_])
            refine wpAnyH_ready (rs := [10]) (by kernel_rfl) (by simp) ?_
            refine AllReadyH.cons rfl (fun K hK => ?_) ?_
            · go_simp
              refine hK.out _ _ (by exact hk _ (bel_alloc hs1 _)) (fun hHeld => ?_)
              clear hK K
              (try simp only [Act.put, qa_, qb_, qc_])
              refine wpAnyH_ready (rs := [11]) (by kernel_rfl) (by simp) ?_
              refine AllReadyH.cons rfl (fun K hK => ?_) ?_
              · have Zg : Box (w4.alloc (.cells #[.slice D0 m0 d0, .slice D1 m1 d1] 38)) w4.heap.size 38 #[.slice D0 m0 d0, .slice D1 m1 d1] := Box.new _ _ _
                have hgF : ∀ f ∈ G1 ++ G2, ¬ f = w4.heap.size := fun f hf e => by (subst e; rcases List.mem_append.1 hf with h | h; exact Nat.lt_irrefl _ (tDesk.lt hO4 _ h); exact Nat.lt_irrefl _ (tBy.lt hb4 _ h))
                have O1 := Ty.below (t := tDesk) hO4 (show Below w4.heap.size w4 (w4.alloc (.cells #[.slice D0 m0 d0, .slice D1 m1 d1] 38)) from bel_alloc (Below.refl _ _) _)
                have O2 := Ty.below (t := tBy) hb4 (show Below w4.heap.size w4 (w4.alloc (.cells #[.slice D0 m0 d0, .slice D1 m1 d1] 38)) from bel_alloc (Below.refl _ _) _)
                have hfin : Below wr.heap.size wr (w4.alloc (.cells #[.slice D0 m0 d0, .slice D1 m1 d1] 38)) := bel_alloc hs1 _
                have hg1 := hs1.size
                have hg2 := Zg.size
                go_simp
                refine hK.out _ _ (by exact hk _ hfin) (fun hHeld => ?_)
                clear hK K
                (try simp only [Act.put, qa_, qb_, qc_])
                refine wpAnyH_take (i := 12) (oi := ⟨some 15, _, _, _, _, _⟩) (v := ?v10) rfl (by kernel_rfl) (by kernel_rfl) (by kernel_rfl) (fun _ _ _ h => h) (Or.inl ⟨by rfl, ?hy10⟩) (by assumption) ?_
                case hy10 => (intro w hSw; (try dsimp only at hSw); go_simp; try (with_reducible rfl))
                (try simp only [Act.put, qa_, qb_, qc_])
                refine wpAnyH_take (i := 13) (oi := ⟨some 16, _, _, _, _, _⟩) (v := ?v11) rfl (by kernel_rfl) (by kernel_rfl) (by kernel_rfl) (fun _ _ _ h => h) (Or.inl ⟨by rfl, ?hy11⟩) (by assumption) ?_
                case hy11 => (intro w hSw; (try dsimp only at hSw); go_simp; try (with_reducible rfl))
                (try simp only [Act.put, qa_, qb_, qc_])
                refine wpAnyH_done (by kernel_rfl) ?_ _
                go_wp2_with fail
                go_meet
                exact ⟨_, _, _, _, _, _, _, G1, G2, rfl, rfl, rfl, by first | exact Zg | simpa using Zg, O1, O2, hNw, hgF, hfin, hg1, by first | exact hg2 | simpa [World.setCell] using hg2⟩
              exact AllReadyH.nil
            exact AllReadyH.nil
          refine AllReadyH.cons rfl (fun K hK => ?_) ?_
          · go_simp
            refine hK.out _ _ (by exact hk _ (belx)) (fun hHeld => ?_)
            clear hK K
            (try simp only [Act.put, qa_, qb_, qc_])
            refine wpAnyH_ready (rs := [5]) (by kernel_rfl) (by simp) ?_
            refine AllReadyH.cons rfl (fun K hK => ?_) ?_
            · have hX : Below wr.heap.size wr ((wr.alloc (.cells #[.slice none 0 0, .slice none 0 0] 38)).drew) := (belx)
              go_simp
              go_at_call 15
              refine (i_TakePiece (p := spS id m N s a i) (q := spq id m N k) (tDesk.reach hDr hX) HZD.out (tPiece.reach hq hX) HZQ.out (by decide)).mono ?_
              rintro e w4 ⟨cs4, G1, A4, c4, G2, rfl, hO4, hb4, hN4, hbe⟩
              rw [HT1.out] at hO4
              rw [HT2.out] at hb4 ⊢
              rw [HT3.out]
              obtain ⟨D0, d0, -, D1, d1, -, rfl, -⟩ := openODesk hO4
              rw [HM0.out, HM1.out] at hO4 ⊢
              rw [HBS.out] at hb4 ⊢
              have hNw : New wr.heap.size (G1 ++ G2) := hN4.lower hX.size
              have hs1 : Below wr.heap.size wr w4 := bel_trans hX hbe
              have Zb : Box ((wr.alloc (.cells #[.slice none 0 0, .slice none 0 0] 38)).drew) wr.heap.size 38 #[.slice none 0 0, .slice none 0 0] := Box.drew (Box.new _ _ _)
              have hgX := Zb.size
              have hgF : ∀ f ∈ G1 ++ G2, ¬ f = wr.heap.size := fun f hf e => by (subst e; exact Nat.lt_irrefl _ (Nat.lt_of_lt_of_le hgX (hN4.2 _ hf)))
              replace Zb := Box.below Zb hbe Zb.size
              have zb0 := Zb.cell 0
              have zb1 := Zb.cell 1
              have zf0 := Zb.frozen 0
              have zf1 := Zb.frozen 1
              go_wp2_with fail
              refine hK.out _ _ (by exact hk _ hs1) (fun hHeld => ?_)
              clear hK K
              (try simp only [Act.put, qa_, qb_, qc_])
              refine wpAnyH_take (i := 6) (oi := ⟨some 72, _, _, _, _, _⟩) (v := ?v12) rfl (by kernel_rfl) (by kernel_rfl) (by kernel_rfl) (fun _ _ _ h => h) (Or.inl ⟨by rfl, ?hy12⟩) (by assumption) ?_
              case hy12 => (intro w hSw; (try dsimp only at hSw); go_simp; try (with_reducible rfl))
              (try simp only [Act.put, qa_, qb_, qc_])
              refine wpAnyH_take (i := 7) (oi := ⟨some 79, _, _, _, _, _⟩) (v := ?v13) rfl (by kernel_rfl) (by kernel_rfl) (by kernel_rfl) (fun _ _ _ h => h) (Or.inl ⟨by rfl, ?hy13⟩) (by assumption) ?_
              case hy13 => (intro w hSw; (try dsimp only at hSw); go_simp; try (with_reducible rfl))
              (try simp only [Act.put, qa_, qb_, qc_])
              refine wpAnyH_take (i := 8) (oi := ⟨some 80, _, _, _, _, _⟩) (v := ?v14) rfl (by kernel_rfl) (by kernel_rfl) (by kernel_rfl) (fun _ _ _ h => h) (Or.inl ⟨by rfl, ?hy14⟩) (by assumption) ?_
              case hy14 => (intro w hSw; (try dsimp only at hSw); go_simp; try (with_reducible rfl))
              (try simp only [Act.put, qa_, qb_, qc_])
              refine wpAnyH_take (i := 9) (oi := ⟨some 81, _, _, _, _, _⟩) (v := ?v15) rfl (by kernel_rfl) (by kernel_rfl) (by kernel_rfl) (fun _ _ _ h => h) (Or.inl ⟨by rfl, ?hy15⟩) (by assumption) ?_
              case hy15 => (intro w hSw; (try dsimp only at hSw); go_simp; try (with_reducible rfl))
              (try simp only [Act.put, qa_, qb_, qc_])
              refine wpAnyH_ready (rs := [11]) (by kernel_rfl) (by simp) ?_
              refine AllReadyH.cons rfl (fun K hK => ?_) ?_
              · have hfin := bel_put (bel_put hs1 (p := ⟨wr.heap.size, 0, none⟩) (Nat.le_refl _) (.slice D0 m0 d0)) (p := ⟨wr.heap.size, 1, none⟩) (Nat.le_refl _) (.slice D1 m1 d1)
                have Zg := (Zb.put 0 (.slice D0 m0 d0)).put 1 (.slice D1 m1 d1)
                have O1 := Ty.far3 (t := tDesk) (Ty.far3 (t := tDesk) hO4 (p := ⟨wr.heap.size, 0, none⟩) (fun hx => hgF _ (List.mem_append.2 (.inl hx)) rfl) (.slice D0 m0 d0)) (p := ⟨wr.heap.size, 1, none⟩) (fun hx => hgF _ (List.mem_append.2 (.inl hx)) rfl) (.slice D1 m1 d1)
                have O2 := Ty.far3 (t := tBy) (Ty.far3 (t := tBy) hb4 (p := ⟨wr.heap.size, 0, none⟩) (fun hx => hgF _ (List.mem_append.2 (.inr hx)) rfl) (.slice D0 m0 d0)) (p := ⟨wr.heap.size, 1, none⟩) (fun hx => hgF _ (List.mem_append.2 (.inr hx)) rfl) (.slice D1 m1 d1)
                have hg1 := Nat.le_refl wr.heap.size
                have hg2 := Zg.size
                go_simp
                refine hK.out _ _ (by exact hk _ hfin) (fun hHeld => ?_)
                clear hK K
                (try simp only [Act.put, qa_, qb_, qc_])
                refine wpAnyH_take (i := 12) (oi := ⟨some 15, _, _, _, _, _⟩) (v := ?v16) rfl (by kernel_rfl) (by kernel_rfl) (by kernel_rfl) (fun _ _ _ h => h) (Or.inl ⟨by rfl, ?hy16⟩) (by assumption) ?_
                case hy16 => (intro w hSw; (try dsimp only at hSw); go_simp; try (with_reducible rfl))
                (try simp only [Act.put, qa_, qb_, qc_])
                refine wpAnyH_take (i := 13) (oi := ⟨some 16, _, _, _, _, _⟩) (v := ?v17) rfl (by kernel_rfl) (by kernel_rfl) (by kernel_rfl) (fun _ _ _ h => h) (Or.inl ⟨by rfl, ?hy17⟩) (by assumption) ?_
                case hy17 => (intro w hSw; (try dsimp only at hSw); go_simp; try (with_reducible rfl))
                (try simp only [Act.put, qa_, qb_, qc_])
                refine wpAnyH_done (by kernel_rfl) ?_ _
                go_wp2_with fail
                go_meet
                exact ⟨_, _, _, _, _, _, _, G1, G2, rfl, rfl, rfl, by first | exact Zg | simpa using Zg, O1, O2, hNw, hgF, hfin, hg1, by first | exact hg2 | simpa [World.setCell] using hg2⟩
              exact AllReadyH.nil
            exact AllReadyH.nil
          exact AllReadyH.nil
        case rest =>
        obtain ⟨gx, D0, d0, D1, d1, Ab, cb, G1, G2, rfl, rfl, rfl, Zx, O1, O2, hNw, hgF, hbx, hg1, hg2⟩ := hcut
        rename World => wx
        clear hk
        have Bx := Bd.below hbx Bd.size
        have x0 := Zx.cell 0
        have x1 := Zx.cell 1
        have b0 := Bx.cell 0
        have b1 := Bx.cell 1
        have bf0 := Bx.frozen 0
        have bf1 := Bx.frozen 1
        have Bf := (Bx.put 0 (.slice D0 m0 d0)).put 1 (.slice D1 m1 d1)
        have nG1 : ∀ f ∈ G1, db < f := fun f hf => Nat.lt_of_lt_of_le zr (hNw.2 f (List.mem_append.2 (.inl hf)))
        have nG2 : ∀ f ∈ G2, db < f := fun f hf => Nat.lt_of_lt_of_le zr (hNw.2 f (List.mem_append.2 (.inr hf)))
        have P1 := Ty.far3 (t := tDesk) (Ty.far3 (t := tDesk) O1 (p := ⟨db, 0, none⟩) (fun hx => Nat.lt_irrefl _ (nG1 _ hx)) (.slice D0 m0 d0)) (p := ⟨db, 1, none⟩) (fun hx => Nat.lt_irrefl _ (nG1 _ hx)) (.slice D1 m1 d1)
        have P2 := Ty.far3 (t := tBy) (Ty.far3 (t := tBy) O2 (p := ⟨db, 0, none⟩) (fun hx => Nat.lt_irrefl _ (nG2 _ hx)) (.slice D0 m0 d0)) (p := ⟨db, 1, none⟩) (fun hx => Nat.lt_irrefl _ (nG2 _ hx)) (.slice D1 m1 d1)
        have hbf := bel_put (bel_put (bel_trans hBr hbx) (p := ⟨db, 0, none⟩) hdb2 (.slice D0 m0 d0)) (p := ⟨db, 1, none⟩) hdb2 (.slice D1 m1 d1)
        by_cases he : i + 1 = N
        · obtain ⟨hb1, hc1⟩ := HC1.out he
          subst hb1 hc1
          obtain rfl : tn = 0 := hgt.zero he
          have hnb : nm = nb := by have h1 := HNM.out; have h2 := HBS.out; omega
          subst hnb
          clear hgt
          go_wp2
          go_roundw
          case rel => exact ⟨i + 1, D0, d0, D1, d1, G1, 1, by go_num, by omega, by rw [HM0.out, HM1.out]; exact Bf, by rw [HM0.out, HM1.out]; exact P1, nG1, rfl, .inr ⟨by omega, rfl, Ab, cb, G2, rfl, P2, nG2⟩, hbf⟩
          case measure => simp [valI4]; omega
        · have e3 : (cd == -3) = false := by rcases HC2.out he with rfl | rfl <;> rfl
          have e2 : (cd == -2) = false := by rcases HC2.out he with rfl | rfl <;> rfl
          have e1 : (cd == 1) = false := by rcases HC2.out he with rfl | rfl <;> rfl
          have hgt2 := hgt.next he hbx (.slice D0 m0 d0) (.slice D1 m1 d1)
          clear hgt
          go_wp2
          go_roundw
          case rel => exact ⟨i + 1, D0, d0, D1, d1, G1, tn, by go_num, by omega, by rw [HM0.out, HM1.out]; exact Bf, by rw [HM0.out, HM1.out]; exact P1, nG1, rfl, hgt2, hbf⟩
          case measure => simp [valI4]; omega
      · obtain rfl : i = 2 * N := by omega
        obtain ⟨rfl, Ag, cg, G, rfl, hOG, -⟩ := hgt.fin (by omega)
        have hd2 : decide (((2 * N : Nat) : Int) < 2 * (N : Int)) = false := decide_eq_false (by omega)
        have hE := spS_end (a := a) (i := 2 * N) HSP.out HN.out h3 (by omega)
        rw [hE, show (([], [id]) : DDesk).1.length = 0 from rfl, show (([], [id]) : DDesk).2.length = 1 from rfl] at hBd hDO
        have HDK := Lib.hid (show DkOk ([], [id]) from hE ▸ spS_ok (a := a) HSP.out HN.out h3 (2 * N))
        have hDR := tDesk.read hDO
        have hMr := tBy.reach hM hBr
        have hGR := tBy.read hOG
        have k0 := hBd.cell 0
        have k1 := hBd.cell 1
        have HDD := Lib.hid (decide_eq_true HDK.out)
        have HZ := Lib.hid (show szDesk ([], [id]) ≤ 1048576 from Nat.le_trans (dkOk_sz HDK.out).1 (by omega))
        clear hE hDO hOG
        go_wp2_with fail
        refine (l_same (slR_ints hGR).1 (slR_ints hMr).1).mono ?_
        rintro e w' ⟨rfl, rfl⟩
        rw [show decide (m = m) = true from by simp]
        go_wp2_with fail
        refine (i_DeskOk hDR HZ.out).mono ?_
        rintro e w6 ⟨rfl, hb6⟩
        rw [HDD.out]
        go_wp2_with fail
        refine (l_desks _).mono ?_
        rintro e w9 ⟨rfl, hb9⟩
        go_wp2_with fail
        go_ret
        exact ⟨rfl, bel_trans (bel_trans (bel_trans hB2 hBr) hb6) hb9⟩

/-! ### THE ROW's STEP: WRITTEN OUT: LEAVE IT -/
set_option maxRecDepth 100000 in
theorem lifted (os : Os) (started : os.Started) (H : Type) (enc : TypeId × Value → H) :
    ReturnsInHanded {} Try.checked os 5 .any (Rows.fnSplitsSpec.pre6 enc Try.prog Try.f5 Rows.fnSplitsRow.domain false) (Rows.fnSplitsSpec.post enc Try.prog Try.f5 false true false false) := by
  refine returnsInHanded_of_change_sized (C := Try.checked) own started (by kernel_rfl) Try.func5
    (ChangeSpec.witness6 (enc := enc) (C := Try.checked) false ⟨#[], #[.slice none 0 0], []⟩ 8 (by kernel_rfl) (by kernel_rfl) (by kernel_rfl) (by kernel_rfl)) ?_
  intro W base args ds gs before hval0 hW hcnd hsz0 _
  have hval : ∀ (j : Nat) t v, Try.f5.params[j]? = some t → args[j]? = some v → Value.okWide Try.prog W .any base t v := hval0
  have hW' := hW
  obtain ⟨p, q, hA0, hV, rfl, hfz, hnd⟩ := hW
  have hA : DataW.TrodAll enc Try.prog W 0 (fun _ => true) true Try.f5.params.toList args.toList ds p := hA0
  have hsz : (DataW.weightsEach Try.prog (Try.f5.params.toList ++ Rows.fnSplitsSpec.plain.varTypes Try.prog) (ds ++ gs)).all (· ≤ reachBytes) = true := hsz0
  rw [Try.params5] at hA hval hsz
  obtain ⟨v0, vs0, d0, ds0, p0, q0, hargs, rfl, rfl, h0, r0⟩ := trodAll_cons hA
  obtain ⟨rfl, rfl, rfl⟩ := trodAll_nil r0
  obtain rfl : args = #[v0] := by cases args; simp_all
  obtain ⟨rfl, rfl⟩ := trodVars_none hV
  obtain ⟨a0, len0, cap0, rfl⟩ := okWide_slice Try.underlying22 (hval 0 22 v0 rfl rfl)
  have k0 := h0
  have lt0 : ∀ x ∈ p0, x.block < W.heap.size := by obtain ⟨m, hm⟩ := k0; exact DataW.trod_lt m _ _ _ hm
  obtain ⟨z0, w0, r0⟩ : ∃ zs, IsRow .u8 W a0 len0 cap0 zs ∧ cap0 ≤ 140737488351232 := by
    obtain ⟨fuel, hf⟩ := h0
    rcases open_ints Try.underlying22 Try.underlying5 (by kernel_rfl) hf with ⟨hcs, _⟩ | ⟨x, l, c, zs, hcs, _, hl, hm, hz, hxx, hcell, hwz⟩
    · simp [Value.cells] at hcs
      obtain ⟨rfl, rfl, rfl⟩ := hcs
      exact ⟨[], .inl ⟨rfl, rfl, rfl, rfl⟩, by omega⟩
    · simp [Value.cells] at hcs
      obtain ⟨rfl, rfl, rfl⟩ := hcs
      have hz' : zs.length = cap0 := by simpa using hz
      refine ⟨zs, .inr ⟨_, rfl, hl, hm, hz', hcell, hwz⟩, ?_⟩
      simp only [Prod.mk.injEq] at hxx
      rw [hxx.1] at hsz
      have h := sized_slice hsz (j := 0) (t := 22) (e := 5) rfl rfl Try.underlying22
      rw [bytes5] at h
      simp only [lits, List.length_map, List.length_take, List.length_drop, reachBytes] at h
      omega
  clear hA0 hval0
  refine (walk a0 len0 cap0 z0 W w0 r0).mono fun e W' ⟨he, bel⟩ => ?_
  subst he
  exact ⟨_, rfl, _, _, _, [], _, [], hW', trodAll_mk1 (shut_bool Try.underlying4 _), (trodAll_cons_mk (Below.trod laidOut (by kernel_rfl) (of_decide_eq_true (by kernel_rfl)) k0 bel lt0) trodAll_mk0), rfl, bel.frame _, fun h => by cases h⟩

theorem over : Rows.fnSplitsRow.holds Try.pinned (OpenSpec.ofChange Rows.fnSplitsSpec) :=
  OpenClaim.holds_of_wide 5 Try.f5 rfl rfl rfl rfl rfl rfl rfl ⟨rfl, rfl, rfl, rfl, rfl⟩ rfl rfl rfl rfl rfl (by kernel_rfl) Try.func5 (by kernel_rfl)
    (of_decide_eq_true (by kernel_rfl)) (by unfold Func.isWrapper; first | (rw [if_pos (by decide +kernel)]; kernel_rfl) | (rw [if_neg (by decide +kernel)]; exact ⟨rfl, rfl⟩))
    (fun os started H enc _ => lifted os started H enc)

/-- ████ THE STATEMENT ████ -/
theorem proved : Rows.FnSplitsSaid := over
#print axioms proved
end Go.Proofs.Ytaabmaoldhoinaa.fnSplits
