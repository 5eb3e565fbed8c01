/-
  Following a route: contracts of Follow of both sides.
-/
import Derived.Test.YtpapkonejkdkhaaFolH
namespace Go.Proofs.Ytpapkonejkdkhaa
open Go.ChangeShapes Go.WideShapes Go.ChangeAt Go.RowKit
open Fld
set_option maxRecDepth 100000
set_option linter.unusedVariables false
set_option linter.unusedSimpArgs false
set_option maxHeartbeats 8000000 in
theorem i_Follow_1 {w : World} {n c n2 c2 m d : Nat} {A A2 A' : Option Addr} {l R cl : List Int} (hl : Ints .i64 w w.heap.size A n l) (hR : Ints .i64 w w.heap.size A2 n2 R) (hn2 : n2 ≤ c2) (hc2m : c2 ≤ 9223372036854775807) (hc : Ints .u8 w w.heap.size A' m cl) (hmd : m ≤ d) (hd : d ≤ 9223372036854775807) (hf : FolOk l R cl) (hc1 : c2 = 1) :
    Calls Try.prog 31 #[.slice A n c, .slice A2 n2 c2, .agg #[.slice A' m d]] w fun e w' => ∃ v, e = .returned (.tuple #[v, .bool (folL l R cl).2]) ∧ ReadsF w.heap.size w' v (folL l R cl).1 ∧ Below w.heap.size w w' := by
  have h8 : n = 8 := by rw [← hl.1]; exact hf.2.1
  have h80 : m = 80 := by rw [← hc.1]; exact hf.2.2.2
  have HRt := Lib.hid (show decide (Route R) = true from decide_eq_true hf.1)
  have HF := Lib.hid (decide_eq_true hf.2)
  have HS := Lib.hid hf.2.2.1
  have HL8 := Lib.hid hf.2.1
  have hc80 := Lib.hid hf.2.2.2
  have HR8 := Lib.hid hf.1.2.1
  have hRl := hf.1.1
  have HRn := Lib.hid hR.1
  rw [HRn.out] at hRl
  obtain ⟨i0, hi0, hz0, hz1, hz2⟩ := info_parts info_int
  clear hf
  subst h8 h80
  obtain ⟨b2, off2, rfl, hb2, hcells2⟩ := hR.2.1 (by omega)
  obtain ⟨Lr, hLr⟩ : ∃ x, R.drop 1 ++ [255] = x := ⟨_, rfl⟩
  have hLn : Lr.length = n2 := by have e := HRn.out; rw [← hLr, List.length_append, List.length_drop]; simp; omega
  have HLr := Lib.hid hLr
  have HLn := Lib.hid hLn
  clear hLr hLn
  subst hc1
  have hTl : Ints .i64 w w.heap.size (some ⟨b2, off2, none⟩) 0 (R.drop 1) := by
    rw [show R.drop 1 = [] from List.drop_eq_nil_of_le (by rw [HRn.out]; omega)]
    exact ⟨rfl, fun h => absurd h (by omega), by simp⟩
  go_enter Try.func31, Try.ntmps31
  go_wp2_with (first
    | (go_at_call 67; refine (i_RouteOk (reach hR (by repeat (first | (with_reducible exact Below.refl _ _) | (with_reducible assumption) | (with_reducible refine bel_alloc ?_ _) | (with_reducible refine bel_drew ?_) | (with_reducible refine below_drewN ?_ _) | (with_reducible refine bel_put ?_ (by first | exact Nat.le_refl _ | (simp; done) | (simp; omega)) _)))) (by omega) hn2 hc2m).mono ?_; rintro e w1 ⟨rfl, hb1⟩; rw [HRt.out]; have hs1 : Below w.heap.size w w1 := bel_trans (by repeat (first | (with_reducible exact Below.refl _ _) | (with_reducible assumption) | (with_reducible refine bel_alloc ?_ _) | (with_reducible refine bel_drew ?_) | (with_reducible refine below_drewN ?_ _) | (with_reducible refine bel_put ?_ (by first | exact Nat.le_refl _ | (simp; done) | (simp; omega)) _))) hb1; have bx1 : Box w1 w.heap.size 26 #[.slice A' 80 d] := (Box.new w _ _).below hb1 (by simp); have k1 := bx1.cell 0)
    | (go_at_call 63; refine (i_canFollow (reach hl hs1) (by omega) (reach hc hs1)).mono ?_; rintro e w2 ⟨rfl, hb2'⟩; rw [HF.out]; have hs2 : Below w.heap.size w w2 := bel_trans hs1 hb2'; have bx2 := bx1.below hb2' bx1.size)
    | (go_at_call 68; refine (i_clone (l := R.drop 1) (reach (reach hTl hs2) (by repeat (first | (with_reducible exact Below.refl _ _) | (with_reducible assumption) | (with_reducible refine bel_alloc ?_ _) | (with_reducible refine bel_drew ?_) | (with_reducible refine below_drewN ?_ _) | (with_reducible refine bel_put ?_ (by first | exact Nat.le_refl _ | (simp; done) | (simp; omega)) _)))) (by omega)).mono ?_; rintro e w3 ⟨v3, rfl, hO3, hb3⟩; have hs3 : Below w.heap.size w w3 := bel_trans hs2 (bel_trans (by repeat (first | (with_reducible exact Below.refl _ _) | (with_reducible assumption) | (with_reducible refine bel_alloc ?_ _) | (with_reducible refine bel_drew ?_) | (with_reducible refine below_drewN ?_ _) | (with_reducible refine bel_put ?_ (by first | exact Nat.le_refl _ | (simp; done) | (simp; omega)) _))) hb3); have bx3 := bx2.below hb3 bx2.size; have zz := bx2.size; have z3 := hb3.size; have hO3' := hO3.lower (base' := w.heap.size + 1) zz; have hd1 : (R.drop 1).length ≤ 4 := by rw [List.length_drop, HRn.out]; omega)
    | (at_builtin; refine wpList_app _ rfl (.tmp 24) (.tmp 25) _ rfl (w.heap.size + 1) 3 i0 _ 1 8 Try.underlying40 hi0 hz0 hz1 hz2 rfl (by omega) _ _ _ rfl (hO3'.1.alloc _) _ 1 1 [.int .i64 255] rfl (Src.one _ _ _) (one_int _ _) (by simp only [maxLen]; omega) (by omega) (by simp; omega) ?_; intro v4 w4 hown hgr hat; have hO4 := own_sn hO3' hown HLr.out.symm (by decide); have hs4 := below_sn hs3 hO3' (by omega) hgr; have bx4 := box_sn bx3 hO3' (by omega) hgr; obtain ⟨A26, c26, rfl, h26⟩ := hO4.cap; rw [HLn.out] at hO4 ⊢; clear hown hgr hat h26))
  clear k1
  go_loopw [8, 28] (fun v i wr => ∃ (k : Nat) (ld cl' : List Int), k ≤ n2 ∧ i = .int .i64 k ∧ ReadsF (w.heap.size + 1) wr v ld ∧ Own .i64 3 wr (w.heap.size + 1) (.slice A26 n2 c26) Lr ∧ (k < n2 → folL l R cl = folL l (R.drop k) cl' ∧ cl'.length = 80 ∧ Bytes cl') ∧ (k = n2 → folL l R cl = (ld, true)) ∧ CellAt wr w.heap.size cl' ∧ Below w.heap.size w wr) (fun _ i _ => n2 - (intOf i).toNat)
  case atStart => exact ⟨0, [], cl, by omega, rfl, ReadsF.nil _ _, hO4, fun _ => ⟨rfl, hc80.out, hc.bytes⟩, fun h => by omega, ⟨A', 80, d, bx4, hmd, hd, reach hc hs4⟩, hs4⟩
  case round =>
    obtain ⟨k, ld, cl', hk, rfl, hLd, hO, hgo, hend, hCA, hB⟩ := hrel
    obtain ⟨B, m', d', hX, hmd', hd', hI⟩ := id hCA
    have cx : wr.cell? ⟨w.heap.size, 0, none⟩ = some (.slice B m' d') := hX.cell 0
    by_cases hlt : k < n2
    · obtain ⟨hfo, hI80, hby⟩ := hgo hlt
      have HFo := Lib.hid hfo
      have hkR : k < R.length := by rw [HRn.out]; exact hlt
      have hr8 : 0 ≤ R.getD k 0 ∧ R.getD k 0 < 8 := HR8.out _ (by rw [List.getD_eq_getElem?_getD, List.getElem?_eq_getElem hkR]; exact List.getElem_mem _)
      have hc2 : wr.cell? ⟨b2, off2 + k, none⟩ = some (.int .i64 (R.getD k 0)) := cell_at hB hb2 (hcells2 k hlt)
      obtain ⟨q, hq⟩ : ∃ q, R.getD k 0 = q := ⟨_, rfl⟩
      have HQ := Lib.hid hq
      rw [hq] at hr8 hc2
      clear hq
      obtain ⟨p, rfl⟩ := Int.eq_ofNat_of_zero_le hr8.1
      have hp8 : p < 8 := by omega
      have hsx := HS.out.at_ (i := p) (by rw [HL8.out]; exact hp8)
      obtain ⟨b, off, rfl, hb, hcell, hwf⟩ := (reach hl hB).at_ hp8
      obtain ⟨Aq, cq, e26, -, -, h26⟩ := hO.cap
      injection e26 with e1 e2 e3
      subst e1
      clear e2 e3
      obtain ⟨b9, off9, rfl, hb9, hcell9, hwf9⟩ := h26.at_ (show k < Lr.length by rw [HLn.out]; exact hlt)
      have HNX := Lib.hid (show Lr.getD k 0 = (R.drop (k + 1)).getD 0 255 by rw [← HLr.out]; exact fol_nxt hkR)
      obtain ⟨nx, hnx⟩ : ∃ x, Lr.getD k 0 = x := ⟨_, rfl⟩
      rw [hnx] at hcell9 HNX
      obtain ⟨y, hy⟩ : ∃ y, l.getD p 0 = y := ⟨_, rfl⟩
      have HP := Lib.hid (fpeel_p (pad := zer) (show Sec (l.getD p 0) from hsx.1) hI80 (by rw [zer_len]; exact Nat.le_refl _))
      obtain ⟨r, hr⟩ : ∃ r, ppeel y cl' zer = r := ⟨_, rfl⟩
      have HST := Lib.hid (HFo.out.trans (fol_step (S := l) (c := cl') (r := r) hkR HQ.out (by rw [hy]; exact hr)))
      rw [hy] at hcell HP
      have HRr := Lib.hid hr
      have HBy := Lib.hid hby
      have H80 := Lib.hid hI80
      have HI := Lib.hid hI
      have HkR := Lib.hid hkR
      have hz8 := hX.size
      have q1 : (k : Int) < (n2 : Int) := by omega
      have q2 : (p : Int) < 8 := by omega
      obtain ⟨Av, nv, cv, rfl, hv⟩ := id hLd
      clear hy hr hsx hwf hfo hI80 hby hnx hwf9 h26 hgo hend hv hkR hr8 hI
      go_wp2_with fail
      go_cut [11, 12] (fun t11 t12 wx => ∃ (g : Nat) (AL AC : Option Addr) (nL cL nC cC : Nat), t11 = .pointer (some ⟨g, 0, none⟩) ∧ t12 = .bool r.2 ∧ Box wx g 28 #[.int .i64 r.1.next, .int .i64 r.1.due, .int .i64 r.1.tag, .slice AL nL cL, .slice AC nC cC] ∧ ReadsF wr.heap.size wx (.slice AL nL cL) r.1.load ∧ ReadsF wr.heap.size wx (.slice AC nC cC) r.1.cell ∧ Below wr.heap.size wr wx ∧ wr.heap.size ≤ g)
      case first =>
        refine wp_region_held_drew (S := (fun w' => w'.cell? ⟨w.heap.size, 0, none⟩ = some (Value.slice B m' d') ∧ w'.cell? ⟨b2, off2 + k, none⟩ = some (Value.int .i64 (p : Int)) ∧ w'.cell? ⟨b, off + p, none⟩ = some (Value.int .i64 y))) (by kernel_rfl) (by exact ⟨cx, hc2, hcell⟩) (fun hHeld => ?_)
        refine wpAnyH_take (i := 0) (oi := ⟨some 34, _, _, _, _, _⟩) (v := ?v1) rfl (by kernel_rfl) (by kernel_rfl) (by kernel_rfl) (fun _ _ _ h => h) (Or.inl ⟨by rfl, ?hy1⟩) (by assumption) ?_
        case hy1 => (intro w hSw; (try dsimp only at hSw); go_simp; try (with_reducible rfl))
        (try simp only [Act.put, List.setIfInBounds_toArray, List.set_cons_zero, List.set_cons_succ])
        refine wpAnyH_take (i := 1) (oi := ⟨some 35, _, _, _, _, _⟩) (v := ?v2) rfl (by kernel_rfl) (by kernel_rfl) (by kernel_rfl) (fun _ _ _ h => h) (Or.inl ⟨by rfl, ?hy2⟩) (by assumption) ?_
        case hy2 => (intro w hSw; (try dsimp only at hSw); go_simp; try (with_reducible rfl))
        (try simp only [Act.put, List.setIfInBounds_toArray, List.set_cons_zero, List.set_cons_succ])
        refine wpAnyH_take (i := 2) (oi := ⟨some 36, _, _, _, _, _⟩) (v := ?v3) rfl (by kernel_rfl) (by kernel_rfl) (by kernel_rfl) (fun _ _ _ h => h) (Or.inl ⟨by rfl, ?hy3⟩) (by assumption) ?_
        case hy3 => (intro w hSw; (try dsimp only at hSw); go_simp; try (with_reducible rfl))
        (try simp only [Act.put, List.setIfInBounds_toArray, List.set_cons_zero, List.set_cons_succ])
        refine wpAnyH_take (i := 3) (oi := ⟨some 37, _, _, _, _, _⟩) (v := ?v4) rfl (by kernel_rfl) (by kernel_rfl) (by kernel_rfl) (fun _ _ _ h => h) (Or.inl ⟨by rfl, ?hy4⟩) (by assumption) ?_
        case hy4 => (intro w hSw; (try dsimp only at hSw); go_simp; try (with_reducible rfl))
        (try simp only [Act.put, List.setIfInBounds_toArray, List.set_cons_zero, List.set_cons_succ])
        refine wpAnyH_take (i := 4) (oi := ⟨some 38, _, _, _, _, _⟩) (v := ?v5) rfl (by kernel_rfl) (by kernel_rfl) (by kernel_rfl) (fun _ _ _ h => h) (Or.inl ⟨by rfl, ?hy5⟩) (by assumption) ?_
        case hy5 => (intro w hSw; (try dsimp only at hSw); go_simp; try (with_reducible rfl))
        (try simp only [Act.put, List.setIfInBounds_toArray, List.set_cons_zero, List.set_cons_succ])
        refine wpAnyH_take (i := 5) (oi := ⟨some 39, _, _, _, _, _⟩) (v := ?v6) rfl (by kernel_rfl) (by kernel_rfl) (by kernel_rfl) (fun _ _ _ h => h) (Or.inl ⟨by rfl, ?hy6⟩) (by assumption) ?_
        case hy6 => (intro w hSw; (try dsimp only at hSw); go_simp; try (with_reducible rfl))
        (try simp only [Act.put, List.setIfInBounds_toArray, List.set_cons_zero, List.set_cons_succ])
        refine wpAnyH_take (i := 6) (oi := ⟨some 40, _, _, _, _, _⟩) (v := ?v7) rfl (by kernel_rfl) (by kernel_rfl) (by kernel_rfl) (fun _ _ _ h => h) (Or.inl ⟨by rfl, ?hy7⟩) (by assumption) ?_
        case hy7 => (intro w hSw; (try dsimp only at hSw); go_simp; try (with_reducible rfl))
        (try simp only [Act.put, List.setIfInBounds_toArray, List.set_cons_zero, List.set_cons_succ])
        refine wpAnyH_take (i := 7) (oi := ⟨some 41, _, _, _, _, _⟩) (v := ?v8) rfl (by kernel_rfl) (by kernel_rfl) (by kernel_rfl) (fun _ _ _ h => h) (Or.inl ⟨by rfl, ?hy8⟩) (by assumption) ?_
        case hy8 => (intro w hSw; (try dsimp only at hSw); go_simp; try (with_reducible rfl))
        (try simp only [Act.put, List.setIfInBounds_toArray, List.set_cons_zero, List.set_cons_succ])
        refine wpAnyH_ready (rs := [8, 12]) (by kernel_rfl) (by simp) ?_
        refine AllReadyH.cons rfl (fun K hK => ?_) ?_
        · have hX : Below wr.heap.size wr (wr.drew) := (by repeat (first | (with_reducible exact Below.refl _ _) | (with_reducible assumption) | (with_reducible refine bel_alloc ?_ _) | (with_reducible refine bel_drew ?_) | (with_reducible refine below_drewN ?_ _) | (with_reducible refine bel_put ?_ (by first | exact Nat.le_refl _ | (simp; done) | (simp; omega)) _)))
          go_simp
          go_at_call 65
          refine (i_peelPlain y (reach HI.out hX) hmd' hd').mono ?_
          rintro e w2 ⟨vL, vC, rfl, hRL, hRC, hb⟩
          rw [HP.out, HRr.out] at hRL hRC ⊢
          obtain ⟨AL, nL, cL, rfl, hL1, hL2, hIL, hLo⟩ := hRL
          obtain ⟨AC, nC, cC, rfl, hC1, hC2, hIC, hCo⟩ := hRC
          have hRL : ReadsF (wr.drew).heap.size w2 (.slice AL nL cL) r.1.load := ⟨AL, nL, cL, rfl, hL1, hL2, hIL, hLo⟩
          have hRC : ReadsF (wr.drew).heap.size w2 (.slice AC nC cC) r.1.cell := ⟨AC, nC, cC, rfl, hC1, hC2, hIC, hCo⟩
          have hx : Below wr.heap.size wr w2 := bel_trans hX hb
          go_wp2_with fail
          refine hK.out _ _ (by exact ⟨cell_bel hx cx, cell_bel hx hc2, cell_bel hx hcell⟩) (fun hHeld => ?_)
          clear hK K
          (try simp only [Act.put, List.setIfInBounds_toArray, List.set_cons_zero, List.set_cons_succ])
          refine wpAnyH_take (i := 9) (oi := ⟨some 33, _, _, _, _, _⟩) (v := ?v9) rfl (by kernel_rfl) (by kernel_rfl) (by kernel_rfl) (fun _ _ _ h => h) (Or.inl ⟨by rfl, ?hy9⟩) (by assumption) ?_
          case hy9 => (intro w hSw; (try dsimp only at hSw); go_simp; try (with_reducible rfl))
          (try simp only [Act.put, List.setIfInBounds_toArray, List.set_cons_zero, List.set_cons_succ])
          refine wpAnyH_take (i := 10) (oi := ⟨some 43, _, _, _, _, _⟩) (v := ?v10) rfl (by kernel_rfl) (by kernel_rfl) (by kernel_rfl) (fun _ _ _ h => h) (Or.inl ⟨by rfl, ?hy10⟩) (by assumption) ?_
          case hy10 => (intro w hSw; (try dsimp only at hSw); go_simp; try (with_reducible rfl))
          (try simp only [Act.put, List.setIfInBounds_toArray, List.set_cons_zero, List.set_cons_succ])
          refine wpAnyH_take (i := 11) (oi := ⟨some 44, _, _, _, _, _⟩) (v := ?v11) rfl (by kernel_rfl) (by kernel_rfl) (by kernel_rfl) (fun _ _ _ h => h) (Or.inl ⟨by rfl, ?hy11⟩) (by assumption) ?_
          case hy11 => (intro w hSw; (try dsimp only at hSw); go_simp; try (with_reducible rfl))
          (try simp only [Act.put, List.setIfInBounds_toArray, List.set_cons_zero, List.set_cons_succ])
          refine wpAnyH_ready (rs := [12]) (by kernel_rfl) (by simp) ?_
          refine AllReadyH.cons rfl (fun K hK => ?_) ?_
          · go_simp
            refine hK.out _ _ (by exact ⟨cell_bel (show Below wr.heap.size wr (w2.alloc (.cells #[.int .i64 0, .int .i64 0, .int .i64 0, .slice none 0 0, .slice none 0 0] 28)) from bel_alloc hx _) cx, cell_bel (show Below wr.heap.size wr (w2.alloc (.cells #[.int .i64 0, .int .i64 0, .int .i64 0, .slice none 0 0, .slice none 0 0] 28)) from bel_alloc hx _) hc2, cell_bel (show Below wr.heap.size wr (w2.alloc (.cells #[.int .i64 0, .int .i64 0, .int .i64 0, .slice none 0 0, .slice none 0 0] 28)) from bel_alloc hx _) hcell⟩) (fun hHeld => ?_)
            clear hK K
            (try simp only [Act.put, List.setIfInBounds_toArray, List.set_cons_zero, List.set_cons_succ])
            refine wpAnyH_ready (rs := [13]) (by kernel_rfl) (by simp) ?_
            refine AllReadyH.cons rfl (fun K hK => ?_) ?_
            · have Zg : Box (w2.alloc (.cells #[.int .i64 r.1.next, .int .i64 r.1.due, .int .i64 r.1.tag, .slice AL nL cL, .slice AC nC cC] 28)) w2.heap.size 28 #[.int .i64 r.1.next, .int .i64 r.1.due, .int .i64 r.1.tag, .slice AL nL cL, .slice AC nC cC] := Box.new _ _ _
              have hfin : Below wr.heap.size wr (w2.alloc (.cells #[.int .i64 r.1.next, .int .i64 r.1.due, .int .i64 r.1.tag, .slice AL nL cL, .slice AC nC cC] 28)) := bel_alloc hx _
              have hgl : wr.heap.size ≤ w2.heap.size := hx.size
              have hRL2 := (hRL.below (show Below w2.heap.size w2 (w2.alloc (.cells #[.int .i64 r.1.next, .int .i64 r.1.due, .int .i64 r.1.tag, .slice AL nL cL, .slice AC nC cC] 28)) from bel_alloc (Below.refl _ _) _)).lower (B' := wr.heap.size) (by first | exact Nat.le_refl _ | (show _ ≤ (World.alloc _ _).heap.size; first | (simp; done) | (simp; omega)))
              have hRC2 := (hRC.below (show Below w2.heap.size w2 (w2.alloc (.cells #[.int .i64 r.1.next, .int .i64 r.1.due, .int .i64 r.1.tag, .slice AL nL cL, .slice AC nC cC] 28)) from bel_alloc (Below.refl _ _) _)).lower (B' := wr.heap.size) (by first | exact Nat.le_refl _ | (show _ ≤ (World.alloc _ _).heap.size; first | (simp; done) | (simp; omega)))
              go_simp
              refine hK.out _ _ (by exact ⟨cell_bel hfin cx, cell_bel hfin hc2, cell_bel hfin hcell⟩) (fun hHeld => ?_)
              clear hK K
              (try simp only [Act.put, List.setIfInBounds_toArray, List.set_cons_zero, List.set_cons_succ])
              refine wpAnyH_take (i := 14) (oi := ⟨some 12, _, _, _, _, _⟩) (v := ?v12) rfl (by kernel_rfl) (by kernel_rfl) (by kernel_rfl) (fun _ _ _ h => h) (Or.inl ⟨by rfl, ?hy12⟩) (by assumption) ?_
              case hy12 => (intro w hSw; (try dsimp only at hSw); go_simp; try (with_reducible rfl))
              (try simp only [Act.put, List.setIfInBounds_toArray, List.set_cons_zero, List.set_cons_succ])
              refine wpAnyH_done (by kernel_rfl) ?_ _
              go_wp2_with fail
              go_meet
              exact ⟨_, AL, AC, nL, cL, nC, cC, rfl, rfl, by first | exact Zg | simpa using Zg, hRL2, hRC2, by first | exact hfin | simpa using hfin, hgl⟩
            exact AllReadyH.nil
          exact AllReadyH.nil
        refine AllReadyH.cons rfl (fun K hK => ?_) ?_
        · go_simp
          refine hK.out _ _ (by exact ⟨cell_bel (show Below wr.heap.size wr ((wr.alloc (.cells #[.int .i64 0, .int .i64 0, .int .i64 0, .slice none 0 0, .slice none 0 0] 28)).drew) from (by repeat (first | (with_reducible exact Below.refl _ _) | (with_reducible assumption) | (with_reducible refine bel_alloc ?_ _) | (with_reducible refine bel_drew ?_) | (with_reducible refine below_drewN ?_ _) | (with_reducible refine bel_put ?_ (by first | exact Nat.le_refl _ | (simp; done) | (simp; omega)) _)))) cx, cell_bel (show Below wr.heap.size wr ((wr.alloc (.cells #[.int .i64 0, .int .i64 0, .int .i64 0, .slice none 0 0, .slice none 0 0] 28)).drew) from (by repeat (first | (with_reducible exact Below.refl _ _) | (with_reducible assumption) | (with_reducible refine bel_alloc ?_ _) | (with_reducible refine bel_drew ?_) | (with_reducible refine below_drewN ?_ _) | (with_reducible refine bel_put ?_ (by first | exact Nat.le_refl _ | (simp; done) | (simp; omega)) _)))) hc2, cell_bel (show Below wr.heap.size wr ((wr.alloc (.cells #[.int .i64 0, .int .i64 0, .int .i64 0, .slice none 0 0, .slice none 0 0] 28)).drew) from (by repeat (first | (with_reducible exact Below.refl _ _) | (with_reducible assumption) | (with_reducible refine bel_alloc ?_ _) | (with_reducible refine bel_drew ?_) | (with_reducible refine below_drewN ?_ _) | (with_reducible refine bel_put ?_ (by first | exact Nat.le_refl _ | (simp; done) | (simp; omega)) _)))) hcell⟩) (fun hHeld => ?_)
          clear hK K
          (try simp only [Act.put, List.setIfInBounds_toArray, List.set_cons_zero, List.set_cons_succ])
          refine wpAnyH_ready (rs := [8]) (by kernel_rfl) (by simp) ?_
          refine AllReadyH.cons rfl (fun K hK => ?_) ?_
          · have hX : Below wr.heap.size wr ((wr.alloc (.cells #[.int .i64 0, .int .i64 0, .int .i64 0, .slice none 0 0, .slice none 0 0] 28)).drew) := (by repeat (first | (with_reducible exact Below.refl _ _) | (with_reducible assumption) | (with_reducible refine bel_alloc ?_ _) | (with_reducible refine bel_drew ?_) | (with_reducible refine below_drewN ?_ _) | (with_reducible refine bel_put ?_ (by first | exact Nat.le_refl _ | (simp; done) | (simp; omega)) _)))
            go_simp
            go_at_call 65
            refine (i_peelPlain y (reach HI.out hX) hmd' hd').mono ?_
            rintro e w2 ⟨vL, vC, rfl, hRL, hRC, hb⟩
            rw [HP.out, HRr.out] at hRL hRC ⊢
            obtain ⟨AL, nL, cL, rfl, hL1, hL2, hIL, hLo⟩ := hRL
            obtain ⟨AC, nC, cC, rfl, hC1, hC2, hIC, hCo⟩ := hRC
            have hRL : ReadsF ((wr.alloc (.cells #[.int .i64 0, .int .i64 0, .int .i64 0, .slice none 0 0, .slice none 0 0] 28)).drew).heap.size w2 (.slice AL nL cL) r.1.load := ⟨AL, nL, cL, rfl, hL1, hL2, hIL, hLo⟩
            have hRC : ReadsF ((wr.alloc (.cells #[.int .i64 0, .int .i64 0, .int .i64 0, .slice none 0 0, .slice none 0 0] 28)).drew).heap.size w2 (.slice AC nC cC) r.1.cell := ⟨AC, nC, cC, rfl, hC1, hC2, hIC, hCo⟩
            have hx : Below wr.heap.size wr w2 := bel_trans hX hb
            have Zb : Box ((wr.alloc (.cells #[.int .i64 0, .int .i64 0, .int .i64 0, .slice none 0 0, .slice none 0 0] 28)).drew) (wr.heap.size) 28 #[.int .i64 0, .int .i64 0, .int .i64 0, .slice none 0 0, .slice none 0 0] := Box.drew (show Box ((wr.alloc (.cells #[.int .i64 0, .int .i64 0, .int .i64 0, .slice none 0 0, .slice none 0 0] 28))) (wr.heap.size) 28 #[.int .i64 0, .int .i64 0, .int .i64 0, .slice none 0 0, .slice none 0 0] from by simpa using Box.new wr 28 #[.int .i64 0, .int .i64 0, .int .i64 0, .slice none 0 0, .slice none 0 0])
            replace Zb := Box.below Zb hb Zb.size
            have zb0 := Zb.cell 0; have zf0 := Zb.frozen 0
            have zb1 := Zb.cell 1; have zf1 := Zb.frozen 1
            have zb2 := Zb.cell 2; have zf2 := Zb.frozen 2
            have zb3 := Zb.cell 3; have zf3 := Zb.frozen 3
            have zb4 := Zb.cell 4; have zf4 := Zb.frozen 4
            go_wp2_with fail
            refine hK.out _ _ (by exact ⟨cell_bel hx cx, cell_bel hx hc2, cell_bel hx hcell⟩) (fun hHeld => ?_)
            clear hK K
            (try simp only [Act.put, List.setIfInBounds_toArray, List.set_cons_zero, List.set_cons_succ])
            refine wpAnyH_take (i := 9) (oi := ⟨some 33, _, _, _, _, _⟩) (v := ?v13) rfl (by kernel_rfl) (by kernel_rfl) (by kernel_rfl) (fun _ _ _ h => h) (Or.inl ⟨by rfl, ?hy13⟩) (by assumption) ?_
            case hy13 => (intro w hSw; (try dsimp only at hSw); go_simp; try (with_reducible rfl))
            (try simp only [Act.put, List.setIfInBounds_toArray, List.set_cons_zero, List.set_cons_succ])
            refine wpAnyH_take (i := 10) (oi := ⟨some 43, _, _, _, _, _⟩) (v := ?v14) rfl (by kernel_rfl) (by kernel_rfl) (by kernel_rfl) (fun _ _ _ h => h) (Or.inl ⟨by rfl, ?hy14⟩) (by assumption) ?_
            case hy14 => (intro w hSw; (try dsimp only at hSw); go_simp; try (with_reducible rfl))
            (try simp only [Act.put, List.setIfInBounds_toArray, List.set_cons_zero, List.set_cons_succ])
            refine wpAnyH_take (i := 11) (oi := ⟨some 44, _, _, _, _, _⟩) (v := ?v15) rfl (by kernel_rfl) (by kernel_rfl) (by kernel_rfl) (fun _ _ _ h => h) (Or.inl ⟨by rfl, ?hy15⟩) (by assumption) ?_
            case hy15 => (intro w hSw; (try dsimp only at hSw); go_simp; try (with_reducible rfl))
            (try simp only [Act.put, List.setIfInBounds_toArray, List.set_cons_zero, List.set_cons_succ])
            refine wpAnyH_ready (rs := [13]) (by kernel_rfl) (by simp) ?_
            refine AllReadyH.cons rfl (fun K hK => ?_) ?_
            · have hgl : wr.heap.size ≤ wr.heap.size := by omega
              have hfin := (bel_put (bel_put (bel_put (bel_put (bel_put hx (p := ⟨wr.heap.size, 0, none⟩) (by show wr.heap.size ≤ wr.heap.size; omega) (.int .i64 r.1.next)) (p := ⟨wr.heap.size, 1, none⟩) (by show wr.heap.size ≤ wr.heap.size; omega) (.int .i64 r.1.due)) (p := ⟨wr.heap.size, 2, none⟩) (by show wr.heap.size ≤ wr.heap.size; omega) (.int .i64 r.1.tag)) (p := ⟨wr.heap.size, 3, none⟩) (by show wr.heap.size ≤ wr.heap.size; omega) (.slice AL nL cL)) (p := ⟨wr.heap.size, 4, none⟩) (by show wr.heap.size ≤ wr.heap.size; omega) (.slice AC nC cC))
              have Zg := (((((Zb.put 0 (.int .i64 r.1.next)).put 1 (.int .i64 r.1.due)).put 2 (.int .i64 r.1.tag)).put 3 (.slice AL nL cL)).put 4 (.slice AC nC cC))
              have hgB : wr.heap.size < (((wr.alloc (.cells #[.int .i64 0, .int .i64 0, .int .i64 0, .slice none 0 0, .slice none 0 0] 28))).drew).heap.size := by show wr.heap.size < (World.alloc _ _).heap.size; first | (simp; done) | (simp; omega)
              have hRL2 := (((((hRL.put hgB 0 (.int .i64 r.1.next)).put hgB 1 (.int .i64 r.1.due)).put hgB 2 (.int .i64 r.1.tag)).put hgB 3 (.slice AL nL cL)).put hgB 4 (.slice AC nC cC)).lower (B' := wr.heap.size) (by show _ ≤ (World.alloc _ _).heap.size; first | (simp; done) | (simp; omega))
              have hRC2 := (((((hRC.put hgB 0 (.int .i64 r.1.next)).put hgB 1 (.int .i64 r.1.due)).put hgB 2 (.int .i64 r.1.tag)).put hgB 3 (.slice AL nL cL)).put hgB 4 (.slice AC nC cC)).lower (B' := wr.heap.size) (by show _ ≤ (World.alloc _ _).heap.size; first | (simp; done) | (simp; omega))
              go_simp
              refine hK.out _ _ (by exact ⟨cell_bel hfin cx, cell_bel hfin hc2, cell_bel hfin hcell⟩) (fun hHeld => ?_)
              clear hK K
              (try simp only [Act.put, List.setIfInBounds_toArray, List.set_cons_zero, List.set_cons_succ])
              refine wpAnyH_take (i := 14) (oi := ⟨some 12, _, _, _, _, _⟩) (v := ?v16) rfl (by kernel_rfl) (by kernel_rfl) (by kernel_rfl) (fun _ _ _ h => h) (Or.inl ⟨by rfl, ?hy16⟩) (by assumption) ?_
              case hy16 => (intro w hSw; (try dsimp only at hSw); go_simp; try (with_reducible rfl))
              (try simp only [Act.put, List.setIfInBounds_toArray, List.set_cons_zero, List.set_cons_succ])
              refine wpAnyH_done (by kernel_rfl) ?_ _
              go_wp2_with fail
              go_meet
              exact ⟨_, AL, AC, nL, cL, nC, cC, rfl, rfl, by first | exact Zg | simpa using Zg, hRL2, hRC2, by first | exact hfin | simpa using hfin, hgl⟩
            exact AllReadyH.nil
          exact AllReadyH.nil
        exact AllReadyH.nil
      case rest =>
      obtain ⟨g, AL, AC, nL, cL, nC, cC, rfl, rfl, Zg, hRL, hRC, hsx, hgl⟩ := hcut
      have hX2 := hX.below hsx hX.size
      have hB2 := bel_trans hB hsx
      have hO2 := hO.below hsx
      have z0 := Zg.cell 0; have z3 := Zg.cell 3; have z4 := Zg.cell 4; have x0 := hX2.cell 0; have f0 := hX2.frozen 0
      have hsz := hsx.size
      rcases hok : r.2 with _ | _
      · have HE := Lib.hid (show folL l R cl = ([], false) by rw [HST.out, if_neg (fun h => by rw [hok] at h; exact absurd h.1 (by simp))])
        clear hok
        go_wp2
        refine bodyPost_ret (v := .tuple #[.slice none 0 0, .bool false]) (by simp [results, Try.results31, go_sem]) rfl ?_
        exact ⟨_, by rw [HE.out], by rw [HE.out]; exact ReadsF.nil _ _, hB2⟩
      · by_cases hn : r.1.next = nx
        · have HE := Lib.hid (show folL l R cl = if k + 1 = R.length then (r.1.load, true) else folL l (R.drop (k + 1)) r.1.cell by rw [HST.out, if_pos ⟨hok, by rw [hn, HNX.out]⟩])
          have hgo := reach_go (s := y) HBy.out H80.out (by rw [HRr.out, hok])
          rw [HRr.out] at hgo
          have HN8 := Lib.hid (show k + 1 < n2 → 0 ≤ r.1.next ∧ r.1.next < 8 from fun h => by rw [hn, HNX.out]; exact fol_mid HR8.out (by rw [HRn.out]; exact h))
          have qn : (r.1.next != nx) = false := by simp [hn]
          clear hok hn
          obtain ⟨A9, n9, c9, e9, hC1, hC2, hIC, -⟩ := hRC
          injection e9 with e91 e92 e93
          subst e91 e92 e93
          have hRL2 := hRL.lower (B' := w.heap.size + 1) (by omega)
          go_wp2_with fail
          go_region
          go_wp2_with fail
          go_roundw
          case rel => exact ⟨k + 1, r.1.load, r.1.cell, by omega, by go_num, hRL2.put (by omega) 0 _, hO2.far (g := w.heap.size) (by omega) 0 _, fun h => ⟨by rw [HE.out, if_neg (by rw [HRn.out]; omega)], hgo.2.1 (HN8.out h), hgo.2.2⟩, fun h => by rw [HE.out, if_pos (by rw [HRn.out]; omega)], CellAt.put hX2 (sno _ _ _) hC1 hC2 hIC, by first | exact bel_drew (bel_put hB2 (Nat.le_refl _) _) | exact bel_put hB2 (Nat.le_refl _) _⟩
          case measure => simp [intOf]; omega
        · have HE := Lib.hid (show folL l R cl = ([], false) by rw [HST.out, if_neg (fun h => hn (by rw [h.2, HNX.out]))])
          have qn : (r.1.next != nx) = true := by simpa using hn
          clear hok hn
          go_wp2
          refine bodyPost_ret (v := .tuple #[.slice none 0 0, .bool false]) (by simp [results, Try.results31, go_sem]) rfl ?_
          exact ⟨_, by rw [HE.out], by rw [HE.out]; exact ReadsF.nil _ _, hB2⟩
    · obtain rfl : k = n2 := by omega
      have HE := Lib.hid (hend rfl)
      obtain ⟨Av, nv, cv, rfl, hv⟩ := id hLd
      clear hend hgo hv
      go_wp2
      refine bodyPost_ret (v := .tuple #[.slice Av nv cv, .bool true]) (by simp [results, Try.results31, go_sem]) rfl ?_
      exact ⟨_, by rw [HE.out], by rw [HE.out]; exact hLd.lower (by omega), hB⟩
end Go.Proofs.Ytpapkonejkdkhaa
