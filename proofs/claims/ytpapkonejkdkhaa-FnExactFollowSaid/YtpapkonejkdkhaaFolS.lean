/-
  Following a route: contracts of Follow of the model.
-/
import Derived.Test.YtpapkonejkdkhaaFolH
namespace Go.Proofs.Ytpapkonejkdkhaa
open Go.ChangeShapes Go.WideShapes Go.ChangeAt Go.RowKit
open Fld
set_option maxRecDepth 100000
set_option linter.unusedVariables false
set_option linter.unusedSimpArgs false
set_option maxHeartbeats 8000000 in
theorem s_Follow_t {w : World} {n c n2 c2 m d : Nat} {A A2 A' : Option Addr} {l R cl : List Int} (hl : Ints .i64 w w.heap.size A n l) (hR : Ints .i64 w w.heap.size A2 n2 R) (hc : Ints .u8 w w.heap.size A' m cl) (hmd : m ≤ d) (hd : d ≤ 9223372036854775807) (hf : FolOk l R cl) :
    Calls Try.prog 30 #[.slice A n c, .slice A2 n2 c2, .agg #[.slice A' m d]] w fun e w' => ∃ v, e = .returned (.tuple #[v, .bool (folL l R cl).2]) ∧ ReadsF w.heap.size w' v (folL l R cl).1 ∧ Below w.heap.size w w' := by
  have h8 : n = 8 := by rw [← hl.1]; exact hf.2.1
  have h80 : m = 80 := by rw [← hc.1]; exact hf.2.2.2
  have HRt := Lib.hid (show decide (Route R) = true from decide_eq_true hf.1)
  have HSd := Lib.hid (show decide (Secs l) = true from decide_eq_true hf.2.2.1)
  have HS := Lib.hid hf.2.2.1
  have HL8 := Lib.hid hf.2.1
  have hc80 := Lib.hid hf.2.2.2
  have HR8 := Lib.hid hf.1.2.1
  have hRl := hf.1.1
  have HRn := Lib.hid hR.1
  rw [HRn.out] at hRl
  obtain ⟨j0, hj0, hj1, hj2, hj3⟩ := info_parts info_by
  have hmk : ∀ W : World, (Instr.makeSlice 22 (.int .i64 80) (.int .i64 80)).run Try.prog W = .ok (.slice (some ⟨W.heap.size, 0, none⟩) 80 80) (W.alloc (.cells (madeCells #[Value.int .u8 0] 80) 5)) := fun W => run_make_row' (P := Try.prog) 22 5 (.int .u8 0) 1 Try.underlying22 info_by rfl .i64 .i64 80 (by omega) (by omega) W
  clear hf
  subst h8 h80
  obtain ⟨b2, off2, rfl, hb2, hcells2⟩ := hR.2.1 (by omega)
  go_enter Try.func30, Try.ntmps30
  go_wp2_with (first
    | (go_at_call 66; refine (s_RouteOk (reach hR (by repeat (first | (with_reducible exact Below.refl _ _) | (with_reducible assumption) | (with_reducible refine bel_alloc ?_ _) | (with_reducible refine bel_drew ?_) | (with_reducible refine below_drewN ?_ _) | (with_reducible refine bel_put ?_ (by first | exact Nat.le_refl _ | (simp; done) | (simp; omega)) _)))) (by omega)).mono ?_; rintro e w1 ⟨rfl, hb1⟩; rw [HRt.out]; have hs1 : Below w.heap.size w w1 := bel_trans (by repeat (first | (with_reducible exact Below.refl _ _) | (with_reducible assumption) | (with_reducible refine bel_alloc ?_ _) | (with_reducible refine bel_drew ?_) | (with_reducible refine below_drewN ?_ _) | (with_reducible refine bel_put ?_ (by first | exact Nat.le_refl _ | (simp; done) | (simp; omega)) _))) hb1; have bx1 : Box w1 w.heap.size 26 #[.slice A' 80 d] := (Box.new w _ _).below hb1 (by simp); have k1 := bx1.cell 0)
    | (go_at_call 62; refine (s_secs (reach hl hs1) (by omega)).mono ?_; rintro e w' ⟨rfl, rfl⟩; rw [HSd.out])
    | (go_at_call 49; refine (s_CellOk_t _ _ _ _ rfl).mono ?_; rintro e w2 ⟨rfl, hb2'⟩; have hs2 : Below w.heap.size w w2 := bel_trans hs1 hb2'; have bx2 := bx1.below hb2' bx1.size; have k2 := bx2.cell 0; have bx : Box (w2.alloc (.cells #[.slice A' 80 d] 26)) w2.heap.size 26 #[.slice A' 80 d] := Box.new _ _ _; have hBw : Below w.heap.size w (w2.alloc (.cells #[.slice A' 80 d] 26)) := bel_alloc hs2 _; have hgx := hs2.size))
  clear k1 k2
  generalize w2.heap.size = gx at *
  go_loopw [9] (fun i wr => ∃ (k : Nat) (cl' : List Int), k < n2 ∧ i = .int .i64 k ∧ folL l R cl = folL l (R.drop k) cl' ∧ cl'.length = 80 ∧ Bytes cl' ∧ CellAt wr gx cl' ∧ Below w.heap.size w wr ∧ gx < wr.heap.size) (fun i _ => n2 - (intOf i).toNat)
  case atStart => exact ⟨0, cl, by omega, rfl, rfl, hc80.out, hc.bytes, ⟨A', 80, d, bx, hmd, hd, reach hc hBw⟩, hBw, bx.size⟩
  case round =>
    obtain ⟨k, cl', hlt, rfl, hfo, hI80, hby, hCA, hB, hzx⟩ := hrel
    obtain ⟨B, m', d', hX, hmd', hd', hI⟩ := id hCA
    obtain rfl : m' = 80 := by have := hI.1; omega
    have cx : wr.cell? ⟨gx, 0, none⟩ = some (.slice B 80 d') := hX.cell 0
    have HFo := Lib.hid hfo
    have hkR : k < R.length := by rw [HRn.out]; exact hlt
    have hr8 : 0 ≤ R.getD k 0 ∧ R.getD k 0 < 8 := HR8.out _ (by rw [List.getD_eq_getElem?_getD, List.getElem?_eq_getElem hkR]; exact List.getElem_mem _)
    have hc2 : wr.cell? ⟨b2, off2 + k, none⟩ = some (.int .i64 (R.getD k 0)) := cell_at hB hb2 (hcells2 k hlt)
    obtain ⟨q, hq⟩ : ∃ q, R.getD k 0 = q := ⟨_, rfl⟩
    have HQ := Lib.hid hq
    rw [hq] at hr8 hc2
    clear hq
    obtain ⟨p, rfl⟩ := Int.eq_ofNat_of_zero_le hr8.1
    have hp8 : p < 8 := by omega
    have hsx := HS.out.at_ (i := p) (by rw [HL8.out]; exact hp8)
    obtain ⟨b, off, rfl, hb, hcell, hwf⟩ := (reach hl hB).at_ hp8
    obtain ⟨y, hy⟩ : ∃ y, l.getD p 0 = y := ⟨_, rfl⟩
    have HSec := Lib.hid (show Sec (l.getD p 0) from hsx.1)
    obtain ⟨r, hr⟩ : ∃ r, ppeel y cl' zer = r := ⟨_, rfl⟩
    have HST := Lib.hid (HFo.out.trans (fol_step (S := l) (c := cl') (r := r) hkR HQ.out (by rw [hy]; exact hr)))
    rw [hy] at hcell HSec
    have HRr := Lib.hid hr
    have HBy := Lib.hid hby
    have H80 := Lib.hid hI80
    have HI := Lib.hid hI
    have HkR := Lib.hid hkR
    have HLn := Lib.hid (show r.2 = true → r.1.load.length ≤ 24 from fun h => by rw [← hr] at h ⊢; exact ppeel_load_len hI80 h)
    have HLz := Lib.hid (show r.1.next ≠ 255 → r.1.load = [] from fun h => by rw [← hr] at h ⊢; exact ppeel_load_nil h)
    have q1 : (k : Int) < (n2 : Int) := by omega
    have q2 : (p : Int) < 8 := by omega
    clear hy hr hsx hwf hfo hI80 hby hkR hr8 hI
    go_wp2_with fail
    go_wp2_with fail
    go_cut [10, 11] (fun t10 t11 wx => ∃ (g : Nat) (AL AC : Option Addr) (nL cL nC cC : Nat), t10 = .pointer (some ⟨g, 0, none⟩) ∧ t11 = .bool r.2 ∧ Box wx g 28 #[.int .i64 r.1.next, .int .i64 r.1.due, .int .i64 r.1.tag, .slice AL nL cL, .slice AC nC cC] ∧ ReadsF wr.heap.size wx (.slice AL nL cL) r.1.load ∧ ReadsF wr.heap.size wx (.slice AC nC cC) r.1.cell ∧ Below wr.heap.size wr wx ∧ wr.heap.size ≤ g)
    case first =>
      refine wp_region_held_drew (S := (fun w' => w'.cell? ⟨gx, 0, none⟩ = some (Value.slice B 80 d') ∧ w'.cell? ⟨b2, off2 + k, none⟩ = some (Value.int .i64 (p : Int)) ∧ w'.cell? ⟨b, off + p, none⟩ = some (Value.int .i64 y))) (by kernel_rfl) (by exact ⟨cx, hc2, hcell⟩) (fun hHeld => ?_)
      refine wpAnyH_take (i := 0) (oi := ⟨some 38, _, _, _, _, _⟩) (v := ?v17) rfl (by kernel_rfl) (by kernel_rfl) (by kernel_rfl) (fun _ _ _ h => h) (Or.inl ⟨by rfl, ?hy17⟩) (by assumption) ?_
      case hy17 => (intro w hSw; (try dsimp only at hSw); go_simp; try (with_reducible rfl))
      (try simp only [Act.put, List.setIfInBounds_toArray, List.set_cons_zero, List.set_cons_succ])
      refine wpAnyH_take (i := 1) (oi := ⟨some 39, _, _, _, _, _⟩) (v := ?v18) rfl (by kernel_rfl) (by kernel_rfl) (by kernel_rfl) (fun _ _ _ h => h) (Or.inl ⟨by rfl, ?hy18⟩) (by assumption) ?_
      case hy18 => (intro w hSw; (try dsimp only at hSw); go_simp; try (with_reducible rfl))
      (try simp only [Act.put, List.setIfInBounds_toArray, List.set_cons_zero, List.set_cons_succ])
      refine wpAnyH_take (i := 2) (oi := ⟨some 40, _, _, _, _, _⟩) (v := ?v19) rfl (by kernel_rfl) (by kernel_rfl) (by kernel_rfl) (fun _ _ _ h => h) (Or.inl ⟨by rfl, ?hy19⟩) (by assumption) ?_
      case hy19 => (intro w hSw; (try dsimp only at hSw); go_simp; try (with_reducible rfl))
      (try simp only [Act.put, List.setIfInBounds_toArray, List.set_cons_zero, List.set_cons_succ])
      refine wpAnyH_take (i := 3) (oi := ⟨some 41, _, _, _, _, _⟩) (v := ?v20) rfl (by kernel_rfl) (by kernel_rfl) (by kernel_rfl) (fun _ _ _ h => h) (Or.inl ⟨by rfl, ?hy20⟩) (by assumption) ?_
      case hy20 => (intro w hSw; (try dsimp only at hSw); go_simp; try (with_reducible rfl))
      (try simp only [Act.put, List.setIfInBounds_toArray, List.set_cons_zero, List.set_cons_succ])
      refine wpAnyH_take (i := 4) (oi := ⟨some 42, _, _, _, _, _⟩) (v := ?v21) rfl (by kernel_rfl) (by kernel_rfl) (by kernel_rfl) (fun _ _ _ h => h) (Or.inl ⟨by rfl, ?hy21⟩) (by assumption) ?_
      case hy21 => (intro w hSw; (try dsimp only at hSw); go_simp; try (with_reducible rfl))
      (try simp only [Act.put, List.setIfInBounds_toArray, List.set_cons_zero, List.set_cons_succ])
      refine wpAnyH_take (i := 5) (oi := ⟨some 43, _, _, _, _, _⟩) (v := ?v22) rfl (by kernel_rfl) (by kernel_rfl) (by kernel_rfl) (fun _ _ _ h => h) (Or.inl ⟨by rfl, ?hy22⟩) (by assumption) ?_
      case hy22 => (intro w hSw; (try dsimp only at hSw); go_simp; try (with_reducible rfl))
      (try simp only [Act.put, List.setIfInBounds_toArray, List.set_cons_zero, List.set_cons_succ])
      refine wpAnyH_take (i := 6) (oi := ⟨some 44, _, _, _, _, _⟩) (v := ?v23) rfl (by kernel_rfl) (by kernel_rfl) (by kernel_rfl) (fun _ _ _ h => h) (Or.inl ⟨by rfl, ?hy23⟩) (by assumption) ?_
      case hy23 => (intro w hSw; (try dsimp only at hSw); go_simp; try (with_reducible rfl))
      (try simp only [Act.put, List.setIfInBounds_toArray, List.set_cons_zero, List.set_cons_succ])
      refine wpAnyH_take (i := 7) (oi := ⟨some 45, _, _, _, _, _⟩) (v := ?v24) rfl (by kernel_rfl) (by kernel_rfl) (by kernel_rfl) (fun _ _ _ h => h) (Or.inl ⟨by rfl, ?hy24⟩) (by assumption) ?_
      case hy24 => (intro w hSw; (try dsimp only at hSw); go_simp; try (with_reducible rfl))
      (try simp only [Act.put, List.setIfInBounds_toArray, List.set_cons_zero, List.set_cons_succ])
      refine wpAnyH_take (i := 8) (oi := ⟨some 46, _, _, _, _, _⟩) (v := ?v25) rfl (by kernel_rfl) (by kernel_rfl) (by kernel_rfl) (fun _ _ _ h => h) (Or.inl ⟨by rfl, ?hy25⟩) (by assumption) ?_
      case hy25 => (intro w hSw; (try dsimp only at hSw); go_simp; try (with_reducible rfl))
      (try simp only [Act.put, List.setIfInBounds_toArray, List.set_cons_zero, List.set_cons_succ])
      refine wpAnyH_ready (rs := [9, 14]) (by kernel_rfl) (by simp) ?_
      refine AllReadyH.cons rfl (fun K hK => ?_) ?_
      · go_simp
        refine hK.out _ _ (by exact ⟨cell_bel (show Below wr.heap.size wr ((wr.alloc (.cells (madeCells #[Value.int .u8 0] 80) 5)).drew) from (by repeat (first | (with_reducible exact Below.refl _ _) | (with_reducible assumption) | (with_reducible refine bel_alloc ?_ _) | (with_reducible refine bel_drew ?_) | (with_reducible refine below_drewN ?_ _) | (with_reducible refine bel_put ?_ (by first | exact Nat.le_refl _ | (simp; done) | (simp; omega)) _)))) cx, cell_bel (show Below wr.heap.size wr ((wr.alloc (.cells (madeCells #[Value.int .u8 0] 80) 5)).drew) from (by repeat (first | (with_reducible exact Below.refl _ _) | (with_reducible assumption) | (with_reducible refine bel_alloc ?_ _) | (with_reducible refine bel_drew ?_) | (with_reducible refine below_drewN ?_ _) | (with_reducible refine bel_put ?_ (by first | exact Nat.le_refl _ | (simp; done) | (simp; omega)) _)))) hc2, cell_bel (show Below wr.heap.size wr ((wr.alloc (.cells (madeCells #[Value.int .u8 0] 80) 5)).drew) from (by repeat (first | (with_reducible exact Below.refl _ _) | (with_reducible assumption) | (with_reducible refine bel_alloc ?_ _) | (with_reducible refine bel_drew ?_) | (with_reducible refine below_drewN ?_ _) | (with_reducible refine bel_put ?_ (by first | exact Nat.le_refl _ | (simp; done) | (simp; omega)) _)))) hcell⟩) (fun hHeld => ?_)
        clear hK K
        (try simp only [Act.put, List.setIfInBounds_toArray, List.set_cons_zero, List.set_cons_succ])
        refine wpAnyH_ready (rs := [10, 14]) (by kernel_rfl) (by simp) ?_
        refine AllReadyH.cons rfl (fun K hK => ?_) ?_
        · have hX : Below wr.heap.size wr ((wr.alloc (.cells (madeCells #[Value.int .u8 0] 80) 5)).drew) := (by repeat (first | (with_reducible exact Below.refl _ _) | (with_reducible assumption) | (with_reducible refine bel_alloc ?_ _) | (with_reducible refine bel_drew ?_) | (with_reducible refine below_drewN ?_ _) | (with_reducible refine bel_put ?_ (by first | exact Nat.le_refl _ | (simp; done) | (simp; omega)) _)))
          have hpz : Ints .u8 ((wr.alloc (.cells (madeCells #[Value.int .u8 0] 80) 5)).drew) ((wr.alloc (.cells (madeCells #[Value.int .u8 0] 80) 5)).drew).heap.size (some ⟨wr.heap.size, 0, none⟩) 80 zer := Ints.drew (by simpa using (pz8 wr))
          go_simp
          go_at_call 50
          refine (s_peel y (reach HI.out hX) hmd' hd' hpz (by omega) (by omega) HSec.out).mono ?_
          rintro e w2 ⟨vL, vC, rfl, hRL, hRC, hb⟩
          rw [HRr.out] at hRL hRC ⊢
          obtain ⟨AL, nL, cL, rfl, hL1, hL2, hIL, hLo⟩ := hRL
          obtain ⟨AC, nC, cC, rfl, hC1, hC2, hIC, hCo⟩ := hRC
          have hRL : ReadsF ((wr.alloc (.cells (madeCells #[Value.int .u8 0] 80) 5)).drew).heap.size w2 (.slice AL nL cL) r.1.load := ⟨AL, nL, cL, rfl, hL1, hL2, hIL, hLo⟩
          have hRC : ReadsF ((wr.alloc (.cells (madeCells #[Value.int .u8 0] 80) 5)).drew).heap.size w2 (.slice AC nC cC) r.1.cell := ⟨AC, nC, cC, rfl, hC1, hC2, hIC, hCo⟩
          have hx : Below wr.heap.size wr w2 := bel_trans hX hb
          go_wp2_with fail
          refine hK.out _ _ (by exact ⟨cell_bel hx cx, cell_bel hx hc2, cell_bel hx hcell⟩) (fun hHeld => ?_)
          clear hK K
          (try simp only [Act.put, List.setIfInBounds_toArray, List.set_cons_zero, List.set_cons_succ])
          refine wpAnyH_take (i := 11) (oi := ⟨some 37, _, _, _, _, _⟩) (v := ?v26) rfl (by kernel_rfl) (by kernel_rfl) (by kernel_rfl) (fun _ _ _ h => h) (Or.inl ⟨by rfl, ?hy26⟩) (by assumption) ?_
          case hy26 => (intro w hSw; (try dsimp only at hSw); go_simp; try (with_reducible rfl))
          (try simp only [Act.put, List.setIfInBounds_toArray, List.set_cons_zero, List.set_cons_succ])
          refine wpAnyH_take (i := 12) (oi := ⟨some 49, _, _, _, _, _⟩) (v := ?v27) rfl (by kernel_rfl) (by kernel_rfl) (by kernel_rfl) (fun _ _ _ h => h) (Or.inl ⟨by rfl, ?hy27⟩) (by assumption) ?_
          case hy27 => (intro w hSw; (try dsimp only at hSw); go_simp; try (with_reducible rfl))
          (try simp only [Act.put, List.setIfInBounds_toArray, List.set_cons_zero, List.set_cons_succ])
          refine wpAnyH_take (i := 13) (oi := ⟨some 50, _, _, _, _, _⟩) (v := ?v28) rfl (by kernel_rfl) (by kernel_rfl) (by kernel_rfl) (fun _ _ _ h => h) (Or.inl ⟨by rfl, ?hy28⟩) (by assumption) ?_
          case hy28 => (intro w hSw; (try dsimp only at hSw); go_simp; try (with_reducible rfl))
          (try simp only [Act.put, List.setIfInBounds_toArray, List.set_cons_zero, List.set_cons_succ])
          refine wpAnyH_ready (rs := [14]) (by kernel_rfl) (by simp) ?_
          refine AllReadyH.cons rfl (fun K hK => ?_) ?_
          · go_simp
            refine hK.out _ _ (by exact ⟨cell_bel (show Below wr.heap.size wr (w2.alloc (.cells #[.int .i64 0, .int .i64 0, .int .i64 0, .slice none 0 0, .slice none 0 0] 28)) from bel_alloc hx _) cx, cell_bel (show Below wr.heap.size wr (w2.alloc (.cells #[.int .i64 0, .int .i64 0, .int .i64 0, .slice none 0 0, .slice none 0 0] 28)) from bel_alloc hx _) hc2, cell_bel (show Below wr.heap.size wr (w2.alloc (.cells #[.int .i64 0, .int .i64 0, .int .i64 0, .slice none 0 0, .slice none 0 0] 28)) from bel_alloc hx _) hcell⟩) (fun hHeld => ?_)
            clear hK K
            (try simp only [Act.put, List.setIfInBounds_toArray, List.set_cons_zero, List.set_cons_succ])
            refine wpAnyH_ready (rs := [15]) (by kernel_rfl) (by simp) ?_
            refine AllReadyH.cons rfl (fun K hK => ?_) ?_
            · have Zg : Box (w2.alloc (.cells #[.int .i64 r.1.next, .int .i64 r.1.due, .int .i64 r.1.tag, .slice AL nL cL, .slice AC nC cC] 28)) w2.heap.size 28 #[.int .i64 r.1.next, .int .i64 r.1.due, .int .i64 r.1.tag, .slice AL nL cL, .slice AC nC cC] := Box.new _ _ _
              have hfin : Below wr.heap.size wr (w2.alloc (.cells #[.int .i64 r.1.next, .int .i64 r.1.due, .int .i64 r.1.tag, .slice AL nL cL, .slice AC nC cC] 28)) := bel_alloc hx _
              have hgl : wr.heap.size ≤ w2.heap.size := hx.size
              have hRL2 := (hRL.below (show Below w2.heap.size w2 (w2.alloc (.cells #[.int .i64 r.1.next, .int .i64 r.1.due, .int .i64 r.1.tag, .slice AL nL cL, .slice AC nC cC] 28)) from bel_alloc (Below.refl _ _) _)).lower (B' := wr.heap.size) (by first | exact Nat.le_refl _ | (show _ ≤ (World.alloc _ _).heap.size; first | (simp; done) | (simp; omega)))
              have hRC2 := (hRC.below (show Below w2.heap.size w2 (w2.alloc (.cells #[.int .i64 r.1.next, .int .i64 r.1.due, .int .i64 r.1.tag, .slice AL nL cL, .slice AC nC cC] 28)) from bel_alloc (Below.refl _ _) _)).lower (B' := wr.heap.size) (by first | exact Nat.le_refl _ | (show _ ≤ (World.alloc _ _).heap.size; first | (simp; done) | (simp; omega)))
              go_simp
              refine hK.out _ _ (by exact ⟨cell_bel hfin cx, cell_bel hfin hc2, cell_bel hfin hcell⟩) (fun hHeld => ?_)
              clear hK K
              (try simp only [Act.put, List.setIfInBounds_toArray, List.set_cons_zero, List.set_cons_succ])
              refine wpAnyH_take (i := 16) (oi := ⟨some 11, _, _, _, _, _⟩) (v := ?v29) rfl (by kernel_rfl) (by kernel_rfl) (by kernel_rfl) (fun _ _ _ h => h) (Or.inl ⟨by rfl, ?hy29⟩) (by assumption) ?_
              case hy29 => (intro w hSw; (try dsimp only at hSw); go_simp; try (with_reducible rfl))
              (try simp only [Act.put, List.setIfInBounds_toArray, List.set_cons_zero, List.set_cons_succ])
              refine wpAnyH_done (by kernel_rfl) ?_ _
              go_wp2_with fail
              go_meet
              exact ⟨_, AL, AC, nL, cL, nC, cC, rfl, rfl, by first | exact Zg | simpa using Zg, hRL2, hRC2, by first | exact hfin | simpa using hfin, hgl⟩
            exact AllReadyH.nil
          exact AllReadyH.nil
        refine AllReadyH.cons rfl (fun K hK => ?_) ?_
        · go_simp
          refine hK.out _ _ (by exact ⟨cell_bel (show Below wr.heap.size wr (((wr.alloc (.cells (madeCells #[Value.int .u8 0] 80) 5)).alloc (.cells #[.int .i64 0, .int .i64 0, .int .i64 0, .slice none 0 0, .slice none 0 0] 28)).drew) from (by repeat (first | (with_reducible exact Below.refl _ _) | (with_reducible assumption) | (with_reducible refine bel_alloc ?_ _) | (with_reducible refine bel_drew ?_) | (with_reducible refine below_drewN ?_ _) | (with_reducible refine bel_put ?_ (by first | exact Nat.le_refl _ | (simp; done) | (simp; omega)) _)))) cx, cell_bel (show Below wr.heap.size wr (((wr.alloc (.cells (madeCells #[Value.int .u8 0] 80) 5)).alloc (.cells #[.int .i64 0, .int .i64 0, .int .i64 0, .slice none 0 0, .slice none 0 0] 28)).drew) from (by repeat (first | (with_reducible exact Below.refl _ _) | (with_reducible assumption) | (with_reducible refine bel_alloc ?_ _) | (with_reducible refine bel_drew ?_) | (with_reducible refine below_drewN ?_ _) | (with_reducible refine bel_put ?_ (by first | exact Nat.le_refl _ | (simp; done) | (simp; omega)) _)))) hc2, cell_bel (show Below wr.heap.size wr (((wr.alloc (.cells (madeCells #[Value.int .u8 0] 80) 5)).alloc (.cells #[.int .i64 0, .int .i64 0, .int .i64 0, .slice none 0 0, .slice none 0 0] 28)).drew) from (by repeat (first | (with_reducible exact Below.refl _ _) | (with_reducible assumption) | (with_reducible refine bel_alloc ?_ _) | (with_reducible refine bel_drew ?_) | (with_reducible refine below_drewN ?_ _) | (with_reducible refine bel_put ?_ (by first | exact Nat.le_refl _ | (simp; done) | (simp; omega)) _)))) hcell⟩) (fun hHeld => ?_)
          clear hK K
          (try simp only [Act.put, List.setIfInBounds_toArray, List.set_cons_zero, List.set_cons_succ])
          refine wpAnyH_ready (rs := [10]) (by kernel_rfl) (by simp) ?_
          refine AllReadyH.cons rfl (fun K hK => ?_) ?_
          · have hX : Below wr.heap.size wr (((wr.alloc (.cells (madeCells #[Value.int .u8 0] 80) 5)).alloc (.cells #[.int .i64 0, .int .i64 0, .int .i64 0, .slice none 0 0, .slice none 0 0] 28)).drew) := (by repeat (first | (with_reducible exact Below.refl _ _) | (with_reducible assumption) | (with_reducible refine bel_alloc ?_ _) | (with_reducible refine bel_drew ?_) | (with_reducible refine below_drewN ?_ _) | (with_reducible refine bel_put ?_ (by first | exact Nat.le_refl _ | (simp; done) | (simp; omega)) _)))
            have hpz : Ints .u8 (((wr.alloc (.cells (madeCells #[Value.int .u8 0] 80) 5)).alloc (.cells #[.int .i64 0, .int .i64 0, .int .i64 0, .slice none 0 0, .slice none 0 0] 28)).drew) (((wr.alloc (.cells (madeCells #[Value.int .u8 0] 80) 5)).alloc (.cells #[.int .i64 0, .int .i64 0, .int .i64 0, .slice none 0 0, .slice none 0 0] 28)).drew).heap.size (some ⟨wr.heap.size, 0, none⟩) 80 zer := Ints.drew (by simpa using (reach (pz8 wr) (bel_alloc (Below.refl _ _) _)))
            go_simp
            go_at_call 50
            refine (s_peel y (reach HI.out hX) hmd' hd' hpz (by omega) (by omega) HSec.out).mono ?_
            rintro e w2 ⟨vL, vC, rfl, hRL, hRC, hb⟩
            rw [HRr.out] at hRL hRC ⊢
            obtain ⟨AL, nL, cL, rfl, hL1, hL2, hIL, hLo⟩ := hRL
            obtain ⟨AC, nC, cC, rfl, hC1, hC2, hIC, hCo⟩ := hRC
            have hRL : ReadsF (((wr.alloc (.cells (madeCells #[Value.int .u8 0] 80) 5)).alloc (.cells #[.int .i64 0, .int .i64 0, .int .i64 0, .slice none 0 0, .slice none 0 0] 28)).drew).heap.size w2 (.slice AL nL cL) r.1.load := ⟨AL, nL, cL, rfl, hL1, hL2, hIL, hLo⟩
            have hRC : ReadsF (((wr.alloc (.cells (madeCells #[Value.int .u8 0] 80) 5)).alloc (.cells #[.int .i64 0, .int .i64 0, .int .i64 0, .slice none 0 0, .slice none 0 0] 28)).drew).heap.size w2 (.slice AC nC cC) r.1.cell := ⟨AC, nC, cC, rfl, hC1, hC2, hIC, hCo⟩
            have hx : Below wr.heap.size wr w2 := bel_trans hX hb
            have Zb : Box (((wr.alloc (.cells (madeCells #[Value.int .u8 0] 80) 5)).alloc (.cells #[.int .i64 0, .int .i64 0, .int .i64 0, .slice none 0 0, .slice none 0 0] 28)).drew) (wr.heap.size + 1) 28 #[.int .i64 0, .int .i64 0, .int .i64 0, .slice none 0 0, .slice none 0 0] := Box.drew (show Box (((wr.alloc (.cells (madeCells #[Value.int .u8 0] 80) 5)).alloc (.cells #[.int .i64 0, .int .i64 0, .int .i64 0, .slice none 0 0, .slice none 0 0] 28))) (wr.heap.size + 1) 28 #[.int .i64 0, .int .i64 0, .int .i64 0, .slice none 0 0, .slice none 0 0] from by simpa using Box.new (wr.alloc (.cells (madeCells #[Value.int .u8 0] 80) 5)) 28 #[.int .i64 0, .int .i64 0, .int .i64 0, .slice none 0 0, .slice none 0 0])
            replace Zb := Box.below Zb hb Zb.size
            have zb0 := Zb.cell 0; have zf0 := Zb.frozen 0
            have zb1 := Zb.cell 1; have zf1 := Zb.frozen 1
            have zb2 := Zb.cell 2; have zf2 := Zb.frozen 2
            have zb3 := Zb.cell 3; have zf3 := Zb.frozen 3
            have zb4 := Zb.cell 4; have zf4 := Zb.frozen 4
            go_wp2_with fail
            refine hK.out _ _ (by exact ⟨cell_bel hx cx, cell_bel hx hc2, cell_bel hx hcell⟩) (fun hHeld => ?_)
            clear hK K
            (try simp only [Act.put, List.setIfInBounds_toArray, List.set_cons_zero, List.set_cons_succ])
            refine wpAnyH_take (i := 11) (oi := ⟨some 37, _, _, _, _, _⟩) (v := ?v30) rfl (by kernel_rfl) (by kernel_rfl) (by kernel_rfl) (fun _ _ _ h => h) (Or.inl ⟨by rfl, ?hy30⟩) (by assumption) ?_
            case hy30 => (intro w hSw; (try dsimp only at hSw); go_simp; try (with_reducible rfl))
            (try simp only [Act.put, List.setIfInBounds_toArray, List.set_cons_zero, List.set_cons_succ])
            refine wpAnyH_take (i := 12) (oi := ⟨some 49, _, _, _, _, _⟩) (v := ?v31) rfl (by kernel_rfl) (by kernel_rfl) (by kernel_rfl) (fun _ _ _ h => h) (Or.inl ⟨by rfl, ?hy31⟩) (by assumption) ?_
            case hy31 => (intro w hSw; (try dsimp only at hSw); go_simp; try (with_reducible rfl))
            (try simp only [Act.put, List.setIfInBounds_toArray, List.set_cons_zero, List.set_cons_succ])
            refine wpAnyH_take (i := 13) (oi := ⟨some 50, _, _, _, _, _⟩) (v := ?v32) rfl (by kernel_rfl) (by kernel_rfl) (by kernel_rfl) (fun _ _ _ h => h) (Or.inl ⟨by rfl, ?hy32⟩) (by assumption) ?_
            case hy32 => (intro w hSw; (try dsimp only at hSw); go_simp; try (with_reducible rfl))
            (try simp only [Act.put, List.setIfInBounds_toArray, List.set_cons_zero, List.set_cons_succ])
            refine wpAnyH_ready (rs := [15]) (by kernel_rfl) (by simp) ?_
            refine AllReadyH.cons rfl (fun K hK => ?_) ?_
            · have hgl : wr.heap.size ≤ wr.heap.size + 1 := by omega
              have hfin := (bel_put (bel_put (bel_put (bel_put (bel_put hx (p := ⟨wr.heap.size + 1, 0, none⟩) (by show wr.heap.size ≤ wr.heap.size + 1; omega) (.int .i64 r.1.next)) (p := ⟨wr.heap.size + 1, 1, none⟩) (by show wr.heap.size ≤ wr.heap.size + 1; omega) (.int .i64 r.1.due)) (p := ⟨wr.heap.size + 1, 2, none⟩) (by show wr.heap.size ≤ wr.heap.size + 1; omega) (.int .i64 r.1.tag)) (p := ⟨wr.heap.size + 1, 3, none⟩) (by show wr.heap.size ≤ wr.heap.size + 1; omega) (.slice AL nL cL)) (p := ⟨wr.heap.size + 1, 4, none⟩) (by show wr.heap.size ≤ wr.heap.size + 1; omega) (.slice AC nC cC))
              have Zg := (((((Zb.put 0 (.int .i64 r.1.next)).put 1 (.int .i64 r.1.due)).put 2 (.int .i64 r.1.tag)).put 3 (.slice AL nL cL)).put 4 (.slice AC nC cC))
              have hgB : wr.heap.size + 1 < ((((wr.alloc (.cells (madeCells #[Value.int .u8 0] 80) 5)).alloc (.cells #[.int .i64 0, .int .i64 0, .int .i64 0, .slice none 0 0, .slice none 0 0] 28))).drew).heap.size := by show wr.heap.size + 1 < (World.alloc _ _).heap.size; first | (simp; done) | (simp; omega)
              have hRL2 := (((((hRL.put hgB 0 (.int .i64 r.1.next)).put hgB 1 (.int .i64 r.1.due)).put hgB 2 (.int .i64 r.1.tag)).put hgB 3 (.slice AL nL cL)).put hgB 4 (.slice AC nC cC)).lower (B' := wr.heap.size) (by show _ ≤ (World.alloc _ _).heap.size; first | (simp; done) | (simp; omega))
              have hRC2 := (((((hRC.put hgB 0 (.int .i64 r.1.next)).put hgB 1 (.int .i64 r.1.due)).put hgB 2 (.int .i64 r.1.tag)).put hgB 3 (.slice AL nL cL)).put hgB 4 (.slice AC nC cC)).lower (B' := wr.heap.size) (by show _ ≤ (World.alloc _ _).heap.size; first | (simp; done) | (simp; omega))
              go_simp
              refine hK.out _ _ (by exact ⟨cell_bel hfin cx, cell_bel hfin hc2, cell_bel hfin hcell⟩) (fun hHeld => ?_)
              clear hK K
              (try simp only [Act.put, List.setIfInBounds_toArray, List.set_cons_zero, List.set_cons_succ])
              refine wpAnyH_take (i := 16) (oi := ⟨some 11, _, _, _, _, _⟩) (v := ?v33) rfl (by kernel_rfl) (by kernel_rfl) (by kernel_rfl) (fun _ _ _ h => h) (Or.inl ⟨by rfl, ?hy33⟩) (by assumption) ?_
              case hy33 => (intro w hSw; (try dsimp only at hSw); go_simp; try (with_reducible rfl))
              (try simp only [Act.put, List.setIfInBounds_toArray, List.set_cons_zero, List.set_cons_succ])
              refine wpAnyH_done (by kernel_rfl) ?_ _
              go_wp2_with fail
              go_meet
              exact ⟨_, AL, AC, nL, cL, nC, cC, rfl, rfl, by first | exact Zg | simpa using Zg, hRL2, hRC2, by first | exact hfin | simpa using hfin, hgl⟩
            exact AllReadyH.nil
          exact AllReadyH.nil
        exact AllReadyH.nil
      refine AllReadyH.cons rfl (fun K hK => ?_) ?_
      · go_simp
        refine hK.out _ _ (by exact ⟨cell_bel (show Below wr.heap.size wr ((wr.alloc (.cells #[.int .i64 0, .int .i64 0, .int .i64 0, .slice none 0 0, .slice none 0 0] 28)).drew) from (by repeat (first | (with_reducible exact Below.refl _ _) | (with_reducible assumption) | (with_reducible refine bel_alloc ?_ _) | (with_reducible refine bel_drew ?_) | (with_reducible refine below_drewN ?_ _) | (with_reducible refine bel_put ?_ (by first | exact Nat.le_refl _ | (simp; done) | (simp; omega)) _)))) cx, cell_bel (show Below wr.heap.size wr ((wr.alloc (.cells #[.int .i64 0, .int .i64 0, .int .i64 0, .slice none 0 0, .slice none 0 0] 28)).drew) from (by repeat (first | (with_reducible exact Below.refl _ _) | (with_reducible assumption) | (with_reducible refine bel_alloc ?_ _) | (with_reducible refine bel_drew ?_) | (with_reducible refine below_drewN ?_ _) | (with_reducible refine bel_put ?_ (by first | exact Nat.le_refl _ | (simp; done) | (simp; omega)) _)))) hc2, cell_bel (show Below wr.heap.size wr ((wr.alloc (.cells #[.int .i64 0, .int .i64 0, .int .i64 0, .slice none 0 0, .slice none 0 0] 28)).drew) from (by repeat (first | (with_reducible exact Below.refl _ _) | (with_reducible assumption) | (with_reducible refine bel_alloc ?_ _) | (with_reducible refine bel_drew ?_) | (with_reducible refine below_drewN ?_ _) | (with_reducible refine bel_put ?_ (by first | exact Nat.le_refl _ | (simp; done) | (simp; omega)) _)))) hcell⟩) (fun hHeld => ?_)
        clear hK K
        (try simp only [Act.put, List.setIfInBounds_toArray, List.set_cons_zero, List.set_cons_succ])
        refine wpAnyH_ready (rs := [9]) (by kernel_rfl) (by simp) ?_
        refine AllReadyH.cons rfl (fun K hK => ?_) ?_
        · go_simp
          refine hK.out _ _ (by exact ⟨cell_bel (show Below wr.heap.size wr (((wr.alloc (.cells #[.int .i64 0, .int .i64 0, .int .i64 0, .slice none 0 0, .slice none 0 0] 28)).alloc (.cells (madeCells #[Value.int .u8 0] 80) 5)).drew) from (by repeat (first | (with_reducible exact Below.refl _ _) | (with_reducible assumption) | (with_reducible refine bel_alloc ?_ _) | (with_reducible refine bel_drew ?_) | (with_reducible refine below_drewN ?_ _) | (with_reducible refine bel_put ?_ (by first | exact Nat.le_refl _ | (simp; done) | (simp; omega)) _)))) cx, cell_bel (show Below wr.heap.size wr (((wr.alloc (.cells #[.int .i64 0, .int .i64 0, .int .i64 0, .slice none 0 0, .slice none 0 0] 28)).alloc (.cells (madeCells #[Value.int .u8 0] 80) 5)).drew) from (by repeat (first | (with_reducible exact Below.refl _ _) | (with_reducible assumption) | (with_reducible refine bel_alloc ?_ _) | (with_reducible refine bel_drew ?_) | (with_reducible refine below_drewN ?_ _) | (with_reducible refine bel_put ?_ (by first | exact Nat.le_refl _ | (simp; done) | (simp; omega)) _)))) hc2, cell_bel (show Below wr.heap.size wr (((wr.alloc (.cells #[.int .i64 0, .int .i64 0, .int .i64 0, .slice none 0 0, .slice none 0 0] 28)).alloc (.cells (madeCells #[Value.int .u8 0] 80) 5)).drew) from (by repeat (first | (with_reducible exact Below.refl _ _) | (with_reducible assumption) | (with_reducible refine bel_alloc ?_ _) | (with_reducible refine bel_drew ?_) | (with_reducible refine below_drewN ?_ _) | (with_reducible refine bel_put ?_ (by first | exact Nat.le_refl _ | (simp; done) | (simp; omega)) _)))) hcell⟩) (fun hHeld => ?_)
          clear hK K
          (try simp only [Act.put, List.setIfInBounds_toArray, List.set_cons_zero, List.set_cons_succ])
          refine wpAnyH_ready (rs := [10]) (by kernel_rfl) (by simp) ?_
          refine AllReadyH.cons rfl (fun K hK => ?_) ?_
          · have hX : Below wr.heap.size wr (((wr.alloc (.cells #[.int .i64 0, .int .i64 0, .int .i64 0, .slice none 0 0, .slice none 0 0] 28)).alloc (.cells (madeCells #[Value.int .u8 0] 80) 5)).drew) := (by repeat (first | (with_reducible exact Below.refl _ _) | (with_reducible assumption) | (with_reducible refine bel_alloc ?_ _) | (with_reducible refine bel_drew ?_) | (with_reducible refine below_drewN ?_ _) | (with_reducible refine bel_put ?_ (by first | exact Nat.le_refl _ | (simp; done) | (simp; omega)) _)))
            have hpz : Ints .u8 (((wr.alloc (.cells #[.int .i64 0, .int .i64 0, .int .i64 0, .slice none 0 0, .slice none 0 0] 28)).alloc (.cells (madeCells #[Value.int .u8 0] 80) 5)).drew) (((wr.alloc (.cells #[.int .i64 0, .int .i64 0, .int .i64 0, .slice none 0 0, .slice none 0 0] 28)).alloc (.cells (madeCells #[Value.int .u8 0] 80) 5)).drew).heap.size (some ⟨wr.heap.size + 1, 0, none⟩) 80 zer := Ints.drew (by simpa using (pz8 (wr.alloc (.cells #[.int .i64 0, .int .i64 0, .int .i64 0, .slice none 0 0, .slice none 0 0] 28))))
            go_simp
            go_at_call 50
            refine (s_peel y (reach HI.out hX) hmd' hd' hpz (by omega) (by omega) HSec.out).mono ?_
            rintro e w2 ⟨vL, vC, rfl, hRL, hRC, hb⟩
            rw [HRr.out] at hRL hRC ⊢
            obtain ⟨AL, nL, cL, rfl, hL1, hL2, hIL, hLo⟩ := hRL
            obtain ⟨AC, nC, cC, rfl, hC1, hC2, hIC, hCo⟩ := hRC
            have hRL : ReadsF (((wr.alloc (.cells #[.int .i64 0, .int .i64 0, .int .i64 0, .slice none 0 0, .slice none 0 0] 28)).alloc (.cells (madeCells #[Value.int .u8 0] 80) 5)).drew).heap.size w2 (.slice AL nL cL) r.1.load := ⟨AL, nL, cL, rfl, hL1, hL2, hIL, hLo⟩
            have hRC : ReadsF (((wr.alloc (.cells #[.int .i64 0, .int .i64 0, .int .i64 0, .slice none 0 0, .slice none 0 0] 28)).alloc (.cells (madeCells #[Value.int .u8 0] 80) 5)).drew).heap.size w2 (.slice AC nC cC) r.1.cell := ⟨AC, nC, cC, rfl, hC1, hC2, hIC, hCo⟩
            have hx : Below wr.heap.size wr w2 := bel_trans hX hb
            have Zb : Box (((wr.alloc (.cells #[.int .i64 0, .int .i64 0, .int .i64 0, .slice none 0 0, .slice none 0 0] 28)).alloc (.cells (madeCells #[Value.int .u8 0] 80) 5)).drew) (wr.heap.size) 28 #[.int .i64 0, .int .i64 0, .int .i64 0, .slice none 0 0, .slice none 0 0] := Box.drew ((show Box ((wr.alloc (.cells #[.int .i64 0, .int .i64 0, .int .i64 0, .slice none 0 0, .slice none 0 0] 28))) (wr.heap.size) 28 #[.int .i64 0, .int .i64 0, .int .i64 0, .slice none 0 0, .slice none 0 0] from by simpa using Box.new wr 28 #[.int .i64 0, .int .i64 0, .int .i64 0, .slice none 0 0, .slice none 0 0]).alloc _)
            replace Zb := Box.below Zb hb Zb.size
            have zb0 := Zb.cell 0; have zf0 := Zb.frozen 0
            have zb1 := Zb.cell 1; have zf1 := Zb.frozen 1
            have zb2 := Zb.cell 2; have zf2 := Zb.frozen 2
            have zb3 := Zb.cell 3; have zf3 := Zb.frozen 3
            have zb4 := Zb.cell 4; have zf4 := Zb.frozen 4
            go_wp2_with fail
            refine hK.out _ _ (by exact ⟨cell_bel hx cx, cell_bel hx hc2, cell_bel hx hcell⟩) (fun hHeld => ?_)
            clear hK K
            (try simp only [Act.put, List.setIfInBounds_toArray, List.set_cons_zero, List.set_cons_succ])
            refine wpAnyH_take (i := 11) (oi := ⟨some 37, _, _, _, _, _⟩) (v := ?v34) rfl (by kernel_rfl) (by kernel_rfl) (by kernel_rfl) (fun _ _ _ h => h) (Or.inl ⟨by rfl, ?hy34⟩) (by assumption) ?_
            case hy34 => (intro w hSw; (try dsimp only at hSw); go_simp; try (with_reducible rfl))
            (try simp only [Act.put, List.setIfInBounds_toArray, List.set_cons_zero, List.set_cons_succ])
            refine wpAnyH_take (i := 12) (oi := ⟨some 49, _, _, _, _, _⟩) (v := ?v35) rfl (by kernel_rfl) (by kernel_rfl) (by kernel_rfl) (fun _ _ _ h => h) (Or.inl ⟨by rfl, ?hy35⟩) (by assumption) ?_
            case hy35 => (intro w hSw; (try dsimp only at hSw); go_simp; try (with_reducible rfl))
            (try simp only [Act.put, List.setIfInBounds_toArray, List.set_cons_zero, List.set_cons_succ])
            refine wpAnyH_take (i := 13) (oi := ⟨some 50, _, _, _, _, _⟩) (v := ?v36) rfl (by kernel_rfl) (by kernel_rfl) (by kernel_rfl) (fun _ _ _ h => h) (Or.inl ⟨by rfl, ?hy36⟩) (by assumption) ?_
            case hy36 => (intro w hSw; (try dsimp only at hSw); go_simp; try (with_reducible rfl))
            (try simp only [Act.put, List.setIfInBounds_toArray, List.set_cons_zero, List.set_cons_succ])
            refine wpAnyH_ready (rs := [15]) (by kernel_rfl) (by simp) ?_
            refine AllReadyH.cons rfl (fun K hK => ?_) ?_
            · have hgl : wr.heap.size ≤ wr.heap.size := by omega
              have hfin := (bel_put (bel_put (bel_put (bel_put (bel_put hx (p := ⟨wr.heap.size, 0, none⟩) (by show wr.heap.size ≤ wr.heap.size; omega) (.int .i64 r.1.next)) (p := ⟨wr.heap.size, 1, none⟩) (by show wr.heap.size ≤ wr.heap.size; omega) (.int .i64 r.1.due)) (p := ⟨wr.heap.size, 2, none⟩) (by show wr.heap.size ≤ wr.heap.size; omega) (.int .i64 r.1.tag)) (p := ⟨wr.heap.size, 3, none⟩) (by show wr.heap.size ≤ wr.heap.size; omega) (.slice AL nL cL)) (p := ⟨wr.heap.size, 4, none⟩) (by show wr.heap.size ≤ wr.heap.size; omega) (.slice AC nC cC))
              have Zg := (((((Zb.put 0 (.int .i64 r.1.next)).put 1 (.int .i64 r.1.due)).put 2 (.int .i64 r.1.tag)).put 3 (.slice AL nL cL)).put 4 (.slice AC nC cC))
              have hgB : wr.heap.size < ((((wr.alloc (.cells #[.int .i64 0, .int .i64 0, .int .i64 0, .slice none 0 0, .slice none 0 0] 28)).alloc (.cells (madeCells #[Value.int .u8 0] 80) 5))).drew).heap.size := by show wr.heap.size < (World.alloc _ _).heap.size; first | (simp; done) | (simp; omega)
              have hRL2 := (((((hRL.put hgB 0 (.int .i64 r.1.next)).put hgB 1 (.int .i64 r.1.due)).put hgB 2 (.int .i64 r.1.tag)).put hgB 3 (.slice AL nL cL)).put hgB 4 (.slice AC nC cC)).lower (B' := wr.heap.size) (by show _ ≤ (World.alloc _ _).heap.size; first | (simp; done) | (simp; omega))
              have hRC2 := (((((hRC.put hgB 0 (.int .i64 r.1.next)).put hgB 1 (.int .i64 r.1.due)).put hgB 2 (.int .i64 r.1.tag)).put hgB 3 (.slice AL nL cL)).put hgB 4 (.slice AC nC cC)).lower (B' := wr.heap.size) (by show _ ≤ (World.alloc _ _).heap.size; first | (simp; done) | (simp; omega))
              go_simp
              refine hK.out _ _ (by exact ⟨cell_bel hfin cx, cell_bel hfin hc2, cell_bel hfin hcell⟩) (fun hHeld => ?_)
              clear hK K
              (try simp only [Act.put, List.setIfInBounds_toArray, List.set_cons_zero, List.set_cons_succ])
              refine wpAnyH_take (i := 16) (oi := ⟨some 11, _, _, _, _, _⟩) (v := ?v37) rfl (by kernel_rfl) (by kernel_rfl) (by kernel_rfl) (fun _ _ _ h => h) (Or.inl ⟨by rfl, ?hy37⟩) (by assumption) ?_
              case hy37 => (intro w hSw; (try dsimp only at hSw); go_simp; try (with_reducible rfl))
              (try simp only [Act.put, List.setIfInBounds_toArray, List.set_cons_zero, List.set_cons_succ])
              refine wpAnyH_done (by kernel_rfl) ?_ _
              go_wp2_with fail
              go_meet
              exact ⟨_, AL, AC, nL, cL, nC, cC, rfl, rfl, by first | exact Zg | simpa using Zg, hRL2, hRC2, by first | exact hfin | simpa using hfin, hgl⟩
            exact AllReadyH.nil
          exact AllReadyH.nil
        exact AllReadyH.nil
      exact AllReadyH.nil
    case rest =>
    obtain ⟨g, AL, AC, nL, cL, nC, cC, rfl, rfl, Zg, hRL, hRC, hsx, hgl⟩ := hcut
    have hX2 := hX.below hsx hX.size
    have hB2 := bel_trans hB hsx
    have z0 := Zg.cell 0; have z3 := Zg.cell 3; have z4 := Zg.cell 4; have x0 := hX2.cell 0; have f0 := hX2.frozen 0
    have hsz := hsx.size
    rcases hok : r.2 with _ | _
    · have HE := Lib.hid (show folL l R cl = ([], false) by rw [HST.out, if_neg (fun h => by rw [hok] at h; exact absurd h.1 (by simp))])
      clear hok
      go_wp2
      refine bodyPost_ret (v := .tuple #[.slice none 0 0, .bool false]) (by simp [results, Try.results30, go_sem]) rfl ?_
      exact ⟨_, by rw [HE.out], by rw [HE.out]; exact ReadsF.nil _ _, hB2⟩
    · have hgo := reach_go (s := y) HBy.out H80.out (by rw [HRr.out, hok])
      rw [HRr.out] at hgo
      obtain ⟨A9, n9, c9, e9, hC1, hC2, hIC, -⟩ := hRC
      injection e9 with e91 e92 e93
      subst e91 e92 e93
      by_cases hlast : k + 1 = n2
      · have hln := HLn.out hok
        obtain ⟨A8, n8, c8, e8, hL1, hL2, hIL, -⟩ := id hRL
        injection e8 with e81 e82 e83
        subst e81 e82 e83
        have hlN := hIL.1
        have hnL : nL ≤ 24 := by omega
        have HdE := Lib.hid (show (R.drop (k + 1)).getD 0 255 = 255 by rw [List.drop_eq_nil_of_le (by rw [HRn.out]; omega)]; rfl)
        have HE := Lib.hid (show folL l R cl = (r.1.load, decide (r.1.next = 255)) by
          rw [HST.out, HdE.out]
          by_cases h255 : r.1.next = 255
          · rw [if_pos ⟨hok, h255⟩, if_pos (by rw [HRn.out]; exact hlast), decide_eq_true h255]
          · rw [if_neg (fun h => h255 h.2), decide_eq_false h255, HLz.out h255])
        have ql : ((k : Int) == (n2 : Int) - 1) = true := by simp; omega
        have i1 : IntKind.i64.wrap ((n2 : Int) - 1) = (n2 : Int) - 1 := IntWalk.i64_in _ (by omega)
        have hE0 : (wc.alloc (.cells #[] 5)).ownsRow wc.heap.size 5 1 (.slice (some ⟨wc.heap.size, 0, none⟩) 0 0) 0 [] := empty_row _ _
        have hS0 : Src (wc.alloc (.cells #[] 5)) 1 AL nL (r.1.load.map (Value.int .u8)) := Src.of_ints (reach hIL (by repeat (first | (with_reducible exact Below.refl _ _) | (with_reducible assumption) | (with_reducible refine bel_alloc ?_ _) | (with_reducible refine bel_drew ?_) | (with_reducible refine below_drewN ?_ _) | (with_reducible refine bel_put ?_ (by first | exact Nat.le_refl _ | (simp; done) | (simp; omega)) _))))
        obtain ⟨bq, hbq⟩ : ∃ q, decide (r.1.next = 255) = q := ⟨_, rfl⟩
        have HBq := Lib.hid hbq
        have qb : (r.1.next == 255) = bq := by rw [← hbq]; cases h : decide (r.1.next = 255) <;> simp_all
        have HE2 := Lib.hid (show folL l R cl = (r.1.load, bq) by rw [HE.out, HBq.out])
        have hbz := hB2.size
        clear hlast hlN hok hbq
        go_wp2_with fail
        refine wp_region_held_drew (S := (fun w' => w'.cell? ⟨g, 0, none⟩ = some (.int .i64 r.1.next) ∧ w'.cell? ⟨g, 3, none⟩ = some (.slice AL nL cL))) (by kernel_rfl) (by exact ⟨z0, z3⟩) (fun hHeld => ?_)
        refine wpAnyH_take (i := 1) (oi := ⟨some 59, _, _, _, _, _⟩) (v := ?v38) rfl (by kernel_rfl) (by kernel_rfl) (by kernel_rfl) (fun _ _ _ h => h) (Or.inl ⟨by rfl, ?hy38⟩) (by assumption) ?_
        case hy38 => (intro w hSw; (try dsimp only at hSw); go_simp; try (with_reducible rfl))
        (try simp only [Act.put, List.setIfInBounds_toArray, List.set_cons_zero, List.set_cons_succ])
        refine wpAnyH_take (i := 2) (oi := ⟨some 60, _, _, _, _, _⟩) (v := ?v39) rfl (by kernel_rfl) (by kernel_rfl) (by kernel_rfl) (fun _ _ _ h => h) (Or.inl ⟨by rfl, ?hy39⟩) (by assumption) ?_
        case hy39 => (intro w hSw; (try dsimp only at hSw); go_simp; try (with_reducible rfl))
        (try simp only [Act.put, List.setIfInBounds_toArray, List.set_cons_zero, List.set_cons_succ])
        refine wpAnyH_take (i := 4) (oi := ⟨some 62, _, _, _, _, _⟩) (v := ?v40) rfl (by kernel_rfl) (by kernel_rfl) (by kernel_rfl) (fun _ _ _ h => h) (Or.inl ⟨by rfl, ?hy40⟩) (by assumption) ?_
        case hy40 => (intro w hSw; (try dsimp only at hSw); go_simp; try (with_reducible rfl))
        (try simp only [Act.put, List.setIfInBounds_toArray, List.set_cons_zero, List.set_cons_succ])
        refine wpAnyH_take (i := 5) (oi := ⟨some 63, _, _, _, _, _⟩) (v := ?v41) rfl (by kernel_rfl) (by kernel_rfl) (by kernel_rfl) (fun _ _ _ h => h) (Or.inl ⟨by rfl, ?hy41⟩) (by assumption) ?_
        case hy41 => (intro w hSw; (try dsimp only at hSw); go_simp; try (with_reducible rfl))
        (try simp only [Act.put, List.setIfInBounds_toArray, List.set_cons_zero, List.set_cons_succ])
        refine wpAnyH_take (i := 6) (oi := ⟨some 64, _, _, _, _, _⟩) (v := ?v42) rfl (by kernel_rfl) (by kernel_rfl) (by kernel_rfl) (fun _ _ _ h => h) (Or.inl ⟨by rfl, ?hy42⟩) (by assumption) ?_
        case hy42 => (intro w hSw; (try dsimp only at hSw); go_simp; try (with_reducible rfl))
        (try simp only [Act.put, List.setIfInBounds_toArray, List.set_cons_zero, List.set_cons_succ])
        refine wpAnyH_ready (rs := [0]) (by kernel_rfl) (by simp) ?_
        refine AllReadyH.cons rfl (fun K hK => ?_) ?_
        · go_simp
          refine hK.out _ _ (by exact ⟨cell_bel (show Below wc.heap.size wc (wc.alloc (.cells #[] 5)).drew from (by repeat (first | (with_reducible exact Below.refl _ _) | (with_reducible assumption) | (with_reducible refine bel_alloc ?_ _) | (with_reducible refine bel_drew ?_) | (with_reducible refine below_drewN ?_ _) | (with_reducible refine bel_put ?_ (by first | exact Nat.le_refl _ | (simp; done) | (simp; omega)) _)))) z0, cell_bel (show Below wc.heap.size wc (wc.alloc (.cells #[] 5)).drew from (by repeat (first | (with_reducible exact Below.refl _ _) | (with_reducible assumption) | (with_reducible refine bel_alloc ?_ _) | (with_reducible refine bel_drew ?_) | (with_reducible refine below_drewN ?_ _) | (with_reducible refine bel_put ?_ (by first | exact Nat.le_refl _ | (simp; done) | (simp; omega)) _)))) z3⟩) (fun hHeld => ?_)
          clear hK K
          (try simp only [Act.put, List.setIfInBounds_toArray, List.set_cons_zero, List.set_cons_succ])
          refine wpAnyH_ready (rs := [3]) (by kernel_rfl) (by simp) ?_
          refine AllReadyH.cons rfl (fun K hK => ?_) ?_
          · refine step_app _ (by rfl) (.tmp 58) (.tmp 60) _ (by rfl) wc.heap.size 5 j0 _ 1 1 Try.underlying22 hj0 hj1 hj2 hj3 rfl (by omega) (.slice (some ⟨wc.heap.size, 0, none⟩) 0 0) 0 [] (by rfl) hE0 AL nL cL (r.1.load.map (Value.int .u8)) (by rfl) hS0 (one_ints _ _) (by simp only [maxLen]; omega) (by omega) (by simp) ?_
            intro v5 w5 hown hgr hat
            have hs5 : Below wc.heap.size wc w5 := Below.grown (w := (wc.alloc (.cells #[] 5)).drew) (by repeat (first | (with_reducible exact Below.refl _ _) | (with_reducible assumption) | (with_reducible refine bel_alloc ?_ _) | (with_reducible refine bel_drew ?_) | (with_reducible refine below_drewN ?_ _) | (with_reducible refine bel_put ?_ (by first | exact Nat.le_refl _ | (simp; done) | (simp; omega)) _))) hgr (by show _ ≤ (World.alloc _ _).heap.size; simp) (fun b hb => by have e := Option.some.inj (show some wc.heap.size = some b from hb); omega)
            have hO5 : Own .u8 5 w5 wc.heap.size v5 r.1.load := Own.of (n := 0 + nL) (by simpa using hown) hIL.2.2
            refine hK.out _ _ (by exact ⟨cell_bel hs5 z0, cell_bel hs5 z3⟩) (fun hHeld => ?_)
            clear hK K
            (try simp only [Act.put, List.setIfInBounds_toArray, List.set_cons_zero, List.set_cons_succ])
            refine wpAnyH_take (i := 7) (oi := ⟨some 6, _, _, _, _, _⟩) (v := ?v43) rfl (by kernel_rfl) (by kernel_rfl) (by kernel_rfl) (fun _ _ _ h => h) (Or.inl ⟨by rfl, ?hy43⟩) (by assumption) ?_
            case hy43 => (intro w hSw; (try dsimp only at hSw); go_simp; try (with_reducible rfl))
            (try simp only [Act.put, List.setIfInBounds_toArray, List.set_cons_zero, List.set_cons_succ])
            refine wpAnyH_take (i := 8) (oi := ⟨some 7, _, _, _, _, _⟩) (v := ?v44) rfl (by kernel_rfl) (by kernel_rfl) (by kernel_rfl) (fun _ _ _ h => h) (Or.inl ⟨by rfl, ?hy44⟩) (by assumption) ?_
            case hy44 => (intro w hSw; (try dsimp only at hSw); go_simp; try (with_reducible rfl))
            (try simp only [Act.put, List.setIfInBounds_toArray, List.set_cons_zero, List.set_cons_succ])
            refine wpAnyH_done (by kernel_rfl) ?_ _
            go_wp2
            refine bodyPost_ret (v := .tuple #[v5, .bool bq]) (by simp [results, Try.results30, go_sem]) rfl ?_
            exact ⟨_, by rw [HE2.out], by rw [HE2.out]; exact hO5.readsF (by omega), by first | exact bel_trans hB2 hs5 | exact bel_drew (bel_trans hB2 hs5)⟩
          exact AllReadyH.nil
        exact AllReadyH.nil
      · have ql : ((k : Int) == (n2 : Int) - 1) = false := by simp; omega
        have i1 : IntKind.i64.wrap ((n2 : Int) - 1) = (n2 : Int) - 1 := IntWalk.i64_in _ (by omega)
        have i2 : IntKind.i64.wrap ((k : Int) + 1) = (k : Int) + 1 := IntWalk.i64_in _ (by omega)
        have hk1 : k + 1 < n2 := by omega
        have q3 : (k : Int) + 1 < (n2 : Int) := by omega
        have q4 : (0 : Int) ≤ (k : Int) + 1 := by omega
        have HNX := Lib.hid (show (R.drop (k + 1)).getD 0 255 = R.getD (k + 1) 0 by rw [List.getD_eq_getElem?_getD, List.getD_eq_getElem?_getD, List.getElem?_drop, Nat.add_zero, List.getElem?_eq_getElem (by rw [HRn.out]; exact hk1)]; rfl)
        obtain ⟨nx, hnx⟩ : ∃ x, R.getD (k + 1) 0 = x := ⟨_, rfl⟩
        have hcn : wc.cell? ⟨b2, off2 + (k + 1), none⟩ = some (.int .i64 (R.getD (k + 1) 0)) := cell_at hB2 hb2 (hcells2 (k + 1) hk1)
        rw [hnx] at hcn HNX
        have hN8 := fol_mid HR8.out (k := k) (by rw [HRn.out]; exact hk1)
        rw [HNX.out] at hN8
        by_cases hn : r.1.next = nx
        · have HE := Lib.hid (show folL l R cl = folL l (R.drop (k + 1)) r.1.cell by rw [HST.out, if_pos ⟨hok, by rw [hn, HNX.out]⟩, if_neg (by rw [HRn.out]; omega)])
          have qn : (r.1.next != nx) = false := by simp [hn]
          have h80' := hgo.2.1 (by rw [hn]; exact hN8)
          have toN : ((k : Int) + 1).toNat = k + 1 := by omega
          clear hnx hok hn
          go_wp2_with fail
          go_region
          go_wp2
          go_roundw
          case rel => exact ⟨k + 1, r.1.cell, hk1, by go_num, by rw [HE.out], h80', hgo.2.2, CellAt.put hX2 (sno _ _ _) hC1 hC2 hIC, by first | exact bel_drew (bel_put hB2 hgx _) | exact bel_put hB2 hgx _ | exact bel_put (bel_drew hB2) hgx _, by simpa [World.setCell] using hX2.size⟩
          case measure => simp [intOf]; omega
        · have HE := Lib.hid (show folL l R cl = ([], false) by rw [HST.out, if_neg (fun h => hn (by rw [h.2, HNX.out]))])
          have qn : (r.1.next != nx) = true := by simpa using hn
          have toN : ((k : Int) + 1).toNat = k + 1 := by omega
          clear hnx hok hn
          go_wp2_with fail
          go_region
          go_wp2
          refine bodyPost_ret (v := .tuple #[.slice none 0 0, .bool false]) (by simp [results, Try.results30, go_sem]) rfl ?_
          exact ⟨_, by rw [HE.out], by rw [HE.out]; exact ReadsF.nil _ _, by first | exact hB2 | exact bel_drew hB2⟩
end Go.Proofs.Ytpapkonejkdkhaa
