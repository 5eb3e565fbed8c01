/-
  PLgI: texts joined.
-/
import Derived.Test.YtojbicecopkfbaaGreatKGj
import Derived.Test.YtojbicecopkfbaaGreatKGk
import Derived.Test.YtojbicecopkfbaaGreatKGo
import Derived.Test.YtojbicecopkfbaaGreatKGq
import Derived.Test.YtojbicecopkfbaaGreatKX0
import Derived.Test.YtojbicecopkfbaaGreatKX1
import Derived.Deep.LoopGhost
import Derived.Laws.IdiomRangeMap
import Derived.Maps.Ext
import Derived.WalkKit
namespace Go.Proofs.YtojbicecopkfbaaGreat
set_option maxRecDepth 100000
set_option linter.unusedVariables false
set_option linter.unusedSimpArgs false
open Go.ChangeShapes Go.WideShapes Go.ChangeAt Go.RowKit
theorem i_LG1 (A3 : Option Addr) (n3 c3 g : Nat) (k x0 x1 x2 x : Int) (w : World) (hg : w.cell? ⟨g, 0, none⟩ = some (.int .i64 x)) :
    Calls Tryz.prog 147 #[.int .i64 k, .agg #[.int .i64 x0, .int .i64 x1, .int .i64 x2, .slice A3 n3 c3], .pointer (some ⟨g, 0, none⟩)] w fun e w' => e = .returned (.bool (decide (x2 ≤ x))) ∧ Below w.heap.size w w' := by
  have hg2 : (w.alloc (.cells #[.int .i64 x0, .int .i64 x1, .int .i64 x2, .slice A3 n3 c3] 86)).cell? ⟨g, 0, none⟩ = some (.int .i64 x) := cell_bel (belx) hg
  by_cases h : x2 ≤ x
  · have HR := Lib.hid (show decide (x2 ≤ x) = true from decide_eq_true h)
    go_enter Tryz.func147, Tryz.ntmps147
    go_wp2
    go_ret
    exact ⟨ret_bool (by first | exact HR.out.symm | (simp; exact h)), (belx)⟩
  · have HR := Lib.hid (show decide (x2 ≤ x) = false from decide_eq_false h)
    go_enter Tryz.func147, Tryz.ntmps147
    go_wp2
    go_ret
    exact ⟨ret_bool (by first | exact HR.out.symm | (simp; omega)), (belx)⟩
open Go.Maps in
set_option maxHeartbeats 4000000 in
theorem i_DelF {w : World} {b n g B : Nat} {D : MD} {l : List DWhole} {x : Int} (hown : w.ownsMap Tryz.prog 3 mR b n D) (hW : MapW tWhole (fun a => a.1) w B D l) (hB : B ≤ b) (hg : g < w.heap.size) (hgb : g ≠ b) (hgc : w.cell? ⟨g, 0, none⟩ = some (.int .i64 x)) (hasc : Asc (l.map fun a => a.1)) :
    Calls Tryz.prog 146 #[.map (some b), .func (.func 147) #[] #[.pointer (some ⟨g, 0, none⟩)]] w fun e w' => e = .returned (.tuple #[]) ∧ ∃ D', w'.ownsMap Tryz.prog 3 mR b n D' ∧ MapW tWhole (fun a => a.1) w' B D' (lgf x l) ∧ w.grownBy w' (some b) := by
  have HASC := Lib.hid hasc
  have HS := Lib.hid (lgl_start x hW)
  have hbs := hown.lt
  clear hasc
  go_enter Tryz.func146, Tryz.ntmps146
  go_wp2_with (at_range; refine wpList_range_own _ rfl _ 82 rfl 3 86 ms_keyed Tryz.underlying82 mR b n D rfl hown ?_; intro w0 hrg0 hg0 hs0)
  go_frame
  go_loopw [8] (fun _ wr => ∃ (left : Lit → Bool) (cnt : Nat) (D1 : MD), wr.ranges Tryz.prog 3 mR b w.heap.size n D1 left cnt ∧ MapW tWhole (fun a => a.1) wr B D1 (lgl x left l) ∧ w.grownBy wr (some b))
    (fun _ wr => wr.rangeLeft b w.heap.size)
  case atStart => exact ⟨_, _, _, hrg0, by rw [HS.out]; exact hW.keep (fun i hi => hg0.block i (by omega) (by simp)), hg0.but _⟩
  case round =>
    obtain ⟨left, cnt, D1, hrg, hW1, hgw⟩ := hrel
    go_wp2_with (at_next; refine wpList_next_ranges _ rfl _ rfl 3 ms_keyed mR id id (fun key _ _ => ⟨key, rfl⟩) (fun v _ _ => ⟨v, rfl⟩) b w.heap.size n _ _ _ rfl hrg ?_ ?_)
    · intro _ hl0
      go_wp2
      go_end0
      exact ⟨rfl, _, hrg.owns, by rw [← lgl_end hl0]; exact hW1, hgw⟩
    · intro key c kl yd yp w1 cnt1 hkey hlx hv hat hrg1 hlt hg1 hs1 hen
      obtain ⟨k, rfl, hwk⟩ := key_int Tryz.underlying3 hkey
      obtain ⟨k2, hk2, hk3, -⟩ := keyOf_int_inv Tryz.underlying3 hkey
      have hk2' : key = .int .i64 k2 := hk2
      subst hk2'
      injection hk3 with _ hk3
      subst hk3
      obtain ⟨rfl, rfl⟩ : Go.DataW.held c = yd ∧ ([] : List MemPlace) = yp := by have e := Option.some.inj hv; exact ⟨congrArg Prod.fst e, congrArg Prod.snd e⟩
      obtain ⟨a, es, ha, hid, hc, hR⟩ := hW1.came hat
      subst hid
      have hc' : c = .agg es.toArray := hc
      subst hc'
      have hgw1 := hgw.andThen hg1 (fun j hj => by cases hj; exact Or.inl (Nat.le_refl _))
      have hcg : w1.cell? ⟨g, 0, none⟩ = some (.int .i64 x) := (World.cell?_of_block (a := ⟨g, 0, none⟩) (hgw1.block g hg (by simpa using hgb))).trans hgc
      have hbl := hrg1.owns.lt
      have hrl := hrg1.lt
      have hW2 : MapW tWhole (fun a => a.1) w1 B D1 (lgl x left l) := hW1.keep (fun i hi => hg1.block i (by have := hgw.size; omega) (by simp; have := hgw.size; omega))
      obtain ⟨A3, n3, c3, rfl, -⟩ := openWhole hR
      have HL := Lib.hid (fun a' (h : a' ∈ l) (e : a'.1 = a.1) => asc_one HASC.out h (lgl_mem ha) e)
      (try simp only [id_eq] at hen)
      have hcg2 : (w1.alloc (.cells #[.int .i64 a.1, .int .i64 a.2.1, .int .i64 a.2.2.1, .slice A3 n3 c3] 86)).cell? ⟨g, 0, none⟩ = some (.int .i64 x) := cell_bel (belx) hcg
      clear hat hkey hv hc hlx
      by_cases hp : a.2.2.1 ≤ x
      · have HP := Lib.hid (decide_eq_true hp)
        have HG := Lib.hid (lgl_gone (x := x) (left := left) (l := l) (k := a.1) (fun a' h e => by rw [HL.out a' h e]; omega))
        clear hp
        go_wp2_with fail
        refine (i_LG1 _ _ _ _ _ _ _ _ _ _ hcg2).mono ?_
        rintro e w2 ⟨rfl, hb2⟩
        rw [HP.out]
        have hs2 : Below w1.heap.size w1 w2 := bel_trans (belx) hb2
        have hg2 : w1.grownBy w2 none := below_grownBy hs2
        have hrg2 := hrg1.kept hg2 (by simp) (by simp)
        have hW3 := hW2.keep (w' := w2) (fun i hi => hs2.block i (by have := hgw1.size; omega))
        go_wp2_with (at_delete; refine wpList_delete_ranges _ rfl _ _ 82 3 rfl 86 ms_keyed Tryz.underlying82 mR b w.heap.size n _ _ _ rfl hrg2 _ (mK a.1) rfl (keyOf_int_mk Tryz.underlying3 hwk) ?_; intro w3 cnt3 hrg3 hle hturn; go_frame)
        rw [strike_twice] at hrg3
        go_roundw
        case rel => exact ⟨_, cnt3, _, hrg3, by rw [HG.out]; exact (hW3.keep (fun i hi => hturn.grown.block i (by have := hgw1.size; have := hs2.size; omega) (by simp; omega))).del a.1, (hgw1.andThen hg2 (fun j hj => by cases hj)).andThen hturn.grown (fun j hj => by cases hj; exact Or.inr rfl)⟩
        case measure => rw [hrg3.left_eq, hrg.left_eq]; omega
      · have HP := Lib.hid (decide_eq_false hp)
        have HG := Lib.hid (lgl_stay (x := x) (left := left) (l := l) (k := a.1) (fun a' h e => by rw [HL.out a' h e]; omega))
        clear hp
        go_wp2_with fail
        refine (i_LG1 _ _ _ _ _ _ _ _ _ _ hcg2).mono ?_
        rintro e w2 ⟨rfl, hb2⟩
        rw [HP.out]
        have hs2 : Below w1.heap.size w1 w2 := bel_trans (belx) hb2
        have hg2 : w1.grownBy w2 none := below_grownBy hs2
        have hrg2 := hrg1.kept hg2 (by simp) (by simp)
        have hW3 := hW2.keep (w' := w2) (fun i hi => hs2.block i (by have := hgw1.size; omega))
        go_wp2
        go_roundw
        case rel => exact ⟨_, cnt1, _, hrg2, by rw [HG.out]; exact hW3, hgw1.andThen hg2 (fun j hj => by cases hj)⟩
        case measure => rw [hrg2.left_eq, hrg.left_eq]; exact hlt
theorem put2Dk {w : World} {g : Nat} {v0 v1 : Value} {r0 : List DWhole} {l1 : List Int} {F0 F1 : List Nat} (h0 : tWhole.row.O w [v0] r0 F0) (h1 : tIs.O w [v1] l1 F1) (hg : g ∉ F0 ++ F1) :
    tDesk.O ((w.setCell ⟨g, 0, none⟩ v0).setCell ⟨g, 1, none⟩ v1) [v0, v1] (r0, l1) (F0 ++ F1) := by
  have g0 : g ∉ F0 := fun h => hg (List.mem_append.2 (.inl h))
  have g1 : g ∉ F1 := fun h => hg (List.mem_append.2 (.inr h))
  obtain ⟨F, hF, rfl⟩ := makeODesk (p := (r0, l1)) (Ty.far3 (t := tWhole.row) (Ty.far3 (t := tWhole.row) h0 (p := ⟨g, 0, none⟩) g0 v0) (p := ⟨g, 1, none⟩) g0 v1) (Ty.far3 (t := tIs) (Ty.far3 (t := tIs) h1 (p := ⟨g, 0, none⟩) g1 v0) (p := ⟨g, 1, none⟩) g1 v1)
  exact hF
theorem zwholeL (w : World) : (zeroValue 86).run Tryz.prog w = .ok (.agg #[.int .i64 0, .int .i64 0, .int .i64 0, .slice none 0 0]) w := by rfl
set_option maxHeartbeats 4000000 in
theorem i_deskOf {w : World} {b n n1 c1 B : Nat} {A1 : Option Addr} {D : MD} {l : List DWhole} {l1 : List Int} (hown : w.ownsMap Tryz.prog 3 mR b n D) (hW : MapW tWhole (fun a => a.1) w B D l) (hBw : B ≤ w.heap.size) (hasc : Asc (l.map fun a => a.1)) (h1 : tIs.R w w.heap.size [.slice A1 n1 c1] l1) (hz : rsz szWhole l + l1.length ≤ 1048576) :
    Calls Tryz.prog 51 #[.map (some b), .slice A1 n1 c1] w fun e w' => ∃ A0' c0' A1' c1' F, e = .returned (.agg #[.slice A0' l.length c0', .slice A1' l1.length c1']) ∧ tDesk.O w' [.slice A0' l.length c0', .slice A1' l1.length c1'] (l, l1) F ∧ New w.heap.size F ∧ Below w.heap.size w w' := by
  have hI1 := (slR_ints h1).1
  have hn1 : n1 ≤ 1048576 := by have := hI1.1; omega
  have hnl : l.length ≤ 1048576 := by have := rsz_le (s := szWhole) l; omega
  have HSZ := Lib.hid (show ∀ (i : Nat) (a : DWhole), l[i]? = some a → szWhole a ≤ 1048576 from fun i a ha => by have := rsz_step (s := szWhole) ha; omega)
  have HND := Lib.hid (asc_nodup hasc)
  have HKY := Lib.hid (hW.keys hown Tryz.underlying3 HND.out)
  have hsD : Go.Maps.size D ≤ 1048576 := by rw [hW.size hown Tryz.underlying3 HND.out]; exact hnl
  have HASC := Lib.hid hasc
  obtain ⟨i1, hj0, hj1, hj2, hj3⟩ := info_parts info_Whole
  have hbs := hown.lt
  clear hasc h1 hz
  go_enter Tryz.func51, Tryz.ntmps51
  go_wp2_with fail
  refine (i_copiedI5 (reach hI1 ?hB) hn1).mono ?_
  case hB => exact (belx)
  rintro e w1 ⟨v1, rfl, hO1, hb1⟩
  obtain ⟨B1, d1, F1, rfl, hOd1, hNd1⟩ := own_slice hO1
  clear hO1
  have R1 : Box w1 w.heap.size 33 #[.slice none 0 0, .slice none 0 0] := (Box.new _ _ _).below hb1 (by simp)
  have hB1 : Below w.heap.size w w1 := bel_trans (belx) hb1
  have z1 : w.heap.size + 1 ≤ w1.heap.size := by have := hb1.size; simpa using this
  have hNd : New (w.heap.size + 1) F1 := hNd1.lower (by simp)
  clear hb1 hNd1
  go_wp2_with fail
  refine (i_Keys _ _).mono ?_
  rintro e w2 ⟨rfl, rfl⟩
  have OB : Box (w1.alloc (.cells #[.slice none 0 0, .slice B1 l1.length d1] 33)) w1.heap.size 33 #[.slice none 0 0, .slice B1 l1.length d1] := Box.new _ _ _
  have hB2 : Below w.heap.size w ((w1.alloc (.cells #[.slice none 0 0, .slice B1 l1.length d1] 33)).alloc (.cells #[.map (some b)] 82)) := bel_alloc (bel_alloc hB1 _) _
  have hC2 : Below w1.heap.size w1 ((w1.alloc (.cells #[.slice none 0 0, .slice B1 l1.length d1] 33)).alloc (.cells #[.map (some b)] 82)) := bel_alloc (bel_alloc (Below.refl _ _) _) _
  have hM2 : ((w1.alloc (.cells #[.slice none 0 0, .slice B1 l1.length d1] 33)).alloc (.cells #[.map (some b)] 82)).ownsMap Tryz.prog 3 mR b n D := hown.kept (row := none) (below_grownBy hB2) (by simp)
  have hgc : ((w1.alloc (.cells #[.slice none 0 0, .slice B1 l1.length d1] 33)).alloc (.cells #[.map (some b)] 82)).cell? ⟨w1.heap.size + 1, 0, none⟩ = some (.map (some b)) := (show Box _ (w1.heap.size + 1) 82 #[.map (some b)] from by simpa using Box.new (w1.alloc (.cells #[.slice none 0 0, .slice B1 l1.length d1] 33)) 82 #[.map (some b)]).cell 0
  obtain ⟨w2, hw2⟩ : ∃ w2, ((w1.alloc (.cells #[.slice none 0 0, .slice B1 l1.length d1] 33)).alloc (.cells #[.map (some b)] 82)) = w2 := ⟨_, rfl⟩
  have z2' : w2.heap.size = w1.heap.size + 2 := by rw [← hw2]; simp
  have z2 : w1.heap.size + 2 ≤ w2.heap.size := by omega
  have R2 : Box w2 w.heap.size 33 #[.slice none 0 0, .slice none 0 0] := by rw [← hw2]; exact (R1.alloc _).alloc _
  have O2 : Box w2 w1.heap.size 33 #[.slice none 0 0, .slice B1 l1.length d1] := by rw [← hw2]; exact OB.alloc _
  simp only [World.size_alloc]
  rw [hw2] at hB2 hC2 hM2 hgc ⊢
  clear hw2 OB z2' R1
  go_wp2_with fail
  refine (i_SortedKeys hM2 (by omega) hgc hsD HKY.out.2).mono ?_
  rintro e w3 ⟨v3, ss, rfl, hS, hO3, hb3⟩
  rw [asc_sorted HASC.out (hS.trans HKY.out.1)] at hO3
  obtain ⟨BS, dS, FS, rfl, hOS, hNS⟩ := own_slice hO3
  clear hO3 hS hgc
  have hB3 : Below w.heap.size w w3 := bel_trans hB2 hb3
  have z3 : w2.heap.size ≤ w3.heap.size := hb3.size
  have R3 := R2.below hb3 R2.size
  have O3 := O2.below hb3 O2.size
  have H13 : tIs.O w3 [.slice B1 l1.length d1] l1 F1 := Ty.below (t := tIs) (Ty.below (t := tIs) hOd1 hC2) hb3
  have hM3 := hM2.kept (row := none) (below_grownBy hb3) (by simp)
  have FSl : ∀ f ∈ FS, f < w3.heap.size := fun f hf => tIs.lt hOS f hf
  have F1l : ∀ f ∈ F1, f < w3.heap.size := fun f hf => by have := tIs.lt hOd1 f hf; omega
  have FSo : w1.heap.size ∉ FS := fun h => by have := hNS.2 _ h; omega
  have F1o : w1.heap.size ∉ F1 := fun h => by have := tIs.lt hOd1 _ h; omega
  have hML : (l.map fun a => a.1).length = l.length := List.length_map _
  obtain ⟨mk, hmk⟩ : ∃ m, (l.map fun a : DWhole => a.1) = m := ⟨_, rfl⟩
  have HMK := Lib.hid hmk
  rw [hmk] at hOS hML ⊢
  obtain ⟨nl, hnl2⟩ : ∃ m, mk.length = m := ⟨_, rfl⟩
  rw [hnl2] at hOS hML ⊢
  have HNL := Lib.hid hML
  obtain ⟨ob, hob⟩ : ∃ ob, w1.heap.size = ob := ⟨_, rfl⟩
  have hNdl : ∀ f ∈ F1, f < ob := fun f hf => by have := tIs.lt hOd1 f hf; omega
  rw [hob] at z1 z2 O3 FSo F1o
  have hNSl : ∀ f ∈ FS, w2.heap.size ≤ f := fun f hf => hNS.2 f hf
  have HML2 := Lib.hid hnl2
  rw [hob]
  have hnl3 : nl ≤ 1048576 := by omega
  clear hmk hML hnl2 hob hOd1 hC2 hM2 hb3 R2 O2 hB2 hNS
  go_wp2_with fail
  go_loopw [15] (fun i wr => ∃ (j : Nat) (F : List Nat) (v : Value), j ≤ nl ∧ i = .int .i64 j ∧ GrowO tWhole 86 wr w3.heap.size v (l.take j) F ∧ Box wr w.heap.size 33 #[.slice none 0 0, .slice none 0 0] ∧ Box wr ob 33 #[v, .slice B1 l1.length d1] ∧ tIs.O wr [.slice B1 l1.length d1] l1 F1 ∧ tIs.O wr [.slice BS nl dS] mk FS ∧ wr.ownsMap Tryz.prog 3 mR b n D ∧ Below w.heap.size w wr ∧ w3.heap.size ≤ wr.heap.size) (fun i _ => nl - ixOf i)
  case atStart => exact ⟨0, [], .slice none 0 0, by omega, rfl, GrowO.nil, R3, O3, H13, hOS, hM3, hB3, Nat.le_refl _⟩
  case round =>
    obtain ⟨j, F, v, hj, rfl, hG, R4, O4, H1, HS, HM, hB4, zr⟩ := hrel
    clear R3 O3 H13 hOS hM3 hB3
    by_cases hlt : j < nl
    · have hjl : j < l.length := by have := HNL.out; omega
      obtain ⟨a0, hl2⟩ : ∃ a, l[j]? = some a := ⟨_, List.getElem?_eq_getElem hjl⟩
      have HT := Lib.hid (take_snoc hl2)
      have hwid : (mk.getD j 0) = a0.1 := by rw [← HMK.out]; exact map_at hl2
      have hIk := (slR_ints (tIs.read HS)).1
      obtain ⟨ba, off, rfl, hba, hcell, hwf⟩ := hIk.at_ hlt
      rw [hwid] at hcell
      have hkw : (Lit.int .i64 a0.1).wf = true := by rw [← hwid]; exact hwf
      have hsa := HSZ.out j a0 hl2
      have hWr : MapW tWhole (fun a => a.1) wr B D l := hW.keep (fun i hi => hB4.block i (by omega))
      have HLN := Lib.hid (show (l.take j).length ≤ 1048576 from by rw [List.length_take]; omega)
      obtain ⟨vv, hrun, hv⟩ := MapW.look (w := wr.drew) (hWr.keep (fun _ _ => rfl)) HM Tryz.underlying3 Tryz.underlying82 (zwholeL _) hkw
      rcases hv with ⟨a, es, ha', hid', rfl, hRa⟩ | ⟨hno, -⟩
      rotate_left
      · exact absurd rfl (hno a0 (List.mem_of_getElem? hl2))
      obtain rfl : a = a0 := asc_one HASC.out ha' (List.mem_of_getElem? hl2) hid'
      have zB : B ≤ wr.drew.heap.size := by show B ≤ wr.heap.size; omega
      have o4c := O4.cell 0
      have hOwn := fun b hb => (GrowO.row hG).choose_spec.1.lt b hb
      have hlt2 := hG.lt
      have q1 : (j : Int) < (nl : Int) := by omega
      have q0 : (0 : Int) ≤ (j : Int) := by omega
      clear hl2 ha' hid' hwid hIk hWr hwf hjl
      go_wp2_with fail
      refine wp_region_held_drew (S := (fun _ => True)) (by kernel_rfl) (by trivial) (fun hHeld => ?_)
      refine wpAnyH_take (i := 0) (oi := ⟨some 19, _, _, _, _, _⟩) (v := ?v1) rfl (by kernel_rfl) (by kernel_rfl) (by kernel_rfl) (fun _ _ _ h => h) (Or.inl ⟨by rfl, ?hy1⟩) (by assumption) ?_
      case hy1 => (intro w hSw; (try dsimp only at hSw); go_simp; try (with_reducible rfl))
      (try simp only [Act.put, qa_, qb_, qc_])
      refine wpAnyH_take (i := 2) (oi := ⟨some 21, _, _, _, _, _⟩) (v := ?v2) rfl (by kernel_rfl) (by kernel_rfl) (by kernel_rfl) (fun _ _ _ h => h) (Or.inl ⟨by rfl, ?hy2⟩) (by assumption) ?_
      case hy2 => (intro w hSw; (try dsimp only at hSw); go_simp; try (with_reducible rfl))
      (try simp only [Act.put, qa_, qb_, qc_])
      refine wpAnyH_take (i := 3) (oi := ⟨some 22, _, _, _, _, _⟩) (v := ?v3) rfl (by kernel_rfl) (by kernel_rfl) (by kernel_rfl) (fun _ _ _ h => h) (Or.inl ⟨by rfl, ?hy3⟩) (by assumption) ?_
      case hy3 => (intro w hSw; (try dsimp only at hSw); go_simp; try (with_reducible rfl))
      (try simp only [Act.put, qa_, qb_, qc_])
      refine wpAnyH_ready (rs := [1, 4]) (by kernel_rfl) (by simp) ?_
      refine AllReadyH.cons rfl (fun K hK => ?_) ?_
      · go_simp
        refine hK.out _ _ (by trivial) (fun hHeld => ?_)
        clear hK K
        (try simp only [Act.put, qa_, qb_, qc_])
        refine wpAnyH_ready (rs := [4]) (by kernel_rfl) (by simp) ?_
        refine AllReadyH.cons rfl (fun K hK => ?_) ?_
        · go_simp
          refine hK.out _ _ (by trivial) (fun hHeld => ?_)
          clear hK K
          (try simp only [Act.put, qa_, qb_, qc_])
          refine wpAnyH_ready (rs := [5]) (by kernel_rfl) (by simp) ?_
          refine AllReadyH.cons rfl (fun K hK => ?_) ?_
          · go_simp
            go_at_call 117
            refine (i_WholeCopy (tWhole.up (tWhole.keep hRa (fun _ _ => rfl)) (by first | exact zB | exact hB.size)) hsa).mono ?_
            rintro e w5 ⟨cs1, Fd, rfl, hOd, hNd0, hb5⟩
            have hs1 : Below wr.heap.size wr w5 := bel_trans (show Below wr.heap.size wr wr.drew from (belx)) hb5
            have hNd : New wr.heap.size Fd := hNd0.lower (by simp)
            have hOk := hOd
            obtain ⟨oA3, oc3, oF3, rfl, -, -, -, -, -, -, -⟩ := openOWhole hOd
            clear hOd hNd0
            have R5 := Box.below R4 hs1 R4.size
            have O5 := Box.below O4 hs1 O4.size
            have o5c := O5.cell 0
            have OA := O5.alloc (.cells ([.int .i64 a.1, .int .i64 a.2.1, .int .i64 a.2.2.1, .slice oA3 a.2.2.2.length oc3].toArray) 86)
            have oAc := OA.cell 0
            have zw1 := hs1.size
            go_wp2_with fail
            refine hK.out _ _ (by trivial) (fun hHeld => ?_)
            clear hK K
            (try simp only [Act.put, qa_, qb_, qc_])
            refine wpAnyH_ready (rs := [6]) (by kernel_rfl) (by simp) ?_
            refine AllReadyH.cons rfl (fun K hK => ?_) ?_
            · go_simp
              refine hK.out _ _ (by trivial) (fun hHeld => ?_)
              clear hK K
              (try simp only [Act.put, qa_, qb_, qc_])
              refine wpAnyH_ready (rs := [7]) (by kernel_rfl) (by simp) ?_
              refine AllReadyH.cons rfl (fun K hK => ?_) ?_
              · have hBx : Below wr.heap.size wr (w5.alloc (.cells ([.int .i64 a.1, .int .i64 a.2.1, .int .i64 a.2.2.1, .slice oA3 a.2.2.2.length oc3].toArray) 86)) := bel_alloc hs1 _
                obtain ⟨xs, hrow, hpush⟩ := (hG.below hBx).row
                have hS2 : Src (w5.alloc (.cells ([.int .i64 a.1, .int .i64 a.2.1, .int .i64 a.2.2.1, .slice oA3 a.2.2.2.length oc3].toArray) 86)) 4 (some ⟨w5.heap.size, 0, none⟩) 1 [.int .i64 a.1, .int .i64 a.2.1, .int .i64 a.2.2.1, .slice oA3 a.2.2.2.length oc3] := Src.of_box w5 86 [.int .i64 a.1, .int .i64 a.2.1, .int .i64 a.2.2.1, .slice oA3 a.2.2.2.length oc3] (K := 4) rfl
                have tz : (Value.agg #[Value.int .i64 0, Value.int .i64 0, Value.int .i64 0, Value.slice none 0 0]).cells.size = 4 := (by first | rfl | (simp [Value.cells]; done))
                have t0 : ∀ u ∈ ([.int .i64 a.1, .int .i64 a.2.1, .int .i64 a.2.2.1, .slice oA3 a.2.2.2.length oc3] : List Value), u.oneCell' = true := (by intro u hu; simp only [List.mem_cons, List.not_mem_nil, or_false] at hu; rcases hu with rfl | rfl | rfl | rfl <;> rfl)
                have t1 : (l.take j).length + 1 ≤ maxLen := (by simp only [maxLen]; have := HLN.out; omega)
                have t2 : ((l.take j).length + 1) * 48 ≤ 140737488355328 := (by have := HLN.out; omega)
                have t3 := hBx.size
                refine step_app5 _ (by rfl) (.tmp 20) (.tmp 25) _ (by rfl) w3.heap.size 86 i1 _ 4 48 Tryz.underlying31 hj0 hj1 hj2 hj3 tz (by omega) v _ xs (by rfl) hrow _ 1 1 [.int .i64 a.1, .int .i64 a.2.1, .int .i64 a.2.2.1, .slice oA3 a.2.2.2.length oc3] (by rfl) hS2 t0 t1 t2 (by omega) ?_
                intro v2 w2 hown2 hgr2 hat2
                have hOel : tWhole.O (w5.alloc (.cells ([.int .i64 a.1, .int .i64 a.2.1, .int .i64 a.2.2.1, .slice oA3 a.2.2.2.length oc3].toArray) 86)) [.int .i64 a.1, .int .i64 a.2.1, .int .i64 a.2.2.1, .slice oA3 a.2.2.2.length oc3] a Fd := Ty.below (t := tWhole) hOk (belx)
                have hNel : New w3.heap.size Fd := hNd.lower (by omega)
                have hdis : ∀ f ∈ Fd, f ∉ F := (fun f h1 h2 => by have := hNd.2 _ h1; have := hlt2 f h2; omega)
                have hod : ∀ b, v.ownBlock = some b → b ∉ Fd := (fun b hb hx => by have := (hOwn b hb).2; have := hNd.2 _ hx; omega)
                have hfin := hpush w2 v2 a _ Fd hOel hNel hdis hod hown2 hgr2 hat2
                obtain ⟨A9, n9, c9, rfl, -⟩ := hfin.shapeN
                have R2 := Box.grown (w := (w5.alloc (.cells ([.int .i64 a.1, .int .i64 a.2.1, .int .i64 a.2.2.1, .slice oA3 a.2.2.2.length oc3].toArray) 86))) (R5.alloc _) hgr2 (fun e => by have := (hOwn w.heap.size e.symm).1; omega)
                have O2 := Box.grown (w := (w5.alloc (.cells ([.int .i64 a.1, .int .i64 a.2.1, .int .i64 a.2.2.1, .slice oA3 a.2.2.2.length oc3].toArray) 86))) (O5.alloc _) hgr2 (fun e => by have := (hOwn ob e.symm).1; omega)
                have hBf : Below w.heap.size w w2 := Below.grown (w := (w5.alloc (.cells ([.int .i64 a.1, .int .i64 a.2.1, .int .i64 a.2.2.1, .slice oA3 a.2.2.2.length oc3].toArray) 86))) (bel_trans hB4 hBx) hgr2 (by have := hBx.size; omega) (fun b hb => by have := (hOwn b hb).1; omega)
                have z2 := hgr2.size
                have o2c := O2.cell 0
                have o2f := O2.frozen 0
                have GF := hfin.put (p := ⟨ob, 0, none⟩) (by show ob < w3.heap.size; omega) (.slice A9 n9 c9)
                have RF := R2.far (p := ⟨ob, 0, none⟩) (by show ¬ w.heap.size = ob; omega) (.slice A9 n9 c9)
                have OF : Box (w2.setCell ⟨ob, 0, none⟩ (.slice A9 n9 c9)) ob 33 #[.slice A9 n9 c9, .slice B1 l1.length d1] := O2.put 0 (.slice A9 n9 c9)
                have H1F := Ty.far3 (own_past (w := (w5.alloc (.cells ([.int .i64 a.1, .int .i64 a.2.1, .int .i64 a.2.2.1, .slice oA3 a.2.2.2.length oc3].toArray) 86))) (Ty.below (t := tIs) H1 hBx) hgr2 (fun b hb hx => by have h1 := (hOwn b hb).1; have h2 := F1l b hx; omega)) (p := ⟨ob, 0, none⟩) F1o (.slice A9 n9 c9)
                have HSF := Ty.far3 (own_past (w := (w5.alloc (.cells ([.int .i64 a.1, .int .i64 a.2.1, .int .i64 a.2.2.1, .slice oA3 a.2.2.2.length oc3].toArray) 86))) (Ty.below (t := tIs) HS hBx) hgr2 (fun b hb hx => by have h1 := (hOwn b hb).1; have h2 := FSl b hx; omega)) (p := ⟨ob, 0, none⟩) FSo (.slice A9 n9 c9)
                have HMF := (World.ownsMap.kept (w := (w5.alloc (.cells ([.int .i64 a.1, .int .i64 a.2.1, .int .i64 a.2.2.1, .slice oA3 a.2.2.2.length oc3].toArray) 86))) (row := (v.ownBlock)) (World.ownsMap.kept (w := wr) (row := none) HM (below_grownBy hBx) (by simp)) hgr2 (fun e => by have h1 := (hOwn b e.symm).1; omega)).setCell (a := ⟨ob, 0, none⟩) (by show b ≠ ob; omega) (.slice A9 n9 c9)
                have BF : Below w.heap.size w (w2.setCell ⟨ob, 0, none⟩ (.slice A9 n9 c9)) := bel_put hBf (by show w.heap.size ≤ ob; omega) _
                refine hK.out _ _ (by trivial) (fun hHeld => ?_)
                clear hK K
                (try simp only [Act.put, qa_, qb_, qc_])
                refine wpAnyH_take (i := 8) (oi := ⟨some 27, _, _, _, _, _⟩) (v := ?v4) rfl (by kernel_rfl) (by kernel_rfl) (by kernel_rfl) (fun _ _ _ h => h) (Or.inl ⟨by rfl, ?hy4⟩) (by assumption) ?_
                case hy4 => (intro w hSw; (try dsimp only at hSw); go_simp; try (with_reducible rfl))
                (try simp only [Act.put, qa_, qb_, qc_])
                refine wpAnyH_ready (rs := [9]) (by kernel_rfl) (by simp) ?_
                refine AllReadyH.cons rfl (fun K hK => ?_) ?_
                · go_simp
                  refine hK.out _ _ (by trivial) (fun hHeld => ?_)
                  clear hK K
                  (try simp only [Act.put, qa_, qb_, qc_])
                  refine wpAnyH_done (by kernel_rfl) ?_ _
                  go_wp2
                  go_roundw
                  case rel => exact ⟨j + 1, _, _, by omega, by go_num, by rw [HT.out]; exact GF, RF, OF, H1F, HSF, HMF, BF, by have h := z2; simp [World.setCell] at h ⊢; omega⟩
                  case measure => simp [ixOf]; omega
                exact AllReadyH.nil
              exact AllReadyH.nil
            exact AllReadyH.nil
          exact AllReadyH.nil
        exact AllReadyH.nil
      refine AllReadyH.cons rfl (fun K hK => ?_) ?_
      · go_simp
        refine hK.out _ _ (by trivial) (fun hHeld => ?_)
        clear hK K
        (try simp only [Act.put, qa_, qb_, qc_])
        refine wpAnyH_ready (rs := [1, 5]) (by kernel_rfl) (by simp) ?_
        refine AllReadyH.cons rfl (fun K hK => ?_) ?_
        · go_simp
          refine hK.out _ _ (by trivial) (fun hHeld => ?_)
          clear hK K
          (try simp only [Act.put, qa_, qb_, qc_])
          refine wpAnyH_ready (rs := [5]) (by kernel_rfl) (by simp) ?_
          refine AllReadyH.cons rfl (fun K hK => ?_) ?_
          · go_simp
            go_at_call 117
            refine (i_WholeCopy (tWhole.up (tWhole.keep hRa (fun _ _ => rfl)) (by first | exact zB | exact hB.size)) hsa).mono ?_
            rintro e w5 ⟨cs1, Fd, rfl, hOd, hNd0, hb5⟩
            have hs1 : Below wr.heap.size wr w5 := bel_trans (show Below wr.heap.size wr wr.drew from (belx)) hb5
            have hNd : New wr.heap.size Fd := hNd0.lower (by simp)
            have hOk := hOd
            obtain ⟨oA3, oc3, oF3, rfl, -, -, -, -, -, -, -⟩ := openOWhole hOd
            clear hOd hNd0
            have R5 := Box.below R4 hs1 R4.size
            have O5 := Box.below O4 hs1 O4.size
            have o5c := O5.cell 0
            have OA := O5.alloc (.cells ([.int .i64 a.1, .int .i64 a.2.1, .int .i64 a.2.2.1, .slice oA3 a.2.2.2.length oc3].toArray) 86)
            have oAc := OA.cell 0
            have zw1 := hs1.size
            go_wp2_with fail
            refine hK.out _ _ (by trivial) (fun hHeld => ?_)
            clear hK K
            (try simp only [Act.put, qa_, qb_, qc_])
            refine wpAnyH_ready (rs := [6]) (by kernel_rfl) (by simp) ?_
            refine AllReadyH.cons rfl (fun K hK => ?_) ?_
            · go_simp
              refine hK.out _ _ (by trivial) (fun hHeld => ?_)
              clear hK K
              (try simp only [Act.put, qa_, qb_, qc_])
              refine wpAnyH_ready (rs := [7]) (by kernel_rfl) (by simp) ?_
              refine AllReadyH.cons rfl (fun K hK => ?_) ?_
              · have hBx : Below wr.heap.size wr (w5.alloc (.cells ([.int .i64 a.1, .int .i64 a.2.1, .int .i64 a.2.2.1, .slice oA3 a.2.2.2.length oc3].toArray) 86)) := bel_alloc hs1 _
                obtain ⟨xs, hrow, hpush⟩ := (hG.below hBx).row
                have hS2 : Src (w5.alloc (.cells ([.int .i64 a.1, .int .i64 a.2.1, .int .i64 a.2.2.1, .slice oA3 a.2.2.2.length oc3].toArray) 86)) 4 (some ⟨w5.heap.size, 0, none⟩) 1 [.int .i64 a.1, .int .i64 a.2.1, .int .i64 a.2.2.1, .slice oA3 a.2.2.2.length oc3] := Src.of_box w5 86 [.int .i64 a.1, .int .i64 a.2.1, .int .i64 a.2.2.1, .slice oA3 a.2.2.2.length oc3] (K := 4) rfl
                have tz : (Value.agg #[Value.int .i64 0, Value.int .i64 0, Value.int .i64 0, Value.slice none 0 0]).cells.size = 4 := (by first | rfl | (simp [Value.cells]; done))
                have t0 : ∀ u ∈ ([.int .i64 a.1, .int .i64 a.2.1, .int .i64 a.2.2.1, .slice oA3 a.2.2.2.length oc3] : List Value), u.oneCell' = true := (by intro u hu; simp only [List.mem_cons, List.not_mem_nil, or_false] at hu; rcases hu with rfl | rfl | rfl | rfl <;> rfl)
                have t1 : (l.take j).length + 1 ≤ maxLen := (by simp only [maxLen]; have := HLN.out; omega)
                have t2 : ((l.take j).length + 1) * 48 ≤ 140737488355328 := (by have := HLN.out; omega)
                have t3 := hBx.size
                refine step_app5 _ (by rfl) (.tmp 20) (.tmp 25) _ (by rfl) w3.heap.size 86 i1 _ 4 48 Tryz.underlying31 hj0 hj1 hj2 hj3 tz (by omega) v _ xs (by rfl) hrow _ 1 1 [.int .i64 a.1, .int .i64 a.2.1, .int .i64 a.2.2.1, .slice oA3 a.2.2.2.length oc3] (by rfl) hS2 t0 t1 t2 (by omega) ?_
                intro v2 w2 hown2 hgr2 hat2
                have hOel : tWhole.O (w5.alloc (.cells ([.int .i64 a.1, .int .i64 a.2.1, .int .i64 a.2.2.1, .slice oA3 a.2.2.2.length oc3].toArray) 86)) [.int .i64 a.1, .int .i64 a.2.1, .int .i64 a.2.2.1, .slice oA3 a.2.2.2.length oc3] a Fd := Ty.below (t := tWhole) hOk (belx)
                have hNel : New w3.heap.size Fd := hNd.lower (by omega)
                have hdis : ∀ f ∈ Fd, f ∉ F := (fun f h1 h2 => by have := hNd.2 _ h1; have := hlt2 f h2; omega)
                have hod : ∀ b, v.ownBlock = some b → b ∉ Fd := (fun b hb hx => by have := (hOwn b hb).2; have := hNd.2 _ hx; omega)
                have hfin := hpush w2 v2 a _ Fd hOel hNel hdis hod hown2 hgr2 hat2
                obtain ⟨A9, n9, c9, rfl, -⟩ := hfin.shapeN
                have R2 := Box.grown (w := (w5.alloc (.cells ([.int .i64 a.1, .int .i64 a.2.1, .int .i64 a.2.2.1, .slice oA3 a.2.2.2.length oc3].toArray) 86))) (R5.alloc _) hgr2 (fun e => by have := (hOwn w.heap.size e.symm).1; omega)
                have O2 := Box.grown (w := (w5.alloc (.cells ([.int .i64 a.1, .int .i64 a.2.1, .int .i64 a.2.2.1, .slice oA3 a.2.2.2.length oc3].toArray) 86))) (O5.alloc _) hgr2 (fun e => by have := (hOwn ob e.symm).1; omega)
                have hBf : Below w.heap.size w w2 := Below.grown (w := (w5.alloc (.cells ([.int .i64 a.1, .int .i64 a.2.1, .int .i64 a.2.2.1, .slice oA3 a.2.2.2.length oc3].toArray) 86))) (bel_trans hB4 hBx) hgr2 (by have := hBx.size; omega) (fun b hb => by have := (hOwn b hb).1; omega)
                have z2 := hgr2.size
                have o2c := O2.cell 0
                have o2f := O2.frozen 0
                have GF := hfin.put (p := ⟨ob, 0, none⟩) (by show ob < w3.heap.size; omega) (.slice A9 n9 c9)
                have RF := R2.far (p := ⟨ob, 0, none⟩) (by show ¬ w.heap.size = ob; omega) (.slice A9 n9 c9)
                have OF : Box (w2.setCell ⟨ob, 0, none⟩ (.slice A9 n9 c9)) ob 33 #[.slice A9 n9 c9, .slice B1 l1.length d1] := O2.put 0 (.slice A9 n9 c9)
                have H1F := Ty.far3 (own_past (w := (w5.alloc (.cells ([.int .i64 a.1, .int .i64 a.2.1, .int .i64 a.2.2.1, .slice oA3 a.2.2.2.length oc3].toArray) 86))) (Ty.below (t := tIs) H1 hBx) hgr2 (fun b hb hx => by have h1 := (hOwn b hb).1; have h2 := F1l b hx; omega)) (p := ⟨ob, 0, none⟩) F1o (.slice A9 n9 c9)
                have HSF := Ty.far3 (own_past (w := (w5.alloc (.cells ([.int .i64 a.1, .int .i64 a.2.1, .int .i64 a.2.2.1, .slice oA3 a.2.2.2.length oc3].toArray) 86))) (Ty.below (t := tIs) HS hBx) hgr2 (fun b hb hx => by have h1 := (hOwn b hb).1; have h2 := FSl b hx; omega)) (p := ⟨ob, 0, none⟩) FSo (.slice A9 n9 c9)
                have HMF := (World.ownsMap.kept (w := (w5.alloc (.cells ([.int .i64 a.1, .int .i64 a.2.1, .int .i64 a.2.2.1, .slice oA3 a.2.2.2.length oc3].toArray) 86))) (row := (v.ownBlock)) (World.ownsMap.kept (w := wr) (row := none) HM (below_grownBy hBx) (by simp)) hgr2 (fun e => by have h1 := (hOwn b e.symm).1; omega)).setCell (a := ⟨ob, 0, none⟩) (by show b ≠ ob; omega) (.slice A9 n9 c9)
                have BF : Below w.heap.size w (w2.setCell ⟨ob, 0, none⟩ (.slice A9 n9 c9)) := bel_put hBf (by show w.heap.size ≤ ob; omega) _
                refine hK.out _ _ (by trivial) (fun hHeld => ?_)
                clear hK K
                (try simp only [Act.put, qa_, qb_, qc_])
                refine wpAnyH_take (i := 8) (oi := ⟨some 27, _, _, _, _, _⟩) (v := ?v5) rfl (by kernel_rfl) (by kernel_rfl) (by kernel_rfl) (fun _ _ _ h => h) (Or.inl ⟨by rfl, ?hy5⟩) (by assumption) ?_
                case hy5 => (intro w hSw; (try dsimp only at hSw); go_simp; try (with_reducible rfl))
                (try simp only [Act.put, qa_, qb_, qc_])
                refine wpAnyH_ready (rs := [9]) (by kernel_rfl) (by simp) ?_
                refine AllReadyH.cons rfl (fun K hK => ?_) ?_
                · go_simp
                  refine hK.out _ _ (by trivial) (fun hHeld => ?_)
                  clear hK K
                  (try simp only [Act.put, qa_, qb_, qc_])
                  refine wpAnyH_done (by kernel_rfl) ?_ _
                  go_wp2
                  go_roundw
                  case rel => exact ⟨j + 1, _, _, by omega, by go_num, by rw [HT.out]; exact GF, RF, OF, H1F, HSF, HMF, BF, by have h := z2; simp [World.setCell] at h ⊢; omega⟩
                  case measure => simp [ixOf]; omega
                exact AllReadyH.nil
              exact AllReadyH.nil
            exact AllReadyH.nil
          exact AllReadyH.nil
        refine AllReadyH.cons rfl (fun K hK => ?_) ?_
        · go_simp
          go_at_call 117
          refine (i_WholeCopy (tWhole.up (tWhole.keep hRa (fun _ _ => rfl)) (by first | exact zB | exact hB.size)) hsa).mono ?_
          rintro e w5 ⟨cs1, Fd, rfl, hOd, hNd0, hb5⟩
          have hs1 : Below wr.heap.size wr w5 := bel_trans (show Below wr.heap.size wr wr.drew from (belx)) hb5
          have hNd : New wr.heap.size Fd := hNd0.lower (by simp)
          have hOk := hOd
          obtain ⟨oA3, oc3, oF3, rfl, -, -, -, -, -, -, -⟩ := openOWhole hOd
          clear hOd hNd0
          have R5 := Box.below R4 hs1 R4.size
          have O5 := Box.below O4 hs1 O4.size
          have o5c := O5.cell 0
          have OA := O5.alloc (.cells ([.int .i64 a.1, .int .i64 a.2.1, .int .i64 a.2.2.1, .slice oA3 a.2.2.2.length oc3].toArray) 86)
          have oAc := OA.cell 0
          have zw1 := hs1.size
          go_wp2_with fail
          refine hK.out _ _ (by trivial) (fun hHeld => ?_)
          clear hK K
          (try simp only [Act.put, qa_, qb_, qc_])
          refine wpAnyH_ready (rs := [1, 6]) (by kernel_rfl) (by simp) ?_
          refine AllReadyH.cons rfl (fun K hK => ?_) ?_
          · go_simp
            refine hK.out _ _ (by trivial) (fun hHeld => ?_)
            clear hK K
            (try simp only [Act.put, qa_, qb_, qc_])
            refine wpAnyH_ready (rs := [6]) (by kernel_rfl) (by simp) ?_
            refine AllReadyH.cons rfl (fun K hK => ?_) ?_
            · go_simp
              refine hK.out _ _ (by trivial) (fun hHeld => ?_)
              clear hK K
              (try simp only [Act.put, qa_, qb_, qc_])
              refine wpAnyH_ready (rs := [7]) (by kernel_rfl) (by simp) ?_
              refine AllReadyH.cons rfl (fun K hK => ?_) ?_
              · have hBx : Below wr.heap.size wr (w5.alloc (.cells ([.int .i64 a.1, .int .i64 a.2.1, .int .i64 a.2.2.1, .slice oA3 a.2.2.2.length oc3].toArray) 86)) := bel_alloc hs1 _
                obtain ⟨xs, hrow, hpush⟩ := (hG.below hBx).row
                have hS2 : Src (w5.alloc (.cells ([.int .i64 a.1, .int .i64 a.2.1, .int .i64 a.2.2.1, .slice oA3 a.2.2.2.length oc3].toArray) 86)) 4 (some ⟨w5.heap.size, 0, none⟩) 1 [.int .i64 a.1, .int .i64 a.2.1, .int .i64 a.2.2.1, .slice oA3 a.2.2.2.length oc3] := Src.of_box w5 86 [.int .i64 a.1, .int .i64 a.2.1, .int .i64 a.2.2.1, .slice oA3 a.2.2.2.length oc3] (K := 4) rfl
                have tz : (Value.agg #[Value.int .i64 0, Value.int .i64 0, Value.int .i64 0, Value.slice none 0 0]).cells.size = 4 := (by first | rfl | (simp [Value.cells]; done))
                have t0 : ∀ u ∈ ([.int .i64 a.1, .int .i64 a.2.1, .int .i64 a.2.2.1, .slice oA3 a.2.2.2.length oc3] : List Value), u.oneCell' = true := (by intro u hu; simp only [List.mem_cons, List.not_mem_nil, or_false] at hu; rcases hu with rfl | rfl | rfl | rfl <;> rfl)
                have t1 : (l.take j).length + 1 ≤ maxLen := (by simp only [maxLen]; have := HLN.out; omega)
                have t2 : ((l.take j).length + 1) * 48 ≤ 140737488355328 := (by have := HLN.out; omega)
                have t3 := hBx.size
                refine step_app5 _ (by rfl) (.tmp 20) (.tmp 25) _ (by rfl) w3.heap.size 86 i1 _ 4 48 Tryz.underlying31 hj0 hj1 hj2 hj3 tz (by omega) v _ xs (by rfl) hrow _ 1 1 [.int .i64 a.1, .int .i64 a.2.1, .int .i64 a.2.2.1, .slice oA3 a.2.2.2.length oc3] (by rfl) hS2 t0 t1 t2 (by omega) ?_
                intro v2 w2 hown2 hgr2 hat2
                have hOel : tWhole.O (w5.alloc (.cells ([.int .i64 a.1, .int .i64 a.2.1, .int .i64 a.2.2.1, .slice oA3 a.2.2.2.length oc3].toArray) 86)) [.int .i64 a.1, .int .i64 a.2.1, .int .i64 a.2.2.1, .slice oA3 a.2.2.2.length oc3] a Fd := Ty.below (t := tWhole) hOk (belx)
                have hNel : New w3.heap.size Fd := hNd.lower (by omega)
                have hdis : ∀ f ∈ Fd, f ∉ F := (fun f h1 h2 => by have := hNd.2 _ h1; have := hlt2 f h2; omega)
                have hod : ∀ b, v.ownBlock = some b → b ∉ Fd := (fun b hb hx => by have := (hOwn b hb).2; have := hNd.2 _ hx; omega)
                have hfin := hpush w2 v2 a _ Fd hOel hNel hdis hod hown2 hgr2 hat2
                obtain ⟨A9, n9, c9, rfl, -⟩ := hfin.shapeN
                have R2 := Box.grown (w := (w5.alloc (.cells ([.int .i64 a.1, .int .i64 a.2.1, .int .i64 a.2.2.1, .slice oA3 a.2.2.2.length oc3].toArray) 86))) (R5.alloc _) hgr2 (fun e => by have := (hOwn w.heap.size e.symm).1; omega)
                have O2 := Box.grown (w := (w5.alloc (.cells ([.int .i64 a.1, .int .i64 a.2.1, .int .i64 a.2.2.1, .slice oA3 a.2.2.2.length oc3].toArray) 86))) (O5.alloc _) hgr2 (fun e => by have := (hOwn ob e.symm).1; omega)
                have hBf : Below w.heap.size w w2 := Below.grown (w := (w5.alloc (.cells ([.int .i64 a.1, .int .i64 a.2.1, .int .i64 a.2.2.1, .slice oA3 a.2.2.2.length oc3].toArray) 86))) (bel_trans hB4 hBx) hgr2 (by have := hBx.size; omega) (fun b hb => by have := (hOwn b hb).1; omega)
                have z2 := hgr2.size
                have o2c := O2.cell 0
                have o2f := O2.frozen 0
                have GF := hfin.put (p := ⟨ob, 0, none⟩) (by show ob < w3.heap.size; omega) (.slice A9 n9 c9)
                have RF := R2.far (p := ⟨ob, 0, none⟩) (by show ¬ w.heap.size = ob; omega) (.slice A9 n9 c9)
                have OF : Box (w2.setCell ⟨ob, 0, none⟩ (.slice A9 n9 c9)) ob 33 #[.slice A9 n9 c9, .slice B1 l1.length d1] := O2.put 0 (.slice A9 n9 c9)
                have H1F := Ty.far3 (own_past (w := (w5.alloc (.cells ([.int .i64 a.1, .int .i64 a.2.1, .int .i64 a.2.2.1, .slice oA3 a.2.2.2.length oc3].toArray) 86))) (Ty.below (t := tIs) H1 hBx) hgr2 (fun b hb hx => by have h1 := (hOwn b hb).1; have h2 := F1l b hx; omega)) (p := ⟨ob, 0, none⟩) F1o (.slice A9 n9 c9)
                have HSF := Ty.far3 (own_past (w := (w5.alloc (.cells ([.int .i64 a.1, .int .i64 a.2.1, .int .i64 a.2.2.1, .slice oA3 a.2.2.2.length oc3].toArray) 86))) (Ty.below (t := tIs) HS hBx) hgr2 (fun b hb hx => by have h1 := (hOwn b hb).1; have h2 := FSl b hx; omega)) (p := ⟨ob, 0, none⟩) FSo (.slice A9 n9 c9)
                have HMF := (World.ownsMap.kept (w := (w5.alloc (.cells ([.int .i64 a.1, .int .i64 a.2.1, .int .i64 a.2.2.1, .slice oA3 a.2.2.2.length oc3].toArray) 86))) (row := (v.ownBlock)) (World.ownsMap.kept (w := wr) (row := none) HM (below_grownBy hBx) (by simp)) hgr2 (fun e => by have h1 := (hOwn b e.symm).1; omega)).setCell (a := ⟨ob, 0, none⟩) (by show b ≠ ob; omega) (.slice A9 n9 c9)
                have BF : Below w.heap.size w (w2.setCell ⟨ob, 0, none⟩ (.slice A9 n9 c9)) := bel_put hBf (by show w.heap.size ≤ ob; omega) _
                refine hK.out _ _ (by trivial) (fun hHeld => ?_)
                clear hK K
                (try simp only [Act.put, qa_, qb_, qc_])
                refine wpAnyH_take (i := 8) (oi := ⟨some 27, _, _, _, _, _⟩) (v := ?v6) rfl (by kernel_rfl) (by kernel_rfl) (by kernel_rfl) (fun _ _ _ h => h) (Or.inl ⟨by rfl, ?hy6⟩) (by assumption) ?_
                case hy6 => (intro w hSw; (try dsimp only at hSw); go_simp; try (with_reducible rfl))
                (try simp only [Act.put, qa_, qb_, qc_])
                refine wpAnyH_ready (rs := [9]) (by kernel_rfl) (by simp) ?_
                refine AllReadyH.cons rfl (fun K hK => ?_) ?_
                · go_simp
                  refine hK.out _ _ (by trivial) (fun hHeld => ?_)
                  clear hK K
                  (try simp only [Act.put, qa_, qb_, qc_])
                  refine wpAnyH_done (by kernel_rfl) ?_ _
                  go_wp2
                  go_roundw
                  case rel => exact ⟨j + 1, _, _, by omega, by go_num, by rw [HT.out]; exact GF, RF, OF, H1F, HSF, HMF, BF, by have h := z2; simp [World.setCell] at h ⊢; omega⟩
                  case measure => simp [ixOf]; omega
                exact AllReadyH.nil
              exact AllReadyH.nil
            exact AllReadyH.nil
          refine AllReadyH.cons rfl (fun K hK => ?_) ?_
          · go_simp
            refine hK.out _ _ (by trivial) (fun hHeld => ?_)
            clear hK K
            (try simp only [Act.put, qa_, qb_, qc_])
            refine wpAnyH_ready (rs := [1]) (by kernel_rfl) (by simp) ?_
            refine AllReadyH.cons rfl (fun K hK => ?_) ?_
            · go_simp
              refine hK.out _ _ (by trivial) (fun hHeld => ?_)
              clear hK K
              (try simp only [Act.put, qa_, qb_, qc_])
              refine wpAnyH_ready (rs := [7]) (by kernel_rfl) (by simp) ?_
              refine AllReadyH.cons rfl (fun K hK => ?_) ?_
              · have hBx : Below wr.heap.size wr (w5.alloc (.cells ([.int .i64 a.1, .int .i64 a.2.1, .int .i64 a.2.2.1, .slice oA3 a.2.2.2.length oc3].toArray) 86)) := bel_alloc hs1 _
                obtain ⟨xs, hrow, hpush⟩ := (hG.below hBx).row
                have hS2 : Src (w5.alloc (.cells ([.int .i64 a.1, .int .i64 a.2.1, .int .i64 a.2.2.1, .slice oA3 a.2.2.2.length oc3].toArray) 86)) 4 (some ⟨w5.heap.size, 0, none⟩) 1 [.int .i64 a.1, .int .i64 a.2.1, .int .i64 a.2.2.1, .slice oA3 a.2.2.2.length oc3] := Src.of_box w5 86 [.int .i64 a.1, .int .i64 a.2.1, .int .i64 a.2.2.1, .slice oA3 a.2.2.2.length oc3] (K := 4) rfl
                have tz : (Value.agg #[Value.int .i64 0, Value.int .i64 0, Value.int .i64 0, Value.slice none 0 0]).cells.size = 4 := (by first | rfl | (simp [Value.cells]; done))
                have t0 : ∀ u ∈ ([.int .i64 a.1, .int .i64 a.2.1, .int .i64 a.2.2.1, .slice oA3 a.2.2.2.length oc3] : List Value), u.oneCell' = true := (by intro u hu; simp only [List.mem_cons, List.not_mem_nil, or_false] at hu; rcases hu with rfl | rfl | rfl | rfl <;> rfl)
                have t1 : (l.take j).length + 1 ≤ maxLen := (by simp only [maxLen]; have := HLN.out; omega)
                have t2 : ((l.take j).length + 1) * 48 ≤ 140737488355328 := (by have := HLN.out; omega)
                have t3 := hBx.size
                refine step_app5 _ (by rfl) (.tmp 20) (.tmp 25) _ (by rfl) w3.heap.size 86 i1 _ 4 48 Tryz.underlying31 hj0 hj1 hj2 hj3 tz (by omega) v _ xs (by rfl) hrow _ 1 1 [.int .i64 a.1, .int .i64 a.2.1, .int .i64 a.2.2.1, .slice oA3 a.2.2.2.length oc3] (by rfl) hS2 t0 t1 t2 (by omega) ?_
                intro v2 w2 hown2 hgr2 hat2
                have hOel : tWhole.O (w5.alloc (.cells ([.int .i64 a.1, .int .i64 a.2.1, .int .i64 a.2.2.1, .slice oA3 a.2.2.2.length oc3].toArray) 86)) [.int .i64 a.1, .int .i64 a.2.1, .int .i64 a.2.2.1, .slice oA3 a.2.2.2.length oc3] a Fd := Ty.below (t := tWhole) hOk (belx)
                have hNel : New w3.heap.size Fd := hNd.lower (by omega)
                have hdis : ∀ f ∈ Fd, f ∉ F := (fun f h1 h2 => by have := hNd.2 _ h1; have := hlt2 f h2; omega)
                have hod : ∀ b, v.ownBlock = some b → b ∉ Fd := (fun b hb hx => by have := (hOwn b hb).2; have := hNd.2 _ hx; omega)
                have hfin := hpush w2 v2 a _ Fd hOel hNel hdis hod hown2 hgr2 hat2
                obtain ⟨A9, n9, c9, rfl, -⟩ := hfin.shapeN
                have R2 := Box.grown (w := (w5.alloc (.cells ([.int .i64 a.1, .int .i64 a.2.1, .int .i64 a.2.2.1, .slice oA3 a.2.2.2.length oc3].toArray) 86))) (R5.alloc _) hgr2 (fun e => by have := (hOwn w.heap.size e.symm).1; omega)
                have O2 := Box.grown (w := (w5.alloc (.cells ([.int .i64 a.1, .int .i64 a.2.1, .int .i64 a.2.2.1, .slice oA3 a.2.2.2.length oc3].toArray) 86))) (O5.alloc _) hgr2 (fun e => by have := (hOwn ob e.symm).1; omega)
                have hBf : Below w.heap.size w w2 := Below.grown (w := (w5.alloc (.cells ([.int .i64 a.1, .int .i64 a.2.1, .int .i64 a.2.2.1, .slice oA3 a.2.2.2.length oc3].toArray) 86))) (bel_trans hB4 hBx) hgr2 (by have := hBx.size; omega) (fun b hb => by have := (hOwn b hb).1; omega)
                have z2 := hgr2.size
                have o2c := O2.cell 0
                have o2f := O2.frozen 0
                have GF := hfin.put (p := ⟨ob, 0, none⟩) (by show ob < w3.heap.size; omega) (.slice A9 n9 c9)
                have RF := R2.far (p := ⟨ob, 0, none⟩) (by show ¬ w.heap.size = ob; omega) (.slice A9 n9 c9)
                have OF : Box (w2.setCell ⟨ob, 0, none⟩ (.slice A9 n9 c9)) ob 33 #[.slice A9 n9 c9, .slice B1 l1.length d1] := O2.put 0 (.slice A9 n9 c9)
                have H1F := Ty.far3 (own_past (w := (w5.alloc (.cells ([.int .i64 a.1, .int .i64 a.2.1, .int .i64 a.2.2.1, .slice oA3 a.2.2.2.length oc3].toArray) 86))) (Ty.below (t := tIs) H1 hBx) hgr2 (fun b hb hx => by have h1 := (hOwn b hb).1; have h2 := F1l b hx; omega)) (p := ⟨ob, 0, none⟩) F1o (.slice A9 n9 c9)
                have HSF := Ty.far3 (own_past (w := (w5.alloc (.cells ([.int .i64 a.1, .int .i64 a.2.1, .int .i64 a.2.2.1, .slice oA3 a.2.2.2.length oc3].toArray) 86))) (Ty.below (t := tIs) HS hBx) hgr2 (fun b hb hx => by have h1 := (hOwn b hb).1; have h2 := FSl b hx; omega)) (p := ⟨ob, 0, none⟩) FSo (.slice A9 n9 c9)
                have HMF := (World.ownsMap.kept (w := (w5.alloc (.cells ([.int .i64 a.1, .int .i64 a.2.1, .int .i64 a.2.2.1, .slice oA3 a.2.2.2.length oc3].toArray) 86))) (row := (v.ownBlock)) (World.ownsMap.kept (w := wr) (row := none) HM (below_grownBy hBx) (by simp)) hgr2 (fun e => by have h1 := (hOwn b e.symm).1; omega)).setCell (a := ⟨ob, 0, none⟩) (by show b ≠ ob; omega) (.slice A9 n9 c9)
                have BF : Below w.heap.size w (w2.setCell ⟨ob, 0, none⟩ (.slice A9 n9 c9)) := bel_put hBf (by show w.heap.size ≤ ob; omega) _
                refine hK.out _ _ (by trivial) (fun hHeld => ?_)
                clear hK K
                (try simp only [Act.put, qa_, qb_, qc_])
                refine wpAnyH_take (i := 8) (oi := ⟨some 27, _, _, _, _, _⟩) (v := ?v7) rfl (by kernel_rfl) (by kernel_rfl) (by kernel_rfl) (fun _ _ _ h => h) (Or.inl ⟨by rfl, ?hy7⟩) (by assumption) ?_
                case hy7 => (intro w hSw; (try dsimp only at hSw); go_simp; try (with_reducible rfl))
                (try simp only [Act.put, qa_, qb_, qc_])
                refine wpAnyH_ready (rs := [9]) (by kernel_rfl) (by simp) ?_
                refine AllReadyH.cons rfl (fun K hK => ?_) ?_
                · go_simp
                  refine hK.out _ _ (by trivial) (fun hHeld => ?_)
                  clear hK K
                  (try simp only [Act.put, qa_, qb_, qc_])
                  refine wpAnyH_done (by kernel_rfl) ?_ _
                  go_wp2
                  go_roundw
                  case rel => exact ⟨j + 1, _, _, by omega, by go_num, by rw [HT.out]; exact GF, RF, OF, H1F, HSF, HMF, BF, by have h := z2; simp [World.setCell] at h ⊢; omega⟩
                  case measure => simp [ixOf]; omega
                exact AllReadyH.nil
              exact AllReadyH.nil
            exact AllReadyH.nil
          exact AllReadyH.nil
        exact AllReadyH.nil
      exact AllReadyH.nil
    · obtain rfl : nl = j := by omega
      have HA := Lib.hid (show l.take nl = l from List.take_of_length_le (by have := HNL.out; omega))
      rw [HA.out] at hG
      obtain ⟨A9, c9, F9, rfl, hO9, hN9⟩ := hG.done
      have q1 : ¬ (nl : Int) < (nl : Int) := by omega
      have o0 := O4.cell 0; have o1 := O4.cell 1; have r0 := R4.cell 0; have r1 := R4.cell 1; have r2 := R4.frozen 0; have r3 := R4.frozen 1
      have hdj : ∀ f ∈ F9, f ∉ F1 := fun f h1 h2 => by have := hN9.2 f h1; have := F1l f h2; omega
      have hM : New (w.heap.size + 1) (F9 ++ F1) := new_pair (hN9.lower (by omega)) hNd hdj
      go_wp2
      have RR := (R4.put 0 (.slice A9 l.length c9)).put 1 (.slice B1 l1.length d1)
      have e0 := RR.cell 0; have e1 := RR.cell 1
      refine bodyPost_ret (v := .agg #[.slice A9 l.length c9, .slice B1 l1.length d1]) (by simp [results, Tryz.results51, go_sem, e0, e1]) rfl ⟨A9, c9, B1, d1, rfl, F9 ++ F1, put2Dk hO9 H1 (hM.not (by omega)), hM.lower (by omega), ?_⟩
      exact bel_put (bel_put hB4 (by simp) _) (by simp) _
set_option maxHeartbeats 4000000 in
theorem i_LetGo {w : World} {cs : List Value} {p : DDesk} {x : Int} (h : tDesk.R w w.heap.size cs p) (hz : szDesk p ≤ 1048576) (hw : (Lit.int .i64 x).wf = true) :
    Calls Tryz.prog 75 #[.agg cs.toArray, .int .i64 x] w fun e w' => ∃ cs' F, e = .returned (.tuple #[.agg cs'.toArray, .int .i64 (fLgN p x)]) ∧ tDesk.O w' cs' (fLg p x) F ∧ New w.heap.size F ∧ Below w.heap.size w w' := by
  obtain ⟨A0, n0, c0, A1, n1, c1, rfl, -, -, e0, hr0, -, -, -, hr1⟩ := openDesk h
  by_cases hp : DkOk p
  rotate_left
  · have HP := Lib.hid (decide_eq_false hp)
    rw [fLg_f hp, fLgN_f hp]
    clear hp
    go_enter Tryz.func75, Tryz.ntmps75
    go_wp2_with fail
    refine (i_DeskOk (tDesk.reach h ?hB) hz).mono ?_
    case hB => exact (belx)
    rintro e w1 ⟨rfl, hb1⟩
    rw [HP.out]
    have X1 : Box w1 w.heap.size 33 #[.slice A0 n0 c0, .slice A1 n1 c1] := Box.below (((Box.new w _ _).alloc _).alloc _) hb1 (by simp; omega)
    have K1 : Box w1 (w.heap.size + 1) 3 #[.int .i64 x] := Box.below (Box.alloc (by simpa using Box.new (w.alloc _) 3 #[.int .i64 x]) _) hb1 (by first | (simp; done) | (simp; omega))
    have Y1 : Box w1 (w.heap.size + 1 + 1) 33 #[.slice none 0 0, .slice none 0 0] := Box.below (by simpa using Box.new ((w.alloc _).alloc _) 33 #[.slice none 0 0, .slice none 0 0]) hb1 (by simp)
    have x0 : w1.cell? ⟨w.heap.size, 0, none⟩ = some (.slice A0 n0 c0) := X1.cell 0
    have x1 : w1.cell? ⟨w.heap.size, 1, none⟩ = some (.slice A1 n1 c1) := X1.cell 1
    have y0 := Y1.cell 0; have y1 := Y1.cell 1; have y2 := Y1.frozen 0; have y3 := Y1.frozen 1
    have hB1 : Below w.heap.size w w1 := bel_trans (belx) hb1
    have z1 : w.heap.size + 3 ≤ w1.heap.size := by have := hb1.size; simpa using this
    clear hb1
    go_wp2
    have RR := (Y1.put 0 (.slice none 0 0)).put 1 (.slice none 0 0)
    have e0 := RR.cell 0; have e1 := RR.cell 1
    refine bodyPost_ret (v := .tuple #[.agg #[.slice none 0 0, .slice none 0 0], .int .i64 (-1)]) (by simp [results, Tryz.results75, go_sem, e0, e1]) rfl ⟨[.slice none 0 0, .slice none 0 0], [], rfl, dkzO, New.nil _, ?_⟩
    exact bel_put (bel_put hB1 (by show _ ≤ w.heap.size + 1 + 1; omega) _) (by show _ ≤ w.heap.size + 1 + 1; omega) _
  have HP := Lib.hid (decide_eq_true hp)
  rw [fLg_t hp, fLgN_t hp, e0]
  have hn0 : n0 ≤ 6 := by have := hp.1; omega
  have hz2 : rsz szWhole (lgf x p.1) + p.2.length ≤ 1048576 := by have := lgf_sz x p.1; unfold szDesk at hz; omega
  have hle : (lgf x p.1).length ≤ n0 := by have := lgf_len x p.1; omega
  have hwr : IntKind.i64.wrap ((n0 : Int) - ((lgf x p.1).length : Int)) = (n0 : Int) - ((lgf x p.1).length : Int) := IntWalk.i64_in _ (by omega)
  have HAP := Lib.hid (dk_apart hp)
  have HWF := Lib.hid (whs_wf hr0)
  have HA0 := Lib.hid hp.2.2.2.1
  have HAS := Lib.hid (show Asc ((lgf x p.1).map fun a => a.1) from asc_filter _ HA0.out)
  clear hp e0
  go_enter Tryz.func75, Tryz.ntmps75
  go_wp2_with fail
  refine (i_DeskOk (tDesk.reach h ?hB) hz).mono ?_
  case hB => exact (belx)
  rintro e w1 ⟨rfl, hb1⟩
  rw [HP.out]
  have X1 : Box w1 w.heap.size 33 #[.slice A0 n0 c0, .slice A1 n1 c1] := Box.below (((Box.new w _ _).alloc _).alloc _) hb1 (by simp; omega)
  have K1 : Box w1 (w.heap.size + 1) 3 #[.int .i64 x] := Box.below (Box.alloc (by simpa using Box.new (w.alloc _) 3 #[.int .i64 x]) _) hb1 (by first | (simp; done) | (simp; omega))
  have Y1 : Box w1 (w.heap.size + 1 + 1) 33 #[.slice none 0 0, .slice none 0 0] := Box.below (by simpa using Box.new ((w.alloc _).alloc _) 33 #[.slice none 0 0, .slice none 0 0]) hb1 (by simp)
  have x0 : w1.cell? ⟨w.heap.size, 0, none⟩ = some (.slice A0 n0 c0) := X1.cell 0
  have x1 : w1.cell? ⟨w.heap.size, 1, none⟩ = some (.slice A1 n1 c1) := X1.cell 1
  have y0 := Y1.cell 0; have y1 := Y1.cell 1; have y2 := Y1.frozen 0; have y3 := Y1.frozen 1
  have hB1 : Below w.heap.size w w1 := bel_trans (belx) hb1
  have z1 : w.heap.size + 3 ≤ w1.heap.size := by have := hb1.size; simpa using this
  clear hb1
  go_wp2_with fail
  refine (i_opened (tWhole.row.reach hr0 hB1) (by omega) HAP.out HWF.out).mono ?_
  rintro e w2 ⟨b, D, rfl, hM, hW, hbb, hb2⟩
  have hB2 := bel_trans hB1 hb2
  have X2 := X1.below hb2 X1.size
  have K2 := K1.below hb2 K1.size
  have Y2 := Y1.below hb2 Y1.size
  have z2 : w.heap.size + 3 ≤ w2.heap.size := Nat.le_trans z1 hb2.size
  have hmf : ∀ (fn : Fn) (first cap : Array Value) (w : World), (Instr.makeFunc fn first cap).run Tryz.prog w = .ok (.func fn first cap) w := fun _ _ _ _ => rfl
  clear y0 y1 y2 y3 x0 x1
  go_wp2_with fail
  refine (i_DelF hM hW hbb (by omega) (by omega) (K2.cell 0) HA0.out).mono ?_
  rintro e w3 ⟨rfl, D3, hM3, hW3, hgr3⟩
  have hB3 : Below w.heap.size w w3 := Below.grown hB2 hgr3 (by omega) (fun i hi => by have e := Option.some.inj hi; omega)
  have hC3 : Below w1.heap.size w2 w3 := Below.grown (Below.refl _ _) hgr3 (by have := hb2.size; omega) (fun i hi => by have e := Option.some.inj hi; omega)
  have X3 := Box.grown X2 hgr3 (fun e => by have e := Option.some.inj e; omega)
  have Y3 := Box.grown Y2 hgr3 (fun e => by have e := Option.some.inj e; omega)
  have z3 : w.heap.size + 3 ≤ w3.heap.size := Nat.le_trans z2 hgr3.size
  have z3' : w1.heap.size ≤ w3.heap.size := Nat.le_trans hb2.size hgr3.size
  have hsz3 := hW3.size hM3 Tryz.underlying3 (asc_nodup HAS.out)
  have hln : ∀ W : World, W.ownsMap Tryz.prog 3 mR b n0 D3 → (Builtin.len_ #[82] 3 #[.map (some b)]).run Tryz.prog W = .ok (.int .i64 ((lgf x p.1).length : Int)) W := fun W h => by have := h.len Tryz.underlying82 3; rw [hsz3] at this; exact this
  have hl3 := hln _ hM3.drew
  have x30 := X3.cell 0; have x31 := X3.cell 1
  have y30 := Y3.cell 0; have y31 := Y3.cell 1; have y32 := Y3.frozen 0; have y33 := Y3.frozen 1
  clear hM hW hgr3 X2 K2 Y2 X1 K1 Y1 hsz3
  go_wp2_with fail
  refine wp_region_held_drew (S := (fun w' => w'.cell? ⟨w.heap.size, 0, none⟩ = some (.slice A0 n0 c0) ∧ w'.cell? ⟨w.heap.size, 1, none⟩ = some (.slice A1 n1 c1))) (by kernel_rfl) (by exact ⟨x30, x31⟩) (fun hHeld => ?_)
  refine wpAnyH_take (i := 0) (oi := ⟨some 16, _, _, _, _, _⟩) (v := ?v8) rfl (by kernel_rfl) (by kernel_rfl) (by kernel_rfl) (fun _ _ _ h => h) (Or.inl ⟨by rfl, ?hy8⟩) (by assumption) ?_
  case hy8 => (intro w hSw; (try dsimp only at hSw); go_simp; try (with_reducible rfl))
  (try simp only [Act.put, qa_, qb_, qc_])
  refine wpAnyH_take (i := 1) (oi := ⟨some 17, _, _, _, _, _⟩) (v := ?v9) rfl (by kernel_rfl) (by kernel_rfl) (by kernel_rfl) (fun _ _ _ h => h) (Or.inl ⟨by rfl, ?hy9⟩) (by assumption) ?_
  case hy9 => (intro w hSw; (try dsimp only at hSw); go_simp; try (with_reducible rfl))
  (try simp only [Act.put, qa_, qb_, qc_])
  refine wpAnyH_take (i := 2) (oi := ⟨some 18, _, _, _, _, _⟩) (v := ?v10) rfl (by kernel_rfl) (by kernel_rfl) (by kernel_rfl) (fun _ _ _ h => h) (Or.inl ⟨by rfl, ?hy10⟩) (by assumption) ?_
  case hy10 => (intro w hSw; (try dsimp only at hSw); go_simp; try (with_reducible rfl))
  (try simp only [Act.put, qa_, qb_, qc_])
  refine wpAnyH_take (i := 4) (oi := ⟨some 20, _, _, _, _, _⟩) (v := ?v11) rfl (by kernel_rfl) (by kernel_rfl) (by kernel_rfl) (fun _ _ _ h => h) (Or.inl ⟨by rfl, ?hy11⟩) (by assumption) ?_
  case hy11 => (intro w hSw; (try dsimp only at hSw); go_simp; try (with_reducible rfl))
  (try simp only [Act.put, qa_, qb_, qc_])
  refine wpAnyH_take (i := 5) (oi := ⟨some 21, _, _, _, _, _⟩) (v := ?v12) rfl (by kernel_rfl) (by kernel_rfl) (by kernel_rfl) (fun _ _ _ h => h) (Or.inl ⟨by rfl, ?hy12⟩) (by assumption) ?_
  case hy12 => (intro w hSw; (try dsimp only at hSw); go_simp; try (with_reducible rfl))
  (try simp only [Act.put, qa_, qb_, qc_])
  refine wpAnyH_take (i := 6) (oi := ⟨some 22, _, _, _, _, _⟩) (v := ?v13) rfl (by kernel_rfl) (by kernel_rfl) (by kernel_rfl) (fun _ _ _ h => h) (Or.inl ⟨by rfl, ?hy13⟩) (by assumption) ?_
  case hy13 => (intro w hSw; (try dsimp only at hSw); go_simp; try (with_reducible rfl))
  (try simp only [Act.put, qa_, qb_, qc_])
  refine wpAnyH_take (i := 7) (oi := ⟨some 23, _, _, _, _, _⟩) (v := ?v14) rfl (by kernel_rfl) (by kernel_rfl) (by kernel_rfl) (fun _ _ _ h => h) (Or.inl ⟨by rfl, ?hy14⟩) (by assumption) ?_
  case hy14 => (intro w hSw; (try dsimp only at hSw); go_simp; try (with_reducible rfl))
  (try simp only [Act.put, qa_, qb_, qc_])
  refine wpAnyH_ready (rs := [3]) (by kernel_rfl) (by simp) ?_
  refine AllReadyH.cons rfl (fun K hK => ?_) ?_
  · go_simp
    go_at_call 51
    refine (i_deskOf (w := w3.drew) hM3.drew (hW3.keep (fun _ _ => rfl)) (by show w1.heap.size ≤ w3.heap.size; omega) HAS.out (tIs.reach hr1 (bel_drew hB3)) hz2).mono ?_
    rintro e w4 ⟨B0, d0, B1, d1, F, rfl, hO, hN, hb4⟩
    have hs4 : Below w3.heap.size w3 w4 := bel_trans (show Below w3.heap.size w3 w3.drew from (belx)) hb4
    have X4 := X3.below hs4 X3.size
    have Y4 := Y3.below hs4 Y3.size
    have x40 := X4.cell 0; have x41 := X4.cell 1
    have q0 := Y4.cell 0; have q1 := Y4.cell 1; have f0 := Y4.frozen 0; have f1 := Y4.frozen 1
    have X5 := (X4.far (p := ⟨w.heap.size + 1 + 1, 0, none⟩) (by show w.heap.size ≠ w.heap.size + 1 + 1; omega) (.slice B0 (lgf x p.1).length d0)).far (p := ⟨w.heap.size + 1 + 1, 1, none⟩) (by show w.heap.size ≠ w.heap.size + 1 + 1; omega) (.slice B1 p.2.length d1)
    have hl4 := hln _ (hM3.kept (row := none) (below_grownBy hs4) (by simp))
    have hl5 := hln _ (((hM3.kept (row := none) (below_grownBy hs4) (by simp)).setCell (a := ⟨w.heap.size + 1 + 1, 0, none⟩) (by show b ≠ w.heap.size + 1 + 1; omega) (.slice B0 (lgf x p.1).length d0)).setCell (a := ⟨w.heap.size + 1 + 1, 1, none⟩) (by show b ≠ w.heap.size + 1 + 1; omega) (.slice B1 p.2.length d1))
    go_wp2_with fail
    refine hK.out _ _ (by exact ⟨x40, x41⟩) (fun hHeld => ?_)
    clear hK K
    (try simp only [Act.put, qa_, qb_, qc_])
    refine wpAnyH_ready (rs := [8]) (by kernel_rfl) (by simp) ?_
    refine AllReadyH.cons rfl (fun K hK => ?_) ?_
    · go_simp
      refine hK.out _ _ (by exact ⟨x40, x41⟩) (fun hHeld => ?_)
      clear hK K
      (try simp only [Act.put, qa_, qb_, qc_])
      refine wpAnyH_take (i := 9) (oi := ⟨some 25, _, _, _, _, _⟩) (v := ?v15) rfl (by kernel_rfl) (by kernel_rfl) (by kernel_rfl) (fun _ _ _ h => h) (Or.inl ⟨by rfl, ?hy15⟩) (by assumption) ?_
      case hy15 => (intro w hSw; (try dsimp only at hSw); go_simp; try (with_reducible rfl))
      (try simp only [Act.put, qa_, qb_, qc_])
      refine wpAnyH_ready (rs := [10]) (by kernel_rfl) (by simp) ?_
      refine AllReadyH.cons rfl (fun K hK => ?_) ?_
      · go_simp
        refine hK.out _ _ (by exact ⟨X5.cell 0, X5.cell 1⟩) (fun hHeld => ?_)
        clear hK K
        (try simp only [Act.put, qa_, qb_, qc_])
        refine wpAnyH_take (i := 11) (oi := ⟨some 5, _, _, _, _, _⟩) (v := ?v16) rfl (by kernel_rfl) (by kernel_rfl) (by kernel_rfl) (fun _ _ _ h => h) (Or.inl ⟨by rfl, ?hy16⟩) (by assumption) ?_
        case hy16 => (intro w hSw; (try dsimp only at hSw); go_simp; try (with_reducible rfl))
        (try simp only [Act.put, qa_, qb_, qc_])
        refine wpAnyH_done (by kernel_rfl) ?_ _
        have hM : New (w.heap.size + 3) F := hN.lower (by show _ ≤ w3.heap.size; omega)
        go_wp2
        have RR := (Y4.put 0 (.slice B0 (lgf x p.1).length d0)).put 1 (.slice B1 p.2.length d1)
        have e0 := RR.cell 0
        have e1 := RR.cell 1
        refine bodyPost_ret (v := .tuple #[.agg #[.slice B0 (lgf x p.1).length d0, .slice B1 p.2.length d1], .int .i64 ((n0 : Int) - ((lgf x p.1).length : Int))]) (by simp [results, Tryz.results75, go_sem, e0, e1, hwr]) rfl ⟨[.slice B0 (lgf x p.1).length d0, .slice B1 p.2.length d1], F, rfl, put2D_O hO (hM.not (by omega)), hM.lower (by omega), ?_⟩
        exact bel_put (bel_put (bel_trans hB3 hs4) (by show _ ≤ w.heap.size + 1 + 1; omega) _) (by show _ ≤ w.heap.size + 1 + 1; omega) _
      exact AllReadyH.nil
    exact AllReadyH.nil
  exact AllReadyH.nil
end Go.Proofs.YtojbicecopkfbaaGreat
