/-
  Iter, PSk, PLgI, PMis, SortI, GrowC, Srt, Srtl, TpI, Xt, Xf, TpW, TpD: texts joined.
-/
import Derived.Test.YtaabmaoldhoinaaProg
import Derived.Test.YtaabmaoldhoinaaQGa
import Derived.Test.YtaabmaoldhoinaaQGb
import Derived.Test.YtaabmaoldhoinaaQGc
import Derived.Test.YtaabmaoldhoinaaQMKeys
import Derived.Test.YtaabmaoldhoinaaQX1
import Derived.Test.YtaabmaoldhoinaaShelf
import Derived.Deep.LoopGhost
import Derived.Deep.RegionHeld3
import Derived.Ground.GgzProg
import Derived.Ground.SlsfProg
import Derived.Laws.IdiomRangeMap
import Derived.Maps.Ext
import Derived.Shelf.SlGeneric
import Derived.Shelf.SlIterI.Nil
import Derived.Shelf.SlIterI.Sorted
import Derived.Shelf.SlSortCmp.SmallK
import Derived.Sort.OwnSortedInts
import Derived.WalkKit
namespace Go.Proofs
open Go.Shelf
def Try.keysA_ren : Go.Shelf.Ren := ⟨fun | 7 => 59 | 10 => 72 | n => n, fun | 23 => 62 | 26 => 3 | 3 => 65 | 28 => 91 | 0 => 0 | 27 => 90 | 33 => 54 | 4 => 4 | n => n, fun | n => n⟩
theorem Try.keysA : Go.Proofs.SlLaysZI.n7 Try.prog Try.keysA_ren := {
  mixed := by kernel_rfl
  f7 := ⟨Try.f59.name, by decide, Try.func59.trans (congrArg some (by kernel_rfl))⟩
  f10 := ⟨Try.f72.name, by decide, Try.func72.trans (congrArg some (by kernel_rfl))⟩
  t0 := Try.underlying0
  a0 := Try.isAgg0
  z0 := Try.sizeOf0
  v0 := Try.zeroValue0
  t4 := Try.underlying4
  a4 := Try.isAgg4
  z4 := Try.sizeOf4
  v4 := Try.zeroValue4
  t23 := Try.underlying62
  a23 := Try.isAgg62
  z23 := Try.sizeOf62
  v23 := Try.zeroValue62
  t26 := Try.underlying3
  a26 := Try.isAgg3
  z26 := Try.sizeOf3
  v26 := Try.zeroValue3
  t27 := Try.underlying90
  a27 := Try.isAgg90
  z27 := Try.sizeOf90
  v27 := Try.zeroValue90
  t28 := Try.underlying91
  a28 := Try.isAgg91
  z28 := Try.sizeOf91
  v28 := Try.zeroValue91
  t33 := Try.underlying54
  a33 := Try.isAgg54
  z33 := Try.sizeOf54
  v33 := Try.zeroValue54 }
def Try.sortedA_ren : Go.Shelf.Ren := ⟨fun | 6 => 58 | 8 => 71 | 9 => 40 | 11 => 92 | 13 => 66 | 12 => 65 | 23 => 85 | 24 => 86 | 14 => 76 | 15 => 77 | 16 => 78 | 17 => 79 | 18 => 80 | 19 => 81 | 20 => 82 | 21 => 83 | 22 => 84 | 25 => 101 | 26 => 102 | 27 => 103 | 28 => 104 | 29 => 105 | 30 => 75 | 31 => 109 | n => n, fun | 26 => 3 | 28 => 91 | 24 => 36 | 0 => 0 | 3 => 3 | 37 => 85 | 48 => 115 | 50 => 117 | 4 => 4 | 40 => 107 | 39 => 106 | 45 => 112 | 5 => 5 | 9 => 9 | 51 => 128 | 55 => 132 | 57 => 136 | 58 => 137 | 33 => 54 | n => n, fun | n => n⟩
theorem Try.sortedA : Go.Proofs.SlLaysZI.n6 Try.prog Try.sortedA_ren := {
  mixed := by kernel_rfl
  f6 := ⟨Try.f58.name, by decide, Try.func58.trans (congrArg some (by kernel_rfl))⟩
  f8 := ⟨Try.f71.name, by decide, Try.func71.trans (congrArg some (by kernel_rfl))⟩
  f11 := ⟨Try.f92.name, by decide, Try.func92.trans (congrArg some (by kernel_rfl))⟩
  t0 := Try.underlying0
  a0 := Try.isAgg0
  z0 := Try.sizeOf0
  v0 := Try.zeroValue0
  t24 := Try.underlying36
  a24 := Try.isAgg36
  z24 := Try.sizeOf36
  v24 := Try.zeroValue36
  t26 := Try.underlying3
  a26 := Try.isAgg3
  z26 := Try.sizeOf3
  v26 := Try.zeroValue3
  t28 := Try.underlying91
  a28 := Try.isAgg91
  z28 := Try.sizeOf91
  v28 := Try.zeroValue91
  i26 := by kernel_rfl }
end Go.Proofs
namespace Go.Proofs.Ytaabmaoldhoinaa
set_option maxRecDepth 100000
set_option linter.unusedVariables false
open Go.RowKit Go.Shelf
theorem i_Keys (mb : Option Nat) (w : World) :
    Calls Try.prog 59 #[.map mb] w fun e w' => e = .returned (.func (.func 72) #[] #[.pointer (some ⟨w.heap.size, 0, none⟩)]) ∧ w' = w.alloc (.cells #[.map mb] 62) :=
  (callsIn_wide (n := 5)).1 (AnyZI.keys_in Try.keysA Fence.wide 5 trivial rfl mb w)
theorem sk_sorts (m : Nat) : AnyZI.SortsIn Try.prog Try.sortedA_ren Fence.wide m :=
  ⟨fun blk off cap ss W hH hblk hsz => callsIn_wide.2 (Try.slices_Sort_int blk off cap ss W hH hblk hsz), fun p cap W => callsIn_wide.2 (Try.slices_Sort_int_none p cap W)⟩
theorem i_SortedKeys {w : World} {g b n : Nat} {D : MD} (hown : w.ownsMap Try.prog 3 mR b n D) (hg : g < w.heap.size) (hc : w.cell? ⟨g, 0, none⟩ = some (.map (some b))) (hn : Go.Maps.size D ≤ 1048576) (hwf : ∀ k ∈ intKeys D, (Lit.int .i64 k).wf = true) :
    Calls Try.prog 58 #[.func (.func 72) #[] #[.pointer (some ⟨g, 0, none⟩)]] w fun e w' => ∃ (v : Value) (ss : List Int), e = .returned v ∧ ss.Perm (intKeys D) ∧ Own .i64 3 w' w.heap.size v (ss.mergeSort (fun x y => decide (x ≤ y))) ∧ Below w.heap.size w w' := by
  have hseq : SeqGives Fence.wide 2 Try.prog 72 #[.pointer (some ⟨g, 0, none⟩)] encZ (fun ss => ss.Perm (intKeys D)) (Go.Maps.size D) w :=
    AnyZI.keys_gives (ρ := Try.keysA_ren) { Try.keysA with } Fence.wide _ trivial rfl (by omega) g b n _ _ hg hc hown
  have cS := AnyZI.sorted_in Try.sortedA Fence.wide 5 trivial trivial trivial trivial rfl (by omega) (sk_sorts _) (enters_of Try.func40 (by kernel_rfl) rfl) 72 #[.pointer (some ⟨g, 0, none⟩)] trivial (enters_of Try.func72 (by kernel_rfl) rfl) _ (Go.Maps.size D) (by simp only [maxLen]; omega) (by omega) _ hseq
  change CallsIn _ _ Try.prog 58 _ _ _ at cS
  refine ((callsIn_wide).1 cS).mono ?_
  rintro e w' ⟨v, ss, rfl, hS, hrow, -, hb⟩
  refine ⟨v, ss, rfl, hS, ?_, hb⟩
  refine Own.of (n := ss.length) hrow (fun x hx => hwf x ?_)
  exact hS.mem_iff.1 (List.mem_mergeSort.1 hx)
end Go.Proofs.Ytaabmaoldhoinaa
namespace Go.Proofs.Ytaabmaoldhoinaa
set_option maxRecDepth 100000
set_option linter.unusedVariables false
set_option linter.unusedSimpArgs false
open Go.ChangeShapes Go.WideShapes Go.ChangeAt Go.RowKit
theorem put2Dk {w : World} {g : Nat} {v0 v1 : Value} {r0 : List DWhole} {l1 : List Int} {F0 F1 : List Nat} (h0 : tWhole.row.O w [v0] r0 F0) (h1 : tIs.O w [v1] l1 F1) (hg : g ∉ F0 ++ F1) :
    tDesk.O ((w.setCell ⟨g, 0, none⟩ v0).setCell ⟨g, 1, none⟩ v1) [v0, v1] (r0, l1) (F0 ++ F1) := by
  have g0 : g ∉ F0 := fun h => hg (List.mem_append.2 (.inl h))
  have g1 : g ∉ F1 := fun h => hg (List.mem_append.2 (.inr h))
  obtain ⟨F, hF, rfl⟩ := makeODesk (p := (r0, l1)) (Ty.far3 (t := tWhole.row) (Ty.far3 (t := tWhole.row) h0 (p := ⟨g, 0, none⟩) g0 v0) (p := ⟨g, 1, none⟩) g0 v1) (Ty.far3 (t := tIs) (Ty.far3 (t := tIs) h1 (p := ⟨g, 0, none⟩) g1 v0) (p := ⟨g, 1, none⟩) g1 v1)
  exact hF
theorem zwholeL (w : World) : (zeroValue 65).run Try.prog w = .ok (.agg #[.int .i64 0, .int .i64 0, .int .i64 0, .slice none 0 0]) w := by rfl
set_option maxHeartbeats 4000000 in
theorem i_deskOf {w : World} {b n n1 c1 B : Nat} {A1 : Option Addr} {D : MD} {l : List DWhole} {l1 : List Int} (hown : w.ownsMap Try.prog 3 mR b n D) (hW : MapW tWhole (fun a => a.1) w B D l) (hBw : B ≤ w.heap.size) (hasc : Asc (l.map fun a => a.1)) (h1 : tIs.R w w.heap.size [.slice A1 n1 c1] l1) (hz : rsz szWhole l + l1.length ≤ 1048576) :
    Calls Try.prog 36 #[.map (some b), .slice A1 n1 c1] w fun e w' => ∃ A0' c0' A1' c1' F, e = .returned (.agg #[.slice A0' l.length c0', .slice A1' l1.length c1']) ∧ tDesk.O w' [.slice A0' l.length c0', .slice A1' l1.length c1'] (l, l1) F ∧ New w.heap.size F ∧ Below w.heap.size w w' := by
  have hI1 := (slR_ints h1).1
  have hn1 : n1 ≤ 1048576 := by have := hI1.1; omega
  have hnl : l.length ≤ 1048576 := by have := rsz_le (s := szWhole) l; omega
  have HSZ := Lib.hid (show ∀ (i : Nat) (a : DWhole), l[i]? = some a → szWhole a ≤ 1048576 from fun i a ha => by have := rsz_step (s := szWhole) ha; omega)
  have HND := Lib.hid (asc_nodup hasc)
  have HKY := Lib.hid (hW.keys hown Try.underlying3 HND.out)
  have hsD : Go.Maps.size D ≤ 1048576 := by rw [hW.size hown Try.underlying3 HND.out]; exact hnl
  have HASC := Lib.hid hasc
  obtain ⟨i1, hj0, hj1, hj2, hj3⟩ := info_parts info_Whole
  have hbs := hown.lt
  clear hasc h1 hz
  go_enter Try.func36, Try.ntmps36
  go_wp2_with fail
  refine (i_copiedI5 (reach hI1 ?hB) hn1).mono ?_
  case hB => exact (belx)
  rintro e w1 ⟨v1, rfl, hO1, hb1⟩
  obtain ⟨B1, d1, F1, rfl, hOd1, hNd1⟩ := own_slice hO1
  clear hO1
  have R1 : Box w1 w.heap.size 38 #[.slice none 0 0, .slice none 0 0] := (Box.new _ _ _).below hb1 (by simp)
  have hB1 : Below w.heap.size w w1 := bel_trans (belx) hb1
  have z1 : w.heap.size + 1 ≤ w1.heap.size := by have := hb1.size; simpa using this
  have hNd : New (w.heap.size + 1) F1 := hNd1.lower (by simp)
  clear hb1 hNd1
  go_wp2_with fail
  refine (i_Keys _ _).mono ?_
  rintro e w2 ⟨rfl, rfl⟩
  have OB : Box (w1.alloc (.cells #[.slice none 0 0, .slice B1 l1.length d1] 38)) w1.heap.size 38 #[.slice none 0 0, .slice B1 l1.length d1] := Box.new _ _ _
  have hB2 : Below w.heap.size w ((w1.alloc (.cells #[.slice none 0 0, .slice B1 l1.length d1] 38)).alloc (.cells #[.map (some b)] 62)) := bel_alloc (bel_alloc hB1 _) _
  have hC2 : Below w1.heap.size w1 ((w1.alloc (.cells #[.slice none 0 0, .slice B1 l1.length d1] 38)).alloc (.cells #[.map (some b)] 62)) := bel_alloc (bel_alloc (Below.refl _ _) _) _
  have hM2 : ((w1.alloc (.cells #[.slice none 0 0, .slice B1 l1.length d1] 38)).alloc (.cells #[.map (some b)] 62)).ownsMap Try.prog 3 mR b n D := hown.kept (row := none) (below_grownBy hB2) (by simp)
  have hgc : ((w1.alloc (.cells #[.slice none 0 0, .slice B1 l1.length d1] 38)).alloc (.cells #[.map (some b)] 62)).cell? ⟨w1.heap.size + 1, 0, none⟩ = some (.map (some b)) := (show Box _ (w1.heap.size + 1) 62 #[.map (some b)] from by simpa using Box.new (w1.alloc (.cells #[.slice none 0 0, .slice B1 l1.length d1] 38)) 62 #[.map (some b)]).cell 0
  obtain ⟨w2, hw2⟩ : ∃ w2, ((w1.alloc (.cells #[.slice none 0 0, .slice B1 l1.length d1] 38)).alloc (.cells #[.map (some b)] 62)) = w2 := ⟨_, rfl⟩
  have z2' : w2.heap.size = w1.heap.size + 2 := by rw [← hw2]; simp
  have z2 : w1.heap.size + 2 ≤ w2.heap.size := by omega
  have R2 : Box w2 w.heap.size 38 #[.slice none 0 0, .slice none 0 0] := by rw [← hw2]; exact (R1.alloc _).alloc _
  have O2 : Box w2 w1.heap.size 38 #[.slice none 0 0, .slice B1 l1.length d1] := by rw [← hw2]; exact OB.alloc _
  simp only [World.size_alloc]
  rw [hw2] at hB2 hC2 hM2 hgc ⊢
  clear hw2 OB z2' R1
  go_wp2_with fail
  refine (i_SortedKeys hM2 (by omega) hgc hsD HKY.out.2).mono ?_
  rintro e w3 ⟨v3, ss, rfl, hS, hO3, hb3⟩
  rw [asc_sorted HASC.out (hS.trans HKY.out.1)] at hO3
  obtain ⟨BS, dS, FS, rfl, hOS, hNS⟩ := own_slice hO3
  clear hO3 hS hgc
  have hB3 : Below w.heap.size w w3 := bel_trans hB2 hb3
  have z3 : w2.heap.size ≤ w3.heap.size := hb3.size
  have R3 := R2.below hb3 R2.size
  have O3 := O2.below hb3 O2.size
  have H13 : tIs.O w3 [.slice B1 l1.length d1] l1 F1 := Ty.below (t := tIs) (Ty.below (t := tIs) hOd1 hC2) hb3
  have hM3 := hM2.kept (row := none) (below_grownBy hb3) (by simp)
  have FSl : ∀ f ∈ FS, f < w3.heap.size := fun f hf => tIs.lt hOS f hf
  have F1l : ∀ f ∈ F1, f < w3.heap.size := fun f hf => by have := tIs.lt hOd1 f hf; omega
  have FSo : w1.heap.size ∉ FS := fun h => by have := hNS.2 _ h; omega
  have F1o : w1.heap.size ∉ F1 := fun h => by have := tIs.lt hOd1 _ h; omega
  have hML : (l.map fun a => a.1).length = l.length := List.length_map _
  obtain ⟨mk, hmk⟩ : ∃ m, (l.map fun a : DWhole => a.1) = m := ⟨_, rfl⟩
  have HMK := Lib.hid hmk
  rw [hmk] at hOS hML ⊢
  obtain ⟨nl, hnl2⟩ : ∃ m, mk.length = m := ⟨_, rfl⟩
  rw [hnl2] at hOS hML ⊢
  have HNL := Lib.hid hML
  obtain ⟨ob, hob⟩ : ∃ ob, w1.heap.size = ob := ⟨_, rfl⟩
  have hNdl : ∀ f ∈ F1, f < ob := fun f hf => by have := tIs.lt hOd1 f hf; omega
  rw [hob] at z1 z2 O3 FSo F1o
  have hNSl : ∀ f ∈ FS, w2.heap.size ≤ f := fun f hf => hNS.2 f hf
  have HML2 := Lib.hid hnl2
  rw [hob]
  have hnl3 : nl ≤ 1048576 := by omega
  clear hmk hML hnl2 hob hOd1 hC2 hM2 hb3 R2 O2 hB2 hNS
  go_wp2_with fail
  go_loopw [15] (fun i wr => ∃ (j : Nat) (F : List Nat) (v : Value), j ≤ nl ∧ i = .int .i64 j ∧ GrowO tWhole 65 wr w3.heap.size v (l.take j) F ∧ Box wr w.heap.size 38 #[.slice none 0 0, .slice none 0 0] ∧ Box wr ob 38 #[v, .slice B1 l1.length d1] ∧ tIs.O wr [.slice B1 l1.length d1] l1 F1 ∧ tIs.O wr [.slice BS nl dS] mk FS ∧ wr.ownsMap Try.prog 3 mR b n D ∧ Below w.heap.size w wr ∧ w3.heap.size ≤ wr.heap.size) (fun i _ => nl - ixOf i)
  case atStart => exact ⟨0, [], .slice none 0 0, by omega, rfl, GrowO.nil, R3, O3, H13, hOS, hM3, hB3, Nat.le_refl _⟩
  case round =>
    obtain ⟨j, F, v, hj, rfl, hG, R4, O4, H1, HS, HM, hB4, zr⟩ := hrel
    clear R3 O3 H13 hOS hM3 hB3
    by_cases hlt : j < nl
    · have hjl : j < l.length := by have := HNL.out; omega
      obtain ⟨a0, hl2⟩ : ∃ a, l[j]? = some a := ⟨_, List.getElem?_eq_getElem hjl⟩
      have HT := Lib.hid (take_snoc hl2)
      have hwid : (mk.getD j 0) = a0.1 := by rw [← HMK.out]; exact map_at hl2
      have hIk := (slR_ints (tIs.read HS)).1
      obtain ⟨ba, off, rfl, hba, hcell, hwf⟩ := hIk.at_ hlt
      rw [hwid] at hcell
      have hkw : (Lit.int .i64 a0.1).wf = true := by rw [← hwid]; exact hwf
      have hsa := HSZ.out j a0 hl2
      have hWr : MapW tWhole (fun a => a.1) wr B D l := hW.keep (fun i hi => hB4.block i (by omega))
      have HLN := Lib.hid (show (l.take j).length ≤ 1048576 from by rw [List.length_take]; omega)
      obtain ⟨vv, hrun, hv⟩ := MapW.look (w := wr.drew) (hWr.keep (fun _ _ => rfl)) HM Try.underlying3 Try.underlying62 (zwholeL _) hkw
      rcases hv with ⟨a, es, ha', hid', rfl, hRa⟩ | ⟨hno, -⟩
      rotate_left
      · exact absurd rfl (hno a0 (List.mem_of_getElem? hl2))
      obtain rfl : a = a0 := asc_one HASC.out ha' (List.mem_of_getElem? hl2) hid'
      have zB : B ≤ wr.drew.heap.size := by show B ≤ wr.heap.size; omega
      have o4c := O4.cell 0
      have hOwn := fun b hb => (GrowO.row hG).choose_spec.1.lt b hb
      have hlt2 := hG.lt
      have q1 : (j : Int) < (nl : Int) := by omega
      have q0 : (0 : Int) ≤ (j : Int) := by omega
      clear hl2 ha' hid' hwid hIk hWr hwf hjl
      go_wp2_with fail
      refine wp_region_held_drew (S := (fun _ => True)) (by kernel_rfl) (by trivial) (fun hHeld => ?_)
      refine wpAnyH_take (i := 0) (oi := ⟨some 19, _, _, _, _, _⟩) (v := ?v1) rfl (by kernel_rfl) (by kernel_rfl) (by kernel_rfl) (fun _ _ _ h => h) (Or.inl ⟨by rfl, ?hy1⟩) (by assumption) ?_
      case hy1 => (intro w hSw; (try dsimp only at hSw); go_simp; try (with_reducible rfl))
      (try simp only [Act.put, qa_, qb_, qc_])
      refine wpAnyH_take (i := 2) (oi := ⟨some 21, _, _, _, _, _⟩) (v := ?v2) rfl (by kernel_rfl) (by kernel_rfl) (by kernel_rfl) (fun _ _ _ h => h) (Or.inl ⟨by rfl, ?hy2⟩) (by assumption) ?_
      case hy2 => (intro w hSw; (try dsimp only at hSw); go_simp; try (with_reducible rfl))
      (try simp only [Act.put, qa_, qb_, qc_])
      refine wpAnyH_take (i := 3) (oi := ⟨some 22, _, _, _, _, _⟩) (v := ?v3) rfl (by kernel_rfl) (by kernel_rfl) (by kernel_rfl) (fun _ _ _ h => h) (Or.inl ⟨by rfl, ?hy3⟩) (by assumption) ?_
      case hy3 => (intro w hSw; (try dsimp only at hSw); go_simp; try (with_reducible rfl))
      (try simp only [Act.put, qa_, qb_, qc_])
      refine wpAnyH_ready (rs := [1, 4]) (by kernel_rfl) (by simp) ?_
      refine AllReadyH.cons rfl (fun K hK => ?_) ?_
      · go_simp
        refine hK.out _ _ (by trivial) (fun hHeld => ?_)
        clear hK K
        (try simp only [Act.put, qa_, qb_, qc_])
        refine wpAnyH_ready (rs := [4]) (by kernel_rfl) (by simp) ?_
        refine AllReadyH.cons rfl (fun K hK => ?_) ?_
        · go_simp
          refine hK.out _ _ (by trivial) (fun hHeld => ?_)
          clear hK K
          (try simp only [Act.put, qa_, qb_, qc_])
          refine wpAnyH_ready (rs := [5]) (by kernel_rfl) (by simp) ?_
          refine AllReadyH.cons rfl (fun K hK => ?_) ?_
          · go_simp
            go_at_call 60
            refine (i_WholeCopy (tWhole.up (tWhole.keep hRa (fun _ _ => rfl)) (by first | exact zB | exact hB.size)) hsa).mono ?_
            rintro e w5 ⟨cs1, Fd, rfl, hOd, hNd0, hb5⟩
            have hs1 : Below wr.heap.size wr w5 := bel_trans (show Below wr.heap.size wr wr.drew from (belx)) hb5
            have hNd : New wr.heap.size Fd := hNd0.lower (by simp)
            have hOk := hOd
            obtain ⟨oA3, oc3, oF3, rfl, -, -, -, -, -, -, -⟩ := openOWhole hOd
            clear hOd hNd0
            have R5 := Box.below R4 hs1 R4.size
            have O5 := Box.below O4 hs1 O4.size
            have o5c := O5.cell 0
            have OA := O5.alloc (.cells ([.int .i64 a.1, .int .i64 a.2.1, .int .i64 a.2.2.1, .slice oA3 a.2.2.2.length oc3].toArray) 65)
            have oAc := OA.cell 0
            have zw1 := hs1.size
            go_wp2_with fail
            refine hK.out _ _ (by trivial) (fun hHeld => ?_)
            clear hK K
            (try simp only [Act.put, qa_, qb_, qc_])
            refine wpAnyH_ready (rs := [6]) (by kernel_rfl) (by simp) ?_
            refine AllReadyH.cons rfl (fun K hK => ?_) ?_
            · go_simp
              refine hK.out _ _ (by trivial) (fun hHeld => ?_)
              clear hK K
              (try simp only [Act.put, qa_, qb_, qc_])
              refine wpAnyH_ready (rs := [7]) (by kernel_rfl) (by simp) ?_
              refine AllReadyH.cons rfl (fun K hK => ?_) ?_
              · have hBx : Below wr.heap.size wr (w5.alloc (.cells ([.int .i64 a.1, .int .i64 a.2.1, .int .i64 a.2.2.1, .slice oA3 a.2.2.2.length oc3].toArray) 65)) := bel_alloc hs1 _
                obtain ⟨xs, hrow, hpush⟩ := (hG.below hBx).row
                have hS2 : Src (w5.alloc (.cells ([.int .i64 a.1, .int .i64 a.2.1, .int .i64 a.2.2.1, .slice oA3 a.2.2.2.length oc3].toArray) 65)) 4 (some ⟨w5.heap.size, 0, none⟩) 1 [.int .i64 a.1, .int .i64 a.2.1, .int .i64 a.2.2.1, .slice oA3 a.2.2.2.length oc3] := Src.of_box w5 65 [.int .i64 a.1, .int .i64 a.2.1, .int .i64 a.2.2.1, .slice oA3 a.2.2.2.length oc3] (K := 4) rfl
                have tz : (Value.agg #[Value.int .i64 0, Value.int .i64 0, Value.int .i64 0, Value.slice none 0 0]).cells.size = 4 := (by first | rfl | (simp [Value.cells]; done))
                have t0 : ∀ u ∈ ([.int .i64 a.1, .int .i64 a.2.1, .int .i64 a.2.2.1, .slice oA3 a.2.2.2.length oc3] : List Value), u.oneCell' = true := (by intro u hu; simp only [List.mem_cons, List.not_mem_nil, or_false] at hu; rcases hu with rfl | rfl | rfl | rfl <;> rfl)
                have t1 : (l.take j).length + 1 ≤ maxLen := (by simp only [maxLen]; have := HLN.out; omega)
                have t2 : ((l.take j).length + 1) * 48 ≤ 140737488355328 := (by have := HLN.out; omega)
                have t3 := hBx.size
                refine step_app5 _ (by rfl) (.tmp 20) (.tmp 25) _ (by rfl) w3.heap.size 65 i1 _ 4 48 Try.underlying35 hj0 hj1 hj2 hj3 tz (by omega) v _ xs (by rfl) hrow _ 1 1 [.int .i64 a.1, .int .i64 a.2.1, .int .i64 a.2.2.1, .slice oA3 a.2.2.2.length oc3] (by rfl) hS2 t0 t1 t2 (by omega) ?_
                intro v2 w2 hown2 hgr2 hat2
                have hOel : tWhole.O (w5.alloc (.cells ([.int .i64 a.1, .int .i64 a.2.1, .int .i64 a.2.2.1, .slice oA3 a.2.2.2.length oc3].toArray) 65)) [.int .i64 a.1, .int .i64 a.2.1, .int .i64 a.2.2.1, .slice oA3 a.2.2.2.length oc3] a Fd := Ty.below (t := tWhole) hOk (belx)
                have hNel : New w3.heap.size Fd := hNd.lower (by omega)
                have hdis : ∀ f ∈ Fd, f ∉ F := (fun f h1 h2 => by have := hNd.2 _ h1; have := hlt2 f h2; omega)
                have hod : ∀ b, v.ownBlock = some b → b ∉ Fd := (fun b hb hx => by have := (hOwn b hb).2; have := hNd.2 _ hx; omega)
                have hfin := hpush w2 v2 a _ Fd hOel hNel hdis hod hown2 hgr2 hat2
                obtain ⟨A9, n9, c9, rfl, -⟩ := hfin.shapeN
                have R2 := Box.grown (w := (w5.alloc (.cells ([.int .i64 a.1, .int .i64 a.2.1, .int .i64 a.2.2.1, .slice oA3 a.2.2.2.length oc3].toArray) 65))) (R5.alloc _) hgr2 (fun e => by have := (hOwn w.heap.size e.symm).1; omega)
                have O2 := Box.grown (w := (w5.alloc (.cells ([.int .i64 a.1, .int .i64 a.2.1, .int .i64 a.2.2.1, .slice oA3 a.2.2.2.length oc3].toArray) 65))) (O5.alloc _) hgr2 (fun e => by have := (hOwn ob e.symm).1; omega)
                have hBf : Below w.heap.size w w2 := Below.grown (w := (w5.alloc (.cells ([.int .i64 a.1, .int .i64 a.2.1, .int .i64 a.2.2.1, .slice oA3 a.2.2.2.length oc3].toArray) 65))) (bel_trans hB4 hBx) hgr2 (by have := hBx.size; omega) (fun b hb => by have := (hOwn b hb).1; omega)
                have z2 := hgr2.size
                have o2c := O2.cell 0
                have o2f := O2.frozen 0
                have GF := hfin.put (p := ⟨ob, 0, none⟩) (by show ob < w3.heap.size; omega) (.slice A9 n9 c9)
                have RF := R2.far (p := ⟨ob, 0, none⟩) (by show ¬ w.heap.size = ob; omega) (.slice A9 n9 c9)
                have OF : Box (w2.setCell ⟨ob, 0, none⟩ (.slice A9 n9 c9)) ob 38 #[.slice A9 n9 c9, .slice B1 l1.length d1] := O2.put 0 (.slice A9 n9 c9)
                have H1F := Ty.far3 (own_past (w := (w5.alloc (.cells ([.int .i64 a.1, .int .i64 a.2.1, .int .i64 a.2.2.1, .slice oA3 a.2.2.2.length oc3].toArray) 65))) (Ty.below (t := tIs) H1 hBx) hgr2 (fun b hb hx => by have h1 := (hOwn b hb).1; have h2 := F1l b hx; omega)) (p := ⟨ob, 0, none⟩) F1o (.slice A9 n9 c9)
                have HSF := Ty.far3 (own_past (w := (w5.alloc (.cells ([.int .i64 a.1, .int .i64 a.2.1, .int .i64 a.2.2.1, .slice oA3 a.2.2.2.length oc3].toArray) 65))) (Ty.below (t := tIs) HS hBx) hgr2 (fun b hb hx => by have h1 := (hOwn b hb).1; have h2 := FSl b hx; omega)) (p := ⟨ob, 0, none⟩) FSo (.slice A9 n9 c9)
                have HMF := (World.ownsMap.kept (w := (w5.alloc (.cells ([.int .i64 a.1, .int .i64 a.2.1, .int .i64 a.2.2.1, .slice oA3 a.2.2.2.length oc3].toArray) 65))) (row := (v.ownBlock)) (World.ownsMap.kept (w := wr) (row := none) HM (below_grownBy hBx) (by simp)) hgr2 (fun e => by have h1 := (hOwn b e.symm).1; omega)).setCell (a := ⟨ob, 0, none⟩) (by show b ≠ ob; omega) (.slice A9 n9 c9)
                have BF : Below w.heap.size w (w2.setCell ⟨ob, 0, none⟩ (.slice A9 n9 c9)) := bel_put hBf (by show w.heap.size ≤ ob; omega) _
                refine hK.out _ _ (by trivial) (fun hHeld => ?_)
                clear hK K
                (try simp only [Act.put, qa_, qb_, qc_])
                refine wpAnyH_take (i := 8) (oi := ⟨some 27, _, _, _, _, _⟩) (v := ?v4) rfl (by kernel_rfl) (by kernel_rfl) (by kernel_rfl) (fun _ _ _ h => h) (Or.inl ⟨by rfl, ?hy4⟩) (by assumption) ?_
                case hy4 => (intro w hSw; (try dsimp only at hSw); go_simp; try (with_reducible rfl))
                (try simp only [Act.put, qa_, qb_, qc_])
                refine wpAnyH_ready (rs := [9]) (by kernel_rfl) (by simp) ?_
                refine AllReadyH.cons rfl (fun K hK => ?_) ?_
                · go_simp
                  refine hK.out _ _ (by trivial) (fun hHeld => ?_)
                  clear hK K
                  (try simp only [Act.put, qa_, qb_, qc_])
                  refine wpAnyH_done (by kernel_rfl) ?_ _
                  go_wp2
                  go_roundw
                  case rel => exact ⟨j + 1, _, _, by omega, by go_num, by rw [HT.out]; exact GF, RF, OF, H1F, HSF, HMF, BF, by have h := z2; simp [World.setCell] at h ⊢; omega⟩
                  case measure => simp [ixOf]; omega
                exact AllReadyH.nil
              exact AllReadyH.nil
            exact AllReadyH.nil
          exact AllReadyH.nil
        exact AllReadyH.nil
      refine AllReadyH.cons rfl (fun K hK => ?_) ?_
      · go_simp
        refine hK.out _ _ (by trivial) (fun hHeld => ?_)
        clear hK K
        (try simp only [Act.put, qa_, qb_, qc_])
        refine wpAnyH_ready (rs := [1, 5]) (by kernel_rfl) (by simp) ?_
        refine AllReadyH.cons rfl (fun K hK => ?_) ?_
        · go_simp
          refine hK.out _ _ (by trivial) (fun hHeld => ?_)
          clear hK K
          (try simp only [Act.put, qa_, qb_, qc_])
          refine wpAnyH_ready (rs := [5]) (by kernel_rfl) (by simp) ?_
          refine AllReadyH.cons rfl (fun K hK => ?_) ?_
          · go_simp
            go_at_call 60
            refine (i_WholeCopy (tWhole.up (tWhole.keep hRa (fun _ _ => rfl)) (by first | exact zB | exact hB.size)) hsa).mono ?_
            rintro e w5 ⟨cs1, Fd, rfl, hOd, hNd0, hb5⟩
            have hs1 : Below wr.heap.size wr w5 := bel_trans (show Below wr.heap.size wr wr.drew from (belx)) hb5
            have hNd : New wr.heap.size Fd := hNd0.lower (by simp)
            have hOk := hOd
            obtain ⟨oA3, oc3, oF3, rfl, -, -, -, -, -, -, -⟩ := openOWhole hOd
            clear hOd hNd0
            have R5 := Box.below R4 hs1 R4.size
            have O5 := Box.below O4 hs1 O4.size
            have o5c := O5.cell 0
            have OA := O5.alloc (.cells ([.int .i64 a.1, .int .i64 a.2.1, .int .i64 a.2.2.1, .slice oA3 a.2.2.2.length oc3].toArray) 65)
            have oAc := OA.cell 0
            have zw1 := hs1.size
            go_wp2_with fail
            refine hK.out _ _ (by trivial) (fun hHeld => ?_)
            clear hK K
            (try simp only [Act.put, qa_, qb_, qc_])
            refine wpAnyH_ready (rs := [6]) (by kernel_rfl) (by simp) ?_
            refine AllReadyH.cons rfl (fun K hK => ?_) ?_
            · go_simp
              refine hK.out _ _ (by trivial) (fun hHeld => ?_)
              clear hK K
              (try simp only [Act.put, qa_, qb_, qc_])
              refine wpAnyH_ready (rs := [7]) (by kernel_rfl) (by simp) ?_
              refine AllReadyH.cons rfl (fun K hK => ?_) ?_
              · have hBx : Below wr.heap.size wr (w5.alloc (.cells ([.int .i64 a.1, .int .i64 a.2.1, .int .i64 a.2.2.1, .slice oA3 a.2.2.2.length oc3].toArray) 65)) := bel_alloc hs1 _
                obtain ⟨xs, hrow, hpush⟩ := (hG.below hBx).row
                have hS2 : Src (w5.alloc (.cells ([.int .i64 a.1, .int .i64 a.2.1, .int .i64 a.2.2.1, .slice oA3 a.2.2.2.length oc3].toArray) 65)) 4 (some ⟨w5.heap.size, 0, none⟩) 1 [.int .i64 a.1, .int .i64 a.2.1, .int .i64 a.2.2.1, .slice oA3 a.2.2.2.length oc3] := Src.of_box w5 65 [.int .i64 a.1, .int .i64 a.2.1, .int .i64 a.2.2.1, .slice oA3 a.2.2.2.length oc3] (K := 4) rfl
                have tz : (Value.agg #[Value.int .i64 0, Value.int .i64 0, Value.int .i64 0, Value.slice none 0 0]).cells.size = 4 := (by first | rfl | (simp [Value.cells]; done))
                have t0 : ∀ u ∈ ([.int .i64 a.1, .int .i64 a.2.1, .int .i64 a.2.2.1, .slice oA3 a.2.2.2.length oc3] : List Value), u.oneCell' = true := (by intro u hu; simp only [List.mem_cons, List.not_mem_nil, or_false] at hu; rcases hu with rfl | rfl | rfl | rfl <;> rfl)
                have t1 : (l.take j).length + 1 ≤ maxLen := (by simp only [maxLen]; have := HLN.out; omega)
                have t2 : ((l.take j).length + 1) * 48 ≤ 140737488355328 := (by have := HLN.out; omega)
                have t3 := hBx.size
                refine step_app5 _ (by rfl) (.tmp 20) (.tmp 25) _ (by rfl) w3.heap.size 65 i1 _ 4 48 Try.underlying35 hj0 hj1 hj2 hj3 tz (by omega) v _ xs (by rfl) hrow _ 1 1 [.int .i64 a.1, .int .i64 a.2.1, .int .i64 a.2.2.1, .slice oA3 a.2.2.2.length oc3] (by rfl) hS2 t0 t1 t2 (by omega) ?_
                intro v2 w2 hown2 hgr2 hat2
                have hOel : tWhole.O (w5.alloc (.cells ([.int .i64 a.1, .int .i64 a.2.1, .int .i64 a.2.2.1, .slice oA3 a.2.2.2.length oc3].toArray) 65)) [.int .i64 a.1, .int .i64 a.2.1, .int .i64 a.2.2.1, .slice oA3 a.2.2.2.length oc3] a Fd := Ty.below (t := tWhole) hOk (belx)
                have hNel : New w3.heap.size Fd := hNd.lower (by omega)
                have hdis : ∀ f ∈ Fd, f ∉ F := (fun f h1 h2 => by have := hNd.2 _ h1; have := hlt2 f h2; omega)
                have hod : ∀ b, v.ownBlock = some b → b ∉ Fd := (fun b hb hx => by have := (hOwn b hb).2; have := hNd.2 _ hx; omega)
                have hfin := hpush w2 v2 a _ Fd hOel hNel hdis hod hown2 hgr2 hat2
                obtain ⟨A9, n9, c9, rfl, -⟩ := hfin.shapeN
                have R2 := Box.grown (w := (w5.alloc (.cells ([.int .i64 a.1, .int .i64 a.2.1, .int .i64 a.2.2.1, .slice oA3 a.2.2.2.length oc3].toArray) 65))) (R5.alloc _) hgr2 (fun e => by have := (hOwn w.heap.size e.symm).1; omega)
                have O2 := Box.grown (w := (w5.alloc (.cells ([.int .i64 a.1, .int .i64 a.2.1, .int .i64 a.2.2.1, .slice oA3 a.2.2.2.length oc3].toArray) 65))) (O5.alloc _) hgr2 (fun e => by have := (hOwn ob e.symm).1; omega)
                have hBf : Below w.heap.size w w2 := Below.grown (w := (w5.alloc (.cells ([.int .i64 a.1, .int .i64 a.2.1, .int .i64 a.2.2.1, .slice oA3 a.2.2.2.length oc3].toArray) 65))) (bel_trans hB4 hBx) hgr2 (by have := hBx.size; omega) (fun b hb => by have := (hOwn b hb).1; omega)
                have z2 := hgr2.size
                have o2c := O2.cell 0
                have o2f := O2.frozen 0
                have GF := hfin.put (p := ⟨ob, 0, none⟩) (by show ob < w3.heap.size; omega) (.slice A9 n9 c9)
                have RF := R2.far (p := ⟨ob, 0, none⟩) (by show ¬ w.heap.size = ob; omega) (.slice A9 n9 c9)
                have OF : Box (w2.setCell ⟨ob, 0, none⟩ (.slice A9 n9 c9)) ob 38 #[.slice A9 n9 c9, .slice B1 l1.length d1] := O2.put 0 (.slice A9 n9 c9)
                have H1F := Ty.far3 (own_past (w := (w5.alloc (.cells ([.int .i64 a.1, .int .i64 a.2.1, .int .i64 a.2.2.1, .slice oA3 a.2.2.2.length oc3].toArray) 65))) (Ty.below (t := tIs) H1 hBx) hgr2 (fun b hb hx => by have h1 := (hOwn b hb).1; have h2 := F1l b hx; omega)) (p := ⟨ob, 0, none⟩) F1o (.slice A9 n9 c9)
                have HSF := Ty.far3 (own_past (w := (w5.alloc (.cells ([.int .i64 a.1, .int .i64 a.2.1, .int .i64 a.2.2.1, .slice oA3 a.2.2.2.length oc3].toArray) 65))) (Ty.below (t := tIs) HS hBx) hgr2 (fun b hb hx => by have h1 := (hOwn b hb).1; have h2 := FSl b hx; omega)) (p := ⟨ob, 0, none⟩) FSo (.slice A9 n9 c9)
                have HMF := (World.ownsMap.kept (w := (w5.alloc (.cells ([.int .i64 a.1, .int .i64 a.2.1, .int .i64 a.2.2.1, .slice oA3 a.2.2.2.length oc3].toArray) 65))) (row := (v.ownBlock)) (World.ownsMap.kept (w := wr) (row := none) HM (below_grownBy hBx) (by simp)) hgr2 (fun e => by have h1 := (hOwn b e.symm).1; omega)).setCell (a := ⟨ob, 0, none⟩) (by show b ≠ ob; omega) (.slice A9 n9 c9)
                have BF : Below w.heap.size w (w2.setCell ⟨ob, 0, none⟩ (.slice A9 n9 c9)) := bel_put hBf (by show w.heap.size ≤ ob; omega) _
                refine hK.out _ _ (by trivial) (fun hHeld => ?_)
                clear hK K
                (try simp only [Act.put, qa_, qb_, qc_])
                refine wpAnyH_take (i := 8) (oi := ⟨some 27, _, _, _, _, _⟩) (v := ?v5) rfl (by kernel_rfl) (by kernel_rfl) (by kernel_rfl) (fun _ _ _ h => h) (Or.inl ⟨by rfl, ?hy5⟩) (by assumption) ?_
                case hy5 => (intro w hSw; (try dsimp only at hSw); go_simp; try (with_reducible rfl))
                (try simp only [Act.put, qa_, qb_, qc_])
                refine wpAnyH_ready (rs := [9]) (by kernel_rfl) (by simp) ?_
                refine AllReadyH.cons rfl (fun K hK => ?_) ?_
                · go_simp
                  refine hK.out _ _ (by trivial) (fun hHeld => ?_)
                  clear hK K
                  (try simp only [Act.put, qa_, qb_, qc_])
                  refine wpAnyH_done (by kernel_rfl) ?_ _
                  go_wp2
                  go_roundw
                  case rel => exact ⟨j + 1, _, _, by omega, by go_num, by rw [HT.out]; exact GF, RF, OF, H1F, HSF, HMF, BF, by have h := z2; simp [World.setCell] at h ⊢; omega⟩
                  case measure => simp [ixOf]; omega
                exact AllReadyH.nil
              exact AllReadyH.nil
            exact AllReadyH.nil
          exact AllReadyH.nil
        refine AllReadyH.cons rfl (fun K hK => ?_) ?_
        · go_simp
          go_at_call 60
          refine (i_WholeCopy (tWhole.up (tWhole.keep hRa (fun _ _ => rfl)) (by first | exact zB | exact hB.size)) hsa).mono ?_
          rintro e w5 ⟨cs1, Fd, rfl, hOd, hNd0, hb5⟩
          have hs1 : Below wr.heap.size wr w5 := bel_trans (show Below wr.heap.size wr wr.drew from (belx)) hb5
          have hNd : New wr.heap.size Fd := hNd0.lower (by simp)
          have hOk := hOd
          obtain ⟨oA3, oc3, oF3, rfl, -, -, -, -, -, -, -⟩ := openOWhole hOd
          clear hOd hNd0
          have R5 := Box.below R4 hs1 R4.size
          have O5 := Box.below O4 hs1 O4.size
          have o5c := O5.cell 0
          have OA := O5.alloc (.cells ([.int .i64 a.1, .int .i64 a.2.1, .int .i64 a.2.2.1, .slice oA3 a.2.2.2.length oc3].toArray) 65)
          have oAc := OA.cell 0
          have zw1 := hs1.size
          go_wp2_with fail
          refine hK.out _ _ (by trivial) (fun hHeld => ?_)
          clear hK K
          (try simp only [Act.put, qa_, qb_, qc_])
          refine wpAnyH_ready (rs := [1, 6]) (by kernel_rfl) (by simp) ?_
          refine AllReadyH.cons rfl (fun K hK => ?_) ?_
          · go_simp
            refine hK.out _ _ (by trivial) (fun hHeld => ?_)
            clear hK K
            (try simp only [Act.put, qa_, qb_, qc_])
            refine wpAnyH_ready (rs := [6]) (by kernel_rfl) (by simp) ?_
            refine AllReadyH.cons rfl (fun K hK => ?_) ?_
            · go_simp
              refine hK.out _ _ (by trivial) (fun hHeld => ?_)
              clear hK K
              (try simp only [Act.put, qa_, qb_, qc_])
              refine wpAnyH_ready (rs := [7]) (by kernel_rfl) (by simp) ?_
              refine AllReadyH.cons rfl (fun K hK => ?_) ?_
              · have hBx : Below wr.heap.size wr (w5.alloc (.cells ([.int .i64 a.1, .int .i64 a.2.1, .int .i64 a.2.2.1, .slice oA3 a.2.2.2.length oc3].toArray) 65)) := bel_alloc hs1 _
                obtain ⟨xs, hrow, hpush⟩ := (hG.below hBx).row
                have hS2 : Src (w5.alloc (.cells ([.int .i64 a.1, .int .i64 a.2.1, .int .i64 a.2.2.1, .slice oA3 a.2.2.2.length oc3].toArray) 65)) 4 (some ⟨w5.heap.size, 0, none⟩) 1 [.int .i64 a.1, .int .i64 a.2.1, .int .i64 a.2.2.1, .slice oA3 a.2.2.2.length oc3] := Src.of_box w5 65 [.int .i64 a.1, .int .i64 a.2.1, .int .i64 a.2.2.1, .slice oA3 a.2.2.2.length oc3] (K := 4) rfl
                have tz : (Value.agg #[Value.int .i64 0, Value.int .i64 0, Value.int .i64 0, Value.slice none 0 0]).cells.size = 4 := (by first | rfl | (simp [Value.cells]; done))
                have t0 : ∀ u ∈ ([.int .i64 a.1, .int .i64 a.2.1, .int .i64 a.2.2.1, .slice oA3 a.2.2.2.length oc3] : List Value), u.oneCell' = true := (by intro u hu; simp only [List.mem_cons, List.not_mem_nil, or_false] at hu; rcases hu with rfl | rfl | rfl | rfl <;> rfl)
                have t1 : (l.take j).length + 1 ≤ maxLen := (by simp only [maxLen]; have := HLN.out; omega)
                have t2 : ((l.take j).length + 1) * 48 ≤ 140737488355328 := (by have := HLN.out; omega)
                have t3 := hBx.size
                refine step_app5 _ (by rfl) (.tmp 20) (.tmp 25) _ (by rfl) w3.heap.size 65 i1 _ 4 48 Try.underlying35 hj0 hj1 hj2 hj3 tz (by omega) v _ xs (by rfl) hrow _ 1 1 [.int .i64 a.1, .int .i64 a.2.1, .int .i64 a.2.2.1, .slice oA3 a.2.2.2.length oc3] (by rfl) hS2 t0 t1 t2 (by omega) ?_
                intro v2 w2 hown2 hgr2 hat2
                have hOel : tWhole.O (w5.alloc (.cells ([.int .i64 a.1, .int .i64 a.2.1, .int .i64 a.2.2.1, .slice oA3 a.2.2.2.length oc3].toArray) 65)) [.int .i64 a.1, .int .i64 a.2.1, .int .i64 a.2.2.1, .slice oA3 a.2.2.2.length oc3] a Fd := Ty.below (t := tWhole) hOk (belx)
                have hNel : New w3.heap.size Fd := hNd.lower (by omega)
                have hdis : ∀ f ∈ Fd, f ∉ F := (fun f h1 h2 => by have := hNd.2 _ h1; have := hlt2 f h2; omega)
                have hod : ∀ b, v.ownBlock = some b → b ∉ Fd := (fun b hb hx => by have := (hOwn b hb).2; have := hNd.2 _ hx; omega)
                have hfin := hpush w2 v2 a _ Fd hOel hNel hdis hod hown2 hgr2 hat2
                obtain ⟨A9, n9, c9, rfl, -⟩ := hfin.shapeN
                have R2 := Box.grown (w := (w5.alloc (.cells ([.int .i64 a.1, .int .i64 a.2.1, .int .i64 a.2.2.1, .slice oA3 a.2.2.2.length oc3].toArray) 65))) (R5.alloc _) hgr2 (fun e => by have := (hOwn w.heap.size e.symm).1; omega)
                have O2 := Box.grown (w := (w5.alloc (.cells ([.int .i64 a.1, .int .i64 a.2.1, .int .i64 a.2.2.1, .slice oA3 a.2.2.2.length oc3].toArray) 65))) (O5.alloc _) hgr2 (fun e => by have := (hOwn ob e.symm).1; omega)
                have hBf : Below w.heap.size w w2 := Below.grown (w := (w5.alloc (.cells ([.int .i64 a.1, .int .i64 a.2.1, .int .i64 a.2.2.1, .slice oA3 a.2.2.2.length oc3].toArray) 65))) (bel_trans hB4 hBx) hgr2 (by have := hBx.size; omega) (fun b hb => by have := (hOwn b hb).1; omega)
                have z2 := hgr2.size
                have o2c := O2.cell 0
                have o2f := O2.frozen 0
                have GF := hfin.put (p := ⟨ob, 0, none⟩) (by show ob < w3.heap.size; omega) (.slice A9 n9 c9)
                have RF := R2.far (p := ⟨ob, 0, none⟩) (by show ¬ w.heap.size = ob; omega) (.slice A9 n9 c9)
                have OF : Box (w2.setCell ⟨ob, 0, none⟩ (.slice A9 n9 c9)) ob 38 #[.slice A9 n9 c9, .slice B1 l1.length d1] := O2.put 0 (.slice A9 n9 c9)
                have H1F := Ty.far3 (own_past (w := (w5.alloc (.cells ([.int .i64 a.1, .int .i64 a.2.1, .int .i64 a.2.2.1, .slice oA3 a.2.2.2.length oc3].toArray) 65))) (Ty.below (t := tIs) H1 hBx) hgr2 (fun b hb hx => by have h1 := (hOwn b hb).1; have h2 := F1l b hx; omega)) (p := ⟨ob, 0, none⟩) F1o (.slice A9 n9 c9)
                have HSF := Ty.far3 (own_past (w := (w5.alloc (.cells ([.int .i64 a.1, .int .i64 a.2.1, .int .i64 a.2.2.1, .slice oA3 a.2.2.2.length oc3].toArray) 65))) (Ty.below (t := tIs) HS hBx) hgr2 (fun b hb hx => by have h1 := (hOwn b hb).1; have h2 := FSl b hx; omega)) (p := ⟨ob, 0, none⟩) FSo (.slice A9 n9 c9)
                have HMF := (World.ownsMap.kept (w := (w5.alloc (.cells ([.int .i64 a.1, .int .i64 a.2.1, .int .i64 a.2.2.1, .slice oA3 a.2.2.2.length oc3].toArray) 65))) (row := (v.ownBlock)) (World.ownsMap.kept (w := wr) (row := none) HM (below_grownBy hBx) (by simp)) hgr2 (fun e => by have h1 := (hOwn b e.symm).1; omega)).setCell (a := ⟨ob, 0, none⟩) (by show b ≠ ob; omega) (.slice A9 n9 c9)
                have BF : Below w.heap.size w (w2.setCell ⟨ob, 0, none⟩ (.slice A9 n9 c9)) := bel_put hBf (by show w.heap.size ≤ ob; omega) _
                refine hK.out _ _ (by trivial) (fun hHeld => ?_)
                clear hK K
                (try simp only [Act.put, qa_, qb_, qc_])
                refine wpAnyH_take (i := 8) (oi := ⟨some 27, _, _, _, _, _⟩) (v := ?v6) rfl (by kernel_rfl) (by kernel_rfl) (by kernel_rfl) (fun _ _ _ h => h) (Or.inl ⟨by rfl, ?hy6⟩) (by assumption) ?_
                case hy6 => (intro w hSw; (try dsimp only at hSw); go_simp; try (with_reducible rfl))
                (try simp only [Act.put, qa_, qb_, qc_])
                refine wpAnyH_ready (rs := [9]) (by kernel_rfl) (by simp) ?_
                refine AllReadyH.cons rfl (fun K hK => ?_) ?_
                · go_simp
                  refine hK.out _ _ (by trivial) (fun hHeld => ?_)
                  clear hK K
                  (try simp only [Act.put, qa_, qb_, qc_])
                  refine wpAnyH_done (by kernel_rfl) ?_ _
                  go_wp2
                  go_roundw
                  case rel => exact ⟨j + 1, _, _, by omega, by go_num, by rw [HT.out]; exact GF, RF, OF, H1F, HSF, HMF, BF, by have h := z2; simp [World.setCell] at h ⊢; omega⟩
                  case measure => simp [ixOf]; omega
                exact AllReadyH.nil
              exact AllReadyH.nil
            exact AllReadyH.nil
          refine AllReadyH.cons rfl (fun K hK => ?_) ?_
          · go_simp
            refine hK.out _ _ (by trivial) (fun hHeld => ?_)
            clear hK K
            (try simp only [Act.put, qa_, qb_, qc_])
            refine wpAnyH_ready (rs := [1]) (by kernel_rfl) (by simp) ?_
            refine AllReadyH.cons rfl (fun K hK => ?_) ?_
            · go_simp
              refine hK.out _ _ (by trivial) (fun hHeld => ?_)
              clear hK K
              (try simp only [Act.put, qa_, qb_, qc_])
              refine wpAnyH_ready (rs := [7]) (by kernel_rfl) (by simp) ?_
              refine AllReadyH.cons rfl (fun K hK => ?_) ?_
              · have hBx : Below wr.heap.size wr (w5.alloc (.cells ([.int .i64 a.1, .int .i64 a.2.1, .int .i64 a.2.2.1, .slice oA3 a.2.2.2.length oc3].toArray) 65)) := bel_alloc hs1 _
                obtain ⟨xs, hrow, hpush⟩ := (hG.below hBx).row
                have hS2 : Src (w5.alloc (.cells ([.int .i64 a.1, .int .i64 a.2.1, .int .i64 a.2.2.1, .slice oA3 a.2.2.2.length oc3].toArray) 65)) 4 (some ⟨w5.heap.size, 0, none⟩) 1 [.int .i64 a.1, .int .i64 a.2.1, .int .i64 a.2.2.1, .slice oA3 a.2.2.2.length oc3] := Src.of_box w5 65 [.int .i64 a.1, .int .i64 a.2.1, .int .i64 a.2.2.1, .slice oA3 a.2.2.2.length oc3] (K := 4) rfl
                have tz : (Value.agg #[Value.int .i64 0, Value.int .i64 0, Value.int .i64 0, Value.slice none 0 0]).cells.size = 4 := (by first | rfl | (simp [Value.cells]; done))
                have t0 : ∀ u ∈ ([.int .i64 a.1, .int .i64 a.2.1, .int .i64 a.2.2.1, .slice oA3 a.2.2.2.length oc3] : List Value), u.oneCell' = true := (by intro u hu; simp only [List.mem_cons, List.not_mem_nil, or_false] at hu; rcases hu with rfl | rfl | rfl | rfl <;> rfl)
                have t1 : (l.take j).length + 1 ≤ maxLen := (by simp only [maxLen]; have := HLN.out; omega)
                have t2 : ((l.take j).length + 1) * 48 ≤ 140737488355328 := (by have := HLN.out; omega)
                have t3 := hBx.size
                refine step_app5 _ (by rfl) (.tmp 20) (.tmp 25) _ (by rfl) w3.heap.size 65 i1 _ 4 48 Try.underlying35 hj0 hj1 hj2 hj3 tz (by omega) v _ xs (by rfl) hrow _ 1 1 [.int .i64 a.1, .int .i64 a.2.1, .int .i64 a.2.2.1, .slice oA3 a.2.2.2.length oc3] (by rfl) hS2 t0 t1 t2 (by omega) ?_
                intro v2 w2 hown2 hgr2 hat2
                have hOel : tWhole.O (w5.alloc (.cells ([.int .i64 a.1, .int .i64 a.2.1, .int .i64 a.2.2.1, .slice oA3 a.2.2.2.length oc3].toArray) 65)) [.int .i64 a.1, .int .i64 a.2.1, .int .i64 a.2.2.1, .slice oA3 a.2.2.2.length oc3] a Fd := Ty.below (t := tWhole) hOk (belx)
                have hNel : New w3.heap.size Fd := hNd.lower (by omega)
                have hdis : ∀ f ∈ Fd, f ∉ F := (fun f h1 h2 => by have := hNd.2 _ h1; have := hlt2 f h2; omega)
                have hod : ∀ b, v.ownBlock = some b → b ∉ Fd := (fun b hb hx => by have := (hOwn b hb).2; have := hNd.2 _ hx; omega)
                have hfin := hpush w2 v2 a _ Fd hOel hNel hdis hod hown2 hgr2 hat2
                obtain ⟨A9, n9, c9, rfl, -⟩ := hfin.shapeN
                have R2 := Box.grown (w := (w5.alloc (.cells ([.int .i64 a.1, .int .i64 a.2.1, .int .i64 a.2.2.1, .slice oA3 a.2.2.2.length oc3].toArray) 65))) (R5.alloc _) hgr2 (fun e => by have := (hOwn w.heap.size e.symm).1; omega)
                have O2 := Box.grown (w := (w5.alloc (.cells ([.int .i64 a.1, .int .i64 a.2.1, .int .i64 a.2.2.1, .slice oA3 a.2.2.2.length oc3].toArray) 65))) (O5.alloc _) hgr2 (fun e => by have := (hOwn ob e.symm).1; omega)
                have hBf : Below w.heap.size w w2 := Below.grown (w := (w5.alloc (.cells ([.int .i64 a.1, .int .i64 a.2.1, .int .i64 a.2.2.1, .slice oA3 a.2.2.2.length oc3].toArray) 65))) (bel_trans hB4 hBx) hgr2 (by have := hBx.size; omega) (fun b hb => by have := (hOwn b hb).1; omega)
                have z2 := hgr2.size
                have o2c := O2.cell 0
                have o2f := O2.frozen 0
                have GF := hfin.put (p := ⟨ob, 0, none⟩) (by show ob < w3.heap.size; omega) (.slice A9 n9 c9)
                have RF := R2.far (p := ⟨ob, 0, none⟩) (by show ¬ w.heap.size = ob; omega) (.slice A9 n9 c9)
                have OF : Box (w2.setCell ⟨ob, 0, none⟩ (.slice A9 n9 c9)) ob 38 #[.slice A9 n9 c9, .slice B1 l1.length d1] := O2.put 0 (.slice A9 n9 c9)
                have H1F := Ty.far3 (own_past (w := (w5.alloc (.cells ([.int .i64 a.1, .int .i64 a.2.1, .int .i64 a.2.2.1, .slice oA3 a.2.2.2.length oc3].toArray) 65))) (Ty.below (t := tIs) H1 hBx) hgr2 (fun b hb hx => by have h1 := (hOwn b hb).1; have h2 := F1l b hx; omega)) (p := ⟨ob, 0, none⟩) F1o (.slice A9 n9 c9)
                have HSF := Ty.far3 (own_past (w := (w5.alloc (.cells ([.int .i64 a.1, .int .i64 a.2.1, .int .i64 a.2.2.1, .slice oA3 a.2.2.2.length oc3].toArray) 65))) (Ty.below (t := tIs) HS hBx) hgr2 (fun b hb hx => by have h1 := (hOwn b hb).1; have h2 := FSl b hx; omega)) (p := ⟨ob, 0, none⟩) FSo (.slice A9 n9 c9)
                have HMF := (World.ownsMap.kept (w := (w5.alloc (.cells ([.int .i64 a.1, .int .i64 a.2.1, .int .i64 a.2.2.1, .slice oA3 a.2.2.2.length oc3].toArray) 65))) (row := (v.ownBlock)) (World.ownsMap.kept (w := wr) (row := none) HM (below_grownBy hBx) (by simp)) hgr2 (fun e => by have h1 := (hOwn b e.symm).1; omega)).setCell (a := ⟨ob, 0, none⟩) (by show b ≠ ob; omega) (.slice A9 n9 c9)
                have BF : Below w.heap.size w (w2.setCell ⟨ob, 0, none⟩ (.slice A9 n9 c9)) := bel_put hBf (by show w.heap.size ≤ ob; omega) _
                refine hK.out _ _ (by trivial) (fun hHeld => ?_)
                clear hK K
                (try simp only [Act.put, qa_, qb_, qc_])
                refine wpAnyH_take (i := 8) (oi := ⟨some 27, _, _, _, _, _⟩) (v := ?v7) rfl (by kernel_rfl) (by kernel_rfl) (by kernel_rfl) (fun _ _ _ h => h) (Or.inl ⟨by rfl, ?hy7⟩) (by assumption) ?_
                case hy7 => (intro w hSw; (try dsimp only at hSw); go_simp; try (with_reducible rfl))
                (try simp only [Act.put, qa_, qb_, qc_])
                refine wpAnyH_ready (rs := [9]) (by kernel_rfl) (by simp) ?_
                refine AllReadyH.cons rfl (fun K hK => ?_) ?_
                · go_simp
                  refine hK.out _ _ (by trivial) (fun hHeld => ?_)
                  clear hK K
                  (try simp only [Act.put, qa_, qb_, qc_])
                  refine wpAnyH_done (by kernel_rfl) ?_ _
                  go_wp2
                  go_roundw
                  case rel => exact ⟨j + 1, _, _, by omega, by go_num, by rw [HT.out]; exact GF, RF, OF, H1F, HSF, HMF, BF, by have h := z2; simp [World.setCell] at h ⊢; omega⟩
                  case measure => simp [ixOf]; omega
                exact AllReadyH.nil
              exact AllReadyH.nil
            exact AllReadyH.nil
          exact AllReadyH.nil
        exact AllReadyH.nil
      exact AllReadyH.nil
    · obtain rfl : nl = j := by omega
      have HA := Lib.hid (show l.take nl = l from List.take_of_length_le (by have := HNL.out; omega))
      rw [HA.out] at hG
      obtain ⟨A9, c9, F9, rfl, hO9, hN9⟩ := hG.done
      have q1 : ¬ (nl : Int) < (nl : Int) := by omega
      have o0 := O4.cell 0; have o1 := O4.cell 1; have r0 := R4.cell 0; have r1 := R4.cell 1; have r2 := R4.frozen 0; have r3 := R4.frozen 1
      have hdj : ∀ f ∈ F9, f ∉ F1 := fun f h1 h2 => by have := hN9.2 f h1; have := F1l f h2; omega
      have hM : New (w.heap.size + 1) (F9 ++ F1) := new_pair (hN9.lower (by omega)) hNd hdj
      go_wp2
      have RR := (R4.put 0 (.slice A9 l.length c9)).put 1 (.slice B1 l1.length d1)
      have e0 := RR.cell 0; have e1 := RR.cell 1
      refine bodyPost_ret (v := .agg #[.slice A9 l.length c9, .slice B1 l1.length d1]) (by simp [results, Try.results36, go_sem, e0, e1]) rfl ⟨A9, c9, B1, d1, rfl, F9 ++ F1, put2Dk hO9 H1 (hM.not (by omega)), hM.lower (by omega), ?_⟩
      exact bel_put (bel_put hB4 (by simp) _) (by simp) _
end Go.Proofs.Ytaabmaoldhoinaa
namespace Go.Proofs.Ytaabmaoldhoinaa
set_option maxRecDepth 100000
set_option linter.unusedVariables false
set_option linter.unusedSimpArgs false
open Go.ChangeShapes Go.WideShapes Go.ChangeAt Go.RowKit
theorem i_lacks {w : World} {cs : List Value} {a : DWhole} (x : Int) (h : tWhole.R w w.heap.size cs a) (hz : a.2.2.2.length ≤ 1048576) :
    Calls Try.prog 35 #[.agg cs.toArray, .int .i64 x] w fun e w' => e = .returned (.bool (decide (x ∉ a.2.2.2.map fun p => p.2.1))) ∧ Below w.heap.size w w' := by
  obtain ⟨A3, n3, c3, rfl, hi0, hi1, hi2, ha3, hb3, hl3, h3⟩ := openWhole h
  have hwf := Lib.hid (pcs_wf h3)
  have hn : n3 ≤ 1048576 := by omega
  have hm : (a.2.2.2.map fun p => p.2.1).length ≤ 1048576 := by rw [List.length_map]; exact hz
  have HR := Lib.hid (show (!decide (x ∈ a.2.2.2.map fun p => p.2.1)) = decide (x ∉ a.2.2.2.map fun p => p.2.1) by simp)
  rw [← HR.out]
  obtain ⟨ml, hml⟩ : ∃ y, (a.2.2.2.map fun p => p.2.1) = y := ⟨_, rfl⟩
  have HM := Lib.hid hml
  rw [hml] at hm ⊢
  clear hml hl3 hz
  go_enter Try.func35, Try.ntmps35
  go_wp2_with fail
  refine (i_eachPieceI 57 (fun p => p.2.1) (fun _ _ => rfl) (fun i a w' cs ha hBw hR => i_PcAt hR) hwf.out (tPiece.row.reach h3 ?hB) hn).mono ?_
  case hB => exact (belx)
  rintro e w1 ⟨v, rfl, hO, hb1⟩
  rw [HM.out] at hO
  obtain ⟨A5, c5, rfl, _, hI5, _⟩ := hO.ints
  have hs1 : Below w.heap.size w w1 := bel_trans (belx) hb1
  go_wp2_with fail
  refine (i_ContainsI x hI5 (by omega)).mono ?_
  rintro e w' ⟨rfl, rfl⟩
  go_wp2
  go_ret
  exact ⟨rfl, hs1⟩
end Go.Proofs.Ytaabmaoldhoinaa
namespace Go.Proofs.Ytaabmaoldhoinaa
set_option maxRecDepth 100000
set_option linter.unusedVariables false
set_option linter.unusedSimpArgs false
open Go.ChangeShapes Go.WideShapes Go.ChangeAt Go.RowKit Go.Sort
theorem Own.base {K : IntKind} {e : TypeId} {w : World} {b b' : Nat} {v : Value} {l : List Int} (h : Own K e w b v l) (hb : b' ≤ b) : Own K e w b' v l := by
  refine ⟨⟨h.1.1, ?_⟩, h.2⟩
  rcases h.1.2 with h' | ⟨g, cap, cur, h1, h2, h3⟩
  · exact .inl h'
  · exact .inr ⟨g, cap, cur, h1, Nat.le_trans hb h2, h3⟩
/-- Ascending, as the library's sort leaves it. -/
def srt (l : List Int) : List Int := l.mergeSort (fun x y => decide (x ≤ y))
theorem srt_len (l : List Int) : (srt l).length = l.length := List.length_mergeSort _
theorem srt_mem {l : List Int} {x : Int} : x ∈ srt l ↔ x ∈ l := List.mem_mergeSort
theorem srt_nil : srt [] = [] := by simp [srt]
/-- Sorting a slice of the call's own. -/
theorem i_SortI {w : World} {base : Nat} {v : Value} {l : List Int} (h : Own .i64 3 w base v l) (hb : base ≤ w.heap.size) (hn : l.length ≤ 1048576) :
    Calls Try.prog 40 #[v] w fun e w' => e = .returned (.tuple #[]) ∧ Own .i64 3 w' base v (srt l) ∧ w.grownBy w' v.ownBlock := by
  rcases h.1.2 with ⟨rfl, h0⟩ | ⟨g, cap, cur, rfl, hbg, hg, hnc, hm, hs, ht⟩
  · have : l = [] := List.eq_nil_of_length_eq_zero h0
    subst this
    refine (Try.slices_Sort_int_none none 0 w).mono ?_
    rintro e w' ⟨rfl, rfl⟩
    exact ⟨rfl, by rw [srt_nil]; exact Own.nil _ _ _ _, World.grownBy.refl _ _⟩
  · by_cases hz : l.length = 0
    · have : l = [] := List.eq_nil_of_length_eq_zero hz
      subst this
      refine (Try.slices_Sort_int_none _ cap w).mono ?_
      rintro e w' ⟨rfl, rfl⟩
      exact ⟨rfl, by rw [srt_nil]; exact h, World.grownBy.refl _ _⟩
    · have hgl : g < w.heap.size := (Array.getElem?_eq_some_iff.1 hg).1
      simp only [maxLen] at hm
      refine (Try.slices_Sort_int g 0 cap l w (holds_of_blockI hg (by simpa using ht)) hgl (by omega)).mono ?_
      rintro e w' ⟨rfl, n, os, rfl⟩
      have hl : (l.mergeSort fun x y => decide (x ≤ y)).length = l.length := List.length_mergeSort _
      refine ⟨rfl, ⟨?_, fun x hx => h.2 x (srt_mem.1 hx)⟩, grownBy_sortedI _⟩
      have := ownsRow_sortedI (n := n) (os := os) hl hbg hg (by omega) (by simp only [maxLen]; omega) hs
      rw [srt_len]
      exact this
end Go.Proofs.Ytaabmaoldhoinaa
namespace Go.Proofs.Ytaabmaoldhoinaa
set_option linter.unusedVariables false
open Go.RowKit
section
variable {α : Type} {t : Ty α} {e e' : TypeId} {w w' : World} {base base' B n c : Nat} {A : Option Addr} {v v' : Value} {l l' : List α}
theorem GrowR.src (h : GrowR t e w base B v l) (h1 : ∀ es a, t.R w B es a → ∀ u ∈ es, u.oneCell' = true) :
    ∃ (css : List (List Value)) (A : Option Addr) (c : Nat), v = .slice A l.length c ∧ css.length = l.length ∧ (∀ (i : Nat) (a : α) (es : List Value), l[i]? = some a → css[i]? = some es → t.R w B es a) ∧ Src w t.k A l.length css.flatten ∧ ∀ u ∈ css.flatten, u.oneCell' = true := by
  obtain ⟨css, k1, k2, k5⟩ := h
  have hk : ∀ es ∈ css, es.length = t.k := fun es hes => by
    obtain ⟨i', hi', rfl⟩ := List.getElem_of_mem hes
    exact t.lenR (k5 i' _ _ (List.getElem?_eq_getElem (by omega)) (List.getElem?_eq_getElem hi'))
  have hone : ∀ u ∈ css.flatten, u.oneCell' = true := fun u hu => by
    obtain ⟨es, hes, hu⟩ := List.mem_flatten.1 hu
    obtain ⟨i, hi, rfl⟩ := List.getElem_of_mem hes
    exact h1 _ _ (k5 i _ _ (List.getElem?_eq_getElem (by omega)) (List.getElem?_eq_getElem hi)) u hu
  rcases k1.2 with ⟨rfl, h0⟩ | ⟨g, cap, cur, rfl, hb, hg, hn, hm, hs, ht⟩
  · have : l = [] := List.eq_nil_of_length_eq_zero h0
    subst this
    have : css = [] := List.eq_nil_of_length_eq_zero (by rw [k2]; rfl)
    subst this
    exact ⟨[], none, 0, rfl, rfl, fun i a es hi => by simp at hi, ⟨by simp, fun h => absurd h (by simp)⟩, fun u hu => by simp at hu⟩
  · refine ⟨css, some ⟨g, 0, none⟩, cap, rfl, k2, k5, ⟨by rw [flat_len hk, k2], fun _ => ⟨g, 0, rfl, fun j u hj => ?_⟩⟩, hone⟩
    have hj2 : j < l.length * t.k := by rw [← k2, ← flat_len hk]; exact (List.getElem?_eq_some_iff.1 hj).1
    rw [Nat.zero_add, Box.cell (t := e) hg, ← hj, ← ht, List.getElem?_take, if_pos hj2]
    simp
end
end Go.Proofs.Ytaabmaoldhoinaa
namespace Go.Proofs.Ytaabmaoldhoinaa
set_option linter.unusedVariables false
open Go.RowKit
section SortOpen
open Go.Sort
theorem perm_lift {α β : Type} (f : α → β) {d d' : List β} (h : d.Perm d') : ∀ z : List α, z.map f = d → ∃ z', z.Perm z' ∧ z'.map f = d' := by
  induction h with
  | nil => intro z hz; exact ⟨z, List.Perm.refl _, hz⟩
  | cons x h ih =>
    intro z hz
    cases z with
    | nil => simp at hz
    | cons a z =>
      simp only [List.map_cons, List.cons.injEq] at hz
      obtain ⟨z', h1, h2⟩ := ih z hz.2
      exact ⟨a :: z', h1.cons a, by rw [List.map_cons, hz.1, h2]⟩
  | swap x y l =>
    intro z hz
    match z, hz with
    | a :: b :: z, hz =>
      simp only [List.map_cons, List.cons.injEq] at hz
      exact ⟨b :: a :: z, List.Perm.swap b a z, by simp [hz.1, hz.2.1, hz.2.2]⟩
  | trans h1 h2 ih1 ih2 =>
    intro z hz
    obtain ⟨z1, k1, k2⟩ := ih1 z hz
    obtain ⟨z2, k3, k4⟩ := ih2 z1 k2
    exact ⟨z2, k1.trans k3, k4⟩
variable {α β : Type} [Inhabited β] {enc : β → List Value} {k : Nat} {w : World} {g n : Nat} {cur : Array Value} {e : TypeId} {fz : Nat × Nat} {d d' : Array β} {os : Array Obj}
theorem heap_putK (h : w.heap[g]? = some (.cells cur e fz)) : (sortWorldK enc k w g 0 n d os).heap[g]? = some (.cells (putCells id 0 (flatK enc k d) cur) e fz) := by
  have hlt : g < w.heap.size := by
    rcases Nat.lt_or_ge g w.heap.size with h' | h'
    · exact h'
    · rw [Array.getElem?_eq_none h'] at h; cases h
  unfold sortWorldK Go.Sort.grow putRowK putRow mapBlock Go.Sort.ahead
  simp only [Array.getElem?_append, Array.size_modify, hlt, if_true, Array.getElem?_modify, h, Option.map_some, onCells]
theorem heap_putK_other {i : Nat} (hi : i < w.heap.size) (hne : i ≠ g) : (sortWorldK enc k w g 0 n d os).heap[i]? = w.heap[i]? := by
  unfold sortWorldK Go.Sort.grow putRowK putRow mapBlock Go.Sort.ahead
  simp only [Array.getElem?_append, Array.size_modify, hi, if_true, Array.getElem?_modify]
  rw [if_neg (fun e => hne e.symm)]
theorem size_putK : w.heap.size ≤ (sortWorldK enc k w g 0 n d os).heap.size := by
  unfold sortWorldK Go.Sort.grow putRowK putRow mapBlock Go.Sort.ahead
  simp
theorem grown_putK : w.grownBy (sortWorldK enc k w g 0 n d os) (some g) :=
  ⟨rfl, rfl, rfl, size_putK, fun i hi hn => heap_putK_other hi (fun e => hn (by rw [e]))⟩
theorem putCells_get (F cur : Array Value) (hs : F.size ≤ cur.size) {j : Nat} (hj : j < F.size) : (putCells id 0 F cur)[j]? = some F[j]! := by
  unfold putCells
  rw [Array.getElem?_mapIdx, Array.getElem?_eq_getElem (show j < cur.size by omega)]
  simp [hj]
theorem flat_of (hk : ∀ x, (enc x).length = k) (h0 : 0 < k) {j : Nat} (hj : j < d.size * k) : (flatK enc k d)[j]! = ((d.toList.map enc).flatten)[j]?.getD default := by
  have hq : j / k < d.size := Nat.div_lt_of_lt_mul (by rw [Nat.mul_comm]; exact hj)
  rw [get_flatK enc k d j hj]
  have hlen : ∀ es ∈ d.toList.map enc, es.length = k := fun es hes => by
    obtain ⟨x, _, rfl⟩ := List.mem_map.1 hes; exact hk x
  have hm : (d.toList.map enc)[j / k]? = some (enc d[j / k]!) := by
    rw [List.getElem?_map, Array.getElem?_toList, Array.getElem?_eq_getElem hq, getElem!_pos d _ hq]; rfl
  have := flat_at hlen hm (Nat.mod_lt j h0)
  rw [show j / k * k + j % k = j by rw [Nat.mul_comm]; exact Nat.div_add_mod j k] at this
  rw [this, List.getElem!_eq_getElem?_getD]
end SortOpen
section SortGrow
open Go.Sort
variable {α β : Type} [Inhabited β] {t : Ty α} {enc : β → List Value} {w w' : World} {base B : Nat} {v : Value} {l : List α} {e : TypeId}
/-- What is sorted: the row's elements (their cells decoded as β), before; and what the row is behind the sort. -/
theorem GrowR.sort (h : GrowR t e w base B v l) (hl : 0 < l.length) (hB : B ≤ base) (hk : ∀ x, (enc x).length = t.k) (h0 : 0 < t.k) (hdec : ∀ es a, t.R w B es a → ∃ x, enc x = es) :
    ∃ (g cap : Nat) (d : Array β), v = .slice (some ⟨g, 0, none⟩) d.size cap ∧ d.size = l.length ∧ base ≤ g ∧ g < w.heap.size ∧ HoldsK enc t.k w g 0 d ∧ (∀ (i : Nat) (a : α) (x : β), l[i]? = some a → d.toList[i]? = some x → t.R w B (enc x) a) ∧
      ∀ (d' : Array β) (n : Nat) (os : Array Obj), d'.toList.Perm d.toList → w.grownBy (sortWorldK enc t.k w g 0 n d' os) (some g) ∧ ∃ l' : List α, l'.Perm l ∧ GrowR t e (sortWorldK enc t.k w g 0 n d' os) base B v l' ∧
        ∀ (i : Nat) (a : α) (x : β), l'[i]? = some a → d'.toList[i]? = some x → t.R w B (enc x) a := by
  obtain ⟨css, h1, h2, h3⟩ := h
  rcases h1.2 with ⟨rfl, hz⟩ | ⟨g, cap, cur, rfl, hb, hg, hn, hm, hs, ht⟩
  · omega
  have hx : ∃ d0 : List β, d0.map enc = css := by
    have key : ∀ (css : List (List Value)) (l : List α), css.length = l.length → (∀ (i : Nat) (a : α) (es : List Value), l[i]? = some a → css[i]? = some es → t.R w B es a) → ∃ d0 : List β, d0.map enc = css := by
      intro css
      induction css with
      | nil => intro l _ _; exact ⟨[], rfl⟩
      | cons es css ih =>
        intro l hlen hR
        cases l with
        | nil => simp at hlen
        | cons a l =>
          obtain ⟨d0, hd0⟩ := ih l (by simpa using hlen) fun i a' es' q1 q2 => hR (i + 1) a' es' (by simpa using q1) (by simpa using q2)
          obtain ⟨x, hx⟩ := hdec es a (hR 0 a es rfl rfl)
          exact ⟨x :: d0, by rw [List.map_cons, hx, hd0]⟩
    exact key css l h2 h3
  obtain ⟨d0, rfl⟩ := hx
  have hd0 : d0.length = l.length := by rw [← h2, List.length_map]
  have hlt : g < w.heap.size := Box.size (t := e) hg
  have hfl : (d0.map enc).flatten.length = l.length * t.k := by
    rw [flat_len (fun es hes => by obtain ⟨x, _, rfl⟩ := List.mem_map.1 hes; exact hk x), List.length_map, hd0]
  have hcap : l.length * t.k ≤ cur.size := by rw [hs]; exact Nat.mul_le_mul_right _ hn
  refine ⟨g, cap, d0.toArray, by simp [hd0], by simp [hd0], hb, hlt, ?_, ?_, ?_⟩
  · intro j hj
    rw [size_flatK] at hj
    have hj' : j < l.length * t.k := by simpa [hd0] using hj
    refine ⟨?_, Box.frozen (t := e) hg _⟩
    rw [Nat.zero_add, Box.cell (t := e) hg]
    have hA := flat_of (d := d0.toArray) hk h0 hj
    have hB' : (cur.toList.take (l.length * t.k))[j]? = ((d0.map enc).flatten)[j]? := by rw [ht]
    rw [List.getElem?_take, if_pos hj'] at hB'
    rw [show (id (flatK enc t.k d0.toArray)[j]! : Value) = (flatK enc t.k d0.toArray)[j]! from rfl, hA]
    rw [show (d0.toArray).toList = d0 by simp, ← hB', Array.getElem?_toList, Array.getElem?_eq_getElem (show j < cur.size by omega)]
    rfl
  · intro i a x q1 q2
    exact h3 i a (enc x) q1 (by rw [List.getElem?_map]; simp at q2; rw [q2]; rfl)
  · intro d' n os hp
    have hp' : d'.toList.Perm d0 := by simpa using hp
    have hdl : d'.size = l.length := by have := hp'.length_eq; rw [← hd0, ← this]; simp
    refine ⟨grown_putK, ?_⟩
    obtain ⟨z, hz1, hz2⟩ := perm_lift (Prod.snd : α × β → β) hp'.symm (l.zip d0) (by rw [List.map_snd_zip (by omega)])
    have hzl : z.length = l.length := by rw [← hz1.length_eq, List.length_zip, hd0]; omega
    have hzR : ∀ p ∈ z, t.R w B (enc p.2) p.1 := by
      intro p hpz
      have := hz1.mem_iff.2 hpz
      obtain ⟨i, hi, rfl⟩ := List.getElem_of_mem this
      rw [List.length_zip] at hi
      rw [List.getElem_zip]
      exact h3 i _ _ (List.getElem?_eq_getElem (by omega)) (by rw [List.getElem?_map, List.getElem?_eq_getElem (by omega)]; rfl)
    have hR' : ∀ (i : Nat) (a : α) (x : β), (z.map Prod.fst)[i]? = some a → d'.toList[i]? = some x → t.R w B (enc x) a := by
      intro i a x q1 q2
      have hi := (List.getElem?_eq_some_iff.1 q1).1
      rw [List.length_map] at hi
      rw [List.getElem?_map, List.getElem?_eq_getElem hi] at q1
      rw [← hz2, List.getElem?_map, List.getElem?_eq_getElem hi] at q2
      injection q1 with q1
      injection q2 with q2
      rw [← q1, ← q2]
      exact hzR _ (List.getElem_mem hi)
    refine ⟨z.map Prod.fst, ?_, ⟨d'.toList.map enc, ⟨?_, .inr ⟨g, cap, putCells id 0 (flatK enc t.k d') cur, ?_, hb, heap_putK hg, ?_, hm, ?_, ?_⟩⟩, by rw [List.length_map, List.length_map, hzl]; simp [hdl], ?_⟩, hR'⟩
    · have := (hz1.map Prod.fst).symm
      rwa [List.map_fst_zip (by omega)] at this
    · rw [flat_len (k := t.k) (fun es hes => by obtain ⟨x, _, rfl⟩ := List.mem_map.1 hes; exact hk x), List.length_map, List.length_map, hzl]; simp [hdl]
    · rw [List.length_map, hzl]
    · rw [List.length_map, hzl]; exact hn
    · unfold putCells; rw [Array.size_mapIdx]; exact hs
    · rw [List.length_map, hzl]
      apply List.ext_getElem?
      intro j
      by_cases hj : j < l.length * t.k
      · have hj2 : j < (flatK enc t.k d').size := by rw [size_flatK, hdl]; exact hj
        have hj3 : j < ((d'.toList.map enc).flatten).length := by rw [flat_len (k := t.k) (fun es hes => by obtain ⟨x, _, rfl⟩ := List.mem_map.1 hes; exact hk x), List.length_map]; simp [hdl]; exact hj
        rw [List.getElem?_take, if_pos hj, Array.getElem?_toList, putCells_get _ _ (by rw [size_flatK, hdl]; omega) hj2, flat_of hk h0 (by rw [hdl]; exact hj), List.getElem?_eq_getElem hj3]
        rfl
      · rw [List.getElem?_eq_none (by rw [List.length_take]; omega), List.getElem?_eq_none (by rw [flat_len (k := t.k) (fun es hes => by obtain ⟨x, _, rfl⟩ := List.mem_map.1 hes; exact hk x), List.length_map]; simp [hdl]; omega)]
    · intro i a es q1 q2
      rw [List.getElem?_map] at q2
      have hi := (List.getElem?_eq_some_iff.1 q1).1
      rw [List.length_map] at hi
      have hid : i < d'.toList.length := by simp; omega
      rw [List.getElem?_eq_getElem hid] at q2
      injection q2 with q2
      subst q2
      exact t.keep (hR' i a _ q1 (List.getElem?_eq_getElem hid)) fun b hb' => heap_putK_other (by omega) (by omega)
end SortGrow
end Go.Proofs.Ytaabmaoldhoinaa
namespace Go.Proofs
open Go.Shelf
def Try.sortPc_ren : Go.Shelf.Ren := ⟨fun | 6 => 62 | 15 => 66 | 14 => 74 | 28 => 85 | 29 => 86 | 20 => 93 | 21 => 94 | 22 => 95 | 23 => 96 | 24 => 97 | 25 => 98 | 26 => 99 | 27 => 100 | 46 => 106 | 47 => 102 | 48 => 103 | 49 => 107 | 50 => 108 | 57 => 110 | n => n, fun | 22 => 47 | 24 => 24 | 25 => 97 | 3 => 3 | 39 => 85 | 0 => 0 | 53 => 115 | 55 => 117 | 4 => 4 | 46 => 107 | 45 => 106 | 50 => 112 | 5 => 5 | 9 => 9 | 66 => 128 | 70 => 132 | 76 => 136 | 77 => 137 | n => n, fun | n => n⟩
theorem Try.sortPc : Go.Proofs.SlLaysF0.n6 Try.prog Try.sortPc_ren := {
  mixed := by kernel_rfl
  f6 := ⟨Try.f62.name, by decide, Try.func62.trans (congrArg some (by kernel_rfl))⟩
  f14 := ⟨Try.f74.name, by decide, Try.func74.trans (congrArg some (by kernel_rfl))⟩
  f15 := Try.func66.trans (congrArg some (by kernel_rfl))
  f20 := ⟨Try.f93.name, by decide, Try.func93.trans (congrArg some (by kernel_rfl))⟩
  f21 := ⟨Try.f94.name, by decide, Try.func94.trans (congrArg some (by kernel_rfl))⟩
  f22 := ⟨Try.f95.name, by decide, Try.func95.trans (congrArg some (by kernel_rfl))⟩
  f23 := ⟨Try.f96.name, by decide, Try.func96.trans (congrArg some (by kernel_rfl))⟩
  f24 := ⟨Try.f97.name, by decide, Try.func97.trans (congrArg some (by kernel_rfl))⟩
  f25 := ⟨Try.f98.name, by decide, Try.func98.trans (congrArg some (by kernel_rfl))⟩
  f26 := ⟨Try.f99.name, by decide, Try.func99.trans (congrArg some (by kernel_rfl))⟩
  f27 := ⟨Try.f100.name, by decide, Try.func100.trans (congrArg some (by kernel_rfl))⟩
  f28 := Try.func85.trans (congrArg some (by kernel_rfl))
  f29 := Try.func86.trans (congrArg some (by kernel_rfl))
  f46 := ⟨Try.f106.name, by decide, Try.func106.trans (congrArg some (by kernel_rfl))⟩
  f47 := Try.func102.trans (congrArg some (by kernel_rfl))
  f48 := Try.func103.trans (congrArg some (by kernel_rfl))
  f49 := ⟨Try.f107.name, by decide, Try.func107.trans (congrArg some (by kernel_rfl))⟩
  f50 := ⟨Try.f108.name, by decide, Try.func108.trans (congrArg some (by kernel_rfl))⟩
  f57 := ⟨Try.f110.name, by decide, Try.func110.trans (congrArg some (by kernel_rfl))⟩
  t0 := Try.underlying0
  a0 := Try.isAgg0
  z0 := Try.sizeOf0
  v0 := Try.zeroValue0
  t3 := Try.underlying3
  a3 := Try.isAgg3
  z3 := Try.sizeOf3
  v3 := Try.zeroValue3
  t4 := Try.underlying4
  a4 := Try.isAgg4
  z4 := Try.sizeOf4
  v4 := Try.zeroValue4
  t5 := Try.underlying5
  a5 := Try.isAgg5
  z5 := Try.sizeOf5
  v5 := Try.zeroValue5
  t9 := Try.underlying9
  a9 := Try.isAgg9
  z9 := Try.sizeOf9
  v9 := Try.zeroValue9
  t22 := Try.underlying47
  a22 := Try.isAgg47
  z22 := Try.sizeOf47
  v22 := Try.zeroValue47
  t25 := Try.underlying97
  a25 := Try.isAgg97
  z25 := Try.sizeOf97
  v25 := Try.zeroValue97
  t39 := Try.underlying85
  a39 := Try.isAgg85
  z39 := Try.sizeOf85
  v39 := Try.zeroValue85
  t45 := Try.underlying106
  a45 := Try.isAgg106
  z45 := Try.sizeOf106
  v45 := Try.zeroValue106
  t46 := Try.underlying107
  a46 := Try.isAgg107
  z46 := Try.sizeOf107
  v46 := Try.zeroValue107
  t50 := Try.underlying112
  a50 := Try.isAgg112
  z50 := Try.sizeOf112
  v50 := Try.zeroValue112
  t53 := Try.underlying115
  a53 := Try.isAgg115
  z53 := Try.sizeOf115
  v53 := Try.zeroValue115
  t55 := Try.underlying117
  a55 := Try.isAgg117
  z55 := Try.sizeOf117
  v55 := Try.zeroValue117
  t66 := Try.underlying128
  a66 := Try.isAgg128
  z66 := Try.sizeOf128
  v66 := Try.zeroValue128
  t70 := Try.underlying132
  a70 := Try.isAgg132
  z70 := Try.sizeOf132
  v70 := Try.zeroValue132
  t76 := Try.underlying136
  a76 := Try.isAgg136
  z76 := Try.sizeOf136
  v76 := Try.zeroValue136
  t77 := Try.underlying137
  a77 := Try.isAgg137
  z77 := Try.sizeOf137
  v77 := Try.zeroValue137 }
end Go.Proofs
namespace Go.Proofs.Ytaabmaoldhoinaa
set_option maxRecDepth 100000
set_option linter.unusedVariables false
set_option linter.unusedSimpArgs false
open Go.ChangeShapes Go.WideShapes Go.ChangeAt Go.RowKit
open Fld
section MapsOpen
open Go.Maps
/-- A look-up by number that tells whether there is one. -/
theorem MapW.look_ok {α : Type} {t : Ty α} {id : α → Int} {w : World} {B b n : Nat} {D : MD} {l : List α} {P : Program} {T K E : TypeId} {z : Value} (h : MapW t id w B D l) (hown : w.ownsMap P K mR b n D) (hK : P.underlying K = some (.int .i64)) (hT : P.underlying T = some (.map K E)) (hz : (zeroValue E).run P w = .ok z w) {i : Int} (hi : (Lit.int .i64 i).wf = true) :
    ∃ v, (∃ a es, a ∈ l ∧ id a = i ∧ v = .agg (List.toArray es) ∧ t.R w B es a ∧ (Instr.lookup T (.map (some b)) (.int .i64 i) true).run P w = .ok (.tuple #[v, .bool true]) w) ∨ ((∀ a ∈ l, id a ≠ i) ∧ v = z ∧ (Instr.lookup T (.map (some b)) (.int .i64 i) true).run P w = .ok (.tuple #[z, .bool false]) w) := by
  obtain ⟨v, ps, hrun, hv⟩ := hown.look_ok (int_keyed hK) hT hz (zd := .held z) (zp := []) rfl (keyOf_int_mk hK hi)
  have hv' : (DataW.held v : MD) = D.atKey (mK i) (.held z) := by
    have := congrArg (fun o => o.map Prod.fst) hv
    simpa [mR] using this
  by_cases hx : ∃ a ∈ l, id a = i
  · obtain ⟨a, ha, hai⟩ := hx
    obtain ⟨es, h1, h2⟩ := h.there a ha
    have hh := h.has1 a ha
    rw [hai] at h1 hh
    rw [h1] at hv'
    injection hv' with hv'
    rw [show has D (Lit.int .i64 i) = true from hh] at hrun
    exact ⟨v, .inl ⟨a, es, ha, hai, hv', h2, hrun⟩⟩
  · have h0 : ∀ a ∈ l, id a ≠ i := fun a ha e => hx ⟨a, ha, e⟩
    have hh := h.has0 i h0
    rw [atKey_of_not_has hh] at hv'
    injection hv' with hv'
    rw [show has D (Lit.int .i64 i) = false from hh, hv'] at hrun
    exact ⟨v, .inr ⟨h0, hv', hrun⟩⟩
end MapsOpen
theorem GrowR.past {α : Type} {t : Ty α} {e : TypeId} {w w' : World} {base B r : Nat} {v : Value} {l : List α} (h : GrowR t e w base B v l) (hg : w.grownBy w' (some r)) (h1 : B ≤ r) (h2 : ∀ b, v.ownBlock = some b → b ≠ r) (hw : B ≤ w.heap.size) : GrowR t e w' base B v l := by
  obtain ⟨css, k1, k2, k3⟩ := h
  exact ⟨css, k1.kept (row := some r) hg (.inr fun e => h2 _ e rfl), k2, fun i a es q1 q2 => t.keep (k3 i a es q1 q2) fun b hb => hg.block b (by omega) (fun e => by injection e with e; omega)⟩
theorem one_cells_Piece {w : World} {B : Nat} : ∀ es a, tPiece.R w B es a → ∀ u ∈ es, u.oneCell' = true := fun es a h u hu => by
  obtain ⟨A3, n3, c3, rfl, -⟩ := openPiece h
  simp only [List.mem_cons, List.not_mem_nil, or_false] at hu
  rcases hu with rfl | rfl | rfl | rfl <;> rfl
set_option maxHeartbeats 1000000 in
theorem i_copiedPc {w : World} {B n c : Nat} {A : Option Addr} {g : List DPiece} (hg : tPiece.row.R w B [.slice A n c] g) (hB : B ≤ w.heap.size) (hn : n ≤ 1048576) :
    Calls Try.prog 61 #[.slice A n c] w fun e w' => ∃ v, e = .returned v ∧ GrowR tPiece 24 w' w.heap.size B v g ∧ Below w.heap.size w w' := by
  obtain ⟨i1, hj0, hj1, hj2, hj3⟩ := info_parts info_Piece
  have tz : (Value.agg #[Value.int .i64 0, Value.int .i64 0, Value.int .i64 0, Value.slice none 0 0]).cells.size = 4 := by first | rfl | (simp [Value.cells]; done)
  go_enter Try.func61, Try.ntmps61
  go_wp2_with (at_builtin; refine GrowR.pushRow (t := tPiece) (e := 24) (base := w.heap.size) (B := B) (by rfl) _ (.tmp 3) _ (by rfl) i1 _ 4 48 Try.underlying47 hj0 hj1 hj2 hj3 tz (by omega) rfl (by rfl) GrowR.nil (by rfl) hg one_cells_Piece hB (Nat.le_refl _) (by simp only [maxLen, List.length_nil]; omega) (by simp only [List.length_nil]; omega) ?_; intro v2 w2 hG2 hgr2)
  go_ret
  exact ⟨_, rfl, by simpa using hG2, Below.grown (Below.refl _ _) hgr2 (Nat.le_refl _) (fun b hb => by simp [Value.ownBlock] at hb)⟩
abbrev PcE := Int × Int × Int × Option Addr × Nat × Nat
def encP (x : PcE) : List Value := [.int .i64 x.1, .int .i64 x.2.1, .int .i64 x.2.2.1, .slice x.2.2.2.1 x.2.2.2.2.1 x.2.2.2.2.2]
def cfP (x y : PcE) : Int := Lib.compareInt x.2.1 y.2.1
section SortOpen
open Go.Sort Go.Shelf Go.Lib
theorem cmpLt (a b : Int) : decide (Lib.compareInt a b < 0) = decide (a < b) := by
  unfold Lib.compareInt
  by_cases h : a < b
  · rw [if_pos h, decide_eq_true h]; rfl
  · rw [if_neg h, decide_eq_false h]
    split <;> rfl
theorem ltP (x y : PcE) : ltOf cfP x y = decide (x.2.1 < y.2.1) := cmpLt _ _
theorem swoP : SWO (ltOf cfP) := ⟨fun x => by rw [ltP]; simp, fun x y z h1 h2 => by rw [ltP] at *; simp at *; omega, fun x y z h1 h2 => by rw [ltP] at *; simp at *; omega⟩
set_option maxHeartbeats 1000000 in
theorem i_with1 (x y : PcE) (W : World) : Calls Try.prog 63 #[.agg (encP x).toArray, .agg (encP y).toArray] W fun e w' => e = .returned (.int .i64 (cfP x y)) ∧ ∃ q os', w' = grow (W.drewN q) os' := by
  obtain ⟨x0, x1, x2, xA, xn, xc⟩ := x
  obtain ⟨y0, y1, y2, yA, yn, yc⟩ := y
  show Calls Try.prog 63 #[.agg #[.int .i64 x0, .int .i64 x1, .int .i64 x2, .slice xA xn xc], .agg #[.int .i64 y0, .int .i64 y1, .int .i64 y2, .slice yA yn yc]] W fun e w' => e = .returned (.int .i64 (Lib.compareInt x1 y1)) ∧ ∃ q os', w' = grow (W.drewN q) os'
  have hcon := fun W' => Try.cmp_Compare_int x1 y1 W'
  change ∀ W', Calls Try.prog 64 _ _ _ at hcon
  generalize Lib.compareInt x1 y1 = r at hcon ⊢
  go_enter Try.func63, Try.ntmps63
  go_wp2_with (go_at_call 64; refine (hcon _).mono ?_; rintro e w' ⟨rfl, rfl⟩)
  go_ret
  exact ⟨rfl, 0, _, by rw [alloc_eq_grow, alloc_eq_grow, grow_grow]; rfl⟩
end SortOpen
section SortOpen
open Go.Sort Go.Shelf Go.Lib
theorem dec_Piece {w : World} {B : Nat} : ∀ es a, tPiece.R w B es a → ∃ x : PcE, encP x = es := fun es a h => by
  obtain ⟨A3, n3, c3, rfl, -⟩ := openPiece h
  exact ⟨(a.1, a.2.1, a.2.2.1, A3, n3, c3), rfl⟩
theorem at_Piece {w : World} {B : Nat} {x : PcE} {a : DPiece} (h : tPiece.R w B (encP x) a) : x.2.1 = a.2.1 := by
  obtain ⟨A3, n3, c3, e, -⟩ := openPiece h
  unfold encP at e
  injection e with _ e
  injection e with e _
  injection e
theorem i_hlen (n : Nat) (W : World) (h : n ≤ 12) : Calls Try.prog 66 #[.int .u64 n] W fun e w' => (∃ l : Int, e = .returned (.int .i64 l)) ∧ w' = W :=
  (Try.bits_Len n W (by omega) (by omega)).mono fun _ _ ⟨he, hw⟩ => ⟨⟨_, he⟩, hw⟩
/-- A row of pieces, each with a place of its own, sorted by them. -/
theorem i_SortPc {w : World} {base B : Nat} {v : Value} {l s : List DPiece} (h : GrowR tPiece 24 w base B v l) (hl : 0 < l.length) (hl2 : l.length ≤ 12) (hB : B ≤ base) (hs : s.Pairwise (fun a b => pAt a < pAt b)) (hp : l.Perm s) :
    Calls Try.prog 62 #[v, .func (.func 63) #[] #[]] w fun e w' => e = .returned (.tuple #[]) ∧ GrowR tPiece 24 w' base B v s ∧ w.grownBy w' v.ownBlock := by
  obtain ⟨g, cap, d, rfl, hd, hgb, hgl, hH, hR, hdone⟩ := h.sort (enc := encP) hl hB (fun _ => rfl) (by decide) dec_Piece
  have hc : CmpLays Try.prog 63 #[] encP 4 cfP g 0 d.size w := fun _ _ _ _ x y => i_with1 x y _
  have hcon := AnyQ.slices_SortFunc_small_sorted Try.sortPc 4 (fun w => Try.isAgg24 w) (fun w => Try.sizeOf24 w) encP (fun _ => rfl) (fun x v hv => by unfold encP at hv; simp only [List.mem_cons, List.not_mem_nil, or_false] at hv; rcases hv with rfl | rfl | rfl | rfl <;> rfl) cfP 63 #[] swoP g 0 cap d w (enters_of Try.func63 (by kernel_rfl) rfl) hc hH hgl (by omega) i_hlen
  refine hcon.mono ?_
  rintro e w' ⟨he, d', n, os, hperm, hsort, rfl⟩
  refine ⟨he, ?_⟩
  have hsz : d'.size = d.size := hperm.1
  have hP : d'.toList.Perm d.toList := by
    have h3 := hperm.2.2
    rw [show d.extract 0 d.size = d by simp, show d'.extract 0 d.size = d' by rw [← hsz]; simp] at h3
    exact h3
  obtain ⟨hgr, l', hl', hG, hRl⟩ := hdone d' n os hP
  have hll : l'.length = l.length := hl'.length_eq
  have : l' = s := by
    refine asc_permS (f := pAt) hs ?_ (hl'.trans hp)
    rw [List.pairwise_iff_getElem]
    intro i j hi hj hij
    have hi' : i < d'.size := by omega
    have hj' : j < d'.size := by omega
    have e1 := at_Piece (hRl i _ d'[i] (List.getElem?_eq_getElem hi) (by rw [Array.getElem?_toList]; exact Array.getElem?_eq_getElem hi'))
    have e2 := at_Piece (hRl j _ d'[j] (List.getElem?_eq_getElem hj) (by rw [Array.getElem?_toList]; exact Array.getElem?_eq_getElem hj'))
    have h4 := hsort i j (Nat.zero_le _) hij (by omega)
    rw [ltP, getElem!_pos d' j hj', getElem!_pos d' i hi', e1, e2] at h4
    have := of_decide_eq_false h4
    unfold pAt
    omega
  subst this
  exact ⟨hG, hgr⟩
end SortOpen
end Go.Proofs.Ytaabmaoldhoinaa
namespace Go.Proofs.Ytaabmaoldhoinaa
set_option linter.unusedVariables false
open Go.RowKit
/-- Two worlds are alike in the blocks from K on, up to B. -/
def Alike (K B : Nat) (w w' : World) : Prop := ∀ b, K ≤ b → b < B → w'.heap[b]? = w.heap[b]?
theorem Alike.below {K B : Nat} {w w' : World} (h : Below B w w') : Alike K B w w' := fun b _ hb => h.block b hb
theorem Alike.grown {K B g : Nat} {w w' : World} (h : w.grownBy w' (some g)) (hg : g < K) (hB : B ≤ w.heap.size) : Alike K B w w' := fun b h1 h2 => h.block b (by omega) (fun e => by injection e with e; omega)
theorem Alike.put {K B : Nat} (w : World) {p : Addr} (hp : p.block < K) (u : Value) : Alike K B w (w.setCell p u) := fun b h1 _ => Below.heap_setCell w p u b (by omega)
section
variable {α : Type} {t : Ty α} {w w' : World} {K K' B B' : Nat} {cs : List Value} {a : α}
def XT (K : Nat) (t : Ty α) : Ty α where
  k := t.k
  R := fun w B cs a => ∀ w', Alike K B w w' → t.R w' B cs a
  O := fun _ _ _ _ => False
  lenR := fun h => t.lenR (h _ (fun _ _ _ => rfl))
  lenO := fun h => h.elim
  keep := fun h hk w' ha => h w' (fun b h1 h2 => (ha b h1 h2).trans (hk b h2))
  up := fun h hB w' ha => t.up (h w' (fun b h1 h2 => ha b h1 (Nat.lt_of_lt_of_le h2 hB))) hB
  kept := fun h => h.elim
  lt := fun h => h.elim
  read := fun h => h.elim
theorem xt_R (h : (XT K t).R w B cs a) : t.R w B cs a := h w (fun _ _ _ => rfl)
theorem xt_keep (h : (XT K t).R w B cs a) (ha : Alike K B w w') : (XT K t).R w' B cs a := fun w2 h2 => h w2 (fun b h1 h3 => (h2 b h1 h3).trans (ha b h1 h3))
theorem xt_at (h : (XT K t).R w w.heap.size cs a) (ha : Alike K w.heap.size w w') (hs : w.heap.size ≤ w'.heap.size) : (XT K t).R w' w'.heap.size cs a := (XT K t).up (xt_keep h ha) hs
/-- A row that hangs on no block below K, nor do its elements. -/
def RowX (K : Nat) (t : Ty α) (w : World) (v : Value) (l : List α) : Prop := (XT K t).row.R w w.heap.size [v] l ∧ (0 < l.length → ∀ b, v.ownBlock = some b → K ≤ b)
theorem RowX.nil (K : Nat) (t : Ty α) (w : World) : RowX K t w (.slice none 0 0) [] := ⟨⟨none, 0, 0, rfl, Nat.le_refl _, by omega, rfl, fun h => absurd h (by omega)⟩, fun h => absurd h (by simp)⟩
theorem RowX.below {v : Value} {l : List α} (h : RowX K t w v l) (hB : Below w.heap.size w w') : RowX K t w' v l := ⟨(XT K t).row.reach h.1 hB, h.2⟩
theorem RowX.at {v : Value} {l : List α} (h : RowX K t w v l) (ha : Alike K w.heap.size w w') (hs : w.heap.size ≤ w'.heap.size) : RowX K t w' v l := by
  obtain ⟨⟨A, n, c, e, h1, h2, h3, h4⟩, h5⟩ := h
  refine ⟨⟨A, n, c, e, h1, h2, h3, fun h0 => ?_⟩, h5⟩
  obtain ⟨b, off, rfl, hb, hc⟩ := h4 h0
  injection e with e _
  have hne : K ≤ b := h5 (by omega) b (by rw [e]; rfl)
  refine ⟨b, off, rfl, Nat.lt_of_lt_of_le hb hs, fun i a' ha' => ?_⟩
  obtain ⟨es, k1, k2⟩ := hc i a' ha'
  refine ⟨es, fun j hj => ?_, xt_at k2 ha hs⟩
  rw [← k1 j hj]
  exact World.cell?_of_block (ha b hne hb)
theorem RowX.plain {v : Value} {l : List α} (h : RowX K t w v l) : t.row.R w w.heap.size [v] l := by
  obtain ⟨⟨A, n, c, e, h1, h2, h3, h4⟩, -⟩ := h
  refine ⟨A, n, c, e, h1, h2, h3, fun h0 => ?_⟩
  obtain ⟨b, off, e1, hb, hc⟩ := h4 h0
  refine ⟨b, off, e1, hb, fun i a' ha => ?_⟩
  obtain ⟨es, k1, k2⟩ := hc i a' ha
  exact ⟨es, k1, xt_R k2⟩
end
end Go.Proofs.Ytaabmaoldhoinaa
namespace Go.Proofs.Ytaabmaoldhoinaa
set_option linter.unusedVariables false
open Go.RowKit
/-- t's readings hang on no block below K. -/
def Firm {α : Type} (K : Nat) (t : Ty α) : Prop := ∀ (w w' : World) (B : Nat) (cs : List Value) (a : α), t.R w B cs a → Alike K B w w' → t.R w' B cs a
section
variable {α β : Type} {s : Ty β} {t : Ty α} {w w' : World} {K B base : Nat} {cs : List Value} {a : α} {v : Value} {l : List α} {e : TypeId}
theorem Firm.at (h : Firm K t) (hR : t.R w w.heap.size cs a) (ha : Alike K w.heap.size w w') (hs : w.heap.size ≤ w'.heap.size) : t.R w' w'.heap.size cs a := t.up (h _ _ _ _ _ hR ha) hs
end
/-! ### what has been read once -/
section
variable {α : Type} {s t : Ty α} {w w' : World} {K B base : Nat} {cs : List Value} {a : α} {v : Value} {l : List α} {e : TypeId}
theorem GrowR.lower {base' : Nat} (h : GrowR t e w base B v l) (hb : base' ≤ base) : GrowR t e w base' B v l := by
  obtain ⟨css, k1, k2, k3⟩ := h
  exact ⟨css, ⟨k1.1, k1.2.imp id (fun ⟨g, cap, cur, e1, hg, r⟩ => ⟨g, cap, cur, e1, Nat.le_trans hb hg, r⟩)⟩, k2, k3⟩
end
/-! ### pieces, messages, desks -/
section
variable {w : World} {K B : Nat} {cs : List Value}
end
end Go.Proofs.Ytaabmaoldhoinaa
namespace Go.Proofs.Ytaabmaoldhoinaa
set_option maxRecDepth 100000
set_option linter.unusedVariables false
set_option linter.unusedSimpArgs false
open Go.ChangeShapes Go.WideShapes Go.ChangeAt Go.RowKit
open Fld
set_option maxHeartbeats 1600000 in
theorem i_with {w : World} {B0 n c n7 c7 : Nat} {A A7 : Option Addr} {x0 x1 x2 y0 y1 y2 : Int} {g : List DPiece} {qd : List Int} (hB0 : B0 ≤ w.heap.size) (hg : tPiece.row.R w B0 [.slice A n c] g) (hn : n ≤ 8) (hq : tPiece.R w B0 [.int .i64 y0, .int .i64 y1, .int .i64 y2, .slice A7 n7 c7] (y0, y1, y2, qd)) (hasc : Asc (g.map pAt)) (hne : ∀ p ∈ g, pAt p ≠ y1) :
    Calls Try.prog 37 #[.agg #[.int .i64 x0, .int .i64 x1, .int .i64 x2, .slice A n c], .agg #[.int .i64 y0, .int .i64 y1, .int .i64 y2, .slice A7 n7 c7]] w fun e w' => ∃ A' m' c', e = .returned (.agg #[.int .i64 x0, .int .i64 x1, .int .i64 x2, .slice A' m' c']) ∧ m' = (insB pAt (y0, y1, y2, qd) g).length ∧ GrowR tPiece 24 w' w.heap.size B0 (.slice A' m' c') (insB pAt (y0, y1, y2, qd) g) ∧ Below w.heap.size w w' := by
  obtain ⟨i1, hj0, hj1, hj2, hj3⟩ := info_parts info_Piece
  have E0 := Lib.hid (show g.length ≤ 8 by have := (rowR_len hg).1; omega)
  have tz : (Value.agg #[Value.int .i64 0, Value.int .i64 0, Value.int .i64 0, Value.slice none 0 0]).cells.size = 4 := by first | rfl | (simp [Value.cells]; done)
  have HPW := Lib.hid (insB_pw (f := pAt) (q := (y0, y1, y2, qd)) (asc_pairM (f := pAt) hasc))
  have HPM := Lib.hid (insB_perm (f := pAt) (q := (y0, y1, y2, qd)) hne).symm
  clear hasc hne
  have P0 : Box (((w.alloc (.cells #[.int .i64 x0, .int .i64 x1, .int .i64 x2, .slice A n c] 65)).alloc (.cells #[.int .i64 y0, .int .i64 y1, .int .i64 y2, .slice A7 n7 c7] 24)).alloc (.cells #[.int .i64 0, .int .i64 0, .int .i64 0, .slice none 0 0] 65)) w.heap.size 65 #[.int .i64 x0, .int .i64 x1, .int .i64 x2, .slice A n c] := ((Box.new w _ _).alloc _).alloc _
  have P1 : Box (((w.alloc (.cells #[.int .i64 x0, .int .i64 x1, .int .i64 x2, .slice A n c] 65)).alloc (.cells #[.int .i64 y0, .int .i64 y1, .int .i64 y2, .slice A7 n7 c7] 24)).alloc (.cells #[.int .i64 0, .int .i64 0, .int .i64 0, .slice none 0 0] 65)) (w.heap.size + 1) 24 #[.int .i64 y0, .int .i64 y1, .int .i64 y2, .slice A7 n7 c7] := Box.alloc (by simpa using Box.new (w.alloc (.cells #[.int .i64 x0, .int .i64 x1, .int .i64 x2, .slice A n c] 65)) 24 #[.int .i64 y0, .int .i64 y1, .int .i64 y2, .slice A7 n7 c7]) _
  have P2 : Box (((w.alloc (.cells #[.int .i64 x0, .int .i64 x1, .int .i64 x2, .slice A n c] 65)).alloc (.cells #[.int .i64 y0, .int .i64 y1, .int .i64 y2, .slice A7 n7 c7] 24)).alloc (.cells #[.int .i64 0, .int .i64 0, .int .i64 0, .slice none 0 0] 65)) (w.heap.size + 1 + 1) 65 #[.int .i64 0, .int .i64 0, .int .i64 0, .slice none 0 0] := by simpa using Box.new ((w.alloc (.cells #[.int .i64 x0, .int .i64 x1, .int .i64 x2, .slice A n c] 65)).alloc (.cells #[.int .i64 y0, .int .i64 y1, .int .i64 y2, .slice A7 n7 c7] 24)) 65 #[.int .i64 0, .int .i64 0, .int .i64 0, .slice none 0 0]
  have P0b := P0.alloc (.cells [.int .i64 y0, .int .i64 y1, .int .i64 y2, .slice A7 n7 c7].toArray 24)
  have P1b := P1.alloc (.cells [.int .i64 y0, .int .i64 y1, .int .i64 y2, .slice A7 n7 c7].toArray 24)
  have P2b := P2.alloc (.cells [.int .i64 y0, .int .i64 y1, .int .i64 y2, .slice A7 n7 c7].toArray 24)
  have PBb : Box ((((w.alloc (.cells #[.int .i64 x0, .int .i64 x1, .int .i64 x2, .slice A n c] 65)).alloc (.cells #[.int .i64 y0, .int .i64 y1, .int .i64 y2, .slice A7 n7 c7] 24)).alloc (.cells #[.int .i64 0, .int .i64 0, .int .i64 0, .slice none 0 0] 65)).alloc (.cells [.int .i64 y0, .int .i64 y1, .int .i64 y2, .slice A7 n7 c7].toArray 24)) (w.heap.size + 3) 24 [.int .i64 y0, .int .i64 y1, .int .i64 y2, .slice A7 n7 c7].toArray := by simpa using Box.new (((w.alloc (.cells #[.int .i64 x0, .int .i64 x1, .int .i64 x2, .slice A n c] 65)).alloc (.cells #[.int .i64 y0, .int .i64 y1, .int .i64 y2, .slice A7 n7 c7] 24)).alloc (.cells #[.int .i64 0, .int .i64 0, .int .i64 0, .slice none 0 0] 65)) 24 [.int .i64 y0, .int .i64 y1, .int .i64 y2, .slice A7 n7 c7].toArray
  have k3 := P0.cell 3
  have k3b := P0b.cell 3
  go_enter Try.func37, Try.ntmps37
  go_wp2_with fail
  refine wp_region_held_drew (S := (fun w' => w'.cell? ⟨w.heap.size + 1, 0, none⟩ = some (.int .i64 y0) ∧ w'.cell? ⟨w.heap.size + 1, 1, none⟩ = some (.int .i64 y1) ∧ w'.cell? ⟨w.heap.size + 1, 2, none⟩ = some (.int .i64 y2) ∧ w'.cell? ⟨w.heap.size + 1, 3, none⟩ = some (.slice A7 n7 c7))) (by kernel_rfl) (by exact ⟨(P1).cell 0, (P1).cell 1, (P1).cell 2, (P1).cell 3⟩) (fun hHeld => ?_)
  refine wpAnyH_take (i := 0) (oi := ⟨some 5, _, _, _, _, _⟩) (v := ?v1) rfl (by kernel_rfl) (by kernel_rfl) (by kernel_rfl) (fun _ _ _ h => h) (Or.inl ⟨by rfl, ?hy1⟩) (by assumption) ?_
  case hy1 => (intro w hSw; (try dsimp only at hSw); go_simp; try (with_reducible rfl))
  (try simp only [Act.put, qa_, qb_, qc_])
  refine wpAnyH_take (i := 3) (oi := ⟨some 8, _, _, _, _, _⟩) (v := ?v2) rfl (by kernel_rfl) (by kernel_rfl) (by kernel_rfl) (fun _ _ _ h => h) (Or.inl ⟨by rfl, ?hy2⟩) (by assumption) ?_
  case hy2 => (intro w hSw; (try dsimp only at hSw); go_simp; try (with_reducible rfl))
  (try simp only [Act.put, qa_, qb_, qc_])
  refine wpAnyH_ready (rs := [1, 4]) (by kernel_rfl) (by simp) ?_
  refine AllReadyH.cons rfl (fun K hK => ?_) ?_
  · go_simp
    refine hK.out _ _ (by exact ⟨(P1).cell 0, (P1).cell 1, (P1).cell 2, (P1).cell 3⟩) (fun hHeld => ?_)
    clear hK K
    (try simp only [Act.put, qa_, qb_, qc_])
    refine wpAnyH_ready (rs := [2, 4]) (by kernel_rfl) (by simp) ?_
    refine AllReadyH.cons rfl (fun K hK => ?_) ?_
    · go_simp
      go_at_call 61
      refine (i_copiedPc (w := (((w.alloc (.cells #[.int .i64 x0, .int .i64 x1, .int .i64 x2, .slice A n c] 65)).alloc (.cells #[.int .i64 y0, .int .i64 y1, .int .i64 y2, .slice A7 n7 c7] 24)).alloc (.cells #[.int .i64 0, .int .i64 0, .int .i64 0, .slice none 0 0] 65)).drew) (B := B0) (tPiece.row.keep hg (fun b hb => (show Below w.heap.size w ((((w.alloc (.cells #[.int .i64 x0, .int .i64 x1, .int .i64 x2, .slice A n c] 65)).alloc (.cells #[.int .i64 y0, .int .i64 y1, .int .i64 y2, .slice A7 n7 c7] 24)).alloc (.cells #[.int .i64 0, .int .i64 0, .int .i64 0, .slice none 0 0] 65)).drew) from (belx)).block b (by omega))) (by show _ ≤ (((w.alloc (.cells #[.int .i64 x0, .int .i64 x1, .int .i64 x2, .slice A n c] 65)).alloc (.cells #[.int .i64 y0, .int .i64 y1, .int .i64 y2, .slice A7 n7 c7] 24)).alloc (.cells #[.int .i64 0, .int .i64 0, .int .i64 0, .slice none 0 0] 65)).heap.size; simp; omega) (by omega)).mono ?_
      rintro e w3 ⟨v3, rfl, hG3, hb3⟩
      obtain ⟨A3, n3, c3, rfl, hn3⟩ := hG3.shapeN
      have HN3 := Lib.hid hn3
      clear hn3
      have hs3 : Below w.heap.size w w3 := bel_trans (show Below w.heap.size w (((w.alloc (.cells #[.int .i64 x0, .int .i64 x1, .int .i64 x2, .slice A n c] 65)).alloc (.cells #[.int .i64 y0, .int .i64 y1, .int .i64 y2, .slice A7 n7 c7] 24)).alloc (.cells #[.int .i64 0, .int .i64 0, .int .i64 0, .slice none 0 0] 65)) from (belx)) (bel_trans (bel_drew (Below.refl _ _)) hb3)
      have z3 : w.heap.size + 3 ≤ w3.heap.size := by have h : (((w.alloc (.cells #[.int .i64 x0, .int .i64 x1, .int .i64 x2, .slice A n c] 65)).alloc (.cells #[.int .i64 y0, .int .i64 y1, .int .i64 y2, .slice A7 n7 c7] 24)).alloc (.cells #[.int .i64 0, .int .i64 0, .int .i64 0, .slice none 0 0] 65)).heap.size ≤ w3.heap.size := hb3.size; simpa using h
      have hG3 : GrowR tPiece 24 w3 (w.heap.size + 3) B0 (.slice A3 n3 c3) g := hG3.lower (by show _ ≤ (((w.alloc (.cells #[.int .i64 x0, .int .i64 x1, .int .i64 x2, .slice A n c] 65)).alloc (.cells #[.int .i64 y0, .int .i64 y1, .int .i64 y2, .slice A7 n7 c7] 24)).alloc (.cells #[.int .i64 0, .int .i64 0, .int .i64 0, .slice none 0 0] 65)).heap.size; simp)
      have F0 := Box.below (Box.drew P0) hb3 (Box.drew P0).size
      have F1 := Box.below (Box.drew P1) hb3 (Box.drew P1).size
      have F2 := Box.below (Box.drew P2) hb3 (Box.drew P2).size
      have f30 := F0.cell 3
      go_wp2_with fail
      refine hK.out _ _ (by exact ⟨(F1).cell 0, (F1).cell 1, (F1).cell 2, (F1).cell 3⟩) (fun hHeld => ?_)
      clear hK K
      (try simp only [Act.put, qa_, qb_, qc_])
      refine wpAnyH_ready (rs := [4]) (by kernel_rfl) (by simp) ?_
      refine AllReadyH.cons rfl (fun K hK => ?_) ?_
      · go_simp
        refine hK.out _ _ (by exact ⟨(F1.alloc _).cell 0, (F1.alloc _).cell 1, (F1.alloc _).cell 2, (F1.alloc _).cell 3⟩) (fun hHeld => ?_)
        clear hK K
        (try simp only [Act.put, qa_, qb_, qc_])
        refine wpAnyH_ready (rs := [5]) (by kernel_rfl) (by simp) ?_
        refine AllReadyH.cons rfl (fun K hK => ?_) ?_
        · refine GrowR.step (t := tPiece) (e := 24) (w := (w3.alloc (.cells [.int .i64 y0, .int .i64 y1, .int .i64 y2, .slice A7 n7 c7].toArray 24))) (base := w.heap.size + 3) (B := B0) (by rfl) (.tmp 7) (.tmp 9) _ (by rfl) i1 _ 4 48 Try.underlying47 hj0 hj1 hj2 hj3 tz (by omega) rfl (by rfl) (hG3.below (belx) (by omega)) w3.heap.size [.int .i64 y0, .int .i64 y1, .int .i64 y2, .slice A7 n7 c7] (y0, y1, y2, qd) (by rfl) (Box.new w3 24 _) (tPiece.keep hq (fun b hb => (bel_alloc hs3 _).block b (by omega))) (by intro u hu; simp only [List.mem_cons, List.not_mem_nil, or_false] at hu; rcases hu with rfl | rfl | rfl | rfl <;> rfl) (by omega) (by first | omega | (simp; omega)) (by have := E0.out; simp only [maxLen]; omega) (by have := E0.out; omega) ?_
          intro v4 w4 hG4 hgr4
          obtain ⟨A4, n4, c4, rfl, hn4⟩ := hG4.shapeN
          have HN4 := Lib.hid hn4
          clear hn4
          have hOwn := hG3.own
          have hs4 : Below w.heap.size w w4 := Below.grown (w := (w3.alloc (.cells [.int .i64 y0, .int .i64 y1, .int .i64 y2, .slice A7 n7 c7].toArray 24))) (bel_alloc hs3 _) hgr4 (by first | omega | (simp; omega)) (fun b hb => by have := (hOwn b hb).1; omega)
          have G0 := Box.grown (w := (w3.alloc (.cells [.int .i64 y0, .int .i64 y1, .int .i64 y2, .slice A7 n7 c7].toArray 24))) (F0.alloc _) hgr4 (fun e => by have := (hOwn _ e.symm).1; omega)
          have G1 := Box.grown (w := (w3.alloc (.cells [.int .i64 y0, .int .i64 y1, .int .i64 y2, .slice A7 n7 c7].toArray 24))) (F1.alloc _) hgr4 (fun e => by have := (hOwn _ e.symm).1; omega)
          have G2 := Box.grown (w := (w3.alloc (.cells [.int .i64 y0, .int .i64 y1, .int .i64 y2, .slice A7 n7 c7].toArray 24))) (F2.alloc _) hgr4 (fun e => by have := (hOwn _ e.symm).1; omega)
          have z4 : w.heap.size + 3 ≤ w4.heap.size := G2.size
          have g03 := G0.cell 3; have g0f := G0.frozen 3
          have H0 := G0.put 3 (.slice A4 n4 c4)
          have H1 := G1.far (p := ⟨w.heap.size, 3, none⟩) (by show ¬ w.heap.size + 1 = w.heap.size; omega) (.slice A4 n4 c4)
          have H2 := G2.far (p := ⟨w.heap.size, 3, none⟩) (by show ¬ w.heap.size + 1 + 1 = w.heap.size; omega) (.slice A4 n4 c4)
          have h03 := H0.cell 3
          refine hK.out _ _ (by exact ⟨(G1).cell 0, (G1).cell 1, (G1).cell 2, (G1).cell 3⟩) (fun hHeld => ?_)
          clear hK K
          (try simp only [Act.put, qa_, qb_, qc_])
          refine wpAnyH_take (i := 6) (oi := ⟨some 11, _, _, _, _, _⟩) (v := ?v3) rfl (by kernel_rfl) (by kernel_rfl) (by kernel_rfl) (fun _ _ _ h => h) (Or.inl ⟨by rfl, ?hy3⟩) (by assumption) ?_
          case hy3 => (intro w hSw; (try dsimp only at hSw); go_simp; try (with_reducible rfl))
          (try simp only [Act.put, qa_, qb_, qc_])
          refine wpAnyH_ready (rs := [7]) (by kernel_rfl) (by simp) ?_
          refine AllReadyH.cons rfl (fun K hK => ?_) ?_
          · go_simp
            refine hK.out _ _ (by exact ⟨(H1).cell 0, (H1).cell 1, (H1).cell 2, (H1).cell 3⟩) (fun hHeld => ?_)
            clear hK K
            (try simp only [Act.put, qa_, qb_, qc_])
            refine wpAnyH_done (by kernel_rfl) ?_ _
            go_wp2_with fail
            have hG5 := hG4.put (p := ⟨w.heap.size, 3, none⟩) (by show w.heap.size < _; omega) hB0 (.slice A4 n4 c4)
            have hB5 := bel_put hs4 (p := ⟨w.heap.size, 3, none⟩) (Nat.le_refl _) (.slice A4 n4 c4)
            refine (i_SortPc hG5 (by simp) (by rw [List.length_append, List.length_singleton]; have := E0.out; omega) (by omega) HPW.out HPM.out).mono ?_
            rintro e w6 ⟨rfl, hG6, hgr6⟩
            have hOwn6 := hG5.own
            obtain ⟨A6_, n6_, c6_, e6_, hn6⟩ := hG6.shapeN
            have HN6 := Lib.hid (show n4 = (insB pAt (y0, y1, y2, qd) g).length by injection e6_ with _ e2 _; rw [e2]; exact hn6)
            clear hn6 e6_
            have K0 := Box.grown H0 hgr6 (fun e => by have := (hOwn6 _ e.symm).1; omega)
            have K2 := Box.grown H2 hgr6 (fun e => by have := (hOwn6 _ e.symm).1; omega)
            have hB6 : Below w.heap.size w w6 := Below.grown hB5 hgr6 (by simp [World.setCell]; omega) (fun b hb => by have := (hOwn6 b hb).1; omega)
            have k0 := K0.cell 0; have k1 := K0.cell 1; have k2 := K0.cell 2; have k3 := K0.cell 3; have r0 := K2.cell 0; have r1 := K2.cell 1; have r2 := K2.cell 2; have r3 := K2.cell 3; have rf0 := K2.frozen 0; have rf1 := K2.frozen 1; have rf2 := K2.frozen 2; have rf3 := K2.frozen 3
            go_wp2
            have RR := (((K2.put 0 (.int .i64 x0)).put 1 (.int .i64 x1)).put 2 (.int .i64 x2)).put 3 (.slice A4 n4 c4)
            have s0 := RR.cell 0; have s1 := RR.cell 1; have s2 := RR.cell 2; have s3 := RR.cell 3
            have GX := ((((hG6.put (p := ⟨w.heap.size + 1 + 1, 0, none⟩) (by show w.heap.size + 1 + 1 < _; omega) (by show _ ≤ w.heap.size + 1 + 1; omega) (.int .i64 x0)).put (p := ⟨w.heap.size + 1 + 1, 1, none⟩) (by show w.heap.size + 1 + 1 < _; omega) (by show _ ≤ w.heap.size + 1 + 1; omega) (.int .i64 x1)).put (p := ⟨w.heap.size + 1 + 1, 2, none⟩) (by show w.heap.size + 1 + 1 < _; omega) (by show _ ≤ w.heap.size + 1 + 1; omega) (.int .i64 x2)).put (p := ⟨w.heap.size + 1 + 1, 3, none⟩) (by show w.heap.size + 1 + 1 < _; omega) (by show _ ≤ w.heap.size + 1 + 1; omega) (.slice A4 n4 c4))
            have BX := (bel_put (bel_put (bel_put (bel_put hB6 (p := ⟨w.heap.size + 1 + 1, 0, none⟩) (by show _ ≤ w.heap.size + 1 + 1; omega) (.int .i64 x0)) (p := ⟨w.heap.size + 1 + 1, 1, none⟩) (by show _ ≤ w.heap.size + 1 + 1; omega) (.int .i64 x1)) (p := ⟨w.heap.size + 1 + 1, 2, none⟩) (by show _ ≤ w.heap.size + 1 + 1; omega) (.int .i64 x2)) (p := ⟨w.heap.size + 1 + 1, 3, none⟩) (by show _ ≤ w.heap.size + 1 + 1; omega) (.slice A4 n4 c4))
            refine bodyPost_ret (v := .agg #[.int .i64 x0, .int .i64 x1, .int .i64 x2, .slice A4 n4 c4]) (by simp [results, Try.results37, go_sem, s0, s1, s2, s3]) rfl ⟨A4, n4, c4, rfl, HN6.out, GX.lower (by omega), BX⟩
          exact AllReadyH.nil
        exact AllReadyH.nil
      exact AllReadyH.nil
    refine AllReadyH.cons rfl (fun K hK => ?_) ?_
    · go_simp
      refine hK.out _ _ (by exact ⟨(P1b).cell 0, (P1b).cell 1, (P1b).cell 2, (P1b).cell 3⟩) (fun hHeld => ?_)
      clear hK K
      (try simp only [Act.put, qa_, qb_, qc_])
      refine wpAnyH_ready (rs := [2]) (by kernel_rfl) (by simp) ?_
      refine AllReadyH.cons rfl (fun K hK => ?_) ?_
      · go_simp
        go_at_call 61
        refine (i_copiedPc (w := ((((w.alloc (.cells #[.int .i64 x0, .int .i64 x1, .int .i64 x2, .slice A n c] 65)).alloc (.cells #[.int .i64 y0, .int .i64 y1, .int .i64 y2, .slice A7 n7 c7] 24)).alloc (.cells #[.int .i64 0, .int .i64 0, .int .i64 0, .slice none 0 0] 65)).alloc (.cells [.int .i64 y0, .int .i64 y1, .int .i64 y2, .slice A7 n7 c7].toArray 24)).drew) (B := B0) (tPiece.row.keep hg (fun b hb => (show Below w.heap.size w (((((w.alloc (.cells #[.int .i64 x0, .int .i64 x1, .int .i64 x2, .slice A n c] 65)).alloc (.cells #[.int .i64 y0, .int .i64 y1, .int .i64 y2, .slice A7 n7 c7] 24)).alloc (.cells #[.int .i64 0, .int .i64 0, .int .i64 0, .slice none 0 0] 65)).alloc (.cells [.int .i64 y0, .int .i64 y1, .int .i64 y2, .slice A7 n7 c7].toArray 24)).drew) from (belx)).block b (by omega))) (by show _ ≤ ((((w.alloc (.cells #[.int .i64 x0, .int .i64 x1, .int .i64 x2, .slice A n c] 65)).alloc (.cells #[.int .i64 y0, .int .i64 y1, .int .i64 y2, .slice A7 n7 c7] 24)).alloc (.cells #[.int .i64 0, .int .i64 0, .int .i64 0, .slice none 0 0] 65)).alloc (.cells [.int .i64 y0, .int .i64 y1, .int .i64 y2, .slice A7 n7 c7].toArray 24)).heap.size; simp; omega) (by omega)).mono ?_
        rintro e w3 ⟨v3, rfl, hG3, hb3⟩
        obtain ⟨A3, n3, c3, rfl, hn3⟩ := hG3.shapeN
        have HN3 := Lib.hid hn3
        clear hn3
        have hs3 : Below w.heap.size w w3 := bel_trans (show Below w.heap.size w ((((w.alloc (.cells #[.int .i64 x0, .int .i64 x1, .int .i64 x2, .slice A n c] 65)).alloc (.cells #[.int .i64 y0, .int .i64 y1, .int .i64 y2, .slice A7 n7 c7] 24)).alloc (.cells #[.int .i64 0, .int .i64 0, .int .i64 0, .slice none 0 0] 65)).alloc (.cells [.int .i64 y0, .int .i64 y1, .int .i64 y2, .slice A7 n7 c7].toArray 24)) from (belx)) (bel_trans (bel_drew (Below.refl _ _)) hb3)
        have z3 : w.heap.size + 4 ≤ w3.heap.size := by have h : ((((w.alloc (.cells #[.int .i64 x0, .int .i64 x1, .int .i64 x2, .slice A n c] 65)).alloc (.cells #[.int .i64 y0, .int .i64 y1, .int .i64 y2, .slice A7 n7 c7] 24)).alloc (.cells #[.int .i64 0, .int .i64 0, .int .i64 0, .slice none 0 0] 65)).alloc (.cells [.int .i64 y0, .int .i64 y1, .int .i64 y2, .slice A7 n7 c7].toArray 24)).heap.size ≤ w3.heap.size := hb3.size; simpa using h
        have hG3 : GrowR tPiece 24 w3 (w.heap.size + 3) B0 (.slice A3 n3 c3) g := hG3.lower (by show _ ≤ ((((w.alloc (.cells #[.int .i64 x0, .int .i64 x1, .int .i64 x2, .slice A n c] 65)).alloc (.cells #[.int .i64 y0, .int .i64 y1, .int .i64 y2, .slice A7 n7 c7] 24)).alloc (.cells #[.int .i64 0, .int .i64 0, .int .i64 0, .slice none 0 0] 65)).alloc (.cells [.int .i64 y0, .int .i64 y1, .int .i64 y2, .slice A7 n7 c7].toArray 24)).heap.size; simp)
        have F0 := Box.below (Box.drew P0b) hb3 (Box.drew P0b).size
        have F1 := Box.below (Box.drew P1b) hb3 (Box.drew P1b).size
        have F2 := Box.below (Box.drew P2b) hb3 (Box.drew P2b).size
        have FB := Box.below (Box.drew PBb) hb3 (Box.drew PBb).size
        have f30 := F0.cell 3
        go_wp2_with fail
        refine hK.out _ _ (by exact ⟨(F1).cell 0, (F1).cell 1, (F1).cell 2, (F1).cell 3⟩) (fun hHeld => ?_)
        clear hK K
        (try simp only [Act.put, qa_, qb_, qc_])
        refine wpAnyH_ready (rs := [5]) (by kernel_rfl) (by simp) ?_
        refine AllReadyH.cons rfl (fun K hK => ?_) ?_
        · refine GrowR.step (t := tPiece) (e := 24) (w := w3) (base := w.heap.size + 3) (B := B0) (by rfl) (.tmp 7) (.tmp 9) _ (by rfl) i1 _ 4 48 Try.underlying47 hj0 hj1 hj2 hj3 tz (by omega) rfl (by rfl) hG3 (w.heap.size + 3) [.int .i64 y0, .int .i64 y1, .int .i64 y2, .slice A7 n7 c7] (y0, y1, y2, qd) (by rfl) FB (tPiece.keep hq (fun b hb => hs3.block b (by omega))) (by intro u hu; simp only [List.mem_cons, List.not_mem_nil, or_false] at hu; rcases hu with rfl | rfl | rfl | rfl <;> rfl) (by omega) (by first | omega | (simp; omega)) (by have := E0.out; simp only [maxLen]; omega) (by have := E0.out; omega) ?_
          intro v4 w4 hG4 hgr4
          obtain ⟨A4, n4, c4, rfl, hn4⟩ := hG4.shapeN
          have HN4 := Lib.hid hn4
          clear hn4
          have hOwn := hG3.own
          have hs4 : Below w.heap.size w w4 := Below.grown (w := w3) hs3 hgr4 (by first | omega | (simp; omega)) (fun b hb => by have := (hOwn b hb).1; omega)
          have G0 := Box.grown (w := w3) F0 hgr4 (fun e => by have := (hOwn _ e.symm).1; omega)
          have G1 := Box.grown (w := w3) F1 hgr4 (fun e => by have := (hOwn _ e.symm).1; omega)
          have G2 := Box.grown (w := w3) F2 hgr4 (fun e => by have := (hOwn _ e.symm).1; omega)
          have z4 : w.heap.size + 3 ≤ w4.heap.size := G2.size
          have g03 := G0.cell 3; have g0f := G0.frozen 3
          have H0 := G0.put 3 (.slice A4 n4 c4)
          have H1 := G1.far (p := ⟨w.heap.size, 3, none⟩) (by show ¬ w.heap.size + 1 = w.heap.size; omega) (.slice A4 n4 c4)
          have H2 := G2.far (p := ⟨w.heap.size, 3, none⟩) (by show ¬ w.heap.size + 1 + 1 = w.heap.size; omega) (.slice A4 n4 c4)
          have h03 := H0.cell 3
          refine hK.out _ _ (by exact ⟨(G1).cell 0, (G1).cell 1, (G1).cell 2, (G1).cell 3⟩) (fun hHeld => ?_)
          clear hK K
          (try simp only [Act.put, qa_, qb_, qc_])
          refine wpAnyH_take (i := 6) (oi := ⟨some 11, _, _, _, _, _⟩) (v := ?v4) rfl (by kernel_rfl) (by kernel_rfl) (by kernel_rfl) (fun _ _ _ h => h) (Or.inl ⟨by rfl, ?hy4⟩) (by assumption) ?_
          case hy4 => (intro w hSw; (try dsimp only at hSw); go_simp; try (with_reducible rfl))
          (try simp only [Act.put, qa_, qb_, qc_])
          refine wpAnyH_ready (rs := [7]) (by kernel_rfl) (by simp) ?_
          refine AllReadyH.cons rfl (fun K hK => ?_) ?_
          · go_simp
            refine hK.out _ _ (by exact ⟨(H1).cell 0, (H1).cell 1, (H1).cell 2, (H1).cell 3⟩) (fun hHeld => ?_)
            clear hK K
            (try simp only [Act.put, qa_, qb_, qc_])
            refine wpAnyH_done (by kernel_rfl) ?_ _
            go_wp2_with fail
            have hG5 := hG4.put (p := ⟨w.heap.size, 3, none⟩) (by show w.heap.size < _; omega) hB0 (.slice A4 n4 c4)
            have hB5 := bel_put hs4 (p := ⟨w.heap.size, 3, none⟩) (Nat.le_refl _) (.slice A4 n4 c4)
            refine (i_SortPc hG5 (by simp) (by rw [List.length_append, List.length_singleton]; have := E0.out; omega) (by omega) HPW.out HPM.out).mono ?_
            rintro e w6 ⟨rfl, hG6, hgr6⟩
            have hOwn6 := hG5.own
            obtain ⟨A6_, n6_, c6_, e6_, hn6⟩ := hG6.shapeN
            have HN6 := Lib.hid (show n4 = (insB pAt (y0, y1, y2, qd) g).length by injection e6_ with _ e2 _; rw [e2]; exact hn6)
            clear hn6 e6_
            have K0 := Box.grown H0 hgr6 (fun e => by have := (hOwn6 _ e.symm).1; omega)
            have K2 := Box.grown H2 hgr6 (fun e => by have := (hOwn6 _ e.symm).1; omega)
            have hB6 : Below w.heap.size w w6 := Below.grown hB5 hgr6 (by simp [World.setCell]; omega) (fun b hb => by have := (hOwn6 b hb).1; omega)
            have k0 := K0.cell 0; have k1 := K0.cell 1; have k2 := K0.cell 2; have k3 := K0.cell 3; have r0 := K2.cell 0; have r1 := K2.cell 1; have r2 := K2.cell 2; have r3 := K2.cell 3; have rf0 := K2.frozen 0; have rf1 := K2.frozen 1; have rf2 := K2.frozen 2; have rf3 := K2.frozen 3
            go_wp2
            have RR := (((K2.put 0 (.int .i64 x0)).put 1 (.int .i64 x1)).put 2 (.int .i64 x2)).put 3 (.slice A4 n4 c4)
            have s0 := RR.cell 0; have s1 := RR.cell 1; have s2 := RR.cell 2; have s3 := RR.cell 3
            have GX := ((((hG6.put (p := ⟨w.heap.size + 1 + 1, 0, none⟩) (by show w.heap.size + 1 + 1 < _; omega) (by show _ ≤ w.heap.size + 1 + 1; omega) (.int .i64 x0)).put (p := ⟨w.heap.size + 1 + 1, 1, none⟩) (by show w.heap.size + 1 + 1 < _; omega) (by show _ ≤ w.heap.size + 1 + 1; omega) (.int .i64 x1)).put (p := ⟨w.heap.size + 1 + 1, 2, none⟩) (by show w.heap.size + 1 + 1 < _; omega) (by show _ ≤ w.heap.size + 1 + 1; omega) (.int .i64 x2)).put (p := ⟨w.heap.size + 1 + 1, 3, none⟩) (by show w.heap.size + 1 + 1 < _; omega) (by show _ ≤ w.heap.size + 1 + 1; omega) (.slice A4 n4 c4))
            have BX := (bel_put (bel_put (bel_put (bel_put hB6 (p := ⟨w.heap.size + 1 + 1, 0, none⟩) (by show _ ≤ w.heap.size + 1 + 1; omega) (.int .i64 x0)) (p := ⟨w.heap.size + 1 + 1, 1, none⟩) (by show _ ≤ w.heap.size + 1 + 1; omega) (.int .i64 x1)) (p := ⟨w.heap.size + 1 + 1, 2, none⟩) (by show _ ≤ w.heap.size + 1 + 1; omega) (.int .i64 x2)) (p := ⟨w.heap.size + 1 + 1, 3, none⟩) (by show _ ≤ w.heap.size + 1 + 1; omega) (.slice A4 n4 c4))
            refine bodyPost_ret (v := .agg #[.int .i64 x0, .int .i64 x1, .int .i64 x2, .slice A4 n4 c4]) (by simp [results, Try.results37, go_sem, s0, s1, s2, s3]) rfl ⟨A4, n4, c4, rfl, HN6.out, GX.lower (by omega), BX⟩
          exact AllReadyH.nil
        exact AllReadyH.nil
      exact AllReadyH.nil
    exact AllReadyH.nil
  refine AllReadyH.cons rfl (fun K hK => ?_) ?_
  · go_simp
    refine hK.out _ _ (by exact ⟨(P1b).cell 0, (P1b).cell 1, (P1b).cell 2, (P1b).cell 3⟩) (fun hHeld => ?_)
    clear hK K
    (try simp only [Act.put, qa_, qb_, qc_])
    refine wpAnyH_ready (rs := [1]) (by kernel_rfl) (by simp) ?_
    refine AllReadyH.cons rfl (fun K hK => ?_) ?_
    · go_simp
      refine hK.out _ _ (by exact ⟨(P1b).cell 0, (P1b).cell 1, (P1b).cell 2, (P1b).cell 3⟩) (fun hHeld => ?_)
      clear hK K
      (try simp only [Act.put, qa_, qb_, qc_])
      refine wpAnyH_ready (rs := [2]) (by kernel_rfl) (by simp) ?_
      refine AllReadyH.cons rfl (fun K hK => ?_) ?_
      · go_simp
        go_at_call 61
        refine (i_copiedPc (w := ((((w.alloc (.cells #[.int .i64 x0, .int .i64 x1, .int .i64 x2, .slice A n c] 65)).alloc (.cells #[.int .i64 y0, .int .i64 y1, .int .i64 y2, .slice A7 n7 c7] 24)).alloc (.cells #[.int .i64 0, .int .i64 0, .int .i64 0, .slice none 0 0] 65)).alloc (.cells [.int .i64 y0, .int .i64 y1, .int .i64 y2, .slice A7 n7 c7].toArray 24)).drew) (B := B0) (tPiece.row.keep hg (fun b hb => (show Below w.heap.size w (((((w.alloc (.cells #[.int .i64 x0, .int .i64 x1, .int .i64 x2, .slice A n c] 65)).alloc (.cells #[.int .i64 y0, .int .i64 y1, .int .i64 y2, .slice A7 n7 c7] 24)).alloc (.cells #[.int .i64 0, .int .i64 0, .int .i64 0, .slice none 0 0] 65)).alloc (.cells [.int .i64 y0, .int .i64 y1, .int .i64 y2, .slice A7 n7 c7].toArray 24)).drew) from (belx)).block b (by omega))) (by show _ ≤ ((((w.alloc (.cells #[.int .i64 x0, .int .i64 x1, .int .i64 x2, .slice A n c] 65)).alloc (.cells #[.int .i64 y0, .int .i64 y1, .int .i64 y2, .slice A7 n7 c7] 24)).alloc (.cells #[.int .i64 0, .int .i64 0, .int .i64 0, .slice none 0 0] 65)).alloc (.cells [.int .i64 y0, .int .i64 y1, .int .i64 y2, .slice A7 n7 c7].toArray 24)).heap.size; simp; omega) (by omega)).mono ?_
        rintro e w3 ⟨v3, rfl, hG3, hb3⟩
        obtain ⟨A3, n3, c3, rfl, hn3⟩ := hG3.shapeN
        have HN3 := Lib.hid hn3
        clear hn3
        have hs3 : Below w.heap.size w w3 := bel_trans (show Below w.heap.size w ((((w.alloc (.cells #[.int .i64 x0, .int .i64 x1, .int .i64 x2, .slice A n c] 65)).alloc (.cells #[.int .i64 y0, .int .i64 y1, .int .i64 y2, .slice A7 n7 c7] 24)).alloc (.cells #[.int .i64 0, .int .i64 0, .int .i64 0, .slice none 0 0] 65)).alloc (.cells [.int .i64 y0, .int .i64 y1, .int .i64 y2, .slice A7 n7 c7].toArray 24)) from (belx)) (bel_trans (bel_drew (Below.refl _ _)) hb3)
        have z3 : w.heap.size + 4 ≤ w3.heap.size := by have h : ((((w.alloc (.cells #[.int .i64 x0, .int .i64 x1, .int .i64 x2, .slice A n c] 65)).alloc (.cells #[.int .i64 y0, .int .i64 y1, .int .i64 y2, .slice A7 n7 c7] 24)).alloc (.cells #[.int .i64 0, .int .i64 0, .int .i64 0, .slice none 0 0] 65)).alloc (.cells [.int .i64 y0, .int .i64 y1, .int .i64 y2, .slice A7 n7 c7].toArray 24)).heap.size ≤ w3.heap.size := hb3.size; simpa using h
        have hG3 : GrowR tPiece 24 w3 (w.heap.size + 3) B0 (.slice A3 n3 c3) g := hG3.lower (by show _ ≤ ((((w.alloc (.cells #[.int .i64 x0, .int .i64 x1, .int .i64 x2, .slice A n c] 65)).alloc (.cells #[.int .i64 y0, .int .i64 y1, .int .i64 y2, .slice A7 n7 c7] 24)).alloc (.cells #[.int .i64 0, .int .i64 0, .int .i64 0, .slice none 0 0] 65)).alloc (.cells [.int .i64 y0, .int .i64 y1, .int .i64 y2, .slice A7 n7 c7].toArray 24)).heap.size; simp)
        have F0 := Box.below (Box.drew P0b) hb3 (Box.drew P0b).size
        have F1 := Box.below (Box.drew P1b) hb3 (Box.drew P1b).size
        have F2 := Box.below (Box.drew P2b) hb3 (Box.drew P2b).size
        have FB := Box.below (Box.drew PBb) hb3 (Box.drew PBb).size
        have f30 := F0.cell 3
        go_wp2_with fail
        refine hK.out _ _ (by exact ⟨(F1).cell 0, (F1).cell 1, (F1).cell 2, (F1).cell 3⟩) (fun hHeld => ?_)
        clear hK K
        (try simp only [Act.put, qa_, qb_, qc_])
        refine wpAnyH_ready (rs := [5]) (by kernel_rfl) (by simp) ?_
        refine AllReadyH.cons rfl (fun K hK => ?_) ?_
        · refine GrowR.step (t := tPiece) (e := 24) (w := w3) (base := w.heap.size + 3) (B := B0) (by rfl) (.tmp 7) (.tmp 9) _ (by rfl) i1 _ 4 48 Try.underlying47 hj0 hj1 hj2 hj3 tz (by omega) rfl (by rfl) hG3 (w.heap.size + 3) [.int .i64 y0, .int .i64 y1, .int .i64 y2, .slice A7 n7 c7] (y0, y1, y2, qd) (by rfl) FB (tPiece.keep hq (fun b hb => hs3.block b (by omega))) (by intro u hu; simp only [List.mem_cons, List.not_mem_nil, or_false] at hu; rcases hu with rfl | rfl | rfl | rfl <;> rfl) (by omega) (by first | omega | (simp; omega)) (by have := E0.out; simp only [maxLen]; omega) (by have := E0.out; omega) ?_
          intro v4 w4 hG4 hgr4
          obtain ⟨A4, n4, c4, rfl, hn4⟩ := hG4.shapeN
          have HN4 := Lib.hid hn4
          clear hn4
          have hOwn := hG3.own
          have hs4 : Below w.heap.size w w4 := Below.grown (w := w3) hs3 hgr4 (by first | omega | (simp; omega)) (fun b hb => by have := (hOwn b hb).1; omega)
          have G0 := Box.grown (w := w3) F0 hgr4 (fun e => by have := (hOwn _ e.symm).1; omega)
          have G1 := Box.grown (w := w3) F1 hgr4 (fun e => by have := (hOwn _ e.symm).1; omega)
          have G2 := Box.grown (w := w3) F2 hgr4 (fun e => by have := (hOwn _ e.symm).1; omega)
          have z4 : w.heap.size + 3 ≤ w4.heap.size := G2.size
          have g03 := G0.cell 3; have g0f := G0.frozen 3
          have H0 := G0.put 3 (.slice A4 n4 c4)
          have H1 := G1.far (p := ⟨w.heap.size, 3, none⟩) (by show ¬ w.heap.size + 1 = w.heap.size; omega) (.slice A4 n4 c4)
          have H2 := G2.far (p := ⟨w.heap.size, 3, none⟩) (by show ¬ w.heap.size + 1 + 1 = w.heap.size; omega) (.slice A4 n4 c4)
          have h03 := H0.cell 3
          refine hK.out _ _ (by exact ⟨(G1).cell 0, (G1).cell 1, (G1).cell 2, (G1).cell 3⟩) (fun hHeld => ?_)
          clear hK K
          (try simp only [Act.put, qa_, qb_, qc_])
          refine wpAnyH_take (i := 6) (oi := ⟨some 11, _, _, _, _, _⟩) (v := ?v5) rfl (by kernel_rfl) (by kernel_rfl) (by kernel_rfl) (fun _ _ _ h => h) (Or.inl ⟨by rfl, ?hy5⟩) (by assumption) ?_
          case hy5 => (intro w hSw; (try dsimp only at hSw); go_simp; try (with_reducible rfl))
          (try simp only [Act.put, qa_, qb_, qc_])
          refine wpAnyH_ready (rs := [7]) (by kernel_rfl) (by simp) ?_
          refine AllReadyH.cons rfl (fun K hK => ?_) ?_
          · go_simp
            refine hK.out _ _ (by exact ⟨(H1).cell 0, (H1).cell 1, (H1).cell 2, (H1).cell 3⟩) (fun hHeld => ?_)
            clear hK K
            (try simp only [Act.put, qa_, qb_, qc_])
            refine wpAnyH_done (by kernel_rfl) ?_ _
            go_wp2_with fail
            have hG5 := hG4.put (p := ⟨w.heap.size, 3, none⟩) (by show w.heap.size < _; omega) hB0 (.slice A4 n4 c4)
            have hB5 := bel_put hs4 (p := ⟨w.heap.size, 3, none⟩) (Nat.le_refl _) (.slice A4 n4 c4)
            refine (i_SortPc hG5 (by simp) (by rw [List.length_append, List.length_singleton]; have := E0.out; omega) (by omega) HPW.out HPM.out).mono ?_
            rintro e w6 ⟨rfl, hG6, hgr6⟩
            have hOwn6 := hG5.own
            obtain ⟨A6_, n6_, c6_, e6_, hn6⟩ := hG6.shapeN
            have HN6 := Lib.hid (show n4 = (insB pAt (y0, y1, y2, qd) g).length by injection e6_ with _ e2 _; rw [e2]; exact hn6)
            clear hn6 e6_
            have K0 := Box.grown H0 hgr6 (fun e => by have := (hOwn6 _ e.symm).1; omega)
            have K2 := Box.grown H2 hgr6 (fun e => by have := (hOwn6 _ e.symm).1; omega)
            have hB6 : Below w.heap.size w w6 := Below.grown hB5 hgr6 (by simp [World.setCell]; omega) (fun b hb => by have := (hOwn6 b hb).1; omega)
            have k0 := K0.cell 0; have k1 := K0.cell 1; have k2 := K0.cell 2; have k3 := K0.cell 3; have r0 := K2.cell 0; have r1 := K2.cell 1; have r2 := K2.cell 2; have r3 := K2.cell 3; have rf0 := K2.frozen 0; have rf1 := K2.frozen 1; have rf2 := K2.frozen 2; have rf3 := K2.frozen 3
            go_wp2
            have RR := (((K2.put 0 (.int .i64 x0)).put 1 (.int .i64 x1)).put 2 (.int .i64 x2)).put 3 (.slice A4 n4 c4)
            have s0 := RR.cell 0; have s1 := RR.cell 1; have s2 := RR.cell 2; have s3 := RR.cell 3
            have GX := ((((hG6.put (p := ⟨w.heap.size + 1 + 1, 0, none⟩) (by show w.heap.size + 1 + 1 < _; omega) (by show _ ≤ w.heap.size + 1 + 1; omega) (.int .i64 x0)).put (p := ⟨w.heap.size + 1 + 1, 1, none⟩) (by show w.heap.size + 1 + 1 < _; omega) (by show _ ≤ w.heap.size + 1 + 1; omega) (.int .i64 x1)).put (p := ⟨w.heap.size + 1 + 1, 2, none⟩) (by show w.heap.size + 1 + 1 < _; omega) (by show _ ≤ w.heap.size + 1 + 1; omega) (.int .i64 x2)).put (p := ⟨w.heap.size + 1 + 1, 3, none⟩) (by show w.heap.size + 1 + 1 < _; omega) (by show _ ≤ w.heap.size + 1 + 1; omega) (.slice A4 n4 c4))
            have BX := (bel_put (bel_put (bel_put (bel_put hB6 (p := ⟨w.heap.size + 1 + 1, 0, none⟩) (by show _ ≤ w.heap.size + 1 + 1; omega) (.int .i64 x0)) (p := ⟨w.heap.size + 1 + 1, 1, none⟩) (by show _ ≤ w.heap.size + 1 + 1; omega) (.int .i64 x1)) (p := ⟨w.heap.size + 1 + 1, 2, none⟩) (by show _ ≤ w.heap.size + 1 + 1; omega) (.int .i64 x2)) (p := ⟨w.heap.size + 1 + 1, 3, none⟩) (by show _ ≤ w.heap.size + 1 + 1; omega) (.slice A4 n4 c4))
            refine bodyPost_ret (v := .agg #[.int .i64 x0, .int .i64 x1, .int .i64 x2, .slice A4 n4 c4]) (by simp [results, Try.results37, go_sem, s0, s1, s2, s3]) rfl ⟨A4, n4, c4, rfl, HN6.out, GX.lower (by omega), BX⟩
          exact AllReadyH.nil
        exact AllReadyH.nil
      exact AllReadyH.nil
    exact AllReadyH.nil
  exact AllReadyH.nil
end Go.Proofs.Ytaabmaoldhoinaa
namespace Go.Proofs.Ytaabmaoldhoinaa
set_option maxRecDepth 100000
set_option linter.unusedVariables false
set_option linter.unusedSimpArgs false
open Go.ChangeShapes Go.WideShapes Go.ChangeAt Go.RowKit
open Fld
theorem i_PcData {w : World} {cs : List Value} {p : DPiece} (h : tPiece.R w w.heap.size cs p) :
    Calls Try.prog 42 #[.agg cs.toArray] w fun e w' => ∃ A n c, e = .returned (.slice A n c) ∧ Ints .u8 w' w'.heap.size A n p.2.2.2 ∧ Below w.heap.size w w' := by
  obtain ⟨A3, n3, c3, rfl, -, -, -, -, -, -, h3⟩ := openPiece h
  go_enter Try.func42, Try.ntmps42
  go_wp2
  go_ret
  exact ⟨A3, n3, c3, rfl, reach (slR_ints h3).1 (belx), (belx)⟩
set_option maxHeartbeats 1000000 in
theorem i_joinedData {w : World} {n c : Nat} {A : Option Addr} {l : List DPiece} (F : Nat) (f : DPiece → List Int) (m : Nat) (hE : ∀ (cs : Array Value) (w : World), Sem.run Try.prog (callFunc F #[Value.agg cs]) w = .ok (.enter F #[Value.agg cs]) w)
    (hF : ∀ (i : Nat) (a : DPiece) (w' : World) (cs : List Value), l[i]? = some a → Below w.heap.size w w' → tPiece.R w' w'.heap.size cs a → Calls Try.prog F #[.agg cs.toArray] w' fun e w2 => ∃ A' n' c', e = .returned (.slice A' n' c') ∧ Ints .u8 w2 w2.heap.size A' n' (f a) ∧ Below w'.heap.size w' w2)
    (hm : ∀ a ∈ l, (f a).length ≤ m) (hmn : m * n ≤ 1000000) (hl : tPiece.row.R w w.heap.size [.slice A n c] l) (hn : n ≤ 1048576) :
    Calls Try.prog 41 #[.slice A n c, .func (.func F) #[] #[]] w fun e w' => ∃ v, e = .returned v ∧ Own .u8 5 w' w.heap.size v (l.flatMap f) ∧ Below w.heap.size w w' := by
  obtain ⟨i0, hi0, hz0, hz1, hz2⟩ := info_parts info_cb
  obtain ⟨e0, _, _⟩ := rowR_len hl
  have HL := Lib.hid e0
  clear e0
  have HF := Lib.hid hF
  have HE := Lib.hid hE
  have HM := Lib.hid hm
  have HMN := Lib.hid hmn
  clear hF hE hm hmn
  go_enter Try.func41, Try.ntmps41
  go_wp2_with fail
  go_loopw [5, 10] (fun v i wr => ∃ j : Nat, j ≤ n ∧ i = .int .i64 j ∧ Own .u8 5 wr w.heap.size v ((l.take j).flatMap f) ∧ Below w.heap.size w wr) (fun _ i _ => n - ixOf i)
  case atStart => exact ⟨0, by omega, rfl, Own.nil _ _ _ _, (belx)⟩
  case round =>
    obtain ⟨j, hj, rfl, hO, hB⟩ := hrel
    by_cases hlt : j < n
    · obtain ⟨a, b', off, es, hl2, rfl, hb, hes, hR⟩ := rowR_at (K := 4) hl hlt rfl
      have hRk := hR
      obtain ⟨A2, n2, c2, rfl, -, -, -, -, -, -, -⟩ := openPiece hR
      have e0 : wr.cell? ⟨b', off + j * 4, none⟩ = some (.int .i64 a.1) := cell_at hB hb (hes 0 (by omega))
      have e1 : wr.cell? ⟨b', off + j * 4 + 1, none⟩ = some (.int .i64 a.2.1) := cell_at hB hb (hes 1 (by omega))
      have e2 : wr.cell? ⟨b', off + j * 4 + 2, none⟩ = some (.int .i64 a.2.2.1) := cell_at hB hb (hes 2 (by omega))
      have e3 : wr.cell? ⟨b', off + j * 4 + 3, none⟩ = some (.slice A2 n2 c2) := cell_at hB hb (hes 3 (by omega))
      clear hes hR
      have HA := Lib.hid hl2
      have HS := Lib.hid (flS (f := f) hl2)
      have hm1 := HM.out a (alMem hl2)
      have hm2 : ((l.take j).flatMap f).length + (f a).length ≤ 1000000 := by
        have h1 := flLe (f := f) HM.out (j + 1)
        rw [HS.out, List.length_append, HL.out] at h1
        have := HMN.out
        omega
      clear hl2
      obtain ⟨bs, hbs⟩ : ∃ bs, (l.take j).flatMap f = bs := ⟨_, rfl⟩
      rw [hbs] at hO HS hm2
      have HM2 := Lib.hid hm2
      clear hbs hm1 hm2
      go_wp2_with fail
      rw [HE.out, Oper.upon_enter]
      refine (HF.out j a _ _ HA.out ?hB (tPiece.reach hRk ?hB2)).mono ?_
      case hB => exact bel_trans (a := w) hB (belx)
      case hB2 => exact bel_trans (a := w) hB (belx)
      rintro e w1 ⟨A1, n1, c1, rfl, hI1, hb1⟩
      obtain ⟨fa, hfa⟩ : ∃ y, f a = y := ⟨_, rfl⟩
      rw [hfa] at HS HM2 hI1
      clear hfa
      have hs1 : Below wr.heap.size wr w1 := bel_trans (belx) hb1
      have hO2 := hO.below hs1
      have HO1 := Lib.hid hI1.2.2
      have hS : Src w1 1 A1 n1 (fa.map (Value.int .u8)) := Src.of_ints hI1
      have HN1 := Lib.hid hI1.1.symm
      have zz := hs1.size
      have zw := hB.size
      clear hI1
      go_wp2_with (at_builtin; refine wpList_app _ rfl (.tmp 14) (.tmp 17) _ rfl w.heap.size 5 i0 _ 1 1 Try.underlying22 hi0 hz0 hz1 hz2 rfl (by omega) _ _ _ rfl hO2.1 A1 n1 c1 (fa.map (Value.int .u8)) rfl hS (one_ints _ _) (by simp only [maxLen]; have := HM2.out; have := HN1.out; omega) (by have := HM2.out; have := HN1.out; omega) (by omega) ?_; intro v2 w3 hown hgr hat)
      go_roundw
      case rel => exact ⟨j + 1, by omega, by go_num, by rw [HS.out]; exact own_appN (r := fa) hown HN1.out.symm hO2.2 HO1.out, (bel_trans hB hs1).grown hgr (by omega) (fun b hb => (hO2.block hb).1)⟩
      case measure => simp [ixOf]; omega
    · obtain rfl : n = j := by omega
      have HA := Lib.hid (show l.take n = l from List.take_of_length_le (Nat.le_of_eq HL.out))
      rw [HA.out] at hO
      go_wp2
      go_ret
      exact ⟨_, rfl, hO, hB⟩
theorem srt_ins {l : List Int} {y : Int} (h : Asc l) (hy : y ∉ l) : srt (l ++ [y]) = insB id y l := by
  refine asc_permS (f := id) (insB_pw (f := id) (asc_pw h)) ?_ ?_
  · have := List.pairwise_mergeSort (le := fun x y : Int => decide (x ≤ y)) (fun a b c h1 h2 => by simp at *; omega) (fun a b => by simp; omega) (l ++ [y])
    exact this.imp fun h' => of_decide_eq_true h'
  · exact (List.mergeSort_perm _ _).trans (insB_perm (f := id) fun a ha e => hy (by have : a = y := e; exact this ▸ ha)).symm
end Go.Proofs.Ytaabmaoldhoinaa
