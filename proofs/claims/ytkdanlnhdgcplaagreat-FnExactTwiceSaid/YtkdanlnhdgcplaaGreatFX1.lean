/-
  CpIa, CpI, CpJ, CpS, PNode3: texts joined.
-/
import Derived.Test.YtkdanlnhdgcplaaGreatFGa
import Derived.Test.YtkdanlnhdgcplaaGreatFGb
import Derived.Test.YtkdanlnhdgcplaaGreatFGc
import Derived.Test.YtkdanlnhdgcplaaGreatFGd
import Derived.Test.YtkdanlnhdgcplaaGreatFGe
import Derived.Test.YtkdanlnhdgcplaaGreatFGf
import Derived.Test.YtkdanlnhdgcplaaGreatFGg
import Derived.Test.YtkdanlnhdgcplaaGreatFMPDeskT
import Derived.Test.YtkdanlnhdgcplaaGreatFMPNodeI
import Derived.Test.YtkdanlnhdgcplaaGreatFMShs
namespace Go.Proofs.YtkdanlnhdgcplaaGreat
set_option maxRecDepth 100000
set_option linter.unusedVariables false
set_option linter.unusedSimpArgs false
open Go.ChangeShapes Go.WideShapes Go.ChangeAt Go.RowKit
open Fld
set_option maxHeartbeats 2000000 in
theorem i_PieceCopy {w : World} {cs : List Value} {p : DPiece} (h : tPiece.R w w.heap.size cs p) (hz : szPiece p ≤ 1048576) :
  Calls Tryz.prog 206 #[.agg cs.toArray] w fun e w' => ∃ cs' F, e = .returned (.agg cs'.toArray) ∧ tPiece.O w' cs' p F ∧ New w.heap.size F ∧ Bel w w' := by
 obtain ⟨A3, n3, c3, rfl, i0, i1, i2, -, -, -, r3⟩ := openPiece h
 have hI := (slR_ints r3).1
 have hn : n3 ≤ 1048576 := by rw [← hI.1]; simpa [szPiece, szCell] using hz
 go_enter Tryz.func206, Tryz.ntmps206
 go_wp2_with fail
 refine (i_copiedB5 (reach hI ?hB) hn).mono ?_
 case hB => exact (belx)
 rintro e w1 ⟨v, rfl, hO, hb1⟩
 obtain ⟨A, c, F, rfl, hO3, hN⟩ := own_slice hO
 clear hO
 have z1 : w.heap.size + 2 ≤ w1.heap.size := by have h : (World.alloc (World.alloc w _) _).heap.size ≤ w1.heap.size := hb1.size; simpa using h
 have P1 : Box w1 w.heap.size 185 #[.int .i64 p.1, .int .i64 p.2.1, .int .i64 p.2.2.1, .slice A3 n3 c3] := Box.below ((Box.new w _ _).alloc _) hb1 (by simp; omega)
 have R1 : Box w1 (w.heap.size + 1) 185 #[.int .i64 0, .int .i64 0, .int .i64 0, .slice none 0 0] := Box.below (by simpa using Box.new (w.alloc _) 185 #[.int .i64 0, .int .i64 0, .int .i64 0, .slice none 0 0]) hb1 (by simp)
 have hM : New (w.heap.size + 2) F := hN.lower (by simp)
 have hB1 : Bel w w1 := bel_trans (belx) hb1
 have p0 := P1.cell 0
 have x0 := R1.cell 0
 have g0 := R1.frozen 0
 have p1 := P1.cell 1
 have x1 := R1.cell 1
 have g1 := R1.frozen 1
 have p2 := P1.cell 2
 have x2 := R1.cell 2
 have g2 := R1.frozen 2
 have p3 := P1.cell 3
 have x3 := R1.cell 3
 have g3 := R1.frozen 3
 have f3 := P1.frozen 3
 go_wp2
 have RR := (((((R1.far (p := ⟨w.heap.size, 3, none⟩) (by simp) (.slice A p.2.2.2.length c)).put 0 (.int .i64 p.1)).put 1 (.int .i64 p.2.1)).put 2 (.int .i64 p.2.2.1)).put 3 (.slice A p.2.2.2.length c))
 have y0 := RR.cell 0
 have y1 := RR.cell 1
 have y2 := RR.cell 2
 have y3 := RR.cell 3
 have u := Ty.far (t := tBy) (Ty.far (t := tBy) (Ty.far (t := tBy) (Ty.far (t := tBy) (Ty.far (t := tBy) hO3 hM (p := ⟨w.heap.size, 3, none⟩) fsz (.slice A p.2.2.2.length c)) hM (p := ⟨w.heap.size + 1, 0, none⟩) fsz (.int .i64 p.1)) hM (p := ⟨w.heap.size + 1, 1, none⟩) fsz (.int .i64 p.2.1)) hM (p := ⟨w.heap.size + 1, 2, none⟩) fsz (.int .i64 p.2.2.1)) hM (p := ⟨w.heap.size + 1, 3, none⟩) fsz (.slice A p.2.2.2.length c)
 obtain ⟨Fx, hX, rfl⟩ := makeOPiece (p := p) i0 i1 i2 u
 refine bodyPost_ret (v := .agg #[.int .i64 p.1, .int .i64 p.2.1, .int .i64 p.2.2.1, .slice A p.2.2.2.length c]) (by simp [results, Tryz.results206, go_sem, y0, y1, y2, y3]) rfl ⟨_, _, rfl, hX, hM.lower (by omega), ?_⟩
 exact bel_put (bel_put (bel_put (bel_put (bel_put hB1 (by simp) _) (by simp) _) (by simp) _) (by simp) _) (by simp) _

set_option maxHeartbeats 2000000 in
theorem i_eachPieceG {w : World} {n c : Nat} {A : Option Addr} {l : List DPiece} (F : Nat) (hE : ∀ (cs : Array Value) (w : World), Sem.run Tryz.prog (callFunc F #[Value.agg cs]) w = .ok (.enter F #[Value.agg cs]) w)
  (hF : ∀ (i : Nat) (a : DPiece) (w' : World) (cs : List Value), l[i]? = some a → Bel w w' → tPiece.R w' w'.heap.size cs a → Calls Tryz.prog F #[.agg cs.toArray] w' fun e w2 => ∃ cs' Fa, e = .returned (.agg cs'.toArray) ∧ tPiece.O w2 cs' a Fa ∧ New w'.heap.size Fa ∧ Bel w' w2)
  (h : tPiece.row.R w w.heap.size [.slice A n c] l) (hn : n ≤ 1048576) :
  Calls Tryz.prog 205 #[.slice A n c, .func (.func F) #[] #[]] w fun e w' => ∃ A' c' F, e = .returned (.slice A' l.length c') ∧ GrowO tPiece 185 w' w.heap.size (.slice A' l.length c') l F ∧ Bel w w' := by
 obtain ⟨i1, hj0, hj1, hj2, hj3⟩ := info_parts info_Piece
 obtain ⟨e0, _, _⟩ := rowR_len h
 have HL := Lib.hid e0
 have HF := Lib.hid hF
 have HE := Lib.hid hE
 clear e0 hF hE
 go_enter Tryz.func205, Tryz.ntmps205
 go_wp2_with fail
 go_loopw [5, 10] (fun v i wr => ∃ (j : Nat) (F : List Nat), j ≤ n ∧ i = .int .i64 j ∧ GrowO tPiece 185 wr w.heap.size v (l.take j) F ∧ Bel w wr) (fun _ i _ => n - (RowKit.intOf i).toNat)
 case atStart => exact ⟨0, [], by omega, rfl, GrowO.nil, (belx)⟩
 case round =>
  obtain ⟨j, F, hj, rfl, hG, hB⟩ := hrel
  by_cases hlt : j < n
  ·obtain ⟨a, b', off, es, hl2, rfl, hb, hes, hR⟩ := rowR_at (K := 4) h hlt rfl
   have HA := Lib.hid hl2
   have HT := Lib.hid (take_sn hl2)
   have HLN := Lib.hid (show (l.take j).length = j from by rw [List.length_take, HL.out]; omega)
   clear hl2
   have hRk := hR
   obtain ⟨aA3, an3, ac3, rfl, ai0, ai1, ai2, -, -, -, ar3⟩ := openPiece hR
   have e0 : wr.cell? ⟨b', off + j * 4, none⟩ = some (.int .i64 a.1) := cell_at hB hb (hes 0 (by omega))
   have e1 : wr.cell? ⟨b', off + j * 4 + 1, none⟩ = some (.int .i64 a.2.1) := cell_at hB hb (hes 1 (by omega))
   have e2 : wr.cell? ⟨b', off + j * 4 + 2, none⟩ = some (.int .i64 a.2.2.1) := cell_at hB hb (hes 2 (by omega))
   have e3 : wr.cell? ⟨b', off + j * 4 + 3, none⟩ = some (.slice aA3 an3 ac3) := cell_at hB hb (hes 3 (by omega))
   clear hes hR
   have zB := hB.size
   have hOwn := fun b hb => (GrowO.row hG).choose_spec.1.lt b hb
   have hlt2 := hG.lt
   go_wp2_with fail
   rw [HE.out, Oper.upon_enter]
   refine (HF.out j a _ _ HA.out ?hB (tPiece.reach hRk ?hB2)).mono ?_
   case hB => exact bel_trans (a := w) hB (belx)
   case hB2 => exact bel_trans (a := w) hB (belx)
   rintro e w1 ⟨cs1, Fd, rfl, hOd, hNd', hb1⟩
   have hNd : New (wr.heap.size + 1) Fd := hNd'.lower (by simp)
   have hs1 : Bel wr w1 := bel_trans (belx) hb1
   have hOk := hOd
   obtain ⟨oA3, oc3, oF3, rfl, -, -, -, -, -, -, -⟩ := openOPiece hOd
   clear hNd' hOd
   go_wp2_with (at_builtin; have hBx : Bel wr (w1.alloc (.cells [.int .i64 a.1, .int .i64 a.2.1, .int .i64 a.2.2.1, .slice oA3 a.2.2.2.length oc3].toArray 185)) := bel_alloc hs1 _; obtain ⟨xs, hrow, hpush⟩ := (hG.below hBx).row; have tz : (Value.agg #[Value.int .i64 0, Value.int .i64 0, Value.int .i64 0, Value.slice none 0 0]).cells.size = 4 := lev; have t0 : ∀ u ∈ ([.int .i64 a.1, .int .i64 a.2.1, .int .i64 a.2.2.1, .slice oA3 a.2.2.2.length oc3] : List Value), u.oneCell' = true := (by intro u hu; simp only [List.mem_cons, List.not_mem_nil, or_false] at hu; rcases hu with rfl | rfl | rfl | rfl <;> rfl); have t1 : (l.take j).length + 1 ≤ maxLen := (by simp only [maxLen]; have := HLN.out; omega); have t2 : ((l.take j).length + 1) * 48 ≤ 140737488355328 := (by have := HLN.out; omega); have t3 := hBx.size; have hS2 : Src (w1.alloc (.cells [.int .i64 a.1, .int .i64 a.2.1, .int .i64 a.2.2.1, .slice oA3 a.2.2.2.length oc3].toArray 185)) 4 (some ⟨w1.heap.size, 0, none⟩) 1 [.int .i64 a.1, .int .i64 a.2.1, .int .i64 a.2.2.1, .slice oA3 a.2.2.2.length oc3] := Src.of_box w1 185 [.int .i64 a.1, .int .i64 a.2.1, .int .i64 a.2.2.1, .slice oA3 a.2.2.2.length oc3] (K := 4) rfl; refine wpList_app _ rfl (.tmp 14) (.tmp 18) _ rfl w.heap.size 185 i1 _ 4 48 Tryz.underlying175 hj0 hj1 hj2 hj3 tz (by omega) u5 _ xs rfl hrow _ 1 1 [.int .i64 a.1, .int .i64 a.2.1, .int .i64 a.2.2.1, .slice oA3 a.2.2.2.length oc3] rfl hS2 t0 t1 t2 (by omega) ?_; intro v2 w2 hown2 hgr2 hat2; have hOel : tPiece.O (w1.alloc (.cells [.int .i64 a.1, .int .i64 a.2.1, .int .i64 a.2.2.1, .slice oA3 a.2.2.2.length oc3].toArray 185)) [.int .i64 a.1, .int .i64 a.2.1, .int .i64 a.2.2.1, .slice oA3 a.2.2.2.length oc3] a Fd := Ty.below (t := tPiece) hOk (belx); have hNel : New w.heap.size Fd := hNd.lower (by omega); have hdis : ∀ f ∈ Fd, f ∉ F := (fun f h1 h2 => by have := hNd.2 _ h1; have := hlt2 f h2; omega); have hod : ∀ b, u5.ownBlock = some b → b ∉ Fd := (fun b hb hx => by have := (hOwn b hb).2; have := hNd.2 _ hx; omega); have hfin := hpush w2 v2 a _ Fd hOel hNel hdis hod hown2 hgr2 hat2; have hBf : Bel w w2 := Below.grown (bel_trans hB hBx) hgr2 (by have := hBx.size; omega) (fun b hb => (hOwn b hb).1))
   go_roundw
   case rel => exact ⟨j + 1, _, by omega, by go_num, by rw [HT.out]; exact hfin, hBf⟩
   case measure => simp [RowKit.intOf]; omega
  ·obtain rfl : n = j := by omega
   have HA := Lib.hid (show l.take n = l from List.take_of_length_le (Nat.le_of_eq HL.out))
   rw [HA.out] at hG
   obtain ⟨A3, c3, rfl⟩ := hG.shape
   go_wp2
   go_ret
   exact ⟨A3, c3, F, rfl, hG, hB⟩
theorem i_eachPieceC {w : World} {n c : Nat} {A : Option Addr} {l : List DPiece} (F : Nat) (hE : ∀ (cs : Array Value) (w : World), Sem.run Tryz.prog (callFunc F #[Value.agg cs]) w = .ok (.enter F #[Value.agg cs]) w)
  (hF : ∀ (i : Nat) (a : DPiece) (w' : World) (cs : List Value), l[i]? = some a → Bel w w' → tPiece.R w' w'.heap.size cs a → Calls Tryz.prog F #[.agg cs.toArray] w' fun e w2 => ∃ cs' Fa, e = .returned (.agg cs'.toArray) ∧ tPiece.O w2 cs' a Fa ∧ New w'.heap.size Fa ∧ Bel w' w2)
  (h : tPiece.row.R w w.heap.size [.slice A n c] l) (hn : n ≤ 1048576) :
  Calls Tryz.prog 205 #[.slice A n c, .func (.func F) #[] #[]] w fun e w' => ∃ A' c' F, e = .returned (.slice A' l.length c') ∧ tPiece.row.O w' [.slice A' l.length c'] l F ∧ New w.heap.size F ∧ Bel w w' :=
 (i_eachPieceG F hE hF h hn).mono fun e w' ⟨A', c', F', he, hG, hB⟩ => by
  obtain ⟨A3, c3, F3, e3, hO3, hN3⟩ := hG.done
  injection e3 with e31 e32 e33
  subst e31 e33
  exact ⟨_, _, F3, he, hO3, hN3, hB⟩

set_option maxHeartbeats 2000000 in
theorem i_LetterCopy {w : World} {cs : List Value} {p : DLetter} (h : tLetter.R w w.heap.size cs p) (hz : szLetter p ≤ 1048576) :
  Calls Tryz.prog 149 #[.agg cs.toArray] w fun e w' => ∃ cs' F, e = .returned (.agg cs'.toArray) ∧ tLetter.O w' cs' p F ∧ New w.heap.size F ∧ Bel w w' := by
 obtain ⟨A1, n1, c1, rfl, i0, -, -, -, r1⟩ := openLetter h
 have hI := (slR_ints r1).1
 have hn : n1 ≤ 1048576 := by rw [← hI.1]; simpa [szLetter, szCell] using hz
 go_enter Tryz.func149, Tryz.ntmps149
 go_wp2_with fail
 refine (i_copiedB5 (reach hI ?hB) hn).mono ?_
 case hB => exact (belx)
 rintro e w1 ⟨v, rfl, hO, hb1⟩
 obtain ⟨A, c, F, rfl, hO3, hN⟩ := own_slice hO
 clear hO
 have z1 : w.heap.size + 2 ≤ w1.heap.size := by have h : (World.alloc (World.alloc w _) _).heap.size ≤ w1.heap.size := hb1.size; simpa using h
 have P1 : Box w1 w.heap.size 151 #[.int .i64 p.1, .slice A1 n1 c1] := Box.below ((Box.new w _ _).alloc _) hb1 (by simp; omega)
 have R1 : Box w1 (w.heap.size + 1) 151 #[.int .i64 0, .slice none 0 0] := Box.below (by simpa using Box.new (w.alloc _) 151 #[.int .i64 0, .slice none 0 0]) hb1 (by simp)
 have hM : New (w.heap.size + 2) F := hN.lower (by simp)
 have hB1 : Bel w w1 := bel_trans (belx) hb1
 have p0 := P1.cell 0
 have x0 := R1.cell 0
 have g0 := R1.frozen 0
 have p1 := P1.cell 1
 have x1 := R1.cell 1
 have g1 := R1.frozen 1
 have f1 := P1.frozen 1
 go_wp2
 have RR := (((R1.far (p := ⟨w.heap.size, 1, none⟩) (by simp) (.slice A p.2.length c)).put 0 (.int .i64 p.1)).put 1 (.slice A p.2.length c))
 have y0 := RR.cell 0
 have y1 := RR.cell 1
 have u := Ty.far (t := tBy) (Ty.far (t := tBy) (Ty.far (t := tBy) hO3 hM (p := ⟨w.heap.size, 1, none⟩) fsz (.slice A p.2.length c)) hM (p := ⟨w.heap.size + 1, 0, none⟩) fsz (.int .i64 p.1)) hM (p := ⟨w.heap.size + 1, 1, none⟩) fsz (.slice A p.2.length c)
 obtain ⟨Fx, hX, rfl⟩ := makeOLetter (p := p) i0 u
 refine bodyPost_ret (v := .agg #[.int .i64 p.1, .slice A p.2.length c]) (by simp [results, Tryz.results149, go_sem, y0, y1]) rfl ⟨_, _, rfl, hX, hM.lower (by omega), ?_⟩
 exact bel_put (bel_put (bel_put hB1 (by simp) _) (by simp) _) (by simp) _

set_option maxHeartbeats 2000000 in
theorem i_eachLetterG {w : World} {n c : Nat} {A : Option Addr} {l : List DLetter} (F : Nat) (hE : ∀ (cs : Array Value) (w : World), Sem.run Tryz.prog (callFunc F #[Value.agg cs]) w = .ok (.enter F #[Value.agg cs]) w)
  (hF : ∀ (i : Nat) (a : DLetter) (w' : World) (cs : List Value), l[i]? = some a → Bel w w' → tLetter.R w' w'.heap.size cs a → Calls Tryz.prog F #[.agg cs.toArray] w' fun e w2 => ∃ cs' Fa, e = .returned (.agg cs'.toArray) ∧ tLetter.O w2 cs' a Fa ∧ New w'.heap.size Fa ∧ Bel w' w2)
  (h : tLetter.row.R w w.heap.size [.slice A n c] l) (hn : n ≤ 1048576) :
  Calls Tryz.prog 148 #[.slice A n c, .func (.func F) #[] #[]] w fun e w' => ∃ A' c' F, e = .returned (.slice A' l.length c') ∧ GrowO tLetter 151 w' w.heap.size (.slice A' l.length c') l F ∧ Bel w w' := by
 obtain ⟨i1, hj0, hj1, hj2, hj3⟩ := info_parts info_Letter
 obtain ⟨e0, _, _⟩ := rowR_len h
 have HL := Lib.hid e0
 have HF := Lib.hid hF
 have HE := Lib.hid hE
 clear e0 hF hE
 go_enter Tryz.func148, Tryz.ntmps148
 go_wp2_with fail
 go_loopw [5, 10] (fun v i wr => ∃ (j : Nat) (F : List Nat), j ≤ n ∧ i = .int .i64 j ∧ GrowO tLetter 151 wr w.heap.size v (l.take j) F ∧ Bel w wr) (fun _ i _ => n - (RowKit.intOf i).toNat)
 case atStart => exact ⟨0, [], by omega, rfl, GrowO.nil, (belx)⟩
 case round =>
  obtain ⟨j, F, hj, rfl, hG, hB⟩ := hrel
  by_cases hlt : j < n
  ·obtain ⟨a, b', off, es, hl2, rfl, hb, hes, hR⟩ := rowR_at (K := 2) h hlt rfl
   have HA := Lib.hid hl2
   have HT := Lib.hid (take_sn hl2)
   have HLN := Lib.hid (show (l.take j).length = j from by rw [List.length_take, HL.out]; omega)
   clear hl2
   have hRk := hR
   obtain ⟨aA1, an1, ac1, rfl, ai0, -, -, -, ar1⟩ := openLetter hR
   have e0 : wr.cell? ⟨b', off + j * 2, none⟩ = some (.int .i64 a.1) := cell_at hB hb (hes 0 (by omega))
   have e1 : wr.cell? ⟨b', off + j * 2 + 1, none⟩ = some (.slice aA1 an1 ac1) := cell_at hB hb (hes 1 (by omega))
   clear hes hR
   have zB := hB.size
   have hOwn := fun b hb => (GrowO.row hG).choose_spec.1.lt b hb
   have hlt2 := hG.lt
   go_wp2_with fail
   rw [HE.out, Oper.upon_enter]
   refine (HF.out j a _ _ HA.out ?hB (tLetter.reach hRk ?hB2)).mono ?_
   case hB => exact bel_trans (a := w) hB (belx)
   case hB2 => exact bel_trans (a := w) hB (belx)
   rintro e w1 ⟨cs1, Fd, rfl, hOd, hNd', hb1⟩
   have hNd : New (wr.heap.size + 1) Fd := hNd'.lower (by simp)
   have hs1 : Bel wr w1 := bel_trans (belx) hb1
   have hOk := hOd
   obtain ⟨oA1, oc1, oF1, rfl, -, -, -, -, -⟩ := openOLetter hOd
   clear hNd' hOd
   go_wp2_with (at_builtin; have hBx : Bel wr (w1.alloc (.cells [.int .i64 a.1, .slice oA1 a.2.length oc1].toArray 151)) := bel_alloc hs1 _; obtain ⟨xs, hrow, hpush⟩ := (hG.below hBx).row; have tz : (Value.agg #[Value.int .i64 0, Value.slice none 0 0]).cells.size = 2 := lev; have t0 : ∀ u ∈ ([.int .i64 a.1, .slice oA1 a.2.length oc1] : List Value), u.oneCell' = true := (by intro u hu; simp only [List.mem_cons, List.not_mem_nil, or_false] at hu; rcases hu with rfl | rfl <;> rfl); have t1 : (l.take j).length + 1 ≤ maxLen := (by simp only [maxLen]; have := HLN.out; omega); have t2 : ((l.take j).length + 1) * 32 ≤ 140737488355328 := (by have := HLN.out; omega); have t3 := hBx.size; have hS2 : Src (w1.alloc (.cells [.int .i64 a.1, .slice oA1 a.2.length oc1].toArray 151)) 2 (some ⟨w1.heap.size, 0, none⟩) 1 [.int .i64 a.1, .slice oA1 a.2.length oc1] := Src.of_box w1 151 [.int .i64 a.1, .slice oA1 a.2.length oc1] (K := 2) rfl; refine wpList_app _ rfl (.tmp 14) (.tmp 18) _ rfl w.heap.size 151 i1 _ 2 32 Tryz.underlying107 hj0 hj1 hj2 hj3 tz (by omega) u5 _ xs rfl hrow _ 1 1 [.int .i64 a.1, .slice oA1 a.2.length oc1] rfl hS2 t0 t1 t2 (by omega) ?_; intro v2 w2 hown2 hgr2 hat2; have hOel : tLetter.O (w1.alloc (.cells [.int .i64 a.1, .slice oA1 a.2.length oc1].toArray 151)) [.int .i64 a.1, .slice oA1 a.2.length oc1] a Fd := Ty.below (t := tLetter) hOk (belx); have hNel : New w.heap.size Fd := hNd.lower (by omega); have hdis : ∀ f ∈ Fd, f ∉ F := (fun f h1 h2 => by have := hNd.2 _ h1; have := hlt2 f h2; omega); have hod : ∀ b, u5.ownBlock = some b → b ∉ Fd := (fun b hb hx => by have := (hOwn b hb).2; have := hNd.2 _ hx; omega); have hfin := hpush w2 v2 a _ Fd hOel hNel hdis hod hown2 hgr2 hat2; have hBf : Bel w w2 := Below.grown (bel_trans hB hBx) hgr2 (by have := hBx.size; omega) (fun b hb => (hOwn b hb).1))
   go_roundw
   case rel => exact ⟨j + 1, _, by omega, by go_num, by rw [HT.out]; exact hfin, hBf⟩
   case measure => simp [RowKit.intOf]; omega
  ·obtain rfl : n = j := by omega
   have HA := Lib.hid (show l.take n = l from List.take_of_length_le (Nat.le_of_eq HL.out))
   rw [HA.out] at hG
   obtain ⟨A3, c3, rfl⟩ := hG.shape
   go_wp2
   go_ret
   exact ⟨A3, c3, F, rfl, hG, hB⟩
theorem i_eachLetterC {w : World} {n c : Nat} {A : Option Addr} {l : List DLetter} (F : Nat) (hE : ∀ (cs : Array Value) (w : World), Sem.run Tryz.prog (callFunc F #[Value.agg cs]) w = .ok (.enter F #[Value.agg cs]) w)
  (hF : ∀ (i : Nat) (a : DLetter) (w' : World) (cs : List Value), l[i]? = some a → Bel w w' → tLetter.R w' w'.heap.size cs a → Calls Tryz.prog F #[.agg cs.toArray] w' fun e w2 => ∃ cs' Fa, e = .returned (.agg cs'.toArray) ∧ tLetter.O w2 cs' a Fa ∧ New w'.heap.size Fa ∧ Bel w' w2)
  (h : tLetter.row.R w w.heap.size [.slice A n c] l) (hn : n ≤ 1048576) :
  Calls Tryz.prog 148 #[.slice A n c, .func (.func F) #[] #[]] w fun e w' => ∃ A' c' F, e = .returned (.slice A' l.length c') ∧ tLetter.row.O w' [.slice A' l.length c'] l F ∧ New w.heap.size F ∧ Bel w w' :=
 (i_eachLetterG F hE hF h hn).mono fun e w' ⟨A', c', F', he, hG, hB⟩ => by
  obtain ⟨A3, c3, F3, e3, hO3, hN3⟩ := hG.done
  injection e3 with e31 e32 e33
  subst e31 e33
  exact ⟨_, _, F3, he, hO3, hN3, hB⟩

set_option maxHeartbeats 2000000 in
theorem i_MailCopy {w : World} {cs : List Value} {p : DMail} (h : tMail.R w w.heap.size cs p) (hz : szMail p ≤ 1048576) :
  Calls Tryz.prog 71 #[.agg cs.toArray] w fun e w' => ∃ cs' F, e = .returned (.agg cs'.toArray) ∧ tMail.O w' cs' p F ∧ New w.heap.size F ∧ Bel w w' := by
 obtain ⟨A1, n1, c1, rfl, i0, -, -, -, r1⟩ := openMail h
 have hI := (slR_ints r1).1
 have hn : n1 ≤ 1048576 := by rw [← hI.1]; simpa [szMail, szCell] using hz
 go_enter Tryz.func71, Tryz.ntmps71
 go_wp2_with fail
 refine (i_copiedB5 (reach hI ?hB) hn).mono ?_
 case hB => exact (belx)
 rintro e w1 ⟨v, rfl, hO, hb1⟩
 obtain ⟨A, c, F, rfl, hO3, hN⟩ := own_slice hO
 clear hO
 have z1 : w.heap.size + 2 ≤ w1.heap.size := by have h : (World.alloc (World.alloc w _) _).heap.size ≤ w1.heap.size := hb1.size; simpa using h
 have P1 : Box w1 w.heap.size 62 #[.int .i64 p.1, .slice A1 n1 c1] := Box.below ((Box.new w _ _).alloc _) hb1 (by simp; omega)
 have R1 : Box w1 (w.heap.size + 1) 62 #[.int .i64 0, .slice none 0 0] := Box.below (by simpa using Box.new (w.alloc _) 62 #[.int .i64 0, .slice none 0 0]) hb1 (by simp)
 have hM : New (w.heap.size + 2) F := hN.lower (by simp)
 have hB1 : Bel w w1 := bel_trans (belx) hb1
 have p0 := P1.cell 0
 have x0 := R1.cell 0
 have g0 := R1.frozen 0
 have p1 := P1.cell 1
 have x1 := R1.cell 1
 have g1 := R1.frozen 1
 have f1 := P1.frozen 1
 go_wp2
 have RR := (((R1.far (p := ⟨w.heap.size, 1, none⟩) (by simp) (.slice A p.2.length c)).put 0 (.int .i64 p.1)).put 1 (.slice A p.2.length c))
 have y0 := RR.cell 0
 have y1 := RR.cell 1
 have u := Ty.far (t := tBy) (Ty.far (t := tBy) (Ty.far (t := tBy) hO3 hM (p := ⟨w.heap.size, 1, none⟩) fsz (.slice A p.2.length c)) hM (p := ⟨w.heap.size + 1, 0, none⟩) fsz (.int .i64 p.1)) hM (p := ⟨w.heap.size + 1, 1, none⟩) fsz (.slice A p.2.length c)
 obtain ⟨Fx, hX, rfl⟩ := makeOMail (p := p) i0 u
 refine bodyPost_ret (v := .agg #[.int .i64 p.1, .slice A p.2.length c]) (by simp [results, Tryz.results71, go_sem, y0, y1]) rfl ⟨_, _, rfl, hX, hM.lower (by omega), ?_⟩
 exact bel_put (bel_put (bel_put hB1 (by simp) _) (by simp) _) (by simp) _

set_option maxHeartbeats 2000000 in
theorem i_eachMailG {w : World} {n c : Nat} {A : Option Addr} {l : List DMail} (F : Nat) (hE : ∀ (cs : Array Value) (w : World), Sem.run Tryz.prog (callFunc F #[Value.agg cs]) w = .ok (.enter F #[Value.agg cs]) w)
  (hF : ∀ (i : Nat) (a : DMail) (w' : World) (cs : List Value), l[i]? = some a → Bel w w' → tMail.R w' w'.heap.size cs a → Calls Tryz.prog F #[.agg cs.toArray] w' fun e w2 => ∃ cs' Fa, e = .returned (.agg cs'.toArray) ∧ tMail.O w2 cs' a Fa ∧ New w'.heap.size Fa ∧ Bel w' w2)
  (h : tMail.row.R w w.heap.size [.slice A n c] l) (hn : n ≤ 1048576) :
  Calls Tryz.prog 110 #[.slice A n c, .func (.func F) #[] #[]] w fun e w' => ∃ A' c' F, e = .returned (.slice A' l.length c') ∧ GrowO tMail 62 w' w.heap.size (.slice A' l.length c') l F ∧ Bel w w' := by
 obtain ⟨i1, hj0, hj1, hj2, hj3⟩ := info_parts info_Mail
 obtain ⟨e0, _, _⟩ := rowR_len h
 have HL := Lib.hid e0
 have HF := Lib.hid hF
 have HE := Lib.hid hE
 clear e0 hF hE
 go_enter Tryz.func110, Tryz.ntmps110
 go_wp2_with fail
 go_loopw [5, 10] (fun v i wr => ∃ (j : Nat) (F : List Nat), j ≤ n ∧ i = .int .i64 j ∧ GrowO tMail 62 wr w.heap.size v (l.take j) F ∧ Bel w wr) (fun _ i _ => n - (RowKit.intOf i).toNat)
 case atStart => exact ⟨0, [], by omega, rfl, GrowO.nil, (belx)⟩
 case round =>
  obtain ⟨j, F, hj, rfl, hG, hB⟩ := hrel
  by_cases hlt : j < n
  ·obtain ⟨a, b', off, es, hl2, rfl, hb, hes, hR⟩ := rowR_at (K := 2) h hlt rfl
   have HA := Lib.hid hl2
   have HT := Lib.hid (take_sn hl2)
   have HLN := Lib.hid (show (l.take j).length = j from by rw [List.length_take, HL.out]; omega)
   clear hl2
   have hRk := hR
   obtain ⟨aA1, an1, ac1, rfl, ai0, -, -, -, ar1⟩ := openMail hR
   have e0 : wr.cell? ⟨b', off + j * 2, none⟩ = some (.int .i64 a.1) := cell_at hB hb (hes 0 (by omega))
   have e1 : wr.cell? ⟨b', off + j * 2 + 1, none⟩ = some (.slice aA1 an1 ac1) := cell_at hB hb (hes 1 (by omega))
   clear hes hR
   have zB := hB.size
   have hOwn := fun b hb => (GrowO.row hG).choose_spec.1.lt b hb
   have hlt2 := hG.lt
   go_wp2_with fail
   rw [HE.out, Oper.upon_enter]
   refine (HF.out j a _ _ HA.out ?hB (tMail.reach hRk ?hB2)).mono ?_
   case hB => exact bel_trans (a := w) hB (belx)
   case hB2 => exact bel_trans (a := w) hB (belx)
   rintro e w1 ⟨cs1, Fd, rfl, hOd, hNd', hb1⟩
   have hNd : New (wr.heap.size + 1) Fd := hNd'.lower (by simp)
   have hs1 : Bel wr w1 := bel_trans (belx) hb1
   have hOk := hOd
   obtain ⟨oA1, oc1, oF1, rfl, -, -, -, -, -⟩ := openOMail hOd
   clear hNd' hOd
   go_wp2_with (at_builtin; have hBx : Bel wr (w1.alloc (.cells [.int .i64 a.1, .slice oA1 a.2.length oc1].toArray 62)) := bel_alloc hs1 _; obtain ⟨xs, hrow, hpush⟩ := (hG.below hBx).row; have tz : (Value.agg #[Value.int .i64 0, Value.slice none 0 0]).cells.size = 2 := lev; have t0 : ∀ u ∈ ([.int .i64 a.1, .slice oA1 a.2.length oc1] : List Value), u.oneCell' = true := (by intro u hu; simp only [List.mem_cons, List.not_mem_nil, or_false] at hu; rcases hu with rfl | rfl <;> rfl); have t1 : (l.take j).length + 1 ≤ maxLen := (by simp only [maxLen]; have := HLN.out; omega); have t2 : ((l.take j).length + 1) * 32 ≤ 140737488355328 := (by have := HLN.out; omega); have t3 := hBx.size; have hS2 : Src (w1.alloc (.cells [.int .i64 a.1, .slice oA1 a.2.length oc1].toArray 62)) 2 (some ⟨w1.heap.size, 0, none⟩) 1 [.int .i64 a.1, .slice oA1 a.2.length oc1] := Src.of_box w1 62 [.int .i64 a.1, .slice oA1 a.2.length oc1] (K := 2) rfl; refine wpList_app _ rfl (.tmp 14) (.tmp 18) _ rfl w.heap.size 62 i1 _ 2 32 Tryz.underlying31 hj0 hj1 hj2 hj3 tz (by omega) u5 _ xs rfl hrow _ 1 1 [.int .i64 a.1, .slice oA1 a.2.length oc1] rfl hS2 t0 t1 t2 (by omega) ?_; intro v2 w2 hown2 hgr2 hat2; have hOel : tMail.O (w1.alloc (.cells [.int .i64 a.1, .slice oA1 a.2.length oc1].toArray 62)) [.int .i64 a.1, .slice oA1 a.2.length oc1] a Fd := Ty.below (t := tMail) hOk (belx); have hNel : New w.heap.size Fd := hNd.lower (by omega); have hdis : ∀ f ∈ Fd, f ∉ F := (fun f h1 h2 => by have := hNd.2 _ h1; have := hlt2 f h2; omega); have hod : ∀ b, u5.ownBlock = some b → b ∉ Fd := (fun b hb hx => by have := (hOwn b hb).2; have := hNd.2 _ hx; omega); have hfin := hpush w2 v2 a _ Fd hOel hNel hdis hod hown2 hgr2 hat2; have hBf : Bel w w2 := Below.grown (bel_trans hB hBx) hgr2 (by have := hBx.size; omega) (fun b hb => (hOwn b hb).1))
   go_roundw
   case rel => exact ⟨j + 1, _, by omega, by go_num, by rw [HT.out]; exact hfin, hBf⟩
   case measure => simp [RowKit.intOf]; omega
  ·obtain rfl : n = j := by omega
   have HA := Lib.hid (show l.take n = l from List.take_of_length_le (Nat.le_of_eq HL.out))
   rw [HA.out] at hG
   obtain ⟨A3, c3, rfl⟩ := hG.shape
   go_wp2
   go_ret
   exact ⟨A3, c3, F, rfl, hG, hB⟩
set_option maxHeartbeats 2000000 in
theorem i_SentCopy {w : World} {cs : List Value} {p : DSent} (h : tSent.R w w.heap.size cs p) (hz : szSent p ≤ 1048576) :
  Calls Tryz.prog 112 #[.agg cs.toArray] w fun e w' => ∃ cs' F, e = .returned (.agg cs'.toArray) ∧ tSent.O w' cs' p F ∧ New w.heap.size F ∧ Bel w w' := by
 obtain ⟨A2, n2, c2, rfl, i0, i1, -, -, -, r2⟩ := openSent h
 have hI := (slR_ints r2).1
 have hn : n2 ≤ 1048576 := by rw [← hI.1]; simpa [szSent, szCell] using hz
 go_enter Tryz.func112, Tryz.ntmps112
 go_wp2_with fail
 refine (i_copiedB5 (reach hI ?hB) hn).mono ?_
 case hB => exact (belx)
 rintro e w1 ⟨v, rfl, hO, hb1⟩
 obtain ⟨A, c, F, rfl, hO3, hN⟩ := own_slice hO
 clear hO
 have z1 : w.heap.size + 2 ≤ w1.heap.size := by have h : (World.alloc (World.alloc w _) _).heap.size ≤ w1.heap.size := hb1.size; simpa using h
 have P1 : Box w1 w.heap.size 111 #[.int .i64 p.1, .int .i64 p.2.1, .slice A2 n2 c2] := Box.below ((Box.new w _ _).alloc _) hb1 (by simp; omega)
 have R1 : Box w1 (w.heap.size + 1) 111 #[.int .i64 0, .int .i64 0, .slice none 0 0] := Box.below (by simpa using Box.new (w.alloc _) 111 #[.int .i64 0, .int .i64 0, .slice none 0 0]) hb1 (by simp)
 have hM : New (w.heap.size + 2) F := hN.lower (by simp)
 have hB1 : Bel w w1 := bel_trans (belx) hb1
 have p0 := P1.cell 0
 have x0 := R1.cell 0
 have g0 := R1.frozen 0
 have p1 := P1.cell 1
 have x1 := R1.cell 1
 have g1 := R1.frozen 1
 have p2 := P1.cell 2
 have x2 := R1.cell 2
 have g2 := R1.frozen 2
 have f2 := P1.frozen 2
 go_wp2
 have RR := ((((R1.far (p := ⟨w.heap.size, 2, none⟩) (by simp) (.slice A p.2.2.length c)).put 0 (.int .i64 p.1)).put 1 (.int .i64 p.2.1)).put 2 (.slice A p.2.2.length c))
 have y0 := RR.cell 0
 have y1 := RR.cell 1
 have y2 := RR.cell 2
 have u := Ty.far (t := tBy) (Ty.far (t := tBy) (Ty.far (t := tBy) (Ty.far (t := tBy) hO3 hM (p := ⟨w.heap.size, 2, none⟩) fsz (.slice A p.2.2.length c)) hM (p := ⟨w.heap.size + 1, 0, none⟩) fsz (.int .i64 p.1)) hM (p := ⟨w.heap.size + 1, 1, none⟩) fsz (.int .i64 p.2.1)) hM (p := ⟨w.heap.size + 1, 2, none⟩) fsz (.slice A p.2.2.length c)
 obtain ⟨Fx, hX, rfl⟩ := makeOSent (p := p) i0 i1 u
 refine bodyPost_ret (v := .agg #[.int .i64 p.1, .int .i64 p.2.1, .slice A p.2.2.length c]) (by simp [results, Tryz.results112, go_sem, y0, y1, y2]) rfl ⟨_, _, rfl, hX, hM.lower (by omega), ?_⟩
 exact bel_put (bel_put (bel_put (bel_put hB1 (by simp) _) (by simp) _) (by simp) _) (by simp) _

set_option maxHeartbeats 2000000 in
theorem i_eachSentG {w : World} {n c : Nat} {A : Option Addr} {l : List DSent} (F : Nat) (hE : ∀ (cs : Array Value) (w : World), Sem.run Tryz.prog (callFunc F #[Value.agg cs]) w = .ok (.enter F #[Value.agg cs]) w)
  (hF : ∀ (i : Nat) (a : DSent) (w' : World) (cs : List Value), l[i]? = some a → Bel w w' → tSent.R w' w'.heap.size cs a → Calls Tryz.prog F #[.agg cs.toArray] w' fun e w2 => ∃ cs' Fa, e = .returned (.agg cs'.toArray) ∧ tSent.O w2 cs' a Fa ∧ New w'.heap.size Fa ∧ Bel w' w2)
  (h : tSent.row.R w w.heap.size [.slice A n c] l) (hn : n ≤ 1048576) :
  Calls Tryz.prog 111 #[.slice A n c, .func (.func F) #[] #[]] w fun e w' => ∃ A' c' F, e = .returned (.slice A' l.length c') ∧ GrowO tSent 111 w' w.heap.size (.slice A' l.length c') l F ∧ Bel w w' := by
 obtain ⟨i1, hj0, hj1, hj2, hj3⟩ := info_parts info_Sent
 obtain ⟨e0, _, _⟩ := rowR_len h
 have HL := Lib.hid e0
 have HF := Lib.hid hF
 have HE := Lib.hid hE
 clear e0 hF hE
 go_enter Tryz.func111, Tryz.ntmps111
 go_wp2_with fail
 go_loopw [5, 10] (fun v i wr => ∃ (j : Nat) (F : List Nat), j ≤ n ∧ i = .int .i64 j ∧ GrowO tSent 111 wr w.heap.size v (l.take j) F ∧ Bel w wr) (fun _ i _ => n - (RowKit.intOf i).toNat)
 case atStart => exact ⟨0, [], by omega, rfl, GrowO.nil, (belx)⟩
 case round =>
  obtain ⟨j, F, hj, rfl, hG, hB⟩ := hrel
  by_cases hlt : j < n
  ·obtain ⟨a, b', off, es, hl2, rfl, hb, hes, hR⟩ := rowR_at (K := 3) h hlt rfl
   have HA := Lib.hid hl2
   have HT := Lib.hid (take_sn hl2)
   have HLN := Lib.hid (show (l.take j).length = j from by rw [List.length_take, HL.out]; omega)
   clear hl2
   have hRk := hR
   obtain ⟨aA2, an2, ac2, rfl, ai0, ai1, -, -, -, ar2⟩ := openSent hR
   have e0 : wr.cell? ⟨b', off + j * 3, none⟩ = some (.int .i64 a.1) := cell_at hB hb (hes 0 (by omega))
   have e1 : wr.cell? ⟨b', off + j * 3 + 1, none⟩ = some (.int .i64 a.2.1) := cell_at hB hb (hes 1 (by omega))
   have e2 : wr.cell? ⟨b', off + j * 3 + 2, none⟩ = some (.slice aA2 an2 ac2) := cell_at hB hb (hes 2 (by omega))
   clear hes hR
   have zB := hB.size
   have hOwn := fun b hb => (GrowO.row hG).choose_spec.1.lt b hb
   have hlt2 := hG.lt
   go_wp2_with fail
   rw [HE.out, Oper.upon_enter]
   refine (HF.out j a _ _ HA.out ?hB (tSent.reach hRk ?hB2)).mono ?_
   case hB => exact bel_trans (a := w) hB (belx)
   case hB2 => exact bel_trans (a := w) hB (belx)
   rintro e w1 ⟨cs1, Fd, rfl, hOd, hNd', hb1⟩
   have hNd : New (wr.heap.size + 1) Fd := hNd'.lower (by simp)
   have hs1 : Bel wr w1 := bel_trans (belx) hb1
   have hOk := hOd
   obtain ⟨oA2, oc2, oF2, rfl, -, -, -, -, -, -⟩ := openOSent hOd
   clear hNd' hOd
   go_wp2_with (at_builtin; have hBx : Bel wr (w1.alloc (.cells [.int .i64 a.1, .int .i64 a.2.1, .slice oA2 a.2.2.length oc2].toArray 111)) := bel_alloc hs1 _; obtain ⟨xs, hrow, hpush⟩ := (hG.below hBx).row; have tz : (Value.agg #[Value.int .i64 0, Value.int .i64 0, Value.slice none 0 0]).cells.size = 3 := lev; have t0 : ∀ u ∈ ([.int .i64 a.1, .int .i64 a.2.1, .slice oA2 a.2.2.length oc2] : List Value), u.oneCell' = true := (by intro u hu; simp only [List.mem_cons, List.not_mem_nil, or_false] at hu; rcases hu with rfl | rfl | rfl <;> rfl); have t1 : (l.take j).length + 1 ≤ maxLen := (by simp only [maxLen]; have := HLN.out; omega); have t2 : ((l.take j).length + 1) * 40 ≤ 140737488355328 := (by have := HLN.out; omega); have t3 := hBx.size; have hS2 : Src (w1.alloc (.cells [.int .i64 a.1, .int .i64 a.2.1, .slice oA2 a.2.2.length oc2].toArray 111)) 3 (some ⟨w1.heap.size, 0, none⟩) 1 [.int .i64 a.1, .int .i64 a.2.1, .slice oA2 a.2.2.length oc2] := Src.of_box w1 111 [.int .i64 a.1, .int .i64 a.2.1, .slice oA2 a.2.2.length oc2] (K := 3) rfl; refine wpList_app _ rfl (.tmp 14) (.tmp 18) _ rfl w.heap.size 111 i1 _ 3 40 Tryz.underlying32 hj0 hj1 hj2 hj3 tz (by omega) u5 _ xs rfl hrow _ 1 1 [.int .i64 a.1, .int .i64 a.2.1, .slice oA2 a.2.2.length oc2] rfl hS2 t0 t1 t2 (by omega) ?_; intro v2 w2 hown2 hgr2 hat2; have hOel : tSent.O (w1.alloc (.cells [.int .i64 a.1, .int .i64 a.2.1, .slice oA2 a.2.2.length oc2].toArray 111)) [.int .i64 a.1, .int .i64 a.2.1, .slice oA2 a.2.2.length oc2] a Fd := Ty.below (t := tSent) hOk (belx); have hNel : New w.heap.size Fd := hNd.lower (by omega); have hdis : ∀ f ∈ Fd, f ∉ F := (fun f h1 h2 => by have := hNd.2 _ h1; have := hlt2 f h2; omega); have hod : ∀ b, u5.ownBlock = some b → b ∉ Fd := (fun b hb hx => by have := (hOwn b hb).2; have := hNd.2 _ hx; omega); have hfin := hpush w2 v2 a _ Fd hOel hNel hdis hod hown2 hgr2 hat2; have hBf : Bel w w2 := Below.grown (bel_trans hB hBx) hgr2 (by have := hBx.size; omega) (fun b hb => (hOwn b hb).1))
   go_roundw
   case rel => exact ⟨j + 1, _, by omega, by go_num, by rw [HT.out]; exact hfin, hBf⟩
   case measure => simp [RowKit.intOf]; omega
  ·obtain rfl : n = j := by omega
   have HA := Lib.hid (show l.take n = l from List.take_of_length_le (Nat.le_of_eq HL.out))
   rw [HA.out] at hG
   obtain ⟨A3, c3, rfl⟩ := hG.shape
   go_wp2
   go_ret
   exact ⟨A3, c3, F, rfl, hG, hB⟩
end Go.Proofs.YtkdanlnhdgcplaaGreat
namespace Go.Proofs.YtkdanlnhdgcplaaGreat
set_option maxRecDepth 100000
set_option linter.unusedVariables false
set_option linter.unusedSimpArgs false
open Go.ChangeShapes Go.WideShapes Go.ChangeAt Go.RowKit
open Fld
set_option maxHeartbeats 2000000 in
theorem i_WholeCopy {w : World} {cs : List Value} {p : DWhole} (h : tWhole.R w w.heap.size cs p) (hz : szWhole p ≤ 1048576) :
  Calls Tryz.prog 182 #[.agg cs.toArray] w fun e w' => ∃ cs' F, e = .returned (.agg cs'.toArray) ∧ tWhole.O w' cs' p F ∧ New w.heap.size F ∧ Bel w w' := by
 obtain ⟨A3, n3, c3, rfl, i0, i1, i2, -, -, -, r3⟩ := openWhole h
 have hn : n3 ≤ 1048576 := by have := rsz_le (s := szPiece) p.2.2.2; have := (rowR_len r3).1; unfold szWhole at hz; omega
 have HSZ := Lib.hid (show ∀ (i : Nat) (a : DPiece), (p.2.2.2)[i]? = some a → szPiece a ≤ 1048576 from fun i a ha => by have := rsz_step (s := szPiece) ha; unfold szWhole at hz; omega)
 go_enter Tryz.func182, Tryz.ntmps182
 go_wp2_with fail
 refine (i_eachPieceC 206 (fun _ _ => rfl) (fun i a w' cs ha hB hR => i_PieceCopy hR (HSZ.out i a ha)) (tPiece.row.reach r3 ?hB) hn).mono ?_
 case hB => exact (belx)
 rintro e w1 ⟨A, c, F, rfl, hO3, hN, hb1⟩
 have z1 : w.heap.size + 2 ≤ w1.heap.size := by have h : (World.alloc (World.alloc w _) _).heap.size ≤ w1.heap.size := hb1.size; simpa using h
 have P1 : Box w1 w.heap.size 177 #[.int .i64 p.1, .int .i64 p.2.1, .int .i64 p.2.2.1, .slice A3 n3 c3] := Box.below ((Box.new w _ _).alloc _) hb1 (by simp; omega)
 have R1 : Box w1 (w.heap.size + 1) 177 #[.int .i64 0, .int .i64 0, .int .i64 0, .slice none 0 0] := Box.below (by simpa using Box.new (w.alloc _) 177 #[.int .i64 0, .int .i64 0, .int .i64 0, .slice none 0 0]) hb1 (by simp)
 have hM : New (w.heap.size + 2) F := hN.lower (by simp)
 have hB1 : Bel w w1 := bel_trans (belx) hb1
 have p0 := P1.cell 0
 have x0 := R1.cell 0
 have g0 := R1.frozen 0
 have p1 := P1.cell 1
 have x1 := R1.cell 1
 have g1 := R1.frozen 1
 have p2 := P1.cell 2
 have x2 := R1.cell 2
 have g2 := R1.frozen 2
 have p3 := P1.cell 3
 have x3 := R1.cell 3
 have g3 := R1.frozen 3
 have f3 := P1.frozen 3
 go_wp2
 have RR := (((((R1.far (p := ⟨w.heap.size, 3, none⟩) (by simp) (.slice A p.2.2.2.length c)).put 0 (.int .i64 p.1)).put 1 (.int .i64 p.2.1)).put 2 (.int .i64 p.2.2.1)).put 3 (.slice A p.2.2.2.length c))
 have y0 := RR.cell 0
 have y1 := RR.cell 1
 have y2 := RR.cell 2
 have y3 := RR.cell 3
 have u := Ty.far (t := tPiece.row) (Ty.far (t := tPiece.row) (Ty.far (t := tPiece.row) (Ty.far (t := tPiece.row) (Ty.far (t := tPiece.row) hO3 hM (p := ⟨w.heap.size, 3, none⟩) fsz (.slice A p.2.2.2.length c)) hM (p := ⟨w.heap.size + 1, 0, none⟩) fsz (.int .i64 p.1)) hM (p := ⟨w.heap.size + 1, 1, none⟩) fsz (.int .i64 p.2.1)) hM (p := ⟨w.heap.size + 1, 2, none⟩) fsz (.int .i64 p.2.2.1)) hM (p := ⟨w.heap.size + 1, 3, none⟩) fsz (.slice A p.2.2.2.length c)
 obtain ⟨Fx, hX, rfl⟩ := makeOWhole (p := p) i0 i1 i2 u
 refine bodyPost_ret (v := .agg #[.int .i64 p.1, .int .i64 p.2.1, .int .i64 p.2.2.1, .slice A p.2.2.2.length c]) (by simp [results, Tryz.results182, go_sem, y0, y1, y2, y3]) rfl ⟨_, _, rfl, hX, hM.lower (by omega), ?_⟩
 exact bel_put (bel_put (bel_put (bel_put (bel_put hB1 (by simp) _) (by simp) _) (by simp) _) (by simp) _) (by simp) _

set_option maxHeartbeats 2000000 in
theorem i_eachWholeG {w : World} {n c : Nat} {A : Option Addr} {l : List DWhole} (F : Nat) (hE : ∀ (cs : Array Value) (w : World), Sem.run Tryz.prog (callFunc F #[Value.agg cs]) w = .ok (.enter F #[Value.agg cs]) w)
  (hF : ∀ (i : Nat) (a : DWhole) (w' : World) (cs : List Value), l[i]? = some a → Bel w w' → tWhole.R w' w'.heap.size cs a → Calls Tryz.prog F #[.agg cs.toArray] w' fun e w2 => ∃ cs' Fa, e = .returned (.agg cs'.toArray) ∧ tWhole.O w2 cs' a Fa ∧ New w'.heap.size Fa ∧ Bel w' w2)
  (h : tWhole.row.R w w.heap.size [.slice A n c] l) (hn : n ≤ 1048576) :
  Calls Tryz.prog 181 #[.slice A n c, .func (.func F) #[] #[]] w fun e w' => ∃ A' c' F, e = .returned (.slice A' l.length c') ∧ GrowO tWhole 177 w' w.heap.size (.slice A' l.length c') l F ∧ Bel w w' := by
 obtain ⟨i1, hj0, hj1, hj2, hj3⟩ := info_parts info_Whole
 obtain ⟨e0, _, _⟩ := rowR_len h
 have HL := Lib.hid e0
 have HF := Lib.hid hF
 have HE := Lib.hid hE
 clear e0 hF hE
 go_enter Tryz.func181, Tryz.ntmps181
 go_wp2_with fail
 go_loopw [5, 10] (fun v i wr => ∃ (j : Nat) (F : List Nat), j ≤ n ∧ i = .int .i64 j ∧ GrowO tWhole 177 wr w.heap.size v (l.take j) F ∧ Bel w wr) (fun _ i _ => n - (RowKit.intOf i).toNat)
 case atStart => exact ⟨0, [], by omega, rfl, GrowO.nil, (belx)⟩
 case round =>
  obtain ⟨j, F, hj, rfl, hG, hB⟩ := hrel
  by_cases hlt : j < n
  ·obtain ⟨a, b', off, es, hl2, rfl, hb, hes, hR⟩ := rowR_at (K := 4) h hlt rfl
   have HA := Lib.hid hl2
   have HT := Lib.hid (take_sn hl2)
   have HLN := Lib.hid (show (l.take j).length = j from by rw [List.length_take, HL.out]; omega)
   clear hl2
   have hRk := hR
   obtain ⟨aA3, an3, ac3, rfl, ai0, ai1, ai2, -, -, -, ar3⟩ := openWhole hR
   have e0 : wr.cell? ⟨b', off + j * 4, none⟩ = some (.int .i64 a.1) := cell_at hB hb (hes 0 (by omega))
   have e1 : wr.cell? ⟨b', off + j * 4 + 1, none⟩ = some (.int .i64 a.2.1) := cell_at hB hb (hes 1 (by omega))
   have e2 : wr.cell? ⟨b', off + j * 4 + 2, none⟩ = some (.int .i64 a.2.2.1) := cell_at hB hb (hes 2 (by omega))
   have e3 : wr.cell? ⟨b', off + j * 4 + 3, none⟩ = some (.slice aA3 an3 ac3) := cell_at hB hb (hes 3 (by omega))
   clear hes hR
   have zB := hB.size
   have hOwn := fun b hb => (GrowO.row hG).choose_spec.1.lt b hb
   have hlt2 := hG.lt
   go_wp2_with fail
   rw [HE.out, Oper.upon_enter]
   refine (HF.out j a _ _ HA.out ?hB (tWhole.reach hRk ?hB2)).mono ?_
   case hB => exact bel_trans (a := w) hB (belx)
   case hB2 => exact bel_trans (a := w) hB (belx)
   rintro e w1 ⟨cs1, Fd, rfl, hOd, hNd', hb1⟩
   have hNd : New (wr.heap.size + 1) Fd := hNd'.lower (by simp)
   have hs1 : Bel wr w1 := bel_trans (belx) hb1
   have hOk := hOd
   obtain ⟨oA3, oc3, oF3, rfl, -, -, -, -, -, -, -⟩ := openOWhole hOd
   clear hNd' hOd
   go_wp2_with (at_builtin; have hBx : Bel wr (w1.alloc (.cells [.int .i64 a.1, .int .i64 a.2.1, .int .i64 a.2.2.1, .slice oA3 a.2.2.2.length oc3].toArray 177)) := bel_alloc hs1 _; obtain ⟨xs, hrow, hpush⟩ := (hG.below hBx).row; have tz : (Value.agg #[Value.int .i64 0, Value.int .i64 0, Value.int .i64 0, Value.slice none 0 0]).cells.size = 4 := lev; have t0 : ∀ u ∈ ([.int .i64 a.1, .int .i64 a.2.1, .int .i64 a.2.2.1, .slice oA3 a.2.2.2.length oc3] : List Value), u.oneCell' = true := (by intro u hu; simp only [List.mem_cons, List.not_mem_nil, or_false] at hu; rcases hu with rfl | rfl | rfl | rfl <;> rfl); have t1 : (l.take j).length + 1 ≤ maxLen := (by simp only [maxLen]; have := HLN.out; omega); have t2 : ((l.take j).length + 1) * 48 ≤ 140737488355328 := (by have := HLN.out; omega); have t3 := hBx.size; have hS2 : Src (w1.alloc (.cells [.int .i64 a.1, .int .i64 a.2.1, .int .i64 a.2.2.1, .slice oA3 a.2.2.2.length oc3].toArray 177)) 4 (some ⟨w1.heap.size, 0, none⟩) 1 [.int .i64 a.1, .int .i64 a.2.1, .int .i64 a.2.2.1, .slice oA3 a.2.2.2.length oc3] := Src.of_box w1 177 [.int .i64 a.1, .int .i64 a.2.1, .int .i64 a.2.2.1, .slice oA3 a.2.2.2.length oc3] (K := 4) rfl; refine wpList_app _ rfl (.tmp 14) (.tmp 18) _ rfl w.heap.size 177 i1 _ 4 48 Tryz.underlying104 hj0 hj1 hj2 hj3 tz (by omega) u5 _ xs rfl hrow _ 1 1 [.int .i64 a.1, .int .i64 a.2.1, .int .i64 a.2.2.1, .slice oA3 a.2.2.2.length oc3] rfl hS2 t0 t1 t2 (by omega) ?_; intro v2 w2 hown2 hgr2 hat2; have hOel : tWhole.O (w1.alloc (.cells [.int .i64 a.1, .int .i64 a.2.1, .int .i64 a.2.2.1, .slice oA3 a.2.2.2.length oc3].toArray 177)) [.int .i64 a.1, .int .i64 a.2.1, .int .i64 a.2.2.1, .slice oA3 a.2.2.2.length oc3] a Fd := Ty.below (t := tWhole) hOk (belx); have hNel : New w.heap.size Fd := hNd.lower (by omega); have hdis : ∀ f ∈ Fd, f ∉ F := (fun f h1 h2 => by have := hNd.2 _ h1; have := hlt2 f h2; omega); have hod : ∀ b, u5.ownBlock = some b → b ∉ Fd := (fun b hb hx => by have := (hOwn b hb).2; have := hNd.2 _ hx; omega); have hfin := hpush w2 v2 a _ Fd hOel hNel hdis hod hown2 hgr2 hat2; have hBf : Bel w w2 := Below.grown (bel_trans hB hBx) hgr2 (by have := hBx.size; omega) (fun b hb => (hOwn b hb).1))
   go_roundw
   case rel => exact ⟨j + 1, _, by omega, by go_num, by rw [HT.out]; exact hfin, hBf⟩
   case measure => simp [RowKit.intOf]; omega
  ·obtain rfl : n = j := by omega
   have HA := Lib.hid (show l.take n = l from List.take_of_length_le (Nat.le_of_eq HL.out))
   rw [HA.out] at hG
   obtain ⟨A3, c3, rfl⟩ := hG.shape
   go_wp2
   go_ret
   exact ⟨A3, c3, F, rfl, hG, hB⟩
theorem i_eachWholeC {w : World} {n c : Nat} {A : Option Addr} {l : List DWhole} (F : Nat) (hE : ∀ (cs : Array Value) (w : World), Sem.run Tryz.prog (callFunc F #[Value.agg cs]) w = .ok (.enter F #[Value.agg cs]) w)
  (hF : ∀ (i : Nat) (a : DWhole) (w' : World) (cs : List Value), l[i]? = some a → Bel w w' → tWhole.R w' w'.heap.size cs a → Calls Tryz.prog F #[.agg cs.toArray] w' fun e w2 => ∃ cs' Fa, e = .returned (.agg cs'.toArray) ∧ tWhole.O w2 cs' a Fa ∧ New w'.heap.size Fa ∧ Bel w' w2)
  (h : tWhole.row.R w w.heap.size [.slice A n c] l) (hn : n ≤ 1048576) :
  Calls Tryz.prog 181 #[.slice A n c, .func (.func F) #[] #[]] w fun e w' => ∃ A' c' F, e = .returned (.slice A' l.length c') ∧ tWhole.row.O w' [.slice A' l.length c'] l F ∧ New w.heap.size F ∧ Bel w w' :=
 (i_eachWholeG F hE hF h hn).mono fun e w' ⟨A', c', F', he, hG, hB⟩ => by
  obtain ⟨A3, c3, F3, e3, hO3, hN3⟩ := hG.done
  injection e3 with e31 e32 e33
  subst e31 e33
  exact ⟨_, _, F3, he, hO3, hN3, hB⟩

theorem put2_Desk {w : World} {g : Nat} {v0 v1 : Value} {r0 : List DWhole} {l1 : List Int} {F0 F1 : List Nat} (h0 : tWhole.row.O w [v0] r0 F0) (h1 : tIs.O w [v1] l1 F1) (hg : g ∉ F0 ++ F1) :
  tDesk.O ((w.setCell ⟨g, 0, none⟩ v0).setCell ⟨g, 1, none⟩ v1) [v0, v1] (r0, l1) (F0 ++ F1) := by
 have g0 : g ∉ F0 := fun h => hg (List.mem_append.2 (.inl h))
 have g1 : g ∉ F1 := fun h => hg (List.mem_append.2 (.inr h))
 obtain ⟨F, hF, rfl⟩ := makeODesk (p := (r0, l1)) (Ty.far3 (t := tWhole.row) (Ty.far3 (t := tWhole.row) h0 (p := ⟨g, 0, none⟩) g0 v0) (p := ⟨g, 1, none⟩) g0 v1) (Ty.far3 (t := tIs) (Ty.far3 (t := tIs) h1 (p := ⟨g, 0, none⟩) g1 v0) (p := ⟨g, 1, none⟩) g1 v1)
 exact hF
set_option maxHeartbeats 2000000 in
theorem i_DkCopy {w : World} {A0 A1 : Option Addr} {n0 c0 n1 c1 : Nat} {r0 : List DWhole} {l1 : List Int} (h0 : tWhole.row.R w w.heap.size [.slice A0 n0 c0] r0) (h1 : tIs.R w w.heap.size [.slice A1 n1 c1] l1) (hz : rsz szWhole r0 + l1.length ≤ 1048576) :
  Calls Tryz.prog 147 #[.agg #[.slice A0 n0 c0, .slice A1 n1 c1]] w fun e w' => ∃ A0' c0' A1' c1' F, e = .returned (.agg #[.slice A0' r0.length c0', .slice A1' l1.length c1']) ∧ tDesk.O w' [.slice A0' r0.length c0', .slice A1' l1.length c1'] (r0, l1) F ∧ New w.heap.size F ∧ Bel w w' := by
 have hI1 := (slR_ints h1).1
 have hn0 : n0 ≤ 1048576 := by have := rsz_le (s := szWhole) r0; have := (rowR_len h0).1; omega
 have HSZ := Lib.hid (show ∀ (i : Nat) (a : DWhole), r0[i]? = some a → szWhole a ≤ 1048576 from fun i a ha => by have := rsz_step (s := szWhole) ha; omega)
 have hn1 : n1 ≤ 1048576 := by have := hI1.1; omega
 have k0 : ((w.alloc (.cells #[.slice A0 n0 c0, .slice A1 n1 c1] 106)).alloc (.cells #[.slice none 0 0, .slice none 0 0] 106)).cell? ⟨w.heap.size, 0, none⟩ = some (.slice A0 n0 c0) := ((Box.new w _ _).alloc _).cell 0
 have k1 : ((w.alloc (.cells #[.slice A0 n0 c0, .slice A1 n1 c1] 106)).alloc (.cells #[.slice none 0 0, .slice none 0 0] 106)).cell? ⟨w.heap.size, 1, none⟩ = some (.slice A1 n1 c1) := ((Box.new w _ _).alloc _).cell 1
 clear h1
 go_enter Tryz.func147, Tryz.ntmps147
 go_wp2_with fail
 go_region_held3 (fun w' => w'.cell? ⟨w.heap.size, 0, none⟩ = some (.slice A0 n0 c0) ∧ w'.cell? ⟨w.heap.size, 1, none⟩ = some (.slice A1 n1 c1)) (first | (exact ⟨k0, k1⟩) | (exact ⟨x0, x1⟩) | (exact ⟨y0, y1⟩) | go_keep)
  (first
   | (go_at_call 181; refine (i_eachWholeC 182 (fun _ _ => rfl) (fun i a w' cs ha hB hR => i_WholeCopy hR (HSZ.out i a ha)) (tWhole.row.reach h0 (belx)) hn0).mono ?_; rintro e w1 ⟨B0, d0, F0, rfl, hO0, hN0, hb1⟩; have X1 : Box w1 w.heap.size 106 #[.slice A0 n0 c0, .slice A1 n1 c1] := Box.below (Box.drew ((Box.new w _ _).alloc _)) hb1 (by show _ < (World.alloc _ _).heap.size; simp; omega); have Y1 : Box w1 (w.heap.size + 1) 106 #[.slice none 0 0, .slice none 0 0] := Box.below (Box.drew (by simpa using Box.new (w.alloc _) 106 #[.slice none 0 0, .slice none 0 0])) hb1 (by show _ < (World.alloc _ _).heap.size; simp); have x0 := X1.cell 0; have x1 := X1.cell 1; have hB1 : Bel w w1 := bel_trans (belx) hb1; have z1 : w.heap.size + 2 ≤ w1.heap.size := (by have : (World.alloc (World.alloc w _) _).heap.size ≤ w1.heap.size := hb1.size; simpa using this))
   | (go_at_call 180; refine (i_copiedI5 (reach hI1 (bel_trans hB1 (belx))) hn1).mono ?_; rintro e w2 ⟨v2, rfl, hO1, hb2⟩; obtain ⟨B1, d1, F1, rfl, hOd, hNd⟩ := own_slice hO1; have X2 := X1.below hb2 X1.size; have y0 := X2.cell 0; have y1 := X2.cell 1; have Y2 := Y1.below hb2 Y1.size; have q0 := Y2.cell 0; have q1 := Y2.cell 1; have f0 := Y2.frozen 0; have f1 := Y2.frozen 1))
 go_wp2
 have RR := (Y2.put 0 (.slice B0 r0.length d0)).put 1 (.slice B1 l1.length d1)
 have e0 := RR.cell 0; have e1 := RR.cell 1
 have hM : New (w.heap.size + 2) (F0 ++ F1) := New.app (hN0.lower (by show _ ≤ (World.alloc _ _).heap.size; first | (simp; done) | (simp; omega))) (hNd.lower (Nat.le_refl _)) (by omega) (fun f hf => tWhole.row.lt hO0 f hf)
 refine bodyPost_ret (v := .agg #[.slice B0 r0.length d0, .slice B1 l1.length d1]) (by simp [results, Tryz.results147, go_sem, e0, e1]) rfl ⟨B0, d0, B1, d1, F0 ++ F1, rfl, put2_Desk (Ty.below (t := tWhole.row) hO0 hb2) hOd (hM.not (by omega)), hM.lower (by omega), ?_⟩
 exact bel_put (bel_put (bel_trans hB1 hb2) (by simp) _) (by simp) _
theorem i_DeskCopy {w : World} {cs : List Value} {p : DDesk} (h : tDesk.R w w.heap.size cs p) (hz : szDesk p ≤ 1048576) :
  Calls Tryz.prog 147 #[.agg cs.toArray] w fun e w' => ∃ cs' F, e = .returned (.agg cs'.toArray) ∧ tDesk.O w' cs' p F ∧ New w.heap.size F ∧ Bel w w' := by
 obtain ⟨A0, n0, c0, A1, n1, c1, rfl, -, -, -, hr0, -, -, -, hr1⟩ := openDesk h
 refine (i_DkCopy hr0 hr1 hz).mono ?_
 rintro e w' ⟨A0', c0', A1', c1', F, rfl, hO, hN, hB⟩
 exact ⟨_, F, rfl, hO, hN, hB⟩

end Go.Proofs.YtkdanlnhdgcplaaGreat
namespace Go.Proofs.YtkdanlnhdgcplaaGreat
set_option maxRecDepth 100000
set_option linter.unusedVariables false
set_option linter.unusedSimpArgs false
open Go.ChangeShapes Go.WideShapes Go.ChangeAt Go.RowKit
open Fld
set_option maxHeartbeats 2000000 in
theorem i_NodeCopy {w : World} {cs : List Value} {p : DNode} (h : tNode.R w w.heap.size cs p) (hz : szNode p ≤ 1048576) :
  Calls Tryz.prog 109 #[.agg cs.toArray] w fun e w' => ∃ cs' F, e = .returned (.agg cs'.toArray) ∧ tNode.O w' cs' p F ∧ New w.heap.size F ∧ Bel w w' := by
 obtain ⟨A2, n2, c2, A3, n3, c3, A4, n4, c4, A5, n5, c5, A6, n6, c6, rfl, i0, i1, r2, r4, r6⟩ := fopenNode h
 have hz2 : szPool p.2.2.1 ≤ 1048576 := by unfold szNode at hz; omega
 have hz4 : szDesk p.2.2.2.1 ≤ 1048576 := by unfold szNode at hz; omega
 have hz6 : rsz szLetter p.2.2.2.2 ≤ 1048576 := by unfold szNode at hz; omega
 have hn6 : n6 ≤ 1048576 := by have := rsz_le (s := szLetter) p.2.2.2.2; have := (rowR_len r6).1; omega
 have HSZ := Lib.hid (show ∀ (i : Nat) (a : DLetter), (p.2.2.2.2)[i]? = some a → szLetter a ≤ 1048576 from fun i a ha => by have := rsz_step (s := szLetter) ha; omega)
 have k0 : ((w.alloc (.cells #[.int .i64 p.1, .int .i64 p.2.1, .slice A2 n2 c2, .slice A3 n3 c3, .slice A4 n4 c4, .slice A5 n5 c5, .slice A6 n6 c6] 109)).alloc (.cells #[.int .i64 0, .int .i64 0, .slice none 0 0, .slice none 0 0, .slice none 0 0, .slice none 0 0, .slice none 0 0] 109)).cell? ⟨w.heap.size, 0, none⟩ = some (.int .i64 p.1) := ((Box.new w _ _).alloc _).cell 0
 have k1 : ((w.alloc (.cells #[.int .i64 p.1, .int .i64 p.2.1, .slice A2 n2 c2, .slice A3 n3 c3, .slice A4 n4 c4, .slice A5 n5 c5, .slice A6 n6 c6] 109)).alloc (.cells #[.int .i64 0, .int .i64 0, .slice none 0 0, .slice none 0 0, .slice none 0 0, .slice none 0 0, .slice none 0 0] 109)).cell? ⟨w.heap.size, 1, none⟩ = some (.int .i64 p.2.1) := ((Box.new w _ _).alloc _).cell 1
 have k2 : ((w.alloc (.cells #[.int .i64 p.1, .int .i64 p.2.1, .slice A2 n2 c2, .slice A3 n3 c3, .slice A4 n4 c4, .slice A5 n5 c5, .slice A6 n6 c6] 109)).alloc (.cells #[.int .i64 0, .int .i64 0, .slice none 0 0, .slice none 0 0, .slice none 0 0, .slice none 0 0, .slice none 0 0] 109)).cell? ⟨w.heap.size, 2, none⟩ = some (.slice A2 n2 c2) := ((Box.new w _ _).alloc _).cell 2
 have k3 : ((w.alloc (.cells #[.int .i64 p.1, .int .i64 p.2.1, .slice A2 n2 c2, .slice A3 n3 c3, .slice A4 n4 c4, .slice A5 n5 c5, .slice A6 n6 c6] 109)).alloc (.cells #[.int .i64 0, .int .i64 0, .slice none 0 0, .slice none 0 0, .slice none 0 0, .slice none 0 0, .slice none 0 0] 109)).cell? ⟨w.heap.size, 3, none⟩ = some (.slice A3 n3 c3) := ((Box.new w _ _).alloc _).cell 3
 have k4 : ((w.alloc (.cells #[.int .i64 p.1, .int .i64 p.2.1, .slice A2 n2 c2, .slice A3 n3 c3, .slice A4 n4 c4, .slice A5 n5 c5, .slice A6 n6 c6] 109)).alloc (.cells #[.int .i64 0, .int .i64 0, .slice none 0 0, .slice none 0 0, .slice none 0 0, .slice none 0 0, .slice none 0 0] 109)).cell? ⟨w.heap.size, 4, none⟩ = some (.slice A4 n4 c4) := ((Box.new w _ _).alloc _).cell 4
 have k5 : ((w.alloc (.cells #[.int .i64 p.1, .int .i64 p.2.1, .slice A2 n2 c2, .slice A3 n3 c3, .slice A4 n4 c4, .slice A5 n5 c5, .slice A6 n6 c6] 109)).alloc (.cells #[.int .i64 0, .int .i64 0, .slice none 0 0, .slice none 0 0, .slice none 0 0, .slice none 0 0, .slice none 0 0] 109)).cell? ⟨w.heap.size, 5, none⟩ = some (.slice A5 n5 c5) := ((Box.new w _ _).alloc _).cell 5
 have k6 : ((w.alloc (.cells #[.int .i64 p.1, .int .i64 p.2.1, .slice A2 n2 c2, .slice A3 n3 c3, .slice A4 n4 c4, .slice A5 n5 c5, .slice A6 n6 c6] 109)).alloc (.cells #[.int .i64 0, .int .i64 0, .slice none 0 0, .slice none 0 0, .slice none 0 0, .slice none 0 0, .slice none 0 0] 109)).cell? ⟨w.heap.size, 6, none⟩ = some (.slice A6 n6 c6) := ((Box.new w _ _).alloc _).cell 6
 go_enter Tryz.func109, Tryz.ntmps109
 go_wp2_with fail
 refine wp_region_held_drew (S := (fun w' => w'.cell? ⟨w.heap.size, 0, none⟩ = some (.int .i64 p.1) ∧ w'.cell? ⟨w.heap.size, 1, none⟩ = some (.int .i64 p.2.1) ∧ w'.cell? ⟨w.heap.size, 2, none⟩ = some (.slice A2 n2 c2) ∧ w'.cell? ⟨w.heap.size, 3, none⟩ = some (.slice A3 n3 c3) ∧ w'.cell? ⟨w.heap.size, 4, none⟩ = some (.slice A4 n4 c4) ∧ w'.cell? ⟨w.heap.size, 5, none⟩ = some (.slice A5 n5 c5) ∧ w'.cell? ⟨w.heap.size, 6, none⟩ = some (.slice A6 n6 c6))) (by kernel_rfl) (by exact ⟨k0, k1, k2, k3, k4, k5, k6⟩) (fun hHeld => ?_)
 refine tkx 0 (some 3) ?_
 refine tkx 1 (some 4) ?_
 refine tkx 2 (some 5) ?_
 refine tkx 3 (some 6) ?_
 refine tkx 4 (some 7) ?_
 refine tkx 5 (some 8) ?_
 refine tkx 7 (some 10) ?_
 refine tkx 8 (some 11) ?_
 refine tkx 10 (some 13) ?_
 refine tkx 11 (some 14) ?_
 refine rdx [6] ?_
 refine rcx (fun K hK => ?_) ?_
 ·go_simp
  go_at_call 146
  refine (i_PlCopyP (tPool.reach r2 (belx)) hz2).mono ?_
  rintro e w1 ⟨cs1, F1, rfl, hO1, hN1, hb1⟩
  have hK1 := hO1
  obtain ⟨B2, d2, G2, B3, d3, G3, rfl, -, -, -, -, -, -, -⟩ := openOPool hO1
  have X1 : Box w1 w.heap.size 109 #[.int .i64 p.1, .int .i64 p.2.1, .slice A2 n2 c2, .slice A3 n3 c3, .slice A4 n4 c4, .slice A5 n5 c5, .slice A6 n6 c6] := Box.below (Box.drew ((Box.new w _ _).alloc _)) hb1 (by show _ < (World.alloc _ _).heap.size; simp; omega); have Y1 : Box w1 (w.heap.size + 1) 109 #[.int .i64 0, .int .i64 0, .slice none 0 0, .slice none 0 0, .slice none 0 0, .slice none 0 0, .slice none 0 0] := Box.below (Box.drew (by simpa using Box.new (w.alloc _) 109 #[.int .i64 0, .int .i64 0, .slice none 0 0, .slice none 0 0, .slice none 0 0, .slice none 0 0, .slice none 0 0])) hb1 (by show _ < (World.alloc _ _).heap.size; simp); have x0 := X1.cell 0; have x1 := X1.cell 1; have x2 := X1.cell 2; have x3 := X1.cell 3; have x4 := X1.cell 4; have x5 := X1.cell 5; have x6 := X1.cell 6; have hB1 : Bel w w1 := bel_trans (belx) hb1; have z1 : w.heap.size + 2 ≤ w1.heap.size := (by have : (World.alloc (World.alloc w _) _).heap.size ≤ w1.heap.size := hb1.size; simpa using this)
  go_wp2_with fail
  refine hK.out _ _ ⟨x0, x1, x2, x3, x4, x5, x6⟩ (fun hHeld => ?_)
  clear hK K
  (try simp only [Act.put, qa_, qb_, qc_])
  refine rdx [9] ?_
  refine rcx (fun K hK => ?_) ?_
  ·go_simp
   go_at_call 147
   refine (i_DeskCopy (tDesk.reach r4 (bel_trans hB1 (belx))) hz4).mono ?_
   rintro e w2 ⟨cs2, F2, rfl, hO2, hN2, hb2⟩
   have hK2 := hO2
   obtain ⟨B4, d4, G4, B5, d5, G5, rfl, -, -, -, -, -, -, -⟩ := openODesk hO2
   have X2 := X1.below hb2 X1.size; have Y2 := Y1.below hb2 Y1.size; have hB2 : Bel w w2 := bel_trans hB1 hb2; have z2 := hb2.size; have y0 := X2.cell 0; have y1 := X2.cell 1; have y2 := X2.cell 2; have y3 := X2.cell 3; have y4 := X2.cell 4; have y5 := X2.cell 5; have y6 := X2.cell 6
   go_wp2_with fail
   refine hK.out _ _ ⟨y0, y1, y2, y3, y4, y5, y6⟩ (fun hHeld => ?_)
   clear hK K
   (try simp only [Act.put, qa_, qb_, qc_])
   refine rdx [12] ?_
   refine rcx (fun K hK => ?_) ?_
   ·go_simp
    go_at_call 148
    refine (i_eachLetterC 149 (fun _ _ => rfl) (fun i a w' cs ha hB hR => i_LetterCopy hR (HSZ.out i a ha)) (tLetter.row.reach r6 (bel_trans hB2 (belx))) hn6).mono ?_
    rintro e w3 ⟨B6, d6, F3, rfl, hK3, hN3, hb3⟩
    have X3 := X2.below hb3 X2.size; have Y3 := Y2.below hb3 Y2.size; have hB3 : Bel w w3 := bel_trans hB2 hb3; have z3 := hb3.size; have u0 := X3.cell 0; have u1 := X3.cell 1; have u2 := X3.cell 2; have u3 := X3.cell 3; have u4 := X3.cell 4; have u5 := X3.cell 5; have u6 := X3.cell 6; have q0 := Y3.cell 0; have f0 := Y3.frozen 0; have q1 := Y3.cell 1; have f1 := Y3.frozen 1; have q2 := Y3.cell 2; have f2 := Y3.frozen 2; have q3 := Y3.cell 3; have f3 := Y3.frozen 3; have q4 := Y3.cell 4; have f4 := Y3.frozen 4; have q5 := Y3.cell 5; have f5 := Y3.frozen 5; have q6 := Y3.cell 6; have f6 := Y3.frozen 6; have XF := (((((((X3.far (p := ⟨w.heap.size + 1, 0, none⟩) fsz (.int .i64 p.1)).far (p := ⟨w.heap.size + 1, 1, none⟩) fsz (.int .i64 p.2.1)).far (p := ⟨w.heap.size + 1, 2, none⟩) fsz (.slice B2 p.2.2.1.1.length d2)).far (p := ⟨w.heap.size + 1, 3, none⟩) fsz (.slice B3 p.2.2.1.2.length d3)).far (p := ⟨w.heap.size + 1, 4, none⟩) fsz (.slice B4 p.2.2.2.1.1.length d4)).far (p := ⟨w.heap.size + 1, 5, none⟩) fsz (.slice B5 p.2.2.2.1.2.length d5)).far (p := ⟨w.heap.size + 1, 6, none⟩) fsz (.slice B6 p.2.2.2.2.length d6)); have n0_ := XF.cell 0; have n1_ := XF.cell 1; have n2_ := XF.cell 2; have n3_ := XF.cell 3; have n4_ := XF.cell 4; have n5_ := XF.cell 5; have n6_ := XF.cell 6
    go_wp2_with fail
    refine hK.out _ _ ⟨u0, u1, u2, u3, u4, u5, u6⟩ (fun hHeld => ?_)
    clear hK K
    (try simp only [Act.put, qa_, qb_, qc_])
    refine tkx 13 (some 16) ?_
    refine rdx [14] ?_
    refine rcx (fun K hK => ?_) ?_
    ·go_simp
     refine hK.out _ _ ⟨n0_, n1_, n2_, n3_, n4_, n5_, n6_⟩ (fun hHeld => ?_)
     clear hK K
     (try simp only [Act.put, qa_, qb_, qc_])
     refine rex ?_ _
     go_wp2
     have hM1 : New (w.heap.size + 2) F1 := hN1.lower (by show _ ≤ (World.alloc _ _).heap.size; first | (simp; done) | (simp; omega))
     have hM2 : New w1.heap.size F2 := hN2.lower (Nat.le_refl _)
     have hM3 : New w2.heap.size F3 := hN3.lower (Nat.le_refl _)
     have hM : New (w.heap.size + 2) (F1 ++ F2 ++ F3) := New.app (New.app hM1 hM2 z1 (fun f hf => tPool.lt hK1 f hf)) hM3 (by omega) (fun f hf => by
      rcases List.mem_append.1 hf with hf | hf
      ·have := tPool.lt hK1 f hf; omega
      ·have := tDesk.lt hK2 f hf; omega)
     have hM2 : New (w.heap.size + 2) F2 := hM2.lower z1
     have hM3 : New (w.heap.size + 2) F3 := hM3.lower (by omega)
     have RR := (((((((Y3.put 0 (.int .i64 p.1)).put 1 (.int .i64 p.2.1)).put 2 (.slice B2 p.2.2.1.1.length d2)).put 3 (.slice B3 p.2.2.1.2.length d3)).put 4 (.slice B4 p.2.2.2.1.1.length d4)).put 5 (.slice B5 p.2.2.2.1.2.length d5)).put 6 (.slice B6 p.2.2.2.2.length d6))
     have e0 := RR.cell 0
     have e1 := RR.cell 1
     have e2 := RR.cell 2
     have e3 := RR.cell 3
     have e4 := RR.cell 4
     have e5 := RR.cell 5
     have e6 := RR.cell 6
     have v2 := (Ty.far (t := tPool) (Ty.far (t := tPool) (Ty.far (t := tPool) (Ty.far (t := tPool) (Ty.far (t := tPool) (Ty.far (t := tPool) (Ty.far (t := tPool) (Ty.below (t := tPool) (Ty.below (t := tPool) hK1 hb2) hb3) hM1 (p := ⟨w.heap.size + 1, 0, none⟩) fsz (.int .i64 p.1)) hM1 (p := ⟨w.heap.size + 1, 1, none⟩) fsz (.int .i64 p.2.1)) hM1 (p := ⟨w.heap.size + 1, 2, none⟩) fsz (.slice B2 p.2.2.1.1.length d2)) hM1 (p := ⟨w.heap.size + 1, 3, none⟩) fsz (.slice B3 p.2.2.1.2.length d3)) hM1 (p := ⟨w.heap.size + 1, 4, none⟩) fsz (.slice B4 p.2.2.2.1.1.length d4)) hM1 (p := ⟨w.heap.size + 1, 5, none⟩) fsz (.slice B5 p.2.2.2.1.2.length d5)) hM1 (p := ⟨w.heap.size + 1, 6, none⟩) fsz (.slice B6 p.2.2.2.2.length d6))
     have v4 := (Ty.far (t := tDesk) (Ty.far (t := tDesk) (Ty.far (t := tDesk) (Ty.far (t := tDesk) (Ty.far (t := tDesk) (Ty.far (t := tDesk) (Ty.far (t := tDesk) (Ty.below (t := tDesk) hK2 hb3) hM2 (p := ⟨w.heap.size + 1, 0, none⟩) fsz (.int .i64 p.1)) hM2 (p := ⟨w.heap.size + 1, 1, none⟩) fsz (.int .i64 p.2.1)) hM2 (p := ⟨w.heap.size + 1, 2, none⟩) fsz (.slice B2 p.2.2.1.1.length d2)) hM2 (p := ⟨w.heap.size + 1, 3, none⟩) fsz (.slice B3 p.2.2.1.2.length d3)) hM2 (p := ⟨w.heap.size + 1, 4, none⟩) fsz (.slice B4 p.2.2.2.1.1.length d4)) hM2 (p := ⟨w.heap.size + 1, 5, none⟩) fsz (.slice B5 p.2.2.2.1.2.length d5)) hM2 (p := ⟨w.heap.size + 1, 6, none⟩) fsz (.slice B6 p.2.2.2.2.length d6))
     have v6 := (Ty.far (t := tLetter.row) (Ty.far (t := tLetter.row) (Ty.far (t := tLetter.row) (Ty.far (t := tLetter.row) (Ty.far (t := tLetter.row) (Ty.far (t := tLetter.row) (Ty.far (t := tLetter.row) hK3 hM3 (p := ⟨w.heap.size + 1, 0, none⟩) fsz (.int .i64 p.1)) hM3 (p := ⟨w.heap.size + 1, 1, none⟩) fsz (.int .i64 p.2.1)) hM3 (p := ⟨w.heap.size + 1, 2, none⟩) fsz (.slice B2 p.2.2.1.1.length d2)) hM3 (p := ⟨w.heap.size + 1, 3, none⟩) fsz (.slice B3 p.2.2.1.2.length d3)) hM3 (p := ⟨w.heap.size + 1, 4, none⟩) fsz (.slice B4 p.2.2.2.1.1.length d4)) hM3 (p := ⟨w.heap.size + 1, 5, none⟩) fsz (.slice B5 p.2.2.2.1.2.length d5)) hM3 (p := ⟨w.heap.size + 1, 6, none⟩) fsz (.slice B6 p.2.2.2.2.length d6))
     refine bodyPost_ret (v := .agg #[.int .i64 p.1, .int .i64 p.2.1, .slice B2 p.2.2.1.1.length d2, .slice B3 p.2.2.1.2.length d3, .slice B4 p.2.2.2.1.1.length d4, .slice B5 p.2.2.2.1.2.length d5, .slice B6 p.2.2.2.2.length d6]) (by simp [results, Tryz.results109, go_sem, e0, e1, e2, e3, e4, e5, e6]) rfl ⟨_, _, rfl, fmakeONode (p := p) i0 i1 v2 v4 v6, hM.lower (by omega), ?_⟩
     exact (bel_put (bel_put (bel_put (bel_put (bel_put (bel_put (bel_put hB3 (by simp) _) (by simp) _) (by simp) _) (by simp) _) (by simp) _) (by simp) _) (by simp) _)
    exact AllReadyH.nil
   exact AllReadyH.nil
  exact AllReadyH.nil
 exact AllReadyH.nil

set_option maxHeartbeats 2000000 in
theorem i_eachNodeG {w : World} {n c : Nat} {A : Option Addr} {l : List DNode} (F : Nat) (hE : ∀ (cs : Array Value) (w : World), Sem.run Tryz.prog (callFunc F #[Value.agg cs]) w = .ok (.enter F #[Value.agg cs]) w)
  (hF : ∀ (i : Nat) (a : DNode) (w' : World) (cs : List Value), l[i]? = some a → Bel w w' → tNode.R w' w'.heap.size cs a → Calls Tryz.prog F #[.agg cs.toArray] w' fun e w2 => ∃ cs' Fa, e = .returned (.agg cs'.toArray) ∧ tNode.O w2 cs' a Fa ∧ New w'.heap.size Fa ∧ Bel w' w2)
  (h : tNode.row.R w w.heap.size [.slice A n c] l) (hn : n ≤ 1048576) :
  Calls Tryz.prog 108 #[.slice A n c, .func (.func F) #[] #[]] w fun e w' => ∃ A' c' F, e = .returned (.slice A' l.length c') ∧ GrowO tNode 109 w' w.heap.size (.slice A' l.length c') l F ∧ Bel w w' := by
 obtain ⟨i1, hj0, hj1, hj2, hj3⟩ := info_parts info_Node
 obtain ⟨e0, _, _⟩ := rowR_len h
 have HL := Lib.hid e0
 have HF := Lib.hid hF
 have HE := Lib.hid hE
 clear e0 hF hE
 go_enter Tryz.func108, Tryz.ntmps108
 go_wp2_with fail
 go_loopw [5, 10] (fun v i wr => ∃ (j : Nat) (F : List Nat), j ≤ n ∧ i = .int .i64 j ∧ GrowO tNode 109 wr w.heap.size v (l.take j) F ∧ Bel w wr) (fun _ i _ => n - (RowKit.intOf i).toNat)
 case atStart => exact ⟨0, [], by omega, rfl, GrowO.nil, (belx)⟩
 case round =>
  obtain ⟨j, F, hj, rfl, hG, hB⟩ := hrel
  by_cases hlt : j < n
  ·obtain ⟨a, b', off, es, hl2, rfl, hb, hes, hR⟩ := rowR_at (K := 7) h hlt rfl
   have HA := Lib.hid hl2
   have HT := Lib.hid (take_sn hl2)
   have HLN := Lib.hid (show (l.take j).length = j from by rw [List.length_take, HL.out]; omega)
   clear hl2
   have hRk := hR
   obtain ⟨aA2, an2, ac2, aA3, an3, ac3, aA4, an4, ac4, aA5, an5, ac5, aA6, an6, ac6, rfl, ai0, ai1, ar2, ar4, ar6⟩ := fopenNode hR
   have e0 : wr.cell? ⟨b', off + j * 7, none⟩ = some (.int .i64 a.1) := cell_at hB hb (hes 0 (by omega))
   have e1 : wr.cell? ⟨b', off + j * 7 + 1, none⟩ = some (.int .i64 a.2.1) := cell_at hB hb (hes 1 (by omega))
   have e2 : wr.cell? ⟨b', off + j * 7 + 2, none⟩ = some (.slice aA2 an2 ac2) := cell_at hB hb (hes 2 (by omega))
   have e3 : wr.cell? ⟨b', off + j * 7 + 3, none⟩ = some (.slice aA3 an3 ac3) := cell_at hB hb (hes 3 (by omega))
   have e4 : wr.cell? ⟨b', off + j * 7 + 4, none⟩ = some (.slice aA4 an4 ac4) := cell_at hB hb (hes 4 (by omega))
   have e5 : wr.cell? ⟨b', off + j * 7 + 5, none⟩ = some (.slice aA5 an5 ac5) := cell_at hB hb (hes 5 (by omega))
   have e6 : wr.cell? ⟨b', off + j * 7 + 6, none⟩ = some (.slice aA6 an6 ac6) := cell_at hB hb (hes 6 (by omega))
   clear hes hR
   have zB := hB.size
   have hOwn := fun b hb => (GrowO.row hG).choose_spec.1.lt b hb
   have hlt2 := hG.lt
   go_wp2_with fail
   rw [HE.out, Oper.upon_enter]
   refine (HF.out j a _ _ HA.out ?hB (tNode.reach hRk ?hB2)).mono ?_
   case hB => exact bel_trans (a := w) hB (belx)
   case hB2 => exact bel_trans (a := w) hB (belx)
   rintro e w1 ⟨cs1, Fd, rfl, hOd, hNd', hb1⟩
   have hNd : New (wr.heap.size + 1) Fd := hNd'.lower (by simp)
   have hs1 : Bel wr w1 := bel_trans (belx) hb1
   have hOk := hOd
   obtain ⟨oA2, oc2, oA3, oc3, oA4, oc4, oA5, oc5, oA6, oc6, oG2, oG4, oG6, rfl, -, -, -, -, -, -⟩ := fopenONode hOd
   clear hNd' hOd
   go_wp2_with (at_builtin; have hBx : Bel wr (w1.alloc (.cells [.int .i64 a.1, .int .i64 a.2.1, .slice oA2 a.2.2.1.1.length oc2, .slice oA3 a.2.2.1.2.length oc3, .slice oA4 a.2.2.2.1.1.length oc4, .slice oA5 a.2.2.2.1.2.length oc5, .slice oA6 a.2.2.2.2.length oc6].toArray 109)) := bel_alloc hs1 _; obtain ⟨xs, hrow, hpush⟩ := (hG.below hBx).row; have tz : (Value.agg #[Value.int .i64 0, Value.int .i64 0, Value.slice none 0 0, Value.slice none 0 0, Value.slice none 0 0, Value.slice none 0 0, Value.slice none 0 0]).cells.size = 7 := lev; have t0 : ∀ u ∈ ([.int .i64 a.1, .int .i64 a.2.1, .slice oA2 a.2.2.1.1.length oc2, .slice oA3 a.2.2.1.2.length oc3, .slice oA4 a.2.2.2.1.1.length oc4, .slice oA5 a.2.2.2.1.2.length oc5, .slice oA6 a.2.2.2.2.length oc6] : List Value), u.oneCell' = true := (by intro u hu; simp only [List.mem_cons, List.not_mem_nil, or_false] at hu; rcases hu with rfl | rfl | rfl | rfl | rfl | rfl | rfl <;> rfl); have t1 : (l.take j).length + 1 ≤ maxLen := (by simp only [maxLen]; have := HLN.out; omega); have t2 : ((l.take j).length + 1) * 136 ≤ 140737488355328 := (by have := HLN.out; omega); have t3 := hBx.size; have hS2 : Src (w1.alloc (.cells [.int .i64 a.1, .int .i64 a.2.1, .slice oA2 a.2.2.1.1.length oc2, .slice oA3 a.2.2.1.2.length oc3, .slice oA4 a.2.2.2.1.1.length oc4, .slice oA5 a.2.2.2.1.2.length oc5, .slice oA6 a.2.2.2.2.length oc6].toArray 109)) 7 (some ⟨w1.heap.size, 0, none⟩) 1 [.int .i64 a.1, .int .i64 a.2.1, .slice oA2 a.2.2.1.1.length oc2, .slice oA3 a.2.2.1.2.length oc3, .slice oA4 a.2.2.2.1.1.length oc4, .slice oA5 a.2.2.2.1.2.length oc5, .slice oA6 a.2.2.2.2.length oc6] := Src.of_box w1 109 [.int .i64 a.1, .int .i64 a.2.1, .slice oA2 a.2.2.1.1.length oc2, .slice oA3 a.2.2.1.2.length oc3, .slice oA4 a.2.2.2.1.1.length oc4, .slice oA5 a.2.2.2.1.2.length oc5, .slice oA6 a.2.2.2.2.length oc6] (K := 7) rfl; refine wpList_app _ rfl (.tmp 14) (.tmp 18) _ rfl w.heap.size 109 i1 _ 7 136 Tryz.underlying30 hj0 hj1 hj2 hj3 tz (by omega) u5 _ xs rfl hrow _ 1 1 [.int .i64 a.1, .int .i64 a.2.1, .slice oA2 a.2.2.1.1.length oc2, .slice oA3 a.2.2.1.2.length oc3, .slice oA4 a.2.2.2.1.1.length oc4, .slice oA5 a.2.2.2.1.2.length oc5, .slice oA6 a.2.2.2.2.length oc6] rfl hS2 t0 t1 t2 (by omega) ?_; intro v2 w2 hown2 hgr2 hat2; have hOel : tNode.O (w1.alloc (.cells [.int .i64 a.1, .int .i64 a.2.1, .slice oA2 a.2.2.1.1.length oc2, .slice oA3 a.2.2.1.2.length oc3, .slice oA4 a.2.2.2.1.1.length oc4, .slice oA5 a.2.2.2.1.2.length oc5, .slice oA6 a.2.2.2.2.length oc6].toArray 109)) [.int .i64 a.1, .int .i64 a.2.1, .slice oA2 a.2.2.1.1.length oc2, .slice oA3 a.2.2.1.2.length oc3, .slice oA4 a.2.2.2.1.1.length oc4, .slice oA5 a.2.2.2.1.2.length oc5, .slice oA6 a.2.2.2.2.length oc6] a Fd := Ty.below (t := tNode) hOk (belx); have hNel : New w.heap.size Fd := hNd.lower (by omega); have hdis : ∀ f ∈ Fd, f ∉ F := (fun f h1 h2 => by have := hNd.2 _ h1; have := hlt2 f h2; omega); have hod : ∀ b, u5.ownBlock = some b → b ∉ Fd := (fun b hb hx => by have := (hOwn b hb).2; have := hNd.2 _ hx; omega); have hfin := hpush w2 v2 a _ Fd hOel hNel hdis hod hown2 hgr2 hat2; have hBf : Bel w w2 := Below.grown (bel_trans hB hBx) hgr2 (by have := hBx.size; omega) (fun b hb => (hOwn b hb).1))
   go_roundw
   case rel => exact ⟨j + 1, _, by omega, by go_num, by rw [HT.out]; exact hfin, hBf⟩
   case measure => simp [RowKit.intOf]; omega
  ·obtain rfl : n = j := by omega
   have HA := Lib.hid (show l.take n = l from List.take_of_length_le (Nat.le_of_eq HL.out))
   rw [HA.out] at hG
   obtain ⟨A3, c3, rfl⟩ := hG.shape
   go_wp2
   go_ret
   exact ⟨A3, c3, F, rfl, hG, hB⟩
theorem glO {w w' : World} {B : Nat} {es : List Value} {a : DGlance} (h : tGlance.R w B es a) : tGlance.O w' es a [] := by
 obtain ⟨rfl, h0, h1⟩ := openGlance h
 obtain ⟨F, hF, rfl⟩ := makeOGlance (w := w') (p := a) h0 h1
 exact hF
theorem gl_one {w : World} {B : Nat} : ∀ es a, tGlance.R w B es a → ∀ u ∈ es, u.oneCell' = true := fun es a h u hu => by
 obtain ⟨rfl, -, -⟩ := openGlance h
 simp only [List.mem_cons, List.not_mem_nil, or_false] at hu
 rcases hu with rfl | rfl <;> rfl
theorem glGrow {e : TypeId} {w w' : World} {base B : Nat} {v : Value} {l : List DGlance} {css : List (List Value)} (h1 : w'.ownsRow base e 2 v l.length css.flatten) (h2 : css.length = l.length) (h3 : ∀ (i : Nat) (a : DGlance) (es : List Value), l[i]? = some a → css[i]? = some es → tGlance.R w B es a) : GrowO tGlance e w' base v l [] := by
 refine ⟨⟨css, l.map fun _ => [], h1, h2, by simp, by simp, fun i a es Fi q1 q2 q3 => ?_⟩, New.nil _, fun b hb => by simp⟩
 rw [List.getElem?_map, q1] at q3
 injection q3 with q3
 subst q3
 exact glO (h3 i a es q1 q2)
theorem i_copiedGlG {w : World} {n c : Nat} {A : Option Addr} {l : List DGlance} (h : tGlance.row.R w w.heap.size [.slice A n c] l) (hn : n ≤ 1048576) :
  Calls Tryz.prog 113 #[.slice A n c] w fun e w' => ∃ A' c', e = .returned (.slice A' l.length c') ∧ GrowO tGlance 113 w' w.heap.size (.slice A' l.length c') l [] ∧ Bel w w' := by
 obtain ⟨i0, hi0, hz0, hz1, hz2⟩ := info_parts info_Glance
 obtain ⟨css, k1, k2, k3, k4⟩ := row_src h gl_one
 have HL := Lib.hid (rowR_len h).1
 have HK1 := Lib.hid k1
 have HK2 := Lib.hid k2
 clear k1 k2
 have tz : (Value.agg #[Value.int .i64 0, Value.int .i64 0]).cells.size = 2 := by first | rfl | (simp [Value.cells]; done)
 go_enter Tryz.func113, Tryz.ntmps113
 go_wp2_with (at_builtin; refine wpList_app _ rfl _ (.tmp 3) _ rfl w.heap.size 113 i0 _ 2 16 Tryz.underlying33 hi0 hz0 hz1 hz2 tz (by omega) (.slice none 0 0) 0 [] rfl (World.ownsRow_nil _ _ _ _) _ n c css.flatten rfl k3 k4 (by simp only [maxLen]; omega) (by omega) (Nat.le_refl _) ?_; intro v1 w1 hown hgr hat)
 go_ret
 have hG := glGrow (l := l) (by rw [HL.out]; simpa using hown) HK1.out HK2.out
 obtain ⟨A3, c3, rfl⟩ := hG.shape
 exact ⟨A3, c3, rfl, hG, Below.grown (Below.refl _ _) hgr (Nat.le_refl _) fun b hb => by simp [Value.ownBlock] at hb⟩
end Go.Proofs.YtkdanlnhdgcplaaGreat
namespace Go.Proofs.YtkdanlnhdgcplaaGreat
set_option maxRecDepth 100000
set_option linter.unusedVariables false
set_option linter.unusedSimpArgs false
open Go.ChangeShapes Go.WideShapes Go.ChangeAt Go.RowKit
open Fld
theorem GrowO.put {α : Type} {t : Ty α} {e : TypeId} {w : World} {base : Nat} {v : Value} {l : List α} {F : List Nat} (h : GrowO t e w base v l F) {p : Addr} (h1 : p.block < base) (u : Value) : GrowO t e (w.setCell p u) base v l F := by
 obtain ⟨⟨css, Fs, k1, k2, k3, rfl, k5⟩, k6, k7⟩ := h
 refine ⟨⟨css, Fs, k1.kept (row := some p.block) ⟨rfl, rfl, rfl, by simp [World.setCell], fun i hi hn => Below.heap_setCell w p u i (fun e => hn (by rw [e]))⟩ ?_, k2, k3, rfl, fun i a es Fi q1 q2 q3 => Ty.far3 (k5 i a es Fi q1 q2 q3) (fun hx => by have := k6.2 _ (mem_flat q3 hx); omega) u⟩, k6, k7⟩
 refine .inr fun e => ?_
 have := (k1.lt _ e).1
 omega
set_option maxHeartbeats 2000000 in
theorem s_WholeOwn {w : World} {cs : List Value} {p : DWhole} (h : tWhole.R w w.heap.size cs p) (hz : szWhole p ≤ 1048576) :
  Calls Tryz.prog 133 #[.agg cs.toArray] w fun e w' => ∃ cs' F, e = .returned (.agg cs'.toArray) ∧ tWhole.O w' cs' p F ∧ New w.heap.size F ∧ Bel w w' := by
 obtain ⟨ib, hi0, hz0, hz1, hz2⟩ := info_parts info_cb
 obtain ⟨i3i, hj03, hj13, hj23, hj33⟩ := info_parts info_Piece
 obtain ⟨A3, n3, c3, rfl, i0, i1, i2, -, -, -, r3⟩ := openWhole h
 have hn3le : n3 ≤ 1048576 := by have := rsz_le (s := szPiece) (p.2.2.2); have := (rowR_len r3).1; unfold szWhole at hz; omega
 have HL3 := Lib.hid (rowR_len r3).1
 have HSZ3 := Lib.hid (show ∀ (i : Nat) (a : DPiece), (p.2.2.2)[i]? = some a → szPiece a ≤ 1048576 from fun i a ha => by have := rsz_step (s := szPiece) ha; unfold szWhole at hz; omega)
 go_enter Tryz.func133, Tryz.ntmps133
 have PS : Box (((w.alloc (.cells #[.int .i64 p.1, .int .i64 p.2.1, .int .i64 p.2.2.1, .slice A3 n3 c3] 177)).alloc (.cells #[.int .i64 0, .int .i64 0, .int .i64 0, .slice none 0 0] 177)).alloc (.cells #[.int .i64 p.1, .int .i64 p.2.1, .int .i64 p.2.2.1, .slice none 0 0] 177)) w.heap.size 177 #[.int .i64 p.1, .int .i64 p.2.1, .int .i64 p.2.2.1, .slice A3 n3 c3] := ((Box.new w _ _).alloc _).alloc _
 have RS : Box (((w.alloc (.cells #[.int .i64 p.1, .int .i64 p.2.1, .int .i64 p.2.2.1, .slice A3 n3 c3] 177)).alloc (.cells #[.int .i64 0, .int .i64 0, .int .i64 0, .slice none 0 0] 177)).alloc (.cells #[.int .i64 p.1, .int .i64 p.2.1, .int .i64 p.2.2.1, .slice none 0 0] 177)) (w.heap.size + 1) 177 #[.int .i64 0, .int .i64 0, .int .i64 0, .slice none 0 0] := Box.alloc (by simpa using Box.new (w.alloc (.cells #[.int .i64 p.1, .int .i64 p.2.1, .int .i64 p.2.2.1, .slice A3 n3 c3] 177)) 177 #[.int .i64 0, .int .i64 0, .int .i64 0, .slice none 0 0]) _
 have OS : Box (((w.alloc (.cells #[.int .i64 p.1, .int .i64 p.2.1, .int .i64 p.2.2.1, .slice A3 n3 c3] 177)).alloc (.cells #[.int .i64 0, .int .i64 0, .int .i64 0, .slice none 0 0] 177)).alloc (.cells #[.int .i64 p.1, .int .i64 p.2.1, .int .i64 p.2.2.1, .slice none 0 0] 177)) (w.heap.size + 1 + 1) 177 #[.int .i64 p.1, .int .i64 p.2.1, .int .i64 p.2.2.1, .slice none 0 0] := by simpa using Box.new ((w.alloc (.cells #[.int .i64 p.1, .int .i64 p.2.1, .int .i64 p.2.2.1, .slice A3 n3 c3] 177)).alloc (.cells #[.int .i64 0, .int .i64 0, .int .i64 0, .slice none 0 0] 177)) 177 #[.int .i64 p.1, .int .i64 p.2.1, .int .i64 p.2.2.1, .slice none 0 0]
 have hS : Bel w (((w.alloc (.cells #[.int .i64 p.1, .int .i64 p.2.1, .int .i64 p.2.2.1, .slice A3 n3 c3] 177)).alloc (.cells #[.int .i64 0, .int .i64 0, .int .i64 0, .slice none 0 0] 177)).alloc (.cells #[.int .i64 p.1, .int .i64 p.2.1, .int .i64 p.2.2.1, .slice none 0 0] 177)) := (belx)
 have zS : (w.heap.size + 3) ≤ (((w.alloc (.cells #[.int .i64 p.1, .int .i64 p.2.1, .int .i64 p.2.2.1, .slice A3 n3 c3] 177)).alloc (.cells #[.int .i64 0, .int .i64 0, .int .i64 0, .slice none 0 0] 177)).alloc (.cells #[.int .i64 p.1, .int .i64 p.2.1, .int .i64 p.2.2.1, .slice none 0 0] 177)).heap.size := by simp
 have k3 := PS.cell 3
 go_wp2_with fail
 go_loopw [4] (fun i wr => ∃ (j : Nat) (F : List Nat) (v : Value), j ≤ n3 ∧ i = .int .i64 j ∧ GrowO tPiece 185 wr (w.heap.size + 3) v ((p.2.2.2).take j) F ∧ Box wr w.heap.size 177 #[.int .i64 p.1, .int .i64 p.2.1, .int .i64 p.2.2.1, .slice A3 n3 c3] ∧ Box wr (w.heap.size + 1) 177 #[.int .i64 0, .int .i64 0, .int .i64 0, .slice none 0 0] ∧ Box wr (w.heap.size + 1 + 1) 177 #[.int .i64 p.1, .int .i64 p.2.1, .int .i64 p.2.2.1, v] ∧ Bel w wr ∧ (w.heap.size + 3) ≤ wr.heap.size) (fun i _ => n3 - (RowKit.intOf i).toNat)
 case atStart => exact ⟨0, [], .slice none 0 0, by omega, rfl, GrowO.nil, PS, RS, OS, hS, zS⟩
 case round =>
  obtain ⟨j, F, v, hj, rfl, hG, P0, R0, O0, hB, zB⟩ := hrel
  clear k3 PS RS OS hS
  have k3 := P0.cell 3
  by_cases hlt : j < n3
  ·obtain ⟨a, b', off, es, hl2, rfl, hb, hes, hR⟩ := rowR_at (K := 4) r3 hlt rfl
   have HT := Lib.hid (take_sn hl2)
   have HLN := Lib.hid (show ((p.2.2.2).take j).length = j from by rw [List.length_take, HL3.out]; omega)
   have hsa : szPiece a ≤ 1048576 := HSZ3.out j a hl2
   clear hl2
   have hRk := hR
   obtain ⟨aA3, an3, ac3, rfl, ai0, ai1, ai2, -, -, -, ar3⟩ := openPiece hR
   have e0 : wr.cell? ⟨b', off + j * 4, none⟩ = some (.int .i64 a.1) := cell_at hB hb (hes 0 (by omega))
   have e1 : wr.cell? ⟨b', off + j * 4 + 1, none⟩ = some (.int .i64 a.2.1) := cell_at hB hb (hes 1 (by omega))
   have e2 : wr.cell? ⟨b', off + j * 4 + 2, none⟩ = some (.int .i64 a.2.2.1) := cell_at hB hb (hes 2 (by omega))
   have e3 : wr.cell? ⟨b', off + j * 4 + 3, none⟩ = some (.slice aA3 an3 ac3) := cell_at hB hb (hes 3 (by omega))
   clear hes hR
   have hOwn := fun b hb => (GrowO.row hG).choose_spec.1.lt b hb
   have hlt2 := hG.lt
   have hIr : Ints .u8 wr wr.heap.size aA3 an3 a.2.2.2 := reach (slR_ints ar3).1 hB
   have hE : ((wr.alloc (.cells #[.int .i64 a.1, .int .i64 a.2.1, .int .i64 a.2.2.1, .slice aA3 an3 ac3] 185)).alloc (.cells #[] 5)).ownsRow (wr.heap.size + 1) 5 1 (.slice (some ⟨wr.heap.size + 1, 0, none⟩) 0 0) 0 [] := by simpa using empty9 (wr.alloc (.cells #[.int .i64 a.1, .int .i64 a.2.1, .int .i64 a.2.2.1, .slice aA3 an3 ac3] 185)) 5
   have hSr : Src ((wr.alloc (.cells #[.int .i64 a.1, .int .i64 a.2.1, .int .i64 a.2.2.1, .slice aA3 an3 ac3] 185)).alloc (.cells #[] 5)) 1 aA3 an3 (a.2.2.2.map (Value.int .u8)) := Src.of_ints (reach hIr (belx))
   have hn2 : an3 ≤ 1048576 := by rw [← hIr.1]; unfold szPiece at hsa; (try unfold szCell at hsa); exact hsa
   have HIW := Lib.hid hIr.2.2
   clear ar3
   go_wp2_with (first
    | (at_builtin; refine wpList_app _ rfl (.tmp 25) (.tmp 27) _ rfl (wr.heap.size + 1) 5 ib _ 1 1 Tryz.underlying28 hi0 hz0 hz1 hz2 rfl (by omega) (.slice (some ⟨wr.heap.size + 1, 0, none⟩) 0 0) 0 [] rfl hE _ an3 ac3 (a.2.2.2.map (Value.int .u8)) rfl hSr (one_ints _ _) (by simp only [maxLen]; omega) (by omega) (by simp; done) ?_; intro v1 w1 hown hgr hat; obtain ⟨Ad, cd, Fd, rfl, hOd, hNd⟩ := own_slice (Own.of (n := 0 + an3) (by simpa using hown) HIW.out); have hs1 : Bel wr w1 := Below.grown (belx) hgr lez (fun b hb => by have e := Option.some.inj (show some (wr.heap.size + 1) = some b from hb); omega); have X1 : Box w1 wr.heap.size 185 #[.int .i64 a.1, .int .i64 a.2.1, .int .i64 a.2.2.1, .slice aA3 an3 ac3] := Box.grown ((Box.new wr 185 #[.int .i64 a.1, .int .i64 a.2.1, .int .i64 a.2.2.1, .slice aA3 an3 ac3]).alloc _) hgr (fun e => by have e := Option.some.inj (show some wr.heap.size = some (wr.heap.size + 1) from e); omega); have P1 := Box.grown ((P0.alloc _).alloc _) hgr (fun e => by have e := Option.some.inj (show some w.heap.size = some (wr.heap.size + 1) from e); omega); have R1 := Box.grown ((R0.alloc _).alloc _) hgr (fun e => by have e := Option.some.inj (show some (w.heap.size + 1) = some (wr.heap.size + 1) from e); omega); have O1 := Box.grown ((O0.alloc _).alloc _) hgr (fun e => by have e := Option.some.inj (show some (w.heap.size + 1 + 1) = some (wr.heap.size + 1) from e); omega); have x0 := X1.cell 0; have fx0 := X1.frozen 0; have x1 := X1.cell 1; have fx1 := X1.frozen 1; have x2 := X1.cell 2; have fx2 := X1.frozen 2; have x3 := X1.cell 3; have fx3 := X1.frozen 3; have Pb := P1.far (p := ⟨wr.heap.size, 3, none⟩) fsz (.slice Ad a.2.2.2.length cd); have Rb := R1.far (p := ⟨wr.heap.size, 3, none⟩) fsz (.slice Ad a.2.2.2.length cd); have Ob := O1.far (p := ⟨wr.heap.size, 3, none⟩) fsz (.slice Ad a.2.2.2.length cd); have ob3 := Ob.cell 3; have zw1 := hs1.size)
    | (at_builtin; have hBx : Bel wr ((w1.setCell ⟨wr.heap.size, 3, none⟩ (.slice Ad a.2.2.2.length cd)).alloc (.cells [.int .i64 a.1, .int .i64 a.2.1, .int .i64 a.2.2.1, .slice Ad a.2.2.2.length cd].toArray 185)) := bel_alloc (bel_put hs1 (Nat.le_refl _) _) _; obtain ⟨xs, hrow, hpush⟩ := (hG.below hBx).row; have hsz : (w1.setCell ⟨wr.heap.size, 3, none⟩ (.slice Ad a.2.2.2.length cd)).heap.size = w1.heap.size := (by simp [World.setCell]); have hS2 : Src ((w1.setCell ⟨wr.heap.size, 3, none⟩ (.slice Ad a.2.2.2.length cd)).alloc (.cells [.int .i64 a.1, .int .i64 a.2.1, .int .i64 a.2.2.1, .slice Ad a.2.2.2.length cd].toArray 185)) 4 (some ⟨w1.heap.size, 0, none⟩) 1 [.int .i64 a.1, .int .i64 a.2.1, .int .i64 a.2.2.1, .slice Ad a.2.2.2.length cd] := (by have h := Src.of_box (w1.setCell ⟨wr.heap.size, 3, none⟩ (.slice Ad a.2.2.2.length cd)) 185 [.int .i64 a.1, .int .i64 a.2.1, .int .i64 a.2.2.1, .slice Ad a.2.2.2.length cd] (K := 4) rfl; rw [hsz] at h; exact h); have tz : (Value.agg #[Value.int .i64 0, Value.int .i64 0, Value.int .i64 0, Value.slice none 0 0]).cells.size = 4 := lev; have t0 : ∀ u ∈ ([.int .i64 a.1, .int .i64 a.2.1, .int .i64 a.2.2.1, .slice Ad a.2.2.2.length cd] : List Value), u.oneCell' = true := (by intro u hu; simp only [List.mem_cons, List.not_mem_nil, or_false] at hu; rcases hu with rfl | rfl | rfl | rfl <;> rfl); have t1 : ((p.2.2.2).take j).length + 1 ≤ maxLen := (by simp only [maxLen]; have := HLN.out; omega); have t2 : (((p.2.2.2).take j).length + 1) * 48 ≤ 140737488355328 := (by have := HLN.out; omega); have t3 := hBx.size; refine wpList_app _ rfl (.tmp 31) (.tmp 33) _ rfl (w.heap.size + 3) 185 i3i _ 4 48 Tryz.underlying175 hj03 hj13 hj23 hj33 tz (by omega) v _ xs rfl hrow _ 1 1 [.int .i64 a.1, .int .i64 a.2.1, .int .i64 a.2.2.1, .slice Ad a.2.2.2.length cd] rfl hS2 t0 t1 t2 (by omega) ?_; intro v2 w2 hown2 hgr2 hat2; have hOx : tBy.O ((w1.setCell ⟨wr.heap.size, 3, none⟩ (.slice Ad a.2.2.2.length cd)).alloc (.cells [.int .i64 a.1, .int .i64 a.2.1, .int .i64 a.2.2.1, .slice Ad a.2.2.2.length cd].toArray 185)) [.slice Ad a.2.2.2.length cd] a.2.2.2 Fd := Ty.below (t := tBy) (Ty.far3 (t := tBy) hOd (p := ⟨wr.heap.size, 3, none⟩) (fun hx => absurd (hNd.2 wr.heap.size hx) (by omega)) _) (belx); obtain ⟨Fx, hOel, ex⟩ := makeOPiece (p := a) ai0 ai1 ai2 hOx; subst ex; have hNel : New (w.heap.size + 3) Fx := hNd.lower (by omega); have hdis : ∀ f ∈ Fx, f ∉ F := (fun f h1 h2 => by have := hNd.2 _ h1; have := hlt2 f h2; omega); have hod : ∀ b, v.ownBlock = some b → b ∉ Fx := (fun b hb hx => by have := (hOwn b hb).2; have := hNd.2 _ hx; omega); have hfin := hpush w2 v2 a _ Fx hOel hNel hdis hod hown2 hgr2 hat2; obtain ⟨A9, n9, c9, rfl, -⟩ := hfin.shapeN; have P2 := Box.grown (Pb.alloc _) hgr2 (fun e => by have := (hOwn w.heap.size e.symm).1; omega); have R2 := Box.grown (Rb.alloc _) hgr2 (fun e => by have := (hOwn (w.heap.size + 1) e.symm).1; omega); have O2 := Box.grown (Ob.alloc _) hgr2 (fun e => by have := (hOwn (w.heap.size + 1 + 1) e.symm).1; omega); have hBf : Bel w w2 := Below.grown (bel_trans hB hBx) hgr2 (by have := hBx.size; omega) (fun b hb => by have := (hOwn b hb).1; omega); have z2 := hgr2.size; have o2c := O2.cell 3; have o2f := O2.frozen 3; have GF := hfin.put (p := ⟨(w.heap.size + 1 + 1), 3, none⟩) fsz (.slice A9 n9 c9); have PF := P2.far (p := ⟨(w.heap.size + 1 + 1), 3, none⟩) fsz (.slice A9 n9 c9); have RF := R2.far (p := ⟨(w.heap.size + 1 + 1), 3, none⟩) fsz (.slice A9 n9 c9); have OF : Box (w2.setCell ⟨(w.heap.size + 1 + 1), 3, none⟩ (.slice A9 n9 c9)) (w.heap.size + 1 + 1) 177 #[.int .i64 p.1, .int .i64 p.2.1, .int .i64 p.2.2.1, .slice A9 n9 c9] := O2.put 3 (.slice A9 n9 c9); have BF : Bel w (w2.setCell ⟨(w.heap.size + 1 + 1), 3, none⟩ (.slice A9 n9 c9)) := bel_put hBf fsz _))
   go_roundw
   case rel => exact ⟨j + 1, _, _, by omega, by go_num, by rw [HT.out]; exact GF, PF, RF, OF, BF, by have h := z2; simp [World.setCell] at h ⊢; omega⟩
   case measure => simp [RowKit.intOf]; omega
  ·obtain rfl : n3 = j := by omega
   have HA := Lib.hid (show (p.2.2.2).take n3 = p.2.2.2 from List.take_of_length_le (Nat.le_of_eq HL3.out))
   rw [HA.out] at hG
   obtain ⟨D3, g3, F3, rfl, hO3, hN3⟩ := hG.done
   have oc0 := O0.cell 0
   have oc1 := O0.cell 1
   have oc2 := O0.cell 2
   have oc3 := O0.cell 3
   have rc0 := R0.cell 0
   have rf0 := R0.frozen 0
   have rc1 := R0.cell 1
   have rf1 := R0.frozen 1
   have rc2 := R0.cell 2
   have rf2 := R0.frozen 2
   have rc3 := R0.cell 3
   have rf3 := R0.frozen 3
   go_wp2
   have hM3 : New (w.heap.size + 2) F3 := hN3.lower (by omega)
   have hA := hM3
   have RR := ((((R0.put 0 (.int .i64 p.1)).put 1 (.int .i64 p.2.1)).put 2 (.int .i64 p.2.2.1)).put 3 (.slice D3 (p.2.2.2).length g3))
   have y0 := RR.cell 0
   have y1 := RR.cell 1
   have y2 := RR.cell 2
   have y3 := RR.cell 3
   have u_hO3 := (Ty.far (t := tPiece.row) (Ty.far (t := tPiece.row) (Ty.far (t := tPiece.row) (Ty.far (t := tPiece.row) hO3 hM3 (p := ⟨w.heap.size + 1, 0, none⟩) fsz (.int .i64 p.1)) hM3 (p := ⟨w.heap.size + 1, 1, none⟩) fsz (.int .i64 p.2.1)) hM3 (p := ⟨w.heap.size + 1, 2, none⟩) fsz (.int .i64 p.2.2.1)) hM3 (p := ⟨w.heap.size + 1, 3, none⟩) fsz (.slice D3 (p.2.2.2).length g3))
   obtain ⟨Fx, hX, rfl⟩ := makeOWhole (p := p) i0 i1 i2 u_hO3
   refine bodyPost_ret (v := .agg #[.int .i64 p.1, .int .i64 p.2.1, .int .i64 p.2.2.1, .slice D3 (p.2.2.2).length g3]) (by simp [results, Tryz.results133, go_sem, y0, y1, y2, y3]) rfl ⟨_, _, rfl, hX, hA.lower (by omega), ?_⟩
   exact (bel_put (bel_put (bel_put (bel_put hB (by simp) _) (by simp) _) (by simp) _) (by simp) _)
set_option maxHeartbeats 2000000 in
theorem s_DeskOwn {w : World} {cs : List Value} {p : DDesk} (h : tDesk.R w w.heap.size cs p) (hz : szDesk p ≤ 1048576) :
  Calls Tryz.prog 97 #[.agg cs.toArray] w fun e w' => ∃ cs' F, e = .returned (.agg cs'.toArray) ∧ tDesk.O w' cs' p F ∧ New w.heap.size F ∧ Bel w w' := by
 obtain ⟨ib, hi0, hz0, hz1, hz2⟩ := info_parts info_ci
 obtain ⟨i0i, hj00, hj10, hj20, hj30⟩ := info_parts info_Whole
 obtain ⟨A0, n0, c0, A1, n1, c1, rfl, -, -, -, r0, -, -, -, r1⟩ := openDesk h
 have n0le : n0 ≤ 1048576 := by have := rsz_le (s := szWhole) (p.1); have := (rowR_len r0).1; unfold szDesk at hz; omega
 have HL0 := Lib.hid (rowR_len r0).1
 have HSZ0 := Lib.hid (show ∀ (i : Nat) (a : DWhole), (p.1)[i]? = some a → szWhole a ≤ 1048576 from fun i a ha => by have := rsz_step (s := szWhole) ha; unfold szDesk at hz; omega)
 have hI1 := (slR_ints r1).1
 have hn1 : n1 ≤ 1048576 := by have := hI1.1; unfold szDesk at hz; omega
 have hE : (((w.alloc (.cells #[.slice A0 n0 c0, .slice A1 n1 c1] 106)).alloc (.cells #[.slice none 0 0, .slice none 0 0] 106)).alloc (.cells #[] 3)).ownsRow (w.heap.size + 2) 3 1 (.slice (some ⟨w.heap.size + 2, 0, none⟩) 0 0) 0 [] := by simpa using empty9 ((w.alloc (.cells #[.slice A0 n0 c0, .slice A1 n1 c1] 106)).alloc (.cells #[.slice none 0 0, .slice none 0 0] 106)) 3
 have hSr : Src (((w.alloc (.cells #[.slice A0 n0 c0, .slice A1 n1 c1] 106)).alloc (.cells #[.slice none 0 0, .slice none 0 0] 106)).alloc (.cells #[] 3)) 1 A1 n1 (p.2.map (Value.int .i64)) := Src.of_ints (reach hI1 (belx))
 go_enter Tryz.func97, Tryz.ntmps97
 go_wp2_with (at_builtin; refine wpList_app _ rfl (.tmp 5) (.tmp 7) _ rfl (w.heap.size + 2) 3 ib _ 1 8 Tryz.underlying82 hi0 hz0 hz1 hz2 rfl (by omega) (.slice (some ⟨w.heap.size + 2, 0, none⟩) 0 0) 0 [] rfl hE _ n1 c1 (p.2.map (Value.int .i64)) rfl hSr (one_ints _ _) (by simp only [maxLen]; omega) (by omega) (by simp; done) ?_; intro v1 wd hown hgr hat; obtain ⟨AD, cD, FD, rfl, hOd, hNd⟩ := own_slice (Own.of (n := 0 + n1) (by simpa using hown) hI1.2.2); have hs1 : Bel w wd := Below.grown (belx) hgr lez (fun b hb => by have e := Option.some.inj (show some (w.heap.size + 2) = some b from hb); omega); have z1 : w.heap.size + 3 ≤ wd.heap.size := (by have := hgr.size; simpa using this); have P1 : Box wd w.heap.size 106 #[.slice A0 n0 c0, .slice A1 n1 c1] := Box.grown (((Box.new w _ _).alloc _).alloc _) hgr (fun e => by have e := Option.some.inj (show some w.heap.size = some (w.heap.size + 2) from e); omega); have R1 : Box wd (w.heap.size + 1) 106 #[.slice none 0 0, .slice none 0 0] := Box.grown (Box.alloc (by simpa using Box.new (w.alloc (.cells #[.slice A0 n0 c0, .slice A1 n1 c1] 106)) 106 #[.slice none 0 0, .slice none 0 0]) _) hgr (fun e => by have e := Option.some.inj (show some (w.heap.size + 1) = some (w.heap.size + 2) from e); omega); have prDl := tIs.lt hOd; have prDo : wd.heap.size ∉ FD := (fun hx => by have := prDl _ hx; omega); have p10 := P1.cell 0; have p11 := P1.cell 1; have PS := P1.alloc (.cells #[.slice none 0 0, .slice AD p.2.length cD] 106); have RS := R1.alloc (.cells #[.slice none 0 0, .slice AD p.2.length cD] 106); have OS := Box.new wd 106 #[.slice none 0 0, .slice AD p.2.length cD]; have prD : tIs.O (wd.alloc (.cells #[.slice none 0 0, .slice AD p.2.length cD] 106)) [.slice AD p.2.length cD] p.2 FD := Ty.below (t := tIs) hOd (belx); have hS : Bel w (wd.alloc (.cells #[.slice none 0 0, .slice AD p.2.length cD] 106)) := bel_alloc hs1 _; have zS : (wd.heap.size + 1) ≤ (wd.alloc (.cells #[.slice none 0 0, .slice AD p.2.length cD] 106)).heap.size := (by simp); have k0 : (wd.alloc (.cells #[.slice none 0 0, .slice AD p.2.length cD] 106)).cell? ⟨w.heap.size, 0, none⟩ = some (.slice A0 n0 c0) := PS.cell 0)
 go_loopw [4] (fun i wr => ∃ (j : Nat) (F : List Nat) (v : Value), j ≤ n0 ∧ i = .int .i64 j ∧ GrowO tWhole 177 wr (wd.heap.size + 1) v ((p.1).take j) F ∧ Box wr w.heap.size 106 #[.slice A0 n0 c0, .slice A1 n1 c1] ∧ Box wr (w.heap.size + 1) 106 #[.slice none 0 0, .slice none 0 0] ∧ Box wr wd.heap.size 106 #[v, .slice AD p.2.length cD] ∧ (tIs).O wr [.slice AD p.2.length cD] p.2 FD ∧ Bel w wr ∧ (wd.heap.size + 1) ≤ wr.heap.size) (fun i _ => n0 - (RowKit.intOf i).toNat)
 case atStart => exact ⟨0, [], .slice none 0 0, by omega, rfl, GrowO.nil, PS, RS, OS, prD, hS, zS⟩
 case round =>
  obtain ⟨j, F, v, hj, rfl, hG, P0, R0, O0, prD, hB, zB⟩ := hrel
  clear k0 PS RS OS hS
  have k0 := P0.cell 0
  by_cases hlt : j < n0
  ·obtain ⟨a, b', off, es, hl2, rfl, hb, hes, hR⟩ := rowR_at (K := 4) r0 hlt rfl
   have HT := Lib.hid (take_sn hl2)
   have HLN := Lib.hid (show ((p.1).take j).length = j from by rw [List.length_take, HL0.out]; omega)
   have hsa : szWhole a ≤ 1048576 := HSZ0.out j a hl2
   clear hl2
   have hRk := hR
   obtain ⟨aA3, an3, ac3, rfl, ai0, ai1, ai2, -, -, -, ar3⟩ := openWhole hR
   have e0 : wr.cell? ⟨b', off + j * 4, none⟩ = some (.int .i64 a.1) := cell_at hB hb (hes 0 (by omega))
   have e1 : wr.cell? ⟨b', off + j * 4 + 1, none⟩ = some (.int .i64 a.2.1) := cell_at hB hb (hes 1 (by omega))
   have e2 : wr.cell? ⟨b', off + j * 4 + 2, none⟩ = some (.int .i64 a.2.2.1) := cell_at hB hb (hes 2 (by omega))
   have e3 : wr.cell? ⟨b', off + j * 4 + 3, none⟩ = some (.slice aA3 an3 ac3) := cell_at hB hb (hes 3 (by omega))
   have hOwn := fun b hb => (GrowO.row hG).choose_spec.1.lt b hb
   have hlt2 := hG.lt
   clear hR
   have o0c := O0.cell 0
   go_wp2_with fail
   refine wp_region_held_drew (S := (fun w' => w'.cell? ⟨w.heap.size, 0, none⟩ = some (.slice (some ⟨b', off, none⟩) n0 c0) ∧ w'.cell? ⟨b', off + j * 4, none⟩ = some (.int .i64 a.1) ∧ w'.cell? ⟨b', off + j * 4 + 1, none⟩ = some (.int .i64 a.2.1) ∧ w'.cell? ⟨b', off + j * 4 + 2, none⟩ = some (.int .i64 a.2.2.1) ∧ w'.cell? ⟨b', off + j * 4 + 3, none⟩ = some (.slice aA3 an3 ac3))) (by kernel_rfl) (by exact ⟨k0, e0, e1, e2, e3⟩) (fun hHeld => ?_)
   refine tkx 0 (some 17) ?_
   refine tkx 2 (some 19) ?_
   refine tkx 3 (some 20) ?_
   refine tkx 4 (some 21) ?_
   refine tkx 5 (some 22) ?_
   refine tkx 6 (some 23) ?_
   refine rdx [1, 7] ?_
   refine rcx (fun K hK => ?_) ?_
   ·go_simp
    refine hK.out _ _ ⟨k0, e0, e1, e2, e3⟩ (fun hHeld => ?_)
    clear hK K
    (try simp only [Act.put, qa_, qb_, qc_])
    refine rdx [7] ?_
    refine rcx (fun K hK => ?_) ?_
    ·go_simp
     go_at_call 133
     refine (s_WholeOwn (tWhole.reach (tWhole.reach hRk hB) (belx)) hsa).mono ?_
     rintro e w1 ⟨cs1, Fd, rfl, hOd, hNd0, hb1⟩
     have hs1 : Bel wr w1 := bel_trans (show Bel wr wr.drew from (belx)) hb1
     have hNd : New wr.heap.size Fd := hNd0.lower (by simp)
     have hOk := hOd
     obtain ⟨oA3, oc3, oF3, rfl, -, -, -, -, -, -, -⟩ := openOWhole hOd
     clear hOd hNd0
     have P1 := Box.below P0 hs1 P0.size
     have R1 := Box.below R0 hs1 R0.size
     have O1 := Box.below O0 hs1 O0.size
     have e10 : w1.cell? ⟨b', off + j * 4, none⟩ = some (.int .i64 a.1) := cell_at (bel_trans hB hs1) hb (hes 0 (by omega))
     have e11 : w1.cell? ⟨b', off + j * 4 + 1, none⟩ = some (.int .i64 a.2.1) := cell_at (bel_trans hB hs1) hb (hes 1 (by omega))
     have e12 : w1.cell? ⟨b', off + j * 4 + 2, none⟩ = some (.int .i64 a.2.2.1) := cell_at (bel_trans hB hs1) hb (hes 2 (by omega))
     have e13 : w1.cell? ⟨b', off + j * 4 + 3, none⟩ = some (.slice aA3 an3 ac3) := cell_at (bel_trans hB hs1) hb (hes 3 (by omega))
     have o1c := O1.cell 0
     have PA := P1.alloc (.cells ([.int .i64 a.1, .int .i64 a.2.1, .int .i64 a.2.2.1, .slice oA3 a.2.2.2.length oc3].toArray) 177)
     have OA := O1.alloc (.cells ([.int .i64 a.1, .int .i64 a.2.1, .int .i64 a.2.2.1, .slice oA3 a.2.2.2.length oc3].toArray) 177)
     have oAc := OA.cell 0
     have zw1 := hs1.size
     have eA0 : (w1.alloc (.cells ([.int .i64 a.1, .int .i64 a.2.1, .int .i64 a.2.2.1, .slice oA3 a.2.2.2.length oc3].toArray) 177)).cell? ⟨b', off + j * 4, none⟩ = some (.int .i64 a.1) := cell_at (bel_alloc (bel_trans hB hs1) _) hb (hes 0 (by omega))
     have eA1 : (w1.alloc (.cells ([.int .i64 a.1, .int .i64 a.2.1, .int .i64 a.2.2.1, .slice oA3 a.2.2.2.length oc3].toArray) 177)).cell? ⟨b', off + j * 4 + 1, none⟩ = some (.int .i64 a.2.1) := cell_at (bel_alloc (bel_trans hB hs1) _) hb (hes 1 (by omega))
     have eA2 : (w1.alloc (.cells ([.int .i64 a.1, .int .i64 a.2.1, .int .i64 a.2.2.1, .slice oA3 a.2.2.2.length oc3].toArray) 177)).cell? ⟨b', off + j * 4 + 2, none⟩ = some (.int .i64 a.2.2.1) := cell_at (bel_alloc (bel_trans hB hs1) _) hb (hes 2 (by omega))
     have eA3 : (w1.alloc (.cells ([.int .i64 a.1, .int .i64 a.2.1, .int .i64 a.2.2.1, .slice oA3 a.2.2.2.length oc3].toArray) 177)).cell? ⟨b', off + j * 4 + 3, none⟩ = some (.slice aA3 an3 ac3) := cell_at (bel_alloc (bel_trans hB hs1) _) hb (hes 3 (by omega))
     go_wp2_with fail
     refine hK.out _ _ ⟨(P1.cell 0), e10, e11, e12, e13⟩ (fun hHeld => ?_)
     clear hK K
     (try simp only [Act.put, qa_, qb_, qc_])
     refine rdx [8] ?_
     refine rcx (fun K hK => ?_) ?_
     ·go_simp
      refine hK.out _ _ ⟨(PA.cell 0), eA0, eA1, eA2, eA3⟩ (fun hHeld => ?_)
      clear hK K
      (try simp only [Act.put, qa_, qb_, qc_])
      refine rdx [9] ?_
      refine rcx (fun K hK => ?_) ?_
      ·have hBx : Bel wr (w1.alloc (.cells ([.int .i64 a.1, .int .i64 a.2.1, .int .i64 a.2.2.1, .slice oA3 a.2.2.2.length oc3].toArray) 177)) := bel_alloc hs1 _
       obtain ⟨xs, hrow, hpush⟩ := (hG.below hBx).row
       have hS2 : Src (w1.alloc (.cells ([.int .i64 a.1, .int .i64 a.2.1, .int .i64 a.2.2.1, .slice oA3 a.2.2.2.length oc3].toArray) 177)) 4 (some ⟨w1.heap.size, 0, none⟩) 1 [.int .i64 a.1, .int .i64 a.2.1, .int .i64 a.2.2.1, .slice oA3 a.2.2.2.length oc3] := Src.of_box w1 177 [.int .i64 a.1, .int .i64 a.2.1, .int .i64 a.2.2.1, .slice oA3 a.2.2.2.length oc3] (K := 4) rfl
       have tz : (Value.agg #[Value.int .i64 0, Value.int .i64 0, Value.int .i64 0, Value.slice none 0 0]).cells.size = 4 := lev
       have t0 : ∀ u ∈ ([.int .i64 a.1, .int .i64 a.2.1, .int .i64 a.2.2.1, .slice oA3 a.2.2.2.length oc3] : List Value), u.oneCell' = true := (by intro u hu; simp only [List.mem_cons, List.not_mem_nil, or_false] at hu; rcases hu with rfl | rfl | rfl | rfl <;> rfl)
       have t1 : ((p.1).take j).length + 1 ≤ maxLen := (by simp only [maxLen]; have := HLN.out; omega)
       have t2 : (((p.1).take j).length + 1) * 48 ≤ 140737488355328 := (by have := HLN.out; omega)
       have t3 := hBx.size
       refine step_app5 _ (by rfl) (.tmp 18) (.tmp 25) _ (by rfl) (wd.heap.size + 1) 177 i0i _ 4 48 Tryz.underlying104 hj00 hj10 hj20 hj30 tz (by omega) v _ xs (by rfl) hrow _ 1 1 [.int .i64 a.1, .int .i64 a.2.1, .int .i64 a.2.2.1, .slice oA3 a.2.2.2.length oc3] (by rfl) hS2 t0 t1 t2 (by omega) ?_
       intro v2 w2 hown2 hgr2 hat2
       have hOel : tWhole.O (w1.alloc (.cells ([.int .i64 a.1, .int .i64 a.2.1, .int .i64 a.2.2.1, .slice oA3 a.2.2.2.length oc3].toArray) 177)) [.int .i64 a.1, .int .i64 a.2.1, .int .i64 a.2.2.1, .slice oA3 a.2.2.2.length oc3] a Fd := Ty.below (t := tWhole) hOk (belx)
       have hNel : New (wd.heap.size + 1) Fd := hNd.lower (by omega)
       have hdis : ∀ f ∈ Fd, f ∉ F := (fun f h1 h2 => by have := hNd.2 _ h1; have := hlt2 f h2; omega)
       have hod : ∀ b, v.ownBlock = some b → b ∉ Fd := (fun b hb hx => by have := (hOwn b hb).2; have := hNd.2 _ hx; omega)
       have hfin := hpush w2 v2 a _ Fd hOel hNel hdis hod hown2 hgr2 hat2
       obtain ⟨A9, n9, c9, rfl, -⟩ := hfin.shapeN
       have P2 := Box.grown (P1.alloc _) hgr2 (fun e => by have := (hOwn w.heap.size e.symm).1; omega)
       have R2 := Box.grown (R1.alloc _) hgr2 (fun e => by have := (hOwn (w.heap.size + 1) e.symm).1; omega)
       have O2 := Box.grown (O1.alloc _) hgr2 (fun e => by have := (hOwn wd.heap.size e.symm).1; omega)
       have hBf : Bel w w2 := Below.grown (bel_trans hB hBx) hgr2 (by have := hBx.size; omega) (fun b hb => by have := (hOwn b hb).1; omega)
       have z2 := hgr2.size
       have o2c := O2.cell 0
       have o2f := O2.frozen 0
       have GF := hfin.put (p := ⟨wd.heap.size, 0, none⟩) fsz (.slice A9 n9 c9)
       have PF := P2.far (p := ⟨wd.heap.size, 0, none⟩) fsz (.slice A9 n9 c9)
       have RF := R2.far (p := ⟨wd.heap.size, 0, none⟩) fsz (.slice A9 n9 c9)
       have OF : Box (w2.setCell ⟨wd.heap.size, 0, none⟩ (.slice A9 n9 c9)) wd.heap.size 106 #[.slice A9 n9 c9, .slice AD p.2.length cD] := O2.put 0 (.slice A9 n9 c9)
       have prDF := Ty.far3 (own_past (w := (w1.alloc (.cells ([.int .i64 a.1, .int .i64 a.2.1, .int .i64 a.2.2.1, .slice oA3 a.2.2.2.length oc3].toArray) 177))) (Ty.below (t := tIs) prD hBx) hgr2 (fun b hb hx => by have h1 := (hOwn b hb).1; have h2 := prDl b hx; omega)) (p := ⟨wd.heap.size, 0, none⟩) prDo (.slice A9 n9 c9)
       have BF : Bel w (w2.setCell ⟨wd.heap.size, 0, none⟩ (.slice A9 n9 c9)) := bel_put hBf fsz _
       have e20 : w2.cell? ⟨b', off + j * 4, none⟩ = some (.int .i64 a.1) := cell_at hBf hb (hes 0 (by omega))
       have e21 : w2.cell? ⟨b', off + j * 4 + 1, none⟩ = some (.int .i64 a.2.1) := cell_at hBf hb (hes 1 (by omega))
       have e22 : w2.cell? ⟨b', off + j * 4 + 2, none⟩ = some (.int .i64 a.2.2.1) := cell_at hBf hb (hes 2 (by omega))
       have e23 : w2.cell? ⟨b', off + j * 4 + 3, none⟩ = some (.slice aA3 an3 ac3) := cell_at hBf hb (hes 3 (by omega))
       have eF0 : (w2.setCell ⟨wd.heap.size, 0, none⟩ (.slice A9 n9 c9)).cell? ⟨b', off + j * 4, none⟩ = some (.int .i64 a.1) := cell_at BF hb (hes 0 (by omega))
       have eF1 : (w2.setCell ⟨wd.heap.size, 0, none⟩ (.slice A9 n9 c9)).cell? ⟨b', off + j * 4 + 1, none⟩ = some (.int .i64 a.2.1) := cell_at BF hb (hes 1 (by omega))
       have eF2 : (w2.setCell ⟨wd.heap.size, 0, none⟩ (.slice A9 n9 c9)).cell? ⟨b', off + j * 4 + 2, none⟩ = some (.int .i64 a.2.2.1) := cell_at BF hb (hes 2 (by omega))
       have eF3 : (w2.setCell ⟨wd.heap.size, 0, none⟩ (.slice A9 n9 c9)).cell? ⟨b', off + j * 4 + 3, none⟩ = some (.slice aA3 an3 ac3) := cell_at BF hb (hes 3 (by omega))
       refine hK.out _ _ ⟨(P2.cell 0), e20, e21, e22, e23⟩ (fun hHeld => ?_)
       clear hK K
       (try simp only [Act.put, qa_, qb_, qc_])
       refine tkx 10 (some 27) ?_
       refine rdx [11] ?_
       refine rcx (fun K hK => ?_) ?_
       ·go_simp
        refine hK.out _ _ ⟨(PF.cell 0), eF0, eF1, eF2, eF3⟩ (fun hHeld => ?_)
        clear hK K
        (try simp only [Act.put, qa_, qb_, qc_])
        refine rex ?_ _
        go_wp2
        go_roundw
        case rel => exact ⟨j + 1, _, _, by omega, by go_num, by rw [HT.out]; exact GF, PF, RF, OF, prDF, BF, by have h := z2; simp [World.setCell] at h ⊢; omega⟩
        case measure => simp [RowKit.intOf]; omega
       exact AllReadyH.nil
      exact AllReadyH.nil
     exact AllReadyH.nil
    exact AllReadyH.nil
   refine rcx (fun K hK => ?_) ?_
   ·go_simp
    go_at_call 133
    refine (s_WholeOwn (tWhole.reach (tWhole.reach hRk hB) (belx)) hsa).mono ?_
    rintro e w1 ⟨cs1, Fd, rfl, hOd, hNd0, hb1⟩
    have hs1 : Bel wr w1 := bel_trans (show Bel wr wr.drew from (belx)) hb1
    have hNd : New wr.heap.size Fd := hNd0.lower (by simp)
    have hOk := hOd
    obtain ⟨oA3, oc3, oF3, rfl, -, -, -, -, -, -, -⟩ := openOWhole hOd
    clear hOd hNd0
    have P1 := Box.below P0 hs1 P0.size
    have R1 := Box.below R0 hs1 R0.size
    have O1 := Box.below O0 hs1 O0.size
    have e10 : w1.cell? ⟨b', off + j * 4, none⟩ = some (.int .i64 a.1) := cell_at (bel_trans hB hs1) hb (hes 0 (by omega))
    have e11 : w1.cell? ⟨b', off + j * 4 + 1, none⟩ = some (.int .i64 a.2.1) := cell_at (bel_trans hB hs1) hb (hes 1 (by omega))
    have e12 : w1.cell? ⟨b', off + j * 4 + 2, none⟩ = some (.int .i64 a.2.2.1) := cell_at (bel_trans hB hs1) hb (hes 2 (by omega))
    have e13 : w1.cell? ⟨b', off + j * 4 + 3, none⟩ = some (.slice aA3 an3 ac3) := cell_at (bel_trans hB hs1) hb (hes 3 (by omega))
    have o1c := O1.cell 0
    have PA := P1.alloc (.cells ([.int .i64 a.1, .int .i64 a.2.1, .int .i64 a.2.2.1, .slice oA3 a.2.2.2.length oc3].toArray) 177)
    have OA := O1.alloc (.cells ([.int .i64 a.1, .int .i64 a.2.1, .int .i64 a.2.2.1, .slice oA3 a.2.2.2.length oc3].toArray) 177)
    have oAc := OA.cell 0
    have zw1 := hs1.size
    have eA0 : (w1.alloc (.cells ([.int .i64 a.1, .int .i64 a.2.1, .int .i64 a.2.2.1, .slice oA3 a.2.2.2.length oc3].toArray) 177)).cell? ⟨b', off + j * 4, none⟩ = some (.int .i64 a.1) := cell_at (bel_alloc (bel_trans hB hs1) _) hb (hes 0 (by omega))
    have eA1 : (w1.alloc (.cells ([.int .i64 a.1, .int .i64 a.2.1, .int .i64 a.2.2.1, .slice oA3 a.2.2.2.length oc3].toArray) 177)).cell? ⟨b', off + j * 4 + 1, none⟩ = some (.int .i64 a.2.1) := cell_at (bel_alloc (bel_trans hB hs1) _) hb (hes 1 (by omega))
    have eA2 : (w1.alloc (.cells ([.int .i64 a.1, .int .i64 a.2.1, .int .i64 a.2.2.1, .slice oA3 a.2.2.2.length oc3].toArray) 177)).cell? ⟨b', off + j * 4 + 2, none⟩ = some (.int .i64 a.2.2.1) := cell_at (bel_alloc (bel_trans hB hs1) _) hb (hes 2 (by omega))
    have eA3 : (w1.alloc (.cells ([.int .i64 a.1, .int .i64 a.2.1, .int .i64 a.2.2.1, .slice oA3 a.2.2.2.length oc3].toArray) 177)).cell? ⟨b', off + j * 4 + 3, none⟩ = some (.slice aA3 an3 ac3) := cell_at (bel_alloc (bel_trans hB hs1) _) hb (hes 3 (by omega))
    go_wp2_with fail
    refine hK.out _ _ ⟨(P1.cell 0), e10, e11, e12, e13⟩ (fun hHeld => ?_)
    clear hK K
    (try simp only [Act.put, qa_, qb_, qc_])
    refine rdx [1, 8] ?_
    refine rcx (fun K hK => ?_) ?_
    ·go_simp
     refine hK.out _ _ ⟨(P1.cell 0), e10, e11, e12, e13⟩ (fun hHeld => ?_)
     clear hK K
     (try simp only [Act.put, qa_, qb_, qc_])
     refine rdx [8] ?_
     refine rcx (fun K hK => ?_) ?_
     ·go_simp
      refine hK.out _ _ ⟨(PA.cell 0), eA0, eA1, eA2, eA3⟩ (fun hHeld => ?_)
      clear hK K
      (try simp only [Act.put, qa_, qb_, qc_])
      refine rdx [9] ?_
      refine rcx (fun K hK => ?_) ?_
      ·have hBx : Bel wr (w1.alloc (.cells ([.int .i64 a.1, .int .i64 a.2.1, .int .i64 a.2.2.1, .slice oA3 a.2.2.2.length oc3].toArray) 177)) := bel_alloc hs1 _
       obtain ⟨xs, hrow, hpush⟩ := (hG.below hBx).row
       have hS2 : Src (w1.alloc (.cells ([.int .i64 a.1, .int .i64 a.2.1, .int .i64 a.2.2.1, .slice oA3 a.2.2.2.length oc3].toArray) 177)) 4 (some ⟨w1.heap.size, 0, none⟩) 1 [.int .i64 a.1, .int .i64 a.2.1, .int .i64 a.2.2.1, .slice oA3 a.2.2.2.length oc3] := Src.of_box w1 177 [.int .i64 a.1, .int .i64 a.2.1, .int .i64 a.2.2.1, .slice oA3 a.2.2.2.length oc3] (K := 4) rfl
       have tz : (Value.agg #[Value.int .i64 0, Value.int .i64 0, Value.int .i64 0, Value.slice none 0 0]).cells.size = 4 := lev
       have t0 : ∀ u ∈ ([.int .i64 a.1, .int .i64 a.2.1, .int .i64 a.2.2.1, .slice oA3 a.2.2.2.length oc3] : List Value), u.oneCell' = true := (by intro u hu; simp only [List.mem_cons, List.not_mem_nil, or_false] at hu; rcases hu with rfl | rfl | rfl | rfl <;> rfl)
       have t1 : ((p.1).take j).length + 1 ≤ maxLen := (by simp only [maxLen]; have := HLN.out; omega)
       have t2 : (((p.1).take j).length + 1) * 48 ≤ 140737488355328 := (by have := HLN.out; omega)
       have t3 := hBx.size
       refine step_app5 _ (by rfl) (.tmp 18) (.tmp 25) _ (by rfl) (wd.heap.size + 1) 177 i0i _ 4 48 Tryz.underlying104 hj00 hj10 hj20 hj30 tz (by omega) v _ xs (by rfl) hrow _ 1 1 [.int .i64 a.1, .int .i64 a.2.1, .int .i64 a.2.2.1, .slice oA3 a.2.2.2.length oc3] (by rfl) hS2 t0 t1 t2 (by omega) ?_
       intro v2 w2 hown2 hgr2 hat2
       have hOel : tWhole.O (w1.alloc (.cells ([.int .i64 a.1, .int .i64 a.2.1, .int .i64 a.2.2.1, .slice oA3 a.2.2.2.length oc3].toArray) 177)) [.int .i64 a.1, .int .i64 a.2.1, .int .i64 a.2.2.1, .slice oA3 a.2.2.2.length oc3] a Fd := Ty.below (t := tWhole) hOk (belx)
       have hNel : New (wd.heap.size + 1) Fd := hNd.lower (by omega)
       have hdis : ∀ f ∈ Fd, f ∉ F := (fun f h1 h2 => by have := hNd.2 _ h1; have := hlt2 f h2; omega)
       have hod : ∀ b, v.ownBlock = some b → b ∉ Fd := (fun b hb hx => by have := (hOwn b hb).2; have := hNd.2 _ hx; omega)
       have hfin := hpush w2 v2 a _ Fd hOel hNel hdis hod hown2 hgr2 hat2
       obtain ⟨A9, n9, c9, rfl, -⟩ := hfin.shapeN
       have P2 := Box.grown (P1.alloc _) hgr2 (fun e => by have := (hOwn w.heap.size e.symm).1; omega)
       have R2 := Box.grown (R1.alloc _) hgr2 (fun e => by have := (hOwn (w.heap.size + 1) e.symm).1; omega)
       have O2 := Box.grown (O1.alloc _) hgr2 (fun e => by have := (hOwn wd.heap.size e.symm).1; omega)
       have hBf : Bel w w2 := Below.grown (bel_trans hB hBx) hgr2 (by have := hBx.size; omega) (fun b hb => by have := (hOwn b hb).1; omega)
       have z2 := hgr2.size
       have o2c := O2.cell 0
       have o2f := O2.frozen 0
       have GF := hfin.put (p := ⟨wd.heap.size, 0, none⟩) fsz (.slice A9 n9 c9)
       have PF := P2.far (p := ⟨wd.heap.size, 0, none⟩) fsz (.slice A9 n9 c9)
       have RF := R2.far (p := ⟨wd.heap.size, 0, none⟩) fsz (.slice A9 n9 c9)
       have OF : Box (w2.setCell ⟨wd.heap.size, 0, none⟩ (.slice A9 n9 c9)) wd.heap.size 106 #[.slice A9 n9 c9, .slice AD p.2.length cD] := O2.put 0 (.slice A9 n9 c9)
       have prDF := Ty.far3 (own_past (w := (w1.alloc (.cells ([.int .i64 a.1, .int .i64 a.2.1, .int .i64 a.2.2.1, .slice oA3 a.2.2.2.length oc3].toArray) 177))) (Ty.below (t := tIs) prD hBx) hgr2 (fun b hb hx => by have h1 := (hOwn b hb).1; have h2 := prDl b hx; omega)) (p := ⟨wd.heap.size, 0, none⟩) prDo (.slice A9 n9 c9)
       have BF : Bel w (w2.setCell ⟨wd.heap.size, 0, none⟩ (.slice A9 n9 c9)) := bel_put hBf fsz _
       have e20 : w2.cell? ⟨b', off + j * 4, none⟩ = some (.int .i64 a.1) := cell_at hBf hb (hes 0 (by omega))
       have e21 : w2.cell? ⟨b', off + j * 4 + 1, none⟩ = some (.int .i64 a.2.1) := cell_at hBf hb (hes 1 (by omega))
       have e22 : w2.cell? ⟨b', off + j * 4 + 2, none⟩ = some (.int .i64 a.2.2.1) := cell_at hBf hb (hes 2 (by omega))
       have e23 : w2.cell? ⟨b', off + j * 4 + 3, none⟩ = some (.slice aA3 an3 ac3) := cell_at hBf hb (hes 3 (by omega))
       have eF0 : (w2.setCell ⟨wd.heap.size, 0, none⟩ (.slice A9 n9 c9)).cell? ⟨b', off + j * 4, none⟩ = some (.int .i64 a.1) := cell_at BF hb (hes 0 (by omega))
       have eF1 : (w2.setCell ⟨wd.heap.size, 0, none⟩ (.slice A9 n9 c9)).cell? ⟨b', off + j * 4 + 1, none⟩ = some (.int .i64 a.2.1) := cell_at BF hb (hes 1 (by omega))
       have eF2 : (w2.setCell ⟨wd.heap.size, 0, none⟩ (.slice A9 n9 c9)).cell? ⟨b', off + j * 4 + 2, none⟩ = some (.int .i64 a.2.2.1) := cell_at BF hb (hes 2 (by omega))
       have eF3 : (w2.setCell ⟨wd.heap.size, 0, none⟩ (.slice A9 n9 c9)).cell? ⟨b', off + j * 4 + 3, none⟩ = some (.slice aA3 an3 ac3) := cell_at BF hb (hes 3 (by omega))
       refine hK.out _ _ ⟨(P2.cell 0), e20, e21, e22, e23⟩ (fun hHeld => ?_)
       clear hK K
       (try simp only [Act.put, qa_, qb_, qc_])
       refine tkx 10 (some 27) ?_
       refine rdx [11] ?_
       refine rcx (fun K hK => ?_) ?_
       ·go_simp
        refine hK.out _ _ ⟨(PF.cell 0), eF0, eF1, eF2, eF3⟩ (fun hHeld => ?_)
        clear hK K
        (try simp only [Act.put, qa_, qb_, qc_])
        refine rex ?_ _
        go_wp2
        go_roundw
        case rel => exact ⟨j + 1, _, _, by omega, by go_num, by rw [HT.out]; exact GF, PF, RF, OF, prDF, BF, by have h := z2; simp [World.setCell] at h ⊢; omega⟩
        case measure => simp [RowKit.intOf]; omega
       exact AllReadyH.nil
      exact AllReadyH.nil
     exact AllReadyH.nil
    refine rcx (fun K hK => ?_) ?_
    ·go_simp
     refine hK.out _ _ ⟨(PA.cell 0), eA0, eA1, eA2, eA3⟩ (fun hHeld => ?_)
     clear hK K
     (try simp only [Act.put, qa_, qb_, qc_])
     refine rdx [1] ?_
     refine rcx (fun K hK => ?_) ?_
     ·go_simp
      refine hK.out _ _ ⟨(PA.cell 0), eA0, eA1, eA2, eA3⟩ (fun hHeld => ?_)
      clear hK K
      (try simp only [Act.put, qa_, qb_, qc_])
      refine rdx [9] ?_
      refine rcx (fun K hK => ?_) ?_
      ·have hBx : Bel wr (w1.alloc (.cells ([.int .i64 a.1, .int .i64 a.2.1, .int .i64 a.2.2.1, .slice oA3 a.2.2.2.length oc3].toArray) 177)) := bel_alloc hs1 _
       obtain ⟨xs, hrow, hpush⟩ := (hG.below hBx).row
       have hS2 : Src (w1.alloc (.cells ([.int .i64 a.1, .int .i64 a.2.1, .int .i64 a.2.2.1, .slice oA3 a.2.2.2.length oc3].toArray) 177)) 4 (some ⟨w1.heap.size, 0, none⟩) 1 [.int .i64 a.1, .int .i64 a.2.1, .int .i64 a.2.2.1, .slice oA3 a.2.2.2.length oc3] := Src.of_box w1 177 [.int .i64 a.1, .int .i64 a.2.1, .int .i64 a.2.2.1, .slice oA3 a.2.2.2.length oc3] (K := 4) rfl
       have tz : (Value.agg #[Value.int .i64 0, Value.int .i64 0, Value.int .i64 0, Value.slice none 0 0]).cells.size = 4 := lev
       have t0 : ∀ u ∈ ([.int .i64 a.1, .int .i64 a.2.1, .int .i64 a.2.2.1, .slice oA3 a.2.2.2.length oc3] : List Value), u.oneCell' = true := (by intro u hu; simp only [List.mem_cons, List.not_mem_nil, or_false] at hu; rcases hu with rfl | rfl | rfl | rfl <;> rfl)
       have t1 : ((p.1).take j).length + 1 ≤ maxLen := (by simp only [maxLen]; have := HLN.out; omega)
       have t2 : (((p.1).take j).length + 1) * 48 ≤ 140737488355328 := (by have := HLN.out; omega)
       have t3 := hBx.size
       refine step_app5 _ (by rfl) (.tmp 18) (.tmp 25) _ (by rfl) (wd.heap.size + 1) 177 i0i _ 4 48 Tryz.underlying104 hj00 hj10 hj20 hj30 tz (by omega) v _ xs (by rfl) hrow _ 1 1 [.int .i64 a.1, .int .i64 a.2.1, .int .i64 a.2.2.1, .slice oA3 a.2.2.2.length oc3] (by rfl) hS2 t0 t1 t2 (by omega) ?_
       intro v2 w2 hown2 hgr2 hat2
       have hOel : tWhole.O (w1.alloc (.cells ([.int .i64 a.1, .int .i64 a.2.1, .int .i64 a.2.2.1, .slice oA3 a.2.2.2.length oc3].toArray) 177)) [.int .i64 a.1, .int .i64 a.2.1, .int .i64 a.2.2.1, .slice oA3 a.2.2.2.length oc3] a Fd := Ty.below (t := tWhole) hOk (belx)
       have hNel : New (wd.heap.size + 1) Fd := hNd.lower (by omega)
       have hdis : ∀ f ∈ Fd, f ∉ F := (fun f h1 h2 => by have := hNd.2 _ h1; have := hlt2 f h2; omega)
       have hod : ∀ b, v.ownBlock = some b → b ∉ Fd := (fun b hb hx => by have := (hOwn b hb).2; have := hNd.2 _ hx; omega)
       have hfin := hpush w2 v2 a _ Fd hOel hNel hdis hod hown2 hgr2 hat2
       obtain ⟨A9, n9, c9, rfl, -⟩ := hfin.shapeN
       have P2 := Box.grown (P1.alloc _) hgr2 (fun e => by have := (hOwn w.heap.size e.symm).1; omega)
       have R2 := Box.grown (R1.alloc _) hgr2 (fun e => by have := (hOwn (w.heap.size + 1) e.symm).1; omega)
       have O2 := Box.grown (O1.alloc _) hgr2 (fun e => by have := (hOwn wd.heap.size e.symm).1; omega)
       have hBf : Bel w w2 := Below.grown (bel_trans hB hBx) hgr2 (by have := hBx.size; omega) (fun b hb => by have := (hOwn b hb).1; omega)
       have z2 := hgr2.size
       have o2c := O2.cell 0
       have o2f := O2.frozen 0
       have GF := hfin.put (p := ⟨wd.heap.size, 0, none⟩) fsz (.slice A9 n9 c9)
       have PF := P2.far (p := ⟨wd.heap.size, 0, none⟩) fsz (.slice A9 n9 c9)
       have RF := R2.far (p := ⟨wd.heap.size, 0, none⟩) fsz (.slice A9 n9 c9)
       have OF : Box (w2.setCell ⟨wd.heap.size, 0, none⟩ (.slice A9 n9 c9)) wd.heap.size 106 #[.slice A9 n9 c9, .slice AD p.2.length cD] := O2.put 0 (.slice A9 n9 c9)
       have prDF := Ty.far3 (own_past (w := (w1.alloc (.cells ([.int .i64 a.1, .int .i64 a.2.1, .int .i64 a.2.2.1, .slice oA3 a.2.2.2.length oc3].toArray) 177))) (Ty.below (t := tIs) prD hBx) hgr2 (fun b hb hx => by have h1 := (hOwn b hb).1; have h2 := prDl b hx; omega)) (p := ⟨wd.heap.size, 0, none⟩) prDo (.slice A9 n9 c9)
       have BF : Bel w (w2.setCell ⟨wd.heap.size, 0, none⟩ (.slice A9 n9 c9)) := bel_put hBf fsz _
       have e20 : w2.cell? ⟨b', off + j * 4, none⟩ = some (.int .i64 a.1) := cell_at hBf hb (hes 0 (by omega))
       have e21 : w2.cell? ⟨b', off + j * 4 + 1, none⟩ = some (.int .i64 a.2.1) := cell_at hBf hb (hes 1 (by omega))
       have e22 : w2.cell? ⟨b', off + j * 4 + 2, none⟩ = some (.int .i64 a.2.2.1) := cell_at hBf hb (hes 2 (by omega))
       have e23 : w2.cell? ⟨b', off + j * 4 + 3, none⟩ = some (.slice aA3 an3 ac3) := cell_at hBf hb (hes 3 (by omega))
       have eF0 : (w2.setCell ⟨wd.heap.size, 0, none⟩ (.slice A9 n9 c9)).cell? ⟨b', off + j * 4, none⟩ = some (.int .i64 a.1) := cell_at BF hb (hes 0 (by omega))
       have eF1 : (w2.setCell ⟨wd.heap.size, 0, none⟩ (.slice A9 n9 c9)).cell? ⟨b', off + j * 4 + 1, none⟩ = some (.int .i64 a.2.1) := cell_at BF hb (hes 1 (by omega))
       have eF2 : (w2.setCell ⟨wd.heap.size, 0, none⟩ (.slice A9 n9 c9)).cell? ⟨b', off + j * 4 + 2, none⟩ = some (.int .i64 a.2.2.1) := cell_at BF hb (hes 2 (by omega))
       have eF3 : (w2.setCell ⟨wd.heap.size, 0, none⟩ (.slice A9 n9 c9)).cell? ⟨b', off + j * 4 + 3, none⟩ = some (.slice aA3 an3 ac3) := cell_at BF hb (hes 3 (by omega))
       refine hK.out _ _ ⟨(P2.cell 0), e20, e21, e22, e23⟩ (fun hHeld => ?_)
       clear hK K
       (try simp only [Act.put, qa_, qb_, qc_])
       refine tkx 10 (some 27) ?_
       refine rdx [11] ?_
       refine rcx (fun K hK => ?_) ?_
       ·go_simp
        refine hK.out _ _ ⟨(PF.cell 0), eF0, eF1, eF2, eF3⟩ (fun hHeld => ?_)
        clear hK K
        (try simp only [Act.put, qa_, qb_, qc_])
        refine rex ?_ _
        go_wp2
        go_roundw
        case rel => exact ⟨j + 1, _, _, by omega, by go_num, by rw [HT.out]; exact GF, PF, RF, OF, prDF, BF, by have h := z2; simp [World.setCell] at h ⊢; omega⟩
        case measure => simp [RowKit.intOf]; omega
       exact AllReadyH.nil
      exact AllReadyH.nil
     exact AllReadyH.nil
    exact AllReadyH.nil
   exact AllReadyH.nil
  ·obtain rfl : n0 = j := by omega
   have HA := Lib.hid (show (p.1).take n0 = p.1 from List.take_of_length_le (Nat.le_of_eq HL0.out))
   rw [HA.out] at hG
   obtain ⟨D0, g0, F0, rfl, hO0, hN0⟩ := hG.done
   have oc0 := O0.cell 0
   have oc1 := O0.cell 1
   have rc0 := R0.cell 0
   have rf0 := R0.frozen 0
   have rc1 := R0.cell 1
   have rf1 := R0.frozen 1
   go_wp2
   have hM0 : New (w.heap.size + 2) F0 := hN0.lower (by omega)
   have hMD : New (w.heap.size + 2) FD := hNd
   have hA : New (w.heap.size + 2) (F0 ++ FD) := new_pair hM0 hMD (fun f h1 h2 => by have := hN0.2 f h1; have := prDl f h2; omega)
   have RR := ((R0.put 0 (.slice D0 (p.1).length g0)).put 1 (.slice AD p.2.length cD))
   have y0 := RR.cell 0
   have y1 := RR.cell 1
   have u_hO0 := (Ty.far (t := tWhole.row) (Ty.far (t := tWhole.row) hO0 hM0 (p := ⟨w.heap.size + 1, 0, none⟩) fsz (.slice D0 (p.1).length g0)) hM0 (p := ⟨w.heap.size + 1, 1, none⟩) fsz (.slice AD p.2.length cD))
   have u_prD := (Ty.far (t := tIs) (Ty.far (t := tIs) prD hMD (p := ⟨w.heap.size + 1, 0, none⟩) fsz (.slice D0 (p.1).length g0)) hMD (p := ⟨w.heap.size + 1, 1, none⟩) fsz (.slice AD p.2.length cD))
   obtain ⟨Fx, hX, rfl⟩ := makeODesk (p := p) u_hO0 u_prD
   refine bodyPost_ret (v := .agg #[.slice D0 (p.1).length g0, .slice AD p.2.length cD]) (by simp [results, Tryz.results97, go_sem, y0, y1]) rfl ⟨_, _, rfl, hX, hA.lower (by omega), ?_⟩
   exact (bel_put (bel_put hB (by simp) _) (by simp) _)
end Go.Proofs.YtkdanlnhdgcplaaGreat
namespace Go.Proofs.YtkdanlnhdgcplaaGreat
set_option maxRecDepth 100000
set_option linter.unusedVariables false
set_option linter.unusedSimpArgs false
open Go.ChangeShapes Go.WideShapes Go.ChangeAt Go.RowKit
open Fld
theorem nilRowO {α : Type} {t : Ty α} {w : World} : t.row.O w [.slice none 0 0] [] [] := .inl ⟨none, 0, rfl, by omega, rfl, rfl⟩

def NwOk (i s : Int) : Prop := (0 ≤ i ∧ i < 8) ∧ Sec s
noncomputable instance (i s : Int) : Decidable (NwOk i s) := Classical.propDecidable _
end Go.Proofs.YtkdanlnhdgcplaaGreat
