/-
  A fragment out of bytes: contracts of PieceRead, of both sides.
-/
import Derived.Test.YtconcboeojpmdabPBytes
import Derived.Deep.RegionHeld3
import Derived.Outline
import Derived.Test.YtconcboeojpmdabSn
namespace Go.Proofs.Ytconcboeojpmdab
set_option maxRecDepth 100000
set_option linter.unusedVariables false
set_option linter.unusedSimpArgs false
open Go.ChangeShapes Go.WideShapes Go.ChangeAt Go.RowKit
def pcIn (l : List Int) : DPiece := (l.getD 0 0, l.getD 1 0, l.getD 2 0, l.drop 3)
def PrOk (l : List Int) : Prop := 3 ≤ l.length ∧ PcOk (pcIn l)
instance (l : List Int) : Decidable (PrOk l) := by unfold PrOk; infer_instance
def fPR (l : List Int) : DPiece := if PrOk l then pcIn l else (0, 0, 0, [])
theorem fPR_t {l : List Int} (h : PrOk l) : fPR l = pcIn l := if_pos h
theorem fPR_f {l : List Int} (h : ¬ PrOk l) : fPR l = (0, 0, 0, []) := if_neg h
theorem fPR_le (l : List Int) : szPiece (fPR l) ≤ 20 := by
  by_cases h : PrOk l
  · rw [fPR_t h]; exact h.2.2.2.2.2.2.1
  · rw [fPR_f h]; simp [szPiece]
theorem pzR {w : World} {B : Nat} : tPiece.R w B [.int .i64 0, .int .i64 0, .int .i64 0, .slice none 0 0] (0, 0, 0, []) := makePiece (p := (0, 0, 0, [])) rfl rfl rfl nilR
theorem pzO {w : World} : tPiece.O w [.int .i64 0, .int .i64 0, .int .i64 0, .slice none 0 0] (0, 0, 0, []) [] := by
  obtain ⟨F, h, rfl⟩ := makeOPiece (w := w) (p := (0, 0, 0, [])) (v3 := .slice none 0 0) (F3 := []) rfl rfl rfl nilO
  exact h
theorem tail8 {K : IntKind} {w : World} {B n b off : Nat} {l : List Int} (h : Ints K w B (some ⟨b, off, none⟩) n l) (m : Nat) (hm : m ≤ n) : Ints K w B (some ⟨b, off + m, none⟩) (n - m) (l.drop m) := by
  refine ⟨by rw [List.length_drop, h.1], fun h0 => ?_, fun x hx => h.2.2 x (List.mem_of_mem_drop hx)⟩
  obtain ⟨b', off', e, hb, hc⟩ := h.2.1 (by omega)
  injection e with e
  injection e with e1 e2 _
  subst e1 e2
  refine ⟨b, off + m, rfl, hb, fun i hi => ?_⟩
  rw [Nat.add_assoc, hc (m + i) (by omega), List.getD_eq_getElem?_getD, List.getD_eq_getElem?_getD, List.getElem?_drop]
theorem empty8 (w : World) (t : TypeId) : (w.alloc (.cells #[] t)).ownsRow w.heap.size t 1 (.slice (some ⟨w.heap.size, 0, none⟩) 0 0) 0 [] :=
  ⟨rfl, .inr ⟨w.heap.size, 0, #[], rfl, Nat.le_refl _, heap_alloc_new w _, Nat.le_refl _, by simp only [maxLen]; omega, rfl, rfl⟩⟩
theorem step_app' {P : Program} (w : World) {ops : Array Oper} {o : Oper} {a : Act} {K : Act → World → Prop} {Q : Exit → Act → World → Prop} {E : Prop} (hgd : o.guard = none) (s x : Operand) (t : TypeId)
    (ho : o.op = .call { callee := .builtin .append, args := #[s, x], argTypes := #[t, t] })
    (base : Nat) (e : TypeId) (i : TypeInfo) (z : Value) (size bytes : Nat) (ht : P.underlying t = some (.slice e)) (hi : P.info? e = some i) (hz : i.zero = some z)
    (hsize : i.size = size) (hby : i.bytes = bytes) (hzs : z.cells.size = size) (hsz : 0 < size)
    (v : Value) (n : Nat) (xs : List Value) (hs : a.eval s = v) (hown : w.ownsRow base e size v n xs)
    (A : Option Addr) (m c : Nat) (news : List Value) (hx : a.eval x = .slice A m c) (hr : Src w size A m news) (h1 : ∀ u ∈ news, u.oneCell' = true)
    (h63 : n + m ≤ maxLen) (hbytes : (n + m) * bytes ≤ 140737488355328) (hbase : base ≤ w.heap.size)
    (h : ∀ v' w', w'.ownsRow base e size v' (n + m) (xs ++ news) → w.grownBy w' v.ownBlock → (v'.ownBlock = v.ownBlock ∨ v'.ownBlock = some w.heap.size) → K (a.put o.dst v') w') :
    if Region.wanted o (yielded ops a.tmps) = true then Oper.wp P o a w K Q else E := by
  have hw : Region.wanted o (yielded ops a.tmps) = true := by simp [Region.wanted, hgd]
  rw [if_pos hw]
  exact wp_app w s x t ho base e i z size bytes ht hi hz hsize hby hzs hsz v n xs hs hown A m c news hx hr h1 h63 hbytes hbase h
theorem Ty.far2 {α : Type} {t : Ty α} {w : World} {cs : List Value} {a : α} {F : List Nat} (h : t.O w cs a F) {p : Addr} (hp : p.block ∉ F) (u : Value) : t.O (w.setCell p u) cs a F :=
  t.kept h fun f hf => Below.heap_setCell w p u f (by rintro rfl; exact hp hf)
theorem sliceO_own {K : IntKind} {w : World} {v : Value} {l : List Int} {F : List Nat} (h : sliceO K w [v] l F) : ∀ f ∈ F, v.ownBlock = some f := by
  intro f hf
  rcases h with ⟨A, c, _, _, _, rfl⟩ | ⟨g, off, c, cur, t, h1, h2, h3, h4, h5, h6, h7, rfl⟩
  · exact absurd hf (by simp)
  · injection h1 with h1 _
    rw [List.mem_singleton] at hf
    rw [h1, hf]; rfl
theorem u8_rg' {x : Int} (h : (Lit.int .u8 x).wf = true) : 0 ≤ x ∧ x ≤ 255 := by
  have e1 : IntKind.u8.min = 0 := by decide
  have e2 : IntKind.u8.max = 255 := by decide
  simp only [Lit.wf, e1, e2, Bool.and_eq_true, decide_eq_true_eq] at h
  exact h
theorem i_copiedB {w : World} {n c : Nat} {A : Option Addr} {l : List Int} (hl : Ints .u8 w w.heap.size A n l) (hn : n ≤ 1048576) :
    Calls Try.prog 61 #[.slice A n c] w fun e w' => ∃ v, e = .returned v ∧ Own .u8 5 w' w.heap.size v l ∧ Below w.heap.size w w' := by
  obtain ⟨i0, hi0, hz0, hz1, hz2⟩ := info_parts info_cb
  go_enter Try.func61, Try.ntmps61
  go_wp2_with (at_builtin; refine wpList_app _ rfl _ (.tmp 3) _ rfl w.heap.size 5 i0 _ 1 1 Try.underlying22 hi0 hz0 hz1 hz2 rfl (by omega) (.slice none 0 0) 0 [] rfl (World.ownsRow_nil _ _ _ _) _ n c (l.map (Value.int .u8)) rfl (Src.of_ints hl) (one_ints _ _) (by simp only [maxLen]; omega) (by omega) (Nat.le_refl _) ?_; intro v1 w1 hown hgr hat)
  go_ret
  exact ⟨v1, rfl, Own.of (n := 0 + n) (by simpa using hown) hl.2.2, Below.grown (Below.refl _ _) hgr (Nat.le_refl _) fun b hb => by simp [Value.ownBlock] at hb⟩
set_option maxHeartbeats 1000000 in
theorem i_PcCopy {w : World} {A3 : Option Addr} {n3 c3 : Nat} {x0 x1 x2 : Int} {l3 : List Int} (hl : Ints .u8 w w.heap.size A3 n3 l3) (hn : n3 ≤ 1048576) :
    Calls Try.prog 59 #[.agg #[.int .i64 x0, .int .i64 x1, .int .i64 x2, .slice A3 n3 c3]] w fun e w' => ∃ A c F, e = .returned (.agg #[.int .i64 x0, .int .i64 x1, .int .i64 x2, .slice A l3.length c]) ∧ tBy.O w' [.slice A l3.length c] l3 F ∧ New w.heap.size F ∧ Below w.heap.size w w' := by
  go_enter Try.func59, Try.ntmps59
  go_wp2_with fail
  refine (i_copiedB (reach hl ?hB) hn).mono ?_
  case hB => exact (by repeat (first | (with_reducible exact Below.refl _ _) | (with_reducible assumption) | (with_reducible refine bel_alloc ?_ _) | (with_reducible refine bel_drew ?_) | (with_reducible refine below_drewN ?_ _) | (with_reducible refine bel_put ?_ (by first | exact Nat.le_refl _ | (simp; done) | (simp; omega)) _)))
  rintro e w1 ⟨v, rfl, hO, hb1⟩
  obtain ⟨A, c, F, rfl, hO3, hN⟩ := own_slice hO
  clear hO
  have z1 : w.heap.size + 2 ≤ w1.heap.size := by have h : (World.alloc (World.alloc w _) _).heap.size ≤ w1.heap.size := hb1.size; simpa using h
  have P1 : Box w1 w.heap.size 27 #[.int .i64 x0, .int .i64 x1, .int .i64 x2, .slice A3 n3 c3] := Box.below ((Box.new w _ _).alloc _) hb1 (by simp; omega)
  have R1 : Box w1 (w.heap.size + 1) 27 #[.int .i64 0, .int .i64 0, .int .i64 0, .slice none 0 0] := Box.below (by simpa using Box.new (w.alloc _) 27 #[.int .i64 0, .int .i64 0, .int .i64 0, .slice none 0 0]) hb1 (by simp)
  have hM : New (w.heap.size + 2) F := hN.lower (by simp)
  have hB1 : Below w.heap.size w w1 := bel_trans (by repeat (first | (with_reducible exact Below.refl _ _) | (with_reducible assumption) | (with_reducible refine bel_alloc ?_ _) | (with_reducible refine bel_drew ?_) | (with_reducible refine below_drewN ?_ _) | (with_reducible refine bel_put ?_ (by first | exact Nat.le_refl _ | (simp; done) | (simp; omega)) _))) hb1
  have p0 := P1.cell 0; have p1 := P1.cell 1; have p2 := P1.cell 2; have p3 := P1.cell 3
  have f3 := P1.frozen 3
  have r0 := R1.cell 0; have r1 := R1.cell 1; have r2 := R1.cell 2; have r3 := R1.cell 3
  have g0 := R1.frozen 0; have g1 := R1.frozen 1; have g2 := R1.frozen 2; have g3 := R1.frozen 3
  go_wp2
  have RR := ((((R1.far (p := ⟨w.heap.size, 3, none⟩) (by simp) (.slice A l3.length c)).put 0 (.int .i64 x0)).put 1 (.int .i64 x1)).put 2 (.int .i64 x2)).put 3 (.slice A l3.length c)
  have e0 := RR.cell 0; have e1 := RR.cell 1; have e2 := RR.cell 2; have e3 := RR.cell 3
  have u := Ty.far (t := tBy) (Ty.far (t := tBy) (Ty.far (t := tBy) (Ty.far (t := tBy) (Ty.far (t := tBy) hO3 hM (p := ⟨w.heap.size, 3, none⟩) (by show w.heap.size < _; omega) (.slice A l3.length c)) hM (p := ⟨w.heap.size + 1, 0, none⟩) (by show w.heap.size + 1 < _; omega) (.int .i64 x0)) hM (p := ⟨w.heap.size + 1, 1, none⟩) (by show w.heap.size + 1 < _; omega) (.int .i64 x1)) hM (p := ⟨w.heap.size + 1, 2, none⟩) (by show w.heap.size + 1 < _; omega) (.int .i64 x2)) hM (p := ⟨w.heap.size + 1, 3, none⟩) (by show w.heap.size + 1 < _; omega) (.slice A l3.length c)
  refine bodyPost_ret (v := .agg #[.int .i64 x0, .int .i64 x1, .int .i64 x2, .slice A l3.length c]) (by simp [results, Try.results59, go_sem, e0, e1, e2, e3]) rfl ⟨A, c, F, rfl, u, hM.lower (by omega), ?_⟩
  exact bel_put (bel_put (bel_put (bel_put (bel_put hB1 (by simp) _) (by simp) _) (by simp) _) (by simp) _) (by simp) _
set_option maxHeartbeats 1000000 in
theorem i_PieceRead {w : World} {A : Option Addr} {n c : Nat} {l : List Int} (h : tBy.R w w.heap.size [.slice A n c] l) (hz : l.length ≤ 1048576) :
    Calls Try.prog 27 #[.slice A n c] w fun e w' => ∃ cs F, e = .returned (.tuple #[.agg cs.toArray, .bool (decide (PrOk l))]) ∧ tPiece.O w' cs (fPR l) F ∧ New w.heap.size F ∧ Below w.heap.size w w' := by
  obtain ⟨hl, hnc, hcm⟩ := slR_ints h
  have HL := Lib.hid hl.1
  clear h
  by_cases h3 : n < 3
  · have hp : ¬ PrOk l := fun x => by have := x.1; have := HL.out; omega
    have HP := Lib.hid (decide_eq_false hp)
    rw [fPR_f hp, HP.out]
    have q : (n : Int) < 3 := by omega
    clear hp
    go_enter Try.func27, Try.ntmps27
    go_wp2
    have R1 : Box (w.alloc (.cells #[.int .i64 0, .int .i64 0, .int .i64 0, .slice none 0 0] 27)) w.heap.size 27 #[.int .i64 0, .int .i64 0, .int .i64 0, .slice none 0 0] := Box.new _ _ _
    have e0 := R1.cell 0; have e1 := R1.cell 1; have e2 := R1.cell 2; have e3 := R1.cell 3
    refine bodyPost_ret (v := .tuple #[.agg #[.int .i64 0, .int .i64 0, .int .i64 0, .slice none 0 0], .bool false]) (by simp [results, Try.results27, go_sem, e0, e1, e2, e3]) rfl ⟨_, [], rfl, pzO, New.nil _, (by repeat (first | (with_reducible exact Below.refl _ _) | (with_reducible assumption) | (with_reducible refine bel_alloc ?_ _) | (with_reducible refine bel_drew ?_) | (with_reducible refine below_drewN ?_ _) | (with_reducible refine bel_put ?_ (by first | exact Nat.le_refl _ | (simp; done) | (simp; omega)) _)))⟩
  · obtain ⟨b, off, rfl, hb, hc0, hw0⟩ := hl.at_ (i := 0) (by omega)
    obtain ⟨b1, off1, e1, _, hc1, hw1⟩ := hl.at_ (i := 1) (by omega)
    obtain ⟨b2, off2, e2, _, hc2, hw2⟩ := hl.at_ (i := 2) (by omega)
    injection e1 with e1; injection e1 with e1 e1' _; subst e1 e1'
    injection e2 with e2; injection e2 with e2 e2' _; subst e2 e2'
    rw [Nat.add_zero] at hc0
    have hT := tail8 hl 3 (by omega)
    obtain ⟨x0, hx0⟩ : ∃ x, l.getD 0 0 = x := ⟨_, rfl⟩
    obtain ⟨x1, hx1⟩ : ∃ x, l.getD 1 0 = x := ⟨_, rfl⟩
    obtain ⟨x2, hx2⟩ : ∃ x, l.getD 2 0 = x := ⟨_, rfl⟩
    obtain ⟨l3, hl3⟩ : ∃ x, l.drop 3 = x := ⟨_, rfl⟩
    have HI := Lib.hid (show pcIn l = (x0, x1, x2, l3) from by rw [← hx0, ← hx1, ← hx2, ← hl3]; rfl)
    rw [hx0] at hc0 hw0
    rw [hx1] at hc1 hw1
    rw [hx2] at hc2 hw2
    rw [hl3] at hT
    clear hx0 hx1 hx2 hl3
    have rg0 := u8_rg' hw0
    have rg1 := u8_rg' hw1
    have rg2 := u8_rg' hw2
    have q3 : ¬ (n : Int) < 3 := by omega
    have q0 : (0 : Int) < (n : Int) := by omega
    have q1 : (1 : Int) < (n : Int) := by omega
    have q2 : (2 : Int) < (n : Int) := by omega
    have q4 : (3 : Int) ≤ (n : Int) := by omega
    have m0 : 0 < n := by omega
    have m1 : 1 < n := by omega
    have m2 : 2 < n := by omega
    have m3 : 3 ≤ n := by omega
    have m4 : n ≠ 0 := by omega
    have wf0 : (Lit.int .i64 x0).wf = true := wf_i64 (by omega) (by omega)
    have wf1 : (Lit.int .i64 x1).wf = true := wf_i64 (by omega) (by omega)
    have wf2 : (Lit.int .i64 x2).wf = true := wf_i64 (by omega) (by omega)
    have kk : ∀ W : World, Below w.heap.size w W → W.cell? ⟨b, off, none⟩ = some (.int .u8 x0) ∧ W.cell? ⟨b, off + 1, none⟩ = some (.int .u8 x1) ∧ W.cell? ⟨b, off + 2, none⟩ = some (.int .u8 x2) := fun W hW => ⟨cell_bel hW hc0, cell_bel hW hc1, cell_bel hW hc2⟩
    have hn1 : n ≤ 1048576 := by have := HL.out; omega
    clear hl hc0 hc1 hc2 hw0 hw1 hw2 hz
    by_cases hc3 : c = 3
    · subst hc3
      obtain rfl : n = 3 := by omega
      have hI : Ints .u8 w w.heap.size (some ⟨b, off, none⟩) 0 l3 := by
        have e := hT.1
        rw [show l3 = [] from List.eq_nil_of_length_eq_zero (by omega)]
        exact Ints.nil
      clear hT
      have hR0 : tPiece.R w w.heap.size [.int .i64 x0, .int .i64 x1, .int .i64 x2, .slice (some ⟨b, off, none⟩) (0) (0)] (x0, x1, x2, l3) := makePiece (p := (x0, x1, x2, l3)) wf0 wf1 wf2 (ints_slR hI (by omega) (by omega))
      have hz3 : szPiece (x0, x1, x2, l3) ≤ 1048576 := by have := hI.1; show l3.length ≤ 1048576; omega
      by_cases hp : PcOk (x0, x1, x2, l3)
      · have hpr : PrOk l := ⟨by rw [HL.out]; omega, by rw [HI.out]; exact hp⟩
        have HP := Lib.hid (decide_eq_true hp)
        have HD := Lib.hid (decide_eq_true hpr)
        rw [fPR_t hpr, HI.out, HD.out]
        clear hp hpr
        go_enter Try.func27, Try.ntmps27
        go_wp2_with fail
        go_region_held3 (fun w' => w'.cell? ⟨b, off, none⟩ = some (.int .u8 x0) ∧ w'.cell? ⟨b, off + 1, none⟩ = some (.int .u8 x1) ∧ w'.cell? ⟨b, off + 2, none⟩ = some (.int .u8 x2)) (first | (exact kk _ (by repeat (first | (with_reducible exact Below.refl _ _) | (with_reducible assumption) | (with_reducible refine bel_alloc ?_ _) | (with_reducible refine bel_drew ?_) | (with_reducible refine below_drewN ?_ _) | (with_reducible refine bel_put ?_ (by first | exact Nat.le_refl _ | (simp; done) | (simp; omega)) _)))) | go_keep) (fail)
        go_wp2_with fail
        refine (i_PieceOk (tPiece.reach hR0 ?hB) hz3).mono ?_
        case hB => exact (by repeat (first | (with_reducible exact Below.refl _ _) | (with_reducible assumption) | (with_reducible refine bel_alloc ?_ _) | (with_reducible refine bel_drew ?_) | (with_reducible refine below_drewN ?_ _) | (with_reducible refine bel_put ?_ (by first | exact Nat.le_refl _ | (simp; done) | (simp; omega)) _)))
        rintro e w1 ⟨rfl, hb1⟩
        rw [HP.out]
        have z1 : w.heap.size + 2 ≤ w1.heap.size := by have h : (World.alloc (World.alloc w _) _).heap.size ≤ w1.heap.size := hb1.size; simpa using h
        have R1 : Box w1 w.heap.size 27 #[.int .i64 0, .int .i64 0, .int .i64 0, .slice none 0 0] := Box.below ((Box.new w 27 #[.int .i64 0, .int .i64 0, .int .i64 0, .slice none 0 0]).alloc _).drew hb1 (by show _ < (World.alloc _ _).heap.size; first | (simp; done) | (simp; omega))
        have P1 : Box w1 (w.heap.size + 1) 27 #[.int .i64 x0, .int .i64 x1, .int .i64 x2, .slice (some ⟨b, off, none⟩) (0) (0)] := Box.below (Box.drew (show Box ((w.alloc (.cells #[.int .i64 0, .int .i64 0, .int .i64 0, .slice none 0 0] 27)).alloc (.cells #[.int .i64 x0, .int .i64 x1, .int .i64 x2, .slice (some ⟨b, off, none⟩) (0) (0)] 27)) (w.heap.size + 1) 27 #[.int .i64 x0, .int .i64 x1, .int .i64 x2, .slice (some ⟨b, off, none⟩) (0) (0)] from by simpa using Box.new (w.alloc (.cells #[.int .i64 0, .int .i64 0, .int .i64 0, .slice none 0 0] 27)) 27 #[.int .i64 x0, .int .i64 x1, .int .i64 x2, .slice (some ⟨b, off, none⟩) (0) (0)])) hb1 (by show _ < (World.alloc _ _).heap.size; first | (simp; done) | (simp; omega))
        have hB1 : Below w.heap.size w w1 := bel_trans (by repeat (first | (with_reducible exact Below.refl _ _) | (with_reducible assumption) | (with_reducible refine bel_alloc ?_ _) | (with_reducible refine bel_drew ?_) | (with_reducible refine below_drewN ?_ _) | (with_reducible refine bel_put ?_ (by first | exact Nat.le_refl _ | (simp; done) | (simp; omega)) _))) hb1
        have p0 := P1.cell 0; have p1 := P1.cell 1; have p2 := P1.cell 2; have p3 := P1.cell 3
        have r0 := R1.cell 0; have r1 := R1.cell 1; have r2 := R1.cell 2; have r3 := R1.cell 3
        have g0 := R1.frozen 0; have g1 := R1.frozen 1; have g2 := R1.frozen 2; have g3 := R1.frozen 3
        go_wp2_with fail
        refine (i_PcCopy (reach hI hB1) (by omega)).mono ?_
        rintro e w2 ⟨A2, c2, F, rfl, hO, hN, hb2⟩
        have R2 := R1.below hb2 R1.size
        have z2 := hb2.size
        have s0 := R2.cell 0; have s1 := R2.cell 1; have s2 := R2.cell 2; have s3 := R2.cell 3
        have u0 := R2.frozen 0; have u1 := R2.frozen 1; have u2 := R2.frozen 2; have u3 := R2.frozen 3
        go_wp2
        have RR := (((R2.put 0 (.int .i64 x0)).put 1 (.int .i64 x1)).put 2 (.int .i64 x2)).put 3 (.slice A2 l3.length c2)
        have e0 := RR.cell 0; have e1 := RR.cell 1; have e2 := RR.cell 2; have e3 := RR.cell 3
        have hq : w.heap.size < w1.heap.size := by omega
        have u := Ty.far (t := tBy) (Ty.far (t := tBy) (Ty.far (t := tBy) (Ty.far (t := tBy) hO hN (p := ⟨w.heap.size, 0, none⟩) hq (.int .i64 x0)) hN (p := ⟨w.heap.size, 1, none⟩) hq (.int .i64 x1)) hN (p := ⟨w.heap.size, 2, none⟩) hq (.int .i64 x2)) hN (p := ⟨w.heap.size, 3, none⟩) hq (.slice A2 l3.length c2)
        obtain ⟨F2, hF2, e⟩ := makeOPiece (p := (x0, x1, x2, l3)) wf0 wf1 wf2 u
        subst e
        refine bodyPost_ret (v := .tuple #[.agg #[.int .i64 x0, .int .i64 x1, .int .i64 x2, .slice A2 l3.length c2], .bool true]) (by simp [results, Try.results27, go_sem, e0, e1, e2, e3]) rfl ⟨_, F2, rfl, hF2, hN.lower (by omega), ?_⟩
        exact bel_put (bel_put (bel_put (bel_put (bel_trans hB1 hb2) (Nat.le_refl _) _) (Nat.le_refl _) _) (Nat.le_refl _) _) (Nat.le_refl _) _
      · have hpr : ¬ PrOk l := fun x => hp (by have := x.2; rw [HI.out] at this; exact this)
        have HP := Lib.hid (decide_eq_false hp)
        have HD := Lib.hid (decide_eq_false hpr)
        rw [fPR_f hpr, HD.out]
        clear hp hpr
        go_enter Try.func27, Try.ntmps27
        go_wp2_with fail
        go_region_held3 (fun w' => w'.cell? ⟨b, off, none⟩ = some (.int .u8 x0) ∧ w'.cell? ⟨b, off + 1, none⟩ = some (.int .u8 x1) ∧ w'.cell? ⟨b, off + 2, none⟩ = some (.int .u8 x2)) (first | (exact kk _ (by repeat (first | (with_reducible exact Below.refl _ _) | (with_reducible assumption) | (with_reducible refine bel_alloc ?_ _) | (with_reducible refine bel_drew ?_) | (with_reducible refine below_drewN ?_ _) | (with_reducible refine bel_put ?_ (by first | exact Nat.le_refl _ | (simp; done) | (simp; omega)) _)))) | go_keep) (fail)
        go_wp2_with fail
        refine (i_PieceOk (tPiece.reach hR0 ?hB) hz3).mono ?_
        case hB => exact (by repeat (first | (with_reducible exact Below.refl _ _) | (with_reducible assumption) | (with_reducible refine bel_alloc ?_ _) | (with_reducible refine bel_drew ?_) | (with_reducible refine below_drewN ?_ _) | (with_reducible refine bel_put ?_ (by first | exact Nat.le_refl _ | (simp; done) | (simp; omega)) _)))
        rintro e w1 ⟨rfl, hb1⟩
        rw [HP.out]
        have z1 : w.heap.size + 2 ≤ w1.heap.size := by have h : (World.alloc (World.alloc w _) _).heap.size ≤ w1.heap.size := hb1.size; simpa using h
        have R1 : Box w1 w.heap.size 27 #[.int .i64 0, .int .i64 0, .int .i64 0, .slice none 0 0] := Box.below ((Box.new w 27 #[.int .i64 0, .int .i64 0, .int .i64 0, .slice none 0 0]).alloc _).drew hb1 (by show _ < (World.alloc _ _).heap.size; first | (simp; done) | (simp; omega))
        have P1 : Box w1 (w.heap.size + 1) 27 #[.int .i64 x0, .int .i64 x1, .int .i64 x2, .slice (some ⟨b, off, none⟩) (0) (0)] := Box.below (Box.drew (show Box ((w.alloc (.cells #[.int .i64 0, .int .i64 0, .int .i64 0, .slice none 0 0] 27)).alloc (.cells #[.int .i64 x0, .int .i64 x1, .int .i64 x2, .slice (some ⟨b, off, none⟩) (0) (0)] 27)) (w.heap.size + 1) 27 #[.int .i64 x0, .int .i64 x1, .int .i64 x2, .slice (some ⟨b, off, none⟩) (0) (0)] from by simpa using Box.new (w.alloc (.cells #[.int .i64 0, .int .i64 0, .int .i64 0, .slice none 0 0] 27)) 27 #[.int .i64 x0, .int .i64 x1, .int .i64 x2, .slice (some ⟨b, off, none⟩) (0) (0)])) hb1 (by show _ < (World.alloc _ _).heap.size; first | (simp; done) | (simp; omega))
        have hB1 : Below w.heap.size w w1 := bel_trans (by repeat (first | (with_reducible exact Below.refl _ _) | (with_reducible assumption) | (with_reducible refine bel_alloc ?_ _) | (with_reducible refine bel_drew ?_) | (with_reducible refine below_drewN ?_ _) | (with_reducible refine bel_put ?_ (by first | exact Nat.le_refl _ | (simp; done) | (simp; omega)) _))) hb1
        have p0 := P1.cell 0; have p1 := P1.cell 1; have p2 := P1.cell 2; have p3 := P1.cell 3
        have r0 := R1.cell 0; have r1 := R1.cell 1; have r2 := R1.cell 2; have r3 := R1.cell 3
        have g0 := R1.frozen 0; have g1 := R1.frozen 1; have g2 := R1.frozen 2; have g3 := R1.frozen 3
        go_wp2
        have RR := (((R1.put 0 (.int .i64 0)).put 1 (.int .i64 0)).put 2 (.int .i64 0)).put 3 (.slice none 0 0)
        have e0 := RR.cell 0; have e1 := RR.cell 1; have e2 := RR.cell 2; have e3 := RR.cell 3
        refine bodyPost_ret (v := .tuple #[.agg #[.int .i64 0, .int .i64 0, .int .i64 0, .slice none 0 0], .bool false]) (by simp [results, Try.results27, go_sem, e0, e1, e2, e3]) rfl ⟨_, [], rfl, pzO, New.nil _, ?_⟩
        exact bel_put (bel_put (bel_put (bel_put hB1 (Nat.le_refl _) _) (Nat.le_refl _) _) (Nat.le_refl _) _) (Nat.le_refl _) _
    · have hI : Ints .u8 w w.heap.size (some ⟨b, off + 3, none⟩) (n - 3) l3 := hT
      clear hT
      have hR0 : tPiece.R w w.heap.size [.int .i64 x0, .int .i64 x1, .int .i64 x2, .slice (some ⟨b, off + 3, none⟩) (n - 3) (c - 3)] (x0, x1, x2, l3) := makePiece (p := (x0, x1, x2, l3)) wf0 wf1 wf2 (ints_slR hI (by omega) (by omega))
      have hz3 : szPiece (x0, x1, x2, l3) ≤ 1048576 := by have := hI.1; show l3.length ≤ 1048576; omega
      by_cases hp : PcOk (x0, x1, x2, l3)
      · have hpr : PrOk l := ⟨by rw [HL.out]; omega, by rw [HI.out]; exact hp⟩
        have HP := Lib.hid (decide_eq_true hp)
        have HD := Lib.hid (decide_eq_true hpr)
        rw [fPR_t hpr, HI.out, HD.out]
        clear hp hpr
        go_enter Try.func27, Try.ntmps27
        go_wp2_with fail
        go_region_held3 (fun w' => w'.cell? ⟨b, off, none⟩ = some (.int .u8 x0) ∧ w'.cell? ⟨b, off + 1, none⟩ = some (.int .u8 x1) ∧ w'.cell? ⟨b, off + 2, none⟩ = some (.int .u8 x2)) (first | (exact kk _ (by repeat (first | (with_reducible exact Below.refl _ _) | (with_reducible assumption) | (with_reducible refine bel_alloc ?_ _) | (with_reducible refine bel_drew ?_) | (with_reducible refine below_drewN ?_ _) | (with_reducible refine bel_put ?_ (by first | exact Nat.le_refl _ | (simp; done) | (simp; omega)) _)))) | go_keep) (fail)
        go_wp2_with fail
        refine (i_PieceOk (tPiece.reach hR0 ?hB) hz3).mono ?_
        case hB => exact (by repeat (first | (with_reducible exact Below.refl _ _) | (with_reducible assumption) | (with_reducible refine bel_alloc ?_ _) | (with_reducible refine bel_drew ?_) | (with_reducible refine below_drewN ?_ _) | (with_reducible refine bel_put ?_ (by first | exact Nat.le_refl _ | (simp; done) | (simp; omega)) _)))
        rintro e w1 ⟨rfl, hb1⟩
        rw [HP.out]
        have z1 : w.heap.size + 2 ≤ w1.heap.size := by have h : (World.alloc (World.alloc w _) _).heap.size ≤ w1.heap.size := hb1.size; simpa using h
        have R1 : Box w1 w.heap.size 27 #[.int .i64 0, .int .i64 0, .int .i64 0, .slice none 0 0] := Box.below ((Box.new w 27 #[.int .i64 0, .int .i64 0, .int .i64 0, .slice none 0 0]).alloc _).drew hb1 (by show _ < (World.alloc _ _).heap.size; first | (simp; done) | (simp; omega))
        have P1 : Box w1 (w.heap.size + 1) 27 #[.int .i64 x0, .int .i64 x1, .int .i64 x2, .slice (some ⟨b, off + 3, none⟩) (n - 3) (c - 3)] := Box.below (Box.drew (show Box ((w.alloc (.cells #[.int .i64 0, .int .i64 0, .int .i64 0, .slice none 0 0] 27)).alloc (.cells #[.int .i64 x0, .int .i64 x1, .int .i64 x2, .slice (some ⟨b, off + 3, none⟩) (n - 3) (c - 3)] 27)) (w.heap.size + 1) 27 #[.int .i64 x0, .int .i64 x1, .int .i64 x2, .slice (some ⟨b, off + 3, none⟩) (n - 3) (c - 3)] from by simpa using Box.new (w.alloc (.cells #[.int .i64 0, .int .i64 0, .int .i64 0, .slice none 0 0] 27)) 27 #[.int .i64 x0, .int .i64 x1, .int .i64 x2, .slice (some ⟨b, off + 3, none⟩) (n - 3) (c - 3)])) hb1 (by show _ < (World.alloc _ _).heap.size; first | (simp; done) | (simp; omega))
        have hB1 : Below w.heap.size w w1 := bel_trans (by repeat (first | (with_reducible exact Below.refl _ _) | (with_reducible assumption) | (with_reducible refine bel_alloc ?_ _) | (with_reducible refine bel_drew ?_) | (with_reducible refine below_drewN ?_ _) | (with_reducible refine bel_put ?_ (by first | exact Nat.le_refl _ | (simp; done) | (simp; omega)) _))) hb1
        have p0 := P1.cell 0; have p1 := P1.cell 1; have p2 := P1.cell 2; have p3 := P1.cell 3
        have r0 := R1.cell 0; have r1 := R1.cell 1; have r2 := R1.cell 2; have r3 := R1.cell 3
        have g0 := R1.frozen 0; have g1 := R1.frozen 1; have g2 := R1.frozen 2; have g3 := R1.frozen 3
        go_wp2_with fail
        refine (i_PcCopy (reach hI hB1) (by omega)).mono ?_
        rintro e w2 ⟨A2, c2, F, rfl, hO, hN, hb2⟩
        have R2 := R1.below hb2 R1.size
        have z2 := hb2.size
        have s0 := R2.cell 0; have s1 := R2.cell 1; have s2 := R2.cell 2; have s3 := R2.cell 3
        have u0 := R2.frozen 0; have u1 := R2.frozen 1; have u2 := R2.frozen 2; have u3 := R2.frozen 3
        go_wp2
        have RR := (((R2.put 0 (.int .i64 x0)).put 1 (.int .i64 x1)).put 2 (.int .i64 x2)).put 3 (.slice A2 l3.length c2)
        have e0 := RR.cell 0; have e1 := RR.cell 1; have e2 := RR.cell 2; have e3 := RR.cell 3
        have hq : w.heap.size < w1.heap.size := by omega
        have u := Ty.far (t := tBy) (Ty.far (t := tBy) (Ty.far (t := tBy) (Ty.far (t := tBy) hO hN (p := ⟨w.heap.size, 0, none⟩) hq (.int .i64 x0)) hN (p := ⟨w.heap.size, 1, none⟩) hq (.int .i64 x1)) hN (p := ⟨w.heap.size, 2, none⟩) hq (.int .i64 x2)) hN (p := ⟨w.heap.size, 3, none⟩) hq (.slice A2 l3.length c2)
        obtain ⟨F2, hF2, e⟩ := makeOPiece (p := (x0, x1, x2, l3)) wf0 wf1 wf2 u
        subst e
        refine bodyPost_ret (v := .tuple #[.agg #[.int .i64 x0, .int .i64 x1, .int .i64 x2, .slice A2 l3.length c2], .bool true]) (by simp [results, Try.results27, go_sem, e0, e1, e2, e3]) rfl ⟨_, F2, rfl, hF2, hN.lower (by omega), ?_⟩
        exact bel_put (bel_put (bel_put (bel_put (bel_trans hB1 hb2) (Nat.le_refl _) _) (Nat.le_refl _) _) (Nat.le_refl _) _) (Nat.le_refl _) _
      · have hpr : ¬ PrOk l := fun x => hp (by have := x.2; rw [HI.out] at this; exact this)
        have HP := Lib.hid (decide_eq_false hp)
        have HD := Lib.hid (decide_eq_false hpr)
        rw [fPR_f hpr, HD.out]
        clear hp hpr
        go_enter Try.func27, Try.ntmps27
        go_wp2_with fail
        go_region_held3 (fun w' => w'.cell? ⟨b, off, none⟩ = some (.int .u8 x0) ∧ w'.cell? ⟨b, off + 1, none⟩ = some (.int .u8 x1) ∧ w'.cell? ⟨b, off + 2, none⟩ = some (.int .u8 x2)) (first | (exact kk _ (by repeat (first | (with_reducible exact Below.refl _ _) | (with_reducible assumption) | (with_reducible refine bel_alloc ?_ _) | (with_reducible refine bel_drew ?_) | (with_reducible refine below_drewN ?_ _) | (with_reducible refine bel_put ?_ (by first | exact Nat.le_refl _ | (simp; done) | (simp; omega)) _)))) | go_keep) (fail)
        go_wp2_with fail
        refine (i_PieceOk (tPiece.reach hR0 ?hB) hz3).mono ?_
        case hB => exact (by repeat (first | (with_reducible exact Below.refl _ _) | (with_reducible assumption) | (with_reducible refine bel_alloc ?_ _) | (with_reducible refine bel_drew ?_) | (with_reducible refine below_drewN ?_ _) | (with_reducible refine bel_put ?_ (by first | exact Nat.le_refl _ | (simp; done) | (simp; omega)) _)))
        rintro e w1 ⟨rfl, hb1⟩
        rw [HP.out]
        have z1 : w.heap.size + 2 ≤ w1.heap.size := by have h : (World.alloc (World.alloc w _) _).heap.size ≤ w1.heap.size := hb1.size; simpa using h
        have R1 : Box w1 w.heap.size 27 #[.int .i64 0, .int .i64 0, .int .i64 0, .slice none 0 0] := Box.below ((Box.new w 27 #[.int .i64 0, .int .i64 0, .int .i64 0, .slice none 0 0]).alloc _).drew hb1 (by show _ < (World.alloc _ _).heap.size; first | (simp; done) | (simp; omega))
        have P1 : Box w1 (w.heap.size + 1) 27 #[.int .i64 x0, .int .i64 x1, .int .i64 x2, .slice (some ⟨b, off + 3, none⟩) (n - 3) (c - 3)] := Box.below (Box.drew (show Box ((w.alloc (.cells #[.int .i64 0, .int .i64 0, .int .i64 0, .slice none 0 0] 27)).alloc (.cells #[.int .i64 x0, .int .i64 x1, .int .i64 x2, .slice (some ⟨b, off + 3, none⟩) (n - 3) (c - 3)] 27)) (w.heap.size + 1) 27 #[.int .i64 x0, .int .i64 x1, .int .i64 x2, .slice (some ⟨b, off + 3, none⟩) (n - 3) (c - 3)] from by simpa using Box.new (w.alloc (.cells #[.int .i64 0, .int .i64 0, .int .i64 0, .slice none 0 0] 27)) 27 #[.int .i64 x0, .int .i64 x1, .int .i64 x2, .slice (some ⟨b, off + 3, none⟩) (n - 3) (c - 3)])) hb1 (by show _ < (World.alloc _ _).heap.size; first | (simp; done) | (simp; omega))
        have hB1 : Below w.heap.size w w1 := bel_trans (by repeat (first | (with_reducible exact Below.refl _ _) | (with_reducible assumption) | (with_reducible refine bel_alloc ?_ _) | (with_reducible refine bel_drew ?_) | (with_reducible refine below_drewN ?_ _) | (with_reducible refine bel_put ?_ (by first | exact Nat.le_refl _ | (simp; done) | (simp; omega)) _))) hb1
        have p0 := P1.cell 0; have p1 := P1.cell 1; have p2 := P1.cell 2; have p3 := P1.cell 3
        have r0 := R1.cell 0; have r1 := R1.cell 1; have r2 := R1.cell 2; have r3 := R1.cell 3
        have g0 := R1.frozen 0; have g1 := R1.frozen 1; have g2 := R1.frozen 2; have g3 := R1.frozen 3
        go_wp2
        have RR := (((R1.put 0 (.int .i64 0)).put 1 (.int .i64 0)).put 2 (.int .i64 0)).put 3 (.slice none 0 0)
        have e0 := RR.cell 0; have e1 := RR.cell 1; have e2 := RR.cell 2; have e3 := RR.cell 3
        refine bodyPost_ret (v := .tuple #[.agg #[.int .i64 0, .int .i64 0, .int .i64 0, .slice none 0 0], .bool false]) (by simp [results, Try.results27, go_sem, e0, e1, e2, e3]) rfl ⟨_, [], rfl, pzO, New.nil _, ?_⟩
        exact bel_put (bel_put (bel_put (bel_put hB1 (Nat.le_refl _) _) (Nat.le_refl _) _) (Nat.le_refl _) _) (Nat.le_refl _) _
set_option maxHeartbeats 1000000 in
theorem s_PieceRead {w : World} {A : Option Addr} {n c : Nat} {l : List Int} (h : tBy.R w w.heap.size [.slice A n c] l) (hz : l.length ≤ 1048576) :
    Calls Try.prog 25 #[.slice A n c] w fun e w' => ∃ cs, e = .returned (.tuple #[.agg cs.toArray, .bool (decide (PrOk l))]) ∧ tPiece.R w' w'.heap.size cs (fPR l) ∧ Below w.heap.size w w' := by
  obtain ⟨i0, hi0, hz0, hz1, hz2⟩ := info_parts info_cb
  obtain ⟨hl, hnc, hcm⟩ := slR_ints h
  have HL := Lib.hid hl.1
  clear h
  by_cases h3 : n < 3
  · have hp : ¬ PrOk l := fun x => by have := x.1; have := HL.out; omega
    have HP := Lib.hid (decide_eq_false hp)
    rw [fPR_f hp, HP.out]
    have q : (n : Int) < 3 := by omega
    clear hp
    go_enter Try.func25, Try.ntmps25
    go_wp2
    have R1 : Box (w.alloc (.cells #[.int .i64 0, .int .i64 0, .int .i64 0, .slice none 0 0] 27)) w.heap.size 27 #[.int .i64 0, .int .i64 0, .int .i64 0, .slice none 0 0] := Box.new _ _ _
    have e0 := R1.cell 0; have e1 := R1.cell 1; have e2 := R1.cell 2; have e3 := R1.cell 3
    refine bodyPost_ret (v := .tuple #[.agg #[.int .i64 0, .int .i64 0, .int .i64 0, .slice none 0 0], .bool false]) (by simp [results, Try.results25, go_sem, e0, e1, e2, e3]) rfl ⟨_, rfl, pzR, (by repeat (first | (with_reducible exact Below.refl _ _) | (with_reducible assumption) | (with_reducible refine bel_alloc ?_ _) | (with_reducible refine bel_drew ?_) | (with_reducible refine below_drewN ?_ _) | (with_reducible refine bel_put ?_ (by first | exact Nat.le_refl _ | (simp; done) | (simp; omega)) _)))⟩
  · obtain ⟨b, off, rfl, hb, hc0, hw0⟩ := hl.at_ (i := 0) (by omega)
    obtain ⟨b1, off1, e1, _, hc1, hw1⟩ := hl.at_ (i := 1) (by omega)
    obtain ⟨b2, off2, e2, _, hc2, hw2⟩ := hl.at_ (i := 2) (by omega)
    injection e1 with e1; injection e1 with e1 e1' _; subst e1 e1'
    injection e2 with e2; injection e2 with e2 e2' _; subst e2 e2'
    rw [Nat.add_zero] at hc0
    have hT := tail8 hl 3 (by omega)
    obtain ⟨x0, hx0⟩ : ∃ x, l.getD 0 0 = x := ⟨_, rfl⟩
    obtain ⟨x1, hx1⟩ : ∃ x, l.getD 1 0 = x := ⟨_, rfl⟩
    obtain ⟨x2, hx2⟩ : ∃ x, l.getD 2 0 = x := ⟨_, rfl⟩
    obtain ⟨l3, hl3⟩ : ∃ x, l.drop 3 = x := ⟨_, rfl⟩
    have HI := Lib.hid (show pcIn l = (x0, x1, x2, l3) from by rw [← hx0, ← hx1, ← hx2, ← hl3]; rfl)
    rw [hx0] at hc0 hw0
    rw [hx1] at hc1 hw1
    rw [hx2] at hc2 hw2
    rw [hl3] at hT
    clear hx0 hx1 hx2 hl3
    have rg0 := u8_rg' hw0
    have rg1 := u8_rg' hw1
    have rg2 := u8_rg' hw2
    have q3 : ¬ (n : Int) < 3 := by omega
    have q0 : (0 : Int) < (n : Int) := by omega
    have q1 : (1 : Int) < (n : Int) := by omega
    have q2 : (2 : Int) < (n : Int) := by omega
    have q4 : (3 : Int) ≤ (n : Int) := by omega
    have m0 : 0 < n := by omega
    have m1 : 1 < n := by omega
    have m2 : 2 < n := by omega
    have m3 : 3 ≤ n := by omega
    have m4 : n ≠ 0 := by omega
    have wf0 : (Lit.int .i64 x0).wf = true := wf_i64 (by omega) (by omega)
    have wf1 : (Lit.int .i64 x1).wf = true := wf_i64 (by omega) (by omega)
    have wf2 : (Lit.int .i64 x2).wf = true := wf_i64 (by omega) (by omega)
    have kk : ∀ W : World, Below w.heap.size w W → W.cell? ⟨b, off, none⟩ = some (.int .u8 x0) ∧ W.cell? ⟨b, off + 1, none⟩ = some (.int .u8 x1) ∧ W.cell? ⟨b, off + 2, none⟩ = some (.int .u8 x2) := fun W hW => ⟨cell_bel hW hc0, cell_bel hW hc1, cell_bel hW hc2⟩
    have hn1 : n ≤ 1048576 := by have := HL.out; omega
    clear hl hc0 hc1 hc2 hw0 hw1 hw2 hz
    by_cases hc3 : c = 3
    · subst hc3
      obtain rfl : n = 3 := by omega
      have hI : Ints .u8 w w.heap.size (some ⟨b, off, none⟩) 0 l3 := by
        have e := hT.1
        rw [show l3 = [] from List.eq_nil_of_length_eq_zero (by omega)]
        exact Ints.nil
      clear hT
      have hz3 : szPiece (x0, x1, x2, l3) ≤ 1048576 := by have := hI.1; show l3.length ≤ 1048576; omega
      have hE2 : ((w.alloc (.cells #[.int .i64 0, .int .i64 0, .int .i64 0, .slice none 0 0] 27)).alloc (.cells #[] 5)).drew.ownsRow (w.heap.size + 1) 5 1 (.slice (some ⟨w.heap.size + 1, 0, none⟩) 0 0) 0 [] := by
        have h : ((w.alloc (.cells #[.int .i64 0, .int .i64 0, .int .i64 0, .slice none 0 0] 27)).alloc (.cells #[] 5)).ownsRow (w.heap.size + 1) 5 1 (.slice (some ⟨w.heap.size + 1, 0, none⟩) 0 0) 0 [] := by simpa using empty8 (w.alloc (.cells #[.int .i64 0, .int .i64 0, .int .i64 0, .slice none 0 0] 27)) 5
        exact World.ownsRow.kept h (row := none) (gb_drew (World.grownBy.refl _ _)) (.inr (by simp [Value.ownBlock]))
      have hS2 : Src ((w.alloc (.cells #[.int .i64 0, .int .i64 0, .int .i64 0, .slice none 0 0] 27)).alloc (.cells #[] 5)).drew 1 (some ⟨b, off, none⟩) (0) (l3.map (Value.int .u8)) := Src.of_ints (reach hI (by repeat (first | (with_reducible exact Below.refl _ _) | (with_reducible assumption) | (with_reducible refine bel_alloc ?_ _) | (with_reducible refine bel_drew ?_) | (with_reducible refine below_drewN ?_ _) | (with_reducible refine bel_put ?_ (by first | exact Nat.le_refl _ | (simp; done) | (simp; omega)) _))))
      have hE3 : (((w.alloc (.cells #[.int .i64 0, .int .i64 0, .int .i64 0, .slice none 0 0] 27)).alloc (.cells #[] 5)).alloc (.cells #[.int .i64 0, .int .i64 0, .int .i64 0, .slice none 0 0] 27)).drew.ownsRow (w.heap.size + 1) 5 1 (.slice (some ⟨w.heap.size + 1, 0, none⟩) 0 0) 0 [] := by
        have h : ((w.alloc (.cells #[.int .i64 0, .int .i64 0, .int .i64 0, .slice none 0 0] 27)).alloc (.cells #[] 5)).ownsRow (w.heap.size + 1) 5 1 (.slice (some ⟨w.heap.size + 1, 0, none⟩) 0 0) 0 [] := by simpa using empty8 (w.alloc (.cells #[.int .i64 0, .int .i64 0, .int .i64 0, .slice none 0 0] 27)) 5
        exact World.ownsRow.kept h (row := none) (gb_drew (gb_alloc (World.grownBy.refl _ _) _)) (.inr (by simp [Value.ownBlock]))
      have hS3 : Src (((w.alloc (.cells #[.int .i64 0, .int .i64 0, .int .i64 0, .slice none 0 0] 27)).alloc (.cells #[] 5)).alloc (.cells #[.int .i64 0, .int .i64 0, .int .i64 0, .slice none 0 0] 27)).drew 1 (some ⟨b, off, none⟩) (0) (l3.map (Value.int .u8)) := Src.of_ints (reach hI (by repeat (first | (with_reducible exact Below.refl _ _) | (with_reducible assumption) | (with_reducible refine bel_alloc ?_ _) | (with_reducible refine bel_drew ?_) | (with_reducible refine below_drewN ?_ _) | (with_reducible refine bel_put ?_ (by first | exact Nat.le_refl _ | (simp; done) | (simp; omega)) _))))
      have hE4 : (((w.alloc (.cells #[.int .i64 0, .int .i64 0, .int .i64 0, .slice none 0 0] 27)).alloc (.cells #[.int .i64 0, .int .i64 0, .int .i64 0, .slice none 0 0] 27)).alloc (.cells #[] 5)).drew.ownsRow (w.heap.size + 2) 5 1 (.slice (some ⟨w.heap.size + 2, 0, none⟩) 0 0) 0 [] := by
        have h : (((w.alloc (.cells #[.int .i64 0, .int .i64 0, .int .i64 0, .slice none 0 0] 27)).alloc (.cells #[.int .i64 0, .int .i64 0, .int .i64 0, .slice none 0 0] 27)).alloc (.cells #[] 5)).ownsRow (w.heap.size + 2) 5 1 (.slice (some ⟨w.heap.size + 2, 0, none⟩) 0 0) 0 [] := by simpa using empty8 ((w.alloc (.cells #[.int .i64 0, .int .i64 0, .int .i64 0, .slice none 0 0] 27)).alloc (.cells #[.int .i64 0, .int .i64 0, .int .i64 0, .slice none 0 0] 27)) 5
        exact World.ownsRow.kept h (row := none) (gb_drew (World.grownBy.refl _ _)) (.inr (by simp [Value.ownBlock]))
      have hS4 : Src (((w.alloc (.cells #[.int .i64 0, .int .i64 0, .int .i64 0, .slice none 0 0] 27)).alloc (.cells #[.int .i64 0, .int .i64 0, .int .i64 0, .slice none 0 0] 27)).alloc (.cells #[] 5)).drew 1 (some ⟨b, off, none⟩) (0) (l3.map (Value.int .u8)) := Src.of_ints (reach hI (by repeat (first | (with_reducible exact Below.refl _ _) | (with_reducible assumption) | (with_reducible refine bel_alloc ?_ _) | (with_reducible refine bel_drew ?_) | (with_reducible refine below_drewN ?_ _) | (with_reducible refine bel_put ?_ (by first | exact Nat.le_refl _ | (simp; done) | (simp; omega)) _))))
      by_cases hp : PcOk (x0, x1, x2, l3)
      · have hpr : PrOk l := ⟨by rw [HL.out]; omega, by rw [HI.out]; exact hp⟩
        have HP := Lib.hid (decide_eq_true hp)
        have HD := Lib.hid (decide_eq_true hpr)
        rw [fPR_t hpr, HI.out, HD.out]
        clear hp hpr
        go_enter Try.func25, Try.ntmps25
        go_wp2_with fail
        go_region_held3 (fun w' => w'.cell? ⟨b, off, none⟩ = some (.int .u8 x0) ∧ w'.cell? ⟨b, off + 1, none⟩ = some (.int .u8 x1) ∧ w'.cell? ⟨b, off + 2, none⟩ = some (.int .u8 x2)) (first | (exact kk _ (by repeat (first | (with_reducible exact Below.refl _ _) | (with_reducible assumption) | (with_reducible refine bel_alloc ?_ _) | (with_reducible refine bel_drew ?_) | (with_reducible refine below_drewN ?_ _) | (with_reducible refine bel_put ?_ (by first | exact Nat.le_refl _ | (simp; done) | (simp; omega)) _)))) | go_keep)
          (first
            | (refine step_app' _ (by rfl) (.tmp 21) (.tmp 23) _ (by rfl) (w.heap.size + 1) 5 i0 _ 1 1 Try.underlying22 hi0 hz0 hz1 hz2 rfl (by omega) (.slice (some ⟨w.heap.size + 1, 0, none⟩) 0 0) 0 [] (by rfl) hE3 _ (0) (0) (l3.map (Value.int .u8)) (by rfl) hS3 (one_ints _ _) (by simp only [maxLen]; omega) (by omega) (by show _ ≤ (World.alloc _ _).heap.size; first | (simp; done) | (simp; omega)) ?_; intro v1 w0 hown hgr hat; obtain ⟨A2, c2, F, rfl, hO, hN⟩ := own_slice (Own.of (n := 0 + (0)) (by simpa using hown) hI.2.2); have hB0 : Below w.heap.size w w0 := Below.grown (w := (((w.alloc (.cells #[.int .i64 0, .int .i64 0, .int .i64 0, .slice none 0 0] 27)).alloc (.cells #[] 5)).alloc (.cells #[.int .i64 0, .int .i64 0, .int .i64 0, .slice none 0 0] 27)).drew) (by repeat (first | (with_reducible exact Below.refl _ _) | (with_reducible assumption) | (with_reducible refine bel_alloc ?_ _) | (with_reducible refine bel_drew ?_) | (with_reducible refine below_drewN ?_ _) | (with_reducible refine bel_put ?_ (by first | exact Nat.le_refl _ | (simp; done) | (simp; omega)) _))) hgr (by show _ ≤ (World.alloc _ _).heap.size; first | (simp; done) | (simp; omega)) (fun b hb => by have e := Option.some.inj (show some (w.heap.size + 1) = some b from hb); omega); have hFo : ∀ f ∈ F, f ≠ w.heap.size + 2 := (fun f hf e => by have h1 := sliceO_own hO f hf; rcases hat with h2 | h2; (rw [h1] at h2; have h3 := Option.some.inj (show some f = some (w.heap.size + 1) from h2); omega); (rw [h1] at h2; have h3 : f = (((w.alloc (.cells #[.int .i64 0, .int .i64 0, .int .i64 0, .slice none 0 0] 27)).alloc (.cells #[] 5)).alloc (.cells #[.int .i64 0, .int .i64 0, .int .i64 0, .slice none 0 0] 27)).heap.size := Option.some.inj h2; simp at h3; omega)); have T0 : Box w0 (w.heap.size + 2) 27 #[.int .i64 0, .int .i64 0, .int .i64 0, .slice none 0 0] := Box.grown (w := (((w.alloc (.cells #[.int .i64 0, .int .i64 0, .int .i64 0, .slice none 0 0] 27)).alloc (.cells #[] 5)).alloc (.cells #[.int .i64 0, .int .i64 0, .int .i64 0, .slice none 0 0] 27)).drew) (Box.drew (show Box (((w.alloc (.cells #[.int .i64 0, .int .i64 0, .int .i64 0, .slice none 0 0] 27)).alloc (.cells #[] 5)).alloc (.cells #[.int .i64 0, .int .i64 0, .int .i64 0, .slice none 0 0] 27)) (w.heap.size + 2) 27 #[.int .i64 0, .int .i64 0, .int .i64 0, .slice none 0 0] from by simpa using Box.new ((w.alloc (.cells #[.int .i64 0, .int .i64 0, .int .i64 0, .slice none 0 0] 27)).alloc (.cells #[] 5)) 27 #[.int .i64 0, .int .i64 0, .int .i64 0, .slice none 0 0])) hgr (fun e => by have e := Option.some.inj (show some (w.heap.size + 2) = some (w.heap.size + 1) from e); omega); have t0 : w0.cell? ⟨w.heap.size + 2, 0, none⟩ = some (.int .i64 0) := T0.cell 0; have v0 := T0.frozen 0; have t1 : w0.cell? ⟨w.heap.size + 2, 1, none⟩ = some (.int .i64 0) := T0.cell 1; have v1 := T0.frozen 1; have t2 : w0.cell? ⟨w.heap.size + 2, 2, none⟩ = some (.int .i64 0) := T0.cell 2; have v2 := T0.frozen 2; have t3 : w0.cell? ⟨w.heap.size + 2, 3, none⟩ = some (.slice none 0 0) := T0.cell 3; have v3 := T0.frozen 3)
            | (refine step_app' _ (by rfl) (.tmp 21) (.tmp 23) _ (by rfl) (w.heap.size + 1) 5 i0 _ 1 1 Try.underlying22 hi0 hz0 hz1 hz2 rfl (by omega) (.slice (some ⟨w.heap.size + 1, 0, none⟩) 0 0) 0 [] (by rfl) hE2 _ (0) (0) (l3.map (Value.int .u8)) (by rfl) hS2 (one_ints _ _) (by simp only [maxLen]; omega) (by omega) (by show _ ≤ (World.alloc _ _).heap.size; first | (simp; done) | (simp; omega)) ?_; intro v1 w0 hown hgr hat; obtain ⟨A2, c2, F, rfl, hO, hN⟩ := own_slice (Own.of (n := 0 + (0)) (by simpa using hown) hI.2.2); have hB0 : Below w.heap.size w w0 := Below.grown (w := ((w.alloc (.cells #[.int .i64 0, .int .i64 0, .int .i64 0, .slice none 0 0] 27)).alloc (.cells #[] 5)).drew) (by repeat (first | (with_reducible exact Below.refl _ _) | (with_reducible assumption) | (with_reducible refine bel_alloc ?_ _) | (with_reducible refine bel_drew ?_) | (with_reducible refine below_drewN ?_ _) | (with_reducible refine bel_put ?_ (by first | exact Nat.le_refl _ | (simp; done) | (simp; omega)) _))) hgr (by show _ ≤ (World.alloc _ _).heap.size; first | (simp; done) | (simp; omega)) (fun b hb => by have e := Option.some.inj (show some (w.heap.size + 1) = some b from hb); omega))
            | (refine step_app' _ (by rfl) (.tmp 21) (.tmp 23) _ (by rfl) (w.heap.size + 2) 5 i0 _ 1 1 Try.underlying22 hi0 hz0 hz1 hz2 rfl (by omega) (.slice (some ⟨w.heap.size + 2, 0, none⟩) 0 0) 0 [] (by rfl) hE4 _ (0) (0) (l3.map (Value.int .u8)) (by rfl) hS4 (one_ints _ _) (by simp only [maxLen]; omega) (by omega) (by show _ ≤ (World.alloc _ _).heap.size; first | (simp; done) | (simp; omega)) ?_; intro v1 w0 hown hgr hat; obtain ⟨A2, c2, F, rfl, hO, hN⟩ := own_slice (Own.of (n := 0 + (0)) (by simpa using hown) hI.2.2); have hB0 : Below w.heap.size w w0 := Below.grown (w := (((w.alloc (.cells #[.int .i64 0, .int .i64 0, .int .i64 0, .slice none 0 0] 27)).alloc (.cells #[.int .i64 0, .int .i64 0, .int .i64 0, .slice none 0 0] 27)).alloc (.cells #[] 5)).drew) (by repeat (first | (with_reducible exact Below.refl _ _) | (with_reducible assumption) | (with_reducible refine bel_alloc ?_ _) | (with_reducible refine bel_drew ?_) | (with_reducible refine below_drewN ?_ _) | (with_reducible refine bel_put ?_ (by first | exact Nat.le_refl _ | (simp; done) | (simp; omega)) _))) hgr (by show _ ≤ (World.alloc _ _).heap.size; first | (simp; done) | (simp; omega)) (fun b hb => by have e := Option.some.inj (show some (w.heap.size + 2) = some b from hb); omega); have hFo : ∀ f ∈ F, f ≠ w.heap.size + 1 := (fun f hf e => by have h1 := sliceO_own hO f hf; rcases hat with h2 | h2; (rw [h1] at h2; have h3 := Option.some.inj (show some f = some (w.heap.size + 2) from h2); omega); (rw [h1] at h2; have h3 : f = (((w.alloc (.cells #[.int .i64 0, .int .i64 0, .int .i64 0, .slice none 0 0] 27)).alloc (.cells #[.int .i64 0, .int .i64 0, .int .i64 0, .slice none 0 0] 27)).alloc (.cells #[] 5)).heap.size := Option.some.inj h2; simp at h3; omega)); have T0 : Box w0 (w.heap.size + 1) 27 #[.int .i64 0, .int .i64 0, .int .i64 0, .slice none 0 0] := Box.grown (w := (((w.alloc (.cells #[.int .i64 0, .int .i64 0, .int .i64 0, .slice none 0 0] 27)).alloc (.cells #[.int .i64 0, .int .i64 0, .int .i64 0, .slice none 0 0] 27)).alloc (.cells #[] 5)).drew) (Box.drew (Box.alloc (show Box ((w.alloc (.cells #[.int .i64 0, .int .i64 0, .int .i64 0, .slice none 0 0] 27)).alloc (.cells #[.int .i64 0, .int .i64 0, .int .i64 0, .slice none 0 0] 27)) (w.heap.size + 1) 27 #[.int .i64 0, .int .i64 0, .int .i64 0, .slice none 0 0] from by simpa using Box.new (w.alloc (.cells #[.int .i64 0, .int .i64 0, .int .i64 0, .slice none 0 0] 27)) 27 #[.int .i64 0, .int .i64 0, .int .i64 0, .slice none 0 0]) _)) hgr (fun e => by have e := Option.some.inj (show some (w.heap.size + 1) = some (w.heap.size + 2) from e); omega); have t0 : w0.cell? ⟨w.heap.size + 1, 0, none⟩ = some (.int .i64 0) := T0.cell 0; have v0 := T0.frozen 0; have t1 : w0.cell? ⟨w.heap.size + 1, 1, none⟩ = some (.int .i64 0) := T0.cell 1; have v1 := T0.frozen 1; have t2 : w0.cell? ⟨w.heap.size + 1, 2, none⟩ = some (.int .i64 0) := T0.cell 2; have v2 := T0.frozen 2; have t3 : w0.cell? ⟨w.heap.size + 1, 3, none⟩ = some (.slice none 0 0) := T0.cell 3; have v3 := T0.frozen 3))
        · have zz0 : w.heap.size + 2 ≤ w0.heap.size := by have h : (World.alloc (World.alloc w _) _).heap.size ≤ w0.heap.size := hgr.size; simpa using h
          have R0 : Box w0 w.heap.size 27 #[.int .i64 0, .int .i64 0, .int .i64 0, .slice none 0 0] := Box.grown (w := ((w.alloc (.cells #[.int .i64 0, .int .i64 0, .int .i64 0, .slice none 0 0] 27)).alloc (.cells #[] 5)).drew) ((Box.new w 27 #[.int .i64 0, .int .i64 0, .int .i64 0, .slice none 0 0]).alloc _).drew hgr (fun e => by have e := Option.some.inj (show some w.heap.size = some (w.heap.size + 1) from e); omega)
          have hR0 : tPiece.R w0 w0.heap.size [.int .i64 x0, .int .i64 x1, .int .i64 x2, .slice A2 l3.length c2] (x0, x1, x2, l3) := makePiece (p := (x0, x1, x2, l3)) wf0 wf1 wf2 (tBy.read hO)
          go_wp2_with fail
          refine (s_PieceOk (tPiece.reach hR0 ?hB) hz3).mono ?_
          case hB => exact (by repeat (first | (with_reducible exact Below.refl _ _) | (with_reducible assumption) | (with_reducible refine bel_alloc ?_ _) | (with_reducible refine bel_drew ?_) | (with_reducible refine below_drewN ?_ _) | (with_reducible refine bel_put ?_ (by first | exact Nat.le_refl _ | (simp; done) | (simp; omega)) _)))
          rintro e w1 ⟨rfl, hb1⟩
          rw [HP.out]
          have hs1 : Below w0.heap.size w0 w1 := bel_trans (by repeat (first | (with_reducible exact Below.refl _ _) | (with_reducible assumption) | (with_reducible refine bel_alloc ?_ _) | (with_reducible refine bel_drew ?_) | (with_reducible refine below_drewN ?_ _) | (with_reducible refine bel_put ?_ (by first | exact Nat.le_refl _ | (simp; done) | (simp; omega)) _))) hb1
          have R1 := R0.below hs1 R0.size
          have P1 : Box w1 w0.heap.size 27 #[.int .i64 x0, .int .i64 x1, .int .i64 x2, .slice A2 l3.length c2] := by first | exact Box.below (Box.new w0 _ _) hb1 (by simp) | exact Box.below (Box.drew (Box.new w0 _ _)) hb1 (by show _ < (World.alloc _ _).heap.size; simp)
          have hB1 : Below w.heap.size w w1 := bel_trans hB0 hs1
          have hO1 := Ty.below (t := tBy) hO hs1
          have p0 := P1.cell 0; have p1 := P1.cell 1; have p2 := P1.cell 2; have p3 := P1.cell 3
          have r0 := R1.cell 0; have r1 := R1.cell 1; have r2 := R1.cell 2; have r3 := R1.cell 3
          have g0 := R1.frozen 0; have g1 := R1.frozen 1; have g2 := R1.frozen 2; have g3 := R1.frozen 3
          go_wp2
          have RR := (((R1.put 0 (.int .i64 x0)).put 1 (.int .i64 x1)).put 2 (.int .i64 x2)).put 3 (.slice A2 l3.length c2)
          have e0 := RR.cell 0; have e1 := RR.cell 1; have e2 := RR.cell 2; have e3 := RR.cell 3
          have hN1 : New (w.heap.size + 1) F := hN.lower (by omega)
          have hq : w.heap.size < w.heap.size + 1 := by omega
          have u := Ty.far (t := tBy) (Ty.far (t := tBy) (Ty.far (t := tBy) (Ty.far (t := tBy) hO1 hN1 (p := ⟨w.heap.size, 0, none⟩) hq (.int .i64 x0)) hN1 (p := ⟨w.heap.size, 1, none⟩) hq (.int .i64 x1)) hN1 (p := ⟨w.heap.size, 2, none⟩) hq (.int .i64 x2)) hN1 (p := ⟨w.heap.size, 3, none⟩) hq (.slice A2 l3.length c2)
          refine bodyPost_ret (v := .tuple #[.agg #[.int .i64 x0, .int .i64 x1, .int .i64 x2, .slice A2 l3.length c2], .bool true]) (by simp [results, Try.results25, go_sem, e0, e1, e2, e3]) rfl ⟨_, rfl, makePiece (p := (x0, x1, x2, l3)) wf0 wf1 wf2 (tBy.read u), ?_⟩
          exact bel_put (bel_put (bel_put (bel_put hB1 (Nat.le_refl _) _) (Nat.le_refl _) _) (Nat.le_refl _) _) (Nat.le_refl _) _
        · have zz0 : w.heap.size + 3 ≤ w0.heap.size := by have h : (World.alloc (World.alloc (World.alloc w _) _) _).heap.size ≤ w0.heap.size := hgr.size; simpa using h
          have R0 : Box w0 w.heap.size 27 #[.int .i64 0, .int .i64 0, .int .i64 0, .slice none 0 0] := Box.grown (w := (((w.alloc (.cells #[.int .i64 0, .int .i64 0, .int .i64 0, .slice none 0 0] 27)).alloc (.cells #[] 5)).alloc (.cells #[.int .i64 0, .int .i64 0, .int .i64 0, .slice none 0 0] 27)).drew) (((Box.new w 27 #[.int .i64 0, .int .i64 0, .int .i64 0, .slice none 0 0]).alloc _).alloc _).drew hgr (fun e => by have e := Option.some.inj (show some w.heap.size = some (w.heap.size + 1) from e); omega)
          have hOx := (Ty.far2 (t := tBy) (Ty.far2 (t := tBy) (Ty.far2 (t := tBy) (Ty.far2 (t := tBy) hO (p := ⟨w.heap.size + 2, 0, none⟩) (fun hx => hFo _ hx rfl) (.int .i64 x0)) (p := ⟨w.heap.size + 2, 1, none⟩) (fun hx => hFo _ hx rfl) (.int .i64 x1)) (p := ⟨w.heap.size + 2, 2, none⟩) (fun hx => hFo _ hx rfl) (.int .i64 x2)) (p := ⟨w.heap.size + 2, 3, none⟩) (fun hx => hFo _ hx rfl) (.slice A2 l3.length c2))
          have Tx := ((((T0.put 0 (.int .i64 x0)).put 1 (.int .i64 x1)).put 2 (.int .i64 x2)).put 3 (.slice A2 l3.length c2))
          have Rx := ((((R0.far (p := ⟨w.heap.size + 2, 0, none⟩) (by show w.heap.size ≠ w.heap.size + 2; omega) (.int .i64 x0)).far (p := ⟨w.heap.size + 2, 1, none⟩) (by show w.heap.size ≠ w.heap.size + 2; omega) (.int .i64 x1)).far (p := ⟨w.heap.size + 2, 2, none⟩) (by show w.heap.size ≠ w.heap.size + 2; omega) (.int .i64 x2)).far (p := ⟨w.heap.size + 2, 3, none⟩) (by show w.heap.size ≠ w.heap.size + 2; omega) (.slice A2 l3.length c2))
          have hBx := (bel_put (bel_put (bel_put (bel_put hB0 (p := ⟨w.heap.size + 2, 0, none⟩) (by show w.heap.size ≤ w.heap.size + 2; omega) (.int .i64 x0)) (p := ⟨w.heap.size + 2, 1, none⟩) (by show w.heap.size ≤ w.heap.size + 2; omega) (.int .i64 x1)) (p := ⟨w.heap.size + 2, 2, none⟩) (by show w.heap.size ≤ w.heap.size + 2; omega) (.int .i64 x2)) (p := ⟨w.heap.size + 2, 3, none⟩) (by show w.heap.size ≤ w.heap.size + 2; omega) (.slice A2 l3.length c2))
          obtain ⟨wx, hwx⟩ : ∃ wx, ((((w0.setCell ⟨w.heap.size + 2, 0, none⟩ (.int .i64 x0)).setCell ⟨w.heap.size + 2, 1, none⟩ (.int .i64 x1)).setCell ⟨w.heap.size + 2, 2, none⟩ (.int .i64 x2)).setCell ⟨w.heap.size + 2, 3, none⟩ (.slice A2 l3.length c2)) = wx := ⟨_, rfl⟩
          rw [hwx] at hOx Tx Rx hBx
          have hR0 : tPiece.R wx wx.heap.size [.int .i64 x0, .int .i64 x1, .int .i64 x2, .slice A2 l3.length c2] (x0, x1, x2, l3) := makePiece (p := (x0, x1, x2, l3)) wf0 wf1 wf2 (tBy.read hOx)
          go_wp2_with fail
          try rw [hwx]
          refine (s_PieceOk (tPiece.reach hR0 ?hB) hz3).mono ?_
          case hB => exact (by repeat (first | (with_reducible exact Below.refl _ _) | (with_reducible assumption) | (with_reducible refine bel_alloc ?_ _) | (with_reducible refine bel_drew ?_) | (with_reducible refine below_drewN ?_ _) | (with_reducible refine bel_put ?_ (by first | exact Nat.le_refl _ | (simp; done) | (simp; omega)) _)))
          rintro e w1 ⟨rfl, hb1⟩
          rw [HP.out]
          have hs1 : Below wx.heap.size wx w1 := bel_trans (by repeat (first | (with_reducible exact Below.refl _ _) | (with_reducible assumption) | (with_reducible refine bel_alloc ?_ _) | (with_reducible refine bel_drew ?_) | (with_reducible refine below_drewN ?_ _) | (with_reducible refine bel_put ?_ (by first | exact Nat.le_refl _ | (simp; done) | (simp; omega)) _))) hb1
          have R1 := Rx.below hs1 Rx.size
          have P1 := Tx.below hs1 Tx.size
          have hB1 : Below w.heap.size w w1 := bel_trans hBx hs1
          have hO1 := Ty.below (t := tBy) hOx hs1
          have p0 := P1.cell 0; have p1 := P1.cell 1; have p2 := P1.cell 2; have p3 := P1.cell 3
          have r0 := R1.cell 0; have r1 := R1.cell 1; have r2 := R1.cell 2; have r3 := R1.cell 3
          have g0 := R1.frozen 0; have g1 := R1.frozen 1; have g2 := R1.frozen 2; have g3 := R1.frozen 3
          go_wp2
          have RR := (((R1.put 0 (.int .i64 x0)).put 1 (.int .i64 x1)).put 2 (.int .i64 x2)).put 3 (.slice A2 l3.length c2)
          have e0 := RR.cell 0; have e1 := RR.cell 1; have e2 := RR.cell 2; have e3 := RR.cell 3
          have hN1 : New (w.heap.size + 1) F := hN.lower (by omega)
          have hq : w.heap.size < w.heap.size + 1 := by omega
          have u := Ty.far (t := tBy) (Ty.far (t := tBy) (Ty.far (t := tBy) (Ty.far (t := tBy) hO1 hN1 (p := ⟨w.heap.size, 0, none⟩) hq (.int .i64 x0)) hN1 (p := ⟨w.heap.size, 1, none⟩) hq (.int .i64 x1)) hN1 (p := ⟨w.heap.size, 2, none⟩) hq (.int .i64 x2)) hN1 (p := ⟨w.heap.size, 3, none⟩) hq (.slice A2 l3.length c2)
          refine bodyPost_ret (v := .tuple #[.agg #[.int .i64 x0, .int .i64 x1, .int .i64 x2, .slice A2 l3.length c2], .bool true]) (by simp [results, Try.results25, go_sem, e0, e1, e2, e3]) rfl ⟨_, rfl, makePiece (p := (x0, x1, x2, l3)) wf0 wf1 wf2 (tBy.read u), ?_⟩
          exact bel_put (bel_put (bel_put (bel_put hB1 (Nat.le_refl _) _) (Nat.le_refl _) _) (Nat.le_refl _) _) (Nat.le_refl _) _
        · have zz0 : w.heap.size + 3 ≤ w0.heap.size := by have h : (World.alloc (World.alloc (World.alloc w _) _) _).heap.size ≤ w0.heap.size := hgr.size; simpa using h
          have R0 : Box w0 w.heap.size 27 #[.int .i64 0, .int .i64 0, .int .i64 0, .slice none 0 0] := Box.grown (w := (((w.alloc (.cells #[.int .i64 0, .int .i64 0, .int .i64 0, .slice none 0 0] 27)).alloc (.cells #[.int .i64 0, .int .i64 0, .int .i64 0, .slice none 0 0] 27)).alloc (.cells #[] 5)).drew) (((Box.new w 27 #[.int .i64 0, .int .i64 0, .int .i64 0, .slice none 0 0]).alloc _).alloc _).drew hgr (fun e => by have e := Option.some.inj (show some w.heap.size = some (w.heap.size + 2) from e); omega)
          have hOx := (Ty.far2 (t := tBy) (Ty.far2 (t := tBy) (Ty.far2 (t := tBy) (Ty.far2 (t := tBy) hO (p := ⟨w.heap.size + 1, 0, none⟩) (fun hx => hFo _ hx rfl) (.int .i64 x0)) (p := ⟨w.heap.size + 1, 1, none⟩) (fun hx => hFo _ hx rfl) (.int .i64 x1)) (p := ⟨w.heap.size + 1, 2, none⟩) (fun hx => hFo _ hx rfl) (.int .i64 x2)) (p := ⟨w.heap.size + 1, 3, none⟩) (fun hx => hFo _ hx rfl) (.slice A2 l3.length c2))
          have Tx := ((((T0.put 0 (.int .i64 x0)).put 1 (.int .i64 x1)).put 2 (.int .i64 x2)).put 3 (.slice A2 l3.length c2))
          have Rx := ((((R0.far (p := ⟨w.heap.size + 1, 0, none⟩) (by show w.heap.size ≠ w.heap.size + 1; omega) (.int .i64 x0)).far (p := ⟨w.heap.size + 1, 1, none⟩) (by show w.heap.size ≠ w.heap.size + 1; omega) (.int .i64 x1)).far (p := ⟨w.heap.size + 1, 2, none⟩) (by show w.heap.size ≠ w.heap.size + 1; omega) (.int .i64 x2)).far (p := ⟨w.heap.size + 1, 3, none⟩) (by show w.heap.size ≠ w.heap.size + 1; omega) (.slice A2 l3.length c2))
          have hBx := (bel_put (bel_put (bel_put (bel_put hB0 (p := ⟨w.heap.size + 1, 0, none⟩) (by show w.heap.size ≤ w.heap.size + 1; omega) (.int .i64 x0)) (p := ⟨w.heap.size + 1, 1, none⟩) (by show w.heap.size ≤ w.heap.size + 1; omega) (.int .i64 x1)) (p := ⟨w.heap.size + 1, 2, none⟩) (by show w.heap.size ≤ w.heap.size + 1; omega) (.int .i64 x2)) (p := ⟨w.heap.size + 1, 3, none⟩) (by show w.heap.size ≤ w.heap.size + 1; omega) (.slice A2 l3.length c2))
          obtain ⟨wx, hwx⟩ : ∃ wx, ((((w0.setCell ⟨w.heap.size + 1, 0, none⟩ (.int .i64 x0)).setCell ⟨w.heap.size + 1, 1, none⟩ (.int .i64 x1)).setCell ⟨w.heap.size + 1, 2, none⟩ (.int .i64 x2)).setCell ⟨w.heap.size + 1, 3, none⟩ (.slice A2 l3.length c2)) = wx := ⟨_, rfl⟩
          rw [hwx] at hOx Tx Rx hBx
          have hR0 : tPiece.R wx wx.heap.size [.int .i64 x0, .int .i64 x1, .int .i64 x2, .slice A2 l3.length c2] (x0, x1, x2, l3) := makePiece (p := (x0, x1, x2, l3)) wf0 wf1 wf2 (tBy.read hOx)
          go_wp2_with fail
          try rw [hwx]
          refine (s_PieceOk (tPiece.reach hR0 ?hB) hz3).mono ?_
          case hB => exact (by repeat (first | (with_reducible exact Below.refl _ _) | (with_reducible assumption) | (with_reducible refine bel_alloc ?_ _) | (with_reducible refine bel_drew ?_) | (with_reducible refine below_drewN ?_ _) | (with_reducible refine bel_put ?_ (by first | exact Nat.le_refl _ | (simp; done) | (simp; omega)) _)))
          rintro e w1 ⟨rfl, hb1⟩
          rw [HP.out]
          have hs1 : Below wx.heap.size wx w1 := bel_trans (by repeat (first | (with_reducible exact Below.refl _ _) | (with_reducible assumption) | (with_reducible refine bel_alloc ?_ _) | (with_reducible refine bel_drew ?_) | (with_reducible refine below_drewN ?_ _) | (with_reducible refine bel_put ?_ (by first | exact Nat.le_refl _ | (simp; done) | (simp; omega)) _))) hb1
          have R1 := Rx.below hs1 Rx.size
          have P1 := Tx.below hs1 Tx.size
          have hB1 : Below w.heap.size w w1 := bel_trans hBx hs1
          have hO1 := Ty.below (t := tBy) hOx hs1
          have p0 := P1.cell 0; have p1 := P1.cell 1; have p2 := P1.cell 2; have p3 := P1.cell 3
          have r0 := R1.cell 0; have r1 := R1.cell 1; have r2 := R1.cell 2; have r3 := R1.cell 3
          have g0 := R1.frozen 0; have g1 := R1.frozen 1; have g2 := R1.frozen 2; have g3 := R1.frozen 3
          go_wp2
          have RR := (((R1.put 0 (.int .i64 x0)).put 1 (.int .i64 x1)).put 2 (.int .i64 x2)).put 3 (.slice A2 l3.length c2)
          have e0 := RR.cell 0; have e1 := RR.cell 1; have e2 := RR.cell 2; have e3 := RR.cell 3
          have hN1 : New (w.heap.size + 1) F := hN.lower (by omega)
          have hq : w.heap.size < w.heap.size + 1 := by omega
          have u := Ty.far (t := tBy) (Ty.far (t := tBy) (Ty.far (t := tBy) (Ty.far (t := tBy) hO1 hN1 (p := ⟨w.heap.size, 0, none⟩) hq (.int .i64 x0)) hN1 (p := ⟨w.heap.size, 1, none⟩) hq (.int .i64 x1)) hN1 (p := ⟨w.heap.size, 2, none⟩) hq (.int .i64 x2)) hN1 (p := ⟨w.heap.size, 3, none⟩) hq (.slice A2 l3.length c2)
          refine bodyPost_ret (v := .tuple #[.agg #[.int .i64 x0, .int .i64 x1, .int .i64 x2, .slice A2 l3.length c2], .bool true]) (by simp [results, Try.results25, go_sem, e0, e1, e2, e3]) rfl ⟨_, rfl, makePiece (p := (x0, x1, x2, l3)) wf0 wf1 wf2 (tBy.read u), ?_⟩
          exact bel_put (bel_put (bel_put (bel_put hB1 (Nat.le_refl _) _) (Nat.le_refl _) _) (Nat.le_refl _) _) (Nat.le_refl _) _
      · have hpr : ¬ PrOk l := fun x => hp (by have := x.2; rw [HI.out] at this; exact this)
        have HP := Lib.hid (decide_eq_false hp)
        have HD := Lib.hid (decide_eq_false hpr)
        rw [fPR_f hpr, HD.out]
        clear hp hpr
        go_enter Try.func25, Try.ntmps25
        go_wp2_with fail
        go_region_held3 (fun w' => w'.cell? ⟨b, off, none⟩ = some (.int .u8 x0) ∧ w'.cell? ⟨b, off + 1, none⟩ = some (.int .u8 x1) ∧ w'.cell? ⟨b, off + 2, none⟩ = some (.int .u8 x2)) (first | (exact kk _ (by repeat (first | (with_reducible exact Below.refl _ _) | (with_reducible assumption) | (with_reducible refine bel_alloc ?_ _) | (with_reducible refine bel_drew ?_) | (with_reducible refine below_drewN ?_ _) | (with_reducible refine bel_put ?_ (by first | exact Nat.le_refl _ | (simp; done) | (simp; omega)) _)))) | go_keep)
          (first
            | (refine step_app' _ (by rfl) (.tmp 21) (.tmp 23) _ (by rfl) (w.heap.size + 1) 5 i0 _ 1 1 Try.underlying22 hi0 hz0 hz1 hz2 rfl (by omega) (.slice (some ⟨w.heap.size + 1, 0, none⟩) 0 0) 0 [] (by rfl) hE3 _ (0) (0) (l3.map (Value.int .u8)) (by rfl) hS3 (one_ints _ _) (by simp only [maxLen]; omega) (by omega) (by show _ ≤ (World.alloc _ _).heap.size; first | (simp; done) | (simp; omega)) ?_; intro v1 w0 hown hgr hat; obtain ⟨A2, c2, F, rfl, hO, hN⟩ := own_slice (Own.of (n := 0 + (0)) (by simpa using hown) hI.2.2); have hB0 : Below w.heap.size w w0 := Below.grown (w := (((w.alloc (.cells #[.int .i64 0, .int .i64 0, .int .i64 0, .slice none 0 0] 27)).alloc (.cells #[] 5)).alloc (.cells #[.int .i64 0, .int .i64 0, .int .i64 0, .slice none 0 0] 27)).drew) (by repeat (first | (with_reducible exact Below.refl _ _) | (with_reducible assumption) | (with_reducible refine bel_alloc ?_ _) | (with_reducible refine bel_drew ?_) | (with_reducible refine below_drewN ?_ _) | (with_reducible refine bel_put ?_ (by first | exact Nat.le_refl _ | (simp; done) | (simp; omega)) _))) hgr (by show _ ≤ (World.alloc _ _).heap.size; first | (simp; done) | (simp; omega)) (fun b hb => by have e := Option.some.inj (show some (w.heap.size + 1) = some b from hb); omega); have hFo : ∀ f ∈ F, f ≠ w.heap.size + 2 := (fun f hf e => by have h1 := sliceO_own hO f hf; rcases hat with h2 | h2; (rw [h1] at h2; have h3 := Option.some.inj (show some f = some (w.heap.size + 1) from h2); omega); (rw [h1] at h2; have h3 : f = (((w.alloc (.cells #[.int .i64 0, .int .i64 0, .int .i64 0, .slice none 0 0] 27)).alloc (.cells #[] 5)).alloc (.cells #[.int .i64 0, .int .i64 0, .int .i64 0, .slice none 0 0] 27)).heap.size := Option.some.inj h2; simp at h3; omega)); have T0 : Box w0 (w.heap.size + 2) 27 #[.int .i64 0, .int .i64 0, .int .i64 0, .slice none 0 0] := Box.grown (w := (((w.alloc (.cells #[.int .i64 0, .int .i64 0, .int .i64 0, .slice none 0 0] 27)).alloc (.cells #[] 5)).alloc (.cells #[.int .i64 0, .int .i64 0, .int .i64 0, .slice none 0 0] 27)).drew) (Box.drew (show Box (((w.alloc (.cells #[.int .i64 0, .int .i64 0, .int .i64 0, .slice none 0 0] 27)).alloc (.cells #[] 5)).alloc (.cells #[.int .i64 0, .int .i64 0, .int .i64 0, .slice none 0 0] 27)) (w.heap.size + 2) 27 #[.int .i64 0, .int .i64 0, .int .i64 0, .slice none 0 0] from by simpa using Box.new ((w.alloc (.cells #[.int .i64 0, .int .i64 0, .int .i64 0, .slice none 0 0] 27)).alloc (.cells #[] 5)) 27 #[.int .i64 0, .int .i64 0, .int .i64 0, .slice none 0 0])) hgr (fun e => by have e := Option.some.inj (show some (w.heap.size + 2) = some (w.heap.size + 1) from e); omega); have t0 : w0.cell? ⟨w.heap.size + 2, 0, none⟩ = some (.int .i64 0) := T0.cell 0; have v0 := T0.frozen 0; have t1 : w0.cell? ⟨w.heap.size + 2, 1, none⟩ = some (.int .i64 0) := T0.cell 1; have v1 := T0.frozen 1; have t2 : w0.cell? ⟨w.heap.size + 2, 2, none⟩ = some (.int .i64 0) := T0.cell 2; have v2 := T0.frozen 2; have t3 : w0.cell? ⟨w.heap.size + 2, 3, none⟩ = some (.slice none 0 0) := T0.cell 3; have v3 := T0.frozen 3)
            | (refine step_app' _ (by rfl) (.tmp 21) (.tmp 23) _ (by rfl) (w.heap.size + 1) 5 i0 _ 1 1 Try.underlying22 hi0 hz0 hz1 hz2 rfl (by omega) (.slice (some ⟨w.heap.size + 1, 0, none⟩) 0 0) 0 [] (by rfl) hE2 _ (0) (0) (l3.map (Value.int .u8)) (by rfl) hS2 (one_ints _ _) (by simp only [maxLen]; omega) (by omega) (by show _ ≤ (World.alloc _ _).heap.size; first | (simp; done) | (simp; omega)) ?_; intro v1 w0 hown hgr hat; obtain ⟨A2, c2, F, rfl, hO, hN⟩ := own_slice (Own.of (n := 0 + (0)) (by simpa using hown) hI.2.2); have hB0 : Below w.heap.size w w0 := Below.grown (w := ((w.alloc (.cells #[.int .i64 0, .int .i64 0, .int .i64 0, .slice none 0 0] 27)).alloc (.cells #[] 5)).drew) (by repeat (first | (with_reducible exact Below.refl _ _) | (with_reducible assumption) | (with_reducible refine bel_alloc ?_ _) | (with_reducible refine bel_drew ?_) | (with_reducible refine below_drewN ?_ _) | (with_reducible refine bel_put ?_ (by first | exact Nat.le_refl _ | (simp; done) | (simp; omega)) _))) hgr (by show _ ≤ (World.alloc _ _).heap.size; first | (simp; done) | (simp; omega)) (fun b hb => by have e := Option.some.inj (show some (w.heap.size + 1) = some b from hb); omega))
            | (refine step_app' _ (by rfl) (.tmp 21) (.tmp 23) _ (by rfl) (w.heap.size + 2) 5 i0 _ 1 1 Try.underlying22 hi0 hz0 hz1 hz2 rfl (by omega) (.slice (some ⟨w.heap.size + 2, 0, none⟩) 0 0) 0 [] (by rfl) hE4 _ (0) (0) (l3.map (Value.int .u8)) (by rfl) hS4 (one_ints _ _) (by simp only [maxLen]; omega) (by omega) (by show _ ≤ (World.alloc _ _).heap.size; first | (simp; done) | (simp; omega)) ?_; intro v1 w0 hown hgr hat; obtain ⟨A2, c2, F, rfl, hO, hN⟩ := own_slice (Own.of (n := 0 + (0)) (by simpa using hown) hI.2.2); have hB0 : Below w.heap.size w w0 := Below.grown (w := (((w.alloc (.cells #[.int .i64 0, .int .i64 0, .int .i64 0, .slice none 0 0] 27)).alloc (.cells #[.int .i64 0, .int .i64 0, .int .i64 0, .slice none 0 0] 27)).alloc (.cells #[] 5)).drew) (by repeat (first | (with_reducible exact Below.refl _ _) | (with_reducible assumption) | (with_reducible refine bel_alloc ?_ _) | (with_reducible refine bel_drew ?_) | (with_reducible refine below_drewN ?_ _) | (with_reducible refine bel_put ?_ (by first | exact Nat.le_refl _ | (simp; done) | (simp; omega)) _))) hgr (by show _ ≤ (World.alloc _ _).heap.size; first | (simp; done) | (simp; omega)) (fun b hb => by have e := Option.some.inj (show some (w.heap.size + 2) = some b from hb); omega); have hFo : ∀ f ∈ F, f ≠ w.heap.size + 1 := (fun f hf e => by have h1 := sliceO_own hO f hf; rcases hat with h2 | h2; (rw [h1] at h2; have h3 := Option.some.inj (show some f = some (w.heap.size + 2) from h2); omega); (rw [h1] at h2; have h3 : f = (((w.alloc (.cells #[.int .i64 0, .int .i64 0, .int .i64 0, .slice none 0 0] 27)).alloc (.cells #[.int .i64 0, .int .i64 0, .int .i64 0, .slice none 0 0] 27)).alloc (.cells #[] 5)).heap.size := Option.some.inj h2; simp at h3; omega)); have T0 : Box w0 (w.heap.size + 1) 27 #[.int .i64 0, .int .i64 0, .int .i64 0, .slice none 0 0] := Box.grown (w := (((w.alloc (.cells #[.int .i64 0, .int .i64 0, .int .i64 0, .slice none 0 0] 27)).alloc (.cells #[.int .i64 0, .int .i64 0, .int .i64 0, .slice none 0 0] 27)).alloc (.cells #[] 5)).drew) (Box.drew (Box.alloc (show Box ((w.alloc (.cells #[.int .i64 0, .int .i64 0, .int .i64 0, .slice none 0 0] 27)).alloc (.cells #[.int .i64 0, .int .i64 0, .int .i64 0, .slice none 0 0] 27)) (w.heap.size + 1) 27 #[.int .i64 0, .int .i64 0, .int .i64 0, .slice none 0 0] from by simpa using Box.new (w.alloc (.cells #[.int .i64 0, .int .i64 0, .int .i64 0, .slice none 0 0] 27)) 27 #[.int .i64 0, .int .i64 0, .int .i64 0, .slice none 0 0]) _)) hgr (fun e => by have e := Option.some.inj (show some (w.heap.size + 1) = some (w.heap.size + 2) from e); omega); have t0 : w0.cell? ⟨w.heap.size + 1, 0, none⟩ = some (.int .i64 0) := T0.cell 0; have v0 := T0.frozen 0; have t1 : w0.cell? ⟨w.heap.size + 1, 1, none⟩ = some (.int .i64 0) := T0.cell 1; have v1 := T0.frozen 1; have t2 : w0.cell? ⟨w.heap.size + 1, 2, none⟩ = some (.int .i64 0) := T0.cell 2; have v2 := T0.frozen 2; have t3 : w0.cell? ⟨w.heap.size + 1, 3, none⟩ = some (.slice none 0 0) := T0.cell 3; have v3 := T0.frozen 3))
        · have zz0 : w.heap.size + 2 ≤ w0.heap.size := by have h : (World.alloc (World.alloc w _) _).heap.size ≤ w0.heap.size := hgr.size; simpa using h
          have R0 : Box w0 w.heap.size 27 #[.int .i64 0, .int .i64 0, .int .i64 0, .slice none 0 0] := Box.grown (w := ((w.alloc (.cells #[.int .i64 0, .int .i64 0, .int .i64 0, .slice none 0 0] 27)).alloc (.cells #[] 5)).drew) ((Box.new w 27 #[.int .i64 0, .int .i64 0, .int .i64 0, .slice none 0 0]).alloc _).drew hgr (fun e => by have e := Option.some.inj (show some w.heap.size = some (w.heap.size + 1) from e); omega)
          have hR0 : tPiece.R w0 w0.heap.size [.int .i64 x0, .int .i64 x1, .int .i64 x2, .slice A2 l3.length c2] (x0, x1, x2, l3) := makePiece (p := (x0, x1, x2, l3)) wf0 wf1 wf2 (tBy.read hO)
          go_wp2_with fail
          refine (s_PieceOk (tPiece.reach hR0 ?hB) hz3).mono ?_
          case hB => exact (by repeat (first | (with_reducible exact Below.refl _ _) | (with_reducible assumption) | (with_reducible refine bel_alloc ?_ _) | (with_reducible refine bel_drew ?_) | (with_reducible refine below_drewN ?_ _) | (with_reducible refine bel_put ?_ (by first | exact Nat.le_refl _ | (simp; done) | (simp; omega)) _)))
          rintro e w1 ⟨rfl, hb1⟩
          rw [HP.out]
          have hs1 : Below w0.heap.size w0 w1 := bel_trans (by repeat (first | (with_reducible exact Below.refl _ _) | (with_reducible assumption) | (with_reducible refine bel_alloc ?_ _) | (with_reducible refine bel_drew ?_) | (with_reducible refine below_drewN ?_ _) | (with_reducible refine bel_put ?_ (by first | exact Nat.le_refl _ | (simp; done) | (simp; omega)) _))) hb1
          have R1 := R0.below hs1 R0.size
          have P1 : Box w1 w0.heap.size 27 #[.int .i64 x0, .int .i64 x1, .int .i64 x2, .slice A2 l3.length c2] := by first | exact Box.below (Box.new w0 _ _) hb1 (by simp) | exact Box.below (Box.drew (Box.new w0 _ _)) hb1 (by show _ < (World.alloc _ _).heap.size; simp)
          have hB1 : Below w.heap.size w w1 := bel_trans hB0 hs1
          have hO1 := Ty.below (t := tBy) hO hs1
          have p0 := P1.cell 0; have p1 := P1.cell 1; have p2 := P1.cell 2; have p3 := P1.cell 3
          have r0 := R1.cell 0; have r1 := R1.cell 1; have r2 := R1.cell 2; have r3 := R1.cell 3
          have g0 := R1.frozen 0; have g1 := R1.frozen 1; have g2 := R1.frozen 2; have g3 := R1.frozen 3
          go_wp2
          have RR := (((R1.put 0 (.int .i64 0)).put 1 (.int .i64 0)).put 2 (.int .i64 0)).put 3 (.slice none 0 0)
          have e0 := RR.cell 0; have e1 := RR.cell 1; have e2 := RR.cell 2; have e3 := RR.cell 3
          refine bodyPost_ret (v := .tuple #[.agg #[.int .i64 0, .int .i64 0, .int .i64 0, .slice none 0 0], .bool false]) (by simp [results, Try.results25, go_sem, e0, e1, e2, e3]) rfl ⟨_, rfl, pzR, ?_⟩
          exact bel_put (bel_put (bel_put (bel_put hB1 (Nat.le_refl _) _) (Nat.le_refl _) _) (Nat.le_refl _) _) (Nat.le_refl _) _
        · have zz0 : w.heap.size + 3 ≤ w0.heap.size := by have h : (World.alloc (World.alloc (World.alloc w _) _) _).heap.size ≤ w0.heap.size := hgr.size; simpa using h
          have R0 : Box w0 w.heap.size 27 #[.int .i64 0, .int .i64 0, .int .i64 0, .slice none 0 0] := Box.grown (w := (((w.alloc (.cells #[.int .i64 0, .int .i64 0, .int .i64 0, .slice none 0 0] 27)).alloc (.cells #[] 5)).alloc (.cells #[.int .i64 0, .int .i64 0, .int .i64 0, .slice none 0 0] 27)).drew) (((Box.new w 27 #[.int .i64 0, .int .i64 0, .int .i64 0, .slice none 0 0]).alloc _).alloc _).drew hgr (fun e => by have e := Option.some.inj (show some w.heap.size = some (w.heap.size + 1) from e); omega)
          have hOx := (Ty.far2 (t := tBy) (Ty.far2 (t := tBy) (Ty.far2 (t := tBy) (Ty.far2 (t := tBy) hO (p := ⟨w.heap.size + 2, 0, none⟩) (fun hx => hFo _ hx rfl) (.int .i64 x0)) (p := ⟨w.heap.size + 2, 1, none⟩) (fun hx => hFo _ hx rfl) (.int .i64 x1)) (p := ⟨w.heap.size + 2, 2, none⟩) (fun hx => hFo _ hx rfl) (.int .i64 x2)) (p := ⟨w.heap.size + 2, 3, none⟩) (fun hx => hFo _ hx rfl) (.slice A2 l3.length c2))
          have Tx := ((((T0.put 0 (.int .i64 x0)).put 1 (.int .i64 x1)).put 2 (.int .i64 x2)).put 3 (.slice A2 l3.length c2))
          have Rx := ((((R0.far (p := ⟨w.heap.size + 2, 0, none⟩) (by show w.heap.size ≠ w.heap.size + 2; omega) (.int .i64 x0)).far (p := ⟨w.heap.size + 2, 1, none⟩) (by show w.heap.size ≠ w.heap.size + 2; omega) (.int .i64 x1)).far (p := ⟨w.heap.size + 2, 2, none⟩) (by show w.heap.size ≠ w.heap.size + 2; omega) (.int .i64 x2)).far (p := ⟨w.heap.size + 2, 3, none⟩) (by show w.heap.size ≠ w.heap.size + 2; omega) (.slice A2 l3.length c2))
          have hBx := (bel_put (bel_put (bel_put (bel_put hB0 (p := ⟨w.heap.size + 2, 0, none⟩) (by show w.heap.size ≤ w.heap.size + 2; omega) (.int .i64 x0)) (p := ⟨w.heap.size + 2, 1, none⟩) (by show w.heap.size ≤ w.heap.size + 2; omega) (.int .i64 x1)) (p := ⟨w.heap.size + 2, 2, none⟩) (by show w.heap.size ≤ w.heap.size + 2; omega) (.int .i64 x2)) (p := ⟨w.heap.size + 2, 3, none⟩) (by show w.heap.size ≤ w.heap.size + 2; omega) (.slice A2 l3.length c2))
          obtain ⟨wx, hwx⟩ : ∃ wx, ((((w0.setCell ⟨w.heap.size + 2, 0, none⟩ (.int .i64 x0)).setCell ⟨w.heap.size + 2, 1, none⟩ (.int .i64 x1)).setCell ⟨w.heap.size + 2, 2, none⟩ (.int .i64 x2)).setCell ⟨w.heap.size + 2, 3, none⟩ (.slice A2 l3.length c2)) = wx := ⟨_, rfl⟩
          rw [hwx] at hOx Tx Rx hBx
          have hR0 : tPiece.R wx wx.heap.size [.int .i64 x0, .int .i64 x1, .int .i64 x2, .slice A2 l3.length c2] (x0, x1, x2, l3) := makePiece (p := (x0, x1, x2, l3)) wf0 wf1 wf2 (tBy.read hOx)
          go_wp2_with fail
          try rw [hwx]
          refine (s_PieceOk (tPiece.reach hR0 ?hB) hz3).mono ?_
          case hB => exact (by repeat (first | (with_reducible exact Below.refl _ _) | (with_reducible assumption) | (with_reducible refine bel_alloc ?_ _) | (with_reducible refine bel_drew ?_) | (with_reducible refine below_drewN ?_ _) | (with_reducible refine bel_put ?_ (by first | exact Nat.le_refl _ | (simp; done) | (simp; omega)) _)))
          rintro e w1 ⟨rfl, hb1⟩
          rw [HP.out]
          have hs1 : Below wx.heap.size wx w1 := bel_trans (by repeat (first | (with_reducible exact Below.refl _ _) | (with_reducible assumption) | (with_reducible refine bel_alloc ?_ _) | (with_reducible refine bel_drew ?_) | (with_reducible refine below_drewN ?_ _) | (with_reducible refine bel_put ?_ (by first | exact Nat.le_refl _ | (simp; done) | (simp; omega)) _))) hb1
          have R1 := Rx.below hs1 Rx.size
          have P1 := Tx.below hs1 Tx.size
          have hB1 : Below w.heap.size w w1 := bel_trans hBx hs1
          have hO1 := Ty.below (t := tBy) hOx hs1
          have p0 := P1.cell 0; have p1 := P1.cell 1; have p2 := P1.cell 2; have p3 := P1.cell 3
          have r0 := R1.cell 0; have r1 := R1.cell 1; have r2 := R1.cell 2; have r3 := R1.cell 3
          have g0 := R1.frozen 0; have g1 := R1.frozen 1; have g2 := R1.frozen 2; have g3 := R1.frozen 3
          go_wp2
          have RR := (((R1.put 0 (.int .i64 0)).put 1 (.int .i64 0)).put 2 (.int .i64 0)).put 3 (.slice none 0 0)
          have e0 := RR.cell 0; have e1 := RR.cell 1; have e2 := RR.cell 2; have e3 := RR.cell 3
          refine bodyPost_ret (v := .tuple #[.agg #[.int .i64 0, .int .i64 0, .int .i64 0, .slice none 0 0], .bool false]) (by simp [results, Try.results25, go_sem, e0, e1, e2, e3]) rfl ⟨_, rfl, pzR, ?_⟩
          exact bel_put (bel_put (bel_put (bel_put hB1 (Nat.le_refl _) _) (Nat.le_refl _) _) (Nat.le_refl _) _) (Nat.le_refl _) _
        · have zz0 : w.heap.size + 3 ≤ w0.heap.size := by have h : (World.alloc (World.alloc (World.alloc w _) _) _).heap.size ≤ w0.heap.size := hgr.size; simpa using h
          have R0 : Box w0 w.heap.size 27 #[.int .i64 0, .int .i64 0, .int .i64 0, .slice none 0 0] := Box.grown (w := (((w.alloc (.cells #[.int .i64 0, .int .i64 0, .int .i64 0, .slice none 0 0] 27)).alloc (.cells #[.int .i64 0, .int .i64 0, .int .i64 0, .slice none 0 0] 27)).alloc (.cells #[] 5)).drew) (((Box.new w 27 #[.int .i64 0, .int .i64 0, .int .i64 0, .slice none 0 0]).alloc _).alloc _).drew hgr (fun e => by have e := Option.some.inj (show some w.heap.size = some (w.heap.size + 2) from e); omega)
          have hOx := (Ty.far2 (t := tBy) (Ty.far2 (t := tBy) (Ty.far2 (t := tBy) (Ty.far2 (t := tBy) hO (p := ⟨w.heap.size + 1, 0, none⟩) (fun hx => hFo _ hx rfl) (.int .i64 x0)) (p := ⟨w.heap.size + 1, 1, none⟩) (fun hx => hFo _ hx rfl) (.int .i64 x1)) (p := ⟨w.heap.size + 1, 2, none⟩) (fun hx => hFo _ hx rfl) (.int .i64 x2)) (p := ⟨w.heap.size + 1, 3, none⟩) (fun hx => hFo _ hx rfl) (.slice A2 l3.length c2))
          have Tx := ((((T0.put 0 (.int .i64 x0)).put 1 (.int .i64 x1)).put 2 (.int .i64 x2)).put 3 (.slice A2 l3.length c2))
          have Rx := ((((R0.far (p := ⟨w.heap.size + 1, 0, none⟩) (by show w.heap.size ≠ w.heap.size + 1; omega) (.int .i64 x0)).far (p := ⟨w.heap.size + 1, 1, none⟩) (by show w.heap.size ≠ w.heap.size + 1; omega) (.int .i64 x1)).far (p := ⟨w.heap.size + 1, 2, none⟩) (by show w.heap.size ≠ w.heap.size + 1; omega) (.int .i64 x2)).far (p := ⟨w.heap.size + 1, 3, none⟩) (by show w.heap.size ≠ w.heap.size + 1; omega) (.slice A2 l3.length c2))
          have hBx := (bel_put (bel_put (bel_put (bel_put hB0 (p := ⟨w.heap.size + 1, 0, none⟩) (by show w.heap.size ≤ w.heap.size + 1; omega) (.int .i64 x0)) (p := ⟨w.heap.size + 1, 1, none⟩) (by show w.heap.size ≤ w.heap.size + 1; omega) (.int .i64 x1)) (p := ⟨w.heap.size + 1, 2, none⟩) (by show w.heap.size ≤ w.heap.size + 1; omega) (.int .i64 x2)) (p := ⟨w.heap.size + 1, 3, none⟩) (by show w.heap.size ≤ w.heap.size + 1; omega) (.slice A2 l3.length c2))
          obtain ⟨wx, hwx⟩ : ∃ wx, ((((w0.setCell ⟨w.heap.size + 1, 0, none⟩ (.int .i64 x0)).setCell ⟨w.heap.size + 1, 1, none⟩ (.int .i64 x1)).setCell ⟨w.heap.size + 1, 2, none⟩ (.int .i64 x2)).setCell ⟨w.heap.size + 1, 3, none⟩ (.slice A2 l3.length c2)) = wx := ⟨_, rfl⟩
          rw [hwx] at hOx Tx Rx hBx
          have hR0 : tPiece.R wx wx.heap.size [.int .i64 x0, .int .i64 x1, .int .i64 x2, .slice A2 l3.length c2] (x0, x1, x2, l3) := makePiece (p := (x0, x1, x2, l3)) wf0 wf1 wf2 (tBy.read hOx)
          go_wp2_with fail
          try rw [hwx]
          refine (s_PieceOk (tPiece.reach hR0 ?hB) hz3).mono ?_
          case hB => exact (by repeat (first | (with_reducible exact Below.refl _ _) | (with_reducible assumption) | (with_reducible refine bel_alloc ?_ _) | (with_reducible refine bel_drew ?_) | (with_reducible refine below_drewN ?_ _) | (with_reducible refine bel_put ?_ (by first | exact Nat.le_refl _ | (simp; done) | (simp; omega)) _)))
          rintro e w1 ⟨rfl, hb1⟩
          rw [HP.out]
          have hs1 : Below wx.heap.size wx w1 := bel_trans (by repeat (first | (with_reducible exact Below.refl _ _) | (with_reducible assumption) | (with_reducible refine bel_alloc ?_ _) | (with_reducible refine bel_drew ?_) | (with_reducible refine below_drewN ?_ _) | (with_reducible refine bel_put ?_ (by first | exact Nat.le_refl _ | (simp; done) | (simp; omega)) _))) hb1
          have R1 := Rx.below hs1 Rx.size
          have P1 := Tx.below hs1 Tx.size
          have hB1 : Below w.heap.size w w1 := bel_trans hBx hs1
          have hO1 := Ty.below (t := tBy) hOx hs1
          have p0 := P1.cell 0; have p1 := P1.cell 1; have p2 := P1.cell 2; have p3 := P1.cell 3
          have r0 := R1.cell 0; have r1 := R1.cell 1; have r2 := R1.cell 2; have r3 := R1.cell 3
          have g0 := R1.frozen 0; have g1 := R1.frozen 1; have g2 := R1.frozen 2; have g3 := R1.frozen 3
          go_wp2
          have RR := (((R1.put 0 (.int .i64 0)).put 1 (.int .i64 0)).put 2 (.int .i64 0)).put 3 (.slice none 0 0)
          have e0 := RR.cell 0; have e1 := RR.cell 1; have e2 := RR.cell 2; have e3 := RR.cell 3
          refine bodyPost_ret (v := .tuple #[.agg #[.int .i64 0, .int .i64 0, .int .i64 0, .slice none 0 0], .bool false]) (by simp [results, Try.results25, go_sem, e0, e1, e2, e3]) rfl ⟨_, rfl, pzR, ?_⟩
          exact bel_put (bel_put (bel_put (bel_put hB1 (Nat.le_refl _) _) (Nat.le_refl _) _) (Nat.le_refl _) _) (Nat.le_refl _) _
    · have hI : Ints .u8 w w.heap.size (some ⟨b, off + 3, none⟩) (n - 3) l3 := hT
      clear hT
      have hz3 : szPiece (x0, x1, x2, l3) ≤ 1048576 := by have := hI.1; show l3.length ≤ 1048576; omega
      have hE2 : ((w.alloc (.cells #[.int .i64 0, .int .i64 0, .int .i64 0, .slice none 0 0] 27)).alloc (.cells #[] 5)).drew.ownsRow (w.heap.size + 1) 5 1 (.slice (some ⟨w.heap.size + 1, 0, none⟩) 0 0) 0 [] := by
        have h : ((w.alloc (.cells #[.int .i64 0, .int .i64 0, .int .i64 0, .slice none 0 0] 27)).alloc (.cells #[] 5)).ownsRow (w.heap.size + 1) 5 1 (.slice (some ⟨w.heap.size + 1, 0, none⟩) 0 0) 0 [] := by simpa using empty8 (w.alloc (.cells #[.int .i64 0, .int .i64 0, .int .i64 0, .slice none 0 0] 27)) 5
        exact World.ownsRow.kept h (row := none) (gb_drew (World.grownBy.refl _ _)) (.inr (by simp [Value.ownBlock]))
      have hS2 : Src ((w.alloc (.cells #[.int .i64 0, .int .i64 0, .int .i64 0, .slice none 0 0] 27)).alloc (.cells #[] 5)).drew 1 (some ⟨b, off + 3, none⟩) (n - 3) (l3.map (Value.int .u8)) := Src.of_ints (reach hI (by repeat (first | (with_reducible exact Below.refl _ _) | (with_reducible assumption) | (with_reducible refine bel_alloc ?_ _) | (with_reducible refine bel_drew ?_) | (with_reducible refine below_drewN ?_ _) | (with_reducible refine bel_put ?_ (by first | exact Nat.le_refl _ | (simp; done) | (simp; omega)) _))))
      have hE3 : (((w.alloc (.cells #[.int .i64 0, .int .i64 0, .int .i64 0, .slice none 0 0] 27)).alloc (.cells #[] 5)).alloc (.cells #[.int .i64 0, .int .i64 0, .int .i64 0, .slice none 0 0] 27)).drew.ownsRow (w.heap.size + 1) 5 1 (.slice (some ⟨w.heap.size + 1, 0, none⟩) 0 0) 0 [] := by
        have h : ((w.alloc (.cells #[.int .i64 0, .int .i64 0, .int .i64 0, .slice none 0 0] 27)).alloc (.cells #[] 5)).ownsRow (w.heap.size + 1) 5 1 (.slice (some ⟨w.heap.size + 1, 0, none⟩) 0 0) 0 [] := by simpa using empty8 (w.alloc (.cells #[.int .i64 0, .int .i64 0, .int .i64 0, .slice none 0 0] 27)) 5
        exact World.ownsRow.kept h (row := none) (gb_drew (gb_alloc (World.grownBy.refl _ _) _)) (.inr (by simp [Value.ownBlock]))
      have hS3 : Src (((w.alloc (.cells #[.int .i64 0, .int .i64 0, .int .i64 0, .slice none 0 0] 27)).alloc (.cells #[] 5)).alloc (.cells #[.int .i64 0, .int .i64 0, .int .i64 0, .slice none 0 0] 27)).drew 1 (some ⟨b, off + 3, none⟩) (n - 3) (l3.map (Value.int .u8)) := Src.of_ints (reach hI (by repeat (first | (with_reducible exact Below.refl _ _) | (with_reducible assumption) | (with_reducible refine bel_alloc ?_ _) | (with_reducible refine bel_drew ?_) | (with_reducible refine below_drewN ?_ _) | (with_reducible refine bel_put ?_ (by first | exact Nat.le_refl _ | (simp; done) | (simp; omega)) _))))
      have hE4 : (((w.alloc (.cells #[.int .i64 0, .int .i64 0, .int .i64 0, .slice none 0 0] 27)).alloc (.cells #[.int .i64 0, .int .i64 0, .int .i64 0, .slice none 0 0] 27)).alloc (.cells #[] 5)).drew.ownsRow (w.heap.size + 2) 5 1 (.slice (some ⟨w.heap.size + 2, 0, none⟩) 0 0) 0 [] := by
        have h : (((w.alloc (.cells #[.int .i64 0, .int .i64 0, .int .i64 0, .slice none 0 0] 27)).alloc (.cells #[.int .i64 0, .int .i64 0, .int .i64 0, .slice none 0 0] 27)).alloc (.cells #[] 5)).ownsRow (w.heap.size + 2) 5 1 (.slice (some ⟨w.heap.size + 2, 0, none⟩) 0 0) 0 [] := by simpa using empty8 ((w.alloc (.cells #[.int .i64 0, .int .i64 0, .int .i64 0, .slice none 0 0] 27)).alloc (.cells #[.int .i64 0, .int .i64 0, .int .i64 0, .slice none 0 0] 27)) 5
        exact World.ownsRow.kept h (row := none) (gb_drew (World.grownBy.refl _ _)) (.inr (by simp [Value.ownBlock]))
      have hS4 : Src (((w.alloc (.cells #[.int .i64 0, .int .i64 0, .int .i64 0, .slice none 0 0] 27)).alloc (.cells #[.int .i64 0, .int .i64 0, .int .i64 0, .slice none 0 0] 27)).alloc (.cells #[] 5)).drew 1 (some ⟨b, off + 3, none⟩) (n - 3) (l3.map (Value.int .u8)) := Src.of_ints (reach hI (by repeat (first | (with_reducible exact Below.refl _ _) | (with_reducible assumption) | (with_reducible refine bel_alloc ?_ _) | (with_reducible refine bel_drew ?_) | (with_reducible refine below_drewN ?_ _) | (with_reducible refine bel_put ?_ (by first | exact Nat.le_refl _ | (simp; done) | (simp; omega)) _))))
      by_cases hp : PcOk (x0, x1, x2, l3)
      · have hpr : PrOk l := ⟨by rw [HL.out]; omega, by rw [HI.out]; exact hp⟩
        have HP := Lib.hid (decide_eq_true hp)
        have HD := Lib.hid (decide_eq_true hpr)
        rw [fPR_t hpr, HI.out, HD.out]
        clear hp hpr
        go_enter Try.func25, Try.ntmps25
        go_wp2_with fail
        go_region_held3 (fun w' => w'.cell? ⟨b, off, none⟩ = some (.int .u8 x0) ∧ w'.cell? ⟨b, off + 1, none⟩ = some (.int .u8 x1) ∧ w'.cell? ⟨b, off + 2, none⟩ = some (.int .u8 x2)) (first | (exact kk _ (by repeat (first | (with_reducible exact Below.refl _ _) | (with_reducible assumption) | (with_reducible refine bel_alloc ?_ _) | (with_reducible refine bel_drew ?_) | (with_reducible refine below_drewN ?_ _) | (with_reducible refine bel_put ?_ (by first | exact Nat.le_refl _ | (simp; done) | (simp; omega)) _)))) | go_keep)
          (first
            | (refine step_app' _ (by rfl) (.tmp 21) (.tmp 23) _ (by rfl) (w.heap.size + 1) 5 i0 _ 1 1 Try.underlying22 hi0 hz0 hz1 hz2 rfl (by omega) (.slice (some ⟨w.heap.size + 1, 0, none⟩) 0 0) 0 [] (by rfl) hE3 _ (n - 3) (c - 3) (l3.map (Value.int .u8)) (by rfl) hS3 (one_ints _ _) (by simp only [maxLen]; omega) (by omega) (by show _ ≤ (World.alloc _ _).heap.size; first | (simp; done) | (simp; omega)) ?_; intro v1 w0 hown hgr hat; obtain ⟨A2, c2, F, rfl, hO, hN⟩ := own_slice (Own.of (n := 0 + (n - 3)) (by simpa using hown) hI.2.2); have hB0 : Below w.heap.size w w0 := Below.grown (w := (((w.alloc (.cells #[.int .i64 0, .int .i64 0, .int .i64 0, .slice none 0 0] 27)).alloc (.cells #[] 5)).alloc (.cells #[.int .i64 0, .int .i64 0, .int .i64 0, .slice none 0 0] 27)).drew) (by repeat (first | (with_reducible exact Below.refl _ _) | (with_reducible assumption) | (with_reducible refine bel_alloc ?_ _) | (with_reducible refine bel_drew ?_) | (with_reducible refine below_drewN ?_ _) | (with_reducible refine bel_put ?_ (by first | exact Nat.le_refl _ | (simp; done) | (simp; omega)) _))) hgr (by show _ ≤ (World.alloc _ _).heap.size; first | (simp; done) | (simp; omega)) (fun b hb => by have e := Option.some.inj (show some (w.heap.size + 1) = some b from hb); omega); have hFo : ∀ f ∈ F, f ≠ w.heap.size + 2 := (fun f hf e => by have h1 := sliceO_own hO f hf; rcases hat with h2 | h2; (rw [h1] at h2; have h3 := Option.some.inj (show some f = some (w.heap.size + 1) from h2); omega); (rw [h1] at h2; have h3 : f = (((w.alloc (.cells #[.int .i64 0, .int .i64 0, .int .i64 0, .slice none 0 0] 27)).alloc (.cells #[] 5)).alloc (.cells #[.int .i64 0, .int .i64 0, .int .i64 0, .slice none 0 0] 27)).heap.size := Option.some.inj h2; simp at h3; omega)); have T0 : Box w0 (w.heap.size + 2) 27 #[.int .i64 0, .int .i64 0, .int .i64 0, .slice none 0 0] := Box.grown (w := (((w.alloc (.cells #[.int .i64 0, .int .i64 0, .int .i64 0, .slice none 0 0] 27)).alloc (.cells #[] 5)).alloc (.cells #[.int .i64 0, .int .i64 0, .int .i64 0, .slice none 0 0] 27)).drew) (Box.drew (show Box (((w.alloc (.cells #[.int .i64 0, .int .i64 0, .int .i64 0, .slice none 0 0] 27)).alloc (.cells #[] 5)).alloc (.cells #[.int .i64 0, .int .i64 0, .int .i64 0, .slice none 0 0] 27)) (w.heap.size + 2) 27 #[.int .i64 0, .int .i64 0, .int .i64 0, .slice none 0 0] from by simpa using Box.new ((w.alloc (.cells #[.int .i64 0, .int .i64 0, .int .i64 0, .slice none 0 0] 27)).alloc (.cells #[] 5)) 27 #[.int .i64 0, .int .i64 0, .int .i64 0, .slice none 0 0])) hgr (fun e => by have e := Option.some.inj (show some (w.heap.size + 2) = some (w.heap.size + 1) from e); omega); have t0 : w0.cell? ⟨w.heap.size + 2, 0, none⟩ = some (.int .i64 0) := T0.cell 0; have v0 := T0.frozen 0; have t1 : w0.cell? ⟨w.heap.size + 2, 1, none⟩ = some (.int .i64 0) := T0.cell 1; have v1 := T0.frozen 1; have t2 : w0.cell? ⟨w.heap.size + 2, 2, none⟩ = some (.int .i64 0) := T0.cell 2; have v2 := T0.frozen 2; have t3 : w0.cell? ⟨w.heap.size + 2, 3, none⟩ = some (.slice none 0 0) := T0.cell 3; have v3 := T0.frozen 3)
            | (refine step_app' _ (by rfl) (.tmp 21) (.tmp 23) _ (by rfl) (w.heap.size + 1) 5 i0 _ 1 1 Try.underlying22 hi0 hz0 hz1 hz2 rfl (by omega) (.slice (some ⟨w.heap.size + 1, 0, none⟩) 0 0) 0 [] (by rfl) hE2 _ (n - 3) (c - 3) (l3.map (Value.int .u8)) (by rfl) hS2 (one_ints _ _) (by simp only [maxLen]; omega) (by omega) (by show _ ≤ (World.alloc _ _).heap.size; first | (simp; done) | (simp; omega)) ?_; intro v1 w0 hown hgr hat; obtain ⟨A2, c2, F, rfl, hO, hN⟩ := own_slice (Own.of (n := 0 + (n - 3)) (by simpa using hown) hI.2.2); have hB0 : Below w.heap.size w w0 := Below.grown (w := ((w.alloc (.cells #[.int .i64 0, .int .i64 0, .int .i64 0, .slice none 0 0] 27)).alloc (.cells #[] 5)).drew) (by repeat (first | (with_reducible exact Below.refl _ _) | (with_reducible assumption) | (with_reducible refine bel_alloc ?_ _) | (with_reducible refine bel_drew ?_) | (with_reducible refine below_drewN ?_ _) | (with_reducible refine bel_put ?_ (by first | exact Nat.le_refl _ | (simp; done) | (simp; omega)) _))) hgr (by show _ ≤ (World.alloc _ _).heap.size; first | (simp; done) | (simp; omega)) (fun b hb => by have e := Option.some.inj (show some (w.heap.size + 1) = some b from hb); omega))
            | (refine step_app' _ (by rfl) (.tmp 21) (.tmp 23) _ (by rfl) (w.heap.size + 2) 5 i0 _ 1 1 Try.underlying22 hi0 hz0 hz1 hz2 rfl (by omega) (.slice (some ⟨w.heap.size + 2, 0, none⟩) 0 0) 0 [] (by rfl) hE4 _ (n - 3) (c - 3) (l3.map (Value.int .u8)) (by rfl) hS4 (one_ints _ _) (by simp only [maxLen]; omega) (by omega) (by show _ ≤ (World.alloc _ _).heap.size; first | (simp; done) | (simp; omega)) ?_; intro v1 w0 hown hgr hat; obtain ⟨A2, c2, F, rfl, hO, hN⟩ := own_slice (Own.of (n := 0 + (n - 3)) (by simpa using hown) hI.2.2); have hB0 : Below w.heap.size w w0 := Below.grown (w := (((w.alloc (.cells #[.int .i64 0, .int .i64 0, .int .i64 0, .slice none 0 0] 27)).alloc (.cells #[.int .i64 0, .int .i64 0, .int .i64 0, .slice none 0 0] 27)).alloc (.cells #[] 5)).drew) (by repeat (first | (with_reducible exact Below.refl _ _) | (with_reducible assumption) | (with_reducible refine bel_alloc ?_ _) | (with_reducible refine bel_drew ?_) | (with_reducible refine below_drewN ?_ _) | (with_reducible refine bel_put ?_ (by first | exact Nat.le_refl _ | (simp; done) | (simp; omega)) _))) hgr (by show _ ≤ (World.alloc _ _).heap.size; first | (simp; done) | (simp; omega)) (fun b hb => by have e := Option.some.inj (show some (w.heap.size + 2) = some b from hb); omega); have hFo : ∀ f ∈ F, f ≠ w.heap.size + 1 := (fun f hf e => by have h1 := sliceO_own hO f hf; rcases hat with h2 | h2; (rw [h1] at h2; have h3 := Option.some.inj (show some f = some (w.heap.size + 2) from h2); omega); (rw [h1] at h2; have h3 : f = (((w.alloc (.cells #[.int .i64 0, .int .i64 0, .int .i64 0, .slice none 0 0] 27)).alloc (.cells #[.int .i64 0, .int .i64 0, .int .i64 0, .slice none 0 0] 27)).alloc (.cells #[] 5)).heap.size := Option.some.inj h2; simp at h3; omega)); have T0 : Box w0 (w.heap.size + 1) 27 #[.int .i64 0, .int .i64 0, .int .i64 0, .slice none 0 0] := Box.grown (w := (((w.alloc (.cells #[.int .i64 0, .int .i64 0, .int .i64 0, .slice none 0 0] 27)).alloc (.cells #[.int .i64 0, .int .i64 0, .int .i64 0, .slice none 0 0] 27)).alloc (.cells #[] 5)).drew) (Box.drew (Box.alloc (show Box ((w.alloc (.cells #[.int .i64 0, .int .i64 0, .int .i64 0, .slice none 0 0] 27)).alloc (.cells #[.int .i64 0, .int .i64 0, .int .i64 0, .slice none 0 0] 27)) (w.heap.size + 1) 27 #[.int .i64 0, .int .i64 0, .int .i64 0, .slice none 0 0] from by simpa using Box.new (w.alloc (.cells #[.int .i64 0, .int .i64 0, .int .i64 0, .slice none 0 0] 27)) 27 #[.int .i64 0, .int .i64 0, .int .i64 0, .slice none 0 0]) _)) hgr (fun e => by have e := Option.some.inj (show some (w.heap.size + 1) = some (w.heap.size + 2) from e); omega); have t0 : w0.cell? ⟨w.heap.size + 1, 0, none⟩ = some (.int .i64 0) := T0.cell 0; have v0 := T0.frozen 0; have t1 : w0.cell? ⟨w.heap.size + 1, 1, none⟩ = some (.int .i64 0) := T0.cell 1; have v1 := T0.frozen 1; have t2 : w0.cell? ⟨w.heap.size + 1, 2, none⟩ = some (.int .i64 0) := T0.cell 2; have v2 := T0.frozen 2; have t3 : w0.cell? ⟨w.heap.size + 1, 3, none⟩ = some (.slice none 0 0) := T0.cell 3; have v3 := T0.frozen 3))
        · have zz0 : w.heap.size + 2 ≤ w0.heap.size := by have h : (World.alloc (World.alloc w _) _).heap.size ≤ w0.heap.size := hgr.size; simpa using h
          have R0 : Box w0 w.heap.size 27 #[.int .i64 0, .int .i64 0, .int .i64 0, .slice none 0 0] := Box.grown (w := ((w.alloc (.cells #[.int .i64 0, .int .i64 0, .int .i64 0, .slice none 0 0] 27)).alloc (.cells #[] 5)).drew) ((Box.new w 27 #[.int .i64 0, .int .i64 0, .int .i64 0, .slice none 0 0]).alloc _).drew hgr (fun e => by have e := Option.some.inj (show some w.heap.size = some (w.heap.size + 1) from e); omega)
          have hR0 : tPiece.R w0 w0.heap.size [.int .i64 x0, .int .i64 x1, .int .i64 x2, .slice A2 l3.length c2] (x0, x1, x2, l3) := makePiece (p := (x0, x1, x2, l3)) wf0 wf1 wf2 (tBy.read hO)
          go_wp2_with fail
          refine (s_PieceOk (tPiece.reach hR0 ?hB) hz3).mono ?_
          case hB => exact (by repeat (first | (with_reducible exact Below.refl _ _) | (with_reducible assumption) | (with_reducible refine bel_alloc ?_ _) | (with_reducible refine bel_drew ?_) | (with_reducible refine below_drewN ?_ _) | (with_reducible refine bel_put ?_ (by first | exact Nat.le_refl _ | (simp; done) | (simp; omega)) _)))
          rintro e w1 ⟨rfl, hb1⟩
          rw [HP.out]
          have hs1 : Below w0.heap.size w0 w1 := bel_trans (by repeat (first | (with_reducible exact Below.refl _ _) | (with_reducible assumption) | (with_reducible refine bel_alloc ?_ _) | (with_reducible refine bel_drew ?_) | (with_reducible refine below_drewN ?_ _) | (with_reducible refine bel_put ?_ (by first | exact Nat.le_refl _ | (simp; done) | (simp; omega)) _))) hb1
          have R1 := R0.below hs1 R0.size
          have P1 : Box w1 w0.heap.size 27 #[.int .i64 x0, .int .i64 x1, .int .i64 x2, .slice A2 l3.length c2] := by first | exact Box.below (Box.new w0 _ _) hb1 (by simp) | exact Box.below (Box.drew (Box.new w0 _ _)) hb1 (by show _ < (World.alloc _ _).heap.size; simp)
          have hB1 : Below w.heap.size w w1 := bel_trans hB0 hs1
          have hO1 := Ty.below (t := tBy) hO hs1
          have p0 := P1.cell 0; have p1 := P1.cell 1; have p2 := P1.cell 2; have p3 := P1.cell 3
          have r0 := R1.cell 0; have r1 := R1.cell 1; have r2 := R1.cell 2; have r3 := R1.cell 3
          have g0 := R1.frozen 0; have g1 := R1.frozen 1; have g2 := R1.frozen 2; have g3 := R1.frozen 3
          go_wp2
          have RR := (((R1.put 0 (.int .i64 x0)).put 1 (.int .i64 x1)).put 2 (.int .i64 x2)).put 3 (.slice A2 l3.length c2)
          have e0 := RR.cell 0; have e1 := RR.cell 1; have e2 := RR.cell 2; have e3 := RR.cell 3
          have hN1 : New (w.heap.size + 1) F := hN.lower (by omega)
          have hq : w.heap.size < w.heap.size + 1 := by omega
          have u := Ty.far (t := tBy) (Ty.far (t := tBy) (Ty.far (t := tBy) (Ty.far (t := tBy) hO1 hN1 (p := ⟨w.heap.size, 0, none⟩) hq (.int .i64 x0)) hN1 (p := ⟨w.heap.size, 1, none⟩) hq (.int .i64 x1)) hN1 (p := ⟨w.heap.size, 2, none⟩) hq (.int .i64 x2)) hN1 (p := ⟨w.heap.size, 3, none⟩) hq (.slice A2 l3.length c2)
          refine bodyPost_ret (v := .tuple #[.agg #[.int .i64 x0, .int .i64 x1, .int .i64 x2, .slice A2 l3.length c2], .bool true]) (by simp [results, Try.results25, go_sem, e0, e1, e2, e3]) rfl ⟨_, rfl, makePiece (p := (x0, x1, x2, l3)) wf0 wf1 wf2 (tBy.read u), ?_⟩
          exact bel_put (bel_put (bel_put (bel_put hB1 (Nat.le_refl _) _) (Nat.le_refl _) _) (Nat.le_refl _) _) (Nat.le_refl _) _
        · have zz0 : w.heap.size + 3 ≤ w0.heap.size := by have h : (World.alloc (World.alloc (World.alloc w _) _) _).heap.size ≤ w0.heap.size := hgr.size; simpa using h
          have R0 : Box w0 w.heap.size 27 #[.int .i64 0, .int .i64 0, .int .i64 0, .slice none 0 0] := Box.grown (w := (((w.alloc (.cells #[.int .i64 0, .int .i64 0, .int .i64 0, .slice none 0 0] 27)).alloc (.cells #[] 5)).alloc (.cells #[.int .i64 0, .int .i64 0, .int .i64 0, .slice none 0 0] 27)).drew) (((Box.new w 27 #[.int .i64 0, .int .i64 0, .int .i64 0, .slice none 0 0]).alloc _).alloc _).drew hgr (fun e => by have e := Option.some.inj (show some w.heap.size = some (w.heap.size + 1) from e); omega)
          have hOx := (Ty.far2 (t := tBy) (Ty.far2 (t := tBy) (Ty.far2 (t := tBy) (Ty.far2 (t := tBy) hO (p := ⟨w.heap.size + 2, 0, none⟩) (fun hx => hFo _ hx rfl) (.int .i64 x0)) (p := ⟨w.heap.size + 2, 1, none⟩) (fun hx => hFo _ hx rfl) (.int .i64 x1)) (p := ⟨w.heap.size + 2, 2, none⟩) (fun hx => hFo _ hx rfl) (.int .i64 x2)) (p := ⟨w.heap.size + 2, 3, none⟩) (fun hx => hFo _ hx rfl) (.slice A2 l3.length c2))
          have Tx := ((((T0.put 0 (.int .i64 x0)).put 1 (.int .i64 x1)).put 2 (.int .i64 x2)).put 3 (.slice A2 l3.length c2))
          have Rx := ((((R0.far (p := ⟨w.heap.size + 2, 0, none⟩) (by show w.heap.size ≠ w.heap.size + 2; omega) (.int .i64 x0)).far (p := ⟨w.heap.size + 2, 1, none⟩) (by show w.heap.size ≠ w.heap.size + 2; omega) (.int .i64 x1)).far (p := ⟨w.heap.size + 2, 2, none⟩) (by show w.heap.size ≠ w.heap.size + 2; omega) (.int .i64 x2)).far (p := ⟨w.heap.size + 2, 3, none⟩) (by show w.heap.size ≠ w.heap.size + 2; omega) (.slice A2 l3.length c2))
          have hBx := (bel_put (bel_put (bel_put (bel_put hB0 (p := ⟨w.heap.size + 2, 0, none⟩) (by show w.heap.size ≤ w.heap.size + 2; omega) (.int .i64 x0)) (p := ⟨w.heap.size + 2, 1, none⟩) (by show w.heap.size ≤ w.heap.size + 2; omega) (.int .i64 x1)) (p := ⟨w.heap.size + 2, 2, none⟩) (by show w.heap.size ≤ w.heap.size + 2; omega) (.int .i64 x2)) (p := ⟨w.heap.size + 2, 3, none⟩) (by show w.heap.size ≤ w.heap.size + 2; omega) (.slice A2 l3.length c2))
          obtain ⟨wx, hwx⟩ : ∃ wx, ((((w0.setCell ⟨w.heap.size + 2, 0, none⟩ (.int .i64 x0)).setCell ⟨w.heap.size + 2, 1, none⟩ (.int .i64 x1)).setCell ⟨w.heap.size + 2, 2, none⟩ (.int .i64 x2)).setCell ⟨w.heap.size + 2, 3, none⟩ (.slice A2 l3.length c2)) = wx := ⟨_, rfl⟩
          rw [hwx] at hOx Tx Rx hBx
          have hR0 : tPiece.R wx wx.heap.size [.int .i64 x0, .int .i64 x1, .int .i64 x2, .slice A2 l3.length c2] (x0, x1, x2, l3) := makePiece (p := (x0, x1, x2, l3)) wf0 wf1 wf2 (tBy.read hOx)
          go_wp2_with fail
          try rw [hwx]
          refine (s_PieceOk (tPiece.reach hR0 ?hB) hz3).mono ?_
          case hB => exact (by repeat (first | (with_reducible exact Below.refl _ _) | (with_reducible assumption) | (with_reducible refine bel_alloc ?_ _) | (with_reducible refine bel_drew ?_) | (with_reducible refine below_drewN ?_ _) | (with_reducible refine bel_put ?_ (by first | exact Nat.le_refl _ | (simp; done) | (simp; omega)) _)))
          rintro e w1 ⟨rfl, hb1⟩
          rw [HP.out]
          have hs1 : Below wx.heap.size wx w1 := bel_trans (by repeat (first | (with_reducible exact Below.refl _ _) | (with_reducible assumption) | (with_reducible refine bel_alloc ?_ _) | (with_reducible refine bel_drew ?_) | (with_reducible refine below_drewN ?_ _) | (with_reducible refine bel_put ?_ (by first | exact Nat.le_refl _ | (simp; done) | (simp; omega)) _))) hb1
          have R1 := Rx.below hs1 Rx.size
          have P1 := Tx.below hs1 Tx.size
          have hB1 : Below w.heap.size w w1 := bel_trans hBx hs1
          have hO1 := Ty.below (t := tBy) hOx hs1
          have p0 := P1.cell 0; have p1 := P1.cell 1; have p2 := P1.cell 2; have p3 := P1.cell 3
          have r0 := R1.cell 0; have r1 := R1.cell 1; have r2 := R1.cell 2; have r3 := R1.cell 3
          have g0 := R1.frozen 0; have g1 := R1.frozen 1; have g2 := R1.frozen 2; have g3 := R1.frozen 3
          go_wp2
          have RR := (((R1.put 0 (.int .i64 x0)).put 1 (.int .i64 x1)).put 2 (.int .i64 x2)).put 3 (.slice A2 l3.length c2)
          have e0 := RR.cell 0; have e1 := RR.cell 1; have e2 := RR.cell 2; have e3 := RR.cell 3
          have hN1 : New (w.heap.size + 1) F := hN.lower (by omega)
          have hq : w.heap.size < w.heap.size + 1 := by omega
          have u := Ty.far (t := tBy) (Ty.far (t := tBy) (Ty.far (t := tBy) (Ty.far (t := tBy) hO1 hN1 (p := ⟨w.heap.size, 0, none⟩) hq (.int .i64 x0)) hN1 (p := ⟨w.heap.size, 1, none⟩) hq (.int .i64 x1)) hN1 (p := ⟨w.heap.size, 2, none⟩) hq (.int .i64 x2)) hN1 (p := ⟨w.heap.size, 3, none⟩) hq (.slice A2 l3.length c2)
          refine bodyPost_ret (v := .tuple #[.agg #[.int .i64 x0, .int .i64 x1, .int .i64 x2, .slice A2 l3.length c2], .bool true]) (by simp [results, Try.results25, go_sem, e0, e1, e2, e3]) rfl ⟨_, rfl, makePiece (p := (x0, x1, x2, l3)) wf0 wf1 wf2 (tBy.read u), ?_⟩
          exact bel_put (bel_put (bel_put (bel_put hB1 (Nat.le_refl _) _) (Nat.le_refl _) _) (Nat.le_refl _) _) (Nat.le_refl _) _
        · have zz0 : w.heap.size + 3 ≤ w0.heap.size := by have h : (World.alloc (World.alloc (World.alloc w _) _) _).heap.size ≤ w0.heap.size := hgr.size; simpa using h
          have R0 : Box w0 w.heap.size 27 #[.int .i64 0, .int .i64 0, .int .i64 0, .slice none 0 0] := Box.grown (w := (((w.alloc (.cells #[.int .i64 0, .int .i64 0, .int .i64 0, .slice none 0 0] 27)).alloc (.cells #[.int .i64 0, .int .i64 0, .int .i64 0, .slice none 0 0] 27)).alloc (.cells #[] 5)).drew) (((Box.new w 27 #[.int .i64 0, .int .i64 0, .int .i64 0, .slice none 0 0]).alloc _).alloc _).drew hgr (fun e => by have e := Option.some.inj (show some w.heap.size = some (w.heap.size + 2) from e); omega)
          have hOx := (Ty.far2 (t := tBy) (Ty.far2 (t := tBy) (Ty.far2 (t := tBy) (Ty.far2 (t := tBy) hO (p := ⟨w.heap.size + 1, 0, none⟩) (fun hx => hFo _ hx rfl) (.int .i64 x0)) (p := ⟨w.heap.size + 1, 1, none⟩) (fun hx => hFo _ hx rfl) (.int .i64 x1)) (p := ⟨w.heap.size + 1, 2, none⟩) (fun hx => hFo _ hx rfl) (.int .i64 x2)) (p := ⟨w.heap.size + 1, 3, none⟩) (fun hx => hFo _ hx rfl) (.slice A2 l3.length c2))
          have Tx := ((((T0.put 0 (.int .i64 x0)).put 1 (.int .i64 x1)).put 2 (.int .i64 x2)).put 3 (.slice A2 l3.length c2))
          have Rx := ((((R0.far (p := ⟨w.heap.size + 1, 0, none⟩) (by show w.heap.size ≠ w.heap.size + 1; omega) (.int .i64 x0)).far (p := ⟨w.heap.size + 1, 1, none⟩) (by show w.heap.size ≠ w.heap.size + 1; omega) (.int .i64 x1)).far (p := ⟨w.heap.size + 1, 2, none⟩) (by show w.heap.size ≠ w.heap.size + 1; omega) (.int .i64 x2)).far (p := ⟨w.heap.size + 1, 3, none⟩) (by show w.heap.size ≠ w.heap.size + 1; omega) (.slice A2 l3.length c2))
          have hBx := (bel_put (bel_put (bel_put (bel_put hB0 (p := ⟨w.heap.size + 1, 0, none⟩) (by show w.heap.size ≤ w.heap.size + 1; omega) (.int .i64 x0)) (p := ⟨w.heap.size + 1, 1, none⟩) (by show w.heap.size ≤ w.heap.size + 1; omega) (.int .i64 x1)) (p := ⟨w.heap.size + 1, 2, none⟩) (by show w.heap.size ≤ w.heap.size + 1; omega) (.int .i64 x2)) (p := ⟨w.heap.size + 1, 3, none⟩) (by show w.heap.size ≤ w.heap.size + 1; omega) (.slice A2 l3.length c2))
          obtain ⟨wx, hwx⟩ : ∃ wx, ((((w0.setCell ⟨w.heap.size + 1, 0, none⟩ (.int .i64 x0)).setCell ⟨w.heap.size + 1, 1, none⟩ (.int .i64 x1)).setCell ⟨w.heap.size + 1, 2, none⟩ (.int .i64 x2)).setCell ⟨w.heap.size + 1, 3, none⟩ (.slice A2 l3.length c2)) = wx := ⟨_, rfl⟩
          rw [hwx] at hOx Tx Rx hBx
          have hR0 : tPiece.R wx wx.heap.size [.int .i64 x0, .int .i64 x1, .int .i64 x2, .slice A2 l3.length c2] (x0, x1, x2, l3) := makePiece (p := (x0, x1, x2, l3)) wf0 wf1 wf2 (tBy.read hOx)
          go_wp2_with fail
          try rw [hwx]
          refine (s_PieceOk (tPiece.reach hR0 ?hB) hz3).mono ?_
          case hB => exact (by repeat (first | (with_reducible exact Below.refl _ _) | (with_reducible assumption) | (with_reducible refine bel_alloc ?_ _) | (with_reducible refine bel_drew ?_) | (with_reducible refine below_drewN ?_ _) | (with_reducible refine bel_put ?_ (by first | exact Nat.le_refl _ | (simp; done) | (simp; omega)) _)))
          rintro e w1 ⟨rfl, hb1⟩
          rw [HP.out]
          have hs1 : Below wx.heap.size wx w1 := bel_trans (by repeat (first | (with_reducible exact Below.refl _ _) | (with_reducible assumption) | (with_reducible refine bel_alloc ?_ _) | (with_reducible refine bel_drew ?_) | (with_reducible refine below_drewN ?_ _) | (with_reducible refine bel_put ?_ (by first | exact Nat.le_refl _ | (simp; done) | (simp; omega)) _))) hb1
          have R1 := Rx.below hs1 Rx.size
          have P1 := Tx.below hs1 Tx.size
          have hB1 : Below w.heap.size w w1 := bel_trans hBx hs1
          have hO1 := Ty.below (t := tBy) hOx hs1
          have p0 := P1.cell 0; have p1 := P1.cell 1; have p2 := P1.cell 2; have p3 := P1.cell 3
          have r0 := R1.cell 0; have r1 := R1.cell 1; have r2 := R1.cell 2; have r3 := R1.cell 3
          have g0 := R1.frozen 0; have g1 := R1.frozen 1; have g2 := R1.frozen 2; have g3 := R1.frozen 3
          go_wp2
          have RR := (((R1.put 0 (.int .i64 x0)).put 1 (.int .i64 x1)).put 2 (.int .i64 x2)).put 3 (.slice A2 l3.length c2)
          have e0 := RR.cell 0; have e1 := RR.cell 1; have e2 := RR.cell 2; have e3 := RR.cell 3
          have hN1 : New (w.heap.size + 1) F := hN.lower (by omega)
          have hq : w.heap.size < w.heap.size + 1 := by omega
          have u := Ty.far (t := tBy) (Ty.far (t := tBy) (Ty.far (t := tBy) (Ty.far (t := tBy) hO1 hN1 (p := ⟨w.heap.size, 0, none⟩) hq (.int .i64 x0)) hN1 (p := ⟨w.heap.size, 1, none⟩) hq (.int .i64 x1)) hN1 (p := ⟨w.heap.size, 2, none⟩) hq (.int .i64 x2)) hN1 (p := ⟨w.heap.size, 3, none⟩) hq (.slice A2 l3.length c2)
          refine bodyPost_ret (v := .tuple #[.agg #[.int .i64 x0, .int .i64 x1, .int .i64 x2, .slice A2 l3.length c2], .bool true]) (by simp [results, Try.results25, go_sem, e0, e1, e2, e3]) rfl ⟨_, rfl, makePiece (p := (x0, x1, x2, l3)) wf0 wf1 wf2 (tBy.read u), ?_⟩
          exact bel_put (bel_put (bel_put (bel_put hB1 (Nat.le_refl _) _) (Nat.le_refl _) _) (Nat.le_refl _) _) (Nat.le_refl _) _
      · have hpr : ¬ PrOk l := fun x => hp (by have := x.2; rw [HI.out] at this; exact this)
        have HP := Lib.hid (decide_eq_false hp)
        have HD := Lib.hid (decide_eq_false hpr)
        rw [fPR_f hpr, HD.out]
        clear hp hpr
        go_enter Try.func25, Try.ntmps25
        go_wp2_with fail
        go_region_held3 (fun w' => w'.cell? ⟨b, off, none⟩ = some (.int .u8 x0) ∧ w'.cell? ⟨b, off + 1, none⟩ = some (.int .u8 x1) ∧ w'.cell? ⟨b, off + 2, none⟩ = some (.int .u8 x2)) (first | (exact kk _ (by repeat (first | (with_reducible exact Below.refl _ _) | (with_reducible assumption) | (with_reducible refine bel_alloc ?_ _) | (with_reducible refine bel_drew ?_) | (with_reducible refine below_drewN ?_ _) | (with_reducible refine bel_put ?_ (by first | exact Nat.le_refl _ | (simp; done) | (simp; omega)) _)))) | go_keep)
          (first
            | (refine step_app' _ (by rfl) (.tmp 21) (.tmp 23) _ (by rfl) (w.heap.size + 1) 5 i0 _ 1 1 Try.underlying22 hi0 hz0 hz1 hz2 rfl (by omega) (.slice (some ⟨w.heap.size + 1, 0, none⟩) 0 0) 0 [] (by rfl) hE3 _ (n - 3) (c - 3) (l3.map (Value.int .u8)) (by rfl) hS3 (one_ints _ _) (by simp only [maxLen]; omega) (by omega) (by show _ ≤ (World.alloc _ _).heap.size; first | (simp; done) | (simp; omega)) ?_; intro v1 w0 hown hgr hat; obtain ⟨A2, c2, F, rfl, hO, hN⟩ := own_slice (Own.of (n := 0 + (n - 3)) (by simpa using hown) hI.2.2); have hB0 : Below w.heap.size w w0 := Below.grown (w := (((w.alloc (.cells #[.int .i64 0, .int .i64 0, .int .i64 0, .slice none 0 0] 27)).alloc (.cells #[] 5)).alloc (.cells #[.int .i64 0, .int .i64 0, .int .i64 0, .slice none 0 0] 27)).drew) (by repeat (first | (with_reducible exact Below.refl _ _) | (with_reducible assumption) | (with_reducible refine bel_alloc ?_ _) | (with_reducible refine bel_drew ?_) | (with_reducible refine below_drewN ?_ _) | (with_reducible refine bel_put ?_ (by first | exact Nat.le_refl _ | (simp; done) | (simp; omega)) _))) hgr (by show _ ≤ (World.alloc _ _).heap.size; first | (simp; done) | (simp; omega)) (fun b hb => by have e := Option.some.inj (show some (w.heap.size + 1) = some b from hb); omega); have hFo : ∀ f ∈ F, f ≠ w.heap.size + 2 := (fun f hf e => by have h1 := sliceO_own hO f hf; rcases hat with h2 | h2; (rw [h1] at h2; have h3 := Option.some.inj (show some f = some (w.heap.size + 1) from h2); omega); (rw [h1] at h2; have h3 : f = (((w.alloc (.cells #[.int .i64 0, .int .i64 0, .int .i64 0, .slice none 0 0] 27)).alloc (.cells #[] 5)).alloc (.cells #[.int .i64 0, .int .i64 0, .int .i64 0, .slice none 0 0] 27)).heap.size := Option.some.inj h2; simp at h3; omega)); have T0 : Box w0 (w.heap.size + 2) 27 #[.int .i64 0, .int .i64 0, .int .i64 0, .slice none 0 0] := Box.grown (w := (((w.alloc (.cells #[.int .i64 0, .int .i64 0, .int .i64 0, .slice none 0 0] 27)).alloc (.cells #[] 5)).alloc (.cells #[.int .i64 0, .int .i64 0, .int .i64 0, .slice none 0 0] 27)).drew) (Box.drew (show Box (((w.alloc (.cells #[.int .i64 0, .int .i64 0, .int .i64 0, .slice none 0 0] 27)).alloc (.cells #[] 5)).alloc (.cells #[.int .i64 0, .int .i64 0, .int .i64 0, .slice none 0 0] 27)) (w.heap.size + 2) 27 #[.int .i64 0, .int .i64 0, .int .i64 0, .slice none 0 0] from by simpa using Box.new ((w.alloc (.cells #[.int .i64 0, .int .i64 0, .int .i64 0, .slice none 0 0] 27)).alloc (.cells #[] 5)) 27 #[.int .i64 0, .int .i64 0, .int .i64 0, .slice none 0 0])) hgr (fun e => by have e := Option.some.inj (show some (w.heap.size + 2) = some (w.heap.size + 1) from e); omega); have t0 : w0.cell? ⟨w.heap.size + 2, 0, none⟩ = some (.int .i64 0) := T0.cell 0; have v0 := T0.frozen 0; have t1 : w0.cell? ⟨w.heap.size + 2, 1, none⟩ = some (.int .i64 0) := T0.cell 1; have v1 := T0.frozen 1; have t2 : w0.cell? ⟨w.heap.size + 2, 2, none⟩ = some (.int .i64 0) := T0.cell 2; have v2 := T0.frozen 2; have t3 : w0.cell? ⟨w.heap.size + 2, 3, none⟩ = some (.slice none 0 0) := T0.cell 3; have v3 := T0.frozen 3)
            | (refine step_app' _ (by rfl) (.tmp 21) (.tmp 23) _ (by rfl) (w.heap.size + 1) 5 i0 _ 1 1 Try.underlying22 hi0 hz0 hz1 hz2 rfl (by omega) (.slice (some ⟨w.heap.size + 1, 0, none⟩) 0 0) 0 [] (by rfl) hE2 _ (n - 3) (c - 3) (l3.map (Value.int .u8)) (by rfl) hS2 (one_ints _ _) (by simp only [maxLen]; omega) (by omega) (by show _ ≤ (World.alloc _ _).heap.size; first | (simp; done) | (simp; omega)) ?_; intro v1 w0 hown hgr hat; obtain ⟨A2, c2, F, rfl, hO, hN⟩ := own_slice (Own.of (n := 0 + (n - 3)) (by simpa using hown) hI.2.2); have hB0 : Below w.heap.size w w0 := Below.grown (w := ((w.alloc (.cells #[.int .i64 0, .int .i64 0, .int .i64 0, .slice none 0 0] 27)).alloc (.cells #[] 5)).drew) (by repeat (first | (with_reducible exact Below.refl _ _) | (with_reducible assumption) | (with_reducible refine bel_alloc ?_ _) | (with_reducible refine bel_drew ?_) | (with_reducible refine below_drewN ?_ _) | (with_reducible refine bel_put ?_ (by first | exact Nat.le_refl _ | (simp; done) | (simp; omega)) _))) hgr (by show _ ≤ (World.alloc _ _).heap.size; first | (simp; done) | (simp; omega)) (fun b hb => by have e := Option.some.inj (show some (w.heap.size + 1) = some b from hb); omega))
            | (refine step_app' _ (by rfl) (.tmp 21) (.tmp 23) _ (by rfl) (w.heap.size + 2) 5 i0 _ 1 1 Try.underlying22 hi0 hz0 hz1 hz2 rfl (by omega) (.slice (some ⟨w.heap.size + 2, 0, none⟩) 0 0) 0 [] (by rfl) hE4 _ (n - 3) (c - 3) (l3.map (Value.int .u8)) (by rfl) hS4 (one_ints _ _) (by simp only [maxLen]; omega) (by omega) (by show _ ≤ (World.alloc _ _).heap.size; first | (simp; done) | (simp; omega)) ?_; intro v1 w0 hown hgr hat; obtain ⟨A2, c2, F, rfl, hO, hN⟩ := own_slice (Own.of (n := 0 + (n - 3)) (by simpa using hown) hI.2.2); have hB0 : Below w.heap.size w w0 := Below.grown (w := (((w.alloc (.cells #[.int .i64 0, .int .i64 0, .int .i64 0, .slice none 0 0] 27)).alloc (.cells #[.int .i64 0, .int .i64 0, .int .i64 0, .slice none 0 0] 27)).alloc (.cells #[] 5)).drew) (by repeat (first | (with_reducible exact Below.refl _ _) | (with_reducible assumption) | (with_reducible refine bel_alloc ?_ _) | (with_reducible refine bel_drew ?_) | (with_reducible refine below_drewN ?_ _) | (with_reducible refine bel_put ?_ (by first | exact Nat.le_refl _ | (simp; done) | (simp; omega)) _))) hgr (by show _ ≤ (World.alloc _ _).heap.size; first | (simp; done) | (simp; omega)) (fun b hb => by have e := Option.some.inj (show some (w.heap.size + 2) = some b from hb); omega); have hFo : ∀ f ∈ F, f ≠ w.heap.size + 1 := (fun f hf e => by have h1 := sliceO_own hO f hf; rcases hat with h2 | h2; (rw [h1] at h2; have h3 := Option.some.inj (show some f = some (w.heap.size + 2) from h2); omega); (rw [h1] at h2; have h3 : f = (((w.alloc (.cells #[.int .i64 0, .int .i64 0, .int .i64 0, .slice none 0 0] 27)).alloc (.cells #[.int .i64 0, .int .i64 0, .int .i64 0, .slice none 0 0] 27)).alloc (.cells #[] 5)).heap.size := Option.some.inj h2; simp at h3; omega)); have T0 : Box w0 (w.heap.size + 1) 27 #[.int .i64 0, .int .i64 0, .int .i64 0, .slice none 0 0] := Box.grown (w := (((w.alloc (.cells #[.int .i64 0, .int .i64 0, .int .i64 0, .slice none 0 0] 27)).alloc (.cells #[.int .i64 0, .int .i64 0, .int .i64 0, .slice none 0 0] 27)).alloc (.cells #[] 5)).drew) (Box.drew (Box.alloc (show Box ((w.alloc (.cells #[.int .i64 0, .int .i64 0, .int .i64 0, .slice none 0 0] 27)).alloc (.cells #[.int .i64 0, .int .i64 0, .int .i64 0, .slice none 0 0] 27)) (w.heap.size + 1) 27 #[.int .i64 0, .int .i64 0, .int .i64 0, .slice none 0 0] from by simpa using Box.new (w.alloc (.cells #[.int .i64 0, .int .i64 0, .int .i64 0, .slice none 0 0] 27)) 27 #[.int .i64 0, .int .i64 0, .int .i64 0, .slice none 0 0]) _)) hgr (fun e => by have e := Option.some.inj (show some (w.heap.size + 1) = some (w.heap.size + 2) from e); omega); have t0 : w0.cell? ⟨w.heap.size + 1, 0, none⟩ = some (.int .i64 0) := T0.cell 0; have v0 := T0.frozen 0; have t1 : w0.cell? ⟨w.heap.size + 1, 1, none⟩ = some (.int .i64 0) := T0.cell 1; have v1 := T0.frozen 1; have t2 : w0.cell? ⟨w.heap.size + 1, 2, none⟩ = some (.int .i64 0) := T0.cell 2; have v2 := T0.frozen 2; have t3 : w0.cell? ⟨w.heap.size + 1, 3, none⟩ = some (.slice none 0 0) := T0.cell 3; have v3 := T0.frozen 3))
        · have zz0 : w.heap.size + 2 ≤ w0.heap.size := by have h : (World.alloc (World.alloc w _) _).heap.size ≤ w0.heap.size := hgr.size; simpa using h
          have R0 : Box w0 w.heap.size 27 #[.int .i64 0, .int .i64 0, .int .i64 0, .slice none 0 0] := Box.grown (w := ((w.alloc (.cells #[.int .i64 0, .int .i64 0, .int .i64 0, .slice none 0 0] 27)).alloc (.cells #[] 5)).drew) ((Box.new w 27 #[.int .i64 0, .int .i64 0, .int .i64 0, .slice none 0 0]).alloc _).drew hgr (fun e => by have e := Option.some.inj (show some w.heap.size = some (w.heap.size + 1) from e); omega)
          have hR0 : tPiece.R w0 w0.heap.size [.int .i64 x0, .int .i64 x1, .int .i64 x2, .slice A2 l3.length c2] (x0, x1, x2, l3) := makePiece (p := (x0, x1, x2, l3)) wf0 wf1 wf2 (tBy.read hO)
          go_wp2_with fail
          refine (s_PieceOk (tPiece.reach hR0 ?hB) hz3).mono ?_
          case hB => exact (by repeat (first | (with_reducible exact Below.refl _ _) | (with_reducible assumption) | (with_reducible refine bel_alloc ?_ _) | (with_reducible refine bel_drew ?_) | (with_reducible refine below_drewN ?_ _) | (with_reducible refine bel_put ?_ (by first | exact Nat.le_refl _ | (simp; done) | (simp; omega)) _)))
          rintro e w1 ⟨rfl, hb1⟩
          rw [HP.out]
          have hs1 : Below w0.heap.size w0 w1 := bel_trans (by repeat (first | (with_reducible exact Below.refl _ _) | (with_reducible assumption) | (with_reducible refine bel_alloc ?_ _) | (with_reducible refine bel_drew ?_) | (with_reducible refine below_drewN ?_ _) | (with_reducible refine bel_put ?_ (by first | exact Nat.le_refl _ | (simp; done) | (simp; omega)) _))) hb1
          have R1 := R0.below hs1 R0.size
          have P1 : Box w1 w0.heap.size 27 #[.int .i64 x0, .int .i64 x1, .int .i64 x2, .slice A2 l3.length c2] := by first | exact Box.below (Box.new w0 _ _) hb1 (by simp) | exact Box.below (Box.drew (Box.new w0 _ _)) hb1 (by show _ < (World.alloc _ _).heap.size; simp)
          have hB1 : Below w.heap.size w w1 := bel_trans hB0 hs1
          have hO1 := Ty.below (t := tBy) hO hs1
          have p0 := P1.cell 0; have p1 := P1.cell 1; have p2 := P1.cell 2; have p3 := P1.cell 3
          have r0 := R1.cell 0; have r1 := R1.cell 1; have r2 := R1.cell 2; have r3 := R1.cell 3
          have g0 := R1.frozen 0; have g1 := R1.frozen 1; have g2 := R1.frozen 2; have g3 := R1.frozen 3
          go_wp2
          have RR := (((R1.put 0 (.int .i64 0)).put 1 (.int .i64 0)).put 2 (.int .i64 0)).put 3 (.slice none 0 0)
          have e0 := RR.cell 0; have e1 := RR.cell 1; have e2 := RR.cell 2; have e3 := RR.cell 3
          refine bodyPost_ret (v := .tuple #[.agg #[.int .i64 0, .int .i64 0, .int .i64 0, .slice none 0 0], .bool false]) (by simp [results, Try.results25, go_sem, e0, e1, e2, e3]) rfl ⟨_, rfl, pzR, ?_⟩
          exact bel_put (bel_put (bel_put (bel_put hB1 (Nat.le_refl _) _) (Nat.le_refl _) _) (Nat.le_refl _) _) (Nat.le_refl _) _
        · have zz0 : w.heap.size + 3 ≤ w0.heap.size := by have h : (World.alloc (World.alloc (World.alloc w _) _) _).heap.size ≤ w0.heap.size := hgr.size; simpa using h
          have R0 : Box w0 w.heap.size 27 #[.int .i64 0, .int .i64 0, .int .i64 0, .slice none 0 0] := Box.grown (w := (((w.alloc (.cells #[.int .i64 0, .int .i64 0, .int .i64 0, .slice none 0 0] 27)).alloc (.cells #[] 5)).alloc (.cells #[.int .i64 0, .int .i64 0, .int .i64 0, .slice none 0 0] 27)).drew) (((Box.new w 27 #[.int .i64 0, .int .i64 0, .int .i64 0, .slice none 0 0]).alloc _).alloc _).drew hgr (fun e => by have e := Option.some.inj (show some w.heap.size = some (w.heap.size + 1) from e); omega)
          have hOx := (Ty.far2 (t := tBy) (Ty.far2 (t := tBy) (Ty.far2 (t := tBy) (Ty.far2 (t := tBy) hO (p := ⟨w.heap.size + 2, 0, none⟩) (fun hx => hFo _ hx rfl) (.int .i64 x0)) (p := ⟨w.heap.size + 2, 1, none⟩) (fun hx => hFo _ hx rfl) (.int .i64 x1)) (p := ⟨w.heap.size + 2, 2, none⟩) (fun hx => hFo _ hx rfl) (.int .i64 x2)) (p := ⟨w.heap.size + 2, 3, none⟩) (fun hx => hFo _ hx rfl) (.slice A2 l3.length c2))
          have Tx := ((((T0.put 0 (.int .i64 x0)).put 1 (.int .i64 x1)).put 2 (.int .i64 x2)).put 3 (.slice A2 l3.length c2))
          have Rx := ((((R0.far (p := ⟨w.heap.size + 2, 0, none⟩) (by show w.heap.size ≠ w.heap.size + 2; omega) (.int .i64 x0)).far (p := ⟨w.heap.size + 2, 1, none⟩) (by show w.heap.size ≠ w.heap.size + 2; omega) (.int .i64 x1)).far (p := ⟨w.heap.size + 2, 2, none⟩) (by show w.heap.size ≠ w.heap.size + 2; omega) (.int .i64 x2)).far (p := ⟨w.heap.size + 2, 3, none⟩) (by show w.heap.size ≠ w.heap.size + 2; omega) (.slice A2 l3.length c2))
          have hBx := (bel_put (bel_put (bel_put (bel_put hB0 (p := ⟨w.heap.size + 2, 0, none⟩) (by show w.heap.size ≤ w.heap.size + 2; omega) (.int .i64 x0)) (p := ⟨w.heap.size + 2, 1, none⟩) (by show w.heap.size ≤ w.heap.size + 2; omega) (.int .i64 x1)) (p := ⟨w.heap.size + 2, 2, none⟩) (by show w.heap.size ≤ w.heap.size + 2; omega) (.int .i64 x2)) (p := ⟨w.heap.size + 2, 3, none⟩) (by show w.heap.size ≤ w.heap.size + 2; omega) (.slice A2 l3.length c2))
          obtain ⟨wx, hwx⟩ : ∃ wx, ((((w0.setCell ⟨w.heap.size + 2, 0, none⟩ (.int .i64 x0)).setCell ⟨w.heap.size + 2, 1, none⟩ (.int .i64 x1)).setCell ⟨w.heap.size + 2, 2, none⟩ (.int .i64 x2)).setCell ⟨w.heap.size + 2, 3, none⟩ (.slice A2 l3.length c2)) = wx := ⟨_, rfl⟩
          rw [hwx] at hOx Tx Rx hBx
          have hR0 : tPiece.R wx wx.heap.size [.int .i64 x0, .int .i64 x1, .int .i64 x2, .slice A2 l3.length c2] (x0, x1, x2, l3) := makePiece (p := (x0, x1, x2, l3)) wf0 wf1 wf2 (tBy.read hOx)
          go_wp2_with fail
          try rw [hwx]
          refine (s_PieceOk (tPiece.reach hR0 ?hB) hz3).mono ?_
          case hB => exact (by repeat (first | (with_reducible exact Below.refl _ _) | (with_reducible assumption) | (with_reducible refine bel_alloc ?_ _) | (with_reducible refine bel_drew ?_) | (with_reducible refine below_drewN ?_ _) | (with_reducible refine bel_put ?_ (by first | exact Nat.le_refl _ | (simp; done) | (simp; omega)) _)))
          rintro e w1 ⟨rfl, hb1⟩
          rw [HP.out]
          have hs1 : Below wx.heap.size wx w1 := bel_trans (by repeat (first | (with_reducible exact Below.refl _ _) | (with_reducible assumption) | (with_reducible refine bel_alloc ?_ _) | (with_reducible refine bel_drew ?_) | (with_reducible refine below_drewN ?_ _) | (with_reducible refine bel_put ?_ (by first | exact Nat.le_refl _ | (simp; done) | (simp; omega)) _))) hb1
          have R1 := Rx.below hs1 Rx.size
          have P1 := Tx.below hs1 Tx.size
          have hB1 : Below w.heap.size w w1 := bel_trans hBx hs1
          have hO1 := Ty.below (t := tBy) hOx hs1
          have p0 := P1.cell 0; have p1 := P1.cell 1; have p2 := P1.cell 2; have p3 := P1.cell 3
          have r0 := R1.cell 0; have r1 := R1.cell 1; have r2 := R1.cell 2; have r3 := R1.cell 3
          have g0 := R1.frozen 0; have g1 := R1.frozen 1; have g2 := R1.frozen 2; have g3 := R1.frozen 3
          go_wp2
          have RR := (((R1.put 0 (.int .i64 0)).put 1 (.int .i64 0)).put 2 (.int .i64 0)).put 3 (.slice none 0 0)
          have e0 := RR.cell 0; have e1 := RR.cell 1; have e2 := RR.cell 2; have e3 := RR.cell 3
          refine bodyPost_ret (v := .tuple #[.agg #[.int .i64 0, .int .i64 0, .int .i64 0, .slice none 0 0], .bool false]) (by simp [results, Try.results25, go_sem, e0, e1, e2, e3]) rfl ⟨_, rfl, pzR, ?_⟩
          exact bel_put (bel_put (bel_put (bel_put hB1 (Nat.le_refl _) _) (Nat.le_refl _) _) (Nat.le_refl _) _) (Nat.le_refl _) _
        · have zz0 : w.heap.size + 3 ≤ w0.heap.size := by have h : (World.alloc (World.alloc (World.alloc w _) _) _).heap.size ≤ w0.heap.size := hgr.size; simpa using h
          have R0 : Box w0 w.heap.size 27 #[.int .i64 0, .int .i64 0, .int .i64 0, .slice none 0 0] := Box.grown (w := (((w.alloc (.cells #[.int .i64 0, .int .i64 0, .int .i64 0, .slice none 0 0] 27)).alloc (.cells #[.int .i64 0, .int .i64 0, .int .i64 0, .slice none 0 0] 27)).alloc (.cells #[] 5)).drew) (((Box.new w 27 #[.int .i64 0, .int .i64 0, .int .i64 0, .slice none 0 0]).alloc _).alloc _).drew hgr (fun e => by have e := Option.some.inj (show some w.heap.size = some (w.heap.size + 2) from e); omega)
          have hOx := (Ty.far2 (t := tBy) (Ty.far2 (t := tBy) (Ty.far2 (t := tBy) (Ty.far2 (t := tBy) hO (p := ⟨w.heap.size + 1, 0, none⟩) (fun hx => hFo _ hx rfl) (.int .i64 x0)) (p := ⟨w.heap.size + 1, 1, none⟩) (fun hx => hFo _ hx rfl) (.int .i64 x1)) (p := ⟨w.heap.size + 1, 2, none⟩) (fun hx => hFo _ hx rfl) (.int .i64 x2)) (p := ⟨w.heap.size + 1, 3, none⟩) (fun hx => hFo _ hx rfl) (.slice A2 l3.length c2))
          have Tx := ((((T0.put 0 (.int .i64 x0)).put 1 (.int .i64 x1)).put 2 (.int .i64 x2)).put 3 (.slice A2 l3.length c2))
          have Rx := ((((R0.far (p := ⟨w.heap.size + 1, 0, none⟩) (by show w.heap.size ≠ w.heap.size + 1; omega) (.int .i64 x0)).far (p := ⟨w.heap.size + 1, 1, none⟩) (by show w.heap.size ≠ w.heap.size + 1; omega) (.int .i64 x1)).far (p := ⟨w.heap.size + 1, 2, none⟩) (by show w.heap.size ≠ w.heap.size + 1; omega) (.int .i64 x2)).far (p := ⟨w.heap.size + 1, 3, none⟩) (by show w.heap.size ≠ w.heap.size + 1; omega) (.slice A2 l3.length c2))
          have hBx := (bel_put (bel_put (bel_put (bel_put hB0 (p := ⟨w.heap.size + 1, 0, none⟩) (by show w.heap.size ≤ w.heap.size + 1; omega) (.int .i64 x0)) (p := ⟨w.heap.size + 1, 1, none⟩) (by show w.heap.size ≤ w.heap.size + 1; omega) (.int .i64 x1)) (p := ⟨w.heap.size + 1, 2, none⟩) (by show w.heap.size ≤ w.heap.size + 1; omega) (.int .i64 x2)) (p := ⟨w.heap.size + 1, 3, none⟩) (by show w.heap.size ≤ w.heap.size + 1; omega) (.slice A2 l3.length c2))
          obtain ⟨wx, hwx⟩ : ∃ wx, ((((w0.setCell ⟨w.heap.size + 1, 0, none⟩ (.int .i64 x0)).setCell ⟨w.heap.size + 1, 1, none⟩ (.int .i64 x1)).setCell ⟨w.heap.size + 1, 2, none⟩ (.int .i64 x2)).setCell ⟨w.heap.size + 1, 3, none⟩ (.slice A2 l3.length c2)) = wx := ⟨_, rfl⟩
          rw [hwx] at hOx Tx Rx hBx
          have hR0 : tPiece.R wx wx.heap.size [.int .i64 x0, .int .i64 x1, .int .i64 x2, .slice A2 l3.length c2] (x0, x1, x2, l3) := makePiece (p := (x0, x1, x2, l3)) wf0 wf1 wf2 (tBy.read hOx)
          go_wp2_with fail
          try rw [hwx]
          refine (s_PieceOk (tPiece.reach hR0 ?hB) hz3).mono ?_
          case hB => exact (by repeat (first | (with_reducible exact Below.refl _ _) | (with_reducible assumption) | (with_reducible refine bel_alloc ?_ _) | (with_reducible refine bel_drew ?_) | (with_reducible refine below_drewN ?_ _) | (with_reducible refine bel_put ?_ (by first | exact Nat.le_refl _ | (simp; done) | (simp; omega)) _)))
          rintro e w1 ⟨rfl, hb1⟩
          rw [HP.out]
          have hs1 : Below wx.heap.size wx w1 := bel_trans (by repeat (first | (with_reducible exact Below.refl _ _) | (with_reducible assumption) | (with_reducible refine bel_alloc ?_ _) | (with_reducible refine bel_drew ?_) | (with_reducible refine below_drewN ?_ _) | (with_reducible refine bel_put ?_ (by first | exact Nat.le_refl _ | (simp; done) | (simp; omega)) _))) hb1
          have R1 := Rx.below hs1 Rx.size
          have P1 := Tx.below hs1 Tx.size
          have hB1 : Below w.heap.size w w1 := bel_trans hBx hs1
          have hO1 := Ty.below (t := tBy) hOx hs1
          have p0 := P1.cell 0; have p1 := P1.cell 1; have p2 := P1.cell 2; have p3 := P1.cell 3
          have r0 := R1.cell 0; have r1 := R1.cell 1; have r2 := R1.cell 2; have r3 := R1.cell 3
          have g0 := R1.frozen 0; have g1 := R1.frozen 1; have g2 := R1.frozen 2; have g3 := R1.frozen 3
          go_wp2
          have RR := (((R1.put 0 (.int .i64 0)).put 1 (.int .i64 0)).put 2 (.int .i64 0)).put 3 (.slice none 0 0)
          have e0 := RR.cell 0; have e1 := RR.cell 1; have e2 := RR.cell 2; have e3 := RR.cell 3
          refine bodyPost_ret (v := .tuple #[.agg #[.int .i64 0, .int .i64 0, .int .i64 0, .slice none 0 0], .bool false]) (by simp [results, Try.results25, go_sem, e0, e1, e2, e3]) rfl ⟨_, rfl, pzR, ?_⟩
          exact bel_put (bel_put (bel_put (bel_put hB1 (Nat.le_refl _) _) (Nat.le_refl _) _) (Nat.le_refl _) _) (Nat.le_refl _) _
end Go.Proofs.Ytconcboeojpmdab
