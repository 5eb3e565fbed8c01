/-
  PHn1: texts joined.
-/
import Derived.Test.YteokfenoomcogaaGreatQGh
import Derived.Test.YteokfenoomcogaaGreatQGk
import Derived.Test.YteokfenoomcogaaGreatQGm
import Derived.Test.YteokfenoomcogaaGreatQGn
namespace Go.Proofs.YteokfenoomcogaaGreat
set_option maxRecDepth 100000
set_option linter.unusedVariables false
set_option linter.unusedSimpArgs false
open Go.ChangeShapes Go.WideShapes Go.ChangeAt Go.RowKit
open Fld
theorem mapG {α β : Type} {f : α → β} {l : List α} {j : Nat} {a : α} (h : l[j]? = some a) : (l.take (j + 1)).map f = (l.take j).map f ++ [f a] := by rw [take_sn h, List.map_append]; rfl
theorem mapGLen {α β : Type} {f : α → β} {l : List α} {j : Nat} (hn : j ≤ l.length) : ((l.take j).map f).length = j := by rw [List.length_map, List.length_take]; omega
theorem one_sent {w : World} {B : Nat} : ∀ es a, tSent.R w B es a → ∀ u ∈ es, u.oneCell' = true := fun es a h u hu => by
  obtain ⟨A2, n2, c2, rfl, -, -, -, -, -, -⟩ := openSent h
  simp only [List.mem_cons, List.not_mem_nil, or_false] at hu
  rcases hu with rfl | rfl | rfl <;> rfl

set_option maxHeartbeats 1000000 in
theorem i_SnEqC {w : World} {x y x' y' : Int} {A A' : Option Addr} {n c n' c' : Nat} {l l' : List Int} (hI : Ints .u8 w w.heap.size A n l) (hJ : Ints .u8 w w.heap.size A' n' l') :
    Calls Tryz.prog 130 #[.agg #[.int .i64 x, .int .i64 y, .slice A n c], .agg #[.int .i64 x', .int .i64 y', .slice A' n' c']] w fun e w' => e = .returned (.bool (decide ((x, y, l) = (x', y', l')))) ∧ Below w.heap.size w w' := by
  by_cases g1 : x = x'
  rotate_left
  · have HR := Lib.hid (show decide ((x, y, l) = (x', y', l')) = false from decide_eq_false fun h => g1 (congrArg Prod.fst h))
    have q : (x == x') = false := by simpa using g1
    rw [HR.out]
    clear g1
    go_enter Tryz.func130, Tryz.ntmps130
    go_wp2
    go_ret
    exact ⟨rfl, (belx)⟩
  subst g1
  by_cases g2 : y = y'
  rotate_left
  · have HR := Lib.hid (show decide ((x, y, l) = (x, y', l')) = false from decide_eq_false fun h => g2 (congrArg (fun s => s.2.1) h))
    have q : (y == y') = false := by simpa using g2
    rw [HR.out]
    clear g2
    go_enter Tryz.func130, Tryz.ntmps130
    go_wp2
    go_ret
    exact ⟨rfl, (belx)⟩
  subst g2
  have HR := Lib.hid (show decide ((x, y, l) = (x, y, l')) = decide (l = l') by congr 1; simp)
  rw [HR.out]
  go_enter Tryz.func130, Tryz.ntmps130
  go_wp2_with fail
  refine (i_bytesEqualQ (reach hI ?hB) (reach hJ ?hB2)).mono ?_
  case hB => exact (belx)
  case hB2 => exact (belx)
  rintro e w' ⟨rfl, rfl⟩
  go_wp2
  go_ret
  exact ⟨rfl, (belx)⟩
theorem i_SnEq {w : World} {cs cs' : List Value} {p q : DSent} (h : tSent.R w w.heap.size cs p) (h' : tSent.R w w.heap.size cs' q) :
    Calls Tryz.prog 130 #[.agg cs.toArray, .agg cs'.toArray] w fun e w' => e = .returned (.bool (decide (p = q))) ∧ Below w.heap.size w w' := by
  obtain ⟨A2, n2, c2, rfl, -, -, -, -, -, hA⟩ := openSent h
  obtain ⟨B2, m2, d2, rfl, -, -, -, -, -, hB⟩ := openSent h'
  exact i_SnEqC (slR_ints hA).1 (slR_ints hB).1
set_option maxHeartbeats 1000000 in
theorem i_idxSentB {w : World} {n c : Nat} {A : Option Addr} {l : List DSent} (F : Nat) (V : Value) (p : DSent → Bool) (hE : ∀ (cs : Array Value) (w : World), Sem.run Tryz.prog (callFunc F #[V, Value.agg cs]) w = .ok (.enter F #[V, Value.agg cs]) w)
    (hF : ∀ (i : Nat) (a : DSent) (w' : World) (cs : List Value), l[i]? = some a → Below w.heap.size w w' → tSent.R w' w'.heap.size cs a → Calls Tryz.prog F #[V, .agg cs.toArray] w' fun e w2 => e = .returned (.bool (p a)) ∧ Below w'.heap.size w' w2)
    (hl : tSent.row.R w w.heap.size [.slice A n c] l) (hn : n ≤ 1048576) :
    Calls Tryz.prog 131 #[.slice A n c, .func (.func F) #[V] #[]] w fun e w' => ∃ k : Int, e = .returned (.int .i64 k) ∧ l.any p = decide (0 ≤ k) ∧ Below w.heap.size w w' := by
  obtain ⟨e0, _, _⟩ := rowR_len hl
  have HL := Lib.hid e0
  have HF := Lib.hid hF
  have HE := Lib.hid hE
  clear e0 hF hE
  go_enter Tryz.func131, Tryz.ntmps131
  go_wp2_with fail
  go_loopw [8] (fun i wr => ∃ j : Nat, j ≤ n ∧ i = .int .i64 j ∧ Below w.heap.size w wr ∧ ∀ h ∈ l.take j, p h = false) (fun i _ => n - (intOf i).toNat)
  case atStart => exact ⟨0, by omega, rfl, (belx), al0⟩
  case round =>
    obtain ⟨j, hj, rfl, hB, hG⟩ := hrel
    have HG := Lib.hid hG
    clear hG
    by_cases hlt : j < n
    · obtain ⟨a, b', off, es, hl2, rfl, hb, hes, hR⟩ := rowR_at (K := 3) hl hlt rfl
      have HA := Lib.hid hl2
      clear hl2
      have hRk := hR
      obtain ⟨A2, n2, c2, rfl, -, -, -, -, -, -⟩ := openSent hR
      have e0 : wr.cell? ⟨b', off + j * 3, none⟩ = some (.int .i64 a.1) := cell_at hB hb (hes 0 (by omega))
      have e1 : wr.cell? ⟨b', off + j * 3 + 1, none⟩ = some (.int .i64 a.2.1) := cell_at hB hb (hes 1 (by omega))
      have e2 : wr.cell? ⟨b', off + j * 3 + 2, none⟩ = some (.slice A2 n2 c2) := cell_at hB hb (hes 2 (by omega))
      have i1 : (j : Int) < (n : Int) := by omega
      clear hes
      go_wp2_with fail
      rw [HE.out, Oper.upon_enter]
      refine (HF.out j a _ _ HA.out ?hB (tSent.reach hRk ?hB2)).mono ?_
      case hB => exact bel_trans (a := w) hB (belx)
      case hB2 => exact bel_trans (a := w) hB (belx)
      rintro e w1 ⟨rfl, hb1⟩
      have hB1 : Below w.heap.size w w1 := bel_trans (bel_trans (a := w) hB (belx)) hb1
      obtain ⟨d, hd⟩ : ∃ d, p a = d := ⟨_, rfl⟩
      rw [hd]
      have HD := Lib.hid hd
      clear hd
      cases d
      · go_wp2
        go_roundw
        case rel => exact ⟨j + 1, by omega, by go_num, hB1, alS HG.out HA.out HD.out⟩
        case measure => simp [intOf]; omega
      · have HR := Lib.hid (show l.any p = true from List.any_eq_true.2 ⟨a, alMem HA.out, HD.out⟩)
        go_wp2
        go_ret
        exact ⟨_, rfl, by rw [HR.out]; simp, hB1⟩
    · obtain rfl : n = j := by omega
      have HR := Lib.hid (show l.any p = false from List.any_eq_false.2 fun x hx => by rw [alE HG.out (Nat.le_of_eq HL.out) x hx]; simp)
      go_wp2
      go_ret
      exact ⟨_, rfl, by rw [HR.out]; simp, hB⟩
theorem i_conSentB {w : World} {n c : Nat} {A : Option Addr} {l : List DSent} (F : Nat) (V : Value) (p : DSent → Bool) (hE : ∀ (cs : Array Value) (w : World), Sem.run Tryz.prog (callFunc F #[V, Value.agg cs]) w = .ok (.enter F #[V, Value.agg cs]) w)
    (hF : ∀ (i : Nat) (a : DSent) (w' : World) (cs : List Value), l[i]? = some a → Below w.heap.size w w' → tSent.R w' w'.heap.size cs a → Calls Tryz.prog F #[V, .agg cs.toArray] w' fun e w2 => e = .returned (.bool (p a)) ∧ Below w'.heap.size w' w2)
    (hl : tSent.row.R w w.heap.size [.slice A n c] l) (hn : n ≤ 1048576) :
    Calls Tryz.prog 88 #[.slice A n c, .func (.func F) #[V] #[]] w fun e w' => e = .returned (.bool (l.any p)) ∧ Below w.heap.size w w' := by
  have HF := Lib.hid hF
  have HE := Lib.hid hE
  clear hF hE
  go_enter Tryz.func88, Tryz.ntmps88
  go_wp2_with fail
  refine (i_idxSentB F V p HE.out HF.out hl hn).mono ?_
  rintro e w1 ⟨k, rfl, hk, hb1⟩
  have HK := Lib.hid hk
  clear hk
  go_wp2
  go_ret
  exact ⟨ret_bool HK.out.symm, hb1⟩
set_option maxHeartbeats 1000000 in
theorem i_idxSentW {w : World} {n c : Nat} {A : Option Addr} {l : List DSent} (F : Nat) (V V2 : Value) (p : DSent → Bool) (hE : ∀ (cs : Array Value) (w : World), Sem.run Tryz.prog (callFunc F #[Value.agg cs, V, V2]) w = .ok (.enter F #[Value.agg cs, V, V2]) w)
    (hF : ∀ (i : Nat) (a : DSent) (w' : World) (cs : List Value), l[i]? = some a → Below w.heap.size w w' → tSent.R w' w'.heap.size cs a → Calls Tryz.prog F #[.agg cs.toArray, V, V2] w' fun e w2 => e = .returned (.bool (p a)) ∧ Below w'.heap.size w' w2)
    (hl : tSent.row.R w w.heap.size [.slice A n c] l) (hn : n ≤ 1048576) :
    Calls Tryz.prog 131 #[.slice A n c, .func (.func F) #[] #[V, V2]] w fun e w' => ∃ k : Int, e = .returned (.int .i64 k) ∧ l.any p = decide (0 ≤ k) ∧ Below w.heap.size w w' := by
  obtain ⟨e0, _, _⟩ := rowR_len hl
  have HL := Lib.hid e0
  have HF := Lib.hid hF
  have HE := Lib.hid hE
  clear e0 hF hE
  go_enter Tryz.func131, Tryz.ntmps131
  go_wp2_with fail
  go_loopw [8] (fun i wr => ∃ j : Nat, j ≤ n ∧ i = .int .i64 j ∧ Below w.heap.size w wr ∧ ∀ h ∈ l.take j, p h = false) (fun i _ => n - (intOf i).toNat)
  case atStart => exact ⟨0, by omega, rfl, (belx), al0⟩
  case round =>
    obtain ⟨j, hj, rfl, hB, hG⟩ := hrel
    have HG := Lib.hid hG
    clear hG
    by_cases hlt : j < n
    · obtain ⟨a, b', off, es, hl2, rfl, hb, hes, hR⟩ := rowR_at (K := 3) hl hlt rfl
      have HA := Lib.hid hl2
      clear hl2
      have hRk := hR
      obtain ⟨A2, n2, c2, rfl, -, -, -, -, -, -⟩ := openSent hR
      have e0 : wr.cell? ⟨b', off + j * 3, none⟩ = some (.int .i64 a.1) := cell_at hB hb (hes 0 (by omega))
      have e1 : wr.cell? ⟨b', off + j * 3 + 1, none⟩ = some (.int .i64 a.2.1) := cell_at hB hb (hes 1 (by omega))
      have e2 : wr.cell? ⟨b', off + j * 3 + 2, none⟩ = some (.slice A2 n2 c2) := cell_at hB hb (hes 2 (by omega))
      have i1 : (j : Int) < (n : Int) := by omega
      clear hes
      go_wp2_with fail
      rw [HE.out, Oper.upon_enter]
      refine (HF.out j a _ _ HA.out ?hB (tSent.reach hRk ?hB2)).mono ?_
      case hB => exact bel_trans (a := w) hB (belx)
      case hB2 => exact bel_trans (a := w) hB (belx)
      rintro e w1 ⟨rfl, hb1⟩
      have hB1 : Below w.heap.size w w1 := bel_trans (bel_trans (a := w) hB (belx)) hb1
      obtain ⟨d, hd⟩ : ∃ d, p a = d := ⟨_, rfl⟩
      rw [hd]
      have HD := Lib.hid hd
      clear hd
      cases d
      · go_wp2
        go_roundw
        case rel => exact ⟨j + 1, by omega, by go_num, hB1, alS HG.out HA.out HD.out⟩
        case measure => simp [intOf]; omega
      · have HR := Lib.hid (show l.any p = true from List.any_eq_true.2 ⟨a, alMem HA.out, HD.out⟩)
        go_wp2
        go_ret
        exact ⟨_, rfl, by rw [HR.out]; simp, hB1⟩
    · obtain rfl : n = j := by omega
      have HR := Lib.hid (show l.any p = false from List.any_eq_false.2 fun x hx => by rw [alE HG.out (Nat.le_of_eq HL.out) x hx]; simp)
      go_wp2
      go_ret
      exact ⟨_, rfl, by rw [HR.out]; simp, hB⟩
theorem i_conSentW {w : World} {n c : Nat} {A : Option Addr} {l : List DSent} (F : Nat) (V V2 : Value) (p : DSent → Bool) (hE : ∀ (cs : Array Value) (w : World), Sem.run Tryz.prog (callFunc F #[Value.agg cs, V, V2]) w = .ok (.enter F #[Value.agg cs, V, V2]) w)
    (hF : ∀ (i : Nat) (a : DSent) (w' : World) (cs : List Value), l[i]? = some a → Below w.heap.size w w' → tSent.R w' w'.heap.size cs a → Calls Tryz.prog F #[.agg cs.toArray, V, V2] w' fun e w2 => e = .returned (.bool (p a)) ∧ Below w'.heap.size w' w2)
    (hl : tSent.row.R w w.heap.size [.slice A n c] l) (hn : n ≤ 1048576) :
    Calls Tryz.prog 88 #[.slice A n c, .func (.func F) #[] #[V, V2]] w fun e w' => e = .returned (.bool (l.any p)) ∧ Below w.heap.size w w' := by
  have HF := Lib.hid hF
  have HE := Lib.hid hE
  clear hF hE
  go_enter Tryz.func88, Tryz.ntmps88
  go_wp2_with fail
  refine (i_idxSentW F V V2 p HE.out HF.out hl hn).mono ?_
  rintro e w1 ⟨k, rfl, hk, hb1⟩
  have HK := Lib.hid hk
  clear hk
  go_wp2
  go_ret
  exact ⟨ret_bool HK.out.symm, hb1⟩
theorem i_recv1 (g : Nat) (x y : Int) (A : Option Addr) (n c : Nat) (w : World) (hg : w.cell? ⟨g, 0, none⟩ = some (.int .i64 y)) :
    Calls Tryz.prog 129 #[.agg #[.int .i64 x, .slice A n c], .pointer (some ⟨g, 0, none⟩)] w fun e w' => e = .returned (.agg #[.int .i64 x, .int .i64 y, .slice A n c]) ∧ Below w.heap.size w w' := by
  have hg2 : ((w.alloc (.cells #[.int .i64 x, .slice A n c] 111)).alloc (.cells #[.int .i64 0, .int .i64 0, .slice none 0 0] 78)).cell? ⟨g, 0, none⟩ = some (.int .i64 y) := cell_bel (belx) hg
  have R1 : Box ((w.alloc (.cells #[.int .i64 x, .slice A n c] 111)).alloc (.cells #[.int .i64 x, .int .i64 y, .slice A n c] 78)) (w.heap.size + 1) 78 #[.int .i64 x, .int .i64 y, .slice A n c] := by simpa using Box.new (w.alloc (.cells #[.int .i64 x, .slice A n c] 111)) 78 #[.int .i64 x, .int .i64 y, .slice A n c]
  go_enter Tryz.func129, Tryz.ntmps129
  go_wp2
  have y0 := R1.cell 0
  have y1 := R1.cell 1
  have y2 := R1.cell 2
  refine bodyPost_ret (v := .agg #[.int .i64 x, .int .i64 y, .slice A n c]) (by simp [results, Tryz.results129, go_sem, y0, y1, y2]) rfl ⟨rfl, (belx)⟩
set_option maxHeartbeats 2000000 in
theorem i_eachRecv {w : World} {B n c g : Nat} {A : Option Addr} {l : List DLetter} {y : Int} (h : tLetter.row.R w B [.slice A n c] l) (hBw : B ≤ w.heap.size) (hn : n ≤ 1048576) (hg : w.cell? ⟨g, 0, none⟩ = some (.int .i64 y)) (hy : (Lit.int .i64 y).wf = true) :
    Calls Tryz.prog 128 #[.slice A n c, .func (.func 129) #[] #[.pointer (some ⟨g, 0, none⟩)]] w fun e w' => ∃ v, e = .returned v ∧ GrowR tSent 78 w' w.heap.size B v (l.map fun a => (a.1, y, a.2)) ∧ Below w.heap.size w w' := by
  obtain ⟨i1, hj0, hj1, hj2, hj3⟩ := info_parts info_Sent
  obtain ⟨e0, _, _⟩ := rowR_len h
  have HL := Lib.hid e0
  have HY := Lib.hid hy
  clear e0 hy
  go_enter Tryz.func128, Tryz.ntmps128
  go_wp2_with fail
  go_loopw [5, 10] (fun v i wr => ∃ j : Nat, j ≤ n ∧ i = .int .i64 j ∧ GrowR tSent 78 wr w.heap.size B v ((l.take j).map fun a => (a.1, y, a.2)) ∧ Below w.heap.size w wr) (fun _ i _ => n - (intOf i).toNat)
  case atStart => exact ⟨0, by omega, rfl, GrowR.nil, (belx)⟩
  case round =>
    obtain ⟨j, hj, rfl, hG, hB⟩ := hrel
    by_cases hlt : j < n
    · obtain ⟨a, b', off, es, hl2, rfl, hb, hes, hR⟩ := rowR_at (K := 2) h hlt rfl
      have HT := Lib.hid (mapG (f := fun a : DLetter => ((a.1, y, a.2) : DSent)) hl2)
      have HLN := Lib.hid (mapGLen (f := fun a : DLetter => ((a.1, y, a.2) : DSent)) (l := l) (j := j) (by rw [HL.out]; exact hj))
      clear hl2
      obtain ⟨A2, n2, c2, rfl, hi0, -, -, -, hr⟩ := openLetter hR
      have hbw : b' < w.heap.size := Nat.lt_of_lt_of_le hb hBw
      have e0 : wr.cell? ⟨b', off + j * 2, none⟩ = some (.int .i64 a.1) := cell_at hB hbw (hes 0 (by omega))
      have e1 : wr.cell? ⟨b', off + j * 2 + 1, none⟩ = some (.slice A2 n2 c2) := cell_at hB hbw (hes 1 (by omega))
      have hRs : tSent.R w B [.int .i64 a.1, .int .i64 y, .slice A2 n2 c2] ((a.1, y, a.2) : DSent) := makeSent (p := ((a.1, y, a.2) : DSent)) hi0 HY.out hr
      have hgr : (wr.alloc (.cells #[.int .i64 a.1, .slice A2 n2 c2] 111)).cell? ⟨g, 0, none⟩ = some (.int .i64 y) := cell_bel (bel_alloc hB _) hg
      clear hes hR hr
      have zB := hB.size
      have hOwn := fun b hb => hG.own b hb
      have i1' : (j : Int) < (n : Int) := by omega
      obtain ⟨T, hT⟩ : ∃ T, (l.take j).map (fun a : DLetter => ((a.1, y, a.2) : DSent)) = T := ⟨_, rfl⟩
      rw [hT] at hG HT HLN
      clear hT
      go_wp2_with fail
      refine (i_recv1 _ _ _ _ _ _ _ hgr).mono ?_
      rintro e w1 ⟨rfl, hb1⟩
      have hs1 : Below wr.heap.size wr w1 := bel_trans (belx) hb1
      have hBx : Below wr.heap.size wr (w1.alloc (.cells [.int .i64 a.1, .int .i64 y, .slice A2 n2 c2].toArray 78)) := bel_alloc hs1 _
      obtain ⟨xs, hrow, hpush⟩ := (hG.below hBx (by omega)).row hBw (by have := hBx.size; omega)
      have hS2 : Src (w1.alloc (.cells [.int .i64 a.1, .int .i64 y, .slice A2 n2 c2].toArray 78)) 3 (some ⟨w1.heap.size, 0, none⟩) 1 [.int .i64 a.1, .int .i64 y, .slice A2 n2 c2] := Src.of_box w1 78 [.int .i64 a.1, .int .i64 y, .slice A2 n2 c2] (K := 3) rfl
      have tz : (Value.agg #[Value.int .i64 0, Value.int .i64 0, Value.slice none 0 0]).cells.size = 3 := by first | rfl | (simp [Value.cells]; done)
      have t0 := one_sent _ _ hRs
      have t1 : T.length + 1 ≤ maxLen := by simp only [maxLen]; have := HLN.out; omega
      have t2 : (T.length + 1) * 40 ≤ 140737488355328 := by have := HLN.out; omega
      have t3 := hBx.size
      go_wp2_with (at_builtin; refine wpList_app _ rfl (.tmp 14) (.tmp 18) _ rfl w.heap.size 78 i1 _ 3 40 Tryz.underlying32 hj0 hj1 hj2 hj3 tz (by omega) u5 _ xs rfl hrow _ 1 1 [.int .i64 a.1, .int .i64 y, .slice A2 n2 c2] rfl hS2 t0 t1 t2 (by omega) ?_; intro v2 w2 hown2 hgr2 hat2)
      have hfin := hpush w2 v2 _ _ (tSent.keep hRs fun b hlt => (bel_trans hB hBx).block b (by omega)) hown2 hgr2
      have hBf : Below w.heap.size w w2 := Below.grown (w := (w1.alloc (.cells [.int .i64 a.1, .int .i64 y, .slice A2 n2 c2].toArray 78))) (bel_trans hB hBx) hgr2 (by omega) (fun b hb => (hOwn b hb).1)
      go_roundw
      case rel => exact ⟨j + 1, by omega, by go_num, by rw [HT.out]; exact hfin, hBf⟩
      case measure => simp [intOf]; omega
    · obtain rfl : n = j := by omega
      have HA := Lib.hid (show l.take n = l from List.take_of_length_le (Nat.le_of_eq HL.out))
      rw [HA.out] at hG
      go_wp2
      go_ret
      exact ⟨_, rfl, hG, hB⟩
theorem i_received {w : World} {B : Nat} {cs : List Value} {p : DNode} (h : tNode.R w B cs p) (hBw : B ≤ w.heap.size) (hz : p.2.2.2.2.length ≤ 1048576) :
    Calls Tryz.prog 85 #[.agg cs.toArray] w fun e w' => ∃ v, e = .returned v ∧ GrowR tSent 78 w' w.heap.size B v (recv p) ∧ Below w.heap.size w w' := by
  obtain ⟨A2, n2, c2, A3, n3, c3, A4, n4, c4, A5, n5, c5, A6, n6, c6, rfl, i0, i1, r2, r4, r6⟩ := fopenNode h
  have hn : n6 ≤ 1048576 := by have := (rowR_len r6).1; omega
  have X1 : Box (w.alloc (.cells #[.int .i64 p.1, .int .i64 p.2.1, .slice A2 n2 c2, .slice A3 n3 c3, .slice A4 n4 c4, .slice A5 n5 c5, .slice A6 n6 c6] 71)) w.heap.size 71 #[.int .i64 p.1, .int .i64 p.2.1, .slice A2 n2 c2, .slice A3 n3 c3, .slice A4 n4 c4, .slice A5 n5 c5, .slice A6 n6 c6] := Box.new _ _ _
  have HRV := Lib.hid (show (p.2.2.2.2.map fun a => (a.1, p.1, a.2)) = recv p from rfl)
  go_enter Tryz.func85, Tryz.ntmps85
  go_wp2_with fail
  refine (i_eachRecv (B := B) (tLetter.row.keep r6 (fun b hb => (show Below w.heap.size w (w.alloc (.cells #[.int .i64 p.1, .int .i64 p.2.1, .slice A2 n2 c2, .slice A3 n3 c3, .slice A4 n4 c4, .slice A5 n5 c5, .slice A6 n6 c6] 71)) from (belx)).block b (by omega))) (by simp; omega) hn (X1.cell 0) i0).mono ?_
  rintro e w1 ⟨v, rfl, hG, hb1⟩
  rw [HRV.out] at hG
  go_wp2
  go_ret
  obtain ⟨css, k1, k2, k3⟩ := hG
  exact ⟨v, rfl, ⟨css, ⟨k1.1, k1.2.imp id (fun ⟨g, cap, cur, e1, hb, r⟩ => ⟨g, cap, cur, e1, Nat.le_trans (by simp) hb, r⟩)⟩, k2, k3⟩, bel_trans (belx) hb1⟩
end Go.Proofs.YteokfenoomcogaaGreat
