/-
  What the elements of a list hold, put together: joined, over whatever function.
-/
import Derived.Test.YtgepeppmhfnbeaaExt
import Derived.Test.YtgepeppmhfnbeaaTy
namespace Go.Proofs.Ytgepeppmhfnbeaa
set_option maxRecDepth 100000
set_option linter.unusedVariables false
set_option linter.unusedSimpArgs false
open Go.ChangeShapes Go.WideShapes Go.ChangeAt Go.RowKit
set_option maxHeartbeats 1000000 in
theorem i_joinedIB {w : World} {n c : Nat} {A : Option Addr} {l : List Int} (F : Nat) (f : Int → List Int) (m : Nat) (hE : ∀ (cs : Int) (w : World), Sem.run Try.prog (callFunc F #[Value.int .i64 cs]) w = .ok (.enter F #[Value.int .i64 cs]) w)
    (hF : ∀ (i : Nat) (a : Int) (w' : World), l[i]? = some a → Below w.heap.size w w' → Calls Try.prog F #[.int .i64 a] w' fun e w2 => ∃ v, e = .returned v ∧ Own .u8 5 w2 w'.heap.size v (f a) ∧ Below w'.heap.size w' w2)
    (hm : ∀ a ∈ l, (f a).length ≤ m) (hmn : m * n ≤ 1000000) (hl : Ints .i64 w w.heap.size A n l) (hn : n ≤ 1048576) :
    Calls Try.prog 97 #[.slice A n c, .func (.func F) #[] #[]] w fun e w' => ∃ v, e = .returned v ∧ Own .u8 5 w' w.heap.size v (l.flatMap f) ∧ Below w.heap.size w w' := by
  obtain ⟨i0, hi0, hz0, hz1, hz2⟩ := info_parts info_cb
  have HL := Lib.hid hl.1
  have HF := Lib.hid hF
  have HE := Lib.hid hE
  have HM := Lib.hid hm
  have HMN := Lib.hid hmn
  clear hF hE hm hmn
  go_enter Try.func97, Try.ntmps97
  go_wp2_with fail
  go_loopw [5, 10] (fun v i wr => ∃ j : Nat, j ≤ n ∧ i = .int .i64 j ∧ Own .u8 5 wr w.heap.size v ((l.take j).flatMap f) ∧ Below w.heap.size w wr) (fun _ i _ => n - (intOf i).toNat)
  case atStart => exact ⟨0, by omega, rfl, Own.nil _ _ _ _, (by repeat (first | (with_reducible exact Below.refl _ _) | (with_reducible assumption) | (with_reducible refine bel_alloc ?_ _) | (with_reducible refine bel_drew ?_) | (with_reducible refine below_drewN ?_ _) | (with_reducible refine bel_put ?_ (by first | exact Nat.le_refl _ | (simp; done) | (simp; omega)) _)))⟩
  case round =>
    obtain ⟨j, hj, rfl, hO, hB⟩ := hrel
    by_cases hlt : j < n
    · obtain ⟨b', off, rfl, hb, hcell, -⟩ := (hl.below hB).at_ hlt
      have hl2 := atI HL.out hlt
      obtain ⟨a, ha⟩ : ∃ a, l.getD j 0 = a := ⟨_, rfl⟩
      rw [ha] at hcell hl2
      have j1 : (j : Int) < (n : Int) := by omega
      clear ha
      have HA := Lib.hid hl2
      have HS := Lib.hid (flS (f := f) hl2)
      have hm1 := HM.out a (alMem hl2)
      have hm2 : ((l.take j).flatMap f).length + (f a).length ≤ 1000000 := by
        have h1 := flLe (f := f) HM.out (j + 1)
        rw [HS.out, List.length_append, HL.out] at h1
        have := HMN.out
        omega
      clear hl2
      obtain ⟨bs, hbs⟩ : ∃ bs, (l.take j).flatMap f = bs := ⟨_, rfl⟩
      rw [hbs] at hO HS hm2
      have HM2 := Lib.hid hm2
      clear hbs hm1 hm2
      go_wp2_with fail
      rw [HE.out, Oper.upon_enter]
      refine (HF.out j a _ HA.out ?hB).mono ?_
      case hB => exact bel_trans (a := w) hB (by repeat (first | (with_reducible exact Below.refl _ _) | (with_reducible assumption) | (with_reducible refine bel_alloc ?_ _) | (with_reducible refine bel_drew ?_) | (with_reducible refine below_drewN ?_ _) | (with_reducible refine bel_put ?_ (by first | exact Nat.le_refl _ | (simp; done) | (simp; omega)) _)))
      rintro e w1 ⟨v1, rfl, hO1, hb1⟩
      obtain ⟨fa, hfa⟩ : ∃ y, f a = y := ⟨_, rfl⟩
      rw [hfa] at HS HM2 hO1
      clear hfa
      have hs1 : Below wr.heap.size wr w1 := bel_trans (by repeat (first | (with_reducible exact Below.refl _ _) | (with_reducible assumption) | (with_reducible refine bel_alloc ?_ _) | (with_reducible refine bel_drew ?_) | (with_reducible refine below_drewN ?_ _) | (with_reducible refine bel_put ?_ (by first | exact Nat.le_refl _ | (simp; done) | (simp; omega)) _))) hb1
      have hO2 := hO.below hs1
      have hO1w := hO1.2
      obtain ⟨A1, n1, c1, rfl, hn1⟩ := hO1.shapeN
      have hS : Src w1 1 A1 n1 (fa.map (Value.int .u8)) := Src.of_ints hO1.intsAt.1
      have HN1 := Lib.hid hn1
      have zz := hs1.size
      have zw := hB.size
      clear hn1 hO1
      go_wp2_with (at_builtin; refine wpList_app _ rfl (.tmp 14) (.tmp 17) _ rfl w.heap.size 5 i0 _ 1 1 Try.underlying22 hi0 hz0 hz1 hz2 rfl (by omega) _ _ _ rfl hO2.1 A1 n1 c1 (fa.map (Value.int .u8)) rfl hS (one_ints _ _) (by simp only [maxLen]; have := HM2.out; have := HN1.out; omega) (by have := HM2.out; have := HN1.out; omega) (by omega) ?_; intro v2 w3 hown hgr hat)
      go_roundw
      case rel => exact ⟨j + 1, by omega, by go_num, by rw [HS.out]; exact own_appN (r := fa) hown HN1.out.symm hO2.2 hO1w, (bel_trans hB hs1).grown hgr (by omega) (fun b hb => (hO2.block hb).1)⟩
      case measure => simp [intOf]; omega
    · obtain rfl : n = j := by omega
      have HA := Lib.hid (show l.take n = l from List.take_of_length_le (Nat.le_of_eq HL.out))
      rw [HA.out] at hO
      go_wp2
      go_ret
      exact ⟨_, rfl, hO, hB⟩
set_option maxHeartbeats 1000000 in
theorem i_joinedHeldB {w : World} {n c : Nat} {A : Option Addr} {l : List DHeld} (F : Nat) (f : DHeld → List Int) (m : Nat) (hE : ∀ (cs : Array Value) (w : World), Sem.run Try.prog (callFunc F #[Value.agg cs]) w = .ok (.enter F #[Value.agg cs]) w)
    (hF : ∀ (i : Nat) (a : DHeld) (w' : World) (cs : List Value), l[i]? = some a → Below w.heap.size w w' → tHeld.R w' w'.heap.size cs a → Calls Try.prog F #[.agg cs.toArray] w' fun e w2 => ∃ v, e = .returned v ∧ Own .u8 5 w2 w'.heap.size v (f a) ∧ Below w'.heap.size w' w2)
    (hm : ∀ a ∈ l, (f a).length ≤ m) (hmn : m * n ≤ 1000000) (hl : tHeld.row.R w w.heap.size [.slice A n c] l) (hn : n ≤ 1048576) :
    Calls Try.prog 95 #[.slice A n c, .func (.func F) #[] #[]] w fun e w' => ∃ v, e = .returned v ∧ Own .u8 5 w' w.heap.size v (l.flatMap f) ∧ Below w.heap.size w w' := by
  obtain ⟨i0, hi0, hz0, hz1, hz2⟩ := info_parts info_cb
  obtain ⟨e0, _, _⟩ := rowR_len hl
  have HL := Lib.hid e0
  clear e0
  have HF := Lib.hid hF
  have HE := Lib.hid hE
  have HM := Lib.hid hm
  have HMN := Lib.hid hmn
  clear hF hE hm hmn
  go_enter Try.func95, Try.ntmps95
  go_wp2_with fail
  go_loopw [5, 10] (fun v i wr => ∃ j : Nat, j ≤ n ∧ i = .int .i64 j ∧ Own .u8 5 wr w.heap.size v ((l.take j).flatMap f) ∧ Below w.heap.size w wr) (fun _ i _ => n - (intOf i).toNat)
  case atStart => exact ⟨0, by omega, rfl, Own.nil _ _ _ _, (by repeat (first | (with_reducible exact Below.refl _ _) | (with_reducible assumption) | (with_reducible refine bel_alloc ?_ _) | (with_reducible refine bel_drew ?_) | (with_reducible refine below_drewN ?_ _) | (with_reducible refine bel_put ?_ (by first | exact Nat.le_refl _ | (simp; done) | (simp; omega)) _)))⟩
  case round =>
    obtain ⟨j, hj, rfl, hO, hB⟩ := hrel
    by_cases hlt : j < n
    · obtain ⟨a, b', off, es, hl2, rfl, hb, hes, hR⟩ := rowR_at (K := 3) hl hlt rfl
      have hRk := hR
      obtain ⟨A2, n2, c2, rfl, -, -, -, -, -, -⟩ := openHeld hR
      have e0 : wr.cell? ⟨b', off + j * 3, none⟩ = some (.int .i64 a.1) := cell_at hB hb (hes 0 (by omega))
      have e1 : wr.cell? ⟨b', off + j * 3 + 1, none⟩ = some (.int .i64 a.2.1) := cell_at hB hb (hes 1 (by omega))
      have e2 : wr.cell? ⟨b', off + j * 3 + 2, none⟩ = some (.slice A2 n2 c2) := cell_at hB hb (hes 2 (by omega))
      clear hes hR
      have HA := Lib.hid hl2
      have HS := Lib.hid (flS (f := f) hl2)
      have hm1 := HM.out a (alMem hl2)
      have hm2 : ((l.take j).flatMap f).length + (f a).length ≤ 1000000 := by
        have h1 := flLe (f := f) HM.out (j + 1)
        rw [HS.out, List.length_append, HL.out] at h1
        have := HMN.out
        omega
      clear hl2
      obtain ⟨bs, hbs⟩ : ∃ bs, (l.take j).flatMap f = bs := ⟨_, rfl⟩
      rw [hbs] at hO HS hm2
      have HM2 := Lib.hid hm2
      clear hbs hm1 hm2
      go_wp2_with fail
      rw [HE.out, Oper.upon_enter]
      refine (HF.out j a _ _ HA.out ?hB (tHeld.reach hRk ?hB2)).mono ?_
      case hB => exact bel_trans (a := w) hB (by repeat (first | (with_reducible exact Below.refl _ _) | (with_reducible assumption) | (with_reducible refine bel_alloc ?_ _) | (with_reducible refine bel_drew ?_) | (with_reducible refine below_drewN ?_ _) | (with_reducible refine bel_put ?_ (by first | exact Nat.le_refl _ | (simp; done) | (simp; omega)) _)))
      case hB2 => exact bel_trans (a := w) hB (by repeat (first | (with_reducible exact Below.refl _ _) | (with_reducible assumption) | (with_reducible refine bel_alloc ?_ _) | (with_reducible refine bel_drew ?_) | (with_reducible refine below_drewN ?_ _) | (with_reducible refine bel_put ?_ (by first | exact Nat.le_refl _ | (simp; done) | (simp; omega)) _)))
      rintro e w1 ⟨v1, rfl, hO1, hb1⟩
      obtain ⟨fa, hfa⟩ : ∃ y, f a = y := ⟨_, rfl⟩
      rw [hfa] at HS HM2 hO1
      clear hfa
      have hs1 : Below wr.heap.size wr w1 := bel_trans (by repeat (first | (with_reducible exact Below.refl _ _) | (with_reducible assumption) | (with_reducible refine bel_alloc ?_ _) | (with_reducible refine bel_drew ?_) | (with_reducible refine below_drewN ?_ _) | (with_reducible refine bel_put ?_ (by first | exact Nat.le_refl _ | (simp; done) | (simp; omega)) _))) hb1
      have hO2 := hO.below hs1
      have hO1w := hO1.2
      obtain ⟨A1, n1, c1, rfl, hn1⟩ := hO1.shapeN
      have hS : Src w1 1 A1 n1 (fa.map (Value.int .u8)) := Src.of_ints hO1.intsAt.1
      have HN1 := Lib.hid hn1
      have zz := hs1.size
      have zw := hB.size
      clear hn1 hO1
      go_wp2_with (at_builtin; refine wpList_app _ rfl (.tmp 14) (.tmp 17) _ rfl w.heap.size 5 i0 _ 1 1 Try.underlying22 hi0 hz0 hz1 hz2 rfl (by omega) _ _ _ rfl hO2.1 A1 n1 c1 (fa.map (Value.int .u8)) rfl hS (one_ints _ _) (by simp only [maxLen]; have := HM2.out; have := HN1.out; omega) (by have := HM2.out; have := HN1.out; omega) (by omega) ?_; intro v2 w3 hown hgr hat)
      go_roundw
      case rel => exact ⟨j + 1, by omega, by go_num, by rw [HS.out]; exact own_appN (r := fa) hown HN1.out.symm hO2.2 hO1w, (bel_trans hB hs1).grown hgr (by omega) (fun b hb => (hO2.block hb).1)⟩
      case measure => simp [intOf]; omega
    · obtain rfl : n = j := by omega
      have HA := Lib.hid (show l.take n = l from List.take_of_length_le (Nat.le_of_eq HL.out))
      rw [HA.out] at hO
      go_wp2
      go_ret
      exact ⟨_, rfl, hO, hB⟩
end Go.Proofs.Ytgepeppmhfnbeaa
