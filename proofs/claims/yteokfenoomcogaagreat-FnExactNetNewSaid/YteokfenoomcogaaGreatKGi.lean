/-
  EvGlance, EvMail, EvSent, EvLetter, PNil, EvPiece, EvWhole, EvNode, Grow: texts joined.
-/
import Derived.Test.YteokfenoomcogaaGreatKGg
import Derived.Test.YteokfenoomcogaaGreatKGh
namespace Go.Proofs.YteokfenoomcogaaGreat
set_option maxRecDepth 100000
set_option linter.unusedVariables false
set_option linter.unusedSimpArgs false
open Go.ChangeShapes Go.WideShapes Go.ChangeAt Go.RowKit
set_option maxHeartbeats 400000 in
theorem i_evryGlanceB {w : World} {n c : Nat} {A : Option Addr} {l : List DGlance} (F : Nat) (V : Value) (p : DGlance → Bool) (hE : ∀ (cs : Array Value) (w : World), Sem.run Tryz.prog (callFunc F #[V, Value.agg cs]) w = .ok (.enter F #[V, Value.agg cs]) w)
    (hF : ∀ (i : Nat) (a : DGlance) (w' : World) (cs : List Value), l[i]? = some a → Below w.heap.size w w' → tGlance.R w' w'.heap.size cs a → Calls Tryz.prog F #[V, .agg cs.toArray] w' fun e w2 => e = .returned (.bool (p a)) ∧ Below w'.heap.size w' w2)
    (hl : tGlance.row.R w w.heap.size [.slice A n c] l) (hn : n ≤ 17592186043904) :
    Calls Tryz.prog 60 #[.slice A n c, .func (.func F) #[V] #[]] w fun e w' => e = .returned (.bool (l.all p)) ∧ Below w.heap.size w w' := by
  obtain ⟨e0, _, _⟩ := rowR_len hl
  have HL := Lib.hid e0
  have HF := Lib.hid hF
  have HE := Lib.hid hE
  clear e0 hF hE
  go_enter Tryz.func60, Tryz.ntmps60
  go_wp2_with fail
  go_loopw [9] (fun i wr => ∃ j : Nat, j ≤ n ∧ i = .int .i64 j ∧ Below w.heap.size w wr ∧ ∀ h ∈ l.take j, p h = true) (fun i _ => n - (intOf i).toNat)
  case atStart => exact ⟨0, by omega, rfl, (belx), al0⟩
  case round =>
    obtain ⟨j, hj, rfl, hB, hG⟩ := hrel
    have HG := Lib.hid hG
    clear hG
    by_cases hlt : j < n
    · obtain ⟨a, b', off, es, hl2, rfl, hb, hes, hR⟩ := rowR_at (K := 2) hl hlt rfl
      have HA := Lib.hid hl2
      clear hl2
      have hRk := hR
      obtain ⟨rfl, -, -⟩ := openGlance hR
      have e0 : wr.cell? ⟨b', off + j * 2, none⟩ = some (.int .i64 a.1) := cell_at hB hb (hes 0 (by omega))
      have e1 : wr.cell? ⟨b', off + j * 2 + 1, none⟩ = some (.int .i64 a.2) := cell_at hB hb (hes 1 (by omega))
      clear hes
      go_wp2_with fail
      rw [HE.out, Oper.upon_enter]
      refine (HF.out j a _ _ HA.out ?hB (tGlance.reach hRk ?hB2)).mono ?_
      case hB => exact bel_trans (a := w) hB (belx)
      case hB2 => exact bel_trans (a := w) hB (belx)
      rintro e w1 ⟨rfl, hb1⟩
      have hB1 : Below w.heap.size w w1 := bel_trans (bel_trans (a := w) hB (belx)) hb1
      obtain ⟨d, hd⟩ : ∃ d, p a = d := ⟨_, rfl⟩
      rw [hd]
      have HD := Lib.hid hd
      clear hd
      cases d
      · have HR := Lib.hid (alF HA.out HD.out)
        go_wp2
        go_ret
        exact ⟨ret_bool HR.out.symm, hB1⟩
      · go_wp2
        go_roundw
        case rel => exact ⟨j + 1, by omega, by go_num, hB1, alS HG.out HA.out HD.out⟩
        case measure => simp [intOf]; omega
    · obtain rfl : n = j := by omega
      have HR := Lib.hid (alT HG.out (Nat.le_of_eq HL.out))
      go_wp2
      go_ret
      exact ⟨ret_bool HR.out.symm, hB⟩
set_option maxHeartbeats 1000000 in
theorem i_perNodeGlance {w : World} {n c : Nat} {A : Option Addr} {l : List DGlance} (F : Nat) (f : DGlance → Int) (hE : ∀ (cs : Array Value) (w : World), Sem.run Tryz.prog (callFunc F #[Value.agg cs]) w = .ok (.enter F #[Value.agg cs]) w)
    (hF : ∀ (i : Nat) (a : DGlance) (w' : World) (cs : List Value), l[i]? = some a → Below w.heap.size w w' → tGlance.R w' w'.heap.size cs a → Calls Tryz.prog F #[.agg cs.toArray] w' fun e w2 => e = .returned (.int .i64 (f a)) ∧ Below w'.heap.size w' w2)
    (h8 : ∀ a ∈ l, 0 ≤ f a ∧ f a < 8) (hl : tGlance.row.R w w.heap.size [.slice A n c] l) (hn : n ≤ 1048576) :
    Calls Tryz.prog 80 #[.slice A n c, .func (.func F) #[] #[]] w fun e w' => e = .returned (.slice (some ⟨w.heap.size, 0, none⟩) 8 8) ∧ Own .i64 3 w' w.heap.size (.slice (some ⟨w.heap.size, 0, none⟩) 8 8) (cntF f l) ∧ Below w.heap.size w w' := by
  obtain ⟨i0, hi0, hz0, hz1, hz2⟩ := info_parts info_ci
  obtain ⟨e0, _, _⟩ := rowR_len hl
  have HL := Lib.hid e0
  have HF := Lib.hid hF
  have HE := Lib.hid hE
  have H8 := Lib.hid h8
  clear e0 hF hE h8
  go_enter Tryz.func80, Tryz.ntmps80
  go_wp2_with (at_make; refine wpList_mk _ rfl _ _ _ rfl 3 i0 _ Tryz.underlying41 hi0 hz0 rfl hz1 8 rfl rfl (by rw [hz2]; omega) (by simp only [maxLen]; omega) ?_; intro w2 hrow hB2 hsz)
  go_loopw [11] (fun i wr => ∃ j : Nat, j ≤ n ∧ i = .int .i64 j ∧ Own .i64 3 wr w.heap.size (.slice (some ⟨w.heap.size, 0, none⟩) 8 8) (cntF f (l.take j)) ∧ Below w.heap.size w wr) (fun i _ => n - (intOf i).toNat)
  case atStart => exact ⟨0, by omega, rfl, cntF_own f hrow, hB2⟩
  case round =>
    obtain ⟨j, hj, rfl, hO, hB⟩ := hrel
    by_cases hlt : j < n
    · obtain ⟨a, b', off, es, hl2, rfl, hb, hes, hR⟩ := rowR_at (K := 2) hl hlt rfl
      have HA := Lib.hid hl2
      obtain ⟨⟨q1, q2⟩, HS⟩ := (⟨H8.out a (alMem hl2), Lib.hid (cntF_sn f hl2)⟩ : (0 ≤ f a ∧ f a < 8) ∧ Hid _)
      clear hl2
      have hRk := hR
      obtain ⟨rfl, -, -⟩ := openGlance hR
      have e0 : wr.cell? ⟨b', off + j * 2, none⟩ = some (.int .i64 a.1) := cell_at hB hb (hes 0 (by omega))
      have e1 : wr.cell? ⟨b', off + j * 2 + 1, none⟩ = some (.int .i64 a.2) := cell_at hB hb (hes 1 (by omega))
      clear hes hR
      obtain ⟨k, hk⟩ : ∃ k : Nat, f a = k := ⟨(f a).toNat, by omega⟩
      rw [hk] at HS q1 q2
      have HK := Lib.hid hk
      clear hk
      have hk8 : k < 8 := by omega
      have hlen : (l.take j).length = j := by rw [List.length_take, HL.out]; omega
      obtain ⟨C, hC⟩ : ∃ C, cntF f (l.take j) = C := ⟨_, rfl⟩
      have hCl : C.length = 8 := by rw [← hC]; exact cntF_len f _
      have hCr := cntF_le f (l.take j)
      rw [hlen] at hCr
      rw [hC] at hO hCr HS
      clear hC hlen
      obtain ⟨x, hx⟩ : ∃ x, C.getD k 0 = x := ⟨_, rfl⟩
      have hxr : 0 ≤ x ∧ x ≤ j := by
        have h1 := hCr (C.getD k 0) (by rw [List.getD_eq_getElem?_getD, List.getElem?_eq_getElem (by omega)]; exact List.getElem_mem _)
        rw [hx] at h1; exact h1
      have HEQ := Lib.hid (show cntF f (l.take (j + 1)) = C.set k (x + 1) by rw [HS.out, Int.toNat_natCast, hx])
      have HX := Lib.hid hx
      have HCL := Lib.hid hCl
      clear hCr hx hCl
      go_wp2_with fail
      rw [HE.out, Oper.upon_enter]
      refine (HF.out j a _ _ HA.out ?hB (tGlance.reach hRk ?hB2)).mono ?_
      case hB => exact bel_trans (a := w) hB (belx)
      case hB2 => exact bel_trans (a := w) hB (belx)
      rintro e w1 ⟨rfl, hb1⟩
      rw [HK.out]
      have hs1 : Below wr.heap.size wr w1 := bel_trans (belx) hb1
      have hO2 := hO.below hs1
      have zw := hB.size
      have zz := hs1.size
      obtain ⟨g, c', ev, -, -, -, hgz, hcell, hfz⟩ := hO2.row (by rw [HCL.out]; omega)
      have eg : w.heap.size = g := by injection ev with ev; injection ev with ev; injection ev
      subst eg
      clear ev
      rw [HCL.out] at hcell
      have hck := hcell k hk8
      have hfk := hfz k
      rw [HX.out] at hck
      have hP := Own.put (c := 8) (l := C) (by rw [HCL.out]; exact hO2) k (x + 1) (WalkArith.wf_i64 ⟨by omega, by omega⟩)
      rw [HCL.out] at hP
      have i1 : IntKind.i64.wrap (x + 1) = x + 1 := IntWalk.i64_in _ (by omega)
      clear hcell hfz
      go_wp2
      go_roundw
      case rel => exact ⟨j + 1, by omega, by go_num, by rw [HEQ.out]; exact hP, bel_put (bel_trans hB hs1) (Nat.le_refl _) _⟩
      case measure => simp [intOf]; omega
    · obtain rfl : n = j := by omega
      have HA := Lib.hid (show l.take n = l from List.take_of_length_le (Nat.le_of_eq HL.out))
      rw [HA.out] at hO
      go_wp2
      go_ret
      exact ⟨rfl, hO, hB⟩
end Go.Proofs.YteokfenoomcogaaGreat
namespace Go.Proofs.YteokfenoomcogaaGreat
set_option maxRecDepth 100000
set_option linter.unusedVariables false
set_option linter.unusedSimpArgs false
open Go.ChangeShapes Go.WideShapes Go.ChangeAt Go.RowKit
set_option maxHeartbeats 400000 in
theorem i_evryMail {w : World} {n c : Nat} {A : Option Addr} {l : List DMail} (F : Nat) (p : DMail → Bool) (hE : ∀ (cs : Array Value) (w : World), Sem.run Tryz.prog (callFunc F #[Value.agg cs]) w = .ok (.enter F #[Value.agg cs]) w)
    (hF : ∀ (i : Nat) (a : DMail) (w' : World) (cs : List Value), l[i]? = some a → Below w.heap.size w w' → tMail.R w' w'.heap.size cs a → Calls Tryz.prog F #[.agg cs.toArray] w' fun e w2 => e = .returned (.bool (p a)) ∧ Below w'.heap.size w' w2)
    (hl : tMail.row.R w w.heap.size [.slice A n c] l) (hn : n ≤ 17592186043904) :
    Calls Tryz.prog 58 #[.slice A n c, .func (.func F) #[] #[]] w fun e w' => e = .returned (.bool (l.all p)) ∧ Below w.heap.size w w' := by
  obtain ⟨e0, _, _⟩ := rowR_len hl
  have HL := Lib.hid e0
  have HF := Lib.hid hF
  have HE := Lib.hid hE
  clear e0 hF hE
  go_enter Tryz.func58, Tryz.ntmps58
  go_wp2_with fail
  go_loopw [9] (fun i wr => ∃ j : Nat, j ≤ n ∧ i = .int .i64 j ∧ Below w.heap.size w wr ∧ ∀ h ∈ l.take j, p h = true) (fun i _ => n - (intOf i).toNat)
  case atStart => exact ⟨0, by omega, rfl, (belx), al0⟩
  case round =>
    obtain ⟨j, hj, rfl, hB, hG⟩ := hrel
    have HG := Lib.hid hG
    clear hG
    by_cases hlt : j < n
    · obtain ⟨a, b', off, es, hl2, rfl, hb, hes, hR⟩ := rowR_at (K := 2) hl hlt rfl
      have HA := Lib.hid hl2
      clear hl2
      have hRk := hR
      obtain ⟨A2, n2, c2, rfl, -, -, -, -, -⟩ := openMail hR
      have e0 : wr.cell? ⟨b', off + j * 2, none⟩ = some (.int .i64 a.1) := cell_at hB hb (hes 0 (by omega))
      have e1 : wr.cell? ⟨b', off + j * 2 + 1, none⟩ = some (.slice A2 n2 c2) := cell_at hB hb (hes 1 (by omega))
      clear hes
      go_wp2_with fail
      rw [HE.out, Oper.upon_enter]
      refine (HF.out j a _ _ HA.out ?hB (tMail.reach hRk ?hB2)).mono ?_
      case hB => exact bel_trans (a := w) hB (belx)
      case hB2 => exact bel_trans (a := w) hB (belx)
      rintro e w1 ⟨rfl, hb1⟩
      have hB1 : Below w.heap.size w w1 := bel_trans (bel_trans (a := w) hB (belx)) hb1
      obtain ⟨d, hd⟩ : ∃ d, p a = d := ⟨_, rfl⟩
      rw [hd]
      have HD := Lib.hid hd
      clear hd
      cases d
      · have HR := Lib.hid (alF HA.out HD.out)
        go_wp2
        go_ret
        exact ⟨ret_bool HR.out.symm, hB1⟩
      · go_wp2
        go_roundw
        case rel => exact ⟨j + 1, by omega, by go_num, hB1, alS HG.out HA.out HD.out⟩
        case measure => simp [intOf]; omega
    · obtain rfl : n = j := by omega
      have HR := Lib.hid (alT HG.out (Nat.le_of_eq HL.out))
      go_wp2
      go_ret
      exact ⟨ret_bool HR.out.symm, hB⟩
set_option maxHeartbeats 1000000 in
theorem i_perNodeMail {w : World} {n c : Nat} {A : Option Addr} {l : List DMail} (F : Nat) (f : DMail → Int) (hE : ∀ (cs : Array Value) (w : World), Sem.run Tryz.prog (callFunc F #[Value.agg cs]) w = .ok (.enter F #[Value.agg cs]) w)
    (hF : ∀ (i : Nat) (a : DMail) (w' : World) (cs : List Value), l[i]? = some a → Below w.heap.size w w' → tMail.R w' w'.heap.size cs a → Calls Tryz.prog F #[.agg cs.toArray] w' fun e w2 => e = .returned (.int .i64 (f a)) ∧ Below w'.heap.size w' w2)
    (h8 : ∀ a ∈ l, 0 ≤ f a ∧ f a < 8) (hl : tMail.row.R w w.heap.size [.slice A n c] l) (hn : n ≤ 1048576) :
    Calls Tryz.prog 71 #[.slice A n c, .func (.func F) #[] #[]] w fun e w' => e = .returned (.slice (some ⟨w.heap.size, 0, none⟩) 8 8) ∧ Own .i64 3 w' w.heap.size (.slice (some ⟨w.heap.size, 0, none⟩) 8 8) (cntF f l) ∧ Below w.heap.size w w' := by
  obtain ⟨i0, hi0, hz0, hz1, hz2⟩ := info_parts info_ci
  obtain ⟨e0, _, _⟩ := rowR_len hl
  have HL := Lib.hid e0
  have HF := Lib.hid hF
  have HE := Lib.hid hE
  have H8 := Lib.hid h8
  clear e0 hF hE h8
  go_enter Tryz.func71, Tryz.ntmps71
  go_wp2_with (at_make; refine wpList_mk _ rfl _ _ _ rfl 3 i0 _ Tryz.underlying41 hi0 hz0 rfl hz1 8 rfl rfl (by rw [hz2]; omega) (by simp only [maxLen]; omega) ?_; intro w2 hrow hB2 hsz)
  go_loopw [11] (fun i wr => ∃ j : Nat, j ≤ n ∧ i = .int .i64 j ∧ Own .i64 3 wr w.heap.size (.slice (some ⟨w.heap.size, 0, none⟩) 8 8) (cntF f (l.take j)) ∧ Below w.heap.size w wr) (fun i _ => n - (intOf i).toNat)
  case atStart => exact ⟨0, by omega, rfl, cntF_own f hrow, hB2⟩
  case round =>
    obtain ⟨j, hj, rfl, hO, hB⟩ := hrel
    by_cases hlt : j < n
    · obtain ⟨a, b', off, es, hl2, rfl, hb, hes, hR⟩ := rowR_at (K := 2) hl hlt rfl
      have HA := Lib.hid hl2
      obtain ⟨⟨q1, q2⟩, HS⟩ := (⟨H8.out a (alMem hl2), Lib.hid (cntF_sn f hl2)⟩ : (0 ≤ f a ∧ f a < 8) ∧ Hid _)
      clear hl2
      have hRk := hR
      obtain ⟨A2, n2, c2, rfl, -, -, -, -, -⟩ := openMail hR
      have e0 : wr.cell? ⟨b', off + j * 2, none⟩ = some (.int .i64 a.1) := cell_at hB hb (hes 0 (by omega))
      have e1 : wr.cell? ⟨b', off + j * 2 + 1, none⟩ = some (.slice A2 n2 c2) := cell_at hB hb (hes 1 (by omega))
      clear hes hR
      obtain ⟨k, hk⟩ : ∃ k : Nat, f a = k := ⟨(f a).toNat, by omega⟩
      rw [hk] at HS q1 q2
      have HK := Lib.hid hk
      clear hk
      have hk8 : k < 8 := by omega
      have hlen : (l.take j).length = j := by rw [List.length_take, HL.out]; omega
      obtain ⟨C, hC⟩ : ∃ C, cntF f (l.take j) = C := ⟨_, rfl⟩
      have hCl : C.length = 8 := by rw [← hC]; exact cntF_len f _
      have hCr := cntF_le f (l.take j)
      rw [hlen] at hCr
      rw [hC] at hO hCr HS
      clear hC hlen
      obtain ⟨x, hx⟩ : ∃ x, C.getD k 0 = x := ⟨_, rfl⟩
      have hxr : 0 ≤ x ∧ x ≤ j := by
        have h1 := hCr (C.getD k 0) (by rw [List.getD_eq_getElem?_getD, List.getElem?_eq_getElem (by omega)]; exact List.getElem_mem _)
        rw [hx] at h1; exact h1
      have HEQ := Lib.hid (show cntF f (l.take (j + 1)) = C.set k (x + 1) by rw [HS.out, Int.toNat_natCast, hx])
      have HX := Lib.hid hx
      have HCL := Lib.hid hCl
      clear hCr hx hCl
      go_wp2_with fail
      rw [HE.out, Oper.upon_enter]
      refine (HF.out j a _ _ HA.out ?hB (tMail.reach hRk ?hB2)).mono ?_
      case hB => exact bel_trans (a := w) hB (belx)
      case hB2 => exact bel_trans (a := w) hB (belx)
      rintro e w1 ⟨rfl, hb1⟩
      rw [HK.out]
      have hs1 : Below wr.heap.size wr w1 := bel_trans (belx) hb1
      have hO2 := hO.below hs1
      have zw := hB.size
      have zz := hs1.size
      obtain ⟨g, c', ev, -, -, -, hgz, hcell, hfz⟩ := hO2.row (by rw [HCL.out]; omega)
      have eg : w.heap.size = g := by injection ev with ev; injection ev with ev; injection ev
      subst eg
      clear ev
      rw [HCL.out] at hcell
      have hck := hcell k hk8
      have hfk := hfz k
      rw [HX.out] at hck
      have hP := Own.put (c := 8) (l := C) (by rw [HCL.out]; exact hO2) k (x + 1) (WalkArith.wf_i64 ⟨by omega, by omega⟩)
      rw [HCL.out] at hP
      have i1 : IntKind.i64.wrap (x + 1) = x + 1 := IntWalk.i64_in _ (by omega)
      clear hcell hfz
      go_wp2
      go_roundw
      case rel => exact ⟨j + 1, by omega, by go_num, by rw [HEQ.out]; exact hP, bel_put (bel_trans hB hs1) (Nat.le_refl _) _⟩
      case measure => simp [intOf]; omega
    · obtain rfl : n = j := by omega
      have HA := Lib.hid (show l.take n = l from List.take_of_length_le (Nat.le_of_eq HL.out))
      rw [HA.out] at hO
      go_wp2
      go_ret
      exact ⟨rfl, hO, hB⟩
end Go.Proofs.YteokfenoomcogaaGreat
namespace Go.Proofs.YteokfenoomcogaaGreat
set_option maxRecDepth 100000
set_option linter.unusedVariables false
set_option linter.unusedSimpArgs false
open Go.ChangeShapes Go.WideShapes Go.ChangeAt Go.RowKit
set_option maxHeartbeats 400000 in
theorem i_evrySent {w : World} {n c : Nat} {A : Option Addr} {l : List DSent} (F : Nat) (p : DSent → Bool) (hE : ∀ (cs : Array Value) (w : World), Sem.run Tryz.prog (callFunc F #[Value.agg cs]) w = .ok (.enter F #[Value.agg cs]) w)
    (hF : ∀ (i : Nat) (a : DSent) (w' : World) (cs : List Value), l[i]? = some a → Below w.heap.size w w' → tSent.R w' w'.heap.size cs a → Calls Tryz.prog F #[.agg cs.toArray] w' fun e w2 => e = .returned (.bool (p a)) ∧ Below w'.heap.size w' w2)
    (hl : tSent.row.R w w.heap.size [.slice A n c] l) (hn : n ≤ 17592186043904) :
    Calls Tryz.prog 62 #[.slice A n c, .func (.func F) #[] #[]] w fun e w' => e = .returned (.bool (l.all p)) ∧ Below w.heap.size w w' := by
  obtain ⟨e0, _, _⟩ := rowR_len hl
  have HL := Lib.hid e0
  have HF := Lib.hid hF
  have HE := Lib.hid hE
  clear e0 hF hE
  go_enter Tryz.func62, Tryz.ntmps62
  go_wp2_with fail
  go_loopw [9] (fun i wr => ∃ j : Nat, j ≤ n ∧ i = .int .i64 j ∧ Below w.heap.size w wr ∧ ∀ h ∈ l.take j, p h = true) (fun i _ => n - (intOf i).toNat)
  case atStart => exact ⟨0, by omega, rfl, (belx), al0⟩
  case round =>
    obtain ⟨j, hj, rfl, hB, hG⟩ := hrel
    have HG := Lib.hid hG
    clear hG
    by_cases hlt : j < n
    · obtain ⟨a, b', off, es, hl2, rfl, hb, hes, hR⟩ := rowR_at (K := 3) hl hlt rfl
      have HA := Lib.hid hl2
      clear hl2
      have hRk := hR
      obtain ⟨A2, n2, c2, rfl, -, -, -, -, -, -⟩ := openSent hR
      have e0 : wr.cell? ⟨b', off + j * 3, none⟩ = some (.int .i64 a.1) := cell_at hB hb (hes 0 (by omega))
      have e1 : wr.cell? ⟨b', off + j * 3 + 1, none⟩ = some (.int .i64 a.2.1) := cell_at hB hb (hes 1 (by omega))
      have e2 : wr.cell? ⟨b', off + j * 3 + 2, none⟩ = some (.slice A2 n2 c2) := cell_at hB hb (hes 2 (by omega))
      clear hes
      go_wp2_with fail
      rw [HE.out, Oper.upon_enter]
      refine (HF.out j a _ _ HA.out ?hB (tSent.reach hRk ?hB2)).mono ?_
      case hB => exact bel_trans (a := w) hB (belx)
      case hB2 => exact bel_trans (a := w) hB (belx)
      rintro e w1 ⟨rfl, hb1⟩
      have hB1 : Below w.heap.size w w1 := bel_trans (bel_trans (a := w) hB (belx)) hb1
      obtain ⟨d, hd⟩ : ∃ d, p a = d := ⟨_, rfl⟩
      rw [hd]
      have HD := Lib.hid hd
      clear hd
      cases d
      · have HR := Lib.hid (alF HA.out HD.out)
        go_wp2
        go_ret
        exact ⟨ret_bool HR.out.symm, hB1⟩
      · go_wp2
        go_roundw
        case rel => exact ⟨j + 1, by omega, by go_num, hB1, alS HG.out HA.out HD.out⟩
        case measure => simp [intOf]; omega
    · obtain rfl : n = j := by omega
      have HR := Lib.hid (alT HG.out (Nat.le_of_eq HL.out))
      go_wp2
      go_ret
      exact ⟨ret_bool HR.out.symm, hB⟩
set_option maxHeartbeats 1000000 in
theorem i_eachSentI {w : World} {n c : Nat} {A : Option Addr} {l : List DSent} (F : Nat) (f : DSent → Int) (hE : ∀ (cs : Array Value) (w : World), Sem.run Tryz.prog (callFunc F #[Value.agg cs]) w = .ok (.enter F #[Value.agg cs]) w)
    (hF : ∀ (i : Nat) (a : DSent) (w' : World) (cs : List Value), l[i]? = some a → Below w.heap.size w w' → tSent.R w' w'.heap.size cs a → Calls Tryz.prog F #[.agg cs.toArray] w' fun e w2 => e = .returned (.int .i64 (f a)) ∧ Below w'.heap.size w' w2)
    (hW : ∀ a ∈ l, (Lit.int .i64 (f a)).wf = true) (hl : tSent.row.R w w.heap.size [.slice A n c] l) (hn : n ≤ 1048576) :
    Calls Tryz.prog 117 #[.slice A n c, .func (.func F) #[] #[]] w fun e w' => ∃ v, e = .returned v ∧ Own .i64 3 w' w.heap.size v (l.map f) ∧ Below w.heap.size w w' := by
  obtain ⟨i0, hi0, hz0, hz1, hz2⟩ := info_parts info_ci
  obtain ⟨e0, _, _⟩ := rowR_len hl
  have HL := Lib.hid e0
  have HF := Lib.hid hF
  have HE := Lib.hid hE
  have HW := Lib.hid hW
  clear e0 hF hE hW
  go_enter Tryz.func117, Tryz.ntmps117
  go_wp2_with fail
  go_loopw [5, 10] (fun v i wr => ∃ j : Nat, j ≤ n ∧ i = .int .i64 j ∧ Own .i64 3 wr w.heap.size v ((l.take j).map f) ∧ Below w.heap.size w wr) (fun _ i _ => n - (intOf i).toNat)
  case atStart => exact ⟨0, by omega, rfl, Own.nil _ _ _ _, (belx)⟩
  case round =>
    obtain ⟨j, hj, rfl, hO, hB⟩ := hrel
    by_cases hlt : j < n
    · obtain ⟨a, b', off, es, hl2, rfl, hb, hes, hR⟩ := rowR_at (K := 3) hl hlt rfl
      have HA := Lib.hid hl2
      have HS := Lib.hid (mapS (f := f) hl2)
      have HLN := Lib.hid (mapLen (f := f) (l := l) (j := j) (by rw [HL.out]; exact hj))
      have HI := Lib.hid (HW.out a (alMem hl2))
      clear hl2
      have hRk := hR
      obtain ⟨A2, n2, c2, rfl, -, -, -, -, -, -⟩ := openSent hR
      have e0 : wr.cell? ⟨b', off + j * 3, none⟩ = some (.int .i64 a.1) := cell_at hB hb (hes 0 (by omega))
      have e1 : wr.cell? ⟨b', off + j * 3 + 1, none⟩ = some (.int .i64 a.2.1) := cell_at hB hb (hes 1 (by omega))
      have e2 : wr.cell? ⟨b', off + j * 3 + 2, none⟩ = some (.slice A2 n2 c2) := cell_at hB hb (hes 2 (by omega))
      clear hes hR
      go_wp2_with fail
      rw [HE.out, Oper.upon_enter]
      refine (HF.out j a _ _ HA.out ?hB (tSent.reach hRk ?hB2)).mono ?_
      case hB => exact bel_trans (a := w) hB (belx)
      case hB2 => exact bel_trans (a := w) hB (belx)
      rintro e w1 ⟨rfl, hb1⟩
      obtain ⟨y, hy⟩ : ∃ y, f a = y := ⟨_, rfl⟩
      rw [hy] at HS HI
      rw [hy]
      clear hy
      have hs1 : Below wr.heap.size wr w1 := bel_trans (belx) hb1
      have hO2 := hO.below hs1
      have zz := hs1.size
      have zw := hB.size
      have hlen2 := HLN.out
      go_wp2_with (at_builtin; refine wpList_app _ rfl (.tmp 14) (.tmp 18) _ rfl w.heap.size 3 i0 _ 1 8 Tryz.underlying41 hi0 hz0 hz1 hz2 rfl (by omega) _ _ _ rfl (hO2.1.alloc _) _ 1 1 [.int .i64 y] rfl (Src.one _ _ _) (one_int _ _) (by simp only [maxLen]; omega) (by omega) (by simp; omega) ?_; intro v1 w3 hown hgr hat)
      go_roundw
      case rel => exact ⟨j + 1, by omega, by go_num, own_sn hO2 hown HS.out HI.out, below_sn (hB.trans (hs1.mono hB.size)) hO2 (Nat.le_refl _) hgr⟩
      case measure => simp [intOf]; omega
    · obtain rfl : n = j := by omega
      have HA := Lib.hid (show l.take n = l from List.take_of_length_le (Nat.le_of_eq HL.out))
      rw [HA.out] at hO
      go_wp2
      go_ret
      exact ⟨_, rfl, hO, hB⟩
end Go.Proofs.YteokfenoomcogaaGreat
namespace Go.Proofs.YteokfenoomcogaaGreat
set_option maxRecDepth 100000
set_option linter.unusedVariables false
set_option linter.unusedSimpArgs false
open Go.ChangeShapes Go.WideShapes Go.ChangeAt Go.RowKit
set_option maxHeartbeats 400000 in
theorem i_evryLetter {w : World} {n c : Nat} {A : Option Addr} {l : List DLetter} (F : Nat) (p : DLetter → Bool) (hE : ∀ (cs : Array Value) (w : World), Sem.run Tryz.prog (callFunc F #[Value.agg cs]) w = .ok (.enter F #[Value.agg cs]) w)
    (hF : ∀ (i : Nat) (a : DLetter) (w' : World) (cs : List Value), l[i]? = some a → Below w.heap.size w w' → tLetter.R w' w'.heap.size cs a → Calls Tryz.prog F #[.agg cs.toArray] w' fun e w2 => e = .returned (.bool (p a)) ∧ Below w'.heap.size w' w2)
    (hl : tLetter.row.R w w.heap.size [.slice A n c] l) (hn : n ≤ 17592186043904) :
    Calls Tryz.prog 156 #[.slice A n c, .func (.func F) #[] #[]] w fun e w' => e = .returned (.bool (l.all p)) ∧ Below w.heap.size w w' := by
  obtain ⟨e0, _, _⟩ := rowR_len hl
  have HL := Lib.hid e0
  have HF := Lib.hid hF
  have HE := Lib.hid hE
  clear e0 hF hE
  go_enter Tryz.func156, Tryz.ntmps156
  go_wp2_with fail
  go_loopw [9] (fun i wr => ∃ j : Nat, j ≤ n ∧ i = .int .i64 j ∧ Below w.heap.size w wr ∧ ∀ h ∈ l.take j, p h = true) (fun i _ => n - (intOf i).toNat)
  case atStart => exact ⟨0, by omega, rfl, (belx), al0⟩
  case round =>
    obtain ⟨j, hj, rfl, hB, hG⟩ := hrel
    have HG := Lib.hid hG
    clear hG
    by_cases hlt : j < n
    · obtain ⟨a, b', off, es, hl2, rfl, hb, hes, hR⟩ := rowR_at (K := 2) hl hlt rfl
      have HA := Lib.hid hl2
      clear hl2
      have hRk := hR
      obtain ⟨A2, n2, c2, rfl, -, -, -, -, -⟩ := openLetter hR
      have e0 : wr.cell? ⟨b', off + j * 2, none⟩ = some (.int .i64 a.1) := cell_at hB hb (hes 0 (by omega))
      have e1 : wr.cell? ⟨b', off + j * 2 + 1, none⟩ = some (.slice A2 n2 c2) := cell_at hB hb (hes 1 (by omega))
      clear hes
      go_wp2_with fail
      rw [HE.out, Oper.upon_enter]
      refine (HF.out j a _ _ HA.out ?hB (tLetter.reach hRk ?hB2)).mono ?_
      case hB => exact bel_trans (a := w) hB (belx)
      case hB2 => exact bel_trans (a := w) hB (belx)
      rintro e w1 ⟨rfl, hb1⟩
      have hB1 : Below w.heap.size w w1 := bel_trans (bel_trans (a := w) hB (belx)) hb1
      obtain ⟨d, hd⟩ : ∃ d, p a = d := ⟨_, rfl⟩
      rw [hd]
      have HD := Lib.hid hd
      clear hd
      cases d
      · have HR := Lib.hid (alF HA.out HD.out)
        go_wp2
        go_ret
        exact ⟨ret_bool HR.out.symm, hB1⟩
      · go_wp2
        go_roundw
        case rel => exact ⟨j + 1, by omega, by go_num, hB1, alS HG.out HA.out HD.out⟩
        case measure => simp [intOf]; omega
    · obtain rfl : n = j := by omega
      have HR := Lib.hid (alT HG.out (Nat.le_of_eq HL.out))
      go_wp2
      go_ret
      exact ⟨ret_bool HR.out.symm, hB⟩
set_option maxHeartbeats 1000000 in
theorem i_eachLetterI {w : World} {n c : Nat} {A : Option Addr} {l : List DLetter} (F : Nat) (f : DLetter → Int) (hE : ∀ (cs : Array Value) (w : World), Sem.run Tryz.prog (callFunc F #[Value.agg cs]) w = .ok (.enter F #[Value.agg cs]) w)
    (hF : ∀ (i : Nat) (a : DLetter) (w' : World) (cs : List Value), l[i]? = some a → Below w.heap.size w w' → tLetter.R w' w'.heap.size cs a → Calls Tryz.prog F #[.agg cs.toArray] w' fun e w2 => e = .returned (.int .i64 (f a)) ∧ Below w'.heap.size w' w2)
    (hW : ∀ a ∈ l, (Lit.int .i64 (f a)).wf = true) (hl : tLetter.row.R w w.heap.size [.slice A n c] l) (hn : n ≤ 1048576) :
    Calls Tryz.prog 199 #[.slice A n c, .func (.func F) #[] #[]] w fun e w' => ∃ v, e = .returned v ∧ Own .i64 3 w' w.heap.size v (l.map f) ∧ Below w.heap.size w w' := by
  obtain ⟨i0, hi0, hz0, hz1, hz2⟩ := info_parts info_ci
  obtain ⟨e0, _, _⟩ := rowR_len hl
  have HL := Lib.hid e0
  have HF := Lib.hid hF
  have HE := Lib.hid hE
  have HW := Lib.hid hW
  clear e0 hF hE hW
  go_enter Tryz.func199, Tryz.ntmps199
  go_wp2_with fail
  go_loopw [5, 10] (fun v i wr => ∃ j : Nat, j ≤ n ∧ i = .int .i64 j ∧ Own .i64 3 wr w.heap.size v ((l.take j).map f) ∧ Below w.heap.size w wr) (fun _ i _ => n - (intOf i).toNat)
  case atStart => exact ⟨0, by omega, rfl, Own.nil _ _ _ _, (belx)⟩
  case round =>
    obtain ⟨j, hj, rfl, hO, hB⟩ := hrel
    by_cases hlt : j < n
    · obtain ⟨a, b', off, es, hl2, rfl, hb, hes, hR⟩ := rowR_at (K := 2) hl hlt rfl
      have HA := Lib.hid hl2
      have HS := Lib.hid (mapS (f := f) hl2)
      have HLN := Lib.hid (mapLen (f := f) (l := l) (j := j) (by rw [HL.out]; exact hj))
      have HI := Lib.hid (HW.out a (alMem hl2))
      clear hl2
      have hRk := hR
      obtain ⟨A2, n2, c2, rfl, -, -, -, -, -⟩ := openLetter hR
      have e0 : wr.cell? ⟨b', off + j * 2, none⟩ = some (.int .i64 a.1) := cell_at hB hb (hes 0 (by omega))
      have e1 : wr.cell? ⟨b', off + j * 2 + 1, none⟩ = some (.slice A2 n2 c2) := cell_at hB hb (hes 1 (by omega))
      clear hes hR
      go_wp2_with fail
      rw [HE.out, Oper.upon_enter]
      refine (HF.out j a _ _ HA.out ?hB (tLetter.reach hRk ?hB2)).mono ?_
      case hB => exact bel_trans (a := w) hB (belx)
      case hB2 => exact bel_trans (a := w) hB (belx)
      rintro e w1 ⟨rfl, hb1⟩
      obtain ⟨y, hy⟩ : ∃ y, f a = y := ⟨_, rfl⟩
      rw [hy] at HS HI
      rw [hy]
      clear hy
      have hs1 : Below wr.heap.size wr w1 := bel_trans (belx) hb1
      have hO2 := hO.below hs1
      have zz := hs1.size
      have zw := hB.size
      have hlen2 := HLN.out
      go_wp2_with (at_builtin; refine wpList_app _ rfl (.tmp 14) (.tmp 18) _ rfl w.heap.size 3 i0 _ 1 8 Tryz.underlying41 hi0 hz0 hz1 hz2 rfl (by omega) _ _ _ rfl (hO2.1.alloc _) _ 1 1 [.int .i64 y] rfl (Src.one _ _ _) (one_int _ _) (by simp only [maxLen]; omega) (by omega) (by simp; omega) ?_; intro v1 w3 hown hgr hat)
      go_roundw
      case rel => exact ⟨j + 1, by omega, by go_num, own_sn hO2 hown HS.out HI.out, below_sn (hB.trans (hs1.mono hB.size)) hO2 (Nat.le_refl _) hgr⟩
      case measure => simp [intOf]; omega
    · obtain rfl : n = j := by omega
      have HA := Lib.hid (show l.take n = l from List.take_of_length_le (Nat.le_of_eq HL.out))
      rw [HA.out] at hO
      go_wp2
      go_ret
      exact ⟨_, rfl, hO, hB⟩
end Go.Proofs.YteokfenoomcogaaGreat
namespace Go.Proofs.YteokfenoomcogaaGreat
open Go.RowKit
theorem own_slice {K : IntKind} {e : TypeId} {w : World} {base : Nat} {v : Value} {l : List Int} (h : Own K e w base v l) : ∃ A c F, v = .slice A l.length c ∧ (tSl K).O w [.slice A l.length c] l F ∧ New base F := by
  obtain ⟨F, hF, hN⟩ := h.tSl
  obtain ⟨A, c, e1, _, _⟩ := slO_one hF
  injection e1 with e1 _
  subst e1
  exact ⟨A, c, F, rfl, hF, hN⟩
theorem nilR {K : IntKind} {w : World} {B : Nat} : (tSl K).R w B [.slice none 0 0] [] := ⟨none, 0, 0, rfl, Nat.le_refl _, by omega, Ints.nil⟩
theorem nilO {K : IntKind} {w : World} : (tSl K).O w [.slice none 0 0] [] [] := .inl ⟨none, 0, rfl, by omega, rfl, rfl⟩
end Go.Proofs.YteokfenoomcogaaGreat
namespace Go.Proofs.YteokfenoomcogaaGreat
set_option maxRecDepth 100000
set_option linter.unusedVariables false
set_option linter.unusedSimpArgs false
open Go.ChangeShapes Go.WideShapes Go.ChangeAt Go.RowKit
set_option maxHeartbeats 400000 in
theorem i_evryPieceV {w : World} {n c : Nat} {A : Option Addr} {l : List DPiece} (F : Nat) (V : Value) (p : DPiece → Bool) (hE : ∀ (cs : Array Value) (w : World), Sem.run Tryz.prog (callFunc F #[Value.agg cs, V]) w = .ok (.enter F #[Value.agg cs, V]) w)
    (hF : ∀ (i : Nat) (a : DPiece) (w' : World) (cs : List Value), l[i]? = some a → Below w.heap.size w w' → tPiece.R w' w'.heap.size cs a → Calls Tryz.prog F #[.agg cs.toArray, V] w' fun e w2 => e = .returned (.bool (p a)) ∧ Below w'.heap.size w' w2)
    (hl : tPiece.row.R w w.heap.size [.slice A n c] l) (hn : n ≤ 17592186043904) :
    Calls Tryz.prog 217 #[.slice A n c, .func (.func F) #[] #[V]] w fun e w' => e = .returned (.bool (l.all p)) ∧ Below w.heap.size w w' := by
  obtain ⟨e0, _, _⟩ := rowR_len hl
  have HL := Lib.hid e0
  have HF := Lib.hid hF
  have HE := Lib.hid hE
  clear e0 hF hE
  go_enter Tryz.func217, Tryz.ntmps217
  go_wp2_with fail
  go_loopw [9] (fun i wr => ∃ j : Nat, j ≤ n ∧ i = .int .i64 j ∧ Below w.heap.size w wr ∧ ∀ h ∈ l.take j, p h = true) (fun i _ => n - (intOf i).toNat)
  case atStart => exact ⟨0, by omega, rfl, (belx), al0⟩
  case round =>
    obtain ⟨j, hj, rfl, hB, hG⟩ := hrel
    have HG := Lib.hid hG
    clear hG
    by_cases hlt : j < n
    · obtain ⟨a, b', off, es, hl2, rfl, hb, hes, hR⟩ := rowR_at (K := 4) hl hlt rfl
      have HA := Lib.hid hl2
      clear hl2
      have hRk := hR
      obtain ⟨A2, n2, c2, rfl, -, -, -, -, -, -, -⟩ := openPiece hR
      have e0 : wr.cell? ⟨b', off + j * 4, none⟩ = some (.int .i64 a.1) := cell_at hB hb (hes 0 (by omega))
      have e1 : wr.cell? ⟨b', off + j * 4 + 1, none⟩ = some (.int .i64 a.2.1) := cell_at hB hb (hes 1 (by omega))
      have e2 : wr.cell? ⟨b', off + j * 4 + 2, none⟩ = some (.int .i64 a.2.2.1) := cell_at hB hb (hes 2 (by omega))
      have e3 : wr.cell? ⟨b', off + j * 4 + 3, none⟩ = some (.slice A2 n2 c2) := cell_at hB hb (hes 3 (by omega))
      clear hes
      go_wp2_with fail
      rw [HE.out, Oper.upon_enter]
      refine (HF.out j a _ _ HA.out ?hB (tPiece.reach hRk ?hB2)).mono ?_
      case hB => exact bel_trans (a := w) hB (belx)
      case hB2 => exact bel_trans (a := w) hB (belx)
      rintro e w1 ⟨rfl, hb1⟩
      have hB1 : Below w.heap.size w w1 := bel_trans (bel_trans (a := w) hB (belx)) hb1
      obtain ⟨d, hd⟩ : ∃ d, p a = d := ⟨_, rfl⟩
      rw [hd]
      have HD := Lib.hid hd
      clear hd
      cases d
      · have HR := Lib.hid (alF HA.out HD.out)
        go_wp2
        go_ret
        exact ⟨ret_bool HR.out.symm, hB1⟩
      · go_wp2
        go_roundw
        case rel => exact ⟨j + 1, by omega, by go_num, hB1, alS HG.out HA.out HD.out⟩
        case measure => simp [intOf]; omega
    · obtain rfl : n = j := by omega
      have HR := Lib.hid (alT HG.out (Nat.le_of_eq HL.out))
      go_wp2
      go_ret
      exact ⟨ret_bool HR.out.symm, hB⟩
set_option maxHeartbeats 1000000 in
theorem i_eachPieceI {w : World} {n c : Nat} {A : Option Addr} {l : List DPiece} (F : Nat) (f : DPiece → Int) (hE : ∀ (cs : Array Value) (w : World), Sem.run Tryz.prog (callFunc F #[Value.agg cs]) w = .ok (.enter F #[Value.agg cs]) w)
    (hF : ∀ (i : Nat) (a : DPiece) (w' : World) (cs : List Value), l[i]? = some a → Below w.heap.size w w' → tPiece.R w' w'.heap.size cs a → Calls Tryz.prog F #[.agg cs.toArray] w' fun e w2 => e = .returned (.int .i64 (f a)) ∧ Below w'.heap.size w' w2)
    (hW : ∀ a ∈ l, (Lit.int .i64 (f a)).wf = true) (hl : tPiece.row.R w w.heap.size [.slice A n c] l) (hn : n ≤ 1048576) :
    Calls Tryz.prog 220 #[.slice A n c, .func (.func F) #[] #[]] w fun e w' => ∃ v, e = .returned v ∧ Own .i64 3 w' w.heap.size v (l.map f) ∧ Below w.heap.size w w' := by
  obtain ⟨i0, hi0, hz0, hz1, hz2⟩ := info_parts info_ci
  obtain ⟨e0, _, _⟩ := rowR_len hl
  have HL := Lib.hid e0
  have HF := Lib.hid hF
  have HE := Lib.hid hE
  have HW := Lib.hid hW
  clear e0 hF hE hW
  go_enter Tryz.func220, Tryz.ntmps220
  go_wp2_with fail
  go_loopw [5, 10] (fun v i wr => ∃ j : Nat, j ≤ n ∧ i = .int .i64 j ∧ Own .i64 3 wr w.heap.size v ((l.take j).map f) ∧ Below w.heap.size w wr) (fun _ i _ => n - (intOf i).toNat)
  case atStart => exact ⟨0, by omega, rfl, Own.nil _ _ _ _, (belx)⟩
  case round =>
    obtain ⟨j, hj, rfl, hO, hB⟩ := hrel
    by_cases hlt : j < n
    · obtain ⟨a, b', off, es, hl2, rfl, hb, hes, hR⟩ := rowR_at (K := 4) hl hlt rfl
      have HA := Lib.hid hl2
      have HS := Lib.hid (mapS (f := f) hl2)
      have HLN := Lib.hid (mapLen (f := f) (l := l) (j := j) (by rw [HL.out]; exact hj))
      have HI := Lib.hid (HW.out a (alMem hl2))
      clear hl2
      have hRk := hR
      obtain ⟨A2, n2, c2, rfl, -, -, -, -, -, -, -⟩ := openPiece hR
      have e0 : wr.cell? ⟨b', off + j * 4, none⟩ = some (.int .i64 a.1) := cell_at hB hb (hes 0 (by omega))
      have e1 : wr.cell? ⟨b', off + j * 4 + 1, none⟩ = some (.int .i64 a.2.1) := cell_at hB hb (hes 1 (by omega))
      have e2 : wr.cell? ⟨b', off + j * 4 + 2, none⟩ = some (.int .i64 a.2.2.1) := cell_at hB hb (hes 2 (by omega))
      have e3 : wr.cell? ⟨b', off + j * 4 + 3, none⟩ = some (.slice A2 n2 c2) := cell_at hB hb (hes 3 (by omega))
      clear hes hR
      go_wp2_with fail
      rw [HE.out, Oper.upon_enter]
      refine (HF.out j a _ _ HA.out ?hB (tPiece.reach hRk ?hB2)).mono ?_
      case hB => exact bel_trans (a := w) hB (belx)
      case hB2 => exact bel_trans (a := w) hB (belx)
      rintro e w1 ⟨rfl, hb1⟩
      obtain ⟨y, hy⟩ : ∃ y, f a = y := ⟨_, rfl⟩
      rw [hy] at HS HI
      rw [hy]
      clear hy
      have hs1 : Below wr.heap.size wr w1 := bel_trans (belx) hb1
      have hO2 := hO.below hs1
      have zz := hs1.size
      have zw := hB.size
      have hlen2 := HLN.out
      go_wp2_with (at_builtin; refine wpList_app _ rfl (.tmp 14) (.tmp 18) _ rfl w.heap.size 3 i0 _ 1 8 Tryz.underlying41 hi0 hz0 hz1 hz2 rfl (by omega) _ _ _ rfl (hO2.1.alloc _) _ 1 1 [.int .i64 y] rfl (Src.one _ _ _) (one_int _ _) (by simp only [maxLen]; omega) (by omega) (by simp; omega) ?_; intro v1 w3 hown hgr hat)
      go_roundw
      case rel => exact ⟨j + 1, by omega, by go_num, own_sn hO2 hown HS.out HI.out, below_sn (hB.trans (hs1.mono hB.size)) hO2 (Nat.le_refl _) hgr⟩
      case measure => simp [intOf]; omega
    · obtain rfl : n = j := by omega
      have HA := Lib.hid (show l.take n = l from List.take_of_length_le (Nat.le_of_eq HL.out))
      rw [HA.out] at hO
      go_wp2
      go_ret
      exact ⟨_, rfl, hO, hB⟩
end Go.Proofs.YteokfenoomcogaaGreat
namespace Go.Proofs.YteokfenoomcogaaGreat
set_option maxRecDepth 100000
set_option linter.unusedVariables false
set_option linter.unusedSimpArgs false
open Go.ChangeShapes Go.WideShapes Go.ChangeAt Go.RowKit
set_option maxHeartbeats 400000 in
theorem i_evryWholeV {w : World} {n c : Nat} {A : Option Addr} {l : List DWhole} (F : Nat) (V : Value) (p : DWhole → Bool) (hE : ∀ (cs : Array Value) (w : World), Sem.run Tryz.prog (callFunc F #[Value.agg cs, V]) w = .ok (.enter F #[Value.agg cs, V]) w)
    (hF : ∀ (i : Nat) (a : DWhole) (w' : World) (cs : List Value), l[i]? = some a → Below w.heap.size w w' → tWhole.R w' w'.heap.size cs a → Calls Tryz.prog F #[.agg cs.toArray, V] w' fun e w2 => e = .returned (.bool (p a)) ∧ Below w'.heap.size w' w2)
    (hl : tWhole.row.R w w.heap.size [.slice A n c] l) (hn : n ≤ 17592186043904) :
    Calls Tryz.prog 193 #[.slice A n c, .func (.func F) #[] #[V]] w fun e w' => e = .returned (.bool (l.all p)) ∧ Below w.heap.size w w' := by
  obtain ⟨e0, _, _⟩ := rowR_len hl
  have HL := Lib.hid e0
  have HF := Lib.hid hF
  have HE := Lib.hid hE
  clear e0 hF hE
  go_enter Tryz.func193, Tryz.ntmps193
  go_wp2_with fail
  go_loopw [9] (fun i wr => ∃ j : Nat, j ≤ n ∧ i = .int .i64 j ∧ Below w.heap.size w wr ∧ ∀ h ∈ l.take j, p h = true) (fun i _ => n - (intOf i).toNat)
  case atStart => exact ⟨0, by omega, rfl, (belx), al0⟩
  case round =>
    obtain ⟨j, hj, rfl, hB, hG⟩ := hrel
    have HG := Lib.hid hG
    clear hG
    by_cases hlt : j < n
    · obtain ⟨a, b', off, es, hl2, rfl, hb, hes, hR⟩ := rowR_at (K := 4) hl hlt rfl
      have HA := Lib.hid hl2
      clear hl2
      have hRk := hR
      obtain ⟨A2, n2, c2, rfl, -, -, -, -, -, -, -⟩ := openWhole hR
      have e0 : wr.cell? ⟨b', off + j * 4, none⟩ = some (.int .i64 a.1) := cell_at hB hb (hes 0 (by omega))
      have e1 : wr.cell? ⟨b', off + j * 4 + 1, none⟩ = some (.int .i64 a.2.1) := cell_at hB hb (hes 1 (by omega))
      have e2 : wr.cell? ⟨b', off + j * 4 + 2, none⟩ = some (.int .i64 a.2.2.1) := cell_at hB hb (hes 2 (by omega))
      have e3 : wr.cell? ⟨b', off + j * 4 + 3, none⟩ = some (.slice A2 n2 c2) := cell_at hB hb (hes 3 (by omega))
      clear hes
      go_wp2_with fail
      rw [HE.out, Oper.upon_enter]
      refine (HF.out j a _ _ HA.out ?hB (tWhole.reach hRk ?hB2)).mono ?_
      case hB => exact bel_trans (a := w) hB (belx)
      case hB2 => exact bel_trans (a := w) hB (belx)
      rintro e w1 ⟨rfl, hb1⟩
      have hB1 : Below w.heap.size w w1 := bel_trans (bel_trans (a := w) hB (belx)) hb1
      obtain ⟨d, hd⟩ : ∃ d, p a = d := ⟨_, rfl⟩
      rw [hd]
      have HD := Lib.hid hd
      clear hd
      cases d
      · have HR := Lib.hid (alF HA.out HD.out)
        go_wp2
        go_ret
        exact ⟨ret_bool HR.out.symm, hB1⟩
      · go_wp2
        go_roundw
        case rel => exact ⟨j + 1, by omega, by go_num, hB1, alS HG.out HA.out HD.out⟩
        case measure => simp [intOf]; omega
    · obtain rfl : n = j := by omega
      have HR := Lib.hid (alT HG.out (Nat.le_of_eq HL.out))
      go_wp2
      go_ret
      exact ⟨ret_bool HR.out.symm, hB⟩
set_option maxHeartbeats 1000000 in
theorem i_eachWholeI {w : World} {n c : Nat} {A : Option Addr} {l : List DWhole} (F : Nat) (f : DWhole → Int) (hE : ∀ (cs : Array Value) (w : World), Sem.run Tryz.prog (callFunc F #[Value.agg cs]) w = .ok (.enter F #[Value.agg cs]) w)
    (hF : ∀ (i : Nat) (a : DWhole) (w' : World) (cs : List Value), l[i]? = some a → Below w.heap.size w w' → tWhole.R w' w'.heap.size cs a → Calls Tryz.prog F #[.agg cs.toArray] w' fun e w2 => e = .returned (.int .i64 (f a)) ∧ Below w'.heap.size w' w2)
    (hW : ∀ a ∈ l, (Lit.int .i64 (f a)).wf = true) (hl : tWhole.row.R w w.heap.size [.slice A n c] l) (hn : n ≤ 1048576) :
    Calls Tryz.prog 191 #[.slice A n c, .func (.func F) #[] #[]] w fun e w' => ∃ v, e = .returned v ∧ Own .i64 3 w' w.heap.size v (l.map f) ∧ Below w.heap.size w w' := by
  obtain ⟨i0, hi0, hz0, hz1, hz2⟩ := info_parts info_ci
  obtain ⟨e0, _, _⟩ := rowR_len hl
  have HL := Lib.hid e0
  have HF := Lib.hid hF
  have HE := Lib.hid hE
  have HW := Lib.hid hW
  clear e0 hF hE hW
  go_enter Tryz.func191, Tryz.ntmps191
  go_wp2_with fail
  go_loopw [5, 10] (fun v i wr => ∃ j : Nat, j ≤ n ∧ i = .int .i64 j ∧ Own .i64 3 wr w.heap.size v ((l.take j).map f) ∧ Below w.heap.size w wr) (fun _ i _ => n - (intOf i).toNat)
  case atStart => exact ⟨0, by omega, rfl, Own.nil _ _ _ _, (belx)⟩
  case round =>
    obtain ⟨j, hj, rfl, hO, hB⟩ := hrel
    by_cases hlt : j < n
    · obtain ⟨a, b', off, es, hl2, rfl, hb, hes, hR⟩ := rowR_at (K := 4) hl hlt rfl
      have HA := Lib.hid hl2
      have HS := Lib.hid (mapS (f := f) hl2)
      have HLN := Lib.hid (mapLen (f := f) (l := l) (j := j) (by rw [HL.out]; exact hj))
      have HI := Lib.hid (HW.out a (alMem hl2))
      clear hl2
      have hRk := hR
      obtain ⟨A2, n2, c2, rfl, -, -, -, -, -, -, -⟩ := openWhole hR
      have e0 : wr.cell? ⟨b', off + j * 4, none⟩ = some (.int .i64 a.1) := cell_at hB hb (hes 0 (by omega))
      have e1 : wr.cell? ⟨b', off + j * 4 + 1, none⟩ = some (.int .i64 a.2.1) := cell_at hB hb (hes 1 (by omega))
      have e2 : wr.cell? ⟨b', off + j * 4 + 2, none⟩ = some (.int .i64 a.2.2.1) := cell_at hB hb (hes 2 (by omega))
      have e3 : wr.cell? ⟨b', off + j * 4 + 3, none⟩ = some (.slice A2 n2 c2) := cell_at hB hb (hes 3 (by omega))
      clear hes hR
      go_wp2_with fail
      rw [HE.out, Oper.upon_enter]
      refine (HF.out j a _ _ HA.out ?hB (tWhole.reach hRk ?hB2)).mono ?_
      case hB => exact bel_trans (a := w) hB (belx)
      case hB2 => exact bel_trans (a := w) hB (belx)
      rintro e w1 ⟨rfl, hb1⟩
      obtain ⟨y, hy⟩ : ∃ y, f a = y := ⟨_, rfl⟩
      rw [hy] at HS HI
      rw [hy]
      clear hy
      have hs1 : Below wr.heap.size wr w1 := bel_trans (belx) hb1
      have hO2 := hO.below hs1
      have zz := hs1.size
      have zw := hB.size
      have hlen2 := HLN.out
      go_wp2_with (at_builtin; refine wpList_app _ rfl (.tmp 14) (.tmp 18) _ rfl w.heap.size 3 i0 _ 1 8 Tryz.underlying41 hi0 hz0 hz1 hz2 rfl (by omega) _ _ _ rfl (hO2.1.alloc _) _ 1 1 [.int .i64 y] rfl (Src.one _ _ _) (one_int _ _) (by simp only [maxLen]; omega) (by omega) (by simp; omega) ?_; intro v1 w3 hown hgr hat)
      go_roundw
      case rel => exact ⟨j + 1, by omega, by go_num, own_sn hO2 hown HS.out HI.out, below_sn (hB.trans (hs1.mono hB.size)) hO2 (Nat.le_refl _) hgr⟩
      case measure => simp [intOf]; omega
    · obtain rfl : n = j := by omega
      have HA := Lib.hid (show l.take n = l from List.take_of_length_le (Nat.le_of_eq HL.out))
      rw [HA.out] at hO
      go_wp2
      go_ret
      exact ⟨_, rfl, hO, hB⟩
end Go.Proofs.YteokfenoomcogaaGreat
namespace Go.Proofs.YteokfenoomcogaaGreat
set_option maxRecDepth 100000
set_option linter.unusedVariables false
set_option linter.unusedSimpArgs false
open Go.ChangeShapes Go.WideShapes Go.ChangeAt Go.RowKit
set_option maxHeartbeats 400000 in
theorem i_evryNode {w : World} {n c : Nat} {A : Option Addr} {l : List DNode} (F : Nat) (p : DNode → Bool) (hE : ∀ (cs : Array Value) (w : World), Sem.run Tryz.prog (callFunc F #[Value.agg cs]) w = .ok (.enter F #[Value.agg cs]) w)
    (hF : ∀ (i : Nat) (a : DNode) (w' : World) (cs : List Value), l[i]? = some a → Below w.heap.size w w' → tNode.R w' w'.heap.size cs a → Calls Tryz.prog F #[.agg cs.toArray] w' fun e w2 => e = .returned (.bool (p a)) ∧ Below w'.heap.size w' w2)
    (hl : tNode.row.R w w.heap.size [.slice A n c] l) (hn : n ≤ 17592186043904) :
    Calls Tryz.prog 78 #[.slice A n c, .func (.func F) #[] #[]] w fun e w' => e = .returned (.bool (l.all p)) ∧ Below w.heap.size w w' := by
  obtain ⟨e0, _, _⟩ := rowR_len hl
  have HL := Lib.hid e0
  have HF := Lib.hid hF
  have HE := Lib.hid hE
  clear e0 hF hE
  go_enter Tryz.func78, Tryz.ntmps78
  go_wp2_with fail
  go_loopw [9] (fun i wr => ∃ j : Nat, j ≤ n ∧ i = .int .i64 j ∧ Below w.heap.size w wr ∧ ∀ h ∈ l.take j, p h = true) (fun i _ => n - (intOf i).toNat)
  case atStart => exact ⟨0, by omega, rfl, (belx), al0⟩
  case round =>
    obtain ⟨j, hj, rfl, hB, hG⟩ := hrel
    have HG := Lib.hid hG
    clear hG
    by_cases hlt : j < n
    · obtain ⟨a, b', off, es, hl2, rfl, hb, hes, hR⟩ := rowR_at (K := 7) hl hlt rfl
      have HA := Lib.hid hl2
      clear hl2
      have hRk := hR
      obtain ⟨A2, n2, c2, A3, n3, c3, A4, n4, c4, A5, n5, c5, A6, n6, c6, rfl, -, -, -, -, -, -, -, -, -, -, -, -, -, -, -, -, -, -, -, -, -, -⟩ := openNode hR
      have e0 : wr.cell? ⟨b', off + j * 7, none⟩ = some (.int .i64 a.1) := cell_at hB hb (hes 0 (by omega))
      have e1 : wr.cell? ⟨b', off + j * 7 + 1, none⟩ = some (.int .i64 a.2.1) := cell_at hB hb (hes 1 (by omega))
      have e2 : wr.cell? ⟨b', off + j * 7 + 2, none⟩ = some (.slice A2 n2 c2) := cell_at hB hb (hes 2 (by omega))
      have e3 : wr.cell? ⟨b', off + j * 7 + 3, none⟩ = some (.slice A3 n3 c3) := cell_at hB hb (hes 3 (by omega))
      have e4 : wr.cell? ⟨b', off + j * 7 + 4, none⟩ = some (.slice A4 n4 c4) := cell_at hB hb (hes 4 (by omega))
      have e5 : wr.cell? ⟨b', off + j * 7 + 5, none⟩ = some (.slice A5 n5 c5) := cell_at hB hb (hes 5 (by omega))
      have e6 : wr.cell? ⟨b', off + j * 7 + 6, none⟩ = some (.slice A6 n6 c6) := cell_at hB hb (hes 6 (by omega))
      clear hes
      go_wp2_with fail
      rw [HE.out, Oper.upon_enter]
      refine (HF.out j a _ _ HA.out ?hB (tNode.reach hRk ?hB2)).mono ?_
      case hB => exact bel_trans (a := w) hB (belx)
      case hB2 => exact bel_trans (a := w) hB (belx)
      rintro e w1 ⟨rfl, hb1⟩
      have hB1 : Below w.heap.size w w1 := bel_trans (bel_trans (a := w) hB (belx)) hb1
      obtain ⟨d, hd⟩ : ∃ d, p a = d := ⟨_, rfl⟩
      rw [hd]
      have HD := Lib.hid hd
      clear hd
      cases d
      · have HR := Lib.hid (alF HA.out HD.out)
        go_wp2
        go_ret
        exact ⟨ret_bool HR.out.symm, hB1⟩
      · go_wp2
        go_roundw
        case rel => exact ⟨j + 1, by omega, by go_num, hB1, alS HG.out HA.out HD.out⟩
        case measure => simp [intOf]; omega
    · obtain rfl : n = j := by omega
      have HR := Lib.hid (alT HG.out (Nat.le_of_eq HL.out))
      go_wp2
      go_ret
      exact ⟨ret_bool HR.out.symm, hB⟩
end Go.Proofs.YteokfenoomcogaaGreat
namespace Go.Proofs.YteokfenoomcogaaGreat
set_option linter.unusedVariables false
open Go.RowKit
theorem flat_at {css : List (List Value)} {k : Nat} (h : ∀ es ∈ css, es.length = k) {i j : Nat} {es : List Value} (hi : css[i]? = some es) (hj : j < k) : css.flatten[i * k + j]? = es[j]? := by
  induction css generalizing i with
  | nil => simp at hi
  | cons c0 css ih =>
    have h0 := h c0 (by simp)
    rw [List.flatten_cons]
    cases i with
    | zero =>
      simp at hi
      subst hi
      rw [Nat.zero_mul, Nat.zero_add, List.getElem?_append_left (by omega)]
    | succ i =>
      simp at hi
      rw [Nat.succ_mul, List.getElem?_append_right (by omega), show i * k + k + j - c0.length = i * k + j by omega]
      exact ih (fun es hes => h es (by simp [hes])) hi
theorem flat_len {css : List (List Value)} {k : Nat} (h : ∀ es ∈ css, es.length = k) : css.flatten.length = css.length * k := by
  induction css with
  | nil => simp
  | cons c0 css ih =>
    rw [List.flatten_cons, List.length_append, h c0 (by simp), ih (fun es hes => h es (by simp [hes])), List.length_cons, Nat.succ_mul]; omega
section
variable {α : Type} {t : Ty α} {e : TypeId} {w w' : World} {base : Nat} {v : Value} {l : List α} {F : List Nat}
def GrowO (t : Ty α) (e : TypeId) (w : World) (base : Nat) (v : Value) (l : List α) (F : List Nat) : Prop :=
  (∃ (css : List (List Value)) (Fs : List (List Nat)), w.ownsRow base e t.k v l.length css.flatten ∧ css.length = l.length ∧ Fs.length = l.length ∧ F = Fs.flatten ∧
    ∀ (i : Nat) (a : α) (es : List Value) (Fi : List Nat), l[i]? = some a → css[i]? = some es → Fs[i]? = some Fi → t.O w es a Fi) ∧ New base F ∧ ∀ b, v.ownBlock = some b → b ∉ F
theorem GrowO.nil : GrowO t e w base (.slice none 0 0) [] [] :=
  ⟨⟨[], [], ⟨by simp, .inl ⟨rfl, rfl⟩⟩, rfl, rfl, rfl, fun i a es Fi h => by simp at h⟩, New.nil _, fun b h => by simp [Value.ownBlock] at h⟩
theorem GrowO.lt (h : GrowO t e w base v l F) : ∀ f ∈ F, f < w.heap.size := by
  obtain ⟨⟨css, Fs, h1, h2, h3, rfl, h5⟩, _, _⟩ := h
  intro f hf
  obtain ⟨Fi, hFi, hfi⟩ := List.mem_flatten.1 hf
  obtain ⟨i, hi, e1⟩ := List.getElem_of_mem hFi
  have hl : i < l.length := by omega
  have hc : i < css.length := by omega
  exact t.lt (h5 i _ _ Fi (List.getElem?_eq_getElem hl) (List.getElem?_eq_getElem hc) (by rw [List.getElem?_eq_getElem hi, e1])) f hfi
theorem GrowO.below (h : GrowO t e w base v l F) (hB : Below w.heap.size w w') : GrowO t e w' base v l F := by
  obtain ⟨⟨css, Fs, h1, h2, h3, h4, h5⟩, h6, h7⟩ := h
  exact ⟨⟨css, Fs, h1.kept (row := none) (below_grownBy hB) (by cases v.ownBlock <;> simp), h2, h3, h4, fun i a es Fi q1 q2 q3 => Ty.below (h5 i a es Fi q1 q2 q3) hB⟩, h6, h7⟩
theorem GrowO.new (h : GrowO t e w base v l F) : New base F := h.2.1
/-- What an append sees, and what it leaves. -/
theorem GrowO.row (h : GrowO t e w base v l F) : ∃ xs, w.ownsRow base e t.k v l.length xs ∧
    ∀ w3 v1 a es Fa, t.O w es a Fa → New base Fa → (∀ f ∈ Fa, f ∉ F) → (∀ b, v.ownBlock = some b → b ∉ Fa) → w3.ownsRow base e t.k v1 (l.length + 1) (xs ++ es) → w.grownBy w3 v.ownBlock →
      (v1.ownBlock = v.ownBlock ∨ v1.ownBlock = some w.heap.size) → GrowO t e w3 base v1 (l ++ [a]) (F ++ Fa) := by
  have hlt := h.lt
  obtain ⟨⟨css, Fs, h1, h2, h3, rfl, h5⟩, h6, h7⟩ := h
  refine ⟨css.flatten, h1, fun w3 v1 a es Fa q1 q2 q3 q4 q5 q6 q7 => ⟨⟨css ++ [es], Fs ++ [Fa], ?_, by simp [h2], by simp [h3], by simp, ?_⟩, ?_, ?_⟩⟩
  · rw [List.length_append, List.flatten_append]
    simpa using q5
  · intro i b cs Fi r1 r2 r3
    by_cases hi : i < l.length
    · rw [List.getElem?_append_left hi] at r1
      rw [List.getElem?_append_left (by omega)] at r2
      rw [List.getElem?_append_left (by omega)] at r3
      have hO := h5 i b cs Fi r1 r2 r3
      exact t.kept hO fun f hf => q6.block f (t.lt hO f hf) fun e => h7 f e.symm (mem_flat r3 hf)
    · rw [List.getElem?_append_right (by omega)] at r1
      have hi0 : i - l.length = 0 := by
        have := (List.getElem?_eq_some_iff.1 r1).1
        simp at this; omega
      rw [hi0] at r1
      rw [List.getElem?_append_right (by omega), h2, hi0] at r2
      rw [List.getElem?_append_right (by omega), h3, hi0] at r3
      simp at r1 r2 r3
      subst r1 r2 r3
      exact t.kept q1 fun f hf => q6.block f (t.lt q1 f hf) fun e => q4 f e.symm hf
  · refine ⟨List.nodup_append.2 ⟨h6.1, q2.1, fun x hx y hy e => ?_⟩, fun f hf => ?_⟩
    · subst e; exact q3 x hy hx
    · rcases List.mem_append.1 hf with h' | h'
      · exact h6.2 f h'
      · exact q2.2 f h'
  · intro b hb hx
    rcases q7 with q7 | q7
    · rw [q7] at hb
      rcases List.mem_append.1 hx with h' | h'
      · exact h7 b hb h'
      · exact q4 b hb h'
    · rw [q7] at hb
      injection hb with hb
      subst hb
      rcases List.mem_append.1 hx with h' | h'
      · have := hlt _ h'; omega
      · have := t.lt q1 _ h'; omega
theorem GrowO.done (h : GrowO t e w base v l F) : ∃ A c F', v = .slice A l.length c ∧ t.row.O w [.slice A l.length c] l F' ∧ New base F' := by
  obtain ⟨⟨css, Fs, h1, h2, h3, rfl, h5⟩, h6, h7⟩ := h
  rcases h1.2 with ⟨rfl, h0⟩ | ⟨g, cap, cur, rfl, hb, hg, hn, hm, hs, ht⟩
  · have : l = [] := List.eq_nil_of_length_eq_zero h0
    subst this
    exact ⟨none, 0, [], rfl, .inl ⟨none, 0, rfl, by omega, rfl, rfl⟩, New.nil _⟩
  · by_cases h0 : 0 < l.length
    · refine ⟨_, cap, g :: Fs.flatten, rfl, .inr ⟨g, 0, cap, cur, e, Fs, rfl, h0, hn, by simp only [maxLen] at hm; omega, hg, h3, rfl, fun i a Fi q1 q2 => ?_⟩, List.nodup_cons.2 ⟨h7 g rfl, h6.1⟩, fun f hf => ?_⟩
      · have hi : i < l.length := (List.getElem?_eq_some_iff.1 q1).1
        have hc : css[i]? = some (css[i]'(by omega)) := List.getElem?_eq_getElem (by omega)
        refine ⟨_, fun j hj => ?_, h5 i a _ Fi q1 hc q2⟩
        have hlen : ∀ es ∈ css, es.length = t.k := fun es hes => by
          obtain ⟨i', hi', rfl⟩ := List.getElem_of_mem hes
          exact t.lenO (h5 i' _ _ _ (List.getElem?_eq_getElem (by omega)) (List.getElem?_eq_getElem hi') (List.getElem?_eq_getElem (by omega)))
        have hb2 : (i + 1) * t.k ≤ l.length * t.k := Nat.mul_le_mul_right _ hi
        rw [Nat.succ_mul] at hb2
        rw [← flat_at hlen hc hj, ← ht, List.getElem?_take, if_pos (by omega)]
        simp
      · rcases List.mem_cons.1 hf with rfl | hf
        · exact hb
        · exact h6.2 f hf
    · have : l = [] := List.eq_nil_of_length_eq_zero (by omega)
      subst this
      exact ⟨_, cap, [], rfl, .inl ⟨_, cap, rfl, by simp only [maxLen] at hm; omega, rfl, rfl⟩, New.nil _⟩
end
section
variable {α : Type} {t : Ty α} {e : TypeId} {w w' : World} {base B : Nat} {v : Value} {l : List α}
/-- A row of a call's own whose elements read below B: what they hold may be another's. -/
def GrowR (t : Ty α) (e : TypeId) (w : World) (base B : Nat) (v : Value) (l : List α) : Prop :=
  ∃ (css : List (List Value)), w.ownsRow base e t.k v l.length css.flatten ∧ css.length = l.length ∧ ∀ (i : Nat) (a : α) (es : List Value), l[i]? = some a → css[i]? = some es → t.R w B es a
theorem GrowR.nil : GrowR t e w base B (.slice none 0 0) [] := ⟨[], ⟨by simp, .inl ⟨rfl, rfl⟩⟩, rfl, fun i a es h => by simp at h⟩
theorem GrowR.below (h : GrowR t e w base B v l) (hB : Below w.heap.size w w') (hb : B ≤ w.heap.size) : GrowR t e w' base B v l := by
  obtain ⟨css, h1, h2, h5⟩ := h
  exact ⟨css, h1.kept (row := none) (below_grownBy hB) (by cases v.ownBlock <;> simp), h2, fun i a es q1 q2 => t.keep (h5 i a es q1 q2) fun b hlt => hB.block b (by omega)⟩
theorem GrowR.row (h : GrowR t e w base B v l) (hb : B ≤ base) (hw : B ≤ w.heap.size) : ∃ xs, w.ownsRow base e t.k v l.length xs ∧
    ∀ w3 v1 a es, t.R w B es a → w3.ownsRow base e t.k v1 (l.length + 1) (xs ++ es) → w.grownBy w3 v.ownBlock → GrowR t e w3 base B v1 (l ++ [a]) := by
  obtain ⟨css, h1, h2, h5⟩ := h
  have hown := fun b hb => h1.lt b hb
  refine ⟨css.flatten, h1, fun w3 v1 a es q1 q5 q6 => ⟨css ++ [es], ?_, by simp [h2], ?_⟩⟩
  · rw [List.length_append, List.flatten_append]
    simpa using q5
  · have keep : ∀ b, b < B → w3.heap[b]? = w.heap[b]? := fun b hlt => q6.block b (by omega) fun e => by have := (hown b e.symm).1; omega
    intro i b cs r1 r2
    by_cases hi : i < l.length
    · rw [List.getElem?_append_left hi] at r1
      rw [List.getElem?_append_left (by omega)] at r2
      exact t.keep (h5 i b cs r1 r2) keep
    · rw [List.getElem?_append_right (by omega)] at r1
      have hi0 : i - l.length = 0 := by
        have := (List.getElem?_eq_some_iff.1 r1).1
        simp at this; omega
      rw [hi0] at r1
      rw [List.getElem?_append_right (by omega), h2, hi0] at r2
      simp at r1 r2
      subst r1 r2
      exact t.keep q1 keep
theorem GrowR.done (h : GrowR t e w base B v l) (hw : B ≤ w.heap.size) : ∃ A c, v = .slice A l.length c ∧ t.row.R w w.heap.size [.slice A l.length c] l := by
  obtain ⟨css, h1, h2, h5⟩ := h
  rcases h1.2 with ⟨rfl, h0⟩ | ⟨g, cap, cur, rfl, hb, hg, hn, hm, hs, ht⟩
  · have : l = [] := List.eq_nil_of_length_eq_zero h0
    subst this
    exact ⟨none, 0, rfl, none, 0, 0, rfl, Nat.le_refl _, by omega, rfl, fun h => absurd h (by omega)⟩
  · refine ⟨_, cap, rfl, _, l.length, cap, rfl, hn, by simp only [maxLen] at hm; omega, rfl, fun _ => ⟨g, 0, rfl, Box.size (t := e) hg, fun i a q1 => ?_⟩⟩
    have hi : i < l.length := (List.getElem?_eq_some_iff.1 q1).1
    have hc : css[i]? = some (css[i]'(by omega)) := List.getElem?_eq_getElem (by omega)
    refine ⟨_, fun j hj => ?_, t.up (h5 i a _ q1 hc) hw⟩
    have hlen : ∀ es ∈ css, es.length = t.k := fun es hes => by
      obtain ⟨i', hi', rfl⟩ := List.getElem_of_mem hes
      exact t.lenR (h5 i' _ _ (List.getElem?_eq_getElem (by omega)) (List.getElem?_eq_getElem hi'))
    have hb2 : (i + 1) * t.k ≤ l.length * t.k := Nat.mul_le_mul_right _ hi
    rw [Nat.succ_mul] at hb2
    rw [Box.cell (t := e) hg, ← flat_at hlen hc hj, ← ht, List.getElem?_take, if_pos (by omega)]
    simp
end
/-- The cells of one struct that have just been laid, as what an append takes in. -/
theorem Src.of_box (w : World) (t : TypeId) (es : List Value) {K : Nat} (hK : es.length = K) : Src (w.alloc (.cells es.toArray t)) K (some ⟨w.heap.size, 0, none⟩) 1 es := by
  refine ⟨by omega, fun _ => ⟨_, 0, rfl, fun j u hj => ?_⟩⟩
  rw [Nat.zero_add, (Box.new w t es.toArray).cell]
  simpa using hj
end Go.Proofs.YteokfenoomcogaaGreat
