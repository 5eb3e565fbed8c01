/-
  PSplit, SpZ, Op0, PDk, PMisP, PHasP: texts joined.
-/
import Derived.Test.YtaabmaoldhoinaaQGa
import Derived.Deep.RegionHeld3
namespace Go.Proofs.Ytaabmaoldhoinaa
set_option maxRecDepth 100000
set_option linter.unusedVariables false
set_option linter.unusedSimpArgs false
open Go.ChangeShapes Go.WideShapes Go.ChangeAt Go.RowKit
def splN (len : Nat) : Nat := if len = 0 then 1 else (len + 19) / 20
def pcAt (id : Int) (N : Nat) (msg : List Int) (i : Nat) : DPiece := (id, (i : Int), (N : Int), (msg.drop (i * 20)).take 20)
def splL (id : Int) (msg : List Int) : List DPiece := (List.range (splN msg.length)).map (pcAt id (splN msg.length) msg)
def SpOk (id : Int) (msg : List Int) : Prop := (0 ≤ id ∧ id ≤ 255) ∧ msg.length ≤ 160
instance (id : Int) (msg : List Int) : Decidable (SpOk id msg) := by unfold SpOk; infer_instance
def fSpl (id : Int) (msg : List Int) : List DPiece := if SpOk id msg then splL id msg else []
theorem fSpl_t {id : Int} {msg : List Int} (h : SpOk id msg) : fSpl id msg = splL id msg := if_pos h
theorem fSpl_f {id : Int} {msg : List Int} (h : ¬ SpOk id msg) : fSpl id msg = [] := if_neg h
theorem splN_le {n : Nat} (h : n ≤ 160) : 1 ≤ splN n ∧ splN n ≤ 8 := by unfold splN; split <;> omega
theorem splL_len (id : Int) (msg : List Int) : (splL id msg).length = splN msg.length := by unfold splL; rw [List.length_map, List.length_range]
theorem splL_at {id : Int} {msg : List Int} {N j : Nat} (hN : splN msg.length = N) (hj : j < N) : (splL id msg)[j]? = some (id, (j : Int), (N : Int), (msg.drop (j * 20)).take 20) := by
  unfold splL; rw [hN, List.getElem?_map, List.getElem?_range hj]; rfl
/-- A part of a slice of bytes. -/
theorem ints_mid {K : IntKind} {w : World} {B n b off : Nat} {l : List Int} (h : Ints K w B (some ⟨b, off, none⟩) n l) {lo m : Nat} (hm : lo + m ≤ n) : Ints K w B (some ⟨b, off + lo, none⟩) m ((l.drop lo).take m) := by
  refine ⟨by rw [List.length_take, List.length_drop, h.1]; omega, fun h0 => ?_, fun x hx => h.2.2 x (List.mem_of_mem_drop (List.mem_of_mem_take hx))⟩
  obtain ⟨b', off', e, hb, hc⟩ := h.2.1 (by omega)
  injection e with e
  injection e with e1 e2 _
  subst e1 e2
  refine ⟨b, off + lo, rfl, hb, fun i hi => ?_⟩
  rw [Nat.add_assoc, hc (lo + i) (by omega), List.getD_eq_getElem?_getD, List.getD_eq_getElem?_getD, List.getElem?_take, if_pos hi, List.getElem?_drop]
theorem empty4 (w : World) (t : TypeId) : (w.alloc (.cells #[] t)).ownsRow w.heap.size t 1 (.slice (some ⟨w.heap.size, 0, none⟩) 0 0) 0 [] :=
  ⟨rfl, .inr ⟨w.heap.size, 0, #[], rfl, Nat.le_refl _, heap_alloc_new w _, Nat.le_refl _, by simp only [maxLen]; omega, rfl, rfl⟩⟩
theorem one_piece (x0 x1 x2 : Int) (A : Option Addr) (n c : Nat) : ∀ u ∈ [Value.int .i64 x0, .int .i64 x1, .int .i64 x2, .slice A n c], u.oneCell' = true := by
  intro u hu
  simp only [List.mem_cons, List.not_mem_nil, or_false] at hu
  rcases hu with rfl | rfl | rfl | rfl <;> rfl
theorem own_sl4 {K : IntKind} {e : TypeId} {w : World} {base : Nat} {v : Value} {l : List Int} (h : Own K e w base v l) : ∃ A c F, v = .slice A l.length c ∧ (tSl K).O w [.slice A l.length c] l F ∧ New base F := by
  obtain ⟨F, hF, hN⟩ := h.tSl
  obtain ⟨A, c, e1, _, _⟩ := slO_one hF
  injection e1 with e1 _
  subst e1
  exact ⟨A, c, F, rfl, hF, hN⟩
theorem i_copied4 {w : World} {n c : Nat} {A : Option Addr} {l : List Int} (hl : Ints .u8 w w.heap.size A n l) (hn : n ≤ 1048576) :
    Calls Try.prog 52 #[.slice A n c] w fun e w' => ∃ v, e = .returned v ∧ Own .u8 5 w' w.heap.size v l ∧ Below w.heap.size w w' := by
  obtain ⟨i0, hi0, hz0, hz1, hz2⟩ := info_parts info_cb
  go_enter Try.func52, Try.ntmps52
  go_wp2_with (at_builtin; refine wpList_app _ rfl _ (.tmp 3) _ rfl w.heap.size 5 i0 _ 1 1 Try.underlying22 hi0 hz0 hz1 hz2 rfl (by omega) (.slice none 0 0) 0 [] rfl (World.ownsRow_nil _ _ _ _) _ n c (l.map (Value.int .u8)) rfl (Src.of_ints hl) (one_ints _ _) (by simp only [maxLen]; omega) (by omega) (Nat.le_refl _) ?_; intro v1 w1 hown hgr hat)
  go_ret
  exact ⟨v1, rfl, Own.of (n := 0 + n) (by simpa using hown) hl.2.2, Below.grown (Below.refl _ _) hgr (Nat.le_refl _) fun b hb => by simp [Value.ownBlock] at hb⟩
theorem split_subS {w : World} {n b off : Nat} {x : _} {msg : List Int} (hl : Ints .u8 w w.heap.size (some ⟨b, off, x⟩) n msg) {j : Nat} : Ints .u8 w w.heap.size (some ⟨b, off + j * 20, x⟩) (min 20 (n - j * 20)) ((msg.drop (j * 20)).take 20) := by
  by_cases hn : j * 20 < n
  · obtain ⟨b', off', e, hb, -⟩ := hl.2.1 (by omega)
    injection e with e
    injection e with e1 e2 e3
    subst e1 e2 e3
    have hI := ints_mid hl (lo := j * 20) (m := min 20 (n - j * 20)) (by omega)
    have e : (msg.drop (j * 20)).take (min 20 (n - j * 20)) = (msg.drop (j * 20)).take 20 := by
      by_cases h20 : min 20 (n - j * 20) = 20
      · rw [h20]
      · rw [List.take_of_length_le (by rw [List.length_drop, hl.1]; omega), List.take_of_length_le (by rw [List.length_drop, hl.1]; omega)]
    rwa [e] at hI
  · rw [show min 20 (n - j * 20) = 0 by omega, List.drop_eq_nil_of_le (by rw [hl.1]; omega)]
    exact Ints.nil
theorem split_sub0 {w : World} {n : Nat} {A : Option Addr} {msg : List Int} (hl : Ints .u8 w w.heap.size A n msg) (hn : n = 0) {j : Nat} : ∀ (W : World) (A' : Option Addr), Ints .u8 W W.heap.size A' (min 20 (n - j * 20)) ((msg.drop (j * 20)).take 20) := by
  intro W A'
  rw [show min 20 (n - j * 20) = 0 by omega, List.drop_eq_nil_of_le (by rw [hl.1]; omega)]
  exact Ints.nil
set_option maxHeartbeats 4000000 in
theorem i_Split {w : World} {id : Int} {A : Option Addr} {n c : Nat} {msg : List Int} (hid : (Lit.int .i64 id).wf = true) (h : tBy.R w w.heap.size [.slice A n c] msg) (hz : msg.length ≤ 1048576) :
    Calls Try.prog 19 #[.int .i64 id, .slice A n c] w fun e w' => ∃ A' c' F, e = .returned (.tuple #[.slice A' (fSpl id msg).length c', .bool (decide (SpOk id msg))]) ∧ tPiece.row.O w' [.slice A' (fSpl id msg).length c'] (fSpl id msg) F ∧ New w.heap.size F ∧ Below w.heap.size w w' := by
  obtain ⟨i1, hj0, hj1, hj2, hj3⟩ := info_parts info_Piece
  obtain ⟨hl, hnc, hcm⟩ := slR_ints h
  have hlen := hl.1
  by_cases hs : SpOk id msg
  rotate_left
  · rw [fSpl_f hs, decide_eq_false hs]
    have hnil : tPiece.row.O w [.slice none 0 0] [] [] := .inl ⟨none, 0, rfl, by omega, rfl, rfl⟩
    by_cases h1 : 0 ≤ id ∧ id ≤ 255
    · have h3 : (160 : Int) < (n : Int) := by unfold SpOk at hs; omega
      clear hs
      go_enter Try.func19, Try.ntmps19
      go_wp2_with (go_at_call 23; refine (i_isId_t _ _ h1.1 h1.2).mono ?_; rintro e w' ⟨rfl, rfl⟩)
      go_ret2
      exact ⟨none, 0, [], rfl, hnil, New.nil _, (belx)⟩
    · clear hs
      go_enter Try.func19, Try.ntmps19
      go_wp2_with (go_at_call 23; refine (i_isId_f _ _ h1).mono ?_; rintro e w' ⟨rfl, rfl⟩)
      go_ret2
      exact ⟨none, 0, [], rfl, hnil, New.nil _, (belx)⟩
  rw [fSpl_t hs, decide_eq_true hs]
  obtain ⟨⟨g1, g2⟩, g3⟩ := hs
  have hn : n ≤ 160 := by omega
  have q3 : ¬ (160 : Int) < (n : Int) := by omega
  obtain ⟨N, hN⟩ : ∃ N, splN msg.length = N := ⟨_, rfl⟩
  have hN8 : 1 ≤ N ∧ N ≤ 8 := by rw [← hN]; exact splN_le g3
  have HN := Lib.hid hN
  have HID := Lib.hid hid
  have HL := Lib.hid hlen
  have HNW := Lib.hid (show (Lit.int .i64 (N : Int)).wf = true from WalkArith.wf_i64 ⟨by omega, by omega⟩)
  have HLL := Lib.hid (show (splL id msg).length = N from by rw [splL_len, hN])
  have hNn : (n = 0 ∧ N = 1) ∨ (1 ≤ n ∧ N = (n + 19) / 20) := by
    rw [hlen] at hN; unfold splN at hN; split at hN <;> omega
  have HPF := Lib.hid (show fPF (n : Int) = (N : Int) from by
    rcases hNn with ⟨rfl, rfl⟩ | ⟨h1, h2⟩
    · rfl
    · rw [fPF_q (by omega) (by omega)]; omega)
  have HNN := Lib.hid hNn
  clear hid hlen g3 hz hN hNn
  rw [HLL.out]
  by_cases hn0 : n = 0
  · have HN0 := Lib.hid hn0
    clear hn0
    rcases A with _ | a
    · go_enter Try.func19, Try.ntmps19
      go_wp2_with (first
        | (go_at_call 23; refine (i_isId_t _ _ g1 g2).mono ?_; rintro e w' ⟨rfl, rfl⟩)
        | (go_at_call 51; refine (i_PiecesFor _ _).mono ?_; rintro e w' ⟨rfl, rfl⟩; rw [HPF.out])
        | (at_make; refine wpList_mkS _ rfl (.tmp 20) (.tmp 20) _ rfl 24 i1 _ 4 Try.underlying47 hj0 hj1 hj2 N rfl rfl (by rw [hj3]; omega) (by simp only [maxLen]; omega) ?_; intro w1 cur hcur hsz hB1 hgr))
      go_loopw [24] (fun i wr => ∃ j : Nat, j ≤ N ∧ i = .int .i64 j ∧ Below w.heap.size w wr ∧ ∃ F, Fill tPiece wr w.heap.size 24 N ((splL id msg).take j) F ∧ New (w.heap.size + 1) F) (fun i _ => N - (RowKit.intOf i).toNat)
      case atStart => exact ⟨0, by omega, rfl, hB1, [], Fill.start hcur hsz, New.nil _⟩
      case round =>
        obtain ⟨j, hj, rfl, hB, F, hf, hNF⟩ := hrel
        by_cases hlt : j < N
        · have hl2 := splL_at (id := id) HN.out hlt
          have HT := Lib.hid (take_sn hl2)
          have HLN := Lib.hid (show ((splL id msg).take j).length = j from by rw [List.length_take, HLL.out]; omega)
          have HJW := Lib.hid (show (Lit.int .i64 (j : Int)).wf = true from WalkArith.wf_i64 ⟨by omega, by omega⟩)
          have jN : (j : Int) < (N : Int) := by omega
          have jj := HNN.out
          have hI := split_sub0 hl HN0.out (j := j)
          skip
          skip
          obtain ⟨sub, hsub⟩ : ∃ sub, (msg.drop (j * 20)).take 20 = sub := ⟨_, rfl⟩
          obtain ⟨m, hm⟩ : ∃ m, min 20 (n - j * 20) = m := ⟨_, rfl⟩
          rw [hsub] at HT
          rw [hsub, hm] at hI
          have i3 : (0 : Int) ≤ (j : Int) * 20 := by omega
          have i4 : (j : Int) * 20 ≤ (n : Int) := by omega
          have i5 : (n : Int) ≤ ((c : Nat) : Int) := by omega
          have p1 : IntKind.i64.wrap ((j : Int) * 20) = (j : Int) * 20 := IntWalk.i64_in _ (by omega)
          have i2 : IntKind.i64.wrap ((j : Int) * 20 + 20) = (j : Int) * 20 + 20 := IntWalk.i64_in _ (by omega)
          have t1 : ((j : Int) * 20).toNat = j * 20 := by omega
          have hm2 : m ≤ 20 := by omega
          by_cases hend : (n : Int) < (j : Int) * 20 + 20
          · skip
            have t2 : ((n : Int) - (j : Int) * 20).toNat = m := by omega
            have t3 : n - j * 20 = m := by omega
            have q7 : ¬ (j : Int) * 20 + 20 ≤ (n : Int) := by omega
            clear hl2 hsub hm jj
            go_wp2_with fail
            refine (i_copied4 (hI _ _) (by omega)).mono ?_
            rintro e w2 ⟨v2, rfl, hO2, hb2⟩
            obtain ⟨Ad, cd, Fd, rfl, hOd, hNd⟩ := own_sl4 hO2
            obtain ⟨Fx, hOel, ex⟩ := makeOPiece (p := (id, ((j : Nat) : Int), ((N : Nat) : Int), sub)) HID.out HJW.out HNW.out hOd
            subst ex
            have hgs := hf.size
            have hf2 := hf.below hb2
            have hsz2 := hb2.size
            have hP := Fill.push (K := 4) hf2 (by rw [HLN.out]; exact hlt) hOel (hNF.not (by omega)) (hNd.not hgs) rfl
            rw [HLN.out, ← HT.out] at hP
            have hM : New (w.heap.size + 1) (F ++ Fx) := New.app hNF hNd (by omega) hf.lt
            obtain ⟨u0, k0⟩ := hf2.cell (K := 4) (j := 0) (by rw [HLN.out]; exact hlt) rfl (by omega)
            rw [HLN.out] at k0
            replace k0 : w2.cell? ⟨w.heap.size, j * 4, none⟩ = some u0 := k0
            have f0 := hf2.frozen (j * 4)
            obtain ⟨u1, k1⟩ := hf2.cell (K := 4) (j := 1) (by rw [HLN.out]; exact hlt) rfl (by omega)
            rw [HLN.out] at k1
            replace k1 : w2.cell? ⟨w.heap.size, j * 4 + 1, none⟩ = some u1 := k1
            have f1 := hf2.frozen (j * 4 + 1)
            obtain ⟨u2, k2⟩ := hf2.cell (K := 4) (j := 2) (by rw [HLN.out]; exact hlt) rfl (by omega)
            rw [HLN.out] at k2
            replace k2 : w2.cell? ⟨w.heap.size, j * 4 + 2, none⟩ = some u2 := k2
            have f2 := hf2.frozen (j * 4 + 2)
            obtain ⟨u3, k3⟩ := hf2.cell (K := 4) (j := 3) (by rw [HLN.out]; exact hlt) rfl (by omega)
            rw [HLN.out] at k3
            replace k3 : w2.cell? ⟨w.heap.size, j * 4 + 3, none⟩ = some u3 := k3
            have f3 := hf2.frozen (j * 4 + 3)
            go_wp2
            go_roundw
            case rel => exact ⟨j + 1, by omega, by go_num, below_puts (bel_trans hB hb2) (Nat.le_refl _) (off := j * 4) (vs := [.int .i64 id, .int .i64 ((j : Nat) : Int), .int .i64 ((N : Nat) : Int), .slice Ad sub.length cd]), _, hP, hM⟩
            case measure => first | (simp [RowKit.intOf]; done) | (simp [RowKit.intOf]; omega)
          · exact absurd (show (n : Int) < (j : Int) * 20 + 20 by have h1 := HN0.out; omega) hend
        · obtain rfl : j = N := by omega
          have HA := Lib.hid (show (splL id msg).take j = splL id msg from List.take_of_length_le (Nat.le_of_eq HLL.out))
          rw [HA.out] at hf
          obtain ⟨F', hO, hF'⟩ := hf.done HLL.out (by omega)
          rw [HLL.out] at hO
          go_wp2
          go_ret2
          exact ⟨_, _, F', rfl, hO, New.cons hNF hF', hB⟩
    · by_cases hc0 : c = 0
      · subst hc0
        go_enter Try.func19, Try.ntmps19
        go_wp2_with (first
          | (go_at_call 23; refine (i_isId_t _ _ g1 g2).mono ?_; rintro e w' ⟨rfl, rfl⟩)
          | (go_at_call 51; refine (i_PiecesFor _ _).mono ?_; rintro e w' ⟨rfl, rfl⟩; rw [HPF.out])
          | (at_make; refine wpList_mkS _ rfl (.tmp 20) (.tmp 20) _ rfl 24 i1 _ 4 Try.underlying47 hj0 hj1 hj2 N rfl rfl (by rw [hj3]; omega) (by simp only [maxLen]; omega) ?_; intro w1 cur hcur hsz hB1 hgr))
        go_loopw [24] (fun i wr => ∃ j : Nat, j ≤ N ∧ i = .int .i64 j ∧ Below w.heap.size w wr ∧ ∃ F, Fill tPiece wr w.heap.size 24 N ((splL id msg).take j) F ∧ New (w.heap.size + 1) F) (fun i _ => N - (RowKit.intOf i).toNat)
        case atStart => exact ⟨0, by omega, rfl, hB1, [], Fill.start hcur hsz, New.nil _⟩
        case round =>
          obtain ⟨j, hj, rfl, hB, F, hf, hNF⟩ := hrel
          by_cases hlt : j < N
          · have hl2 := splL_at (id := id) HN.out hlt
            have HT := Lib.hid (take_sn hl2)
            have HLN := Lib.hid (show ((splL id msg).take j).length = j from by rw [List.length_take, HLL.out]; omega)
            have HJW := Lib.hid (show (Lit.int .i64 (j : Int)).wf = true from WalkArith.wf_i64 ⟨by omega, by omega⟩)
            have jN : (j : Int) < (N : Int) := by omega
            have jj := HNN.out
            have hI := split_sub0 hl HN0.out (j := j)
            skip
            skip
            obtain ⟨sub, hsub⟩ : ∃ sub, (msg.drop (j * 20)).take 20 = sub := ⟨_, rfl⟩
            obtain ⟨m, hm⟩ : ∃ m, min 20 (n - j * 20) = m := ⟨_, rfl⟩
            rw [hsub] at HT
            rw [hsub, hm] at hI
            have i3 : (0 : Int) ≤ (j : Int) * 20 := by omega
            have i4 : (j : Int) * 20 ≤ (n : Int) := by omega
            have i5 : (n : Int) ≤ ((0 : Nat) : Int) := by omega
            have p1 : IntKind.i64.wrap ((j : Int) * 20) = (j : Int) * 20 := IntWalk.i64_in _ (by omega)
            have i2 : IntKind.i64.wrap ((j : Int) * 20 + 20) = (j : Int) * 20 + 20 := IntWalk.i64_in _ (by omega)
            have t1 : ((j : Int) * 20).toNat = j * 20 := by omega
            have hm2 : m ≤ 20 := by omega
            by_cases hend : (n : Int) < (j : Int) * 20 + 20
            · skip
              have t2 : ((n : Int) - (j : Int) * 20).toNat = m := by omega
              have t3 : n - j * 20 = m := by omega
              have q7 : ¬ (j : Int) * 20 + 20 ≤ (n : Int) := by omega
              clear hl2 hsub hm jj
              go_wp2_with fail
              refine (i_copied4 (hI _ _) (by omega)).mono ?_
              rintro e w2 ⟨v2, rfl, hO2, hb2⟩
              obtain ⟨Ad, cd, Fd, rfl, hOd, hNd⟩ := own_sl4 hO2
              obtain ⟨Fx, hOel, ex⟩ := makeOPiece (p := (id, ((j : Nat) : Int), ((N : Nat) : Int), sub)) HID.out HJW.out HNW.out hOd
              subst ex
              have hgs := hf.size
              have hf2 := hf.below hb2
              have hsz2 := hb2.size
              have hP := Fill.push (K := 4) hf2 (by rw [HLN.out]; exact hlt) hOel (hNF.not (by omega)) (hNd.not hgs) rfl
              rw [HLN.out, ← HT.out] at hP
              have hM : New (w.heap.size + 1) (F ++ Fx) := New.app hNF hNd (by omega) hf.lt
              obtain ⟨u0, k0⟩ := hf2.cell (K := 4) (j := 0) (by rw [HLN.out]; exact hlt) rfl (by omega)
              rw [HLN.out] at k0
              replace k0 : w2.cell? ⟨w.heap.size, j * 4, none⟩ = some u0 := k0
              have f0 := hf2.frozen (j * 4)
              obtain ⟨u1, k1⟩ := hf2.cell (K := 4) (j := 1) (by rw [HLN.out]; exact hlt) rfl (by omega)
              rw [HLN.out] at k1
              replace k1 : w2.cell? ⟨w.heap.size, j * 4 + 1, none⟩ = some u1 := k1
              have f1 := hf2.frozen (j * 4 + 1)
              obtain ⟨u2, k2⟩ := hf2.cell (K := 4) (j := 2) (by rw [HLN.out]; exact hlt) rfl (by omega)
              rw [HLN.out] at k2
              replace k2 : w2.cell? ⟨w.heap.size, j * 4 + 2, none⟩ = some u2 := k2
              have f2 := hf2.frozen (j * 4 + 2)
              obtain ⟨u3, k3⟩ := hf2.cell (K := 4) (j := 3) (by rw [HLN.out]; exact hlt) rfl (by omega)
              rw [HLN.out] at k3
              replace k3 : w2.cell? ⟨w.heap.size, j * 4 + 3, none⟩ = some u3 := k3
              have f3 := hf2.frozen (j * 4 + 3)
              go_wp2
              go_roundw
              case rel => exact ⟨j + 1, by omega, by go_num, below_puts (bel_trans hB hb2) (Nat.le_refl _) (off := j * 4) (vs := [.int .i64 id, .int .i64 ((j : Nat) : Int), .int .i64 ((N : Nat) : Int), .slice Ad sub.length cd]), _, hP, hM⟩
              case measure => first | (simp [RowKit.intOf]; done) | (simp [RowKit.intOf]; omega)
            · exact absurd (show (n : Int) < (j : Int) * 20 + 20 by have h1 := HN0.out; omega) hend
          · obtain rfl : j = N := by omega
            have HA := Lib.hid (show (splL id msg).take j = splL id msg from List.take_of_length_le (Nat.le_of_eq HLL.out))
            rw [HA.out] at hf
            obtain ⟨F', hO, hF'⟩ := hf.done HLL.out (by omega)
            rw [HLL.out] at hO
            go_wp2
            go_ret2
            exact ⟨_, _, F', rfl, hO, New.cons hNF hF', hB⟩
      · have HC0 := Lib.hid hc0
        clear hc0
        go_enter Try.func19, Try.ntmps19
        go_wp2_with (first
          | (go_at_call 23; refine (i_isId_t _ _ g1 g2).mono ?_; rintro e w' ⟨rfl, rfl⟩)
          | (go_at_call 51; refine (i_PiecesFor _ _).mono ?_; rintro e w' ⟨rfl, rfl⟩; rw [HPF.out])
          | (at_make; refine wpList_mkS _ rfl (.tmp 20) (.tmp 20) _ rfl 24 i1 _ 4 Try.underlying47 hj0 hj1 hj2 N rfl rfl (by rw [hj3]; omega) (by simp only [maxLen]; omega) ?_; intro w1 cur hcur hsz hB1 hgr))
        go_loopw [24] (fun i wr => ∃ j : Nat, j ≤ N ∧ i = .int .i64 j ∧ Below w.heap.size w wr ∧ ∃ F, Fill tPiece wr w.heap.size 24 N ((splL id msg).take j) F ∧ New (w.heap.size + 1) F) (fun i _ => N - (RowKit.intOf i).toNat)
        case atStart => exact ⟨0, by omega, rfl, hB1, [], Fill.start hcur hsz, New.nil _⟩
        case round =>
          obtain ⟨j, hj, rfl, hB, F, hf, hNF⟩ := hrel
          by_cases hlt : j < N
          · have hl2 := splL_at (id := id) HN.out hlt
            have HT := Lib.hid (take_sn hl2)
            have HLN := Lib.hid (show ((splL id msg).take j).length = j from by rw [List.length_take, HLL.out]; omega)
            have HJW := Lib.hid (show (Lit.int .i64 (j : Int)).wf = true from WalkArith.wf_i64 ⟨by omega, by omega⟩)
            have jN : (j : Int) < (N : Int) := by omega
            have jj := HNN.out
            have hI := split_sub0 hl HN0.out (j := j)
            have k1 : j * 20 < c := by (have h1 := HN0.out; have h2 := HC0.out; have h3 := HNN.out; omega)
            have k2 : ¬ c - j * 20 = 0 := by omega
            obtain ⟨sub, hsub⟩ : ∃ sub, (msg.drop (j * 20)).take 20 = sub := ⟨_, rfl⟩
            obtain ⟨m, hm⟩ : ∃ m, min 20 (n - j * 20) = m := ⟨_, rfl⟩
            rw [hsub] at HT
            rw [hsub, hm] at hI
            have i3 : (0 : Int) ≤ (j : Int) * 20 := by omega
            have i4 : (j : Int) * 20 ≤ (n : Int) := by omega
            have i5 : (n : Int) ≤ ((c : Nat) : Int) := by omega
            have p1 : IntKind.i64.wrap ((j : Int) * 20) = (j : Int) * 20 := IntWalk.i64_in _ (by omega)
            have i2 : IntKind.i64.wrap ((j : Int) * 20 + 20) = (j : Int) * 20 + 20 := IntWalk.i64_in _ (by omega)
            have t1 : ((j : Int) * 20).toNat = j * 20 := by omega
            have hm2 : m ≤ 20 := by omega
            by_cases hend : (n : Int) < (j : Int) * 20 + 20
            · skip
              have t2 : ((n : Int) - (j : Int) * 20).toNat = m := by omega
              have t3 : n - j * 20 = m := by omega
              have q7 : ¬ (j : Int) * 20 + 20 ≤ (n : Int) := by omega
              clear hl2 hsub hm jj
              go_wp2_with fail
              refine (i_copied4 (hI _ _) (by omega)).mono ?_
              rintro e w2 ⟨v2, rfl, hO2, hb2⟩
              obtain ⟨Ad, cd, Fd, rfl, hOd, hNd⟩ := own_sl4 hO2
              obtain ⟨Fx, hOel, ex⟩ := makeOPiece (p := (id, ((j : Nat) : Int), ((N : Nat) : Int), sub)) HID.out HJW.out HNW.out hOd
              subst ex
              have hgs := hf.size
              have hf2 := hf.below hb2
              have hsz2 := hb2.size
              have hP := Fill.push (K := 4) hf2 (by rw [HLN.out]; exact hlt) hOel (hNF.not (by omega)) (hNd.not hgs) rfl
              rw [HLN.out, ← HT.out] at hP
              have hM : New (w.heap.size + 1) (F ++ Fx) := New.app hNF hNd (by omega) hf.lt
              obtain ⟨u0, k0⟩ := hf2.cell (K := 4) (j := 0) (by rw [HLN.out]; exact hlt) rfl (by omega)
              rw [HLN.out] at k0
              replace k0 : w2.cell? ⟨w.heap.size, j * 4, none⟩ = some u0 := k0
              have f0 := hf2.frozen (j * 4)
              obtain ⟨u1, k1⟩ := hf2.cell (K := 4) (j := 1) (by rw [HLN.out]; exact hlt) rfl (by omega)
              rw [HLN.out] at k1
              replace k1 : w2.cell? ⟨w.heap.size, j * 4 + 1, none⟩ = some u1 := k1
              have f1 := hf2.frozen (j * 4 + 1)
              obtain ⟨u2, k2⟩ := hf2.cell (K := 4) (j := 2) (by rw [HLN.out]; exact hlt) rfl (by omega)
              rw [HLN.out] at k2
              replace k2 : w2.cell? ⟨w.heap.size, j * 4 + 2, none⟩ = some u2 := k2
              have f2 := hf2.frozen (j * 4 + 2)
              obtain ⟨u3, k3⟩ := hf2.cell (K := 4) (j := 3) (by rw [HLN.out]; exact hlt) rfl (by omega)
              rw [HLN.out] at k3
              replace k3 : w2.cell? ⟨w.heap.size, j * 4 + 3, none⟩ = some u3 := k3
              have f3 := hf2.frozen (j * 4 + 3)
              go_wp2
              go_roundw
              case rel => exact ⟨j + 1, by omega, by go_num, below_puts (bel_trans hB hb2) (Nat.le_refl _) (off := j * 4) (vs := [.int .i64 id, .int .i64 ((j : Nat) : Int), .int .i64 ((N : Nat) : Int), .slice Ad sub.length cd]), _, hP, hM⟩
              case measure => first | (simp [RowKit.intOf]; done) | (simp [RowKit.intOf]; omega)
            · exact absurd (show (n : Int) < (j : Int) * 20 + 20 by have h1 := HN0.out; omega) hend
          · obtain rfl : j = N := by omega
            have HA := Lib.hid (show (splL id msg).take j = splL id msg from List.take_of_length_le (Nat.le_of_eq HLL.out))
            rw [HA.out] at hf
            obtain ⟨F', hO, hF'⟩ := hf.done HLL.out (by omega)
            rw [HLL.out] at hO
            go_wp2
            go_ret2
            exact ⟨_, _, F', rfl, hO, New.cons hNF hF', hB⟩
  · obtain ⟨b, off, rfl, hb, -⟩ := hl.2.1 (by omega)
    go_enter Try.func19, Try.ntmps19
    go_wp2_with (first
      | (go_at_call 23; refine (i_isId_t _ _ g1 g2).mono ?_; rintro e w' ⟨rfl, rfl⟩)
      | (go_at_call 51; refine (i_PiecesFor _ _).mono ?_; rintro e w' ⟨rfl, rfl⟩; rw [HPF.out])
      | (at_make; refine wpList_mkS _ rfl (.tmp 20) (.tmp 20) _ rfl 24 i1 _ 4 Try.underlying47 hj0 hj1 hj2 N rfl rfl (by rw [hj3]; omega) (by simp only [maxLen]; omega) ?_; intro w1 cur hcur hsz hB1 hgr))
    go_loopw [24] (fun i wr => ∃ j : Nat, j ≤ N ∧ i = .int .i64 j ∧ Below w.heap.size w wr ∧ ∃ F, Fill tPiece wr w.heap.size 24 N ((splL id msg).take j) F ∧ New (w.heap.size + 1) F) (fun i _ => N - (RowKit.intOf i).toNat)
    case atStart => exact ⟨0, by omega, rfl, hB1, [], Fill.start hcur hsz, New.nil _⟩
    case round =>
      obtain ⟨j, hj, rfl, hB, F, hf, hNF⟩ := hrel
      by_cases hlt : j < N
      · have hl2 := splL_at (id := id) HN.out hlt
        have HT := Lib.hid (take_sn hl2)
        have HLN := Lib.hid (show ((splL id msg).take j).length = j from by rw [List.length_take, HLL.out]; omega)
        have HJW := Lib.hid (show (Lit.int .i64 (j : Int)).wf = true from WalkArith.wf_i64 ⟨by omega, by omega⟩)
        have jN : (j : Int) < (N : Int) := by omega
        have jj := HNN.out
        have hI := split_subS hl (j := j)
        have k1 : j * 20 < c := by (have h3 := HNN.out; omega)
        have k2 : ¬ c - j * 20 = 0 := by omega
        obtain ⟨sub, hsub⟩ : ∃ sub, (msg.drop (j * 20)).take 20 = sub := ⟨_, rfl⟩
        obtain ⟨m, hm⟩ : ∃ m, min 20 (n - j * 20) = m := ⟨_, rfl⟩
        rw [hsub] at HT
        rw [hsub, hm] at hI
        have i3 : (0 : Int) ≤ (j : Int) * 20 := by omega
        have i4 : (j : Int) * 20 ≤ (n : Int) := by omega
        have i5 : (n : Int) ≤ ((c : Nat) : Int) := by omega
        have p1 : IntKind.i64.wrap ((j : Int) * 20) = (j : Int) * 20 := IntWalk.i64_in _ (by omega)
        have i2 : IntKind.i64.wrap ((j : Int) * 20 + 20) = (j : Int) * 20 + 20 := IntWalk.i64_in _ (by omega)
        have t1 : ((j : Int) * 20).toNat = j * 20 := by omega
        have hm2 : m ≤ 20 := by omega
        by_cases hend : (n : Int) < (j : Int) * 20 + 20
        · skip
          have t2 : ((n : Int) - (j : Int) * 20).toNat = m := by omega
          have t3 : n - j * 20 = m := by omega
          have q7 : ¬ (j : Int) * 20 + 20 ≤ (n : Int) := by omega
          clear hl2 hsub hm jj
          go_wp2_with fail
          refine (i_copied4 (reach hI hB) (by omega)).mono ?_
          rintro e w2 ⟨v2, rfl, hO2, hb2⟩
          obtain ⟨Ad, cd, Fd, rfl, hOd, hNd⟩ := own_sl4 hO2
          obtain ⟨Fx, hOel, ex⟩ := makeOPiece (p := (id, ((j : Nat) : Int), ((N : Nat) : Int), sub)) HID.out HJW.out HNW.out hOd
          subst ex
          have hgs := hf.size
          have hf2 := hf.below hb2
          have hsz2 := hb2.size
          have hP := Fill.push (K := 4) hf2 (by rw [HLN.out]; exact hlt) hOel (hNF.not (by omega)) (hNd.not hgs) rfl
          rw [HLN.out, ← HT.out] at hP
          have hM : New (w.heap.size + 1) (F ++ Fx) := New.app hNF hNd (by omega) hf.lt
          obtain ⟨u0, k0⟩ := hf2.cell (K := 4) (j := 0) (by rw [HLN.out]; exact hlt) rfl (by omega)
          rw [HLN.out] at k0
          replace k0 : w2.cell? ⟨w.heap.size, j * 4, none⟩ = some u0 := k0
          have f0 := hf2.frozen (j * 4)
          obtain ⟨u1, k1⟩ := hf2.cell (K := 4) (j := 1) (by rw [HLN.out]; exact hlt) rfl (by omega)
          rw [HLN.out] at k1
          replace k1 : w2.cell? ⟨w.heap.size, j * 4 + 1, none⟩ = some u1 := k1
          have f1 := hf2.frozen (j * 4 + 1)
          obtain ⟨u2, k2⟩ := hf2.cell (K := 4) (j := 2) (by rw [HLN.out]; exact hlt) rfl (by omega)
          rw [HLN.out] at k2
          replace k2 : w2.cell? ⟨w.heap.size, j * 4 + 2, none⟩ = some u2 := k2
          have f2 := hf2.frozen (j * 4 + 2)
          obtain ⟨u3, k3⟩ := hf2.cell (K := 4) (j := 3) (by rw [HLN.out]; exact hlt) rfl (by omega)
          rw [HLN.out] at k3
          replace k3 : w2.cell? ⟨w.heap.size, j * 4 + 3, none⟩ = some u3 := k3
          have f3 := hf2.frozen (j * 4 + 3)
          go_wp2
          go_roundw
          case rel => exact ⟨j + 1, by omega, by go_num, below_puts (bel_trans hB hb2) (Nat.le_refl _) (off := j * 4) (vs := [.int .i64 id, .int .i64 ((j : Nat) : Int), .int .i64 ((N : Nat) : Int), .slice Ad sub.length cd]), _, hP, hM⟩
          case measure => first | (simp [RowKit.intOf]; done) | (simp [RowKit.intOf]; omega)
        · have i6 : (j : Int) * 20 + 20 ≤ ((c : Nat) : Int) := by omega
          have q7 : (j : Int) * 20 + 20 ≤ (n : Int) := by omega
          obtain rfl : m = 20 := by omega
          have t2 : ((j : Int) * 20 + 20 - (j : Int) * 20).toNat = 20 := by omega
          have t3 : j * 20 + 20 - j * 20 = 20 := by omega
          clear hl2 hsub hm jj
          go_wp2_with fail
          refine (i_copied4 (reach hI hB) (by omega)).mono ?_
          rintro e w2 ⟨v2, rfl, hO2, hb2⟩
          obtain ⟨Ad, cd, Fd, rfl, hOd, hNd⟩ := own_sl4 hO2
          obtain ⟨Fx, hOel, ex⟩ := makeOPiece (p := (id, ((j : Nat) : Int), ((N : Nat) : Int), sub)) HID.out HJW.out HNW.out hOd
          subst ex
          have hgs := hf.size
          have hf2 := hf.below hb2
          have hsz2 := hb2.size
          have hP := Fill.push (K := 4) hf2 (by rw [HLN.out]; exact hlt) hOel (hNF.not (by omega)) (hNd.not hgs) rfl
          rw [HLN.out, ← HT.out] at hP
          have hM : New (w.heap.size + 1) (F ++ Fx) := New.app hNF hNd (by omega) hf.lt
          obtain ⟨u0, k0⟩ := hf2.cell (K := 4) (j := 0) (by rw [HLN.out]; exact hlt) rfl (by omega)
          rw [HLN.out] at k0
          replace k0 : w2.cell? ⟨w.heap.size, j * 4, none⟩ = some u0 := k0
          have f0 := hf2.frozen (j * 4)
          obtain ⟨u1, k1⟩ := hf2.cell (K := 4) (j := 1) (by rw [HLN.out]; exact hlt) rfl (by omega)
          rw [HLN.out] at k1
          replace k1 : w2.cell? ⟨w.heap.size, j * 4 + 1, none⟩ = some u1 := k1
          have f1 := hf2.frozen (j * 4 + 1)
          obtain ⟨u2, k2⟩ := hf2.cell (K := 4) (j := 2) (by rw [HLN.out]; exact hlt) rfl (by omega)
          rw [HLN.out] at k2
          replace k2 : w2.cell? ⟨w.heap.size, j * 4 + 2, none⟩ = some u2 := k2
          have f2 := hf2.frozen (j * 4 + 2)
          obtain ⟨u3, k3⟩ := hf2.cell (K := 4) (j := 3) (by rw [HLN.out]; exact hlt) rfl (by omega)
          rw [HLN.out] at k3
          replace k3 : w2.cell? ⟨w.heap.size, j * 4 + 3, none⟩ = some u3 := k3
          have f3 := hf2.frozen (j * 4 + 3)
          go_wp2
          go_roundw
          case rel => exact ⟨j + 1, by omega, by go_num, below_puts (bel_trans hB hb2) (Nat.le_refl _) (off := j * 4) (vs := [.int .i64 id, .int .i64 ((j : Nat) : Int), .int .i64 ((N : Nat) : Int), .slice Ad sub.length cd]), _, hP, hM⟩
          case measure => first | (simp [RowKit.intOf]; done) | (simp [RowKit.intOf]; omega)
      · obtain rfl : j = N := by omega
        have HA := Lib.hid (show (splL id msg).take j = splL id msg from List.take_of_length_le (Nat.le_of_eq HLL.out))
        rw [HA.out] at hf
        obtain ⟨F', hO, hF'⟩ := hf.done HLL.out (by omega)
        rw [HLL.out] at hO
        go_wp2
        go_ret2
        exact ⟨_, _, F', rfl, hO, New.cons hNF hF', hB⟩
end Go.Proofs.Ytaabmaoldhoinaa
namespace Go.Proofs.Ytaabmaoldhoinaa
set_option maxRecDepth 100000
set_option linter.unusedVariables false
set_option linter.unusedSimpArgs false
open Go.ChangeShapes Go.WideShapes Go.ChangeAt Go.RowKit
theorem Own.keptZ {k : IntKind} {e : TypeId} {w w' : World} {base : Nat} {v : Value} {l : List Int} (h : Own k e w base v l) (hk : ∀ b, v.ownBlock = some b → w'.heap[b]? = w.heap[b]?) : Own k e w' base v l := by
  obtain ⟨⟨h1, h2⟩, h3⟩ := h
  refine ⟨⟨h1, ?_⟩, h3⟩
  rcases h2 with h2 | ⟨g, cap, cur, hv, hg, hh, r⟩
  · exact .inl h2
  · exact .inr ⟨g, cap, cur, hv, hg, (hk g (by rw [hv]; rfl)).trans hh, r⟩
theorem Own.raise {k : IntKind} {e : TypeId} {w : World} {base base' : Nat} {v : Value} {l : List Int} (h : Own k e w base v l) (hb : ∀ b, v.ownBlock = some b → base' ≤ b) : Own k e w base' v l := by
  obtain ⟨⟨h1, h2⟩, h3⟩ := h
  refine ⟨⟨h1, ?_⟩, h3⟩
  rcases h2 with h2 | ⟨g, cap, cur, hv, hg, r⟩
  · exact .inl h2
  · exact .inr ⟨g, cap, cur, hv, hb g (by rw [hv]; rfl), r⟩
theorem toList_some {b : Nat} {o : Option Nat} : b ∈ o.toList ↔ o = some b := by cases o <;> simp [eq_comm]
def tByZ : Ty (List Int) where
  k := 1
  R := (tSl .u8).R
  O := fun w cs l F => ∃ v, cs = [v] ∧ Own .u8 5 w 0 v l ∧ F = v.ownBlock.toList
  lenR := (tSl .u8).lenR
  lenO := fun h => by obtain ⟨v, rfl, -⟩ := h; rfl
  keep := (tSl .u8).keep
  up := (tSl .u8).up
  kept := fun h hk => by
    obtain ⟨v, rfl, hO, rfl⟩ := h
    exact ⟨v, rfl, hO.keptZ fun b hb => hk b (toList_some.2 hb), rfl⟩
  lt := fun h f hf => by
    obtain ⟨v, rfl, hO, rfl⟩ := h
    exact (hO.block (toList_some.1 hf)).2
  read := fun h => by
    obtain ⟨v, rfl, hO, rfl⟩ := h
    obtain ⟨F, hF, -⟩ := hO.tSl
    exact (tSl .u8).read hF
abbrev tPieceZ : Ty DPiece := tInt.prod (tInt.prod (tInt.prod tByZ))
theorem own_slZ {w : World} {base : Nat} {v : Value} {l : List Int} (h : Own .u8 5 w base v l) : ∃ A c F, v = .slice A l.length c ∧ tByZ.O w [.slice A l.length c] l F ∧ New base F := by
  obtain ⟨A, c, rfl, -⟩ := h.shape
  refine ⟨A, c, _, rfl, ⟨_, rfl, h.lower (Nat.zero_le _), rfl⟩, ?_, fun f hf => (h.block (toList_some.1 hf)).1⟩
  cases Value.ownBlock (.slice A l.length c) <;> simp
theorem makeOPieceZ {w : World} {p : DPiece} {v3 : Value} {F3 : List Nat} (h0 : (Lit.int .i64 (p.1)).wf = true) (h1 : (Lit.int .i64 (p.2.1)).wf = true) (h2 : (Lit.int .i64 (p.2.2.1)).wf = true) (h3 : tByZ.O w [v3] (p.2.2.2) F3) : ∃ F, tPieceZ.O w [.int .i64 (p.1), .int .i64 (p.2.1), .int .i64 (p.2.2.1), v3] p F ∧ F = F3 := ⟨_, ⟨_, _, _, _, rfl, rfl, ⟨rfl, h0, rfl⟩, ⟨_, _, _, _, rfl, rfl, ⟨rfl, h1, rfl⟩, ⟨_, _, _, _, rfl, rfl, ⟨rfl, h2, rfl⟩, h3⟩⟩⟩, by simp⟩
theorem openOPieceZ {w : World} {cs : List Value} {p : DPiece} {F : List Nat} (h : tPieceZ.O w cs p F) : ∃ v3, cs = [.int .i64 (p.1), .int .i64 (p.2.1), .int .i64 (p.2.2.1), v3] ∧ Own .u8 5 w 0 v3 p.2.2.2 ∧ ∀ b, v3.ownBlock = some b → b ∈ F := by
  obtain ⟨ca1, cb1, Fa1, Fb1, rfl, rfl, ha1, hb1⟩ := h
  obtain ⟨rfl, hi2, rfl⟩ := ha1
  obtain ⟨ca3, cb3, Fa3, Fb3, rfl, rfl, ha3, hb3⟩ := hb1
  obtain ⟨rfl, hi4, rfl⟩ := ha3
  obtain ⟨ca5, cb5, Fa5, Fb5, rfl, rfl, ha5, hb5⟩ := hb3
  obtain ⟨rfl, hi6, rfl⟩ := ha5
  obtain ⟨v, rfl, hO, rfl⟩ := hb5
  exact ⟨v, rfl, hO, fun b hb => by simpa using hb⟩
set_option maxHeartbeats 4000000 in
theorem s_SplitZ {w : World} {id : Int} {A : Option Addr} {n c : Nat} {msg : List Int} (hid : (Lit.int .i64 id).wf = true) (h : tBy.R w w.heap.size [.slice A n c] msg) (hz : msg.length ≤ 1048576) :
    Calls Try.prog 53 #[.int .i64 id, .slice A n c] w fun e w' => ∃ A' c' F, e = .returned (.tuple #[.slice A' (fSpl id msg).length c', .bool (decide (SpOk id msg))]) ∧ tPieceZ.row.O w' [.slice A' (fSpl id msg).length c'] (fSpl id msg) F ∧ New w.heap.size F ∧ Below w.heap.size w w' := by
  obtain ⟨i0, hi0, hz0, hz1, hz2⟩ := info_parts info_cb
  obtain ⟨i1, hj0, hj1, hj2, hj3⟩ := info_parts info_Piece
  obtain ⟨hl, hnc, hcm⟩ := slR_ints h
  have hlen := hl.1
  by_cases hs : SpOk id msg
  rotate_left
  · rw [fSpl_f hs, decide_eq_false hs]
    have hnil : tPieceZ.row.O w [.slice none 0 0] [] [] := .inl ⟨none, 0, rfl, by omega, rfl, rfl⟩
    by_cases h1 : id < 0
    · clear hs
      go_enter Try.func53, Try.ntmps53
      go_wp2
      go_ret2
      first | exact ⟨none, 0, [], rfl, hnil, New.nil _, (belx)⟩ | exact ⟨none, 0, rfl, [], hnil, New.nil _, (belx)⟩
    by_cases h2 : 255 < id
    · clear hs
      go_enter Try.func53, Try.ntmps53
      go_wp2
      go_ret2
      first | exact ⟨none, 0, [], rfl, hnil, New.nil _, (belx)⟩ | exact ⟨none, 0, rfl, [], hnil, New.nil _, (belx)⟩
    have h3 : (160 : Int) < (n : Int) := by unfold SpOk at hs; omega
    clear hs
    go_enter Try.func53, Try.ntmps53
    go_wp2
    go_ret2
    first | exact ⟨none, 0, [], rfl, hnil, New.nil _, (belx)⟩ | exact ⟨none, 0, rfl, [], hnil, New.nil _, (belx)⟩
  rw [fSpl_t hs, decide_eq_true hs]
  obtain ⟨⟨g1, g2⟩, g3⟩ := hs
  have hn : n ≤ 160 := by omega
  have q3 : ¬ (160 : Int) < (n : Int) := by omega
  obtain ⟨N, hN⟩ : ∃ N, splN msg.length = N := ⟨_, rfl⟩
  have hN8 : 1 ≤ N ∧ N ≤ 8 := by rw [← hN]; exact splN_le g3
  have HN := Lib.hid hN
  have HID := Lib.hid hid
  have HL := Lib.hid hlen
  have HNW := Lib.hid (show (Lit.int .i64 (N : Int)).wf = true from WalkArith.wf_i64 ⟨by omega, by omega⟩)
  have HLL := Lib.hid (show (splL id msg).length = N from by rw [splL_len, hN])
  have hNn : (n = 0 ∧ N = 1) ∨ (1 ≤ n ∧ N = (n + 19) / 20) := by
    rw [hlen] at hN; unfold splN at hN; split at hN <;> omega
  clear hid hlen g3 hz hN
  rw [HLL.out]
  have q5 : n = 0 ∨ (((n : Int) + 20 - 1) / 20 = (N : Int) ∧ ((N : Int) == 0) = false) := by
    rcases hNn with h | h
    · exact .inl h.1
    · exact .inr ⟨by omega, by simp; omega⟩
  have d1 : decide (id < 0) = false := decide_eq_false (by omega)
  have d2 : decide (255 < id) = false := decide_eq_false (by omega)
  rcases q5 with rfl | ⟨q5, q6⟩
  · obtain rfl : N = 1 := by omega
    go_enter Try.func53, Try.ntmps53
    go_wp2_with fail
    go_loopw [7, 8] (fun v i wr => ∃ (j : Nat) (F : List Nat), j ≤ 1 ∧ i = .int .i64 j ∧ GrowO tPieceZ 24 wr w.heap.size v ((splL id msg).take j) F ∧ Below w.heap.size w wr) (fun _ i _ => 1 - (RowKit.intOf i).toNat)
    case atStart => exact ⟨0, [], by omega, rfl, GrowO.nil, (belx)⟩
    case round =>
      obtain ⟨j, F, hj, rfl, hG, hB⟩ := hrel
      by_cases hlt : j < 1
      · obtain rfl : j = 0 := by omega
        have hl2 := splL_at (id := id) HN.out hlt
        have HT := Lib.hid (take_sn hl2)
        have HLN := Lib.hid (show ((splL id msg).take 0).length = 0 from rfl)
        have HJW := Lib.hid (show (Lit.int .i64 ((0 : Nat) : Int)).wf = true from rfl)
        obtain ⟨sub, hsub⟩ : ∃ sub : List Int, sub = [] := ⟨_, rfl⟩
        have HSL := Lib.hid (show sub.length = 0 from by rw [hsub]; rfl)
        have HSW := Lib.hid (show ∀ x ∈ sub, (Lit.int .u8 x).wf = true from by rw [hsub]; simp)
        have HSB := Lib.hid hsub
        have hm0 : (msg.drop (0 * 20)).take 20 = sub := by rw [hsub, List.eq_nil_of_length_eq_zero HL.out]; rfl
        rw [hm0] at HT
        clear hl2 hsub hm0 hlt
        rcases A with _ | a
        · have hE : (wr.alloc (.cells #[] 5)).ownsRow wr.heap.size 5 1 (.slice (some ⟨wr.heap.size, 0, none⟩) 0 0) 0 [] := empty4 wr 5
          have hS : Src (wr.alloc (.cells #[] 5)) 1 none 0 (sub.map (Value.int .u8)) := by rw [HSB.out]; exact Src.nil _ _ _
          have hOwn := fun b hb => (GrowO.row hG).choose_spec.1.lt b hb
          have hlt2 := hG.lt
          have zB := hB.size
          go_wp2_with (first
            | (at_builtin; refine wpList_app _ rfl (.tmp 46) (.tmp 51) _ rfl wr.heap.size 5 i0 _ 1 1 Try.underlying22 hi0 hz0 hz1 hz2 rfl (by omega) (.slice (some ⟨wr.heap.size, 0, none⟩) 0 0) 0 [] rfl hE none 0 _ (sub.map (Value.int .u8)) rfl hS (one_ints _ _) (by simp only [maxLen]; omega) (by omega) (by simp; done) ?_; intro v1 w1 hown hgr hat; obtain ⟨Ad, cd, Fd, rfl, hOd, hNd⟩ := own_slZ (Own.of (n := 0 + 0) (by simpa using hown) HSW.out); have hs1 : Below wr.heap.size wr w1 := Below.grown (w := wr.alloc (.cells #[] 5)) (belx) hgr (by simp) (fun b hb => by have e := Option.some.inj (show some wr.heap.size = some b from hb); omega))
            | (at_builtin; have hBx : Below wr.heap.size wr (w1.alloc (.cells [.int .i64 id, .int .i64 (0 : Int), .int .i64 (1 : Int), .slice Ad sub.length cd].toArray 24)) := bel_alloc hs1 _; have tz : (Value.agg #[Value.int .i64 0, Value.int .i64 0, Value.int .i64 0, Value.slice none 0 0]).cells.size = 4 := (by first | rfl | (simp [Value.cells]; done)); have t1 : ((splL id msg).take 0).length + 1 ≤ maxLen := (by simp only [maxLen]; have := HLN.out; omega); have t2 : ((splL id msg).take 0).length + 1 ≤ 9 := (by have := HLN.out; omega); have t3 := hBx.size; have hOx : tByZ.O (w1.alloc (.cells [.int .i64 id, .int .i64 (0 : Int), .int .i64 (1 : Int), .slice Ad sub.length cd].toArray 24)) [.slice Ad sub.length cd] sub Fd := Ty.below (t := tByZ) hOd (belx); obtain ⟨Fx, hOel, ex⟩ := makeOPieceZ (p := (id, (0 : Int), (1 : Int), sub)) HID.out HJW.out HNW.out hOx; subst ex; refine GrowO.push rfl (.tmp 42) (.tmp 54) _ rfl i1 _ 4 48 Try.underlying47 hj0 hj1 hj2 hj3 tz (by omega) rfl rfl (hG.below hBx) w1.heap.size [.int .i64 id, .int .i64 (0 : Int), .int .i64 (1 : Int), .slice Ad sub.length cd] (id, (0 : Int), (1 : Int), sub) rfl (Box.new w1 24 _) hOel (hNd.lower (by omega)) (fun f h1 h2 => by have := hNd.2 _ h1; have := hlt2 f h2; omega) (fun b hb hx => by have := (hOwn b hb).2; have := hNd.2 _ hx; omega) (one_piece _ _ _ _ _ _) (by omega) t1 (by omega) ?_; intro v2 w2 hG2 hgr2; have hBf : Below w.heap.size w w2 := Below.grown (w := (w1.alloc (.cells [.int .i64 id, .int .i64 (0 : Int), .int .i64 (1 : Int), .slice Ad sub.length cd].toArray 24))) (bel_trans hB hBx) hgr2 (by omega) (fun b hb => (hOwn b hb).1)))
          go_roundw
          case rel => exact ⟨0 + 1, _, by omega, by go_num, by rw [HT.out]; exact hG2, hBf⟩
          case measure => first | (simp [RowKit.intOf]; done) | (simp [RowKit.intOf]; omega)
        · have hE : (wr.alloc (.cells #[] 5)).ownsRow wr.heap.size 5 1 (.slice (some ⟨wr.heap.size, 0, none⟩) 0 0) 0 [] := empty4 wr 5
          have hS : Src (wr.alloc (.cells #[] 5)) 1 (some a) 0 (sub.map (Value.int .u8)) := by rw [HSB.out]; exact Src.nil _ _ _
          have hOwn := fun b hb => (GrowO.row hG).choose_spec.1.lt b hb
          have hlt2 := hG.lt
          have zB := hB.size
          go_wp2_with (first
            | (at_builtin; refine wpList_app _ rfl (.tmp 46) (.tmp 51) _ rfl wr.heap.size 5 i0 _ 1 1 Try.underlying22 hi0 hz0 hz1 hz2 rfl (by omega) (.slice (some ⟨wr.heap.size, 0, none⟩) 0 0) 0 [] rfl hE (some a) 0 _ (sub.map (Value.int .u8)) rfl hS (one_ints _ _) (by simp only [maxLen]; omega) (by omega) (by simp; done) ?_; intro v1 w1 hown hgr hat; obtain ⟨Ad, cd, Fd, rfl, hOd, hNd⟩ := own_slZ (Own.of (n := 0 + 0) (by simpa using hown) HSW.out); have hs1 : Below wr.heap.size wr w1 := Below.grown (w := wr.alloc (.cells #[] 5)) (belx) hgr (by simp) (fun b hb => by have e := Option.some.inj (show some wr.heap.size = some b from hb); omega))
            | (at_builtin; have hBx : Below wr.heap.size wr (w1.alloc (.cells [.int .i64 id, .int .i64 (0 : Int), .int .i64 (1 : Int), .slice Ad sub.length cd].toArray 24)) := bel_alloc hs1 _; have tz : (Value.agg #[Value.int .i64 0, Value.int .i64 0, Value.int .i64 0, Value.slice none 0 0]).cells.size = 4 := (by first | rfl | (simp [Value.cells]; done)); have t1 : ((splL id msg).take 0).length + 1 ≤ maxLen := (by simp only [maxLen]; have := HLN.out; omega); have t2 : ((splL id msg).take 0).length + 1 ≤ 9 := (by have := HLN.out; omega); have t3 := hBx.size; have hOx : tByZ.O (w1.alloc (.cells [.int .i64 id, .int .i64 (0 : Int), .int .i64 (1 : Int), .slice Ad sub.length cd].toArray 24)) [.slice Ad sub.length cd] sub Fd := Ty.below (t := tByZ) hOd (belx); obtain ⟨Fx, hOel, ex⟩ := makeOPieceZ (p := (id, (0 : Int), (1 : Int), sub)) HID.out HJW.out HNW.out hOx; subst ex; refine GrowO.push rfl (.tmp 42) (.tmp 54) _ rfl i1 _ 4 48 Try.underlying47 hj0 hj1 hj2 hj3 tz (by omega) rfl rfl (hG.below hBx) w1.heap.size [.int .i64 id, .int .i64 (0 : Int), .int .i64 (1 : Int), .slice Ad sub.length cd] (id, (0 : Int), (1 : Int), sub) rfl (Box.new w1 24 _) hOel (hNd.lower (by omega)) (fun f h1 h2 => by have := hNd.2 _ h1; have := hlt2 f h2; omega) (fun b hb hx => by have := (hOwn b hb).2; have := hNd.2 _ hx; omega) (one_piece _ _ _ _ _ _) (by omega) t1 (by omega) ?_; intro v2 w2 hG2 hgr2; have hBf : Below w.heap.size w w2 := Below.grown (w := (w1.alloc (.cells [.int .i64 id, .int .i64 (0 : Int), .int .i64 (1 : Int), .slice Ad sub.length cd].toArray 24))) (bel_trans hB hBx) hgr2 (by omega) (fun b hb => (hOwn b hb).1)))
          go_roundw
          case rel => exact ⟨0 + 1, _, by omega, by go_num, by rw [HT.out]; exact hG2, hBf⟩
          case measure => first | (simp [RowKit.intOf]; done) | (simp [RowKit.intOf]; omega)
      · obtain rfl : j = 1 := by omega
        have HA := Lib.hid (show (splL id msg).take 1 = splL id msg from List.take_of_length_le (Nat.le_of_eq HLL.out))
        rw [HA.out] at hG
        obtain ⟨A3, c3, F3, hv, hO3, hN3⟩ := hG.done
        rw [HLL.out] at hv hO3
        subst hv
        go_wp2
        go_ret2
        exact ⟨A3, c3, F3, rfl, hO3, hN3, hB⟩
  · go_enter Try.func53, Try.ntmps53
    go_wp2_with fail
    go_loopw [7, 8] (fun v i wr => ∃ (j : Nat) (F : List Nat), j ≤ N ∧ i = .int .i64 j ∧ GrowO tPieceZ 24 wr w.heap.size v ((splL id msg).take j) F ∧ Below w.heap.size w wr) (fun _ i _ => N - (RowKit.intOf i).toNat)
    case atStart => exact ⟨0, [], by omega, rfl, GrowO.nil, (belx)⟩
    case round =>
      obtain ⟨j, F, hj, rfl, hG, hB⟩ := hrel
      by_cases hlt : j < N
      · have hl2 := splL_at (id := id) HN.out hlt
        have HT := Lib.hid (take_sn hl2)
        have HLN := Lib.hid (show ((splL id msg).take j).length = j from by rw [List.length_take, HLL.out]; omega)
        have HJW := Lib.hid (show (Lit.int .i64 (j : Int)).wf = true from WalkArith.wf_i64 ⟨by omega, by omega⟩)
        obtain ⟨b, off, rfl, hb, -⟩ := hl.2.1 (by omega)
        obtain ⟨m, hm, hm20⟩ : ∃ m, m = min 20 (n - j * 20) ∧ j * 20 + m ≤ n := ⟨_, rfl, by omega⟩
        obtain ⟨sub, hsub⟩ : ∃ sub, (msg.drop (j * 20)).take 20 = sub := ⟨_, rfl⟩
        have hmid : (msg.drop (j * 20)).take m = sub := by
          rw [← hsub]
          by_cases h20 : m = 20
          · rw [h20]
          · rw [List.take_of_length_le (by rw [List.length_drop, HL.out]; omega), List.take_of_length_le (by rw [List.length_drop, HL.out]; omega)]
        have hI := ints_mid hl hm20
        rw [hmid] at hI
        rw [hsub] at HT
        have HSL := Lib.hid hI.1
        have HSW := Lib.hid hI.2.2
        clear hl2 hsub hmid
        have p1 : IntKind.i64.wrap ((j : Int) * 20) = (j : Int) * 20 := IntWalk.i64_in _ (by omega)
        have i2 : IntKind.i64.wrap (((j : Int) + 1) * 20) = ((j : Int) + 1) * 20 := IntWalk.i64_in _ (by omega)
        have i3 : (0 : Int) ≤ (j : Int) * 20 := by omega
        have i4 : (j : Int) * 20 ≤ (n : Int) := by omega
        have i5 : (n : Int) ≤ (c : Int) := by omega
        by_cases hend : (n : Int) < ((j : Int) + 1) * 20
        · have t1 : ((j : Int) * 20).toNat = j * 20 := by omega
          have t2 : ((n : Int) - (j : Int) * 20).toNat = m := by omega
          have t3 : n - j * 20 = m := by omega
          clear hm
          have hE : (wr.alloc (.cells #[] 5)).ownsRow wr.heap.size 5 1 (.slice (some ⟨wr.heap.size, 0, none⟩) 0 0) 0 [] := empty4 wr 5
          have hS : Src (wr.alloc (.cells #[] 5)) 1 (some ⟨b, off + j * 20, none⟩) m (sub.map (Value.int .u8)) := Src.of_ints (reach (reach hI hB) (belx))
          have hOwn := fun b hb => (GrowO.row hG).choose_spec.1.lt b hb
          have hlt2 := hG.lt
          have zB := hB.size
          go_wp2_with (first
            | (at_builtin; refine wpList_app _ rfl (.tmp 46) (.tmp 51) _ rfl wr.heap.size 5 i0 _ 1 1 Try.underlying22 hi0 hz0 hz1 hz2 rfl (by omega) (.slice (some ⟨wr.heap.size, 0, none⟩) 0 0) 0 [] rfl hE (some ⟨b, off + j * 20, none⟩) m _ (sub.map (Value.int .u8)) rfl hS (one_ints _ _) (by simp only [maxLen]; omega) (by omega) (by simp; done) ?_; intro v1 w1 hown hgr hat; obtain ⟨Ad, cd, Fd, rfl, hOd, hNd⟩ := own_slZ (Own.of (n := 0 + m) (by simpa using hown) HSW.out); have hs1 : Below wr.heap.size wr w1 := Below.grown (w := wr.alloc (.cells #[] 5)) (belx) hgr (by simp) (fun b hb => by have e := Option.some.inj (show some wr.heap.size = some b from hb); omega))
            | (at_builtin; have hBx : Below wr.heap.size wr (w1.alloc (.cells [.int .i64 id, .int .i64 (j : Int), .int .i64 (N : Int), .slice Ad sub.length cd].toArray 24)) := bel_alloc hs1 _; have tz : (Value.agg #[Value.int .i64 0, Value.int .i64 0, Value.int .i64 0, Value.slice none 0 0]).cells.size = 4 := (by first | rfl | (simp [Value.cells]; done)); have t1 : ((splL id msg).take j).length + 1 ≤ maxLen := (by simp only [maxLen]; have := HLN.out; omega); have t2 : ((splL id msg).take j).length + 1 ≤ 9 := (by have := HLN.out; omega); have t3 := hBx.size; have hOx : tByZ.O (w1.alloc (.cells [.int .i64 id, .int .i64 (j : Int), .int .i64 (N : Int), .slice Ad sub.length cd].toArray 24)) [.slice Ad sub.length cd] sub Fd := Ty.below (t := tByZ) hOd (belx); obtain ⟨Fx, hOel, ex⟩ := makeOPieceZ (p := (id, (j : Int), (N : Int), sub)) HID.out HJW.out HNW.out hOx; subst ex; refine GrowO.push rfl (.tmp 42) (.tmp 54) _ rfl i1 _ 4 48 Try.underlying47 hj0 hj1 hj2 hj3 tz (by omega) rfl rfl (hG.below hBx) w1.heap.size [.int .i64 id, .int .i64 (j : Int), .int .i64 (N : Int), .slice Ad sub.length cd] (id, (j : Int), (N : Int), sub) rfl (Box.new w1 24 _) hOel (hNd.lower (by omega)) (fun f h1 h2 => by have := hNd.2 _ h1; have := hlt2 f h2; omega) (fun b hb hx => by have := (hOwn b hb).2; have := hNd.2 _ hx; omega) (one_piece _ _ _ _ _ _) (by omega) t1 (by omega) ?_; intro v2 w2 hG2 hgr2; have hBf : Below w.heap.size w w2 := Below.grown (w := (w1.alloc (.cells [.int .i64 id, .int .i64 (j : Int), .int .i64 (N : Int), .slice Ad sub.length cd].toArray 24))) (bel_trans hB hBx) hgr2 (by omega) (fun b hb => (hOwn b hb).1)))
          go_roundw
          case rel => exact ⟨j + 1, _, by omega, by go_num, by rw [HT.out]; exact hG2, hBf⟩
          case measure => first | (simp [RowKit.intOf]; done) | (simp [RowKit.intOf]; omega)
        · have i6 : ((j : Int) + 1) * 20 ≤ (c : Int) := by omega
          have t1 : ((j : Int) * 20).toNat = j * 20 := by omega
          obtain rfl : m = 20 := by omega
          have t2 : (((j : Int) + 1) * 20 - (j : Int) * 20).toNat = 20 := by omega
          have h20 : (j + 1) * 20 - j * 20 = 20 := by omega
          have HH := Lib.hid (show Ints .u8 w w.heap.size (some ⟨b, off + j * 20, none⟩) ((j + 1) * 20 - j * 20) sub from by rw [h20]; exact hI)
          have H20 := Lib.hid h20
          clear hm t2 h20 hI
          have hE : (wr.alloc (.cells #[] 5)).ownsRow wr.heap.size 5 1 (.slice (some ⟨wr.heap.size, 0, none⟩) 0 0) 0 [] := empty4 wr 5
          have hS : Src (wr.alloc (.cells #[] 5)) 1 (some ⟨b, off + j * 20, none⟩) ((j + 1) * 20 - j * 20) (sub.map (Value.int .u8)) := Src.of_ints (reach (reach HH.out hB) (belx))
          have hOwn := fun b hb => (GrowO.row hG).choose_spec.1.lt b hb
          have hlt2 := hG.lt
          have zB := hB.size
          go_wp2_with (first
            | (at_builtin; refine wpList_app _ rfl (.tmp 46) (.tmp 51) _ rfl wr.heap.size 5 i0 _ 1 1 Try.underlying22 hi0 hz0 hz1 hz2 rfl (by omega) (.slice (some ⟨wr.heap.size, 0, none⟩) 0 0) 0 [] rfl hE (some ⟨b, off + j * 20, none⟩) ((j + 1) * 20 - j * 20) _ (sub.map (Value.int .u8)) rfl hS (one_ints _ _) (by simp only [maxLen]; omega) (by omega) (by simp; done) ?_; intro v1 w1 hown hgr hat; obtain ⟨Ad, cd, Fd, rfl, hOd, hNd⟩ := own_slZ (Own.of (n := 0 + ((j + 1) * 20 - j * 20)) (by simpa using hown) HSW.out); have hs1 : Below wr.heap.size wr w1 := Below.grown (w := wr.alloc (.cells #[] 5)) (belx) hgr (by simp) (fun b hb => by have e := Option.some.inj (show some wr.heap.size = some b from hb); omega))
            | (at_builtin; have hBx : Below wr.heap.size wr (w1.alloc (.cells [.int .i64 id, .int .i64 (j : Int), .int .i64 (N : Int), .slice Ad sub.length cd].toArray 24)) := bel_alloc hs1 _; have tz : (Value.agg #[Value.int .i64 0, Value.int .i64 0, Value.int .i64 0, Value.slice none 0 0]).cells.size = 4 := (by first | rfl | (simp [Value.cells]; done)); have t1 : ((splL id msg).take j).length + 1 ≤ maxLen := (by simp only [maxLen]; have := HLN.out; omega); have t2 : ((splL id msg).take j).length + 1 ≤ 9 := (by have := HLN.out; omega); have t3 := hBx.size; have hOx : tByZ.O (w1.alloc (.cells [.int .i64 id, .int .i64 (j : Int), .int .i64 (N : Int), .slice Ad sub.length cd].toArray 24)) [.slice Ad sub.length cd] sub Fd := Ty.below (t := tByZ) hOd (belx); obtain ⟨Fx, hOel, ex⟩ := makeOPieceZ (p := (id, (j : Int), (N : Int), sub)) HID.out HJW.out HNW.out hOx; subst ex; refine GrowO.push rfl (.tmp 42) (.tmp 54) _ rfl i1 _ 4 48 Try.underlying47 hj0 hj1 hj2 hj3 tz (by omega) rfl rfl (hG.below hBx) w1.heap.size [.int .i64 id, .int .i64 (j : Int), .int .i64 (N : Int), .slice Ad sub.length cd] (id, (j : Int), (N : Int), sub) rfl (Box.new w1 24 _) hOel (hNd.lower (by omega)) (fun f h1 h2 => by have := hNd.2 _ h1; have := hlt2 f h2; omega) (fun b hb hx => by have := (hOwn b hb).2; have := hNd.2 _ hx; omega) (one_piece _ _ _ _ _ _) (by omega) t1 (by omega) ?_; intro v2 w2 hG2 hgr2; have hBf : Below w.heap.size w w2 := Below.grown (w := (w1.alloc (.cells [.int .i64 id, .int .i64 (j : Int), .int .i64 (N : Int), .slice Ad sub.length cd].toArray 24))) (bel_trans hB hBx) hgr2 (by omega) (fun b hb => (hOwn b hb).1)))
          go_roundw
          case rel => exact ⟨j + 1, _, by omega, by go_num, by rw [HT.out]; exact hG2, hBf⟩
          case measure => first | (simp [RowKit.intOf]; done) | (simp [RowKit.intOf]; omega)
      · obtain rfl : j = N := by omega
        have HA := Lib.hid (show (splL id msg).take j = splL id msg from List.take_of_length_le (Nat.le_of_eq HLL.out))
        rw [HA.out] at hG
        obtain ⟨A3, c3, F3, hv, hO3, hN3⟩ := hG.done
        rw [HLL.out] at hv hO3
        subst hv
        go_wp2
        go_ret2
        exact ⟨A3, c3, F3, rfl, hO3, hN3, hB⟩
end Go.Proofs.Ytaabmaoldhoinaa
namespace Go.Proofs.Ytaabmaoldhoinaa
set_option linter.unusedVariables false
open Go.RowKit
def ixOf : Value → Nat | .int _ x => x.toNat | _ => 0
/-- No two have the same number. -/
def Apart {α : Type} (f : α → Int) (r : List α) : Prop := ∀ (i j : Nat) (a b : α), i < j → r[i]? = some a → r[j]? = some b → f a ≠ f b
theorem Apart.take {α : Type} {f : α → Int} {r : List α} (h : Apart f r) {j : Nat} {a : α} (ha : r[j]? = some a) : ∀ b ∈ r.take j, f b ≠ f a := by
  intro b hb
  obtain ⟨i, hi, rfl⟩ := List.getElem_of_mem hb
  rw [List.length_take] at hi
  exact h i j _ _ (by omega) (by rw [List.getElem_take]; exact List.getElem?_eq_getElem (by omega)) ha
theorem take_snoc {α : Type} {r : List α} {j : Nat} {a : α} (ha : r[j]? = some a) : r.take (j + 1) = r.take j ++ [a] := by
  rw [List.take_add_one, ha]; rfl
end Go.Proofs.Ytaabmaoldhoinaa
namespace Go.Proofs.Ytaabmaoldhoinaa
set_option linter.unusedVariables false
/-- Ascending. -/
def Asc (l : List Int) : Prop := ∀ i, i + 1 < l.length → l.getD i 0 < l.getD (i + 1) 0
/-- A message that lacks something. -/
def WhN (w : DWhole) : Prop := (0 ≤ w.2.2.1 ∧ w.2.2.1 ≤ 65535) ∧ (1 ≤ w.2.2.2.length ∧ (w.2.2.2.length : Int) < w.2.1) ∧ (∀ p ∈ w.2.2.2, PcOk p ∧ p.1 = w.1 ∧ p.2.2.1 = w.2.1) ∧ Asc (w.2.2.2.map fun p => p.2.1)
/-- A desk in order. -/
def DkOk (d : DDesk) : Prop := d.1.length ≤ 6 ∧ (∀ x ∈ d.2, 0 ≤ x ∧ x ≤ 255) ∧ Asc d.2 ∧ Asc (d.1.map fun w => w.1) ∧ ∀ w ∈ d.1, WhN w ∧ w.1 ∉ d.2
noncomputable instance (w : DWhole) : Decidable (WhN w) := Classical.propDecidable _
noncomputable instance (d : DDesk) : Decidable (DkOk d) := Classical.propDecidable _
theorem map_at {α : Type} {f : α → Int} {l : List α} {i : Nat} {a : α} (h : l[i]? = some a) : (l.map f).getD i 0 = f a := by
  rw [List.getD_eq_getElem?_getD, List.getElem?_map, h]; rfl
theorem asc_ge {l : List Int} (h : Asc l) (h0 : ∀ x ∈ l, 0 ≤ x) : ∀ i, i < l.length → (i : Int) ≤ l.getD i 0 := by
  intro i
  induction i with
  | zero =>
    intro hi
    have : l.getD 0 0 ∈ l := by rw [List.getD_eq_getElem?_getD, List.getElem?_eq_getElem hi]; exact List.getElem_mem _
    simpa using h0 _ this
  | succ i ih =>
    intro hi
    have := h i hi
    have := ih (by omega)
    omega
theorem asc_len {l : List Int} (h : Asc l) (h0 : ∀ x ∈ l, 0 ≤ x ∧ x ≤ 255) : l.length ≤ 256 := by
  by_cases hl : l.length ≤ 256
  · exact hl
  · have h1 := asc_ge h (fun x hx => (h0 x hx).1) 256 (by omega)
    have h2 : l.getD 256 0 ∈ l := by rw [List.getD_eq_getElem?_getD, List.getElem?_eq_getElem (by omega)]; exact List.getElem_mem _
    have := (h0 _ h2).2
    omega
/-- The first k numbers are names, ascending. -/
def DnK (l : List Int) (k : Nat) : Prop := ∀ i, i < k → (0 ≤ l.getD i 0 ∧ l.getD i 0 ≤ 255) ∧ ∀ q, i = q + 1 → l.getD q 0 < l.getD i 0
theorem DnK.zero {l : List Int} : DnK l 0 := fun i h => absurd h (by omega)
theorem DnK.succ {l : List Int} {k : Nat} (h : DnK l k) (h1 : 0 ≤ l.getD k 0) (h2 : l.getD k 0 ≤ 255) (h3 : ∀ q, k = q + 1 → l.getD q 0 < l.getD k 0) : DnK l (k + 1) := fun i hi => by
  rcases Nat.lt_succ_iff_lt_or_eq.1 hi with h' | rfl
  · exact h i h'
  · exact ⟨⟨h1, h2⟩, h3⟩
theorem DnK.done {l : List Int} {k : Nat} (h : DnK l k) (hk : l.length ≤ k) : (∀ x ∈ l, 0 ≤ x ∧ x ≤ 255) ∧ Asc l := by
  refine ⟨fun x hx => ?_, fun i hi => (h (i + 1) (by omega)).2 i rfl⟩
  obtain ⟨i, hi, rfl⟩ := List.getElem_of_mem hx
  have := (h i (by omega)).1
  rwa [List.getD_eq_getElem?_getD, List.getElem?_eq_getElem hi] at this
/-- The first k things: each meets P, and f ascends. -/
def RwK {α : Type} (P : α → Prop) (f : α → Int) (l : List α) (k : Nat) : Prop := ∀ i a, i < k → l[i]? = some a → P a ∧ ∀ q b, i = q + 1 → l[q]? = some b → f b < f a
theorem RwK.zero {α : Type} {P : α → Prop} {f : α → Int} {l : List α} : RwK P f l 0 := fun i a h => absurd h (by omega)
theorem RwK.succ {α : Type} {P : α → Prop} {f : α → Int} {l : List α} {k : Nat} {a : α} (h : RwK P f l k) (hl : l[k]? = some a) (hP : P a) (h3 : ∀ q b, k = q + 1 → l[q]? = some b → f b < f a) : RwK P f l (k + 1) := fun i x hi hx => by
  rcases Nat.lt_succ_iff_lt_or_eq.1 hi with h' | rfl
  · exact h i x h' hx
  · rw [hl] at hx; injection hx with hx; subst hx; exact ⟨hP, h3⟩
theorem RwK.done {α : Type} {P : α → Prop} {f : α → Int} {l : List α} {k : Nat} (h : RwK P f l k) (hk : l.length ≤ k) : (∀ a ∈ l, P a) ∧ Asc (l.map f) := by
  refine ⟨fun a ha => ?_, fun i hi => ?_⟩
  · obtain ⟨i, hi, rfl⟩ := List.getElem_of_mem ha
    exact (h i _ (by omega) (List.getElem?_eq_getElem hi)).1
  · rw [List.length_map] at hi
    rw [map_at (List.getElem?_eq_getElem (show i < l.length by omega)), map_at (List.getElem?_eq_getElem hi)]
    exact (h (i + 1) _ (by omega) (List.getElem?_eq_getElem hi)).2 i _ rfl (List.getElem?_eq_getElem (by omega))
end Go.Proofs.Ytaabmaoldhoinaa
namespace Go.Proofs.Ytaabmaoldhoinaa
set_option linter.unusedVariables false
theorem asc_lt {l : List Int} (h : Asc l) : ∀ i j, i < j → j < l.length → l.getD i 0 < l.getD j 0 := by
  intro i j hij
  induction j with
  | zero => omega
  | succ j ih =>
    intro hj
    have h1 := h j hj
    rcases Nat.lt_succ_iff_lt_or_eq.1 hij with h' | rfl
    · have := ih h' (by omega); omega
    · exact h1
theorem dk_apart {p : DDesk} (h : DkOk p) : Apart (fun a : DWhole => a.1) p.1 := by
  intro i j a b hij ha hb
  have h1 := asc_lt h.2.2.2.1 i j hij (by rw [List.length_map]; exact (List.getElem?_eq_some_iff.1 hb).1)
  rw [map_at ha, map_at hb] at h1
  exact fun e => by have e' : a.1 = b.1 := e; have h1' : a.1 < b.1 := h1; omega
theorem dk_wh {p : DDesk} (h : DkOk p) {a : DWhole} (ha : a ∈ p.1) : 1 ≤ a.2.2.2.length ∧ (a.2.2.2.length : Int) < a.2.1 ∧ a.2.1 ≤ 8 := by
  obtain ⟨-, ⟨h1, h2⟩, h3, -⟩ := (h.2.2.2.2 a ha).1
  refine ⟨h1, h2, ?_⟩
  have hm := List.getElem_mem (l := a.2.2.2) (n := 0) (by omega)
  have h4 := h3 _ hm
  have h5 := h4.1.2.2.1
  omega
end Go.Proofs.Ytaabmaoldhoinaa
namespace Go.Proofs.Ytaabmaoldhoinaa
set_option linter.unusedVariables false
def HasIn (p : DDesk) (q : DPiece) : Prop := DkOk p ∧ PcOk q ∧ ∃ a ∈ p.1, q ∈ a.2.2.2
noncomputable instance (p : DDesk) (q : DPiece) : Decidable (HasIn p q) := Classical.propDecidable _
end Go.Proofs.Ytaabmaoldhoinaa
