/-
  A message in fragments: contracts of Split, of both sides.
-/
import Derived.Test.YtgepeppmhfnbeabPPiece
import Derived.Test.YtgepeppmhfnbeabPFor
import Derived.Test.YtgepeppmhfnbeabGrowN
import Derived.Test.YtgepeppmhfnbeabAll
import Derived.Test.YtgepeppmhfnbeabLPieceS
import Derived.Deep.RegionHeld3
namespace Go.Proofs.Ytgepeppmhfnbeab
set_option maxRecDepth 100000
set_option linter.unusedVariables false
set_option linter.unusedSimpArgs false
open Go.ChangeShapes Go.WideShapes Go.ChangeAt Go.RowKit
def splN (len : Nat) : Nat := if len = 0 then 1 else (len + 19) / 20
def pcAt (id : Int) (N : Nat) (msg : List Int) (i : Nat) : DPiece := (id, (i : Int), (N : Int), (msg.drop (i * 20)).take 20)
def splL (id : Int) (msg : List Int) : List DPiece := (List.range (splN msg.length)).map (pcAt id (splN msg.length) msg)
def SpOk (id : Int) (msg : List Int) : Prop := (0 ≤ id ∧ id ≤ 255) ∧ msg.length ≤ 160
instance (id : Int) (msg : List Int) : Decidable (SpOk id msg) := by unfold SpOk; infer_instance
def fSpl (id : Int) (msg : List Int) : List DPiece := if SpOk id msg then splL id msg else []
theorem fSpl_t {id : Int} {msg : List Int} (h : SpOk id msg) : fSpl id msg = splL id msg := if_pos h
theorem fSpl_f {id : Int} {msg : List Int} (h : ¬ SpOk id msg) : fSpl id msg = [] := if_neg h
theorem splN_le {n : Nat} (h : n ≤ 160) : 1 ≤ splN n ∧ splN n ≤ 8 := by unfold splN; split <;> omega
theorem splL_len (id : Int) (msg : List Int) : (splL id msg).length = splN msg.length := by unfold splL; rw [List.length_map, List.length_range]
theorem splL_at {id : Int} {msg : List Int} {N j : Nat} (hN : splN msg.length = N) (hj : j < N) : (splL id msg)[j]? = some (id, (j : Int), (N : Int), (msg.drop (j * 20)).take 20) := by
  unfold splL; rw [hN, List.getElem?_map, List.getElem?_range hj]; rfl
theorem rsz_bd {α : Type} {s : α → Nat} {l : List α} {m : Nat} (h : ∀ a ∈ l, s a ≤ m) : rsz s l ≤ l.length * (m + 1) := by
  induction l with
  | nil => simp [rsz, rsum]
  | cons a l ih =>
    have h1 := ih (fun x hx => h x (by simp [hx]))
    have h2 := h a (by simp)
    unfold rsz at *
    simp only [List.length_cons, rsum, Nat.succ_mul]
    omega
theorem fSpl_sz (id : Int) (msg : List Int) : rsz szPiece (fSpl id msg) ≤ 168 := by
  by_cases h : SpOk id msg
  · rw [fSpl_t h]
    have h1 := rsz_bd (s := szPiece) (l := splL id msg) (m := 20) (fun a ha => by
      unfold splL at ha
      rw [List.mem_map] at ha
      obtain ⟨i, _, rfl⟩ := ha
      show ((msg.drop (i * 20)).take 20).length ≤ 20
      rw [List.length_take]; omega)
    have h2 := (splN_le h.2).2
    rw [splL_len] at h1
    omega
  · rw [fSpl_f h]; simp [rsz, rsum]
/-- A part of a slice of bytes. -/
theorem ints_mid {K : IntKind} {w : World} {B n b off : Nat} {l : List Int} (h : Ints K w B (some ⟨b, off, none⟩) n l) {lo m : Nat} (hm : lo + m ≤ n) : Ints K w B (some ⟨b, off + lo, none⟩) m ((l.drop lo).take m) := by
  refine ⟨by rw [List.length_take, List.length_drop, h.1]; omega, fun h0 => ?_, fun x hx => h.2.2 x (List.mem_of_mem_drop (List.mem_of_mem_take hx))⟩
  obtain ⟨b', off', e, hb, hc⟩ := h.2.1 (by omega)
  injection e with e
  injection e with e1 e2 _
  subst e1 e2
  refine ⟨b, off + lo, rfl, hb, fun i hi => ?_⟩
  rw [Nat.add_assoc, hc (lo + i) (by omega), List.getD_eq_getElem?_getD, List.getD_eq_getElem?_getD, List.getElem?_take, if_pos hi, List.getElem?_drop]
theorem empty4 (w : World) (t : TypeId) : (w.alloc (.cells #[] t)).ownsRow w.heap.size t 1 (.slice (some ⟨w.heap.size, 0, none⟩) 0 0) 0 [] :=
  ⟨rfl, .inr ⟨w.heap.size, 0, #[], rfl, Nat.le_refl _, heap_alloc_new w _, Nat.le_refl _, by simp only [maxLen]; omega, rfl, rfl⟩⟩
theorem one_piece (x0 x1 x2 : Int) (A : Option Addr) (n c : Nat) : ∀ u ∈ [Value.int .i64 x0, .int .i64 x1, .int .i64 x2, .slice A n c], u.oneCell' = true := by
  intro u hu
  simp only [List.mem_cons, List.not_mem_nil, or_false] at hu
  rcases hu with rfl | rfl | rfl | rfl <;> rfl
theorem own_sl4 {K : IntKind} {e : TypeId} {w : World} {base : Nat} {v : Value} {l : List Int} (h : Own K e w base v l) : ∃ A c F, v = .slice A l.length c ∧ (tSl K).O w [.slice A l.length c] l F ∧ New base F := by
  obtain ⟨F, hF, hN⟩ := h.tSl
  obtain ⟨A, c, e1, _, _⟩ := slO_one hF
  injection e1 with e1 _
  subst e1
  exact ⟨A, c, F, rfl, hF, hN⟩
set_option maxHeartbeats 4000000 in
theorem s_Split {w : World} {id : Int} {A : Option Addr} {n c : Nat} {msg : List Int} (hid : (Lit.int .i64 id).wf = true) (h : tBy.R w w.heap.size [.slice A n c] msg) (hz : msg.length ≤ 1048576) :
    Calls Try.prog 30 #[.int .i64 id, .slice A n c] w fun e w' => ∃ A' c', e = .returned (.tuple #[.slice A' (fSpl id msg).length c', .bool (decide (SpOk id msg))]) ∧ tPiece.row.R w' w'.heap.size [.slice A' (fSpl id msg).length c'] (fSpl id msg) ∧ Below w.heap.size w w' := by
  obtain ⟨i0, hi0, hz0, hz1, hz2⟩ := info_parts info_cb
  obtain ⟨i1, hj0, hj1, hj2, hj3⟩ := info_parts info_Piece
  obtain ⟨hl, hnc, hcm⟩ := slR_ints h
  have hlen := hl.1
  by_cases hs : SpOk id msg
  rotate_left
  · rw [fSpl_f hs, decide_eq_false hs]
    have hnil : tPiece.row.R w w.heap.size [.slice none 0 0] [] := ⟨none, 0, 0, rfl, Nat.le_refl _, by omega, rfl, fun h => absurd h (by omega)⟩
    by_cases h1 : id < 0
    · clear hs
      go_enter Try.func30, Try.ntmps30
      go_wp2
      go_ret2
      exact ⟨none, 0, rfl, hnil, (by repeat (first | (with_reducible exact Below.refl _ _) | (with_reducible assumption) | (with_reducible refine bel_alloc ?_ _) | (with_reducible refine bel_drew ?_) | (with_reducible refine below_drewN ?_ _) | (with_reducible refine bel_put ?_ (by first | exact Nat.le_refl _ | (simp; done) | (simp; omega)) _)))⟩
    by_cases h2 : 255 < id
    · clear hs
      go_enter Try.func30, Try.ntmps30
      go_wp2
      go_ret2
      exact ⟨none, 0, rfl, hnil, (by repeat (first | (with_reducible exact Below.refl _ _) | (with_reducible assumption) | (with_reducible refine bel_alloc ?_ _) | (with_reducible refine bel_drew ?_) | (with_reducible refine below_drewN ?_ _) | (with_reducible refine bel_put ?_ (by first | exact Nat.le_refl _ | (simp; done) | (simp; omega)) _)))⟩
    have h3 : (160 : Int) < (n : Int) := by unfold SpOk at hs; omega
    clear hs
    go_enter Try.func30, Try.ntmps30
    go_wp2
    go_ret2
    exact ⟨none, 0, rfl, hnil, (by repeat (first | (with_reducible exact Below.refl _ _) | (with_reducible assumption) | (with_reducible refine bel_alloc ?_ _) | (with_reducible refine bel_drew ?_) | (with_reducible refine below_drewN ?_ _) | (with_reducible refine bel_put ?_ (by first | exact Nat.le_refl _ | (simp; done) | (simp; omega)) _)))⟩
  rw [fSpl_t hs, decide_eq_true hs]
  obtain ⟨⟨g1, g2⟩, g3⟩ := hs
  have hn : n ≤ 160 := by omega
  have q3 : ¬ (160 : Int) < (n : Int) := by omega
  obtain ⟨N, hN⟩ : ∃ N, splN msg.length = N := ⟨_, rfl⟩
  have hN8 : 1 ≤ N ∧ N ≤ 8 := by rw [← hN]; exact splN_le g3
  have HN := Lib.hid hN
  have HID := Lib.hid hid
  have HL := Lib.hid hlen
  have HNW := Lib.hid (show (Lit.int .i64 (N : Int)).wf = true from WalkArith.wf_i64 ⟨by omega, by omega⟩)
  have HLL := Lib.hid (show (splL id msg).length = N from by rw [splL_len, hN])
  have hNn : (n = 0 ∧ N = 1) ∨ (1 ≤ n ∧ N = (n + 19) / 20) := by
    rw [hlen] at hN; unfold splN at hN; split at hN <;> omega
  clear hid hlen g3 hz hN
  rw [HLL.out]
  have q5 : n = 0 ∨ (((n : Int) + 20 - 1) / 20 = (N : Int) ∧ ((N : Int) == 0) = false) := by
    rcases hNn with h | h
    · exact .inl h.1
    · exact .inr ⟨by omega, by simp; omega⟩
  have d1 : decide (id < 0) = false := decide_eq_false (by omega)
  have d2 : decide (255 < id) = false := decide_eq_false (by omega)
  rcases q5 with rfl | ⟨q5, q6⟩
  · obtain rfl : N = 1 := by omega
    go_enter Try.func30, Try.ntmps30
    go_wp2_with fail
    go_loopw [7, 8] (fun v i wr => ∃ (j : Nat) (F : List Nat), j ≤ 1 ∧ i = .int .i64 j ∧ GrowO tPiece 43 wr w.heap.size v ((splL id msg).take j) F ∧ Below w.heap.size w wr) (fun _ i _ => 1 - (intOf i).toNat)
    case atStart => exact ⟨0, [], by omega, rfl, GrowO.nil, (by repeat (first | (with_reducible exact Below.refl _ _) | (with_reducible assumption) | (with_reducible refine bel_alloc ?_ _) | (with_reducible refine bel_drew ?_) | (with_reducible refine below_drewN ?_ _) | (with_reducible refine bel_put ?_ (by first | exact Nat.le_refl _ | (simp; done) | (simp; omega)) _)))⟩
    case round =>
      obtain ⟨j, F, hj, rfl, hG, hB⟩ := hrel
      by_cases hlt : j < 1
      · obtain rfl : j = 0 := by omega
        have hl2 := splL_at (id := id) HN.out hlt
        have HT := Lib.hid (take_sn hl2)
        have HLN := Lib.hid (show ((splL id msg).take 0).length = 0 from rfl)
        have HJW := Lib.hid (show (Lit.int .i64 ((0 : Nat) : Int)).wf = true from rfl)
        obtain ⟨sub, hsub⟩ : ∃ sub : List Int, sub = [] := ⟨_, rfl⟩
        have HSL := Lib.hid (show sub.length = 0 from by rw [hsub]; rfl)
        have HSW := Lib.hid (show ∀ x ∈ sub, (Lit.int .u8 x).wf = true from by rw [hsub]; simp)
        have HSB := Lib.hid hsub
        have hm0 : (msg.drop (0 * 20)).take 20 = sub := by rw [hsub, List.eq_nil_of_length_eq_zero HL.out]; rfl
        rw [hm0] at HT
        clear hl2 hsub hm0 hlt
        rcases A with _ | a
        · have hE : (wr.alloc (.cells #[] 5)).ownsRow wr.heap.size 5 1 (.slice (some ⟨wr.heap.size, 0, none⟩) 0 0) 0 [] := empty4 wr 5
          have hS : Src (wr.alloc (.cells #[] 5)) 1 none 0 (sub.map (Value.int .u8)) := by rw [HSB.out]; exact Src.nil _ _ _
          have hOwn := fun b hb => (GrowO.row hG).choose_spec.1.lt b hb
          have hlt2 := hG.lt
          have zB := hB.size
          go_wp2_with (first
            | (at_builtin; refine wpList_app _ rfl (.tmp 46) (.tmp 51) _ rfl wr.heap.size 5 i0 _ 1 1 Try.underlying38 hi0 hz0 hz1 hz2 rfl (by omega) (.slice (some ⟨wr.heap.size, 0, none⟩) 0 0) 0 [] rfl hE none 0 _ (sub.map (Value.int .u8)) rfl hS (one_ints _ _) (by simp only [maxLen]; omega) (by omega) (by simp; done) ?_; intro v1 w1 hown hgr hat; obtain ⟨Ad, cd, Fd, rfl, hOd, hNd⟩ := own_sl4 (Own.of (n := 0 + 0) (by simpa using hown) HSW.out); have hs1 : Below wr.heap.size wr w1 := Below.grown (w := wr.alloc (.cells #[] 5)) (by repeat (first | (with_reducible exact Below.refl _ _) | (with_reducible assumption) | (with_reducible refine bel_alloc ?_ _) | (with_reducible refine bel_drew ?_) | (with_reducible refine below_drewN ?_ _) | (with_reducible refine bel_put ?_ (by first | exact Nat.le_refl _ | (simp; done) | (simp; omega)) _))) hgr (by simp) (fun b hb => by have e := Option.some.inj (show some wr.heap.size = some b from hb); omega))
            | (at_builtin; have hBx : Below wr.heap.size wr (w1.alloc (.cells [.int .i64 id, .int .i64 (0 : Int), .int .i64 (1 : Int), .slice Ad sub.length cd].toArray 43)) := bel_alloc hs1 _; have tz : (Value.agg #[Value.int .i64 0, Value.int .i64 0, Value.int .i64 0, Value.slice none 0 0]).cells.size = 4 := (by first | rfl | (simp [Value.cells]; done)); have t1 : ((splL id msg).take 0).length + 1 ≤ maxLen := (by simp only [maxLen]; have := HLN.out; omega); have t2 : ((splL id msg).take 0).length + 1 ≤ 9 := (by have := HLN.out; omega); have t3 := hBx.size; have hOx : tBy.O (w1.alloc (.cells [.int .i64 id, .int .i64 (0 : Int), .int .i64 (1 : Int), .slice Ad sub.length cd].toArray 43)) [.slice Ad sub.length cd] sub Fd := Ty.below (t := tBy) hOd (by repeat (first | (with_reducible exact Below.refl _ _) | (with_reducible assumption) | (with_reducible refine bel_alloc ?_ _) | (with_reducible refine bel_drew ?_) | (with_reducible refine below_drewN ?_ _) | (with_reducible refine bel_put ?_ (by first | exact Nat.le_refl _ | (simp; done) | (simp; omega)) _))); obtain ⟨Fx, hOel, ex⟩ := makeOPiece (p := (id, (0 : Int), (1 : Int), sub)) HID.out HJW.out HNW.out hOx; subst ex; refine GrowO.push rfl (.tmp 42) (.tmp 54) _ rfl i1 _ 4 48 Try.underlying51 hj0 hj1 hj2 hj3 tz (by omega) rfl rfl (hG.below hBx) w1.heap.size [.int .i64 id, .int .i64 (0 : Int), .int .i64 (1 : Int), .slice Ad sub.length cd] (id, (0 : Int), (1 : Int), sub) rfl (Box.new w1 43 _) hOel (hNd.lower (by omega)) (fun f h1 h2 => by have := hNd.2 _ h1; have := hlt2 f h2; omega) (fun b hb hx => by have := (hOwn b hb).2; have := hNd.2 _ hx; omega) (one_piece _ _ _ _ _ _) (by omega) t1 (by omega) ?_; intro v2 w2 hG2 hgr2; have hBf : Below w.heap.size w w2 := Below.grown (w := (w1.alloc (.cells [.int .i64 id, .int .i64 (0 : Int), .int .i64 (1 : Int), .slice Ad sub.length cd].toArray 43))) (bel_trans hB hBx) hgr2 (by omega) (fun b hb => (hOwn b hb).1)))
          go_roundw
          case rel => exact ⟨0 + 1, _, by omega, by go_num, by rw [HT.out]; exact hG2, hBf⟩
          case measure => first | (simp [intOf]; done) | (simp [intOf]; omega)
        · have hE : (wr.alloc (.cells #[] 5)).ownsRow wr.heap.size 5 1 (.slice (some ⟨wr.heap.size, 0, none⟩) 0 0) 0 [] := empty4 wr 5
          have hS : Src (wr.alloc (.cells #[] 5)) 1 (some a) 0 (sub.map (Value.int .u8)) := by rw [HSB.out]; exact Src.nil _ _ _
          have hOwn := fun b hb => (GrowO.row hG).choose_spec.1.lt b hb
          have hlt2 := hG.lt
          have zB := hB.size
          go_wp2_with (first
            | (at_builtin; refine wpList_app _ rfl (.tmp 46) (.tmp 51) _ rfl wr.heap.size 5 i0 _ 1 1 Try.underlying38 hi0 hz0 hz1 hz2 rfl (by omega) (.slice (some ⟨wr.heap.size, 0, none⟩) 0 0) 0 [] rfl hE (some a) 0 _ (sub.map (Value.int .u8)) rfl hS (one_ints _ _) (by simp only [maxLen]; omega) (by omega) (by simp; done) ?_; intro v1 w1 hown hgr hat; obtain ⟨Ad, cd, Fd, rfl, hOd, hNd⟩ := own_sl4 (Own.of (n := 0 + 0) (by simpa using hown) HSW.out); have hs1 : Below wr.heap.size wr w1 := Below.grown (w := wr.alloc (.cells #[] 5)) (by repeat (first | (with_reducible exact Below.refl _ _) | (with_reducible assumption) | (with_reducible refine bel_alloc ?_ _) | (with_reducible refine bel_drew ?_) | (with_reducible refine below_drewN ?_ _) | (with_reducible refine bel_put ?_ (by first | exact Nat.le_refl _ | (simp; done) | (simp; omega)) _))) hgr (by simp) (fun b hb => by have e := Option.some.inj (show some wr.heap.size = some b from hb); omega))
            | (at_builtin; have hBx : Below wr.heap.size wr (w1.alloc (.cells [.int .i64 id, .int .i64 (0 : Int), .int .i64 (1 : Int), .slice Ad sub.length cd].toArray 43)) := bel_alloc hs1 _; have tz : (Value.agg #[Value.int .i64 0, Value.int .i64 0, Value.int .i64 0, Value.slice none 0 0]).cells.size = 4 := (by first | rfl | (simp [Value.cells]; done)); have t1 : ((splL id msg).take 0).length + 1 ≤ maxLen := (by simp only [maxLen]; have := HLN.out; omega); have t2 : ((splL id msg).take 0).length + 1 ≤ 9 := (by have := HLN.out; omega); have t3 := hBx.size; have hOx : tBy.O (w1.alloc (.cells [.int .i64 id, .int .i64 (0 : Int), .int .i64 (1 : Int), .slice Ad sub.length cd].toArray 43)) [.slice Ad sub.length cd] sub Fd := Ty.below (t := tBy) hOd (by repeat (first | (with_reducible exact Below.refl _ _) | (with_reducible assumption) | (with_reducible refine bel_alloc ?_ _) | (with_reducible refine bel_drew ?_) | (with_reducible refine below_drewN ?_ _) | (with_reducible refine bel_put ?_ (by first | exact Nat.le_refl _ | (simp; done) | (simp; omega)) _))); obtain ⟨Fx, hOel, ex⟩ := makeOPiece (p := (id, (0 : Int), (1 : Int), sub)) HID.out HJW.out HNW.out hOx; subst ex; refine GrowO.push rfl (.tmp 42) (.tmp 54) _ rfl i1 _ 4 48 Try.underlying51 hj0 hj1 hj2 hj3 tz (by omega) rfl rfl (hG.below hBx) w1.heap.size [.int .i64 id, .int .i64 (0 : Int), .int .i64 (1 : Int), .slice Ad sub.length cd] (id, (0 : Int), (1 : Int), sub) rfl (Box.new w1 43 _) hOel (hNd.lower (by omega)) (fun f h1 h2 => by have := hNd.2 _ h1; have := hlt2 f h2; omega) (fun b hb hx => by have := (hOwn b hb).2; have := hNd.2 _ hx; omega) (one_piece _ _ _ _ _ _) (by omega) t1 (by omega) ?_; intro v2 w2 hG2 hgr2; have hBf : Below w.heap.size w w2 := Below.grown (w := (w1.alloc (.cells [.int .i64 id, .int .i64 (0 : Int), .int .i64 (1 : Int), .slice Ad sub.length cd].toArray 43))) (bel_trans hB hBx) hgr2 (by omega) (fun b hb => (hOwn b hb).1)))
          go_roundw
          case rel => exact ⟨0 + 1, _, by omega, by go_num, by rw [HT.out]; exact hG2, hBf⟩
          case measure => first | (simp [intOf]; done) | (simp [intOf]; omega)
      · obtain rfl : j = 1 := by omega
        have HA := Lib.hid (show (splL id msg).take 1 = splL id msg from List.take_of_length_le (Nat.le_of_eq HLL.out))
        rw [HA.out] at hG
        obtain ⟨A3, c3, F3, hv, hO3, hN3⟩ := hG.done
        rw [HLL.out] at hv hO3
        subst hv
        go_wp2
        go_ret2
        exact ⟨A3, c3, rfl, tPiece.row.read hO3, hB⟩
  · go_enter Try.func30, Try.ntmps30
    go_wp2_with fail
    go_loopw [7, 8] (fun v i wr => ∃ (j : Nat) (F : List Nat), j ≤ N ∧ i = .int .i64 j ∧ GrowO tPiece 43 wr w.heap.size v ((splL id msg).take j) F ∧ Below w.heap.size w wr) (fun _ i _ => N - (intOf i).toNat)
    case atStart => exact ⟨0, [], by omega, rfl, GrowO.nil, (by repeat (first | (with_reducible exact Below.refl _ _) | (with_reducible assumption) | (with_reducible refine bel_alloc ?_ _) | (with_reducible refine bel_drew ?_) | (with_reducible refine below_drewN ?_ _) | (with_reducible refine bel_put ?_ (by first | exact Nat.le_refl _ | (simp; done) | (simp; omega)) _)))⟩
    case round =>
      obtain ⟨j, F, hj, rfl, hG, hB⟩ := hrel
      by_cases hlt : j < N
      · have hl2 := splL_at (id := id) HN.out hlt
        have HT := Lib.hid (take_sn hl2)
        have HLN := Lib.hid (show ((splL id msg).take j).length = j from by rw [List.length_take, HLL.out]; omega)
        have HJW := Lib.hid (show (Lit.int .i64 (j : Int)).wf = true from WalkArith.wf_i64 ⟨by omega, by omega⟩)
        obtain ⟨b, off, rfl, hb, -⟩ := hl.2.1 (by omega)
        obtain ⟨m, hm, hm20⟩ : ∃ m, m = min 20 (n - j * 20) ∧ j * 20 + m ≤ n := ⟨_, rfl, by omega⟩
        obtain ⟨sub, hsub⟩ : ∃ sub, (msg.drop (j * 20)).take 20 = sub := ⟨_, rfl⟩
        have hmid : (msg.drop (j * 20)).take m = sub := by
          rw [← hsub]
          by_cases h20 : m = 20
          · rw [h20]
          · rw [List.take_of_length_le (by rw [List.length_drop, HL.out]; omega), List.take_of_length_le (by rw [List.length_drop, HL.out]; omega)]
        have hI := ints_mid hl hm20
        rw [hmid] at hI
        rw [hsub] at HT
        have HSL := Lib.hid hI.1
        have HSW := Lib.hid hI.2.2
        clear hl2 hsub hmid
        have p1 : IntKind.i64.wrap ((j : Int) * 20) = (j : Int) * 20 := IntWalk.i64_in _ (by omega)
        have i2 : IntKind.i64.wrap (((j : Int) + 1) * 20) = ((j : Int) + 1) * 20 := IntWalk.i64_in _ (by omega)
        have i3 : (0 : Int) ≤ (j : Int) * 20 := by omega
        have i4 : (j : Int) * 20 ≤ (n : Int) := by omega
        have i5 : (n : Int) ≤ (c : Int) := by omega
        by_cases hend : (n : Int) < ((j : Int) + 1) * 20
        · have t1 : ((j : Int) * 20).toNat = j * 20 := by omega
          have t2 : ((n : Int) - (j : Int) * 20).toNat = m := by omega
          have t3 : n - j * 20 = m := by omega
          clear hm
          have hE : (wr.alloc (.cells #[] 5)).ownsRow wr.heap.size 5 1 (.slice (some ⟨wr.heap.size, 0, none⟩) 0 0) 0 [] := empty4 wr 5
          have hS : Src (wr.alloc (.cells #[] 5)) 1 (some ⟨b, off + j * 20, none⟩) m (sub.map (Value.int .u8)) := Src.of_ints (reach (reach hI hB) (by repeat (first | (with_reducible exact Below.refl _ _) | (with_reducible assumption) | (with_reducible refine bel_alloc ?_ _) | (with_reducible refine bel_drew ?_) | (with_reducible refine below_drewN ?_ _) | (with_reducible refine bel_put ?_ (by first | exact Nat.le_refl _ | (simp; done) | (simp; omega)) _))))
          have hOwn := fun b hb => (GrowO.row hG).choose_spec.1.lt b hb
          have hlt2 := hG.lt
          have zB := hB.size
          go_wp2_with (first
            | (at_builtin; refine wpList_app _ rfl (.tmp 46) (.tmp 51) _ rfl wr.heap.size 5 i0 _ 1 1 Try.underlying38 hi0 hz0 hz1 hz2 rfl (by omega) (.slice (some ⟨wr.heap.size, 0, none⟩) 0 0) 0 [] rfl hE (some ⟨b, off + j * 20, none⟩) m _ (sub.map (Value.int .u8)) rfl hS (one_ints _ _) (by simp only [maxLen]; omega) (by omega) (by simp; done) ?_; intro v1 w1 hown hgr hat; obtain ⟨Ad, cd, Fd, rfl, hOd, hNd⟩ := own_sl4 (Own.of (n := 0 + m) (by simpa using hown) HSW.out); have hs1 : Below wr.heap.size wr w1 := Below.grown (w := wr.alloc (.cells #[] 5)) (by repeat (first | (with_reducible exact Below.refl _ _) | (with_reducible assumption) | (with_reducible refine bel_alloc ?_ _) | (with_reducible refine bel_drew ?_) | (with_reducible refine below_drewN ?_ _) | (with_reducible refine bel_put ?_ (by first | exact Nat.le_refl _ | (simp; done) | (simp; omega)) _))) hgr (by simp) (fun b hb => by have e := Option.some.inj (show some wr.heap.size = some b from hb); omega))
            | (at_builtin; have hBx : Below wr.heap.size wr (w1.alloc (.cells [.int .i64 id, .int .i64 (j : Int), .int .i64 (N : Int), .slice Ad sub.length cd].toArray 43)) := bel_alloc hs1 _; have tz : (Value.agg #[Value.int .i64 0, Value.int .i64 0, Value.int .i64 0, Value.slice none 0 0]).cells.size = 4 := (by first | rfl | (simp [Value.cells]; done)); have t1 : ((splL id msg).take j).length + 1 ≤ maxLen := (by simp only [maxLen]; have := HLN.out; omega); have t2 : ((splL id msg).take j).length + 1 ≤ 9 := (by have := HLN.out; omega); have t3 := hBx.size; have hOx : tBy.O (w1.alloc (.cells [.int .i64 id, .int .i64 (j : Int), .int .i64 (N : Int), .slice Ad sub.length cd].toArray 43)) [.slice Ad sub.length cd] sub Fd := Ty.below (t := tBy) hOd (by repeat (first | (with_reducible exact Below.refl _ _) | (with_reducible assumption) | (with_reducible refine bel_alloc ?_ _) | (with_reducible refine bel_drew ?_) | (with_reducible refine below_drewN ?_ _) | (with_reducible refine bel_put ?_ (by first | exact Nat.le_refl _ | (simp; done) | (simp; omega)) _))); obtain ⟨Fx, hOel, ex⟩ := makeOPiece (p := (id, (j : Int), (N : Int), sub)) HID.out HJW.out HNW.out hOx; subst ex; refine GrowO.push rfl (.tmp 42) (.tmp 54) _ rfl i1 _ 4 48 Try.underlying51 hj0 hj1 hj2 hj3 tz (by omega) rfl rfl (hG.below hBx) w1.heap.size [.int .i64 id, .int .i64 (j : Int), .int .i64 (N : Int), .slice Ad sub.length cd] (id, (j : Int), (N : Int), sub) rfl (Box.new w1 43 _) hOel (hNd.lower (by omega)) (fun f h1 h2 => by have := hNd.2 _ h1; have := hlt2 f h2; omega) (fun b hb hx => by have := (hOwn b hb).2; have := hNd.2 _ hx; omega) (one_piece _ _ _ _ _ _) (by omega) t1 (by omega) ?_; intro v2 w2 hG2 hgr2; have hBf : Below w.heap.size w w2 := Below.grown (w := (w1.alloc (.cells [.int .i64 id, .int .i64 (j : Int), .int .i64 (N : Int), .slice Ad sub.length cd].toArray 43))) (bel_trans hB hBx) hgr2 (by omega) (fun b hb => (hOwn b hb).1)))
          go_roundw
          case rel => exact ⟨j + 1, _, by omega, by go_num, by rw [HT.out]; exact hG2, hBf⟩
          case measure => first | (simp [intOf]; done) | (simp [intOf]; omega)
        · have i6 : ((j : Int) + 1) * 20 ≤ (c : Int) := by omega
          have t1 : ((j : Int) * 20).toNat = j * 20 := by omega
          obtain rfl : m = 20 := by omega
          have t2 : (((j : Int) + 1) * 20 - (j : Int) * 20).toNat = 20 := by omega
          have h20 : (j + 1) * 20 - j * 20 = 20 := by omega
          have HH := Lib.hid (show Ints .u8 w w.heap.size (some ⟨b, off + j * 20, none⟩) ((j + 1) * 20 - j * 20) sub from by rw [h20]; exact hI)
          have H20 := Lib.hid h20
          clear hm t2 h20 hI
          have hE : (wr.alloc (.cells #[] 5)).ownsRow wr.heap.size 5 1 (.slice (some ⟨wr.heap.size, 0, none⟩) 0 0) 0 [] := empty4 wr 5
          have hS : Src (wr.alloc (.cells #[] 5)) 1 (some ⟨b, off + j * 20, none⟩) ((j + 1) * 20 - j * 20) (sub.map (Value.int .u8)) := Src.of_ints (reach (reach HH.out hB) (by repeat (first | (with_reducible exact Below.refl _ _) | (with_reducible assumption) | (with_reducible refine bel_alloc ?_ _) | (with_reducible refine bel_drew ?_) | (with_reducible refine below_drewN ?_ _) | (with_reducible refine bel_put ?_ (by first | exact Nat.le_refl _ | (simp; done) | (simp; omega)) _))))
          have hOwn := fun b hb => (GrowO.row hG).choose_spec.1.lt b hb
          have hlt2 := hG.lt
          have zB := hB.size
          go_wp2_with (first
            | (at_builtin; refine wpList_app _ rfl (.tmp 46) (.tmp 51) _ rfl wr.heap.size 5 i0 _ 1 1 Try.underlying38 hi0 hz0 hz1 hz2 rfl (by omega) (.slice (some ⟨wr.heap.size, 0, none⟩) 0 0) 0 [] rfl hE (some ⟨b, off + j * 20, none⟩) ((j + 1) * 20 - j * 20) _ (sub.map (Value.int .u8)) rfl hS (one_ints _ _) (by simp only [maxLen]; omega) (by omega) (by simp; done) ?_; intro v1 w1 hown hgr hat; obtain ⟨Ad, cd, Fd, rfl, hOd, hNd⟩ := own_sl4 (Own.of (n := 0 + ((j + 1) * 20 - j * 20)) (by simpa using hown) HSW.out); have hs1 : Below wr.heap.size wr w1 := Below.grown (w := wr.alloc (.cells #[] 5)) (by repeat (first | (with_reducible exact Below.refl _ _) | (with_reducible assumption) | (with_reducible refine bel_alloc ?_ _) | (with_reducible refine bel_drew ?_) | (with_reducible refine below_drewN ?_ _) | (with_reducible refine bel_put ?_ (by first | exact Nat.le_refl _ | (simp; done) | (simp; omega)) _))) hgr (by simp) (fun b hb => by have e := Option.some.inj (show some wr.heap.size = some b from hb); omega))
            | (at_builtin; have hBx : Below wr.heap.size wr (w1.alloc (.cells [.int .i64 id, .int .i64 (j : Int), .int .i64 (N : Int), .slice Ad sub.length cd].toArray 43)) := bel_alloc hs1 _; have tz : (Value.agg #[Value.int .i64 0, Value.int .i64 0, Value.int .i64 0, Value.slice none 0 0]).cells.size = 4 := (by first | rfl | (simp [Value.cells]; done)); have t1 : ((splL id msg).take j).length + 1 ≤ maxLen := (by simp only [maxLen]; have := HLN.out; omega); have t2 : ((splL id msg).take j).length + 1 ≤ 9 := (by have := HLN.out; omega); have t3 := hBx.size; have hOx : tBy.O (w1.alloc (.cells [.int .i64 id, .int .i64 (j : Int), .int .i64 (N : Int), .slice Ad sub.length cd].toArray 43)) [.slice Ad sub.length cd] sub Fd := Ty.below (t := tBy) hOd (by repeat (first | (with_reducible exact Below.refl _ _) | (with_reducible assumption) | (with_reducible refine bel_alloc ?_ _) | (with_reducible refine bel_drew ?_) | (with_reducible refine below_drewN ?_ _) | (with_reducible refine bel_put ?_ (by first | exact Nat.le_refl _ | (simp; done) | (simp; omega)) _))); obtain ⟨Fx, hOel, ex⟩ := makeOPiece (p := (id, (j : Int), (N : Int), sub)) HID.out HJW.out HNW.out hOx; subst ex; refine GrowO.push rfl (.tmp 42) (.tmp 54) _ rfl i1 _ 4 48 Try.underlying51 hj0 hj1 hj2 hj3 tz (by omega) rfl rfl (hG.below hBx) w1.heap.size [.int .i64 id, .int .i64 (j : Int), .int .i64 (N : Int), .slice Ad sub.length cd] (id, (j : Int), (N : Int), sub) rfl (Box.new w1 43 _) hOel (hNd.lower (by omega)) (fun f h1 h2 => by have := hNd.2 _ h1; have := hlt2 f h2; omega) (fun b hb hx => by have := (hOwn b hb).2; have := hNd.2 _ hx; omega) (one_piece _ _ _ _ _ _) (by omega) t1 (by omega) ?_; intro v2 w2 hG2 hgr2; have hBf : Below w.heap.size w w2 := Below.grown (w := (w1.alloc (.cells [.int .i64 id, .int .i64 (j : Int), .int .i64 (N : Int), .slice Ad sub.length cd].toArray 43))) (bel_trans hB hBx) hgr2 (by omega) (fun b hb => (hOwn b hb).1)))
          go_roundw
          case rel => exact ⟨j + 1, _, by omega, by go_num, by rw [HT.out]; exact hG2, hBf⟩
          case measure => first | (simp [intOf]; done) | (simp [intOf]; omega)
      · obtain rfl : j = N := by omega
        have HA := Lib.hid (show (splL id msg).take j = splL id msg from List.take_of_length_le (Nat.le_of_eq HLL.out))
        rw [HA.out] at hG
        obtain ⟨A3, c3, F3, hv, hO3, hN3⟩ := hG.done
        rw [HLL.out] at hv hO3
        subst hv
        go_wp2
        go_ret2
        exact ⟨A3, c3, rfl, tPiece.row.read hO3, hB⟩
theorem i_copied4 {w : World} {n c : Nat} {A : Option Addr} {l : List Int} (hl : Ints .u8 w w.heap.size A n l) (hn : n ≤ 1048576) :
    Calls Try.prog 64 #[.slice A n c] w fun e w' => ∃ v, e = .returned v ∧ Own .u8 5 w' w.heap.size v l ∧ Below w.heap.size w w' := by
  obtain ⟨i0, hi0, hz0, hz1, hz2⟩ := info_parts info_cb
  go_enter Try.func64, Try.ntmps64
  go_wp2_with (at_builtin; refine wpList_app _ rfl _ (.tmp 3) _ rfl w.heap.size 5 i0 _ 1 1 Try.underlying38 hi0 hz0 hz1 hz2 rfl (by omega) (.slice none 0 0) 0 [] rfl (World.ownsRow_nil _ _ _ _) _ n c (l.map (Value.int .u8)) rfl (Src.of_ints hl) (one_ints _ _) (by simp only [maxLen]; omega) (by omega) (Nat.le_refl _) ?_; intro v1 w1 hown hgr hat)
  go_ret
  exact ⟨v1, rfl, Own.of (n := 0 + n) (by simpa using hown) hl.2.2, Below.grown (Below.refl _ _) hgr (Nat.le_refl _) fun b hb => by simp [Value.ownBlock] at hb⟩
theorem split_subS {w : World} {n b off : Nat} {x : _} {msg : List Int} (hl : Ints .u8 w w.heap.size (some ⟨b, off, x⟩) n msg) {j : Nat} : Ints .u8 w w.heap.size (some ⟨b, off + j * 20, x⟩) (min 20 (n - j * 20)) ((msg.drop (j * 20)).take 20) := by
  by_cases hn : j * 20 < n
  · obtain ⟨b', off', e, hb, -⟩ := hl.2.1 (by omega)
    injection e with e
    injection e with e1 e2 e3
    subst e1 e2 e3
    have hI := ints_mid hl (lo := j * 20) (m := min 20 (n - j * 20)) (by omega)
    have e : (msg.drop (j * 20)).take (min 20 (n - j * 20)) = (msg.drop (j * 20)).take 20 := by
      by_cases h20 : min 20 (n - j * 20) = 20
      · rw [h20]
      · rw [List.take_of_length_le (by rw [List.length_drop, hl.1]; omega), List.take_of_length_le (by rw [List.length_drop, hl.1]; omega)]
    rwa [e] at hI
  · rw [show min 20 (n - j * 20) = 0 by omega, List.drop_eq_nil_of_le (by rw [hl.1]; omega)]
    exact Ints.nil
theorem split_sub0 {w : World} {n : Nat} {A : Option Addr} {msg : List Int} (hl : Ints .u8 w w.heap.size A n msg) (hn : n = 0) {j : Nat} : ∀ (W : World) (A' : Option Addr), Ints .u8 W W.heap.size A' (min 20 (n - j * 20)) ((msg.drop (j * 20)).take 20) := by
  intro W A'
  rw [show min 20 (n - j * 20) = 0 by omega, List.drop_eq_nil_of_le (by rw [hl.1]; omega)]
  exact Ints.nil
set_option maxHeartbeats 4000000 in
theorem i_Split {w : World} {id : Int} {A : Option Addr} {n c : Nat} {msg : List Int} (hid : (Lit.int .i64 id).wf = true) (h : tBy.R w w.heap.size [.slice A n c] msg) (hz : msg.length ≤ 1048576) :
    Calls Try.prog 32 #[.int .i64 id, .slice A n c] w fun e w' => ∃ A' c' F, e = .returned (.tuple #[.slice A' (fSpl id msg).length c', .bool (decide (SpOk id msg))]) ∧ tPiece.row.O w' [.slice A' (fSpl id msg).length c'] (fSpl id msg) F ∧ New w.heap.size F ∧ Below w.heap.size w w' := by
  obtain ⟨i1, hj0, hj1, hj2, hj3⟩ := info_parts info_Piece
  obtain ⟨hl, hnc, hcm⟩ := slR_ints h
  have hlen := hl.1
  by_cases hs : SpOk id msg
  rotate_left
  · rw [fSpl_f hs, decide_eq_false hs]
    have hnil : tPiece.row.O w [.slice none 0 0] [] [] := .inl ⟨none, 0, rfl, by omega, rfl, rfl⟩
    by_cases h1 : 0 ≤ id ∧ id ≤ 255
    · have h3 : (160 : Int) < (n : Int) := by unfold SpOk at hs; omega
      clear hs
      go_enter Try.func32, Try.ntmps32
      go_wp2_with (go_at_call 62; refine (i_isId_t _ _ h1.1 h1.2).mono ?_; rintro e w' ⟨rfl, rfl⟩)
      go_ret2
      exact ⟨none, 0, [], rfl, hnil, New.nil _, (by repeat (first | (with_reducible exact Below.refl _ _) | (with_reducible assumption) | (with_reducible refine bel_alloc ?_ _) | (with_reducible refine bel_drew ?_) | (with_reducible refine below_drewN ?_ _) | (with_reducible refine bel_put ?_ (by first | exact Nat.le_refl _ | (simp; done) | (simp; omega)) _)))⟩
    · clear hs
      go_enter Try.func32, Try.ntmps32
      go_wp2_with (go_at_call 62; refine (i_isId_f _ _ h1).mono ?_; rintro e w' ⟨rfl, rfl⟩)
      go_ret2
      exact ⟨none, 0, [], rfl, hnil, New.nil _, (by repeat (first | (with_reducible exact Below.refl _ _) | (with_reducible assumption) | (with_reducible refine bel_alloc ?_ _) | (with_reducible refine bel_drew ?_) | (with_reducible refine below_drewN ?_ _) | (with_reducible refine bel_put ?_ (by first | exact Nat.le_refl _ | (simp; done) | (simp; omega)) _)))⟩
  rw [fSpl_t hs, decide_eq_true hs]
  obtain ⟨⟨g1, g2⟩, g3⟩ := hs
  have hn : n ≤ 160 := by omega
  have q3 : ¬ (160 : Int) < (n : Int) := by omega
  obtain ⟨N, hN⟩ : ∃ N, splN msg.length = N := ⟨_, rfl⟩
  have hN8 : 1 ≤ N ∧ N ≤ 8 := by rw [← hN]; exact splN_le g3
  have HN := Lib.hid hN
  have HID := Lib.hid hid
  have HL := Lib.hid hlen
  have HNW := Lib.hid (show (Lit.int .i64 (N : Int)).wf = true from WalkArith.wf_i64 ⟨by omega, by omega⟩)
  have HLL := Lib.hid (show (splL id msg).length = N from by rw [splL_len, hN])
  have hNn : (n = 0 ∧ N = 1) ∨ (1 ≤ n ∧ N = (n + 19) / 20) := by
    rw [hlen] at hN; unfold splN at hN; split at hN <;> omega
  have HPF := Lib.hid (show fPF (n : Int) = (N : Int) from by
    rcases hNn with ⟨rfl, rfl⟩ | ⟨h1, h2⟩
    · rfl
    · rw [fPF_q (by omega) (by omega)]; omega)
  have HNN := Lib.hid hNn
  clear hid hlen g3 hz hN hNn
  rw [HLL.out]
  by_cases hn0 : n = 0
  · have HN0 := Lib.hid hn0
    clear hn0
    rcases A with _ | a
    · go_enter Try.func32, Try.ntmps32
      go_wp2_with (first
        | (go_at_call 62; refine (i_isId_t _ _ g1 g2).mono ?_; rintro e w' ⟨rfl, rfl⟩)
        | (go_at_call 63; refine (i_PiecesFor _ _).mono ?_; rintro e w' ⟨rfl, rfl⟩; rw [HPF.out])
        | (at_make; refine wpList_mkS _ rfl (.tmp 20) (.tmp 20) _ rfl 43 i1 _ 4 Try.underlying51 hj0 hj1 hj2 N rfl rfl (by rw [hj3]; omega) (by simp only [maxLen]; omega) ?_; intro w1 cur hcur hsz hB1 hgr))
      go_loopw [24] (fun i wr => ∃ j : Nat, j ≤ N ∧ i = .int .i64 j ∧ Below w.heap.size w wr ∧ ∃ F, Fill tPiece wr w.heap.size 43 N ((splL id msg).take j) F ∧ New (w.heap.size + 1) F) (fun i _ => N - (intOf i).toNat)
      case atStart => exact ⟨0, by omega, rfl, hB1, [], Fill.start hcur hsz, New.nil _⟩
      case round =>
        obtain ⟨j, hj, rfl, hB, F, hf, hNF⟩ := hrel
        by_cases hlt : j < N
        · have hl2 := splL_at (id := id) HN.out hlt
          have HT := Lib.hid (take_sn hl2)
          have HLN := Lib.hid (show ((splL id msg).take j).length = j from by rw [List.length_take, HLL.out]; omega)
          have HJW := Lib.hid (show (Lit.int .i64 (j : Int)).wf = true from WalkArith.wf_i64 ⟨by omega, by omega⟩)
          have jN : (j : Int) < (N : Int) := by omega
          have jj := HNN.out
          have hI := split_sub0 hl HN0.out (j := j)
          skip
          skip
          obtain ⟨sub, hsub⟩ : ∃ sub, (msg.drop (j * 20)).take 20 = sub := ⟨_, rfl⟩
          obtain ⟨m, hm⟩ : ∃ m, min 20 (n - j * 20) = m := ⟨_, rfl⟩
          rw [hsub] at HT
          rw [hsub, hm] at hI
          have i3 : (0 : Int) ≤ (j : Int) * 20 := by omega
          have i4 : (j : Int) * 20 ≤ (n : Int) := by omega
          have i5 : (n : Int) ≤ ((c : Nat) : Int) := by omega
          have p1 : IntKind.i64.wrap ((j : Int) * 20) = (j : Int) * 20 := IntWalk.i64_in _ (by omega)
          have i2 : IntKind.i64.wrap ((j : Int) * 20 + 20) = (j : Int) * 20 + 20 := IntWalk.i64_in _ (by omega)
          have t1 : ((j : Int) * 20).toNat = j * 20 := by omega
          have hm2 : m ≤ 20 := by omega
          by_cases hend : (n : Int) < (j : Int) * 20 + 20
          · skip
            have t2 : ((n : Int) - (j : Int) * 20).toNat = m := by omega
            have t3 : n - j * 20 = m := by omega
            have q7 : ¬ (j : Int) * 20 + 20 ≤ (n : Int) := by omega
            clear hl2 hsub hm jj
            go_wp2_with fail
            refine (i_copied4 (hI _ _) (by omega)).mono ?_
            rintro e w2 ⟨v2, rfl, hO2, hb2⟩
            obtain ⟨Ad, cd, Fd, rfl, hOd, hNd⟩ := own_sl4 hO2
            obtain ⟨Fx, hOel, ex⟩ := makeOPiece (p := (id, ((j : Nat) : Int), ((N : Nat) : Int), sub)) HID.out HJW.out HNW.out hOd
            subst ex
            have hgs := hf.size
            have hf2 := hf.below hb2
            have hsz2 := hb2.size
            have hP := Fill.push (K := 4) hf2 (by rw [HLN.out]; exact hlt) hOel (hNF.not (by omega)) (hNd.not hgs) rfl
            rw [HLN.out, ← HT.out] at hP
            have hM : New (w.heap.size + 1) (F ++ Fx) := New.app hNF hNd (by omega) hf.lt
            obtain ⟨u0, k0⟩ := hf2.cell (K := 4) (j := 0) (by rw [HLN.out]; exact hlt) rfl (by omega)
            rw [HLN.out] at k0
            replace k0 : w2.cell? ⟨w.heap.size, j * 4, none⟩ = some u0 := k0
            have f0 := hf2.frozen (j * 4)
            obtain ⟨u1, k1⟩ := hf2.cell (K := 4) (j := 1) (by rw [HLN.out]; exact hlt) rfl (by omega)
            rw [HLN.out] at k1
            replace k1 : w2.cell? ⟨w.heap.size, j * 4 + 1, none⟩ = some u1 := k1
            have f1 := hf2.frozen (j * 4 + 1)
            obtain ⟨u2, k2⟩ := hf2.cell (K := 4) (j := 2) (by rw [HLN.out]; exact hlt) rfl (by omega)
            rw [HLN.out] at k2
            replace k2 : w2.cell? ⟨w.heap.size, j * 4 + 2, none⟩ = some u2 := k2
            have f2 := hf2.frozen (j * 4 + 2)
            obtain ⟨u3, k3⟩ := hf2.cell (K := 4) (j := 3) (by rw [HLN.out]; exact hlt) rfl (by omega)
            rw [HLN.out] at k3
            replace k3 : w2.cell? ⟨w.heap.size, j * 4 + 3, none⟩ = some u3 := k3
            have f3 := hf2.frozen (j * 4 + 3)
            go_wp2
            go_roundw
            case rel => exact ⟨j + 1, by omega, by go_num, below_puts (bel_trans hB hb2) (Nat.le_refl _) (off := j * 4) (vs := [.int .i64 id, .int .i64 ((j : Nat) : Int), .int .i64 ((N : Nat) : Int), .slice Ad sub.length cd]), _, hP, hM⟩
            case measure => first | (simp [intOf]; done) | (simp [intOf]; omega)
          · exact absurd (show (n : Int) < (j : Int) * 20 + 20 by have h1 := HN0.out; omega) hend
        · obtain rfl : j = N := by omega
          have HA := Lib.hid (show (splL id msg).take j = splL id msg from List.take_of_length_le (Nat.le_of_eq HLL.out))
          rw [HA.out] at hf
          obtain ⟨F', hO, hF'⟩ := hf.done HLL.out (by omega)
          rw [HLL.out] at hO
          go_wp2
          go_ret2
          exact ⟨_, _, F', rfl, hO, New.cons hNF hF', hB⟩
    · by_cases hc0 : c = 0
      · subst hc0
        go_enter Try.func32, Try.ntmps32
        go_wp2_with (first
          | (go_at_call 62; refine (i_isId_t _ _ g1 g2).mono ?_; rintro e w' ⟨rfl, rfl⟩)
          | (go_at_call 63; refine (i_PiecesFor _ _).mono ?_; rintro e w' ⟨rfl, rfl⟩; rw [HPF.out])
          | (at_make; refine wpList_mkS _ rfl (.tmp 20) (.tmp 20) _ rfl 43 i1 _ 4 Try.underlying51 hj0 hj1 hj2 N rfl rfl (by rw [hj3]; omega) (by simp only [maxLen]; omega) ?_; intro w1 cur hcur hsz hB1 hgr))
        go_loopw [24] (fun i wr => ∃ j : Nat, j ≤ N ∧ i = .int .i64 j ∧ Below w.heap.size w wr ∧ ∃ F, Fill tPiece wr w.heap.size 43 N ((splL id msg).take j) F ∧ New (w.heap.size + 1) F) (fun i _ => N - (intOf i).toNat)
        case atStart => exact ⟨0, by omega, rfl, hB1, [], Fill.start hcur hsz, New.nil _⟩
        case round =>
          obtain ⟨j, hj, rfl, hB, F, hf, hNF⟩ := hrel
          by_cases hlt : j < N
          · have hl2 := splL_at (id := id) HN.out hlt
            have HT := Lib.hid (take_sn hl2)
            have HLN := Lib.hid (show ((splL id msg).take j).length = j from by rw [List.length_take, HLL.out]; omega)
            have HJW := Lib.hid (show (Lit.int .i64 (j : Int)).wf = true from WalkArith.wf_i64 ⟨by omega, by omega⟩)
            have jN : (j : Int) < (N : Int) := by omega
            have jj := HNN.out
            have hI := split_sub0 hl HN0.out (j := j)
            skip
            skip
            obtain ⟨sub, hsub⟩ : ∃ sub, (msg.drop (j * 20)).take 20 = sub := ⟨_, rfl⟩
            obtain ⟨m, hm⟩ : ∃ m, min 20 (n - j * 20) = m := ⟨_, rfl⟩
            rw [hsub] at HT
            rw [hsub, hm] at hI
            have i3 : (0 : Int) ≤ (j : Int) * 20 := by omega
            have i4 : (j : Int) * 20 ≤ (n : Int) := by omega
            have i5 : (n : Int) ≤ ((0 : Nat) : Int) := by omega
            have p1 : IntKind.i64.wrap ((j : Int) * 20) = (j : Int) * 20 := IntWalk.i64_in _ (by omega)
            have i2 : IntKind.i64.wrap ((j : Int) * 20 + 20) = (j : Int) * 20 + 20 := IntWalk.i64_in _ (by omega)
            have t1 : ((j : Int) * 20).toNat = j * 20 := by omega
            have hm2 : m ≤ 20 := by omega
            by_cases hend : (n : Int) < (j : Int) * 20 + 20
            · skip
              have t2 : ((n : Int) - (j : Int) * 20).toNat = m := by omega
              have t3 : n - j * 20 = m := by omega
              have q7 : ¬ (j : Int) * 20 + 20 ≤ (n : Int) := by omega
              clear hl2 hsub hm jj
              go_wp2_with fail
              refine (i_copied4 (hI _ _) (by omega)).mono ?_
              rintro e w2 ⟨v2, rfl, hO2, hb2⟩
              obtain ⟨Ad, cd, Fd, rfl, hOd, hNd⟩ := own_sl4 hO2
              obtain ⟨Fx, hOel, ex⟩ := makeOPiece (p := (id, ((j : Nat) : Int), ((N : Nat) : Int), sub)) HID.out HJW.out HNW.out hOd
              subst ex
              have hgs := hf.size
              have hf2 := hf.below hb2
              have hsz2 := hb2.size
              have hP := Fill.push (K := 4) hf2 (by rw [HLN.out]; exact hlt) hOel (hNF.not (by omega)) (hNd.not hgs) rfl
              rw [HLN.out, ← HT.out] at hP
              have hM : New (w.heap.size + 1) (F ++ Fx) := New.app hNF hNd (by omega) hf.lt
              obtain ⟨u0, k0⟩ := hf2.cell (K := 4) (j := 0) (by rw [HLN.out]; exact hlt) rfl (by omega)
              rw [HLN.out] at k0
              replace k0 : w2.cell? ⟨w.heap.size, j * 4, none⟩ = some u0 := k0
              have f0 := hf2.frozen (j * 4)
              obtain ⟨u1, k1⟩ := hf2.cell (K := 4) (j := 1) (by rw [HLN.out]; exact hlt) rfl (by omega)
              rw [HLN.out] at k1
              replace k1 : w2.cell? ⟨w.heap.size, j * 4 + 1, none⟩ = some u1 := k1
              have f1 := hf2.frozen (j * 4 + 1)
              obtain ⟨u2, k2⟩ := hf2.cell (K := 4) (j := 2) (by rw [HLN.out]; exact hlt) rfl (by omega)
              rw [HLN.out] at k2
              replace k2 : w2.cell? ⟨w.heap.size, j * 4 + 2, none⟩ = some u2 := k2
              have f2 := hf2.frozen (j * 4 + 2)
              obtain ⟨u3, k3⟩ := hf2.cell (K := 4) (j := 3) (by rw [HLN.out]; exact hlt) rfl (by omega)
              rw [HLN.out] at k3
              replace k3 : w2.cell? ⟨w.heap.size, j * 4 + 3, none⟩ = some u3 := k3
              have f3 := hf2.frozen (j * 4 + 3)
              go_wp2
              go_roundw
              case rel => exact ⟨j + 1, by omega, by go_num, below_puts (bel_trans hB hb2) (Nat.le_refl _) (off := j * 4) (vs := [.int .i64 id, .int .i64 ((j : Nat) : Int), .int .i64 ((N : Nat) : Int), .slice Ad sub.length cd]), _, hP, hM⟩
              case measure => first | (simp [intOf]; done) | (simp [intOf]; omega)
            · exact absurd (show (n : Int) < (j : Int) * 20 + 20 by have h1 := HN0.out; omega) hend
          · obtain rfl : j = N := by omega
            have HA := Lib.hid (show (splL id msg).take j = splL id msg from List.take_of_length_le (Nat.le_of_eq HLL.out))
            rw [HA.out] at hf
            obtain ⟨F', hO, hF'⟩ := hf.done HLL.out (by omega)
            rw [HLL.out] at hO
            go_wp2
            go_ret2
            exact ⟨_, _, F', rfl, hO, New.cons hNF hF', hB⟩
      · have HC0 := Lib.hid hc0
        clear hc0
        go_enter Try.func32, Try.ntmps32
        go_wp2_with (first
          | (go_at_call 62; refine (i_isId_t _ _ g1 g2).mono ?_; rintro e w' ⟨rfl, rfl⟩)
          | (go_at_call 63; refine (i_PiecesFor _ _).mono ?_; rintro e w' ⟨rfl, rfl⟩; rw [HPF.out])
          | (at_make; refine wpList_mkS _ rfl (.tmp 20) (.tmp 20) _ rfl 43 i1 _ 4 Try.underlying51 hj0 hj1 hj2 N rfl rfl (by rw [hj3]; omega) (by simp only [maxLen]; omega) ?_; intro w1 cur hcur hsz hB1 hgr))
        go_loopw [24] (fun i wr => ∃ j : Nat, j ≤ N ∧ i = .int .i64 j ∧ Below w.heap.size w wr ∧ ∃ F, Fill tPiece wr w.heap.size 43 N ((splL id msg).take j) F ∧ New (w.heap.size + 1) F) (fun i _ => N - (intOf i).toNat)
        case atStart => exact ⟨0, by omega, rfl, hB1, [], Fill.start hcur hsz, New.nil _⟩
        case round =>
          obtain ⟨j, hj, rfl, hB, F, hf, hNF⟩ := hrel
          by_cases hlt : j < N
          · have hl2 := splL_at (id := id) HN.out hlt
            have HT := Lib.hid (take_sn hl2)
            have HLN := Lib.hid (show ((splL id msg).take j).length = j from by rw [List.length_take, HLL.out]; omega)
            have HJW := Lib.hid (show (Lit.int .i64 (j : Int)).wf = true from WalkArith.wf_i64 ⟨by omega, by omega⟩)
            have jN : (j : Int) < (N : Int) := by omega
            have jj := HNN.out
            have hI := split_sub0 hl HN0.out (j := j)
            have k1 : j * 20 < c := by (have h1 := HN0.out; have h2 := HC0.out; have h3 := HNN.out; omega)
            have k2 : ¬ c - j * 20 = 0 := by omega
            obtain ⟨sub, hsub⟩ : ∃ sub, (msg.drop (j * 20)).take 20 = sub := ⟨_, rfl⟩
            obtain ⟨m, hm⟩ : ∃ m, min 20 (n - j * 20) = m := ⟨_, rfl⟩
            rw [hsub] at HT
            rw [hsub, hm] at hI
            have i3 : (0 : Int) ≤ (j : Int) * 20 := by omega
            have i4 : (j : Int) * 20 ≤ (n : Int) := by omega
            have i5 : (n : Int) ≤ ((c : Nat) : Int) := by omega
            have p1 : IntKind.i64.wrap ((j : Int) * 20) = (j : Int) * 20 := IntWalk.i64_in _ (by omega)
            have i2 : IntKind.i64.wrap ((j : Int) * 20 + 20) = (j : Int) * 20 + 20 := IntWalk.i64_in _ (by omega)
            have t1 : ((j : Int) * 20).toNat = j * 20 := by omega
            have hm2 : m ≤ 20 := by omega
            by_cases hend : (n : Int) < (j : Int) * 20 + 20
            · skip
              have t2 : ((n : Int) - (j : Int) * 20).toNat = m := by omega
              have t3 : n - j * 20 = m := by omega
              have q7 : ¬ (j : Int) * 20 + 20 ≤ (n : Int) := by omega
              clear hl2 hsub hm jj
              go_wp2_with fail
              refine (i_copied4 (hI _ _) (by omega)).mono ?_
              rintro e w2 ⟨v2, rfl, hO2, hb2⟩
              obtain ⟨Ad, cd, Fd, rfl, hOd, hNd⟩ := own_sl4 hO2
              obtain ⟨Fx, hOel, ex⟩ := makeOPiece (p := (id, ((j : Nat) : Int), ((N : Nat) : Int), sub)) HID.out HJW.out HNW.out hOd
              subst ex
              have hgs := hf.size
              have hf2 := hf.below hb2
              have hsz2 := hb2.size
              have hP := Fill.push (K := 4) hf2 (by rw [HLN.out]; exact hlt) hOel (hNF.not (by omega)) (hNd.not hgs) rfl
              rw [HLN.out, ← HT.out] at hP
              have hM : New (w.heap.size + 1) (F ++ Fx) := New.app hNF hNd (by omega) hf.lt
              obtain ⟨u0, k0⟩ := hf2.cell (K := 4) (j := 0) (by rw [HLN.out]; exact hlt) rfl (by omega)
              rw [HLN.out] at k0
              replace k0 : w2.cell? ⟨w.heap.size, j * 4, none⟩ = some u0 := k0
              have f0 := hf2.frozen (j * 4)
              obtain ⟨u1, k1⟩ := hf2.cell (K := 4) (j := 1) (by rw [HLN.out]; exact hlt) rfl (by omega)
              rw [HLN.out] at k1
              replace k1 : w2.cell? ⟨w.heap.size, j * 4 + 1, none⟩ = some u1 := k1
              have f1 := hf2.frozen (j * 4 + 1)
              obtain ⟨u2, k2⟩ := hf2.cell (K := 4) (j := 2) (by rw [HLN.out]; exact hlt) rfl (by omega)
              rw [HLN.out] at k2
              replace k2 : w2.cell? ⟨w.heap.size, j * 4 + 2, none⟩ = some u2 := k2
              have f2 := hf2.frozen (j * 4 + 2)
              obtain ⟨u3, k3⟩ := hf2.cell (K := 4) (j := 3) (by rw [HLN.out]; exact hlt) rfl (by omega)
              rw [HLN.out] at k3
              replace k3 : w2.cell? ⟨w.heap.size, j * 4 + 3, none⟩ = some u3 := k3
              have f3 := hf2.frozen (j * 4 + 3)
              go_wp2
              go_roundw
              case rel => exact ⟨j + 1, by omega, by go_num, below_puts (bel_trans hB hb2) (Nat.le_refl _) (off := j * 4) (vs := [.int .i64 id, .int .i64 ((j : Nat) : Int), .int .i64 ((N : Nat) : Int), .slice Ad sub.length cd]), _, hP, hM⟩
              case measure => first | (simp [intOf]; done) | (simp [intOf]; omega)
            · exact absurd (show (n : Int) < (j : Int) * 20 + 20 by have h1 := HN0.out; omega) hend
          · obtain rfl : j = N := by omega
            have HA := Lib.hid (show (splL id msg).take j = splL id msg from List.take_of_length_le (Nat.le_of_eq HLL.out))
            rw [HA.out] at hf
            obtain ⟨F', hO, hF'⟩ := hf.done HLL.out (by omega)
            rw [HLL.out] at hO
            go_wp2
            go_ret2
            exact ⟨_, _, F', rfl, hO, New.cons hNF hF', hB⟩
  · obtain ⟨b, off, rfl, hb, -⟩ := hl.2.1 (by omega)
    go_enter Try.func32, Try.ntmps32
    go_wp2_with (first
      | (go_at_call 62; refine (i_isId_t _ _ g1 g2).mono ?_; rintro e w' ⟨rfl, rfl⟩)
      | (go_at_call 63; refine (i_PiecesFor _ _).mono ?_; rintro e w' ⟨rfl, rfl⟩; rw [HPF.out])
      | (at_make; refine wpList_mkS _ rfl (.tmp 20) (.tmp 20) _ rfl 43 i1 _ 4 Try.underlying51 hj0 hj1 hj2 N rfl rfl (by rw [hj3]; omega) (by simp only [maxLen]; omega) ?_; intro w1 cur hcur hsz hB1 hgr))
    go_loopw [24] (fun i wr => ∃ j : Nat, j ≤ N ∧ i = .int .i64 j ∧ Below w.heap.size w wr ∧ ∃ F, Fill tPiece wr w.heap.size 43 N ((splL id msg).take j) F ∧ New (w.heap.size + 1) F) (fun i _ => N - (intOf i).toNat)
    case atStart => exact ⟨0, by omega, rfl, hB1, [], Fill.start hcur hsz, New.nil _⟩
    case round =>
      obtain ⟨j, hj, rfl, hB, F, hf, hNF⟩ := hrel
      by_cases hlt : j < N
      · have hl2 := splL_at (id := id) HN.out hlt
        have HT := Lib.hid (take_sn hl2)
        have HLN := Lib.hid (show ((splL id msg).take j).length = j from by rw [List.length_take, HLL.out]; omega)
        have HJW := Lib.hid (show (Lit.int .i64 (j : Int)).wf = true from WalkArith.wf_i64 ⟨by omega, by omega⟩)
        have jN : (j : Int) < (N : Int) := by omega
        have jj := HNN.out
        have hI := split_subS hl (j := j)
        have k1 : j * 20 < c := by (have h3 := HNN.out; omega)
        have k2 : ¬ c - j * 20 = 0 := by omega
        obtain ⟨sub, hsub⟩ : ∃ sub, (msg.drop (j * 20)).take 20 = sub := ⟨_, rfl⟩
        obtain ⟨m, hm⟩ : ∃ m, min 20 (n - j * 20) = m := ⟨_, rfl⟩
        rw [hsub] at HT
        rw [hsub, hm] at hI
        have i3 : (0 : Int) ≤ (j : Int) * 20 := by omega
        have i4 : (j : Int) * 20 ≤ (n : Int) := by omega
        have i5 : (n : Int) ≤ ((c : Nat) : Int) := by omega
        have p1 : IntKind.i64.wrap ((j : Int) * 20) = (j : Int) * 20 := IntWalk.i64_in _ (by omega)
        have i2 : IntKind.i64.wrap ((j : Int) * 20 + 20) = (j : Int) * 20 + 20 := IntWalk.i64_in _ (by omega)
        have t1 : ((j : Int) * 20).toNat = j * 20 := by omega
        have hm2 : m ≤ 20 := by omega
        by_cases hend : (n : Int) < (j : Int) * 20 + 20
        · skip
          have t2 : ((n : Int) - (j : Int) * 20).toNat = m := by omega
          have t3 : n - j * 20 = m := by omega
          have q7 : ¬ (j : Int) * 20 + 20 ≤ (n : Int) := by omega
          clear hl2 hsub hm jj
          go_wp2_with fail
          refine (i_copied4 (reach hI hB) (by omega)).mono ?_
          rintro e w2 ⟨v2, rfl, hO2, hb2⟩
          obtain ⟨Ad, cd, Fd, rfl, hOd, hNd⟩ := own_sl4 hO2
          obtain ⟨Fx, hOel, ex⟩ := makeOPiece (p := (id, ((j : Nat) : Int), ((N : Nat) : Int), sub)) HID.out HJW.out HNW.out hOd
          subst ex
          have hgs := hf.size
          have hf2 := hf.below hb2
          have hsz2 := hb2.size
          have hP := Fill.push (K := 4) hf2 (by rw [HLN.out]; exact hlt) hOel (hNF.not (by omega)) (hNd.not hgs) rfl
          rw [HLN.out, ← HT.out] at hP
          have hM : New (w.heap.size + 1) (F ++ Fx) := New.app hNF hNd (by omega) hf.lt
          obtain ⟨u0, k0⟩ := hf2.cell (K := 4) (j := 0) (by rw [HLN.out]; exact hlt) rfl (by omega)
          rw [HLN.out] at k0
          replace k0 : w2.cell? ⟨w.heap.size, j * 4, none⟩ = some u0 := k0
          have f0 := hf2.frozen (j * 4)
          obtain ⟨u1, k1⟩ := hf2.cell (K := 4) (j := 1) (by rw [HLN.out]; exact hlt) rfl (by omega)
          rw [HLN.out] at k1
          replace k1 : w2.cell? ⟨w.heap.size, j * 4 + 1, none⟩ = some u1 := k1
          have f1 := hf2.frozen (j * 4 + 1)
          obtain ⟨u2, k2⟩ := hf2.cell (K := 4) (j := 2) (by rw [HLN.out]; exact hlt) rfl (by omega)
          rw [HLN.out] at k2
          replace k2 : w2.cell? ⟨w.heap.size, j * 4 + 2, none⟩ = some u2 := k2
          have f2 := hf2.frozen (j * 4 + 2)
          obtain ⟨u3, k3⟩ := hf2.cell (K := 4) (j := 3) (by rw [HLN.out]; exact hlt) rfl (by omega)
          rw [HLN.out] at k3
          replace k3 : w2.cell? ⟨w.heap.size, j * 4 + 3, none⟩ = some u3 := k3
          have f3 := hf2.frozen (j * 4 + 3)
          go_wp2
          go_roundw
          case rel => exact ⟨j + 1, by omega, by go_num, below_puts (bel_trans hB hb2) (Nat.le_refl _) (off := j * 4) (vs := [.int .i64 id, .int .i64 ((j : Nat) : Int), .int .i64 ((N : Nat) : Int), .slice Ad sub.length cd]), _, hP, hM⟩
          case measure => first | (simp [intOf]; done) | (simp [intOf]; omega)
        · have i6 : (j : Int) * 20 + 20 ≤ ((c : Nat) : Int) := by omega
          have q7 : (j : Int) * 20 + 20 ≤ (n : Int) := by omega
          obtain rfl : m = 20 := by omega
          have t2 : ((j : Int) * 20 + 20 - (j : Int) * 20).toNat = 20 := by omega
          have t3 : j * 20 + 20 - j * 20 = 20 := by omega
          clear hl2 hsub hm jj
          go_wp2_with fail
          refine (i_copied4 (reach hI hB) (by omega)).mono ?_
          rintro e w2 ⟨v2, rfl, hO2, hb2⟩
          obtain ⟨Ad, cd, Fd, rfl, hOd, hNd⟩ := own_sl4 hO2
          obtain ⟨Fx, hOel, ex⟩ := makeOPiece (p := (id, ((j : Nat) : Int), ((N : Nat) : Int), sub)) HID.out HJW.out HNW.out hOd
          subst ex
          have hgs := hf.size
          have hf2 := hf.below hb2
          have hsz2 := hb2.size
          have hP := Fill.push (K := 4) hf2 (by rw [HLN.out]; exact hlt) hOel (hNF.not (by omega)) (hNd.not hgs) rfl
          rw [HLN.out, ← HT.out] at hP
          have hM : New (w.heap.size + 1) (F ++ Fx) := New.app hNF hNd (by omega) hf.lt
          obtain ⟨u0, k0⟩ := hf2.cell (K := 4) (j := 0) (by rw [HLN.out]; exact hlt) rfl (by omega)
          rw [HLN.out] at k0
          replace k0 : w2.cell? ⟨w.heap.size, j * 4, none⟩ = some u0 := k0
          have f0 := hf2.frozen (j * 4)
          obtain ⟨u1, k1⟩ := hf2.cell (K := 4) (j := 1) (by rw [HLN.out]; exact hlt) rfl (by omega)
          rw [HLN.out] at k1
          replace k1 : w2.cell? ⟨w.heap.size, j * 4 + 1, none⟩ = some u1 := k1
          have f1 := hf2.frozen (j * 4 + 1)
          obtain ⟨u2, k2⟩ := hf2.cell (K := 4) (j := 2) (by rw [HLN.out]; exact hlt) rfl (by omega)
          rw [HLN.out] at k2
          replace k2 : w2.cell? ⟨w.heap.size, j * 4 + 2, none⟩ = some u2 := k2
          have f2 := hf2.frozen (j * 4 + 2)
          obtain ⟨u3, k3⟩ := hf2.cell (K := 4) (j := 3) (by rw [HLN.out]; exact hlt) rfl (by omega)
          rw [HLN.out] at k3
          replace k3 : w2.cell? ⟨w.heap.size, j * 4 + 3, none⟩ = some u3 := k3
          have f3 := hf2.frozen (j * 4 + 3)
          go_wp2
          go_roundw
          case rel => exact ⟨j + 1, by omega, by go_num, below_puts (bel_trans hB hb2) (Nat.le_refl _) (off := j * 4) (vs := [.int .i64 id, .int .i64 ((j : Nat) : Int), .int .i64 ((N : Nat) : Int), .slice Ad sub.length cd]), _, hP, hM⟩
          case measure => first | (simp [intOf]; done) | (simp [intOf]; omega)
      · obtain rfl : j = N := by omega
        have HA := Lib.hid (show (splL id msg).take j = splL id msg from List.take_of_length_le (Nat.le_of_eq HLL.out))
        rw [HA.out] at hf
        obtain ⟨F', hO, hF'⟩ := hf.done HLL.out (by omega)
        rw [HLL.out] at hO
        go_wp2
        go_ret2
        exact ⟨_, _, F', rfl, hO, New.cons hNF hF', hB⟩
end Go.Proofs.Ytgepeppmhfnbeab
