/-
  Contracts of the draws of an order and of bytes that are brought into it (chapter 2).
-/
import Derived.Test.YtjehcmmbbjidkaaDrawOrd
namespace Go.Proofs.Ytjehcmmbbjidkaa
open Go.ChangeShapes Go.WideShapes Go.ChangeAt Go.RowKit
open Fld
set_option maxRecDepth 100000

theorem nine_ints {w : World} {t : TypeId} {x0 x1 x2 x3 : Int} (h0 : 0 ≤ x0 ∧ x0 ≤ 255) (h1 : 0 ≤ x1 ∧ x1 ≤ 255) (h2 : 0 ≤ x2 ∧ x2 ≤ 255) (h3 : 0 ≤ x3 ∧ x3 ≤ 255) :
    Ints .u8 (w.alloc (.cells #[.int .u8 x0, .int .u8 x1, .int .u8 x2, .int .u8 x3, .int .u8 1, .int .u8 2, .int .u8 3, .int .u8 4, .int .u8 5] t)) (w.heap.size + 1) (some ⟨w.heap.size, 0, none⟩) 9 [x0, x1, x2, x3, 1, 2, 3, 4, 5] := by
  refine ⟨rfl, fun _ => ⟨w.heap.size, 0, rfl, by omega, fun i hi => ?_⟩, ?_⟩
  · rw [(Box.new w t _).cell]
    match i, hi with
    | 0, _ => rfl
    | 1, _ => rfl
    | 2, _ => rfl
    | 3, _ => rfl
    | 4, _ => rfl
    | 5, _ => rfl
    | 6, _ => rfl
    | 7, _ => rfl
    | 8, _ => rfl
  · intro x hx
    simp only [List.mem_cons, List.not_mem_nil, or_false] at hx
    exact wf8 (by omega)
theorem ints_gb {k : IntKind} {w w' : World} {B g n : Nat} {A : Option Addr} {l : List Int} (h : Ints k w B A n l) (hG : w.grownBy w' (some g)) (hA : ∀ b off, A = some ⟨b, off, none⟩ → b ≠ g ∧ b < w.heap.size) : Ints k w' B A n l := by
  refine ⟨h.1, fun h0 => ?_, h.2.2⟩
  obtain ⟨b, off, e, hb, hc⟩ := h.2.1 h0
  obtain ⟨h1, h2⟩ := hA b off e
  exact ⟨b, off, e, hb, fun i hi => (World.cell?_of_block (a := ⟨b, off + i, none⟩) (hG.block b h2 (fun e => h1 (by injection e)))).trans (hc i hi)⟩
theorem own_at {k : IntKind} {e : TypeId} {w : World} {base g c : Nat} {l : List Int} (h : Own k e w base (.slice (some ⟨g, 0, none⟩) l.length c) l) (hn : 0 < l.length) : base ≤ g ∧ g < w.heap.size ∧ (∀ i, i < l.length → w.cell? ⟨g, i, none⟩ = some (.int k (l.getD i 0))) ∧ ∀ i, w.frozen? ⟨g, i, none⟩ = false := by
  obtain ⟨g', c', e1, _, _, h1, h2, h3, h4⟩ := h.row hn
  injection e1 with e1
  injection e1 with e1
  injection e1 with e1
  subst e1
  exact ⟨h1, h2, h3, h4⟩
set_option maxHeartbeats 2000000 in
/-- A drawn order, or nearly one: at most four numbers. -/
theorem k_order {w0 w : World} {g n c : Nat} {A : Option Addr} {l : List Int} (h : Curs w g A n c l) (hB : Below w0.heap.size w0 w) (hg : w0.heap.size ≤ g) :
    Calls Try.prog 36 #[.pointer (some ⟨g, 0, none⟩)] w fun e w' => ∃ v l', e = .returned v ∧ Own .i64 3 w' (g + 1) v l' ∧ l'.length ≤ 4 ∧ Curs w' g A n c l ∧ Below w0.heap.size w0 w' := by
  go_enter Try.func36, Try.ntmps36
  go_wp2_with (first
    | (go_at_call 37; refine (k_Byte_from w (by assumption) (by first | assumption | exact gb_self _ _)).mono ?_; rintro e w1 ⟨x, rfl, hx0, hx1, hC1, hG1⟩)
    | (go_at_call 53; refine (k_Below _ _ (Curs.alloc (by assumption) _) (gb_self _ _) (by omega) (by omega)).mono ?_; rintro e w2 ⟨y, rfl, hy0, hy1, hC2, hG2⟩))
  have hs1 := hC1.size
  have hs2 := hG2.size
  simp at hs2
  obtain ⟨d, hI⟩ : ∃ d, Ints .u8 w2 w2.heap.size (some ⟨w1.heap.size, 0, none⟩) 9 d := by
    refine ⟨_, Ints.up (ints_gb (nine_ints ?_ ?_ ?_ ?_) hG2 ?_) ?_⟩
    · exact ⟨by assumption, by assumption⟩
    · exact ⟨by assumption, by assumption⟩
    · exact ⟨by assumption, by assumption⟩
    · exact ⟨by assumption, by assumption⟩
    · intro b off e
      injection e with e
      injection e with e
      subst e
      exact ⟨by omega, by simp⟩
    · omega
  have hBa : Below w0.heap.size w0 w1 := below_gb2 hB hg hG1
  have hB2 := below_gb2 (hBa.alloc hBa.size _) hg hG2
  obtain ⟨p, rfl⟩ := Int.eq_ofNat_of_zero_le hy0
  have hp : p ≤ 4 := by omega
  have hs := hC2.size
  clear hG2 hs2 hs1 hBa
  cases hf : shuf d (p - 1) (iota p) 0 with
  | none =>
    refine (s_shuffle_f p hI (by omega) (by omega) hf).mono ?_
    rintro e w3 ⟨rfl, hB3⟩
    go_wp2
    go_ret
    exact ⟨_, [], rfl, Own.nil _ _ _ _, by simp, hC2.below hB3 hs, hB2.trans (hB3.mono hB2.size)⟩
  | some q =>
    obtain ⟨L, U⟩ := q
    have hL : L.length = p := by rw [(shuf_all (by_ints hI) hf).1.length_eq, iota_len]
    refine (s_shuffle_t p hI (by omega) (by omega) hf).mono ?_
    rintro e w3 ⟨v, rfl, hO, hB3⟩
    have hC3 := hC2.below hB3 hs
    have hB3' := hB2.trans (hB3.mono hB2.size)
    have hO3 := hO.lower (show g + 1 ≤ w2.heap.size by omega)
    clear hf hI hO hC2
    subst hL
    by_cases h0 : L.length = 0
    · obtain ⟨A1, c1, rfl, _⟩ := hO3.shape
      rw [h0] at hO3 ⊢
      go_wp2
      go_ret
      exact ⟨_, L, rfl, hO3, by omega, hC3, hB3'⟩
    · obtain ⟨g', c', rfl, _⟩ := hO3.row (by omega)
      go_wp2_with (first
        | (go_at_call 38; refine (k_Once w3 4 hC3 (gb_self w3 g) (by omega) (by omega)).mono ?_; rintro e w4 ⟨b, rfl, hC4, hG4⟩; have hO4 := hO3.past hG4; have hB4 := below_gb2 hB3' hg hG4)
        | (go_at_call 53; refine (k_Below w4 6 hC4 (gb_self w4 g) (by omega) (by omega)).mono ?_; rintro e w5 ⟨z, rfl, hz0, hz1, hC5, hG5⟩; have hO5 := hO4.past hG5; have hB5 := below_gb2 hB4 hg hG5; obtain ⟨hgg, hgs, hcc, hff⟩ := own_at hO5 (by omega); have hc0 := hcc 0 (by omega); have hf0 := hff 0))
      · go_ret
        exact ⟨_, L.set 0 (z - 1), rfl, hO5.put 0 (z - 1) (WalkArith.wf_i64 ⟨by omega, by omega⟩), by simp; omega, hC5.below (B := g + 1) ((Below.refl _ _).setCell hgg _) (by omega), hB5.setCell (by show w0.heap.size ≤ g'; omega) _⟩
      · go_ret
        exact ⟨_, L, rfl, hO4, by omega, hC4, hB4⟩
set_option maxHeartbeats 2000000 in
/-- Drawn bytes and a drawn order of as many, or of one less. -/
theorem d_Reorder {w : World} {n c : Nat} {A : Option Addr} {l : List Int} (hl : Ints .u8 w w.heap.size A n l) (hn : n ≤ 140737488355328) :
    Calls Try.prog 12 #[.slice A n c] w fun e w' => ∃ v b u o, e = .returned (.tuple #[v, u]) ∧ Own .u8 5 w' w.heap.size v b ∧ Own .i64 3 w' w.heap.size u o ∧ b.length ≤ 5 ∧ o.length ≤ 4 ∧ Below w.heap.size w w' := by
  obtain ⟨i0, hi0, hz0, hz1, hz2⟩ := info_parts info_by
  go_enter Try.func12, Try.ntmps12
  go_wp2_with fail
  refine (k_New hl hn).mono ?_
  rintro e w1 ⟨g, rfl, hg, hC1, hB1⟩
  go_wp2_with fail
  refine (k_order hC1 hB1 hg).mono ?_
  rintro e w3 ⟨u, o, rfl, hO, hlo, hC3, hB3⟩
  have hob := fun b => hO.block (b := b)
  obtain ⟨A1, c1, rfl, _⟩ := hO.shape
  have hs3 := hC3.size
  obtain ⟨q, hq⟩ : ∃ q, o.length = q := ⟨_, rfl⟩
  rw [hq] at hO hlo hob ⊢
  have HQ := Lib.hid hq
  clear hq
  go_wp2_with (at_make; refine wpList_mk _ rfl (.tmp 13) (.tmp 13) _ rfl 5 i0 _ Try.underlying22 hi0 hz0 rfl hz1 q rfl rfl (by rw [hz2]; omega) (by simp only [maxLen]; omega) ?_; intro w4 hrow hb4 hsz)
  have hZ := zeros_own (base := w3.heap.size) hrow (by omega) (Nat.le_refl _)
  obtain ⟨G, hG⟩ : ∃ G, w3.heap.size = G := ⟨_, rfl⟩
  have hO4 := hO.below hb4
  have hC4 := hC3.below hb4 hs3
  have hB4 := hB3.trans (hb4.mono hB3.size)
  rw [hG] at hZ hs3 hob
  try rw [hG]
  have hgG : w.heap.size ≤ G := by omega
  have hGg : G ≠ g := by omega
  clear hrow hb4 hsz hG hO hC3 hB3
  go_loopw [7] (fun i wr => ∃ (k : Nat) (b : List Int), k ≤ q ∧ i = .int .i64 k ∧ b.length = q ∧ Own .u8 5 wr G (.slice (some ⟨G, 0, none⟩) q q) b ∧ Own .i64 3 wr (g + 1) (.slice A1 q c1) o ∧ Curs wr g A n c l ∧ Below w.heap.size w wr) (fun i _ => q - (intOf i).toNat)
  case atStart => exact ⟨0, _, by omega, rfl, by simp, hZ, hO4, hC4, hB4⟩
  case round =>
    obtain ⟨k, b, hk, rfl, hbl, hb, ho, hC, hB⟩ := hrel
    have HB := Lib.hid hbl
    by_cases hlt : k < q
    · go_wp2_with (go_at_call 37; refine (k_Byte_from wr hC (gb_self _ _)).mono ?_; rintro e w5 ⟨y, rfl, hy0, hy1, hC5, hG5⟩; have hb5 := hb.kept hG5 (.inr (fun e => hGg (Option.some.inj e))); have ho5 := ho.past hG5; have hB5 := below_gb2 hB hg hG5; obtain ⟨_, _, hcc, hff⟩ := own_at (l := b) (c := q) (by rw [HB.out]; exact hb5) (by rw [HB.out]; omega); have hck := hcc k (by rw [HB.out]; exact hlt); have hfk := hff k)
      go_roundw
      case rel => exact ⟨k + 1, b.set k y, by omega, by go_num, by rw [List.length_set, HB.out], by have h' := Own.put (l := b) (c := q) (by rw [HB.out]; exact hb5) k y (wf8 (by omega)); rw [HB.out] at h'; exact h', ho5.kept (gb_put (gb_self w5 G) k _) (.inr (fun e => by have := (hob _ e).2; omega)), hC5.below (B := g + 1) ((Below.refl _ _).setCell (by show g + 1 ≤ G; omega) _) (by omega), hB5.setCell (by show w.heap.size ≤ G; omega) _⟩
      case measure => simp [intOf]; omega
    · obtain rfl : k = q := by omega
      go_wp2_with (first
        | (go_at_call 38; refine (k_Once wr 9 hC (gb_self _ _) (by omega) (by omega)).mono ?_; rintro e w5 ⟨y, rfl, hC5, hG5⟩; have hb5 := hb.kept hG5 (.inr (fun e => hGg (Option.some.inj e))); have ho5 := ho.past hG5; have hB5 := below_gb2 hB hg hG5; have hGs := (hb5.block (b := G) rfl).2)
        | (at_builtin; refine wpList_app _ rfl (.tmp 29) (.tmp 30) _ rfl G 5 i0 _ 1 1 Try.underlying22 hi0 hz0 hz1 hz2 rfl (by omega) _ _ _ rfl (hb5.1.alloc _) _ 1 1 [.int .u8 1] rfl (Src.one _ _ _) (one_int _ _) (by simp only [maxLen]; rw [HB.out]; omega) (by rw [HB.out]; omega) (by simp; omega) ?_; intro v1 w6 hown hgr hat))
      · have ho6 := (ho5.alloc _).kept hgr (.inr (fun e => Nat.lt_irrefl G (hob G e).2))
        have hb6 := own_snoc hb5 hown rfl (by omega)
        have hB6 := (hB5.alloc hB5.size (.cells #[.int .u8 1] 5)).trans (gb_below (B := w.heap.size) (g := G) hgr (by have := hB5.size; simp; omega) hgG)
        go_ret2
        exact ⟨_, _, _, _, rfl, hb6.lower hgG, ho6.lower (by omega), by rw [List.length_append, HB.out]; simp; omega, by rw [HQ.out]; omega, hB6⟩
      · go_ret2
        exact ⟨_, _, _, _, rfl, hb5.lower hgG, ho5.lower (by omega), by rw [HB.out]; omega, by rw [HQ.out]; omega, hB5⟩
end Go.Proofs.Ytjehcmmbbjidkaa
