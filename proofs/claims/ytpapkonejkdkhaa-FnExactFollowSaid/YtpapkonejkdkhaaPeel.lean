/-
  Contracts of the program's Peel, peelPlain, NextOf.
-/
import Derived.Test.YtpapkonejkdkhaaPeelN
import Derived.Test.YtpapkonejkdkhaaPeelE
import Derived.Test.YtpapkonejkdkhaaPeelR
namespace Go.Proofs.Ytpapkonejkdkhaa
set_option maxRecDepth 100000
set_option linter.unusedSimpArgs false
set_option linter.unusedVariables false
open Go.ChangeShapes Go.WideShapes Go.ChangeAt Go.RowKit
open Fld
attribute [local go_sem ↓] Go.wp_at_zero Go.wp_at_succ

theorem fpeel_p {s : Int} {l pad : List Int} (h : Sec s) (h1 : l.length = 80) (h2 : 80 ≤ pad.length) : fpeel s l pad = ppeel s l pad := by
  by_cases hp : peels s l
  · rw [fpeel_t ⟨⟨h, h1, h2⟩, hp⟩, ppeel_t hp]
  · rw [fpeel_f (fun x => hp x.2), ppeel_f hp]
theorem i_Peel {A A' : Option Addr} {n c m d : Nat} {w : World} {l pad : List Int} (s : Int) (hl : Ints .u8 w w.heap.size A n l) (hc : n ≤ c) (hcm : c ≤ 9223372036854775807) (hp : Ints .u8 w w.heap.size A' m pad) (hmd : m ≤ d) (hd : d ≤ 9223372036854775807) :
    Calls Try.prog 14 #[.int .i64 s, .agg #[.slice A n c], .slice A' m d] w fun e w' => ∃ vL vC, e = .returned (.tuple #[.agg #[.int .i64 (fpeel s l pad).1.next, .int .i64 (fpeel s l pad).1.due, .int .i64 (fpeel s l pad).1.tag, vL, vC], .bool (fpeel s l pad).2]) ∧ ReadsF w.heap.size w' vL (fpeel s l pad).1.load ∧ ReadsF w.heap.size w' vC (fpeel s l pad).1.cell ∧ Below w.heap.size w w' := by
  rcases sec_or s with hs | hs
  · by_cases hn : n = 80
    · by_cases hm : 80 ≤ m
      · subst hn
        rw [fpeel_p hs hl.1 (by rw [hp.1]; exact hm)]
        by_cases hpe : peels s l
        · by_cases h255 : (peelX s l).getD 0 0 = 255
          · exact i_Peel_e s hs hl hc hcm hp hm hmd hd hpe h255
          · exact i_Peel_r s hs hl hc hcm hp hm hmd hd hpe h255
        · exact i_Peel_n s hs hl hc hcm hp hm hmd hd hpe
      · rw [fpeel_f (fun x => hm (by rw [← hp.1]; exact x.1.2.2))]
        exact (i_Peel_c s A A' n c m d w hs hn hm).mono fun e w' hh => ⟨_, _, hh.1, ReadsF.nil _ _, ReadsF.nil _ _, hh.2⟩
    · rw [fpeel_f (fun x => hn (by rw [← hl.1]; exact x.1.2.1))]
      exact (i_Peel_b s A A' n c m d w hs hn).mono fun e w' hh => ⟨_, _, hh.1, ReadsF.nil _ _, ReadsF.nil _ _, hh.2⟩
  · rw [fpeel_f (fun x => hs x.1.1)]
    exact (i_Peel_a s A A' n c m d w hs).mono fun e w' hh => ⟨_, _, hh.1, ReadsF.nil _ _, ReadsF.nil _ _, hh.2⟩
def zer : List Int := List.replicate 80 0
theorem zer_at {j : Nat} (h : j < 80) : zer.getD j 0 = 0 := by
  unfold zer
  rw [List.getD_eq_getElem?_getD, List.getElem?_replicate, if_pos h]
  rfl
theorem zer_len : zer.length = 80 := by simp [zer]
theorem i_peelPlain {A : Option Addr} {n c : Nat} {w : World} {l : List Int} (s : Int) (hl : Ints .u8 w w.heap.size A n l) (hc : n ≤ c) (hcm : c ≤ 9223372036854775807) :
    Calls Try.prog 65 #[.int .i64 s, .agg #[.slice A n c]] w fun e w' => ∃ vL vC, e = .returned (.tuple #[.agg #[.int .i64 (fpeel s l zer).1.next, .int .i64 (fpeel s l zer).1.due, .int .i64 (fpeel s l zer).1.tag, vL, vC], .bool (fpeel s l zer).2]) ∧ ReadsF w.heap.size w' vL (fpeel s l zer).1.load ∧ ReadsF w.heap.size w' vC (fpeel s l zer).1.cell ∧ Below w.heap.size w w' := by
  have hmk : ∀ W : World, (Instr.makeSlice 22 (.int .i64 80) (.int .i64 80)).run Try.prog W = .ok (.slice (some ⟨W.heap.size, 0, none⟩) 80 80) (W.alloc (.cells (madeCells #[Value.int .u8 0] 80) 5)) := fun W => run_make_row' (P := Try.prog) 22 5 (.int .u8 0) 1 Try.underlying22 info_by rfl .i64 .i64 80 (by omega) (by omega) W
  have pz : ∀ W : World, Ints .u8 (W.alloc (.cells (madeCells #[Value.int .u8 0] 80) 5)).drew (W.alloc (.cells (madeCells #[Value.int .u8 0] 80) 5)).drew.heap.size (some ⟨W.heap.size, 0, none⟩) 80 zer := fun W => by
    have h := World.rowIs_made W (.int .u8 0) 80 5
    exact (Own.of_row (l := zer) (h.congr fun j hj => by rw [zer_at hj]) zer_len (by simp only [maxLen]; omega) (Nat.le_refl _) (fun x hx => by unfold zer at hx; rw [List.mem_replicate] at hx; rw [hx.2]; exact wf8 ⟨by omega, by omega⟩)).intsAt.1.drew
  have HPZ := Lib.hid pz
  clear pz
  have bc : Box ((w.alloc (.cells #[.slice A n c] 26)).alloc (.cells #[.int .i64 0, .int .i64 0, .int .i64 0, .slice none 0 0, .slice none 0 0] 28)) w.heap.size 26 #[.slice A n c] := (Box.new w _ _).alloc _
  have bp : Box ((w.alloc (.cells #[.slice A n c] 26)).alloc (.cells #[.int .i64 0, .int .i64 0, .int .i64 0, .slice none 0 0, .slice none 0 0] 28)) (w.heap.size + 1) 28 #[.int .i64 0, .int .i64 0, .int .i64 0, .slice none 0 0, .slice none 0 0] := by have := Box.new (w.alloc (.cells #[.slice A n c] 26)) 28 #[.int .i64 0, .int .i64 0, .int .i64 0, .slice none 0 0, .slice none 0 0]; simpa using this
  obtain ⟨W0, hW0⟩ : ∃ W, ((w.alloc (.cells #[.slice A n c] 26)).alloc (.cells #[.int .i64 0, .int .i64 0, .int .i64 0, .slice none 0 0, .slice none 0 0] 28)) = W := ⟨_, rfl⟩
  have hB0 : Below w.heap.size w W0 := by rw [← hW0]; exact (by repeat (first | (with_reducible exact Below.refl _ _) | (with_reducible assumption) | (with_reducible refine bel_alloc ?_ _) | (with_reducible refine bel_drew ?_) | (with_reducible refine below_drewN ?_ _) | (with_reducible refine bel_put ?_ (by first | exact Nat.le_refl _ | (simp; done) | (simp; omega)) _)))
  rw [hW0] at bc bp
  have HW0 := Lib.hid hW0
  clear hW0
  have cd : W0.drew.cell? ⟨w.heap.size, 0, none⟩ = some (.slice A n c) := bc.drew.cell 0
  have ce : (W0.alloc (.cells (madeCells #[Value.int .u8 0] 80) 5)).drew.cell? ⟨w.heap.size, 0, none⟩ = some (.slice A n c) := (bc.alloc _).drew.cell 0
  go_enter Try.func65, Try.ntmps65
  go_wp2_with fail
  rw [HW0.out]
  go_region_held3 (fun w' => w'.cell? ⟨w.heap.size, 0, none⟩ = some (.slice A n c)) (first | (with_reducible exact cd) | (with_reducible exact ce) | (with_reducible exact cf) | (exact ((((((bc.below hs1 bc.size).far (p := ⟨w.heap.size + 1, 0, none⟩) (by show w.heap.size ≠ w.heap.size + 1; omega) _).far (p := ⟨w.heap.size + 1, 1, none⟩) (by show w.heap.size ≠ w.heap.size + 1; omega) _).far (p := ⟨w.heap.size + 1, 2, none⟩) (by show w.heap.size ≠ w.heap.size + 1; omega) _).far (p := ⟨w.heap.size + 1, 3, none⟩) (by show w.heap.size ≠ w.heap.size + 1; omega) _).far (p := ⟨w.heap.size + 1, 4, none⟩) (by show w.heap.size ≠ w.heap.size + 1; omega) _).cell 0))
    (first | (go_at_call 14; refine (i_Peel s (reach (reach hl hB0) (by repeat (first | (with_reducible exact Below.refl _ _) | (with_reducible assumption) | (with_reducible refine bel_alloc ?_ _) | (with_reducible refine bel_drew ?_) | (with_reducible refine below_drewN ?_ _) | (with_reducible refine bel_put ?_ (by first | exact Nat.le_refl _ | (simp; done) | (simp; omega)) _)))) hc hcm (HPZ.out _) (by omega) (by omega)).mono ?_; rintro e w1 ⟨vL, vC, rfl, hRL, hRC, hb1⟩; have hs1 : Below W0.heap.size W0 w1 := bel_trans (by repeat (first | (with_reducible exact Below.refl _ _) | (with_reducible assumption) | (with_reducible refine bel_alloc ?_ _) | (with_reducible refine bel_drew ?_) | (with_reducible refine below_drewN ?_ _) | (with_reducible refine bel_put ?_ (by first | exact Nat.le_refl _ | (simp; done) | (simp; omega)) _))) hb1; have cf : w1.cell? ⟨w.heap.size, 0, none⟩ = some (.slice A n c) := (bc.below hs1 bc.size).cell 0; obtain ⟨AL, nL, cL, rfl, hL1, hL2, hIL, hLo⟩ := hRL; obtain ⟨AC, nC, cC, rfl, hC1, hC2, hIC, hCo⟩ := hRC; have k0 := (bp.below hs1 bp.size).cell 0; have j0 := (bp.below hs1 bp.size).frozen 0; have k1 := (bp.below hs1 bp.size).cell 1; have j1 := (bp.below hs1 bp.size).frozen 1; have k2 := (bp.below hs1 bp.size).cell 2; have j2 := (bp.below hs1 bp.size).frozen 2; have k3 := (bp.below hs1 bp.size).cell 3; have j3 := (bp.below hs1 bp.size).frozen 3; have k4 := (bp.below hs1 bp.size).cell 4; have j4 := (bp.below hs1 bp.size).frozen 4))
  have hz := bp.size
  have hg : w.heap.size + 1 < ((W0.alloc (.cells (madeCells #[Value.int .u8 0] 80) 5)).drew).heap.size := by
    have : ((W0.alloc (.cells (madeCells #[Value.int .u8 0] 80) 5)).drew).heap.size = W0.heap.size + 1 := by show (W0.alloc _).heap.size = _; simp
    omega
  have HRL := Lib.hid (show ReadsF _ w1 (.slice AL nL cL) (fpeel s l zer).1.load from ⟨AL, nL, cL, rfl, hL1, hL2, hIL, hLo⟩)
  have HRC := Lib.hid (show ReadsF _ w1 (.slice AC nC cC) (fpeel s l zer).1.cell from ⟨AC, nC, cC, rfl, hC1, hC2, hIC, hCo⟩)
  have bZ := ((((((bp.below hs1 bp.size).put 0 (.int .i64 (fpeel s l zer).1.next)).put 1 (.int .i64 (fpeel s l zer).1.due)).put 2 (.int .i64 (fpeel s l zer).1.tag)).put 3 (.slice AL nL cL)).put 4 (.slice AC nC cC))
  have e0 := bZ.cell 0; have e1 := bZ.cell 1; have e2 := bZ.cell 2; have e3 := bZ.cell 3; have e4 := bZ.cell 4
  go_wp2
  refine bodyPost_ret (v := .tuple #[.agg #[.int .i64 (fpeel s l zer).1.next, .int .i64 (fpeel s l zer).1.due, .int .i64 (fpeel s l zer).1.tag, .slice AL nL cL, .slice AC nC cC], .bool (fpeel s l zer).2]) (by simp [results, Try.results65, go_sem, e0, e1, e2, e3, e4]) rfl ?_
  exact ⟨_, _, rfl, (((((HRL.out.put hg 0 _).put hg 1 _).put hg 2 _).put hg 3 _).put hg 4 _).lower (by omega), (((((HRC.out.put hg 0 _).put hg 1 _).put hg 2 _).put hg 3 _).put hg 4 _).lower (by omega), (bel_put (bel_put (bel_put (bel_put (bel_put (bel_trans hB0 hs1) (Nat.le_succ _) _) (Nat.le_succ _) _) (Nat.le_succ _) _) (Nat.le_succ _) _) (Nat.le_succ _) _)⟩
def fnext (s : Int) (l : List Int) : Int := if (fpeel s l zer).2 = true then (fpeel s l zer).1.next else -1
theorem i_NextOf {A : Option Addr} {n c : Nat} {w : World} {l : List Int} (s : Int) (hl : Ints .u8 w w.heap.size A n l) (hc : n ≤ c) (hcm : c ≤ 9223372036854775807) :
    Calls Try.prog 103 #[.int .i64 s, .agg #[.slice A n c]] w fun e w' => e = .returned (.int .i64 (fnext s l)) ∧ Below w.heap.size w w' := by
  go_enter Try.func103, Try.ntmps103
  go_wp2_with fail
  refine (i_peelPlain s (reach hl ?hB) hc hcm).mono ?_
  case hB => exact (by repeat (first | (with_reducible exact Below.refl _ _) | (with_reducible assumption) | (with_reducible refine bel_alloc ?_ _) | (with_reducible refine bel_drew ?_) | (with_reducible refine below_drewN ?_ _) | (with_reducible refine bel_put ?_ (by first | exact Nat.le_refl _ | (simp; done) | (simp; omega)) _)))
  rintro e w1 ⟨vL, vC, rfl, hRL, hRC, hB1⟩
  obtain ⟨AL, nL, cL, rfl, _⟩ := hRL
  obtain ⟨AC, nC, cC, rfl, _⟩ := hRC
  cases hb : (fpeel s l zer).2
  · have H := Lib.hid (show fnext s l = -1 by unfold fnext; rw [hb]; rfl)
    clear hb
    go_wp2
    go_ret
    exact ⟨ret_i64 H.out.symm, by first | exact bel_trans (a := w) (by repeat (first | (with_reducible exact Below.refl _ _) | (with_reducible assumption) | (with_reducible refine bel_alloc ?_ _) | (with_reducible refine bel_drew ?_) | (with_reducible refine below_drewN ?_ _) | (with_reducible refine bel_put ?_ (by first | exact Nat.le_refl _ | (simp; done) | (simp; omega)) _))) hB1 | exact bel_alloc (bel_trans (a := w) (by repeat (first | (with_reducible exact Below.refl _ _) | (with_reducible assumption) | (with_reducible refine bel_alloc ?_ _) | (with_reducible refine bel_drew ?_) | (with_reducible refine below_drewN ?_ _) | (with_reducible refine bel_put ?_ (by first | exact Nat.le_refl _ | (simp; done) | (simp; omega)) _))) hB1) _⟩
  · have H := Lib.hid (show fnext s l = (fpeel s l zer).1.next by unfold fnext; rw [hb]; rfl)
    clear hb
    go_wp2
    go_ret
    exact ⟨ret_i64 H.out.symm, by first | exact bel_trans (a := w) (by repeat (first | (with_reducible exact Below.refl _ _) | (with_reducible assumption) | (with_reducible refine bel_alloc ?_ _) | (with_reducible refine bel_drew ?_) | (with_reducible refine below_drewN ?_ _) | (with_reducible refine bel_put ?_ (by first | exact Nat.le_refl _ | (simp; done) | (simp; omega)) _))) hB1 | exact bel_alloc (bel_trans (a := w) (by repeat (first | (with_reducible exact Below.refl _ _) | (with_reducible assumption) | (with_reducible refine bel_alloc ?_ _) | (with_reducible refine bel_drew ?_) | (with_reducible refine below_drewN ?_ _) | (with_reducible refine bel_put ?_ (by first | exact Nat.le_refl _ | (simp; done) | (simp; omega)) _))) hB1) _⟩
end Go.Proofs.Ytpapkonejkdkhaa
