/-
  What the laws of chapter 2 call besides: seals, same, at, sameInts.
-/
import Derived.Test.YtjehcmmbbjidkaaImplTwo
import Derived.Lib.SlBytesConst
namespace Go.Proofs.Ytjehcmmbbjidkaa
open Go.ChangeShapes Go.WideShapes Go.ChangeAt Go.RowKit
open Fld
theorem l_same {w : World} {B B' n m c d : Nat} {A A' : Option Addr} {l r : List Int} (hl : Ints .u8 w B A n l) (hr : Ints .u8 w B' A' m r) :
    Calls Try.prog 41 #[.slice A n c, .slice A' m d] w fun e w' => e = .returned (.bool (decide (l = r))) ∧ w = w' := by
  have g1 := conv_bytes hl c 22 5 9 Try.underlying22 Try.underlying5 Try.underlying9
  have g2 := conv_bytes hr d 22 5 9 Try.underlying22 Try.underlying5 Try.underlying9
  have HN := Lib.hid (nums_eq hl.bytes hr.bytes)
  go_enter Try.func41, Try.ntmps41
  go_wp2
  go_ret
  exact ⟨ret_bool HN.out, rfl⟩
def atV (l : List Int) (i : Int) : Int := if l.length = 0 then 0 else l.getD (i % (l.length : Int)).toNat 0
theorem atV_rg {l : List Int} (h : Bytes l) (i : Int) : 0 ≤ atV l i ∧ atV l i < 256 := by
  unfold atV
  split
  · omega
  · exact h.at_ _
theorem empty_row (w : World) (t : TypeId) : (w.alloc (.cells #[] t)).ownsRow w.heap.size t 1 (.slice (some ⟨w.heap.size, 0, none⟩) 0 0) 0 [] :=
  ⟨rfl, .inr ⟨w.heap.size, 0, #[], rfl, Nat.le_refl _, heap_alloc_new w _, Nat.le_refl _, by simp only [maxLen]; omega, rfl, rfl⟩⟩
theorem two_ints (w : World) (t : TypeId) (x y : Int) (hx : 0 ≤ x ∧ x < 256) (hy : 0 ≤ y ∧ y < 256) : Own .u8 t (w.alloc (.cells #[.int .u8 x, .int .u8 y] t)) w.heap.size (.slice (some ⟨w.heap.size, 0, none⟩) 2 2) [x, y] :=
  Own.of (n := 2) (two_row w t (.int .u8 x) (.int .u8 y)) fun z hz => by
    simp only [List.mem_cons, List.not_mem_nil, or_false] at hz
    rcases hz with rfl | rfl
    · exact wf8 hx
    · exact wf8 hy
theorem Own.cap {k : IntKind} {e : TypeId} {w : World} {base n c : Nat} {A : Option Addr} {l : List Int} (h : Own k e w base (.slice A n c) l) : c ≤ 9223372036854775807 := by
  rcases h.1.2 with ⟨e1, _⟩ | ⟨g, cap, cur, e1, _, _, _, hm, _⟩
  · injection e1 with _ _ e3; subst e3; omega
  · injection e1 with _ _ e3; subst e3; unfold maxLen at hm; omega
theorem marked_ints (w : World) (t : TypeId) (x y : Int) (hx : 0 ≤ x ∧ x < 256) (hy : 0 ≤ y ∧ y < 256) (fr : Nat × Nat) : Ints .u8 (w.alloc (.cells #[.int .u8 x, .int .u8 y] t fr)) (w.heap.size + 1) (some ⟨w.heap.size, 0, none⟩) 2 [x, y] := by
  refine ⟨rfl, fun _ => ⟨w.heap.size, 0, rfl, by omega, fun i hi => ?_⟩, fun z hz => ?_⟩
  · rw [Nat.zero_add, cell_of_row _ w.heap.size i #[.int .u8 x, .int .u8 y] t fr (heap_alloc_new w _)]
    match i, hi with
    | 0, _ => rfl
    | 1, _ => rfl
  · simp only [List.mem_cons, List.not_mem_nil, or_false] at hz
    rcases hz with rfl | rfl
    · exact wf8 hx
    · exact wf8 hy
set_option maxHeartbeats 1000000 in
theorem l_seals (w : World) : Calls Try.prog 14 #[] w fun e w' => e = .returned (.bool true) ∧ Below w.heap.size w w' := by
  have hb : Bytes [104, 105] := by intro x hx; simp only [List.mem_cons, List.not_mem_nil, or_false] at hx; omega
  have ok5 : Ok 5 := ⟨by omega, by omega⟩
  have hs := open_seal (k := 5) hb
  have hlen := sealL_len 5 [104, 105]
  obtain ⟨s, hS⟩ : ∃ s, sealL 5 [104, 105] = s := ⟨_, rfl⟩
  rw [hS] at hs hlen
  have h6 : s.length = 6 := hlen
  have HS := Lib.hid hS
  have HO := Lib.hid hs.1
  have HP := Lib.hid hs.2
  have H6 := Lib.hid h6
  clear hs hlen hS h6
  have hcv := fun (W : World) (C : Array Value) (n c : Nat) => Lib.run_convert_bytes_const (P := Try.prog) W 22 5 C n c Try.underlying22 Try.underlying5
  go_enter Try.func14, Try.ntmps14
  go_wp2_with fail
  have hB1 : Below w.heap.size w (w.alloc (.cells #[.int .u8 104, .int .u8 105] 5 (2, 3))) := (Below.refl _ _).alloc (Nat.le_refl _) _
  have hI1 : Ints .u8 (w.alloc (.cells #[.int .u8 104, .int .u8 105] 5 (2, 3))) (w.alloc (.cells #[.int .u8 104, .int .u8 105] 5 (2, 3))).heap.size (some ⟨w.heap.size, 0, none⟩) 2 [104, 105] := by
    rw [World.size_alloc]; exact marked_ints w 5 104 105 (by omega) (by omega) (2, 3)
  refine (i_Seal_t 5 hI1 (by omega) ok5).mono ?_
  rintro e w2 ⟨v, rfl, hO, hB2⟩
  have hB := hB1.trans (hB2.mono hB1.size)
  rw [HS.out] at hO
  obtain ⟨A2, c2, rfl, hcc, hI, _⟩ := hO.ints
  rw [H6.out] at hI hcc
  rw [H6.out]
  have hcap := hO.cap
  have H7 := Lib.hid (fopen_t ok5 (show s.length ≤ 400 by rw [H6.out]; omega) HO.out)
  go_wp2_with fail
  refine (i_Open_t 5 hI (by omega) (by omega) hcc hcap ok5 HO.out).mono ?_
  rintro e w3 ⟨v3, rfl, hO3, hB3⟩
  have hB4 := hB.trans (hB3.mono hB.size)
  rw [HP.out] at hO3
  obtain ⟨A3, c3, rfl, _, hI3, _⟩ := hO3.ints
  have hI3' : Ints .u8 w3 w3.heap.size A3 2 [104, 105] := hI3
  go_wp2_with fail
  refine (l_same ((hI3'.below ((Below.refl _ _).alloc (Nat.le_refl _) _))) (marked_ints w3 5 104 105 (by omega) (by omega) (2, 3))).mono ?_
  rintro e w' ⟨rfl, rfl⟩
  rw [show decide (([104, 105] : List Int) = [104, 105]) = true from by simp]
  go_wp2_with fail
  go_ret
  exact ⟨rfl, hB4.alloc hB4.size _⟩
end Go.Proofs.Ytjehcmmbbjidkaa
