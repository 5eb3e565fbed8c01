/-
  Marks on a call's own slice of numbers, wherever in its block it begins; are they still there; the laws' copies and comparisons as readings.
-/
import Derived.Test.YtpapkonejkdkhaaTy
import Derived.Test.YtpapkonejkdkhaaCell
namespace Go.Proofs.Ytpapkonejkdkhaa
open Go.ChangeShapes Go.WideShapes Go.ChangeAt Go.RowKit
theorem sliceO.row {K : IntKind} {w : World} {n c : Nat} {A : Option Addr} {l : List Int} {F : List Nat} (h : sliceO K w [.slice A n c] l F) (hn : 0 < n) :
    ∃ g off, A = some ⟨g, off, none⟩ ∧ l.length = n ∧ n ≤ c ∧ c ≤ 9223372036854775807 ∧ (∀ i, i < n → w.cell? ⟨g, off + i, none⟩ = some (.int K (l.getD i 0))) ∧ (∀ i, w.frozen? ⟨g, i, none⟩ = false) ∧ F = [g] ∧ g < w.heap.size := by
  rcases h with ⟨A, c, h1, h2, rfl, _⟩ | ⟨g, off, c, cur, t, h1, h2, h3, h4, h5, h6, h7, rfl⟩
  · injection h1 with h1 _; injection h1 with _ e2 _; omega
  · injection h1 with h1 _; injection h1 with e1 e2 e3
    subst e1 e2 e3
    exact ⟨g, off, rfl, rfl, h3, h4, fun i hi => by rw [Box.cell (t := t) h5]; exact h6 i hi, fun i => Box.frozen (t := t) h5 i, rfl, Box.size (t := t) h5⟩
theorem sliceO.len {K : IntKind} {w : World} {n c : Nat} {A : Option Addr} {l : List Int} {F : List Nat} (h : sliceO K w [.slice A n c] l F) : l.length = n ∧ n ≤ c ∧ c ≤ 9223372036854775807 := by
  rcases h with ⟨A, c, h1, h2, rfl, _⟩ | ⟨g, off, c, cur, t, h1, h2, h3, h4, h5, h6, h7, rfl⟩
  · injection h1 with h1 _; injection h1 with _ e2 e3; subst e2 e3; exact ⟨rfl, Nat.zero_le _, h2⟩
  · injection h1 with h1 _; injection h1 with e1 e2 e3
    subst e1 e2 e3
    exact ⟨rfl, h3, h4⟩
theorem sliceO.put {K : IntKind} {w : World} {n c g off : Nat} {l : List Int} {F : List Nat} (h : sliceO K w [.slice (some ⟨g, off, none⟩) n c] l F) {i : Nat} (hi : i < n) {x : Int} (hx : (Lit.int K x).wf = true) :
    sliceO K (w.setCell ⟨g, off + i, none⟩ (.int K x)) [.slice (some ⟨g, off, none⟩) n c] (l.set i x) F := by
  rcases h with ⟨A, c, h1, h2, rfl, _⟩ | ⟨g, off, c, cur, t, h1, h2, h3, h4, h5, h6, h7, rfl⟩
  · injection h1 with h1 _; injection h1 with _ e2 _; omega
  · injection h1 with h1 _; injection h1 with e1 e2 e3
    injection e1 with e1
    injection e1 with e1 e4
    subst e1 e2 e3 e4
    have hb : off + i < cur.size := by
      have := h6 i hi
      by_cases hl : off + i < cur.size
      · exact hl
      · rw [Array.getElem?_eq_none (by omega)] at this; cases this
    refine .inr ⟨g, off, c, _, t, by rw [List.length_set], by rw [List.length_set]; omega, by rw [List.length_set]; omega, h4, Box.put (t := t) h5 (off + i) _, fun j hj => ?_, fun y hy => ?_, rfl⟩
    · rw [List.length_set] at hj
      rw [Array.getElem?_setIfInBounds]
      by_cases hij : off + i = off + j
      · have : i = j := by omega
        subst this
        rw [if_pos rfl, if_pos hb, List.getD_eq_getElem?_getD, List.getElem?_set_self hj]; rfl
      · rw [if_neg hij, h6 j hj, List.getD_eq_getElem?_getD, List.getD_eq_getElem?_getD, List.getElem?_set_ne (by omega)]
    · rcases List.mem_or_eq_of_mem_set hy with h' | rfl
      · exact h7 y h'
      · exact hx
theorem sliceO.nilO {K : IntKind} {w : World} {n c : Nat} {A : Option Addr} {F : List Nat} (h : sliceO K w [.slice A n c] [] F) : n = 0 ∧ F = [] := by
  rcases h with ⟨A, c, h1, h2, _, rfl⟩ | ⟨g, off, c, cur, t, h1, h2, _⟩
  · injection h1 with h1 _; injection h1 with _ e2 _; exact ⟨e2, rfl⟩
  · simp at h2
theorem only_set {F : List Nat} {a w : World} {g : Nat} (h : Only F a w) (hg : g ∈ F) (j : Nat) (u : Value) : Only F a (w.setCell ⟨g, j, none⟩ u) := h.put (.inl hg) u
/-- A slice that reads, as integers. -/
theorem slR_ints {K : IntKind} {w : World} {B n c : Nat} {A : Option Addr} {l : List Int} (h : (tSl K).R w B [.slice A n c] l) : Ints K w B A n l ∧ n ≤ c ∧ c ≤ 9223372036854775807 := by
  obtain ⟨A', n', c', h1, h2, h3, h4⟩ := h
  injection h1 with h1 _; injection h1 with e1 e2 e3
  subst e1 e2 e3
  exact ⟨h4, h2, h3⟩
theorem ints_slR {K : IntKind} {w : World} {B n c : Nat} {A : Option Addr} {l : List Int} (h : Ints K w B A n l) (h1 : n ≤ c) (h2 : c ≤ 9223372036854775807) : (tSl K).R w B [.slice A n c] l := ⟨A, n, c, rfl, h1, h2, h⟩
theorem ret_int {a b : Int} (h : a = b) : Ending.returned (.int .i64 a) = .returned (.int .i64 b) := by rw [h]
theorem Ty.far {α : Type} {t : Ty α} {w : World} {cs : List Value} {a : α} {F : List Nat} {B : Nat} (h : t.O w cs a F) (hN : New B F) {p : Addr} (hp : p.block < B) (u : Value) : t.O (w.setCell p u) cs a F :=
  t.kept h fun f hf => Below.heap_setCell w p u f (by rintro rfl; have := hN.2 _ hf; omega)
/-- A cell of an element, behind what left the old blocks alone. -/
theorem cell_at {w w' : World} {b o : Nat} {v : Value} (hB : Below w.heap.size w w') (hb : b < w.heap.size) (h : w.cell? ⟨b, o, none⟩ = some v) : w'.cell? ⟨b, o, none⟩ = some v :=
  (World.cell?_of_block (hB.block b hb)).trans h
theorem New.only {B : Nat} {F : List Nat} (h : New B F) : F.Nodup := h.1
set_option maxHeartbeats 400000 in
theorem o_markIntS {w : World} {n c : Nat} {A : Option Addr} {l : List Int} {F : List Nat} (k : Int) (h : (tSl .i64).O w [.slice A n c] l F) (h0 : 0 ≤ k) (hk : k + l.length ≤ 4611686018427387904) :
    Calls Try.prog 28 #[.slice A n c, .int .i64 k] w fun e w' => e = .returned (.int .i64 (k + l.length)) ∧ (tSl .i64).O w' [.slice A n c] (marks k l.length) F ∧ Only F w w' := by
  by_cases hz : l.length = 0
  · have hl : l = [] := List.eq_nil_of_length_eq_zero hz
    subst hl
    obtain ⟨rfl, rfl⟩ := sliceO.nilO h
    clear hz
    go_enter Try.func28, Try.ntmps28
    go_wp2
    go_loop [1, 5] (fun x i => x = .int .i64 k ∧ i = .int .i64 0) (fun _ _ => 0)
    case atStart => exact ⟨rfl, rfl⟩
    case round =>
      obtain ⟨rfl, rfl⟩ := hrel
      go_wp2
      go_ret
      exact ⟨by simp, h, Only.refl _ _⟩
  · obtain ⟨hn, hnc, hcm⟩ := sliceO.len h
    have HN := Lib.hid hn
    obtain ⟨g, off, rfl, _, _, _, _, _, rfl, hgs⟩ := sliceO.row h (by omega)
    have HZ := Lib.hid (mks_zero (fun i : Nat => k + (i : Int)) l)
    rw [hn] at hk hz
    rw [hn]
    clear hn
    go_enter Try.func28, Try.ntmps28
    go_wp2
    go_loopw [1, 5] (fun x i wr => ∃ j : Nat, j ≤ n ∧ x = .int .i64 (k + j) ∧ i = .int .i64 j ∧ sliceO .i64 wr [.slice (some ⟨g, off, none⟩) n c] (mks (fun i : Nat => k + (i : Int)) l j) [g] ∧ Only [g] w wr) (fun _ i _ => n - (intOf i).toNat)
    case atStart => exact ⟨0, by omega, by go_num, rfl, by rw [HZ.out]; exact h, Only.refl _ _⟩
    case round =>
      obtain ⟨j, hj, rfl, rfl, hO, hG⟩ := hrel
      by_cases hlt : j < n
      · have HS := Lib.hid (mks_set (fun i : Nat => k + (i : Int)) l j)
        obtain ⟨g', off', e1, _, _, _, hcell, hfz, _, _⟩ := sliceO.row hO (by omega)
        simp only [Option.some.injEq, Addr.mk.injEq, and_true] at e1
        obtain ⟨rfl, rfl⟩ := e1
        have hc1 := hcell j (by omega)
        have hf1 := hfz (off + j)
        have hP := sliceO.put hO hlt (x := k + (j : Int)) (WalkArith.wf_i64 (by omega))
        rw [HS.out] at hP
        clear hcell hfz
        go_wp2
        go_roundw
        case rel => exact ⟨j + 1, by omega, by go_num, by go_num, hP, only_set hG (by simp) _ _⟩
        case measure => simp [intOf]; omega
      · obtain rfl : j = n := by omega
        have HA := Lib.hid (show mks (fun i : Nat => k + (i : Int)) l j = marks k j from by rw [← HN.out]; exact mks_all _ _)
        go_wp2
        go_ret
        exact ⟨rfl, by rw [← HA.out]; exact hO, hG⟩
theorem o_heldIntS {w : World} {B n c : Nat} {A : Option Addr} (k : Int) {l : List Int} (h : (tSl .i64).R w B [.slice A n c] (marks k l.length)) (h0 : 0 ≤ k) (hk : k + l.length ≤ 4611686018427387904) :
    Calls Try.prog 29 #[.slice A n c, .int .i64 k] w fun e w' => e = .returned (.int .i64 (k + l.length)) ∧ Below w.heap.size w w' := by
  have h1 := (slR_ints h).1
  have hn : l.length = n := by have := h1.1; rwa [marks_len] at this
  rw [hn] at h1 hk ⊢
  exact (l_heldIntS k h1 h0 hk).mono fun e w' hh => ⟨hh.1, hh.2 ▸ Below.refl _ _⟩
theorem o_eqIntS {w : World} {B n m c d : Nat} {A A' : Option Addr} {l : List Int} (h : (tSl .i64).R w B [.slice A n c] l) (h' : (tSl .i64).R w B [.slice A' m d] l) :
    Calls Try.prog 25 #[.slice A n c, .slice A' m d] w fun e w' => e = .returned (.bool true) ∧ Below w.heap.size w w' := by
  have h1 := slR_ints h
  have h2 := slR_ints h'
  refine (l_eqIntS h1.1 h2.1 (by simp only [maxLen]; omega) (by simp only [maxLen]; omega)).mono fun e w' hh => ⟨by rw [hh.1]; simp, hh.2⟩
theorem o_toIntS {w : World} {n c : Nat} {A : Option Addr} {l : List Int} (h : (tSl .i64).R w w.heap.size [.slice A n c] l) (hn : l.length ≤ 1048576) :
    Calls Try.prog 23 #[.slice A n c] w fun e w' => ∃ A' c' F, e = .returned (.slice A' l.length c') ∧ (tSl .i64).O w' [.slice A' l.length c'] l F ∧ New w.heap.size F ∧ Below w.heap.size w w' := by
  have h1 := (slR_ints h).1
  have e1 := h1.1
  refine (l_toIntS' h1 (by omega)).mono ?_
  rintro e w' ⟨b, rfl, hO, hB⟩
  obtain ⟨F, hF, hN⟩ := hO.tSl
  rw [← e1] at hF
  exact ⟨_, _, F, by rw [← e1], hF, hN, hB⟩
theorem o_szIntS_t {w : World} {B n c : Nat} {A : Option Addr} {l : List Int} {k : Int} (h : (tSl .i64).R w B [.slice A n c] l) (h1 : 0 ≤ k) (h2 : k ≤ 1048576) (h3 : (l.length : Int) ≤ k) :
    Calls Try.prog 70 #[.slice A n c, .int .i64 k] w fun e w' => e = .returned (.int .i64 (k - l.length)) ∧ Below w.heap.size w w' := by
  have e1 := (slR_ints h).1.1
  rw [e1] at h3 ⊢
  have d : decide (k - (n : Int) < 0) = false := by simp; omega
  clear h e1
  go_enter Try.func70, Try.ntmps70
  go_wp2
  go_ret
  exact ⟨rfl, (by repeat (first | (with_reducible exact Below.refl _ _) | (with_reducible assumption) | (with_reducible refine bel_alloc ?_ _) | (with_reducible refine bel_drew ?_) | (with_reducible refine below_drewN ?_ _) | (with_reducible refine bel_put ?_ (by first | exact Nat.le_refl _ | (simp; done) | (simp; omega)) _)))⟩
theorem o_szIntS_f {w : World} {B n c : Nat} {A : Option Addr} {l : List Int} {k : Int} (h : (tSl .i64).R w B [.slice A n c] l) (h1 : 0 ≤ k) (h2 : k ≤ 1048576) (h3 : ¬ (l.length : Int) ≤ k) :
    Calls Try.prog 70 #[.slice A n c, .int .i64 k] w fun e w' => e = .returned (.int .i64 (-1)) ∧ Below w.heap.size w w' := by
  have hh := slR_ints h
  have e1 := hh.1.1
  have hn : n ≤ 9223372036854775807 := by omega
  rw [e1] at h3
  have d : decide (k - (n : Int) < 0) = true := by simp; omega
  clear h e1 hh
  go_enter Try.func70, Try.ntmps70
  go_wp2
  go_ret
  exact ⟨rfl, (by repeat (first | (with_reducible exact Below.refl _ _) | (with_reducible assumption) | (with_reducible refine bel_alloc ?_ _) | (with_reducible refine bel_drew ?_) | (with_reducible refine below_drewN ?_ _) | (with_reducible refine bel_put ?_ (by first | exact Nat.le_refl _ | (simp; done) | (simp; omega)) _)))⟩
set_option maxHeartbeats 400000 in
theorem o_markByteS {w : World} {n c : Nat} {A : Option Addr} {l : List Int} {F : List Nat} (k : Int) (h : (tSl .u8).O w [.slice A n c] l F) (h0 : 0 ≤ k) (hk : k + l.length ≤ 4611686018427387904) :
    Calls Try.prog 19 #[.slice A n c, .int .i64 k] w fun e w' => e = .returned (.int .i64 (k + l.length)) ∧ (tSl .u8).O w' [.slice A n c] (marks8 k l.length) F ∧ Only F w w' := by
  by_cases hz : l.length = 0
  · have hl : l = [] := List.eq_nil_of_length_eq_zero hz
    subst hl
    obtain ⟨rfl, rfl⟩ := sliceO.nilO h
    clear hz
    go_enter Try.func19, Try.ntmps19
    go_wp2
    go_loop [1, 5] (fun x i => x = .int .i64 k ∧ i = .int .i64 0) (fun _ _ => 0)
    case atStart => exact ⟨rfl, rfl⟩
    case round =>
      obtain ⟨rfl, rfl⟩ := hrel
      go_wp2
      go_ret
      exact ⟨by simp, h, Only.refl _ _⟩
  · obtain ⟨hn, hnc, hcm⟩ := sliceO.len h
    have HN := Lib.hid hn
    obtain ⟨g, off, rfl, _, _, _, _, _, rfl, hgs⟩ := sliceO.row h (by omega)
    have HZ := Lib.hid (mks_zero (fun i : Nat => (k + (i : Int)) % 256) l)
    rw [hn] at hk hz
    rw [hn]
    clear hn
    go_enter Try.func19, Try.ntmps19
    go_wp2
    go_loopw [1, 5] (fun x i wr => ∃ j : Nat, j ≤ n ∧ x = .int .i64 (k + j) ∧ i = .int .i64 j ∧ sliceO .u8 wr [.slice (some ⟨g, off, none⟩) n c] (mks (fun i : Nat => (k + (i : Int)) % 256) l j) [g] ∧ Only [g] w wr) (fun _ i _ => n - (intOf i).toNat)
    case atStart => exact ⟨0, by omega, by go_num, rfl, by rw [HZ.out]; exact h, Only.refl _ _⟩
    case round =>
      obtain ⟨j, hj, rfl, rfl, hO, hG⟩ := hrel
      by_cases hlt : j < n
      · have HS := Lib.hid (mks_set (fun i : Nat => (k + (i : Int)) % 256) l j)
        obtain ⟨g', off', e1, _, _, _, hcell, hfz, _, _⟩ := sliceO.row hO (by omega)
        simp only [Option.some.injEq, Addr.mk.injEq, and_true] at e1
        obtain ⟨rfl, rfl⟩ := e1
        have hc1 := hcell j (by omega)
        have hf1 := hfz (off + j)
        have hP := sliceO.put hO hlt (x := (k + (j : Int)) % 256) (WalkArith.wf_u8 (by omega))
        rw [HS.out] at hP
        clear hcell hfz
        go_wp2
        go_roundw
        case rel => exact ⟨j + 1, by omega, by go_num, by go_num, hP, only_set hG (by simp) _ _⟩
        case measure => simp [intOf]; omega
      · obtain rfl : j = n := by omega
        have HA := Lib.hid (show mks (fun i : Nat => (k + (i : Int)) % 256) l j = marks8 k j from by rw [← HN.out]; exact mks_all _ _)
        go_wp2
        go_ret
        exact ⟨rfl, by rw [← HA.out]; exact hO, hG⟩
theorem o_heldByteS {w : World} {B n c : Nat} {A : Option Addr} (k : Int) {l : List Int} (h : (tSl .u8).R w B [.slice A n c] (marks8 k l.length)) (h0 : 0 ≤ k) (hk : k + l.length ≤ 4611686018427387904) :
    Calls Try.prog 32 #[.slice A n c, .int .i64 k] w fun e w' => e = .returned (.int .i64 (k + l.length)) ∧ Below w.heap.size w w' := by
  have h1 := (slR_ints h).1
  have hn : l.length = n := by have := h1.1; rwa [marks8_len] at this
  rw [hn] at h1 hk ⊢
  exact (l_heldByteS k h1 h0 hk).mono fun e w' hh => ⟨hh.1, hh.2 ▸ Below.refl _ _⟩
theorem o_eqByteS {w : World} {B n m c d : Nat} {A A' : Option Addr} {l : List Int} (h : (tSl .u8).R w B [.slice A n c] l) (h' : (tSl .u8).R w B [.slice A' m d] l) :
    Calls Try.prog 17 #[.slice A n c, .slice A' m d] w fun e w' => e = .returned (.bool true) ∧ Below w.heap.size w w' := by
  have h1 := slR_ints h
  have h2 := slR_ints h'
  refine (l_eqByteS h1.1 h2.1 (by simp only [maxLen]; omega) (by simp only [maxLen]; omega)).mono fun e w' hh => ⟨by rw [hh.1]; simp, hh.2⟩
theorem o_toByteS {w : World} {n c : Nat} {A : Option Addr} {l : List Int} (h : (tSl .u8).R w w.heap.size [.slice A n c] l) (hn : l.length ≤ 1048576) :
    Calls Try.prog 13 #[.slice A n c] w fun e w' => ∃ A' c' F, e = .returned (.slice A' l.length c') ∧ (tSl .u8).O w' [.slice A' l.length c'] l F ∧ New w.heap.size F ∧ Below w.heap.size w w' := by
  have h1 := (slR_ints h).1
  have e1 := h1.1
  refine (l_toByteS' h1 (by omega)).mono ?_
  rintro e w' ⟨b, rfl, hO, hB⟩
  obtain ⟨F, hF, hN⟩ := hO.tSl
  rw [← e1] at hF
  exact ⟨_, _, F, by rw [← e1], hF, hN, hB⟩
theorem o_szByteS_t {w : World} {B n c : Nat} {A : Option Addr} {l : List Int} {k : Int} (h : (tSl .u8).R w B [.slice A n c] l) (h1 : 0 ≤ k) (h2 : k ≤ 1048576) (h3 : (l.length : Int) ≤ k) :
    Calls Try.prog 47 #[.slice A n c, .int .i64 k] w fun e w' => e = .returned (.int .i64 (k - l.length)) ∧ Below w.heap.size w w' := by
  have e1 := (slR_ints h).1.1
  rw [e1] at h3 ⊢
  have d : decide (k - (n : Int) < 0) = false := by simp; omega
  clear h e1
  go_enter Try.func47, Try.ntmps47
  go_wp2
  go_ret
  exact ⟨rfl, (by repeat (first | (with_reducible exact Below.refl _ _) | (with_reducible assumption) | (with_reducible refine bel_alloc ?_ _) | (with_reducible refine bel_drew ?_) | (with_reducible refine below_drewN ?_ _) | (with_reducible refine bel_put ?_ (by first | exact Nat.le_refl _ | (simp; done) | (simp; omega)) _)))⟩
theorem o_szByteS_f {w : World} {B n c : Nat} {A : Option Addr} {l : List Int} {k : Int} (h : (tSl .u8).R w B [.slice A n c] l) (h1 : 0 ≤ k) (h2 : k ≤ 1048576) (h3 : ¬ (l.length : Int) ≤ k) :
    Calls Try.prog 47 #[.slice A n c, .int .i64 k] w fun e w' => e = .returned (.int .i64 (-1)) ∧ Below w.heap.size w w' := by
  have hh := slR_ints h
  have e1 := hh.1.1
  have hn : n ≤ 9223372036854775807 := by omega
  rw [e1] at h3
  have d : decide (k - (n : Int) < 0) = true := by simp; omega
  clear h e1 hh
  go_enter Try.func47, Try.ntmps47
  go_wp2
  go_ret
  exact ⟨rfl, (by repeat (first | (with_reducible exact Below.refl _ _) | (with_reducible assumption) | (with_reducible refine bel_alloc ?_ _) | (with_reducible refine bel_drew ?_) | (with_reducible refine below_drewN ?_ _) | (with_reducible refine bel_put ?_ (by first | exact Nat.le_refl _ | (simp; done) | (simp; omega)) _)))⟩
end Go.Proofs.Ytpapkonejkdkhaa
