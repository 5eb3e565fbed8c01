/-
  Row, Ty, Mk, LCell: texts joined.
-/
import Derived.Test.YtojbicecopkfbaaWGh
import Derived.Laws.MakeOwn
namespace Go.Proofs.Ytojbicecopkfbaa
set_option linter.unusedVariables false
open Go.RowKit
section
variable {α : Type} {t : Ty α} {w w' : World} {B n c i K : Nat} {A : Option Addr} {v : Value} {l : List α} {a a' : α} {F Fi G : List Nat} {es es' : List Value}

end
/-! ### cells written one behind the other -/
section
variable {α : Type}
/-- Block g has room for n things; the first ones are l, a call's own. -/
def Fill (t : Ty α) (w : World) (g : Nat) (e : TypeId) (n : Nat) (l : List α) (F : List Nat) : Prop :=
  ∃ (cur : Array Value) (Fs : List (List Nat)), w.heap[g]? = some (.cells cur e (0, 0)) ∧ cur.size = n * t.k ∧ l.length ≤ n ∧ Fs.length = l.length ∧ F = Fs.flatten ∧
    ∀ i a Fi, l[i]? = some a → Fs[i]? = some Fi → ∃ es, (∀ j, j < t.k → cur[i * t.k + j]? = es[j]?) ∧ t.O w es a Fi
variable {t : Ty α} {w w' : World} {g n : Nat} {e : TypeId} {l : List α} {F Fa : List Nat} {a : α} {es : List Value}
theorem Fill.cell (h : Fill t w g e n l F) (hl : l.length < n) {j K : Nat} (hK : t.k = K) (hj : j < K) : ∃ u, w.cell? ⟨g, l.length * K + j, none⟩ = some u := by
  subst hK
  obtain ⟨cur, Fs, h1, h2, _⟩ := h
  have : (l.length + 1) * t.k ≤ n * t.k := Nat.mul_le_mul_right _ hl
  rw [Nat.succ_mul] at this
  rw [Box.cell (t := e) h1, Array.getElem?_eq_getElem (by omega)]
  exact ⟨_, rfl⟩
theorem Fill.frozen (h : Fill t w g e n l F) (q : Nat) : w.frozen? ⟨g, q, none⟩ = false := by
  obtain ⟨cur, Fs, h1, _⟩ := h
  exact Box.frozen (t := e) h1 q
theorem Fill.keep (h : Fill t w g e n l F) (hg : w'.heap[g]? = w.heap[g]?) (hF : ∀ f ∈ F, w'.heap[f]? = w.heap[f]?) : Fill t w' g e n l F := by
  obtain ⟨cur, Fs, h1, h2, h3, h4, rfl, h6⟩ := h
  refine ⟨cur, Fs, hg.trans h1, h2, h3, h4, rfl, fun i a Fi hi hf => ?_⟩
  obtain ⟨es, k1, k2⟩ := h6 i a Fi hi hf
  exact ⟨es, k1, t.kept k2 fun f hff => hF f (mem_flat hf hff)⟩
theorem Fill.size (h : Fill t w g e n l F) : g < w.heap.size := by
  obtain ⟨cur, Fs, h1, _⟩ := h
  exact Box.size (t := e) h1
theorem Fill.lt (h : Fill t w g e n l F) : ∀ f ∈ F, f < w.heap.size := by
  obtain ⟨cur, Fs, h1, h2, h3, h4, rfl, h6⟩ := h
  intro f hf
  obtain ⟨Fi, hFi, hfi⟩ := List.mem_flatten.1 hf
  obtain ⟨i, hi, e1⟩ := List.getElem_of_mem hFi
  have hi' : i < l.length := h4 ▸ hi
  obtain ⟨es, _, k2⟩ := h6 i _ Fi (List.getElem?_eq_getElem hi') (by rw [List.getElem?_eq_getElem hi, e1])
  exact t.lt k2 f hfi
theorem Fill.below (h : Fill t w g e n l F) (hB : Below w.heap.size w w') : Fill t w' g e n l F := h.keep (hB.block g h.size) fun f hf => hB.block f (h.lt f hf)
theorem Fill.done (h : Fill t w g e n l F) (hl : l.length = n) (hm : n ≤ 9223372036854775807) : ∃ F', t.rowO w [.slice (some ⟨g, 0, none⟩) l.length n] l F' ∧ (F' = [] ∨ F' = g :: F) := by
  obtain ⟨cur, Fs, h1, h2, h3, h4, rfl, h6⟩ := h
  by_cases h0 : 0 < l.length
  · exact ⟨g :: Fs.flatten, .inr ⟨g, 0, n, cur, e, Fs, rfl, h0, by omega, hm, h1, h4, rfl, fun i a Fi hi hf => by simpa using h6 i a Fi hi hf⟩, .inr rfl⟩
  · have : l = [] := List.eq_nil_of_length_eq_zero (by omega)
    subst this
    exact ⟨[], .inl ⟨_, n, rfl, hm, rfl, rfl⟩, .inl rfl⟩
theorem New.cons {B : Nat} {F F' : List Nat} (h : New (B + 1) F) (h' : F' = [] ∨ F' = B :: F) : New B F' := by
  rcases h' with rfl | rfl
  · exact New.nil _
  · exact ⟨List.nodup_cons.2 ⟨fun hx => by have := h.2 _ hx; omega, h.1⟩, fun f hf => by rcases List.mem_cons.1 hf with rfl | hf; exact Nat.le_refl _; have := h.2 _ hf; omega⟩
theorem New.not {B g : Nat} {F : List Nat} (h : New B F) (hg : g < B) : g ∉ F := fun hx => by have := h.2 _ hx; omega
end
end Go.Proofs.Ytojbicecopkfbaa
namespace Go.Proofs.Ytojbicecopkfbaa
set_option linter.unusedVariables false
open Go.RowKit
theorem tInt.mk {w : World} {B : Nat} {x : Int} (h : (Lit.int .i64 x).wf = true) : tInt.R w B [.int .i64 x] x := ⟨rfl, h⟩
theorem sl_one {K : IntKind} {w : World} {B : Nat} {cs : List Value} {l : List Int} (h : (tSl K).R w B cs l) : ∃ A n c, cs = [.slice A n c] ∧ n ≤ c ∧ c ≤ 9223372036854775807 ∧ Ints K w B A n l := h
theorem slO_one {K : IntKind} {w : World} {cs : List Value} {l : List Int} {F : List Nat} (h : (tSl K).O w cs l F) : ∃ A c, cs = [.slice A l.length c] ∧ l.length ≤ c ∧ c ≤ 9223372036854775807 := by
  rcases h with ⟨A, c, h1, h2, rfl, _⟩ | ⟨g, off, c, cur, t, h1, h2, h3, h4, _⟩
  · exact ⟨A, c, h1, Nat.zero_le _, h2⟩
  · exact ⟨_, c, h1, h3, h4⟩
/-! ### Cell -/
abbrev DCell := List Int
abbrev tCell : Ty DCell := tBy
def szCell (p : DCell) : Nat := (p).length
def cntCell (p : DCell) : Nat := (p).length
def mkCell (k : Int) (p : DCell) : DCell := marks8 (k) (p).length
theorem cntCell_le (p : DCell) : cntCell p ≤ 5 * szCell p := by
  simp only [cntCell, szCell]
  omega
theorem openCell {w : World} {B : Nat} {cs : List Value} {p : DCell} (h : tCell.R w B cs p) : ∃ A0 n0 c0, cs = [.slice A0 n0 c0] ∧ n0 ≤ c0 ∧ c0 ≤ 9223372036854775807 ∧ (p).length = n0 ∧ tBy.R w B [.slice A0 n0 c0] (p) := by
  obtain ⟨A1, n1, c1, rfl, he1, hf1, hg1⟩ := sl_one h
  exact ⟨A1, n1, c1, rfl, he1, hf1, hg1.1, ⟨A1, n1, c1, rfl, he1, hf1, hg1⟩⟩
theorem openOCell {w : World} {cs : List Value} {p : DCell} {F : List Nat} (h : tCell.O w cs p F) : ∃ A0 c0 F0, cs = [.slice A0 (p).length c0] ∧ F = F0 ∧ (p).length ≤ c0 ∧ c0 ≤ 9223372036854775807 ∧ tBy.O w [.slice A0 (p).length c0] (p) F0 := by
  have hr1 := h
  obtain ⟨A1, c1, rfl, he1, hf1⟩ := slO_one h
  exact ⟨A1, c1, F, rfl, by simp, he1, hf1, hr1⟩
theorem makeOCell {w : World} {p : DCell} {v0 : Value} {F0 : List Nat} (h0 : tBy.O w [v0] (p) F0) : ∃ F, tCell.O w [v0] p F ∧ F = F0 := ⟨_, h0, by simp⟩
/-! ### Peeled -/
/-! ### Piece -/
abbrev DPiece := Int × Int × Int × List Int
abbrev tPiece : Ty DPiece := tInt.prod (tInt.prod (tInt.prod (tBy)))
/-! ### Whole -/
abbrev DWhole := Int × Int × Int × List DPiece
abbrev tWhole : Ty DWhole := tInt.prod (tInt.prod (tInt.prod (tPiece.row)))
/-! ### Desk -/
abbrev DDesk := List DWhole × List Int
abbrev tDesk : Ty DDesk := tWhole.row.prod (tIs)
/-! ### Held -/
abbrev DHeld := Int × Int × DCell
abbrev tHeld : Ty DHeld := tInt.prod (tInt.prod (tCell))
/-! ### Pool -/
abbrev DPool := List DHeld × List Int
abbrev tPool : Ty DPool := tHeld.row.prod (tIs)
/-! ### Letter -/
/-! ### Node -/
/-! ### Mail -/
/-! ### Sent -/
/-! ### Glance -/
/-! ### Net -/
/-! ### Cmd -/
end Go.Proofs.Ytojbicecopkfbaa
namespace Go.Proofs.Ytojbicecopkfbaa
open Go.ChangeShapes Go.WideShapes Go.ChangeAt Go.RowKit
theorem sliceO.row {K : IntKind} {w : World} {n c : Nat} {A : Option Addr} {l : List Int} {F : List Nat} (h : sliceO K w [.slice A n c] l F) (hn : 0 < n) :
    ∃ g off, A = some ⟨g, off, none⟩ ∧ l.length = n ∧ n ≤ c ∧ c ≤ 9223372036854775807 ∧ (∀ i, i < n → w.cell? ⟨g, off + i, none⟩ = some (.int K (l.getD i 0))) ∧ (∀ i, w.frozen? ⟨g, i, none⟩ = false) ∧ F = [g] ∧ g < w.heap.size := by
  rcases h with ⟨A, c, h1, h2, rfl, _⟩ | ⟨g, off, c, cur, t, h1, h2, h3, h4, h5, h6, h7, rfl⟩
  · injection h1 with h1 _; injection h1 with _ e2 _; omega
  · injection h1 with h1 _; injection h1 with e1 e2 e3
    subst e1 e2 e3
    exact ⟨g, off, rfl, rfl, h3, h4, fun i hi => by rw [Box.cell (t := t) h5]; exact h6 i hi, fun i => Box.frozen (t := t) h5 i, rfl, Box.size (t := t) h5⟩
theorem sliceO.len {K : IntKind} {w : World} {n c : Nat} {A : Option Addr} {l : List Int} {F : List Nat} (h : sliceO K w [.slice A n c] l F) : l.length = n ∧ n ≤ c ∧ c ≤ 9223372036854775807 := by
  rcases h with ⟨A, c, h1, h2, rfl, _⟩ | ⟨g, off, c, cur, t, h1, h2, h3, h4, h5, h6, h7, rfl⟩
  · injection h1 with h1 _; injection h1 with _ e2 e3; subst e2 e3; exact ⟨rfl, Nat.zero_le _, h2⟩
  · injection h1 with h1 _; injection h1 with e1 e2 e3
    subst e1 e2 e3
    exact ⟨rfl, h3, h4⟩
theorem sliceO.put {K : IntKind} {w : World} {n c g off : Nat} {l : List Int} {F : List Nat} (h : sliceO K w [.slice (some ⟨g, off, none⟩) n c] l F) {i : Nat} (hi : i < n) {x : Int} (hx : (Lit.int K x).wf = true) :
    sliceO K (w.setCell ⟨g, off + i, none⟩ (.int K x)) [.slice (some ⟨g, off, none⟩) n c] (l.set i x) F := by
  rcases h with ⟨A, c, h1, h2, rfl, _⟩ | ⟨g, off, c, cur, t, h1, h2, h3, h4, h5, h6, h7, rfl⟩
  · injection h1 with h1 _; injection h1 with _ e2 _; omega
  · injection h1 with h1 _; injection h1 with e1 e2 e3
    injection e1 with e1
    injection e1 with e1 e4
    subst e1 e2 e3 e4
    have hb : off + i < cur.size := by
      have := h6 i hi
      by_cases hl : off + i < cur.size
      · exact hl
      · rw [Array.getElem?_eq_none (by omega)] at this; cases this
    refine .inr ⟨g, off, c, _, t, by rw [List.length_set], by rw [List.length_set]; omega, by rw [List.length_set]; omega, h4, Box.put (t := t) h5 (off + i) _, fun j hj => ?_, fun y hy => ?_, rfl⟩
    · rw [List.length_set] at hj
      rw [Array.getElem?_setIfInBounds]
      by_cases hij : off + i = off + j
      · have : i = j := by omega
        subst this
        rw [if_pos rfl, if_pos hb, List.getD_eq_getElem?_getD, List.getElem?_set_self hj]; rfl
      · rw [if_neg hij, h6 j hj, List.getD_eq_getElem?_getD, List.getD_eq_getElem?_getD, List.getElem?_set_ne (by omega)]
    · rcases List.mem_or_eq_of_mem_set hy with h' | rfl
      · exact h7 y h'
      · exact hx
theorem sliceO.nilO {K : IntKind} {w : World} {n c : Nat} {A : Option Addr} {F : List Nat} (h : sliceO K w [.slice A n c] [] F) : n = 0 ∧ F = [] := by
  rcases h with ⟨A, c, h1, h2, _, rfl⟩ | ⟨g, off, c, cur, t, h1, h2, _⟩
  · injection h1 with h1 _; injection h1 with _ e2 _; exact ⟨e2, rfl⟩
  · simp at h2
theorem only_set {F : List Nat} {a w : World} {g : Nat} (h : Only F a w) (hg : g ∈ F) (j : Nat) (u : Value) : Only F a (w.setCell ⟨g, j, none⟩ u) := h.put (.inl hg) u
/-- A slice that reads, as integers. -/
theorem slR_ints {K : IntKind} {w : World} {B n c : Nat} {A : Option Addr} {l : List Int} (h : (tSl K).R w B [.slice A n c] l) : Ints K w B A n l ∧ n ≤ c ∧ c ≤ 9223372036854775807 := by
  obtain ⟨A', n', c', h1, h2, h3, h4⟩ := h
  injection h1 with h1 _; injection h1 with e1 e2 e3
  subst e1 e2 e3
  exact ⟨h4, h2, h3⟩
theorem ret_int {a b : Int} (h : a = b) : Ending.returned (.int .i64 a) = .returned (.int .i64 b) := by rw [h]
theorem Ty.far {α : Type} {t : Ty α} {w : World} {cs : List Value} {a : α} {F : List Nat} {B : Nat} (h : t.O w cs a F) (hN : New B F) {p : Addr} (hp : p.block < B) (u : Value) : t.O (w.setCell p u) cs a F :=
  t.kept h fun f hf => Below.heap_setCell w p u f (by rintro rfl; have := hN.2 _ hf; omega)
theorem New.only {B : Nat} {F : List Nat} (h : New B F) : F.Nodup := h.1
set_option maxHeartbeats 400000 in
theorem o_markIntS {w : World} {n c : Nat} {A : Option Addr} {l : List Int} {F : List Nat} (k : Int) (h : (tSl .i64).O w [.slice A n c] l F) (h0 : 0 ≤ k) (hk : k + l.length ≤ 4611686018427387904) :
    Calls Try.prog 21 #[.slice A n c, .int .i64 k] w fun e w' => e = .returned (.int .i64 (k + l.length)) ∧ (tSl .i64).O w' [.slice A n c] (marks k l.length) F ∧ Only F w w' := by
  by_cases hz : l.length = 0
  · have hl : l = [] := List.eq_nil_of_length_eq_zero hz
    subst hl
    obtain ⟨rfl, rfl⟩ := sliceO.nilO h
    clear hz
    go_enter Try.func21, Try.ntmps21
    go_wp2
    go_loop [1, 5] (fun x i => x = .int .i64 k ∧ i = .int .i64 0) (fun _ _ => 0)
    case atStart => exact ⟨rfl, rfl⟩
    case round =>
      obtain ⟨rfl, rfl⟩ := hrel
      go_wp2
      go_ret
      exact ⟨by simp, h, Only.refl _ _⟩
  · obtain ⟨hn, hnc, hcm⟩ := sliceO.len h
    have HN := Lib.hid hn
    obtain ⟨g, off, rfl, _, _, _, _, _, rfl, hgs⟩ := sliceO.row h (by omega)
    have HZ := Lib.hid (mks_zero (fun i : Nat => k + (i : Int)) l)
    rw [hn] at hk hz
    rw [hn]
    clear hn
    go_enter Try.func21, Try.ntmps21
    go_wp2
    go_loopw [1, 5] (fun x i wr => ∃ j : Nat, j ≤ n ∧ x = .int .i64 (k + j) ∧ i = .int .i64 j ∧ sliceO .i64 wr [.slice (some ⟨g, off, none⟩) n c] (mks (fun i : Nat => k + (i : Int)) l j) [g] ∧ Only [g] w wr) (fun _ i _ => n - (intOf i).toNat)
    case atStart => exact ⟨0, by omega, by go_num, rfl, by rw [HZ.out]; exact h, Only.refl _ _⟩
    case round =>
      obtain ⟨j, hj, rfl, rfl, hO, hG⟩ := hrel
      by_cases hlt : j < n
      · have HS := Lib.hid (mks_set (fun i : Nat => k + (i : Int)) l j)
        obtain ⟨g', off', e1, _, _, _, hcell, hfz, _, _⟩ := sliceO.row hO (by omega)
        simp only [Option.some.injEq, Addr.mk.injEq, and_true] at e1
        obtain ⟨rfl, rfl⟩ := e1
        have hc1 := hcell j (by omega)
        have hf1 := hfz (off + j)
        have hP := sliceO.put hO hlt (x := k + (j : Int)) (WalkArith.wf_i64 (by omega))
        rw [HS.out] at hP
        clear hcell hfz
        go_wp2
        go_roundw
        case rel => exact ⟨j + 1, by omega, by go_num, by go_num, hP, only_set hG (by simp) _ _⟩
        case measure => simp [intOf]; omega
      · obtain rfl : j = n := by omega
        have HA := Lib.hid (show mks (fun i : Nat => k + (i : Int)) l j = marks k j from by rw [← HN.out]; exact mks_all _ _)
        go_wp2
        go_ret
        exact ⟨rfl, by rw [← HA.out]; exact hO, hG⟩
theorem o_eqIntS {w : World} {B n m c d : Nat} {A A' : Option Addr} {l : List Int} (h : (tSl .i64).R w B [.slice A n c] l) (h' : (tSl .i64).R w B [.slice A' m d] l) :
    Calls Try.prog 19 #[.slice A n c, .slice A' m d] w fun e w' => e = .returned (.bool true) ∧ Below w.heap.size w w' := by
  have h1 := slR_ints h
  have h2 := slR_ints h'
  refine (l_eqIntS h1.1 h2.1 (by simp only [maxLen]; omega) (by simp only [maxLen]; omega)).mono fun e w' hh => ⟨by rw [hh.1]; simp, hh.2⟩
theorem o_toIntS {w : World} {n c : Nat} {A : Option Addr} {l : List Int} (h : (tSl .i64).R w w.heap.size [.slice A n c] l) (hn : l.length ≤ 1048576) :
    Calls Try.prog 15 #[.slice A n c] w fun e w' => ∃ A' c' F, e = .returned (.slice A' l.length c') ∧ (tSl .i64).O w' [.slice A' l.length c'] l F ∧ New w.heap.size F ∧ Below w.heap.size w w' := by
  have h1 := (slR_ints h).1
  have e1 := h1.1
  refine (l_toIntS' h1 (by omega)).mono ?_
  rintro e w' ⟨b, rfl, hO, hB⟩
  obtain ⟨F, hF, hN⟩ := hO.tSl
  rw [← e1] at hF
  exact ⟨_, _, F, by rw [← e1], hF, hN, hB⟩
set_option maxHeartbeats 400000 in
theorem o_markByteS {w : World} {n c : Nat} {A : Option Addr} {l : List Int} {F : List Nat} (k : Int) (h : (tSl .u8).O w [.slice A n c] l F) (h0 : 0 ≤ k) (hk : k + l.length ≤ 4611686018427387904) :
    Calls Try.prog 22 #[.slice A n c, .int .i64 k] w fun e w' => e = .returned (.int .i64 (k + l.length)) ∧ (tSl .u8).O w' [.slice A n c] (marks8 k l.length) F ∧ Only F w w' := by
  by_cases hz : l.length = 0
  · have hl : l = [] := List.eq_nil_of_length_eq_zero hz
    subst hl
    obtain ⟨rfl, rfl⟩ := sliceO.nilO h
    clear hz
    go_enter Try.func22, Try.ntmps22
    go_wp2
    go_loop [1, 5] (fun x i => x = .int .i64 k ∧ i = .int .i64 0) (fun _ _ => 0)
    case atStart => exact ⟨rfl, rfl⟩
    case round =>
      obtain ⟨rfl, rfl⟩ := hrel
      go_wp2
      go_ret
      exact ⟨by simp, h, Only.refl _ _⟩
  · obtain ⟨hn, hnc, hcm⟩ := sliceO.len h
    have HN := Lib.hid hn
    obtain ⟨g, off, rfl, _, _, _, _, _, rfl, hgs⟩ := sliceO.row h (by omega)
    have HZ := Lib.hid (mks_zero (fun i : Nat => (k + (i : Int)) % 256) l)
    rw [hn] at hk hz
    rw [hn]
    clear hn
    go_enter Try.func22, Try.ntmps22
    go_wp2
    go_loopw [1, 5] (fun x i wr => ∃ j : Nat, j ≤ n ∧ x = .int .i64 (k + j) ∧ i = .int .i64 j ∧ sliceO .u8 wr [.slice (some ⟨g, off, none⟩) n c] (mks (fun i : Nat => (k + (i : Int)) % 256) l j) [g] ∧ Only [g] w wr) (fun _ i _ => n - (intOf i).toNat)
    case atStart => exact ⟨0, by omega, by go_num, rfl, by rw [HZ.out]; exact h, Only.refl _ _⟩
    case round =>
      obtain ⟨j, hj, rfl, rfl, hO, hG⟩ := hrel
      by_cases hlt : j < n
      · have HS := Lib.hid (mks_set (fun i : Nat => (k + (i : Int)) % 256) l j)
        obtain ⟨g', off', e1, _, _, _, hcell, hfz, _, _⟩ := sliceO.row hO (by omega)
        simp only [Option.some.injEq, Addr.mk.injEq, and_true] at e1
        obtain ⟨rfl, rfl⟩ := e1
        have hc1 := hcell j (by omega)
        have hf1 := hfz (off + j)
        have hP := sliceO.put hO hlt (x := (k + (j : Int)) % 256) (WalkArith.wf_u8 (by omega))
        rw [HS.out] at hP
        clear hcell hfz
        go_wp2
        go_roundw
        case rel => exact ⟨j + 1, by omega, by go_num, by go_num, hP, only_set hG (by simp) _ _⟩
        case measure => simp [intOf]; omega
      · obtain rfl : j = n := by omega
        have HA := Lib.hid (show mks (fun i : Nat => (k + (i : Int)) % 256) l j = marks8 k j from by rw [← HN.out]; exact mks_all _ _)
        go_wp2
        go_ret
        exact ⟨rfl, by rw [← HA.out]; exact hO, hG⟩
theorem o_heldByteS {w : World} {B n c : Nat} {A : Option Addr} (k : Int) {l : List Int} (h : (tSl .u8).R w B [.slice A n c] (marks8 k l.length)) (h0 : 0 ≤ k) (hk : k + l.length ≤ 4611686018427387904) :
    Calls Try.prog 64 #[.slice A n c, .int .i64 k] w fun e w' => e = .returned (.int .i64 (k + l.length)) ∧ Below w.heap.size w w' := by
  have h1 := (slR_ints h).1
  have hn : l.length = n := by have := h1.1; rwa [marks8_len] at this
  rw [hn] at h1 hk ⊢
  exact (l_heldByteS k h1 h0 hk).mono fun e w' hh => ⟨hh.1, hh.2 ▸ Below.refl _ _⟩
theorem o_eqByteS {w : World} {B n m c d : Nat} {A A' : Option Addr} {l : List Int} (h : (tSl .u8).R w B [.slice A n c] l) (h' : (tSl .u8).R w B [.slice A' m d] l) :
    Calls Try.prog 20 #[.slice A n c, .slice A' m d] w fun e w' => e = .returned (.bool true) ∧ Below w.heap.size w w' := by
  have h1 := slR_ints h
  have h2 := slR_ints h'
  refine (l_eqByteS h1.1 h2.1 (by simp only [maxLen]; omega) (by simp only [maxLen]; omega)).mono fun e w' hh => ⟨by rw [hh.1]; simp, hh.2⟩
theorem o_toByteS {w : World} {n c : Nat} {A : Option Addr} {l : List Int} (h : (tSl .u8).R w w.heap.size [.slice A n c] l) (hn : l.length ≤ 1048576) :
    Calls Try.prog 16 #[.slice A n c] w fun e w' => ∃ A' c' F, e = .returned (.slice A' l.length c') ∧ (tSl .u8).O w' [.slice A' l.length c'] l F ∧ New w.heap.size F ∧ Below w.heap.size w w' := by
  have h1 := (slR_ints h).1
  have e1 := h1.1
  refine (l_toByteS' h1 (by omega)).mono ?_
  rintro e w' ⟨b, rfl, hO, hB⟩
  obtain ⟨F, hF, hN⟩ := hO.tSl
  rw [← e1] at hF
  exact ⟨_, _, F, by rw [← e1], hF, hN, hB⟩
end Go.Proofs.Ytojbicecopkfbaa
namespace Go.Proofs.Ytojbicecopkfbaa
set_option maxRecDepth 100000
set_option linter.unusedVariables false
set_option linter.unusedSimpArgs false
open Go.ChangeShapes Go.WideShapes Go.ChangeAt Go.RowKit
theorem o_eqCell {w : World} {cs cs' : List Value} {l0 : DCell} (h : tCell.R w w.heap.size cs l0) (h' : tCell.R w w.heap.size cs' l0) :
    Calls Try.prog 18 #[.agg cs.toArray, .agg cs'.toArray] w fun e w' => e = .returned (.bool true) ∧ Below w.heap.size w w' := by
  obtain ⟨A0, n0, c0, rfl, ha0, hb0, hl0, hr0⟩ := openCell h
  obtain ⟨A0', n0', c0', rfl, ha0', hb0', hl0', hr0'⟩ := openCell h'
  skip
  try dsimp only at *
  subst hl0
  subst hl0'
  go_enter Try.func18, Try.ntmps18
  go_wp2_with fail
  refine (o_eqByteS (tBy.reach hr0 ?hB) (tBy.reach hr0' ?hB)).mono ?_
  case hB => exact (belx)
  rintro e w1 ⟨rfl, hb1⟩
  have hB1 : Below w.heap.size w w1 := bel_trans (belx) hb1
  have P1 : Box w1 w.heap.size 38 #[.slice A0 l0.length c0] := ((Box.new _ _ _).alloc _).below hb1 (by first | (simp; done) | (simp; omega))
  have Q1 : Box w1 (w.heap.size + 1) 38 #[.slice A0' l0.length c0'] := Box.below (by simpa using Box.new (w.alloc _) 38 #[.slice A0' l0.length c0']) hb1 (by first | (simp; done) | (simp; omega))
  go_wp2
  go_ret
  exact ⟨rfl, hB1⟩
theorem o_markCell {w : World} {cs : List Value} {l0 : DCell} {F : List Nat} (k : Int) (h : tCell.O w cs l0 F) (hF : F.Nodup) (h0 : 0 ≤ k) (hk : k + cntCell l0 ≤ 4611686018427387904) :
    Calls Try.prog 23 #[.agg cs.toArray, .int .i64 k] w fun e w' => e = .returned (.int .i64 (k + cntCell l0)) ∧ tCell.O w' cs (mkCell k l0) F ∧ Only F w w' := by
  obtain ⟨A0, c0, F0, rfl, hFe, ha0, hb0, hr0⟩ := openOCell h
  skip
  try dsimp only [cntCell] at *
  subst F
  have nd0 : F0.Nodup := hF
  go_enter Try.func23, Try.ntmps23
  replace hr0 : tBy.O (w.alloc (.cells #[.slice A0 l0.length c0] 38)) _ _ _ := Ty.below hr0 (belx)
  have G0 : Only (F0) w (w.alloc (.cells #[.slice A0 l0.length c0] 38)) := (Only.refl _ _).alloc _
  have P0 : Box (w.alloc (.cells #[.slice A0 l0.length c0] 38)) w.heap.size 38 #[.slice A0 l0.length c0] := Box.new _ _ _
  have y0 : ∀ f ∈ F0, f < w.heap.size := fun f hf => (tCell).lt h f (by simp [hf])
  go_wp2_with fail
  refine (o_markByteS (k) hr0 (by omega) (by omega)).mono ?_
  rintro e w1 ⟨rfl, hO1, hG1⟩
  have G1 := G0.trans (hG1.mono (by intro f hf; (try simp only [List.mem_append] at hf ⊢); first | assumption | (simp only [hf, true_or, or_true]) | (rcases hf with hf | hf <;> simp only [hf, true_or, or_true])))
  have P1 : Box w1 w.heap.size 38 #[.slice A0 l0.length c0] := P0.same (hG1.block _ P0.size (by intro e; (try simp only [List.mem_append] at e); rcases e with e <;> first | (have := y0 _ e; omega)))
  have e1_0 := P1.cell 0
  replace hr0 := hO1
  go_wp2
  go_ret
  obtain ⟨F2, hF2, hFe⟩ := makeOCell (p := mkCell k l0) hr0
  subst F2
  exact ⟨ret_int (by omega), hF2, G1⟩
theorem o_heldCell {w : World} {cs : List Value} {l0 : DCell} (k : Int) (h : tCell.R w w.heap.size cs (mkCell k l0)) (h0 : 0 ≤ k) (hk : k + cntCell l0 ≤ 4611686018427387904) :
    Calls Try.prog 24 #[.agg cs.toArray, .int .i64 k] w fun e w' => e = .returned (.int .i64 (k + cntCell l0)) ∧ Below w.heap.size w w' := by
  obtain ⟨A0, n0, c0, rfl, ha0, hb0, hl0, hr0⟩ := openCell h
  skip
  try dsimp only [cntCell, mkCell] at *
  have d0 : decide (k + ((l0.length : Nat) : Int) < 0) = false := by simp; omega
  go_enter Try.func24, Try.ntmps24
  go_wp2_with fail
  refine (o_heldByteS (k) (tBy.reach hr0 ?hB) (by omega) (by omega)).mono ?_
  case hB => exact (belx)
  rintro e w1 ⟨rfl, hb1⟩
  have hB1 : Below w.heap.size w w1 := bel_trans (belx) hb1
  have P1 : Box w1 w.heap.size 38 #[.slice A0 n0 c0] := (Box.new _ _ _).below hb1 (by first | (simp; done) | (simp; omega))
  go_wp2
  go_ret
  exact ⟨ret_int (by omega), hB1⟩
end Go.Proofs.Ytojbicecopkfbaa
