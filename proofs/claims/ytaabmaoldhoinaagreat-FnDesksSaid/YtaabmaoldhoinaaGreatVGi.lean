/-
  PDeskI, Ext, POp, Iter, PSk, PLgI, PMis, SortI, GrowC, Srt, Srtl: texts joined.
-/
import Derived.Test.YtaabmaoldhoinaaGreatProg
import Derived.Test.YtaabmaoldhoinaaGreatShelf
import Derived.Test.YtaabmaoldhoinaaGreatVGa
import Derived.Test.YtaabmaoldhoinaaGreatVGb
import Derived.Test.YtaabmaoldhoinaaGreatVGc
import Derived.Test.YtaabmaoldhoinaaGreatVGh
import Derived.Test.YtaabmaoldhoinaaGreatVMKeys
import Derived.Test.YtaabmaoldhoinaaGreatVMMp
import Derived.Test.YtaabmaoldhoinaaGreatVX1
import Derived.BigQuiet
import Derived.Deep.LoopGhost
import Derived.Deep.QuietTactic
import Derived.Deep.RegionHeld3
import Derived.Ground.GgzProg
import Derived.Ground.SlsfProg
import Derived.Laws.IdiomRangeMap
import Derived.Maps.Ext
import Derived.Shelf.SlGeneric
import Derived.Shelf.SlIterI.Nil
import Derived.Shelf.SlIterI.Sorted
import Derived.Shelf.SlSortCmp.SmallK
import Derived.Sort.OwnSortedInts
import Derived.WalkKit
namespace Go.Proofs.YtaabmaoldhoinaaGreat
set_option maxRecDepth 100000
set_option linter.unusedVariables false
set_option linter.unusedSimpArgs false
open Go.ChangeShapes Go.WideShapes Go.ChangeAt Go.RowKit
theorem i_isAsc {w : World} {n c : Nat} {A : Option Addr} {l : List Int} (b : Bool) (T : Asc l → b = true) (F : ¬ Asc l → b = false) (hl : Ints .i64 w w.heap.size A n l) (hn : n ≤ 17592186043904) :
    Calls Tryz.prog 71 #[.slice A n c] w fun e w' => e = .returned (.bool b) ∧ Below w.heap.size w w' := by
  have HL := Lib.hid hl.1
  have HT := Lib.hid T
  have HF := Lib.hid F
  clear T F
  go_enter Tryz.func71, Tryz.ntmps71
  go_wp2_with fail
  go_loopw [3] (fun i wr => ∃ q : Nat, (q < n ∨ q = 0) ∧ i = .int .i64 ((q : Int) + 1) ∧ Below w.heap.size w wr ∧ ∀ x, x < q → l.getD x 0 < l.getD (x + 1) 0) (fun i _ => n - (RowKit.intOf i).toNat)
  case atStart => exact ⟨0, .inr rfl, rfl, (belx), fun x h => absurd h (by omega)⟩
  case round =>
    obtain ⟨q, hq, rfl, hB, hG⟩ := hrel
    have HG := Lib.hid hG
    clear hG
    by_cases hlt : q + 1 < n
    · obtain ⟨bA, off, rfl, hb, hc⟩ := hl.2.1 (by omega)
      have u1 : wr.cell? ⟨bA, off + (q + 1), none⟩ = some (.int .i64 (l.getD (q + 1) 0)) := cell_at hB hb (hc (q + 1) hlt)
      have u0 : wr.cell? ⟨bA, off + q, none⟩ = some (.int .i64 (l.getD q 0)) := cell_at hB hb (hc q (by omega))
      obtain ⟨y, hy⟩ : ∃ y, l.getD (q + 1) 0 = y := ⟨_, rfl⟩
      obtain ⟨z, hz⟩ : ∃ z, l.getD q 0 = z := ⟨_, rfl⟩
      have HY := Lib.hid hy
      have HZ := Lib.hid hz
      rw [hy] at u1
      rw [hz] at u0
      clear hy hz hc
      have i1 : (q : Int) + 1 < (n : Int) := by omega
      have i2 : (0 : Int) ≤ (q : Int) := by omega
      have i3 : (q : Int) < (n : Int) := by omega
      have t1 : ((q : Int) + 1).toNat = q + 1 := by omega
      by_cases b2 : y ≤ z
      · obtain rfl := HF.out (fun h => by have := h q (by rw [HL.out]; exact hlt); rw [HY.out, HZ.out] at this; omega)
        have d2 : decide (y ≤ z) = true := decide_eq_true b2
        clear HT HF
        go_wp2_with fail
        go_quiet (fail)
        go_wp2
        go_ret
        exact ⟨rfl, below_drewN hB _⟩
      · have d2 : decide (y ≤ z) = false := decide_eq_false b2
        have HN := Lib.hid (show z < y by omega)
        go_wp2_with fail
        go_quiet (fail)
        go_wp2
        go_roundw
        case rel => exact ⟨q + 1, .inl hlt, by go_num, below_drewN hB _, fun x hx => by rcases Nat.lt_succ_iff_lt_or_eq.1 hx with h | rfl; exact HG.out x h; rw [HY.out, HZ.out]; exact HN.out⟩
        case measure => simp [RowKit.intOf]; omega
    · obtain rfl := HT.out (fun i hi => HG.out i (by rw [HL.out] at hi; omega))
      have i1 : ¬ (q : Int) + 1 < (n : Int) := by omega
      clear HT HF
      go_wp2
      go_ret
      exact ⟨rfl, hB⟩
theorem i_isIdB (x : Int) (w : World) : Calls Tryz.prog 70 #[.int .i64 x] w fun e w' => e = .returned (.bool (decide (0 ≤ x ∧ x ≤ 255))) ∧ w = w' := by
  by_cases h : 0 ≤ x ∧ x ≤ 255
  · rw [decide_eq_true h]; exact i_isId_t x w h.1 h.2
  · rw [decide_eq_false h]; exact i_isId_f x w h
theorem i4_isDue_t (x : Int) (w : World) (h1 : 0 ≤ x) (h2 : x ≤ 65535) : Calls Tryz.prog 45 #[.int .i64 x] w fun e w' => e = .returned (.bool true) ∧ w = w' := by
  go_enter Tryz.func45, Tryz.ntmps45
  go_wp2
  go_ret
  exact ⟨ret_bool (by first | (simp; done) | (simp; omega)), rfl⟩
theorem i4_isDue_f (x : Int) (w : World) (h : ¬ (0 ≤ x ∧ x ≤ 65535)) : Calls Tryz.prog 45 #[.int .i64 x] w fun e w' => e = .returned (.bool false) ∧ w = w' := by
  by_cases h1 : x < 0
  · clear h
    go_enter Tryz.func45, Tryz.ntmps45
    go_wp2
    go_ret
    exact ⟨rfl, rfl⟩
  · have h2 : 65535 < x := by omega
    clear h
    go_enter Tryz.func45, Tryz.ntmps45
    go_wp2
    go_ret
    exact ⟨ret_bool (by first | (simp; done) | (simp; omega)), rfl⟩
theorem i_IndexI_t {w : World} {B n c : Nat} {A : Option Addr} {l : List Int} (x : Int) (hl : Ints .i64 w B A n l) (hn : n ≤ 17592186043904) (hx : x ∈ l) :
    Calls Tryz.prog 89 #[.slice A n c, .int .i64 x] w fun e w' => (∃ k : Nat, e = .returned (.int .i64 k) ∧ k < 17592186043904) ∧ w = w' := by
  have HL := Lib.hid hl.1
  go_enter Tryz.func89, Tryz.ntmps89
  go_wp2_with fail
  go_loop [8] (fun i => ∃ j : Nat, j ≤ n ∧ i = .int .i64 j ∧ ∀ y ∈ l.take j, y ≠ x) (fun i => n - (RowKit.intOf i).toNat)
  case atStart => exact ⟨0, by omega, rfl, al0⟩
  case round =>
    obtain ⟨j, hj, rfl, hG⟩ := hrel
    have HG := Lib.hid hG
    clear hG
    by_cases hlt : j < n
    · obtain ⟨b, off, rfl, hb, hcell, hwf⟩ := hl.at_ hlt
      have HA := Lib.hid (atI HL.out hlt)
      obtain ⟨y, hy⟩ : ∃ y, l.getD j 0 = y := ⟨_, rfl⟩
      rw [hy] at hcell HA
      clear hy hwf
      by_cases he : x = y
      · subst he
        go_wp2
        go_ret
        exact ⟨⟨j, rfl, by omega⟩, rfl⟩
      · have q : (x == y) = false := by simpa using he
        have HN := Lib.hid (fun e : y = x => he e.symm)
        clear he
        go_wp2
        go_round
        case rel => exact ⟨j + 1, by omega, by go_num, alS HG.out HA.out HN.out⟩
        case measure => simp [RowKit.intOf]; omega
    · exact absurd rfl (alE HG.out (by rw [HL.out]; omega) x hx)
theorem i_IndexI_f {w : World} {B n c : Nat} {A : Option Addr} {l : List Int} (x : Int) (hl : Ints .i64 w B A n l) (hn : n ≤ 17592186043904) (hx : x ∉ l) :
    Calls Tryz.prog 89 #[.slice A n c, .int .i64 x] w fun e w' => e = .returned (.int .i64 (-1)) ∧ w = w' := by
  have HL := Lib.hid hl.1
  have HX := Lib.hid hx
  clear hx
  go_enter Tryz.func89, Tryz.ntmps89
  go_wp2_with fail
  go_loop [8] (fun i => ∃ j : Nat, j ≤ n ∧ i = .int .i64 j) (fun i => n - (RowKit.intOf i).toNat)
  case atStart => exact ⟨0, by omega, rfl⟩
  case round =>
    obtain ⟨j, hj, rfl⟩ := hrel
    by_cases hlt : j < n
    · obtain ⟨b, off, rfl, hb, hcell, hwf⟩ := hl.at_ hlt
      have HA := Lib.hid (atI HL.out hlt)
      obtain ⟨y, hy⟩ : ∃ y, l.getD j 0 = y := ⟨_, rfl⟩
      rw [hy] at hcell HA
      clear hy hwf
      have q : (x == y) = false := by simp; rintro rfl; exact HX.out (alMem HA.out)
      go_wp2
      go_round
      case rel => exact ⟨j + 1, by omega, by go_num⟩
      case measure => simp [RowKit.intOf]; omega
    · obtain rfl : n = j := by omega
      go_wp2
      go_ret
      exact ⟨rfl, rfl⟩
theorem i_ContainsI {w : World} {B n c : Nat} {A : Option Addr} {l : List Int} (x : Int) (hl : Ints .i64 w B A n l) (hn : n ≤ 17592186043904) :
    Calls Tryz.prog 47 #[.slice A n c, .int .i64 x] w fun e w' => e = .returned (.bool (decide (x ∈ l))) ∧ w = w' := by
  by_cases hx : x ∈ l
  · have HR := Lib.hid (show decide (x ∈ l) = true from decide_eq_true hx)
    go_enter Tryz.func47, Tryz.ntmps47
    go_wp2_with fail
    refine (i_IndexI_t x hl hn hx).mono ?_
    rintro e w' ⟨⟨k, rfl, hk⟩, rfl⟩
    clear hx
    go_wp2
    go_ret
    exact ⟨ret_bool (by first | (rw [HR.out]; done) | (rw [HR.out]; simp; done) | (rw [HR.out]; simp; omega)), rfl⟩
  · have HR := Lib.hid (show decide (x ∈ l) = false from decide_eq_false hx)
    go_enter Tryz.func47, Tryz.ntmps47
    go_wp2_with fail
    refine (i_IndexI_f x hl hn hx).mono ?_
    rintro e w' ⟨rfl, rfl⟩
    clear hx
    go_wp2
    go_ret
    exact ⟨ret_bool HR.out.symm, rfl⟩
theorem i_PcAt {w : World} {cs : List Value} {p : DPiece} (h : tPiece.R w w.heap.size cs p) :
    Calls Tryz.prog 91 #[.agg cs.toArray] w fun e w' => e = .returned (.int .i64 p.2.1) ∧ Below w.heap.size w w' := by
  obtain ⟨A3, n3, c3, rfl, hi0, hi1, hi2, ha3, hb3, hl3, hr3⟩ := openPiece h
  go_enter Tryz.func91, Tryz.ntmps91
  go_wp2
  go_ret
  exact ⟨rfl, (belx)⟩
theorem i_lacking (A3 : Option Addr) (n3 c3 : Nat) (x0 x1 x2 y : Int) (w : World) (hy : IntKind.i64.wrap (x1 - (n3 : Int)) = y) :
    Calls Tryz.prog 51 #[.agg #[.int .i64 x0, .int .i64 x1, .int .i64 x2, .slice A3 n3 c3]] w fun e w' => e = .returned (.int .i64 y) ∧ Below w.heap.size w w' := by
  go_enter Tryz.func51, Tryz.ntmps51
  go_wp2
  go_ret
  exact ⟨rfl, (belx)⟩
/-- What isPartial asks of each fragment. -/
def pcW (x0 x1 : Int) (p : DPiece) : Bool := decide (PcOk p ∧ p.1 = x0 ∧ p.2.2.1 = x1)
theorem i_isPart1 {w : World} {g : Nat} {cs : List Value} {p : DPiece} {x0 x1 : Int} (h : tPiece.R w w.heap.size cs p) (hz : szPiece p ≤ 1048576) (hg0 : w.cell? ⟨g, 0, none⟩ = some (.int .i64 x0)) (hg1 : w.cell? ⟨g, 1, none⟩ = some (.int .i64 x1)) :
    Calls Tryz.prog 107 #[.agg cs.toArray, .pointer (some ⟨g, 0, none⟩)] w fun e w' => e = .returned (.bool (pcW x0 x1 p)) ∧ Below w.heap.size w w' := by
  obtain ⟨A3, n3, c3, rfl, -, -, -, -, -, -, -⟩ := openPiece h
  by_cases hp : PcOk p
  · have HP := Lib.hid (decide_eq_true hp)
    have step : ∀ (b : Bool), pcW x0 x1 p = b → Calls Tryz.prog 107 #[.agg #[.int .i64 p.1, .int .i64 p.2.1, .int .i64 p.2.2.1, .slice A3 n3 c3], .pointer (some ⟨g, 0, none⟩)] w fun e w' => e = .returned (.bool b) ∧ Below w.heap.size w w' := by
      intro b hb
      have HPW := Lib.hid hb
      clear hb
      by_cases h1 : p.1 = x0
      · by_cases h2 : p.2.2.1 = x1
        · obtain rfl : true = b := by rw [← HPW.out]; exact (decide_eq_true ⟨hp, h1, h2⟩).symm
          have d1 : (p.1 == x0) = true := by simpa using h1
          have d2 : (p.2.2.1 == x1) = true := by simpa using h2
          clear hp h1 h2
          go_enter Tryz.func107, Tryz.ntmps107
          go_wp2_with fail
          refine (i_PieceOk (tPiece.reach h ?hB) hz).mono ?_
          case hB => exact (belx)
          rintro e w1 ⟨rfl, hb1⟩
          rw [HP.out]
          have X1 := (Box.new w 37 #[.int .i64 p.1, .int .i64 p.2.1, .int .i64 p.2.2.1, .slice A3 n3 c3]).below hb1 (by simp)
          have x0' := X1.cell 0
          have x2' := X1.cell 2
          have hB1 : Below w.heap.size w w1 := bel_trans (belx) hb1
          have g0 := cell_bel hB1 hg0
          have g1 := cell_bel hB1 hg1
          go_wp2
          go_ret
          exact ⟨ret_bool (by first | exact d2 | (simp [d1, d2]; done)), hB1⟩
        · obtain rfl : false = b := by rw [← HPW.out]; exact (decide_eq_false fun h => h2 h.2.2).symm
          have d1 : (p.1 == x0) = true := by simpa using h1
          have d2 : (p.2.2.1 == x1) = false := by simpa using h2
          clear hp h1 h2
          go_enter Tryz.func107, Tryz.ntmps107
          go_wp2_with fail
          refine (i_PieceOk (tPiece.reach h ?hB) hz).mono ?_
          case hB => exact (belx)
          rintro e w1 ⟨rfl, hb1⟩
          rw [HP.out]
          have X1 := (Box.new w 37 #[.int .i64 p.1, .int .i64 p.2.1, .int .i64 p.2.2.1, .slice A3 n3 c3]).below hb1 (by simp)
          have x0' := X1.cell 0
          have x2' := X1.cell 2
          have hB1 : Below w.heap.size w w1 := bel_trans (belx) hb1
          have g0 := cell_bel hB1 hg0
          have g1 := cell_bel hB1 hg1
          go_wp2
          go_ret
          exact ⟨ret_bool (by first | exact d2 | (simp [d1, d2]; done)), hB1⟩
      · obtain rfl : false = b := by rw [← HPW.out]; exact (decide_eq_false fun h => h1 h.2.1).symm
        have d1 : (p.1 == x0) = false := by simpa using h1
        clear hp h1
        go_enter Tryz.func107, Tryz.ntmps107
        go_wp2_with fail
        refine (i_PieceOk (tPiece.reach h ?hB) hz).mono ?_
        case hB => exact (belx)
        rintro e w1 ⟨rfl, hb1⟩
        rw [HP.out]
        have X1 := (Box.new w 37 #[.int .i64 p.1, .int .i64 p.2.1, .int .i64 p.2.2.1, .slice A3 n3 c3]).below hb1 (by simp)
        have x0' := X1.cell 0
        have x2' := X1.cell 2
        have hB1 : Below w.heap.size w w1 := bel_trans (belx) hb1
        have g0 := cell_bel hB1 hg0
        have g1 := cell_bel hB1 hg1
        go_wp2
        go_ret
        exact ⟨rfl, hB1⟩
    exact step _ rfl
  · have HP := Lib.hid (decide_eq_false hp)
    have HR := Lib.hid (show pcW x0 x1 p = false from decide_eq_false fun h => hp h.1)
    rw [HR.out]
    clear hp
    go_enter Tryz.func107, Tryz.ntmps107
    go_wp2_with fail
    refine (i_PieceOk (tPiece.reach h ?hB) hz).mono ?_
    case hB => exact (belx)
    rintro e w1 ⟨rfl, hb1⟩
    rw [HP.out]
    go_wp2
    go_ret
    exact ⟨rfl, bel_trans (belx) hb1⟩
theorem pcs_sz {r : List DPiece} {i : Nat} {a : DPiece} (h : rsz szPiece r ≤ 1048576) (ha : r[i]? = some a) : szPiece a ≤ 1048576 := by
  have := rsz_step (s := szPiece) ha; omega
theorem pcs_wf {w : World} {B n c : Nat} {A : Option Addr} {r : List DPiece} (h : tPiece.row.R w B [.slice A n c] r) : ∀ a ∈ r, (Lit.int .i64 a.2.1).wf = true := by
  intro a ha
  obtain ⟨i, hi, rfl⟩ := List.getElem_of_mem ha
  obtain ⟨b, bb, off, es, hb, -, -, -, hR⟩ := rowR_at (K := 4) h (show i < n by have := (rowR_len h).1; omega) rfl
  rw [List.getElem?_eq_getElem hi] at hb
  injection hb with hb
  subst hb
  obtain ⟨A3, n3, c3, rfl, hi0, hi1, hi2, -, -, -, -⟩ := openPiece hR
  exact hi1
set_option maxHeartbeats 8000000 in
theorem i_isPartialN {w : World} {A3 : Option Addr} {n3 c3 : Nat} {x0 x1 x2 : Int} {r3 : List DPiece} (b : Bool) (T : WhN (x0, x1, x2, r3) → b = true) (F : ¬ WhN (x0, x1, x2, r3) → b = false)
    (rg1 : -9223372036854775808 ≤ x1 ∧ x1 ≤ 9223372036854775807) (h3 : tPiece.row.R w w.heap.size [.slice A3 n3 c3] r3) (hz : rsz szPiece r3 ≤ 1048576) :
    Calls Tryz.prog 76 #[.agg #[.int .i64 x0, .int .i64 x1, .int .i64 x2, .slice A3 n3 c3]] w fun e w' => e = .returned (.bool b) ∧ Below w.heap.size w w' := by
  obtain ⟨e0, hnc, hcm⟩ := rowR_len h3
  have hn : n3 ≤ 1048576 := by have := rsz_le (s := szPiece) r3; omega
  have HL := Lib.hid e0
  have HZ := Lib.hid hz
  have HT := Lib.hid T
  have HF := Lib.hid F
  have hwf := Lib.hid (pcs_wf h3)
  clear T F e0 hz
  by_cases hd : 0 ≤ x2 ∧ x2 ≤ 65535
  rotate_left
  · obtain rfl := HF.out (fun h => hd h.1)
    clear HT HF
    go_enter Tryz.func76, Tryz.ntmps76
    go_wp2_with (go_at_call 45; refine (i4_isDue_f _ _ hd).mono ?_; rintro e w' ⟨rfl, rfl⟩)
    go_ret
    exact ⟨rfl, (belx)⟩
  obtain ⟨hd1, hd2⟩ := hd
  by_cases hn0 : n3 = 0
  · subst hn0
    obtain rfl := HF.out (fun h => by have := h.2.1.1; have := HL.out; dsimp only at *; omega)
    clear HT HF
    go_enter Tryz.func76, Tryz.ntmps76
    go_wp2_with (go_at_call 45; refine (i4_isDue_t _ _ hd1 hd2).mono ?_; rintro e w' ⟨rfl, rfl⟩)
    go_ret
    exact ⟨rfl, (belx)⟩
  have q0 : (0 : Int) < (n3 : Int) := by omega
  by_cases hlow : x1 ≤ (n3 : Int)
  · obtain rfl := HF.out (fun h => by have := h.2.1.2; have := HL.out; dsimp only at *; omega)
    by_cases hov : -9223372036854775808 ≤ x1 - (n3 : Int)
    · obtain ⟨y, hy, hy0⟩ : ∃ y, IntKind.i64.wrap (x1 - (n3 : Int)) = y ∧ y ≤ 0 := ⟨_, IntWalk.i64_in _ (by omega), by omega⟩
      clear HT HF hlow hov
      go_enter Tryz.func76, Tryz.ntmps76
      go_wp2_with (first
        | (go_at_call 45; refine (i4_isDue_t _ _ hd1 hd2).mono ?_; rintro e w' ⟨rfl, rfl⟩)
        | (go_at_call 51; refine (i_lacking _ _ _ _ _ _ y _ hy).mono ?_; rintro e w1 ⟨rfl, hb1⟩; have X1 := (Box.new w 53 #[.int .i64 x0, .int .i64 x1, .int .i64 x2, .slice A3 n3 c3]).below hb1 (by simp); have k0 := X1.cell 0; have k1 := X1.cell 1; have k3 := X1.cell 3; have hB1 : Below w.heap.size w w1 := bel_trans (belx) hb1))
      go_ret
      exact ⟨rfl, hB1⟩
    · obtain ⟨y, hy, hy0⟩ : ∃ y, IntKind.i64.wrap (x1 - (n3 : Int)) = y ∧ 0 < y := ⟨x1 - (n3 : Int) + 18446744073709551616, by have hb64 : IntKind.i64.bits = 64 := rfl; simp only [IntKind.wrap, hb64]; simp; omega, by omega⟩
      have HE := Lib.hid (show (r3.all (pcW x0 x1)) = false from by
        obtain ⟨a, ha⟩ : ∃ a, r3[0]? = some a := ⟨_, List.getElem?_eq_getElem (by rw [HL.out]; omega)⟩
        exact alF ha (decide_eq_false fun h => by have h1 := h.1; have h2 := h.2.2; unfold PcOk PcN at h1; omega))
      clear HT HF hlow hov
      go_enter Tryz.func76, Tryz.ntmps76
      go_wp2_with (go_at_call 45; refine (i4_isDue_t _ _ hd1 hd2).mono ?_; rintro e w' ⟨rfl, rfl⟩)
      refine (i_lacking _ _ _ _ _ _ y _ hy).mono ?_
      rintro e w1 ⟨rfl, hb1⟩
      have X1 := (Box.new w 53 #[.int .i64 x0, .int .i64 x1, .int .i64 x2, .slice A3 n3 c3]).below hb1 (by simp)
      have k0 := X1.cell 0
      have k1 := X1.cell 1
      have k3 := X1.cell 3
      have hB1 : Below w.heap.size w w1 := bel_trans (belx) hb1
      go_wp2_with fail
      refine (i_evryPieceV 107 (.pointer (some ⟨w.heap.size, 0, none⟩)) (pcW x0 x1) (fun _ _ => rfl) (fun i a w' cs ha hBw hR => i_isPart1 hR (pcs_sz HZ.out ha) (cell_bel hBw k0) (cell_bel hBw k1)) (tPiece.row.reach h3 hB1) (by omega)).mono ?_
      rintro e w2 ⟨rfl, hb2⟩
      rw [HE.out]
      have X2 := X1.below hb2 X1.size
      have m3 := X2.cell 3
      have hB2 : Below w.heap.size w w2 := bel_trans hB1 hb2
      go_wp2
      go_ret
      exact ⟨rfl, hB2⟩
  obtain ⟨y, hy, hy0⟩ : ∃ y, IntKind.i64.wrap (x1 - (n3 : Int)) = y ∧ 0 < y := ⟨_, IntWalk.i64_in _ (by omega), by omega⟩
  by_cases ha : ∀ p ∈ r3, PcOk p ∧ p.1 = x0 ∧ p.2.2.1 = x1
  rotate_left
  · obtain rfl := HF.out (fun h => ha h.2.2.1)
    have HE := Lib.hid (show (r3.all (pcW x0 x1)) = false from alDecF ha)
    clear HT HF ha
    go_enter Tryz.func76, Tryz.ntmps76
    go_wp2_with (go_at_call 45; refine (i4_isDue_t _ _ hd1 hd2).mono ?_; rintro e w' ⟨rfl, rfl⟩)
    refine (i_lacking _ _ _ _ _ _ y _ hy).mono ?_
    rintro e w1 ⟨rfl, hb1⟩
    have X1 := (Box.new w 53 #[.int .i64 x0, .int .i64 x1, .int .i64 x2, .slice A3 n3 c3]).below hb1 (by simp)
    have k0 := X1.cell 0
    have k1 := X1.cell 1
    have k3 := X1.cell 3
    have hB1 : Below w.heap.size w w1 := bel_trans (belx) hb1
    go_wp2_with fail
    refine (i_evryPieceV 107 (.pointer (some ⟨w.heap.size, 0, none⟩)) (pcW x0 x1) (fun _ _ => rfl) (fun i a w' cs ha hBw hR => i_isPart1 hR (pcs_sz HZ.out ha) (cell_bel hBw k0) (cell_bel hBw k1)) (tPiece.row.reach h3 hB1) (by omega)).mono ?_
    rintro e w2 ⟨rfl, hb2⟩
    rw [HE.out]
    have X2 := X1.below hb2 X1.size
    have m3 := X2.cell 3
    have hB2 : Below w.heap.size w w2 := bel_trans hB1 hb2
    go_wp2
    go_ret
    exact ⟨rfl, hB2⟩
  have HE := Lib.hid (show (r3.all (pcW x0 x1)) = true from alDec ha)
  obtain ⟨ats, hats⟩ : ∃ L, (r3.map fun p => p.2.1) = L := ⟨_, rfl⟩
  have HATS := Lib.hid hats
  have HTA := Lib.hid (show Asc ats → b = true from fun h => HT.out ⟨⟨hd1, hd2⟩, ⟨by have := HL.out; dsimp only; omega, by have := HL.out; dsimp only; omega⟩, ha, by show Asc (r3.map fun p => p.2.1); rw [hats]; exact h⟩)
  have HFA := Lib.hid (show ¬ Asc ats → b = false from fun h => HF.out fun hh => h (by rw [← hats]; exact hh.2.2.2))
  have hl5 : ats.length ≤ 17592186043904 := by rw [← hats, List.length_map, HL.out]; omega
  clear HT HF ha hlow hats
  go_enter Tryz.func76, Tryz.ntmps76
  go_wp2_with (go_at_call 45; refine (i4_isDue_t _ _ hd1 hd2).mono ?_; rintro e w' ⟨rfl, rfl⟩)
  refine (i_lacking _ _ _ _ _ _ y _ hy).mono ?_
  rintro e w1 ⟨rfl, hb1⟩
  have X1 := (Box.new w 53 #[.int .i64 x0, .int .i64 x1, .int .i64 x2, .slice A3 n3 c3]).below hb1 (by simp)
  have k0 := X1.cell 0
  have k1 := X1.cell 1
  have k3 := X1.cell 3
  have hB1 : Below w.heap.size w w1 := bel_trans (belx) hb1
  go_wp2_with fail
  refine (i_evryPieceV 107 (.pointer (some ⟨w.heap.size, 0, none⟩)) (pcW x0 x1) (fun _ _ => rfl) (fun i a w' cs ha hBw hR => i_isPart1 hR (pcs_sz HZ.out ha) (cell_bel hBw k0) (cell_bel hBw k1)) (tPiece.row.reach h3 hB1) (by omega)).mono ?_
  rintro e w2 ⟨rfl, hb2⟩
  rw [HE.out]
  have X2 := X1.below hb2 X1.size
  have m3 := X2.cell 3
  have hB2 : Below w.heap.size w w2 := bel_trans hB1 hb2
  go_wp2_with fail
  refine (i_eachPieceI 91 (fun p => p.2.1) (fun _ _ => rfl) (fun i a w' cs ha hBw hR => i_PcAt hR) hwf.out (tPiece.row.reach h3 hB2) hn).mono ?_
  rintro e w3 ⟨v, rfl, hO, hb3⟩
  rw [HATS.out] at hO
  obtain ⟨A5, c5, rfl, hle5, hI5, -⟩ := hO.ints
  have hB3 : Below w.heap.size w w3 := bel_trans hB2 hb3
  go_wp2_with fail
  refine (i_isAsc b HTA.out HFA.out hI5 hl5).mono ?_
  rintro e w4 ⟨rfl, hb4⟩
  go_wp2
  go_ret
  exact ⟨rfl, bel_trans hB3 hb4⟩
theorem i_WhId {w : World} {cs : List Value} {p : DWhole} (h : tWhole.R w w.heap.size cs p) :
    Calls Tryz.prog 73 #[.agg cs.toArray] w fun e w' => e = .returned (.int .i64 p.1) ∧ Below w.heap.size w w' := by
  obtain ⟨A3, n3, c3, rfl, hi0, hi1, hi2, ha3, hb3, hl3, hr3⟩ := openWhole h
  go_enter Tryz.func73, Tryz.ntmps73
  go_wp2
  go_ret
  exact ⟨rfl, (belx)⟩
theorem whs_sz {r : List DWhole} {i : Nat} {a : DWhole} (h : rsz szWhole r ≤ 1048576) (ha : r[i]? = some a) : szWhole a ≤ 1048576 := by
  have := rsz_step (s := szWhole) ha; omega
theorem whs_wf {w : World} {B n c : Nat} {A : Option Addr} {r : List DWhole} (h : tWhole.row.R w B [.slice A n c] r) : ∀ a ∈ r, (Lit.int .i64 a.1).wf = true := by
  intro a ha
  obtain ⟨i, hi, rfl⟩ := List.getElem_of_mem ha
  obtain ⟨b, bb, off, es, hb, -, -, -, hR⟩ := rowR_at (K := 4) h (show i < n by have := (rowR_len h).1; omega) rfl
  rw [List.getElem?_eq_getElem hi] at hb
  injection hb with hb
  subst hb
  obtain ⟨A3, n3, c3, rfl, hi0, hi1, hi2, -, -, -, -⟩ := openWhole hR
  exact hi0
/-- What DeskOk asks of each message. -/
noncomputable def whB (l1 : List Int) (a : DWhole) : Bool := @decide (WhN a ∧ a.1 ∉ l1) (Classical.propDecidable _)
theorem whB_t {l1 : List Int} {a : DWhole} (h : WhN a ∧ a.1 ∉ l1) : whB l1 a = true := @decide_eq_true _ (Classical.propDecidable _) h
theorem whB_f {l1 : List Int} {a : DWhole} (h : ¬ (WhN a ∧ a.1 ∉ l1)) : whB l1 a = false := @decide_eq_false _ (Classical.propDecidable _) h
theorem i_DeskOk1 {w : World} {g n1 c1 : Nat} {A1 : Option Addr} {cs : List Value} {a : DWhole} {l1 : List Int} (h : tWhole.R w w.heap.size cs a) (hz : szWhole a ≤ 1048576) (hg1 : w.cell? ⟨g, 1, none⟩ = some (.slice A1 n1 c1)) (hl : Ints .i64 w w.heap.size A1 n1 l1) (hn : n1 ≤ 17592186043904) :
    Calls Tryz.prog 75 #[.agg cs.toArray, .pointer (some ⟨g, 0, none⟩)] w fun e w' => e = .returned (.bool (whB l1 a)) ∧ Below w.heap.size w w' := by
  obtain ⟨A3, n3, c3, rfl, hi0, hi1, hi2, ha3, hb3, hl3, hr3⟩ := openWhole h
  have rg1 := i64_rg hi1
  by_cases hp : WhN a
  · have step : ∀ (b : Bool), whB l1 a = b → Calls Tryz.prog 75 #[.agg #[.int .i64 a.1, .int .i64 a.2.1, .int .i64 a.2.2.1, .slice A3 n3 c3], .pointer (some ⟨g, 0, none⟩)] w fun e w' => e = .returned (.bool b) ∧ Below w.heap.size w w' := by
      intro b hb
      have HBB := Lib.hid hb
      have HPN := Lib.hid (show WhN (a.1, a.2.1, a.2.2.1, a.2.2.2) from hp)
      have HMM := Lib.hid (show (!decide (a.1 ∈ l1)) = b from by
        rw [← hb]
        by_cases hm : a.1 ∈ l1
        · rw [decide_eq_true hm, whB_f fun h => h.2 hm]; rfl
        · rw [decide_eq_false hm, whB_t ⟨hp, hm⟩]; rfl)
      clear hb hp
      go_enter Tryz.func75, Tryz.ntmps75
      go_wp2_with fail
      refine (i_isPartialN true (fun _ => rfl) (fun h => absurd HPN.out h) rg1 (tPiece.row.reach hr3 ?hB) hz).mono ?_
      case hB => exact (belx)
      rintro e w1 ⟨rfl, hb1⟩
      have X1 := (Box.new w 53 #[.int .i64 a.1, .int .i64 a.2.1, .int .i64 a.2.2.1, .slice A3 n3 c3]).below hb1 (by simp)
      have x0' := X1.cell 0
      have hB1 : Below w.heap.size w w1 := bel_trans (belx) hb1
      have g1 := cell_bel hB1 hg1
      go_wp2_with fail
      refine (i_ContainsI a.1 (reach hl hB1) hn).mono ?_
      rintro e w2 ⟨rfl, rfl⟩
      go_wp2
      go_ret
      exact ⟨ret_bool HMM.out, hB1⟩
    exact step _ rfl
  · have HR := Lib.hid (show whB l1 a = false from whB_f fun h => hp h.1)
    rw [HR.out]
    have HPN := Lib.hid (show ¬ WhN (a.1, a.2.1, a.2.2.1, a.2.2.2) from hp)
    clear hp
    go_enter Tryz.func75, Tryz.ntmps75
    go_wp2_with fail
    refine (i_isPartialN false (fun h => absurd h HPN.out) (fun _ => rfl) rg1 (tPiece.row.reach hr3 ?hB) hz).mono ?_
    case hB => exact (belx)
    rintro e w1 ⟨rfl, hb1⟩
    go_wp2
    go_ret
    exact ⟨rfl, bel_trans (belx) hb1⟩
set_option maxHeartbeats 2000000 in
theorem i_DeskOkN {w : World} {A0 A1 : Option Addr} {n0 c0 n1 c1 : Nat} {r0 : List DWhole} {l1 : List Int} (b : Bool) (T : DkOk (r0, l1) → b = true) (F : ¬ DkOk (r0, l1) → b = false)
    (h0 : tWhole.row.R w w.heap.size [.slice A0 n0 c0] r0) (h1 : tIs.R w w.heap.size [.slice A1 n1 c1] l1) (hsz : rsz szWhole r0 ≤ 1048576) (hn1 : n1 ≤ 1048576) :
    Calls Tryz.prog 25 #[.agg #[.slice A0 n0 c0, .slice A1 n1 c1]] w fun e w' => e = .returned (.bool b) ∧ Below w.heap.size w w' := by
  obtain ⟨e0, hnc0, hcm0⟩ := rowR_len h0
  have hl1 := (slR_ints h1).1
  have hn0 : n0 ≤ 1048576 := by have := rsz_le (s := szWhole) r0; omega
  have E0 := Lib.hid e0
  have E1 := Lib.hid hl1.1
  have HT := Lib.hid T
  have HF := Lib.hid F
  have HS0 := Lib.hid hsz
  have hwf := Lib.hid (whs_wf h0)
  clear T F e0 h1 hsz
  by_cases a0 : ∀ x ∈ l1, 0 ≤ x ∧ x ≤ 255
  rotate_left
  · obtain rfl := HF.out (fun h => a0 h.2.1)
    have HA0 := Lib.hid (show (l1.all fun x => decide (0 ≤ x ∧ x ≤ 255)) = false from alDecF a0)
    clear HT HF a0
    go_enter Tryz.func25, Tryz.ntmps25
    go_wp2_with fail
    refine (i_everyI 70 (fun x => decide (0 ≤ x ∧ x ≤ 255)) (fun x w => rfl) i_isIdB (reach hl1 ?hB) (by omega)).mono ?_
    case hB => exact (belx)
    rintro e w1 ⟨rfl, rfl⟩
    rw [HA0.out]
    go_wp2
    go_ret
    exact ⟨rfl, (belx)⟩
  have HA0 := Lib.hid (show (l1.all fun x => decide (0 ≤ x ∧ x ≤ 255)) = true from alDec a0)
  by_cases a1 : Asc l1
  rotate_left
  · obtain rfl := HF.out (fun h => a1 h.2.2.1)
    have HA1 := Lib.hid a1
    clear HT HF a0 a1
    go_enter Tryz.func25, Tryz.ntmps25
    go_wp2_with fail
    refine (i_everyI 70 (fun x => decide (0 ≤ x ∧ x ≤ 255)) (fun x w => rfl) i_isIdB (reach hl1 ?hB) (by omega)).mono ?_
    case hB => exact (belx)
    rintro e w1 ⟨rfl, rfl⟩
    rw [HA0.out]
    go_wp2_with fail
    refine (i_isAsc false (fun h => absurd h HA1.out) (fun _ => rfl) (reach hl1 ?hB) (by omega)).mono ?_
    case hB => exact (belx)
    rintro e w2 ⟨rfl, hb2⟩
    have X2 := (Box.new w 33 #[.slice A0 n0 c0, .slice A1 n1 c1]).below hb2 (by simp)
    have k0 := X2.cell 0
    have k1 := X2.cell 1
    have hB2 : Below w.heap.size w w2 := bel_trans (belx) hb2
    go_wp2
    go_ret
    exact ⟨rfl, hB2⟩
  have HA1 := Lib.hid a1
  by_cases g0 : n0 ≤ 6
  rotate_left
  · obtain rfl := HF.out (fun h => by have := h.1; have := E0.out; dsimp only at *; omega)
    have q : ¬ (n0 : Int) ≤ 6 := by omega
    clear HT HF a0 a1
    go_enter Tryz.func25, Tryz.ntmps25
    go_wp2_with fail
    refine (i_everyI 70 (fun x => decide (0 ≤ x ∧ x ≤ 255)) (fun x w => rfl) i_isIdB (reach hl1 ?hB) (by omega)).mono ?_
    case hB => exact (belx)
    rintro e w1 ⟨rfl, rfl⟩
    rw [HA0.out]
    go_wp2_with fail
    refine (i_isAsc true (fun _ => rfl) (fun h => absurd HA1.out h) (reach hl1 ?hB) (by omega)).mono ?_
    case hB => exact (belx)
    rintro e w2 ⟨rfl, hb2⟩
    have X2 := (Box.new w 33 #[.slice A0 n0 c0, .slice A1 n1 c1]).below hb2 (by simp)
    have k0 := X2.cell 0
    have k1 := X2.cell 1
    have hB2 : Below w.heap.size w w2 := bel_trans (belx) hb2
    go_wp2
    go_ret
    exact ⟨rfl, hB2⟩
  have q : (n0 : Int) ≤ 6 := by omega
  obtain ⟨ids, hids⟩ : ∃ L, (r0.map fun p => p.1) = L := ⟨_, rfl⟩
  have HIDS := Lib.hid hids
  have hl5 : ids.length ≤ 17592186043904 := by rw [← hids, List.length_map, E0.out]; omega
  by_cases a3 : Asc ids
  rotate_left
  · obtain rfl := HF.out (fun h => a3 (by rw [← hids]; exact h.2.2.2.1))
    have HA3 := Lib.hid a3
    clear HT HF a0 a1 a3 hids
    go_enter Tryz.func25, Tryz.ntmps25
    go_wp2_with fail
    refine (i_everyI 70 (fun x => decide (0 ≤ x ∧ x ≤ 255)) (fun x w => rfl) i_isIdB (reach hl1 ?hB) (by omega)).mono ?_
    case hB => exact (belx)
    rintro e w1 ⟨rfl, rfl⟩
    rw [HA0.out]
    go_wp2_with fail
    refine (i_isAsc true (fun _ => rfl) (fun h => absurd HA1.out h) (reach hl1 ?hB) (by omega)).mono ?_
    case hB => exact (belx)
    rintro e w2 ⟨rfl, hb2⟩
    have X2 := (Box.new w 33 #[.slice A0 n0 c0, .slice A1 n1 c1]).below hb2 (by simp)
    have k0 := X2.cell 0
    have k1 := X2.cell 1
    have hB2 : Below w.heap.size w w2 := bel_trans (belx) hb2
    go_wp2_with fail
    refine (i_eachWholeI 73 (fun p => p.1) (fun _ _ => rfl) (fun i a w' cs ha hBw hR => i_WhId hR) hwf.out (tWhole.row.reach h0 hB2) (by omega)).mono ?_
    rintro e w3 ⟨v, rfl, hO, hb3⟩
    rw [HIDS.out] at hO
    obtain ⟨A5, c5, rfl, hle5, hI5, -⟩ := hO.ints
    have hB3 : Below w.heap.size w w3 := bel_trans hB2 hb3
    have X3 := X2.below hb3 X2.size
    go_wp2_with fail
    refine (i_isAsc false (fun h => absurd h HA3.out) (fun _ => rfl) hI5 hl5).mono ?_
    rintro e w4 ⟨rfl, hb4⟩
    have X4 := X3.below hb4 X3.size
    clear k0 k1
    have k0 := X4.cell 0
    have k1 := X4.cell 1
    have hB4 : Below w.heap.size w w4 := bel_trans hB3 hb4
    go_wp2
    go_ret
    exact ⟨rfl, hB4⟩
  have HA3 := Lib.hid a3
  have HB := Lib.hid (show (r0.all (whB l1)) = b from by
    by_cases a4 : ∀ a ∈ r0, WhN a ∧ a.1 ∉ l1
    · rw [HT.out ⟨by have := E0.out; dsimp only; omega, a0, a1, by show Asc (r0.map fun p => p.1); rw [hids]; exact a3, a4⟩]; exact List.all_eq_true.2 fun x hx => whB_t (a4 x hx)
    · rw [HF.out (fun h => a4 h.2.2.2.2)]; exact Bool.eq_false_iff.2 fun hh => a4 fun x hx => Classical.byContradiction fun hc => by have := List.all_eq_true.1 hh x hx; rw [whB_f hc] at this; cases this)
  clear HT HF a0 a1 a3 hids
  go_enter Tryz.func25, Tryz.ntmps25
  go_wp2_with fail
  refine (i_everyI 70 (fun x => decide (0 ≤ x ∧ x ≤ 255)) (fun x w => rfl) i_isIdB (reach hl1 ?hB) (by omega)).mono ?_
  case hB => exact (belx)
  rintro e w1 ⟨rfl, rfl⟩
  rw [HA0.out]
  go_wp2_with fail
  refine (i_isAsc true (fun _ => rfl) (fun h => absurd HA1.out h) (reach hl1 ?hB) (by omega)).mono ?_
  case hB => exact (belx)
  rintro e w2 ⟨rfl, hb2⟩
  have X2 := (Box.new w 33 #[.slice A0 n0 c0, .slice A1 n1 c1]).below hb2 (by simp)
  have k0 := X2.cell 0
  have k1 := X2.cell 1
  have hB2 : Below w.heap.size w w2 := bel_trans (belx) hb2
  go_wp2_with fail
  refine (i_eachWholeI 73 (fun p => p.1) (fun _ _ => rfl) (fun i a w' cs ha hBw hR => i_WhId hR) hwf.out (tWhole.row.reach h0 hB2) (by omega)).mono ?_
  rintro e w3 ⟨v, rfl, hO, hb3⟩
  rw [HIDS.out] at hO
  obtain ⟨A5, c5, rfl, hle5, hI5, -⟩ := hO.ints
  have hB3 : Below w.heap.size w w3 := bel_trans hB2 hb3
  have X3 := X2.below hb3 X2.size
  go_wp2_with fail
  refine (i_isAsc true (fun _ => rfl) (fun h => absurd HA3.out h) hI5 hl5).mono ?_
  rintro e w4 ⟨rfl, hb4⟩
  have X4 := X3.below hb4 X3.size
  clear k0 k1
  have k0 := X4.cell 0
  have k1 := X4.cell 1
  have hB4 : Below w.heap.size w w4 := bel_trans hB3 hb4
  go_wp2_with fail
  refine (i_evryWholeV 75 (.pointer (some ⟨w.heap.size, 0, none⟩)) (whB l1) (fun _ _ => rfl) (fun i a w' cs ha hBw hR => i_DeskOk1 hR (whs_sz HS0.out ha) (cell_bel hBw k1) (reach hl1 (bel_trans hB4 hBw)) (by omega)) (tWhole.row.reach h0 hB4) (by omega)).mono ?_
  rintro e w5 ⟨rfl, hb5⟩
  rw [HB.out]
  go_wp2
  go_ret
  exact ⟨rfl, bel_trans hB4 hb5⟩
theorem i_DeskOk {w : World} {cs : List Value} {p : DDesk} (h : tDesk.R w w.heap.size cs p) (hz : szDesk p ≤ 1048576) :
    Calls Tryz.prog 25 #[.agg cs.toArray] w fun e w' => e = .returned (.bool (decide (DkOk p))) ∧ Below w.heap.size w w' := by
  obtain ⟨A0, n0, c0, A1, n1, c1, rfl, -, -, -, hr0, -, -, hn1, hr1⟩ := openDesk h
  unfold szDesk at hz
  exact i_DeskOkN _ (fun hh => decide_eq_true hh) (fun hh => decide_eq_false hh) hr0 hr1 (by omega) (by omega)
end Go.Proofs.YtaabmaoldhoinaaGreat
namespace Go.Proofs.YtaabmaoldhoinaaGreat
set_option maxRecDepth 100000
set_option linter.unusedVariables false
set_option linter.unusedSimpArgs false
open Go.ChangeShapes Go.WideShapes Go.ChangeAt Go.RowKit
/-- From w with v to w' with v': beside v's own block nothing old has changed; v' has v's block or a new one. -/
def Ext (w : World) (v : Value) (w' : World) (v' : Value) : Prop := w.grownBy w' v.ownBlock ∧ (v'.ownBlock = v.ownBlock ∨ ∃ b, v'.ownBlock = some b ∧ w.heap.size ≤ b)
section
variable {w w' w1 w2 : World} {v v' v1 v2 : Value} {B g : Nat} {t : TypeId} {cs : Array Value}
theorem Ext.refl (w : World) (v : Value) : Ext w v w v := ⟨World.grownBy.refl _ _, .inl rfl⟩
theorem Ext.trans (h : Ext w v w1 v1) (k : Ext w1 v1 w2 v2) : Ext w v w2 v2 := by
  refine ⟨⟨k.1.os.trans h.1.os, k.1.tape.trans h.1.tape, k.1.output.trans h.1.output, Nat.le_trans h.1.size k.1.size, fun i hi hn => ?_⟩, ?_⟩
  · refine (k.1.block i (Nat.lt_of_lt_of_le hi h.1.size) ?_).trans (h.1.block i hi hn)
    intro e
    rcases h.2 with h2 | ⟨b, h2, h3⟩
    · exact hn (e.trans h2)
    · rw [h2] at e; injection e with e; omega
  · rcases k.2 with k2 | ⟨b, k2, k3⟩
    · rcases h.2 with h2 | ⟨b, h2, h3⟩
      · exact .inl (k2.trans h2)
      · exact .inr ⟨b, k2.trans h2, h3⟩
    · exact .inr ⟨b, k2, Nat.le_trans h.1.size k3⟩
theorem Ext.of (h : Below w.heap.size w w') : Ext w v w' v := ⟨below_grownBy h, .inl rfl⟩
theorem Ext.app (h : Ext w v w1 v1) (hB : Below w1.heap.size w1 w2) (hg : w2.grownBy w' v1.ownBlock) (ha : v'.ownBlock = v1.ownBlock ∨ v'.ownBlock = some w2.heap.size) : Ext w v w' v' :=
  h.trans ((Ext.of hB).trans ⟨hg, ha.imp id fun e => ⟨_, e, Nat.le_refl _⟩⟩)
theorem Ext.box (h : Ext w v w' v') (hb : Box w g t cs) (hn : v.ownBlock ≠ some g) : Box w' g t cs := hb.grown h.1 (fun e => hn e.symm)
theorem Ext.not (h : Ext w v w' v') (hg : g < w.heap.size) (hn : v.ownBlock ≠ some g) : v'.ownBlock ≠ some g := fun e => by
  rcases h.2 with h2 | ⟨b, h2, h3⟩
  · exact hn (h2.symm.trans e)
  · rw [h2] at e; injection e with e; omega
theorem Ext.below (h : Ext w v w' v') (hB : B ≤ w.heap.size) (hv : ∀ b, v.ownBlock = some b → B ≤ b) : Below B w w' :=
  ⟨h.1.os, h.1.tape, h.1.output, h.1.size, fun k hk => h.1.block k (by omega) fun e => by have := hv k e.symm; omega⟩
end
/-- Cells that have just been laid. -/
theorem Src.cells (w : World) (t : TypeId) (us : List Value) : Src (w.alloc (.cells us.toArray t)) 1 (some ⟨w.heap.size, 0, none⟩) us.length us := by
  refine ⟨by simp, fun _ => ⟨_, 0, rfl, fun j u hj => ?_⟩⟩
  rw [Nat.zero_add, (Box.new w t _).cell]
  simpa using hj
theorem flS {α : Type} {f : α → List Int} {l : List α} {j : Nat} {a : α} (hl : l[j]? = some a) : (l.take (j + 1)).flatMap f = (l.take j).flatMap f ++ f a := by
  rw [take_sn hl, List.flatMap_append]; simp
theorem flLe {α : Type} {f : α → List Int} {l : List α} {m : Nat} (h : ∀ a ∈ l, (f a).length ≤ m) (j : Nat) : ((l.take j).flatMap f).length ≤ m * l.length := by
  induction l generalizing j with
  | nil => simp
  | cons a l ih =>
    cases j with
    | zero => simp
    | succ j =>
      have := ih (fun x hx => h x (by simp [hx])) j
      have := h a (by simp)
      rw [List.take_succ_cons, List.flatMap_cons, List.length_append, List.length_cons, Nat.mul_succ]
      omega
theorem own_appN {K : IntKind} {e : TypeId} {w : World} {base n : Nat} {v : Value} {l r : List Int} (h : w.ownsRow base e 1 v (l.length + n) (l.map (Value.int K) ++ r.map (Value.int K))) (hn : r.length = n) (hl : ∀ x ∈ l, (Lit.int K x).wf = true) (hr : ∀ x ∈ r, (Lit.int K x).wf = true) : Own K e w base v (l ++ r) :=
  Own.of (n := l.length + n) (by rw [List.map_append]; exact h) fun x hx => by
    rcases List.mem_append.1 hx with h' | h'
    · exact hl x h'
    · exact hr x h'
end Go.Proofs.YtaabmaoldhoinaaGreat
namespace Go.Proofs.YtaabmaoldhoinaaGreat
set_option maxRecDepth 100000
set_option linter.unusedVariables false
set_option linter.unusedSimpArgs false
open Go.ChangeShapes Go.WideShapes Go.ChangeAt Go.RowKit
theorem ms_keyed : Go.Maps.Keyed Tryz.prog 3 := Go.Maps.int_keyed Tryz.underlying3
set_option maxHeartbeats 1000000 in
theorem i_opened {w : World} {A0 A1 : Option Addr} {n0 c0 n1 c1 : Nat} {r : List DWhole} (hr : tWhole.row.R w w.heap.size [.slice A0 n0 c0] r) (hn : n0 ≤ 1048576) (hap : Apart (fun a : DWhole => a.1) r) (hwf : ∀ a ∈ r, (Lit.int .i64 a.1).wf = true) :
    Calls Tryz.prog 46 #[.agg #[.slice A0 n0 c0, .slice A1 n1 c1]] w fun e w' => ∃ b D, e = .returned (.map (some b)) ∧ w'.ownsMap Tryz.prog 3 mR b n0 D ∧ MapW tWhole (fun a => a.1) w' w.heap.size D r ∧ w.heap.size ≤ b ∧ Below w.heap.size w w' := by
  have hmm := @run_makeMap Tryz.prog
  obtain ⟨e0, _, _⟩ := rowR_len hr
  have E0 := Lib.hid e0
  clear e0
  have HAP := Lib.hid hap
  have HWF := Lib.hid hwf
  clear hap hwf
  have X0 : Box ((w.alloc (.cells #[.slice A0 n0 c0, .slice A1 n1 c1] 33)).alloc (.map #[] 0)) w.heap.size 33 #[.slice A0 n0 c0, .slice A1 n1 c1] := (Box.new _ _ _).alloc _
  have m0 : ((w.alloc (.cells #[.slice A0 n0 c0, .slice A1 n1 c1] 33)).alloc (.map #[] 0)).ownsMap (H := Value) Tryz.prog 3 mR (w.heap.size + 1) 0 (.map []) := by
    have := World.ownsMap_made (H := Value) (w.alloc (.cells #[.slice A0 n0 c0, .slice A1 n1 c1] 33)) Tryz.prog 3 mR
    simpa using this
  have x0 := X0.cell 0
  have hB0 : Below w.heap.size w ((w.alloc (.cells #[.slice A0 n0 c0, .slice A1 n1 c1] 33)).alloc (.map #[] 0)) := bel_alloc (bel_alloc (Below.refl _ _) _) _
  go_enter Tryz.func46, Tryz.ntmps46
  go_wp2_with fail
  go_loopw [10] (fun i wr => ∃ (j : Nat) (D : MD), j ≤ n0 ∧ i = .int .i64 j ∧ wr.ownsMap Tryz.prog 3 mR (w.heap.size + 1) j D ∧ MapW tWhole (fun a => a.1) wr w.heap.size D (r.take j) ∧ Below w.heap.size w wr) (fun i _ => n0 - ixOf i)
  case atStart => exact ⟨0, .map [], by omega, rfl, m0, MapW.nil _ _ _ _, hB0⟩
  case round =>
    obtain ⟨j, D, hj, rfl, hM, hW, hB⟩ := hrel
    by_cases hlt : j < n0
    · obtain ⟨a, b', off, es, hl2, rfl, hb, hes, hR⟩ := rowR_at (K := 4) hr hlt rfl
      have HTk := Lib.hid (take_snoc hl2)
      have HD := Lib.hid (HAP.out.take hl2)
      have hwa := HWF.out a (List.mem_of_getElem? hl2)
      have hRk := hR
      obtain ⟨A2, n2, c2, rfl, -⟩ := openWhole hR
      have h0 : wr.cell? ⟨b', off + j * 4, none⟩ = some (.int .i64 a.1) := cell_at hB hb (hes 0 (by omega))
      have h1 : wr.cell? ⟨b', off + j * 4 + 1, none⟩ = some (.int .i64 a.2.1) := cell_at hB hb (hes 1 (by omega))
      have h2 : wr.cell? ⟨b', off + j * 4 + 2, none⟩ = some (.int .i64 a.2.2.1) := cell_at hB hb (hes 2 (by omega))
      have h3 : wr.cell? ⟨b', off + j * 4 + 3, none⟩ = some (.slice A2 n2 c2) := cell_at hB hb (hes 3 (by omega))
      have i1 : (j : Int) < (n0 : Int) := by omega
      have hkey : keyOf Tryz.prog 3 (.int .i64 a.1) = some (mK a.1) := Go.Maps.keyOf_int_mk Tryz.underlying3 hwa
      clear hes hR hl2
      go_wp2_with (at_mapUpdate; refine wpList_mapUpdate_own _ rfl _ _ _ 76 rfl 3 53 ms_keyed Tryz.underlying76 mR (w.heap.size + 1) j D rfl (hM.alloc _) (by simp only [maxLen]; omega) _ _ (mK a.1) rfl rfl hkey _ [] rfl ?_; intro w1 hown1 hgr1)
      have hB1 : Below w.heap.size w w1 := Below.grown (w := wr.alloc (.cells #[.int .i64 a.1, .int .i64 a.2.1, .int .i64 a.2.2.1, .slice A2 n2 c2] 53)) (bel_alloc hB _) hgr1 (by simp; have := hB.size; omega) (fun b hb => by have e := Option.some.inj hb; omega)
      have hk : ∀ b, b < w.heap.size → w1.heap[b]? = wr.heap[b]? := fun b hb => (hB1.block b hb).trans (hB.block b hb).symm
      have hW1 := (hW.keep hk).putNew (tWhole.keep hRk hB1.block) HD.out
      rw [← HTk.out] at hW1
      go_roundw
      case rel => exact ⟨j + 1, _, by omega, by go_num, hown1, hW1, hB1⟩
      case measure => simp [ixOf]; omega
    · obtain rfl : j = n0 := by omega
      have HT := Lib.hid (show r.take j = r from List.take_of_length_le (Nat.le_of_eq E0.out))
      rw [HT.out] at hW
      go_wp2
      go_ret
      exact ⟨_, D, rfl, hM, hW, by omega, hB⟩
end Go.Proofs.YtaabmaoldhoinaaGreat
namespace Go.Proofs
open Go.Shelf
def Tryz.keysA_ren : Go.Shelf.Ren := ⟨fun | 7 => 93 | 10 => 115 | n => n, fun | 23 => 76 | 26 => 3 | 3 => 53 | 28 => 118 | 0 => 0 | 27 => 117 | 33 => 75 | 4 => 4 | n => n, fun | n => n⟩
theorem Tryz.keysA : Go.Proofs.SlLaysZI.n7 Tryz.prog Tryz.keysA_ren := {
  mixed := by kernel_rfl
  f7 := ⟨Tryz.f93.name, by decide, Tryz.func93.trans (congrArg some (by kernel_rfl))⟩
  f10 := ⟨Tryz.f115.name, by decide, Tryz.func115.trans (congrArg some (by kernel_rfl))⟩
  t0 := Tryz.underlying0
  a0 := Tryz.isAgg0
  z0 := Tryz.sizeOf0
  v0 := Tryz.zeroValue0
  t4 := Tryz.underlying4
  a4 := Tryz.isAgg4
  z4 := Tryz.sizeOf4
  v4 := Tryz.zeroValue4
  t23 := Tryz.underlying76
  a23 := Tryz.isAgg76
  z23 := Tryz.sizeOf76
  v23 := Tryz.zeroValue76
  t26 := Tryz.underlying3
  a26 := Tryz.isAgg3
  z26 := Tryz.sizeOf3
  v26 := Tryz.zeroValue3
  t27 := Tryz.underlying117
  a27 := Tryz.isAgg117
  z27 := Tryz.sizeOf117
  v27 := Tryz.zeroValue117
  t28 := Tryz.underlying118
  a28 := Tryz.isAgg118
  z28 := Tryz.sizeOf118
  v28 := Tryz.zeroValue118
  t33 := Tryz.underlying75
  a33 := Tryz.isAgg75
  z33 := Tryz.sizeOf75
  v33 := Tryz.zeroValue75 }
def Tryz.sortedA_ren : Go.Shelf.Ren := ⟨fun | 6 => 92 | 8 => 114 | 9 => 53 | 11 => 133 | 13 => 100 | 12 => 99 | 23 => 129 | 24 => 130 | 14 => 120 | 15 => 121 | 16 => 122 | 17 => 123 | 18 => 124 | 19 => 125 | 20 => 126 | 21 => 127 | 22 => 128 | 25 => 142 | 26 => 143 | 27 => 144 | 28 => 145 | 29 => 146 | 30 => 119 | 31 => 150 | n => n, fun | 26 => 3 | 28 => 118 | 24 => 23 | 0 => 0 | 3 => 3 | 37 => 127 | 48 => 151 | 50 => 153 | 4 => 4 | 40 => 143 | 39 => 142 | 45 => 148 | 5 => 5 | 9 => 9 | 51 => 161 | 55 => 165 | 57 => 169 | 58 => 170 | 33 => 75 | n => n, fun | n => n⟩
theorem Tryz.sortedA : Go.Proofs.SlLaysZI.n6 Tryz.prog Tryz.sortedA_ren := {
  mixed := by kernel_rfl
  f6 := ⟨Tryz.f92.name, by decide, Tryz.func92.trans (congrArg some (by kernel_rfl))⟩
  f8 := ⟨Tryz.f114.name, by decide, Tryz.func114.trans (congrArg some (by kernel_rfl))⟩
  f11 := ⟨Tryz.f133.name, by decide, Tryz.func133.trans (congrArg some (by kernel_rfl))⟩
  t0 := Tryz.underlying0
  a0 := Tryz.isAgg0
  z0 := Tryz.sizeOf0
  v0 := Tryz.zeroValue0
  t24 := Tryz.underlying23
  a24 := Tryz.isAgg23
  z24 := Tryz.sizeOf23
  v24 := Tryz.zeroValue23
  t26 := Tryz.underlying3
  a26 := Tryz.isAgg3
  z26 := Tryz.sizeOf3
  v26 := Tryz.zeroValue3
  t28 := Tryz.underlying118
  a28 := Tryz.isAgg118
  z28 := Tryz.sizeOf118
  v28 := Tryz.zeroValue118
  i26 := by kernel_rfl }
end Go.Proofs
namespace Go.Proofs.YtaabmaoldhoinaaGreat
set_option maxRecDepth 100000
set_option linter.unusedVariables false
open Go.RowKit Go.Shelf
theorem i_Keys (mb : Option Nat) (w : World) :
    Calls Tryz.prog 93 #[.map mb] w fun e w' => e = .returned (.func (.func 115) #[] #[.pointer (some ⟨w.heap.size, 0, none⟩)]) ∧ w' = w.alloc (.cells #[.map mb] 76) :=
  (callsIn_wide (n := 5)).1 (AnyZI.keys_in Tryz.keysA Fence.wide 5 trivial rfl mb w)
theorem sk_sorts (m : Nat) : AnyZI.SortsIn Tryz.prog Tryz.sortedA_ren Fence.wide m :=
  ⟨fun blk off cap ss W hH hblk hsz => callsIn_wide.2 (Tryz.slices_Sort_int blk off cap ss W hH hblk hsz), fun p cap W => callsIn_wide.2 (Tryz.slices_Sort_int_none p cap W)⟩
theorem i_SortedKeys {w : World} {g b n : Nat} {D : MD} (hown : w.ownsMap Tryz.prog 3 mR b n D) (hg : g < w.heap.size) (hc : w.cell? ⟨g, 0, none⟩ = some (.map (some b))) (hn : Go.Maps.size D ≤ 1048576) (hwf : ∀ k ∈ intKeys D, (Lit.int .i64 k).wf = true) :
    Calls Tryz.prog 92 #[.func (.func 115) #[] #[.pointer (some ⟨g, 0, none⟩)]] w fun e w' => ∃ (v : Value) (ss : List Int), e = .returned v ∧ ss.Perm (intKeys D) ∧ Own .i64 3 w' w.heap.size v (ss.mergeSort (fun x y => decide (x ≤ y))) ∧ Below w.heap.size w w' := by
  have hseq : SeqGives Fence.wide 2 Tryz.prog 115 #[.pointer (some ⟨g, 0, none⟩)] encZ (fun ss => ss.Perm (intKeys D)) (Go.Maps.size D) w :=
    AnyZI.keys_gives (ρ := Tryz.keysA_ren) { Tryz.keysA with } Fence.wide _ trivial rfl (by omega) g b n _ _ hg hc hown
  have cS := AnyZI.sorted_in Tryz.sortedA Fence.wide 5 trivial trivial trivial trivial rfl (by omega) (sk_sorts _) (enters_of Tryz.func53 (by kernel_rfl) rfl) 115 #[.pointer (some ⟨g, 0, none⟩)] trivial (enters_of Tryz.func115 (by kernel_rfl) rfl) _ (Go.Maps.size D) (by simp only [maxLen]; omega) (by omega) _ hseq
  change CallsIn _ _ Tryz.prog 92 _ _ _ at cS
  refine ((callsIn_wide).1 cS).mono ?_
  rintro e w' ⟨v, ss, rfl, hS, hrow, -, hb⟩
  refine ⟨v, ss, rfl, hS, ?_, hb⟩
  refine Own.of (n := ss.length) hrow (fun x hx => hwf x ?_)
  exact hS.mem_iff.1 (List.mem_mergeSort.1 hx)
end Go.Proofs.YtaabmaoldhoinaaGreat
namespace Go.Proofs.YtaabmaoldhoinaaGreat
set_option maxRecDepth 100000
set_option linter.unusedVariables false
set_option linter.unusedSimpArgs false
open Go.ChangeShapes Go.WideShapes Go.ChangeAt Go.RowKit
theorem i_LG1 (A3 : Option Addr) (n3 c3 g : Nat) (k x0 x1 x2 x : Int) (w : World) (hg : w.cell? ⟨g, 0, none⟩ = some (.int .i64 x)) :
    Calls Tryz.prog 66 #[.int .i64 k, .agg #[.int .i64 x0, .int .i64 x1, .int .i64 x2, .slice A3 n3 c3], .pointer (some ⟨g, 0, none⟩)] w fun e w' => e = .returned (.bool (decide (x2 ≤ x))) ∧ Below w.heap.size w w' := by
  have hg2 : (w.alloc (.cells #[.int .i64 x0, .int .i64 x1, .int .i64 x2, .slice A3 n3 c3] 53)).cell? ⟨g, 0, none⟩ = some (.int .i64 x) := cell_bel (belx) hg
  by_cases h : x2 ≤ x
  · have HR := Lib.hid (show decide (x2 ≤ x) = true from decide_eq_true h)
    go_enter Tryz.func66, Tryz.ntmps66
    go_wp2
    go_ret
    exact ⟨ret_bool (by first | exact HR.out.symm | (simp; exact h)), (belx)⟩
  · have HR := Lib.hid (show decide (x2 ≤ x) = false from decide_eq_false h)
    go_enter Tryz.func66, Tryz.ntmps66
    go_wp2
    go_ret
    exact ⟨ret_bool (by first | exact HR.out.symm | (simp; omega)), (belx)⟩
open Go.Maps in
set_option maxHeartbeats 4000000 in
theorem i_DelF {w : World} {b n g B : Nat} {D : MD} {l : List DWhole} {x : Int} (hown : w.ownsMap Tryz.prog 3 mR b n D) (hW : MapW tWhole (fun a => a.1) w B D l) (hB : B ≤ b) (hg : g < w.heap.size) (hgb : g ≠ b) (hgc : w.cell? ⟨g, 0, none⟩ = some (.int .i64 x)) (hasc : Asc (l.map fun a => a.1)) :
    Calls Tryz.prog 65 #[.map (some b), .func (.func 66) #[] #[.pointer (some ⟨g, 0, none⟩)]] w fun e w' => e = .returned (.tuple #[]) ∧ ∃ D', w'.ownsMap Tryz.prog 3 mR b n D' ∧ MapW tWhole (fun a => a.1) w' B D' (lgf x l) ∧ w.grownBy w' (some b) := by
  have HASC := Lib.hid hasc
  have HS := Lib.hid (lgl_start x hW)
  have hbs := hown.lt
  clear hasc
  go_enter Tryz.func65, Tryz.ntmps65
  go_wp2_with (at_range; refine wpList_range_own _ rfl _ 76 rfl 3 53 ms_keyed Tryz.underlying76 mR b n D rfl hown ?_; intro w0 hrg0 hg0 hs0)
  go_frame
  go_loopw [8] (fun _ wr => ∃ (left : Lit → Bool) (cnt : Nat) (D1 : MD), wr.ranges Tryz.prog 3 mR b w.heap.size n D1 left cnt ∧ MapW tWhole (fun a => a.1) wr B D1 (lgl x left l) ∧ w.grownBy wr (some b))
    (fun _ wr => wr.rangeLeft b w.heap.size)
  case atStart => exact ⟨_, _, _, hrg0, by rw [HS.out]; exact hW.keep (fun i hi => hg0.block i (by omega) (by simp)), hg0.but _⟩
  case round =>
    obtain ⟨left, cnt, D1, hrg, hW1, hgw⟩ := hrel
    go_wp2_with (at_next; refine wpList_next_ranges _ rfl _ rfl 3 ms_keyed mR id id (fun key _ _ => ⟨key, rfl⟩) (fun v _ _ => ⟨v, rfl⟩) b w.heap.size n _ _ _ rfl hrg ?_ ?_)
    · intro _ hl0
      go_wp2
      go_end0
      exact ⟨rfl, _, hrg.owns, by rw [← lgl_end hl0]; exact hW1, hgw⟩
    · intro key c kl yd yp w1 cnt1 hkey hlx hv hat hrg1 hlt hg1 hs1 hen
      obtain ⟨k, rfl, hwk⟩ := key_int Tryz.underlying3 hkey
      obtain ⟨k2, hk2, hk3, -⟩ := keyOf_int_inv Tryz.underlying3 hkey
      have hk2' : key = .int .i64 k2 := hk2
      subst hk2'
      injection hk3 with _ hk3
      subst hk3
      obtain ⟨rfl, rfl⟩ : Go.DataW.held c = yd ∧ ([] : List MemPlace) = yp := by have e := Option.some.inj hv; exact ⟨congrArg Prod.fst e, congrArg Prod.snd e⟩
      obtain ⟨a, es, ha, hid, hc, hR⟩ := hW1.came hat
      subst hid
      have hc' : c = .agg es.toArray := hc
      subst hc'
      have hgw1 := hgw.andThen hg1 (fun j hj => by cases hj; exact Or.inl (Nat.le_refl _))
      have hcg : w1.cell? ⟨g, 0, none⟩ = some (.int .i64 x) := (World.cell?_of_block (a := ⟨g, 0, none⟩) (hgw1.block g hg (by simpa using hgb))).trans hgc
      have hbl := hrg1.owns.lt
      have hrl := hrg1.lt
      have hW2 : MapW tWhole (fun a => a.1) w1 B D1 (lgl x left l) := hW1.keep (fun i hi => hg1.block i (by have := hgw.size; omega) (by simp; have := hgw.size; omega))
      obtain ⟨A3, n3, c3, rfl, -⟩ := openWhole hR
      have HL := Lib.hid (fun a' (h : a' ∈ l) (e : a'.1 = a.1) => asc_one HASC.out h (lgl_mem ha) e)
      (try simp only [id_eq] at hen)
      have hcg2 : (w1.alloc (.cells #[.int .i64 a.1, .int .i64 a.2.1, .int .i64 a.2.2.1, .slice A3 n3 c3] 53)).cell? ⟨g, 0, none⟩ = some (.int .i64 x) := cell_bel (belx) hcg
      clear hat hkey hv hc hlx
      by_cases hp : a.2.2.1 ≤ x
      · have HP := Lib.hid (decide_eq_true hp)
        have HG := Lib.hid (lgl_gone (x := x) (left := left) (l := l) (k := a.1) (fun a' h e => by rw [HL.out a' h e]; omega))
        clear hp
        go_wp2_with fail
        refine (i_LG1 _ _ _ _ _ _ _ _ _ _ hcg2).mono ?_
        rintro e w2 ⟨rfl, hb2⟩
        rw [HP.out]
        have hs2 : Below w1.heap.size w1 w2 := bel_trans (belx) hb2
        have hg2 : w1.grownBy w2 none := below_grownBy hs2
        have hrg2 := hrg1.kept hg2 (by simp) (by simp)
        have hW3 := hW2.keep (w' := w2) (fun i hi => hs2.block i (by have := hgw1.size; omega))
        go_wp2_with (at_delete; refine wpList_delete_ranges _ rfl _ _ 76 3 rfl 53 ms_keyed Tryz.underlying76 mR b w.heap.size n _ _ _ rfl hrg2 _ (mK a.1) rfl (keyOf_int_mk Tryz.underlying3 hwk) ?_; intro w3 cnt3 hrg3 hle hturn; go_frame)
        rw [strike_twice] at hrg3
        go_roundw
        case rel => exact ⟨_, cnt3, _, hrg3, by rw [HG.out]; exact (hW3.keep (fun i hi => hturn.grown.block i (by have := hgw1.size; have := hs2.size; omega) (by simp; omega))).del a.1, (hgw1.andThen hg2 (fun j hj => by cases hj)).andThen hturn.grown (fun j hj => by cases hj; exact Or.inr rfl)⟩
        case measure => rw [hrg3.left_eq, hrg.left_eq]; omega
      · have HP := Lib.hid (decide_eq_false hp)
        have HG := Lib.hid (lgl_stay (x := x) (left := left) (l := l) (k := a.1) (fun a' h e => by rw [HL.out a' h e]; omega))
        clear hp
        go_wp2_with fail
        refine (i_LG1 _ _ _ _ _ _ _ _ _ _ hcg2).mono ?_
        rintro e w2 ⟨rfl, hb2⟩
        rw [HP.out]
        have hs2 : Below w1.heap.size w1 w2 := bel_trans (belx) hb2
        have hg2 : w1.grownBy w2 none := below_grownBy hs2
        have hrg2 := hrg1.kept hg2 (by simp) (by simp)
        have hW3 := hW2.keep (w' := w2) (fun i hi => hs2.block i (by have := hgw1.size; omega))
        go_wp2
        go_roundw
        case rel => exact ⟨_, cnt1, _, hrg2, by rw [HG.out]; exact hW3, hgw1.andThen hg2 (fun j hj => by cases hj)⟩
        case measure => rw [hrg2.left_eq, hrg.left_eq]; exact hlt
theorem put2Dk {w : World} {g : Nat} {v0 v1 : Value} {r0 : List DWhole} {l1 : List Int} {F0 F1 : List Nat} (h0 : tWhole.row.O w [v0] r0 F0) (h1 : tIs.O w [v1] l1 F1) (hg : g ∉ F0 ++ F1) :
    tDesk.O ((w.setCell ⟨g, 0, none⟩ v0).setCell ⟨g, 1, none⟩ v1) [v0, v1] (r0, l1) (F0 ++ F1) := by
  have g0 : g ∉ F0 := fun h => hg (List.mem_append.2 (.inl h))
  have g1 : g ∉ F1 := fun h => hg (List.mem_append.2 (.inr h))
  obtain ⟨F, hF, rfl⟩ := makeODesk (p := (r0, l1)) (Ty.far3 (t := tWhole.row) (Ty.far3 (t := tWhole.row) h0 (p := ⟨g, 0, none⟩) g0 v0) (p := ⟨g, 1, none⟩) g0 v1) (Ty.far3 (t := tIs) (Ty.far3 (t := tIs) h1 (p := ⟨g, 0, none⟩) g1 v0) (p := ⟨g, 1, none⟩) g1 v1)
  exact hF
theorem zwholeL (w : World) : (zeroValue 53).run Tryz.prog w = .ok (.agg #[.int .i64 0, .int .i64 0, .int .i64 0, .slice none 0 0]) w := by rfl
set_option maxHeartbeats 4000000 in
theorem i_deskOf {w : World} {b n n1 c1 B : Nat} {A1 : Option Addr} {D : MD} {l : List DWhole} {l1 : List Int} (hown : w.ownsMap Tryz.prog 3 mR b n D) (hW : MapW tWhole (fun a => a.1) w B D l) (hBw : B ≤ w.heap.size) (hasc : Asc (l.map fun a => a.1)) (h1 : tIs.R w w.heap.size [.slice A1 n1 c1] l1) (hz : rsz szWhole l + l1.length ≤ 1048576) :
    Calls Tryz.prog 49 #[.map (some b), .slice A1 n1 c1] w fun e w' => ∃ A0' c0' A1' c1' F, e = .returned (.agg #[.slice A0' l.length c0', .slice A1' l1.length c1']) ∧ tDesk.O w' [.slice A0' l.length c0', .slice A1' l1.length c1'] (l, l1) F ∧ New w.heap.size F ∧ Below w.heap.size w w' := by
  have hI1 := (slR_ints h1).1
  have hn1 : n1 ≤ 1048576 := by have := hI1.1; omega
  have hnl : l.length ≤ 1048576 := by have := rsz_le (s := szWhole) l; omega
  have HSZ := Lib.hid (show ∀ (i : Nat) (a : DWhole), l[i]? = some a → szWhole a ≤ 1048576 from fun i a ha => by have := rsz_step (s := szWhole) ha; omega)
  have HND := Lib.hid (asc_nodup hasc)
  have HKY := Lib.hid (hW.keys hown Tryz.underlying3 HND.out)
  have hsD : Go.Maps.size D ≤ 1048576 := by rw [hW.size hown Tryz.underlying3 HND.out]; exact hnl
  have HASC := Lib.hid hasc
  obtain ⟨i1, hj0, hj1, hj2, hj3⟩ := info_parts info_Whole
  have hbs := hown.lt
  clear hasc h1 hz
  go_enter Tryz.func49, Tryz.ntmps49
  go_wp2_with fail
  refine (i_copiedI5 (reach hI1 ?hB) hn1).mono ?_
  case hB => exact (belx)
  rintro e w1 ⟨v1, rfl, hO1, hb1⟩
  obtain ⟨B1, d1, F1, rfl, hOd1, hNd1⟩ := own_slice hO1
  clear hO1
  have R1 : Box w1 w.heap.size 33 #[.slice none 0 0, .slice none 0 0] := (Box.new _ _ _).below hb1 (by simp)
  have hB1 : Below w.heap.size w w1 := bel_trans (belx) hb1
  have z1 : w.heap.size + 1 ≤ w1.heap.size := by have := hb1.size; simpa using this
  have hNd : New (w.heap.size + 1) F1 := hNd1.lower (by simp)
  clear hb1 hNd1
  go_wp2_with fail
  refine (i_Keys _ _).mono ?_
  rintro e w2 ⟨rfl, rfl⟩
  have OB : Box (w1.alloc (.cells #[.slice none 0 0, .slice B1 l1.length d1] 33)) w1.heap.size 33 #[.slice none 0 0, .slice B1 l1.length d1] := Box.new _ _ _
  have hB2 : Below w.heap.size w ((w1.alloc (.cells #[.slice none 0 0, .slice B1 l1.length d1] 33)).alloc (.cells #[.map (some b)] 76)) := bel_alloc (bel_alloc hB1 _) _
  have hC2 : Below w1.heap.size w1 ((w1.alloc (.cells #[.slice none 0 0, .slice B1 l1.length d1] 33)).alloc (.cells #[.map (some b)] 76)) := bel_alloc (bel_alloc (Below.refl _ _) _) _
  have hM2 : ((w1.alloc (.cells #[.slice none 0 0, .slice B1 l1.length d1] 33)).alloc (.cells #[.map (some b)] 76)).ownsMap Tryz.prog 3 mR b n D := hown.kept (row := none) (below_grownBy hB2) (by simp)
  have hgc : ((w1.alloc (.cells #[.slice none 0 0, .slice B1 l1.length d1] 33)).alloc (.cells #[.map (some b)] 76)).cell? ⟨w1.heap.size + 1, 0, none⟩ = some (.map (some b)) := (show Box _ (w1.heap.size + 1) 76 #[.map (some b)] from by simpa using Box.new (w1.alloc (.cells #[.slice none 0 0, .slice B1 l1.length d1] 33)) 76 #[.map (some b)]).cell 0
  obtain ⟨w2, hw2⟩ : ∃ w2, ((w1.alloc (.cells #[.slice none 0 0, .slice B1 l1.length d1] 33)).alloc (.cells #[.map (some b)] 76)) = w2 := ⟨_, rfl⟩
  have z2' : w2.heap.size = w1.heap.size + 2 := by rw [← hw2]; simp
  have z2 : w1.heap.size + 2 ≤ w2.heap.size := by omega
  have R2 : Box w2 w.heap.size 33 #[.slice none 0 0, .slice none 0 0] := by rw [← hw2]; exact (R1.alloc _).alloc _
  have O2 : Box w2 w1.heap.size 33 #[.slice none 0 0, .slice B1 l1.length d1] := by rw [← hw2]; exact OB.alloc _
  simp only [World.size_alloc]
  rw [hw2] at hB2 hC2 hM2 hgc ⊢
  clear hw2 OB z2' R1
  go_wp2_with fail
  refine (i_SortedKeys hM2 (by omega) hgc hsD HKY.out.2).mono ?_
  rintro e w3 ⟨v3, ss, rfl, hS, hO3, hb3⟩
  rw [asc_sorted HASC.out (hS.trans HKY.out.1)] at hO3
  obtain ⟨BS, dS, FS, rfl, hOS, hNS⟩ := own_slice hO3
  clear hO3 hS hgc
  have hB3 : Below w.heap.size w w3 := bel_trans hB2 hb3
  have z3 : w2.heap.size ≤ w3.heap.size := hb3.size
  have R3 := R2.below hb3 R2.size
  have O3 := O2.below hb3 O2.size
  have H13 : tIs.O w3 [.slice B1 l1.length d1] l1 F1 := Ty.below (t := tIs) (Ty.below (t := tIs) hOd1 hC2) hb3
  have hM3 := hM2.kept (row := none) (below_grownBy hb3) (by simp)
  have FSl : ∀ f ∈ FS, f < w3.heap.size := fun f hf => tIs.lt hOS f hf
  have F1l : ∀ f ∈ F1, f < w3.heap.size := fun f hf => by have := tIs.lt hOd1 f hf; omega
  have FSo : w1.heap.size ∉ FS := fun h => by have := hNS.2 _ h; omega
  have F1o : w1.heap.size ∉ F1 := fun h => by have := tIs.lt hOd1 _ h; omega
  have hML : (l.map fun a => a.1).length = l.length := List.length_map _
  obtain ⟨mk, hmk⟩ : ∃ m, (l.map fun a : DWhole => a.1) = m := ⟨_, rfl⟩
  have HMK := Lib.hid hmk
  rw [hmk] at hOS hML ⊢
  obtain ⟨nl, hnl2⟩ : ∃ m, mk.length = m := ⟨_, rfl⟩
  rw [hnl2] at hOS hML ⊢
  have HNL := Lib.hid hML
  obtain ⟨ob, hob⟩ : ∃ ob, w1.heap.size = ob := ⟨_, rfl⟩
  have hNdl : ∀ f ∈ F1, f < ob := fun f hf => by have := tIs.lt hOd1 f hf; omega
  rw [hob] at z1 z2 O3 FSo F1o
  have hNSl : ∀ f ∈ FS, w2.heap.size ≤ f := fun f hf => hNS.2 f hf
  have HML2 := Lib.hid hnl2
  rw [hob]
  have hnl3 : nl ≤ 1048576 := by omega
  clear hmk hML hnl2 hob hOd1 hC2 hM2 hb3 R2 O2 hB2 hNS
  go_wp2_with fail
  go_loopw [15] (fun i wr => ∃ (j : Nat) (F : List Nat) (v : Value), j ≤ nl ∧ i = .int .i64 j ∧ GrowO tWhole 53 wr w3.heap.size v (l.take j) F ∧ Box wr w.heap.size 33 #[.slice none 0 0, .slice none 0 0] ∧ Box wr ob 33 #[v, .slice B1 l1.length d1] ∧ tIs.O wr [.slice B1 l1.length d1] l1 F1 ∧ tIs.O wr [.slice BS nl dS] mk FS ∧ wr.ownsMap Tryz.prog 3 mR b n D ∧ Below w.heap.size w wr ∧ w3.heap.size ≤ wr.heap.size) (fun i _ => nl - ixOf i)
  case atStart => exact ⟨0, [], .slice none 0 0, by omega, rfl, GrowO.nil, R3, O3, H13, hOS, hM3, hB3, Nat.le_refl _⟩
  case round =>
    obtain ⟨j, F, v, hj, rfl, hG, R4, O4, H1, HS, HM, hB4, zr⟩ := hrel
    clear R3 O3 H13 hOS hM3 hB3
    by_cases hlt : j < nl
    · have hjl : j < l.length := by have := HNL.out; omega
      obtain ⟨a0, hl2⟩ : ∃ a, l[j]? = some a := ⟨_, List.getElem?_eq_getElem hjl⟩
      have HT := Lib.hid (take_snoc hl2)
      have hwid : (mk.getD j 0) = a0.1 := by rw [← HMK.out]; exact map_at hl2
      have hIk := (slR_ints (tIs.read HS)).1
      obtain ⟨ba, off, rfl, hba, hcell, hwf⟩ := hIk.at_ hlt
      rw [hwid] at hcell
      have hkw : (Lit.int .i64 a0.1).wf = true := by rw [← hwid]; exact hwf
      have hsa := HSZ.out j a0 hl2
      have hWr : MapW tWhole (fun a => a.1) wr B D l := hW.keep (fun i hi => hB4.block i (by omega))
      have HLN := Lib.hid (show (l.take j).length ≤ 1048576 from by rw [List.length_take]; omega)
      obtain ⟨vv, hrun, hv⟩ := MapW.look (w := wr.drew) (hWr.keep (fun _ _ => rfl)) HM Tryz.underlying3 Tryz.underlying76 (zwholeL _) hkw
      rcases hv with ⟨a, es, ha', hid', rfl, hRa⟩ | ⟨hno, -⟩
      rotate_left
      · exact absurd rfl (hno a0 (List.mem_of_getElem? hl2))
      obtain rfl : a = a0 := asc_one HASC.out ha' (List.mem_of_getElem? hl2) hid'
      have zB : B ≤ wr.drew.heap.size := by show B ≤ wr.heap.size; omega
      have o4c := O4.cell 0
      have hOwn := fun b hb => (GrowO.row hG).choose_spec.1.lt b hb
      have hlt2 := hG.lt
      have q1 : (j : Int) < (nl : Int) := by omega
      have q0 : (0 : Int) ≤ (j : Int) := by omega
      clear hl2 ha' hid' hwid hIk hWr hwf hjl
      go_wp2_with fail
      refine wp_region_held_drew (S := (fun _ => True)) (by kernel_rfl) (by trivial) (fun hHeld => ?_)
      refine wpAnyH_take (i := 0) (oi := ⟨some 19, _, _, _, _, _⟩) (v := ?v1) rfl (by kernel_rfl) (by kernel_rfl) (by kernel_rfl) (fun _ _ _ h => h) (Or.inl ⟨by rfl, ?hy1⟩) (by assumption) ?_
      case hy1 => (intro w hSw; (try dsimp only at hSw); go_simp; try (with_reducible rfl))
      (try simp only [Act.put, qa_, qb_, qc_])
      refine wpAnyH_take (i := 2) (oi := ⟨some 21, _, _, _, _, _⟩) (v := ?v2) rfl (by kernel_rfl) (by kernel_rfl) (by kernel_rfl) (fun _ _ _ h => h) (Or.inl ⟨by rfl, ?hy2⟩) (by assumption) ?_
      case hy2 => (intro w hSw; (try dsimp only at hSw); go_simp; try (with_reducible rfl))
      (try simp only [Act.put, qa_, qb_, qc_])
      refine wpAnyH_take (i := 3) (oi := ⟨some 22, _, _, _, _, _⟩) (v := ?v3) rfl (by kernel_rfl) (by kernel_rfl) (by kernel_rfl) (fun _ _ _ h => h) (Or.inl ⟨by rfl, ?hy3⟩) (by assumption) ?_
      case hy3 => (intro w hSw; (try dsimp only at hSw); go_simp; try (with_reducible rfl))
      (try simp only [Act.put, qa_, qb_, qc_])
      refine wpAnyH_ready (rs := [1, 4]) (by kernel_rfl) (by simp) ?_
      refine AllReadyH.cons rfl (fun K hK => ?_) ?_
      · go_simp
        refine hK.out _ _ (by trivial) (fun hHeld => ?_)
        clear hK K
        (try simp only [Act.put, qa_, qb_, qc_])
        refine wpAnyH_ready (rs := [4]) (by kernel_rfl) (by simp) ?_
        refine AllReadyH.cons rfl (fun K hK => ?_) ?_
        · go_simp
          refine hK.out _ _ (by trivial) (fun hHeld => ?_)
          clear hK K
          (try simp only [Act.put, qa_, qb_, qc_])
          refine wpAnyH_ready (rs := [5]) (by kernel_rfl) (by simp) ?_
          refine AllReadyH.cons rfl (fun K hK => ?_) ?_
          · go_simp
            go_at_call 94
            refine (i_WholeCopy (tWhole.up (tWhole.keep hRa (fun _ _ => rfl)) (by first | exact zB | exact hB.size)) hsa).mono ?_
            rintro e w5 ⟨cs1, Fd, rfl, hOd, hNd0, hb5⟩
            have hs1 : Below wr.heap.size wr w5 := bel_trans (show Below wr.heap.size wr wr.drew from (belx)) hb5
            have hNd : New wr.heap.size Fd := hNd0.lower (by simp)
            have hOk := hOd
            obtain ⟨oA3, oc3, oF3, rfl, -, -, -, -, -, -, -⟩ := openOWhole hOd
            clear hOd hNd0
            have R5 := Box.below R4 hs1 R4.size
            have O5 := Box.below O4 hs1 O4.size
            have o5c := O5.cell 0
            have OA := O5.alloc (.cells ([.int .i64 a.1, .int .i64 a.2.1, .int .i64 a.2.2.1, .slice oA3 a.2.2.2.length oc3].toArray) 53)
            have oAc := OA.cell 0
            have zw1 := hs1.size
            go_wp2_with fail
            refine hK.out _ _ (by trivial) (fun hHeld => ?_)
            clear hK K
            (try simp only [Act.put, qa_, qb_, qc_])
            refine wpAnyH_ready (rs := [6]) (by kernel_rfl) (by simp) ?_
            refine AllReadyH.cons rfl (fun K hK => ?_) ?_
            · go_simp
              refine hK.out _ _ (by trivial) (fun hHeld => ?_)
              clear hK K
              (try simp only [Act.put, qa_, qb_, qc_])
              refine wpAnyH_ready (rs := [7]) (by kernel_rfl) (by simp) ?_
              refine AllReadyH.cons rfl (fun K hK => ?_) ?_
              · have hBx : Below wr.heap.size wr (w5.alloc (.cells ([.int .i64 a.1, .int .i64 a.2.1, .int .i64 a.2.2.1, .slice oA3 a.2.2.2.length oc3].toArray) 53)) := bel_alloc hs1 _
                obtain ⟨xs, hrow, hpush⟩ := (hG.below hBx).row
                have hS2 : Src (w5.alloc (.cells ([.int .i64 a.1, .int .i64 a.2.1, .int .i64 a.2.2.1, .slice oA3 a.2.2.2.length oc3].toArray) 53)) 4 (some ⟨w5.heap.size, 0, none⟩) 1 [.int .i64 a.1, .int .i64 a.2.1, .int .i64 a.2.2.1, .slice oA3 a.2.2.2.length oc3] := Src.of_box w5 53 [.int .i64 a.1, .int .i64 a.2.1, .int .i64 a.2.2.1, .slice oA3 a.2.2.2.length oc3] (K := 4) rfl
                have tz : (Value.agg #[Value.int .i64 0, Value.int .i64 0, Value.int .i64 0, Value.slice none 0 0]).cells.size = 4 := (by first | rfl | (simp [Value.cells]; done))
                have t0 : ∀ u ∈ ([.int .i64 a.1, .int .i64 a.2.1, .int .i64 a.2.2.1, .slice oA3 a.2.2.2.length oc3] : List Value), u.oneCell' = true := (by intro u hu; simp only [List.mem_cons, List.not_mem_nil, or_false] at hu; rcases hu with rfl | rfl | rfl | rfl <;> rfl)
                have t1 : (l.take j).length + 1 ≤ maxLen := (by simp only [maxLen]; have := HLN.out; omega)
                have t2 : ((l.take j).length + 1) * 48 ≤ 140737488355328 := (by have := HLN.out; omega)
                have t3 := hBx.size
                refine step_app5 _ (by rfl) (.tmp 20) (.tmp 25) _ (by rfl) w3.heap.size 53 i1 _ 4 48 Tryz.underlying31 hj0 hj1 hj2 hj3 tz (by omega) v _ xs (by rfl) hrow _ 1 1 [.int .i64 a.1, .int .i64 a.2.1, .int .i64 a.2.2.1, .slice oA3 a.2.2.2.length oc3] (by rfl) hS2 t0 t1 t2 (by omega) ?_
                intro v2 w2 hown2 hgr2 hat2
                have hOel : tWhole.O (w5.alloc (.cells ([.int .i64 a.1, .int .i64 a.2.1, .int .i64 a.2.2.1, .slice oA3 a.2.2.2.length oc3].toArray) 53)) [.int .i64 a.1, .int .i64 a.2.1, .int .i64 a.2.2.1, .slice oA3 a.2.2.2.length oc3] a Fd := Ty.below (t := tWhole) hOk (belx)
                have hNel : New w3.heap.size Fd := hNd.lower (by omega)
                have hdis : ∀ f ∈ Fd, f ∉ F := (fun f h1 h2 => by have := hNd.2 _ h1; have := hlt2 f h2; omega)
                have hod : ∀ b, v.ownBlock = some b → b ∉ Fd := (fun b hb hx => by have := (hOwn b hb).2; have := hNd.2 _ hx; omega)
                have hfin := hpush w2 v2 a _ Fd hOel hNel hdis hod hown2 hgr2 hat2
                obtain ⟨A9, n9, c9, rfl, -⟩ := hfin.shapeN
                have R2 := Box.grown (w := (w5.alloc (.cells ([.int .i64 a.1, .int .i64 a.2.1, .int .i64 a.2.2.1, .slice oA3 a.2.2.2.length oc3].toArray) 53))) (R5.alloc _) hgr2 (fun e => by have := (hOwn w.heap.size e.symm).1; omega)
                have O2 := Box.grown (w := (w5.alloc (.cells ([.int .i64 a.1, .int .i64 a.2.1, .int .i64 a.2.2.1, .slice oA3 a.2.2.2.length oc3].toArray) 53))) (O5.alloc _) hgr2 (fun e => by have := (hOwn ob e.symm).1; omega)
                have hBf : Below w.heap.size w w2 := Below.grown (w := (w5.alloc (.cells ([.int .i64 a.1, .int .i64 a.2.1, .int .i64 a.2.2.1, .slice oA3 a.2.2.2.length oc3].toArray) 53))) (bel_trans hB4 hBx) hgr2 (by have := hBx.size; omega) (fun b hb => by have := (hOwn b hb).1; omega)
                have z2 := hgr2.size
                have o2c := O2.cell 0
                have o2f := O2.frozen 0
                have GF := hfin.put (p := ⟨ob, 0, none⟩) (by show ob < w3.heap.size; omega) (.slice A9 n9 c9)
                have RF := R2.far (p := ⟨ob, 0, none⟩) (by show ¬ w.heap.size = ob; omega) (.slice A9 n9 c9)
                have OF : Box (w2.setCell ⟨ob, 0, none⟩ (.slice A9 n9 c9)) ob 33 #[.slice A9 n9 c9, .slice B1 l1.length d1] := O2.put 0 (.slice A9 n9 c9)
                have H1F := Ty.far3 (own_past (w := (w5.alloc (.cells ([.int .i64 a.1, .int .i64 a.2.1, .int .i64 a.2.2.1, .slice oA3 a.2.2.2.length oc3].toArray) 53))) (Ty.below (t := tIs) H1 hBx) hgr2 (fun b hb hx => by have h1 := (hOwn b hb).1; have h2 := F1l b hx; omega)) (p := ⟨ob, 0, none⟩) F1o (.slice A9 n9 c9)
                have HSF := Ty.far3 (own_past (w := (w5.alloc (.cells ([.int .i64 a.1, .int .i64 a.2.1, .int .i64 a.2.2.1, .slice oA3 a.2.2.2.length oc3].toArray) 53))) (Ty.below (t := tIs) HS hBx) hgr2 (fun b hb hx => by have h1 := (hOwn b hb).1; have h2 := FSl b hx; omega)) (p := ⟨ob, 0, none⟩) FSo (.slice A9 n9 c9)
                have HMF := (World.ownsMap.kept (w := (w5.alloc (.cells ([.int .i64 a.1, .int .i64 a.2.1, .int .i64 a.2.2.1, .slice oA3 a.2.2.2.length oc3].toArray) 53))) (row := (v.ownBlock)) (World.ownsMap.kept (w := wr) (row := none) HM (below_grownBy hBx) (by simp)) hgr2 (fun e => by have h1 := (hOwn b e.symm).1; omega)).setCell (a := ⟨ob, 0, none⟩) (by show b ≠ ob; omega) (.slice A9 n9 c9)
                have BF : Below w.heap.size w (w2.setCell ⟨ob, 0, none⟩ (.slice A9 n9 c9)) := bel_put hBf (by show w.heap.size ≤ ob; omega) _
                refine hK.out _ _ (by trivial) (fun hHeld => ?_)
                clear hK K
                (try simp only [Act.put, qa_, qb_, qc_])
                refine wpAnyH_take (i := 8) (oi := ⟨some 27, _, _, _, _, _⟩) (v := ?v4) rfl (by kernel_rfl) (by kernel_rfl) (by kernel_rfl) (fun _ _ _ h => h) (Or.inl ⟨by rfl, ?hy4⟩) (by assumption) ?_
                case hy4 => (intro w hSw; (try dsimp only at hSw); go_simp; try (with_reducible rfl))
                (try simp only [Act.put, qa_, qb_, qc_])
                refine wpAnyH_ready (rs := [9]) (by kernel_rfl) (by simp) ?_
                refine AllReadyH.cons rfl (fun K hK => ?_) ?_
                · go_simp
                  refine hK.out _ _ (by trivial) (fun hHeld => ?_)
                  clear hK K
                  (try simp only [Act.put, qa_, qb_, qc_])
                  refine wpAnyH_done (by kernel_rfl) ?_ _
                  go_wp2
                  go_roundw
                  case rel => exact ⟨j + 1, _, _, by omega, by go_num, by rw [HT.out]; exact GF, RF, OF, H1F, HSF, HMF, BF, by have h := z2; simp [World.setCell] at h ⊢; omega⟩
                  case measure => simp [ixOf]; omega
                exact AllReadyH.nil
              exact AllReadyH.nil
            exact AllReadyH.nil
          exact AllReadyH.nil
        exact AllReadyH.nil
      refine AllReadyH.cons rfl (fun K hK => ?_) ?_
      · go_simp
        refine hK.out _ _ (by trivial) (fun hHeld => ?_)
        clear hK K
        (try simp only [Act.put, qa_, qb_, qc_])
        refine wpAnyH_ready (rs := [1, 5]) (by kernel_rfl) (by simp) ?_
        refine AllReadyH.cons rfl (fun K hK => ?_) ?_
        · go_simp
          refine hK.out _ _ (by trivial) (fun hHeld => ?_)
          clear hK K
          (try simp only [Act.put, qa_, qb_, qc_])
          refine wpAnyH_ready (rs := [5]) (by kernel_rfl) (by simp) ?_
          refine AllReadyH.cons rfl (fun K hK => ?_) ?_
          · go_simp
            go_at_call 94
            refine (i_WholeCopy (tWhole.up (tWhole.keep hRa (fun _ _ => rfl)) (by first | exact zB | exact hB.size)) hsa).mono ?_
            rintro e w5 ⟨cs1, Fd, rfl, hOd, hNd0, hb5⟩
            have hs1 : Below wr.heap.size wr w5 := bel_trans (show Below wr.heap.size wr wr.drew from (belx)) hb5
            have hNd : New wr.heap.size Fd := hNd0.lower (by simp)
            have hOk := hOd
            obtain ⟨oA3, oc3, oF3, rfl, -, -, -, -, -, -, -⟩ := openOWhole hOd
            clear hOd hNd0
            have R5 := Box.below R4 hs1 R4.size
            have O5 := Box.below O4 hs1 O4.size
            have o5c := O5.cell 0
            have OA := O5.alloc (.cells ([.int .i64 a.1, .int .i64 a.2.1, .int .i64 a.2.2.1, .slice oA3 a.2.2.2.length oc3].toArray) 53)
            have oAc := OA.cell 0
            have zw1 := hs1.size
            go_wp2_with fail
            refine hK.out _ _ (by trivial) (fun hHeld => ?_)
            clear hK K
            (try simp only [Act.put, qa_, qb_, qc_])
            refine wpAnyH_ready (rs := [6]) (by kernel_rfl) (by simp) ?_
            refine AllReadyH.cons rfl (fun K hK => ?_) ?_
            · go_simp
              refine hK.out _ _ (by trivial) (fun hHeld => ?_)
              clear hK K
              (try simp only [Act.put, qa_, qb_, qc_])
              refine wpAnyH_ready (rs := [7]) (by kernel_rfl) (by simp) ?_
              refine AllReadyH.cons rfl (fun K hK => ?_) ?_
              · have hBx : Below wr.heap.size wr (w5.alloc (.cells ([.int .i64 a.1, .int .i64 a.2.1, .int .i64 a.2.2.1, .slice oA3 a.2.2.2.length oc3].toArray) 53)) := bel_alloc hs1 _
                obtain ⟨xs, hrow, hpush⟩ := (hG.below hBx).row
                have hS2 : Src (w5.alloc (.cells ([.int .i64 a.1, .int .i64 a.2.1, .int .i64 a.2.2.1, .slice oA3 a.2.2.2.length oc3].toArray) 53)) 4 (some ⟨w5.heap.size, 0, none⟩) 1 [.int .i64 a.1, .int .i64 a.2.1, .int .i64 a.2.2.1, .slice oA3 a.2.2.2.length oc3] := Src.of_box w5 53 [.int .i64 a.1, .int .i64 a.2.1, .int .i64 a.2.2.1, .slice oA3 a.2.2.2.length oc3] (K := 4) rfl
                have tz : (Value.agg #[Value.int .i64 0, Value.int .i64 0, Value.int .i64 0, Value.slice none 0 0]).cells.size = 4 := (by first | rfl | (simp [Value.cells]; done))
                have t0 : ∀ u ∈ ([.int .i64 a.1, .int .i64 a.2.1, .int .i64 a.2.2.1, .slice oA3 a.2.2.2.length oc3] : List Value), u.oneCell' = true := (by intro u hu; simp only [List.mem_cons, List.not_mem_nil, or_false] at hu; rcases hu with rfl | rfl | rfl | rfl <;> rfl)
                have t1 : (l.take j).length + 1 ≤ maxLen := (by simp only [maxLen]; have := HLN.out; omega)
                have t2 : ((l.take j).length + 1) * 48 ≤ 140737488355328 := (by have := HLN.out; omega)
                have t3 := hBx.size
                refine step_app5 _ (by rfl) (.tmp 20) (.tmp 25) _ (by rfl) w3.heap.size 53 i1 _ 4 48 Tryz.underlying31 hj0 hj1 hj2 hj3 tz (by omega) v _ xs (by rfl) hrow _ 1 1 [.int .i64 a.1, .int .i64 a.2.1, .int .i64 a.2.2.1, .slice oA3 a.2.2.2.length oc3] (by rfl) hS2 t0 t1 t2 (by omega) ?_
                intro v2 w2 hown2 hgr2 hat2
                have hOel : tWhole.O (w5.alloc (.cells ([.int .i64 a.1, .int .i64 a.2.1, .int .i64 a.2.2.1, .slice oA3 a.2.2.2.length oc3].toArray) 53)) [.int .i64 a.1, .int .i64 a.2.1, .int .i64 a.2.2.1, .slice oA3 a.2.2.2.length oc3] a Fd := Ty.below (t := tWhole) hOk (belx)
                have hNel : New w3.heap.size Fd := hNd.lower (by omega)
                have hdis : ∀ f ∈ Fd, f ∉ F := (fun f h1 h2 => by have := hNd.2 _ h1; have := hlt2 f h2; omega)
                have hod : ∀ b, v.ownBlock = some b → b ∉ Fd := (fun b hb hx => by have := (hOwn b hb).2; have := hNd.2 _ hx; omega)
                have hfin := hpush w2 v2 a _ Fd hOel hNel hdis hod hown2 hgr2 hat2
                obtain ⟨A9, n9, c9, rfl, -⟩ := hfin.shapeN
                have R2 := Box.grown (w := (w5.alloc (.cells ([.int .i64 a.1, .int .i64 a.2.1, .int .i64 a.2.2.1, .slice oA3 a.2.2.2.length oc3].toArray) 53))) (R5.alloc _) hgr2 (fun e => by have := (hOwn w.heap.size e.symm).1; omega)
                have O2 := Box.grown (w := (w5.alloc (.cells ([.int .i64 a.1, .int .i64 a.2.1, .int .i64 a.2.2.1, .slice oA3 a.2.2.2.length oc3].toArray) 53))) (O5.alloc _) hgr2 (fun e => by have := (hOwn ob e.symm).1; omega)
                have hBf : Below w.heap.size w w2 := Below.grown (w := (w5.alloc (.cells ([.int .i64 a.1, .int .i64 a.2.1, .int .i64 a.2.2.1, .slice oA3 a.2.2.2.length oc3].toArray) 53))) (bel_trans hB4 hBx) hgr2 (by have := hBx.size; omega) (fun b hb => by have := (hOwn b hb).1; omega)
                have z2 := hgr2.size
                have o2c := O2.cell 0
                have o2f := O2.frozen 0
                have GF := hfin.put (p := ⟨ob, 0, none⟩) (by show ob < w3.heap.size; omega) (.slice A9 n9 c9)
                have RF := R2.far (p := ⟨ob, 0, none⟩) (by show ¬ w.heap.size = ob; omega) (.slice A9 n9 c9)
                have OF : Box (w2.setCell ⟨ob, 0, none⟩ (.slice A9 n9 c9)) ob 33 #[.slice A9 n9 c9, .slice B1 l1.length d1] := O2.put 0 (.slice A9 n9 c9)
                have H1F := Ty.far3 (own_past (w := (w5.alloc (.cells ([.int .i64 a.1, .int .i64 a.2.1, .int .i64 a.2.2.1, .slice oA3 a.2.2.2.length oc3].toArray) 53))) (Ty.below (t := tIs) H1 hBx) hgr2 (fun b hb hx => by have h1 := (hOwn b hb).1; have h2 := F1l b hx; omega)) (p := ⟨ob, 0, none⟩) F1o (.slice A9 n9 c9)
                have HSF := Ty.far3 (own_past (w := (w5.alloc (.cells ([.int .i64 a.1, .int .i64 a.2.1, .int .i64 a.2.2.1, .slice oA3 a.2.2.2.length oc3].toArray) 53))) (Ty.below (t := tIs) HS hBx) hgr2 (fun b hb hx => by have h1 := (hOwn b hb).1; have h2 := FSl b hx; omega)) (p := ⟨ob, 0, none⟩) FSo (.slice A9 n9 c9)
                have HMF := (World.ownsMap.kept (w := (w5.alloc (.cells ([.int .i64 a.1, .int .i64 a.2.1, .int .i64 a.2.2.1, .slice oA3 a.2.2.2.length oc3].toArray) 53))) (row := (v.ownBlock)) (World.ownsMap.kept (w := wr) (row := none) HM (below_grownBy hBx) (by simp)) hgr2 (fun e => by have h1 := (hOwn b e.symm).1; omega)).setCell (a := ⟨ob, 0, none⟩) (by show b ≠ ob; omega) (.slice A9 n9 c9)
                have BF : Below w.heap.size w (w2.setCell ⟨ob, 0, none⟩ (.slice A9 n9 c9)) := bel_put hBf (by show w.heap.size ≤ ob; omega) _
                refine hK.out _ _ (by trivial) (fun hHeld => ?_)
                clear hK K
                (try simp only [Act.put, qa_, qb_, qc_])
                refine wpAnyH_take (i := 8) (oi := ⟨some 27, _, _, _, _, _⟩) (v := ?v5) rfl (by kernel_rfl) (by kernel_rfl) (by kernel_rfl) (fun _ _ _ h => h) (Or.inl ⟨by rfl, ?hy5⟩) (by assumption) ?_
                case hy5 => (intro w hSw; (try dsimp only at hSw); go_simp; try (with_reducible rfl))
                (try simp only [Act.put, qa_, qb_, qc_])
                refine wpAnyH_ready (rs := [9]) (by kernel_rfl) (by simp) ?_
                refine AllReadyH.cons rfl (fun K hK => ?_) ?_
                · go_simp
                  refine hK.out _ _ (by trivial) (fun hHeld => ?_)
                  clear hK K
                  (try simp only [Act.put, qa_, qb_, qc_])
                  refine wpAnyH_done (by kernel_rfl) ?_ _
                  go_wp2
                  go_roundw
                  case rel => exact ⟨j + 1, _, _, by omega, by go_num, by rw [HT.out]; exact GF, RF, OF, H1F, HSF, HMF, BF, by have h := z2; simp [World.setCell] at h ⊢; omega⟩
                  case measure => simp [ixOf]; omega
                exact AllReadyH.nil
              exact AllReadyH.nil
            exact AllReadyH.nil
          exact AllReadyH.nil
        refine AllReadyH.cons rfl (fun K hK => ?_) ?_
        · go_simp
          go_at_call 94
          refine (i_WholeCopy (tWhole.up (tWhole.keep hRa (fun _ _ => rfl)) (by first | exact zB | exact hB.size)) hsa).mono ?_
          rintro e w5 ⟨cs1, Fd, rfl, hOd, hNd0, hb5⟩
          have hs1 : Below wr.heap.size wr w5 := bel_trans (show Below wr.heap.size wr wr.drew from (belx)) hb5
          have hNd : New wr.heap.size Fd := hNd0.lower (by simp)
          have hOk := hOd
          obtain ⟨oA3, oc3, oF3, rfl, -, -, -, -, -, -, -⟩ := openOWhole hOd
          clear hOd hNd0
          have R5 := Box.below R4 hs1 R4.size
          have O5 := Box.below O4 hs1 O4.size
          have o5c := O5.cell 0
          have OA := O5.alloc (.cells ([.int .i64 a.1, .int .i64 a.2.1, .int .i64 a.2.2.1, .slice oA3 a.2.2.2.length oc3].toArray) 53)
          have oAc := OA.cell 0
          have zw1 := hs1.size
          go_wp2_with fail
          refine hK.out _ _ (by trivial) (fun hHeld => ?_)
          clear hK K
          (try simp only [Act.put, qa_, qb_, qc_])
          refine wpAnyH_ready (rs := [1, 6]) (by kernel_rfl) (by simp) ?_
          refine AllReadyH.cons rfl (fun K hK => ?_) ?_
          · go_simp
            refine hK.out _ _ (by trivial) (fun hHeld => ?_)
            clear hK K
            (try simp only [Act.put, qa_, qb_, qc_])
            refine wpAnyH_ready (rs := [6]) (by kernel_rfl) (by simp) ?_
            refine AllReadyH.cons rfl (fun K hK => ?_) ?_
            · go_simp
              refine hK.out _ _ (by trivial) (fun hHeld => ?_)
              clear hK K
              (try simp only [Act.put, qa_, qb_, qc_])
              refine wpAnyH_ready (rs := [7]) (by kernel_rfl) (by simp) ?_
              refine AllReadyH.cons rfl (fun K hK => ?_) ?_
              · have hBx : Below wr.heap.size wr (w5.alloc (.cells ([.int .i64 a.1, .int .i64 a.2.1, .int .i64 a.2.2.1, .slice oA3 a.2.2.2.length oc3].toArray) 53)) := bel_alloc hs1 _
                obtain ⟨xs, hrow, hpush⟩ := (hG.below hBx).row
                have hS2 : Src (w5.alloc (.cells ([.int .i64 a.1, .int .i64 a.2.1, .int .i64 a.2.2.1, .slice oA3 a.2.2.2.length oc3].toArray) 53)) 4 (some ⟨w5.heap.size, 0, none⟩) 1 [.int .i64 a.1, .int .i64 a.2.1, .int .i64 a.2.2.1, .slice oA3 a.2.2.2.length oc3] := Src.of_box w5 53 [.int .i64 a.1, .int .i64 a.2.1, .int .i64 a.2.2.1, .slice oA3 a.2.2.2.length oc3] (K := 4) rfl
                have tz : (Value.agg #[Value.int .i64 0, Value.int .i64 0, Value.int .i64 0, Value.slice none 0 0]).cells.size = 4 := (by first | rfl | (simp [Value.cells]; done))
                have t0 : ∀ u ∈ ([.int .i64 a.1, .int .i64 a.2.1, .int .i64 a.2.2.1, .slice oA3 a.2.2.2.length oc3] : List Value), u.oneCell' = true := (by intro u hu; simp only [List.mem_cons, List.not_mem_nil, or_false] at hu; rcases hu with rfl | rfl | rfl | rfl <;> rfl)
                have t1 : (l.take j).length + 1 ≤ maxLen := (by simp only [maxLen]; have := HLN.out; omega)
                have t2 : ((l.take j).length + 1) * 48 ≤ 140737488355328 := (by have := HLN.out; omega)
                have t3 := hBx.size
                refine step_app5 _ (by rfl) (.tmp 20) (.tmp 25) _ (by rfl) w3.heap.size 53 i1 _ 4 48 Tryz.underlying31 hj0 hj1 hj2 hj3 tz (by omega) v _ xs (by rfl) hrow _ 1 1 [.int .i64 a.1, .int .i64 a.2.1, .int .i64 a.2.2.1, .slice oA3 a.2.2.2.length oc3] (by rfl) hS2 t0 t1 t2 (by omega) ?_
                intro v2 w2 hown2 hgr2 hat2
                have hOel : tWhole.O (w5.alloc (.cells ([.int .i64 a.1, .int .i64 a.2.1, .int .i64 a.2.2.1, .slice oA3 a.2.2.2.length oc3].toArray) 53)) [.int .i64 a.1, .int .i64 a.2.1, .int .i64 a.2.2.1, .slice oA3 a.2.2.2.length oc3] a Fd := Ty.below (t := tWhole) hOk (belx)
                have hNel : New w3.heap.size Fd := hNd.lower (by omega)
                have hdis : ∀ f ∈ Fd, f ∉ F := (fun f h1 h2 => by have := hNd.2 _ h1; have := hlt2 f h2; omega)
                have hod : ∀ b, v.ownBlock = some b → b ∉ Fd := (fun b hb hx => by have := (hOwn b hb).2; have := hNd.2 _ hx; omega)
                have hfin := hpush w2 v2 a _ Fd hOel hNel hdis hod hown2 hgr2 hat2
                obtain ⟨A9, n9, c9, rfl, -⟩ := hfin.shapeN
                have R2 := Box.grown (w := (w5.alloc (.cells ([.int .i64 a.1, .int .i64 a.2.1, .int .i64 a.2.2.1, .slice oA3 a.2.2.2.length oc3].toArray) 53))) (R5.alloc _) hgr2 (fun e => by have := (hOwn w.heap.size e.symm).1; omega)
                have O2 := Box.grown (w := (w5.alloc (.cells ([.int .i64 a.1, .int .i64 a.2.1, .int .i64 a.2.2.1, .slice oA3 a.2.2.2.length oc3].toArray) 53))) (O5.alloc _) hgr2 (fun e => by have := (hOwn ob e.symm).1; omega)
                have hBf : Below w.heap.size w w2 := Below.grown (w := (w5.alloc (.cells ([.int .i64 a.1, .int .i64 a.2.1, .int .i64 a.2.2.1, .slice oA3 a.2.2.2.length oc3].toArray) 53))) (bel_trans hB4 hBx) hgr2 (by have := hBx.size; omega) (fun b hb => by have := (hOwn b hb).1; omega)
                have z2 := hgr2.size
                have o2c := O2.cell 0
                have o2f := O2.frozen 0
                have GF := hfin.put (p := ⟨ob, 0, none⟩) (by show ob < w3.heap.size; omega) (.slice A9 n9 c9)
                have RF := R2.far (p := ⟨ob, 0, none⟩) (by show ¬ w.heap.size = ob; omega) (.slice A9 n9 c9)
                have OF : Box (w2.setCell ⟨ob, 0, none⟩ (.slice A9 n9 c9)) ob 33 #[.slice A9 n9 c9, .slice B1 l1.length d1] := O2.put 0 (.slice A9 n9 c9)
                have H1F := Ty.far3 (own_past (w := (w5.alloc (.cells ([.int .i64 a.1, .int .i64 a.2.1, .int .i64 a.2.2.1, .slice oA3 a.2.2.2.length oc3].toArray) 53))) (Ty.below (t := tIs) H1 hBx) hgr2 (fun b hb hx => by have h1 := (hOwn b hb).1; have h2 := F1l b hx; omega)) (p := ⟨ob, 0, none⟩) F1o (.slice A9 n9 c9)
                have HSF := Ty.far3 (own_past (w := (w5.alloc (.cells ([.int .i64 a.1, .int .i64 a.2.1, .int .i64 a.2.2.1, .slice oA3 a.2.2.2.length oc3].toArray) 53))) (Ty.below (t := tIs) HS hBx) hgr2 (fun b hb hx => by have h1 := (hOwn b hb).1; have h2 := FSl b hx; omega)) (p := ⟨ob, 0, none⟩) FSo (.slice A9 n9 c9)
                have HMF := (World.ownsMap.kept (w := (w5.alloc (.cells ([.int .i64 a.1, .int .i64 a.2.1, .int .i64 a.2.2.1, .slice oA3 a.2.2.2.length oc3].toArray) 53))) (row := (v.ownBlock)) (World.ownsMap.kept (w := wr) (row := none) HM (below_grownBy hBx) (by simp)) hgr2 (fun e => by have h1 := (hOwn b e.symm).1; omega)).setCell (a := ⟨ob, 0, none⟩) (by show b ≠ ob; omega) (.slice A9 n9 c9)
                have BF : Below w.heap.size w (w2.setCell ⟨ob, 0, none⟩ (.slice A9 n9 c9)) := bel_put hBf (by show w.heap.size ≤ ob; omega) _
                refine hK.out _ _ (by trivial) (fun hHeld => ?_)
                clear hK K
                (try simp only [Act.put, qa_, qb_, qc_])
                refine wpAnyH_take (i := 8) (oi := ⟨some 27, _, _, _, _, _⟩) (v := ?v6) rfl (by kernel_rfl) (by kernel_rfl) (by kernel_rfl) (fun _ _ _ h => h) (Or.inl ⟨by rfl, ?hy6⟩) (by assumption) ?_
                case hy6 => (intro w hSw; (try dsimp only at hSw); go_simp; try (with_reducible rfl))
                (try simp only [Act.put, qa_, qb_, qc_])
                refine wpAnyH_ready (rs := [9]) (by kernel_rfl) (by simp) ?_
                refine AllReadyH.cons rfl (fun K hK => ?_) ?_
                · go_simp
                  refine hK.out _ _ (by trivial) (fun hHeld => ?_)
                  clear hK K
                  (try simp only [Act.put, qa_, qb_, qc_])
                  refine wpAnyH_done (by kernel_rfl) ?_ _
                  go_wp2
                  go_roundw
                  case rel => exact ⟨j + 1, _, _, by omega, by go_num, by rw [HT.out]; exact GF, RF, OF, H1F, HSF, HMF, BF, by have h := z2; simp [World.setCell] at h ⊢; omega⟩
                  case measure => simp [ixOf]; omega
                exact AllReadyH.nil
              exact AllReadyH.nil
            exact AllReadyH.nil
          refine AllReadyH.cons rfl (fun K hK => ?_) ?_
          · go_simp
            refine hK.out _ _ (by trivial) (fun hHeld => ?_)
            clear hK K
            (try simp only [Act.put, qa_, qb_, qc_])
            refine wpAnyH_ready (rs := [1]) (by kernel_rfl) (by simp) ?_
            refine AllReadyH.cons rfl (fun K hK => ?_) ?_
            · go_simp
              refine hK.out _ _ (by trivial) (fun hHeld => ?_)
              clear hK K
              (try simp only [Act.put, qa_, qb_, qc_])
              refine wpAnyH_ready (rs := [7]) (by kernel_rfl) (by simp) ?_
              refine AllReadyH.cons rfl (fun K hK => ?_) ?_
              · have hBx : Below wr.heap.size wr (w5.alloc (.cells ([.int .i64 a.1, .int .i64 a.2.1, .int .i64 a.2.2.1, .slice oA3 a.2.2.2.length oc3].toArray) 53)) := bel_alloc hs1 _
                obtain ⟨xs, hrow, hpush⟩ := (hG.below hBx).row
                have hS2 : Src (w5.alloc (.cells ([.int .i64 a.1, .int .i64 a.2.1, .int .i64 a.2.2.1, .slice oA3 a.2.2.2.length oc3].toArray) 53)) 4 (some ⟨w5.heap.size, 0, none⟩) 1 [.int .i64 a.1, .int .i64 a.2.1, .int .i64 a.2.2.1, .slice oA3 a.2.2.2.length oc3] := Src.of_box w5 53 [.int .i64 a.1, .int .i64 a.2.1, .int .i64 a.2.2.1, .slice oA3 a.2.2.2.length oc3] (K := 4) rfl
                have tz : (Value.agg #[Value.int .i64 0, Value.int .i64 0, Value.int .i64 0, Value.slice none 0 0]).cells.size = 4 := (by first | rfl | (simp [Value.cells]; done))
                have t0 : ∀ u ∈ ([.int .i64 a.1, .int .i64 a.2.1, .int .i64 a.2.2.1, .slice oA3 a.2.2.2.length oc3] : List Value), u.oneCell' = true := (by intro u hu; simp only [List.mem_cons, List.not_mem_nil, or_false] at hu; rcases hu with rfl | rfl | rfl | rfl <;> rfl)
                have t1 : (l.take j).length + 1 ≤ maxLen := (by simp only [maxLen]; have := HLN.out; omega)
                have t2 : ((l.take j).length + 1) * 48 ≤ 140737488355328 := (by have := HLN.out; omega)
                have t3 := hBx.size
                refine step_app5 _ (by rfl) (.tmp 20) (.tmp 25) _ (by rfl) w3.heap.size 53 i1 _ 4 48 Tryz.underlying31 hj0 hj1 hj2 hj3 tz (by omega) v _ xs (by rfl) hrow _ 1 1 [.int .i64 a.1, .int .i64 a.2.1, .int .i64 a.2.2.1, .slice oA3 a.2.2.2.length oc3] (by rfl) hS2 t0 t1 t2 (by omega) ?_
                intro v2 w2 hown2 hgr2 hat2
                have hOel : tWhole.O (w5.alloc (.cells ([.int .i64 a.1, .int .i64 a.2.1, .int .i64 a.2.2.1, .slice oA3 a.2.2.2.length oc3].toArray) 53)) [.int .i64 a.1, .int .i64 a.2.1, .int .i64 a.2.2.1, .slice oA3 a.2.2.2.length oc3] a Fd := Ty.below (t := tWhole) hOk (belx)
                have hNel : New w3.heap.size Fd := hNd.lower (by omega)
                have hdis : ∀ f ∈ Fd, f ∉ F := (fun f h1 h2 => by have := hNd.2 _ h1; have := hlt2 f h2; omega)
                have hod : ∀ b, v.ownBlock = some b → b ∉ Fd := (fun b hb hx => by have := (hOwn b hb).2; have := hNd.2 _ hx; omega)
                have hfin := hpush w2 v2 a _ Fd hOel hNel hdis hod hown2 hgr2 hat2
                obtain ⟨A9, n9, c9, rfl, -⟩ := hfin.shapeN
                have R2 := Box.grown (w := (w5.alloc (.cells ([.int .i64 a.1, .int .i64 a.2.1, .int .i64 a.2.2.1, .slice oA3 a.2.2.2.length oc3].toArray) 53))) (R5.alloc _) hgr2 (fun e => by have := (hOwn w.heap.size e.symm).1; omega)
                have O2 := Box.grown (w := (w5.alloc (.cells ([.int .i64 a.1, .int .i64 a.2.1, .int .i64 a.2.2.1, .slice oA3 a.2.2.2.length oc3].toArray) 53))) (O5.alloc _) hgr2 (fun e => by have := (hOwn ob e.symm).1; omega)
                have hBf : Below w.heap.size w w2 := Below.grown (w := (w5.alloc (.cells ([.int .i64 a.1, .int .i64 a.2.1, .int .i64 a.2.2.1, .slice oA3 a.2.2.2.length oc3].toArray) 53))) (bel_trans hB4 hBx) hgr2 (by have := hBx.size; omega) (fun b hb => by have := (hOwn b hb).1; omega)
                have z2 := hgr2.size
                have o2c := O2.cell 0
                have o2f := O2.frozen 0
                have GF := hfin.put (p := ⟨ob, 0, none⟩) (by show ob < w3.heap.size; omega) (.slice A9 n9 c9)
                have RF := R2.far (p := ⟨ob, 0, none⟩) (by show ¬ w.heap.size = ob; omega) (.slice A9 n9 c9)
                have OF : Box (w2.setCell ⟨ob, 0, none⟩ (.slice A9 n9 c9)) ob 33 #[.slice A9 n9 c9, .slice B1 l1.length d1] := O2.put 0 (.slice A9 n9 c9)
                have H1F := Ty.far3 (own_past (w := (w5.alloc (.cells ([.int .i64 a.1, .int .i64 a.2.1, .int .i64 a.2.2.1, .slice oA3 a.2.2.2.length oc3].toArray) 53))) (Ty.below (t := tIs) H1 hBx) hgr2 (fun b hb hx => by have h1 := (hOwn b hb).1; have h2 := F1l b hx; omega)) (p := ⟨ob, 0, none⟩) F1o (.slice A9 n9 c9)
                have HSF := Ty.far3 (own_past (w := (w5.alloc (.cells ([.int .i64 a.1, .int .i64 a.2.1, .int .i64 a.2.2.1, .slice oA3 a.2.2.2.length oc3].toArray) 53))) (Ty.below (t := tIs) HS hBx) hgr2 (fun b hb hx => by have h1 := (hOwn b hb).1; have h2 := FSl b hx; omega)) (p := ⟨ob, 0, none⟩) FSo (.slice A9 n9 c9)
                have HMF := (World.ownsMap.kept (w := (w5.alloc (.cells ([.int .i64 a.1, .int .i64 a.2.1, .int .i64 a.2.2.1, .slice oA3 a.2.2.2.length oc3].toArray) 53))) (row := (v.ownBlock)) (World.ownsMap.kept (w := wr) (row := none) HM (below_grownBy hBx) (by simp)) hgr2 (fun e => by have h1 := (hOwn b e.symm).1; omega)).setCell (a := ⟨ob, 0, none⟩) (by show b ≠ ob; omega) (.slice A9 n9 c9)
                have BF : Below w.heap.size w (w2.setCell ⟨ob, 0, none⟩ (.slice A9 n9 c9)) := bel_put hBf (by show w.heap.size ≤ ob; omega) _
                refine hK.out _ _ (by trivial) (fun hHeld => ?_)
                clear hK K
                (try simp only [Act.put, qa_, qb_, qc_])
                refine wpAnyH_take (i := 8) (oi := ⟨some 27, _, _, _, _, _⟩) (v := ?v7) rfl (by kernel_rfl) (by kernel_rfl) (by kernel_rfl) (fun _ _ _ h => h) (Or.inl ⟨by rfl, ?hy7⟩) (by assumption) ?_
                case hy7 => (intro w hSw; (try dsimp only at hSw); go_simp; try (with_reducible rfl))
                (try simp only [Act.put, qa_, qb_, qc_])
                refine wpAnyH_ready (rs := [9]) (by kernel_rfl) (by simp) ?_
                refine AllReadyH.cons rfl (fun K hK => ?_) ?_
                · go_simp
                  refine hK.out _ _ (by trivial) (fun hHeld => ?_)
                  clear hK K
                  (try simp only [Act.put, qa_, qb_, qc_])
                  refine wpAnyH_done (by kernel_rfl) ?_ _
                  go_wp2
                  go_roundw
                  case rel => exact ⟨j + 1, _, _, by omega, by go_num, by rw [HT.out]; exact GF, RF, OF, H1F, HSF, HMF, BF, by have h := z2; simp [World.setCell] at h ⊢; omega⟩
                  case measure => simp [ixOf]; omega
                exact AllReadyH.nil
              exact AllReadyH.nil
            exact AllReadyH.nil
          exact AllReadyH.nil
        exact AllReadyH.nil
      exact AllReadyH.nil
    · obtain rfl : nl = j := by omega
      have HA := Lib.hid (show l.take nl = l from List.take_of_length_le (by have := HNL.out; omega))
      rw [HA.out] at hG
      obtain ⟨A9, c9, F9, rfl, hO9, hN9⟩ := hG.done
      have q1 : ¬ (nl : Int) < (nl : Int) := by omega
      have o0 := O4.cell 0; have o1 := O4.cell 1; have r0 := R4.cell 0; have r1 := R4.cell 1; have r2 := R4.frozen 0; have r3 := R4.frozen 1
      have hdj : ∀ f ∈ F9, f ∉ F1 := fun f h1 h2 => by have := hN9.2 f h1; have := F1l f h2; omega
      have hM : New (w.heap.size + 1) (F9 ++ F1) := new_pair (hN9.lower (by omega)) hNd hdj
      go_wp2
      have RR := (R4.put 0 (.slice A9 l.length c9)).put 1 (.slice B1 l1.length d1)
      have e0 := RR.cell 0; have e1 := RR.cell 1
      refine bodyPost_ret (v := .agg #[.slice A9 l.length c9, .slice B1 l1.length d1]) (by simp [results, Tryz.results49, go_sem, e0, e1]) rfl ⟨A9, c9, B1, d1, rfl, F9 ++ F1, put2Dk hO9 H1 (hM.not (by omega)), hM.lower (by omega), ?_⟩
      exact bel_put (bel_put hB4 (by simp) _) (by simp) _
set_option maxHeartbeats 4000000 in
theorem i_LetGo {w : World} {cs : List Value} {p : DDesk} {x : Int} (h : tDesk.R w w.heap.size cs p) (hz : szDesk p ≤ 1048576) (hw : (Lit.int .i64 x).wf = true) :
    Calls Tryz.prog 21 #[.agg cs.toArray, .int .i64 x] w fun e w' => ∃ cs' F, e = .returned (.tuple #[.agg cs'.toArray, .int .i64 (fLgN p x)]) ∧ tDesk.O w' cs' (fLg p x) F ∧ New w.heap.size F ∧ Below w.heap.size w w' := by
  obtain ⟨A0, n0, c0, A1, n1, c1, rfl, -, -, e0, hr0, -, -, -, hr1⟩ := openDesk h
  by_cases hp : DkOk p
  rotate_left
  · have HP := Lib.hid (decide_eq_false hp)
    rw [fLg_f hp, fLgN_f hp]
    clear hp
    go_enter Tryz.func21, Tryz.ntmps21
    go_wp2_with fail
    refine (i_DeskOk (tDesk.reach h ?hB) hz).mono ?_
    case hB => exact (belx)
    rintro e w1 ⟨rfl, hb1⟩
    rw [HP.out]
    have X1 : Box w1 w.heap.size 33 #[.slice A0 n0 c0, .slice A1 n1 c1] := Box.below (((Box.new w _ _).alloc _).alloc _) hb1 (by simp; omega)
    have K1 : Box w1 (w.heap.size + 1) 3 #[.int .i64 x] := Box.below (Box.alloc (by simpa using Box.new (w.alloc _) 3 #[.int .i64 x]) _) hb1 (by first | (simp; done) | (simp; omega))
    have Y1 : Box w1 (w.heap.size + 1 + 1) 33 #[.slice none 0 0, .slice none 0 0] := Box.below (by simpa using Box.new ((w.alloc _).alloc _) 33 #[.slice none 0 0, .slice none 0 0]) hb1 (by simp)
    have x0 : w1.cell? ⟨w.heap.size, 0, none⟩ = some (.slice A0 n0 c0) := X1.cell 0
    have x1 : w1.cell? ⟨w.heap.size, 1, none⟩ = some (.slice A1 n1 c1) := X1.cell 1
    have y0 := Y1.cell 0; have y1 := Y1.cell 1; have y2 := Y1.frozen 0; have y3 := Y1.frozen 1
    have hB1 : Below w.heap.size w w1 := bel_trans (belx) hb1
    have z1 : w.heap.size + 3 ≤ w1.heap.size := by have := hb1.size; simpa using this
    clear hb1
    go_wp2
    have RR := (Y1.put 0 (.slice none 0 0)).put 1 (.slice none 0 0)
    have e0 := RR.cell 0; have e1 := RR.cell 1
    refine bodyPost_ret (v := .tuple #[.agg #[.slice none 0 0, .slice none 0 0], .int .i64 (-1)]) (by simp [results, Tryz.results21, go_sem, e0, e1]) rfl ⟨[.slice none 0 0, .slice none 0 0], [], rfl, dkzO, New.nil _, ?_⟩
    exact bel_put (bel_put hB1 (by show _ ≤ w.heap.size + 1 + 1; omega) _) (by show _ ≤ w.heap.size + 1 + 1; omega) _
  have HP := Lib.hid (decide_eq_true hp)
  rw [fLg_t hp, fLgN_t hp, e0]
  have hn0 : n0 ≤ 6 := by have := hp.1; omega
  have hz2 : rsz szWhole (lgf x p.1) + p.2.length ≤ 1048576 := by have := lgf_sz x p.1; unfold szDesk at hz; omega
  have hle : (lgf x p.1).length ≤ n0 := by have := lgf_len x p.1; omega
  have hwr : IntKind.i64.wrap ((n0 : Int) - ((lgf x p.1).length : Int)) = (n0 : Int) - ((lgf x p.1).length : Int) := IntWalk.i64_in _ (by omega)
  have HAP := Lib.hid (dk_apart hp)
  have HWF := Lib.hid (whs_wf hr0)
  have HA0 := Lib.hid hp.2.2.2.1
  have HAS := Lib.hid (show Asc ((lgf x p.1).map fun a => a.1) from asc_filter _ HA0.out)
  clear hp e0
  go_enter Tryz.func21, Tryz.ntmps21
  go_wp2_with fail
  refine (i_DeskOk (tDesk.reach h ?hB) hz).mono ?_
  case hB => exact (belx)
  rintro e w1 ⟨rfl, hb1⟩
  rw [HP.out]
  have X1 : Box w1 w.heap.size 33 #[.slice A0 n0 c0, .slice A1 n1 c1] := Box.below (((Box.new w _ _).alloc _).alloc _) hb1 (by simp; omega)
  have K1 : Box w1 (w.heap.size + 1) 3 #[.int .i64 x] := Box.below (Box.alloc (by simpa using Box.new (w.alloc _) 3 #[.int .i64 x]) _) hb1 (by first | (simp; done) | (simp; omega))
  have Y1 : Box w1 (w.heap.size + 1 + 1) 33 #[.slice none 0 0, .slice none 0 0] := Box.below (by simpa using Box.new ((w.alloc _).alloc _) 33 #[.slice none 0 0, .slice none 0 0]) hb1 (by simp)
  have x0 : w1.cell? ⟨w.heap.size, 0, none⟩ = some (.slice A0 n0 c0) := X1.cell 0
  have x1 : w1.cell? ⟨w.heap.size, 1, none⟩ = some (.slice A1 n1 c1) := X1.cell 1
  have y0 := Y1.cell 0; have y1 := Y1.cell 1; have y2 := Y1.frozen 0; have y3 := Y1.frozen 1
  have hB1 : Below w.heap.size w w1 := bel_trans (belx) hb1
  have z1 : w.heap.size + 3 ≤ w1.heap.size := by have := hb1.size; simpa using this
  clear hb1
  go_wp2_with fail
  refine (i_opened (tWhole.row.reach hr0 hB1) (by omega) HAP.out HWF.out).mono ?_
  rintro e w2 ⟨b, D, rfl, hM, hW, hbb, hb2⟩
  have hB2 := bel_trans hB1 hb2
  have X2 := X1.below hb2 X1.size
  have K2 := K1.below hb2 K1.size
  have Y2 := Y1.below hb2 Y1.size
  have z2 : w.heap.size + 3 ≤ w2.heap.size := Nat.le_trans z1 hb2.size
  have hmf : ∀ (fn : Fn) (first cap : Array Value) (w : World), (Instr.makeFunc fn first cap).run Tryz.prog w = .ok (.func fn first cap) w := fun _ _ _ _ => rfl
  clear y0 y1 y2 y3 x0 x1
  go_wp2_with fail
  refine (i_DelF hM hW hbb (by omega) (by omega) (K2.cell 0) HA0.out).mono ?_
  rintro e w3 ⟨rfl, D3, hM3, hW3, hgr3⟩
  have hB3 : Below w.heap.size w w3 := Below.grown hB2 hgr3 (by omega) (fun i hi => by have e := Option.some.inj hi; omega)
  have hC3 : Below w1.heap.size w2 w3 := Below.grown (Below.refl _ _) hgr3 (by have := hb2.size; omega) (fun i hi => by have e := Option.some.inj hi; omega)
  have X3 := Box.grown X2 hgr3 (fun e => by have e := Option.some.inj e; omega)
  have Y3 := Box.grown Y2 hgr3 (fun e => by have e := Option.some.inj e; omega)
  have z3 : w.heap.size + 3 ≤ w3.heap.size := Nat.le_trans z2 hgr3.size
  have z3' : w1.heap.size ≤ w3.heap.size := Nat.le_trans hb2.size hgr3.size
  have hsz3 := hW3.size hM3 Tryz.underlying3 (asc_nodup HAS.out)
  have hln : ∀ W : World, W.ownsMap Tryz.prog 3 mR b n0 D3 → (Builtin.len_ #[76] 3 #[.map (some b)]).run Tryz.prog W = .ok (.int .i64 ((lgf x p.1).length : Int)) W := fun W h => by have := h.len Tryz.underlying76 3; rw [hsz3] at this; exact this
  have hl3 := hln _ hM3.drew
  have x30 := X3.cell 0; have x31 := X3.cell 1
  have y30 := Y3.cell 0; have y31 := Y3.cell 1; have y32 := Y3.frozen 0; have y33 := Y3.frozen 1
  clear hM hW hgr3 X2 K2 Y2 X1 K1 Y1 hsz3
  go_wp2_with fail
  refine wp_region_held_drew (S := (fun w' => w'.cell? ⟨w.heap.size, 0, none⟩ = some (.slice A0 n0 c0) ∧ w'.cell? ⟨w.heap.size, 1, none⟩ = some (.slice A1 n1 c1))) (by kernel_rfl) (by exact ⟨x30, x31⟩) (fun hHeld => ?_)
  refine wpAnyH_take (i := 0) (oi := ⟨some 16, _, _, _, _, _⟩) (v := ?v8) rfl (by kernel_rfl) (by kernel_rfl) (by kernel_rfl) (fun _ _ _ h => h) (Or.inl ⟨by rfl, ?hy8⟩) (by assumption) ?_
  case hy8 => (intro w hSw; (try dsimp only at hSw); go_simp; try (with_reducible rfl))
  (try simp only [Act.put, qa_, qb_, qc_])
  refine wpAnyH_take (i := 1) (oi := ⟨some 17, _, _, _, _, _⟩) (v := ?v9) rfl (by kernel_rfl) (by kernel_rfl) (by kernel_rfl) (fun _ _ _ h => h) (Or.inl ⟨by rfl, ?hy9⟩) (by assumption) ?_
  case hy9 => (intro w hSw; (try dsimp only at hSw); go_simp; try (with_reducible rfl))
  (try simp only [Act.put, qa_, qb_, qc_])
  refine wpAnyH_take (i := 2) (oi := ⟨some 18, _, _, _, _, _⟩) (v := ?v10) rfl (by kernel_rfl) (by kernel_rfl) (by kernel_rfl) (fun _ _ _ h => h) (Or.inl ⟨by rfl, ?hy10⟩) (by assumption) ?_
  case hy10 => (intro w hSw; (try dsimp only at hSw); go_simp; try (with_reducible rfl))
  (try simp only [Act.put, qa_, qb_, qc_])
  refine wpAnyH_take (i := 4) (oi := ⟨some 20, _, _, _, _, _⟩) (v := ?v11) rfl (by kernel_rfl) (by kernel_rfl) (by kernel_rfl) (fun _ _ _ h => h) (Or.inl ⟨by rfl, ?hy11⟩) (by assumption) ?_
  case hy11 => (intro w hSw; (try dsimp only at hSw); go_simp; try (with_reducible rfl))
  (try simp only [Act.put, qa_, qb_, qc_])
  refine wpAnyH_take (i := 5) (oi := ⟨some 21, _, _, _, _, _⟩) (v := ?v12) rfl (by kernel_rfl) (by kernel_rfl) (by kernel_rfl) (fun _ _ _ h => h) (Or.inl ⟨by rfl, ?hy12⟩) (by assumption) ?_
  case hy12 => (intro w hSw; (try dsimp only at hSw); go_simp; try (with_reducible rfl))
  (try simp only [Act.put, qa_, qb_, qc_])
  refine wpAnyH_take (i := 6) (oi := ⟨some 22, _, _, _, _, _⟩) (v := ?v13) rfl (by kernel_rfl) (by kernel_rfl) (by kernel_rfl) (fun _ _ _ h => h) (Or.inl ⟨by rfl, ?hy13⟩) (by assumption) ?_
  case hy13 => (intro w hSw; (try dsimp only at hSw); go_simp; try (with_reducible rfl))
  (try simp only [Act.put, qa_, qb_, qc_])
  refine wpAnyH_take (i := 7) (oi := ⟨some 23, _, _, _, _, _⟩) (v := ?v14) rfl (by kernel_rfl) (by kernel_rfl) (by kernel_rfl) (fun _ _ _ h => h) (Or.inl ⟨by rfl, ?hy14⟩) (by assumption) ?_
  case hy14 => (intro w hSw; (try dsimp only at hSw); go_simp; try (with_reducible rfl))
  (try simp only [Act.put, qa_, qb_, qc_])
  refine wpAnyH_ready (rs := [3]) (by kernel_rfl) (by simp) ?_
  refine AllReadyH.cons rfl (fun K hK => ?_) ?_
  · go_simp
    go_at_call 49
    refine (i_deskOf (w := w3.drew) hM3.drew (hW3.keep (fun _ _ => rfl)) (by show w1.heap.size ≤ w3.heap.size; omega) HAS.out (tIs.reach hr1 (bel_drew hB3)) hz2).mono ?_
    rintro e w4 ⟨B0, d0, B1, d1, F, rfl, hO, hN, hb4⟩
    have hs4 : Below w3.heap.size w3 w4 := bel_trans (show Below w3.heap.size w3 w3.drew from (belx)) hb4
    have X4 := X3.below hs4 X3.size
    have Y4 := Y3.below hs4 Y3.size
    have x40 := X4.cell 0; have x41 := X4.cell 1
    have q0 := Y4.cell 0; have q1 := Y4.cell 1; have f0 := Y4.frozen 0; have f1 := Y4.frozen 1
    have X5 := (X4.far (p := ⟨w.heap.size + 1 + 1, 0, none⟩) (by show w.heap.size ≠ w.heap.size + 1 + 1; omega) (.slice B0 (lgf x p.1).length d0)).far (p := ⟨w.heap.size + 1 + 1, 1, none⟩) (by show w.heap.size ≠ w.heap.size + 1 + 1; omega) (.slice B1 p.2.length d1)
    have hl4 := hln _ (hM3.kept (row := none) (below_grownBy hs4) (by simp))
    have hl5 := hln _ (((hM3.kept (row := none) (below_grownBy hs4) (by simp)).setCell (a := ⟨w.heap.size + 1 + 1, 0, none⟩) (by show b ≠ w.heap.size + 1 + 1; omega) (.slice B0 (lgf x p.1).length d0)).setCell (a := ⟨w.heap.size + 1 + 1, 1, none⟩) (by show b ≠ w.heap.size + 1 + 1; omega) (.slice B1 p.2.length d1))
    go_wp2_with fail
    refine hK.out _ _ (by exact ⟨x40, x41⟩) (fun hHeld => ?_)
    clear hK K
    (try simp only [Act.put, qa_, qb_, qc_])
    refine wpAnyH_ready (rs := [8]) (by kernel_rfl) (by simp) ?_
    refine AllReadyH.cons rfl (fun K hK => ?_) ?_
    · go_simp
      refine hK.out _ _ (by exact ⟨x40, x41⟩) (fun hHeld => ?_)
      clear hK K
      (try simp only [Act.put, qa_, qb_, qc_])
      refine wpAnyH_take (i := 9) (oi := ⟨some 25, _, _, _, _, _⟩) (v := ?v15) rfl (by kernel_rfl) (by kernel_rfl) (by kernel_rfl) (fun _ _ _ h => h) (Or.inl ⟨by rfl, ?hy15⟩) (by assumption) ?_
      case hy15 => (intro w hSw; (try dsimp only at hSw); go_simp; try (with_reducible rfl))
      (try simp only [Act.put, qa_, qb_, qc_])
      refine wpAnyH_ready (rs := [10]) (by kernel_rfl) (by simp) ?_
      refine AllReadyH.cons rfl (fun K hK => ?_) ?_
      · go_simp
        refine hK.out _ _ (by exact ⟨X5.cell 0, X5.cell 1⟩) (fun hHeld => ?_)
        clear hK K
        (try simp only [Act.put, qa_, qb_, qc_])
        refine wpAnyH_take (i := 11) (oi := ⟨some 5, _, _, _, _, _⟩) (v := ?v16) rfl (by kernel_rfl) (by kernel_rfl) (by kernel_rfl) (fun _ _ _ h => h) (Or.inl ⟨by rfl, ?hy16⟩) (by assumption) ?_
        case hy16 => (intro w hSw; (try dsimp only at hSw); go_simp; try (with_reducible rfl))
        (try simp only [Act.put, qa_, qb_, qc_])
        refine wpAnyH_done (by kernel_rfl) ?_ _
        have hM : New (w.heap.size + 3) F := hN.lower (by show _ ≤ w3.heap.size; omega)
        go_wp2
        have RR := (Y4.put 0 (.slice B0 (lgf x p.1).length d0)).put 1 (.slice B1 p.2.length d1)
        have e0 := RR.cell 0
        have e1 := RR.cell 1
        refine bodyPost_ret (v := .tuple #[.agg #[.slice B0 (lgf x p.1).length d0, .slice B1 p.2.length d1], .int .i64 ((n0 : Int) - ((lgf x p.1).length : Int))]) (by simp [results, Tryz.results21, go_sem, e0, e1, hwr]) rfl ⟨[.slice B0 (lgf x p.1).length d0, .slice B1 p.2.length d1], F, rfl, put2D_O hO (hM.not (by omega)), hM.lower (by omega), ?_⟩
        exact bel_put (bel_put (bel_trans hB3 hs4) (by show _ ≤ w.heap.size + 1 + 1; omega) _) (by show _ ≤ w.heap.size + 1 + 1; omega) _
      exact AllReadyH.nil
    exact AllReadyH.nil
  exact AllReadyH.nil
end Go.Proofs.YtaabmaoldhoinaaGreat
namespace Go.Proofs.YtaabmaoldhoinaaGreat
set_option maxRecDepth 100000
set_option linter.unusedVariables false
set_option linter.unusedSimpArgs false
open Go.ChangeShapes Go.WideShapes Go.ChangeAt Go.RowKit
theorem mi_int : (Tryz.prog.info? 3).map (fun i => (i.zero, i.size, i.bytes)) = some (some (.int .i64 0), 1, 8) := by kernel_rfl
theorem i_lacks {w : World} {cs : List Value} {a : DWhole} (x : Int) (h : tWhole.R w w.heap.size cs a) (hz : a.2.2.2.length ≤ 1048576) :
    Calls Tryz.prog 48 #[.agg cs.toArray, .int .i64 x] w fun e w' => e = .returned (.bool (decide (x ∉ a.2.2.2.map fun p => p.2.1))) ∧ Below w.heap.size w w' := by
  obtain ⟨A3, n3, c3, rfl, hi0, hi1, hi2, ha3, hb3, hl3, h3⟩ := openWhole h
  have hwf := Lib.hid (pcs_wf h3)
  have hn : n3 ≤ 1048576 := by omega
  have hm : (a.2.2.2.map fun p => p.2.1).length ≤ 1048576 := by rw [List.length_map]; exact hz
  have HR := Lib.hid (show (!decide (x ∈ a.2.2.2.map fun p => p.2.1)) = decide (x ∉ a.2.2.2.map fun p => p.2.1) by simp)
  rw [← HR.out]
  obtain ⟨ml, hml⟩ : ∃ y, (a.2.2.2.map fun p => p.2.1) = y := ⟨_, rfl⟩
  have HM := Lib.hid hml
  rw [hml] at hm ⊢
  clear hml hl3 hz
  go_enter Tryz.func48, Tryz.ntmps48
  go_wp2_with fail
  refine (i_eachPieceI 91 (fun p => p.2.1) (fun _ _ => rfl) (fun i a w' cs ha hBw hR => i_PcAt hR) hwf.out (tPiece.row.reach h3 ?hB) hn).mono ?_
  case hB => exact (belx)
  rintro e w1 ⟨v, rfl, hO, hb1⟩
  rw [HM.out] at hO
  obtain ⟨A5, c5, rfl, _, hI5, _⟩ := hO.ints
  have hs1 : Below w.heap.size w w1 := bel_trans (belx) hb1
  go_wp2_with fail
  refine (i_ContainsI x hI5 (by omega)).mono ?_
  rintro e w' ⟨rfl, rfl⟩
  go_wp2
  go_ret
  exact ⟨rfl, hs1⟩
theorem zwhole (w : World) : (zeroValue 53).run Tryz.prog w = .ok (.agg #[.int .i64 0, .int .i64 0, .int .i64 0, .slice none 0 0]) w := by rfl
set_option maxHeartbeats 1000000 in
theorem i_Missing {w : World} {cs : List Value} {p : DDesk} {id : Int} (h : tDesk.R w w.heap.size cs p) (hz : szDesk p ≤ 1048576) (hid : (Lit.int .i64 id).wf = true) :
    Calls Tryz.prog 30 #[.agg cs.toArray, .int .i64 id] w fun e w' => ∃ A c F, e = .returned (.slice A (fMis p id).length c) ∧ tIs.O w' [.slice A (fMis p id).length c] (fMis p id) F ∧ New w.heap.size F ∧ Below w.heap.size w w' := by
  obtain ⟨A0, n0, c0, A1, n1, c1, rfl, -, -, -, hr0, -, -, -, hr1⟩ := openDesk h
  by_cases hp : DkOk p
  · have HP := Lib.hid (decide_eq_true hp)
    have hn0 : n0 ≤ 6 := by have := hp.1; have := (rowR_len hr0).1; omega
    have HAP := Lib.hid (dk_apart hp)
    have HWH := Lib.hid (fun a (ha : a ∈ p.1) => dk_wh hp ha)
    have HWF := Lib.hid (whs_wf hr0)
    rw [fMis_t hp]
    clear hp
    obtain ⟨i0, hi0, hz0, hz1, hz2⟩ := info_parts mi_int
    go_enter Tryz.func30, Tryz.ntmps30
    go_wp2_with fail
    refine (i_DeskOk (tDesk.reach h ?hB) hz).mono ?_
    case hB => exact (belx)
    rintro e w1 ⟨rfl, hb1⟩
    rw [HP.out]
    have X1 : Box w1 w.heap.size 33 #[.slice A0 n0 c0, .slice A1 n1 c1] := (Box.new _ _ _).below hb1 (by simp)
    have hB1 : Below w.heap.size w w1 := bel_trans (belx) hb1
    have k0 := X1.cell 0; have k1 := X1.cell 1
    clear hb1
    go_wp2_with fail
    refine (i_opened (tWhole.row.reach hr0 hB1) (by omega) HAP.out HWF.out).mono ?_
    rintro e w2 ⟨b, D, rfl, hM, hW, hbb, hb2⟩
    have hB2 := bel_trans hB1 hb2
    obtain ⟨v, hrun, hv⟩ := hW.look hM Tryz.underlying3 Tryz.underlying76 (zwhole _) hid
    rcases hv with ⟨a, es, ha, hai, rfl, hRa⟩ | ⟨hno, rfl⟩
    · have HMI := Lib.hid (misL_one HAP.out ha hai)
      have hwh := HWH.out a ha
      obtain ⟨A2, n2, c2, rfl, -, -, -, -, -, hl2, h2⟩ := openWhole hRa
      obtain ⟨N, hN⟩ := Int.eq_ofNat_of_zero_le (show 0 ≤ a.2.1 by omega)
      have hN8 : N ≤ 8 := by omega
      have HNN := Lib.hid (show a.2.1.toNat = N by rw [hN]; rfl)
      have hza : a.2.2.2.length ≤ 1048576 := by omega
      rw [hN] at hrun hRa
      clear hN hwh hl2 ha hai
      have hRw : tWhole.R w2 w2.heap.size [.int .i64 a.1, .int .i64 (N : Int), .int .i64 a.2.2.1, .slice A2 n2 c2] a := tWhole.up hRa hb2.size
      have BW : Box (w2.alloc (.cells #[.int .i64 a.1, .int .i64 (N : Int), .int .i64 a.2.2.1, .slice A2 n2 c2] 53)) w2.heap.size 53 #[.int .i64 a.1, .int .i64 (N : Int), .int .i64 a.2.2.1, .slice A2 n2 c2] := Box.new _ _ _
      have y1 := BW.cell 1
      have hB3 : Below w.heap.size w (w2.alloc (.cells #[.int .i64 a.1, .int .i64 (N : Int), .int .i64 a.2.2.1, .slice A2 n2 c2] 53)) := bel_alloc hB2 _
      go_wp2_with fail
      go_loopw [6, 17] (fun v i wr => ∃ k : Nat, k ≤ N ∧ i = .int .i64 k ∧ Own .i64 3 wr (w2.heap.size + 1) v (lackAt a.2.2.2 k) ∧ Below w.heap.size w wr ∧ Below w2.heap.size w2 wr ∧ Box wr w2.heap.size 53 #[.int .i64 a.1, .int .i64 (N : Int), .int .i64 a.2.2.1, .slice A2 n2 c2]) (fun _ i _ => N - ixOf i)
      case atStart => exact ⟨0, by omega, rfl, Own.nil _ _ _ _, hB3, bel_alloc (Below.refl _ _) _, BW⟩
      case round =>
        obtain ⟨k, hk, rfl, hO, hB, hBk, hX⟩ := hrel
        have z0 := hX.cell 0; have z1 := hX.cell 1; have z2 := hX.cell 2; have z3 := hX.cell 3
        by_cases hlt : k < N
        · have q1 : (k : Int) < (N : Int) := by omega
          have hle := lackAt_le a.2.2.2 k
          by_cases hin : (k : Int) ∈ a.2.2.2.map fun p => p.2.1
          · have HC := Lib.hid (lackAt_f hin)
            have HL := Lib.hid (show decide ((k : Int) ∉ a.2.2.2.map fun p => p.2.1) = false from decide_eq_false fun h => h hin)
            clear hin
            go_wp2_with fail
            refine (i_lacks (k : Int) (tWhole.reach (tWhole.reach hRw hBk) ?hB) hza).mono ?_
            case hB => exact (belx)
            rintro e w3 ⟨rfl, hb3⟩
            rw [HL.out]
            have hs3 : Below wr.heap.size wr w3 := bel_trans (belx) hb3
            go_wp2
            go_roundw
            case rel => exact ⟨k + 1, by omega, by go_num, by rw [HC.out]; exact hO.below hs3, bel_trans hB hs3, bel_trans hBk hs3, hX.below hs3 hX.size⟩
            case measure => simp [ixOf]; omega
          · have HC := Lib.hid (lackAt_t hin)
            have HL := Lib.hid (show decide ((k : Int) ∉ a.2.2.2.map fun p => p.2.1) = true from decide_eq_true hin)
            clear hin
            go_wp2_with fail
            refine (i_lacks (k : Int) (tWhole.reach (tWhole.reach hRw hBk) ?hB) hza).mono ?_
            case hB => exact (belx)
            rintro e w3 ⟨rfl, hb3⟩
            rw [HL.out]
            have hs3 : Below wr.heap.size wr w3 := bel_trans (belx) hb3
            have hO3 := hO.below hs3
            have hsz := hX.size
            have hzz := hs3.size
            go_wp2_with (at_builtin; refine wpList_app _ rfl (.tmp 23) (.tmp 25) _ rfl (w2.heap.size + 1) 3 i0 _ 1 8 Tryz.underlying23 hi0 hz0 hz1 hz2 rfl (by omega) _ _ _ rfl (hO3.1.alloc _) _ 1 1 [.int .i64 (k : Int)] rfl (Src.one _ _ _) (one_int _ _) (by simp only [maxLen]; omega) (by omega) (by simp; omega) ?_; intro v1 w4 hown hgr hat)
            go_roundw
            case rel => exact ⟨k + 1, by omega, by go_num, own_sn hO3 hown HC.out (wf_i64 (by omega) (by omega)), (bel_trans hB hs3).alloc (bel_trans hB hs3).size _ |>.grown hgr (by simp; have := (bel_trans hB hs3).size; omega) (fun b hb => by have := (hO3.1.lt b hb).1; have := hB2.size; omega), below_sn (bel_trans hBk hs3) hO3 (by omega) hgr, box_sn (hX.below hs3 hX.size) hO3 (by omega) hgr⟩
            case measure => simp [ixOf]; omega
        · obtain rfl : k = N := by omega
          have q1 : ¬ (k : Int) < (k : Int) := by omega
          obtain ⟨A9, c9, F, rfl, k5, k6⟩ := own_slice hO
          go_wp2
          go_ret
          have e9 : misL id p.1 = lackAt a.2.2.2 k := by rw [HMI.out, HNN.out]
          rw [e9]
          have k7 : New w.heap.size F := k6.lower (by have := hB2.size; omega)
          first | exact ⟨A9, c9, F, rfl, k5, k7, hB⟩ | exact ⟨A9, c9, rfl, F, k5, k7, hB⟩
    · have HMI := Lib.hid (misL_none hno)
      have BW : Box (w2.alloc (.cells #[.int .i64 0, .int .i64 0, .int .i64 0, .slice none 0 0] 53)) w2.heap.size 53 #[.int .i64 0, .int .i64 0, .int .i64 0, .slice none 0 0] := Box.new _ _ _
      have y1 := BW.cell 1
      have hB3 : Below w.heap.size w (w2.alloc (.cells #[.int .i64 0, .int .i64 0, .int .i64 0, .slice none 0 0] 53)) := bel_alloc hB2 _
      go_wp2_with fail
      go_loopw [6, 17] (fun v i wr => v = .slice none 0 0 ∧ i = .int .i64 0 ∧ Below w.heap.size w wr) (fun _ i _ => 0)
      case atStart => exact ⟨rfl, rfl, hB3⟩
      case round =>
        obtain ⟨rfl, rfl, hB⟩ := hrel
        go_wp2
        go_ret
        rw [HMI.out]
        exact ⟨none, 0, [], rfl, .inl ⟨none, 0, rfl, by omega, rfl, rfl⟩, New.nil _, hB⟩
  · have HP := Lib.hid (decide_eq_false hp)
    rw [fMis_f hp]
    clear hp
    go_enter Tryz.func30, Tryz.ntmps30
    go_wp2_with fail
    refine (i_DeskOk (tDesk.reach h ?hB) hz).mono ?_
    case hB => exact (belx)
    rintro e w1 ⟨rfl, hb1⟩
    rw [HP.out]
    go_wp2
    go_ret
    exact ⟨none, 0, [], rfl, .inl ⟨none, 0, rfl, by omega, rfl, rfl⟩, New.nil _, bel_trans (belx) hb1⟩
end Go.Proofs.YtaabmaoldhoinaaGreat
namespace Go.Proofs.YtaabmaoldhoinaaGreat
set_option maxRecDepth 100000
set_option linter.unusedVariables false
set_option linter.unusedSimpArgs false
open Go.ChangeShapes Go.WideShapes Go.ChangeAt Go.RowKit Go.Sort
theorem Own.base {K : IntKind} {e : TypeId} {w : World} {b b' : Nat} {v : Value} {l : List Int} (h : Own K e w b v l) (hb : b' ≤ b) : Own K e w b' v l := by
  refine ⟨⟨h.1.1, ?_⟩, h.2⟩
  rcases h.1.2 with h' | ⟨g, cap, cur, h1, h2, h3⟩
  · exact .inl h'
  · exact .inr ⟨g, cap, cur, h1, Nat.le_trans hb h2, h3⟩
/-- Ascending, as the library's sort leaves it. -/
def srt (l : List Int) : List Int := l.mergeSort (fun x y => decide (x ≤ y))
theorem srt_len (l : List Int) : (srt l).length = l.length := List.length_mergeSort _
theorem srt_mem {l : List Int} {x : Int} : x ∈ srt l ↔ x ∈ l := List.mem_mergeSort
theorem srt_nil : srt [] = [] := by simp [srt]
/-- Sorting a slice of the call's own. -/
theorem i_SortI {w : World} {base : Nat} {v : Value} {l : List Int} (h : Own .i64 3 w base v l) (hb : base ≤ w.heap.size) (hn : l.length ≤ 1048576) :
    Calls Tryz.prog 53 #[v] w fun e w' => e = .returned (.tuple #[]) ∧ Own .i64 3 w' base v (srt l) ∧ w.grownBy w' v.ownBlock := by
  rcases h.1.2 with ⟨rfl, h0⟩ | ⟨g, cap, cur, rfl, hbg, hg, hnc, hm, hs, ht⟩
  · have : l = [] := List.eq_nil_of_length_eq_zero h0
    subst this
    refine (Tryz.slices_Sort_int_none none 0 w).mono ?_
    rintro e w' ⟨rfl, rfl⟩
    exact ⟨rfl, by rw [srt_nil]; exact Own.nil _ _ _ _, World.grownBy.refl _ _⟩
  · by_cases hz : l.length = 0
    · have : l = [] := List.eq_nil_of_length_eq_zero hz
      subst this
      refine (Tryz.slices_Sort_int_none _ cap w).mono ?_
      rintro e w' ⟨rfl, rfl⟩
      exact ⟨rfl, by rw [srt_nil]; exact h, World.grownBy.refl _ _⟩
    · have hgl : g < w.heap.size := (Array.getElem?_eq_some_iff.1 hg).1
      simp only [maxLen] at hm
      refine (Tryz.slices_Sort_int g 0 cap l w (holds_of_blockI hg (by simpa using ht)) hgl (by omega)).mono ?_
      rintro e w' ⟨rfl, n, os, rfl⟩
      have hl : (l.mergeSort fun x y => decide (x ≤ y)).length = l.length := List.length_mergeSort _
      refine ⟨rfl, ⟨?_, fun x hx => h.2 x (srt_mem.1 hx)⟩, grownBy_sortedI _⟩
      have := ownsRow_sortedI (n := n) (os := os) hl hbg hg (by omega) (by simp only [maxLen]; omega) hs
      rw [srt_len]
      exact this
end Go.Proofs.YtaabmaoldhoinaaGreat
namespace Go.Proofs.YtaabmaoldhoinaaGreat
set_option linter.unusedVariables false
open Go.RowKit
section
variable {α : Type} {t : Ty α} {e e' : TypeId} {w w' : World} {base base' B n c : Nat} {A : Option Addr} {v v' : Value} {l l' : List α}
theorem GrowR.src (h : GrowR t e w base B v l) (h1 : ∀ es a, t.R w B es a → ∀ u ∈ es, u.oneCell' = true) :
    ∃ (css : List (List Value)) (A : Option Addr) (c : Nat), v = .slice A l.length c ∧ css.length = l.length ∧ (∀ (i : Nat) (a : α) (es : List Value), l[i]? = some a → css[i]? = some es → t.R w B es a) ∧ Src w t.k A l.length css.flatten ∧ ∀ u ∈ css.flatten, u.oneCell' = true := by
  obtain ⟨css, k1, k2, k5⟩ := h
  have hk : ∀ es ∈ css, es.length = t.k := fun es hes => by
    obtain ⟨i', hi', rfl⟩ := List.getElem_of_mem hes
    exact t.lenR (k5 i' _ _ (List.getElem?_eq_getElem (by omega)) (List.getElem?_eq_getElem hi'))
  have hone : ∀ u ∈ css.flatten, u.oneCell' = true := fun u hu => by
    obtain ⟨es, hes, hu⟩ := List.mem_flatten.1 hu
    obtain ⟨i, hi, rfl⟩ := List.getElem_of_mem hes
    exact h1 _ _ (k5 i _ _ (List.getElem?_eq_getElem (by omega)) (List.getElem?_eq_getElem hi)) u hu
  rcases k1.2 with ⟨rfl, h0⟩ | ⟨g, cap, cur, rfl, hb, hg, hn, hm, hs, ht⟩
  · have : l = [] := List.eq_nil_of_length_eq_zero h0
    subst this
    have : css = [] := List.eq_nil_of_length_eq_zero (by rw [k2]; rfl)
    subst this
    exact ⟨[], none, 0, rfl, rfl, fun i a es hi => by simp at hi, ⟨by simp, fun h => absurd h (by simp)⟩, fun u hu => by simp at hu⟩
  · refine ⟨css, some ⟨g, 0, none⟩, cap, rfl, k2, k5, ⟨by rw [flat_len hk, k2], fun _ => ⟨g, 0, rfl, fun j u hj => ?_⟩⟩, hone⟩
    have hj2 : j < l.length * t.k := by rw [← k2, ← flat_len hk]; exact (List.getElem?_eq_some_iff.1 hj).1
    rw [Nat.zero_add, Box.cell (t := e) hg, ← hj, ← ht, List.getElem?_take, if_pos hj2]
    simp
end
end Go.Proofs.YtaabmaoldhoinaaGreat
namespace Go.Proofs.YtaabmaoldhoinaaGreat
set_option linter.unusedVariables false
open Go.RowKit
section SortOpen
open Go.Sort
theorem perm_lift {α β : Type} (f : α → β) {d d' : List β} (h : d.Perm d') : ∀ z : List α, z.map f = d → ∃ z', z.Perm z' ∧ z'.map f = d' := by
  induction h with
  | nil => intro z hz; exact ⟨z, List.Perm.refl _, hz⟩
  | cons x h ih =>
    intro z hz
    cases z with
    | nil => simp at hz
    | cons a z =>
      simp only [List.map_cons, List.cons.injEq] at hz
      obtain ⟨z', h1, h2⟩ := ih z hz.2
      exact ⟨a :: z', h1.cons a, by rw [List.map_cons, hz.1, h2]⟩
  | swap x y l =>
    intro z hz
    match z, hz with
    | a :: b :: z, hz =>
      simp only [List.map_cons, List.cons.injEq] at hz
      exact ⟨b :: a :: z, List.Perm.swap b a z, by simp [hz.1, hz.2.1, hz.2.2]⟩
  | trans h1 h2 ih1 ih2 =>
    intro z hz
    obtain ⟨z1, k1, k2⟩ := ih1 z hz
    obtain ⟨z2, k3, k4⟩ := ih2 z1 k2
    exact ⟨z2, k1.trans k3, k4⟩
variable {α β : Type} [Inhabited β] {enc : β → List Value} {k : Nat} {w : World} {g n : Nat} {cur : Array Value} {e : TypeId} {fz : Nat × Nat} {d d' : Array β} {os : Array Obj}
theorem heap_putK (h : w.heap[g]? = some (.cells cur e fz)) : (sortWorldK enc k w g 0 n d os).heap[g]? = some (.cells (putCells id 0 (flatK enc k d) cur) e fz) := by
  have hlt : g < w.heap.size := by
    rcases Nat.lt_or_ge g w.heap.size with h' | h'
    · exact h'
    · rw [Array.getElem?_eq_none h'] at h; cases h
  unfold sortWorldK Go.Sort.grow putRowK putRow mapBlock Go.Sort.ahead
  simp only [Array.getElem?_append, Array.size_modify, hlt, if_true, Array.getElem?_modify, h, Option.map_some, onCells]
theorem heap_putK_other {i : Nat} (hi : i < w.heap.size) (hne : i ≠ g) : (sortWorldK enc k w g 0 n d os).heap[i]? = w.heap[i]? := by
  unfold sortWorldK Go.Sort.grow putRowK putRow mapBlock Go.Sort.ahead
  simp only [Array.getElem?_append, Array.size_modify, hi, if_true, Array.getElem?_modify]
  rw [if_neg (fun e => hne e.symm)]
theorem size_putK : w.heap.size ≤ (sortWorldK enc k w g 0 n d os).heap.size := by
  unfold sortWorldK Go.Sort.grow putRowK putRow mapBlock Go.Sort.ahead
  simp
theorem grown_putK : w.grownBy (sortWorldK enc k w g 0 n d os) (some g) :=
  ⟨rfl, rfl, rfl, size_putK, fun i hi hn => heap_putK_other hi (fun e => hn (by rw [e]))⟩
theorem putCells_get (F cur : Array Value) (hs : F.size ≤ cur.size) {j : Nat} (hj : j < F.size) : (putCells id 0 F cur)[j]? = some F[j]! := by
  unfold putCells
  rw [Array.getElem?_mapIdx, Array.getElem?_eq_getElem (show j < cur.size by omega)]
  simp [hj]
theorem flat_of (hk : ∀ x, (enc x).length = k) (h0 : 0 < k) {j : Nat} (hj : j < d.size * k) : (flatK enc k d)[j]! = ((d.toList.map enc).flatten)[j]?.getD default := by
  have hq : j / k < d.size := Nat.div_lt_of_lt_mul (by rw [Nat.mul_comm]; exact hj)
  rw [get_flatK enc k d j hj]
  have hlen : ∀ es ∈ d.toList.map enc, es.length = k := fun es hes => by
    obtain ⟨x, _, rfl⟩ := List.mem_map.1 hes; exact hk x
  have hm : (d.toList.map enc)[j / k]? = some (enc d[j / k]!) := by
    rw [List.getElem?_map, Array.getElem?_toList, Array.getElem?_eq_getElem hq, getElem!_pos d _ hq]; rfl
  have := flat_at hlen hm (Nat.mod_lt j h0)
  rw [show j / k * k + j % k = j by rw [Nat.mul_comm]; exact Nat.div_add_mod j k] at this
  rw [this, List.getElem!_eq_getElem?_getD]
end SortOpen
section SortGrow
open Go.Sort
variable {α β : Type} [Inhabited β] {t : Ty α} {enc : β → List Value} {w w' : World} {base B : Nat} {v : Value} {l : List α} {e : TypeId}
/-- What is sorted: the row's elements (their cells decoded as β), before; and what the row is behind the sort. -/
theorem GrowR.sort (h : GrowR t e w base B v l) (hl : 0 < l.length) (hB : B ≤ base) (hk : ∀ x, (enc x).length = t.k) (h0 : 0 < t.k) (hdec : ∀ es a, t.R w B es a → ∃ x, enc x = es) :
    ∃ (g cap : Nat) (d : Array β), v = .slice (some ⟨g, 0, none⟩) d.size cap ∧ d.size = l.length ∧ base ≤ g ∧ g < w.heap.size ∧ HoldsK enc t.k w g 0 d ∧ (∀ (i : Nat) (a : α) (x : β), l[i]? = some a → d.toList[i]? = some x → t.R w B (enc x) a) ∧
      ∀ (d' : Array β) (n : Nat) (os : Array Obj), d'.toList.Perm d.toList → w.grownBy (sortWorldK enc t.k w g 0 n d' os) (some g) ∧ ∃ l' : List α, l'.Perm l ∧ GrowR t e (sortWorldK enc t.k w g 0 n d' os) base B v l' ∧
        ∀ (i : Nat) (a : α) (x : β), l'[i]? = some a → d'.toList[i]? = some x → t.R w B (enc x) a := by
  obtain ⟨css, h1, h2, h3⟩ := h
  rcases h1.2 with ⟨rfl, hz⟩ | ⟨g, cap, cur, rfl, hb, hg, hn, hm, hs, ht⟩
  · omega
  have hx : ∃ d0 : List β, d0.map enc = css := by
    have key : ∀ (css : List (List Value)) (l : List α), css.length = l.length → (∀ (i : Nat) (a : α) (es : List Value), l[i]? = some a → css[i]? = some es → t.R w B es a) → ∃ d0 : List β, d0.map enc = css := by
      intro css
      induction css with
      | nil => intro l _ _; exact ⟨[], rfl⟩
      | cons es css ih =>
        intro l hlen hR
        cases l with
        | nil => simp at hlen
        | cons a l =>
          obtain ⟨d0, hd0⟩ := ih l (by simpa using hlen) fun i a' es' q1 q2 => hR (i + 1) a' es' (by simpa using q1) (by simpa using q2)
          obtain ⟨x, hx⟩ := hdec es a (hR 0 a es rfl rfl)
          exact ⟨x :: d0, by rw [List.map_cons, hx, hd0]⟩
    exact key css l h2 h3
  obtain ⟨d0, rfl⟩ := hx
  have hd0 : d0.length = l.length := by rw [← h2, List.length_map]
  have hlt : g < w.heap.size := Box.size (t := e) hg
  have hfl : (d0.map enc).flatten.length = l.length * t.k := by
    rw [flat_len (fun es hes => by obtain ⟨x, _, rfl⟩ := List.mem_map.1 hes; exact hk x), List.length_map, hd0]
  have hcap : l.length * t.k ≤ cur.size := by rw [hs]; exact Nat.mul_le_mul_right _ hn
  refine ⟨g, cap, d0.toArray, by simp [hd0], by simp [hd0], hb, hlt, ?_, ?_, ?_⟩
  · intro j hj
    rw [size_flatK] at hj
    have hj' : j < l.length * t.k := by simpa [hd0] using hj
    refine ⟨?_, Box.frozen (t := e) hg _⟩
    rw [Nat.zero_add, Box.cell (t := e) hg]
    have hA := flat_of (d := d0.toArray) hk h0 hj
    have hB' : (cur.toList.take (l.length * t.k))[j]? = ((d0.map enc).flatten)[j]? := by rw [ht]
    rw [List.getElem?_take, if_pos hj'] at hB'
    rw [show (id (flatK enc t.k d0.toArray)[j]! : Value) = (flatK enc t.k d0.toArray)[j]! from rfl, hA]
    rw [show (d0.toArray).toList = d0 by simp, ← hB', Array.getElem?_toList, Array.getElem?_eq_getElem (show j < cur.size by omega)]
    rfl
  · intro i a x q1 q2
    exact h3 i a (enc x) q1 (by rw [List.getElem?_map]; simp at q2; rw [q2]; rfl)
  · intro d' n os hp
    have hp' : d'.toList.Perm d0 := by simpa using hp
    have hdl : d'.size = l.length := by have := hp'.length_eq; rw [← hd0, ← this]; simp
    refine ⟨grown_putK, ?_⟩
    obtain ⟨z, hz1, hz2⟩ := perm_lift (Prod.snd : α × β → β) hp'.symm (l.zip d0) (by rw [List.map_snd_zip (by omega)])
    have hzl : z.length = l.length := by rw [← hz1.length_eq, List.length_zip, hd0]; omega
    have hzR : ∀ p ∈ z, t.R w B (enc p.2) p.1 := by
      intro p hpz
      have := hz1.mem_iff.2 hpz
      obtain ⟨i, hi, rfl⟩ := List.getElem_of_mem this
      rw [List.length_zip] at hi
      rw [List.getElem_zip]
      exact h3 i _ _ (List.getElem?_eq_getElem (by omega)) (by rw [List.getElem?_map, List.getElem?_eq_getElem (by omega)]; rfl)
    have hR' : ∀ (i : Nat) (a : α) (x : β), (z.map Prod.fst)[i]? = some a → d'.toList[i]? = some x → t.R w B (enc x) a := by
      intro i a x q1 q2
      have hi := (List.getElem?_eq_some_iff.1 q1).1
      rw [List.length_map] at hi
      rw [List.getElem?_map, List.getElem?_eq_getElem hi] at q1
      rw [← hz2, List.getElem?_map, List.getElem?_eq_getElem hi] at q2
      injection q1 with q1
      injection q2 with q2
      rw [← q1, ← q2]
      exact hzR _ (List.getElem_mem hi)
    refine ⟨z.map Prod.fst, ?_, ⟨d'.toList.map enc, ⟨?_, .inr ⟨g, cap, putCells id 0 (flatK enc t.k d') cur, ?_, hb, heap_putK hg, ?_, hm, ?_, ?_⟩⟩, by rw [List.length_map, List.length_map, hzl]; simp [hdl], ?_⟩, hR'⟩
    · have := (hz1.map Prod.fst).symm
      rwa [List.map_fst_zip (by omega)] at this
    · rw [flat_len (k := t.k) (fun es hes => by obtain ⟨x, _, rfl⟩ := List.mem_map.1 hes; exact hk x), List.length_map, List.length_map, hzl]; simp [hdl]
    · rw [List.length_map, hzl]
    · rw [List.length_map, hzl]; exact hn
    · unfold putCells; rw [Array.size_mapIdx]; exact hs
    · rw [List.length_map, hzl]
      apply List.ext_getElem?
      intro j
      by_cases hj : j < l.length * t.k
      · have hj2 : j < (flatK enc t.k d').size := by rw [size_flatK, hdl]; exact hj
        have hj3 : j < ((d'.toList.map enc).flatten).length := by rw [flat_len (k := t.k) (fun es hes => by obtain ⟨x, _, rfl⟩ := List.mem_map.1 hes; exact hk x), List.length_map]; simp [hdl]; exact hj
        rw [List.getElem?_take, if_pos hj, Array.getElem?_toList, putCells_get _ _ (by rw [size_flatK, hdl]; omega) hj2, flat_of hk h0 (by rw [hdl]; exact hj), List.getElem?_eq_getElem hj3]
        rfl
      · rw [List.getElem?_eq_none (by rw [List.length_take]; omega), List.getElem?_eq_none (by rw [flat_len (k := t.k) (fun es hes => by obtain ⟨x, _, rfl⟩ := List.mem_map.1 hes; exact hk x), List.length_map]; simp [hdl]; omega)]
    · intro i a es q1 q2
      rw [List.getElem?_map] at q2
      have hi := (List.getElem?_eq_some_iff.1 q1).1
      rw [List.length_map] at hi
      have hid : i < d'.toList.length := by simp; omega
      rw [List.getElem?_eq_getElem hid] at q2
      injection q2 with q2
      subst q2
      exact t.keep (hR' i a _ q1 (List.getElem?_eq_getElem hid)) fun b hb' => heap_putK_other (by omega) (by omega)
end SortGrow
end Go.Proofs.YtaabmaoldhoinaaGreat
namespace Go.Proofs
open Go.Shelf
def Tryz.sortPc_ren : Go.Shelf.Ren := ⟨fun | 6 => 96 | 15 => 100 | 14 => 118 | 28 => 129 | 29 => 130 | 20 => 134 | 21 => 135 | 22 => 136 | 23 => 137 | 24 => 138 | 25 => 139 | 26 => 140 | 27 => 141 | 46 => 147 | 47 => 143 | 48 => 144 | 49 => 148 | 50 => 149 | 57 => 151 | n => n, fun | 22 => 51 | 24 => 37 | 25 => 124 | 3 => 3 | 39 => 127 | 0 => 0 | 53 => 151 | 55 => 153 | 4 => 4 | 46 => 143 | 45 => 142 | 50 => 148 | 5 => 5 | 9 => 9 | 66 => 161 | 70 => 165 | 76 => 169 | 77 => 170 | n => n, fun | n => n⟩
theorem Tryz.sortPc : Go.Proofs.SlLaysF0.n6 Tryz.prog Tryz.sortPc_ren := {
  mixed := by kernel_rfl
  f6 := ⟨Tryz.f96.name, by decide, Tryz.func96.trans (congrArg some (by kernel_rfl))⟩
  f14 := ⟨Tryz.f118.name, by decide, Tryz.func118.trans (congrArg some (by kernel_rfl))⟩
  f15 := Tryz.func100.trans (congrArg some (by kernel_rfl))
  f20 := ⟨Tryz.f134.name, by decide, Tryz.func134.trans (congrArg some (by kernel_rfl))⟩
  f21 := ⟨Tryz.f135.name, by decide, Tryz.func135.trans (congrArg some (by kernel_rfl))⟩
  f22 := ⟨Tryz.f136.name, by decide, Tryz.func136.trans (congrArg some (by kernel_rfl))⟩
  f23 := ⟨Tryz.f137.name, by decide, Tryz.func137.trans (congrArg some (by kernel_rfl))⟩
  f24 := ⟨Tryz.f138.name, by decide, Tryz.func138.trans (congrArg some (by kernel_rfl))⟩
  f25 := ⟨Tryz.f139.name, by decide, Tryz.func139.trans (congrArg some (by kernel_rfl))⟩
  f26 := ⟨Tryz.f140.name, by decide, Tryz.func140.trans (congrArg some (by kernel_rfl))⟩
  f27 := ⟨Tryz.f141.name, by decide, Tryz.func141.trans (congrArg some (by kernel_rfl))⟩
  f28 := Tryz.func129.trans (congrArg some (by kernel_rfl))
  f29 := Tryz.func130.trans (congrArg some (by kernel_rfl))
  f46 := ⟨Tryz.f147.name, by decide, Tryz.func147.trans (congrArg some (by kernel_rfl))⟩
  f47 := Tryz.func143.trans (congrArg some (by kernel_rfl))
  f48 := Tryz.func144.trans (congrArg some (by kernel_rfl))
  f49 := ⟨Tryz.f148.name, by decide, Tryz.func148.trans (congrArg some (by kernel_rfl))⟩
  f50 := ⟨Tryz.f149.name, by decide, Tryz.func149.trans (congrArg some (by kernel_rfl))⟩
  f57 := ⟨Tryz.f151.name, by decide, Tryz.func151.trans (congrArg some (by kernel_rfl))⟩
  t0 := Tryz.underlying0
  a0 := Tryz.isAgg0
  z0 := Tryz.sizeOf0
  v0 := Tryz.zeroValue0
  t3 := Tryz.underlying3
  a3 := Tryz.isAgg3
  z3 := Tryz.sizeOf3
  v3 := Tryz.zeroValue3
  t4 := Tryz.underlying4
  a4 := Tryz.isAgg4
  z4 := Tryz.sizeOf4
  v4 := Tryz.zeroValue4
  t5 := Tryz.underlying5
  a5 := Tryz.isAgg5
  z5 := Tryz.sizeOf5
  v5 := Tryz.zeroValue5
  t9 := Tryz.underlying9
  a9 := Tryz.isAgg9
  z9 := Tryz.sizeOf9
  v9 := Tryz.zeroValue9
  t22 := Tryz.underlying51
  a22 := Tryz.isAgg51
  z22 := Tryz.sizeOf51
  v22 := Tryz.zeroValue51
  t25 := Tryz.underlying124
  a25 := Tryz.isAgg124
  z25 := Tryz.sizeOf124
  v25 := Tryz.zeroValue124
  t39 := Tryz.underlying127
  a39 := Tryz.isAgg127
  z39 := Tryz.sizeOf127
  v39 := Tryz.zeroValue127
  t45 := Tryz.underlying142
  a45 := Tryz.isAgg142
  z45 := Tryz.sizeOf142
  v45 := Tryz.zeroValue142
  t46 := Tryz.underlying143
  a46 := Tryz.isAgg143
  z46 := Tryz.sizeOf143
  v46 := Tryz.zeroValue143
  t50 := Tryz.underlying148
  a50 := Tryz.isAgg148
  z50 := Tryz.sizeOf148
  v50 := Tryz.zeroValue148
  t53 := Tryz.underlying151
  a53 := Tryz.isAgg151
  z53 := Tryz.sizeOf151
  v53 := Tryz.zeroValue151
  t55 := Tryz.underlying153
  a55 := Tryz.isAgg153
  z55 := Tryz.sizeOf153
  v55 := Tryz.zeroValue153
  t66 := Tryz.underlying161
  a66 := Tryz.isAgg161
  z66 := Tryz.sizeOf161
  v66 := Tryz.zeroValue161
  t70 := Tryz.underlying165
  a70 := Tryz.isAgg165
  z70 := Tryz.sizeOf165
  v70 := Tryz.zeroValue165
  t76 := Tryz.underlying169
  a76 := Tryz.isAgg169
  z76 := Tryz.sizeOf169
  v76 := Tryz.zeroValue169
  t77 := Tryz.underlying170
  a77 := Tryz.isAgg170
  z77 := Tryz.sizeOf170
  v77 := Tryz.zeroValue170 }
end Go.Proofs
