/-
  The structs of the laws as readings; their sizes, counts and marks; what opens them into their cells.
-/
import Derived.Test.YtcljjdmfnniobaaGreatRow
import Derived.Test.YtcljjdmfnniobaaGreatMark
namespace Go.Proofs.YtcljjdmfnniobaaGreat
set_option linter.unusedVariables false
open Go.RowKit
theorem tInt.mk {w : World} {B : Nat} {x : Int} (h : (Lit.int .i64 x).wf = true) : tInt.R w B [.int .i64 x] x := ⟨rfl, h⟩
theorem tInt.mkO {w : World} {x : Int} (h : (Lit.int .i64 x).wf = true) : tInt.O w [.int .i64 x] x [] := ⟨rfl, h, rfl⟩
theorem sl_one {K : IntKind} {w : World} {B : Nat} {cs : List Value} {l : List Int} (h : (tSl K).R w B cs l) : ∃ A n c, cs = [.slice A n c] ∧ n ≤ c ∧ c ≤ 9223372036854775807 ∧ Ints K w B A n l := h
theorem slO_one {K : IntKind} {w : World} {cs : List Value} {l : List Int} {F : List Nat} (h : (tSl K).O w cs l F) : ∃ A c, cs = [.slice A l.length c] ∧ l.length ≤ c ∧ c ≤ 9223372036854775807 := by
  rcases h with ⟨A, c, h1, h2, rfl, _⟩ | ⟨g, off, c, cur, t, h1, h2, h3, h4, _⟩
  · exact ⟨A, c, h1, Nat.zero_le _, h2⟩
  · exact ⟨_, c, h1, h3, h4⟩
theorem row_one {α : Type} {t : Ty α} {w : World} {B : Nat} {cs : List Value} {l : List α} (h : t.row.R w B cs l) : ∃ A n c, cs = [.slice A n c] ∧ n ≤ c ∧ c ≤ 9223372036854775807 ∧ l.length = n := by
  obtain ⟨A, n, c, h1, h2, h3, h4, _⟩ := h
  exact ⟨A, n, c, h1, h2, h3, h4⟩
theorem rowO_one {α : Type} {t : Ty α} {w : World} {cs : List Value} {l : List α} {F : List Nat} (h : t.row.O w cs l F) : ∃ A c, cs = [.slice A l.length c] ∧ l.length ≤ c ∧ c ≤ 9223372036854775807 := by
  rcases h with ⟨A, c, h1, h2, rfl, _⟩ | ⟨g, off, c, cur, e, Fs, h1, h2, h3, h4, _⟩
  · exact ⟨A, c, h1, Nat.zero_le _, h2⟩
  · exact ⟨_, c, h1, h3, h4⟩

/-! ### Cell -/
abbrev DCell := List Int
abbrev tCell : Ty DCell := tBy
def szCell (p : DCell) : Nat := (p).length
def cntCell (p : DCell) : Nat := (p).length
def rcCell (p : DCell) : Nat := (p).length
def mkCell (k : Int) (p : DCell) : DCell := marks8 (k) (p).length
def rmCell (k : Int) (p : DCell) : DCell := marks8 (k) (p).length
theorem rcCell_le (p : DCell) : rcCell p ≤ 5 + 5 * szCell p := by
  simp only [rcCell, szCell]
  omega
theorem cntCell_le (p : DCell) : cntCell p ≤ 5 * szCell p := by
  simp only [cntCell, szCell]
  omega
theorem openCell {w : World} {B : Nat} {cs : List Value} {p : DCell} (h : tCell.R w B cs p) : ∃ A0 n0 c0, cs = [.slice A0 n0 c0] ∧ n0 ≤ c0 ∧ c0 ≤ 9223372036854775807 ∧ (p).length = n0 ∧ tBy.R w B [.slice A0 n0 c0] (p) := by
  obtain ⟨A1, n1, c1, rfl, he1, hf1, hg1⟩ := sl_one h
  exact ⟨A1, n1, c1, rfl, he1, hf1, hg1.1, ⟨A1, n1, c1, rfl, he1, hf1, hg1⟩⟩
theorem makeCell {w : World} {B : Nat} {p : DCell} {v0 : Value} (h0 : tBy.R w B [v0] (p)) : tCell.R w B [v0] p := h0
theorem openOCell {w : World} {cs : List Value} {p : DCell} {F : List Nat} (h : tCell.O w cs p F) : ∃ A0 c0 F0, cs = [.slice A0 (p).length c0] ∧ F = F0 ∧ (p).length ≤ c0 ∧ c0 ≤ 9223372036854775807 ∧ tBy.O w [.slice A0 (p).length c0] (p) F0 := by
  have hr1 := h
  obtain ⟨A1, c1, rfl, he1, hf1⟩ := slO_one h
  exact ⟨A1, c1, F, rfl, by simp, he1, hf1, hr1⟩
theorem makeOCell {w : World} {p : DCell} {v0 : Value} {F0 : List Nat} (h0 : tBy.O w [v0] (p) F0) : ∃ F, tCell.O w [v0] p F ∧ F = F0 := ⟨_, h0, by simp⟩
/-! ### Peeled -/
abbrev DPeeled := Int × Int × Int × List Int × DCell
abbrev tPeeled : Ty DPeeled := tInt.prod (tInt.prod (tInt.prod (tBy.prod (tCell))))
def szPeeled (p : DPeeled) : Nat := (p.2.2.2.1).length + szCell (p.2.2.2.2)
def cntPeeled (p : DPeeled) : Nat := (p.2.2.2.1).length + cntCell (p.2.2.2.2)
def rcPeeled (p : DPeeled) : Nat := 1 + 1 + 1 + (p.2.2.2.1).length + (p.2.2.2.2).length
def mkPeeled (k : Int) (p : DPeeled) : DPeeled := (p.1, p.2.1, p.2.2.1, marks8 (k) (p.2.2.2.1).length, mkCell (k + (((p.2.2.2.1).length : Nat) : Int)) (p.2.2.2.2))
def rmPeeled (k : Int) (p : DPeeled) : DPeeled := (k, k + 1, k + 1 + 1, marks8 (k + 1 + 1 + 1) (p.2.2.2.1).length, marks8 (k + 1 + 1 + 1 + (((p.2.2.2.1).length : Nat) : Int)) (p.2.2.2.2).length)
theorem rcPeeled_le (p : DPeeled) : rcPeeled p ≤ 5 + 5 * szPeeled p := by
  simp only [rcPeeled, szPeeled, szCell]
  omega
theorem cntPeeled_le (p : DPeeled) : cntPeeled p ≤ 5 * szPeeled p := by
  simp only [cntPeeled, cntCell, szPeeled, szCell]
  omega
theorem openPeeled {w : World} {B : Nat} {cs : List Value} {p : DPeeled} (h : tPeeled.R w B cs p) : ∃ A3 n3 c3 A4 n4 c4, cs = [.int .i64 (p.1), .int .i64 (p.2.1), .int .i64 (p.2.2.1), .slice A3 n3 c3, .slice A4 n4 c4] ∧ (Lit.int .i64 (p.1)).wf = true ∧ (Lit.int .i64 (p.2.1)).wf = true ∧ (Lit.int .i64 (p.2.2.1)).wf = true ∧ n3 ≤ c3 ∧ c3 ≤ 9223372036854775807 ∧ (p.2.2.2.1).length = n3 ∧ tBy.R w B [.slice A3 n3 c3] (p.2.2.2.1) ∧ n4 ≤ c4 ∧ c4 ≤ 9223372036854775807 ∧ (p.2.2.2.2).length = n4 ∧ tBy.R w B [.slice A4 n4 c4] (p.2.2.2.2) := by
  obtain ⟨ca1, cb1, rfl, ha1, hb1⟩ := h
  obtain ⟨rfl, hi2⟩ := ha1
  obtain ⟨ca3, cb3, rfl, ha3, hb3⟩ := hb1
  obtain ⟨rfl, hi4⟩ := ha3
  obtain ⟨ca5, cb5, rfl, ha5, hb5⟩ := hb3
  obtain ⟨rfl, hi6⟩ := ha5
  obtain ⟨ca7, cb7, rfl, ha7, hb7⟩ := hb5
  obtain ⟨A8, n8, c8, rfl, he8, hf8, hg8⟩ := sl_one ha7
  obtain ⟨A9, n9, c9, rfl, he9, hf9, hg9⟩ := sl_one hb7
  exact ⟨A8, n8, c8, A9, n9, c9, rfl, hi2, hi4, hi6, he8, hf8, hg8.1, ⟨A8, n8, c8, rfl, he8, hf8, hg8⟩, he9, hf9, hg9.1, ⟨A9, n9, c9, rfl, he9, hf9, hg9⟩⟩
theorem makePeeled {w : World} {B : Nat} {p : DPeeled} {v3 v4 : Value} (h0 : (Lit.int .i64 (p.1)).wf = true) (h1 : (Lit.int .i64 (p.2.1)).wf = true) (h2 : (Lit.int .i64 (p.2.2.1)).wf = true) (h3 : tBy.R w B [v3] (p.2.2.2.1)) (h4 : tBy.R w B [v4] (p.2.2.2.2)) : tPeeled.R w B [.int .i64 (p.1), .int .i64 (p.2.1), .int .i64 (p.2.2.1), v3, v4] p := ⟨_, _, rfl, ⟨rfl, h0⟩, ⟨_, _, rfl, ⟨rfl, h1⟩, ⟨_, _, rfl, ⟨rfl, h2⟩, ⟨_, _, rfl, h3, h4⟩⟩⟩⟩
theorem openOPeeled {w : World} {cs : List Value} {p : DPeeled} {F : List Nat} (h : tPeeled.O w cs p F) : ∃ A3 c3 F3 A4 c4 F4, cs = [.int .i64 (p.1), .int .i64 (p.2.1), .int .i64 (p.2.2.1), .slice A3 (p.2.2.2.1).length c3, .slice A4 (p.2.2.2.2).length c4] ∧ F = F3 ++ F4 ∧ (Lit.int .i64 (p.1)).wf = true ∧ (Lit.int .i64 (p.2.1)).wf = true ∧ (Lit.int .i64 (p.2.2.1)).wf = true ∧ (p.2.2.2.1).length ≤ c3 ∧ c3 ≤ 9223372036854775807 ∧ tBy.O w [.slice A3 (p.2.2.2.1).length c3] (p.2.2.2.1) F3 ∧ (p.2.2.2.2).length ≤ c4 ∧ c4 ≤ 9223372036854775807 ∧ tBy.O w [.slice A4 (p.2.2.2.2).length c4] (p.2.2.2.2) F4 := by
  obtain ⟨ca1, cb1, Fa1, Fb1, rfl, rfl, ha1, hb1⟩ := h
  obtain ⟨rfl, hi2, rfl⟩ := ha1
  obtain ⟨ca3, cb3, Fa3, Fb3, rfl, rfl, ha3, hb3⟩ := hb1
  obtain ⟨rfl, hi4, rfl⟩ := ha3
  obtain ⟨ca5, cb5, Fa5, Fb5, rfl, rfl, ha5, hb5⟩ := hb3
  obtain ⟨rfl, hi6, rfl⟩ := ha5
  obtain ⟨ca7, cb7, Fa7, Fb7, rfl, rfl, ha7, hb7⟩ := hb5
  have hr8 := ha7
  obtain ⟨A8, c8, rfl, he8, hf8⟩ := slO_one ha7
  have hr9 := hb7
  obtain ⟨A9, c9, rfl, he9, hf9⟩ := slO_one hb7
  exact ⟨A8, c8, Fa7, A9, c9, Fb7, rfl, by simp, hi2, hi4, hi6, he8, hf8, hr8, he9, hf9, hr9⟩
theorem makeOPeeled {w : World} {p : DPeeled} {v3 v4 : Value} {F3 F4 : List Nat} (h0 : (Lit.int .i64 (p.1)).wf = true) (h1 : (Lit.int .i64 (p.2.1)).wf = true) (h2 : (Lit.int .i64 (p.2.2.1)).wf = true) (h3 : tBy.O w [v3] (p.2.2.2.1) F3) (h4 : tBy.O w [v4] (p.2.2.2.2) F4) : ∃ F, tPeeled.O w [.int .i64 (p.1), .int .i64 (p.2.1), .int .i64 (p.2.2.1), v3, v4] p F ∧ F = F3 ++ F4 := ⟨_, ⟨_, _, _, _, rfl, rfl, ⟨rfl, h0, rfl⟩, ⟨_, _, _, _, rfl, rfl, ⟨rfl, h1, rfl⟩, ⟨_, _, _, _, rfl, rfl, ⟨rfl, h2, rfl⟩, ⟨_, _, _, _, rfl, rfl, h3, h4⟩⟩⟩⟩, by simp⟩
/-! ### Piece -/
abbrev DPiece := Int × Int × Int × List Int
abbrev tPiece : Ty DPiece := tInt.prod (tInt.prod (tInt.prod (tBy)))
def szPiece (p : DPiece) : Nat := (p.2.2.2).length
def cntPiece (p : DPiece) : Nat := (p.2.2.2).length
def rcPiece (p : DPiece) : Nat := 1 + 1 + 1 + (p.2.2.2).length
def mkPiece (k : Int) (p : DPiece) : DPiece := (p.1, p.2.1, p.2.2.1, marks8 (k) (p.2.2.2).length)
def rmPiece (k : Int) (p : DPiece) : DPiece := (k, k + 1, k + 1 + 1, marks8 (k + 1 + 1 + 1) (p.2.2.2).length)
theorem rcPiece_le (p : DPiece) : rcPiece p ≤ 5 + 5 * szPiece p := by
  simp only [rcPiece, szPiece]
  omega
theorem cntPiece_le (p : DPiece) : cntPiece p ≤ 5 * szPiece p := by
  simp only [cntPiece, szPiece]
  omega
theorem openPiece {w : World} {B : Nat} {cs : List Value} {p : DPiece} (h : tPiece.R w B cs p) : ∃ A3 n3 c3, cs = [.int .i64 (p.1), .int .i64 (p.2.1), .int .i64 (p.2.2.1), .slice A3 n3 c3] ∧ (Lit.int .i64 (p.1)).wf = true ∧ (Lit.int .i64 (p.2.1)).wf = true ∧ (Lit.int .i64 (p.2.2.1)).wf = true ∧ n3 ≤ c3 ∧ c3 ≤ 9223372036854775807 ∧ (p.2.2.2).length = n3 ∧ tBy.R w B [.slice A3 n3 c3] (p.2.2.2) := by
  obtain ⟨ca1, cb1, rfl, ha1, hb1⟩ := h
  obtain ⟨rfl, hi2⟩ := ha1
  obtain ⟨ca3, cb3, rfl, ha3, hb3⟩ := hb1
  obtain ⟨rfl, hi4⟩ := ha3
  obtain ⟨ca5, cb5, rfl, ha5, hb5⟩ := hb3
  obtain ⟨rfl, hi6⟩ := ha5
  obtain ⟨A7, n7, c7, rfl, he7, hf7, hg7⟩ := sl_one hb5
  exact ⟨A7, n7, c7, rfl, hi2, hi4, hi6, he7, hf7, hg7.1, ⟨A7, n7, c7, rfl, he7, hf7, hg7⟩⟩
theorem makePiece {w : World} {B : Nat} {p : DPiece} {v3 : Value} (h0 : (Lit.int .i64 (p.1)).wf = true) (h1 : (Lit.int .i64 (p.2.1)).wf = true) (h2 : (Lit.int .i64 (p.2.2.1)).wf = true) (h3 : tBy.R w B [v3] (p.2.2.2)) : tPiece.R w B [.int .i64 (p.1), .int .i64 (p.2.1), .int .i64 (p.2.2.1), v3] p := ⟨_, _, rfl, ⟨rfl, h0⟩, ⟨_, _, rfl, ⟨rfl, h1⟩, ⟨_, _, rfl, ⟨rfl, h2⟩, h3⟩⟩⟩
theorem openOPiece {w : World} {cs : List Value} {p : DPiece} {F : List Nat} (h : tPiece.O w cs p F) : ∃ A3 c3 F3, cs = [.int .i64 (p.1), .int .i64 (p.2.1), .int .i64 (p.2.2.1), .slice A3 (p.2.2.2).length c3] ∧ F = F3 ∧ (Lit.int .i64 (p.1)).wf = true ∧ (Lit.int .i64 (p.2.1)).wf = true ∧ (Lit.int .i64 (p.2.2.1)).wf = true ∧ (p.2.2.2).length ≤ c3 ∧ c3 ≤ 9223372036854775807 ∧ tBy.O w [.slice A3 (p.2.2.2).length c3] (p.2.2.2) F3 := by
  obtain ⟨ca1, cb1, Fa1, Fb1, rfl, rfl, ha1, hb1⟩ := h
  obtain ⟨rfl, hi2, rfl⟩ := ha1
  obtain ⟨ca3, cb3, Fa3, Fb3, rfl, rfl, ha3, hb3⟩ := hb1
  obtain ⟨rfl, hi4, rfl⟩ := ha3
  obtain ⟨ca5, cb5, Fa5, Fb5, rfl, rfl, ha5, hb5⟩ := hb3
  obtain ⟨rfl, hi6, rfl⟩ := ha5
  have hr7 := hb5
  obtain ⟨A7, c7, rfl, he7, hf7⟩ := slO_one hb5
  exact ⟨A7, c7, Fb5, rfl, by simp, hi2, hi4, hi6, he7, hf7, hr7⟩
theorem makeOPiece {w : World} {p : DPiece} {v3 : Value} {F3 : List Nat} (h0 : (Lit.int .i64 (p.1)).wf = true) (h1 : (Lit.int .i64 (p.2.1)).wf = true) (h2 : (Lit.int .i64 (p.2.2.1)).wf = true) (h3 : tBy.O w [v3] (p.2.2.2) F3) : ∃ F, tPiece.O w [.int .i64 (p.1), .int .i64 (p.2.1), .int .i64 (p.2.2.1), v3] p F ∧ F = F3 := ⟨_, ⟨_, _, _, _, rfl, rfl, ⟨rfl, h0, rfl⟩, ⟨_, _, _, _, rfl, rfl, ⟨rfl, h1, rfl⟩, ⟨_, _, _, _, rfl, rfl, ⟨rfl, h2, rfl⟩, h3⟩⟩⟩, by simp⟩
/-! ### Whole -/
abbrev DWhole := Int × Int × Int × List DPiece
abbrev tWhole : Ty DWhole := tInt.prod (tInt.prod (tInt.prod (tPiece.row)))
def szWhole (p : DWhole) : Nat := rsz szPiece (p.2.2.2)
def cntWhole (p : DWhole) : Nat := rsum rcPiece (p.2.2.2)
def rcWhole (p : DWhole) : Nat := 1 + 1 + 1 + rsum rcPiece (p.2.2.2)
def mkWhole (k : Int) (p : DWhole) : DWhole := (p.1, p.2.1, p.2.2.1, rmk rcPiece rmPiece (k) (p.2.2.2))
def rmWhole (k : Int) (p : DWhole) : DWhole := (k, k + 1, k + 1 + 1, rmk rcPiece rmPiece (k + 1 + 1 + 1) (p.2.2.2))
theorem rcWhole_le (p : DWhole) : rcWhole p ≤ 5 + 5 * szWhole p := by
  have h3 := rsum_M (c := rcPiece) (s := szPiece) (M := 5) rcPiece_le (p.2.2.2)
  simp only [rcWhole, szWhole]
  omega
theorem cntWhole_le (p : DWhole) : cntWhole p ≤ 5 * szWhole p := by
  have h3 := rsum_M (c := rcPiece) (s := szPiece) (M := 5) rcPiece_le (p.2.2.2)
  simp only [cntWhole, szWhole]
  omega
theorem openWhole {w : World} {B : Nat} {cs : List Value} {p : DWhole} (h : tWhole.R w B cs p) : ∃ A3 n3 c3, cs = [.int .i64 (p.1), .int .i64 (p.2.1), .int .i64 (p.2.2.1), .slice A3 n3 c3] ∧ (Lit.int .i64 (p.1)).wf = true ∧ (Lit.int .i64 (p.2.1)).wf = true ∧ (Lit.int .i64 (p.2.2.1)).wf = true ∧ n3 ≤ c3 ∧ c3 ≤ 9223372036854775807 ∧ (p.2.2.2).length = n3 ∧ tPiece.row.R w B [.slice A3 n3 c3] (p.2.2.2) := by
  obtain ⟨ca1, cb1, rfl, ha1, hb1⟩ := h
  obtain ⟨rfl, hi2⟩ := ha1
  obtain ⟨ca3, cb3, rfl, ha3, hb3⟩ := hb1
  obtain ⟨rfl, hi4⟩ := ha3
  obtain ⟨ca5, cb5, rfl, ha5, hb5⟩ := hb3
  obtain ⟨rfl, hi6⟩ := ha5
  have hr7 := hb5
  obtain ⟨A7, n7, c7, rfl, he7, hf7, hg7⟩ := row_one hb5
  exact ⟨A7, n7, c7, rfl, hi2, hi4, hi6, he7, hf7, hg7, hr7⟩
theorem makeWhole {w : World} {B : Nat} {p : DWhole} {v3 : Value} (h0 : (Lit.int .i64 (p.1)).wf = true) (h1 : (Lit.int .i64 (p.2.1)).wf = true) (h2 : (Lit.int .i64 (p.2.2.1)).wf = true) (h3 : tPiece.row.R w B [v3] (p.2.2.2)) : tWhole.R w B [.int .i64 (p.1), .int .i64 (p.2.1), .int .i64 (p.2.2.1), v3] p := ⟨_, _, rfl, ⟨rfl, h0⟩, ⟨_, _, rfl, ⟨rfl, h1⟩, ⟨_, _, rfl, ⟨rfl, h2⟩, h3⟩⟩⟩
theorem openOWhole {w : World} {cs : List Value} {p : DWhole} {F : List Nat} (h : tWhole.O w cs p F) : ∃ A3 c3 F3, cs = [.int .i64 (p.1), .int .i64 (p.2.1), .int .i64 (p.2.2.1), .slice A3 (p.2.2.2).length c3] ∧ F = F3 ∧ (Lit.int .i64 (p.1)).wf = true ∧ (Lit.int .i64 (p.2.1)).wf = true ∧ (Lit.int .i64 (p.2.2.1)).wf = true ∧ (p.2.2.2).length ≤ c3 ∧ c3 ≤ 9223372036854775807 ∧ tPiece.row.O w [.slice A3 (p.2.2.2).length c3] (p.2.2.2) F3 := by
  obtain ⟨ca1, cb1, Fa1, Fb1, rfl, rfl, ha1, hb1⟩ := h
  obtain ⟨rfl, hi2, rfl⟩ := ha1
  obtain ⟨ca3, cb3, Fa3, Fb3, rfl, rfl, ha3, hb3⟩ := hb1
  obtain ⟨rfl, hi4, rfl⟩ := ha3
  obtain ⟨ca5, cb5, Fa5, Fb5, rfl, rfl, ha5, hb5⟩ := hb3
  obtain ⟨rfl, hi6, rfl⟩ := ha5
  have hr7 := hb5
  obtain ⟨A7, c7, rfl, he7, hf7⟩ := rowO_one hb5
  exact ⟨A7, c7, Fb5, rfl, by simp, hi2, hi4, hi6, he7, hf7, hr7⟩
theorem makeOWhole {w : World} {p : DWhole} {v3 : Value} {F3 : List Nat} (h0 : (Lit.int .i64 (p.1)).wf = true) (h1 : (Lit.int .i64 (p.2.1)).wf = true) (h2 : (Lit.int .i64 (p.2.2.1)).wf = true) (h3 : tPiece.row.O w [v3] (p.2.2.2) F3) : ∃ F, tWhole.O w [.int .i64 (p.1), .int .i64 (p.2.1), .int .i64 (p.2.2.1), v3] p F ∧ F = F3 := ⟨_, ⟨_, _, _, _, rfl, rfl, ⟨rfl, h0, rfl⟩, ⟨_, _, _, _, rfl, rfl, ⟨rfl, h1, rfl⟩, ⟨_, _, _, _, rfl, rfl, ⟨rfl, h2, rfl⟩, h3⟩⟩⟩, by simp⟩
/-! ### Desk -/
abbrev DDesk := List DWhole × List Int
abbrev tDesk : Ty DDesk := tWhole.row.prod (tIs)
def szDesk (p : DDesk) : Nat := rsz szWhole (p.1) + (p.2).length
def cntDesk (p : DDesk) : Nat := rsum rcWhole (p.1) + (p.2).length
def rcDesk (p : DDesk) : Nat := rsum rcWhole (p.1) + (p.2).length
def mkDesk (k : Int) (p : DDesk) : DDesk := (rmk rcWhole rmWhole (k) (p.1), marks (k + ((rsum rcWhole (p.1) : Nat) : Int)) (p.2).length)
def rmDesk (k : Int) (p : DDesk) : DDesk := (rmk rcWhole rmWhole (k) (p.1), marks (k + ((rsum rcWhole (p.1) : Nat) : Int)) (p.2).length)
theorem rcDesk_le (p : DDesk) : rcDesk p ≤ 5 + 5 * szDesk p := by
  have h0 := rsum_M (c := rcWhole) (s := szWhole) (M := 5) rcWhole_le (p.1)
  simp only [rcDesk, szDesk]
  omega
theorem cntDesk_le (p : DDesk) : cntDesk p ≤ 5 * szDesk p := by
  have h0 := rsum_M (c := rcWhole) (s := szWhole) (M := 5) rcWhole_le (p.1)
  simp only [cntDesk, szDesk]
  omega
theorem openDesk {w : World} {B : Nat} {cs : List Value} {p : DDesk} (h : tDesk.R w B cs p) : ∃ A0 n0 c0 A1 n1 c1, cs = [.slice A0 n0 c0, .slice A1 n1 c1] ∧ n0 ≤ c0 ∧ c0 ≤ 9223372036854775807 ∧ (p.1).length = n0 ∧ tWhole.row.R w B [.slice A0 n0 c0] (p.1) ∧ n1 ≤ c1 ∧ c1 ≤ 9223372036854775807 ∧ (p.2).length = n1 ∧ tIs.R w B [.slice A1 n1 c1] (p.2) := by
  obtain ⟨ca1, cb1, rfl, ha1, hb1⟩ := h
  have hr2 := ha1
  obtain ⟨A2, n2, c2, rfl, he2, hf2, hg2⟩ := row_one ha1
  obtain ⟨A3, n3, c3, rfl, he3, hf3, hg3⟩ := sl_one hb1
  exact ⟨A2, n2, c2, A3, n3, c3, rfl, he2, hf2, hg2, hr2, he3, hf3, hg3.1, ⟨A3, n3, c3, rfl, he3, hf3, hg3⟩⟩
theorem makeDesk {w : World} {B : Nat} {p : DDesk} {v0 v1 : Value} (h0 : tWhole.row.R w B [v0] (p.1)) (h1 : tIs.R w B [v1] (p.2)) : tDesk.R w B [v0, v1] p := ⟨_, _, rfl, h0, h1⟩
theorem openODesk {w : World} {cs : List Value} {p : DDesk} {F : List Nat} (h : tDesk.O w cs p F) : ∃ A0 c0 F0 A1 c1 F1, cs = [.slice A0 (p.1).length c0, .slice A1 (p.2).length c1] ∧ F = F0 ++ F1 ∧ (p.1).length ≤ c0 ∧ c0 ≤ 9223372036854775807 ∧ tWhole.row.O w [.slice A0 (p.1).length c0] (p.1) F0 ∧ (p.2).length ≤ c1 ∧ c1 ≤ 9223372036854775807 ∧ tIs.O w [.slice A1 (p.2).length c1] (p.2) F1 := by
  obtain ⟨ca1, cb1, Fa1, Fb1, rfl, rfl, ha1, hb1⟩ := h
  have hr2 := ha1
  obtain ⟨A2, c2, rfl, he2, hf2⟩ := rowO_one ha1
  have hr3 := hb1
  obtain ⟨A3, c3, rfl, he3, hf3⟩ := slO_one hb1
  exact ⟨A2, c2, Fa1, A3, c3, Fb1, rfl, by simp, he2, hf2, hr2, he3, hf3, hr3⟩
theorem makeODesk {w : World} {p : DDesk} {v0 v1 : Value} {F0 F1 : List Nat} (h0 : tWhole.row.O w [v0] (p.1) F0) (h1 : tIs.O w [v1] (p.2) F1) : ∃ F, tDesk.O w [v0, v1] p F ∧ F = F0 ++ F1 := ⟨_, ⟨_, _, _, _, rfl, rfl, h0, h1⟩, by simp⟩
/-! ### Held -/
abbrev DHeld := Int × Int × DCell
abbrev tHeld : Ty DHeld := tInt.prod (tInt.prod (tCell))
def szHeld (p : DHeld) : Nat := szCell (p.2.2)
def cntHeld (p : DHeld) : Nat := cntCell (p.2.2)
def rcHeld (p : DHeld) : Nat := 1 + 1 + (p.2.2).length
def mkHeld (k : Int) (p : DHeld) : DHeld := (p.1, p.2.1, mkCell (k) (p.2.2))
def rmHeld (k : Int) (p : DHeld) : DHeld := (k, k + 1, marks8 (k + 1 + 1) (p.2.2).length)
theorem rcHeld_le (p : DHeld) : rcHeld p ≤ 5 + 5 * szHeld p := by
  simp only [rcHeld, szHeld, szCell]
  omega
theorem cntHeld_le (p : DHeld) : cntHeld p ≤ 5 * szHeld p := by
  simp only [cntHeld, cntCell, szHeld, szCell]
  omega
theorem openHeld {w : World} {B : Nat} {cs : List Value} {p : DHeld} (h : tHeld.R w B cs p) : ∃ A2 n2 c2, cs = [.int .i64 (p.1), .int .i64 (p.2.1), .slice A2 n2 c2] ∧ (Lit.int .i64 (p.1)).wf = true ∧ (Lit.int .i64 (p.2.1)).wf = true ∧ n2 ≤ c2 ∧ c2 ≤ 9223372036854775807 ∧ (p.2.2).length = n2 ∧ tBy.R w B [.slice A2 n2 c2] (p.2.2) := by
  obtain ⟨ca1, cb1, rfl, ha1, hb1⟩ := h
  obtain ⟨rfl, hi2⟩ := ha1
  obtain ⟨ca3, cb3, rfl, ha3, hb3⟩ := hb1
  obtain ⟨rfl, hi4⟩ := ha3
  obtain ⟨A5, n5, c5, rfl, he5, hf5, hg5⟩ := sl_one hb3
  exact ⟨A5, n5, c5, rfl, hi2, hi4, he5, hf5, hg5.1, ⟨A5, n5, c5, rfl, he5, hf5, hg5⟩⟩
theorem makeHeld {w : World} {B : Nat} {p : DHeld} {v2 : Value} (h0 : (Lit.int .i64 (p.1)).wf = true) (h1 : (Lit.int .i64 (p.2.1)).wf = true) (h2 : tBy.R w B [v2] (p.2.2)) : tHeld.R w B [.int .i64 (p.1), .int .i64 (p.2.1), v2] p := ⟨_, _, rfl, ⟨rfl, h0⟩, ⟨_, _, rfl, ⟨rfl, h1⟩, h2⟩⟩
theorem openOHeld {w : World} {cs : List Value} {p : DHeld} {F : List Nat} (h : tHeld.O w cs p F) : ∃ A2 c2 F2, cs = [.int .i64 (p.1), .int .i64 (p.2.1), .slice A2 (p.2.2).length c2] ∧ F = F2 ∧ (Lit.int .i64 (p.1)).wf = true ∧ (Lit.int .i64 (p.2.1)).wf = true ∧ (p.2.2).length ≤ c2 ∧ c2 ≤ 9223372036854775807 ∧ tBy.O w [.slice A2 (p.2.2).length c2] (p.2.2) F2 := by
  obtain ⟨ca1, cb1, Fa1, Fb1, rfl, rfl, ha1, hb1⟩ := h
  obtain ⟨rfl, hi2, rfl⟩ := ha1
  obtain ⟨ca3, cb3, Fa3, Fb3, rfl, rfl, ha3, hb3⟩ := hb1
  obtain ⟨rfl, hi4, rfl⟩ := ha3
  have hr5 := hb3
  obtain ⟨A5, c5, rfl, he5, hf5⟩ := slO_one hb3
  exact ⟨A5, c5, Fb3, rfl, by simp, hi2, hi4, he5, hf5, hr5⟩
theorem makeOHeld {w : World} {p : DHeld} {v2 : Value} {F2 : List Nat} (h0 : (Lit.int .i64 (p.1)).wf = true) (h1 : (Lit.int .i64 (p.2.1)).wf = true) (h2 : tBy.O w [v2] (p.2.2) F2) : ∃ F, tHeld.O w [.int .i64 (p.1), .int .i64 (p.2.1), v2] p F ∧ F = F2 := ⟨_, ⟨_, _, _, _, rfl, rfl, ⟨rfl, h0, rfl⟩, ⟨_, _, _, _, rfl, rfl, ⟨rfl, h1, rfl⟩, h2⟩⟩, by simp⟩
/-! ### Pool -/
abbrev DPool := List DHeld × List Int
abbrev tPool : Ty DPool := tHeld.row.prod (tIs)
def szPool (p : DPool) : Nat := rsz szHeld (p.1) + (p.2).length
def cntPool (p : DPool) : Nat := rsum rcHeld (p.1) + (p.2).length
def rcPool (p : DPool) : Nat := rsum rcHeld (p.1) + (p.2).length
def mkPool (k : Int) (p : DPool) : DPool := (rmk rcHeld rmHeld (k) (p.1), marks (k + ((rsum rcHeld (p.1) : Nat) : Int)) (p.2).length)
def rmPool (k : Int) (p : DPool) : DPool := (rmk rcHeld rmHeld (k) (p.1), marks (k + ((rsum rcHeld (p.1) : Nat) : Int)) (p.2).length)
theorem rcPool_le (p : DPool) : rcPool p ≤ 5 + 5 * szPool p := by
  have h0 := rsum_M (c := rcHeld) (s := szHeld) (M := 5) rcHeld_le (p.1)
  simp only [rcPool, szPool]
  omega
theorem cntPool_le (p : DPool) : cntPool p ≤ 5 * szPool p := by
  have h0 := rsum_M (c := rcHeld) (s := szHeld) (M := 5) rcHeld_le (p.1)
  simp only [cntPool, szPool]
  omega
theorem openPool {w : World} {B : Nat} {cs : List Value} {p : DPool} (h : tPool.R w B cs p) : ∃ A0 n0 c0 A1 n1 c1, cs = [.slice A0 n0 c0, .slice A1 n1 c1] ∧ n0 ≤ c0 ∧ c0 ≤ 9223372036854775807 ∧ (p.1).length = n0 ∧ tHeld.row.R w B [.slice A0 n0 c0] (p.1) ∧ n1 ≤ c1 ∧ c1 ≤ 9223372036854775807 ∧ (p.2).length = n1 ∧ tIs.R w B [.slice A1 n1 c1] (p.2) := by
  obtain ⟨ca1, cb1, rfl, ha1, hb1⟩ := h
  have hr2 := ha1
  obtain ⟨A2, n2, c2, rfl, he2, hf2, hg2⟩ := row_one ha1
  obtain ⟨A3, n3, c3, rfl, he3, hf3, hg3⟩ := sl_one hb1
  exact ⟨A2, n2, c2, A3, n3, c3, rfl, he2, hf2, hg2, hr2, he3, hf3, hg3.1, ⟨A3, n3, c3, rfl, he3, hf3, hg3⟩⟩
theorem makePool {w : World} {B : Nat} {p : DPool} {v0 v1 : Value} (h0 : tHeld.row.R w B [v0] (p.1)) (h1 : tIs.R w B [v1] (p.2)) : tPool.R w B [v0, v1] p := ⟨_, _, rfl, h0, h1⟩
theorem openOPool {w : World} {cs : List Value} {p : DPool} {F : List Nat} (h : tPool.O w cs p F) : ∃ A0 c0 F0 A1 c1 F1, cs = [.slice A0 (p.1).length c0, .slice A1 (p.2).length c1] ∧ F = F0 ++ F1 ∧ (p.1).length ≤ c0 ∧ c0 ≤ 9223372036854775807 ∧ tHeld.row.O w [.slice A0 (p.1).length c0] (p.1) F0 ∧ (p.2).length ≤ c1 ∧ c1 ≤ 9223372036854775807 ∧ tIs.O w [.slice A1 (p.2).length c1] (p.2) F1 := by
  obtain ⟨ca1, cb1, Fa1, Fb1, rfl, rfl, ha1, hb1⟩ := h
  have hr2 := ha1
  obtain ⟨A2, c2, rfl, he2, hf2⟩ := rowO_one ha1
  have hr3 := hb1
  obtain ⟨A3, c3, rfl, he3, hf3⟩ := slO_one hb1
  exact ⟨A2, c2, Fa1, A3, c3, Fb1, rfl, by simp, he2, hf2, hr2, he3, hf3, hr3⟩
theorem makeOPool {w : World} {p : DPool} {v0 v1 : Value} {F0 F1 : List Nat} (h0 : tHeld.row.O w [v0] (p.1) F0) (h1 : tIs.O w [v1] (p.2) F1) : ∃ F, tPool.O w [v0, v1] p F ∧ F = F0 ++ F1 := ⟨_, ⟨_, _, _, _, rfl, rfl, h0, h1⟩, by simp⟩
/-! ### Letter -/
abbrev DLetter := Int × List Int
abbrev tLetter : Ty DLetter := tInt.prod (tBy)
def szLetter (p : DLetter) : Nat := (p.2).length
def cntLetter (p : DLetter) : Nat := (p.2).length
def rcLetter (p : DLetter) : Nat := 1 + (p.2).length
def mkLetter (k : Int) (p : DLetter) : DLetter := (p.1, marks8 (k) (p.2).length)
def rmLetter (k : Int) (p : DLetter) : DLetter := (k, marks8 (k + 1) (p.2).length)
theorem rcLetter_le (p : DLetter) : rcLetter p ≤ 5 + 5 * szLetter p := by
  simp only [rcLetter, szLetter]
  omega
theorem cntLetter_le (p : DLetter) : cntLetter p ≤ 5 * szLetter p := by
  simp only [cntLetter, szLetter]
  omega
theorem openLetter {w : World} {B : Nat} {cs : List Value} {p : DLetter} (h : tLetter.R w B cs p) : ∃ A1 n1 c1, cs = [.int .i64 (p.1), .slice A1 n1 c1] ∧ (Lit.int .i64 (p.1)).wf = true ∧ n1 ≤ c1 ∧ c1 ≤ 9223372036854775807 ∧ (p.2).length = n1 ∧ tBy.R w B [.slice A1 n1 c1] (p.2) := by
  obtain ⟨ca1, cb1, rfl, ha1, hb1⟩ := h
  obtain ⟨rfl, hi2⟩ := ha1
  obtain ⟨A3, n3, c3, rfl, he3, hf3, hg3⟩ := sl_one hb1
  exact ⟨A3, n3, c3, rfl, hi2, he3, hf3, hg3.1, ⟨A3, n3, c3, rfl, he3, hf3, hg3⟩⟩
theorem makeLetter {w : World} {B : Nat} {p : DLetter} {v1 : Value} (h0 : (Lit.int .i64 (p.1)).wf = true) (h1 : tBy.R w B [v1] (p.2)) : tLetter.R w B [.int .i64 (p.1), v1] p := ⟨_, _, rfl, ⟨rfl, h0⟩, h1⟩
theorem openOLetter {w : World} {cs : List Value} {p : DLetter} {F : List Nat} (h : tLetter.O w cs p F) : ∃ A1 c1 F1, cs = [.int .i64 (p.1), .slice A1 (p.2).length c1] ∧ F = F1 ∧ (Lit.int .i64 (p.1)).wf = true ∧ (p.2).length ≤ c1 ∧ c1 ≤ 9223372036854775807 ∧ tBy.O w [.slice A1 (p.2).length c1] (p.2) F1 := by
  obtain ⟨ca1, cb1, Fa1, Fb1, rfl, rfl, ha1, hb1⟩ := h
  obtain ⟨rfl, hi2, rfl⟩ := ha1
  have hr3 := hb1
  obtain ⟨A3, c3, rfl, he3, hf3⟩ := slO_one hb1
  exact ⟨A3, c3, Fb1, rfl, by simp, hi2, he3, hf3, hr3⟩
theorem makeOLetter {w : World} {p : DLetter} {v1 : Value} {F1 : List Nat} (h0 : (Lit.int .i64 (p.1)).wf = true) (h1 : tBy.O w [v1] (p.2) F1) : ∃ F, tLetter.O w [.int .i64 (p.1), v1] p F ∧ F = F1 := ⟨_, ⟨_, _, _, _, rfl, rfl, ⟨rfl, h0, rfl⟩, h1⟩, by simp⟩
/-! ### Node -/
abbrev DNode := Int × Int × DPool × DDesk × List DLetter
abbrev tNode : Ty DNode := tInt.prod (tInt.prod (tPool.prod (tDesk.prod (tLetter.row))))
def szNode (p : DNode) : Nat := szPool (p.2.2.1) + szDesk (p.2.2.2.1) + rsz szLetter (p.2.2.2.2)
def cntNode (p : DNode) : Nat := cntPool (p.2.2.1) + cntDesk (p.2.2.2.1) + rsum rcLetter (p.2.2.2.2)
def rcNode (p : DNode) : Nat := 1 + 1 + rsum rcHeld (p.2.2.1.1) + (p.2.2.1.2).length + rsum rcWhole (p.2.2.2.1.1) + (p.2.2.2.1.2).length + rsum rcLetter (p.2.2.2.2)
def mkNode (k : Int) (p : DNode) : DNode := (p.1, p.2.1, mkPool (k) (p.2.2.1), mkDesk (k + ((cntPool (p.2.2.1) : Nat) : Int)) (p.2.2.2.1), rmk rcLetter rmLetter (k + ((cntPool (p.2.2.1) : Nat) : Int) + ((cntDesk (p.2.2.2.1) : Nat) : Int)) (p.2.2.2.2))
def rmNode (k : Int) (p : DNode) : DNode := (k, k + 1, (rmk rcHeld rmHeld (k + 1 + 1) (p.2.2.1.1), marks (k + 1 + 1 + ((rsum rcHeld (p.2.2.1.1) : Nat) : Int)) (p.2.2.1.2).length), (rmk rcWhole rmWhole (k + 1 + 1 + ((rsum rcHeld (p.2.2.1.1) : Nat) : Int) + (((p.2.2.1.2).length : Nat) : Int)) (p.2.2.2.1.1), marks (k + 1 + 1 + ((rsum rcHeld (p.2.2.1.1) : Nat) : Int) + (((p.2.2.1.2).length : Nat) : Int) + ((rsum rcWhole (p.2.2.2.1.1) : Nat) : Int)) (p.2.2.2.1.2).length), rmk rcLetter rmLetter (k + 1 + 1 + ((rsum rcHeld (p.2.2.1.1) : Nat) : Int) + (((p.2.2.1.2).length : Nat) : Int) + ((rsum rcWhole (p.2.2.2.1.1) : Nat) : Int) + (((p.2.2.2.1.2).length : Nat) : Int)) (p.2.2.2.2))
theorem rcNode_le (p : DNode) : rcNode p ≤ 5 + 5 * szNode p := by
  have h2 := rsum_M (c := rcHeld) (s := szHeld) (M := 5) rcHeld_le (p.2.2.1.1)
  have h4 := rsum_M (c := rcWhole) (s := szWhole) (M := 5) rcWhole_le (p.2.2.2.1.1)
  have h6 := rsum_M (c := rcLetter) (s := szLetter) (M := 5) rcLetter_le (p.2.2.2.2)
  simp only [rcNode, szNode, szPool, szDesk]
  omega
theorem cntNode_le (p : DNode) : cntNode p ≤ 5 * szNode p := by
  have h2 := rsum_M (c := rcHeld) (s := szHeld) (M := 5) rcHeld_le (p.2.2.1.1)
  have h4 := rsum_M (c := rcWhole) (s := szWhole) (M := 5) rcWhole_le (p.2.2.2.1.1)
  have h6 := rsum_M (c := rcLetter) (s := szLetter) (M := 5) rcLetter_le (p.2.2.2.2)
  simp only [cntNode, cntPool, cntDesk, szNode, szPool, szDesk]
  omega
theorem openNode {w : World} {B : Nat} {cs : List Value} {p : DNode} (h : tNode.R w B cs p) : ∃ A2 n2 c2 A3 n3 c3 A4 n4 c4 A5 n5 c5 A6 n6 c6, cs = [.int .i64 (p.1), .int .i64 (p.2.1), .slice A2 n2 c2, .slice A3 n3 c3, .slice A4 n4 c4, .slice A5 n5 c5, .slice A6 n6 c6] ∧ (Lit.int .i64 (p.1)).wf = true ∧ (Lit.int .i64 (p.2.1)).wf = true ∧ n2 ≤ c2 ∧ c2 ≤ 9223372036854775807 ∧ (p.2.2.1.1).length = n2 ∧ tHeld.row.R w B [.slice A2 n2 c2] (p.2.2.1.1) ∧ n3 ≤ c3 ∧ c3 ≤ 9223372036854775807 ∧ (p.2.2.1.2).length = n3 ∧ tIs.R w B [.slice A3 n3 c3] (p.2.2.1.2) ∧ n4 ≤ c4 ∧ c4 ≤ 9223372036854775807 ∧ (p.2.2.2.1.1).length = n4 ∧ tWhole.row.R w B [.slice A4 n4 c4] (p.2.2.2.1.1) ∧ n5 ≤ c5 ∧ c5 ≤ 9223372036854775807 ∧ (p.2.2.2.1.2).length = n5 ∧ tIs.R w B [.slice A5 n5 c5] (p.2.2.2.1.2) ∧ n6 ≤ c6 ∧ c6 ≤ 9223372036854775807 ∧ (p.2.2.2.2).length = n6 ∧ tLetter.row.R w B [.slice A6 n6 c6] (p.2.2.2.2) := by
  obtain ⟨ca1, cb1, rfl, ha1, hb1⟩ := h
  obtain ⟨rfl, hi2⟩ := ha1
  obtain ⟨ca3, cb3, rfl, ha3, hb3⟩ := hb1
  obtain ⟨rfl, hi4⟩ := ha3
  obtain ⟨ca5, cb5, rfl, ha5, hb5⟩ := hb3
  obtain ⟨ca6, cb6, rfl, ha6, hb6⟩ := ha5
  have hr7 := ha6
  obtain ⟨A7, n7, c7, rfl, he7, hf7, hg7⟩ := row_one ha6
  obtain ⟨A8, n8, c8, rfl, he8, hf8, hg8⟩ := sl_one hb6
  obtain ⟨ca9, cb9, rfl, ha9, hb9⟩ := hb5
  obtain ⟨ca10, cb10, rfl, ha10, hb10⟩ := ha9
  have hr11 := ha10
  obtain ⟨A11, n11, c11, rfl, he11, hf11, hg11⟩ := row_one ha10
  obtain ⟨A12, n12, c12, rfl, he12, hf12, hg12⟩ := sl_one hb10
  have hr13 := hb9
  obtain ⟨A13, n13, c13, rfl, he13, hf13, hg13⟩ := row_one hb9
  exact ⟨A7, n7, c7, A8, n8, c8, A11, n11, c11, A12, n12, c12, A13, n13, c13, rfl, hi2, hi4, he7, hf7, hg7, hr7, he8, hf8, hg8.1, ⟨A8, n8, c8, rfl, he8, hf8, hg8⟩, he11, hf11, hg11, hr11, he12, hf12, hg12.1, ⟨A12, n12, c12, rfl, he12, hf12, hg12⟩, he13, hf13, hg13, hr13⟩
theorem makeNode {w : World} {B : Nat} {p : DNode} {v2 v3 v4 v5 v6 : Value} (h0 : (Lit.int .i64 (p.1)).wf = true) (h1 : (Lit.int .i64 (p.2.1)).wf = true) (h2 : tHeld.row.R w B [v2] (p.2.2.1.1)) (h3 : tIs.R w B [v3] (p.2.2.1.2)) (h4 : tWhole.row.R w B [v4] (p.2.2.2.1.1)) (h5 : tIs.R w B [v5] (p.2.2.2.1.2)) (h6 : tLetter.row.R w B [v6] (p.2.2.2.2)) : tNode.R w B [.int .i64 (p.1), .int .i64 (p.2.1), v2, v3, v4, v5, v6] p := ⟨_, _, rfl, ⟨rfl, h0⟩, ⟨_, _, rfl, ⟨rfl, h1⟩, ⟨_, _, rfl, ⟨_, _, rfl, h2, h3⟩, ⟨_, _, rfl, ⟨_, _, rfl, h4, h5⟩, h6⟩⟩⟩⟩
theorem openONode {w : World} {cs : List Value} {p : DNode} {F : List Nat} (h : tNode.O w cs p F) : ∃ A2 c2 F2 A3 c3 F3 A4 c4 F4 A5 c5 F5 A6 c6 F6, cs = [.int .i64 (p.1), .int .i64 (p.2.1), .slice A2 (p.2.2.1.1).length c2, .slice A3 (p.2.2.1.2).length c3, .slice A4 (p.2.2.2.1.1).length c4, .slice A5 (p.2.2.2.1.2).length c5, .slice A6 (p.2.2.2.2).length c6] ∧ F = F2 ++ F3 ++ F4 ++ F5 ++ F6 ∧ (Lit.int .i64 (p.1)).wf = true ∧ (Lit.int .i64 (p.2.1)).wf = true ∧ (p.2.2.1.1).length ≤ c2 ∧ c2 ≤ 9223372036854775807 ∧ tHeld.row.O w [.slice A2 (p.2.2.1.1).length c2] (p.2.2.1.1) F2 ∧ (p.2.2.1.2).length ≤ c3 ∧ c3 ≤ 9223372036854775807 ∧ tIs.O w [.slice A3 (p.2.2.1.2).length c3] (p.2.2.1.2) F3 ∧ (p.2.2.2.1.1).length ≤ c4 ∧ c4 ≤ 9223372036854775807 ∧ tWhole.row.O w [.slice A4 (p.2.2.2.1.1).length c4] (p.2.2.2.1.1) F4 ∧ (p.2.2.2.1.2).length ≤ c5 ∧ c5 ≤ 9223372036854775807 ∧ tIs.O w [.slice A5 (p.2.2.2.1.2).length c5] (p.2.2.2.1.2) F5 ∧ (p.2.2.2.2).length ≤ c6 ∧ c6 ≤ 9223372036854775807 ∧ tLetter.row.O w [.slice A6 (p.2.2.2.2).length c6] (p.2.2.2.2) F6 := by
  obtain ⟨ca1, cb1, Fa1, Fb1, rfl, rfl, ha1, hb1⟩ := h
  obtain ⟨rfl, hi2, rfl⟩ := ha1
  obtain ⟨ca3, cb3, Fa3, Fb3, rfl, rfl, ha3, hb3⟩ := hb1
  obtain ⟨rfl, hi4, rfl⟩ := ha3
  obtain ⟨ca5, cb5, Fa5, Fb5, rfl, rfl, ha5, hb5⟩ := hb3
  obtain ⟨ca6, cb6, Fa6, Fb6, rfl, rfl, ha6, hb6⟩ := ha5
  have hr7 := ha6
  obtain ⟨A7, c7, rfl, he7, hf7⟩ := rowO_one ha6
  have hr8 := hb6
  obtain ⟨A8, c8, rfl, he8, hf8⟩ := slO_one hb6
  obtain ⟨ca9, cb9, Fa9, Fb9, rfl, rfl, ha9, hb9⟩ := hb5
  obtain ⟨ca10, cb10, Fa10, Fb10, rfl, rfl, ha10, hb10⟩ := ha9
  have hr11 := ha10
  obtain ⟨A11, c11, rfl, he11, hf11⟩ := rowO_one ha10
  have hr12 := hb10
  obtain ⟨A12, c12, rfl, he12, hf12⟩ := slO_one hb10
  have hr13 := hb9
  obtain ⟨A13, c13, rfl, he13, hf13⟩ := rowO_one hb9
  exact ⟨A7, c7, Fa6, A8, c8, Fb6, A11, c11, Fa10, A12, c12, Fb10, A13, c13, Fb9, rfl, by simp, hi2, hi4, he7, hf7, hr7, he8, hf8, hr8, he11, hf11, hr11, he12, hf12, hr12, he13, hf13, hr13⟩
theorem makeONode {w : World} {p : DNode} {v2 v3 v4 v5 v6 : Value} {F2 F3 F4 F5 F6 : List Nat} (h0 : (Lit.int .i64 (p.1)).wf = true) (h1 : (Lit.int .i64 (p.2.1)).wf = true) (h2 : tHeld.row.O w [v2] (p.2.2.1.1) F2) (h3 : tIs.O w [v3] (p.2.2.1.2) F3) (h4 : tWhole.row.O w [v4] (p.2.2.2.1.1) F4) (h5 : tIs.O w [v5] (p.2.2.2.1.2) F5) (h6 : tLetter.row.O w [v6] (p.2.2.2.2) F6) : ∃ F, tNode.O w [.int .i64 (p.1), .int .i64 (p.2.1), v2, v3, v4, v5, v6] p F ∧ F = F2 ++ F3 ++ F4 ++ F5 ++ F6 := ⟨_, ⟨_, _, _, _, rfl, rfl, ⟨rfl, h0, rfl⟩, ⟨_, _, _, _, rfl, rfl, ⟨rfl, h1, rfl⟩, ⟨_, _, _, _, rfl, rfl, ⟨_, _, _, _, rfl, rfl, h2, h3⟩, ⟨_, _, _, _, rfl, rfl, ⟨_, _, _, _, rfl, rfl, h4, h5⟩, h6⟩⟩⟩⟩, by simp⟩
/-! ### Mail -/
abbrev DMail := Int × DCell
abbrev tMail : Ty DMail := tInt.prod (tCell)
def szMail (p : DMail) : Nat := szCell (p.2)
def cntMail (p : DMail) : Nat := cntCell (p.2)
def rcMail (p : DMail) : Nat := 1 + (p.2).length
def mkMail (k : Int) (p : DMail) : DMail := (p.1, mkCell (k) (p.2))
def rmMail (k : Int) (p : DMail) : DMail := (k, marks8 (k + 1) (p.2).length)
theorem rcMail_le (p : DMail) : rcMail p ≤ 5 + 5 * szMail p := by
  simp only [rcMail, szMail, szCell]
  omega
theorem cntMail_le (p : DMail) : cntMail p ≤ 5 * szMail p := by
  simp only [cntMail, cntCell, szMail, szCell]
  omega
theorem openMail {w : World} {B : Nat} {cs : List Value} {p : DMail} (h : tMail.R w B cs p) : ∃ A1 n1 c1, cs = [.int .i64 (p.1), .slice A1 n1 c1] ∧ (Lit.int .i64 (p.1)).wf = true ∧ n1 ≤ c1 ∧ c1 ≤ 9223372036854775807 ∧ (p.2).length = n1 ∧ tBy.R w B [.slice A1 n1 c1] (p.2) := by
  obtain ⟨ca1, cb1, rfl, ha1, hb1⟩ := h
  obtain ⟨rfl, hi2⟩ := ha1
  obtain ⟨A3, n3, c3, rfl, he3, hf3, hg3⟩ := sl_one hb1
  exact ⟨A3, n3, c3, rfl, hi2, he3, hf3, hg3.1, ⟨A3, n3, c3, rfl, he3, hf3, hg3⟩⟩
theorem makeMail {w : World} {B : Nat} {p : DMail} {v1 : Value} (h0 : (Lit.int .i64 (p.1)).wf = true) (h1 : tBy.R w B [v1] (p.2)) : tMail.R w B [.int .i64 (p.1), v1] p := ⟨_, _, rfl, ⟨rfl, h0⟩, h1⟩
theorem openOMail {w : World} {cs : List Value} {p : DMail} {F : List Nat} (h : tMail.O w cs p F) : ∃ A1 c1 F1, cs = [.int .i64 (p.1), .slice A1 (p.2).length c1] ∧ F = F1 ∧ (Lit.int .i64 (p.1)).wf = true ∧ (p.2).length ≤ c1 ∧ c1 ≤ 9223372036854775807 ∧ tBy.O w [.slice A1 (p.2).length c1] (p.2) F1 := by
  obtain ⟨ca1, cb1, Fa1, Fb1, rfl, rfl, ha1, hb1⟩ := h
  obtain ⟨rfl, hi2, rfl⟩ := ha1
  have hr3 := hb1
  obtain ⟨A3, c3, rfl, he3, hf3⟩ := slO_one hb1
  exact ⟨A3, c3, Fb1, rfl, by simp, hi2, he3, hf3, hr3⟩
theorem makeOMail {w : World} {p : DMail} {v1 : Value} {F1 : List Nat} (h0 : (Lit.int .i64 (p.1)).wf = true) (h1 : tBy.O w [v1] (p.2) F1) : ∃ F, tMail.O w [.int .i64 (p.1), v1] p F ∧ F = F1 := ⟨_, ⟨_, _, _, _, rfl, rfl, ⟨rfl, h0, rfl⟩, h1⟩, by simp⟩
/-! ### Sent -/
abbrev DSent := Int × Int × List Int
abbrev tSent : Ty DSent := tInt.prod (tInt.prod (tBy))
def szSent (p : DSent) : Nat := (p.2.2).length
def cntSent (p : DSent) : Nat := (p.2.2).length
def rcSent (p : DSent) : Nat := 1 + 1 + (p.2.2).length
def mkSent (k : Int) (p : DSent) : DSent := (p.1, p.2.1, marks8 (k) (p.2.2).length)
def rmSent (k : Int) (p : DSent) : DSent := (k, k + 1, marks8 (k + 1 + 1) (p.2.2).length)
theorem rcSent_le (p : DSent) : rcSent p ≤ 5 + 5 * szSent p := by
  simp only [rcSent, szSent]
  omega
theorem cntSent_le (p : DSent) : cntSent p ≤ 5 * szSent p := by
  simp only [cntSent, szSent]
  omega
theorem openSent {w : World} {B : Nat} {cs : List Value} {p : DSent} (h : tSent.R w B cs p) : ∃ A2 n2 c2, cs = [.int .i64 (p.1), .int .i64 (p.2.1), .slice A2 n2 c2] ∧ (Lit.int .i64 (p.1)).wf = true ∧ (Lit.int .i64 (p.2.1)).wf = true ∧ n2 ≤ c2 ∧ c2 ≤ 9223372036854775807 ∧ (p.2.2).length = n2 ∧ tBy.R w B [.slice A2 n2 c2] (p.2.2) := by
  obtain ⟨ca1, cb1, rfl, ha1, hb1⟩ := h
  obtain ⟨rfl, hi2⟩ := ha1
  obtain ⟨ca3, cb3, rfl, ha3, hb3⟩ := hb1
  obtain ⟨rfl, hi4⟩ := ha3
  obtain ⟨A5, n5, c5, rfl, he5, hf5, hg5⟩ := sl_one hb3
  exact ⟨A5, n5, c5, rfl, hi2, hi4, he5, hf5, hg5.1, ⟨A5, n5, c5, rfl, he5, hf5, hg5⟩⟩
theorem makeSent {w : World} {B : Nat} {p : DSent} {v2 : Value} (h0 : (Lit.int .i64 (p.1)).wf = true) (h1 : (Lit.int .i64 (p.2.1)).wf = true) (h2 : tBy.R w B [v2] (p.2.2)) : tSent.R w B [.int .i64 (p.1), .int .i64 (p.2.1), v2] p := ⟨_, _, rfl, ⟨rfl, h0⟩, ⟨_, _, rfl, ⟨rfl, h1⟩, h2⟩⟩
theorem openOSent {w : World} {cs : List Value} {p : DSent} {F : List Nat} (h : tSent.O w cs p F) : ∃ A2 c2 F2, cs = [.int .i64 (p.1), .int .i64 (p.2.1), .slice A2 (p.2.2).length c2] ∧ F = F2 ∧ (Lit.int .i64 (p.1)).wf = true ∧ (Lit.int .i64 (p.2.1)).wf = true ∧ (p.2.2).length ≤ c2 ∧ c2 ≤ 9223372036854775807 ∧ tBy.O w [.slice A2 (p.2.2).length c2] (p.2.2) F2 := by
  obtain ⟨ca1, cb1, Fa1, Fb1, rfl, rfl, ha1, hb1⟩ := h
  obtain ⟨rfl, hi2, rfl⟩ := ha1
  obtain ⟨ca3, cb3, Fa3, Fb3, rfl, rfl, ha3, hb3⟩ := hb1
  obtain ⟨rfl, hi4, rfl⟩ := ha3
  have hr5 := hb3
  obtain ⟨A5, c5, rfl, he5, hf5⟩ := slO_one hb3
  exact ⟨A5, c5, Fb3, rfl, by simp, hi2, hi4, he5, hf5, hr5⟩
theorem makeOSent {w : World} {p : DSent} {v2 : Value} {F2 : List Nat} (h0 : (Lit.int .i64 (p.1)).wf = true) (h1 : (Lit.int .i64 (p.2.1)).wf = true) (h2 : tBy.O w [v2] (p.2.2) F2) : ∃ F, tSent.O w [.int .i64 (p.1), .int .i64 (p.2.1), v2] p F ∧ F = F2 := ⟨_, ⟨_, _, _, _, rfl, rfl, ⟨rfl, h0, rfl⟩, ⟨_, _, _, _, rfl, rfl, ⟨rfl, h1, rfl⟩, h2⟩⟩, by simp⟩
/-! ### Glance -/
abbrev DGlance := Int × Int
abbrev tGlance : Ty DGlance := tInt.prod (tInt)
def szGlance (p : DGlance) : Nat := 0
def cntGlance (p : DGlance) : Nat := 0
def rcGlance (p : DGlance) : Nat := 1 + 1
def mkGlance (k : Int) (p : DGlance) : DGlance := (p.1, p.2)
def rmGlance (k : Int) (p : DGlance) : DGlance := (k, k + 1)
theorem rcGlance_le (p : DGlance) : rcGlance p ≤ 5 + 5 * szGlance p := by
  simp only [rcGlance, szGlance]
  omega
theorem cntGlance_le (p : DGlance) : cntGlance p ≤ 5 * szGlance p := by
  simp only [cntGlance, szGlance]
  omega
theorem openGlance {w : World} {B : Nat} {cs : List Value} {p : DGlance} (h : tGlance.R w B cs p) : cs = [.int .i64 (p.1), .int .i64 (p.2)] ∧ (Lit.int .i64 (p.1)).wf = true ∧ (Lit.int .i64 (p.2)).wf = true := by
  obtain ⟨ca1, cb1, rfl, ha1, hb1⟩ := h
  obtain ⟨rfl, hi2⟩ := ha1
  obtain ⟨rfl, hi3⟩ := hb1
  exact ⟨rfl, hi2, hi3⟩
theorem makeGlance {w : World} {B : Nat} {p : DGlance} (h0 : (Lit.int .i64 (p.1)).wf = true) (h1 : (Lit.int .i64 (p.2)).wf = true) : tGlance.R w B [.int .i64 (p.1), .int .i64 (p.2)] p := ⟨_, _, rfl, ⟨rfl, h0⟩, ⟨rfl, h1⟩⟩
theorem openOGlance {w : World} {cs : List Value} {p : DGlance} {F : List Nat} (h : tGlance.O w cs p F) : cs = [.int .i64 (p.1), .int .i64 (p.2)] ∧ F = [] ∧ (Lit.int .i64 (p.1)).wf = true ∧ (Lit.int .i64 (p.2)).wf = true := by
  obtain ⟨ca1, cb1, Fa1, Fb1, rfl, rfl, ha1, hb1⟩ := h
  obtain ⟨rfl, hi2, rfl⟩ := ha1
  obtain ⟨rfl, hi3, rfl⟩ := hb1
  exact ⟨rfl, by simp, hi2, hi3⟩
theorem makeOGlance {w : World} {p : DGlance} (h0 : (Lit.int .i64 (p.1)).wf = true) (h1 : (Lit.int .i64 (p.2)).wf = true) : ∃ F, tGlance.O w [.int .i64 (p.1), .int .i64 (p.2)] p F ∧ F = [] := ⟨_, ⟨_, _, _, _, rfl, rfl, ⟨rfl, h0, rfl⟩, ⟨rfl, h1, rfl⟩⟩, by simp⟩
/-! ### Net -/
abbrev DNet := Int × Int × Int × List DNode × List DMail × List DSent × List DGlance
abbrev tNet : Ty DNet := tInt.prod (tInt.prod (tInt.prod (tNode.row.prod (tMail.row.prod (tSent.row.prod (tGlance.row))))))
def szNet (p : DNet) : Nat := rsz szNode (p.2.2.2.1) + rsz szMail (p.2.2.2.2.1) + rsz szSent (p.2.2.2.2.2.1) + rsz szGlance (p.2.2.2.2.2.2)
def cntNet (p : DNet) : Nat := rsum rcNode (p.2.2.2.1) + rsum rcMail (p.2.2.2.2.1) + rsum rcSent (p.2.2.2.2.2.1) + rsum rcGlance (p.2.2.2.2.2.2)
def rcNet (p : DNet) : Nat := 1 + 1 + 1 + rsum rcNode (p.2.2.2.1) + rsum rcMail (p.2.2.2.2.1) + rsum rcSent (p.2.2.2.2.2.1) + rsum rcGlance (p.2.2.2.2.2.2)
def mkNet (k : Int) (p : DNet) : DNet := (p.1, p.2.1, p.2.2.1, rmk rcNode rmNode (k) (p.2.2.2.1), rmk rcMail rmMail (k + ((rsum rcNode (p.2.2.2.1) : Nat) : Int)) (p.2.2.2.2.1), rmk rcSent rmSent (k + ((rsum rcNode (p.2.2.2.1) : Nat) : Int) + ((rsum rcMail (p.2.2.2.2.1) : Nat) : Int)) (p.2.2.2.2.2.1), rmk rcGlance rmGlance (k + ((rsum rcNode (p.2.2.2.1) : Nat) : Int) + ((rsum rcMail (p.2.2.2.2.1) : Nat) : Int) + ((rsum rcSent (p.2.2.2.2.2.1) : Nat) : Int)) (p.2.2.2.2.2.2))
def rmNet (k : Int) (p : DNet) : DNet := (k, k + 1, k + 1 + 1, rmk rcNode rmNode (k + 1 + 1 + 1) (p.2.2.2.1), rmk rcMail rmMail (k + 1 + 1 + 1 + ((rsum rcNode (p.2.2.2.1) : Nat) : Int)) (p.2.2.2.2.1), rmk rcSent rmSent (k + 1 + 1 + 1 + ((rsum rcNode (p.2.2.2.1) : Nat) : Int) + ((rsum rcMail (p.2.2.2.2.1) : Nat) : Int)) (p.2.2.2.2.2.1), rmk rcGlance rmGlance (k + 1 + 1 + 1 + ((rsum rcNode (p.2.2.2.1) : Nat) : Int) + ((rsum rcMail (p.2.2.2.2.1) : Nat) : Int) + ((rsum rcSent (p.2.2.2.2.2.1) : Nat) : Int)) (p.2.2.2.2.2.2))
theorem rcNet_le (p : DNet) : rcNet p ≤ 5 + 5 * szNet p := by
  have h3 := rsum_M (c := rcNode) (s := szNode) (M := 5) rcNode_le (p.2.2.2.1)
  have h4 := rsum_M (c := rcMail) (s := szMail) (M := 5) rcMail_le (p.2.2.2.2.1)
  have h5 := rsum_M (c := rcSent) (s := szSent) (M := 5) rcSent_le (p.2.2.2.2.2.1)
  have h6 := rsum_M (c := rcGlance) (s := szGlance) (M := 5) rcGlance_le (p.2.2.2.2.2.2)
  simp only [rcNet, szNet]
  omega
theorem cntNet_le (p : DNet) : cntNet p ≤ 5 * szNet p := by
  have h3 := rsum_M (c := rcNode) (s := szNode) (M := 5) rcNode_le (p.2.2.2.1)
  have h4 := rsum_M (c := rcMail) (s := szMail) (M := 5) rcMail_le (p.2.2.2.2.1)
  have h5 := rsum_M (c := rcSent) (s := szSent) (M := 5) rcSent_le (p.2.2.2.2.2.1)
  have h6 := rsum_M (c := rcGlance) (s := szGlance) (M := 5) rcGlance_le (p.2.2.2.2.2.2)
  simp only [cntNet, szNet]
  omega
theorem openNet {w : World} {B : Nat} {cs : List Value} {p : DNet} (h : tNet.R w B cs p) : ∃ A3 n3 c3 A4 n4 c4 A5 n5 c5 A6 n6 c6, cs = [.int .i64 (p.1), .int .i64 (p.2.1), .int .i64 (p.2.2.1), .slice A3 n3 c3, .slice A4 n4 c4, .slice A5 n5 c5, .slice A6 n6 c6] ∧ (Lit.int .i64 (p.1)).wf = true ∧ (Lit.int .i64 (p.2.1)).wf = true ∧ (Lit.int .i64 (p.2.2.1)).wf = true ∧ n3 ≤ c3 ∧ c3 ≤ 9223372036854775807 ∧ (p.2.2.2.1).length = n3 ∧ tNode.row.R w B [.slice A3 n3 c3] (p.2.2.2.1) ∧ n4 ≤ c4 ∧ c4 ≤ 9223372036854775807 ∧ (p.2.2.2.2.1).length = n4 ∧ tMail.row.R w B [.slice A4 n4 c4] (p.2.2.2.2.1) ∧ n5 ≤ c5 ∧ c5 ≤ 9223372036854775807 ∧ (p.2.2.2.2.2.1).length = n5 ∧ tSent.row.R w B [.slice A5 n5 c5] (p.2.2.2.2.2.1) ∧ n6 ≤ c6 ∧ c6 ≤ 9223372036854775807 ∧ (p.2.2.2.2.2.2).length = n6 ∧ tGlance.row.R w B [.slice A6 n6 c6] (p.2.2.2.2.2.2) := by
  obtain ⟨ca1, cb1, rfl, ha1, hb1⟩ := h
  obtain ⟨rfl, hi2⟩ := ha1
  obtain ⟨ca3, cb3, rfl, ha3, hb3⟩ := hb1
  obtain ⟨rfl, hi4⟩ := ha3
  obtain ⟨ca5, cb5, rfl, ha5, hb5⟩ := hb3
  obtain ⟨rfl, hi6⟩ := ha5
  obtain ⟨ca7, cb7, rfl, ha7, hb7⟩ := hb5
  have hr8 := ha7
  obtain ⟨A8, n8, c8, rfl, he8, hf8, hg8⟩ := row_one ha7
  obtain ⟨ca9, cb9, rfl, ha9, hb9⟩ := hb7
  have hr10 := ha9
  obtain ⟨A10, n10, c10, rfl, he10, hf10, hg10⟩ := row_one ha9
  obtain ⟨ca11, cb11, rfl, ha11, hb11⟩ := hb9
  have hr12 := ha11
  obtain ⟨A12, n12, c12, rfl, he12, hf12, hg12⟩ := row_one ha11
  have hr13 := hb11
  obtain ⟨A13, n13, c13, rfl, he13, hf13, hg13⟩ := row_one hb11
  exact ⟨A8, n8, c8, A10, n10, c10, A12, n12, c12, A13, n13, c13, rfl, hi2, hi4, hi6, he8, hf8, hg8, hr8, he10, hf10, hg10, hr10, he12, hf12, hg12, hr12, he13, hf13, hg13, hr13⟩
theorem makeNet {w : World} {B : Nat} {p : DNet} {v3 v4 v5 v6 : Value} (h0 : (Lit.int .i64 (p.1)).wf = true) (h1 : (Lit.int .i64 (p.2.1)).wf = true) (h2 : (Lit.int .i64 (p.2.2.1)).wf = true) (h3 : tNode.row.R w B [v3] (p.2.2.2.1)) (h4 : tMail.row.R w B [v4] (p.2.2.2.2.1)) (h5 : tSent.row.R w B [v5] (p.2.2.2.2.2.1)) (h6 : tGlance.row.R w B [v6] (p.2.2.2.2.2.2)) : tNet.R w B [.int .i64 (p.1), .int .i64 (p.2.1), .int .i64 (p.2.2.1), v3, v4, v5, v6] p := ⟨_, _, rfl, ⟨rfl, h0⟩, ⟨_, _, rfl, ⟨rfl, h1⟩, ⟨_, _, rfl, ⟨rfl, h2⟩, ⟨_, _, rfl, h3, ⟨_, _, rfl, h4, ⟨_, _, rfl, h5, h6⟩⟩⟩⟩⟩⟩
theorem openONet {w : World} {cs : List Value} {p : DNet} {F : List Nat} (h : tNet.O w cs p F) : ∃ A3 c3 F3 A4 c4 F4 A5 c5 F5 A6 c6 F6, cs = [.int .i64 (p.1), .int .i64 (p.2.1), .int .i64 (p.2.2.1), .slice A3 (p.2.2.2.1).length c3, .slice A4 (p.2.2.2.2.1).length c4, .slice A5 (p.2.2.2.2.2.1).length c5, .slice A6 (p.2.2.2.2.2.2).length c6] ∧ F = F3 ++ F4 ++ F5 ++ F6 ∧ (Lit.int .i64 (p.1)).wf = true ∧ (Lit.int .i64 (p.2.1)).wf = true ∧ (Lit.int .i64 (p.2.2.1)).wf = true ∧ (p.2.2.2.1).length ≤ c3 ∧ c3 ≤ 9223372036854775807 ∧ tNode.row.O w [.slice A3 (p.2.2.2.1).length c3] (p.2.2.2.1) F3 ∧ (p.2.2.2.2.1).length ≤ c4 ∧ c4 ≤ 9223372036854775807 ∧ tMail.row.O w [.slice A4 (p.2.2.2.2.1).length c4] (p.2.2.2.2.1) F4 ∧ (p.2.2.2.2.2.1).length ≤ c5 ∧ c5 ≤ 9223372036854775807 ∧ tSent.row.O w [.slice A5 (p.2.2.2.2.2.1).length c5] (p.2.2.2.2.2.1) F5 ∧ (p.2.2.2.2.2.2).length ≤ c6 ∧ c6 ≤ 9223372036854775807 ∧ tGlance.row.O w [.slice A6 (p.2.2.2.2.2.2).length c6] (p.2.2.2.2.2.2) F6 := by
  obtain ⟨ca1, cb1, Fa1, Fb1, rfl, rfl, ha1, hb1⟩ := h
  obtain ⟨rfl, hi2, rfl⟩ := ha1
  obtain ⟨ca3, cb3, Fa3, Fb3, rfl, rfl, ha3, hb3⟩ := hb1
  obtain ⟨rfl, hi4, rfl⟩ := ha3
  obtain ⟨ca5, cb5, Fa5, Fb5, rfl, rfl, ha5, hb5⟩ := hb3
  obtain ⟨rfl, hi6, rfl⟩ := ha5
  obtain ⟨ca7, cb7, Fa7, Fb7, rfl, rfl, ha7, hb7⟩ := hb5
  have hr8 := ha7
  obtain ⟨A8, c8, rfl, he8, hf8⟩ := rowO_one ha7
  obtain ⟨ca9, cb9, Fa9, Fb9, rfl, rfl, ha9, hb9⟩ := hb7
  have hr10 := ha9
  obtain ⟨A10, c10, rfl, he10, hf10⟩ := rowO_one ha9
  obtain ⟨ca11, cb11, Fa11, Fb11, rfl, rfl, ha11, hb11⟩ := hb9
  have hr12 := ha11
  obtain ⟨A12, c12, rfl, he12, hf12⟩ := rowO_one ha11
  have hr13 := hb11
  obtain ⟨A13, c13, rfl, he13, hf13⟩ := rowO_one hb11
  exact ⟨A8, c8, Fa7, A10, c10, Fa9, A12, c12, Fa11, A13, c13, Fb11, rfl, by simp, hi2, hi4, hi6, he8, hf8, hr8, he10, hf10, hr10, he12, hf12, hr12, he13, hf13, hr13⟩
theorem makeONet {w : World} {p : DNet} {v3 v4 v5 v6 : Value} {F3 F4 F5 F6 : List Nat} (h0 : (Lit.int .i64 (p.1)).wf = true) (h1 : (Lit.int .i64 (p.2.1)).wf = true) (h2 : (Lit.int .i64 (p.2.2.1)).wf = true) (h3 : tNode.row.O w [v3] (p.2.2.2.1) F3) (h4 : tMail.row.O w [v4] (p.2.2.2.2.1) F4) (h5 : tSent.row.O w [v5] (p.2.2.2.2.2.1) F5) (h6 : tGlance.row.O w [v6] (p.2.2.2.2.2.2) F6) : ∃ F, tNet.O w [.int .i64 (p.1), .int .i64 (p.2.1), .int .i64 (p.2.2.1), v3, v4, v5, v6] p F ∧ F = F3 ++ F4 ++ F5 ++ F6 := ⟨_, ⟨_, _, _, _, rfl, rfl, ⟨rfl, h0, rfl⟩, ⟨_, _, _, _, rfl, rfl, ⟨rfl, h1, rfl⟩, ⟨_, _, _, _, rfl, rfl, ⟨rfl, h2, rfl⟩, ⟨_, _, _, _, rfl, rfl, h3, ⟨_, _, _, _, rfl, rfl, h4, ⟨_, _, _, _, rfl, rfl, h5, h6⟩⟩⟩⟩⟩⟩, by simp⟩
/-! ### Cmd -/
abbrev DCmd := Int × Int × Int × List Int × List Int
abbrev tCmd : Ty DCmd := tInt.prod (tInt.prod (tInt.prod (tIs.prod (tBy))))
def szCmd (p : DCmd) : Nat := (p.2.2.2.1).length + (p.2.2.2.2).length
def cntCmd (p : DCmd) : Nat := (p.2.2.2.1).length + (p.2.2.2.2).length
def rcCmd (p : DCmd) : Nat := 1 + 1 + 1 + (p.2.2.2.1).length + (p.2.2.2.2).length
def mkCmd (k : Int) (p : DCmd) : DCmd := (p.1, p.2.1, p.2.2.1, marks (k) (p.2.2.2.1).length, marks8 (k + (((p.2.2.2.1).length : Nat) : Int)) (p.2.2.2.2).length)
def rmCmd (k : Int) (p : DCmd) : DCmd := (k, k + 1, k + 1 + 1, marks (k + 1 + 1 + 1) (p.2.2.2.1).length, marks8 (k + 1 + 1 + 1 + (((p.2.2.2.1).length : Nat) : Int)) (p.2.2.2.2).length)
theorem rcCmd_le (p : DCmd) : rcCmd p ≤ 5 + 5 * szCmd p := by
  simp only [rcCmd, szCmd]
  omega
theorem cntCmd_le (p : DCmd) : cntCmd p ≤ 5 * szCmd p := by
  simp only [cntCmd, szCmd]
  omega
theorem openCmd {w : World} {B : Nat} {cs : List Value} {p : DCmd} (h : tCmd.R w B cs p) : ∃ A3 n3 c3 A4 n4 c4, cs = [.int .i64 (p.1), .int .i64 (p.2.1), .int .i64 (p.2.2.1), .slice A3 n3 c3, .slice A4 n4 c4] ∧ (Lit.int .i64 (p.1)).wf = true ∧ (Lit.int .i64 (p.2.1)).wf = true ∧ (Lit.int .i64 (p.2.2.1)).wf = true ∧ n3 ≤ c3 ∧ c3 ≤ 9223372036854775807 ∧ (p.2.2.2.1).length = n3 ∧ tIs.R w B [.slice A3 n3 c3] (p.2.2.2.1) ∧ n4 ≤ c4 ∧ c4 ≤ 9223372036854775807 ∧ (p.2.2.2.2).length = n4 ∧ tBy.R w B [.slice A4 n4 c4] (p.2.2.2.2) := by
  obtain ⟨ca1, cb1, rfl, ha1, hb1⟩ := h
  obtain ⟨rfl, hi2⟩ := ha1
  obtain ⟨ca3, cb3, rfl, ha3, hb3⟩ := hb1
  obtain ⟨rfl, hi4⟩ := ha3
  obtain ⟨ca5, cb5, rfl, ha5, hb5⟩ := hb3
  obtain ⟨rfl, hi6⟩ := ha5
  obtain ⟨ca7, cb7, rfl, ha7, hb7⟩ := hb5
  obtain ⟨A8, n8, c8, rfl, he8, hf8, hg8⟩ := sl_one ha7
  obtain ⟨A9, n9, c9, rfl, he9, hf9, hg9⟩ := sl_one hb7
  exact ⟨A8, n8, c8, A9, n9, c9, rfl, hi2, hi4, hi6, he8, hf8, hg8.1, ⟨A8, n8, c8, rfl, he8, hf8, hg8⟩, he9, hf9, hg9.1, ⟨A9, n9, c9, rfl, he9, hf9, hg9⟩⟩
theorem makeCmd {w : World} {B : Nat} {p : DCmd} {v3 v4 : Value} (h0 : (Lit.int .i64 (p.1)).wf = true) (h1 : (Lit.int .i64 (p.2.1)).wf = true) (h2 : (Lit.int .i64 (p.2.2.1)).wf = true) (h3 : tIs.R w B [v3] (p.2.2.2.1)) (h4 : tBy.R w B [v4] (p.2.2.2.2)) : tCmd.R w B [.int .i64 (p.1), .int .i64 (p.2.1), .int .i64 (p.2.2.1), v3, v4] p := ⟨_, _, rfl, ⟨rfl, h0⟩, ⟨_, _, rfl, ⟨rfl, h1⟩, ⟨_, _, rfl, ⟨rfl, h2⟩, ⟨_, _, rfl, h3, h4⟩⟩⟩⟩
theorem openOCmd {w : World} {cs : List Value} {p : DCmd} {F : List Nat} (h : tCmd.O w cs p F) : ∃ A3 c3 F3 A4 c4 F4, cs = [.int .i64 (p.1), .int .i64 (p.2.1), .int .i64 (p.2.2.1), .slice A3 (p.2.2.2.1).length c3, .slice A4 (p.2.2.2.2).length c4] ∧ F = F3 ++ F4 ∧ (Lit.int .i64 (p.1)).wf = true ∧ (Lit.int .i64 (p.2.1)).wf = true ∧ (Lit.int .i64 (p.2.2.1)).wf = true ∧ (p.2.2.2.1).length ≤ c3 ∧ c3 ≤ 9223372036854775807 ∧ tIs.O w [.slice A3 (p.2.2.2.1).length c3] (p.2.2.2.1) F3 ∧ (p.2.2.2.2).length ≤ c4 ∧ c4 ≤ 9223372036854775807 ∧ tBy.O w [.slice A4 (p.2.2.2.2).length c4] (p.2.2.2.2) F4 := by
  obtain ⟨ca1, cb1, Fa1, Fb1, rfl, rfl, ha1, hb1⟩ := h
  obtain ⟨rfl, hi2, rfl⟩ := ha1
  obtain ⟨ca3, cb3, Fa3, Fb3, rfl, rfl, ha3, hb3⟩ := hb1
  obtain ⟨rfl, hi4, rfl⟩ := ha3
  obtain ⟨ca5, cb5, Fa5, Fb5, rfl, rfl, ha5, hb5⟩ := hb3
  obtain ⟨rfl, hi6, rfl⟩ := ha5
  obtain ⟨ca7, cb7, Fa7, Fb7, rfl, rfl, ha7, hb7⟩ := hb5
  have hr8 := ha7
  obtain ⟨A8, c8, rfl, he8, hf8⟩ := slO_one ha7
  have hr9 := hb7
  obtain ⟨A9, c9, rfl, he9, hf9⟩ := slO_one hb7
  exact ⟨A8, c8, Fa7, A9, c9, Fb7, rfl, by simp, hi2, hi4, hi6, he8, hf8, hr8, he9, hf9, hr9⟩
theorem makeOCmd {w : World} {p : DCmd} {v3 v4 : Value} {F3 F4 : List Nat} (h0 : (Lit.int .i64 (p.1)).wf = true) (h1 : (Lit.int .i64 (p.2.1)).wf = true) (h2 : (Lit.int .i64 (p.2.2.1)).wf = true) (h3 : tIs.O w [v3] (p.2.2.2.1) F3) (h4 : tBy.O w [v4] (p.2.2.2.2) F4) : ∃ F, tCmd.O w [.int .i64 (p.1), .int .i64 (p.2.1), .int .i64 (p.2.2.1), v3, v4] p F ∧ F = F3 ++ F4 := ⟨_, ⟨_, _, _, _, rfl, rfl, ⟨rfl, h0, rfl⟩, ⟨_, _, _, _, rfl, rfl, ⟨rfl, h1, rfl⟩, ⟨_, _, _, _, rfl, rfl, ⟨rfl, h2, rfl⟩, ⟨_, _, _, _, rfl, rfl, h3, h4⟩⟩⟩⟩, by simp⟩
end Go.Proofs.YtcljjdmfnniobaaGreat
