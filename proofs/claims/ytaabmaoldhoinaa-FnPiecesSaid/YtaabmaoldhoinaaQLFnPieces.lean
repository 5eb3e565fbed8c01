/-
  For every draw: a fragment is recovered from its bytes, and bytes that are accepted are the encoding of their fragment. No further condition.
-/
import Derived.Test.YtaabmaoldhoinaaQGc
import Derived.Test.YtaabmaoldhoinaaQGf
import Derived.Test.YtaabmaoldhoinaaQGg
import Derived.Test.YtaabmaoldhoinaaRows
import Derived.Below
import Derived.ChangeOld
import Derived.OpenShut
import Derived.ProofKit
import Derived.ShutString
import Derived.SizedLaws
import Derived.WalkKit
namespace Go.Proofs.Ytaabmaoldhoinaa.fnPieces
open Go.ChangeShapes Go.WideShapes Go.ChangeAt Go.RowKit
open Go.ChangeMaps (open_string shut_string)
set_option linter.unusedVariables false

theorem bytes5 : Try.prog.bytesOf 5 = 1 := by kernel_rfl
open Go.Proofs.Ytaabmaoldhoinaa Fld
theorem own : ownKnob Try.prog.godebug = none := by kernel_rfl
theorem laidOut : laidOutB Try.prog = true := by kernel_rfl

/-- WHAT THE WALK IS TOLD OF A SLICE OF INTEGERS THAT CAME IN: it is nil; or it leads to a row of 'cap' cells, the numbers 'zs' (the first 'len' are its elements, the rest its spare room), each fitting its kind. -/
def IsRow (k : IntKind) (w : World) (a : Option Addr) (len cap : Nat) (zs : List Int) : Prop :=
  (a = none ∧ len = 0 ∧ cap = 0 ∧ zs = []) ∨
  ∃ x, a = some x ∧ len ≤ cap ∧ cap ≤ maxLen ∧ zs.length = cap ∧ (∀ i, i < zs.length → w.cell? (x.add i) = some (.int k (zs.getD i 0))) ∧ ∀ n ∈ zs, (Lit.int k n).wf = true

theorem rowInts {w : World} {a : Option Addr} {n c : Nat} {zs : List Int} (h : IsRow .u8 w a n c zs) : Ints .u8 w w.heap.size a n (zs.take n) ∧ n ≤ c := by
  rcases h with ⟨rfl, rfl, rfl, rfl⟩ | ⟨x, rfl, hl, _, hz, hc, hw⟩
  · exact ⟨Ints.nil, Nat.le_refl _⟩
  · exact ⟨Ints.ofRow (by omega) hc hw, hl⟩
theorem rd_pcB {p : DPiece} (h : PcOk p) : PrOk (fPB p) ∧ fPR (fPB p) = p := by
  obtain ⟨x0, x1, x2, d⟩ := p
  have hp : PrOk (fPB (x0, x1, x2, d)) := by
    rw [fPB_t h]
    exact ⟨by simp, h⟩
  refine ⟨hp, ?_⟩
  rw [fPR_t hp, fPB_t h]
  rfl
theorem pcB_rd {l : List Int} (h : PrOk l) : PcOk (fPR l) ∧ fPB (fPR l) = l := by
  rw [fPR_t h]
  refine ⟨h.2, ?_⟩
  rw [fPB_t h.2]
  have h3 := h.1
  match l, h3 with
  | a :: b :: c :: l, _ => rfl

/-! ### STEP 1: THE WALK: the Go text returns true, AND WRITES NOTHING THAT WAS THERE: 'Below w.heap.size w w'' (Derived/Below.lean: '.refl', '.alloc', '.drew', '.setCell' at a new block, '.trans'). Open each 'IsRow' by 'rcases' AHEAD of 'go_enter'; part every test ahead of the walk. -/
set_option maxRecDepth 100000 in
set_option maxHeartbeats 2000000 in
theorem walk (a0 : Option Addr) (len0 cap0 : Nat) (z0 : List Int) (w : World) (w0 : IsRow .u8 w a0 len0 cap0 z0) (r0 : cap0 ≤ 140737488351232) :
    Calls Try.prog 3 #[.slice a0 len0 cap0] w fun e w' => e = .returned (.bool true) ∧ Below w.heap.size w w' := by
  obtain ⟨hl, hn⟩ := rowInts w0
  go_enter Try.func3, Try.ntmps3
  go_wp2_with fail
  refine (d_PieceBytes hl (by omega)).mono ?_
  rintro e w1 ⟨ch, q, rfl, hP, hS, hB1⟩
  obtain ⟨A3, n3, c3, rfl, -, -, -, -, -, hl3, -⟩ := openPiece hP
  obtain ⟨x0, x1, x2, qd⟩ := q
  have hz : szPiece (x0, x1, x2, qd) ≤ 1048576 := by have h := hS.2.2.2; show qd.length ≤ _; have h : qd.length ≤ 21 := h; omega
  have hl3 : qd.length = n3 := hl3
  dsimp only
  have hx1 : Below w1.heap.size w1 (w1.alloc (.cells #[.int .i64 x0, .int .i64 x1, .int .i64 x2, .slice A3 n3 c3] 24)) := bel_alloc (Below.refl _ _) _
  have Bp : Box (w1.alloc (.cells #[.int .i64 x0, .int .i64 x1, .int .i64 x2, .slice A3 n3 c3] 24)) w1.heap.size 24 #[.int .i64 x0, .int .i64 x1, .int .i64 x2, .slice A3 n3 c3] := Box.new _ _ _
  have hP := tPiece.reach hP hx1
  have hB2 := bel_trans hB1 hx1
  by_cases hp : PcOk (x0, x1, x2, qd)
  · have HP := Lib.hid (decide_eq_true hp)
    have HRD := Lib.hid (rd_pcB hp)
    have HLE := Lib.hid (fPB_le (x0, x1, x2, qd))
    obtain ⟨B, hBq⟩ : ∃ B, fPB (x0, x1, x2, qd) = B := ⟨_, rfl⟩
    have HBQ := Lib.hid hBq
    go_wp2_with fail
    refine (i_PieceBytes hP hz).mono ?_
    rintro e w3 ⟨A4, c4, F4, rfl, hO4, -, hb3⟩
    rw [HBQ.out] at hO4 ⊢
    rw [HP.out]
    have hR4 := tBy.read hO4
    obtain ⟨nb, hnb⟩ : ∃ m, B.length = m := ⟨_, rfl⟩
    have HNB := Lib.hid hnb
    rw [hnb] at hR4 ⊢
    have hn23 : nb ≤ 23 := by have := HLE.out; rw [HBQ.out, hnb] at this; exact this
    clear hnb hBq hO4 hp
    have hP := tPiece.reach hP hb3
    have Bp := Bp.below hb3 Bp.size
    have hB3 := bel_trans hB2 hb3
    have k0 := Bp.cell 0
    have k1 := Bp.cell 1
    have k2 := Bp.cell 2
    have k3 := Bp.cell 3
    go_wp2_with fail
    refine (s_PieceOk hP hz).mono ?_
    rintro e w4 ⟨rfl, hb4⟩
    rw [HP.out]
    have hP := tPiece.reach hP hb4
    have hR4 := tBy.reach hR4 hb4
    have Bp := Bp.below hb4 Bp.size
    have hB4 := bel_trans hB3 hb4
    have k0 := Bp.cell 0
    have k1 := Bp.cell 1
    have k2 := Bp.cell 2
    have k3 := Bp.cell 3
    go_wp2_with fail
    refine (i_PieceOk hP hz).mono ?_
    rintro e wb ⟨rfl, hbb⟩
    rw [HP.out]
    have hP := tPiece.reach hP hbb
    have hR4 := tBy.reach hR4 hbb
    have Bp := Bp.below hbb Bp.size
    have hBb := bel_trans hB4 hbb
    go_wp2_with fail
    refine (i_PieceRead hR4 (by have := HNB.out; omega)).mono ?_
    rintro e wc ⟨csc, Fc, rfl, hOc, -, hbc⟩
    have hrd := HRD.out
    rw [HBQ.out] at hrd
    rw [hrd.2] at hOc
    rw [decide_eq_true hrd.1]
    have hRc := tPiece.read hOc
    obtain ⟨E3, f3, h3, rfl, -, -, -, -, -, hf3, hE3⟩ := openPiece hRc
    have hf3 : qd.length = f3 := hf3
    obtain ⟨A9, n9, c9, e9, -, -, -, -, -, -, hA3⟩ := openPiece (tPiece.reach hP hbc)
    simp only [List.cons.injEq, Value.slice.injEq, and_true, true_and] at e9
    obtain ⟨rfl, rfl, rfl⟩ := e9
    clear hOc hrd
    have Bp := Bp.below hbc Bp.size
    have hBc := bel_trans hBb hbc
    have zp := Bp.size
    have hxc : Below wc.heap.size wc (wc.alloc (.cells #[.int .i64 x0, .int .i64 x1, .int .i64 x2, .slice E3 f3 h3] 24)) := bel_alloc (Below.refl _ _) _
    have X1 : Box (wc.alloc (.cells #[.int .i64 x0, .int .i64 x1, .int .i64 x2, .slice E3 f3 h3] 24)) wc.heap.size 24 #[.int .i64 x0, .int .i64 x1, .int .i64 x2, .slice E3 f3 h3] := Box.new _ _ _
    have Bp := Bp.alloc (.cells #[.int .i64 x0, .int .i64 x1, .int .i64 x2, .slice E3 f3 h3] 24)
    have k0 := Bp.cell 0
    have k1 := Bp.cell 1
    have k2 := Bp.cell 2
    have k3 := Bp.cell 3
    have y0 := X1.cell 0; have y1 := X1.cell 1; have y2 := X1.cell 2; have y3 := X1.cell 3
    have hn24 : ¬ (24 : Int) < (nb : Int) := by omega
    go_wp2_with fail
    refine (l_same (slR_ints (tBy.reach hE3 hxc)).1 (slR_ints (tBy.reach hA3 hxc)).1).mono ?_
    rintro e wd ⟨rfl, rfl⟩
    rw [show decide (qd = qd) = true from by simp]
    have hBw := bel_trans hBc hxc
    have hlw := reach hl hBw
    clear hP hRc hR4 Bp k0 k1 k2 k3 y0 y1 y2 y3 X1 hbc hbb hb4 hb3 hx1 hE3 hA3
    go_wp2_with fail
    refine (d_PieceRead hlw (by omega)).mono ?_
    rintro e w5 ⟨Ay, ny, cy, b, rfl, hb, hbl, hb5⟩
    have hBy := bel_trans hBw hb5
    go_wp2_with fail
    refine (i_PieceRead hb (by omega)).mono ?_
    rintro e w6 ⟨cs6, F6, rfl, hO6, -, hb6⟩
    have hb := tBy.reach hb hb6
    have hB6 := bel_trans hBy hb6
    have hR6 := tPiece.read hO6
    have hz6 := fPR_le b
    obtain ⟨y, hy⟩ : ∃ y, fPR b = y := ⟨_, rfl⟩
    have HY := Lib.hid hy
    rw [hy] at hR6 hz6
    obtain ⟨D3, m3, g3, rfl, -⟩ := openPiece hR6
    have hx6 : Below w6.heap.size w6 (w6.alloc (.cells #[.int .i64 y.1, .int .i64 y.2.1, .int .i64 y.2.2.1, .slice D3 m3 g3] 24)) := bel_alloc (Below.refl _ _) _
    have By : Box (w6.alloc (.cells #[.int .i64 y.1, .int .i64 y.2.1, .int .i64 y.2.2.1, .slice D3 m3 g3] 24)) w6.heap.size 24 #[.int .i64 y.1, .int .i64 y.2.1, .int .i64 y.2.2.1, .slice D3 m3 g3] := Box.new _ _ _
    have hb := tBy.reach hb hx6
    have hR6 := tPiece.reach hR6 hx6
    have hB7 := bel_trans hB6 hx6
    have hz7 : szPiece y ≤ 1048576 := by omega
    clear hy hO6
    by_cases hr : PrOk b
    · have HR := Lib.hid (decide_eq_true hr)
      have HPY := Lib.hid (show decide (PcOk y) = true from decide_eq_true (by rw [← HY.out]; exact (pcB_rd hr).1))
      have HB := Lib.hid (show fPB y = b by rw [← HY.out]; exact (pcB_rd hr).2)
      rw [HR.out]
      clear hr
      go_wp2_with fail
      refine (i_PieceBytes hR6 hz7).mono ?_
      rintro e w8 ⟨A8, c8, F8, rfl, hO8, -, hb8⟩
      rw [HB.out] at hO8 ⊢
      rw [HPY.out]
      have hR8 := tBy.read hO8
      have hb := tBy.reach hb hb8
      have hB8 := bel_trans hB7 hb8
      obtain ⟨nb, hnb⟩ : ∃ m, b.length = m := ⟨_, rfl⟩
      rw [hnb] at hR8 ⊢
      clear hnb hO8
      go_wp2_with fail
      refine (l_desks _).mono ?_
      rintro e w9 ⟨rfl, hb9⟩
      have hR8 := tBy.reach hR8 hb9
      have hb := tBy.reach hb hb9
      go_wp2_with fail
      refine (l_same (slR_ints hR8).1 (slR_ints hb).1).mono ?_
      rintro e w' ⟨rfl, rfl⟩
      rw [show decide (b = b) = true from by simp]
      go_wp2_with fail
      go_ret
      exact ⟨rfl, bel_trans hB8 hb9⟩
    · have HR := Lib.hid (decide_eq_false hr)
      rw [HR.out]
      clear hr
      go_wp2_with fail
      refine (i_PieceBytes hR6 hz7).mono ?_
      rintro e w8 ⟨A8, c8, F8, rfl, hO8, -, hb8⟩
      have hB8 := bel_trans hB7 hb8
      obtain ⟨nb, hnb⟩ : ∃ m, (fPB y).length = m := ⟨_, rfl⟩
      rw [hnb]
      obtain ⟨bo, hbo⟩ : ∃ bo, decide (PcOk y) = bo := ⟨_, rfl⟩
      rw [hbo]
      clear hnb hO8 hbo
      go_wp2_with fail
      refine (l_desks _).mono ?_
      rintro e w9 ⟨rfl, hb9⟩
      go_wp2_with fail
      go_ret
      exact ⟨rfl, bel_trans hB8 hb9⟩
  · have HP := Lib.hid (decide_eq_false hp)
    go_wp2_with fail
    refine (i_PieceBytes hP hz).mono ?_
    rintro e w3 ⟨A4, c4, F4, rfl, hO4, -, hb3⟩
    rw [HP.out]
    rw [fPB_f hp, show ([] : List Int).length = 0 from rfl]
    have hP := tPiece.reach hP hb3
    have Bp := Bp.below hb3 Bp.size
    have hB3 := bel_trans hB2 hb3
    have k0 := Bp.cell 0
    have k1 := Bp.cell 1
    have k2 := Bp.cell 2
    have k3 := Bp.cell 3
    clear hO4 hp
    go_wp2_with fail
    refine (s_PieceOk hP hz).mono ?_
    rintro e w4 ⟨rfl, hb4⟩
    rw [HP.out]
    have hP := tPiece.reach hP hb4
    have Bp := Bp.below hb4 Bp.size
    have hB4 := bel_trans hB3 hb4
    have k0 := Bp.cell 0
    have k1 := Bp.cell 1
    have k2 := Bp.cell 2
    have k3 := Bp.cell 3
    go_wp2_with fail
    refine (i_PieceOk hP hz).mono ?_
    rintro e wb ⟨rfl, hbb⟩
    rw [HP.out]
    have hBw := bel_trans hB4 hbb
    have hlw := reach hl hBw
    clear hP Bp k0 k1 k2 k3 hbb hb4 hb3 hx1
    go_wp2_with fail
    refine (d_PieceRead hlw (by omega)).mono ?_
    rintro e w5 ⟨Ay, ny, cy, b, rfl, hb, hbl, hb5⟩
    have hBy := bel_trans hBw hb5
    go_wp2_with fail
    refine (i_PieceRead hb (by omega)).mono ?_
    rintro e w6 ⟨cs6, F6, rfl, hO6, -, hb6⟩
    have hb := tBy.reach hb hb6
    have hB6 := bel_trans hBy hb6
    have hR6 := tPiece.read hO6
    have hz6 := fPR_le b
    obtain ⟨y, hy⟩ : ∃ y, fPR b = y := ⟨_, rfl⟩
    have HY := Lib.hid hy
    rw [hy] at hR6 hz6
    obtain ⟨D3, m3, g3, rfl, -⟩ := openPiece hR6
    have hx6 : Below w6.heap.size w6 (w6.alloc (.cells #[.int .i64 y.1, .int .i64 y.2.1, .int .i64 y.2.2.1, .slice D3 m3 g3] 24)) := bel_alloc (Below.refl _ _) _
    have By : Box (w6.alloc (.cells #[.int .i64 y.1, .int .i64 y.2.1, .int .i64 y.2.2.1, .slice D3 m3 g3] 24)) w6.heap.size 24 #[.int .i64 y.1, .int .i64 y.2.1, .int .i64 y.2.2.1, .slice D3 m3 g3] := Box.new _ _ _
    have hb := tBy.reach hb hx6
    have hR6 := tPiece.reach hR6 hx6
    have hB7 := bel_trans hB6 hx6
    have hz7 : szPiece y ≤ 1048576 := by omega
    clear hy hO6
    by_cases hr : PrOk b
    · have HR := Lib.hid (decide_eq_true hr)
      have HPY := Lib.hid (show decide (PcOk y) = true from decide_eq_true (by rw [← HY.out]; exact (pcB_rd hr).1))
      have HB := Lib.hid (show fPB y = b by rw [← HY.out]; exact (pcB_rd hr).2)
      rw [HR.out]
      clear hr
      go_wp2_with fail
      refine (i_PieceBytes hR6 hz7).mono ?_
      rintro e w8 ⟨A8, c8, F8, rfl, hO8, -, hb8⟩
      rw [HB.out] at hO8 ⊢
      rw [HPY.out]
      have hR8 := tBy.read hO8
      have hb := tBy.reach hb hb8
      have hB8 := bel_trans hB7 hb8
      obtain ⟨nb, hnb⟩ : ∃ m, b.length = m := ⟨_, rfl⟩
      rw [hnb] at hR8 ⊢
      clear hnb hO8
      go_wp2_with fail
      refine (l_desks _).mono ?_
      rintro e w9 ⟨rfl, hb9⟩
      have hR8 := tBy.reach hR8 hb9
      have hb := tBy.reach hb hb9
      go_wp2_with fail
      refine (l_same (slR_ints hR8).1 (slR_ints hb).1).mono ?_
      rintro e w' ⟨rfl, rfl⟩
      rw [show decide (b = b) = true from by simp]
      go_wp2_with fail
      go_ret
      exact ⟨rfl, bel_trans hB8 hb9⟩
    · have HR := Lib.hid (decide_eq_false hr)
      rw [HR.out]
      clear hr
      go_wp2_with fail
      refine (i_PieceBytes hR6 hz7).mono ?_
      rintro e w8 ⟨A8, c8, F8, rfl, hO8, -, hb8⟩
      have hB8 := bel_trans hB7 hb8
      obtain ⟨nb, hnb⟩ : ∃ m, (fPB y).length = m := ⟨_, rfl⟩
      rw [hnb]
      obtain ⟨bo, hbo⟩ : ∃ bo, decide (PcOk y) = bo := ⟨_, rfl⟩
      rw [hbo]
      clear hnb hO8 hbo
      go_wp2_with fail
      refine (l_desks _).mono ?_
      rintro e w9 ⟨rfl, hb9⟩
      go_wp2_with fail
      go_ret
      exact ⟨rfl, bel_trans hB8 hb9⟩

/-! ### THE ROW's STEP: WRITTEN OUT: LEAVE IT -/
set_option maxRecDepth 100000 in
theorem lifted (os : Os) (started : os.Started) (H : Type) (enc : TypeId × Value → H) :
    ReturnsInHanded {} Try.checked os 3 .any (Rows.fnPiecesSpec.pre6 enc Try.prog Try.f3 Rows.fnPiecesRow.domain false) (Rows.fnPiecesSpec.post enc Try.prog Try.f3 false true false false) := by
  refine returnsInHanded_of_change_sized (C := Try.checked) own started (by kernel_rfl) Try.func3
    (ChangeSpec.witness6 (enc := enc) (C := Try.checked) false ⟨#[], #[.slice none 0 0], []⟩ 8 (by kernel_rfl) (by kernel_rfl) (by kernel_rfl) (by kernel_rfl)) ?_
  intro W base args ds gs before hval0 hW hcnd hsz0 _
  have hval : ∀ (j : Nat) t v, Try.f3.params[j]? = some t → args[j]? = some v → Value.okWide Try.prog W .any base t v := hval0
  have hW' := hW
  obtain ⟨p, q, hA0, hV, rfl, hfz, hnd⟩ := hW
  have hA : DataW.TrodAll enc Try.prog W 0 (fun _ => true) true Try.f3.params.toList args.toList ds p := hA0
  have hsz : (DataW.weightsEach Try.prog (Try.f3.params.toList ++ Rows.fnPiecesSpec.plain.varTypes Try.prog) (ds ++ gs)).all (· ≤ reachBytes) = true := hsz0
  rw [Try.params3] at hA hval hsz
  obtain ⟨v0, vs0, d0, ds0, p0, q0, hargs, rfl, rfl, h0, r0⟩ := trodAll_cons hA
  obtain ⟨rfl, rfl, rfl⟩ := trodAll_nil r0
  obtain rfl : args = #[v0] := by cases args; simp_all
  obtain ⟨rfl, rfl⟩ := trodVars_none hV
  obtain ⟨a0, len0, cap0, rfl⟩ := okWide_slice Try.underlying22 (hval 0 22 v0 rfl rfl)
  have k0 := h0
  have lt0 : ∀ x ∈ p0, x.block < W.heap.size := by obtain ⟨m, hm⟩ := k0; exact DataW.trod_lt m _ _ _ hm
  obtain ⟨z0, w0, r0⟩ : ∃ zs, IsRow .u8 W a0 len0 cap0 zs ∧ cap0 ≤ 140737488351232 := by
    obtain ⟨fuel, hf⟩ := h0
    rcases open_ints Try.underlying22 Try.underlying5 (by kernel_rfl) hf with ⟨hcs, _⟩ | ⟨x, l, c, zs, hcs, _, hl, hm, hz, hxx, hcell, hwz⟩
    · simp [Value.cells] at hcs
      obtain ⟨rfl, rfl, rfl⟩ := hcs
      exact ⟨[], .inl ⟨rfl, rfl, rfl, rfl⟩, by omega⟩
    · simp [Value.cells] at hcs
      obtain ⟨rfl, rfl, rfl⟩ := hcs
      have hz' : zs.length = cap0 := by simpa using hz
      refine ⟨zs, .inr ⟨_, rfl, hl, hm, hz', hcell, hwz⟩, ?_⟩
      simp only [Prod.mk.injEq] at hxx
      rw [hxx.1] at hsz
      have h := sized_slice hsz (j := 0) (t := 22) (e := 5) rfl rfl Try.underlying22
      rw [bytes5] at h
      simp only [lits, List.length_map, List.length_take, List.length_drop, reachBytes] at h
      omega
  clear hA0 hval0
  refine (walk a0 len0 cap0 z0 W w0 r0).mono fun e W' ⟨he, bel⟩ => ?_
  subst he
  exact ⟨_, rfl, _, _, _, [], _, [], hW', trodAll_mk1 (shut_bool Try.underlying4 _), (trodAll_cons_mk (Below.trod laidOut (by kernel_rfl) (of_decide_eq_true (by kernel_rfl)) k0 bel lt0) trodAll_mk0), rfl, bel.frame _, fun h => by cases h⟩

theorem over : Rows.fnPiecesRow.holds Try.pinned (OpenSpec.ofChange Rows.fnPiecesSpec) :=
  OpenClaim.holds_of_wide 3 Try.f3 rfl rfl rfl rfl rfl rfl rfl ⟨rfl, rfl, rfl, rfl, rfl⟩ rfl rfl rfl rfl rfl (by kernel_rfl) Try.func3 (by kernel_rfl)
    (of_decide_eq_true (by kernel_rfl)) (by unfold Func.isWrapper; first | (rw [if_pos (by decide +kernel)]; kernel_rfl) | (rw [if_neg (by decide +kernel)]; exact ⟨rfl, rfl⟩))
    (fun os started H enc _ => lifted os started H enc)

/-- ████ THE STATEMENT ████ -/
theorem proved : Rows.FnPiecesSaid := over
#print axioms proved
end Go.Proofs.Ytaabmaoldhoinaa.fnPieces
