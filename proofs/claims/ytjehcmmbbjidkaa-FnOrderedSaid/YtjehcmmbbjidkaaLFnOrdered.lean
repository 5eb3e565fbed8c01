/-
  A drawn order is an order; reordering by an order keeps the bytes, each as often, for every drawn input. No further condition.
-/
import Derived.Test.YtjehcmmbbjidkaaRows
import Derived.WalkKit
import Derived.ProofKit
import Derived.OpenShut
import Derived.ShutString
import Derived.ChangeOld
import Derived.SizedLaws
import Derived.Below
import Derived.Test.YtjehcmmbbjidkaaDrawReo
import Derived.BigQuiet
import Derived.Test.YtjehcmmbbjidkaaImplOrd
import Derived.Test.YtjehcmmbbjidkaaLawTwo
import Derived.Test.YtjehcmmbbjidkaaSpecOrd
namespace Go.Proofs.Ytjehcmmbbjidkaa.fnOrdered
open Go.ChangeShapes Go.WideShapes Go.ChangeAt Go.RowKit
open Go.ChangeMaps (open_string shut_string)
set_option linter.unusedVariables false

theorem bytes5 : Try.prog.bytesOf 5 = 1 := by kernel_rfl
open Go.Proofs.Ytjehcmmbbjidkaa Fld
theorem own : ownKnob Try.prog.godebug = none := by kernel_rfl
theorem laidOut : laidOutB Try.prog = true := by kernel_rfl

/-- WHAT THE WALK IS TOLD OF A SLICE OF INTEGERS THAT CAME IN: it is nil; or it leads to a row of 'cap' cells, the numbers 'zs' (the first 'len' are its elements, the rest its spare room), each fitting its kind. -/
def IsRow (k : IntKind) (w : World) (a : Option Addr) (len cap : Nat) (zs : List Int) : Prop :=
  (a = none ∧ len = 0 ∧ cap = 0 ∧ zs = []) ∨
  ∃ x, a = some x ∧ len ≤ cap ∧ cap ≤ maxLen ∧ zs.length = cap ∧ (∀ i, i < zs.length → w.cell? (x.add i) = some (.int k (zs.getD i 0))) ∧ ∀ n ∈ zs, (Lit.int k n).wf = true

theorem rowInts {w : World} {a : Option Addr} {n c : Nat} {zs : List Int} (h : IsRow .u8 w a n c zs) : Ints .u8 w w.heap.size a n (zs.take n) ∧ n ≤ c := by
  rcases h with ⟨rfl, rfl, rfl, rfl⟩ | ⟨x, rfl, hl, _, hz, hc, hw⟩
  · exact ⟨Ints.nil, Nat.le_refl _⟩
  · exact ⟨Ints.ofRow (by omega) hc hw, hl⟩
theorem own_adr {k : IntKind} {e : TypeId} {w : World} {base n c : Nat} {A : Option Addr} {l : List Int} (h : Own k e w base (.slice A n c) l) : (A = none ∧ c = 0) ∨ ∃ b off, A = some ⟨b, off, none⟩ := by
  rcases h.1.2 with ⟨e1, _⟩ | ⟨g, cap, cur, e1, _⟩
  · injection e1 with e1 e2 e3; exact .inl ⟨e1, e3⟩
  · injection e1 with e1 e2 e3; exact .inr ⟨g, 0, e1⟩
/-- How often j stands among the first k. -/
def cntk (l : List Int) (k j : Nat) : Int := ((l.take k).count (j : Int) : Nat)
theorem cntk_zero (l : List Int) (j : Nat) : cntk l 0 j = 0 := by simp [cntk]
theorem cntk_snoc {l : List Int} {k : Nat} (hk : k < l.length) {x : Nat} (hx : l.getD k 0 = x) (j : Nat) : cntk l (k + 1) j = cntk l k j + if j = x then 1 else 0 := by
  unfold cntk
  rw [take_snoc hk, List.count_append, hx]
  by_cases h : j = x
  · subst h; simp
  · rw [if_neg h, List.count_eq_zero_of_not_mem (a := (j : Int)) (l := [(x : Int)]) (by simp; omega)]; simp
theorem cntk_range (l : List Int) (k j : Nat) : 0 ≤ cntk l k j ∧ cntk l k j ≤ l.length := by
  unfold cntk
  have h1 := List.count_le_length (a := (j : Int)) (l := l.take k)
  rw [List.length_take] at h1
  omega
theorem cntk_perm {b x : List Int} (h : x.Perm b) {q : Nat} (hq : b.length = q) (j : Nat) : cntk b q j - cntk x q j = 0 := by
  unfold cntk
  rw [List.take_of_length_le (by omega), List.take_of_length_le (by rw [h.length_eq]; omega), h.count_eq]
  omega
/-- What a drawn order is. -/
theorem shuf_sum {d : List Int} (n : Int) (hby : Bytes d) : shufU d n < 0 ∨ (0 ≤ shufU d n ∧ Ord (shufL d n) ∧ fneed n ≤ shufU d n) := by
  cases hf : fshuf d n with
  | none => exact .inl (by rw [shufU_f hf]; omega)
  | some q =>
    obtain ⟨L, U⟩ := q
    have hrg : 0 ≤ n ∧ n ≤ 64 := by
      by_cases h : 0 ≤ n ∧ n ≤ 64
      · exact h
      · rw [fshuf_f h] at hf; cases hf
    obtain ⟨p, rfl⟩ := Int.eq_ofNat_of_zero_le hrg.1
    rw [shufU_t hf, shufL_t hf]
    rw [fshuf_t hrg, Int.toNat_natCast] at hf
    obtain ⟨h1, h2, h3⟩ := shuf_all hby hf
    refine .inr ⟨by omega, (ord_iota (by omega)).perm h1, ?_⟩
    unfold fneed
    rw [if_pos hrg]
    split <;> omega
theorem nat_byte {l : List Int} (h : Bytes l) {k : Nat} (hk : k < l.length) : ∃ x : Nat, l.getD k 0 = x ∧ x < 256 := by
  have := h _ (List.getElem_mem hk)
  have e : l.getD k 0 = l[k] := by rw [List.getD_eq_getElem?_getD, List.getElem?_eq_getElem hk, Option.getD_some]
  exact ⟨(l.getD k 0).toNat, by rw [e]; omega, by rw [e]; omega⟩
theorem i64_if {c : Prop} [Decidable c] {a b : Int} : (if c then Value.int .i64 a else .int .i64 b) = .int .i64 (if c then a else b) := by split <;> rfl
/-- One step of the counting: x once more, y once less. -/
theorem cnt_step {b x : List Int} {k xb xx j : Nat} (hb : k < b.length) (hx : k < x.length) (h1 : b.getD k 0 = xb) (h2 : x.getD k 0 = xx) {c1 : Int} (hc : (if xx = xb then cntk b k xb - cntk x k xb + 1 else cntk b k xx - cntk x k xx) = c1) :
    (if j = xx then c1 - 1 else if j = xb then cntk b k xb - cntk x k xb + 1 else cntk b k j - cntk x k j) = cntk b (k + 1) j - cntk x (k + 1) j := by
  rw [cntk_snoc hb h1, cntk_snoc hx h2]
  by_cases e1 : j = xx
  · subst e1
    rw [if_pos rfl, if_pos rfl]
    by_cases e2 : j = xb
    · subst e2; rw [if_pos rfl] at hc ⊢; omega
    · rw [if_neg e2] at hc ⊢; omega
  · rw [if_neg e1, if_neg e1]
    by_cases e2 : j = xb
    · subst e2; rw [if_pos rfl, if_pos rfl]; omega
    · rw [if_neg e2, if_neg e2]; omega
theorem cell_far {w : World} {b G i p : Nat} {u v : Value} (h : w.cell? ⟨b, i, none⟩ = some v) (n : b ≠ G) : (w.setCell ⟨G, p, none⟩ u).cell? ⟨b, i, none⟩ = some v :=
  (World.cell?_of_block (a := ⟨b, i, none⟩) (Below.heap_setCell w ⟨G, p, none⟩ u b n)).trans h

/-! ### STEP 1: THE WALK: the Go text returns true, AND WRITES NOTHING THAT WAS THERE: 'Below w.heap.size w w'' (Derived/Below.lean: '.refl', '.alloc', '.drew', '.setCell' at a new block, '.trans'). Open each 'IsRow' by 'rcases' AHEAD of 'go_enter'; part every test ahead of the walk. -/
set_option maxRecDepth 100000 in
set_option maxHeartbeats 2000000 in
theorem walk (a0 : Option Addr) (len0 cap0 : Nat) (z0 : List Int) (w : World) (w0 : IsRow .u8 w a0 len0 cap0 z0) (r0 : cap0 ≤ 140737488351232) :
    Calls Try.prog 3 #[.slice a0 len0 cap0] w fun e w' => e = .returned (.bool true) ∧ Below w.heap.size w w' := by
  obtain ⟨i0, hi0, hz0, hz1, hz2⟩ := info_parts info_ii
  obtain ⟨hl, hn⟩ := rowInts w0
  go_enter Try.func3, Try.ntmps3
  go_wp2_with fail
  refine (d_Shuffle hl (by omega)).mono ?_
  rintro e w1 ⟨v, d, nn, rfl, hn8, hO, hlen, hB1⟩
  obtain ⟨A1, c1, rfl, hmc, hI1, _⟩ := hO.ints
  have hcap := hO.cap
  have hby := hI1.bytes
  have HA := Lib.hid (own_adr hO)
  have hsu := shuf_sum nn hby
  have hle := shufL_le d nn hby
  go_wp2_with fail
  refine (i_Shuffle nn hI1 hmc (by omega) hcap HA.out).mono ?_
  rintro e w2 ⟨v2, rfl, hx, hb2⟩
  have hB2 := hB1.trans (hb2.mono hB1.size)
  obtain ⟨U, hU⟩ : ∃ U, shufU d nn = U := ⟨_, rfl⟩
  obtain ⟨L, hL⟩ : ∃ L, shufL d nn = L := ⟨_, rfl⟩
  rw [hU, hL] at hsu
  rw [hL] at hx hle
  rw [hU]
  obtain ⟨A2, c2, rfl, hmc2, hI2, _⟩ := hx.ints
  clear hU hL hx hI1 hO hby hcap hn8 hlen hb2 hB1
  rcases hsu with hneg | ⟨hpos, hOL, hnd⟩
  have h0 : decide (U ≥ 0) = false := by simp; omega
  have hBX := hB2
  go_wp2_with fail
  rotate_left
  have h0 : decide (U ≥ 0) = true := by simp; omega
  have HT := Lib.hid (ordB_t hOL)
  obtain ⟨F, hF⟩ : ∃ F, fneed nn = F := ⟨_, rfl⟩
  rw [hF] at hnd
  have HF := Lib.hid hF
  clear hF hOL
  go_wp2_with (first
    | (go_at_call 10; refine (i_Ordered hI2 (by omega)).mono ?_; rintro e w3 ⟨rfl, hb3⟩; rw [HT.out]; have hBX := hB2.trans (hb3.mono hB2.size))
    | (go_at_call 11; refine (i_Needed nn _).mono ?_; rintro e w' ⟨rfl, rfl⟩; rw [HF.out]))
  all_goals
    clear hI2 h0 hB2
    refine (d_Reorder (Ints.up (hl.below hBX) hBX.size) (by omega)).mono ?_
    rintro e w4 ⟨v4, b, u4, o, rfl, hOb, hOo, hlb, hlo, hb4⟩
    have hB4 := hBX.trans (hb4.mono hBX.size)
    obtain ⟨A4, c4, rfl, hmc4, hI4, _⟩ := hOb.ints
    obtain ⟨A5, c5, rfl, hmc5, hI5, _⟩ := hOo.ints
    clear hOb hOo hBX hb4
    go_wp2_with fail
    refine (i_Reorder hI4 hI5 (by omega) (by omega)).mono ?_
    rintro e w6 ⟨v6, rfl, hOx, hb6⟩
    have hB6 := hB4.trans (hb6.mono hB4.size)
    have hIb6 := (hI4.below hb6).up hb6.size
    have hIo6 := (hI5.below hb6).up hb6.size
    clear hI4 hI5 hB4 hb6
    by_cases hg : b.length = o.length ∧ Ord o
    · obtain ⟨he, ho⟩ := hg
      rw [show (freor b o).2 = true from by rw [freor_t he ho]]
      rw [show (freor b o).1 = reor b o from by rw [freor_t he ho]] at hOx
      obtain ⟨A6, c6, rfl, hmc6, hIx6, _⟩ := hOx.ints
      have hby := by_ints hIb6
      have hbyx := by_ints hIx6
      have hperm := reor_perm ho he
      have hat := fun k (hk : k < o.length) => reor_at (b := b) hk
      have hxl := reor_len b o
      have HO := Lib.hid (ordB_t ho)
      obtain ⟨x, hx⟩ : ∃ x, reor b o = x := ⟨_, rfl⟩
      rw [hx] at hIx6 hbyx hperm hat hxl ⊢
      rw [hxl] at hIx6 ⊢
      rw [he] at hIb6 ⊢
      obtain ⟨q, hq⟩ : ∃ q, o.length = q := ⟨_, rfl⟩
      rw [hq] at hIx6 hIb6 hIo6 hxl he hlo hat ⊢
      have hord := fun k (hk : k < q) => ord_at ho (k := k) (by rw [hq]; exact hk)
      rw [hq] at hord
      have HBL := Lib.hid he
      have HXL := Lib.hid hxl
      have HR := Lib.hid hord
      have HAT := Lib.hid hat
      have HPM := Lib.hid hperm
      clear hOx hx hq ho hord hat hperm he hxl hmc4 hmc5 hmc6 hlb
      go_wp2_with (first
        | (go_at_call 15; refine (s_Ordered hIo6 (by omega)).mono ?_; rintro e w7 ⟨rfl, hb7⟩; rw [HO.out])
        | (at_make; refine wpList_mk _ rfl (.const (.int .i64 256)) (.const (.int .i64 256)) _ rfl 3 i0 _ Try.underlying25 hi0 hz0 rfl hz1 256 rfl rfl (by rw [hz2]; omega) (by simp only [maxLen]; omega) ?_; intro w8 hrow hb8 hsz))
      have hB7 := hB6.trans (hb7.mono hB6.size)
      have hIb := (hIb6.below hb7).up hb7.size
      have hIo := (hIo6.below hb7).up hb7.size
      have hIx := (hIx6.below hb7).up hb7.size
      have hB7s := hB7.size
      clear hIb6 hIo6 hIx6 hB6 hb7 hsz
      obtain ⟨G, hG⟩ : ∃ G, w7.heap.size = G := ⟨_, rfl⟩
      have HG := Lib.hid hG
      rw [hG] at hrow hb8 hIb hIo hIx hB7s
      try rw [hG]
      clear hG
      go_loopw [12] (fun i wr => ∃ k : Nat, k ≤ q ∧ i = .int .i64 k ∧ wr.rowIs G 3 256 (fun j => .int .i64 (cntk b k j - cntk x k j)) ∧ Below G w7 wr) (fun i _ => q - (intOf i).toNat)
      case atStart => exact ⟨0, by omega, rfl, hrow.congr fun j _ => by rw [cntk_zero, cntk_zero]; rfl, hb8⟩
      case round =>
        obtain ⟨k, hk, rfl, hrow2, hB⟩ := hrel
        by_cases hlt : k < q
        · have hkb : k < b.length := by rw [HBL.out]; exact hlt
          have hkx : k < x.length := by rw [HXL.out]; exact hlt
          obtain ⟨xb, hxb, hxb'⟩ := nat_byte hby hkb
          obtain ⟨xx, hxx, hxx'⟩ := nat_byte hbyx hkx
          obtain ⟨z, hz, hzq⟩ := HR.out k hlt
          have hbz := HAT.out k hlt
          rw [hxx, hz, Int.toNat_natCast] at hbz
          obtain ⟨b4, o4, rfl, hbl4, hc4⟩ := (hIb.below hB).2.1 (by omega)
          obtain ⟨b5, o5, rfl, hbl5, hc5⟩ := (hIo.below hB).2.1 (by omega)
          obtain ⟨b6, o6, rfl, hbl6, hc6⟩ := (hIx.below hB).2.1 (by omega)
          have f1 := hc4 k hlt
          rw [hxb] at f1
          have g0 := hrow2.cell hxb'
          have fz0 := hrow2.frozen xb
          have r1 := cntk_range b k xb
          have r2 := cntk_range x k xb
          have r3 := cntk_range b k xx
          have r4 := cntk_range x k xx
          rw [HBL.out] at r1 r3
          rw [HXL.out] at r2 r4
          have hst := fun j c1 => cnt_step (j := j) hkb hkx hxb hxx (c1 := c1)
          obtain ⟨e0, he0⟩ : ∃ e0, cntk b k xb - cntk x k xb = e0 := ⟨_, rfl⟩
          have re0 : -4 ≤ e0 ∧ e0 ≤ 4 := by omega
          have hrow3 := hrow2.set xb (.int .i64 (e0 + 1))
          have g1 := hrow3.cell hxx'
          have fz1 := hrow3.frozen xx
          rw [i64_if] at g1
          rw [he0] at g0 hst
          obtain ⟨c1, hc1⟩ : ∃ c1, (if xx = xb then e0 + 1 else cntk b k xx - cntk x k xx) = c1 := ⟨_, rfl⟩
          have rc1 : -5 ≤ c1 ∧ c1 ≤ 5 := by rw [← hc1]; split <;> omega
          have hst' := fun j => hst j c1 hc1
          rw [hc1] at g1
          have hB1 : Below G w7 (wr.setCell ⟨G, xb, none⟩ (.int .i64 (e0 + 1))) := hB.setCell (Nat.le_refl _) _
          have hB2 : Below G w7 ((wr.setCell ⟨G, xb, none⟩ (.int .i64 (e0 + 1))).setCell ⟨G, xx, none⟩ (.int .i64 (c1 - 1))) := hB1.setCell (Nat.le_refl _) _
          have n4 : b4 ≠ G := by omega
          have n5 : b5 ≠ G := by omega
          have n6 : b6 ≠ G := by omega
          have f2 := cell_far (G := G) (p := xb) (u := .int .i64 (e0 + 1)) (hc6 k hlt) n6
          have f3 := cell_far (G := G) (p := xx) (u := .int .i64 (c1 - 1)) f2 n6
          have f4 := cell_far (G := G) (p := xx) (u := .int .i64 (c1 - 1)) (cell_far (G := G) (p := xb) (u := .int .i64 (e0 + 1)) (hc5 k hlt) n5) n5
          have f5 := cell_far (G := G) (p := xx) (u := .int .i64 (c1 - 1)) (cell_far (G := G) (p := xb) (u := .int .i64 (e0 + 1)) (hc4 z (by omega)) n4) n4
          rw [hxx] at f2 f3
          rw [hz] at f4
          rw [← hbz] at f5
          have HST := Lib.hid hst'
          have q1 : (0 : Int) ≤ (xb : Int) := Int.natCast_nonneg _
          have q2 : (xb : Int) < 256 := by omega
          have q3 : (0 : Int) ≤ (xx : Int) := Int.natCast_nonneg _
          have q4 : (xx : Int) < 256 := by omega
          have q5 : (0 : Int) ≤ (z : Int) := Int.natCast_nonneg _
          have q6 : (z : Int) < (q : Int) := by omega
          clear hst hst' hc1 he0 hxb hxx hz hbz r1 r2 r3 r4 hc4 hc5 hc6 hkb hkx
          set_option maxRecDepth 100000 in go_wp2
          go_quiet (fail)
          set_option maxRecDepth 100000 in go_wp2
          go_roundw
          case rel => exact ⟨k + 1, by omega, by go_num, (hrow3.set xx (.int .i64 (c1 - 1))).congr fun j _ => by simp only [i64_if, HST.out], below_drewN hB2 _⟩
          case measure => simp [intOf]; omega
        · obtain rfl : k = q := by omega
          have hzr : wr.rowIs G 3 256 (fun _ => .int .i64 0) := hrow2.congr fun j _ => by rw [cntk_perm HPM.out HBL.out]
          clear hrow2 hrow hlt hk
          have hBr : Below w7.heap.size w7 wr := by rw [HG.out]; exact hB
          have hBw := hB7.trans (hBr.mono hB7.size)
          set_option maxRecDepth 100000 in go_wp2
          go_loop [13] (fun i => ∃ m : Nat, m ≤ 256 ∧ i = .int .i64 m) (fun i => 256 - (intOf i).toNat)
          case atStart => exact ⟨0, by omega, rfl⟩
          case round =>
            obtain ⟨m, hm, rfl⟩ := hrel
            by_cases hlm : m < 256
            · have hcm := hzr.cell hlm
              set_option maxRecDepth 100000 in go_wp2
              go_round
              case rel => exact ⟨m + 1, by omega, by go_num⟩
              case measure => simp [intOf]; omega
            · obtain rfl : m = 256 := by omega
              set_option maxRecDepth 100000 in go_wp2_with (go_at_call 14; refine (l_seals _).mono ?_; rintro e w9 ⟨rfl, hb9⟩)
              go_ret
              exact ⟨rfl, hBw.trans (hb9.mono hBw.size)⟩
    · have hor : ordB o = false ∨ (ordB o = true ∧ ¬ b.length = o.length) := by
        by_cases h : Ord o
        · exact .inr ⟨ordB_t h, fun h' => hg ⟨h', h⟩⟩
        · exact .inl (ordB_f h)
      have hfr : freor b o = ([], false) := if_neg fun h => hg ⟨h.1, ordB_iff.1 h.2⟩
      rw [show (freor b o).2 = false from by rw [hfr]]
      rw [show (freor b o).1 = [] from by rw [hfr]] at hOx
      obtain ⟨A6, c6, rfl, _⟩ := hOx.shape
      rw [show ([] : List Int).length = 0 from rfl]
      clear hOx hfr hg
      rcases hor with h | ⟨h, hne⟩
      · have HO := Lib.hid h
        clear h
        go_wp2_with (first
          | (go_at_call 10; refine (i_Ordered hIo6 (by omega)).mono ?_; rintro e w7 ⟨rfl, hb7⟩; rw [HO.out]; have hB7 := hB6.trans (hb7.mono hB6.size))
          | (go_at_call 14; refine (l_seals _).mono ?_; rintro e w9 ⟨rfl, hb9⟩))
        go_ret
        exact ⟨rfl, hB7.trans (hb9.mono hB7.size)⟩
      · have HO := Lib.hid h
        have hne' : ((b.length : Int) != (o.length : Int)) = true := by simp; omega
        clear h
        go_wp2_with (first
          | (go_at_call 10; refine (i_Ordered hIo6 (by omega)).mono ?_; rintro e w7 ⟨rfl, hb7⟩; rw [HO.out]; have hB7 := hB6.trans (hb7.mono hB6.size))
          | (go_at_call 14; refine (l_seals _).mono ?_; rintro e w9 ⟨rfl, hb9⟩))
        go_ret
        exact ⟨rfl, hB7.trans (hb9.mono hB7.size)⟩

/-! ### THE ROW's STEP: WRITTEN OUT: LEAVE IT -/
set_option maxRecDepth 100000 in
theorem lifted (os : Os) (started : os.Started) (H : Type) (enc : TypeId × Value → H) :
    ReturnsInHanded {} Try.checked os 3 .any (Rows.fnOrderedSpec.pre6 enc Try.prog Try.f3 Rows.fnOrderedRow.domain false) (Rows.fnOrderedSpec.post enc Try.prog Try.f3 false true false false) := by
  refine returnsInHanded_of_change_sized (C := Try.checked) own started (by kernel_rfl) Try.func3
    (ChangeSpec.witness6 (enc := enc) (C := Try.checked) false ⟨#[], #[.slice none 0 0], []⟩ 8 (by kernel_rfl) (by kernel_rfl) (by kernel_rfl) (by kernel_rfl)) ?_
  intro W base args ds gs before hval0 hW hcnd hsz0 _
  have hval : ∀ (j : Nat) t v, Try.f3.params[j]? = some t → args[j]? = some v → Value.okWide Try.prog W .any base t v := hval0
  have hW' := hW
  obtain ⟨p, q, hA0, hV, rfl, hfz, hnd⟩ := hW
  have hA : DataW.TrodAll enc Try.prog W 0 (fun _ => true) true Try.f3.params.toList args.toList ds p := hA0
  have hsz : (DataW.weightsEach Try.prog (Try.f3.params.toList ++ Rows.fnOrderedSpec.plain.varTypes Try.prog) (ds ++ gs)).all (· ≤ reachBytes) = true := hsz0
  rw [Try.params3] at hA hval hsz
  obtain ⟨v0, vs0, d0, ds0, p0, q0, hargs, rfl, rfl, h0, r0⟩ := trodAll_cons hA
  obtain ⟨rfl, rfl, rfl⟩ := trodAll_nil r0
  obtain rfl : args = #[v0] := by cases args; simp_all
  obtain ⟨rfl, rfl⟩ := trodVars_none hV
  obtain ⟨a0, len0, cap0, rfl⟩ := okWide_slice Try.underlying22 (hval 0 22 v0 rfl rfl)
  have k0 := h0
  have lt0 : ∀ x ∈ p0, x.block < W.heap.size := by obtain ⟨m, hm⟩ := k0; exact DataW.trod_lt m _ _ _ hm
  obtain ⟨z0, w0, r0⟩ : ∃ zs, IsRow .u8 W a0 len0 cap0 zs ∧ cap0 ≤ 140737488351232 := by
    obtain ⟨fuel, hf⟩ := h0
    rcases open_ints Try.underlying22 Try.underlying5 (by kernel_rfl) hf with ⟨hcs, _⟩ | ⟨x, l, c, zs, hcs, _, hl, hm, hz, hxx, hcell, hwz⟩
    · simp [Value.cells] at hcs
      obtain ⟨rfl, rfl, rfl⟩ := hcs
      exact ⟨[], .inl ⟨rfl, rfl, rfl, rfl⟩, by omega⟩
    · simp [Value.cells] at hcs
      obtain ⟨rfl, rfl, rfl⟩ := hcs
      have hz' : zs.length = cap0 := by simpa using hz
      refine ⟨zs, .inr ⟨_, rfl, hl, hm, hz', hcell, hwz⟩, ?_⟩
      simp only [Prod.mk.injEq] at hxx
      rw [hxx.1] at hsz
      have h := sized_slice hsz (j := 0) (t := 22) (e := 5) rfl rfl Try.underlying22
      rw [bytes5] at h
      simp only [lits, List.length_map, List.length_take, List.length_drop, reachBytes] at h
      omega
  clear hA0 hval0
  refine (walk a0 len0 cap0 z0 W w0 r0).mono fun e W' ⟨he, bel⟩ => ?_
  subst he
  exact ⟨_, rfl, _, _, _, [], _, [], hW', trodAll_mk1 (shut_bool Try.underlying4 _), (trodAll_cons_mk (Below.trod laidOut (by kernel_rfl) (of_decide_eq_true (by kernel_rfl)) k0 bel lt0) trodAll_mk0), rfl, bel.frame _, fun h => by cases h⟩

theorem over : Rows.fnOrderedRow.holds Try.pinned (OpenSpec.ofChange Rows.fnOrderedSpec) :=
  OpenClaim.holds_of_wide 3 Try.f3 rfl rfl rfl rfl rfl rfl rfl ⟨rfl, rfl, rfl, rfl, rfl⟩ rfl rfl rfl rfl rfl (by kernel_rfl) Try.func3 (by kernel_rfl)
    (of_decide_eq_true (by kernel_rfl)) (by unfold Func.isWrapper; first | (rw [if_pos (by decide +kernel)]; kernel_rfl) | (rw [if_neg (by decide +kernel)]; exact ⟨rfl, rfl⟩))
    (fun os started H enc _ => lifted os started H enc)

/-- ████ THE STATEMENT ████ -/
theorem proved : Rows.FnOrderedSaid := over
#print axioms proved
end Go.Proofs.Ytjehcmmbbjidkaa.fnOrdered
