/-
  SpecTwo, DrawTwo, SpecThree, Reads: texts joined.
-/
import Derived.Test.YtnfmjgldcnokbaaKGb
import Derived.Test.YtnfmjgldcnokbaaKGe
import Derived.Test.YtnfmjgldcnokbaaKGg
import Derived.Test.YtnfmjgldcnokbaaKGh
import Derived.BigQuiet
import Derived.Deep.DrawnRows
import Derived.Deep.QuietTactic
import Derived.Deep.RegionHeld3
import Derived.Outline
namespace Go.Proofs.Ytnfmjgldcnokbaa
set_option maxRecDepth 100000
open Go.ChangeShapes Go.WideShapes Go.ChangeAt Go.RowKit
open Fld
attribute [local go_sem ↓] Go.wp_at_zero Go.wp_at_succ

theorem info_by : (Try.prog.info? 5).map (fun i => (i.zero, i.size, i.bytes)) = some (some (.int .u8 0), 1, 1) := by kernel_rfl
theorem wf8 {x : Int} (h : 0 ≤ x ∧ x < 256) : (Lit.int .u8 x).wf = true := WalkArith.wf_u8 (by omega)
theorem Ints.bytes {w : World} {B n : Nat} {A : Option Addr} {l : List Int} (h : Ints .u8 w B A n l) : Bytes l := fun x hx => by
  have := h.2.2 x hx
  simp [Lit.wf] at this
  have e1 : IntKind.u8.min = 0 := by decide
  have e2 : IntKind.u8.max = 255 := by decide
  omega
theorem own_snoc {e : TypeId} {w w1 : World} {base : Nat} {v v1 : Value} {l l' : List Int} {x : Int} (h : Own .u8 e w base v l) (h1 : w1.ownsRow base e 1 v1 (l.length + 1) (l.map (Value.int .u8) ++ [.int .u8 x])) (hl : l' = l ++ [x]) (hx : 0 ≤ x ∧ x < 256) : Own .u8 e w1 base v1 l' := by
  subst hl
  refine Own.of (n := l.length + 1) (by simpa using h1) fun y hy => ?_
  rcases List.mem_append.1 hy with h' | h'
  · exact h.2 y h'
  · rw [List.mem_singleton] at h'; rw [h']; exact wf8 hx
theorem below_own {k : IntKind} {e : TypeId} {w wr wa w1 : World} {v : Value} {l : List Int} (hB : Below w.heap.size w wr) (h : Own k e wr w.heap.size v l) (ha : Below wr.heap.size wr wa) (hg : wa.grownBy w1 v.ownBlock) : Below w.heap.size w w1 :=
  (hB.trans (ha.mono hB.size)).grown hg (by have := hB.size; have := ha.size; omega) fun b hb => (h.1.lt b hb).1

theorem u8w {x : Int} (h : 0 ≤ x ∧ x < 256) : IntKind.u8.wrap x = x := by rw [IntKind.wrap_u8']; omega
theorem cell_grown {wa w1 : World} {row : Option Nat} (hg : wa.grownBy w1 row) {b o : Nat} {u : Value} (hb : b < wa.heap.size) (hne : some b ≠ row) (h : wa.cell? ⟨b, o, none⟩ = some u) : w1.cell? ⟨b, o, none⟩ = some u :=
  (World.cell?_of_block (hg.block b hb hne)).trans h
theorem Own.not {k : IntKind} {e : TypeId} {w : World} {base b : Nat} {v : Value} {l : List Int} (h : Own k e w base v l) (hb : b < base) : some b ≠ v.ownBlock := fun e => by
  have := (h.block e.symm).1; omega

theorem step_app {P : Program} (w : World) {ops : Array Oper} {o : Oper} {a : Act} {K : Act → World → Prop} {Q : Exit → Act → World → Prop} {E : Prop} (hgd : o.guard = none) (s x : Operand) (t : TypeId)
    (ho : o.op = .call { callee := .builtin .append, args := #[s, x], argTypes := #[t, t] })
    (base : Nat) (e : TypeId) (i : TypeInfo) (z : Value) (size bytes : Nat) (ht : P.underlying t = some (.slice e)) (hi : P.info? e = some i) (hz : i.zero = some z)
    (hsize : i.size = size) (hby : i.bytes = bytes) (hzs : z.cells.size = size) (hsz : 0 < size)
    (v : Value) (n : Nat) (xs : List Value) (hs : a.eval s = v) (hown : w.ownsRow base e size v n xs)
    (A : Option Addr) (m c : Nat) (news : List Value) (hx : a.eval x = .slice A m c) (hr : Src w size A m news) (h1 : ∀ u ∈ news, u.oneCell' = true)
    (h63 : n + m ≤ maxLen) (hbytes : (n + m) * bytes ≤ 140737488355328) (hbase : base ≤ w.heap.size)
    (h : ∀ v' w', w'.ownsRow base e size v' (n + m) (xs ++ news) → w.grownBy w' v.ownBlock → (v'.ownBlock = v.ownBlock ∨ v'.ownBlock = some w.heap.size) → K (a.put o.dst v') w') :
    if Region.wanted o (yielded ops a.tmps) = true then Oper.wp P o a w K Q else E := by
  have hw : Region.wanted o (yielded ops a.tmps) = true := by simp [Region.wanted, hgd]
  rw [if_pos hw]
  exact wp_app w s x t ho base e i z size bytes ht hi hz hsize hby hzs hsz v n xs hs hown A m c news hx hr h1 h63 hbytes hbase h

theorem s_stream (k i : Int) (w : World) (h1 : 0 ≤ k) (h2 : k < 2147483647) (h3 : 0 ≤ i) (h4 : i ≤ 1000000) :
    Calls Try.prog 142 #[.int .i64 k, .int .i64 i] w fun e w' => e = .returned (.int .i64 (strB k i)) ∧ w = w' := by
  have r1 := mulP_rg ((k + i * 7919 + 3) % 2147483647) 48271
  have r2 := mulP_rg ((mulP ((k + i * 7919 + 3) % 2147483647) 48271 + k + i + 1) % 2147483647) 16807
  go_enter Try.func142, Try.ntmps142
  go_wp2_with (go_at_call 86; refine (s_mul _ _ _ (by omega) (by omega) (by omega) (by omega)).mono ?_; rintro e w' ⟨rfl, rfl⟩)
  go_ret
  exact ⟨rfl, rfl⟩
set_option maxRecDepth 100000 in
set_option maxHeartbeats 1000000 in
theorem s_xor {w : World} {n c : Nat} {A : Option Addr} {l : List Int} (k : Int) (hl : Ints .u8 w w.heap.size A n l) (hn : n ≤ 400) (h1 : 0 ≤ k) (h2 : k < 2147483647) :
    Calls Try.prog 136 #[.int .i64 k, .slice A n c] w fun e w' => ∃ v, e = .returned v ∧ Own .u8 5 w' w.heap.size v (xorl k l) ∧ Below w.heap.size w w' := by
  obtain ⟨i0, hi0, hz0, hz1, hz2⟩ := info_parts info_by
  have HL := Lib.hid hl.1
  have hby := hl.bytes
  go_enter Try.func136, Try.ntmps136
  go_wp2
  go_loopw [5, 6] (fun v i wr => ∃ j : Nat, j ≤ n ∧ i = .int .i64 j ∧ Own .u8 5 wr w.heap.size v (xorn k l j) ∧ Below w.heap.size w wr) (fun _ i _ => n - (intOf i).toNat)
  case atStart => exact ⟨0, by omega, rfl, Own.nil _ _ _ _, Below.refl _ _⟩
  case round =>
    obtain ⟨j, hj, rfl, hO, hB⟩ := hrel
    by_cases hlt : j < n
    · obtain ⟨b, off, rfl, hb, hcell, _⟩ := (hl.below hB).at_ hlt
      have HS := Lib.hid (xorn_snoc k l j)
      have rx := xor_rg (hby.at_ j) (strB_rg k j)
      have rs := strB_rg k j
      have q1 : (0 : Int) ≤ (j : Int) := Int.natCast_nonneg _
      have q2 : (j : Int) < (n : Int) := by omega
      have hbs : b < wr.heap.size := Nat.lt_of_lt_of_le hb hB.size
      have hw8 := u8w rs
      have hne := hO.not hb
      obtain ⟨x, hx⟩ : ∃ x, l.getD j 0 = x := ⟨_, rfl⟩
      rw [hx] at hcell rx
      have HX := Lib.hid hx
      clear hx
      go_wp2
      go_region_held3 (fun w' => w'.cell? ⟨b, off + j, none⟩ = some (.int .u8 x)) (first | go_keep | (exact cell_grown hg (by simp; omega) hne (by assumption)))
        (first
          | (go_at_call 142; refine (s_stream _ _ _ h1 h2 (by omega) (by omega)).mono ?_; rintro e w' ⟨rfl, rfl⟩)
          | (refine step_app _ (by rfl) (.tmp 13) (.tmp 23) _ (by rfl) w.heap.size 5 i0 _ 1 1 Try.underlying22 hi0 hz0 hz1 hz2 rfl (by omega) _ _ _ (by rfl) ((hO.1.alloc _).drew) _ 1 1 [.int .u8 (bits .xor .u8 x (strB k j))] (by rfl) (Src.one wr _ _) (one_int _ _) (by simp only [maxLen]; rw [xorn_len]; omega) (by rw [xorn_len]; omega) (by simp; have := hB.size; omega) ?_; intro v1 w1 hown hg hat))
      go_wp2
      go_roundw
      case rel => exact ⟨j + 1, by omega, by go_num, own_snoc hO (by rw [xorn_len] at *; exact hown) (by rw [HS.out, HX.out]) rx, below_own hB hO ((Below.refl _ _).alloc (Nat.le_refl _) _).drew hg⟩
      case measure => simp [intOf]; omega
    · obtain rfl : j = n := by omega
      have HE := Lib.hid (show xorl k l = xorn k l j from by unfold xorl; rw [HL.out])
      go_wp2
      go_ret
      exact ⟨_, rfl, by rw [HE.out]; exact hO, hB⟩
theorem s_mac {w : World} {B n c : Nat} {A : Option Addr} {l : List Int} (k : Int) (hl : Ints .u8 w B A n l) (hn : n ≤ 400) (h1 : 0 ≤ k) (h2 : k < 2147483647) :
    Calls Try.prog 137 #[.int .i64 k, .slice A n c] w fun e w' => e = .returned (.int .i64 (mac k l)) ∧ ∃ q, w' = w.drewN q := by
  have HL := Lib.hid hl.1
  have hby := hl.bytes
  have rk := keyP_rg k 71
  have rk2 := keyP_rg k 72
  go_enter Try.func137, Try.ntmps137
  go_wp2_with (go_at_call 122; refine (s_key _ _ _ h1 h2 (by omega) (by omega)).mono ?_; rintro e w' ⟨rfl, rfl⟩)
  obtain ⟨r, hr⟩ : ∃ r, 1 + keyP k 71 % 2147483646 = r := ⟨_, rfl⟩
  rw [hr]
  have HR := Lib.hid (show macR k = r from hr)
  have rr : 1 ≤ r ∧ r < 2147483647 := by rw [← HR.out]; exact macR_rg k
  clear hr
  go_loopw [6, 7] (fun m i wr => ∃ j : Nat, j ≤ n ∧ i = .int .i64 j ∧ m = .int .i64 (macN r ((n : Int) + 1) l j) ∧ ∃ q, wr = w.drewN q) (fun _ i _ => n - (intOf i).toNat)
  case atStart => exact ⟨0, by omega, rfl, rfl, 0, rfl⟩
  case round =>
    obtain ⟨j, hj, rfl, rfl, q, rfl⟩ := hrel
    have rm := macN_rg (r := r) (n := (n : Int) + 1) (l := l) (by omega) j (by rw [HL.out]; exact hj)
    by_cases hlt : j < n
    · obtain ⟨b, off, rfl, hb, hcell, _⟩ := hl.at_ hlt
      have HS := Lib.hid (macN_succ (r := r) (n := (n : Int) + 1) (l := l) (j := j) (by rw [HL.out]; exact hlt))
      have bx := hby.at_ j
      obtain ⟨x, hx⟩ : ∃ x, l.getD j 0 = x := ⟨_, rfl⟩
      obtain ⟨m, hm⟩ : ∃ m, macN r ((n : Int) + 1) l j = m := ⟨_, rfl⟩
      rw [hx] at hcell bx
      rw [hm] at rm ⊢
      have HX := Lib.hid hx
      have HM := Lib.hid hm
      clear hx hm
      have rp := mulP_rg m r
      have i1 : IntKind.i64.wrap (mulP m r + x) = mulP m r + x := IntWalk.i64_in _ (by omega)
      have i2 : IntKind.i64.wrap (mulP m r + x + 1) = mulP m r + x + 1 := IntWalk.i64_in _ (by omega)
      have i3 : (mulP m r + x + 1).tmod 2147483647 = (mulP m r + x + 1) % 2147483647 := Int.tmod_eq_emod_of_nonneg (by omega)
      go_wp2
      go_quiet ((go_at_call 86; exact q_add (fun W => s_mul m r W rm.1 rm.2 (by omega) rr.2)))
      clear i1 i2 i3
      go_wp2
      go_roundw
      case rel => exact ⟨j + 1, by omega, by go_num, by rw [HS.out, HX.out, HM.out, mac_step], _, rfl⟩
      case measure => simp [intOf]; omega
    · obtain rfl : j = n := by omega
      have rp := mulP_rg (macN r ((j : Int) + 1) l j) r
      go_wp2_with (first | (go_at_call 122; refine (s_key _ _ _ h1 h2 (by omega) (by omega)).mono ?_; rintro e w' ⟨rfl, rfl⟩) | (go_at_call 86; refine (s_mul _ _ _ rm.1 rm.2 (by omega) rr.2).mono ?_; rintro e w' ⟨rfl, rfl⟩))
      go_ret
      exact ⟨ret_i64 (by unfold mac macV; rw [HR.out, HL.out]; rfl), _, rfl⟩
theorem four_cells (w : World) (t : TypeId) (x0 x1 x2 x3 : Int) : (w.alloc (.cells #[.int .u8 x0, .int .u8 x1, .int .u8 x2, .int .u8 x3] t)).ownsRow w.heap.size t 1 (.slice (some ⟨w.heap.size, 0, none⟩) 4 4) 4 ([x0, x1, x2, x3].map (Value.int .u8)) :=
  ⟨rfl, .inr ⟨w.heap.size, 4, _, rfl, Nat.le_refl _, heap_alloc_new w _, Nat.le_refl _, by simp only [maxLen]; omega, rfl, rfl⟩⟩
theorem Src.four (w : World) (t : TypeId) (x0 x1 x2 x3 : Int) : Src (w.alloc (.cells #[.int .u8 x0, .int .u8 x1, .int .u8 x2, .int .u8 x3] t)) 1 (some ⟨w.heap.size, 0, none⟩) 4 ([x0, x1, x2, x3].map (Value.int .u8)) := by
  refine ⟨rfl, fun _ => ⟨_, 0, rfl, fun j v hj => ?_⟩⟩
  rw [(Box.new w t _).cell]
  match j, hj with
  | 0, hj => exact hj
  | 1, hj => exact hj
  | 2, hj => exact hj
  | 3, hj => exact hj
theorem four_small {x : Int} (h : 0 ≤ x ∧ x < 2147483648) : [x / 16777216, x / 65536 % 256, x / 256 % 256, x % 256] = Go.Proofs.Ytnfmjgldcnokbaa.four x := by
  unfold Go.Proofs.Ytnfmjgldcnokbaa.four
  rw [show x / 16777216 % 256 = x / 16777216 from by omega]
theorem s_four0 {w : World} (x : Int) (h : 0 ≤ x ∧ x < 2147483648) :
    Calls Try.prog 120 #[.slice none 0 0, .int .i64 x] w fun e w' => ∃ v, e = .returned v ∧ Own .u8 5 w' w.heap.size v (four x) ∧ Below w.heap.size w w' := by
  obtain ⟨i0, hi0, hz0, hz1, hz2⟩ := info_parts info_by
  have HF := Lib.hid (four_small h)
  go_enter Try.func120, Try.ntmps120
  go_wp2_with (at_builtin; refine wpList_app _ rfl (.tmp 5) (.tmp 17) _ rfl w.heap.size 5 i0 _ 1 1 Try.underlying22 hi0 hz0 hz1 hz2 rfl (by omega) _ 0 [] rfl (World.ownsRow_nil _ _ _ _) _ 4 4 _ rfl (Src.four _ _ _ _ _ _) (one_ints _ _) (by simp only [maxLen]; omega) (by omega) (by simp) ?_; intro v1 w1 hown hg hat)
  go_ret
  exact ⟨_, rfl, Own.of (n := 4) (by rw [← HF.out]; simpa using hown) (fun y hy => wf8 (four_bytes x y hy)), below_own (Below.refl _ _) (Own.nil .u8 5 w w.heap.size) ((Below.refl _ _).alloc (Nat.le_refl _) _) hg⟩
theorem own_app {e : TypeId} {w : World} {base : Nat} {v : Value} {l r : List Int} (h : w.ownsRow base e 1 v (l.length + r.length) (l.map (Value.int .u8) ++ r.map (Value.int .u8))) (hl : Bytes l) (hr : Bytes r) : Own .u8 e w base v (l ++ r) :=
  Own.of (n := l.length + r.length) (by rw [List.map_append]; exact h) fun y hy => wf8 (hl.app hr y hy)
theorem s_seal {w : World} {n c : Nat} {A : Option Addr} {l : List Int} (k : Int) (hl : Ints .u8 w w.heap.size A n l) (hn : n ≤ 400) (h1 : 0 ≤ k) (h2 : k < 2147483647) :
    Calls Try.prog 121 #[.int .i64 k, .slice A n c] w fun e w' => ∃ v, e = .returned v ∧ Own .u8 5 w' w.heap.size v (sealL k l) ∧ Below w.heap.size w w' := by
  obtain ⟨i0, hi0, hz0, hz1, hz2⟩ := info_parts info_by
  have hlen := hl.1
  have hby := hl.bytes
  have rk1 := keyP_rg k 1
  have rk2 := keyP_rg k 2
  have HL := Lib.hid hlen
  clear hlen
  go_enter Try.func121, Try.ntmps121
  go_wp2_with (go_at_call 122; refine (s_key _ _ _ h1 h2 (by omega) (by omega)).mono ?_; rintro e w' ⟨rfl, rfl⟩)
  refine (s_xor _ hl hn rk1.1 rk1.2).mono ?_
  rintro e w1 ⟨v, rfl, hO, hB⟩
  have hxb := xorl_bytes (k := keyP k 1) hby
  have hxl : (xorl (keyP k 1) l).length = n := by rw [xorl_len]; exact HL.out
  obtain ⟨xs, hxs⟩ : ∃ xs, xorl (keyP k 1) l = xs := ⟨_, rfl⟩
  have HS := Lib.hid (show sealL k l = four (mac (keyP k 2) xs) ++ xs by unfold sealL; rw [hxs])
  rw [hxs] at hO hxb hxl
  clear hxs
  subst hxl
  obtain ⟨A1, c1, rfl, _, hI, _⟩ := hO.ints
  go_wp2_with (go_at_call 122; refine (s_key _ _ _ h1 h2 (by omega) (by omega)).mono ?_; rintro e w' ⟨rfl, rfl⟩)
  refine (s_mac _ hI hn rk2.1 rk2.2).mono ?_
  rintro e w2 ⟨rfl, q, rfl⟩
  have rm := mac_rg (keyP k 2) xs
  go_wp2_with fail
  refine (s_four0 _ (by omega)).mono ?_
  rintro e w3 ⟨v3, rfl, hO3, hB3⟩
  have hI3 := (hI.drewN q).below hB3
  have hlen4 := four_len (mac (keyP k 2) xs)
  have H4 := Lib.hid hlen4
  clear hlen4
  go_wp2_with (at_builtin; refine wpList_app _ rfl (.tmp 14) (.tmp 15) _ rfl w.heap.size 5 i0 _ 1 1 Try.underlying22 hi0 hz0 hz1 hz2 rfl (by omega) _ _ _ rfl (hO3.lower hB.size).1 _ _ _ _ rfl (Src.of_ints hI3) (one_ints _ _) (by simp only [maxLen]; rw [H4.out]; omega) (by rw [H4.out]; omega) (Nat.le_trans hB.size (by have := hB3.size; simpa using this)) ?_; intro v1 w4 hown hg hat)
  go_ret
  refine ⟨_, rfl, ?_, ?_⟩
  · rw [HS.out]
    exact own_app hown (four_bytes _) hxb
  · exact below_own ((below_drewN hB q).trans (hB3.mono hB.size)) (hO3.lower hB.size) (Below.refl _ _) hg
theorem Ints.tail {w : World} {B n b off : Nat} {l : List Int} (h : Ints .u8 w B (some ⟨b, off, none⟩) n l) (m : Nat) (hm : m ≤ n) : Ints .u8 w B (some ⟨b, off + m, none⟩) (n - m) (l.drop m) := by
  refine ⟨by rw [List.length_drop, h.1], fun h0 => ?_, fun x hx => h.2.2 x (List.mem_of_mem_drop hx)⟩
  obtain ⟨b', off', e, hb, hc⟩ := h.2.1 (by omega)
  simp only [Option.some.injEq, Addr.mk.injEq, and_true] at e
  obtain ⟨rfl, rfl⟩ := e
  refine ⟨b, off + m, rfl, hb, fun i hi => ?_⟩
  rw [getD_drop, Nat.add_assoc]
  exact hc (m + i) (by omega)
end Go.Proofs.Ytnfmjgldcnokbaa
namespace Go.Proofs.Ytnfmjgldcnokbaa
open Go.ChangeShapes Go.WideShapes Go.ChangeAt Go.RowKit

theorem below_gb2 {a w w' : World} {g : Nat} (h : Below a.heap.size a w) (hg : a.heap.size ≤ g) (hG : w.grownBy w' (some g)) : Below a.heap.size a w' :=
  h.trans (gb_below hG h.size hg)
theorem k_Once (a : World) {w : World} {g n c : Nat} {A : Option Addr} {l : List Int} (m : Int) (h : Curs w g A n c l) (hG : a.grownBy w (some g)) (h1 : 1 ≤ m) (h2 : m ≤ 9223372036854775807) :
    Calls Try.prog 43 #[.pointer (some ⟨g, 0, none⟩), .int .i64 m] w fun e w' => ∃ b : Bool, e = .returned (.bool b) ∧ Curs w' g A n c l ∧ a.grownBy w' (some g) := by
  go_enter Try.func43, Try.ntmps43
  go_wp2_with (go_at_call 38; refine (k_Below a _ h hG h1 h2).mono ?_; rintro e w1 ⟨x, rfl, hx0, hx1, hC1, hG1⟩)
  go_ret
  exact ⟨_, rfl, hC1, hG1⟩
theorem zeros_own {w : World} {g n base : Nat} {t : TypeId} (h : w.rowIs g t n (fun _ => .int .u8 0)) (hn : n ≤ 1000) (hb : base ≤ g) : Own .u8 t w base (.slice (some ⟨g, 0, none⟩) n n) (List.replicate n 0) :=
  Own.of_row (h.congr fun j hj => by rw [List.getD_eq_getElem?_getD, List.getElem?_replicate, if_pos hj]; rfl) (by simp) (by simp only [maxLen]; omega) hb (fun x hx => by rw [(List.mem_replicate.1 hx).2]; decide)
end Go.Proofs.Ytnfmjgldcnokbaa
namespace Go.Proofs.Ytnfmjgldcnokbaa
set_option maxRecDepth 100000
open Go.ChangeShapes Go.WideShapes Go.ChangeAt Go.RowKit
open Fld
attribute [local go_sem ↓] Go.wp_at_zero Go.wp_at_succ

theorem empty_row (w : World) (t : TypeId) : (w.alloc (.cells #[] t)).ownsRow w.heap.size t 1 (.slice (some ⟨w.heap.size, 0, none⟩) 0 0) 0 [] :=
  ⟨rfl, .inr ⟨w.heap.size, 0, #[], rfl, Nat.le_refl _, heap_alloc_new w _, Nat.le_refl _, by simp only [maxLen]; omega, rfl, rfl⟩⟩
theorem s_fill {w : World} {n c m d : Nat} {A A' : Option Addr} {l pad : List Int} (hl : Ints .u8 w w.heap.size A n l) (hp : Ints .u8 w w.heap.size A' m pad) (hn : n ≤ 80) (hm : 80 ≤ m) (hm2 : m ≤ 140737488355328) :
    Calls Try.prog 95 #[.slice A n c, .slice A' m d] w fun e w' => ∃ v, e = .returned (.agg #[v]) ∧ Own .u8 5 w' w.heap.size v (padL l pad) ∧ Below w.heap.size w w' := by
  obtain ⟨i0, hi0, hz0, hz1, hz2⟩ := info_parts info_by
  have HL := Lib.hid hl.1
  have HP := Lib.hid hp.1
  have hby := hl.bytes
  have hpy := hp.bytes
  go_enter Try.func95, Try.ntmps95
  have hE : ((w.alloc (.cells #[.slice none 0 0] 30)).alloc (.cells #[] 5)).ownsRow (w.heap.size + 1) 5 1 (.slice (some ⟨w.heap.size + 1, 0, none⟩) 0 0) 0 [] := by simpa using empty_row (w.alloc (.cells #[.slice none 0 0] 30)) 5
  go_wp2_with (at_builtin; refine wpList_app _ rfl (.tmp 7) (.tmp 8) _ rfl (w.heap.size + 1) 5 i0 _ 1 1 Try.underlying22 hi0 hz0 hz1 hz2 rfl (by omega) (.slice (some ⟨w.heap.size + 1, 0, none⟩) 0 0) 0 [] rfl hE A n c _ rfl (Src.of_ints (reach hl (belx))) (one_ints _ _) (by simp only [maxLen]; omega) (by omega) (by simp) ?_; intro v1 w1 hown hg hat)
  have hB1 : Below w.heap.size w w1 := Below.grown (a := w) (belx) hg (by simp; omega) (by intro b hb; simp [Value.ownBlock] at hb; omega)
  have b1 : Box w1 w.heap.size 30 #[.slice none 0 0] := Box.grown ((Box.new _ _ _).alloc _) hg (by simp [Value.ownBlock])
  have hO1 : Own .u8 5 w1 (w.heap.size + 1) v1 l := Own.of (n := n) (by simpa using hown) hl.2.2
  clear hown hg hat
  go_loopw [5, 6] (fun v i wr => ∃ j : Nat, n + j ≤ 80 ∧ i = .int .i64 j ∧ Own .u8 5 wr (w.heap.size + 1) v (l ++ pad.take j) ∧ Below w.heap.size w wr ∧ Box wr w.heap.size 30 #[.slice none 0 0]) (fun _ i _ => 80 - n - (intOf i).toNat)
  case atStart => exact ⟨0, by omega, rfl, by simpa using hO1, hB1, b1⟩
  case round =>
    clear hO1 b1
    obtain ⟨j, hj, rfl, hO, hB, hX⟩ := hrel
    have hlen : (l ++ pad.take j).length = n + j := by rw [List.length_append, List.length_take, HL.out, HP.out]; omega
    by_cases hlt : n + j < 80
    · obtain ⟨b, off, rfl, hb, hcell, _⟩ := (hp.below hB).at_ (show j < m by omega)
      have HS := Lib.hid (show l ++ pad.take (j + 1) = (l ++ pad.take j) ++ [pad.getD j 0] by rw [List.take_succ_eq_append_getElem (by rw [HP.out]; omega), getD_lt (by rw [HP.out]; omega), List.append_assoc])
      have rx := hpy.at_ j
      obtain ⟨x, hx⟩ : ∃ x, pad.getD j 0 = x := ⟨_, rfl⟩
      rw [hx] at hcell rx
      have HX := Lib.hid hx
      clear hx
      obtain ⟨xs, hxs⟩ : ∃ xs, l ++ pad.take j = xs := ⟨_, rfl⟩
      rw [hxs] at hO hlen
      have HY := Lib.hid hxs
      clear hxs
      obtain ⟨A1, c1, rfl, _⟩ := hO.ints
      have q1 : (0 : Int) ≤ (j : Int) := Int.natCast_nonneg _
      have q2 : (j : Int) < (m : Int) := by omega
      have q3 : (xs.length : Int) < 80 := by omega
      have q4 : xs.length ≤ 80 := by omega
      clear hlen
      go_wp2_with (at_builtin; refine wpList_app _ rfl (.tmp 15) (.tmp 20) _ rfl (w.heap.size + 1) 5 i0 _ 1 1 Try.underlying22 hi0 hz0 hz1 hz2 rfl (by omega) (.slice A1 xs.length c1) xs.length (xs.map (Value.int .u8)) rfl (hO.1.alloc _) (some ⟨wr.heap.size, 0, none⟩) 1 1 [.int .u8 x] rfl (Src.one wr _ _) (one_int _ _) (by simp only [maxLen]; omega) (by omega) (by have := hX.size; simp; omega) ?_; intro v1 w1 hown hg hat)
      go_roundw
      case rel => exact ⟨j + 1, by omega, by go_num, own_snoc hO hown (by rw [HS.out, HY.out, HX.out]) rx, (bel_alloc hB _).grown hg (by have := hX.size; simp; omega) (fun b hb => by have := (hO.block hb).1; omega), (hX.alloc _).grown hg (fun e => by have := (hO.block e.symm).1; omega)⟩
      case measure => simp [intOf]; omega
    · have HE := Lib.hid (show padL l pad = l ++ pad.take j by unfold padL; rw [HL.out, show 80 - n = j by omega])
      obtain ⟨xs, hxs⟩ : ∃ xs, l ++ pad.take j = xs := ⟨_, rfl⟩
      rw [hxs] at hO hlen
      have HY := Lib.hid hxs
      clear hxs
      obtain ⟨A1, c1, rfl, _⟩ := hO.ints
      have q3 : ¬ (xs.length : Int) < 80 := by omega
      clear hlen
      have c1' := hX.cell 0; have f1 := hX.frozen 0
      have e := (hX.put 0 (.slice A1 xs.length c1)).cell 0
      go_wp2
      refine bodyPost_ret (v := .agg #[.slice A1 xs.length c1]) (by simp [results, Try.results95, go_sem, e]) rfl ⟨_, rfl, ?_, bel_put hB (Nat.le_refl _) _⟩
      rw [HE.out, HY.out]
      exact (hO.far (by omega) 0 _).lower (by omega)
end Go.Proofs.Ytnfmjgldcnokbaa
namespace Go.Proofs.Ytnfmjgldcnokbaa
open Go.ChangeShapes Go.WideShapes Go.ChangeAt Go.RowKit
open Fld

/-- The slice value v holds the bytes l. -/
def Reads (w : World) (v : Value) (l : List Int) : Prop := ∃ A n c, v = .slice A n c ∧ n ≤ c ∧ c ≤ 9223372036854775807 ∧ Ints .u8 w w.heap.size A n l
theorem Reads.nil (w : World) : Reads w (.slice none 0 0) [] := ⟨none, 0, 0, rfl, Nat.le_refl _, by omega, Ints.nil⟩
theorem Reads.below {w w' : World} {v : Value} {l : List Int} (h : Reads w v l) (hB : Below w.heap.size w w') : Reads w' v l := by
  obtain ⟨A, n, c, h1, h2, h3, h4⟩ := h
  exact ⟨A, n, c, h1, h2, h3, (h4.below hB).up hB.size⟩
theorem Own.cap {k : IntKind} {e : TypeId} {w : World} {base : Nat} {v : Value} {l : List Int} (h : Own k e w base v l) : ∃ A c, v = .slice A l.length c ∧ l.length ≤ c ∧ c ≤ 9223372036854775807 ∧ Ints k w w.heap.size A l.length l := by
  obtain ⟨A, c, rfl, h1, h2, _⟩ := h.ints
  refine ⟨A, c, rfl, h1, ?_, h2⟩
  rcases h.1.2 with ⟨e, _⟩ | ⟨g, cap, cur, e, _, _, _, hm, _⟩
  · injection e with _ _ e3; omega
  · injection e with _ _ e3; rw [e3]; exact hm
theorem Own.reads {e : TypeId} {w : World} {base : Nat} {v : Value} {l : List Int} (h : Own .u8 e w base v l) : Reads w v l := by
  obtain ⟨A, c, rfl, h1, h2, h3⟩ := h.cap
  exact ⟨A, _, c, rfl, h1, h2, h3⟩
/-- What l3peel answers. -/
def ppeel (s : Int) (c pad : List Int) : Pel × Bool := if peels s c then (peelV s c pad, true) else (Pel.zero, false)
theorem ppeel_t {s : Int} {c pad : List Int} (h : peels s c) : ppeel s c pad = (peelV s c pad, true) := if_pos h
theorem ppeel_f {s : Int} {c pad : List Int} (h : ¬ peels s c) : ppeel s c pad = (Pel.zero, false) := if_neg h

theorem Own.readsTail {e : TypeId} {w : World} {base g n c : Nat} {l : List Int} (h : Own .u8 e w base (.slice (some ⟨g, 0, none⟩) n c) l) (h4 : 4 ≤ n) : Reads w (.slice (some ⟨g, 4, none⟩) (n - 4) (c - 4)) (l.drop 4) := by
  obtain ⟨A, c', e1, h1, h2, h3⟩ := h.cap
  injection e1 with e1 e2 e3
  subst e1 e2 e3
  refine ⟨_, _, _, rfl, by omega, by omega, ?_⟩
  have := h3.tail 4 h4
  rwa [Nat.zero_add] at this
theorem Own.readsEnd {e : TypeId} {w : World} {base n c : Nat} {A A' : Option Addr} {l : List Int} (h : Own .u8 e w base (.slice A n c) l) (h4 : 4 = n) : Reads w (.slice A' 0 0) (l.drop 4) := by
  have hl := h.intsAt.2
  have : l.drop 4 = [] := List.drop_eq_nil_of_le (by omega)
  rw [this]
  exact ⟨_, _, _, rfl, Nat.le_refl _, by omega, ⟨rfl, fun h => absurd h (by omega), by simp⟩⟩
/-- The slice value v holds the bytes l, in a block from B on, and owns them. -/
def ReadsF (B : Nat) (w : World) (v : Value) (l : List Int) : Prop := ∃ A n c, v = .slice A n c ∧ n ≤ c ∧ c ≤ 9223372036854775807 ∧ Ints .u8 w w.heap.size A n l ∧ (∀ a, A = some a → B ≤ a.block) ∧ ∃ F, tBy.O w [v] l F ∧ New B F
theorem ReadsF.reads {B : Nat} {w : World} {v : Value} {l : List Int} (h : ReadsF B w v l) : Reads w v l := by
  obtain ⟨A, n, c, h1, h2, h3, h4, _⟩ := h
  exact ⟨A, n, c, h1, h2, h3, h4⟩
theorem ReadsF.own {B : Nat} {w : World} {v : Value} {l : List Int} (h : ReadsF B w v l) : ∃ F, tBy.O w [v] l F ∧ New B F := by
  obtain ⟨A, n, c, h1, h2, h3, h4, _, h5⟩ := h
  exact h5
theorem ReadsF.below {B : Nat} {w w' : World} {v : Value} {l : List Int} (h : ReadsF B w v l) (hB : Below w.heap.size w w') : ReadsF B w' v l := by
  obtain ⟨A, n, c, h1, h2, h3, h4, h5, F, h6, h7⟩ := h
  exact ⟨A, n, c, h1, h2, h3, (h4.below hB).up hB.size, h5, F, Ty.below (t := tBy) h6 hB, h7⟩
theorem ReadsF.put {B g : Nat} {w : World} {v : Value} {l : List Int} (h : ReadsF B w v l) (hg : g < B) (j : Nat) (u : Value) : ReadsF B (w.setCell ⟨g, j, none⟩ u) v l := by
  obtain ⟨A, n, c, h1, h2, h3, h4, h5, F, h6, h7⟩ := h
  refine ⟨A, n, c, h1, h2, h3, ⟨h4.1, fun hn => ?_, h4.2.2⟩, h5, F, tBy.kept h6 (fun f hf => Below.heap_setCell w ⟨g, j, none⟩ u f (fun e => by have := h7.2 f hf; have e' : f = g := e; omega)), h7⟩
  obtain ⟨b, off, e, hb, hc⟩ := h4.2.1 hn
  have hne : g ≠ b := by have := h5 _ e; simp only at this; omega
  refine ⟨b, off, e, by simpa [World.setCell] using hb, fun i hi => ?_⟩
  exact (World.cell?_of_block (a := ⟨b, off + i, none⟩) (Below.heap_setCell w ⟨g, j, none⟩ u b (fun e => hne e.symm))).trans (hc i hi)
theorem Own.readsTailF {e : TypeId} {w : World} {base g n c B : Nat} {l : List Int} (h : Own .u8 e w base (.slice (some ⟨g, 0, none⟩) n c) l) (h4 : 4 ≤ n) (hB : B ≤ base) : ReadsF B w (.slice (some ⟨g, 4, none⟩) (n - 4) (c - 4)) (l.drop 4) := by
  obtain ⟨A, n', c', e1, h1, h2, h3⟩ := h.readsTail h4
  have hown : ∃ F, tBy.O w [.slice (some ⟨g, 4, none⟩) (n - 4) (c - 4)] (l.drop 4) F ∧ New B F := by
    have hb := (h.block (b := g) rfl).1
    have hl : l.length = n := h.intsAt.2
    obtain ⟨F, hO, hF⟩ := h.tSl
    rcases hO with ⟨A1, c1, q1, q2, q3, q4⟩ | ⟨g1, off, c1, cur, t, q1, q2, q3, q4, q5, q6, q7, q8⟩
    · subst q3
      have : n = 0 := by rw [← hl]; rfl
      omega
    · injection q1 with q1 _
      injection q1 with q1 _ q1c
      injection q1 with q1
      injection q1 with q1a q1b _
      subst q1a q1b q1c
      by_cases h5 : 4 = n
      · have hd : l.drop 4 = [] := List.drop_eq_nil_of_le (by omega)
        rw [hd, ← h5]
        exact ⟨[], .inl ⟨_, _, rfl, by omega, rfl, rfl⟩, New.nil _⟩
      · refine ⟨[g], .inr ⟨g, 4, c - 4, cur, t, by rw [List.length_drop, hl], by rw [List.length_drop]; omega, by rw [List.length_drop]; omega, by omega, q5, fun i hi => ?_, fun x hx => q7 x (List.mem_of_mem_drop hx), rfl⟩, ⟨by simp, fun f hf => by rw [List.mem_singleton] at hf; omega⟩⟩
        have := q6 (4 + i) (by rw [List.length_drop] at hi; omega)
        rw [Nat.zero_add] at this
        rw [this, List.getD_eq_getElem?_getD, List.getD_eq_getElem?_getD, List.getElem?_drop]
  refine ⟨A, n', c', e1, h1, h2, h3, fun a ha => ?_, hown⟩
  injection e1 with e1 _ _
  rw [← e1] at ha
  injection ha with ha
  rw [← ha]
  have := (h.block (b := g) rfl).1
  show B ≤ g
  omega
theorem Own.readsEndF {e : TypeId} {w : World} {base g n c B : Nat} {l : List Int} (h : Own .u8 e w base (.slice (some ⟨g, 0, none⟩) n c) l) (h4 : 4 = n) (hB : B ≤ base) : ReadsF B w (.slice (some ⟨g, 0, none⟩) 0 0) (l.drop 4) := by
  obtain ⟨A, n', c', e1, h1, h2, h3⟩ := h.readsEnd (A' := some ⟨g, 0, none⟩) h4
  have hd : l.drop 4 = [] := List.drop_eq_nil_of_le (by have := h.intsAt.2; omega)
  refine ⟨A, n', c', e1, h1, h2, h3, fun a ha => ?_, [], by rw [hd]; exact .inl ⟨_, _, rfl, by omega, rfl, rfl⟩, New.nil _⟩
  injection e1 with e1 _ _
  rw [← e1] at ha
  injection ha with ha
  rw [← ha]
  have := (h.block (b := g) rfl).1
  show B ≤ g
  omega
theorem Own.readsF {e : TypeId} {w : World} {base B : Nat} {v : Value} {l : List Int} (h : Own .u8 e w base v l) (hB : B ≤ base) : ReadsF B w v l := by
  obtain ⟨F, hO, hF⟩ := h.tSl
  obtain ⟨A, c, rfl, h1, h2, h3⟩ := h.cap
  refine ⟨A, _, c, rfl, h1, h2, h3, fun a ha => ?_, F, hO, hF.lower hB⟩
  subst ha
  have := (h.block (b := a.block) rfl).1
  omega
theorem ReadsF.nil (B : Nat) (w : World) : ReadsF B w (.slice none 0 0) [] := ⟨none, 0, 0, rfl, Nat.le_refl _, by omega, Ints.nil, (fun a h => by cases h), [], .inl ⟨_, _, rfl, by omega, rfl, rfl⟩, New.nil _⟩
theorem ReadsF.lower {B B' : Nat} {w : World} {v : Value} {l : List Int} (h : ReadsF B w v l) (hB : B' ≤ B) : ReadsF B' w v l := by
  obtain ⟨A, n, c, h1, h2, h3, h4, h5, F, h6, h7⟩ := h
  exact ⟨A, n, c, h1, h2, h3, h4, fun a ha => Nat.le_trans hB (h5 a ha), F, h6, h7.lower hB⟩
/-- An own slice that is empty owns no block. -/
theorem ownNil {w : World} {v : Value} {F : List Nat} (h : tBy.O w [v] [] F) : F = [] := by
  rcases h with ⟨_, _, _, _, _, h⟩ | ⟨_, _, _, _, _, _, h, _⟩
  · exact h
  · exact absurd h (by simp)
end Go.Proofs.Ytnfmjgldcnokbaa
