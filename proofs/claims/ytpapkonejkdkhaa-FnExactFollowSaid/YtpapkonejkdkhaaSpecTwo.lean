/-
  Contracts of the model's ciphers of chapter 2.
-/
import Derived.Test.YtpapkonejkdkhaaSpecOne
import Derived.Test.YtpapkonejkdkhaaApp
import Derived.Test.YtpapkonejkdkhaaCip
import Derived.Deep.RegionHeld3
import Derived.Deep.DrawnRows
import Derived.Deep.QuietTactic
import Derived.BigQuiet
import Derived.Outline
namespace Go.Proofs.Ytpapkonejkdkhaa
set_option maxRecDepth 100000
open Go.ChangeShapes Go.WideShapes Go.ChangeAt Go.RowKit
open Fld
attribute [local go_sem ↓] Go.wp_at_zero Go.wp_at_succ

theorem info_by : (Try.prog.info? 5).map (fun i => (i.zero, i.size, i.bytes)) = some (some (.int .u8 0), 1, 1) := by kernel_rfl
theorem wf8 {x : Int} (h : 0 ≤ x ∧ x < 256) : (Lit.int .u8 x).wf = true := WalkArith.wf_u8 (by omega)
theorem Ints.bytes {w : World} {B n : Nat} {A : Option Addr} {l : List Int} (h : Ints .u8 w B A n l) : Bytes l := fun x hx => by
  have := h.2.2 x hx
  simp [Lit.wf] at this
  have e1 : IntKind.u8.min = 0 := by decide
  have e2 : IntKind.u8.max = 255 := by decide
  omega
theorem own_snoc {e : TypeId} {w w1 : World} {base : Nat} {v v1 : Value} {l l' : List Int} {x : Int} (h : Own .u8 e w base v l) (h1 : w1.ownsRow base e 1 v1 (l.length + 1) (l.map (Value.int .u8) ++ [.int .u8 x])) (hl : l' = l ++ [x]) (hx : 0 ≤ x ∧ x < 256) : Own .u8 e w1 base v1 l' := by
  subst hl
  refine Own.of (n := l.length + 1) (by simpa using h1) fun y hy => ?_
  rcases List.mem_append.1 hy with h' | h'
  · exact h.2 y h'
  · rw [List.mem_singleton] at h'; rw [h']; exact wf8 hx
theorem below_own {k : IntKind} {e : TypeId} {w wr wa w1 : World} {v : Value} {l : List Int} (hB : Below w.heap.size w wr) (h : Own k e wr w.heap.size v l) (ha : Below wr.heap.size wr wa) (hg : wa.grownBy w1 v.ownBlock) : Below w.heap.size w w1 :=
  (hB.trans (ha.mono hB.size)).grown hg (by have := hB.size; have := ha.size; omega) fun b hb => (h.1.lt b hb).1

theorem u8w {x : Int} (h : 0 ≤ x ∧ x < 256) : IntKind.u8.wrap x = x := by rw [IntKind.wrap_u8']; omega
theorem cell_grown {wa w1 : World} {row : Option Nat} (hg : wa.grownBy w1 row) {b o : Nat} {u : Value} (hb : b < wa.heap.size) (hne : some b ≠ row) (h : wa.cell? ⟨b, o, none⟩ = some u) : w1.cell? ⟨b, o, none⟩ = some u :=
  (World.cell?_of_block (hg.block b hb hne)).trans h
theorem Own.not {k : IntKind} {e : TypeId} {w : World} {base b : Nat} {v : Value} {l : List Int} (h : Own k e w base v l) (hb : b < base) : some b ≠ v.ownBlock := fun e => by
  have := (h.block e.symm).1; omega

theorem step_app {P : Program} (w : World) {ops : Array Oper} {o : Oper} {a : Act} {K : Act → World → Prop} {Q : Exit → Act → World → Prop} {E : Prop} (hgd : o.guard = none) (s x : Operand) (t : TypeId)
    (ho : o.op = .call { callee := .builtin .append, args := #[s, x], argTypes := #[t, t] })
    (base : Nat) (e : TypeId) (i : TypeInfo) (z : Value) (size bytes : Nat) (ht : P.underlying t = some (.slice e)) (hi : P.info? e = some i) (hz : i.zero = some z)
    (hsize : i.size = size) (hby : i.bytes = bytes) (hzs : z.cells.size = size) (hsz : 0 < size)
    (v : Value) (n : Nat) (xs : List Value) (hs : a.eval s = v) (hown : w.ownsRow base e size v n xs)
    (A : Option Addr) (m c : Nat) (news : List Value) (hx : a.eval x = .slice A m c) (hr : Src w size A m news) (h1 : ∀ u ∈ news, u.oneCell' = true)
    (h63 : n + m ≤ maxLen) (hbytes : (n + m) * bytes ≤ 140737488355328) (hbase : base ≤ w.heap.size)
    (h : ∀ v' w', w'.ownsRow base e size v' (n + m) (xs ++ news) → w.grownBy w' v.ownBlock → (v'.ownBlock = v.ownBlock ∨ v'.ownBlock = some w.heap.size) → K (a.put o.dst v') w') :
    if Region.wanted o (yielded ops a.tmps) = true then Oper.wp P o a w K Q else E := by
  have hw : Region.wanted o (yielded ops a.tmps) = true := by simp [Region.wanted, hgd]
  rw [if_pos hw]
  exact wp_app w s x t ho base e i z size bytes ht hi hz hsize hby hzs hsz v n xs hs hown A m c news hx hr h1 h63 hbytes hbase h

theorem s_stream (k i : Int) (w : World) (h1 : 0 ≤ k) (h2 : k < 2147483647) (h3 : 0 ≤ i) (h4 : i ≤ 1000000) :
    Calls Try.prog 134 #[.int .i64 k, .int .i64 i] w fun e w' => e = .returned (.int .i64 (strB k i)) ∧ w = w' := by
  have r1 := mulP_rg ((k + i * 7919 + 3) % 2147483647) 48271
  have r2 := mulP_rg ((mulP ((k + i * 7919 + 3) % 2147483647) 48271 + k + i + 1) % 2147483647) 16807
  go_enter Try.func134, Try.ntmps134
  go_wp2_with (go_at_call 133; refine (s_mul _ _ _ (by omega) (by omega) (by omega) (by omega)).mono ?_; rintro e w' ⟨rfl, rfl⟩)
  go_ret
  exact ⟨rfl, rfl⟩
set_option maxRecDepth 100000 in
set_option maxHeartbeats 1000000 in
theorem s_xor {w : World} {n c : Nat} {A : Option Addr} {l : List Int} (k : Int) (hl : Ints .u8 w w.heap.size A n l) (hn : n ≤ 400) (h1 : 0 ≤ k) (h2 : k < 2147483647) :
    Calls Try.prog 90 #[.int .i64 k, .slice A n c] w fun e w' => ∃ v, e = .returned v ∧ Own .u8 5 w' w.heap.size v (xorl k l) ∧ Below w.heap.size w w' := by
  obtain ⟨i0, hi0, hz0, hz1, hz2⟩ := info_parts info_by
  have HL := Lib.hid hl.1
  have hby := hl.bytes
  go_enter Try.func90, Try.ntmps90
  go_wp2
  go_loopw [5, 6] (fun v i wr => ∃ j : Nat, j ≤ n ∧ i = .int .i64 j ∧ Own .u8 5 wr w.heap.size v (xorn k l j) ∧ Below w.heap.size w wr) (fun _ i _ => n - (intOf i).toNat)
  case atStart => exact ⟨0, by omega, rfl, Own.nil _ _ _ _, Below.refl _ _⟩
  case round =>
    obtain ⟨j, hj, rfl, hO, hB⟩ := hrel
    by_cases hlt : j < n
    · obtain ⟨b, off, rfl, hb, hcell, _⟩ := (hl.below hB).at_ hlt
      have HS := Lib.hid (xorn_snoc k l j)
      have rx := xor_rg (hby.at_ j) (strB_rg k j)
      have rs := strB_rg k j
      have q1 : (0 : Int) ≤ (j : Int) := Int.natCast_nonneg _
      have q2 : (j : Int) < (n : Int) := by omega
      have hbs : b < wr.heap.size := Nat.lt_of_lt_of_le hb hB.size
      have hw8 := u8w rs
      have hne := hO.not hb
      obtain ⟨x, hx⟩ : ∃ x, l.getD j 0 = x := ⟨_, rfl⟩
      rw [hx] at hcell rx
      have HX := Lib.hid hx
      clear hx
      go_wp2
      go_region_held3 (fun w' => w'.cell? ⟨b, off + j, none⟩ = some (.int .u8 x)) (first | go_keep | (exact cell_grown hg (by simp; omega) hne (by assumption)))
        (first
          | (go_at_call 134; refine (s_stream _ _ _ h1 h2 (by omega) (by omega)).mono ?_; rintro e w' ⟨rfl, rfl⟩)
          | (refine step_app _ (by rfl) (.tmp 13) (.tmp 23) _ (by rfl) w.heap.size 5 i0 _ 1 1 Try.underlying22 hi0 hz0 hz1 hz2 rfl (by omega) _ _ _ (by rfl) ((hO.1.alloc _).drew) _ 1 1 [.int .u8 (bits .xor .u8 x (strB k j))] (by rfl) (Src.one wr _ _) (one_int _ _) (by simp only [maxLen]; rw [xorn_len]; omega) (by rw [xorn_len]; omega) (by simp; have := hB.size; omega) ?_; intro v1 w1 hown hg hat))
      go_wp2
      go_roundw
      case rel => exact ⟨j + 1, by omega, by go_num, own_snoc hO (by rw [xorn_len] at *; exact hown) (by rw [HS.out, HX.out]) rx, below_own hB hO ((Below.refl _ _).alloc (Nat.le_refl _) _).drew hg⟩
      case measure => simp [intOf]; omega
    · obtain rfl : j = n := by omega
      have HE := Lib.hid (show xorl k l = xorn k l j from by unfold xorl; rw [HL.out])
      go_wp2
      go_ret
      exact ⟨_, rfl, by rw [HE.out]; exact hO, hB⟩
theorem s_mac {w : World} {B n c : Nat} {A : Option Addr} {l : List Int} (k : Int) (hl : Ints .u8 w B A n l) (hn : n ≤ 400) (h1 : 0 ≤ k) (h2 : k < 2147483647) :
    Calls Try.prog 135 #[.int .i64 k, .slice A n c] w fun e w' => e = .returned (.int .i64 (mac k l)) ∧ ∃ q, w' = w.drewN q := by
  have HL := Lib.hid hl.1
  have hby := hl.bytes
  have rk := keyP_rg k 71
  have rk2 := keyP_rg k 72
  go_enter Try.func135, Try.ntmps135
  go_wp2_with (go_at_call 89; refine (s_key _ _ _ h1 h2 (by omega) (by omega)).mono ?_; rintro e w' ⟨rfl, rfl⟩)
  obtain ⟨r, hr⟩ : ∃ r, 1 + keyP k 71 % 2147483646 = r := ⟨_, rfl⟩
  rw [hr]
  have HR := Lib.hid (show macR k = r from hr)
  have rr : 1 ≤ r ∧ r < 2147483647 := by rw [← HR.out]; exact macR_rg k
  clear hr
  go_loopw [6, 7] (fun m i wr => ∃ j : Nat, j ≤ n ∧ i = .int .i64 j ∧ m = .int .i64 (macN r ((n : Int) + 1) l j) ∧ ∃ q, wr = w.drewN q) (fun _ i _ => n - (intOf i).toNat)
  case atStart => exact ⟨0, by omega, rfl, rfl, 0, rfl⟩
  case round =>
    obtain ⟨j, hj, rfl, rfl, q, rfl⟩ := hrel
    have rm := macN_rg (r := r) (n := (n : Int) + 1) (l := l) (by omega) j (by rw [HL.out]; exact hj)
    by_cases hlt : j < n
    · obtain ⟨b, off, rfl, hb, hcell, _⟩ := hl.at_ hlt
      have HS := Lib.hid (macN_succ (r := r) (n := (n : Int) + 1) (l := l) (j := j) (by rw [HL.out]; exact hlt))
      have bx := hby.at_ j
      obtain ⟨x, hx⟩ : ∃ x, l.getD j 0 = x := ⟨_, rfl⟩
      obtain ⟨m, hm⟩ : ∃ m, macN r ((n : Int) + 1) l j = m := ⟨_, rfl⟩
      rw [hx] at hcell bx
      rw [hm] at rm ⊢
      have HX := Lib.hid hx
      have HM := Lib.hid hm
      clear hx hm
      have rp := mulP_rg m r
      have i1 : IntKind.i64.wrap (mulP m r + x) = mulP m r + x := IntWalk.i64_in _ (by omega)
      have i2 : IntKind.i64.wrap (mulP m r + x + 1) = mulP m r + x + 1 := IntWalk.i64_in _ (by omega)
      have i3 : (mulP m r + x + 1).tmod 2147483647 = (mulP m r + x + 1) % 2147483647 := Int.tmod_eq_emod_of_nonneg (by omega)
      go_wp2
      go_quiet ((go_at_call 133; exact q_add (fun W => s_mul m r W rm.1 rm.2 (by omega) rr.2)))
      clear i1 i2 i3
      go_wp2
      go_roundw
      case rel => exact ⟨j + 1, by omega, by go_num, by rw [HS.out, HX.out, HM.out, mac_step], _, rfl⟩
      case measure => simp [intOf]; omega
    · obtain rfl : j = n := by omega
      have rp := mulP_rg (macN r ((j : Int) + 1) l j) r
      go_wp2_with (first | (go_at_call 89; refine (s_key _ _ _ h1 h2 (by omega) (by omega)).mono ?_; rintro e w' ⟨rfl, rfl⟩) | (go_at_call 133; refine (s_mul _ _ _ rm.1 rm.2 (by omega) rr.2).mono ?_; rintro e w' ⟨rfl, rfl⟩))
      go_ret
      exact ⟨ret_i64 (by unfold mac macV; rw [HR.out, HL.out]; rfl), _, rfl⟩
theorem four_cells (w : World) (t : TypeId) (x0 x1 x2 x3 : Int) : (w.alloc (.cells #[.int .u8 x0, .int .u8 x1, .int .u8 x2, .int .u8 x3] t)).ownsRow w.heap.size t 1 (.slice (some ⟨w.heap.size, 0, none⟩) 4 4) 4 ([x0, x1, x2, x3].map (Value.int .u8)) :=
  ⟨rfl, .inr ⟨w.heap.size, 4, _, rfl, Nat.le_refl _, heap_alloc_new w _, Nat.le_refl _, by simp only [maxLen]; omega, rfl, rfl⟩⟩
theorem Src.four (w : World) (t : TypeId) (x0 x1 x2 x3 : Int) : Src (w.alloc (.cells #[.int .u8 x0, .int .u8 x1, .int .u8 x2, .int .u8 x3] t)) 1 (some ⟨w.heap.size, 0, none⟩) 4 ([x0, x1, x2, x3].map (Value.int .u8)) := by
  refine ⟨rfl, fun _ => ⟨_, 0, rfl, fun j v hj => ?_⟩⟩
  rw [(Box.new w t _).cell]
  match j, hj with
  | 0, hj => exact hj
  | 1, hj => exact hj
  | 2, hj => exact hj
  | 3, hj => exact hj
theorem four_small {x : Int} (h : 0 ≤ x ∧ x < 2147483648) : [x / 16777216, x / 65536 % 256, x / 256 % 256, x % 256] = Go.Proofs.Ytpapkonejkdkhaa.four x := by
  unfold Go.Proofs.Ytpapkonejkdkhaa.four
  rw [show x / 16777216 % 256 = x / 16777216 from by omega]
theorem s_get {w : World} {B n c : Nat} {A : Option Addr} {l : List Int} (hl : Ints .u8 w B A n l) (hn : 4 ≤ n) (hm : n ≤ 140737488355328) :
    Calls Try.prog 132 #[.slice A n c] w fun e w' => e = .returned (.int .i64 (get4 l)) ∧ ∃ q, w' = w.drewN q := by
  obtain ⟨b, off, rfl, hb, hc⟩ := hl.2.1 (by omega)
  have hby := hl.bytes
  have c0 := hc 0 (by omega)
  have c1 := hc 1 (by omega)
  have c2 := hc 2 (by omega)
  have c3 := hc 3 (by omega)
  have b0 := hby.at_ 0; have b1 := hby.at_ 1; have b2 := hby.at_ 2; have b3 := hby.at_ 3
  obtain ⟨x0, h0⟩ : ∃ x, l.getD 0 0 = x := ⟨_, rfl⟩
  obtain ⟨x1, h1⟩ : ∃ x, l.getD 1 0 = x := ⟨_, rfl⟩
  obtain ⟨x2, h2⟩ : ∃ x, l.getD 2 0 = x := ⟨_, rfl⟩
  obtain ⟨x3, h3⟩ : ∃ x, l.getD 3 0 = x := ⟨_, rfl⟩
  have HG := Lib.hid (show get4 l = x0 * 16777216 + x1 * 65536 + x2 * 256 + x3 by unfold get4; rw [h0, h1, h2, h3])
  rw [h0] at c0 b0; rw [h1] at c1 b1; rw [h2] at c2 b2; rw [h3] at c3 b3
  rw [Nat.add_zero] at c0
  clear h0 h1 h2 h3 hc
  go_enter Try.func132, Try.ntmps132
  go_wp2
  go_quiet (fail)
  go_wp2
  go_ret
  refine ⟨ret_i64 ?_, _, rfl⟩
  rw [HG.out]
theorem own_app {e : TypeId} {w : World} {base : Nat} {v : Value} {l r : List Int} (h : w.ownsRow base e 1 v (l.length + r.length) (l.map (Value.int .u8) ++ r.map (Value.int .u8))) (hl : Bytes l) (hr : Bytes r) : Own .u8 e w base v (l ++ r) :=
  Own.of (n := l.length + r.length) (by rw [List.map_append]; exact h) fun y hy => wf8 (hl.app hr y hy)
theorem q_quiet {P : Program} {f : FuncId} {args : Array Value} {w : World} {n : Nat} {v : Value}
    (h : Calls P f args (w.drewN n) fun e w' => e = .returned v ∧ ∃ q, w' = (w.drewN n).drewN q) : Calls P f args (w.drewN n) fun e w'' => e = .returned v ∧ ∃ m, w'' = w.drewN m :=
  h.mono fun _ _ ⟨he, q, hw⟩ => ⟨he, n + q, by rw [hw]; simp⟩
theorem Ints.tail {w : World} {B n b off : Nat} {l : List Int} (h : Ints .u8 w B (some ⟨b, off, none⟩) n l) (m : Nat) (hm : m ≤ n) : Ints .u8 w B (some ⟨b, off + m, none⟩) (n - m) (l.drop m) := by
  refine ⟨by rw [List.length_drop, h.1], fun h0 => ?_, fun x hx => h.2.2 x (List.mem_of_mem_drop hx)⟩
  obtain ⟨b', off', e, hb, hc⟩ := h.2.1 (by omega)
  simp only [Option.some.injEq, Addr.mk.injEq, and_true] at e
  obtain ⟨rfl, rfl⟩ := e
  refine ⟨b, off + m, rfl, hb, fun i hi => ?_⟩
  rw [getD_drop, Nat.add_assoc]
  exact hc (m + i) (by omega)
theorem s_open_f {w : World} {n c : Nat} {A : Option Addr} {l : List Int} (k : Int) (hl : Ints .u8 w w.heap.size A n l) (hn : n ≤ 400) (hnc : n ≤ c) (hc : c ≤ 9223372036854775807) (h1 : 0 ≤ k) (h2 : k < 2147483647) (ho : ¬ opens k l) :
    Calls Try.prog 91 #[.int .i64 k, .slice A n c] w fun e w' => e = .returned (.tuple #[.slice none 0 0, .bool false]) ∧ Below w.heap.size w w' := by
  have hlen := hl.1
  have HO := Lib.hid ho
  clear ho
  by_cases h4 : n < 4
  · have d4 : decide ((n : Int) < 4) = true := by simp; omega
    clear hlen
    go_enter Try.func91, Try.ntmps91
    go_wp2
    go_quiet (fail)
    go_wp2
    go_ret2
    exact ⟨rfl, below_drewN (Below.refl _ _) _⟩
  · obtain ⟨b, off, rfl, hb, _⟩ := hl.2.1 (by omega)
    have rk2 := keyP_rg k 2
    have hne : (get4 l != mac (keyP k 2) (l.drop 4)) = true := by
      simp only [bne_iff_ne]; exact fun e => HO.out ⟨by omega, e⟩
    have g1 : (0 : Int) ≤ 4 := by omega
    have g2 : (4 : Int) ≤ (n : Int) := by omega
    have g3 : (n : Int) ≤ (c : Int) := by omega
    have d4 : decide ((n : Int) < 4) = false := by simp; omega
    clear hlen
    by_cases hc4 : c = 4
    · subst hc4
      obtain rfl : n = 4 := by omega
      have HT : Ints .u8 w w.heap.size (some ⟨b, off, none⟩) 0 (l.drop 4) := by have := hl.tail 4 (by omega); exact ⟨this.1, fun h => absurd h (by omega), this.2.2⟩
      go_enter Try.func91, Try.ntmps91
      go_wp2
      go_quiet ((first | (go_at_call 132; exact q_quiet (s_get hl (by omega) (by omega))) | (go_at_call 89; exact q_same (fun W => s_key _ _ W h1 h2 (by omega) (by omega))) | (go_at_call 135; exact q_quiet (s_mac _ (HT.drewN _) (by omega) rk2.1 rk2.2))))
      go_wp2
      go_ret2
      exact ⟨rfl, below_drewN (Below.refl _ _) _⟩
    · have HT := hl.tail 4 (by omega)
      go_enter Try.func91, Try.ntmps91
      go_wp2
      go_quiet ((first | (go_at_call 132; exact q_quiet (s_get hl (by omega) (by omega))) | (go_at_call 89; exact q_same (fun W => s_key _ _ W h1 h2 (by omega) (by omega))) | (go_at_call 135; exact q_quiet (s_mac _ (HT.drewN _) (by omega) rk2.1 rk2.2))))
      go_wp2
      go_ret2
      exact ⟨rfl, below_drewN (Below.refl _ _) _⟩
set_option maxHeartbeats 400000 in
theorem s_open_t {w : World} {n c : Nat} {A : Option Addr} {l : List Int} (k : Int) (hl : Ints .u8 w w.heap.size A n l) (hn : n ≤ 400) (hnc : n ≤ c) (hc : c ≤ 9223372036854775807) (h1 : 0 ≤ k) (h2 : k < 2147483647) (ho : opens k l) :
    Calls Try.prog 91 #[.int .i64 k, .slice A n c] w fun e w' => ∃ v, e = .returned (.tuple #[v, .bool true]) ∧ Own .u8 5 w' w.heap.size v (openL k l) ∧ Below w.heap.size w w' := by
  have hlen := hl.1
  have h4 : 4 ≤ n := by have := ho.1; omega
  obtain ⟨b, off, rfl, hb, _⟩ := hl.2.1 (by omega)
  have rk1 := keyP_rg k 1
  have rk2 := keyP_rg k 2
  have hne : (get4 l != mac (keyP k 2) (l.drop 4)) = false := by
    simp only [bne_eq_false_iff_eq]; exact ho.2
  have HO := Lib.hid (show openL k l = xorl (keyP k 1) (l.drop 4) from rfl)
  have g1 : (0 : Int) ≤ 4 := by omega
  have g2 : (4 : Int) ≤ (n : Int) := by omega
  have g3 : (n : Int) ≤ (c : Int) := by omega
  have d4 : decide ((n : Int) < 4) = false := by simp; omega
  clear hlen ho
  by_cases hc4 : c = 4
  · subst hc4
    obtain rfl : n = 4 := by omega
    have HT : Ints .u8 w w.heap.size (some ⟨b, off, none⟩) 0 (l.drop 4) := by have := hl.tail 4 (by omega); exact ⟨this.1, fun h => absurd h (by omega), this.2.2⟩
    go_enter Try.func91, Try.ntmps91
    go_wp2
    go_quiet ((first | (go_at_call 132; exact q_quiet (s_get hl (by omega) (by omega))) | (go_at_call 89; exact q_same (fun W => s_key _ _ W h1 h2 (by omega) (by omega))) | (go_at_call 135; exact q_quiet (s_mac _ (HT.drewN _) (by omega) rk2.1 rk2.2))))
    go_wp2
    go_region_held3 (fun _ => True) (trivial) (first | (go_at_call 89; refine (s_key _ _ _ h1 h2 (by omega) (by omega)).mono ?_; rintro e w' ⟨rfl, rfl⟩) | (go_at_call 90; refine (s_xor _ (HT.drewN _) (by omega) rk1.1 rk1.2).mono ?_; rintro e w1 ⟨v, rfl, hO1, hB1⟩))
    go_wp2
    go_ret2
    exact ⟨_, rfl, by rw [HO.out]; exact hO1, (below_drewN (Below.refl _ _) _).trans hB1⟩
  · have HT := hl.tail 4 (by omega)
    go_enter Try.func91, Try.ntmps91
    go_wp2
    go_quiet ((first | (go_at_call 132; exact q_quiet (s_get hl (by omega) (by omega))) | (go_at_call 89; exact q_same (fun W => s_key _ _ W h1 h2 (by omega) (by omega))) | (go_at_call 135; exact q_quiet (s_mac _ (HT.drewN _) (by omega) rk2.1 rk2.2))))
    go_wp2
    go_region_held3 (fun _ => True) (trivial) (first | (go_at_call 89; refine (s_key _ _ _ h1 h2 (by omega) (by omega)).mono ?_; rintro e w' ⟨rfl, rfl⟩) | (go_at_call 90; refine (s_xor _ (HT.drewN _) (by omega) rk1.1 rk1.2).mono ?_; rintro e w1 ⟨v, rfl, hO1, hB1⟩))
    go_wp2
    go_ret2
    exact ⟨_, rfl, by rw [HO.out]; exact hO1, (below_drewN (Below.refl _ _) _).trans hB1⟩
end Go.Proofs.Ytpapkonejkdkhaa
