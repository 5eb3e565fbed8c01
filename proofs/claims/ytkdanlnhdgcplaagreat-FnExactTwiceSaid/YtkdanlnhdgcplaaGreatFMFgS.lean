/-
  FgS: texts joined.
-/
import Derived.Test.YtkdanlnhdgcplaaGreatFGa
import Derived.Test.YtkdanlnhdgcplaaGreatFGb
import Derived.Test.YtkdanlnhdgcplaaGreatFGe
import Derived.Test.YtkdanlnhdgcplaaGreatFMShs
import Derived.Deep.Cut
import Derived.Deep.DeepCutAuto
namespace Go.Proofs.YtkdanlnhdgcplaaGreat
set_option maxRecDepth 100000
set_option linter.unusedVariables false
set_option linter.unusedSimpArgs false
open Go.ChangeShapes Go.WideShapes Go.ChangeAt Go.RowKit
open Fld
def KO (ob : Nat) : KB := ⟨ob + 1, fun b => b < ob⟩
theorem KO.no (ob : Nat) : ¬ (KO ob).ok ob := fun h => by
 rcases h with h | h
 ·exact absurd (show ob + 1 ≤ ob from h) (by omega)
 ·exact absurd (show ob < ob from h) (by omega)
theorem KO.low {ob b : Nat} (h : b < ob) : (KO ob).ok b := .inr h
theorem firm_fix {α : Type} {k : Nat} {P : List Value → α → Prop} {hP : ∀ cs a, P cs a → cs.length = k} (K : KB) : Firm K (tFix k P hP) := fun _ _ _ _ _ h _ => h
theorem belP {B : Nat} {a w : World} (h : Below B a w) {p : Addr} (hp : B ≤ p.block) (u : Value) : Below B a (w.setCell p u) := h.trans ⟨rfl, rfl, rfl, by simp [World.setCell], fun k hk => Below.heap_setCell w p u k (by omega)⟩
theorem gB {X w3 : World} {g eb n c : Nat} {ty : TypeId} {cs : Array Value} (h : Box X g ty cs) (hgr : X.drew.grownBy w3 (Value.slice (some ⟨eb, 0, none⟩) n c).ownBlock) (hn : g ≠ eb) : Box w3 g ty cs := Box.grown (Box.drew h) hgr (fun e => hn (Option.some.inj (show some g = some eb from e)))
theorem gC {W X w3 : World} {eb n c : Nat} (hgr : X.drew.grownBy w3 (Value.slice (some ⟨eb, 0, none⟩) n c).ownBlock) (hB : Bel W X.drew) (he : W.heap.size ≤ eb) : Bel W w3 :=
 hB.grown hgr hB.size (fun b hb => by have e := Option.some.inj (show some eb = some b from hb); omega)
theorem gO {X w4 : World} {g Y : Nat} {P : Nat → Prop} {v : Value} {ty : TypeId} {cs : Array Value} (h : Box X g ty cs) (hgr : X.grownBy w4 v.ownBlock) (ho : ∀ b, v.ownBlock = some b → Y ≤ b ∧ P b) (hg : g < Y) : Box w4 g ty cs := h.grown hgr (fun e => by have := (ho _ e.symm).1; omega)
theorem gD {W X w4 : World} {Y : Nat} {P : Nat → Prop} {v : Value} (hB : Bel W X) (hgr : X.grownBy w4 v.ownBlock) (ho : ∀ b, v.ownBlock = some b → Y ≤ b ∧ P b) (hY : W.heap.size ≤ Y) : Bel W w4 := hB.grown hgr hB.size (fun b hb => Nat.le_trans hY (ho b hb).1)
theorem growFix {α : Type} {k : Nat} {P : List Value → α → Prop} {hP : ∀ cs a, P cs a → cs.length = k} {e : TypeId} {w : World} {base B B' : Nat} {v : Value} {l : List α} (h : GrowR (tFix k P hP) e w base B v l) : GrowR (tFix k P hP) e w base B' v l := h
def tML (ob : Nat) (w : World) : Ty DMail := tFix 2 (fun es m => (XT (KO ob) tMail).R w w.heap.size es m) fun es m h => (XT (KO ob) tMail).lenR h
def tGL : Ty DGlance := tFix 2 (fun es g => es = [.int .i64 g.1, .int .i64 g.2] ∧ (Lit.int .i64 g.1).wf = true ∧ (Lit.int .i64 g.2).wf = true) fun es g h => by rw [h.1]; rfl
theorem oneML {ob : Nat} {u : World} {w : World} {B : Nat} : ∀ es a, (tML ob u).R w B es a → ∀ x ∈ es, x.oneCell' = true := fun es a h x hx => by
 obtain ⟨A, n, c, rfl, -, -, -, -, -⟩ := openMail (xt_R (show (XT (KO ob) tMail).R u u.heap.size es a from h))
 simp only [List.mem_cons, List.not_mem_nil, or_false] at hx
 rcases hx with rfl | rfl <;> rfl
theorem oneGL {w : World} {B : Nat} : ∀ es a, tGL.R w B es a → ∀ x ∈ es, x.oneCell' = true := fun es a h x hx => by
 obtain ⟨rfl, -, -⟩ := (show es = [.int .i64 a.1, .int .i64 a.2] ∧ _ from h)
 simp only [List.mem_cons, List.not_mem_nil, or_false] at hx
 rcases hx with rfl | rfl <;> rfl
def NtX (w : World) (ob : Nat) (d : DNet) : Prop :=
 ∃ (v3 v5 : Value) (A4 A6 : Option Addr) (n4 c4 n6 c6 : Nat), Box w ob 35 #[.int .i64 d.1, .int .i64 d.2.1, .int .i64 d.2.2.1, v3, .slice A4 n4 c4, v5, .slice A6 n6 c6] ∧
  (XT (KO ob) tNode.row).R w w.heap.size [v3] d.2.2.2.1 ∧ (RX (KO ob) (XT (KO ob) tMail)).R w w.heap.size [.slice A4 n4 c4] d.2.2.2.2.1 ∧
  (XT (KO ob) tSent.row).R w w.heap.size [v5] d.2.2.2.2.2.1 ∧ (XT (KO ob) tGlance.row).R w w.heap.size [.slice A6 n6 c6] d.2.2.2.2.2.2
theorem NtX.at {w w' : World} {ob : Nat} {d : DNet} (h : NtX w ob d) (hB : Bel w w') : NtX w' ob d := by
 obtain ⟨v3, v5, A4, A6, n4, c4, n6, c6, X, g3, g4, g5, g6⟩ := h
 have ha : Alike (KO ob) w.heap.size w w' := Alike.below hB
 exact ⟨v3, v5, A4, A6, n4, c4, n6, c6, X.below hB X.size, xt_at g3 ha hB.size, (firm_rx (firm_xt _ _)).at g4 ha hB.size, xt_at g5 ha hB.size, xt_at g6 ha hB.size⟩
theorem NtX.of {w : World} {cs : List Value} {d : DNet} (h : tNet.R w w.heap.size cs d) : NtX (w.alloc (.cells cs.toArray 35)) w.heap.size d := by
 obtain ⟨A3, n3, c3, A4, n4, c4, A5, n5, c5, A6, n6, c6, rfl, -, -, -, -, -, -, r3, -, -, -, r4, -, -, -, r5, -, -, -, r6⟩ := openNet h
 have hK : ∀ b, b < w.heap.size → (KO w.heap.size).ok b := fun b hb => KO.low hb
 have hB : Bel w (w.alloc (.cells [Value.int .i64 d.1, .int .i64 d.2.1, .int .i64 d.2.2.1, .slice A3 n3 c3, .slice A4 n4 c4, .slice A5 n5 c5, .slice A6 n6 c6].toArray 35)) := (belx)
 have ha : Alike (KO w.heap.size) w.heap.size w _ := Alike.below hB
 refine ⟨_, _, A4, A6, n4, c4, n6, c6, Box.new _ _ _, xt_at (xt_below r3 hK) ha hB.size, (firm_rx (firm_xt _ _)).at (rx_below (t := XT (KO w.heap.size) tMail) (row_cast (s := tMail) (t := XT (KO w.heap.size) tMail) rfl (fun es a h => xt_below h hK) r4) hK) ha hB.size, xt_at (xt_below r5 hK) ha hB.size, xt_at (xt_below r6 hK) ha hB.size⟩
theorem NtX.net {w : World} {ob : Nat} {d : DNet} (h : NtX w ob d) (i0 : (Lit.int .i64 d.1).wf = true) (i1 : (Lit.int .i64 d.2.1).wf = true) (i2 : (Lit.int .i64 d.2.2.1).wf = true) :
  ∃ v3 v4 v5 v6, Box w ob 35 #[.int .i64 d.1, .int .i64 d.2.1, .int .i64 d.2.2.1, v3, v4, v5, v6] ∧ tNet.R w w.heap.size [.int .i64 d.1, .int .i64 d.2.1, .int .i64 d.2.2.1, v3, v4, v5, v6] d := by
 obtain ⟨v3, v5, A4, A6, n4, c4, n6, c6, X, g3, g4, g5, g6⟩ := h
 exact ⟨v3, _, v5, _, X, makeNet i0 i1 i2 (xt_R g3) (row_cast (s := XT (KO ob) tMail) (t := tMail) rfl (fun es a h => xt_R h) (rx_row g4)) (xt_R g5) (xt_R g6)⟩
theorem xt_gl {w : World} {B : Nat} {K : KB} {v : Value} {l : List DGlance} (h : (RX K tGL).R w B [v] l) : (XT K tGlance.row).R w B [v] l := fun w2 h2 =>
 row_cast (s := tGL) rfl (fun es a hh => by obtain ⟨rfl, i0, i1⟩ := (show es = [.int .i64 a.1, .int .i64 a.2] ∧ _ from hh); exact makeGlance i0 i1) (rx_row ((firm_rx (firm_fix K)) _ _ _ _ _ h h2))
set_option maxHeartbeats 4000000 in
theorem s_l7mail {w : World} {ob : Nat} {d : DNet} {x : Int} {AC : Option Addr} {nc cc : Nat} {bs : List Int} (h : NtX w ob d) (hm : (XT (KO ob) tBy).R w w.heap.size [.slice AC nc cc] bs) (hx : (Lit.int .i64 x).wf = true) (hd : (Lit.int .i64 d.1).wf = true) (ho : ob < w.heap.size) (hr : Room d) :
  Calls Tryz.prog 23 #[.pointer (some ⟨ob, 0, none⟩), .int .i64 x, .agg #[.slice AC nc cc]] w fun e w' => e = .returned (.bool true) ∧ NtX w' ob (fTr d (x, bs)) ∧ Below ob w w' := by
 obtain ⟨v3, v5, A4, A6, n4, c4, n6, c6, X, g3, g4, g5, g6⟩ := h
 obtain ⟨i4i, hj04, hj14, hj24, hj34⟩ := info_parts info_Mail
 obtain ⟨i6i, hj06, hj16, hj26, hj36⟩ := info_parts info_Glance
 have tzM : (Value.agg #[Value.int .i64 0, Value.slice none 0 0]).cells.size = 2 := by first | rfl | (simp [Value.cells]; done)
 have tzG : (Value.agg #[Value.int .i64 0, Value.int .i64 0]).cells.size = 2 := by first | rfl | (simp [Value.cells]; done)
 have e4 := (rx_len g4).1
 have e6 := (rowR_len (xt_R g6)).1
 obtain ⟨q4, q6⟩ := hr
 have hn4 : n4 ≤ 59 := by omega
 have hn6 : n6 ≤ 499 := by omega
 have HEML := Lib.hid e4
 have HEGL := Lib.hid e6
 have NEWML : ∀ {w2 : World} {B2 : Nat}, (tML ob w).R w2 B2 [.int .i64 x, .slice AC nc cc] (x, bs) := fun {w2 B2} => show (XT (KO ob) tMail).R w w.heap.size _ _ from fun w3 h3 => makeMail (p := (x, bs)) hx (hm w3 h3)
 have NEWGL : ∀ {w2 : World} {B2 : Nat}, tGL.R w2 B2 [.int .i64 d.1, .int .i64 x] (d.1, x) := fun {w2 B2} => ⟨rfl, hd, hx⟩
 have R4 : ∀ w', Alike (KO ob) w.heap.size w w' → (tML ob w).row.R w' w.heap.size [.slice A4 n4 c4] d.2.2.2.2.1 := fun w' ha => rx_row ((firm_rx (firm_fix _)) _ _ _ _ _ (rx_cast (s := XT (KO ob) tMail) (t := tML ob w) (w := w) (B := w.heap.size) rfl (fun es a hh => hh) g4) ha)
 have R6 : ∀ w', Alike (KO ob) w.heap.size w w' → tGL.row.R w' w.heap.size [.slice A6 n6 c6] d.2.2.2.2.2.2 := fun w' ha => row_cast (s := tGlance) (t := tGL) rfl (fun es a hh => openGlance hh) (xt_R (xt_keep g6 ha))
 have cb1 : ob < w.heap.size + 1 := by omega
 have Tq : Box (w.alloc (.cells #[.slice AC nc cc] 56)) ob 35 #[.int .i64 d.1, .int .i64 d.2.1, .int .i64 d.2.2.1, v3, .slice A4 n4 c4, v5, .slice A6 n6 c6] := X.alloc _
 have Hq : Box (w.alloc (.cells #[.slice AC nc cc] 56)) w.heap.size 56 #[.slice AC nc cc] := Box.new _ _ _
 have hq0 : Bel w (w.alloc (.cells #[.slice AC nc cc] 56)) := (belx)
 have zwq : w.heap.size + 1 ≤ (w.alloc (.cells #[.slice AC nc cc] 56)).heap.size := by simp
 have k4 := Tq.cell 4; have k6 := Tq.cell 6; have k0 := Tq.cell 0; have kc := Hq.cell 0
 have l60 : ¬ (60 : Int) ≤ (n4 : Int) := by omega
 have l500 : ¬ (500 : Int) ≤ (n6 : Int) := by omega
 clear e4 e6 q4 q6 X
 go_enter Tryz.func23, Tryz.ntmps23
 go_wp2_with fail
 obtain ⟨wq, hwq⟩ : ∃ wq, w.alloc (.cells #[.slice AC nc cc] 56) = wq := ⟨_, rfl⟩
 rw [hwq] at Tq Hq hq0 zwq ⊢
 clear hwq k4 k6 k0 kc
 have AQ : Alike (KO ob) w.heap.size w wq := Alike.below hq0
 have hOB : Below ob w wq := hq0.mono (by omega)
 clear hq0
 replace zwq : w.heap.size ≤ wq.heap.size ∧ w.heap.size < wq.heap.size := ⟨by omega, by omega⟩
 obtain ⟨zwq, zwq1⟩ := zwq
 go_cut [] (fun wx => ∃ (A7 : Option Addr) (n7 c7 : Nat), Box wx ob 35 #[.int .i64 d.1, .int .i64 d.2.1, .int .i64 d.2.2.1, v3, .slice A7 n7 c7, v5, .slice A6 n6 c6] ∧ GrowR (tML ob w) 62 wx w.heap.size 0 (.slice A7 n7 c7) (d.2.2.2.2.1 ++ [(x, bs)]) ∧ Alike (KO ob) w.heap.size w wx ∧ Below ob w wx ∧ w.heap.size ≤ wx.heap.size)
 case first =>
  have T_ : Box wq ob 35 #[.int .i64 d.1, .int .i64 d.2.1, .int .i64 d.2.2.1, v3, .slice A4 n4 c4, v5, .slice A6 n6 c6] := Tq
  have H_ : Box wq w.heap.size 56 #[.slice AC nc cc] := Hq
  have l_ := T_.cell 4
  have T_E : Box (wq.alloc (.cells #[] 62)) ob 35 #[.int .i64 d.1, .int .i64 d.2.1, .int .i64 d.2.2.1, v3, .slice A4 n4 c4, v5, .slice A6 n6 c6] := (Tq.alloc _)
  have H_E : Box (wq.alloc (.cells #[] 62)) w.heap.size 56 #[.slice AC nc cc] := (Hq.alloc _)
  have l_E := T_E.cell 4
  have T_V : Box (wq.alloc (.cells ([Value.int .i64 x, .slice AC nc cc].toArray) 62)) ob 35 #[.int .i64 d.1, .int .i64 d.2.1, .int .i64 d.2.2.1, v3, .slice A4 n4 c4, v5, .slice A6 n6 c6] := (Tq.alloc _)
  have H_V : Box (wq.alloc (.cells ([Value.int .i64 x, .slice AC nc cc].toArray) 62)) w.heap.size 56 #[.slice AC nc cc] := (Hq.alloc _)
  have l_V := T_V.cell 4
  have V_V : Box (wq.alloc (.cells ([Value.int .i64 x, .slice AC nc cc].toArray) 62)) (wq.heap.size) 62 ([Value.int .i64 x, .slice AC nc cc].toArray) := (by simpa using Box.new wq 62 ([Value.int .i64 x, .slice AC nc cc].toArray))
  have T_EV : Box ((wq.alloc (.cells #[] 62)).alloc (.cells ([Value.int .i64 x, .slice AC nc cc].toArray) 62)) ob 35 #[.int .i64 d.1, .int .i64 d.2.1, .int .i64 d.2.2.1, v3, .slice A4 n4 c4, v5, .slice A6 n6 c6] := ((Tq.alloc _).alloc _)
  have H_EV : Box ((wq.alloc (.cells #[] 62)).alloc (.cells ([Value.int .i64 x, .slice AC nc cc].toArray) 62)) w.heap.size 56 #[.slice AC nc cc] := ((Hq.alloc _).alloc _)
  have l_EV := T_EV.cell 4
  have V_EV : Box ((wq.alloc (.cells #[] 62)).alloc (.cells ([Value.int .i64 x, .slice AC nc cc].toArray) 62)) (wq.heap.size + 1) 62 ([Value.int .i64 x, .slice AC nc cc].toArray) := (by simpa using Box.new (wq.alloc (.cells #[] 62)) 62 ([Value.int .i64 x, .slice AC nc cc].toArray))
  have T_VE : Box ((wq.alloc (.cells ([Value.int .i64 x, .slice AC nc cc].toArray) 62)).alloc (.cells #[] 62)) ob 35 #[.int .i64 d.1, .int .i64 d.2.1, .int .i64 d.2.2.1, v3, .slice A4 n4 c4, v5, .slice A6 n6 c6] := ((Tq.alloc _).alloc _)
  have H_VE : Box ((wq.alloc (.cells ([Value.int .i64 x, .slice AC nc cc].toArray) 62)).alloc (.cells #[] 62)) w.heap.size 56 #[.slice AC nc cc] := ((Hq.alloc _).alloc _)
  have l_VE := T_VE.cell 4
  have V_VE : Box ((wq.alloc (.cells ([Value.int .i64 x, .slice AC nc cc].toArray) 62)).alloc (.cells #[] 62)) (wq.heap.size) 62 ([Value.int .i64 x, .slice AC nc cc].toArray) := (Box.alloc (show Box (wq.alloc (.cells ([Value.int .i64 x, .slice AC nc cc].toArray) 62)) (wq.heap.size) 62 ([Value.int .i64 x, .slice AC nc cc].toArray) from (by simpa using Box.new wq 62 ([Value.int .i64 x, .slice AC nc cc].toArray))) _)
  have B_E : Bel wq ((wq.alloc (.cells #[] 62)).drew) := (belx)
  have E_E : GrowR (tML ob w) 62 ((wq.alloc (.cells #[] 62)).drew) wq.heap.size w.heap.size (.slice (some ⟨wq.heap.size, 0, none⟩) 0 0) [] := GrowR.drew (by simpa using (GrowR.empty (t := (tML ob w)) (e := 62) (w := wq) (base := wq.heap.size) (B := w.heap.size) lez)) (by first | (simp; omega) | omega)
  have R_E := R4 _ (AQ.trans (Alike.below (B_E.mono zwq)))
  have B_EV : Bel wq (((wq.alloc (.cells #[] 62)).alloc (.cells ([Value.int .i64 x, .slice AC nc cc].toArray) 62)).drew) := (belx)
  have E_EV : GrowR (tML ob w) 62 (((wq.alloc (.cells #[] 62)).alloc (.cells ([Value.int .i64 x, .slice AC nc cc].toArray) 62)).drew) wq.heap.size w.heap.size (.slice (some ⟨wq.heap.size, 0, none⟩) 0 0) [] := GrowR.drew (GrowR.below (by simpa using (GrowR.empty (t := (tML ob w)) (e := 62) (w := wq) (base := wq.heap.size) (B := w.heap.size) lez)) (belx) (by simp; omega)) (by first | (simp; omega) | omega)
  have R_EV := R4 _ (AQ.trans (Alike.below (B_EV.mono zwq)))
  have B_VE : Bel wq (((wq.alloc (.cells ([Value.int .i64 x, .slice AC nc cc].toArray) 62)).alloc (.cells #[] 62)).drew) := (belx)
  have E_VE : GrowR (tML ob w) 62 (((wq.alloc (.cells ([Value.int .i64 x, .slice AC nc cc].toArray) 62)).alloc (.cells #[] 62)).drew) wq.heap.size w.heap.size (.slice (some ⟨wq.heap.size + 1, 0, none⟩) 0 0) [] := GrowR.drew (by simpa using (GrowR.empty (t := (tML ob w)) (e := 62) (w := (wq.alloc (.cells ([Value.int .i64 x, .slice AC nc cc].toArray) 62))) (base := wq.heap.size) (B := w.heap.size) lez)) (by first | (simp; omega) | omega)
  have R_VE := R4 _ (AQ.trans (Alike.below (B_VE.mono zwq)))
  have SZ1 : ∀ {X : World}, Bel wq X → wq.heap.size ≤ X.heap.size := fun h => h.size
  have hL1 : ([] : List DMail).length + n4 ≤ maxLen := by simp only [maxLen, List.length_nil]; omega
  have hL2 : (([] : List DMail).length + n4) * 32 ≤ 140737488355328 := by simp only [List.length_nil]; omega
  have hL3 : ([] ++ d.2.2.2.2.1).length + 1 ≤ maxLen := by have := HEML.out; simp only [maxLen, List.nil_append]; omega
  have hL4 : (([] ++ d.2.2.2.2.1).length + 1) * 32 ≤ 140737488355328 := by have := HEML.out; simp only [List.nil_append]; omega
  have LF : ∀ {A9 : Option Addr} {n9 c9 : Nat} {w4 : World}, Box (w4.setCell ⟨ob, 4, none⟩ (.slice A9 n9 c9)) ob 35 #[.int .i64 d.1, .int .i64 d.2.1, .int .i64 d.2.2.1, v3, .slice A9 n9 c9, v5, .slice A6 n6 c6] → GrowR (tML ob w) 62 w4 wq.heap.size w.heap.size (.slice A9 n9 c9) (([] ++ d.2.2.2.2.1) ++ [(x, bs)]) → Bel wq w4 → ∃ (A7 : Option Addr) (n7 c7 : Nat), Box (w4.setCell ⟨ob, 4, none⟩ (.slice A9 n9 c9)) ob 35 #[.int .i64 d.1, .int .i64 d.2.1, .int .i64 d.2.2.1, v3, .slice A7 n7 c7, v5, .slice A6 n6 c6] ∧ GrowR (tML ob w) 62 (w4.setCell ⟨ob, 4, none⟩ (.slice A9 n9 c9)) w.heap.size 0 (.slice A7 n7 c7) (d.2.2.2.2.1 ++ [(x, bs)]) ∧ Alike (KO ob) w.heap.size w (w4.setCell ⟨ob, 4, none⟩ (.slice A9 n9 c9)) ∧ Below ob w (w4.setCell ⟨ob, 4, none⟩ (.slice A9 n9 c9)) ∧ w.heap.size ≤ (w4.setCell ⟨ob, 4, none⟩ (.slice A9 n9 c9)).heap.size := fun {A9 n9 c9 w4} T9 hG4 hC4 => ⟨A9, n9, c9, T9, ((growFix hG4).lower zwq).putN (p := ⟨ob, 4, none⟩) (fun b hb => by have := (hG4.own b hb).1; show ¬ b = ob; omega) (Nat.zero_le _) _, (AQ.trans (Alike.below (hC4.mono zwq))).trans (Alike.set w4 (KO.no ob) _), belP (hOB.trans (hC4.mono (by omega))) (Nat.le_refl _) _, by have := hC4.size; simp [World.setCell]; omega⟩
  refine wp_region_held_drew (S := (fun w' => w'.cell? ⟨w.heap.size, 0, none⟩ = some (.slice AC nc cc))) (by kernel_rfl) (by exact (H_).cell 0) (fun hHeld => ?_)
  refine tkx 0 (some 21) ?_
  refine tkx 2 (some 23) ?_
  refine tkx 3 (some 24) ?_
  refine tkx 4 (some 25) ?_
  refine tkx 7 (some 28) ?_
  refine tkx 8 (some 29) ?_
  refine tkx 9 (some 30) ?_
  refine rdx [1, 5, 10] ?_
  refine rcx (fun K hK => ?_) ?_
  ·go_simp
   refine hK.out _ _ (by exact (H_E).cell 0) (fun hHeld => ?_)
   clear hK K
   (try simp only [Act.put, qa_, qb_, qc_])
   refine rdx [5, 10] ?_
   refine rcx (fun K hK => ?_) ?_
   ·go_simp
    refine hK.out _ _ (by exact (H_E).cell 0) (fun hHeld => ?_)
    clear hK K
    (try simp only [Act.put, qa_, qb_, qc_])
    refine rdx [6, 10] ?_
    refine rcx (fun K hK => ?_) ?_
    ·refine GrowR.stepRow (by rfl) (.tmp 22) (.tmp 26) _ (by rfl) i4i _ 2 32 Tryz.underlying31 hj04 hj14 hj24 hj34 tzM (by omega) rfl (by rfl) E_E (by rfl) R_E oneML zwq B_E.size hL1 hL2 ?_
     intro v3_ w3 hG3 hgr3
     have hC3 := gC hgr3 B_E (by omega)
     have hOwn3 := hG3.own
     have T3 := gB T_E hgr3 (by omega)
     have H3 := gB H_E hgr3 (by omega)
     refine hK.out _ _ (by exact (H3).cell 0) (fun hHeld => ?_)
     clear hK K
     (try simp only [Act.put, qa_, qb_, qc_])
     refine rdx [10] ?_
     refine rcx (fun K hK => ?_) ?_
     ·go_simp
      refine hK.out _ _ (by exact (H3.alloc _).cell 0) (fun hHeld => ?_)
      clear hK K
      (try simp only [Act.put, qa_, qb_, qc_])
      refine rdx [11] ?_
      refine rcx (fun K hK => ?_) ?_
      ·refine GrowR.step (t := (tML ob w)) (by rfl) (.tmp 27) (.tmp 31) _ (by rfl) i4i _ 2 32 Tryz.underlying31 hj04 hj14 hj24 hj34 tzM (by omega) rfl (by rfl) (hG3.below (belx) (SZ1 hC3 |> Nat.le_trans zwq)) w3.heap.size [Value.int .i64 x, .slice AC nc cc] (x, bs) (by rfl) (Box.new w3 62 ([Value.int .i64 x, .slice AC nc cc].toArray)) NEWML (oneML (ob := ob) (u := w) (w := w) (B := 0) _ (x, bs) NEWML) zwq (bel_alloc hC3 _).size hL3 hL4 ?_
       intro v4_ w4 hG4 hgr4
       obtain ⟨A9, n9, c9, rfl, -⟩ := hG4.shapeN
       have hC4 := gD (bel_alloc hC3 _) hgr4 hOwn3 (Nat.le_refl _)
       have T4 := gO (T3.alloc _) hgr4 hOwn3 (by omega)
       have H4 := gO (H3.alloc _) hgr4 hOwn3 (by omega)
       have s_ := T4.cell 4
       have f_ := T4.frozen 4
       have T9 := T4.put 4 (.slice A9 n9 c9)
       have H9 := H4.far (p := ⟨ob, 4, none⟩) fsz (.slice A9 n9 c9)
       refine hK.out _ _ (by exact (H4).cell 0) (fun hHeld => ?_)
       clear hK K
       (try simp only [Act.put, qa_, qb_, qc_])
       refine tkx 12 (some 33) ?_
       refine tkx 13 (some 34) ?_
       refine rdx [14] ?_
       refine rcx (fun K hK => ?_) ?_
       ·go_simp
        refine hK.out _ _ (by exact (H9).cell 0) (fun hHeld => ?_)
        clear hK K
        (try simp only [Act.put, qa_, qb_, qc_])
        refine rex ?_ _
        go_wp2_with fail
        go_meet
        exact LF T9 hG4 hC4
       exact AllReadyH.nil
      exact AllReadyH.nil
     exact AllReadyH.nil
    refine rcx (fun K hK => ?_) ?_
    ·go_simp
     refine hK.out _ _ (by exact (H_EV).cell 0) (fun hHeld => ?_)
     clear hK K
     (try simp only [Act.put, qa_, qb_, qc_])
     refine rdx [6] ?_
     refine rcx (fun K hK => ?_) ?_
     ·refine GrowR.stepRow (by rfl) (.tmp 22) (.tmp 26) _ (by rfl) i4i _ 2 32 Tryz.underlying31 hj04 hj14 hj24 hj34 tzM (by omega) rfl (by rfl) E_EV (by rfl) R_EV oneML zwq B_EV.size hL1 hL2 ?_
      intro v3_ w3 hG3 hgr3
      have hC3 := gC hgr3 B_EV (by omega)
      have hOwn3 := hG3.own
      have T3 := gB T_EV hgr3 (by omega)
      have H3 := gB H_EV hgr3 (by omega)
      have V3 := gB V_EV hgr3 (by omega)
      refine hK.out _ _ (by exact (H3).cell 0) (fun hHeld => ?_)
      clear hK K
      (try simp only [Act.put, qa_, qb_, qc_])
      refine rdx [11] ?_
      refine rcx (fun K hK => ?_) ?_
      ·refine GrowR.step (t := (tML ob w)) (by rfl) (.tmp 27) (.tmp 31) _ (by rfl) i4i _ 2 32 Tryz.underlying31 hj04 hj14 hj24 hj34 tzM (by omega) rfl (by rfl) hG3 (wq.heap.size + 1) [Value.int .i64 x, .slice AC nc cc] (x, bs) (by rfl) V3 NEWML (oneML (ob := ob) (u := w) (w := w) (B := 0) _ (x, bs) NEWML) zwq hC3.size hL3 hL4 ?_
       intro v4_ w4 hG4 hgr4
       obtain ⟨A9, n9, c9, rfl, -⟩ := hG4.shapeN
       have hC4 := gD hC3 hgr4 hOwn3 (Nat.le_refl _)
       have T4 := gO T3 hgr4 hOwn3 (by omega)
       have H4 := gO H3 hgr4 hOwn3 (by omega)
       have s_ := T4.cell 4
       have f_ := T4.frozen 4
       have T9 := T4.put 4 (.slice A9 n9 c9)
       have H9 := H4.far (p := ⟨ob, 4, none⟩) fsz (.slice A9 n9 c9)
       refine hK.out _ _ (by exact (H4).cell 0) (fun hHeld => ?_)
       clear hK K
       (try simp only [Act.put, qa_, qb_, qc_])
       refine tkx 12 (some 33) ?_
       refine tkx 13 (some 34) ?_
       refine rdx [14] ?_
       refine rcx (fun K hK => ?_) ?_
       ·go_simp
        refine hK.out _ _ (by exact (H9).cell 0) (fun hHeld => ?_)
        clear hK K
        (try simp only [Act.put, qa_, qb_, qc_])
        refine rex ?_ _
        go_wp2_with fail
        go_meet
        exact LF T9 hG4 hC4
       exact AllReadyH.nil
      exact AllReadyH.nil
     exact AllReadyH.nil
    exact AllReadyH.nil
   refine rcx (fun K hK => ?_) ?_
   ·go_simp
    refine hK.out _ _ (by exact (H_EV).cell 0) (fun hHeld => ?_)
    clear hK K
    (try simp only [Act.put, qa_, qb_, qc_])
    refine rdx [5] ?_
    refine rcx (fun K hK => ?_) ?_
    ·go_simp
     refine hK.out _ _ (by exact (H_EV).cell 0) (fun hHeld => ?_)
     clear hK K
     (try simp only [Act.put, qa_, qb_, qc_])
     refine rdx [6] ?_
     refine rcx (fun K hK => ?_) ?_
     ·refine GrowR.stepRow (by rfl) (.tmp 22) (.tmp 26) _ (by rfl) i4i _ 2 32 Tryz.underlying31 hj04 hj14 hj24 hj34 tzM (by omega) rfl (by rfl) E_EV (by rfl) R_EV oneML zwq B_EV.size hL1 hL2 ?_
      intro v3_ w3 hG3 hgr3
      have hC3 := gC hgr3 B_EV (by omega)
      have hOwn3 := hG3.own
      have T3 := gB T_EV hgr3 (by omega)
      have H3 := gB H_EV hgr3 (by omega)
      have V3 := gB V_EV hgr3 (by omega)
      refine hK.out _ _ (by exact (H3).cell 0) (fun hHeld => ?_)
      clear hK K
      (try simp only [Act.put, qa_, qb_, qc_])
      refine rdx [11] ?_
      refine rcx (fun K hK => ?_) ?_
      ·refine GrowR.step (t := (tML ob w)) (by rfl) (.tmp 27) (.tmp 31) _ (by rfl) i4i _ 2 32 Tryz.underlying31 hj04 hj14 hj24 hj34 tzM (by omega) rfl (by rfl) hG3 (wq.heap.size + 1) [Value.int .i64 x, .slice AC nc cc] (x, bs) (by rfl) V3 NEWML (oneML (ob := ob) (u := w) (w := w) (B := 0) _ (x, bs) NEWML) zwq hC3.size hL3 hL4 ?_
       intro v4_ w4 hG4 hgr4
       obtain ⟨A9, n9, c9, rfl, -⟩ := hG4.shapeN
       have hC4 := gD hC3 hgr4 hOwn3 (Nat.le_refl _)
       have T4 := gO T3 hgr4 hOwn3 (by omega)
       have H4 := gO H3 hgr4 hOwn3 (by omega)
       have s_ := T4.cell 4
       have f_ := T4.frozen 4
       have T9 := T4.put 4 (.slice A9 n9 c9)
       have H9 := H4.far (p := ⟨ob, 4, none⟩) fsz (.slice A9 n9 c9)
       refine hK.out _ _ (by exact (H4).cell 0) (fun hHeld => ?_)
       clear hK K
       (try simp only [Act.put, qa_, qb_, qc_])
       refine tkx 12 (some 33) ?_
       refine tkx 13 (some 34) ?_
       refine rdx [14] ?_
       refine rcx (fun K hK => ?_) ?_
       ·go_simp
        refine hK.out _ _ (by exact (H9).cell 0) (fun hHeld => ?_)
        clear hK K
        (try simp only [Act.put, qa_, qb_, qc_])
        refine rex ?_ _
        go_wp2_with fail
        go_meet
        exact LF T9 hG4 hC4
       exact AllReadyH.nil
      exact AllReadyH.nil
     exact AllReadyH.nil
    exact AllReadyH.nil
   exact AllReadyH.nil
  refine rcx (fun K hK => ?_) ?_
  ·go_simp
   refine hK.out _ _ (by exact (H_).cell 0) (fun hHeld => ?_)
   clear hK K
   (try simp only [Act.put, qa_, qb_, qc_])
   refine rdx [1, 10] ?_
   refine rcx (fun K hK => ?_) ?_
   ·go_simp
    refine hK.out _ _ (by exact (H_E).cell 0) (fun hHeld => ?_)
    clear hK K
    (try simp only [Act.put, qa_, qb_, qc_])
    refine rdx [6, 10] ?_
    refine rcx (fun K hK => ?_) ?_
    ·refine GrowR.stepRow (by rfl) (.tmp 22) (.tmp 26) _ (by rfl) i4i _ 2 32 Tryz.underlying31 hj04 hj14 hj24 hj34 tzM (by omega) rfl (by rfl) E_E (by rfl) R_E oneML zwq B_E.size hL1 hL2 ?_
     intro v3_ w3 hG3 hgr3
     have hC3 := gC hgr3 B_E (by omega)
     have hOwn3 := hG3.own
     have T3 := gB T_E hgr3 (by omega)
     have H3 := gB H_E hgr3 (by omega)
     refine hK.out _ _ (by exact (H3).cell 0) (fun hHeld => ?_)
     clear hK K
     (try simp only [Act.put, qa_, qb_, qc_])
     refine rdx [10] ?_
     refine rcx (fun K hK => ?_) ?_
     ·go_simp
      refine hK.out _ _ (by exact (H3.alloc _).cell 0) (fun hHeld => ?_)
      clear hK K
      (try simp only [Act.put, qa_, qb_, qc_])
      refine rdx [11] ?_
      refine rcx (fun K hK => ?_) ?_
      ·refine GrowR.step (t := (tML ob w)) (by rfl) (.tmp 27) (.tmp 31) _ (by rfl) i4i _ 2 32 Tryz.underlying31 hj04 hj14 hj24 hj34 tzM (by omega) rfl (by rfl) (hG3.below (belx) (SZ1 hC3 |> Nat.le_trans zwq)) w3.heap.size [Value.int .i64 x, .slice AC nc cc] (x, bs) (by rfl) (Box.new w3 62 ([Value.int .i64 x, .slice AC nc cc].toArray)) NEWML (oneML (ob := ob) (u := w) (w := w) (B := 0) _ (x, bs) NEWML) zwq (bel_alloc hC3 _).size hL3 hL4 ?_
       intro v4_ w4 hG4 hgr4
       obtain ⟨A9, n9, c9, rfl, -⟩ := hG4.shapeN
       have hC4 := gD (bel_alloc hC3 _) hgr4 hOwn3 (Nat.le_refl _)
       have T4 := gO (T3.alloc _) hgr4 hOwn3 (by omega)
       have H4 := gO (H3.alloc _) hgr4 hOwn3 (by omega)
       have s_ := T4.cell 4
       have f_ := T4.frozen 4
       have T9 := T4.put 4 (.slice A9 n9 c9)
       have H9 := H4.far (p := ⟨ob, 4, none⟩) fsz (.slice A9 n9 c9)
       refine hK.out _ _ (by exact (H4).cell 0) (fun hHeld => ?_)
       clear hK K
       (try simp only [Act.put, qa_, qb_, qc_])
       refine tkx 12 (some 33) ?_
       refine tkx 13 (some 34) ?_
       refine rdx [14] ?_
       refine rcx (fun K hK => ?_) ?_
       ·go_simp
        refine hK.out _ _ (by exact (H9).cell 0) (fun hHeld => ?_)
        clear hK K
        (try simp only [Act.put, qa_, qb_, qc_])
        refine rex ?_ _
        go_wp2_with fail
        go_meet
        exact LF T9 hG4 hC4
       exact AllReadyH.nil
      exact AllReadyH.nil
     exact AllReadyH.nil
    refine rcx (fun K hK => ?_) ?_
    ·go_simp
     refine hK.out _ _ (by exact (H_EV).cell 0) (fun hHeld => ?_)
     clear hK K
     (try simp only [Act.put, qa_, qb_, qc_])
     refine rdx [6] ?_
     refine rcx (fun K hK => ?_) ?_
     ·refine GrowR.stepRow (by rfl) (.tmp 22) (.tmp 26) _ (by rfl) i4i _ 2 32 Tryz.underlying31 hj04 hj14 hj24 hj34 tzM (by omega) rfl (by rfl) E_EV (by rfl) R_EV oneML zwq B_EV.size hL1 hL2 ?_
      intro v3_ w3 hG3 hgr3
      have hC3 := gC hgr3 B_EV (by omega)
      have hOwn3 := hG3.own
      have T3 := gB T_EV hgr3 (by omega)
      have H3 := gB H_EV hgr3 (by omega)
      have V3 := gB V_EV hgr3 (by omega)
      refine hK.out _ _ (by exact (H3).cell 0) (fun hHeld => ?_)
      clear hK K
      (try simp only [Act.put, qa_, qb_, qc_])
      refine rdx [11] ?_
      refine rcx (fun K hK => ?_) ?_
      ·refine GrowR.step (t := (tML ob w)) (by rfl) (.tmp 27) (.tmp 31) _ (by rfl) i4i _ 2 32 Tryz.underlying31 hj04 hj14 hj24 hj34 tzM (by omega) rfl (by rfl) hG3 (wq.heap.size + 1) [Value.int .i64 x, .slice AC nc cc] (x, bs) (by rfl) V3 NEWML (oneML (ob := ob) (u := w) (w := w) (B := 0) _ (x, bs) NEWML) zwq hC3.size hL3 hL4 ?_
       intro v4_ w4 hG4 hgr4
       obtain ⟨A9, n9, c9, rfl, -⟩ := hG4.shapeN
       have hC4 := gD hC3 hgr4 hOwn3 (Nat.le_refl _)
       have T4 := gO T3 hgr4 hOwn3 (by omega)
       have H4 := gO H3 hgr4 hOwn3 (by omega)
       have s_ := T4.cell 4
       have f_ := T4.frozen 4
       have T9 := T4.put 4 (.slice A9 n9 c9)
       have H9 := H4.far (p := ⟨ob, 4, none⟩) fsz (.slice A9 n9 c9)
       refine hK.out _ _ (by exact (H4).cell 0) (fun hHeld => ?_)
       clear hK K
       (try simp only [Act.put, qa_, qb_, qc_])
       refine tkx 12 (some 33) ?_
       refine tkx 13 (some 34) ?_
       refine rdx [14] ?_
       refine rcx (fun K hK => ?_) ?_
       ·go_simp
        refine hK.out _ _ (by exact (H9).cell 0) (fun hHeld => ?_)
        clear hK K
        (try simp only [Act.put, qa_, qb_, qc_])
        refine rex ?_ _
        go_wp2_with fail
        go_meet
        exact LF T9 hG4 hC4
       exact AllReadyH.nil
      exact AllReadyH.nil
     exact AllReadyH.nil
    exact AllReadyH.nil
   refine rcx (fun K hK => ?_) ?_
   ·go_simp
    refine hK.out _ _ (by exact (H_V).cell 0) (fun hHeld => ?_)
    clear hK K
    (try simp only [Act.put, qa_, qb_, qc_])
    refine rdx [1] ?_
    refine rcx (fun K hK => ?_) ?_
    ·go_simp
     refine hK.out _ _ (by exact (H_VE).cell 0) (fun hHeld => ?_)
     clear hK K
     (try simp only [Act.put, qa_, qb_, qc_])
     refine rdx [6] ?_
     refine rcx (fun K hK => ?_) ?_
     ·refine GrowR.stepRow (by rfl) (.tmp 22) (.tmp 26) _ (by rfl) i4i _ 2 32 Tryz.underlying31 hj04 hj14 hj24 hj34 tzM (by omega) rfl (by rfl) E_VE (by rfl) R_VE oneML zwq B_VE.size hL1 hL2 ?_
      intro v3_ w3 hG3 hgr3
      have hC3 := gC hgr3 B_VE (by omega)
      have hOwn3 := hG3.own
      have T3 := gB T_VE hgr3 (by omega)
      have H3 := gB H_VE hgr3 (by omega)
      have V3 := gB V_VE hgr3 (by omega)
      refine hK.out _ _ (by exact (H3).cell 0) (fun hHeld => ?_)
      clear hK K
      (try simp only [Act.put, qa_, qb_, qc_])
      refine rdx [11] ?_
      refine rcx (fun K hK => ?_) ?_
      ·refine GrowR.step (t := (tML ob w)) (by rfl) (.tmp 27) (.tmp 31) _ (by rfl) i4i _ 2 32 Tryz.underlying31 hj04 hj14 hj24 hj34 tzM (by omega) rfl (by rfl) hG3 (wq.heap.size) [Value.int .i64 x, .slice AC nc cc] (x, bs) (by rfl) V3 NEWML (oneML (ob := ob) (u := w) (w := w) (B := 0) _ (x, bs) NEWML) zwq hC3.size hL3 hL4 ?_
       intro v4_ w4 hG4 hgr4
       obtain ⟨A9, n9, c9, rfl, -⟩ := hG4.shapeN
       have hC4 := gD hC3 hgr4 hOwn3 (Nat.le_refl _)
       have T4 := gO T3 hgr4 hOwn3 (by omega)
       have H4 := gO H3 hgr4 hOwn3 (by omega)
       have s_ := T4.cell 4
       have f_ := T4.frozen 4
       have T9 := T4.put 4 (.slice A9 n9 c9)
       have H9 := H4.far (p := ⟨ob, 4, none⟩) fsz (.slice A9 n9 c9)
       refine hK.out _ _ (by exact (H4).cell 0) (fun hHeld => ?_)
       clear hK K
       (try simp only [Act.put, qa_, qb_, qc_])
       refine tkx 12 (some 33) ?_
       refine tkx 13 (some 34) ?_
       refine rdx [14] ?_
       refine rcx (fun K hK => ?_) ?_
       ·go_simp
        refine hK.out _ _ (by exact (H9).cell 0) (fun hHeld => ?_)
        clear hK K
        (try simp only [Act.put, qa_, qb_, qc_])
        refine rex ?_ _
        go_wp2_with fail
        go_meet
        exact LF T9 hG4 hC4
       exact AllReadyH.nil
      exact AllReadyH.nil
     exact AllReadyH.nil
    exact AllReadyH.nil
   exact AllReadyH.nil
  refine rcx (fun K hK => ?_) ?_
  ·go_simp
   refine hK.out _ _ (by exact (H_V).cell 0) (fun hHeld => ?_)
   clear hK K
   (try simp only [Act.put, qa_, qb_, qc_])
   refine rdx [1, 5] ?_
   refine rcx (fun K hK => ?_) ?_
   ·go_simp
    refine hK.out _ _ (by exact (H_VE).cell 0) (fun hHeld => ?_)
    clear hK K
    (try simp only [Act.put, qa_, qb_, qc_])
    refine rdx [5] ?_
    refine rcx (fun K hK => ?_) ?_
    ·go_simp
     refine hK.out _ _ (by exact (H_VE).cell 0) (fun hHeld => ?_)
     clear hK K
     (try simp only [Act.put, qa_, qb_, qc_])
     refine rdx [6] ?_
     refine rcx (fun K hK => ?_) ?_
     ·refine GrowR.stepRow (by rfl) (.tmp 22) (.tmp 26) _ (by rfl) i4i _ 2 32 Tryz.underlying31 hj04 hj14 hj24 hj34 tzM (by omega) rfl (by rfl) E_VE (by rfl) R_VE oneML zwq B_VE.size hL1 hL2 ?_
      intro v3_ w3 hG3 hgr3
      have hC3 := gC hgr3 B_VE (by omega)
      have hOwn3 := hG3.own
      have T3 := gB T_VE hgr3 (by omega)
      have H3 := gB H_VE hgr3 (by omega)
      have V3 := gB V_VE hgr3 (by omega)
      refine hK.out _ _ (by exact (H3).cell 0) (fun hHeld => ?_)
      clear hK K
      (try simp only [Act.put, qa_, qb_, qc_])
      refine rdx [11] ?_
      refine rcx (fun K hK => ?_) ?_
      ·refine GrowR.step (t := (tML ob w)) (by rfl) (.tmp 27) (.tmp 31) _ (by rfl) i4i _ 2 32 Tryz.underlying31 hj04 hj14 hj24 hj34 tzM (by omega) rfl (by rfl) hG3 (wq.heap.size) [Value.int .i64 x, .slice AC nc cc] (x, bs) (by rfl) V3 NEWML (oneML (ob := ob) (u := w) (w := w) (B := 0) _ (x, bs) NEWML) zwq hC3.size hL3 hL4 ?_
       intro v4_ w4 hG4 hgr4
       obtain ⟨A9, n9, c9, rfl, -⟩ := hG4.shapeN
       have hC4 := gD hC3 hgr4 hOwn3 (Nat.le_refl _)
       have T4 := gO T3 hgr4 hOwn3 (by omega)
       have H4 := gO H3 hgr4 hOwn3 (by omega)
       have s_ := T4.cell 4
       have f_ := T4.frozen 4
       have T9 := T4.put 4 (.slice A9 n9 c9)
       have H9 := H4.far (p := ⟨ob, 4, none⟩) fsz (.slice A9 n9 c9)
       refine hK.out _ _ (by exact (H4).cell 0) (fun hHeld => ?_)
       clear hK K
       (try simp only [Act.put, qa_, qb_, qc_])
       refine tkx 12 (some 33) ?_
       refine tkx 13 (some 34) ?_
       refine rdx [14] ?_
       refine rcx (fun K hK => ?_) ?_
       ·go_simp
        refine hK.out _ _ (by exact (H9).cell 0) (fun hHeld => ?_)
        clear hK K
        (try simp only [Act.put, qa_, qb_, qc_])
        refine rex ?_ _
        go_wp2_with fail
        go_meet
        exact LF T9 hG4 hC4
       exact AllReadyH.nil
      exact AllReadyH.nil
     exact AllReadyH.nil
    exact AllReadyH.nil
   refine rcx (fun K hK => ?_) ?_
   ·go_simp
    refine hK.out _ _ (by exact (H_V).cell 0) (fun hHeld => ?_)
    clear hK K
    (try simp only [Act.put, qa_, qb_, qc_])
    refine rdx [1] ?_
    refine rcx (fun K hK => ?_) ?_
    ·go_simp
     refine hK.out _ _ (by exact (H_VE).cell 0) (fun hHeld => ?_)
     clear hK K
     (try simp only [Act.put, qa_, qb_, qc_])
     refine rdx [6] ?_
     refine rcx (fun K hK => ?_) ?_
     ·refine GrowR.stepRow (by rfl) (.tmp 22) (.tmp 26) _ (by rfl) i4i _ 2 32 Tryz.underlying31 hj04 hj14 hj24 hj34 tzM (by omega) rfl (by rfl) E_VE (by rfl) R_VE oneML zwq B_VE.size hL1 hL2 ?_
      intro v3_ w3 hG3 hgr3
      have hC3 := gC hgr3 B_VE (by omega)
      have hOwn3 := hG3.own
      have T3 := gB T_VE hgr3 (by omega)
      have H3 := gB H_VE hgr3 (by omega)
      have V3 := gB V_VE hgr3 (by omega)
      refine hK.out _ _ (by exact (H3).cell 0) (fun hHeld => ?_)
      clear hK K
      (try simp only [Act.put, qa_, qb_, qc_])
      refine rdx [11] ?_
      refine rcx (fun K hK => ?_) ?_
      ·refine GrowR.step (t := (tML ob w)) (by rfl) (.tmp 27) (.tmp 31) _ (by rfl) i4i _ 2 32 Tryz.underlying31 hj04 hj14 hj24 hj34 tzM (by omega) rfl (by rfl) hG3 (wq.heap.size) [Value.int .i64 x, .slice AC nc cc] (x, bs) (by rfl) V3 NEWML (oneML (ob := ob) (u := w) (w := w) (B := 0) _ (x, bs) NEWML) zwq hC3.size hL3 hL4 ?_
       intro v4_ w4 hG4 hgr4
       obtain ⟨A9, n9, c9, rfl, -⟩ := hG4.shapeN
       have hC4 := gD hC3 hgr4 hOwn3 (Nat.le_refl _)
       have T4 := gO T3 hgr4 hOwn3 (by omega)
       have H4 := gO H3 hgr4 hOwn3 (by omega)
       have s_ := T4.cell 4
       have f_ := T4.frozen 4
       have T9 := T4.put 4 (.slice A9 n9 c9)
       have H9 := H4.far (p := ⟨ob, 4, none⟩) fsz (.slice A9 n9 c9)
       refine hK.out _ _ (by exact (H4).cell 0) (fun hHeld => ?_)
       clear hK K
       (try simp only [Act.put, qa_, qb_, qc_])
       refine tkx 12 (some 33) ?_
       refine tkx 13 (some 34) ?_
       refine rdx [14] ?_
       refine rcx (fun K hK => ?_) ?_
       ·go_simp
        refine hK.out _ _ (by exact (H9).cell 0) (fun hHeld => ?_)
        clear hK K
        (try simp only [Act.put, qa_, qb_, qc_])
        refine rex ?_ _
        go_wp2_with fail
        go_meet
        exact LF T9 hG4 hC4
       exact AllReadyH.nil
      exact AllReadyH.nil
     exact AllReadyH.nil
    exact AllReadyH.nil
   exact AllReadyH.nil
  exact AllReadyH.nil
 case rest =>
 clear Tq Hq AQ hOB zwq zwq1
 obtain ⟨A7, n7, c7, Tq, hGM, AQ, hOB, zwq⟩ := hcut
 have zob := Tq.size
 have k0 := Tq.cell 0; have k6 := Tq.cell 6
 go_wp2_with fail
 obtain ⟨wq, hwq⟩ : ∃ wq, wc = wq := ⟨_, rfl⟩
 rw [hwq] at Tq hGM AQ hOB zwq zob ⊢
 clear k0 k6
 go_cut [] (fun wx => ∃ (A8 : Option Addr) (n8 c8 : Nat), Box wx ob 35 #[.int .i64 d.1, .int .i64 d.2.1, .int .i64 d.2.2.1, v3, .slice A7 n7 c7, v5, .slice A8 n8 c8] ∧ GrowR (tML ob w) 62 wx w.heap.size 0 (.slice A7 n7 c7) (d.2.2.2.2.1 ++ [(x, bs)]) ∧ GrowR tGL 113 wx w.heap.size 0 (.slice A8 n8 c8) (d.2.2.2.2.2.2 ++ [(d.1, x)]) ∧ Alike (KO ob) w.heap.size w wx ∧ Below ob w wx ∧ w.heap.size ≤ wx.heap.size)
 case first =>
  have T_ : Box wq ob 35 #[.int .i64 d.1, .int .i64 d.2.1, .int .i64 d.2.2.1, v3, .slice A7 n7 c7, v5, .slice A6 n6 c6] := Tq
  have l_ := T_.cell 6
  have T_E : Box (wq.alloc (.cells #[] 113)) ob 35 #[.int .i64 d.1, .int .i64 d.2.1, .int .i64 d.2.2.1, v3, .slice A7 n7 c7, v5, .slice A6 n6 c6] := (Tq.alloc _)
  have l_E := T_E.cell 6
  have T_V : Box (wq.alloc (.cells ([Value.int .i64 d.1, .int .i64 x].toArray) 113)) ob 35 #[.int .i64 d.1, .int .i64 d.2.1, .int .i64 d.2.2.1, v3, .slice A7 n7 c7, v5, .slice A6 n6 c6] := (Tq.alloc _)
  have l_V := T_V.cell 6
  have V_V : Box (wq.alloc (.cells ([Value.int .i64 d.1, .int .i64 x].toArray) 113)) (wq.heap.size) 113 ([Value.int .i64 d.1, .int .i64 x].toArray) := (by simpa using Box.new wq 113 ([Value.int .i64 d.1, .int .i64 x].toArray))
  have T_EV : Box ((wq.alloc (.cells #[] 113)).alloc (.cells ([Value.int .i64 d.1, .int .i64 x].toArray) 113)) ob 35 #[.int .i64 d.1, .int .i64 d.2.1, .int .i64 d.2.2.1, v3, .slice A7 n7 c7, v5, .slice A6 n6 c6] := ((Tq.alloc _).alloc _)
  have l_EV := T_EV.cell 6
  have V_EV : Box ((wq.alloc (.cells #[] 113)).alloc (.cells ([Value.int .i64 d.1, .int .i64 x].toArray) 113)) (wq.heap.size + 1) 113 ([Value.int .i64 d.1, .int .i64 x].toArray) := (by simpa using Box.new (wq.alloc (.cells #[] 113)) 113 ([Value.int .i64 d.1, .int .i64 x].toArray))
  have T_VE : Box ((wq.alloc (.cells ([Value.int .i64 d.1, .int .i64 x].toArray) 113)).alloc (.cells #[] 113)) ob 35 #[.int .i64 d.1, .int .i64 d.2.1, .int .i64 d.2.2.1, v3, .slice A7 n7 c7, v5, .slice A6 n6 c6] := ((Tq.alloc _).alloc _)
  have l_VE := T_VE.cell 6
  have V_VE : Box ((wq.alloc (.cells ([Value.int .i64 d.1, .int .i64 x].toArray) 113)).alloc (.cells #[] 113)) (wq.heap.size) 113 ([Value.int .i64 d.1, .int .i64 x].toArray) := (Box.alloc (show Box (wq.alloc (.cells ([Value.int .i64 d.1, .int .i64 x].toArray) 113)) (wq.heap.size) 113 ([Value.int .i64 d.1, .int .i64 x].toArray) from (by simpa using Box.new wq 113 ([Value.int .i64 d.1, .int .i64 x].toArray))) _)
  have B_E : Bel wq ((wq.alloc (.cells #[] 113)).drew) := (belx)
  have E_E : GrowR tGL 113 ((wq.alloc (.cells #[] 113)).drew) wq.heap.size w.heap.size (.slice (some ⟨wq.heap.size, 0, none⟩) 0 0) [] := GrowR.drew (by simpa using (GrowR.empty (t := tGL) (e := 113) (w := wq) (base := wq.heap.size) (B := w.heap.size) lez)) (by first | (simp; omega) | omega)
  have R_E := R6 _ (AQ.trans (Alike.below (B_E.mono zwq)))
  have B_EV : Bel wq (((wq.alloc (.cells #[] 113)).alloc (.cells ([Value.int .i64 d.1, .int .i64 x].toArray) 113)).drew) := (belx)
  have E_EV : GrowR tGL 113 (((wq.alloc (.cells #[] 113)).alloc (.cells ([Value.int .i64 d.1, .int .i64 x].toArray) 113)).drew) wq.heap.size w.heap.size (.slice (some ⟨wq.heap.size, 0, none⟩) 0 0) [] := GrowR.drew (GrowR.below (by simpa using (GrowR.empty (t := tGL) (e := 113) (w := wq) (base := wq.heap.size) (B := w.heap.size) lez)) (belx) (by simp; omega)) (by first | (simp; omega) | omega)
  have R_EV := R6 _ (AQ.trans (Alike.below (B_EV.mono zwq)))
  have B_VE : Bel wq (((wq.alloc (.cells ([Value.int .i64 d.1, .int .i64 x].toArray) 113)).alloc (.cells #[] 113)).drew) := (belx)
  have E_VE : GrowR tGL 113 (((wq.alloc (.cells ([Value.int .i64 d.1, .int .i64 x].toArray) 113)).alloc (.cells #[] 113)).drew) wq.heap.size w.heap.size (.slice (some ⟨wq.heap.size + 1, 0, none⟩) 0 0) [] := GrowR.drew (by simpa using (GrowR.empty (t := tGL) (e := 113) (w := (wq.alloc (.cells ([Value.int .i64 d.1, .int .i64 x].toArray) 113))) (base := wq.heap.size) (B := w.heap.size) lez)) (by first | (simp; omega) | omega)
  have R_VE := R6 _ (AQ.trans (Alike.below (B_VE.mono zwq)))
  have SZ1 : ∀ {X : World}, Bel wq X → wq.heap.size ≤ X.heap.size := fun h => h.size
  have hL1 : ([] : List DGlance).length + n6 ≤ maxLen := by simp only [maxLen, List.length_nil]; omega
  have hL2 : (([] : List DGlance).length + n6) * 16 ≤ 140737488355328 := by simp only [List.length_nil]; omega
  have hL3 : ([] ++ d.2.2.2.2.2.2).length + 1 ≤ maxLen := by have := HEGL.out; simp only [maxLen, List.nil_append]; omega
  have hL4 : (([] ++ d.2.2.2.2.2.2).length + 1) * 16 ≤ 140737488355328 := by have := HEGL.out; simp only [List.nil_append]; omega
  have LF : ∀ {A9 : Option Addr} {n9 c9 : Nat} {w4 : World}, Box (w4.setCell ⟨ob, 6, none⟩ (.slice A9 n9 c9)) ob 35 #[.int .i64 d.1, .int .i64 d.2.1, .int .i64 d.2.2.1, v3, .slice A7 n7 c7, v5, .slice A9 n9 c9] → GrowR tGL 113 w4 wq.heap.size w.heap.size (.slice A9 n9 c9) (([] ++ d.2.2.2.2.2.2) ++ [(d.1, x)]) → Bel wq w4 → ∃ (A8 : Option Addr) (n8 c8 : Nat), Box (w4.setCell ⟨ob, 6, none⟩ (.slice A9 n9 c9)) ob 35 #[.int .i64 d.1, .int .i64 d.2.1, .int .i64 d.2.2.1, v3, .slice A7 n7 c7, v5, .slice A8 n8 c8] ∧ GrowR (tML ob w) 62 (w4.setCell ⟨ob, 6, none⟩ (.slice A9 n9 c9)) w.heap.size 0 (.slice A7 n7 c7) (d.2.2.2.2.1 ++ [(x, bs)]) ∧ GrowR tGL 113 (w4.setCell ⟨ob, 6, none⟩ (.slice A9 n9 c9)) w.heap.size 0 (.slice A8 n8 c8) (d.2.2.2.2.2.2 ++ [(d.1, x)]) ∧ Alike (KO ob) w.heap.size w (w4.setCell ⟨ob, 6, none⟩ (.slice A9 n9 c9)) ∧ Below ob w (w4.setCell ⟨ob, 6, none⟩ (.slice A9 n9 c9)) ∧ w.heap.size ≤ (w4.setCell ⟨ob, 6, none⟩ (.slice A9 n9 c9)).heap.size := fun {A9 n9 c9 w4} T9 hG4 hC4 => ⟨A9, n9, c9, T9, ((hGM.below hC4 (Nat.zero_le _)).putN (p := ⟨ob, 6, none⟩) (fun b hb => by have := (hGM.own b hb).1; show ¬ b = ob; omega) (Nat.zero_le _) _), ((growFix hG4).lower zwq).putN (p := ⟨ob, 6, none⟩) (fun b hb => by have := (hG4.own b hb).1; show ¬ b = ob; omega) (Nat.zero_le _) _, (AQ.trans (Alike.below (hC4.mono zwq))).trans (Alike.set w4 (KO.no ob) _), belP (hOB.trans (hC4.mono (by omega))) (Nat.le_refl _) _, by have := hC4.size; simp [World.setCell]; omega⟩
  refine wp_region_held_drew (S := (fun w' => w'.cell? ⟨ob, 0, none⟩ = some (.int .i64 d.1))) (by kernel_rfl) (by exact (T_).cell 0) (fun hHeld => ?_)
  refine tkx 0 (some 35) ?_
  refine tkx 2 (some 37) ?_
  refine tkx 3 (some 38) ?_
  refine tkx 4 (some 39) ?_
  refine tkx 7 (some 42) ?_
  refine tkx 8 (some 43) ?_
  refine tkx 9 (some 44) ?_
  refine tkx 10 (some 45) ?_
  refine tkx 11 (some 46) ?_
  refine tkx 12 (some 47) ?_
  refine rdx [1, 5, 13] ?_
  refine rcx (fun K hK => ?_) ?_
  ·go_simp
   refine hK.out _ _ (by exact (T_E).cell 0) (fun hHeld => ?_)
   clear hK K
   (try simp only [Act.put, qa_, qb_, qc_])
   refine rdx [5, 13] ?_
   refine rcx (fun K hK => ?_) ?_
   ·go_simp
    refine hK.out _ _ (by exact (T_E).cell 0) (fun hHeld => ?_)
    clear hK K
    (try simp only [Act.put, qa_, qb_, qc_])
    refine rdx [6, 13] ?_
    refine rcx (fun K hK => ?_) ?_
    ·refine GrowR.stepRow (by rfl) (.tmp 36) (.tmp 40) _ (by rfl) i6i _ 2 16 Tryz.underlying33 hj06 hj16 hj26 hj36 tzG (by omega) rfl (by rfl) E_E (by rfl) R_E oneGL zwq B_E.size hL1 hL2 ?_
     intro v3_ w3 hG3 hgr3
     have hC3 := gC hgr3 B_E (by omega)
     have hOwn3 := hG3.own
     have T3 := gB T_E hgr3 (by omega)
     refine hK.out _ _ (by exact (T3).cell 0) (fun hHeld => ?_)
     clear hK K
     (try simp only [Act.put, qa_, qb_, qc_])
     refine rdx [13] ?_
     refine rcx (fun K hK => ?_) ?_
     ·go_simp
      refine hK.out _ _ (by exact (T3.alloc _).cell 0) (fun hHeld => ?_)
      clear hK K
      (try simp only [Act.put, qa_, qb_, qc_])
      refine rdx [14] ?_
      refine rcx (fun K hK => ?_) ?_
      ·refine GrowR.step (t := tGL) (by rfl) (.tmp 41) (.tmp 48) _ (by rfl) i6i _ 2 16 Tryz.underlying33 hj06 hj16 hj26 hj36 tzG (by omega) rfl (by rfl) (hG3.below (belx) (SZ1 hC3 |> Nat.le_trans zwq)) w3.heap.size [Value.int .i64 d.1, .int .i64 x] (d.1, x) (by rfl) (Box.new w3 113 ([Value.int .i64 d.1, .int .i64 x].toArray)) NEWGL (oneGL (w := w) (B := 0) _ (d.1, x) NEWGL) zwq (bel_alloc hC3 _).size hL3 hL4 ?_
       intro v4_ w4 hG4 hgr4
       obtain ⟨A9, n9, c9, rfl, -⟩ := hG4.shapeN
       have hC4 := gD (bel_alloc hC3 _) hgr4 hOwn3 (Nat.le_refl _)
       have T4 := gO (T3.alloc _) hgr4 hOwn3 (by omega)
       have s_ := T4.cell 6
       have f_ := T4.frozen 6
       have T9 := T4.put 6 (.slice A9 n9 c9)
       refine hK.out _ _ (by exact (T4).cell 0) (fun hHeld => ?_)
       clear hK K
       (try simp only [Act.put, qa_, qb_, qc_])
       refine tkx 15 (some 50) ?_
       refine tkx 16 (some 51) ?_
       refine rdx [17] ?_
       refine rcx (fun K hK => ?_) ?_
       ·go_simp
        refine hK.out _ _ (by exact (T9).cell 0) (fun hHeld => ?_)
        clear hK K
        (try simp only [Act.put, qa_, qb_, qc_])
        refine rex ?_ _
        go_wp2_with fail
        go_meet
        exact LF T9 hG4 hC4
       exact AllReadyH.nil
      exact AllReadyH.nil
     exact AllReadyH.nil
    refine rcx (fun K hK => ?_) ?_
    ·go_simp
     refine hK.out _ _ (by exact (T_EV).cell 0) (fun hHeld => ?_)
     clear hK K
     (try simp only [Act.put, qa_, qb_, qc_])
     refine rdx [6] ?_
     refine rcx (fun K hK => ?_) ?_
     ·refine GrowR.stepRow (by rfl) (.tmp 36) (.tmp 40) _ (by rfl) i6i _ 2 16 Tryz.underlying33 hj06 hj16 hj26 hj36 tzG (by omega) rfl (by rfl) E_EV (by rfl) R_EV oneGL zwq B_EV.size hL1 hL2 ?_
      intro v3_ w3 hG3 hgr3
      have hC3 := gC hgr3 B_EV (by omega)
      have hOwn3 := hG3.own
      have T3 := gB T_EV hgr3 (by omega)
      have V3 := gB V_EV hgr3 (by omega)
      refine hK.out _ _ (by exact (T3).cell 0) (fun hHeld => ?_)
      clear hK K
      (try simp only [Act.put, qa_, qb_, qc_])
      refine rdx [14] ?_
      refine rcx (fun K hK => ?_) ?_
      ·refine GrowR.step (t := tGL) (by rfl) (.tmp 41) (.tmp 48) _ (by rfl) i6i _ 2 16 Tryz.underlying33 hj06 hj16 hj26 hj36 tzG (by omega) rfl (by rfl) hG3 (wq.heap.size + 1) [Value.int .i64 d.1, .int .i64 x] (d.1, x) (by rfl) V3 NEWGL (oneGL (w := w) (B := 0) _ (d.1, x) NEWGL) zwq hC3.size hL3 hL4 ?_
       intro v4_ w4 hG4 hgr4
       obtain ⟨A9, n9, c9, rfl, -⟩ := hG4.shapeN
       have hC4 := gD hC3 hgr4 hOwn3 (Nat.le_refl _)
       have T4 := gO T3 hgr4 hOwn3 (by omega)
       have s_ := T4.cell 6
       have f_ := T4.frozen 6
       have T9 := T4.put 6 (.slice A9 n9 c9)
       refine hK.out _ _ (by exact (T4).cell 0) (fun hHeld => ?_)
       clear hK K
       (try simp only [Act.put, qa_, qb_, qc_])
       refine tkx 15 (some 50) ?_
       refine tkx 16 (some 51) ?_
       refine rdx [17] ?_
       refine rcx (fun K hK => ?_) ?_
       ·go_simp
        refine hK.out _ _ (by exact (T9).cell 0) (fun hHeld => ?_)
        clear hK K
        (try simp only [Act.put, qa_, qb_, qc_])
        refine rex ?_ _
        go_wp2_with fail
        go_meet
        exact LF T9 hG4 hC4
       exact AllReadyH.nil
      exact AllReadyH.nil
     exact AllReadyH.nil
    exact AllReadyH.nil
   refine rcx (fun K hK => ?_) ?_
   ·go_simp
    refine hK.out _ _ (by exact (T_EV).cell 0) (fun hHeld => ?_)
    clear hK K
    (try simp only [Act.put, qa_, qb_, qc_])
    refine rdx [5] ?_
    refine rcx (fun K hK => ?_) ?_
    ·go_simp
     refine hK.out _ _ (by exact (T_EV).cell 0) (fun hHeld => ?_)
     clear hK K
     (try simp only [Act.put, qa_, qb_, qc_])
     refine rdx [6] ?_
     refine rcx (fun K hK => ?_) ?_
     ·refine GrowR.stepRow (by rfl) (.tmp 36) (.tmp 40) _ (by rfl) i6i _ 2 16 Tryz.underlying33 hj06 hj16 hj26 hj36 tzG (by omega) rfl (by rfl) E_EV (by rfl) R_EV oneGL zwq B_EV.size hL1 hL2 ?_
      intro v3_ w3 hG3 hgr3
      have hC3 := gC hgr3 B_EV (by omega)
      have hOwn3 := hG3.own
      have T3 := gB T_EV hgr3 (by omega)
      have V3 := gB V_EV hgr3 (by omega)
      refine hK.out _ _ (by exact (T3).cell 0) (fun hHeld => ?_)
      clear hK K
      (try simp only [Act.put, qa_, qb_, qc_])
      refine rdx [14] ?_
      refine rcx (fun K hK => ?_) ?_
      ·refine GrowR.step (t := tGL) (by rfl) (.tmp 41) (.tmp 48) _ (by rfl) i6i _ 2 16 Tryz.underlying33 hj06 hj16 hj26 hj36 tzG (by omega) rfl (by rfl) hG3 (wq.heap.size + 1) [Value.int .i64 d.1, .int .i64 x] (d.1, x) (by rfl) V3 NEWGL (oneGL (w := w) (B := 0) _ (d.1, x) NEWGL) zwq hC3.size hL3 hL4 ?_
       intro v4_ w4 hG4 hgr4
       obtain ⟨A9, n9, c9, rfl, -⟩ := hG4.shapeN
       have hC4 := gD hC3 hgr4 hOwn3 (Nat.le_refl _)
       have T4 := gO T3 hgr4 hOwn3 (by omega)
       have s_ := T4.cell 6
       have f_ := T4.frozen 6
       have T9 := T4.put 6 (.slice A9 n9 c9)
       refine hK.out _ _ (by exact (T4).cell 0) (fun hHeld => ?_)
       clear hK K
       (try simp only [Act.put, qa_, qb_, qc_])
       refine tkx 15 (some 50) ?_
       refine tkx 16 (some 51) ?_
       refine rdx [17] ?_
       refine rcx (fun K hK => ?_) ?_
       ·go_simp
        refine hK.out _ _ (by exact (T9).cell 0) (fun hHeld => ?_)
        clear hK K
        (try simp only [Act.put, qa_, qb_, qc_])
        refine rex ?_ _
        go_wp2_with fail
        go_meet
        exact LF T9 hG4 hC4
       exact AllReadyH.nil
      exact AllReadyH.nil
     exact AllReadyH.nil
    exact AllReadyH.nil
   exact AllReadyH.nil
  refine rcx (fun K hK => ?_) ?_
  ·go_simp
   refine hK.out _ _ (by exact (T_).cell 0) (fun hHeld => ?_)
   clear hK K
   (try simp only [Act.put, qa_, qb_, qc_])
   refine rdx [1, 13] ?_
   refine rcx (fun K hK => ?_) ?_
   ·go_simp
    refine hK.out _ _ (by exact (T_E).cell 0) (fun hHeld => ?_)
    clear hK K
    (try simp only [Act.put, qa_, qb_, qc_])
    refine rdx [6, 13] ?_
    refine rcx (fun K hK => ?_) ?_
    ·refine GrowR.stepRow (by rfl) (.tmp 36) (.tmp 40) _ (by rfl) i6i _ 2 16 Tryz.underlying33 hj06 hj16 hj26 hj36 tzG (by omega) rfl (by rfl) E_E (by rfl) R_E oneGL zwq B_E.size hL1 hL2 ?_
     intro v3_ w3 hG3 hgr3
     have hC3 := gC hgr3 B_E (by omega)
     have hOwn3 := hG3.own
     have T3 := gB T_E hgr3 (by omega)
     refine hK.out _ _ (by exact (T3).cell 0) (fun hHeld => ?_)
     clear hK K
     (try simp only [Act.put, qa_, qb_, qc_])
     refine rdx [13] ?_
     refine rcx (fun K hK => ?_) ?_
     ·go_simp
      refine hK.out _ _ (by exact (T3.alloc _).cell 0) (fun hHeld => ?_)
      clear hK K
      (try simp only [Act.put, qa_, qb_, qc_])
      refine rdx [14] ?_
      refine rcx (fun K hK => ?_) ?_
      ·refine GrowR.step (t := tGL) (by rfl) (.tmp 41) (.tmp 48) _ (by rfl) i6i _ 2 16 Tryz.underlying33 hj06 hj16 hj26 hj36 tzG (by omega) rfl (by rfl) (hG3.below (belx) (SZ1 hC3 |> Nat.le_trans zwq)) w3.heap.size [Value.int .i64 d.1, .int .i64 x] (d.1, x) (by rfl) (Box.new w3 113 ([Value.int .i64 d.1, .int .i64 x].toArray)) NEWGL (oneGL (w := w) (B := 0) _ (d.1, x) NEWGL) zwq (bel_alloc hC3 _).size hL3 hL4 ?_
       intro v4_ w4 hG4 hgr4
       obtain ⟨A9, n9, c9, rfl, -⟩ := hG4.shapeN
       have hC4 := gD (bel_alloc hC3 _) hgr4 hOwn3 (Nat.le_refl _)
       have T4 := gO (T3.alloc _) hgr4 hOwn3 (by omega)
       have s_ := T4.cell 6
       have f_ := T4.frozen 6
       have T9 := T4.put 6 (.slice A9 n9 c9)
       refine hK.out _ _ (by exact (T4).cell 0) (fun hHeld => ?_)
       clear hK K
       (try simp only [Act.put, qa_, qb_, qc_])
       refine tkx 15 (some 50) ?_
       refine tkx 16 (some 51) ?_
       refine rdx [17] ?_
       refine rcx (fun K hK => ?_) ?_
       ·go_simp
        refine hK.out _ _ (by exact (T9).cell 0) (fun hHeld => ?_)
        clear hK K
        (try simp only [Act.put, qa_, qb_, qc_])
        refine rex ?_ _
        go_wp2_with fail
        go_meet
        exact LF T9 hG4 hC4
       exact AllReadyH.nil
      exact AllReadyH.nil
     exact AllReadyH.nil
    refine rcx (fun K hK => ?_) ?_
    ·go_simp
     refine hK.out _ _ (by exact (T_EV).cell 0) (fun hHeld => ?_)
     clear hK K
     (try simp only [Act.put, qa_, qb_, qc_])
     refine rdx [6] ?_
     refine rcx (fun K hK => ?_) ?_
     ·refine GrowR.stepRow (by rfl) (.tmp 36) (.tmp 40) _ (by rfl) i6i _ 2 16 Tryz.underlying33 hj06 hj16 hj26 hj36 tzG (by omega) rfl (by rfl) E_EV (by rfl) R_EV oneGL zwq B_EV.size hL1 hL2 ?_
      intro v3_ w3 hG3 hgr3
      have hC3 := gC hgr3 B_EV (by omega)
      have hOwn3 := hG3.own
      have T3 := gB T_EV hgr3 (by omega)
      have V3 := gB V_EV hgr3 (by omega)
      refine hK.out _ _ (by exact (T3).cell 0) (fun hHeld => ?_)
      clear hK K
      (try simp only [Act.put, qa_, qb_, qc_])
      refine rdx [14] ?_
      refine rcx (fun K hK => ?_) ?_
      ·refine GrowR.step (t := tGL) (by rfl) (.tmp 41) (.tmp 48) _ (by rfl) i6i _ 2 16 Tryz.underlying33 hj06 hj16 hj26 hj36 tzG (by omega) rfl (by rfl) hG3 (wq.heap.size + 1) [Value.int .i64 d.1, .int .i64 x] (d.1, x) (by rfl) V3 NEWGL (oneGL (w := w) (B := 0) _ (d.1, x) NEWGL) zwq hC3.size hL3 hL4 ?_
       intro v4_ w4 hG4 hgr4
       obtain ⟨A9, n9, c9, rfl, -⟩ := hG4.shapeN
       have hC4 := gD hC3 hgr4 hOwn3 (Nat.le_refl _)
       have T4 := gO T3 hgr4 hOwn3 (by omega)
       have s_ := T4.cell 6
       have f_ := T4.frozen 6
       have T9 := T4.put 6 (.slice A9 n9 c9)
       refine hK.out _ _ (by exact (T4).cell 0) (fun hHeld => ?_)
       clear hK K
       (try simp only [Act.put, qa_, qb_, qc_])
       refine tkx 15 (some 50) ?_
       refine tkx 16 (some 51) ?_
       refine rdx [17] ?_
       refine rcx (fun K hK => ?_) ?_
       ·go_simp
        refine hK.out _ _ (by exact (T9).cell 0) (fun hHeld => ?_)
        clear hK K
        (try simp only [Act.put, qa_, qb_, qc_])
        refine rex ?_ _
        go_wp2_with fail
        go_meet
        exact LF T9 hG4 hC4
       exact AllReadyH.nil
      exact AllReadyH.nil
     exact AllReadyH.nil
    exact AllReadyH.nil
   refine rcx (fun K hK => ?_) ?_
   ·go_simp
    refine hK.out _ _ (by exact (T_V).cell 0) (fun hHeld => ?_)
    clear hK K
    (try simp only [Act.put, qa_, qb_, qc_])
    refine rdx [1] ?_
    refine rcx (fun K hK => ?_) ?_
    ·go_simp
     refine hK.out _ _ (by exact (T_VE).cell 0) (fun hHeld => ?_)
     clear hK K
     (try simp only [Act.put, qa_, qb_, qc_])
     refine rdx [6] ?_
     refine rcx (fun K hK => ?_) ?_
     ·refine GrowR.stepRow (by rfl) (.tmp 36) (.tmp 40) _ (by rfl) i6i _ 2 16 Tryz.underlying33 hj06 hj16 hj26 hj36 tzG (by omega) rfl (by rfl) E_VE (by rfl) R_VE oneGL zwq B_VE.size hL1 hL2 ?_
      intro v3_ w3 hG3 hgr3
      have hC3 := gC hgr3 B_VE (by omega)
      have hOwn3 := hG3.own
      have T3 := gB T_VE hgr3 (by omega)
      have V3 := gB V_VE hgr3 (by omega)
      refine hK.out _ _ (by exact (T3).cell 0) (fun hHeld => ?_)
      clear hK K
      (try simp only [Act.put, qa_, qb_, qc_])
      refine rdx [14] ?_
      refine rcx (fun K hK => ?_) ?_
      ·refine GrowR.step (t := tGL) (by rfl) (.tmp 41) (.tmp 48) _ (by rfl) i6i _ 2 16 Tryz.underlying33 hj06 hj16 hj26 hj36 tzG (by omega) rfl (by rfl) hG3 (wq.heap.size) [Value.int .i64 d.1, .int .i64 x] (d.1, x) (by rfl) V3 NEWGL (oneGL (w := w) (B := 0) _ (d.1, x) NEWGL) zwq hC3.size hL3 hL4 ?_
       intro v4_ w4 hG4 hgr4
       obtain ⟨A9, n9, c9, rfl, -⟩ := hG4.shapeN
       have hC4 := gD hC3 hgr4 hOwn3 (Nat.le_refl _)
       have T4 := gO T3 hgr4 hOwn3 (by omega)
       have s_ := T4.cell 6
       have f_ := T4.frozen 6
       have T9 := T4.put 6 (.slice A9 n9 c9)
       refine hK.out _ _ (by exact (T4).cell 0) (fun hHeld => ?_)
       clear hK K
       (try simp only [Act.put, qa_, qb_, qc_])
       refine tkx 15 (some 50) ?_
       refine tkx 16 (some 51) ?_
       refine rdx [17] ?_
       refine rcx (fun K hK => ?_) ?_
       ·go_simp
        refine hK.out _ _ (by exact (T9).cell 0) (fun hHeld => ?_)
        clear hK K
        (try simp only [Act.put, qa_, qb_, qc_])
        refine rex ?_ _
        go_wp2_with fail
        go_meet
        exact LF T9 hG4 hC4
       exact AllReadyH.nil
      exact AllReadyH.nil
     exact AllReadyH.nil
    exact AllReadyH.nil
   exact AllReadyH.nil
  refine rcx (fun K hK => ?_) ?_
  ·go_simp
   refine hK.out _ _ (by exact (T_V).cell 0) (fun hHeld => ?_)
   clear hK K
   (try simp only [Act.put, qa_, qb_, qc_])
   refine rdx [1, 5] ?_
   refine rcx (fun K hK => ?_) ?_
   ·go_simp
    refine hK.out _ _ (by exact (T_VE).cell 0) (fun hHeld => ?_)
    clear hK K
    (try simp only [Act.put, qa_, qb_, qc_])
    refine rdx [5] ?_
    refine rcx (fun K hK => ?_) ?_
    ·go_simp
     refine hK.out _ _ (by exact (T_VE).cell 0) (fun hHeld => ?_)
     clear hK K
     (try simp only [Act.put, qa_, qb_, qc_])
     refine rdx [6] ?_
     refine rcx (fun K hK => ?_) ?_
     ·refine GrowR.stepRow (by rfl) (.tmp 36) (.tmp 40) _ (by rfl) i6i _ 2 16 Tryz.underlying33 hj06 hj16 hj26 hj36 tzG (by omega) rfl (by rfl) E_VE (by rfl) R_VE oneGL zwq B_VE.size hL1 hL2 ?_
      intro v3_ w3 hG3 hgr3
      have hC3 := gC hgr3 B_VE (by omega)
      have hOwn3 := hG3.own
      have T3 := gB T_VE hgr3 (by omega)
      have V3 := gB V_VE hgr3 (by omega)
      refine hK.out _ _ (by exact (T3).cell 0) (fun hHeld => ?_)
      clear hK K
      (try simp only [Act.put, qa_, qb_, qc_])
      refine rdx [14] ?_
      refine rcx (fun K hK => ?_) ?_
      ·refine GrowR.step (t := tGL) (by rfl) (.tmp 41) (.tmp 48) _ (by rfl) i6i _ 2 16 Tryz.underlying33 hj06 hj16 hj26 hj36 tzG (by omega) rfl (by rfl) hG3 (wq.heap.size) [Value.int .i64 d.1, .int .i64 x] (d.1, x) (by rfl) V3 NEWGL (oneGL (w := w) (B := 0) _ (d.1, x) NEWGL) zwq hC3.size hL3 hL4 ?_
       intro v4_ w4 hG4 hgr4
       obtain ⟨A9, n9, c9, rfl, -⟩ := hG4.shapeN
       have hC4 := gD hC3 hgr4 hOwn3 (Nat.le_refl _)
       have T4 := gO T3 hgr4 hOwn3 (by omega)
       have s_ := T4.cell 6
       have f_ := T4.frozen 6
       have T9 := T4.put 6 (.slice A9 n9 c9)
       refine hK.out _ _ (by exact (T4).cell 0) (fun hHeld => ?_)
       clear hK K
       (try simp only [Act.put, qa_, qb_, qc_])
       refine tkx 15 (some 50) ?_
       refine tkx 16 (some 51) ?_
       refine rdx [17] ?_
       refine rcx (fun K hK => ?_) ?_
       ·go_simp
        refine hK.out _ _ (by exact (T9).cell 0) (fun hHeld => ?_)
        clear hK K
        (try simp only [Act.put, qa_, qb_, qc_])
        refine rex ?_ _
        go_wp2_with fail
        go_meet
        exact LF T9 hG4 hC4
       exact AllReadyH.nil
      exact AllReadyH.nil
     exact AllReadyH.nil
    exact AllReadyH.nil
   refine rcx (fun K hK => ?_) ?_
   ·go_simp
    refine hK.out _ _ (by exact (T_V).cell 0) (fun hHeld => ?_)
    clear hK K
    (try simp only [Act.put, qa_, qb_, qc_])
    refine rdx [1] ?_
    refine rcx (fun K hK => ?_) ?_
    ·go_simp
     refine hK.out _ _ (by exact (T_VE).cell 0) (fun hHeld => ?_)
     clear hK K
     (try simp only [Act.put, qa_, qb_, qc_])
     refine rdx [6] ?_
     refine rcx (fun K hK => ?_) ?_
     ·refine GrowR.stepRow (by rfl) (.tmp 36) (.tmp 40) _ (by rfl) i6i _ 2 16 Tryz.underlying33 hj06 hj16 hj26 hj36 tzG (by omega) rfl (by rfl) E_VE (by rfl) R_VE oneGL zwq B_VE.size hL1 hL2 ?_
      intro v3_ w3 hG3 hgr3
      have hC3 := gC hgr3 B_VE (by omega)
      have hOwn3 := hG3.own
      have T3 := gB T_VE hgr3 (by omega)
      have V3 := gB V_VE hgr3 (by omega)
      refine hK.out _ _ (by exact (T3).cell 0) (fun hHeld => ?_)
      clear hK K
      (try simp only [Act.put, qa_, qb_, qc_])
      refine rdx [14] ?_
      refine rcx (fun K hK => ?_) ?_
      ·refine GrowR.step (t := tGL) (by rfl) (.tmp 41) (.tmp 48) _ (by rfl) i6i _ 2 16 Tryz.underlying33 hj06 hj16 hj26 hj36 tzG (by omega) rfl (by rfl) hG3 (wq.heap.size) [Value.int .i64 d.1, .int .i64 x] (d.1, x) (by rfl) V3 NEWGL (oneGL (w := w) (B := 0) _ (d.1, x) NEWGL) zwq hC3.size hL3 hL4 ?_
       intro v4_ w4 hG4 hgr4
       obtain ⟨A9, n9, c9, rfl, -⟩ := hG4.shapeN
       have hC4 := gD hC3 hgr4 hOwn3 (Nat.le_refl _)
       have T4 := gO T3 hgr4 hOwn3 (by omega)
       have s_ := T4.cell 6
       have f_ := T4.frozen 6
       have T9 := T4.put 6 (.slice A9 n9 c9)
       refine hK.out _ _ (by exact (T4).cell 0) (fun hHeld => ?_)
       clear hK K
       (try simp only [Act.put, qa_, qb_, qc_])
       refine tkx 15 (some 50) ?_
       refine tkx 16 (some 51) ?_
       refine rdx [17] ?_
       refine rcx (fun K hK => ?_) ?_
       ·go_simp
        refine hK.out _ _ (by exact (T9).cell 0) (fun hHeld => ?_)
        clear hK K
        (try simp only [Act.put, qa_, qb_, qc_])
        refine rex ?_ _
        go_wp2_with fail
        go_meet
        exact LF T9 hG4 hC4
       exact AllReadyH.nil
      exact AllReadyH.nil
     exact AllReadyH.nil
    exact AllReadyH.nil
   exact AllReadyH.nil
  exact AllReadyH.nil
 case rest =>
 clear Tq hGM AQ hOB zwq
 obtain ⟨A8, n8, c8, T8, hGM, hGG, AQ, hOB, zwq⟩ := hcut
 go_wp2
 go_ret
 refine ⟨rfl, ⟨v3, v5, A7, A8, n7, c7, n8, c8, T8, xt_at g3 AQ zwq, ?_, xt_at g5 AQ zwq, xt_gl (hGG.doneX (Nat.zero_le _) (show ob + 1 ≤ w.heap.size by omega))⟩, hOB⟩
 exact rx_cast (s := tML ob w) rfl (fun es a hh => (firm_xt _ _).at (show (XT (KO ob) tMail).R w w.heap.size es a from hh) AQ zwq) (hGM.doneX (Nat.zero_le _) (show ob + 1 ≤ w.heap.size by omega))
set_option maxHeartbeats 1000000 in
theorem s_l7mail_f {w : World} {ob : Nat} {d : DNet} {x : Int} {AC : Option Addr} {nc cc : Nat} {bs : List Int} (h : NtX w ob d) (hl4 : d.2.2.2.2.1.length ≤ 1048576) (hl6 : d.2.2.2.2.2.2.length ≤ 1048576) (hr : ¬ Room d) :
  Calls Tryz.prog 23 #[.pointer (some ⟨ob, 0, none⟩), .int .i64 x, .agg #[.slice AC nc cc]] w fun e w' => e = .returned (.bool false) ∧ Bel w w' := by
 obtain ⟨v3, v5, A4, A6, n4, c4, n6, c6, X, -, g4, -, g6⟩ := h
 have e4 := (rx_len g4).1
 have e6 := (rowR_len (xt_R g6)).1
 have Tq : Box (w.alloc (.cells #[.slice AC nc cc] 56)) ob 35 #[.int .i64 d.1, .int .i64 d.2.1, .int .i64 d.2.2.1, v3, .slice A4 n4 c4, v5, .slice A6 n6 c6] := X.alloc _
 have k4 := Tq.cell 4; have k6 := Tq.cell 6
 by_cases h60 : 60 ≤ n4
 ·have l60 : (60 : Int) ≤ (n4 : Int) := by omega
  clear X g4 g6 Tq
  go_enter Tryz.func23, Tryz.ntmps23
  go_wp2
  go_ret
  exact ⟨rfl, (belx)⟩
 ·have l60 : ¬ (60 : Int) ≤ (n4 : Int) := by omega
  have l500 : (500 : Int) ≤ (n6 : Int) := by unfold Room at hr; omega
  clear X g4 g6 Tq
  go_enter Tryz.func23, Tryz.ntmps23
  go_wp2
  go_ret
  exact ⟨rfl, (belx)⟩
end Go.Proofs.YtkdanlnhdgcplaaGreat
