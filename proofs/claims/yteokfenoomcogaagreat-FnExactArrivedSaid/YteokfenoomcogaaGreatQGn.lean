/-
  PNode2, Hon, PWi: texts joined.
-/
import Derived.Test.YteokfenoomcogaaGreatQGh
import Derived.Test.YteokfenoomcogaaGreatQGi
import Derived.Test.YteokfenoomcogaaGreatQGj
import Derived.Test.YteokfenoomcogaaGreatQGk
import Derived.Test.YteokfenoomcogaaGreatQGm
import Derived.Test.YteokfenoomcogaaGreatQMPDeskT
import Derived.Test.YteokfenoomcogaaGreatQMPNodeI
import Derived.Test.YteokfenoomcogaaGreatQX0
import Derived.Deep.RegionHeld3
namespace Go.Proofs.YteokfenoomcogaaGreat
set_option maxRecDepth 100000
set_option linter.unusedVariables false
set_option linter.unusedSimpArgs false
open Go.ChangeShapes Go.WideShapes Go.ChangeAt Go.RowKit
noncomputable def fIds (p : DNode) : List Int := if NdOk p then p.2.2.2.1.2 else []
theorem fIds_t {p : DNode} (h : NdOk p) : fIds p = p.2.2.2.1.2 := if_pos h
theorem fIds_le (p : DNode) : (fIds p).length ≤ 256 := by
  unfold fIds
  split
  · rename_i h; exact asc_len h.2.2.2.1.2.2.1 h.2.2.2.1.2.1
  · simp
noncomputable def fLet (p : DNode) (x : Int) : List Int := if NdOk p then ((p.2.2.2.2.find? fun a => a.1 == x).map fun a => a.2).getD [] else []
noncomputable def fLetB (p : DNode) (x : Int) : Bool := decide (NdOk p) && p.2.2.2.2.any fun a => a.1 == x
theorem fLet_t {p : DNode} {x : Int} (h : NdOk p) : fLet p x = ((p.2.2.2.2.find? fun a => a.1 == x).map fun a => a.2).getD [] := if_pos h
theorem fLet_f {p : DNode} {x : Int} (h : ¬ NdOk p) : fLet p x = [] := if_neg h
theorem fLetB_f {p : DNode} {x : Int} (h : ¬ NdOk p) : fLetB p x = false := by unfold fLetB; rw [decide_eq_false h]; rfl
theorem fLetB_t {p : DNode} {x : Int} (h : NdOk p) : fLetB p x = p.2.2.2.2.any fun a => a.1 == x := by unfold fLetB; rw [decide_eq_true h]; rfl
/-- The first of a name: it stands at j, none of the name before it. -/
theorem let_hit {got : List DLetter} {x : Int} {j : Nat} {a : DLetter} (hn : ∀ c ∈ got.take j, c.1 ≠ x) (ha : got[j]? = some a) (hx : a.1 = x) : (got.find? fun a => a.1 == x) = some a ∧ (got.any fun a => a.1 == x) = true := by
  have e : got = got.take j ++ a :: got.drop (j + 1) := by
    have hj := (List.getElem?_eq_some_iff.1 ha).1
    conv => lhs; rw [← List.take_append_drop j got, List.drop_eq_getElem_cons hj]
    rw [(List.getElem?_eq_some_iff.1 ha).2]
  refine ⟨?_, List.any_eq_true.2 ⟨a, List.mem_of_getElem? ha, by simp [hx]⟩⟩
  rw [e, List.find?_append, List.find?_eq_none.2 (fun c hc => by simpa using hn c hc)]
  simp [hx]
theorem let_miss {got : List DLetter} {x : Int} (hn : ∀ c ∈ got, c.1 ≠ x) : (got.find? fun a => a.1 == x) = none ∧ (got.any fun a => a.1 == x) = false :=
  ⟨List.find?_eq_none.2 fun c hc => by simpa using hn c hc, List.any_eq_false.2 fun c hc => by simpa using hn c hc⟩
theorem empty6 (w : World) (t : TypeId) (base : Nat) (hb : base ≤ w.heap.size) : (w.alloc (.cells #[] t)).ownsRow base t 1 (.slice (some ⟨w.heap.size, 0, none⟩) 0 0) 0 [] :=
  ⟨rfl, .inr ⟨w.heap.size, 0, #[], rfl, hb, heap_alloc_new w _, Nat.le_refl _, by simp only [maxLen]; omega, rfl, rfl⟩⟩

end Go.Proofs.YteokfenoomcogaaGreat
namespace Go.Proofs.YteokfenoomcogaaGreat
set_option linter.unusedVariables false
open Fld
theorem nodup_key {α : Type} {f : α → Int} {l : List α} (h : (l.map f).Nodup) {a b : α} (ha : a ∈ l) (hb : b ∈ l) (e : f a = f b) : a = b := by
  induction l with
  | nil => simp at ha
  | cons c t ih =>
    rw [List.map_cons, List.nodup_cons] at h
    rcases List.mem_cons.1 ha with rfl | ha'
    · rcases List.mem_cons.1 hb with rfl | hb'
      · rfl
      · exact absurd (List.mem_map.2 ⟨b, hb', e.symm⟩) h.1
    · rcases List.mem_cons.1 hb with rfl | hb'
      · exact absurd (List.mem_map.2 ⟨a, ha', e⟩) h.1
      · exact ih h.2 ha' hb'
/-- What a node has got, each as it must have been sent. -/
def recv (p : DNode) : List DSent := p.2.2.2.2.map fun l => (l.1, p.1, l.2)
def hasS (l : List DSent) (s : DSent) : Bool := l.any fun a => decide (s = a)
def rcvd (nds : List DNode) (s : DSent) : Bool := match nds[s.2.1.toNat]? with
  | some nd => hasS (recv nd) s
  | none => false
noncomputable def fArr (p : DNet) (x : Int) : Bool := decide (NtOk p) && p.2.2.2.2.2.1.any fun s => decide (s.1 = x) && rcvd p.2.2.2.1 s
theorem fArr_t {p : DNet} {x : Int} (h : NtOk p) : fArr p x = p.2.2.2.2.2.1.any fun s => decide (s.1 = x) && rcvd p.2.2.2.1 s := by unfold fArr; rw [decide_eq_true h]; rfl
theorem fArr_f {p : DNet} {x : Int} (h : ¬ NtOk p) : fArr p x = false := by unfold fArr; rw [decide_eq_false h]; rfl
theorem rcvd_at {nds : List DNode} {s : DSent} {nd : DNode} (h : nds[s.2.1.toNat]? = some nd) : rcvd nds s = hasS (recv nd) s := by unfold rcvd; rw [h]
theorem arr_no {snt : List DSent} {nds : List DNode} {x : Int} (h : ∀ c ∈ snt, c.1 ≠ x) : (snt.any fun s => decide (s.1 = x) && rcvd nds s) = false := by
  rw [List.any_eq_false]
  intro c hc
  rw [decide_eq_false (h c hc)]
  simp
theorem recv_let {nd : DNode} {s : DSent} (hk : NdOk nd) (hid : nd.1 = s.2.1) : hasS (recv nd) s = (fLetB nd s.1 && decide (fLet nd s.1 = s.2.2)) := by
  rw [fLetB_t hk, fLet_t hk]
  have hn := hk.2.2.2.2.nodup hk.2.2.2.1.2.2.1
  unfold hasS recv
  rw [List.any_map]
  by_cases h : ∃ l ∈ nd.2.2.2.2, l.1 = s.1
  · obtain ⟨l, hl, e⟩ := h
    have h1 : (nd.2.2.2.2.any fun a => a.1 == s.1) = true := List.any_eq_true.2 ⟨l, hl, by simp [e]⟩
    obtain ⟨l', hf⟩ : ∃ l', (nd.2.2.2.2.find? fun a => a.1 == s.1) = some l' := by
      cases hh : nd.2.2.2.2.find? fun a => a.1 == s.1 with
      | some l' => exact ⟨l', rfl⟩
      | none => exact absurd (List.find?_eq_none.1 hh l hl) (by simp [e])
    have hl' := List.mem_of_find?_eq_some hf
    have he' : l'.1 = s.1 := by have := List.find?_some hf; simpa using this
    rw [h1, hf]
    rw [Bool.eq_iff_iff, List.any_eq_true]
    simp only [Bool.true_and, Option.map_some, Option.getD_some, decide_eq_true_eq, Function.comp]
    constructor
    · rintro ⟨c, hc, ec⟩
      have : c = l' := nodup_key hn hc hl' (by rw [he', ec])
      subst this
      rw [ec]
    · intro e2
      exact ⟨l', hl', by rw [he', hid, e2]⟩
  · have h1 : (nd.2.2.2.2.any fun a => a.1 == s.1) = false := by
      rw [List.any_eq_false]
      intro l hl
      simpa using fun e => h ⟨l, hl, e⟩
    rw [h1, Bool.false_and, List.any_eq_false]
    intro l hl
    simp only [Function.comp, decide_eq_true_eq]
    intro e
    exact h ⟨l, hl, by rw [e]⟩
theorem arr_at {p : DNet} {x : Int} {j : Nat} {a : DSent} {nd : DNode} (h : NtOk p) (ha : p.2.2.2.2.2.1[j]? = some a) (hx : a.1 = x) (hnd : p.2.2.2.1[a.2.1.toNat]? = some nd) :
    (p.2.2.2.2.2.1.any fun s => decide (s.1 = x) && rcvd p.2.2.2.1 s) = (fLetB nd x && decide (fLet nd x = a.2.2)) := by
  obtain ⟨-, -, hN, -, -, hS, hd⟩ := h
  have hs := hS a (List.mem_of_getElem? ha)
  obtain ⟨k1, k2, -⟩ := hN.2 _ _ hnd
  have hid : nd.1 = a.2.1 := by rw [k2]; have := hs.2.1.1; omega
  subst hx
  rw [← recv_let k1 hid, ← rcvd_at hnd, Bool.eq_iff_iff, List.any_eq_true]
  constructor
  · rintro ⟨c, hc, e⟩
    rw [Bool.and_eq_true, decide_eq_true_eq] at e
    have : c = a := nodup_key hd hc (List.mem_of_getElem? ha) e.1
    subst this
    exact e.2
  · intro e
    exact ⟨a, List.mem_of_getElem? ha, by simp [e]⟩
end Go.Proofs.YteokfenoomcogaaGreat
namespace Go.Proofs.YteokfenoomcogaaGreat
set_option maxRecDepth 100000
set_option linter.unusedVariables false
set_option linter.unusedSimpArgs false
open Go.ChangeShapes Go.WideShapes Go.ChangeAt Go.RowKit
open Fld
theorem i_within_t (x y : Int) (w : World) (h1 : 0 ≤ x) (h2 : x ≤ y) : Calls Tryz.prog 56 #[.int .i64 x, .int .i64 y] w fun e w' => e = .returned (.bool true) ∧ w = w' := by
  go_enter Tryz.func56, Tryz.ntmps56
  go_wp2
  go_ret
  exact ⟨by first | rfl | (simp; done) | (simp; omega), rfl⟩
theorem i_within_f (x y : Int) (w : World) (h : ¬ (0 ≤ x ∧ x ≤ y)) : Calls Tryz.prog 56 #[.int .i64 x, .int .i64 y] w fun e w' => e = .returned (.bool false) ∧ w = w' := by
  by_cases h1 : 0 ≤ x
  · have h2 : ¬ x ≤ y := fun h2 => h ⟨h1, h2⟩
    clear h
    go_enter Tryz.func56, Tryz.ntmps56
    go_wp2
    go_ret
    exact ⟨by first | rfl | (simp; done) | (simp; omega), rfl⟩
  · clear h
    go_enter Tryz.func56, Tryz.ntmps56
    go_wp2
    go_ret
    exact ⟨by first | rfl | (simp; done) | (simp; omega), rfl⟩
theorem i_nodeSecret (s i : Int) (w : World) (h1 : 0 ≤ s) (h2 : s ≤ 1000) (h3 : 0 ≤ i) (h4 : i ≤ 8) : Calls Tryz.prog 94 #[.int .i64 s, .int .i64 i] w fun e w' => e = .returned (.int .i64 (nsec s i)) ∧ w = w' := by
  have HN := Lib.hid (show nsec s i = 1 + (1009 * s + 7919 * i + 12345) % 1000000000 from rfl)
  go_enter Tryz.func94, Tryz.ntmps94
  go_wp2
  go_ret
  exact ⟨by first | (rw [HN.out]; done) | (rw [HN.out]; rfl) | (refine ret_int ?_; rw [HN.out]; omega), rfl⟩
end Go.Proofs.YteokfenoomcogaaGreat
