/-
  RdB: texts joined.
-/
import Derived.Test.YtblcfncjghkegaaPGn
import Derived.Test.YtblcfncjghkegaaPGv
namespace Go.Proofs.Ytblcfncjghkegaa
set_option linter.unusedVariables false
open Fld
section
variable {α : Type} {f : α → List Int} {k : Nat}
theorem flatK_len {l : List α} (h : ∀ a ∈ l, (f a).length = k) : (l.flatMap f).length = k * l.length := by
  induction l with
  | nil => simp
  | cons a l ih =>
    rw [List.flatMap_cons, List.length_append, h a List.mem_cons_self, ih (fun x hx => h x (List.mem_cons_of_mem _ hx)), List.length_cons, Nat.mul_succ]
    omega
theorem flat_drop {l : List α} (h : ∀ a ∈ l, (f a).length = k) : ∀ (j : Nat) (r : List Int), j ≤ l.length → (l.flatMap f ++ r).drop (k * j) = (l.drop j).flatMap f ++ r := by
  induction l with
  | nil => intro j r hj; have : j = 0 := by simpa using hj
           subst this; simp
  | cons a l ih =>
    intro j r hj
    cases j with
    | zero => simp
    | succ j =>
      rw [List.flatMap_cons, List.drop_succ_cons, Nat.mul_succ, Nat.add_comm, ← List.drop_drop, List.append_assoc, List.drop_left' (h a List.mem_cons_self)]
      exact ih (fun x hx => h x (List.mem_cons_of_mem _ hx)) j r (by simpa using hj)
theorem range_flat (l : List Int) (a : Nat) : ∀ n, a + k * n ≤ l.length → (List.range n).flatMap (fun j => (l.drop (a + k * j)).take k) = (l.drop a).take (k * n) := by
  intro n
  induction n with
  | zero => intro _; simp
  | succ n ih =>
    intro h
    rw [Nat.mul_succ] at h
    rw [List.range_succ, List.flatMap_append, ih (by omega), Nat.mul_succ, List.take_add, List.drop_drop]
    simp
end
theorem flat_congr {α : Type} {f g : α → List Int} {l : List α} (h : ∀ a ∈ l, f a = g a) : l.flatMap f = l.flatMap g := by
  induction l with
  | nil => rfl
  | cons a l ih => rw [List.flatMap_cons, List.flatMap_cons, h a List.mem_cons_self, ih (fun x hx => h x (List.mem_cons_of_mem _ hx))]
theorem heldOf_heldB {h : DHeld} (hh : HdOk h) (r : List Int) : heldOf (heldB h ++ r) = h := by
  obtain ⟨x, y, c⟩ := h
  obtain ⟨h1, h2, h3, h4, h5⟩ := hh
  unfold heldOf heldB
  show (x, y / 256 * 256 + y % 256, (c ++ r).take 80) = (x, y, c)
  rw [show y / 256 * 256 + y % 256 = y by omega, List.take_left' h5]
theorem heldB_heldOf {d : List Int} (hb : Bytes d) (hl : 83 ≤ d.length) : heldB (heldOf d) = d.take 83 := by
  match d, hl with
  | a :: b :: c :: r, hl =>
    have h2 := hb b (by simp)
    have h3 := hb c (by simp)
    show a :: (b * 256 + c) / 256 :: (b * 256 + c) % 256 :: (r.take 80) = a :: b :: c :: r.take 80
    rw [show (b * 256 + c) / 256 = b by omega, show (b * 256 + c) % 256 = c by omega]
theorem four_get4d {d : List Int} (hb : Bytes d) (hl : 4 ≤ d.length) : four (get4 d) = d.take 4 := by
  rw [← get4_take]
  exact four_get4 (hb.take 4) (by rw [List.length_take]; omega)
theorem plB_len {p : DPool} (h : PlOk p) : (plB p).length = 2 + 83 * p.1.length + 4 * p.2.length := by
  unfold plB
  rw [List.length_append, List.length_append, flatK_len (fun a ha => heldB_len (h.2.1 a ha)), flatK_len (fun a _ => four_len a)]
  simp
/-- What is read of a pool's bytes. -/
theorem rd_plB {p : DPool} (h : PlOk p) : RdOk (plB p) ∧ rdP (plB p) = p := by
  have h1 := h.1
  have hN : rdN (plB p) = p.1.length := by unfold rdN plB; simp
  have hM : rdM (plB p) = p.2.length := by unfold rdM plB; simp
  have hS : rdSz (plB p) = 2 + 83 * p.1.length + 4 * p.2.length := by unfold rdSz; rw [hN, hM]
  have hf : ∀ a ∈ p.1, (heldB a).length = 83 := fun a ha => heldB_len (h.2.1 a ha)
  have hd : ∀ j, j ≤ p.1.length → (plB p).drop (2 + 83 * j) = (p.1.drop j).flatMap heldB ++ p.2.flatMap four := fun j hj => by
    unfold plB
    rw [← List.drop_drop, List.append_assoc, show List.drop 2 ([(p.1.length : Int), (p.2.length : Int)] ++ (p.1.flatMap heldB ++ p.2.flatMap four)) = p.1.flatMap heldB ++ p.2.flatMap four from rfl]
    exact flat_drop hf j _ hj
  have hL : rdL (plB p) p.1.length = p.1 := by
    unfold rdL
    apply List.ext_getElem (by simp)
    intro i q1 q2
    rw [List.getElem_map, List.getElem_range, hd i (by omega), List.drop_eq_getElem_cons q2, List.flatMap_cons, List.append_assoc]
    exact heldOf_heldB (h.2.1 _ (List.getElem_mem _)) _
  have hT : rdT (plB p) p.1.length p.2.length = p.2 := by
    unfold rdT
    apply List.ext_getElem (by simp)
    intro i q1 q2
    rw [List.getElem_map, List.getElem_range, ← List.drop_drop, hd _ (Nat.le_refl _), List.drop_length, List.flatMap_nil, List.nil_append]
    have h4 := flat_drop (f := four) (k := 4) (l := p.2) (fun a _ => four_len a) i [] (by omega)
    rw [List.append_nil, List.append_nil] at h4
    have hx := h.2.2.1 _ (List.getElem_mem q2)
    have hx1 := hx.1
    have hx2 := hx.2
    rw [h4, List.drop_eq_getElem_cons q2, List.flatMap_cons, get4_app _ _ (four_len _), get4_four (by omega)]
  have hP : rdP (plB p) = p := by unfold rdP; rw [hN, hM, hL, hT]
  exact ⟨⟨⟨by rw [plB_len h]; omega, by rw [plB_len h, hS]⟩, by rw [hP]; exact h⟩, hP⟩
/-- What is read as a pool is just its bytes. -/
theorem plB_rd {b : List Int} (hb : Bytes b) (h : RdOk b) : plB (rdP b) = b := by
  obtain ⟨⟨h2, hs⟩, hp⟩ := h
  have b0 := hb.at_ 0
  have b1 := hb.at_ 1
  obtain ⟨N, hN⟩ : ∃ N, rdN b = N := ⟨_, rfl⟩
  obtain ⟨M, hM⟩ : ∃ M, rdM b = M := ⟨_, rfl⟩
  have e0 : b.getD 0 0 = (N : Int) := by rw [← hN]; unfold rdN; omega
  have e1 : b.getD 1 0 = (M : Int) := by rw [← hM]; unfold rdM; omega
  have hs' : b.length = 2 + 83 * N + 4 * M := by rw [hs]; unfold rdSz; rw [hN, hM]
  unfold plB rdP
  rw [hN, hM]
  show [((rdL b N).length : Int), ((rdT b N M).length : Int)] ++ (rdL b N).flatMap heldB ++ (rdT b N M).flatMap four = b
  rw [rdL_len, rdT_len]
  have eL : (rdL b N).flatMap heldB = (b.drop 2).take (83 * N) := by
    rw [← range_flat (k := 83) b 2 N (by omega)]
    unfold rdL
    rw [List.flatMap_map]
    refine flat_congr fun j hj => ?_
    have := List.mem_range.1 hj
    exact heldB_heldOf (hb.drop _) (by rw [List.length_drop]; omega)
  have eT : (rdT b N M).flatMap four = (b.drop (2 + 83 * N)).take (4 * M) := by
    rw [← range_flat (k := 4) b (2 + 83 * N) M (by omega)]
    unfold rdT
    rw [List.flatMap_map]
    refine flat_congr fun j hj => ?_
    have := List.mem_range.1 hj
    exact four_get4d (hb.drop _) (by rw [List.length_drop]; omega)
  have eH : b.take 2 = [(N : Int), (M : Int)] := by
    apply List.ext_getElem (by simp; omega)
    intro i q1 q2
    rw [List.getElem_take]
    rcases i with _ | _ | i
    · rw [getD_lt (by omega)] at e0; simpa using e0
    · rw [getD_lt (by omega)] at e1; simpa using e1
    · simp at q2; omega
  rw [eL, eT, ← eH, List.append_assoc, ← List.drop_drop]
  have e3 : (List.drop (83 * N) (List.drop 2 b)).take (4 * M) = List.drop (83 * N) (List.drop 2 b) := List.take_of_length_le (by rw [List.length_drop, List.length_drop]; omega)
  rw [e3, List.take_append_drop, List.take_append_drop]
end Go.Proofs.Ytblcfncjghkegaa
