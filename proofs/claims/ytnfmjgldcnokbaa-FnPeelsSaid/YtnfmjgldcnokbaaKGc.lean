/-
  Round: texts joined.
-/
import Derived.CallsIn
import Derived.RangeFuncCalls
import Derived.StillTactics
import Derived.StillTail
namespace Go.Proofs.Ytnfmjgldcnokbaa

def isDefer (o : Oper) : Bool := match o.op with | .defer _ => true | _ => false
theorem not_defer {o : Oper} (h : isDefer o = false) : ∀ c, o.op ≠ .defer c := fun c e => by simp [isDefer, e] at h

/-- What one operation does is the same in a round: where it is no defer statement. -/
theorem oper_in_round {P : Program} {o : Oper} {a : Act} {w : World} {K K' : Act → World → Prop} {Q : Exit → Act → World → Prop} (l m : Nat) (hd : isDefer o = false) (hK : ∀ a w, K a w → K' a w) (h : o.wp P a w K Q) :
    o.wpIn (Fence.wide.inRound l) m P a w K' Q := by
  refine ⟨fun _ _ => trivial, ?_⟩
  rw [Oper.semAt_eq _ _ _ (not_defer hd)]
  unfold Oper.wp at h
  generalize (execOp a.eval o).run P w = r at h
  match r, h with
  | .ok (.value v) w', h => exact hK _ _ h
  | .ok .skip w', h => exact hK _ _ h
  | .ok (.defer d) w', h => exact hK _ _ h
  | .ok (.enter f args) w', h =>
    refine ⟨(fun hh => by cases hh), ?_⟩
    have h2 : Calls P f args w' fun | .returned v, w'' => K' (a.put o.dst v) w'' | .panicked chain, w'' => Q (.panic chain) a w'' | .outgrown, _ => LetsOut Q :=
      Calls.mono h (fun e w'' he => by cases e <;> first | exact hK _ _ he | exact he)
    exact CallsIn.inRound l (callsIn_wide.2 h2)
  | .ok (.row row args) w', h =>
    refine ⟨(fun hh => by cases hh), fun c cs _ => ?_⟩
    obtain ⟨v, w'', r, s⟩ := h c cs
    exact ⟨v, w'', hK _ _ r, stepsIn_wide.2 s⟩
  | .halt (.panic v) w', h => exact h

theorem opsIn_of {P : Program} {ops : Array Oper} {Q : Exit → Act → World → Prop} (l m : Nat) (hd : ops.all (fun o => !isDefer o) = true) (hQ : ¬ LetsOut Q) :
    ∀ (list : List Nat) (a : Act) (w : World), wpOps P ops Q list a w → wpOpsIn (Fence.wide.inRound l) m P ops Q list a w
  | [], _, _, h => h
  | i :: rest, a, w, h => by
    simp only [wpOps] at h
    simp only [wpOpsIn]
    cases ho : ops[i]? with
    | none =>
      simp only [ho] at h
      exact opsIn_of l m hd hQ rest a w h
    | some o =>
      simp only [ho] at h
      have hod : isDefer o = false := by
        obtain ⟨hi, e⟩ := Array.getElem?_eq_some_iff.1 ho
        have := Array.all_eq_true.1 hd i hi
        rw [e] at this
        simpa using this
      by_cases hw : Region.wanted o (yielded ops a.tmps) = true
      · simp only [hw, if_true] at h ⊢
        rcases h with h | ⟨_, h⟩
        · exact oper_in_round l m hod (fun a w => opsIn_of l m hd hQ rest a w) h
        · exact absurd h hQ
      · simp only [hw] at h ⊢
        exact ⟨fun _ _ => trivial, opsIn_of l m hd hQ rest _ w h⟩

theorem any_in_round {P : Program} {ops : Array Oper} {Q : Exit → Act → World → Prop} {id : Nat} {a : Act} {w : World} (l m : Nat) (hd : ops.all (fun o => !isDefer o) = true) (hQ : ¬ LetsOut Q) (hm : P.follows .mixedOrders = true)
    (h : wpAny P .any ops Q ops.size (Array.replicate ops.size false) a w.drew) : (Code.region id ops true).wpIn (Fence.wide.inRound l) m P Q a w :=
  wpIn_region_draw fun t => by
    simp only [Region.schedule, hm, Bool.true_or, if_true]
    exact opsIn_of l m hd hQ _ _ _ (wpAny_sound ops.size t _ a _ h)

/-- The first n operations only read, in whatever order; the others follow in one order. -/
theorem still_tail_in_round {P : Program} {id : Nat} {Q : Exit → Act → World → Prop} {a : Act} {w : World} {ol : List Oper} (n l m : Nat) (hm : P.follows .mixedOrders = true) (hB : Region.lexTailB .any ol.toArray n = true)
    (hd : ol.toArray.all (fun o => !isDefer o) = true) (hQ : ¬ LetsOut Q)
    (h : wpStill P ol.toArray w.drew (fun a' => wpList P ol.toArray Q (ol.drop n) a' w.drew) (ol.take n) a) : (Code.region id ol.toArray true).wpIn (Fence.wide.inRound l) m P Q a w := by
  refine any_in_round l m hd hQ hm ?_
  have hB' := hB
  unfold Region.lexTailB at hB'
  simp only [Bool.and_eq_true, decide_eq_true_eq] at hB'
  have hsz : n < ol.length := by simpa using hB'.1.1.1.2
  have hlen : (ol.take n).length = n := by rw [List.length_take]; omega
  have hrest : (ol.drop n).length = ol.toArray.size - n := by simp
  have hstart : HeadInv .any ol.toArray n (Array.replicate ol.toArray.size false) :=
    { size := by simp
      closed := fun j oj _ hj => by rw [getD_replicate_false] at hj; cases hj
      tail := fun t _ ht => getD_in (by simpa using ht) (getD_replicate_false _ _) }
  have hL := wpAnyL_lex (md := .any) (g := ol.toArray.size - n) hB'.1.1.1.1 hB'.1.1.2 hB'.1.2 hB'.1.1.1.2 (ol.take n) 0 _ a
    (fun j hj => by simp [show j < n from by rw [hlen] at hj; exact hj]) (by simpa using hlen) hstart (by rw [hlen]; exact hB'.2) h
  have hA := wpAny_of_head (Q' := Q) (g := ol.toArray.size - n) (fun listed a' hs => by
    have := wpAny_of_seq (md := .any) (Q' := Q) (ol.drop n) n listed a' w.drew (fun j => by simp [List.getElem?_drop]) (by rw [hrest]; exact hs.1) hs.2
    rwa [hrest] at this) _ _ _ hL
  rwa [hlen, show n + (ol.toArray.size - n) = ol.toArray.size from by omega] at hA
end Go.Proofs.Ytnfmjgldcnokbaa
