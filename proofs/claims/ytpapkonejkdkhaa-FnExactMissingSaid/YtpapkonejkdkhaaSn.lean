/-
  One element more behind a slice of the call's own: what the append leaves.
-/
import Derived.Test.YtpapkonejkdkhaaCell
namespace Go.Proofs.Ytpapkonejkdkhaa
open Go.RowKit

theorem wf_i64 {x : Int} (h1 : -9223372036854775808 ≤ x) (h2 : x ≤ 9223372036854775807) : (Lit.int .i64 x).wf = true := WalkArith.wf_i64 ⟨by omega, by omega⟩
theorem own_sn {k : IntKind} {e : TypeId} {w w1 : World} {base : Nat} {v v1 : Value} {l l' : List Int} {x : Int} (h : Own k e w base v l) (h1 : w1.ownsRow base e 1 v1 (l.length + 1) (l.map (Value.int k) ++ [.int k x])) (hl : l' = l ++ [x]) (hx : (Lit.int k x).wf = true) : Own k e w1 base v1 l' := by
  subst hl
  refine Own.of (n := l.length + 1) (by simpa using h1) fun y hy => ?_
  rcases List.mem_append.1 hy with h' | h'
  · exact h.2 y h'
  · rw [List.mem_singleton] at h'; rw [h']; exact hx
theorem below_sn {k : IntKind} {e : TypeId} {w wr w1 : World} {base : Nat} {v : Value} {l : List Int} {o : Obj} (hB : Below w.heap.size w wr) (h : Own k e wr base v l) (hb : w.heap.size ≤ base) (hg : (wr.alloc o).grownBy w1 v.ownBlock) : Below w.heap.size w w1 :=
  (hB.alloc hB.size o).grown hg (by simp; have := hB.size; omega) fun b hb' => by have := (h.1.lt b hb').1; omega
theorem box_sn {k : IntKind} {e : TypeId} {wr w1 : World} {base g : Nat} {t : TypeId} {cs : Array Value} {v : Value} {l : List Int} {o : Obj} (hX : Box wr g t cs) (h : Own k e wr base v l) (hb : g < base) (hg : (wr.alloc o).grownBy w1 v.ownBlock) : Box w1 g t cs :=
  (hX.alloc o).grown hg fun e => by have := (h.1.lt g e.symm).1; omega
end Go.Proofs.Ytpapkonejkdkhaa
