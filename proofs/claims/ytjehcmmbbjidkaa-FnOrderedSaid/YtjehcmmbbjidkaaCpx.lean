/-
  Counting with complex numbers: the bits of the small counts, as floating-point addition gives them.
-/
import Derived.Laws.ComplexArith
import Derived.Laws.Cover2
namespace Go.Proofs.Ytjehcmmbbjidkaa

/-- The bits of the float that has counted to k. -/
def fb : Nat → Nat
  | 0 => 0
  | k + 1 => (floatBits .add .f64 (fb k) 4607182418800017408).getD 0
theorem fb_all : ∀ k, k < 66 → floatBits .add .f64 (fb k) 4607182418800017408 = some (fb (k + 1)) ∧ floatBits .add .f64 (fb k) 0 = some (fb k) ∧
    (((FloatKind.f64.format.order (fb k) (fb 0)) != some .eq) = (k != 0)) ∧ (((FloatKind.f64.format.order (fb k) (fb 1)) != some .eq) = (k != 1)) := by decide +kernel
theorem sum_re {a b : Nat} (ha : a < 66) (hb : b < 66) : cSumBits .add .f64 (fb a) (fb b) 4607182418800017408 0 = some (fb (a + 1), fb b) := by
  unfold cSumBits; rw [(fb_all a ha).1, (fb_all b hb).2.1]; rfl
theorem sum_im {a b : Nat} (ha : a < 66) (hb : b < 66) : cSumBits .add .f64 (fb a) (fb b) 0 4607182418800017408 = some (fb a, fb (b + 1)) := by
  unfold cSumBits; rw [(fb_all a ha).2.1, (fb_all b hb).1]; rfl
theorem run_re {P : Program} (t : TypeId) {a b : Nat} (ha : a < 66) (hb : b < 66) (w : World) : (binOp .add t (.complex .f64 (fb a) (fb b)) (.complex .f64 4607182418800017408 0)).run P w = .ok (.complex .f64 (fb (a + 1)) (fb b)) w :=
  run_complex_sum w .add (.inl rfl) t .f64 _ _ _ _ _ _ (sum_re ha hb)
theorem run_im {P : Program} (t : TypeId) {a b : Nat} (ha : a < 66) (hb : b < 66) (w : World) : (binOp .add t (.complex .f64 (fb a) (fb b)) (.complex .f64 0 4607182418800017408)).run P w = .ok (.complex .f64 (fb a) (fb (b + 1))) w :=
  run_complex_sum w .add (.inl rfl) t .f64 _ _ _ _ _ _ (sum_im ha hb)
theorem fb_ne {a b : Nat} (ha : a < 66) (hb : b = 0 ∨ b = 1) : (FloatKind.f64.format.order (fb a) (fb b) != some .eq) = (a != b) := by
  rcases hb with rfl | rfl
  · exact (fb_all a ha).2.2.1
  · exact (fb_all a ha).2.2.2
theorem st_complex (P : Program) (w : World) (a : Addr) (m : Mode) (k : FloatKind) (x y : Nat) : (store a (.complex k x y) m).run P w = stored P w a (.complex k x y) m := run_store P w a _ m rfl
/-- One part of an array of n elements of one cell. -/
theorem run_part {P : Program} {t e : TypeId} {n : Nat} {cs : Array Value} {i : Nat} {v : Value} (ht : P.underlying t = some (.array n e)) (hs : ∀ w, (sizeOf e).run P w = .ok 1 w) (hi : i < n) (hag : ∀ w, (isAgg e).run P w = .ok false w) (hv : cs[i]? = some v) (w : World) :
    (Instr.index t (.agg cs) (.int .i64 (i : Int))).run P w = .ok v w := by
  have hp : (0 : Int) ≤ (i : Int) ∧ (i : Int) < (n : Int) := by omega
  simp [Instr.index, run_underlying ht, asIntOf, hp, hs, part, hag, hv, go_sem]
  intro h
  omega
end Go.Proofs.Ytjehcmmbbjidkaa
