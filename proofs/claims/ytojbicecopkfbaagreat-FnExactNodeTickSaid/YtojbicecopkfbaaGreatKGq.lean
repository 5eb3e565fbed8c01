/-
  PSk: texts joined.
-/
import Derived.Test.YtojbicecopkfbaaGreatKGb
import Derived.Test.YtojbicecopkfbaaGreatKGh
import Derived.Test.YtojbicecopkfbaaGreatKGk
import Derived.Test.YtojbicecopkfbaaGreatShelf
namespace Go.Proofs.YtojbicecopkfbaaGreat
set_option maxRecDepth 100000
set_option linter.unusedVariables false
open Go.RowKit Go.Shelf
theorem i_Keys (mb : Option Nat) (w : World) :
    Calls Tryz.prog 116 #[.map mb] w fun e w' => e = .returned (.func (.func 169) #[] #[.pointer (some ⟨w.heap.size, 0, none⟩)]) ∧ w' = w.alloc (.cells #[.map mb] 82) :=
  (callsIn_wide (n := 5)).1 (AnyZI.keys_in Tryz.keysA Fence.wide 5 trivial rfl mb w)
theorem sk_sorts (m : Nat) : AnyZI.SortsIn Tryz.prog Tryz.sortedA_ren Fence.wide m :=
  ⟨fun blk off cap ss W hH hblk hsz => callsIn_wide.2 (Tryz.slices_Sort_int blk off cap ss W hH hblk hsz), fun p cap W => callsIn_wide.2 (Tryz.slices_Sort_int_none p cap W)⟩
theorem i_SortedKeys {w : World} {g b n : Nat} {D : MD} (hown : w.ownsMap Tryz.prog 3 mR b n D) (hg : g < w.heap.size) (hc : w.cell? ⟨g, 0, none⟩ = some (.map (some b))) (hn : Go.Maps.size D ≤ 1048576) (hwf : ∀ k ∈ intKeys D, (Lit.int .i64 k).wf = true) :
    Calls Tryz.prog 115 #[.func (.func 169) #[] #[.pointer (some ⟨g, 0, none⟩)]] w fun e w' => ∃ (v : Value) (ss : List Int), e = .returned v ∧ ss.Perm (intKeys D) ∧ Own .i64 3 w' w.heap.size v (ss.mergeSort (fun x y => decide (x ≤ y))) ∧ Below w.heap.size w w' := by
  have hseq : SeqGives Fence.wide 2 Tryz.prog 169 #[.pointer (some ⟨g, 0, none⟩)] encZ (fun ss => ss.Perm (intKeys D)) (Go.Maps.size D) w :=
    AnyZI.keys_gives (ρ := Tryz.keysA_ren) { Tryz.keysA with } Fence.wide _ trivial rfl (by omega) g b n _ _ hg hc hown
  have cS := AnyZI.sorted_in Tryz.sortedA Fence.wide 5 trivial trivial trivial trivial rfl (by omega) (sk_sorts _) (enters_of Tryz.func55 (by kernel_rfl) rfl) 169 #[.pointer (some ⟨g, 0, none⟩)] trivial (enters_of Tryz.func169 (by kernel_rfl) rfl) _ (Go.Maps.size D) (by simp only [maxLen]; omega) (by omega) _ hseq
  change CallsIn _ _ Tryz.prog 115 _ _ _ at cS
  refine ((callsIn_wide).1 cS).mono ?_
  rintro e w' ⟨v, ss, rfl, hS, hrow, -, hb⟩
  refine ⟨v, ss, rfl, hS, ?_, hb⟩
  refine Own.of (n := ss.length) hrow (fun x hx => hwf x ?_)
  exact hS.mem_iff.1 (List.mem_mergeSort.1 hx)
end Go.Proofs.YtojbicecopkfbaaGreat
