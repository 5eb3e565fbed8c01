/-
  Beq: texts joined.
-/
import Derived.Test.YtaabmaoldhoinaaGreatVGa
import Derived.Test.YtaabmaoldhoinaaGreatVGb
import Derived.Laws.BytesArg
import Derived.Lib.Bytes
import Derived.Shelf.Bytes.SlSmallAll
namespace Go.Proofs.YtaabmaoldhoinaaGreat
set_option maxRecDepth 100000
open Go.ChangeShapes Go.WideShapes Go.ChangeAt Go.RowKit
open Fld
theorem Ints.bytesQ {w : World} {B n : Nat} {A : Option Addr} {l : List Int} (h : Ints .u8 w B A n l) : Bytes l := fun x hx => by
  have := h.2.2 x hx
  simp [Lit.wf] at this
  have e1 : IntKind.u8.min = 0 := by decide
  have e2 : IntKind.u8.max = 255 := by decide
  omega
theorem conv_bytesQ {w : World} {B n : Nat} {A : Option Addr} {l : List Int} (h : Ints .u8 w B A n l) (c : Nat) (src e dst : TypeId) (hs : Tryz.prog.underlying src = some (.slice e)) (he : Tryz.prog.underlying e = some (.int .u8)) (hd : Tryz.prog.underlying dst = some .string) :
    (convert src dst (.slice A n c)).run Tryz.prog w = .ok (.string (strOfNums l)) w := by
  by_cases h0 : n = 0
  · subst h0
    obtain rfl : l = [] := List.eq_nil_of_length_eq_zero h.1
    exact run_convert_bytes_zero w src e hs he A c dst hd
  · obtain ⟨b, off, rfl, _, hc⟩ := h.2.1 (by omega)
    exact run_convert_bytes_arg w src e hs he b off n c l h.1 hc dst hd
theorem nums_eqQ {l r : List Int} (hl : Bytes l) (hr : Bytes r) : ((strOfNums l).toList == (strOfNums r).toList) = decide (l = r) := by
  rw [Lib.strOfNums_toList, Lib.strOfNums_toList, Lib.bytesOf, Lib.bytesOf, Bool.eq_iff_iff]
  simp only [beq_iff_eq, decide_eq_true_eq]
  constructor
  · intro h
    have hlen : l.length = r.length := by have := congrArg List.length h; simpa using this
    apply ext_getD hlen
    intro i hi
    have h2 := congrArg (fun x => x[i]?) h
    simp only [List.getElem?_map, List.getElem?_eq_getElem hi, List.getElem?_eq_getElem (show i < r.length by omega), Option.map_some, Option.some.injEq] at h2
    have a1 := hl.at_ i
    have a2 := hr.at_ i
    rw [getD_lt hi] at a1
    rw [getD_lt (show i < r.length by omega)] at a2
    rw [getD_lt hi, getD_lt (show i < r.length by omega)]
    have h3 := congrArg UInt8.toNat h2
    simp only [UInt8.toNat_ofNat'] at h3
    omega
  · intro h; rw [h]
theorem i_bytesEqualQ {w : World} {B B' n m c d : Nat} {A A' : Option Addr} {l r : List Int} (hl : Ints .u8 w B A n l) (hr : Ints .u8 w B' A' m r) :
    Calls Tryz.prog 110 #[.slice A n c, .slice A' m d] w fun e w' => e = .returned (.bool (decide (l = r))) ∧ w = w' := by
  have g1 := conv_bytesQ hl c 26 5 9 Tryz.underlying26 Tryz.underlying5 Tryz.underlying9
  have g2 := conv_bytesQ hr d 26 5 9 Tryz.underlying26 Tryz.underlying5 Tryz.underlying9
  have HN := Lib.hid (nums_eqQ hl.bytesQ hr.bytesQ)
  go_enter Tryz.func110, Tryz.ntmps110
  go_wp2
  go_ret
  exact ⟨ret_bool HN.out, rfl⟩
end Go.Proofs.YtaabmaoldhoinaaGreat
