/-
  Ty, EvSent: texts joined.
-/
import Derived.Test.YteokfenoomcogaaGreatKGa
import Derived.Test.YteokfenoomcogaaGreatKGc
import Derived.Test.YteokfenoomcogaaGreatKGd
import Derived.Test.YteokfenoomcogaaGreatKGf
import Derived.Test.YteokfenoomcogaaGreatKGg
import Derived.Test.YteokfenoomcogaaGreatKGh
import Derived.Test.YteokfenoomcogaaGreatKGi
import Derived.Test.YteokfenoomcogaaGreatRows
import Derived.BigQuiet
import Derived.Deep.Draws
import Derived.Deep.OwnRows
import Derived.Deep.QuietTactic
import Derived.Laws.MakeOwn
import Derived.Lib.Hide
import Derived.Maps.AppendAt
import Derived.OpenShut
import Derived.Outline
import Derived.ProofKit
import Derived.WalkKit
namespace Go.Proofs.YteokfenoomcogaaGreat
set_option linter.unusedVariables false
open Go.RowKit
/-! ### Cell -/
/-! ### Peeled -/
/-! ### Piece -/
/-! ### Whole -/
/-! ### Desk -/
/-! ### Held -/
/-! ### Pool -/
/-! ### Letter -/
/-! ### Node -/
/-! ### Mail -/
/-! ### Sent -/
theorem makeSent {w : World} {B : Nat} {p : DSent} {v2 : Value} (h0 : (Lit.int .i64 (p.1)).wf = true) (h1 : (Lit.int .i64 (p.2.1)).wf = true) (h2 : tBy.R w B [v2] (p.2.2)) : tSent.R w B [.int .i64 (p.1), .int .i64 (p.2.1), v2] p := ⟨_, _, rfl, ⟨rfl, h0⟩, ⟨_, _, rfl, ⟨rfl, h1⟩, h2⟩⟩
/-! ### Glance -/
/-! ### Net -/
/-! ### Cmd -/
end Go.Proofs.YteokfenoomcogaaGreat
namespace Go.Proofs.YteokfenoomcogaaGreat
set_option maxRecDepth 100000
set_option linter.unusedVariables false
set_option linter.unusedSimpArgs false
open Go.ChangeShapes Go.WideShapes Go.ChangeAt Go.RowKit
set_option maxHeartbeats 400000 in
theorem i_evrySentB {w : World} {n c : Nat} {A : Option Addr} {l : List DSent} (F : Nat) (V : Value) (p : DSent → Bool) (hE : ∀ (cs : Array Value) (w : World), Sem.run Tryz.prog (callFunc F #[V, Value.agg cs]) w = .ok (.enter F #[V, Value.agg cs]) w)
    (hF : ∀ (i : Nat) (a : DSent) (w' : World) (cs : List Value), l[i]? = some a → Below w.heap.size w w' → tSent.R w' w'.heap.size cs a → Calls Tryz.prog F #[V, .agg cs.toArray] w' fun e w2 => e = .returned (.bool (p a)) ∧ Below w'.heap.size w' w2)
    (hl : tSent.row.R w w.heap.size [.slice A n c] l) (hn : n ≤ 17592186043904) :
    Calls Tryz.prog 62 #[.slice A n c, .func (.func F) #[V] #[]] w fun e w' => e = .returned (.bool (l.all p)) ∧ Below w.heap.size w w' := by
  obtain ⟨e0, _, _⟩ := rowR_len hl
  have HL := Lib.hid e0
  have HF := Lib.hid hF
  have HE := Lib.hid hE
  clear e0 hF hE
  go_enter Tryz.func62, Tryz.ntmps62
  go_wp2_with fail
  go_loopw [9] (fun i wr => ∃ j : Nat, j ≤ n ∧ i = .int .i64 j ∧ Below w.heap.size w wr ∧ ∀ h ∈ l.take j, p h = true) (fun i _ => n - (intOf i).toNat)
  case atStart => exact ⟨0, by omega, rfl, (belx), al0⟩
  case round =>
    obtain ⟨j, hj, rfl, hB, hG⟩ := hrel
    have HG := Lib.hid hG
    clear hG
    by_cases hlt : j < n
    · obtain ⟨a, b', off, es, hl2, rfl, hb, hes, hR⟩ := rowR_at (K := 3) hl hlt rfl
      have HA := Lib.hid hl2
      clear hl2
      have hRk := hR
      obtain ⟨A2, n2, c2, rfl, -, -, -, -, -, -⟩ := openSent hR
      have e0 : wr.cell? ⟨b', off + j * 3, none⟩ = some (.int .i64 a.1) := cell_at hB hb (hes 0 (by omega))
      have e1 : wr.cell? ⟨b', off + j * 3 + 1, none⟩ = some (.int .i64 a.2.1) := cell_at hB hb (hes 1 (by omega))
      have e2 : wr.cell? ⟨b', off + j * 3 + 2, none⟩ = some (.slice A2 n2 c2) := cell_at hB hb (hes 2 (by omega))
      clear hes
      go_wp2_with fail
      rw [HE.out, Oper.upon_enter]
      refine (HF.out j a _ _ HA.out ?hB (tSent.reach hRk ?hB2)).mono ?_
      case hB => exact bel_trans (a := w) hB (belx)
      case hB2 => exact bel_trans (a := w) hB (belx)
      rintro e w1 ⟨rfl, hb1⟩
      have hB1 : Below w.heap.size w w1 := bel_trans (bel_trans (a := w) hB (belx)) hb1
      obtain ⟨d, hd⟩ : ∃ d, p a = d := ⟨_, rfl⟩
      rw [hd]
      have HD := Lib.hid hd
      clear hd
      cases d
      · have HR := Lib.hid (alF HA.out HD.out)
        go_wp2
        go_ret
        exact ⟨ret_bool HR.out.symm, hB1⟩
      · go_wp2
        go_roundw
        case rel => exact ⟨j + 1, by omega, by go_num, hB1, alS HG.out HA.out HD.out⟩
        case measure => simp [intOf]; omega
    · obtain rfl : n = j := by omega
      have HR := Lib.hid (alT HG.out (Nat.le_of_eq HL.out))
      go_wp2
      go_ret
      exact ⟨ret_bool HR.out.symm, hB⟩
end Go.Proofs.YteokfenoomcogaaGreat
