/-
  Cip, Onion: texts joined.
-/
import Derived.Test.YtblcfncjghkegaaPGa
import Derived.Laws.BitsAllLaws
namespace Go.Proofs.Ytblcfncjghkegaa
open Fld

/-! ### bytes -/
def Bytes (l : List Int) : Prop := ∀ x ∈ l, 0 ≤ x ∧ x < 256
theorem Bytes.at_ {l : List Int} (h : Bytes l) (i : Nat) : 0 ≤ l.getD i 0 ∧ l.getD i 0 < 256 := by
  rw [List.getD_eq_getElem?_getD]
  by_cases hi : i < l.length
  · rw [List.getElem?_eq_getElem hi, Option.getD_some]; exact h _ (List.getElem_mem _)
  · rw [List.getElem?_eq_none (by omega)]; exact ⟨Int.le_refl _, by decide⟩
theorem Bytes.take {l : List Int} (h : Bytes l) (n : Nat) : Bytes (l.take n) := fun x hx => h x (List.mem_of_mem_take hx)
theorem Bytes.drop {l : List Int} (h : Bytes l) (n : Nat) : Bytes (l.drop n) := fun x hx => h x (List.mem_of_mem_drop hx)
theorem Bytes.app {l r : List Int} (h : Bytes l) (h' : Bytes r) : Bytes (l ++ r) := fun x hx => (List.mem_append.1 hx).elim (h x) (h' x)
theorem Bytes.set {l : List Int} (h : Bytes l) (i : Nat) {x : Int} (hx : 0 ≤ x ∧ x < 256) : Bytes (l.set i x) := fun y hy => by
  rcases List.mem_or_eq_of_mem_set hy with h' | rfl
  · exact h y h'
  · exact hx
theorem getD_lt {l : List Int} {i : Nat} (h : i < l.length) : l.getD i 0 = l[i] := by rw [List.getD_eq_getElem?_getD, List.getElem?_eq_getElem h]; rfl
theorem getD_drop (l : List Int) (n i : Nat) : (l.drop n).getD i 0 = l.getD (n + i) 0 := by
  rw [List.getD_eq_getElem?_getD, List.getElem?_drop, List.getD_eq_getElem?_getD]
/-! ### the key stream -/
def strY (k i : Int) : Int := mulP ((mulP ((k + i * 7919 + 3) % 2147483647) 48271 + k + i + 1) % 2147483647) 16807
def strB (k i : Int) : Int := strY k i / 256 % 256
/-- The first j bytes of l, turned. -/
def xorn (k : Int) (l : List Int) (j : Nat) : List Int := (List.range j).map fun i : Nat => bits .xor .u8 (l.getD i 0) (strB k i)
def xorl (k : Int) (l : List Int) : List Int := xorn k l l.length
/-! ### the code -/
def macR (k : Int) : Int := 1 + keyP k 71 % 2147483646
/-- What the code is when j bytes are over. -/
def macN (r n : Int) (l : List Int) (j : Nat) : Int := (l.take j).foldl (fun n b => addP (addP (mulP n r) b) 1) n
def macV (k : Int) (l : List Int) : Int := macN (macR k) (l.length + 1) l l.length
def mac (k : Int) (l : List Int) : Int := addP (mulP (macV k l) (macR k)) (keyP k 72)
/-! ### sealing -/
def four (n : Int) : List Int := [n / 16777216 % 256, n / 65536 % 256, n / 256 % 256, n % 256]
def get4 (l : List Int) : Int := l.getD 0 0 * 16777216 + l.getD 1 0 * 65536 + l.getD 2 0 * 256 + l.getD 3 0
/-- What l opens to, if it does. -/
def openL (k : Int) (l : List Int) : List Int := xorl (keyP k 1) (l.drop 4)
def opens (k : Int) (l : List Int) : Prop := 4 ≤ l.length ∧ get4 l = mac (keyP k 2) (l.drop 4)
instance (k : Int) (l : List Int) : Decidable (opens k l) := by unfold opens; infer_instance
end Go.Proofs.Ytblcfncjghkegaa
namespace Go.Proofs.Ytblcfncjghkegaa
open Fld

/-! ### routes, keys -/
def Node (n : Int) : Prop := 0 ≤ n ∧ n < 8
def Route (l : List Int) : Prop := (1 ≤ l.length ∧ l.length ≤ 4) ∧ (∀ x ∈ l, 0 ≤ x ∧ x < 8) ∧ ∀ i, i < l.length - 1 → l.getD i 0 ≠ l.getD (i + 1) 0
def Pubs (l : List Int) : Prop := l.length = 8 ∧ ∀ x ∈ l, 2 ≤ x ∧ x < 2147483646
def LaySec (x : Int) : Prop := (1 ≤ x ∧ x < 2147483646) ∧ (2 ≤ powP 7 x.toNat ∧ powP 7 x.toNat < 2147483646)
instance (x : Int) : Decidable (LaySec x) := by unfold LaySec; infer_instance
def Secs (l : List Int) : Prop := ∀ x ∈ l, LaySec x
instance (l : List Int) : Decidable (Route l) := by unfold Route; infer_instance
instance (l : List Int) : Decidable (Pubs l) := by unfold Pubs; infer_instance
instance (l : List Int) : Decidable (Secs l) := by unfold Secs; infer_instance
/-! ### sizes -/
/-! ### cells -/
def padL (b pad : List Int) : List Int := b ++ pad.take (80 - b.length)
theorem padL_len {b pad : List Int} (h : b.length ≤ 80) (h' : 80 ≤ pad.length) : (padL b pad).length = 80 := by
  unfold padL; rw [List.length_append, List.length_take]; omega
def fdum (pad : List Int) : List Int × Bool := if 80 ≤ pad.length then (padL [] pad, true) else ([], false)

/-! ### layers -/
def WrapOk (route pubs secrets : List Int) (due : Int) (load pad : List Int) : Prop :=
  Route route ∧ Pubs pubs ∧ secrets.length = route.length ∧ Secs secrets ∧ (0 ≤ due ∧ due ≤ 65535) ∧ load.length ≤ 24 ∧ 80 ≤ pad.length
instance (route pubs secrets : List Int) (due : Int) (load pad : List Int) : Decidable (WrapOk route pubs secrets due load pad) := by unfold WrapOk; infer_instance
/-! ### what is peeled -/
structure Pel where
  next : Int
  due : Int
  tag : Int
  load : List Int
  cell : List Int
def Pel.zero : Pel := ⟨0, 0, 0, [], []⟩
def peelS (s : Int) (c : List Int) : Int := powP (get4 c) s.toNat
def peelK (s : Int) (c : List Int) : Int := keyP (peelS s c) 5
/-- The four bytes ahead of the content. -/
def peelH (s : Int) (c : List Int) : List Int := xorl (keyP (peelK s c) 1) ((c.drop 8).take 4)
def peelN (s : Int) (c : List Int) : Nat := ((peelH s c).getD 3 0).toNat
/-- What is sealed. -/
def peelB (s : Int) (c : List Int) : List Int := (c.drop 4).take (8 + peelN s c)
def peelX (s : Int) (c : List Int) : List Int := openL (peelK s c) (peelB s c)
def LayOk (next : Int) (n : Nat) : Prop := (next = 255 ∧ n ≤ 24) ∨ (next < 8 ∧ 12 ≤ n)
instance (next : Int) (n : Nat) : Decidable (LayOk next n) := by unfold LayOk; infer_instance
def peels (s : Int) (c : List Int) : Prop := (2 ≤ get4 c ∧ get4 c < 2147483646) ∧ peelN s c ≤ 68 ∧ opens (peelK s c) (peelB s c) ∧ LayOk ((peelX s c).getD 0 0) (peelN s c)
instance (s : Int) (c : List Int) : Decidable (peels s c) := by unfold peels; infer_instance
def PeelOk (s : Int) (c pad : List Int) : Prop := ((1 ≤ s ∧ s < 2147483646) ∧ c.length = 80 ∧ 80 ≤ pad.length) ∧ peels s c
instance (s : Int) (c pad : List Int) : Decidable (PeelOk s c pad) := by unfold PeelOk; infer_instance
/-! ### what is wrapped is peeled -/
section
variable {s s' next due : Int} {inner tail : List Int}
end
end Go.Proofs.Ytblcfncjghkegaa
