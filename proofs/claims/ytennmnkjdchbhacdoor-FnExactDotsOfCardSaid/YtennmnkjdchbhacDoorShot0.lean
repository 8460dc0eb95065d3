/- SHOTS: how a shot lies in memory; the laws' own helpers over one shot: toShot, fillerShot, eqShot. -/
import Derived.Test.YtennmnkjdchbhacDoorRows
import Derived.Test.YtennmnkjdchbhacDoorL1
import Derived.Test.YtennmnkjdchbhacDoorMem
import Derived.Test.YtennmnkjdchbhacDoorRoom
namespace Go.Proofs.YtennmnkjdchbhacDoor
open Go.RowKit
set_option linter.unusedVariables false
def SC (s : Int × Int) : Array Value := #[.int .i8 s.1, .int .i8 s.2]
def eSh : Enc (Int × Int) := ⟨fun s => (SC s).toList, 2, fun _ => rfl, fun s v hv => by simp [SC] at hv; rcases hv with rfl | rfl <;> rfl⟩
theorem eSh_n : eSh.n = 2 := rfl
def zeroS : Int × Int := (0, 0)
def fillS : Int × Int := (-101, -101)
/-- The shot at an index. -/
def sAt (L : List (Int × Int)) (i : Nat) : Int × Int := L.getD i zeroS
theorem sAt_get {L : List (Int × Int)} {i : Nat} (h : i < L.length) : L[i]? = some (sAt L i) := by
  unfold sAt
  rw [List.getD_eq_getElem?_getD, List.getElem?_eq_getElem h]; rfl
theorem sh_cell0 {w : World} {b o : Nat} {s : Int × Int} (h : w.rangeAt b o (SC s).toList) : w.cell? ⟨b, o, none⟩ = some (.int .i8 s.1) := h 0 _ rfl
theorem sh_cell1 {w : World} {b o : Nat} {s : Int × Int} (h : w.rangeAt b o (SC s).toList) : w.cell? ⟨b, o + 1, none⟩ = some (.int .i8 s.2) := h 1 _ rfl
end Go.Proofs.YtennmnkjdchbhacDoor
