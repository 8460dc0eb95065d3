/- The laws' own helpers over books: roomBehind, szBook, eqBook. -/
import Derived.Test.YtennmnkjdchbhacDoorRows
import Derived.Test.YtennmnkjdchbhacDoorL1
import Derived.Test.YtennmnkjdchbhacDoorMem
import Derived.Test.YtennmnkjdchbhacDoorRoom
namespace Go.Proofs.YtennmnkjdchbhacDoor
open Go.RowKit
set_option linter.unusedVariables false
/-- What spare room is filled with. -/
def fillF : Nat → Nat := fun i => if i = 0 then 60201 else 0
theorem infoFr : (Tryd.prog.info? 33).map (fun i => (i.zero, i.size, i.bytes)) = some (some (.agg (FC zeroF)), 12, 24) := by kernel_rfl
theorem build_fill (w : World) : (Instr.build 33 #[(0, .int .u16 60201)]).run Tryd.prog w = .ok (.agg (FC fillF)) w := by kernel_rfl
/-- What a call hands back that copies a list: to be read. -/
def GivesSl {α : Type} (E : Enc α) (L : List α) (w : World) (e : Ending) (w' : World) : Prop :=
  ∃ u, e = .returned u ∧ SlAt E w' w'.heap.size u L ∧ Below w.heap.size w w'
theorem SlAt.roomy {α : Type} {E : Enc α} {w : World} {B : Nat} {v : Value} {z : α} {L : List α} (h : SlAt E w B v ((roomy z L).take L.length)) : SlAt E w B v L := by rw [roomy_take] at h; exact h
end Go.Proofs.YtennmnkjdchbhacDoor
