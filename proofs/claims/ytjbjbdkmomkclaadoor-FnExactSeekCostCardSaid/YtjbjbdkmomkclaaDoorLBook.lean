/- The laws' own helpers over books: roomBehind, szBook, eqBook. -/
import Derived.Test.YtjbjbdkmomkclaaDoorRows
import Derived.Test.YtjbjbdkmomkclaaDoorL1
import Derived.Test.YtjbjbdkmomkclaaDoorMem
import Derived.Test.YtjbjbdkmomkclaaDoorRoom
namespace Go.Proofs.YtjbjbdkmomkclaaDoor
set_option maxRecDepth 100000
open Go.RowKit
set_option linter.unusedVariables false
theorem room_any (n : Nat) (w : World) (h : n ≤ 1000000) :
    Calls Tryd.prog 36 #[.int .i64 n] w fun e w' => e = .returned (.int .i64 (roomN n)) ∧ w = w' := by
  by_cases h6 : n % 6 = 5
  · have h1 : ((n : Int) % 6 == 5) = true := by simp; omega
    have hv : roomN n = 0 := by simp [roomN, h6]
    go_enter Tryd.func36, Tryd.ntmps36
    go_wp2
    go_ret
    exact ⟨ret_int (by rw [hv]; rfl), rfl⟩
  · have h1 : ((n : Int) % 6 == 5) = false := by simp; omega
    by_cases h3 : n % 3 = 0
    · have h2 : ((n : Int) % 3 == 0) = true := by simp; omega
      have hv : roomN n = 1 := by simp [roomN, h6, h3]
      clear h6 h3
      go_enter Tryd.func36, Tryd.ntmps36
      go_wp2
      go_ret
      exact ⟨ret_int (by rw [hv]; rfl), rfl⟩
    · have h2 : ((n : Int) % 3 == 0) = false := by simp; omega
      have hv : roomN n = n := by simp [roomN, h6, h3]
      clear h6 h3
      have HV := Lib.hid hv
      clear hv
      go_enter Tryd.func36, Tryd.ntmps36
      go_wp2
      go_ret
      exact ⟨ret_int (by rw [HV.out]), rfl⟩
/-- What spare room is filled with. -/
def fillF : Nat → Nat := fun i => if i = 0 then 60201 else 0
theorem infoFr : (Tryd.prog.info? 47).map (fun i => (i.zero, i.size, i.bytes)) = some (some (.agg (FC zeroF)), 12, 24) := by kernel_rfl
theorem build_fill (w : World) : (Instr.build 47 #[(0, .int .u16 60201)]).run Tryd.prog w = .ok (.agg (FC fillF)) w := by kernel_rfl
/-- What a call hands back that copies a list: to be read. -/
def GivesSl {α : Type} (E : Enc α) (L : List α) (w : World) (e : Ending) (w' : World) : Prop :=
  ∃ u, e = .returned u ∧ SlAt E w' w'.heap.size u L ∧ Below w.heap.size w w'
theorem SlAt.roomy {α : Type} {E : Enc α} {w : World} {B : Nat} {v : Value} {z : α} {L : List α} (h : SlAt E w B v ((roomy z L).take L.length)) : SlAt E w B v L := by rw [roomy_take] at h; exact h
end Go.Proofs.YtjbjbdkmomkclaaDoor
