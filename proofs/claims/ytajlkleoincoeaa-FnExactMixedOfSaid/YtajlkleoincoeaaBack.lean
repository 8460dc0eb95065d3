/- BackBook: spec and impl; listBy of frames. -/
import Derived.Test.YtajlkleoincoeaaRows
import Derived.Test.YtajlkleoincoeaaIJumps
namespace Go.Proofs.Ytajlkleoincoeaa
open Go.RowKit
set_option linter.unusedVariables false
set_option linter.unusedSimpArgs false
theorem infoFrL : (Try.prog.info? 30).map (fun i => (i.zero, i.size, i.bytes)) = some (some (.agg (FC zeroF)), eFr.n, 24) := by kernel_rfl
theorem run_build_frs (w : World) (f : Nat → Nat) : (Instr.buildSlice 42 1 #[(0, .agg (FC f))]).run Try.prog w = .ok (.slice (some ⟨w.heap.size, 0, none⟩) 1 1) (w.alloc (.cells (FC f) 30)) := by kernel_rfl
theorem run_build_frsL (w : World) (f : Nat → Nat) : (Instr.buildSlice 41 1 #[(0, .agg (FC f))]).run Try.prog w = .ok (.slice (some ⟨w.heap.size, 0, none⟩) 1 1) (w.alloc (.cells (FC f) 30)) := by kernel_rfl
def backL (L : List (Nat → Nat)) : List (Nat → Nat) := tab (fun i => fAt L (L.length - 1 - i)) L.length
theorem backL_length (L : List (Nat → Nat)) : (backL L).length = L.length := tab_length _ _
theorem ifB_len (c : Int) {M : List (Nat → Nat)} (h : M.length ≤ 40) : (ifL c M).length ≤ 1000 := by have := ifL_length_le c M; omega
end Go.Proofs.Ytajlkleoincoeaa
