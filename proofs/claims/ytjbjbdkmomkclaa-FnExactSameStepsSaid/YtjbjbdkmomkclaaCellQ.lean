/- A cell, read in a region that draws its order. -/
import Derived.Test.YtjbjbdkmomkclaaQuiet
namespace Go.Proofs.Ytjbjbdkmomkclaa
open Go.RowKit Go.Sort
theorem cell_q {w : World} {b o : Nat} {v : Value} (h : w.cell? ⟨b, o, none⟩ = some v) (p : Regrown) : (grow (redrawn w p.d) p.os).cell? ⟨b, o, none⟩ = some v :=
  (World.cell?_of_block (w := w) (a := ⟨b, o, none⟩) ((below_regrown w p.d p.os).block _ (World.block_lt_of_cell? w _ h))).trans h
theorem to_below {P : Program} {f : FuncId} {args : Array Value} {w : World} {E : Ending} (h : Calls P f args w fun e w' => e = E ∧ w = w') : Calls P f args w fun e w' => e = E ∧ Below w.heap.size w w' :=
  h.mono fun _ _ ⟨h1, h2⟩ => ⟨h1, h2 ▸ Below.refl _ _⟩
end Go.Proofs.Ytjbjbdkmomkclaa
