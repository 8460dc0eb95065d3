/- For slices.Grow and slices.Concat: no function of the program is named. -/
import Derived.Test.YtkcomhbmhgnhhaaDoorApp
import Derived.Lib.AppendZeros
namespace Go.Proofs.YtkcomhbmhgnhhaaDoor
open Go.RowKit
theorem zeroCells_size (z : Array Value) (n : Nat) : (Builtin.zeroCells z n).size = n * z.size := by simp [Builtin.zeroCells]
theorem run_slice_0 {P : Program} {T e : TypeId} {i : TypeInfo} (hT : P.underlying T = some (.slice e)) (hi : P.info? e = some i) (w : World) :
    (Instr.slice T (.slice none 0 0) none (some (.int .i64 0)) none).run P w = .ok (.slice none 0 0) w := by
  simp [Instr.slice, run_underlying hT, Instr.sliceBounds, Instr.sliceBound, asIntOf, run_sizeOf w hi]
theorem flat_take {α : Type} (Ls : List (List α)) {k : Nat} {L : List α} (h : Ls[k]? = some L) : (Ls.take (k + 1)).flatten = (Ls.take k).flatten ++ L := by
  rw [List.take_add_one, h, List.flatten_append]; simp
theorem flat_take_le {α : Type} (Ls : List (List α)) (k : Nat) : (Ls.take k).flatten.length ≤ Ls.flatten.length := by
  conv => rhs; rw [← List.take_append_drop k Ls, List.flatten_append, List.length_append]
  omega
/-- A slice of a list, cut. -/
theorem SlAt.part {α : Type} {E : Enc α} {w : World} {B : Nat} {A : Option Addr} {c : Nat} {L : List α} (h : SlAt E w B (.slice A L.length c) L) {f t m : Nat} (hft : f ≤ t) (ht : t ≤ L.length) (htm : t ≤ m) (hm : m ≤ c) :
    SlAt E w B (.slice (if m = f then A else A.map (·.add (f * E.n))) (t - f) (m - f)) ((L.drop f).take (t - f)) := by
  obtain ⟨A', c', he, h1, h2, hA⟩ := h
  cases he
  have hl : ((L.drop f).take (t - f)).length = t - f := by rw [List.length_take, List.length_drop]; omega
  refine ⟨_, _, by rw [hl], by omega, by omega, fun hp => ?_⟩
  obtain ⟨b, o, rfl, hb, hr⟩ := hA (by omega)
  rw [if_neg (by omega)]
  refine ⟨b, o + f * E.n, ?_, hb, fun j u hu => ?_⟩
  · rw [Option.map_some, Addr.add_mid]
  · have hj : j < (t - f) * E.n := by
      have := (List.getElem?_eq_some_iff.1 hu).1
      rwa [Enc.cells_length, hl] at this
    rw [← Enc.cells_take, List.getElem?_take, if_pos hj, ← Enc.cells_drop, List.getElem?_drop] at hu
    have := hr (f * E.n + j) u hu
    rwa [← Nat.add_assoc] at this
end Go.Proofs.YtkcomhbmhgnhhaaDoor
