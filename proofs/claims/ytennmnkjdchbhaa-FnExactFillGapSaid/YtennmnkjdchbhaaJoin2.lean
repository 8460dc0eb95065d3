/- JoinBooks, CutBook: spec and impl. -/
import Derived.Test.YtennmnkjdchbhaaRows
import Derived.Test.YtennmnkjdchbhaaConcat
namespace Go.Proofs.Ytennmnkjdchbhaa
open Go.RowKit
set_option linter.unusedVariables false
set_option linter.unusedSimpArgs false
def joinV (L M : List (Nat → Nat)) : List (Nat → Nat) := L ++ M
def joC (L M : List (Nat → Nat)) : Int := if okB L && okB M then (if L.length + M.length ≤ 40 then 0 else 3) else 1
theorem joC_cases (L M : List (Nat → Nat)) : (okB L = false ∧ joC L M = 1) ∨ (okB L = true ∧ okB M = false ∧ joC L M = 1) ∨ (okB L = true ∧ okB M = true ∧ 40 < L.length + M.length ∧ joC L M = 3) ∨ (okB L = true ∧ okB M = true ∧ L.length + M.length ≤ 40 ∧ joC L M = 0) := by
  unfold joC
  cases okB L <;> cases okB M
  · simp
  · simp
  · simp
  · by_cases h : L.length + M.length ≤ 40
    · simp [h]
    · simp [h]; omega
theorem jo_if_len (L M : List (Nat → Nat)) : (ifL (joC L M) (joinV L M)).length ≤ 1000 := by
  refine ifL_len fun hc => ?_
  rcases joC_cases L M with ⟨_, h⟩ | ⟨_, _, h⟩ | ⟨_, _, _, h⟩ | ⟨_, _, h, _⟩
  · omega
  · omega
  · omega
  · unfold joinV; rw [List.length_append]; omega
theorem row_two (w : World) (u v : Value) (t : TypeId) : Row (w.alloc (.cells #[u, v] t)) w.heap.size t [u, v].toArray := Row.new w t #[u, v]
theorem row_one (w : World) (u : Value) (t : TypeId) : Row (w.alloc (.cells #[u] t)) w.heap.size t [u].toArray := Row.new w t #[u]
theorem cellsFr : Try.prog.cellsOf 50 = eFr.n := by kernel_rfl
def cutV (L : List (Nat → Nat)) (f t : Int) : List (Nat → Nat) := (L.drop f.toNat).take (t.toNat - f.toNat)
def cuC (L : List (Nat → Nat)) (f t : Int) : Int := if okB L then (if inB f 0 L.length && inB t f L.length then 0 else 2) else 1
theorem cuC_cases (L : List (Nat → Nat)) (f t : Int) : (okB L = false ∧ cuC L f t = 1) ∨ (okB L = true ∧ inB f 0 L.length = false ∧ cuC L f t = 2) ∨ (okB L = true ∧ inB f 0 L.length = true ∧ inB t f L.length = false ∧ cuC L f t = 2) ∨ (okB L = true ∧ inB f 0 L.length = true ∧ inB t f L.length = true ∧ cuC L f t = 0) := by
  unfold cuC; cases okB L <;> cases inB f 0 L.length <;> cases inB t f L.length <;> simp
theorem cut_if_len (L : List (Nat → Nat)) (f t : Int) : (ifL (cuC L f t) (cutV L f t)).length ≤ 1000 := by
  refine ifL_len fun hc => ?_
  rcases cuC_cases L f t with ⟨_, h⟩ | ⟨_, _, h⟩ | ⟨_, _, _, h⟩ | ⟨ho, _, _, h⟩
  · omega
  · omega
  · omega
  · unfold cutV
    have := okB_len ho
    rw [List.length_take, List.length_drop]
    omega
/-- A slice of a list, cut. -/
theorem SlAt.part {α : Type} {E : Enc α} {w : World} {B : Nat} {A : Option Addr} {c : Nat} {L : List α} (h : SlAt E w B (.slice A L.length c) L) {f t m : Nat} (hft : f ≤ t) (ht : t ≤ L.length) (htm : t ≤ m) (hm : m ≤ c) :
    SlAt E w B (.slice (if m = f then A else A.map (·.add (f * E.n))) (t - f) (m - f)) ((L.drop f).take (t - f)) := by
  obtain ⟨A', c', he, h1, h2, hA⟩ := h
  cases he
  have hl : ((L.drop f).take (t - f)).length = t - f := by rw [List.length_take, List.length_drop]; omega
  refine ⟨_, _, by rw [hl], by omega, by omega, fun hp => ?_⟩
  obtain ⟨b, o, rfl, hb, hr⟩ := hA (by omega)
  rw [if_neg (by omega)]
  refine ⟨b, o + f * E.n, ?_, hb, fun j u hu => ?_⟩
  · rw [Option.map_some, Addr.add_mid]
  · have hj : j < (t - f) * E.n := by
      have := (List.getElem?_eq_some_iff.1 hu).1
      rwa [Enc.cells_length, hl] at this
    rw [← Enc.cells_take, List.getElem?_take, if_pos hj, ← Enc.cells_drop, List.getElem?_drop] at hu
    have := hr (f * E.n + j) u hu
    rwa [← Nat.add_assoc] at this
end Go.Proofs.Ytennmnkjdchbhaa
