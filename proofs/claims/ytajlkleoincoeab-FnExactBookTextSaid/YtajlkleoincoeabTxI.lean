/- TEXTS: lists of strings; strings.Join; a decimal of less than 100. -/
import Derived.Test.YtajlkleoincoeabRows
import Derived.Test.YtajlkleoincoeabTxt
import Derived.Test.YtajlkleoincoeabMem
import Derived.Test.YtajlkleoincoeabApp
import Derived.Test.YtajlkleoincoeabS1
import Derived.Test.YtajlkleoincoeabShelf
namespace Go.Proofs.Ytajlkleoincoeab
open Go.RowKit
set_option linter.unusedVariables false
set_option linter.unusedSimpArgs false
def eStr : Enc (List UInt8) := ⟨fun l => [.string (bsOf l)], 1, fun _ => rfl, fun z v hv => by simp at hv; subst hv; rfl⟩
theorem infoStr : (Try.prog.info? 9).map (fun i => (i.zero, i.size, i.bytes)) = some (some (.string ⟨#[]⟩), eStr.n, 16) := by kernel_rfl
theorem str_cell {w : World} {b o : Nat} {W : List (List UInt8)} (h : w.rangeAt b o (eStr.cells W)) {i : Nat} {l : List UInt8} (hi : W[i]? = some l) : w.cell? ⟨b, o + i, none⟩ = some (.string (bsOf l)) := by
  have := range_part h hi 0 _ rfl
  rw [show eStr.n = 1 from rfl, Nat.mul_one, Nat.add_zero] at this
  exact this
theorem join_any (v : Value) (W : List (List UInt8)) (s : UInt8) (w : World) (hl : W.length ≤ 1000000) (hj : (joinW s W).length ≤ 100000000) (h : SlAt eStr w w.heap.size v W) :
    Calls Try.prog 44 #[v, .string ⟨#[s]⟩] w fun e w' => e = .returned (.string (bsOf (joinW s W))) ∧ Below w.heap.size w w' := by
  obtain ⟨A, c, rfl, h1, h2, hA⟩ := h
  by_cases hz : W = []
  · subst hz
    exact (Try.strings_Join_none A c ⟨#[s]⟩ w).mono fun e w' ⟨he, hw⟩ => ⟨he, hw ▸ Below.refl _ _⟩
  · have hp : 0 < W.length := List.length_pos_iff.2 hz
    obtain ⟨b, o, rfl, hb, r⟩ := hA hp
    have hm : (W.map bsOf).map (fun x => x.data.toList) = W := by
      rw [List.map_map]
      conv => rhs; rw [← List.map_id W]
      exact List.map_congr_left fun x _ => bsOf_data x
    have hlen : (W.map bsOf).length = W.length := List.length_map _
    have := Try.strings_Join b o c (W.map bsOf) ⟨#[s]⟩ w (fun j x hx => by
      rw [List.getElem?_map] at hx
      cases hw : W[j]? with
      | none => rw [hw] at hx; cases hx
      | some l => rw [hw] at hx; cases hx; exact str_cell r hw) hb (by omega) (by omega) (by rw [hm]; show (joinW s W).length ≤ _; omega)
    rw [hm, hlen] at this
    exact this
/-- A list's texts, so far. -/
theorem joinW_take (s : UInt8) (W : List (List UInt8)) (k : Nat) (x : List UInt8) (h : W[k]? = some x) (hk : 0 < k) : joinW s (W.take (k + 1)) = joinW s (W.take k) ++ [s] ++ x := by
  have hkl := (List.getElem?_eq_some_iff.1 h).1
  rw [List.take_add_one, h]
  refine joinW_snoc s _ _ fun e => ?_
  have : (W.take k).length = 0 := by rw [e]; rfl
  rw [List.length_take] at this
  omega
theorem joinW_take0 (s : UInt8) (W : List (List UInt8)) (x : List UInt8) (h : W[0]? = some x) : joinW s (W.take 1) = x := by
  rw [List.take_add_one, h]
  exact joinW_snoc0 s x
theorem joinW_take_len (s : UInt8) (W : List (List UInt8)) (m : Nat) (h : ∀ x ∈ W, x.length ≤ m) (k : Nat) : (joinW s (W.take k)).length ≤ W.length * (m + 1) := by
  refine Nat.le_trans (joinW_len s _ m fun x hx => h x (List.mem_of_mem_take hx)) ?_
  exact Nat.mul_le_mul_right _ (by rw [List.length_take]; omega)
end Go.Proofs.Ytajlkleoincoeab
