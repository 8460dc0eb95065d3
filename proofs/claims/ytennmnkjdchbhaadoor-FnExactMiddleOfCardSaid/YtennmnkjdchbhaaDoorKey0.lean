/- KEYS: how a key lies in memory; the laws' own helpers over one key: toKey, fillerKey, eqKey. -/
import Derived.Test.YtennmnkjdchbhaaDoorRows
import Derived.Test.YtennmnkjdchbhaaDoorL1
import Derived.Test.YtennmnkjdchbhaaDoorMem
import Derived.Test.YtennmnkjdchbhaaDoorRoom
namespace Go.Proofs.YtennmnkjdchbhaaDoor
open Go.RowKit
set_option linter.unusedVariables false
def KC (s : Int × Int × Int) : Array Value := #[.int .i16 s.1, .int .i8 s.2.1, .int .i8 s.2.2]
def eKy : Enc (Int × Int × Int) := ⟨fun s => (KC s).toList, 3, fun _ => rfl, fun s v hv => by simp [KC] at hv; rcases hv with rfl | rfl | rfl <;> rfl⟩
theorem eKy_n : eKy.n = 3 := rfl
def zeroK : Int × Int × Int := (0, 0, 0)
def fillK : Int × Int × Int := (-30101, -101, -101)
/-- The key at an index. -/
def kAt (L : List (Int × Int × Int)) (i : Nat) : Int × Int × Int := L.getD i zeroK
theorem kAt_get {L : List (Int × Int × Int)} {i : Nat} (h : i < L.length) : L[i]? = some (kAt L i) := by
  unfold kAt
  rw [List.getD_eq_getElem?_getD, List.getElem?_eq_getElem h]; rfl
theorem ky_cell0 {w : World} {b o : Nat} {s : Int × Int × Int} (h : w.rangeAt b o (KC s).toList) : w.cell? ⟨b, o, none⟩ = some (.int .i16 s.1) := h 0 _ rfl
theorem ky_cell1 {w : World} {b o : Nat} {s : Int × Int × Int} (h : w.rangeAt b o (KC s).toList) : w.cell? ⟨b, o + 1, none⟩ = some (.int .i8 s.2.1) := h 1 _ rfl
theorem ky_cell2 {w : World} {b o : Nat} {s : Int × Int × Int} (h : w.rangeAt b o (KC s).toList) : w.cell? ⟨b, o + 2, none⟩ = some (.int .i8 s.2.2) := h 2 _ rfl
/-- What a key's fields hold. -/
def ltK1 (s : Int × Int × Int) : Prop := (-32768 ≤ s.1 ∧ s.1 ≤ 32767) ∧ (-128 ≤ s.2.1 ∧ s.2.1 ≤ 127) ∧ -128 ≤ s.2.2 ∧ s.2.2 ≤ 127
def ltK (L : List (Int × Int × Int)) : Prop := ∀ s ∈ L, ltK1 s
theorem kAt_lt {L : List (Int × Int × Int)} (h : ltK L) (i : Nat) : ltK1 (kAt L i) := by
  by_cases hi : i < L.length
  · exact h _ (List.mem_of_getElem? (kAt_get hi))
  · unfold kAt
    rw [List.getD_eq_getElem?_getD, List.getElem?_eq_none (by omega)]
    simp [zeroK, ltK1]
end Go.Proofs.YtennmnkjdchbhaaDoor
