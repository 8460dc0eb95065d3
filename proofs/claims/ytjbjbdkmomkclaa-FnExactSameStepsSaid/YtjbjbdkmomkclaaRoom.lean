/- LISTS WITH SPARE ROOM, PLAINLY: how many cells of spare capacity a list is given; lists by their elements at each index. -/
import Derived.Test.YtjbjbdkmomkclaaB2
namespace Go.Proofs.Ytjbjbdkmomkclaa
set_option linter.unusedVariables false
def roomN (n : Nat) : Nat := if n % 6 = 5 then 0 else if n % 3 = 0 then 1 else n
theorem roomN_le (n : Nat) : roomN n ≤ n + 1 := by unfold roomN; split <;> (try split) <;> omega
/-- A list, and behind it its spare room. -/
def roomy {α : Type} (z : α) (L : List α) : List α := L ++ List.replicate (roomN L.length) z
theorem roomy_length {α : Type} (z : α) (L : List α) : (roomy z L).length = L.length + roomN L.length := by simp [roomy]
theorem roomy_take {α : Type} (z : α) (L : List α) : (roomy z L).take L.length = L := by simp [roomy]
theorem roomy_tab {α : Type} (z : α) (L : List α) : roomy z L = tab (fun i => L.getD i z) (L.length + roomN L.length) := by
  apply List.ext_getElem?
  intro i
  by_cases hi : i < L.length + roomN L.length
  · rw [tab_get _ hi]
    by_cases h : i < L.length
    · rw [roomy, List.getElem?_append_left h, List.getD_eq_getElem?_getD, List.getElem?_eq_getElem h]; rfl
    · simp only [roomy, List.getElem?_append_right (Nat.le_of_not_lt h), List.getD_eq_getElem?_getD, List.getElem?_eq_none (Nat.le_of_not_lt h), Option.getD_none]
      rw [List.getElem?_replicate, if_pos (by omega)]
  · rw [List.getElem?_eq_none (by rw [roomy_length]; omega), List.getElem?_eq_none (by rw [tab_length]; omega)]
def updA {α : Type} (F : Nat → α) (k : Nat) (x : α) : Nat → α := fun i => if i = k then x else F i
theorem tab_set {α : Type} (F : Nat → α) (m k : Nat) (x : α) : (tab F m).set k x = tab (updA F k x) m := by
  apply List.ext_getElem?
  intro i
  by_cases hi : i < m
  · rw [tab_get _ hi, List.getElem?_set]
    unfold updA
    by_cases h : k = i
    · subst h; simp [tab_length, hi]
    · rw [if_neg h, if_neg (fun e => h e.symm), tab_get _ hi]
  · rw [List.getElem?_eq_none (by simp [tab_length]; omega), List.getElem?_eq_none (by rw [tab_length]; omega)]
theorem replicate_tab {α : Type} (z : α) (m : Nat) : List.replicate m z = tab (fun _ => z) m := by
  apply List.ext_getElem?
  intro i
  by_cases hi : i < m
  · rw [tab_get _ hi]; simp [hi]
  · rw [List.getElem?_eq_none (by simp; omega), List.getElem?_eq_none (by rw [tab_length]; omega)]
end Go.Proofs.Ytjbjbdkmomkclaa
