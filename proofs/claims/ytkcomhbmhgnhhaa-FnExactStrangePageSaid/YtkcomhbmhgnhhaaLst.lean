/- THE FIRST LEAST OF A LIST, PLAINLY. No program is named. -/
import Derived.Test.YtkcomhbmhgnhhaaB2
namespace Go.Proofs.Ytkcomhbmhgnhhaa
set_option linter.unusedVariables false
def lstS {α : Type} (v : α → Int) (o : Option α) (x : α) : Option α := match o with
  | none => some x
  | some y => if v x < v y then some x else some y
def lst {α : Type} (v : α → Int) (l : List α) : Option α := l.foldl (lstS v) none
section
variable {α : Type} {v u : α → Int}
theorem lst_nil : lst v [] = none := rfl
theorem lst_snoc (l : List α) (x : α) : lst v (l ++ [x]) = lstS v (lst v l) x := by simp [lst, List.foldl_append]
theorem lstS_some (o : Option α) (x : α) : ∃ y, lstS v o x = some y ∧ (y = x ∨ o = some y) := by
  unfold lstS
  cases o with
  | none => exact ⟨x, rfl, .inl rfl⟩
  | some y => dsimp only; split
              · exact ⟨x, rfl, .inl rfl⟩
              · exact ⟨y, rfl, .inr rfl⟩
theorem fold_some (l : List α) : ∀ y, ∃ z, l.foldl (lstS v) (some y) = some z ∧ (z = y ∨ z ∈ l) := by
  induction l with
  | nil => intro y; exact ⟨y, rfl, .inl rfl⟩
  | cons x l ih =>
    intro y
    obtain ⟨z, hz, h⟩ := lstS_some (v := v) (some y) x
    rw [List.foldl_cons, hz]
    obtain ⟨q, hq, h2⟩ := ih z
    refine ⟨q, hq, ?_⟩
    rcases h2 with rfl | h2
    · rcases h with rfl | h
      · exact .inr (by simp)
      · cases h; exact .inl rfl
    · exact .inr (by simp [h2])
theorem lst_some {l : List α} (h : l ≠ []) : ∃ y, lst v l = some y ∧ y ∈ l := by
  cases l with
  | nil => exact absurd rfl h
  | cons x l =>
    obtain ⟨z, hz, h2⟩ := fold_some (v := v) l x
    refine ⟨z, hz, ?_⟩
    rcases h2 with rfl | h2
    · simp
    · simp [h2]
theorem lst_none {l : List α} : lst v l = none ↔ l = [] := by
  constructor
  · intro h
    apply Classical.byContradiction
    intro hn
    obtain ⟨y, hy, _⟩ := lst_some (v := v) hn
    rw [hy] at h; cases h
  · rintro rfl; rfl
theorem lst_congr_aux (l : List α) : ∀ o : Option α, (∀ y, o = some y → v y = u y) → (∀ x ∈ l, v x = u x) → l.foldl (lstS v) o = l.foldl (lstS u) o := by
  induction l with
  | nil => intro o _ _; rfl
  | cons x l ih =>
    intro o ho h
    have e : lstS v o x = lstS u o x := by
      unfold lstS
      cases o with
      | none => rfl
      | some y => dsimp only; rw [ho y rfl, h x (by simp)]
    rw [List.foldl_cons, List.foldl_cons, e]
    refine ih _ ?_ (fun z hz => h z (by simp [hz]))
    intro y hy
    obtain ⟨z, hz, h2⟩ := lstS_some (v := u) o x
    rw [hz] at hy
    cases hy
    rcases h2 with rfl | h2
    · exact h _ (by simp)
    · exact ho _ h2
theorem lst_congr {l : List α} (h : ∀ x ∈ l, v x = u x) : lst v l = lst u l := lst_congr_aux l none (by simp) h
theorem lst_map {β : Type} (f : β → α) (l : List β) : lst v (l.map f) = (lst (fun b => v (f b)) l).map f := by
  have aux : ∀ (l : List β) (o : Option β), (l.map f).foldl (lstS v) (o.map f) = (l.foldl (lstS fun b => v (f b)) o).map f := by
    intro l
    induction l with
    | nil => intro o; rfl
    | cons x l ih =>
      intro o
      rw [List.map_cons, List.foldl_cons, List.foldl_cons, ← ih]
      congr 1
      cases o with
      | none => rfl
      | some y =>
        show (if v (f x) < v (f y) then some (f x) else some (f y)) = (if v (f x) < v (f y) then some x else some y).map f
        split <;> rfl
  exact aux l none
/-- It is a least one. -/
theorem lst_le {l : List α} {y : α} (h : lst v l = some y) : ∀ x ∈ l, v y ≤ v x := by
  have aux : ∀ (l : List α) (o : Option α) (y : α), l.foldl (lstS v) o = some y → (∀ z, o = some z → v y ≤ v z) ∧ ∀ x ∈ l, v y ≤ v x := by
    intro l
    induction l with
    | nil => intro o y h; cases h; exact ⟨fun z hz => by cases hz; exact Int.le_refl _, by simp⟩
    | cons x l ih =>
      intro o y h
      rw [List.foldl_cons] at h
      obtain ⟨h1, h2⟩ := ih _ _ h
      have hs : ∃ q, lstS v o x = some q ∧ v q ≤ v x ∧ ∀ z, o = some z → v q ≤ v z := by
        unfold lstS
        cases o with
        | none => exact ⟨x, rfl, Int.le_refl _, by simp⟩
        | some z =>
          dsimp only
          split
          · rename_i hlt; exact ⟨x, rfl, Int.le_refl _, fun z' hz' => by cases hz'; omega⟩
          · rename_i hlt; exact ⟨z, rfl, by omega, fun z' hz' => by cases hz'; exact Int.le_refl _⟩
      obtain ⟨q, hq, hqx, hqo⟩ := hs
      have := h1 q hq
      refine ⟨fun z hz => ?_, fun z hz => ?_⟩
      · have := hqo z hz; omega
      · rcases List.mem_cons.1 hz with rfl | hz
        · omega
        · exact h2 z hz
  exact (aux l none y h).2
/-- The greatest one is the least one of the opposites: the same test. -/
theorem lstS_neg (o : Option α) (x : α) : lstS (fun a => - v a) o x = match o with
    | none => some x
    | some y => if v y < v x then some x else some y := by
  unfold lstS
  cases o with
  | none => rfl
  | some y =>
    show (if - v x < - v y then some x else some y) = if v y < v x then some x else some y
    by_cases h : v y < v x
    · rw [if_pos (by omega), if_pos h]
    · rw [if_neg (by omega), if_neg h]
end
end Go.Proofs.Ytkcomhbmhgnhhaa
