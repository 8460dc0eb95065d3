/- THE FIRST PAGE WITH A FRAME, PLAINLY; which pages are first ones, and how many of them lie ahead. No program is named. -/
import Derived.Test.YtkcomhbmhgnhhabB2
namespace Go.Proofs.Ytkcomhbmhgnhhab
set_option linter.unusedVariables false
theorem eqF_sym {f g : Nat → Nat} (h : eqF f g = true) : eqF g f = true := by
  unfold eqF at h ⊢
  simp only [List.all_eq_true, List.mem_range, beq_iff_eq] at h ⊢
  exact fun i hi => (h i hi).symm
theorem eqF_trans {f g k : Nat → Nat} (h : eqF f g = true) (h2 : eqF g k = true) : eqF f k = true := by
  unfold eqF at h h2 ⊢
  simp only [List.all_eq_true, List.mem_range, beq_iff_eq] at h h2 ⊢
  exact fun i hi => (h i hi).trans (h2 i hi)
/-- The first of the first k pages that is the frame f. -/
def Gr (L : List (Nat → Nat)) : Nat → (Nat → Nat) → Option Nat
  | 0, _ => none
  | k + 1, f => match Gr L k f with
    | some j => some j
    | none => if eqF (fAt L k) f then some k else none
theorem Gr_succ (L : List (Nat → Nat)) (k : Nat) (f : Nat → Nat) : Gr L (k + 1) f = match Gr L k f with
    | some j => some j
    | none => if eqF (fAt L k) f then some k else none := rfl
theorem Gr_some {L : List (Nat → Nat)} {f : Nat → Nat} : ∀ {k j : Nat}, Gr L k f = some j → j < k ∧ eqF (fAt L j) f = true ∧ ∀ i, i < j → eqF (fAt L i) f = false
  | 0, j, h => by cases h
  | k + 1, j, h => by
    unfold Gr at h
    cases hg : Gr L k f with
    | some i =>
      rw [hg] at h; cases h
      obtain ⟨h1, h2⟩ := Gr_some hg
      exact ⟨by omega, h2⟩
    | none =>
      rw [hg] at h
      dsimp only at h
      split at h
      · rename_i he
        cases h
        refine ⟨by omega, he, ?_⟩
        have aux : ∀ m, Gr L m f = none → ∀ i, i < m → eqF (fAt L i) f = false := by
          intro m
          induction m with
          | zero => intro _ i hi; omega
          | succ m ih =>
            intro hm i hi
            unfold Gr at hm
            cases hgm : Gr L m f with
            | some q => rw [hgm] at hm; cases hm
            | none =>
              rw [hgm] at hm
              dsimp only at hm
              split at hm
              · cases hm
              · rename_i hne
                rcases Nat.lt_succ_iff_lt_or_eq.1 hi with h | rfl
                · exact ih hgm i h
                · simpa using hne
        exact aux k hg
      · cases h
theorem Gr_none {L : List (Nat → Nat)} {f : Nat → Nat} : ∀ {k : Nat}, Gr L k f = none → ∀ i, i < k → eqF (fAt L i) f = false
  | 0, _, i, hi => by omega
  | k + 1, h, i, hi => by
    unfold Gr at h
    cases hg : Gr L k f with
    | some j => rw [hg] at h; cases h
    | none =>
      rw [hg] at h
      dsimp only at h
      split at h
      · cases h
      · rename_i hne
        rcases Nat.lt_succ_iff_lt_or_eq.1 hi with h | rfl
        · exact Gr_none hg i h
        · simpa using hne
theorem Gr_of {L : List (Nat → Nat)} {f : Nat → Nat} {j k : Nat} (hj : j < k) (he : eqF (fAt L j) f = true) (hm : ∀ i, i < j → eqF (fAt L i) f = false) : Gr L k f = some j := by
  cases hg : Gr L k f with
  | none => have := Gr_none hg j hj; rw [he] at this; cases this
  | some i =>
    obtain ⟨h1, h2, h3⟩ := Gr_some hg
    rcases Nat.lt_trichotomy i j with h | h | h
    · have := hm i h; rw [h2] at this; cases this
    · rw [h]
    · have := h3 j h; rw [he] at this; cases this
theorem Gr_congr {L : List (Nat → Nat)} {f g : Nat → Nat} (h : eqF f g = true) (k : Nat) : Gr L k f = Gr L k g := by
  induction k with
  | zero => rfl
  | succ k ih =>
    unfold Gr
    rw [ih]
    have : eqF (fAt L k) f = eqF (fAt L k) g := by
      rw [Bool.eq_iff_iff]
      exact ⟨fun h1 => eqF_trans h1 h, fun h1 => eqF_trans h1 (eqF_sym h)⟩
    rw [this]
/-- The first page with the frame of page i. -/
def rp (L : List (Nat → Nat)) (i : Nat) : Nat := (Gr L (i + 1) (fAt L i)).getD i
theorem rp_spec (L : List (Nat → Nat)) (i : Nat) : Gr L (i + 1) (fAt L i) = some (rp L i) ∧ rp L i ≤ i ∧ eqF (fAt L (rp L i)) (fAt L i) = true ∧ ∀ j, j < rp L i → eqF (fAt L j) (fAt L i) = false := by
  cases hg : Gr L (i + 1) (fAt L i) with
  | none => have := Gr_none hg i (by omega); rw [eqF_refl] at this; cases this
  | some j =>
    have : rp L i = j := by unfold rp; rw [hg]; rfl
    rw [this]
    obtain ⟨h1, h2, h3⟩ := Gr_some hg
    exact ⟨rfl, by omega, h2, h3⟩
theorem rp_of {L : List (Nat → Nat)} {i j : Nat} (hj : j ≤ i) (he : eqF (fAt L j) (fAt L i) = true) (hm : ∀ q, q < j → eqF (fAt L q) (fAt L i) = false) : rp L i = j := by
  unfold rp; rw [Gr_of (show j < i + 1 by omega) he hm]; rfl
theorem Gr_here {L : List (Nat → Nat)} {i : Nat} : (Gr L i (fAt L i) = none ∧ rp L i = i) ∨ (Gr L i (fAt L i) = some (rp L i) ∧ rp L i < i) := by
  obtain ⟨h1, h2, h3, h4⟩ := rp_spec L i
  rcases Nat.lt_or_ge (rp L i) i with h | h
  · exact .inr ⟨Gr_of h h3 h4, h⟩
  · have e : rp L i = i := by omega
    refine .inl ⟨?_, e⟩
    cases hg : Gr L i (fAt L i) with
    | none => rfl
    | some j => obtain ⟨a, b, c⟩ := Gr_some hg
                have := h4 j (by omega)
                rw [b] at this; cases this
/-- One page more: either it is found, or it is put. -/
theorem Gr_put {L : List (Nat → Nat)} {k : Nat} (h : Gr L k (fAt L k) = none) (f : Nat → Nat) : Gr L (k + 1) f = if eqF f (fAt L k) then some k else Gr L k f := by
  by_cases e : eqF f (fAt L k) = true
  · rw [if_pos e]
    have : Gr L k f = none := by rw [Gr_congr e]; exact h
    rw [Gr_succ, this]
    dsimp only
    rw [if_pos (eqF_sym e)]
  · rw [if_neg e]
    rw [Gr_succ]
    cases hg : Gr L k f with
    | some j => rfl
    | none => dsimp only; rw [if_neg (fun h => e (eqF_sym h))]
theorem Gr_stay {L : List (Nat → Nat)} {k j : Nat} (h : Gr L k (fAt L k) = some j) (f : Nat → Nat) : Gr L (k + 1) f = Gr L k f := by
  rw [Gr_succ]
  cases hg : Gr L k f with
  | some j => rfl
  | none =>
    dsimp only
    rw [if_neg]
    intro e
    rw [Gr_congr e, hg] at h
    cases h
/-- The first page with each page's frame, for all pages. -/
def repL (L : List (Nat → Nat)) : List Int := tab (fun i => (rp L i : Int)) L.length
/-- How many of the first k pages are first ones. -/
def fcnt (L : List (Nat → Nat)) : Nat → Nat
  | 0 => 0
  | k + 1 => if rp L k = k then fcnt L k + 1 else fcnt L k
theorem fcnt_le (L : List (Nat → Nat)) (k : Nat) : fcnt L k ≤ k := by
  induction k with
  | zero => exact Nat.le_refl _
  | succ k ih => unfold fcnt; split <;> omega
/-- The distinct pages among the first k ones. -/
def dstL (L : List (Nat → Nat)) : Nat → List (Nat → Nat)
  | 0 => []
  | k + 1 => if rp L k = k then dstL L k ++ [fAt L k] else dstL L k
theorem dstL_len (L : List (Nat → Nat)) (k : Nat) : (dstL L k).length = fcnt L k := by
  induction k with
  | zero => rfl
  | succ k ih => unfold dstL fcnt; split <;> simp [ih]
/-- Where the frame of each page is among the distinct ones. -/
def plcL (L : List (Nat → Nat)) : List Int := tab (fun i => (fcnt L (rp L i) : Int)) L.length
end Go.Proofs.Ytkcomhbmhgnhhab
