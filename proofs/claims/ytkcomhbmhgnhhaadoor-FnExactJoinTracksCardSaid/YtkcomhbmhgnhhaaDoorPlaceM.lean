/- PLACES OF TRACKS, PLAINLY. No program is named. -/
import Derived.Test.YtkcomhbmhgnhhaaDoorTrackM
import Derived.Test.YtkcomhbmhgnhhaaDoorB2
namespace Go.Proofs.YtkcomhbmhgnhhaaDoor
/-- How many keys, from the first one on, are at the tick or ahead of it. -/
def nxt : List (Int × Int × Int) → Int → Nat
  | [], _ => 0
  | k :: L, t => if k.1 ≤ t then nxt L t + 1 else 0
theorem nxt_le : ∀ (L : List (Int × Int × Int)) (t : Int), nxt L t ≤ L.length
  | [], _ => Nat.le_refl _
  | k :: L, t => by have := nxt_le L t; unfold nxt; split <;> simp <;> omega
theorem nxt_lo : ∀ (L : List (Int × Int × Int)) (t : Int) (j : Nat), j < nxt L t → (kAt L j).1 ≤ t
  | [], _, j, h => by simp [nxt] at h
  | k :: L, t, j, h => by
    unfold nxt at h
    split at h
    · rename_i hk
      cases j with
      | zero => exact hk
      | succ j => have := nxt_lo L t j (by omega); simpa [kAt] using this
    · omega
theorem nxt_hi : ∀ (L : List (Int × Int × Int)) (t : Int), nxt L t < L.length → t < (kAt L (nxt L t)).1
  | [], _, h => by simp [nxt] at h
  | k :: L, t, h => by
    by_cases hk : k.1 ≤ t
    · have he : nxt (k :: L) t = nxt L t + 1 := by simp [nxt, hk]
      rw [he] at h ⊢
      have := nxt_hi L t (by simpa using h)
      simpa [kAt] using this
    · have he : nxt (k :: L) t = 0 := by simp [nxt, hk]
      rw [he]
      show t < k.1
      omega
/-- What tells it. -/
theorem nxt_eq {L : List (Int × Int × Int)} {t : Int} {n : Nat} (hn : n ≤ L.length) (hlo : ∀ j, j < n → (kAt L j).1 ≤ t) (hhi : n < L.length → t < (kAt L n).1) : nxt L t = n := by
  rcases Nat.lt_trichotomy (nxt L t) n with h | h | h
  · have := nxt_hi L t (by omega)
    have := hlo _ h
    omega
  · exact h
  · have := nxt_lo L t n h
    have := hhi (by have := nxt_le L t; omega)
    omega
/-- The place at a tick, as a key. -/
def plK (L : List (Int × Int × Int)) (e t : Int) : Int × Int × Int :=
  if nxt L t = 0 then (t, (kAt L 0).2)
  else if nxt L t = L.length then (t, (kAt L (L.length - 1)).2)
  else (t, betI (kAt L (nxt L t - 1)).2.1 (kAt L (nxt L t)).2.1 (shareI e (t - (kAt L (nxt L t - 1)).1) ((kAt L (nxt L t)).1 - (kAt L (nxt L t - 1)).1)),
    betI (kAt L (nxt L t - 1)).2.2 (kAt L (nxt L t)).2.2 (shareI e (t - (kAt L (nxt L t - 1)).1) ((kAt L (nxt L t)).1 - (kAt L (nxt L t - 1)).1)))
theorem plK_fst (L : List (Int × Int × Int)) (e t : Int) : (plK L e t).1 = t := by unfold plK; split <;> (try split) <;> rfl
theorem plK_ahead {L : List (Int × Int × Int)} {e t : Int} (h : nxt L t = 0) : plK L e t = (t, (kAt L 0).2) := if_pos h
theorem plK_behind {L : List (Int × Int × Int)} {e t : Int} (h0 : 0 < L.length) (h : nxt L t = L.length) : plK L e t = (t, (kAt L (L.length - 1)).2) := by
  unfold plK; rw [if_neg (by omega), if_pos h]
theorem plK_mid {L : List (Int × Int × Int)} {e t : Int} {i : Nat} (h : nxt L t = i + 1) (hl : i + 1 < L.length) :
    plK L e t = (t, betI (kAt L i).2.1 (kAt L (i + 1)).2.1 (shareI e (t - (kAt L i).1) ((kAt L (i + 1)).1 - (kAt L i).1)), betI (kAt L i).2.2 (kAt L (i + 1)).2.2 (shareI e (t - (kAt L i).1) ((kAt L (i + 1)).1 - (kAt L i).1))) := by
  unfold plK; rw [if_neg (by omega), if_neg (by omega), h]; rfl
/-- On a key: its place. -/
theorem plK_on {L : List (Int × Int × Int)} {e t : Int} {i : Nat} (h : nxt L t = i + 1) (hl : i + 1 < L.length) (ht : t = (kAt L i).1) (hup : (kAt L i).1 < (kAt L (i + 1)).1) : plK L e t = (t, (kAt L i).2) := by
  rw [plK_mid h hl, ht, Int.sub_self, shareI_zero (by omega), betI_zero, betI_zero]
/-- The share of the way between two keys. -/
theorem seg_share {L : List (Int × Int × Int)} {t : Int} {i : Nat} (h : nxt L t = i + 1) (hl : i + 1 < L.length) : 0 ≤ t - (kAt L i).1 ∧ t - (kAt L i).1 ≤ (kAt L (i + 1)).1 - (kAt L i).1 ∧ 1 ≤ (kAt L (i + 1)).1 - (kAt L i).1 := by
  have h1 := nxt_lo L t i (by omega)
  have h2 := nxt_hi L t (by omega)
  rw [h] at h2
  omega
theorem plK_in {L : List (Int × Int × Int)} (ho : okT L = true) (e t : Int) : (-24 ≤ (plK L e t).2.1 ∧ (plK L e t).2.1 ≤ 24) ∧ -24 ≤ (plK L e t).2.2 ∧ (plK L e t).2.2 ≤ 24 := by
  have hlen := (okT_iff.1 ho).1
  by_cases h0 : nxt L t = 0
  · rw [plK_ahead h0]; exact (okT_key ho (i := 0) (by omega)).2
  · by_cases h1 : nxt L t = L.length
    · rw [plK_behind (by omega) h1]; exact (okT_key ho (i := L.length - 1) (by omega)).2
    · have hl := nxt_le L t
      obtain ⟨i, hi⟩ : ∃ i, nxt L t = i + 1 := ⟨nxt L t - 1, by omega⟩
      have hs := seg_share (L := L) (t := t) hi (by omega)
      have hb := shareI_bounds (e := e) ⟨hs.1, hs.2.1⟩ hs.2.2
      have k1 := (okT_key ho (i := i) (by omega)).2
      have k2 := (okT_key ho (i := i + 1) (by omega)).2
      rw [plK_mid hi (by omega)]
      exact ⟨betI_bounds k1.1 k2.1 hb, betI_bounds k1.2 k2.2 hb⟩
/-- The last key at the tick or ahead of it, or the first one: what the place is. -/
theorem plK_end {L : List (Int × Int × Int)} (ho : okT L = true) {e t : Int} {i : Nat} (hi : i < L.length) (hlo : ∀ j, 0 < j → j ≤ i → (kAt L j).1 ≤ t) (hhi : i + 1 < L.length → t < (kAt L (i + 1)).1) (h : i + 1 = L.length ∨ t ≤ (kAt L i).1) : (plK L e t).2 = (kAt L i).2 := by
  by_cases h0 : t < (kAt L 0).1
  · have hi0 : i = 0 := by
      apply Classical.byContradiction
      intro hne
      have h1 := hlo i (by omega) (Nat.le_refl _)
      have h2 := okT_lt ho (i := 0) (j := i) (by omega) hi
      omega
    subst hi0
    rw [plK_ahead (nxt_eq (Nat.zero_le _) (by omega) (fun _ => h0))]
  · have hlo' : ∀ j, j < i + 1 → (kAt L j).1 ≤ t := fun j hj => by
      by_cases hj0 : j = 0
      · subst hj0; omega
      · exact hlo j (by omega) (by omega)
    have hn : nxt L t = i + 1 := nxt_eq (by omega) hlo' hhi
    by_cases hl : i + 1 = L.length
    · rw [plK_behind (by omega) (hn.trans hl), show L.length - 1 = i by omega]
    · have := hlo' i (by omega)
      rw [plK_on hn (by omega) (by omega) (okT_up ho (by omega))]
theorem plK_way {L : List (Int × Int × Int)} (ho : okT L = true) {t : Int} {i : Nat} (hi : i + 1 < L.length) (hlo : ∀ j, 0 < j → j ≤ i → (kAt L j).1 ≤ t) (hhi : t < (kAt L (i + 1)).1) (h : (kAt L i).1 < t) : nxt L t = i + 1 :=
  nxt_eq (by omega) (fun j hj => by
    by_cases hj0 : j = i
    · subst hj0; omega
    · have := okT_lt ho (i := j) (j := i) (by omega) (by omega); omega) (fun _ => hhi)
/-- The code of a track and an ease, and whether numbers are as told. -/
def wyC (L : List (Int × Int × Int)) (e : Int) (f : Bool) : Int := if okT L then (if inB e 0 3 && f then 0 else 2) else 1
theorem wyC_cases (L : List (Int × Int × Int)) (e : Int) (f : Bool) : (okT L = false ∧ wyC L e f = 1) ∨ (okT L = true ∧ inB e 0 3 = false ∧ wyC L e f = 2) ∨ (okT L = true ∧ inB e 0 3 = true ∧ f = false ∧ wyC L e f = 2) ∨ (okT L = true ∧ inB e 0 3 = true ∧ f = true ∧ wyC L e f = 0) := by
  unfold wyC; cases okT L <;> cases inB e 0 3 <;> cases f <;> simp
def paX (L : List (Int × Int × Int)) (e t : Int) : Int := ifI (wyC L e (inB t 0 200)) (plK L e t).2.1
def paY (L : List (Int × Int × Int)) (e t : Int) : Int := ifI (wyC L e (inB t 0 200)) (plK L e t).2.2
end Go.Proofs.YtkcomhbmhgnhhaaDoor
