/- ToAndFro: spec and impl. -/
import Derived.Test.YthkpefdjhdemeabRows
import Derived.Test.YthkpefdjhdemeabBack
import Derived.Test.YthkpefdjhdemeabApp
namespace Go.Proofs.Ythkpefdjhdemeab
set_option maxRecDepth 100000
open Go.RowKit
set_option linter.unusedVariables false
set_option linter.unusedSimpArgs false
theorem OwnL.val {α : Type} {E : Enc α} {w : World} {base : Nat} {t : TypeId} {v : Value} {L : List α} (h : OwnL E w base t v L) : ∃ A c, v = .slice A L.length c := by
  rcases h.form with ⟨rfl, rfl⟩ | ⟨g, cap, R, rfl, _⟩
  · exact ⟨none, 0, rfl⟩
  · exact ⟨some ⟨g, 0, none⟩, cap, rfl⟩
def froN (n : Nat) : Nat := if n ≤ 2 then n else 2 * n - 2
def froF (L : List (Nat → Nat)) (i : Nat) : Nat → Nat := if i < L.length then fAt L i else fAt L (2 * L.length - 2 - i)
def froL (L : List (Nat → Nat)) : List (Nat → Nat) := tab (froF L) (froN L.length)
def froC (L : List (Nat → Nat)) : Int := if okB L then (if froN L.length ≤ 40 then 0 else 3) else 1
theorem froC_cases (L : List (Nat → Nat)) : (okB L = false ∧ froC L = 1) ∨ (okB L = true ∧ 40 < froN L.length ∧ froC L = 3) ∨ (okB L = true ∧ froN L.length ≤ 40 ∧ froC L = 0) := by
  unfold froC
  cases okB L
  · simp
  · by_cases h : froN L.length ≤ 40
    · simp [h]
    · simp [h]; omega
theorem froL_length (L : List (Nat → Nat)) : (froL L).length = froN L.length := tab_length _ _
theorem fro_if_len (L : List (Nat → Nat)) : (ifL (froC L) (froL L)).length ≤ 1000 := by
  refine ifL_len fun hc => ?_
  rw [froL_length]
  rcases froC_cases L with ⟨_, h⟩ | ⟨_, _, h⟩ | ⟨_, h, _⟩
  · omega
  · omega
  · omega
theorem froL_eq (L : List (Nat → Nat)) : L ++ tab (fun j => fAt L (L.length - 2 - j)) (L.length - 2) = froL L := by
  apply List.ext_getElem?
  intro i
  have hN : froN L.length = L.length + (L.length - 2) := by unfold froN; split <;> omega
  by_cases hi : i < L.length + (L.length - 2)
  · unfold froL
    rw [tab_get _ (by rw [hN]; exact hi)]
    unfold froF
    by_cases h : i < L.length
    · rw [if_pos h, List.getElem?_append_left h, fAt_get h]
    · rw [if_neg h, List.getElem?_append_right (by omega), tab_get _ (by omega)]
      congr 2
      omega
  · rw [List.getElem?_eq_none (by rw [List.length_append, tab_length]; omega), List.getElem?_eq_none (by rw [froL_length, hN]; omega)]
set_option maxHeartbeats 2000000 in
theorem specToAndFro_any (v : Value) (L : List (Nat → Nat)) (w : World) (h : SlAt eFr w w.heap.size v L) :
    Calls Try.prog 38 #[v] w (GivesL eFr 54 (ifL (froC L) (froL L)) (froC L) w) := by
  have cO := specOk_any v L w h
  by_cases ho : okB L = false
  · obtain ⟨A, c, rfl⟩ := h.form
    have hc : froC L = 1 := by simp [froC, ho]
    rw [ho] at cO
    rw [hc, ifL1 _ (by decide)]
    have hm := OwnL.made (E := eFr) w w.heap.size 54 (Nat.le_refl _)
    have h0 := (Below.refl w.heap.size w).alloc (Nat.le_refl _) (.cells #[] 54)
    clear ho hc h
    go_enter Try.func38, Try.ntmps38
    go_wp2_with (go_at_call 57; refine cO.mono ?_; rintro e w' ⟨rfl, rfl⟩)
    go_ret2
    exact ⟨_, rfl, hm, h0⟩
  · have ho : okB L = true := by simpa using ho
    have hlen := okB_len ho
    have hE := froL_eq L
    have hL1 := froL_length L
    have hcc : (40 < froN L.length ∧ froC L = 3) ∨ (froN L.length ≤ 40 ∧ froC L = 0) := by
      rcases froC_cases L with ⟨h1, _⟩ | ⟨_, h⟩ | ⟨_, h⟩
      · rw [ho] at h1; cases h1
      · exact .inl h
      · exact .inr h
    rw [ho] at cO
    have HE := Lib.hid hE
    have HC := Lib.hid hcc
    have HL1 := Lib.hid hL1
    have h' := h
    obtain ⟨A, c, rfl, h1, h2, hA⟩ := h'
    unfold maxLen at h2
    have hm := OwnL.made (E := eFr) w w.heap.size 54 (Nat.le_refl _)
    have h0 := (Below.refl w.heap.size w).alloc (Nat.le_refl _) (.cells #[] 54)
    have s0 := h.alloc (Nat.le_refl _) (.cells #[] 54)
    have k0 : IntKind.i64.wrap ((L.length : Int) - 2) = (L.length : Int) - 2 := IntWalk.i64_in _ (by omega)
    clear ho hE hcc hL1
    go_enter Try.func38, Try.ntmps38
    go_wp2_with (first | (go_at_call 57; refine cO.mono ?_; rintro e w' ⟨rfl, rfl⟩) | (at_builtin; refine wpList_append_sl rfl _ _ 26 rfl w.heap.size 54 Try.underlying26 infoFrL rfl (by decide) (by omega) hm rfl rfl s0 (by simp; omega) (by simp) ?_; intro v1 w1 hown hgrow))
    replace h0 := hm.grown_below h0 hgrow (Nat.le_refl _) (by simp)
    rw [List.nil_append] at hown
    clear k0 hm s0 hgrow
    go_loopw [4, 5] (fun u i wr => ∃ k : Nat, k ≤ L.length - 2 ∧ i = .int .i64 ((L.length : Int) - 2 - (k : Int)) ∧ OwnL eFr wr w.heap.size 54 u (L ++ tab (fun j => fAt L (L.length - 2 - j)) k) ∧ Below w.heap.size w wr) (fun _ i _ => (intOf i).toNat)
    case atStart => exact ⟨0, by omega, by simp, by rw [tab_zero, List.append_nil]; exact hown, h0⟩
    case round =>
      clear hown h0
      obtain ⟨k, hk, rfl, hown, hb⟩ := hrel
      by_cases hlt : k < L.length - 2
      · obtain ⟨b1, o1, rfl, hb1, r1⟩ := hA (by omega)
        have g1 := range_below (range_part r1 (fAt_get (show L.length - 2 - k < L.length by omega))) hb hb1
        rw [eFr_n] at g1
        have hq : (L.length : Int) - 2 - (k : Int) = ((L.length - 2 - k : Nat) : Int) := by omega
        have hlt2 : L.length - 2 - k < L.length := by omega
        have hpos : 0 < L.length - 2 - k := by omega
        have hll : (L ++ tab (fun j => fAt L (L.length - 2 - j)) k).length ≤ 1000 := by rw [List.length_append, tab_length]; omega
        rw [hq]
        have HQ := Lib.hid hq
        clear hA r1 hq
        generalize hp : L.length - 2 - k = p at *
        have HP := Lib.hid hp
        clear hp
        go_wp2_with (first | (refine wpList_load_at rfl 54 52 _ rfl _ _ rfl g1 Try.underlying54 (by kernel_rfl) ?_) | (refine wpList_build1 (v := .agg (FC (fAt L p))) (cs := FC (fAt L p)) rfl 26 54 _ rfl rfl (fun w => run_build_frs w (fAt L p)) ?_) | (at_builtin; refine wpList_append_one rfl _ _ 26 rfl w.heap.size 54 Try.underlying26 infoFrL rfl (by decide) (by omega) (hown.alloc (.cells (FC (fAt L p)) 54)) rfl (fAt L p) rfl (range_new _ _ (FC (fAt L p))) (by omega) (by have := hb.size; simp; omega) ?_; intro v' w4 hown' hgrow))
        go_roundw
        case rel =>
          go_light
          refine ⟨k + 1, by omega, ?_, ?_, (hown.alloc _).grown_below (hb.alloc hb.size _) hgrow (Nat.le_refl _) (by have := hb.size; simp; omega)⟩
          · rw [← HQ.out]; congr 1; omega
          · rw [tab_succ, ← List.append_assoc, HP.out]; exact hown'
        case measure => simp [intOf]; omega
      · have hkl : k = L.length - 2 := by omega
        subst hkl
        rw [HE.out] at hown
        obtain ⟨A2, c2, rfl⟩ := hown.val
        have hq : ¬ (0 < (L.length : Int) - 2 - ((L.length - 2 : Nat) : Int)) := by omega
        generalize (L.length : Int) - 2 - ((L.length - 2 : Nat) : Int) = z at *
        rcases HC.out with ⟨h3, hc⟩ | ⟨h3, hc⟩
        · have hl : 40 < (froL L).length := by rw [HL1.out]; exact h3
          have hm := OwnL.made (E := eFr) wr w.heap.size 54 hb.size
          have h0 := hb.alloc hb.size (.cells #[] 54)
          have HC2 := Lib.hid hc
          generalize (froL L).length = N at *
          clear hA h3 hc hown
          go_wp2
          go_ret2
          rw [HC2.out, ifL1 _ (by decide)]
          exact ⟨_, rfl, hm, h0⟩
        · have hl : (froL L).length ≤ 40 := by rw [HL1.out]; exact h3
          have HO := Lib.hid hown
          have HC2 := Lib.hid hc
          clear hA h3 hown hc
          generalize hN : (froL L).length = N at *
          have HN := Lib.hid hN
          clear hN
          go_wp2
          go_ret2
          rw [HC2.out, ifL0]
          exact ⟨_, rfl, HO.out, hb⟩
end Go.Proofs.Ythkpefdjhdemeab
