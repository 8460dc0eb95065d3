/- impl.ticksOf; spec.l02Shown's elements; PlaySheet: spec and impl. -/
import Derived.Test.YthkpefdjhdemeacPageAt
import Derived.Test.YthkpefdjhdemeacBack
namespace Go.Proofs.Ythkpefdjhdemeac
set_option maxRecDepth 100000
open Go.RowKit
set_option linter.unusedVariables false
set_option linter.unusedSimpArgs false
/-- Blocks of two types are two blocks. -/
theorem OwnL.ne_type {α : Type} {E : Enc α} {w : World} {base g : Nat} {t t' : TypeId} {v : Value} {L : List α} {cs : Array Value} (h : OwnL E w base t v L) (hr : Row w g t' cs) (ht : t ≠ t') : v.ownBlock ≠ some g := by
  intro e
  rcases h.form with ⟨rfl, _⟩ | ⟨g', cap, R, rfl, _, _, _, _, hr'⟩
  · simp [Value.ownBlock] at e
  · have : g' = g := by simpa [Value.ownBlock] using e
    subst this
    have := hr'.symm.trans hr
    simp at this
    exact ht this.2
theorem grown_row {w w' : World} {row : Option Nat} {g : Nat} {t : TypeId} {cs : Array Value} (h : Row w g t cs) (hg : w.grownBy w' row) (hne : row ≠ some g) : Row w' g t cs := (hg.block g h.lt (fun e => hne e.symm)).trans h
set_option maxHeartbeats 1000000 in
theorem ticksOf_any (u : Value) (n : Nat) (S : List (Int × Int)) (w : World) (ho : okS n S = true) (hn : n ≤ 40) (hs : SlAt eSh w w.heap.size u S) :
    Calls Try.prog 67 #[u] w (GivesV (eI .i64) 2 (shownL S) w) := by
  obtain ⟨B, d, rfl, h3, h4, hB⟩ := hs
  have h80 := (okS_iff.1 ho).1
  unfold maxLen at h4
  have hown := OwnL.nil_ (E := eI .i64) w w.heap.size 2
  have h0 := Below.refl w.heap.size w
  go_enter Try.func67, Try.ntmps67
  go_wp2
  go_loopw [3, 8] (fun v i wr => ∃ k : Nat, k ≤ S.length ∧ i = .int .i64 k ∧ OwnL (eI .i64) wr w.heap.size 2 v (shownL (S.take k)) ∧ Below w.heap.size w wr) (fun _ i _ => S.length - (intOf i).toNat)
  case atStart => exact ⟨0, by omega, rfl, hown, h0⟩
  case round =>
    clear hown h0
    obtain ⟨k, hk, rfl, hown, hb⟩ := hrel
    by_cases hlt : k < S.length
    · obtain ⟨b1, o1, rfl, hb1, r1⟩ := hB (by omega)
      have g1 := range_below (range_part r1 (sAt_get hlt)) hb hb1
      rw [eSh_n] at g1
      have hh := okS_holds ho hlt
      have ht := shown_take hlt
      have hl := shown_len ho k hk
      clear hB r1
      obtain ⟨x, y, hxy⟩ : ∃ x y, sAt S k = (x, y) := ⟨_, _, rfl⟩
      rw [hxy] at g1 hh ht
      dsimp only at hh ht
      obtain ⟨m, rfl⟩ := Int.eq_ofNat_of_zero_le (show 0 ≤ y by omega)
      rw [Int.toNat_natCast] at ht
      have HT := Lib.hid ht
      clear hxy ht
      have hm24 : m ≤ 24 := by omega
      have row := Row.new wr 73 (SC (x, (m : Int)))
      replace hown := hown.alloc (.cells (SC (x, (m : Int))) 73)
      replace hb := hb.alloc hb.size (.cells (SC (x, (m : Int))) 73)
      go_wp2_with (refine wpList_load_el (E := eSh) rfl 73 _ rfl _ _ rfl (x, (m : Int)) #[.int .i8 x, .int .i8 m] rfl g1 Try.underlying73 rfl (by kernel_rfl) ?_)
      change Code.wp _ _ _ _ (wr.alloc (.cells (SC (x, (m : Int))) 73))
      clear g1
      generalize wr.alloc (.cells (SC (x, (m : Int))) 73) = w2 at *
      generalize wr.heap.size = gs at *
      go_loopw [3, 14] (fun v j wr => ∃ q : Nat, q ≤ m ∧ j = .int .i8 q ∧ Row wr gs 73 (SC (x, (m : Int))) ∧ OwnL (eI .i64) wr w.heap.size 2 v (shownL (S.take k) ++ List.replicate q x) ∧ Below w.heap.size w wr) (fun _ j _ => m - (intOf j).toNat)
      case atStart => exact ⟨0, by omega, rfl, row, by simpa using hown, hb⟩
      case round =>
        clear row hown hb
        obtain ⟨q, hq, rfl, row, hown, hb⟩ := hrel
        have c0 : wr.cell? ⟨gs, 0, none⟩ = some (.int .i8 x) := by rw [Row.cell row]; rfl
        by_cases hlq : q < m
        · have k0 : IntKind.i64.wrap x = x := IntWalk.i64_in _ (by omega)
          have hlen : (shownL (S.take k) ++ List.replicate q x).length ≤ 1000000000 := by rw [List.length_append, List.length_replicate]; omega
          have hsz := hb.size
          have hne := hown.ne_type row (by decide)
          go_wp2_with (at_builtin; refine wpList_append_one rfl _ _ 24 rfl w.heap.size 2 Try.underlying24 infoI64 rfl (by decide) (by omega) (hown.alloc _) rfl x rfl (range_new _ _ _) hlen (by simp; omega) ?_; intro v' w4 hown' hgrow)
          have k8 : IntKind.i8.wrap ((q : Int) + 1) = ((q + 1 : Nat) : Int) := by rw [IntWalk.i8_in _ (by omega)]; omega
          go_roundw
          case rel =>
            go_light
            refine ⟨q + 1, by omega, by first | rw [k8] | rfl, grown_row (row.alloc _) hgrow hne, ?_, (hown.alloc _).grown_below (hb.alloc hb.size _) hgrow (Nat.le_refl _) (by simp; omega)⟩
            rw [rep_succ, ← List.append_assoc]; exact hown'
          case measure => simp [intOf, k8]; omega
        · have hqm : q = m := by omega
          subst hqm
          clear c0
          go_wp2
          go_roundw
          case rel =>
            go_light
            exact ⟨k + 1, by omega, by go_num, by rw [HT.out]; exact hown, hb⟩
          case measure => simp [intOf]; omega
    · have hkl : k = S.length := by omega
      subst hkl
      clear hB
      rw [List.take_length] at hown
      go_wp2
      go_ret
      exact ⟨_, rfl, hown, hb⟩
theorem shown_mem {n : Nat} {S : List (Int × Int)} (h : okS n S = true) : ∀ x ∈ shownL S, 0 ≤ x ∧ x < n := by
  intro x hx
  unfold shownL at hx
  obtain ⟨s, hs, hx⟩ := List.mem_flatMap.1 hx
  obtain ⟨i, hi⟩ := List.getElem?_of_mem hs
  have hlt := (List.getElem?_eq_some_iff.1 hi).1
  rw [sAt_get hlt] at hi
  have := okS_holds h hlt
  rw [Option.some.inj hi] at this
  obtain ⟨_, rfl⟩ := List.mem_replicate.1 hx
  exact ⟨this.1, this.2.1⟩
def playL (L : List (Nat → Nat)) (M : List Int) : List (Nat → Nat) := tab (fun i => fAt L (M.getD i 0).toNat) M.length
def plC (L : List (Nat → Nat)) (S : List (Int × Int)) : Int := if okBS L S then (if (shownL S).length ≤ 40 then 0 else 3) else 1
theorem plC_cases (L : List (Nat → Nat)) (S : List (Int × Int)) : (okBS L S = false ∧ plC L S = 1) ∨ (okBS L S = true ∧ 40 < (shownL S).length ∧ plC L S = 3) ∨ (okBS L S = true ∧ (shownL S).length ≤ 40 ∧ plC L S = 0) := by
  unfold plC
  cases okBS L S
  · simp
  · by_cases h : (shownL S).length ≤ 40
    · simp [h]
    · simp [h]; omega
theorem play_if_len (L : List (Nat → Nat)) (S : List (Int × Int)) : (ifL (plC L S) (playL L (shownL S))).length ≤ 1000 := by
  refine ifL_len fun hc => ?_
  rcases plC_cases L S with ⟨_, h⟩ | ⟨_, _, h⟩ | ⟨_, h1, _⟩
  · omega
  · omega
  · unfold playL; rw [tab_length]; omega
end Go.Proofs.Ythkpefdjhdemeac
