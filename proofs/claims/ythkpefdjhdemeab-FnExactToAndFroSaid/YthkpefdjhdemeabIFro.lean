/- impl: ToAndFro. -/
import Derived.Test.YthkpefdjhdemeabRows
import Derived.Test.YthkpefdjhdemeabSFro
import Derived.Lib.MinMax
namespace Go.Proofs.Ythkpefdjhdemeab
set_option maxRecDepth 100000
open Go.RowKit
set_option linter.unusedVariables false
set_option linter.unusedSimpArgs false
theorem toAndFro_any (v : Value) (L : List (Nat → Nat)) (i : Nat) (w : World) (hlen : L.length ≤ 40) (hi : i < froN L.length) (h : SlAt eFr w w.heap.size v L) :
    Calls Try.prog 75 #[v, .int .i64 i] w fun e w' => e = .returned (.agg (FC (froF L i))) ∧ Below w.heap.size w w' := by
  have hb0 := (Below.refl w.heap.size w).alloc (Nat.le_refl _) (.cells (FC zeroF) 54)
  have b2 := Blk.new w 54 zeroF
  rw [FC_zero] at hb0 b2
  have hN : froN L.length ≤ 2 * L.length - 1 := by unfold froN; split <;> omega
  by_cases hlt : i < L.length
  · have hv : froF L i = fAt L i := by unfold froF; rw [if_pos hlt]
    rw [hv]
    clear hv
    obtain ⟨A, c, rfl, h1, h2, hA⟩ := h
    obtain ⟨b1, o1, rfl, hb1, r1⟩ := hA (by omega)
    have g1 := range_below (range_part r1 (fAt_get hlt)) hb0 hb1
    rw [eFr_n] at g1
    clear hA r1
    go_enter Try.func75, Try.ntmps75
    go_wp2_with (first | (refine wpList_load_at rfl 54 52 _ rfl _ _ rfl g1 Try.underlying54 (by kernel_rfl) ?_) | (refine wpList_store_fr rfl 54 _ _ rfl _ rfl b2 rfl (by kernel_rfl) ?_))
    exact bodyPost_ret_fr (p := 4) (ty := 54) (e := 52) rfl rfl (b2.setRow _) Try.underlying54 (by kernel_rfl) rfl ⟨rfl, below_setRow hb0 (Nat.le_refl _) _⟩
  · have hv : froF L i = fAt L (L.length - 1 - (i - L.length + 1)) := by unfold froF; rw [if_neg hlt]; congr 1; omega
    rw [hv]
    clear hv
    obtain ⟨A, c, rfl⟩ := h.form
    have hN2 : i ≤ 2 * L.length - 2 := by omega
    have k0 : IntKind.i64.wrap ((i : Int) - (L.length : Int)) = ((i - L.length : Nat) : Int) := by rw [IntWalk.i64_in _ (by omega)]; omega
    have k1 : IntKind.i64.wrap (((i - L.length : Nat) : Int) + 1) = ((i - L.length + 1 : Nat) : Int) := by rw [IntWalk.i64_in _ (by omega)]; omega
    have hlt1 : i - L.length + 1 < L.length := by unfold froN at hi; split at hi <;> omega
    have cF := fun (W : World) (hW : Below w.heap.size w W) => fromLast_any _ L (i - L.length + 1) W hlen hlt1 (h.later hW)
    generalize i - L.length + 1 = p at *
    generalize i - L.length = p0 at *
    have CF := Lib.hid cF
    clear cF h
    go_enter Try.func75, Try.ntmps75
    go_wp2_with fail
    generalize w.alloc _ = w1 at *
    (try rw [k1])
    refine (CF.out _ hb0).mono ?_
    rintro e w2 ⟨rfl, hb2⟩
    replace b2 := b2.below hb2 b2.lt
    replace hb0 := grown_below hb0 hb2 hb0.size
    go_wp2_with (refine wpList_store_fr rfl 54 _ _ rfl _ rfl b2 rfl (by kernel_rfl) ?_)
    exact bodyPost_ret_fr (p := 4) (ty := 54) (e := 52) rfl rfl (b2.setRow _) Try.underlying54 (by kernel_rfl) rfl ⟨rfl, below_setRow hb0 (Nat.le_refl _) _⟩
theorem callToAndFro (v : Value) (x : Int) (w : World) : (callFunc 75 #[v, .int .i64 x]).run Try.prog w = .ok (.enter 75 #[v, .int .i64 x]) w := by kernel_rfl
set_option maxHeartbeats 1000000 in
theorem implToAndFro_any (v : Value) (L : List (Nat → Nat)) (w : World) (hL : ltL L) (h : SlAt eFr w w.heap.size v L) :
    Calls Try.prog 39 #[v] w (GivesL eFr 54 (ifL (froC L) (froL L)) (froC L) w) := by
  have cV := implValidBook_any v L w hL h
  have cJ := fun (hlen : L.length ≤ 40) (w1 : World) (hb1 : Below w.heap.size w w1) => listBy_fr (froN L.length : Int) 75 v (froF L) w1 (by omega) (by unfold froN; split <;> omega) (callToAndFro v) (fun i hi w2 hb2 => toAndFro_any v L i w2 hlen (by omega) ((h.later hb1).later hb2))
  rw [Int.toNat_natCast] at cJ
  obtain ⟨A, c, rfl⟩ := h.form
  rcases froC_cases L with ⟨ho, hc⟩ | ⟨ho, h40, hc⟩ | ⟨ho, h40, hc⟩
  · rw [ho] at cV
    rw [hc, ifL1 _ (by decide)]
    clear ho hc h cJ
    go_enter Try.func39, Try.ntmps39
    go_wp2_with (go_at_call 18; refine cV.mono ?_; rintro e w1 ⟨rfl, hb1⟩)
    go_ret2
    exact ⟨_, rfl, OwnL.nil_ _ _ _, hb1⟩
  all_goals
    have hlen := okB_len ho
    have CJ := Lib.hid (cJ hlen)
    rw [ho] at cV
    rw [hc]
    clear ho hc h cJ
    have hm1 : IntKind.i64.wrap (2 * (L.length : Int)) = 2 * (L.length : Int) := IntWalk.i64_in _ (by omega)
    have hm2 : IntKind.i64.wrap (2 * (L.length : Int) - 2) = 2 * (L.length : Int) - 2 := IntWalk.i64_in _ (by omega)
    have hmx : max (L.length : Int) (2 * (L.length : Int) - 2) = (froN L.length : Int) := by unfold froN; split <;> omega
    have hfl := froL_length L
  · rw [ifL1 _ (by decide)]
    clear CJ hfl
    generalize froN L.length = N at *
    go_enter Try.func39, Try.ntmps39
    go_wp2_with (go_at_call 18; refine cV.mono ?_; rintro e w1 ⟨rfl, hb1⟩)
    go_ret2
    exact ⟨_, rfl, OwnL.nil_ _ _ _, hb1⟩
  · rw [ifL0]
    unfold froL
    clear hfl
    generalize froN L.length = N at *
    go_enter Try.func39, Try.ntmps39
    go_wp2_with (first | (go_at_call 18; refine cV.mono ?_; rintro e w1 ⟨rfl, hb1⟩) | (go_at_call 72; refine (CJ.out _ hb1).mono ?_; rintro e w2 ⟨u, rfl, hown, hb2⟩))
    go_ret2
    exact ⟨_, rfl, hown.mono hb1.size, hb1.trans (hb2.mono hb1.size)⟩
end Go.Proofs.Ythkpefdjhdemeab
