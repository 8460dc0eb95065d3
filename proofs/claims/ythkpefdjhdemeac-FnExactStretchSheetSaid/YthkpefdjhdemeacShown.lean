/- The pages shown at all ticks: spec.l02Shown, impl.lengthOf; SheetLength. -/
import Derived.Test.YthkpefdjhdemeacSheet
namespace Go.Proofs.Ythkpefdjhdemeac
set_option maxRecDepth 100000
open Go.RowKit
set_option linter.unusedVariables false
set_option linter.unusedSimpArgs false
def shownL (S : List (Int × Int)) : List Int := S.flatMap fun s => List.replicate s.2.toNat s.1
theorem shown_take {S : List (Int × Int)} {k : Nat} (h : k < S.length) : shownL (S.take (k + 1)) = shownL (S.take k) ++ List.replicate (sAt S k).2.toNat (sAt S k).1 := by
  unfold shownL
  rw [List.take_add_one, sAt_get h]
  simp
theorem okS_holds {n : Nat} {S : List (Int × Int)} (h : okS n S = true) {i : Nat} (hi : i < S.length) : 0 ≤ (sAt S i).1 ∧ (sAt S i).1 < n ∧ 1 ≤ (sAt S i).2 ∧ (sAt S i).2 ≤ 24 := by
  have := (okS_iff.1 h).2 i hi
  unfold inS at this
  rw [Bool.and_eq_true, inB_iff, inB_iff] at this
  omega
theorem shown_len {n : Nat} {S : List (Int × Int)} (h : okS n S = true) : ∀ k, k ≤ S.length → k ≤ (shownL (S.take k)).length ∧ (shownL (S.take k)).length ≤ 24 * k
  | 0, _ => by simp [shownL]
  | k + 1, hk => by
    have ih := shown_len h k (by omega)
    have := okS_holds h (i := k) (by omega)
    rw [shown_take (by omega), List.length_append, List.length_replicate]
    omega
theorem shown_len_all {n : Nat} {S : List (Int × Int)} (h : okS n S = true) : (shownL S).length ≤ 1920 := by
  have h1 := (okS_iff.1 h).1
  have := (shown_len h S.length (Nat.le_refl _)).2
  rw [List.take_length] at this
  omega
theorem rep_succ (q : Nat) (x : Int) : List.replicate (q + 1) x = List.replicate q x ++ [x] := List.replicate_succ'
set_option maxHeartbeats 1000000 in
theorem shown_any (u : Value) (n : Nat) (S : List (Int × Int)) (w : World) (ho : okS n S = true) (hn : n ≤ 40) (hs : SlAt eSh w w.heap.size u S) :
    Calls Try.prog 63 #[u] w (GivesV (eI .i64) 2 (shownL S) w) := by
  obtain ⟨B, d, rfl, h3, h4, hB⟩ := hs
  have h80 := (okS_iff.1 ho).1
  unfold maxLen at h4
  have hown := OwnL.made (E := eI .i64) w w.heap.size 2 (Nat.le_refl _)
  have h0 := (Below.refl w.heap.size w).alloc (Nat.le_refl _) (.cells #[] 2)
  go_enter Try.func63, Try.ntmps63
  go_wp2
  generalize (w.alloc (.cells #[] 2)) = w1 at *
  go_loopw [3, 4] (fun v i wr => ∃ k : Nat, k ≤ S.length ∧ i = .int .i64 k ∧ OwnL (eI .i64) wr w.heap.size 2 v (shownL (S.take k)) ∧ Below w.heap.size w wr) (fun _ i _ => S.length - (intOf i).toNat)
  case atStart => exact ⟨0, by omega, rfl, hown, h0⟩
  case round =>
    clear hown h0
    obtain ⟨k, hk, rfl, hown, hb⟩ := hrel
    by_cases hlt : k < S.length
    · obtain ⟨b1, o1, rfl, hb1, r1⟩ := hB (by omega)
      have g1 := range_part r1 (sAt_get hlt)
      rw [eSh_n] at g1
      have hh := okS_holds ho hlt
      have HT := Lib.hid (shown_take hlt)
      have hl := shown_len ho k hk
      clear hB r1
      generalize hx : (sAt S k).1 = x at *
      obtain ⟨m, hm⟩ : ∃ m : Nat, (sAt S k).2 = m := ⟨(sAt S k).2.toNat, by omega⟩
      have c0 := fun w' (hb' : Below w.heap.size w w') => sh_cell0 (range_below g1 hb' hb1)
      have c1 := fun w' (hb' : Below w.heap.size w w') => sh_cell1 (range_below g1 hb' hb1)
      rw [hx] at c0
      rw [hm] at c1 hh
      rw [hm, Int.toNat_natCast] at HT
      have hm24 : m ≤ 24 := by omega
      clear hx hm g1
      go_wp2
      go_loopw [3, 5] (fun v j wr => ∃ q : Nat, q ≤ m ∧ j = .int .i8 q ∧ OwnL (eI .i64) wr w.heap.size 2 v (shownL (S.take k) ++ List.replicate q x) ∧ Below w.heap.size w wr) (fun _ j _ => m - (intOf j).toNat)
      case atStart => exact ⟨0, by omega, rfl, by simpa using hown, hb⟩
      case round =>
        clear hown hb
        obtain ⟨q, hq, rfl, hown, hb⟩ := hrel
        have c0 := c0 _ hb
        have c1 := c1 _ hb
        by_cases hlq : q < m
        · have k0 : IntKind.i64.wrap x = x := IntWalk.i64_in _ (by omega)
          have hlen : (shownL (S.take k) ++ List.replicate q x).length ≤ 1000000000 := by rw [List.length_append, List.length_replicate]; omega
          have hsz := hb.size
          go_wp2_with (at_builtin; refine wpList_append_one rfl _ _ 24 rfl w.heap.size 2 Try.underlying24 infoI64 rfl (by decide) (by omega) (hown.alloc _) rfl x rfl (range_new _ _ _) hlen (by simp; omega) ?_; intro v' w4 hown' hgrow)
          have k8 : IntKind.i8.wrap ((q : Int) + 1) = ((q + 1 : Nat) : Int) := by rw [IntWalk.i8_in _ (by omega)]; omega
          go_roundw
          case rel =>
            go_light
            refine ⟨q + 1, by omega, by first | rw [k8] | rfl, ?_, (hown.alloc _).grown_below (hb.alloc hb.size _) hgrow (Nat.le_refl _) (by simp; omega)⟩
            rw [rep_succ, ← List.append_assoc]; exact hown'
          case measure => simp [intOf, k8]; omega
        · have hqm : q = m := by omega
          subst hqm
          go_wp2
          go_roundw
          case rel =>
            go_light
            exact ⟨k + 1, by omega, by go_num, by rw [HT.out]; exact hown, hb⟩
          case measure => simp [intOf]; omega
    · have hkl : k = S.length := by omega
      subst hkl
      clear hB
      rw [List.take_length] at hown
      go_wp2
      go_ret
      exact ⟨_, rfl, hown, hb⟩
set_option maxHeartbeats 1000000 in
theorem lengthOf_any (u : Value) (n : Nat) (S : List (Int × Int)) (w : World) (ho : okS n S = true) (hn : n ≤ 40) (hs : SlAt eSh w w.heap.size u S) :
    Calls Try.prog 64 #[u] w fun e w' => e = .returned (.int .i64 (shownL S).length) ∧ Below w.heap.size w w' := by
  obtain ⟨B, d, rfl, h3, h4, hB⟩ := hs
  have h80 := (okS_iff.1 ho).1
  unfold maxLen at h4
  go_enter Try.func64, Try.ntmps64
  go_wp2
  go_loopw [3, 8] (fun s i wr => ∃ k : Nat, k ≤ S.length ∧ i = .int .i64 k ∧ s = .int .i64 (shownL (S.take k)).length ∧ Below w.heap.size w wr) (fun _ i _ => S.length - (intOf i).toNat)
  case atStart => exact ⟨0, by omega, rfl, rfl, Below.refl _ _⟩
  case round =>
    obtain ⟨k, hk, rfl, rfl, hb⟩ := hrel
    by_cases hlt : k < S.length
    · obtain ⟨b1, o1, rfl, hb1, r1⟩ := hB (by omega)
      have g1 := range_below (range_part r1 (sAt_get hlt)) hb hb1
      rw [eSh_n] at g1
      have hh := okS_holds ho hlt
      have ht := congrArg List.length (shown_take hlt)
      have hl := shown_len ho k hk
      rw [List.length_append, List.length_replicate] at ht
      clear hB r1
      obtain ⟨x, y, hxy⟩ : ∃ x y, sAt S k = (x, y) := ⟨_, _, rfl⟩
      rw [hxy] at g1 hh ht
      dsimp only at hh ht
      have HT := Lib.hid ht
      clear hxy ht
      generalize hN : (shownL (S.take k)).length = N at *
      have k0 : IntKind.i64.wrap y = y := IntWalk.i64_in _ (by omega)
      have k1 : IntKind.i64.wrap ((N : Int) + y) = (N : Int) + y := IntWalk.i64_in _ (by omega)
      have hnb := hb.alloc hb.size (.cells (SC (x, y)) 73)
      go_wp2_with (refine wpList_load_el (E := eSh) rfl 73 _ rfl _ _ rfl (x, y) #[.int .i8 x, .int .i8 y] rfl g1 Try.underlying73 rfl (by kernel_rfl) ?_)
      go_roundw
      case rel =>
        go_light
        refine ⟨k + 1, by omega, by go_num, ?_, hnb⟩
        have := HT.out
        congr 1
        omega
      case measure => simp [intOf]; omega
    · have hkl : k = S.length := by omega
      subst hkl
      clear hB
      rw [List.take_length]
      go_wp2
      go_ret
      exact ⟨rfl, hb⟩
/-- The code of a call that asks for a valid book and a valid sheet. -/
def bsC (L : List (Nat → Nat)) (S : List (Int × Int)) : Int := if okBS L S then 0 else 1
theorem bsC_cases (L : List (Nat → Nat)) (S : List (Int × Int)) : (okBS L S = false ∧ bsC L S = 1) ∨ (okBS L S = true ∧ bsC L S = 0) := by unfold bsC; cases okBS L S <;> simp
theorem okBS_parts {L : List (Nat → Nat)} {S : List (Int × Int)} (h : okBS L S = true) : okB L = true ∧ L.length ≤ 40 ∧ okS L.length S = true := by
  unfold okBS at h
  rw [Bool.and_eq_true] at h
  exact ⟨h.1, okB_len h.1, h.2⟩
def lenV (L : List (Nat → Nat)) (S : List (Int × Int)) : Int := ifI (bsC L S) (shownL S).length
set_option maxHeartbeats 400000 in
theorem specSheetLength_any (v u : Value) (L : List (Nat → Nat)) (S : List (Int × Int)) (w : World) (hS : ltS S) (h : SlAt eFr w w.heap.size v L) (hs : SlAt eSh w w.heap.size u S) :
    Calls Try.prog 32 #[v, u] w fun e w' => e = .returned (.tuple #[.int .i64 (lenV L S), .int .i64 (bsC L S)]) ∧ Below w.heap.size w w' := by
  have cO := specSheet_any v u L S w hS h hs
  have cS := fun (w' : World) (hb : Below w.heap.size w w') (ho : okBS L S = true) => shown_any u L.length S w' (okBS_parts ho).2.2 (okBS_parts ho).2.1 (hs.later hb)
  obtain ⟨A, c, rfl⟩ := h.form
  obtain ⟨B, d, rfl⟩ := hs.form
  clear h hs
  unfold lenV
  rcases bsC_cases L S with ⟨ho, hc⟩ | ⟨ho, hc⟩
  · rw [ho] at cO
    rw [hc, ifI1 _ (by decide)]
    clear cS ho hc
    go_enter Try.func32, Try.ntmps32
    go_wp2_with (go_at_call 59; refine cO.mono ?_; rintro e w' ⟨rfl, hb⟩)
    go_ret2
    exact ⟨rfl, hb⟩
  · rw [ho] at cO
    rw [hc, ifI0]
    clear hc
    go_enter Try.func32, Try.ntmps32
    go_wp2_with (first | (go_at_call 59; refine cO.mono ?_; rintro e w3 ⟨rfl, hb⟩) | (go_at_call 63; refine (cS _ hb ho).mono ?_; rintro e w4 ⟨v', rfl, hown, hb4⟩; obtain ⟨A', c', rfl⟩ := hown.val))
    go_ret2
    exact ⟨rfl, grown_below hb hb4 hb.size⟩
set_option maxHeartbeats 400000 in
theorem implSheetLength_any (v u : Value) (L : List (Nat → Nat)) (S : List (Int × Int)) (w : World) (hL : ltL L) (hS : ltS S) (h : SlAt eFr w w.heap.size v L) (hs : SlAt eSh w w.heap.size u S) :
    Calls Try.prog 33 #[v, u] w fun e w' => e = .returned (.tuple #[.int .i64 (lenV L S), .int .i64 (bsC L S)]) ∧ Below w.heap.size w w' := by
  have cO := implValidSheet_any v u L S w hL hS h hs
  have cS := fun (w' : World) (hb : Below w.heap.size w w') (ho : okBS L S = true) => lengthOf_any u L.length S w' (okBS_parts ho).2.2 (okBS_parts ho).2.1 (hs.later hb)
  obtain ⟨A, c, rfl⟩ := h.form
  obtain ⟨B, d, rfl⟩ := hs.form
  clear h hs
  unfold lenV
  rcases bsC_cases L S with ⟨ho, hc⟩ | ⟨ho, hc⟩
  · rw [ho] at cO
    rw [hc, ifI1 _ (by decide)]
    clear cS ho hc
    go_enter Try.func33, Try.ntmps33
    go_wp2_with (go_at_call 30; refine cO.mono ?_; rintro e w' ⟨rfl, hb⟩)
    go_ret2
    exact ⟨rfl, hb⟩
  · rw [ho] at cO
    rw [hc, ifI0]
    clear hc
    go_enter Try.func33, Try.ntmps33
    go_wp2_with (first | (go_at_call 30; refine cO.mono ?_; rintro e w3 ⟨rfl, hb⟩) | (go_at_call 64; refine (cS _ hb ho).mono ?_; rintro e w4 ⟨rfl, hb4⟩))
    go_ret2
    exact ⟨rfl, grown_below hb hb4 hb.size⟩
end Go.Proofs.Ythkpefdjhdemeac
