/- slices.Backward over a track; the keys of a track that is played backward. -/
import Derived.Test.YtennmnkjdchbhabDoorRows
import Derived.Test.YtennmnkjdchbhabDoorKey0
import Derived.Test.YtennmnkjdchbhabDoorTrackM
import Derived.Test.YtennmnkjdchbhabDoorIter
import Derived.Shelf.Abstract
import Derived.WalkKit
import Derived.OwnWalkIn
import Derived.TacticsInMore
import Derived.LoopNIn
import Derived.LoopIn
import Derived.RangeFuncBox
namespace Go.Proofs.YtennmnkjdchbhabDoor
open Go.RowKit Go.Shelf
set_option linter.unusedVariables false
attribute [local go_sem] Oper.semAt_some
/-- What comes: index and key, from the last one on. -/
def bwL (L : List (Int × Int × Int)) : List (Nat × (Int × Int × Int)) := tab (fun j => (L.length - 1 - j, kAt L (L.length - 1 - j))) L.length
def bwEnc (x : Nat × (Int × Int × Int)) : Array Value := #[.int .i64 (x.1 : Int), .agg (KC x.2)]
/-- What a round keeps: what lay below n₀, and the box with the list. -/
def KeepB (n₀ Bs : Nat) (W W' : World) : Prop := Below n₀ W W' ∧ (∀ o, W.heap[Bs]? = some o → W'.heap[Bs]? = some o)
theorem KeepB.t {n₀ Bs : Nat} {A B C : World} (h : KeepB n₀ Bs A B) (k : KeepB n₀ Bs B C) : KeepB n₀ Bs A C := ⟨h.1.trans k.1, fun o ho => k.2 o (h.2 o ho)⟩
theorem KeepB.b {n₀ Bs : Nat} {w : World} (hn : n₀ ≤ w.heap.size) (hB : Bs < w.heap.size) (W : World) (l : Nat) (o o' : Obj) (hl : w.heap.size ≤ l) (h : W.heap[l]? = some o) (h1 : o.isCells = false) (h2 : o.isWalk = false) : KeepB n₀ Bs W (W.putObj l o') :=
  ⟨belowK_b hn W l o o' hl h h1 h2, fun u hu => (World.putObj_heap_other (by omega)).trans hu⟩
theorem KeepB.boxed {n₀ Bs : Nat} {t : TypeId} {v : Value} {W W' : World} (h : Below n₀ W W') (h1 : Boxed W Bs t v) (h2 : Boxed W' Bs t v) : KeepB n₀ Bs W W' := ⟨h, fun o ho => by rw [show W.heap[Bs]? = _ from h1] at ho; cases ho; exact h2⟩
theorem boxed_below {B S : Nat} {t : TypeId} {v : Value} {W W' : World} (h : Boxed W B t v) (hb : Below S W W') (hB : B < S) : Boxed W' B t v := (hb.block B hB).trans h
theorem KeepB.refl (n₀ Bs : Nat) (W : World) : KeepB n₀ Bs W W := ⟨Below.refl _ _, fun _ h => h⟩
theorem boxed_keepB {n₀ Bs : Nat} {t : TypeId} {v : Value} {W W' : World} (h : Boxed W Bs t v) (k : KeepB n₀ Bs W W') : Boxed W' Bs t v := k.2 _ h
set_option maxRecDepth 100000 in
set_option maxHeartbeats 2000000 in
theorem backw1_in (n : Nat) (hn : 1 ≤ n) (l Bs n₀ : Nat) (A : Option Addr) (c : Nat) (L : List (Int × Int × Int)) (J Jx : List (Nat × (Int × Int × Int)) → World → Prop)
    (hY : ∀ pre x W, J pre W → pre ++ [x] <+: bwL L → YieldAt Fence.wide (n - 1) Tryd.prog l (bwEnc x) W fun e W' =>
      (e = .returned (.bool true) ∧ J (pre ++ [x]) W' ∧ KeepB n₀ Bs W W') ∨ (e = .returned (.bool false) ∧ Jx (pre ++ [x]) W'))
    (W : World) (hB : Boxed W Bs 25 (.slice A L.length c)) (hl : L.length ≤ 1000000) (hS : SlAt eKy W n₀ (.slice A L.length c) L) (h0 : J [] W) :
    CallsIn Fence.wide n Tryd.prog 94 #[.func (.yield l) #[] #[], .pointer (some ⟨Bs, 0, none⟩)] W fun e W' => (∃ v, e = .returned v) ∧
      ((∃ ys, ys = bwL L ∧ J ys W') ∨ (∃ pre, pre <+: bwL L ∧ Jx pre W')) := by
  obtain ⟨A', c', hv, h1, h2, hA⟩ := hS
  cases hv
  have q0 : IntKind.i64.wrap ((L.length : Int) - 1) = (L.length : Int) - 1 := IntWalk.i64_in _ (by omega)
  have cB := hB.cell
  refine callsIn_of_wp Tryd.func94 rfl trivial ?_ rfl
  simp only [Tryd.ntmps94, List.size_toArray, List.length_cons, List.length_nil, Nat.reduceAdd, Nat.reduceSub, Array.replicate_succ, Array.replicate_zero, List.push_toArray, List.append_toArray, List.nil_append, List.cons_append]
  gi_wp2
  clear cB
  gi_loopw [3] (fun i wr => ∃ k : Nat, k ≤ L.length ∧ i = .int .i64 ((L.length : Int) - 1 - (k : Int)) ∧ J ((bwL L).take k) wr ∧ KeepB n₀ Bs W wr) (fun i _ => (intOf i + 1).toNat)
  case atStart => exact ⟨0, by omega, by simp, h0, KeepB.refl _ _ _⟩
  case round =>
    obtain ⟨k, hk, rfl, hJs, hnx⟩ := hrel
    have bB := boxed_keepB hB hnx
    have cB := bB.cell
    by_cases hlt : k < L.length
    · obtain ⟨b, o, rfl, hb, r1⟩ := hA (by omega)
      have hm : (L.length : Int) - 1 - (k : Int) = ((L.length - 1 - k : Nat) : Int) := by omega
      have hlm : L.length - 1 - k < L.length := by omega
      have g1 := range_below (range_part r1 (kAt_get hlm)) hnx.1 hb
      rw [eKy_n] at g1
      have hst : (bwL L).take (k + 1) = (bwL L).take k ++ [(L.length - 1 - k, kAt L (L.length - 1 - k))] := by
        rw [List.take_add_one, bwL, tab_get _ hlt]; rfl
      obtain ⟨fn, tmps, assign, body, hyy, hR⟩ := hY _ _ wr hJs (by rw [← hst]; exact List.take_prefix _ _)
      rw [← hst] at hR
      simp only [bwEnc] at hyy
      rw [hm]
      generalize L.length - 1 - k = m at *
      generalize kAt L m = a at *
      obtain ⟨x, y, z⟩ := a
      unfold KC at hyy
      dsimp only at hyy
      have c0 := ky_cell0 (s := (x, y, z)) g1
      have c1 := ky_cell1 (s := (x, y, z)) g1
      have c2 := ky_cell2 (s := (x, y, z)) g1
      dsimp only at c0 c1 c2
      have hge : (0 : Int) ≤ (m : Int) := by omega
      have hq : IntKind.i64.wrap ((m : Int) - 1) = (m : Int) - 1 := IntWalk.i64_in _ (by omega)
      clear hst r1 hA g1
      gi_wp2
      refine hR.mono ?_
      rintro e W3 (⟨rfl, hJ3, hk3⟩ | ⟨rfl, hJx3⟩)
      · have bB3 := (boxed_keepB bB hk3).cell
        gi_wp2
        go_roundw
        case rel => exact ⟨k + 1, by omega, by first | (congr 1; done) | (congr 1; omega), hJ3, hnx.t hk3⟩
        case measure => (simp [intOf]) <;> omega
      · gi_wp2
        refine bodyPost_ret (results_none rfl _ _ _) rfl ?_
        exact ⟨⟨_, rfl⟩, .inr ⟨_, List.take_prefix _ _, hJx3⟩⟩
    · obtain rfl : k = L.length := by omega
      have hm : (L.length : Int) - 1 - (L.length : Int) = -1 := by omega
      rw [hm]
      have hJs' : J (bwL L) wr := by
        have e : (bwL L).take L.length = bwL L := List.take_of_length_le (by rw [bwL, tab_length]; exact Nat.le_refl _)
        rw [e] at hJs; exact hJs
      gi_wp2
      go_end0
      exact ⟨⟨_, rfl⟩, .inl ⟨_, rfl, hJs'⟩⟩
set_option maxHeartbeats 1000000 in
theorem backward_in (n : Nat) (A : Option Addr) (len c : Nat) (w : World) :
    CallsIn Fence.wide n Tryd.prog 68 #[.slice A len c] w fun e w' => e = .returned (.func (.func 94) #[] #[.pointer (some ⟨w.heap.size, 0, none⟩)]) ∧ w' = w.alloc (.cells #[.slice A len c] 25) := by
  refine callsIn_of_wp Tryd.func68 rfl trivial ?_ rfl
  simp only [Tryd.ntmps68, List.size_toArray, List.length_cons, List.length_nil, Nat.reduceAdd, Nat.reduceSub, Array.replicate_succ, Array.replicate_zero, List.push_toArray, List.append_toArray, List.nil_append, List.cons_append]
  gi_wp2
  go_ret
  exact ⟨rfl, rfl⟩
theorem back_stops (n : Nat) (hn : 1 ≤ n) (Bs n₀ : Nat) (A : Option Addr) (c : Nat) (L : List (Int × Int × Int)) (w : World) (hB : Boxed w Bs 25 (.slice A L.length c)) (hn₀ : n₀ ≤ w.heap.size) (hl : L.length ≤ 1000000) (hS : SlAt eKy w n₀ (.slice A L.length c) L) :
    StopsL n Tryd.prog 94 #[.pointer (some ⟨Bs, 0, none⟩)] bwEnc (KeepB n₀ Bs) (bwL L) w := fun l J Jx W hW hY h0 =>
  backw1_in n hn l Bs n₀ A c L J Jx hY W ((hW.block Bs hB.lt).trans hB) hl (hS.keep fun b hb => hW.block b (Nat.lt_of_lt_of_le hb hn₀)) h0
/-- A track that is played backward. -/
def bkF (L : List (Int × Int × Int)) (j : Nat) : Int × Int × Int := ((kAt L 0).1 + (kAt L (L.length - 1)).1 - (kAt L (L.length - 1 - j)).1, (kAt L (L.length - 1 - j)).2.1, (kAt L (L.length - 1 - j)).2.2)
def bkL (L : List (Int × Int × Int)) : List (Int × Int × Int) := tab (bkF L) L.length
theorem bkL_len (L : List (Int × Int × Int)) : (bkL L).length = L.length := tab_length _ _
theorem kAt_tab {f : Nat → Int × Int × Int} {n i : Nat} (h : i < n) : kAt (tab f n) i = f i := by
  unfold kAt
  rw [List.getD_eq_getElem?_getD, tab_get f h]; rfl
theorem bk_in {L : List (Int × Int × Int)} (ho : okT L = true) {i : Nat} (hi : i < L.length) : (kAt L 0).1 ≤ (kAt L i).1 ∧ (kAt L i).1 ≤ (kAt L (L.length - 1)).1 := by
  constructor
  · rcases Nat.eq_zero_or_pos i with rfl | h
    · exact Int.le_refl _
    · have := okT_lt ho h hi; omega
  · rcases Nat.lt_or_ge i (L.length - 1) with h | h
    · have := okT_lt ho h (by omega); omega
    · obtain rfl : i = L.length - 1 := by omega
      exact Int.le_refl _
theorem bkL_ok {L : List (Int × Int × Int)} (ho : okT L = true) : okT (bkL L) = true := by
  have hlen := (okT_iff.1 ho).1
  refine okT_iff.2 ⟨by rw [bkL_len]; exact hlen, fun i hi => ?_⟩
  rw [bkL_len] at hi
  have k0 := okT_key ho (show 0 < L.length by omega)
  have kl := okT_key ho (show L.length - 1 < L.length by omega)
  have km := okT_key ho (show L.length - 1 - i < L.length by omega)
  have kb := bk_in ho (show L.length - 1 - i < L.length by omega)
  refine stepK_ok ?_ (fun h0 => ?_)
  · unfold bkL
    rw [kAt_tab hi]
    unfold bkF
    exact inK_ok (inB_iff.2 (by dsimp only; omega)) (inB_iff.2 (by dsimp only; omega)) (inB_iff.2 (by dsimp only; omega))
  · unfold bkL
    rw [kAt_tab hi, kAt_tab (by omega)]
    unfold bkF
    dsimp only
    have := okT_lt ho (show L.length - 1 - i < L.length - 1 - (i - 1) by omega) (by omega)
    omega
theorem bkL_lt {L : List (Int × Int × Int)} (ho : okT L = true) : ltK (bkL L) := by
  intro x hx
  obtain ⟨i, hi⟩ := List.getElem?_of_mem hx
  have hlt := (List.getElem?_eq_some_iff.1 hi).1
  have q := okT_key (bkL_ok ho) hlt
  rw [kAt_get hlt] at hi
  cases hi
  unfold ltK1
  omega
end Go.Proofs.YtennmnkjdchbhabDoor
