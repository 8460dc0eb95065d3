/- The walk of the law FnEases: it returns true and writes nothing that was there. -/
import Derived.Test.YtoccklhfiojemabRows
import Derived.Test.YtoccklhfiojemabL1
import Derived.Test.YtoccklhfiojemabEase
import Derived.Test.YtoccklhfiojemabEaseM2
import Derived.Test.YtoccklhfiojemabIShareOf
import Derived.Test.YtoccklhfiojemabBetween
import Derived.Test.YtoccklhfiojemabSrc
namespace Go.Proofs.Ytoccklhfiojemab.wFnEases
set_option maxRecDepth 100000
open Go.RowKit
set_option linter.unusedVariables false
set_option linter.unusedSimpArgs false
theorem big_any (A : Option Addr) (n c : Nat) (w : World) (hn : n ≤ maxLen) : Calls Try.prog 10 #[.slice A n c] w fun e w' => e = .returned (.bool (decide (4096 < (n : Int)))) ∧ w = w' := by
  unfold maxLen at hn
  go_enter Try.func10, Try.ntmps10
  go_wp2
  go_ret
  exact ⟨rfl, rfl⟩
theorem getD_bd {B : List Int} (h : ∀ x ∈ B, 0 ≤ x ∧ x ≤ 255) (i : Nat) : 0 ≤ B.getD i 0 ∧ B.getD i 0 ≤ 255 := by
  rw [List.getD_eq_getElem?_getD]
  by_cases hi : i < B.length
  · rw [List.getElem?_eq_getElem hi]; exact h _ (List.getElem_mem hi)
  · rw [List.getElem?_eq_none (by omega)]; simp
theorem ease0 {e s n : Int} (he : 0 ≤ e ∧ e ≤ 3) (hn : 1 ≤ n ∧ n ≤ 200) (hs : 0 ≤ s ∧ s ≤ n) : easC e s n = 0 ∧ easV e s n = shareI e s n := by
  have h : easC e s n = 0 := by unfold easC; rw [inB_iff.2 he, inB_iff.2 hn, inB_iff.2 hs]; rfl
  exact ⟨h, by unfold easV; rw [h, if_pos rfl]⟩
theorem bet0 {a b s : Int} (ha : -1000 ≤ a ∧ a ≤ 1000) (hb : -1000 ≤ b ∧ b ≤ 1000) (hs : 0 ≤ s ∧ s ≤ 1000) : betC a b s = 0 ∧ betV a b s = betI a b s := by
  have h : betC a b s = 0 := by unfold betC; rw [inB_iff.2 ha, inB_iff.2 hb, inB_iff.2 hs]; rfl
  exact ⟨h, by unfold betV; rw [h, if_pos rfl]⟩
theorem specE (e s n : Int) (w : World) (he : 0 ≤ e ∧ e ≤ 3) (hn : 1 ≤ n ∧ n ≤ 200) (hs : 0 ≤ s ∧ s ≤ n) : Calls Try.prog 13 #[.int .i64 e, .int .i64 s, .int .i64 n] w fun r w' => r = .returned (.tuple #[.int .i64 (shareI e s n), .int .i64 0]) ∧ w = w' := by
  have := specEaseOf_any e s n w
  rwa [(ease0 he hn hs).2, (ease0 he hn hs).1] at this
theorem implE (e s n : Int) (w : World) (he : 0 ≤ e ∧ e ≤ 3) (hn : 1 ≤ n ∧ n ≤ 200) (hs : 0 ≤ s ∧ s ≤ n) : Calls Try.prog 12 #[.int .i64 e, .int .i64 s, .int .i64 n] w fun r w' => r = .returned (.tuple #[.int .i64 (shareI e s n), .int .i64 0]) ∧ Below w.heap.size w w' := by
  have := implEaseOf_any e s n w
  rwa [(ease0 he hn hs).2, (ease0 he hn hs).1] at this
theorem specB (a b s : Int) (w : World) (ha : -1000 ≤ a ∧ a ≤ 1000) (hb : -1000 ≤ b ∧ b ≤ 1000) (hs : 0 ≤ s ∧ s ≤ 1000) : Calls Try.prog 15 #[.int .i64 a, .int .i64 b, .int .i64 s] w fun r w' => r = .returned (.tuple #[.int .i64 (betI a b s), .int .i64 0]) ∧ w = w' := by
  have := specBetweenOf_any a b s w
  rwa [(bet0 ha hb hs).2, (bet0 ha hb hs).1] at this
theorem implB (a b s : Int) (w : World) (ha : -1000 ≤ a ∧ a ≤ 1000) (hb : -1000 ≤ b ∧ b ≤ 1000) (hs : 0 ≤ s ∧ s ≤ 1000) : Calls Try.prog 14 #[.int .i64 a, .int .i64 b, .int .i64 s] w fun r w' => r = .returned (.tuple #[.int .i64 (betI a b s), .int .i64 0]) ∧ w = w' := by
  have := implBetweenOf_any a b s w
  rwa [(bet0 ha hb hs).2, (bet0 ha hb hs).1] at this
set_option maxHeartbeats 8000000 in
theorem walk (va : Value) (La : List Int) (vb : Value) (Lb : List Int) (ha : ∀ x ∈ La, 0 ≤ x ∧ x ≤ 255) (hb : ∀ x ∈ Lb, 0 ≤ x ∧ x ≤ 255) (w : World) (sa : SlAt (eI .u8) w w.heap.size va La) (sb : SlAt (eI .u8) w w.heap.size vb Lb) :
    Calls Try.prog 4 #[va, vb] w fun e w' => e = .returned (.bool true) ∧ Below w.heap.size w w' := by
  have hma := sa.len
  have hmb := sb.len
  have h0 := Below.refl w.heap.size w
  obtain ⟨Aa, ca, rfl⟩ := sa.form
  obtain ⟨Ab, cb, rfl⟩ := sb.form
  have cA := fun w => big_any Aa La.length ca w hma
  have cB := fun w => big_any Ab Lb.length cb w hmb
  by_cases hza : 4096 < La.length
  · rw [decide_eq_true (by omega)] at cA
    go_enter Try.func4, Try.ntmps4
    go_wp2_with (go_at_call 10; refine (cA _).mono ?_; rintro e w' ⟨rfl, rfl⟩)
    go_ret
    exact ⟨rfl, h0⟩
  rw [decide_eq_false (by omega)] at cA
  by_cases hzb : 4096 < Lb.length
  · rw [decide_eq_true (by omega)] at cB
    go_enter Try.func4, Try.ntmps4
    go_wp2_with (go_at_call 10; first | (refine (cA _).mono ?_; rintro e w' ⟨rfl, rfl⟩; clear cA) | (refine (cB _).mono ?_; rintro e w' ⟨rfl, rfl⟩))
    go_ret
    exact ⟨rfl, h0⟩
  rw [decide_eq_false (by omega)] at cB
  have PA := Lib.hid (fun (n : Int) (hn : 1 ≤ n ∧ n ≤ 60000) (w' : World) (hb' : Below w.heap.size w w') => p6Pick_any _ La n w' hn (getD_bd ha) (by omega) (sa.later hb'))
  have PB := Lib.hid (fun (n : Int) (hn : 1 ≤ n ∧ n ≤ 60000) (w' : World) (hb' : Below w.heap.size w w') => p6Pick_any _ Lb n w' hn (getD_bd hb) (by omega) (sb.later hb'))
  clear ha hb sa sb hza hzb hma hmb
  go_enter Try.func4, Try.ntmps4
  go_wp2_with (go_at_call 10; first | (refine (cA _).mono ?_; rintro e w' ⟨rfl, rfl⟩; clear cA) | (refine (cB _).mono ?_; rintro e w' ⟨rfl, rfl⟩; clear cB))
  refine (PA.out 40 (by omega) _ h0).mono ?_
  rintro e w1 ⟨x, hx, rfl, hb1⟩
  replace h0 := grown_below h0 hb1 h0.size
  clear hb1
  have hx1 := hx.1
  have hx2 := hx.2
  have kx : IntKind.i64.wrap (1 + x) = 1 + x := IntWalk.i64_in _ (by omega)
  go_wp2
  generalize hnx : 1 + x = n at *
  have hn1 : 1 ≤ n := by omega
  have hn2 : n ≤ 40 := by omega
  clear hnx kx hx hx1 hx2
  go_loopw [6] (fun i wr => ∃ k : Nat, k ≤ 4 ∧ i = .int .i64 (k : Int) ∧ Below w.heap.size w wr) (fun i _ => 4 - (intOf i).toNat)
  case atStart => exact ⟨0, by omega, rfl, h0⟩
  case round =>
    clear h0
    obtain ⟨k, hk, rfl, hb⟩ := hrel
    by_cases hk4 : k < 4
    case pos =>
      have hke : (0 : Int) ≤ (k : Int) ∧ (k : Int) ≤ 3 := by omega
      have e0 : decide ((k : Int) < 4) = true := decide_eq_true (by omega)
      go_wp2
      obtain ⟨wo, rfl⟩ : ∃ wo : World, wo = wr := ⟨_, rfl⟩
      go_loopw [7, 8] (fun l j wr => ∃ s : Nat, (s : Int) ≤ n + 1 ∧ j = .int .i64 (s : Int) ∧ (∃ lv : Int, l = .int .i64 lv ∧ 0 ≤ lv ∧ (s ≤ n → lv ≤ shareI k s n)) ∧ Below w.heap.size w wr) (fun _ j _ => (n + 2 - intOf j).toNat)
      case atStart => exact ⟨0, by omega, rfl, ⟨0, rfl, by omega, fun _ => (shareI_bounds ⟨by omega, by omega⟩ (by omega)).1⟩, hb⟩
      case round =>
        clear hb
        obtain ⟨s, hs, rfl, ⟨lv, rfl, hl0, hlv⟩, hb⟩ := hrel
        by_cases hsn : (s : Int) ≤ n
        · have e3 : decide ((s : Int) ≤ n) = true := decide_eq_true hsn
          have cS := fun w => specE (k : Int) (s : Int) n w hke ⟨hn1, by omega⟩ ⟨by omega, hsn⟩
          have cI := fun w => implE (k : Int) (s : Int) n w hke ⟨hn1, by omega⟩ ⟨by omega, hsn⟩
          have hbd := shareI_bounds (e := (k : Int)) (s := (s : Int)) (n := n) ⟨by omega, hsn⟩ hn1
          have hz := shareI_zero (e := (k : Int)) hn1
          have hen := shareI_end (e := (k : Int)) hn1
          have hle := hlv hsn
          have HM := Lib.hid (fun h : (s : Int) + 1 ≤ n => shareI_mono (e := (k : Int)) (s := (s : Int)) (n := n) (by omega) h)
          have hv0 : (s : Int) = 0 → shareI (k : Int) (s : Int) n = 0 := fun e => by rw [e]; exact hz
          have hv1 : (s : Int) = n → shareI (k : Int) (s : Int) n = 1000 := fun e => by rw [e]; exact hen
          have hbd1 := hbd.1
          have hbd2 := hbd.2
          clear hlv hz hen hbd
          generalize shareI (k : Int) (s : Int) n = v at *
          have e1 : decide (v < lv) = false := decide_eq_false (by omega)
          have e2 : decide (1000 < v) = false := decide_eq_false (by omega)
          by_cases hs0 : s = 0
          · subst hs0
            have hv : v = 0 := hv0 rfl
            subst hv
            have hq : ((0 : Int) == n) = false := by simp; omega
            clear hv0 hv1
            go_wp2_with (first | (go_at_call 12; refine (cI _).mono ?_; rintro r w5 ⟨rfl, hb5⟩; replace hb := grown_below hb hb5 hb.size; clear hb5 cI) | (go_at_call 13; refine (cS _).mono ?_; rintro r w6 ⟨rfl, rfl⟩; clear cS))
            go_roundw
            case rel =>
              go_light
              exact ⟨1, by omega, by first | rfl | go_num, ⟨0, rfl, by omega, fun h => by have := HM.out (by omega); simpa using this⟩, hb⟩
            case measure => simp [intOf]; omega
          · have hq0 : (((s : Nat) : Int) == 0) = false := by simp; omega
            by_cases hse : (s : Int) = n
            · have hv : v = 1000 := hv1 hse
              subst hv
              subst hse
              have hq : (((s : Nat) : Int) == ((s : Nat) : Int)) = true := by simp
              clear hv0 hv1 HM
              go_wp2_with (first | (go_at_call 12; refine (cI _).mono ?_; rintro r w5 ⟨rfl, hb5⟩; replace hb := grown_below hb hb5 hb.size; clear hb5 cI) | (go_at_call 13; refine (cS _).mono ?_; rintro r w6 ⟨rfl, rfl⟩; clear cS))
              go_roundw
              case rel =>
                go_light
                exact ⟨s + 1, by omega, by first | rfl | go_num, ⟨1000, rfl, by omega, fun h => by omega⟩, hb⟩
              case measure => simp [intOf]; omega
            · have hq : (((s : Nat) : Int) == n) = false := by simp; omega
              have hlt : (s : Int) + 1 ≤ n := by omega
              have HL := Lib.hid (show shareI (k : Int) (((s + 1 : Nat)) : Int) n ≥ v by have := HM.out hlt; simpa using this)
              clear hv0 hv1 hse HM
              go_wp2_with (first | (go_at_call 12; refine (cI _).mono ?_; rintro r w5 ⟨rfl, hb5⟩; replace hb := grown_below hb hb5 hb.size; clear hb5 cI) | (go_at_call 13; refine (cS _).mono ?_; rintro r w6 ⟨rfl, rfl⟩; clear cS))
              go_roundw
              case rel =>
                go_light
                exact ⟨s + 1, by omega, by first | rfl | go_num, ⟨v, rfl, by omega, fun h => HL.out⟩, hb⟩
              case measure => simp [intOf]; omega
        · go_wp2
          go_roundw
          case rel =>
            go_light
            exact ⟨k + 1, by omega, by first | rfl | go_num, hb⟩
          case measure => simp [intOf]; omega
    case neg =>
      have hk44 : k = 4 := by omega
      subst hk44
      have e0 : decide (((4 : Nat) : Int) < 4) = false := by decide
      go_wp2_with fail
      refine (PB.out 60 (by omega) _ hb).mono ?_
      rintro e w1 ⟨y, hy, rfl, hb1⟩
      replace hb := grown_below hb hb1 hb.size
      clear hb1
      have hy1 := hy.1
      have hy2 := hy.2
      have ky : IntKind.i64.wrap (y - 30) = y - 30 := IntWalk.i64_in _ (by omega)
      go_wp2_with fail
      refine (PA.out 60 (by omega) _ hb).mono ?_
      rintro e w2 ⟨z, hz, rfl, hb2⟩
      replace hb := grown_below hb hb2 hb.size
      clear hb2
      have hz1 := hz.1
      have hz2 := hz.2
      have kz : IntKind.i64.wrap (z - 30) = z - 30 := IntWalk.i64_in _ (by omega)
      go_wp2_with fail
      refine (PB.out 1001 (by omega) _ hb).mono ?_
      rintro e w3 ⟨s, hs, rfl, hb3⟩
      replace hb := grown_below hb hb3 hb.size
      clear hb3 PA PB
      have hs1 := hs.1
      have hs2 := hs.2
      generalize hya : y - 30 = a at *
      generalize hzb : z - 30 = b at *
      have ha1 : -30 ≤ a := by omega
      have ha2 : a ≤ 29 := by omega
      have hb1 : -30 ≤ b := by omega
      have hb2 : b ≤ 29 := by omega
      have c1 := fun w => implB a b s w ⟨by omega, by omega⟩ ⟨by omega, by omega⟩ ⟨by omega, by omega⟩
      have c2 := fun w => specB a b s w ⟨by omega, by omega⟩ ⟨by omega, by omega⟩ ⟨by omega, by omega⟩
      have c3 := fun w => implB a b 0 w ⟨by omega, by omega⟩ ⟨by omega, by omega⟩ ⟨by omega, by omega⟩
      have c4 := fun w => implB a b 1000 w ⟨by omega, by omega⟩ ⟨by omega, by omega⟩ ⟨by omega, by omega⟩
      have c5 := fun w => implB (-a) (-b) s w ⟨by omega, by omega⟩ ⟨by omega, by omega⟩ ⟨by omega, by omega⟩
      rw [betI_zero] at c3
      rw [betI_end] at c4
      rw [betI_neg a b s hs1] at c5
      have hv := betI_bounds (a := a) (b := b) (s := s) (lo := min a b) (hi := max a b) ⟨by omega, by omega⟩ ⟨by omega, by omega⟩ ⟨by omega, by omega⟩
      generalize betI a b s = v at *
      have ka : IntKind.i64.wrap (-a) = -a := IntWalk.i64_in _ (by omega)
      have kb : IntKind.i64.wrap (-b) = -b := IntWalk.i64_in _ (by omega)
      have kv : IntKind.i64.wrap (-v) = -v := IntWalk.i64_in _ (by omega)
      clear hya hzb ky kz hy hz hs hy1 hy2 hz1 hz2 hs1 hs2
      rcases Int.lt_trichotomy a b with hab | hab | hab
      · have v1 : a ≤ v := by omega
        have v2 : v ≤ b := by omega
        clear hv
        go_wp2_with (first | (go_at_call 14; first | (refine (c1 _).mono ?_; rintro r w5 ⟨rfl, rfl⟩; clear c1) | (refine (c3 _).mono ?_; rintro r w5 ⟨rfl, rfl⟩; clear c3) | (refine (c4 _).mono ?_; rintro r w5 ⟨rfl, rfl⟩; clear c4) | (refine (c5 _).mono ?_; rintro r w5 ⟨rfl, rfl⟩; clear c5)) | (go_at_call 15; refine (c2 _).mono ?_; rintro r w6 ⟨rfl, rfl⟩; clear c2))
        go_ret
        exact ⟨rfl, hb⟩
      · subst hab
        have v0 : v = a := by omega
        subst v0
        clear hv
        go_wp2_with (first | (go_at_call 14; first | (refine (c1 _).mono ?_; rintro r w5 ⟨rfl, rfl⟩; clear c1) | (refine (c3 _).mono ?_; rintro r w5 ⟨rfl, rfl⟩; clear c3) | (refine (c4 _).mono ?_; rintro r w5 ⟨rfl, rfl⟩; clear c4) | (refine (c5 _).mono ?_; rintro r w5 ⟨rfl, rfl⟩; clear c5)) | (go_at_call 15; refine (c2 _).mono ?_; rintro r w6 ⟨rfl, rfl⟩; clear c2))
        go_ret
        exact ⟨rfl, hb⟩
      · have v1 : b ≤ v := by omega
        have v2 : v ≤ a := by omega
        clear hv
        go_wp2_with (first | (go_at_call 14; first | (refine (c1 _).mono ?_; rintro r w5 ⟨rfl, rfl⟩; clear c1) | (refine (c3 _).mono ?_; rintro r w5 ⟨rfl, rfl⟩; clear c3) | (refine (c4 _).mono ?_; rintro r w5 ⟨rfl, rfl⟩; clear c4) | (refine (c5 _).mono ?_; rintro r w5 ⟨rfl, rfl⟩; clear c5)) | (go_at_call 15; refine (c2 _).mono ?_; rintro r w6 ⟨rfl, rfl⟩; clear c2))
        go_ret
        exact ⟨rfl, hb⟩
end Go.Proofs.Ytoccklhfiojemab.wFnEases
