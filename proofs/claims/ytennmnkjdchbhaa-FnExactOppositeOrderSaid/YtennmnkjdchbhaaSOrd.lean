/- ORDERS. spec: l00Has, l04Order, IsOrder, l04Ordered. -/
import Derived.Test.YtennmnkjdchbhaaRows
import Derived.Test.YtennmnkjdchbhaaOrdM
import Derived.Test.YtennmnkjdchbhaaSBook
namespace Go.Proofs.Ytennmnkjdchbhaa
set_option maxRecDepth 100000
open Go.RowKit
set_option linter.unusedVariables false
set_option linter.unusedSimpArgs false
theorem has64_any (v : Value) (l : List Int) (x : Int) (w : World) (h : SlAt (eI .i64) w w.heap.size v l) :
    Calls Try.prog 85 #[v, .int .i64 x] w fun e w' => e = .returned (.bool (memI l x)) ∧ w = w' := by
  obtain ⟨A, c, rfl, h1, h2, hA⟩ := h
  unfold maxLen at h2
  go_enter Try.func85, Try.ntmps85
  go_wp2
  go_loop [5] (fun i => ∃ k : Nat, k ≤ l.length ∧ i = .int .i64 k ∧ ∀ j, j < k → nAt l j ≠ x) (fun i => l.length - (intOf i).toNat)
  case atStart => exact ⟨0, by omega, rfl, by omega⟩
  case round =>
    obtain ⟨k, hk, rfl, hn⟩ := hrel
    have HN := Lib.hid hn
    clear hn
    by_cases hlt : k < l.length
    · obtain ⟨b1, o1, rfl, hb1, r1⟩ := hA (by omega)
      have c1 := int_cell r1 hlt
      have hg := nAt_get hlt
      clear hA r1
      rw [show l.getD k 0 = nAt l k from rfl] at c1
      have HG := Lib.hid hg
      clear hg
      by_cases hx : nAt l k = x
      · have hm : memI l x = true := memI_iff.2 (hx ▸ List.mem_of_getElem? HG.out)
        have hd : (nAt l k == x) = true := by simp [hx]
        have HM := Lib.hid hm
        clear hm hx HG HN
        generalize nAt l k = y at *
        go_wp2
        go_ret
        exact ⟨ret_bool HM.out.symm, rfl⟩
      · have hd : (nAt l k == x) = false := by simp [hx]
        have HX := Lib.hid hx
        clear hx HG
        generalize hy : nAt l k = y at *
        have HY := Lib.hid hy
        clear hy
        go_wp2
        go_round
        case rel =>
          go_light
          refine ⟨k + 1, by omega, by go_num, fun j hj => ?_⟩
          rcases Nat.lt_succ_iff_lt_or_eq.1 hj with h | rfl
          · exact HN.out j h
          · rw [HY.out]; exact HX.out
        case measure => simp [intOf]; omega
    · have hkl : k = l.length := by omega
      subst hkl
      clear hA
      go_wp2
      go_ret
      refine ⟨ret_bool (memI_false.2 fun hm => ?_).symm, rfl⟩
      obtain ⟨i, hi⟩ := List.getElem?_of_mem hm
      have hil : i < l.length := (List.getElem?_eq_some_iff.1 hi).1
      refine HN.out i hil ?_
      have := nAt_get hil
      rw [hi] at this
      exact (Option.some.inj this).symm
/-- A slice from its head on. -/
theorem run_slice_hi {P : Program} {T e : TypeId} {i : TypeInfo} (hT : P.underlying T = some (.slice e)) (hi : P.info? e = some i) (b o len cap h : Nat) (k : IntKind) (hh : h ≤ cap) (w : World) :
    (Instr.slice T (.slice (some ⟨b, o, none⟩) len cap) none (some (.int k (h : Int))) none).run P w = .ok (.slice (some ⟨b, o, none⟩) h cap) w := by
  have h1 : (0 : Int) ≤ (h : Int) ∧ (h : Int) ≤ (cap : Int) := by omega
  simp only [Instr.slice, run_underlying hT, Sem.run_bind, Result.andThen_ok, Instr.sliceBounds, Instr.sliceBound, asIntOf, Sem.run_pure, if_pos h1, Int.toNat_natCast, run_sizeOf w hi, Nat.sub_zero, Nat.zero_mul]
  simp [Addr.add]
theorem SlAt.head {α : Type} {E : Enc α} {w : World} {B b o c : Nat} {L : List α} (h1 : L.length ≤ c) (h2 : c ≤ maxLen) (hb : b < B) (r : w.rangeAt b o (E.cells L)) {k : Nat} (hk : k ≤ L.length) : SlAt E w B (.slice (some ⟨b, o, none⟩) k c) (L.take k) := by
  have hl : (L.take k).length = k := by rw [List.length_take]; omega
  refine ⟨some ⟨b, o, none⟩, c, by rw [hl], by omega, h2, fun _ => ⟨b, o, rfl, hb, fun j u hu => r j u ?_⟩⟩
  rw [← Enc.cells_take, List.getElem?_take] at hu
  split at hu
  · exact hu
  · cases hu
set_option maxHeartbeats 1000000 in
theorem l04Order_any (v : Value) (O : List Int) (n : Nat) (w : World) (hn : n ≤ 1000000) (h : SlAt (eI .i64) w w.heap.size v O) :
    Calls Try.prog 47 #[v, .int .i64 n] w fun e w' => e = .returned (.bool (isOB n O)) ∧ Below w.heap.size w w' := by
  obtain ⟨i0, hi, hz0, hz1, hz2⟩ := info_parts infoI64
  obtain ⟨A, c, rfl, h1, h2, hA⟩ := h
  have h2' := h2
  unfold maxLen at h2'
  clear hz0 hz1 hz2
  by_cases hl : O.length = n
  · have e1 : ((O.length : Int) != (n : Int)) = false := by simp [hl]
    have HL := Lib.hid hl
    clear hl
    go_enter Try.func47, Try.ntmps47
    go_wp2
    go_loopw [5] (fun i wr => ∃ k : Nat, k ≤ n ∧ i = .int .i64 k ∧ (∀ j, j < k → ordAt n O j = true) ∧ Below w.heap.size w wr) (fun i _ => n - (intOf i).toNat)
    case atStart => exact ⟨0, by omega, rfl, by omega, Below.refl _ _⟩
    case round =>
      obtain ⟨k, hk, rfl, ho, hb⟩ := hrel
      have HO := Lib.hid ho
      clear ho
      by_cases hlt : k < n
      · have hkO : k < O.length := by rw [HL.out]; exact hlt
        obtain ⟨b1, o1, rfl, hb1, r1⟩ := hA (by omega)
        have c1 := int_cell (range_below r1 hb hb1) hkO
        have q1 := fun W => run_slice_hi (P := Try.prog) Try.underlying23 hi b1 o1 O.length c k .i64 (by omega) W
        have sk := (SlAt.head h1 h2 hb1 r1 (show k ≤ O.length by omega)).below hb |>.mono hb.size
        have cH := fun (y : Int) (p : Nat) => (has64_any _ _ y (wr.drewN p) (sk.drewN p)).mono (R' := fun e w' => e = .returned (.bool (memI (O.take k) y)) ∧ w' = wr.drewN p) fun e w' ⟨a, b⟩ => ⟨a, b.symm⟩
        have cI := fun (y : Int) (p : Nat) => (in_any y 0 ((n : Int) - 1) (wr.drewN p)).mono (R' := fun e w' => e = .returned (.bool (inB y 0 ((n : Int) - 1))) ∧ w' = wr.drewN p) fun e w' ⟨a, b⟩ => ⟨a, b.symm⟩
        have eo : ordAt n O k = (inB (nAt O k) 0 ((n : Int) - 1) && !memI (O.take k) (nAt O k)) := rfl
        rw [show O.getD k 0 = nAt O k from rfl] at c1
        have hz : 0 < O.length := by omega
        have kw : IntKind.i64.wrap ((n : Int) - 1) = (n : Int) - 1 := IntWalk.i64_in _ (by omega)
        clear hA r1 sk hi
        generalize O.take k = T at *
        generalize nAt O k = y at *
        have cI' := cI y
        have cH' := cH y
        clear cI cH
        cases hi1 : inB y 0 ((n : Int) - 1) with
        | false =>
          have hf : ordAt n O k = false := by rw [eo, hi1]; rfl
          rw [hi1] at cI'
          have HF := Lib.hid hf
          clear hf eo hi1 cH'
          go_wp2
          go_quiet (with_reducible exact Calls.quiet_of_same (cI' _))
          go_wp2
          go_ret
          exact ⟨ret_bool (isOB_at hlt HF.out).symm, below_drewN hb _⟩
        | true =>
          rw [hi1] at cI'
          rw [hi1, Bool.true_and] at eo
          clear hi1
          cases hm : memI T y with
          | true =>
            have hf : ordAt n O k = false := by rw [eo, hm]; rfl
            rw [hm] at cH'
            have HF := Lib.hid hf
            clear hf eo hm
            go_wp2
            go_quiet (first | with_reducible exact Calls.quiet_of_same (cI' _) | with_reducible exact Calls.quiet_of_same (cH' _))
            go_wp2
            go_ret
            exact ⟨ret_bool (isOB_at hlt HF.out).symm, below_drewN hb _⟩
          | false =>
            have hf : ordAt n O k = true := by rw [eo, hm]; rfl
            rw [hm] at cH'
            have HF := Lib.hid hf
            clear hf eo hm
            go_wp2
            go_quiet (first | with_reducible exact Calls.quiet_of_same (cI' _) | with_reducible exact Calls.quiet_of_same (cH' _))
            go_wp2
            go_roundw
            case rel =>
              go_light
              refine ⟨k + 1, by omega, by go_num, fun j hj => ?_, below_drewN hb _⟩
              rcases Nat.lt_succ_iff_lt_or_eq.1 hj with h | rfl
              · exact HO.out j h
              · exact HF.out
            case measure => simp [intOf]; omega
      · have hkn : k = n := by omega
        subst hkn
        clear hA
        go_wp2
        go_ret
        exact ⟨ret_bool (isOB_true HL.out HO.out).symm, hb⟩
  · have e1 : ((O.length : Int) != (n : Int)) = true := by simp; omega
    have HL := Lib.hid hl
    clear hl
    go_enter Try.func47, Try.ntmps47
    go_wp2
    go_ret
    exact ⟨ret_bool (isOB_len HL.out).symm, Below.refl _ _⟩
end Go.Proofs.Ytennmnkjdchbhaa
