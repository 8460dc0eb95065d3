/- TWO BOOKS OF ONE: spec's l04Split and MixedOf. -/
import Derived.Test.YtajlkleoincoeaaRows
import Derived.Test.YtajlkleoincoeaaMixM
import Derived.Test.YtajlkleoincoeaaSJumps
import Derived.Test.YtajlkleoincoeaaBack
import Derived.Test.YtajlkleoincoeaaApart
import Derived.Maps.AppendAt
namespace Go.Proofs.Ytajlkleoincoeaa
set_option maxRecDepth 100000
open Go.RowKit
set_option linter.unusedVariables false
set_option linter.unusedSimpArgs false
theorem mx_if_len (L : List (Nat → Nat)) (S : List Int) (b : Bool) : (ifL (mxC L S) (splL L S b S.length)).length ≤ 40 := by
  rcases mxC_cases L S with ⟨_, h⟩ | ⟨_, _, h⟩ | ⟨ho, hs, h⟩
  · rw [h, ifL1 _ (by decide)]; simp
  · rw [h, ifL1 _ (by decide)]; simp
  · rw [h, ifL0]
    have h1 := splL_len L S b S.length
    have h2 := ((sdK_iff L S S.length).1 hs).1
    have := okB_len ho
    omega
/-- Two values whose rows lie in two blocks. -/
def ApB (v u : Value) : Prop := v.ownBlock = none ∨ v.ownBlock ≠ u.ownBlock
theorem ApB.symm {v u : Value} (h : ApB v u) : ApB u v := apart_symm h
theorem ApB.step {v v' u : Value} {N : Nat} (h : ApB v u) (hu : ∀ k, u.ownBlock = some k → k < N) (hv : v'.ownBlock = v.ownBlock ∨ v'.ownBlock = some N) : ApB v' u := by
  rcases hv with e | e
  · unfold ApB; rw [e]; exact h
  · refine .inr fun e2 => ?_
    rw [e] at e2
    exact Nat.lt_irrefl _ (hu N e2.symm)
theorem wpList_append_one_at {P : Program} {ops : Array Oper} {rest : List Oper} {o : Oper} {a : Act} {w : World} {Q : Exit → Act → World → Prop} {α : Type} {E : Enc α} (hgd : o.guard = none) (s x : Operand) (t : TypeId)
    (ho : o.op = .call { callee := .builtin .append, args := #[s, x], argTypes := #[t, t] }) (base : Nat) (e : TypeId) {z : Value} {bytes : Nat} (ht : P.underlying t = some (.slice e))
    (hinf : (P.info? e).map (fun i => (i.zero, i.size, i.bytes)) = some (some z, E.n, bytes)) (hzs : z.cells.size = E.n) (hE : 0 < E.n) (hby : bytes ≤ 1000)
    {v : Value} {L : List α} (hown : OwnL E w base e v L) (hs : a.eval s = v) (y : α) {g : Nat} (hx : a.eval x = .slice (some ⟨g, 0, none⟩) 1 1) (hy : w.rangeAt g 0 (E.c y)) (hlen : L.length ≤ 1000000000) (hbase : base ≤ w.heap.size)
    (h : ∀ v' w', OwnL E w' base e v' (L ++ [y]) → w.grownBy w' v.ownBlock → (v'.ownBlock = v.ownBlock ∨ v'.ownBlock = some w.heap.size) → wpList P ops Q rest (a.put o.dst v') w') : wpList P ops Q (o :: rest) a w := by
  obtain ⟨i, hi, hz0, hz1, hz2⟩ := info_parts hinf
  refine wpList_append_own_at _ hgd s x t ho base e i z E.n bytes ht hi hz0 hz1 hz2 hzs hE v L.length (E.cells L) hs hown ⟨g, 0, none⟩ 1 1 (E.c y) hx (by rw [E.len, Nat.one_mul]) (fun j u hu => by rw [Addr.add_mid]; exact hy j u hu) (E.one y) (by unfold maxLen; omega) ?_ hbase ?_
  · have : (L.length + 1) * bytes ≤ (1000000000 + 1) * 1000 := Nat.mul_le_mul (by omega) hby
    omega
  · intro v' w' h1 h2 _ h4
    refine h v' w' ?_ h2 h4
    unfold OwnL
    rw [List.length_append, Enc.cells_append, Enc.cells_one]
    exact h1
/-- Two books of the call's own, in two blocks. -/
def GivesBB (M N : List (Nat → Nat)) (T : Value → Value → Value) (w : World) (e : Ending) (w' : World) : Prop :=
  ∃ v u, e = .returned (T v u) ∧ OwnL eFr w' w.heap.size 30 v M ∧ OwnL eFr w' w.heap.size 30 u N ∧ ApB v u ∧ Below w.heap.size w w'
set_option maxHeartbeats 2000000 in
theorem l04Split_any (v x : Value) (L : List (Nat → Nat)) (S : List Int) (w : World) (hS : S.length = L.length) (hlen : L.length ≤ 1000000) (h : SlAt eFr w w.heap.size v L) (hs : SlAt (eI .i64) w w.heap.size x S) :
    Calls Try.prog 76 #[v, x] w (GivesBB (splL L S true S.length) (splL L S false S.length) (fun a b => .tuple #[a, b]) w) := by
  obtain ⟨A, c, rfl, h1, h2, hA⟩ := h
  obtain ⟨B, d, rfl, h3, h4, hB⟩ := hs
  unfold maxLen at h2 h4
  have ho1 := (OwnL.made (E := eFr) w w.heap.size 30 (Nat.le_refl _)).alloc (.cells #[] 30)
  have ho2 := OwnL.made (E := eFr) (w.alloc (.cells #[] 30)) w.heap.size 30 (by simp)
  have h0 := ((Below.refl w.heap.size w).alloc (Nat.le_refl _) (.cells #[] 30)).alloc (by simp) (.cells #[] 30)
  rw [World.size_alloc] at ho2
  have hap : ApB (.slice (some ⟨w.heap.size, 0, none⟩) 0 0) (.slice (some ⟨w.heap.size + 1, 0, none⟩) 0 0) := .inr (by simp [Value.ownBlock])
  have HSL := Lib.hid hS
  clear hS
  go_enter Try.func76, Try.ntmps76
  go_wp2
  go_loopw [6, 7, 8] (fun u q i wr => ∃ k : Nat, k ≤ S.length ∧ i = .int .i64 k ∧ OwnL eFr wr w.heap.size 30 u (splL L S true k) ∧ OwnL eFr wr w.heap.size 30 q (splL L S false k) ∧ ApB u q ∧ Below w.heap.size w wr) (fun _ _ i _ => S.length - (intOf i).toNat)
  case atStart => exact ⟨0, by omega, rfl, ho1, ho2, hap, h0⟩
  case round =>
    clear ho1 ho2 h0 hap
    obtain ⟨k, hk, rfl, ho1, ho2, hap, hb⟩ := hrel
    by_cases hlt : k < S.length
    · obtain ⟨b1, o1, rfl, hb1, r1⟩ := hA (by have := HSL.out; omega)
      obtain ⟨b2, o2, rfl, hb2, r2⟩ := hB (by omega)
      have g1 := range_below (range_part r1 (fAt_get (show k < L.length by rw [← HSL.out]; exact hlt))) hb hb1
      rw [eFr_n] at g1
      have c1 := int_cell (range_below r2 hb hb2) hlt
      rw [show S.getD k 0 = nAt S k from rfl] at c1
      have l1 := splL_len L S true k
      have l2 := splL_len L S false k
      have hkL : k < L.length := by rw [← HSL.out]; exact hlt
      have y1 := @splL_yes L S true k
      have y2 := @splL_yes L S false k
      have n1 := @splL_no L S true k
      have n2 := @splL_no L S false k
      generalize nAt S k = z at *
      have n4 := fun j hj => (ho1.lt j hj).2
      have m4 := fun j hj => (ho2.lt j hj).2
      clear hA hB r1 r2
      by_cases hz : z = 0
      · have e0 : (z == 0) = true := by simp [hz]
        have Y := Lib.hid (y1 (by simp [hz]))
        have N := Lib.hid (n2 (by simp [hz]))
        have HAP := Lib.hid hap
        have M4 := Lib.hid m4
        clear y1 y2 n1 n2 hz n4 m4 hap
        go_wp2_with (first | (refine wpList_load_at rfl 30 22 _ rfl _ _ rfl g1 Try.underlying30 (by kernel_rfl) ?_) | (refine wpList_build1 (v := .agg (FC (fAt L k))) (cs := FC (fAt L k)) rfl 42 30 _ rfl rfl (fun w => run_build_frs w _) ?_) | (at_builtin; refine wpList_append_one_at rfl _ _ 42 rfl w.heap.size 30 Try.underlying42 infoFrL rfl (by decide) (by omega) (ho1.alloc _) rfl (fAt L k) rfl (range_new _ _ _) (by omega) (by have := hb.size; simp; omega) ?_; intro v' w4 hown' hgrow hat))
        go_roundw
        case rel =>
          go_light
          have hap' : ApB v' u7 := HAP.out.step (N := (wr.alloc (.cells (FC (fAt L k)) 30)).heap.size) (fun j hj => by have := M4.out j hj; simp; omega) hat
          refine ⟨k + 1, by omega, by go_num, ?_, ?_, hap', (ho1.alloc _).grown_below (hb.alloc hb.size _) hgrow (Nat.le_refl _) (by have := hb.size; simp; omega)⟩
          · rw [Y.out]; exact hown'
          · rw [N.out]; exact (ho2.alloc _).kept hgrow HAP.out.symm
        case measure => simp [intOf]; omega
      · have e0 : (z == 0) = false := by simp [hz]
        have Y := Lib.hid (y2 (by simp [hz]))
        have N := Lib.hid (n1 (by simp [hz]))
        have HAP := Lib.hid hap
        have N4 := Lib.hid n4
        clear y1 y2 n1 n2 hz n4 m4 hap
        go_wp2_with (first | (refine wpList_load_at rfl 30 22 _ rfl _ _ rfl g1 Try.underlying30 (by kernel_rfl) ?_) | (refine wpList_build1 (v := .agg (FC (fAt L k))) (cs := FC (fAt L k)) rfl 42 30 _ rfl rfl (fun w => run_build_frs w _) ?_) | (at_builtin; refine wpList_append_one_at rfl _ _ 42 rfl w.heap.size 30 Try.underlying42 infoFrL rfl (by decide) (by omega) (ho2.alloc _) rfl (fAt L k) rfl (range_new _ _ _) (by omega) (by have := hb.size; simp; omega) ?_; intro v' w4 hown' hgrow hat))
        go_roundw
        case rel =>
          go_light
          have hap' : ApB v' u6 := HAP.out.symm.step (N := (wr.alloc (.cells (FC (fAt L k)) 30)).heap.size) (fun j hj => by have := N4.out j hj; simp; omega) hat
          refine ⟨k + 1, by omega, by go_num, ?_, ?_, hap'.symm, (ho2.alloc _).grown_below (hb.alloc hb.size _) hgrow (Nat.le_refl _) (by have := hb.size; simp; omega)⟩
          · rw [N.out]; exact (ho1.alloc _).kept hgrow HAP.out
          · rw [Y.out]; exact hown'
        case measure => simp [intOf]; omega
    · have hkl : k = S.length := by omega
      subst hkl
      clear hA hB
      go_wp2
      go_ret2
      exact ⟨_, _, rfl, ho1, ho2, hap, hb⟩
set_option maxHeartbeats 2000000 in
theorem specMixedOf_any (v x : Value) (L : List (Nat → Nat)) (S : List Int) (w : World) (hSl : S.length ≤ 1000000) (h : SlAt eFr w w.heap.size v L) (hs : SlAt (eI .i64) w w.heap.size x S) :
    Calls Try.prog 21 #[v, x] w (GivesBB (ifL (mxC L S) (splL L S true S.length)) (ifL (mxC L S) (splL L S false S.length)) (fun a b => .tuple #[a, b, .int .i64 (mxC L S)]) w) := by
  have cO := specOk_any v L w h
  have cS := fun (hS : S.length = L.length) (hl : L.length ≤ 1000000) => l04Split_any v x L S w hS hl h hs
  have m1 := (OwnL.made (E := eFr) w w.heap.size 30 (Nat.le_refl _)).alloc (.cells #[] 30)
  have m2 := OwnL.made (E := eFr) (w.alloc (.cells #[] 30)) w.heap.size 30 (by simp)
  have m0 := ((Below.refl w.heap.size w).alloc (Nat.le_refl _) (.cells #[] 30)).alloc (by simp) (.cells #[] 30)
  rw [World.size_alloc] at m2
  have map : ApB (.slice (some ⟨w.heap.size, 0, none⟩) 0 0) (.slice (some ⟨w.heap.size + 1, 0, none⟩) 0 0) := .inr (by simp [Value.ownBlock])
  have MM := Lib.hid (And.intro m1 (And.intro m2 (And.intro map m0)))
  clear m1 m2 m0 map
  obtain ⟨A, c, rfl⟩ := h.form
  obtain ⟨B, d, rfl, h3, h4, hB⟩ := hs
  unfold maxLen at h4
  cases ho : okB L with
  | false =>
    have hc : mxC L S = 1 := by unfold mxC; rw [ho]; rfl
    rw [ho] at cO
    rw [hc, ifL1 _ (by decide), ifL1 _ (by decide)]
    clear ho hc h cS hB
    go_enter Try.func21, Try.ntmps21
    go_wp2_with (go_at_call 74; refine cO.mono ?_; rintro e w' ⟨rfl, rfl⟩)
    go_ret3
    exact ⟨_, _, rfl, MM.out.1, MM.out.2.1, MM.out.2.2.1, MM.out.2.2.2⟩
  | true =>
    have hlen := okB_len ho
    have hc : mxC L S = if sdK L S S.length then 0 else 2 := by unfold mxC; rw [ho]; rfl
    rw [ho] at cO
    have e0 : ((S.length : Int) == (L.length : Int)) = sdK L S 0 := by
      rw [sdK, Bool.eq_iff_iff]; simp; omega
    cases hq : sdK L S S.length with
    | false =>
      rw [hq] at hc
      replace hc := hc.trans (if_neg (by simp))
      rw [hc, ifL1 _ (by decide), ifL1 _ (by decide)]
      skip
      have HQ := Lib.hid hq
      clear ho hc h cS hq
      go_enter Try.func21, Try.ntmps21
      go_wp2_with (go_at_call 74; refine cO.mono ?_; rintro e w' ⟨rfl, rfl⟩)
      go_loopw [7, 8] (fun u i wr => ∃ k : Nat, k ≤ S.length ∧ i = .int .i64 k ∧ u = .bool (sdK L S k) ∧ wr = w) (fun _ i _ => S.length - (intOf i).toNat)
      case atStart => exact ⟨0, by omega, rfl, rfl, rfl⟩
      case round =>
        obtain ⟨k, hk, rfl, rfl, rfl⟩ := hrel
        clear e0
        by_cases hlt : k < S.length
        · obtain ⟨b2, o2, rfl, hb2, r2⟩ := hB (by omega)
          have c1 := int_cell r2 hlt
          rw [show S.getD k 0 = nAt S k from rfl] at c1
          have hst : sdK L S (k + 1) = (sdK L S k && inB (nAt S k) 0 1) := rfl
          have HST := Lib.hid hst
          clear hB r2 hst
          generalize nAt S k = z at *
          cases hy : sdK L S k with
          | false =>
            have HY := Lib.hid hy
            clear hy
            go_wp2_with (go_at_call 75; refine (in_any _ _ _ _).mono ?_; rintro e w' ⟨rfl, rfl⟩)
            go_roundw
            case rel =>
              go_light
              exact ⟨k + 1, by omega, by go_num, by rw [HST.out, HY.out]; rfl, by trivial⟩
            case measure => simp [intOf]; omega
          | true =>
            have HY := Lib.hid hy
            clear hy
            go_wp2_with (go_at_call 75; refine (in_any _ _ _ _).mono ?_; rintro e w' ⟨rfl, rfl⟩)
            go_roundw
            case rel =>
              go_light
              exact ⟨k + 1, by omega, by go_num, by rw [HST.out, HY.out]; rfl, by trivial⟩
            case measure => simp [intOf]; omega
        · have hkl : k = S.length := by omega
          subst hkl
          clear hB
          have hy := HQ.out
          go_wp2
          go_ret3
          exact ⟨_, _, rfl, MM.out.1, MM.out.2.1, MM.out.2.2.1, MM.out.2.2.2⟩
    | true =>
      rw [hq] at hc
      replace hc := hc.trans (if_pos rfl)
      rw [hc, ifL0, ifL0]
      replace cS := cS ((sdK_iff L S S.length).1 hq).1 (by omega)
      have HQ := Lib.hid hq
      clear ho hc h hq
      go_enter Try.func21, Try.ntmps21
      go_wp2_with (go_at_call 74; refine cO.mono ?_; rintro e w' ⟨rfl, rfl⟩)
      go_loopw [7, 8] (fun u i wr => ∃ k : Nat, k ≤ S.length ∧ i = .int .i64 k ∧ u = .bool (sdK L S k) ∧ wr = w) (fun _ i _ => S.length - (intOf i).toNat)
      case atStart => exact ⟨0, by omega, rfl, rfl, rfl⟩
      case round =>
        obtain ⟨k, hk, rfl, rfl, rfl⟩ := hrel
        clear e0
        by_cases hlt : k < S.length
        · obtain ⟨b2, o2, rfl, hb2, r2⟩ := hB (by omega)
          have c1 := int_cell r2 hlt
          rw [show S.getD k 0 = nAt S k from rfl] at c1
          have hst : sdK L S (k + 1) = (sdK L S k && inB (nAt S k) 0 1) := rfl
          have HST := Lib.hid hst
          clear hB r2 hst
          generalize nAt S k = z at *
          cases hy : sdK L S k with
          | false =>
            have HY := Lib.hid hy
            clear hy
            go_wp2_with (go_at_call 75; refine (in_any _ _ _ _).mono ?_; rintro e w' ⟨rfl, rfl⟩)
            go_roundw
            case rel =>
              go_light
              exact ⟨k + 1, by omega, by go_num, by rw [HST.out, HY.out]; rfl, by trivial⟩
            case measure => simp [intOf]; omega
          | true =>
            have HY := Lib.hid hy
            clear hy
            go_wp2_with (go_at_call 75; refine (in_any _ _ _ _).mono ?_; rintro e w' ⟨rfl, rfl⟩)
            go_roundw
            case rel =>
              go_light
              exact ⟨k + 1, by omega, by go_num, by rw [HST.out, HY.out]; rfl, by trivial⟩
            case measure => simp [intOf]; omega
        · have hkl : k = S.length := by omega
          subst hkl
          clear hB
          have hy := HQ.out
          go_wp2_with (go_at_call 76; refine cS.mono ?_; rintro e w1 ⟨x, y, rfl, ho1, ho2, hap, hb1⟩)
          go_ret3
          exact ⟨_, _, rfl, ho1, ho2, hap, hb1⟩
end Go.Proofs.Ytajlkleoincoeaa
