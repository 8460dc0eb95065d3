/- TWO BOOKS OF ONE: impl's isNoSide, mixed and MixedOf; slices.ContainsFunc over numbers. -/
import Derived.Test.YtajlkleoincoeaaRows
import Derived.Test.YtajlkleoincoeaaMixS
import Derived.Test.YtajlkleoincoeaaIBook
import Derived.Test.YtajlkleoincoeaaCellQ
import Derived.Test.YtajlkleoincoeaaAppH
import Derived.Test.YtajlkleoincoeaaTake
namespace Go.Proofs.Ytajlkleoincoeaa
set_option maxRecDepth 100000
open Go.RowKit
set_option linter.unusedVariables false
set_option linter.unusedSimpArgs false
/-- Where the first number is of which p holds; -1 if there is none. -/
def idxF (p : Int → Bool) (S : List Int) : Int := match S.findIdx? p with
  | some i => (i : Int)
  | none => -1
theorem idxF_hit {p : Int → Bool} {S : List Int} {k : Nat} (hk : k < S.length) (h : p (nAt S k) = true) (hn : ∀ j, j < k → p (nAt S j) = false) : idxF p S = k := by
  have : S.findIdx? p = some k := by
    rw [List.findIdx?_eq_some_iff_getElem]
    refine ⟨hk, ?_, fun j hj => ?_⟩
    · have := nAt_get hk
      rw [List.getElem?_eq_getElem hk] at this
      rw [Option.some.inj this]; exact h
    · have := nAt_get (show j < S.length by omega)
      rw [List.getElem?_eq_getElem (show j < S.length by omega)] at this
      rw [Option.some.inj this, hn j hj]; simp
  unfold idxF; rw [this]
theorem idxF_miss {p : Int → Bool} {S : List Int} (hn : ∀ j, j < S.length → p (nAt S j) = false) : idxF p S = -1 := by
  have : S.findIdx? p = none := by
    rw [List.findIdx?_eq_none_iff]
    intro x hx
    obtain ⟨i, hi⟩ := List.getElem?_of_mem hx
    have hil : i < S.length := (List.getElem?_eq_some_iff.1 hi).1
    have := nAt_get hil
    rw [hi] at this
    rw [Option.some.inj this]; exact hn i hil
  unfold idxF; rw [this]
set_option maxHeartbeats 1000000 in
theorem indexFunc_any (fid : FuncId) (caps : Array Value) (p : Int → Bool) (v : Value) (S : List Int) (w : World)
    (hcall : ∀ x w, (callFunc fid (#[.int .i64 x] ++ caps)).run Try.prog w = .ok (.enter fid (#[.int .i64 x] ++ caps)) w)
    (hbody : ∀ k, k < S.length → ∀ w1, Below w.heap.size w w1 → Calls Try.prog fid (#[.int .i64 (nAt S k)] ++ caps) w1 fun e w2 => e = .returned (.bool (p (nAt S k))) ∧ Below w1.heap.size w1 w2)
    (h : SlAt (eI .i64) w w.heap.size v S) :
    Calls Try.prog 147 #[v, .func (.func fid) #[] caps] w fun e w' => e = .returned (.int .i64 (idxF p S)) ∧ Below w.heap.size w w' := by
  obtain ⟨A, c, rfl, h1, h2, hA⟩ := h
  unfold maxLen at h2
  have HB := Lib.hid hbody
  clear hbody
  go_enter Try.func147, Try.ntmps147
  go_wp2
  go_loopw [8] (fun i wr => ∃ k : Nat, k ≤ S.length ∧ i = .int .i64 k ∧ (∀ j, j < k → p (nAt S j) = false) ∧ Below w.heap.size w wr) (fun i _ => S.length - (intOf i).toNat)
  case atStart => exact ⟨0, by omega, rfl, by omega, Below.refl _ _⟩
  case round =>
    obtain ⟨k, hk, rfl, hn, hb⟩ := hrel
    have HN := Lib.hid hn
    clear hn
    by_cases hlt : k < S.length
    · obtain ⟨b1, o1, rfl, hb1, r1⟩ := hA (by omega)
      have c1 := int_cell (range_below r1 hb hb1) hlt
      rw [show S.getD k 0 = nAt S k from rfl] at c1
      have cB := HB.out k hlt wr hb
      have hc := hcall (nAt S k)
      have HIT := Lib.hid (@idxF_hit p S k hlt)
      have hz : ∃ z, nAt S k = z := ⟨_, rfl⟩
      obtain ⟨z, hz⟩ := hz
      rw [hz] at c1 cB hc
      have HZ := Lib.hid hz
      clear hA r1 hcall hz
      cases hp : p z with
      | true =>
        rw [hp] at cB
        have HP := Lib.hid hp
        clear hp
        go_wp2_with fail
        refine cB.mono ?_
        rintro e w1 ⟨rfl, hb1⟩
        go_wp2
        go_ret
        exact ⟨ret_int (HIT.out (by rw [HZ.out]; exact HP.out) HN.out).symm, grown_below hb hb1 hb.size⟩
      | false =>
        rw [hp] at cB
        have HP := Lib.hid hp
        clear hp
        go_wp2_with fail
        refine cB.mono ?_
        rintro e w1 ⟨rfl, hb1⟩
        go_wp2
        go_roundw
        case rel =>
          go_light
          refine ⟨k + 1, by omega, by go_num, fun j hj => ?_, grown_below hb hb1 hb.size⟩
          rcases Nat.lt_succ_iff_lt_or_eq.1 hj with h | rfl
          · exact HN.out j h
          · rw [HZ.out]; exact HP.out
        case measure => simp [intOf]; omega
    · have hkl : k = S.length := by omega
      subst hkl
      clear hA
      go_wp2
      go_ret
      exact ⟨ret_int (idxF_miss HN.out).symm, hb⟩
theorem containsFunc_any (fid : FuncId) (caps : Array Value) (p : Int → Bool) (v : Value) (S : List Int) (w : World)
    (hcall : ∀ x w, (callFunc fid (#[.int .i64 x] ++ caps)).run Try.prog w = .ok (.enter fid (#[.int .i64 x] ++ caps)) w)
    (hbody : ∀ k, k < S.length → ∀ w1, Below w.heap.size w w1 → Calls Try.prog fid (#[.int .i64 (nAt S k)] ++ caps) w1 fun e w2 => e = .returned (.bool (p (nAt S k))) ∧ Below w1.heap.size w1 w2)
    (h : SlAt (eI .i64) w w.heap.size v S) :
    Calls Try.prog 79 #[v, .func (.func fid) #[] caps] w fun e w' => e = .returned (.bool (decide (0 ≤ idxF p S))) ∧ Below w.heap.size w w' := by
  have cI := indexFunc_any fid caps p v S w hcall hbody h
  obtain ⟨A, c, rfl⟩ := h.form
  clear hcall hbody h
  generalize idxF p S = r at *
  go_enter Try.func79, Try.ntmps79
  go_wp2_with (go_at_call 147; refine cI.mono ?_; rintro e w1 ⟨rfl, hb1⟩)
  go_ret
  exact ⟨rfl, hb1⟩
def noS (z : Int) : Bool := !inB z 0 1
theorem isNoSide_any (z : Int) (w : World) : Calls Try.prog 80 #[.int .i64 z] w fun e w' => e = .returned (.bool (noS z)) ∧ Below w.heap.size w w' := by
  have hz : noS z = (!(z == 0) && !(z == 1)) := by
    unfold noS
    rw [Bool.eq_iff_iff]
    simp only [Bool.not_eq_true', Bool.and_eq_true, inB_false, beq_eq_false_iff_ne]
    omega
  rw [hz]
  clear hz
  cases h0 : (z == 0) with
  | true =>
    have h1 : (z != 0) = false := by simpa using h0
    clear h0
    go_enter Try.func80, Try.ntmps80
    go_wp2
    go_ret
    exact ⟨rfl, Below.refl _ _⟩
  | false =>
    have h1 : (z != 0) = true := by simpa using h0
    clear h0
    cases h2 : (z == 1) with
    | true =>
      have h3 : (z != 1) = false := by simpa using h2
      clear h2
      go_enter Try.func80, Try.ntmps80
      go_wp2
      go_ret
      exact ⟨rfl, Below.refl _ _⟩
    | false =>
      have h3 : (z != 1) = true := by simpa using h2
      clear h2
      go_enter Try.func80, Try.ntmps80
      go_wp2
      go_ret
      exact ⟨rfl, Below.refl _ _⟩
theorem row2_set0 {w : World} {g : Nat} {t : TypeId} {a b : Value} (h : Row w g t #[a, b]) (v : Value) : Row (w.setCell ⟨g, 0, none⟩ v) g t #[v, b] := by
  have := h.set 0 v
  simpa using this
theorem row2_set1 {w : World} {g : Nat} {t : TypeId} {a b : Value} (h : Row w g t #[a, b]) (v : Value) : Row (w.setCell ⟨g, 1, none⟩ v) g t #[a, v] := by
  have := h.set 1 v
  simpa using this
theorem wpList_load_cell {P : Program} {ops : Array Oper} {rest : List Oper} {o : Oper} {a : Act} {w : World} {Q : Exit → Act → World → Prop} (hgd : o.guard = none) (ty : TypeId) (x : Operand) (ho : o.op = .load ty x) (p : Addr) (hx : a.eval x = .pointer (some p)) {v : Value} (hc : w.cell? p = some v) 
    (ha : ∀ w, (isAgg ty).run P w = .ok false w) (h : wpList P ops Q rest (a.put o.dst v) w) : wpList P ops Q (o :: rest) a w :=
  wpList_plain hgd fun K hK => by
    unfold Oper.wp execOp
    simp only [ho, hx]
    go_simp
    exact hK _ _ h
/-- A load, at one step of a region that draws its order. -/
theorem wp_load_fr_H {P : Program} {o : Oper} {a : Act} {w : World} {K : Act → World → Prop} {Q : Exit → Act → World → Prop} (ty e : TypeId) (x : Operand) (ho : o.op = .load ty x) (b off : Nat) (hx : a.eval x = .pointer (some ⟨b, off, none⟩)) {f : Nat → Nat} (hb : w.rangeAt b off (FC f).toList)
    (hu : P.underlying ty = some (.array 12 e)) (hi : (P.info? ty).map (·.size) = some 12) (h : K (a.put o.dst (.agg (FC f))) w) : o.wp P a w K Q := by
  have hz : (P.info? ty).map (·.size) = some (FC f).toList.length := hi
  unfold Oper.wp execOp
  simp only [ho, hx, Instr.loadAt, Instr.sureAddr, Sem.run_bind, Sem.run_pure, Result.andThen_ok, run_loadVar_mid w b off ty (FC f).toList _ hb hu rfl hz]
  exact h
set_option maxHeartbeats 8000000 in
theorem mixed_any (v x : Value) (L : List (Nat → Nat)) (S : List Int) (w : World) (hS : S.length = L.length) (hsd : ∀ i, i < S.length → 0 ≤ nAt S i ∧ nAt S i ≤ 1) (hlen : L.length ≤ 1000000) (h : SlAt eFr w w.heap.size v L) (hs : SlAt (eI .i64) w w.heap.size x S) :
    Calls Try.prog 81 #[v, x] w fun e w' => ∃ p q, e = .returned (.agg #[p, q]) ∧ OwnL eFr w' w.heap.size 30 p (splL L S true S.length) ∧ OwnL eFr w' w.heap.size 30 q (splL L S false S.length) ∧ ApB p q ∧ Below w.heap.size w w' := by
  obtain ⟨A, c, rfl, h1, h2, hA⟩ := h
  obtain ⟨B, d, rfl, h3, h4, hB⟩ := hs
  unfold maxLen at h2 h4
  have rA := (Row.new w 97 #[.slice none 0 0, .slice none 0 0]).alloc (.cells #[.slice none 0 0, .slice none 0 0] 97)
  have rB := Row.new (w.alloc (.cells #[.slice none 0 0, .slice none 0 0] 97)) 97 #[.slice none 0 0, .slice none 0 0]
  rw [World.size_alloc] at rB
  have h0 := ((Below.refl w.heap.size w).alloc (Nat.le_refl _) (.cells #[.slice none 0 0, .slice none 0 0] 97)).alloc (by simp) (.cells #[.slice none 0 0, .slice none 0 0] 97)
  have hap : ApB (.slice none 0 0) (.slice none 0 0) := .inl rfl
  have ho := OwnL.nil_ (E := eFr) ((w.alloc (.cells #[.slice none 0 0, .slice none 0 0] 97)).alloc (.cells #[.slice none 0 0, .slice none 0 0] 97)) w.heap.size 30
  have HSL := Lib.hid hS
  have HSD := Lib.hid hsd
  clear hS hsd
  have hiz : (Try.prog.info? 30).map (·.size) = some 12 := by kernel_rfl
  go_enter Try.func81, Try.ntmps81
  go_wp2
  generalize ((w.alloc (.cells #[.slice none 0 0, .slice none 0 0] 97)).alloc (.cells #[.slice none 0 0, .slice none 0 0] 97)) = w0 at *
  go_loopw [10] (fun i wr => ∃ (k : Nat) (u q : Value), k ≤ S.length ∧ i = .int .i64 k ∧ Row wr w.heap.size 97 #[.slice none 0 0, .slice none 0 0] ∧ Row wr (w.heap.size + 1) 97 #[u, q] ∧ OwnL eFr wr w.heap.size 30 u (splL L S true k) ∧ OwnL eFr wr w.heap.size 30 q (splL L S false k) ∧ ApB u q ∧ Below w.heap.size w wr) (fun i _ => S.length - (intOf i).toNat)
  case atStart => exact ⟨0, _, _, by omega, rfl, rA, rB, ho, ho, hap, h0⟩
  case round =>
    clear rA rB ho hap h0
    obtain ⟨k, u, q, hk, rfl, rA, rB, ho1, ho2, hap, hb⟩ := hrel
    by_cases hlt : k < S.length
    · obtain ⟨b1, o1, rfl, hb1, r1⟩ := hA (by have := HSL.out; omega)
      obtain ⟨b2, o2, rfl, hb2, r2⟩ := hB (by omega)
      have hkL : k < L.length := by rw [← HSL.out]; exact hlt
      have g1 := range_below (range_part r1 (fAt_get hkL)) hb hb1
      rw [eFr_n] at g1
      have c1 := int_cell (range_below r2 hb hb2) hlt
      rw [show S.getD k 0 = nAt S k from rfl] at c1
      have l1 := splL_len L S true k
      have l2 := splL_len L S false k
      have y1 := @splL_yes L S true k
      have y2 := @splL_yes L S false k
      have n1 := @splL_no L S true k
      have n2 := @splL_no L S false k
      have hz01 := HSD.out k hlt
      generalize nAt S k = z at *
      have n4 := fun j hj => (ho1.lt j hj).2
      have m4 := fun j hj => (ho2.lt j hj).2
      have N4 := Lib.hid n4
      have M4 := Lib.hid m4
      have HAP := Lib.hid hap
      have hne1 : u.ownBlock ≠ some (w.heap.size + 1) := ho1.ne_type rB (by decide)
      have hne2 : q.ownBlock ≠ some (w.heap.size + 1) := ho2.ne_type rB (by decide)
      have hne3 : u.ownBlock ≠ some w.heap.size := ho1.ne_type rA (by decide)
      have hne4 : q.ownBlock ≠ some w.heap.size := ho2.ne_type rA (by decide)
      have NE := Lib.hid (And.intro hne1 (And.intro hne2 (And.intro hne3 hne4)))
      have cu : wr.cell? ⟨w.heap.size + 1, 0, none⟩ = some u := rB.cell 0
      have cq : wr.cell? ⟨w.heap.size + 1, 1, none⟩ = some q := rB.cell 1
      have f0 := rB.free 0
      have f1 := rB.free 1
      have hszr := hb.size
      have hlB := rB.lt
      have hlA := rA.lt
      clear hA hB r1 r2 n4 m4 hap hne1 hne2 hne3 hne4
      rcases (show z = 0 ∨ z = 1 by omega) with rfl | rfl
      · have Y := Lib.hid (y1 (by decide))
        have N := Lib.hid (n2 (by decide))
        clear y1 y2 n1 n2 hz01
        go_wp2
        refine wp_region_takes (by kernel_rfl) ?_
        have hb' : Below w.heap.size w wr.drew := ⟨hb.os, hb.tape, hb.output, hb.size, hb.block⟩
        have gA : wr.drew.rangeAt b1 (o1 + k * 12) (FC (fAt L k)).toList := g1
        have oX : OwnL eFr wr.drew w.heap.size 30 u (splL L S true k) := ho1
        have oY : OwnL eFr wr.drew w.heap.size 30 q (splL L S false k) := ho2
        have rZ : Row wr.drew (w.heap.size + 1) 97 #[u, q] := rB
        have rW : Row wr.drew w.heap.size 97 #[.slice none 0 0, .slice none 0 0] := rA
        have kX : wr.drew.cell? ⟨w.heap.size + 1, 0, none⟩ = some u := cu
        have zne : u.ownBlock ≠ some (w.heap.size + 1) := NE.out.1
        have zsz : wr.drew.heap.size = wr.heap.size := rfl
        have zN : ∀ j, q.ownBlock = some j → j < wr.drew.heap.size := M4.out
        have zM : ∀ j, u.ownBlock = some j → j < wr.drew.heap.size := N4.out
        clear rA rB ho1 ho2 hb g1 cu cq f0 f1 N4 M4
        generalize wr.drew = wd at *
        refine held_take (i := 0) (v := ?_) rfl (by kernel_rfl) (by kernel_rfl) (by kernel_rfl) (fun _ _ _ h => nomatch h.1) (Or.inl ⟨by rfl, ?_⟩) trivial ?_
        rotate_left
        · intro w hSw; go_simp; (try with_reducible rfl)
        try simp only [Act.put, List.setIfInBounds_toArray, List.set_cons_zero, List.set_cons_succ]
        refine held_take (i := 1) (v := ?_) rfl (by kernel_rfl) (by kernel_rfl) (by kernel_rfl) (fun _ _ _ h => nomatch h.1) (Or.inl ⟨by rfl, ?_⟩) trivial ?_
        rotate_left
        · intro w hSw; go_simp; (try with_reducible rfl)
        try simp only [Act.put, List.setIfInBounds_toArray, List.set_cons_zero, List.set_cons_succ]
        refine held_take (i := 2) (v := ?_) rfl (by kernel_rfl) (by kernel_rfl) (by kernel_rfl) (fun _ _ _ h => nomatch h.1) (Or.inl ⟨by rfl, ?_⟩) trivial ?_
        rotate_left
        · intro w hSw; go_simp; (try with_reducible rfl)
        try simp only [Act.put, List.setIfInBounds_toArray, List.set_cons_zero, List.set_cons_succ]
        refine held_take (i := 4) (v := ?_) rfl (by kernel_rfl) (by kernel_rfl) (by kernel_rfl) (fun _ _ _ h => nomatch h.1) (Or.inl ⟨by rfl, ?_⟩) trivial ?_
        rotate_left
        · intro w hSw; go_simp; (try with_reducible rfl)
        try simp only [Act.put, List.setIfInBounds_toArray, List.set_cons_zero, List.set_cons_succ]
        refine held_take (i := 5) (v := ?_) rfl (by kernel_rfl) (by kernel_rfl) (by kernel_rfl) (fun _ _ _ h => nomatch h.1) (Or.inl ⟨by rfl, ?_⟩) trivial ?_
        rotate_left
        · intro w hSw; go_simp; (try with_reducible rfl)
        try simp only [Act.put, List.setIfInBounds_toArray, List.set_cons_zero, List.set_cons_succ]
        refine held_take (i := 6) (v := ?_) rfl (by kernel_rfl) (by kernel_rfl) (by kernel_rfl) (fun _ _ _ h => nomatch h.1) (Or.inl ⟨by rfl, ?_⟩) trivial ?_
        rotate_left
        · intro w hSw; go_simp; (try with_reducible rfl)
        try simp only [Act.put, List.setIfInBounds_toArray, List.set_cons_zero, List.set_cons_succ]
        have FIN : ∀ (v' : Value) (w4 w3 : World), OwnL eFr w3 w.heap.size 30 u (splL L S true k) → OwnL eFr w3 w.heap.size 30 q (splL L S false k) → Row w3 (w.heap.size + 1) 97 #[u, q] → Row w3 w.heap.size 97 #[.slice none 0 0, .slice none 0 0] → Below w.heap.size w w3 → w.heap.size ≤ w3.heap.size → wd.heap.size ≤ w3.heap.size →
            OwnL eFr w4 w.heap.size 30 v' (splL L S true k ++ [fAt L k]) → w3.grownBy w4 u.ownBlock → (v'.ownBlock = u.ownBlock ∨ v'.ownBlock = some w3.heap.size) →
            ∃ (k' : Nat) (u' q' : Value), k' ≤ S.length ∧ ((k : Int) + 1) = (k' : Int) ∧ Row (w4.setCell ⟨w.heap.size + 1, 0, none⟩ v') w.heap.size 97 #[.slice none 0 0, .slice none 0 0] ∧ Row (w4.setCell ⟨w.heap.size + 1, 0, none⟩ v') (w.heap.size + 1) 97 #[u', q'] ∧ OwnL eFr (w4.setCell ⟨w.heap.size + 1, 0, none⟩ v') w.heap.size 30 u' (splL L S true k') ∧ OwnL eFr (w4.setCell ⟨w.heap.size + 1, 0, none⟩ v') w.heap.size 30 q' (splL L S false k') ∧ ApB u' q' ∧ Below w.heap.size w (w4.setCell ⟨w.heap.size + 1, 0, none⟩ v') ∧ k' = k + 1 := by
          intro v' w4 w3 p1 p2 p3 p4 p5 p6 p7 o4 hg hat
          have r4 := grown_row p3 hg zne
          have s4 := grown_row p4 hg NE.out.2.2.1
          have o5 := p2.kept hg HAP.out.symm
          have ap : ApB v' q := (HAP.out.step (N := w3.heap.size) (fun j hj => Nat.lt_of_lt_of_le (zN j hj) p7) hat)
          have nv : v'.ownBlock ≠ some (w.heap.size + 1) := o4.ne_type r4 (by decide)
          have nq : q.ownBlock ≠ some (w.heap.size + 1) := o5.ne_type r4 (by decide)
          have hb4 := p1.grown_below p5 hg (Nat.le_refl _) p6
          have wr4 := (Wrote.refl (w.heap.size + 1) w4).setCell (p := ⟨w.heap.size + 1, 0, none⟩) rfl v'
          refine ⟨k + 1, v', q, by omega, by omega, s4.other (a := ⟨w.heap.size + 1, 0, none⟩) v' (by dsimp only; omega), row2_set0 r4 v', ?_, ?_, ap, hb4.setCell (p := ⟨w.heap.size + 1, 0, none⟩) (by dsimp only; omega) _, rfl⟩
          · rw [Y.out]; exact o4.wrote wr4 nv
          · rw [N.out]; exact o5.wrote wr4 nq
        have FF := Lib.hid FIN
        clear FIN
        refine wpAnyH_ready (rs := [3, 7]) (by kernel_rfl) (by simp) ?_
        refine held_cons rfl (fun K hK => ?_) (held_cons rfl (fun K hK => ?_) AllReadyH.nil)
        · rw [if_pos (by rfl)]
          go_simp
          refine hK.out _ _ trivial (fun _ => ?_)
          clear hK K
          try simp only [Act.put, List.setIfInBounds_toArray, List.set_cons_zero, List.set_cons_succ]
          refine forced [7, 8, 9, 10, 11] (by decide) (by kernel_rfl) ?_
          simp only [List.filterMap_cons, List.filterMap_nil, List.getElem?_toArray, List.getElem?_cons_succ, List.getElem?_cons_zero]
          refine wpList_load_at rfl 30 22 _ rfl _ _ rfl gA Try.underlying30 (by kernel_rfl) ?_
          try simp only [Act.put, List.setIfInBounds_toArray, List.set_cons_zero, List.set_cons_succ]
          refine wpList_build1 (v := .agg (FC (fAt L k))) (cs := FC (fAt L k)) rfl 42 30 _ rfl rfl (fun w => run_build_frs w _) ?_
          try simp only [Act.put, List.setIfInBounds_toArray, List.set_cons_zero, List.set_cons_succ]
          refine wpList_append_one_at rfl _ _ 42 rfl w.heap.size 30 Try.underlying42 infoFrL rfl (by decide) (by omega) (oX.alloc _) rfl (fAt L k) rfl (range_new _ _ _) (by omega) (by simp; omega) ?_
          intro v' w4 hown' hgrow hat
          have fz := (grown_row (rZ.alloc _) hgrow zne).free 0
          have cz : w4.cell? ⟨w.heap.size + 1, 0, none⟩ = some u := (grown_row (rZ.alloc _) hgrow zne).cell 0
          try simp only [Act.put, List.setIfInBounds_toArray, List.set_cons_zero, List.set_cons_succ]
          obtain ⟨A9, c9, hv9⟩ := hown'.val
          generalize (splL L S true k ++ [fAt L k]).length = ln9 at hv9
          subst hv9
          have GG := Lib.hid (And.intro hown' (And.intro hgrow hat))
          clear hown' hgrow hat
          go_wp2
          rw [normalOnly_normal]
          go_wp2
          go_roundw
          case rel =>
            go_light
            obtain ⟨k', u', q', h1, h2, h3, h4, h5, h6, h7, h8, h9⟩ := FF.out _ w4 _ (oX.alloc _) (oY.alloc _) (rZ.alloc _) (rW.alloc _) (hb'.alloc hb'.size _) (by simp; omega) (by simp) GG.out.1 GG.out.2.1 GG.out.2.2
            exact ⟨k', u', q', h1, by rw [h2], h3, h4, h5, h6, h7, h8⟩
          case measure => simp [intOf]; omega
        · rw [if_pos (by rfl)]
          refine wp_load_fr_H 30 22 _ rfl _ _ rfl gA Try.underlying30 hiz ?_
          refine hK.out _ _ trivial (fun _ => ?_)
          clear hK K
          try simp only [Act.put, List.setIfInBounds_toArray, List.set_cons_zero, List.set_cons_succ]
          refine wpAnyH_ready (rs := [3, 8]) (by kernel_rfl) (by simp) ?_
          refine held_cons rfl (fun K hK => ?_) (held_cons rfl (fun K hK => ?_) AllReadyH.nil)
          · rw [if_pos (by rfl)]
            go_simp
            refine hK.out _ _ trivial (fun _ => ?_)
            clear hK K
            try simp only [Act.put, List.setIfInBounds_toArray, List.set_cons_zero, List.set_cons_succ]
            refine forced [8, 9, 10, 11] (by decide) (by kernel_rfl) ?_
            simp only [List.filterMap_cons, List.filterMap_nil, List.getElem?_toArray, List.getElem?_cons_succ, List.getElem?_cons_zero]
            refine wpList_build1 (v := .agg (FC (fAt L k))) (cs := FC (fAt L k)) rfl 42 30 _ rfl rfl (fun w => run_build_frs w _) ?_
            try simp only [Act.put, List.setIfInBounds_toArray, List.set_cons_zero, List.set_cons_succ]
            refine wpList_append_one_at rfl _ _ 42 rfl w.heap.size 30 Try.underlying42 infoFrL rfl (by decide) (by omega) (oX.alloc _) rfl (fAt L k) rfl (range_new _ _ _) (by omega) (by simp; omega) ?_
            intro v' w4 hown' hgrow hat
            have fz := (grown_row (rZ.alloc _) hgrow zne).free 0
            have cz : w4.cell? ⟨w.heap.size + 1, 0, none⟩ = some u := (grown_row (rZ.alloc _) hgrow zne).cell 0
            try simp only [Act.put, List.setIfInBounds_toArray, List.set_cons_zero, List.set_cons_succ]
            obtain ⟨A9, c9, hv9⟩ := hown'.val
            generalize (splL L S true k ++ [fAt L k]).length = ln9 at hv9
            subst hv9
            have GG := Lib.hid (And.intro hown' (And.intro hgrow hat))
            clear hown' hgrow hat
            go_wp2
            rw [normalOnly_normal]
            go_wp2
            go_roundw
            case rel =>
              go_light
              obtain ⟨k', u', q', h1, h2, h3, h4, h5, h6, h7, h8, h9⟩ := FF.out _ w4 _ (oX.alloc _) (oY.alloc _) (rZ.alloc _) (rW.alloc _) (hb'.alloc hb'.size _) (by simp; omega) (by simp) GG.out.1 GG.out.2.1 GG.out.2.2
              exact ⟨k', u', q', h1, by rw [h2], h3, h4, h5, h6, h7, h8⟩
            case measure => simp [intOf]; omega
          · rw [if_pos (by rfl)]
            refine wp_build1H 42 30 _ (by rfl) (v := .agg (FC (fAt L k))) (cs := FC (fAt L k)) (by rfl) (fun w => run_build_frs w _) ?_
            refine hK.out _ _ trivial (fun _ => ?_)
            clear hK K
            try simp only [Act.put, List.setIfInBounds_toArray, List.set_cons_zero, List.set_cons_succ]
            refine forced [3, 9, 10, 11] (by decide) (by kernel_rfl) ?_
            simp only [List.filterMap_cons, List.filterMap_nil, List.getElem?_toArray, List.getElem?_cons_succ, List.getElem?_cons_zero]
            have kX2 : (wd.alloc (.cells (FC (fAt L k)) 30)).cell? ⟨w.heap.size + 1, 0, none⟩ = some u := (rZ.alloc (.cells (FC (fAt L k)) 30)).cell 0
            refine wpList_load_cell rfl 42 _ rfl ⟨w.heap.size + 1, 0, none⟩ rfl kX2 (fun w => by kernel_rfl) ?_
            try simp only [Act.put, List.setIfInBounds_toArray, List.set_cons_zero, List.set_cons_succ]
            refine wpList_append_one_at rfl _ _ 42 rfl w.heap.size 30 Try.underlying42 infoFrL rfl (by decide) (by omega) (oX.alloc _) rfl (fAt L k) rfl (range_new _ _ _) (by omega) (by simp; omega) ?_
            intro v' w4 hown' hgrow hat
            have fz := (grown_row (rZ.alloc _) hgrow zne).free 0
            have cz : w4.cell? ⟨w.heap.size + 1, 0, none⟩ = some u := (grown_row (rZ.alloc _) hgrow zne).cell 0
            try simp only [Act.put, List.setIfInBounds_toArray, List.set_cons_zero, List.set_cons_succ]
            obtain ⟨A9, c9, hv9⟩ := hown'.val
            generalize (splL L S true k ++ [fAt L k]).length = ln9 at hv9
            subst hv9
            have GG := Lib.hid (And.intro hown' (And.intro hgrow hat))
            clear hown' hgrow hat
            go_wp2
            rw [normalOnly_normal]
            go_wp2
            go_roundw
            case rel =>
              go_light
              obtain ⟨k', u', q', h1, h2, h3, h4, h5, h6, h7, h8, h9⟩ := FF.out _ w4 _ (oX.alloc _) (oY.alloc _) (rZ.alloc _) (rW.alloc _) (hb'.alloc hb'.size _) (by simp; omega) (by simp) GG.out.1 GG.out.2.1 GG.out.2.2
              exact ⟨k', u', q', h1, by rw [h2], h3, h4, h5, h6, h7, h8⟩
            case measure => simp [intOf]; omega
      · have Y := Lib.hid (y2 (by decide))
        have N := Lib.hid (n1 (by decide))
        clear y1 y2 n1 n2 hz01
        go_wp2
        refine wp_region_takes (by kernel_rfl) ?_
        have hb' : Below w.heap.size w wr.drew := ⟨hb.os, hb.tape, hb.output, hb.size, hb.block⟩
        have gA : wr.drew.rangeAt b1 (o1 + k * 12) (FC (fAt L k)).toList := g1
        have oX : OwnL eFr wr.drew w.heap.size 30 q (splL L S false k) := ho2
        have oY : OwnL eFr wr.drew w.heap.size 30 u (splL L S true k) := ho1
        have rZ : Row wr.drew (w.heap.size + 1) 97 #[u, q] := rB
        have rW : Row wr.drew w.heap.size 97 #[.slice none 0 0, .slice none 0 0] := rA
        have kX : wr.drew.cell? ⟨w.heap.size + 1, 1, none⟩ = some q := cq
        have zne : q.ownBlock ≠ some (w.heap.size + 1) := NE.out.2.1
        have zsz : wr.drew.heap.size = wr.heap.size := rfl
        have zN : ∀ j, q.ownBlock = some j → j < wr.drew.heap.size := M4.out
        have zM : ∀ j, u.ownBlock = some j → j < wr.drew.heap.size := N4.out
        clear rA rB ho1 ho2 hb g1 cu cq f0 f1 N4 M4
        generalize wr.drew = wd at *
        refine held_take (i := 0) (v := ?_) rfl (by kernel_rfl) (by kernel_rfl) (by kernel_rfl) (fun _ _ _ h => nomatch h.1) (Or.inl ⟨by rfl, ?_⟩) trivial ?_
        rotate_left
        · intro w hSw; go_simp; (try with_reducible rfl)
        try simp only [Act.put, List.setIfInBounds_toArray, List.set_cons_zero, List.set_cons_succ]
        refine held_take (i := 1) (v := ?_) rfl (by kernel_rfl) (by kernel_rfl) (by kernel_rfl) (fun _ _ _ h => nomatch h.1) (Or.inl ⟨by rfl, ?_⟩) trivial ?_
        rotate_left
        · intro w hSw; go_simp; (try with_reducible rfl)
        try simp only [Act.put, List.setIfInBounds_toArray, List.set_cons_zero, List.set_cons_succ]
        refine held_take (i := 2) (v := ?_) rfl (by kernel_rfl) (by kernel_rfl) (by kernel_rfl) (fun _ _ _ h => nomatch h.1) (Or.inl ⟨by rfl, ?_⟩) trivial ?_
        rotate_left
        · intro w hSw; go_simp; (try with_reducible rfl)
        try simp only [Act.put, List.setIfInBounds_toArray, List.set_cons_zero, List.set_cons_succ]
        refine held_take (i := 4) (v := ?_) rfl (by kernel_rfl) (by kernel_rfl) (by kernel_rfl) (fun _ _ _ h => nomatch h.1) (Or.inl ⟨by rfl, ?_⟩) trivial ?_
        rotate_left
        · intro w hSw; go_simp; (try with_reducible rfl)
        try simp only [Act.put, List.setIfInBounds_toArray, List.set_cons_zero, List.set_cons_succ]
        refine held_take (i := 5) (v := ?_) rfl (by kernel_rfl) (by kernel_rfl) (by kernel_rfl) (fun _ _ _ h => nomatch h.1) (Or.inl ⟨by rfl, ?_⟩) trivial ?_
        rotate_left
        · intro w hSw; go_simp; (try with_reducible rfl)
        try simp only [Act.put, List.setIfInBounds_toArray, List.set_cons_zero, List.set_cons_succ]
        refine held_take (i := 6) (v := ?_) rfl (by kernel_rfl) (by kernel_rfl) (by kernel_rfl) (fun _ _ _ h => nomatch h.1) (Or.inl ⟨by rfl, ?_⟩) trivial ?_
        rotate_left
        · intro w hSw; go_simp; (try with_reducible rfl)
        try simp only [Act.put, List.setIfInBounds_toArray, List.set_cons_zero, List.set_cons_succ]
        have FIN : ∀ (v' : Value) (w4 w3 : World), OwnL eFr w3 w.heap.size 30 q (splL L S false k) → OwnL eFr w3 w.heap.size 30 u (splL L S true k) → Row w3 (w.heap.size + 1) 97 #[u, q] → Row w3 w.heap.size 97 #[.slice none 0 0, .slice none 0 0] → Below w.heap.size w w3 → w.heap.size ≤ w3.heap.size → wd.heap.size ≤ w3.heap.size →
            OwnL eFr w4 w.heap.size 30 v' (splL L S false k ++ [fAt L k]) → w3.grownBy w4 q.ownBlock → (v'.ownBlock = q.ownBlock ∨ v'.ownBlock = some w3.heap.size) →
            ∃ (k' : Nat) (u' q' : Value), k' ≤ S.length ∧ ((k : Int) + 1) = (k' : Int) ∧ Row (w4.setCell ⟨w.heap.size + 1, 1, none⟩ v') w.heap.size 97 #[.slice none 0 0, .slice none 0 0] ∧ Row (w4.setCell ⟨w.heap.size + 1, 1, none⟩ v') (w.heap.size + 1) 97 #[u', q'] ∧ OwnL eFr (w4.setCell ⟨w.heap.size + 1, 1, none⟩ v') w.heap.size 30 u' (splL L S true k') ∧ OwnL eFr (w4.setCell ⟨w.heap.size + 1, 1, none⟩ v') w.heap.size 30 q' (splL L S false k') ∧ ApB u' q' ∧ Below w.heap.size w (w4.setCell ⟨w.heap.size + 1, 1, none⟩ v') ∧ k' = k + 1 := by
          intro v' w4 w3 p1 p2 p3 p4 p5 p6 p7 o4 hg hat
          have r4 := grown_row p3 hg zne
          have s4 := grown_row p4 hg NE.out.2.2.2
          have o5 := p2.kept hg HAP.out
          have ap : ApB u v' := ((HAP.out.symm.step (N := w3.heap.size) (fun j hj => Nat.lt_of_lt_of_le (zM j hj) p7) hat)).symm
          have nv : v'.ownBlock ≠ some (w.heap.size + 1) := o4.ne_type r4 (by decide)
          have nq : u.ownBlock ≠ some (w.heap.size + 1) := o5.ne_type r4 (by decide)
          have hb4 := p1.grown_below p5 hg (Nat.le_refl _) p6
          have wr4 := (Wrote.refl (w.heap.size + 1) w4).setCell (p := ⟨w.heap.size + 1, 1, none⟩) rfl v'
          refine ⟨k + 1, u, v', by omega, by omega, s4.other (a := ⟨w.heap.size + 1, 1, none⟩) v' (by dsimp only; omega), row2_set1 r4 v', ?_, ?_, ap, hb4.setCell (p := ⟨w.heap.size + 1, 1, none⟩) (by dsimp only; omega) _, rfl⟩
          · rw [N.out]; exact o5.wrote wr4 nq
          · rw [Y.out]; exact o4.wrote wr4 nv
        have FF := Lib.hid FIN
        clear FIN
        refine wpAnyH_ready (rs := [3, 7]) (by kernel_rfl) (by simp) ?_
        refine held_cons rfl (fun K hK => ?_) (held_cons rfl (fun K hK => ?_) AllReadyH.nil)
        · rw [if_pos (by rfl)]
          go_simp
          refine hK.out _ _ trivial (fun _ => ?_)
          clear hK K
          try simp only [Act.put, List.setIfInBounds_toArray, List.set_cons_zero, List.set_cons_succ]
          refine forced [7, 8, 9, 10, 11] (by decide) (by kernel_rfl) ?_
          simp only [List.filterMap_cons, List.filterMap_nil, List.getElem?_toArray, List.getElem?_cons_succ, List.getElem?_cons_zero]
          refine wpList_load_at rfl 30 22 _ rfl _ _ rfl gA Try.underlying30 (by kernel_rfl) ?_
          try simp only [Act.put, List.setIfInBounds_toArray, List.set_cons_zero, List.set_cons_succ]
          refine wpList_build1 (v := .agg (FC (fAt L k))) (cs := FC (fAt L k)) rfl 42 30 _ rfl rfl (fun w => run_build_frs w _) ?_
          try simp only [Act.put, List.setIfInBounds_toArray, List.set_cons_zero, List.set_cons_succ]
          refine wpList_append_one_at rfl _ _ 42 rfl w.heap.size 30 Try.underlying42 infoFrL rfl (by decide) (by omega) (oX.alloc _) rfl (fAt L k) rfl (range_new _ _ _) (by omega) (by simp; omega) ?_
          intro v' w4 hown' hgrow hat
          have fz := (grown_row (rZ.alloc _) hgrow zne).free 1
          have cz : w4.cell? ⟨w.heap.size + 1, 1, none⟩ = some q := (grown_row (rZ.alloc _) hgrow zne).cell 1
          try simp only [Act.put, List.setIfInBounds_toArray, List.set_cons_zero, List.set_cons_succ]
          obtain ⟨A9, c9, hv9⟩ := hown'.val
          generalize (splL L S false k ++ [fAt L k]).length = ln9 at hv9
          subst hv9
          have GG := Lib.hid (And.intro hown' (And.intro hgrow hat))
          clear hown' hgrow hat
          go_wp2
          rw [normalOnly_normal]
          go_wp2
          go_roundw
          case rel =>
            go_light
            obtain ⟨k', u', q', h1, h2, h3, h4, h5, h6, h7, h8, h9⟩ := FF.out _ w4 _ (oX.alloc _) (oY.alloc _) (rZ.alloc _) (rW.alloc _) (hb'.alloc hb'.size _) (by simp; omega) (by simp) GG.out.1 GG.out.2.1 GG.out.2.2
            exact ⟨k', u', q', h1, by rw [h2], h3, h4, h5, h6, h7, h8⟩
          case measure => simp [intOf]; omega
        · rw [if_pos (by rfl)]
          refine wp_load_fr_H 30 22 _ rfl _ _ rfl gA Try.underlying30 hiz ?_
          refine hK.out _ _ trivial (fun _ => ?_)
          clear hK K
          try simp only [Act.put, List.setIfInBounds_toArray, List.set_cons_zero, List.set_cons_succ]
          refine wpAnyH_ready (rs := [3, 8]) (by kernel_rfl) (by simp) ?_
          refine held_cons rfl (fun K hK => ?_) (held_cons rfl (fun K hK => ?_) AllReadyH.nil)
          · rw [if_pos (by rfl)]
            go_simp
            refine hK.out _ _ trivial (fun _ => ?_)
            clear hK K
            try simp only [Act.put, List.setIfInBounds_toArray, List.set_cons_zero, List.set_cons_succ]
            refine forced [8, 9, 10, 11] (by decide) (by kernel_rfl) ?_
            simp only [List.filterMap_cons, List.filterMap_nil, List.getElem?_toArray, List.getElem?_cons_succ, List.getElem?_cons_zero]
            refine wpList_build1 (v := .agg (FC (fAt L k))) (cs := FC (fAt L k)) rfl 42 30 _ rfl rfl (fun w => run_build_frs w _) ?_
            try simp only [Act.put, List.setIfInBounds_toArray, List.set_cons_zero, List.set_cons_succ]
            refine wpList_append_one_at rfl _ _ 42 rfl w.heap.size 30 Try.underlying42 infoFrL rfl (by decide) (by omega) (oX.alloc _) rfl (fAt L k) rfl (range_new _ _ _) (by omega) (by simp; omega) ?_
            intro v' w4 hown' hgrow hat
            have fz := (grown_row (rZ.alloc _) hgrow zne).free 1
            have cz : w4.cell? ⟨w.heap.size + 1, 1, none⟩ = some q := (grown_row (rZ.alloc _) hgrow zne).cell 1
            try simp only [Act.put, List.setIfInBounds_toArray, List.set_cons_zero, List.set_cons_succ]
            obtain ⟨A9, c9, hv9⟩ := hown'.val
            generalize (splL L S false k ++ [fAt L k]).length = ln9 at hv9
            subst hv9
            have GG := Lib.hid (And.intro hown' (And.intro hgrow hat))
            clear hown' hgrow hat
            go_wp2
            rw [normalOnly_normal]
            go_wp2
            go_roundw
            case rel =>
              go_light
              obtain ⟨k', u', q', h1, h2, h3, h4, h5, h6, h7, h8, h9⟩ := FF.out _ w4 _ (oX.alloc _) (oY.alloc _) (rZ.alloc _) (rW.alloc _) (hb'.alloc hb'.size _) (by simp; omega) (by simp) GG.out.1 GG.out.2.1 GG.out.2.2
              exact ⟨k', u', q', h1, by rw [h2], h3, h4, h5, h6, h7, h8⟩
            case measure => simp [intOf]; omega
          · rw [if_pos (by rfl)]
            refine wp_build1H 42 30 _ (by rfl) (v := .agg (FC (fAt L k))) (cs := FC (fAt L k)) (by rfl) (fun w => run_build_frs w _) ?_
            refine hK.out _ _ trivial (fun _ => ?_)
            clear hK K
            try simp only [Act.put, List.setIfInBounds_toArray, List.set_cons_zero, List.set_cons_succ]
            refine forced [3, 9, 10, 11] (by decide) (by kernel_rfl) ?_
            simp only [List.filterMap_cons, List.filterMap_nil, List.getElem?_toArray, List.getElem?_cons_succ, List.getElem?_cons_zero]
            have kX2 : (wd.alloc (.cells (FC (fAt L k)) 30)).cell? ⟨w.heap.size + 1, 1, none⟩ = some q := (rZ.alloc (.cells (FC (fAt L k)) 30)).cell 1
            refine wpList_load_cell rfl 42 _ rfl ⟨w.heap.size + 1, 1, none⟩ rfl kX2 (fun w => by kernel_rfl) ?_
            try simp only [Act.put, List.setIfInBounds_toArray, List.set_cons_zero, List.set_cons_succ]
            refine wpList_append_one_at rfl _ _ 42 rfl w.heap.size 30 Try.underlying42 infoFrL rfl (by decide) (by omega) (oX.alloc _) rfl (fAt L k) rfl (range_new _ _ _) (by omega) (by simp; omega) ?_
            intro v' w4 hown' hgrow hat
            have fz := (grown_row (rZ.alloc _) hgrow zne).free 1
            have cz : w4.cell? ⟨w.heap.size + 1, 1, none⟩ = some q := (grown_row (rZ.alloc _) hgrow zne).cell 1
            try simp only [Act.put, List.setIfInBounds_toArray, List.set_cons_zero, List.set_cons_succ]
            obtain ⟨A9, c9, hv9⟩ := hown'.val
            generalize (splL L S false k ++ [fAt L k]).length = ln9 at hv9
            subst hv9
            have GG := Lib.hid (And.intro hown' (And.intro hgrow hat))
            clear hown' hgrow hat
            go_wp2
            rw [normalOnly_normal]
            go_wp2
            go_roundw
            case rel =>
              go_light
              obtain ⟨k', u', q', h1, h2, h3, h4, h5, h6, h7, h8, h9⟩ := FF.out _ w4 _ (oX.alloc _) (oY.alloc _) (rZ.alloc _) (rW.alloc _) (hb'.alloc hb'.size _) (by simp; omega) (by simp) GG.out.1 GG.out.2.1 GG.out.2.2
              exact ⟨k', u', q', h1, by rw [h2], h3, h4, h5, h6, h7, h8⟩
            case measure => simp [intOf]; omega
    · have hkl : k = S.length := by omega
      subst hkl
      have fA := rA.free 0
      clear hA hB
      obtain ⟨Au, cu, hu⟩ := ho1.val
      obtain ⟨Aq, cq, hq⟩ := ho2.val
      have cB0 : wr.cell? ⟨w.heap.size + 1, 0, none⟩ = some u := rB.cell 0
      have cB1 : wr.cell? ⟨w.heap.size + 1, 1, none⟩ = some q := rB.cell 1
      have cA0 : wr.cell? ⟨w.heap.size, 0, none⟩ = some (.slice none 0 0) := rA.cell 0
      have cA1 : wr.cell? ⟨w.heap.size, 1, none⟩ = some (.slice none 0 0) := rA.cell 1
      have fA0 := rA.free 0
      have fA1 := rA.free 1
      generalize hlu : (splL L S true S.length).length = lu at hu
      generalize hlq : (splL L S false S.length).length = lq at hq
      subst hu
      subst hq
      clear hlu hlq
      go_wp2
      have wA := ((Wrote.refl w.heap.size wr).setCell (p := ⟨w.heap.size, 0, none⟩) rfl (.slice Au lu cu)).setCell (p := ⟨w.heap.size, 1, none⟩) rfl (.slice Aq lq cq)
      refine bodyPost_ret_row rfl rfl (row2_set1 (row2_set0 rA (.slice Au lu cu)) (.slice Aq lq cq)) Try.underlying97 rfl (by kernel_rfl) rfl ?_
      exact ⟨_, _, rfl, ho1.wrote wA (ho1.ne_type rA (by decide)), ho2.wrote wA (ho2.ne_type rA (by decide)), hap, (hb.setCell (p := ⟨w.heap.size, 0, none⟩) (Nat.le_refl _) _).setCell (p := ⟨w.heap.size, 1, none⟩) (Nat.le_refl _) _⟩
theorem sdK_any (L : List (Nat → Nat)) (S : List Int) (hl : S.length = L.length) : sdK L S S.length = !decide (0 ≤ idxF noS S) := by
  by_cases h : ∃ i, i < S.length ∧ noS (nAt S i) = true ∧ ∀ j, j < i → noS (nAt S j) = false
  · obtain ⟨i, hi, hn, hj⟩ := h
    rw [idxF_hit hi hn hj]
    have : sdK L S S.length = false := by
      rw [Bool.eq_false_iff]
      intro e
      have := ((sdK_iff L S _).1 e).2 i hi
      unfold noS at hn
      rw [inB_iff.2 this] at hn
      cases hn
    rw [this]; simp
  · have hn : ∀ j, j < S.length → noS (nAt S j) = false := by
      intro j
      induction j using Nat.strongRecOn with
      | ind j ih =>
        intro hj
        cases hc : noS (nAt S j) with
        | false => rfl
        | true => exact absurd ⟨j, hj, hc, fun q hq => ih q hq (by omega)⟩ h
    rw [idxF_miss hn, (sdK_iff L S _).2 ⟨hl, fun i hi => ?_⟩]
    · rfl
    · have := hn i hi
      unfold noS at this
      exact inB_iff.1 (by simpa using this)
set_option maxHeartbeats 2000000 in
theorem implMixedOf_any (v x : Value) (L : List (Nat → Nat)) (S : List Int) (w : World) (hL : ltL L) (h : SlAt eFr w w.heap.size v L) (hs : SlAt (eI .i64) w w.heap.size x S) :
    Calls Try.prog 24 #[v, x] w (GivesBB (ifL (mxC L S) (splL L S true S.length)) (ifL (mxC L S) (splL L S false S.length)) (fun a b => .tuple #[a, b, .int .i64 (mxC L S)]) w) := by
  have cV := implValidBook_any v L w hL h
  have cC := fun (w1 : World) (hb : Below w.heap.size w w1) => containsFunc_any 80 #[] noS x S w1 (fun x w => by kernel_rfl) (fun k hk w2 hb2 => isNoSide_any (nAt S k) w2) (hs.later hb)
  have hsd := sdK_any L S
  cases ho : okB L with
  | false =>
    have hc : mxC L S = 1 := by unfold mxC; rw [ho]; rfl
    obtain ⟨A, c, rfl⟩ := h.form
    obtain ⟨B, d, rfl⟩ := hs.form
    rw [ho] at cV
    rw [hc, ifL1 _ (by decide), ifL1 _ (by decide)]
    clear ho hc h hs cC hsd
    go_enter Try.func24, Try.ntmps24
    go_wp2_with (go_at_call 78; refine cV.mono ?_; rintro e w1 ⟨rfl, hb1⟩)
    go_ret3
    exact ⟨_, _, rfl, OwnL.nil_ _ _ _, OwnL.nil_ _ _ _, .inl rfl, hb1⟩
  | true =>
    have hlen := okB_len ho
    by_cases hl : S.length = L.length
    · have hsd := hsd hl
      cases hq : decide (0 ≤ idxF noS S) with
      | true =>
        have hc : mxC L S = 2 := by unfold mxC; rw [ho, hsd, hq]; rfl
        obtain ⟨A, c, rfl⟩ := h.form
        obtain ⟨B, d, rfl⟩ := hs.form
        rw [ho] at cV
        rw [hq] at cC
        rw [hc, ifL1 _ (by decide), ifL1 _ (by decide)]
        have e0 : ((S.length : Int) != (L.length : Int)) = false := by simp [hl]
        clear ho hc h hs hsd hq hl
        go_enter Try.func24, Try.ntmps24
        go_wp2_with (first | (go_at_call 78; refine cV.mono ?_; rintro e w1 ⟨rfl, hb1⟩) | (go_at_call 79; refine (cC _ hb1).mono ?_; rintro e w2 ⟨rfl, hb2⟩))
        go_ret3
        exact ⟨_, _, rfl, OwnL.nil_ _ _ _, OwnL.nil_ _ _ _, .inl rfl, grown_below hb1 hb2 hb1.size⟩
      | false =>
        have hk : sdK L S S.length = true := by rw [hsd, hq]; rfl
        have hc : mxC L S = 0 := by unfold mxC; rw [ho, hk]; rfl
        have cM := fun (w1 : World) (hb : Below w.heap.size w w1) => mixed_any v x L S w1 hl ((sdK_iff L S _).1 hk).2 (by omega) (h.later hb) (hs.later hb)
        obtain ⟨A, c, rfl⟩ := h.form
        obtain ⟨B, d, rfl⟩ := hs.form
        rw [ho] at cV
        rw [hq] at cC
        rw [hc, ifL0, ifL0]
        have e0 : ((S.length : Int) != (L.length : Int)) = false := by simp [hl]
        clear ho hc h hs hsd hq hl hk
        go_enter Try.func24, Try.ntmps24
        go_wp2_with (first | (go_at_call 78; refine cV.mono ?_; rintro e w1 ⟨rfl, hb1⟩) | (go_at_call 79; refine (cC _ hb1).mono ?_; rintro e w2 ⟨rfl, hb2⟩; replace hb1 := grown_below hb1 hb2 hb1.size; clear hb2) | (go_at_call 81; refine (cM _ hb1).mono ?_; rintro e w3 ⟨p, q, rfl, ho1, ho2, hap, hb3⟩; obtain ⟨Ap, cp, hp⟩ := ho1.val; obtain ⟨Aq, cq, hq⟩ := ho2.val; generalize (splL L S true S.length).length = lp at hp; generalize (splL L S false S.length).length = lq at hq; subst hp; subst hq; replace hb3 := grown_below hb1 hb3 hb1.size; have hz1 := hb1.size))
        have rN := Row.new w3 97 #[.slice Ap lp cp, .slice Aq lq cq]
        have q0 : (w3.alloc (.cells #[.slice Ap lp cp, .slice Aq lq cq] 97)).cell? ⟨w3.heap.size, 0, none⟩ = some (.slice Ap lp cp) := rN.cell 0
        have q1 : (w3.alloc (.cells #[.slice Ap lp cp, .slice Aq lq cq] 97)).cell? ⟨w3.heap.size, 1, none⟩ = some (.slice Aq lq cq) := rN.cell 1
        have ho1' := (ho1.alloc (.cells #[.slice Ap lp cp, .slice Aq lq cq] 97)).mono hz1
        have ho2' := (ho2.alloc (.cells #[.slice Ap lp cp, .slice Aq lq cq] 97)).mono hz1
        have hb4 := hb3.alloc hb3.size (.cells #[.slice Ap lp cp, .slice Aq lq cq] 97)
        clear rN ho1 ho2 hb3 cM cC cV
        generalize w3.alloc (.cells #[.slice Ap lp cp, .slice Aq lq cq] 97) = w4 at *
        go_quiet (fail)
        go_wp2
        go_ret3
        exact ⟨_, _, rfl, ho1', ho2', hap, below_drewN hb4 _⟩
    · have hc : mxC L S = 2 := by
        have : sdK L S S.length = false := by rw [Bool.eq_false_iff]; intro e; exact hl ((sdK_iff L S _).1 e).1
        unfold mxC; rw [ho, this]; rfl
      obtain ⟨A, c, rfl⟩ := h.form
      obtain ⟨B, d, rfl⟩ := hs.form
      rw [ho] at cV
      rw [hc, ifL1 _ (by decide), ifL1 _ (by decide)]
      have e0 : ((S.length : Int) != (L.length : Int)) = true := by simp; omega
      clear ho hc h hs hsd hl cC
      go_enter Try.func24, Try.ntmps24
      go_wp2_with (go_at_call 78; refine cV.mono ?_; rintro e w1 ⟨rfl, hb1⟩)
      go_ret3
      exact ⟨_, _, rfl, OwnL.nil_ _ _ _, OwnL.nil_ _ _ _, .inl rfl, hb1⟩
end Go.Proofs.Ytajlkleoincoeaa
