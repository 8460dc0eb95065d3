import Derived.Test.YtajlkleoincoeacDoorM5
import Derived.Test.YtajlkleoincoeacDoorRows
import Derived.Test.YtajlkleoincoeacDoorM2
import Derived.Test.YtajlkleoincoeacDoorM12
import Derived.Test.YtajlkleoincoeacDoorM13
import Derived.Test.YtajlkleoincoeacDoorM14
import Derived.Test.YtajlkleoincoeacDoorM15
/- LOADS of whole frames under a guard that is met, in a region that draws its order. -/
namespace Go.Proofs.YtajlkleoincoeacDoor
open Go.RowKit
set_option linter.unusedVariables false
set_option linter.unusedSimpArgs false
section
variable {P : Program} {ops : Array Oper} {rest : List Oper} {o : Oper} {a : Act} {w : World}
open Go.Sort in
theorem wpQuiet_load_frG {Q : Act → Prop} (hw : Region.wanted o (yielded ops a.tmps) = true) (ty e : TypeId) (x : Operand) (ho : o.op = .load ty x) (g : Nat) (hx : a.eval x = .pointer (some ⟨g, 0, none⟩))
    {t : TypeId} {f : Nat → Nat} (hb : Blk w g t f) (hu : P.underlying ty = some (.array 12 e)) (hi : (P.info? ty).map (·.size) = some 12)
    (h : wpQuiet P ops (fun w' => ∃ p : Regrown, w' = grow (redrawn w p.d) p.os) Q rest (a.put o.dst (.agg (FC f)))) : wpQuiet P ops (fun w' => ∃ p : Regrown, w' = grow (redrawn w p.d) p.os) Q (o :: rest) a := by
  unfold wpQuiet
  rw [if_pos hw]
  refine ⟨_, ?_, h⟩
  rintro w' ⟨p, rfl⟩
  have hb' : Blk (grow (redrawn w p.d) p.os) g t f := hb.below (below_regrown w p.d p.os) hb.lt
  unfold Oper.quietAt execOp
  simp only [ho, hx, Instr.loadAt, Instr.sureAddr, Sem.run_bind, Sem.run_pure, Result.andThen_ok, run_loadVar_row _ g t ty (FC f) (0, 0) _ hb' hu rfl hi]
  exact ⟨rfl, rfl⟩
open Go.Sort in
theorem wpQuiet_load_atG {Q : Act → Prop} (hw : Region.wanted o (yielded ops a.tmps) = true) (ty e : TypeId) (x : Operand) (ho : o.op = .load ty x) (b off : Nat) (hx : a.eval x = .pointer (some ⟨b, off, none⟩)) {f : Nat → Nat} (hb : w.rangeAt b off (FC f).toList) (hlt : b < w.heap.size)
    (hu : P.underlying ty = some (.array 12 e)) (hi : (P.info? ty).map (·.size) = some 12)
    (h : wpQuiet P ops (fun w' => ∃ p : Regrown, w' = grow (redrawn w p.d) p.os) Q rest (a.put o.dst (.agg (FC f)))) : wpQuiet P ops (fun w' => ∃ p : Regrown, w' = grow (redrawn w p.d) p.os) Q (o :: rest) a := by
  have hz : (P.info? ty).map (·.size) = some (FC f).toList.length := hi
  unfold wpQuiet
  rw [if_pos hw]
  refine ⟨_, ?_, h⟩
  rintro w' ⟨p, rfl⟩
  have hb' : (grow (redrawn w p.d) p.os).rangeAt b off (FC f).toList := range_below hb (below_regrown w p.d p.os) hlt
  unfold Oper.quietAt execOp
  simp only [ho, hx, Instr.loadAt, Instr.sureAddr, Sem.run_bind, Sem.run_pure, Result.andThen_ok, run_loadVar_mid _ b off ty (FC f).toList _ hb' hu rfl hz]
  exact ⟨rfl, rfl⟩
end
end Go.Proofs.YtajlkleoincoeacDoor

/- THE LAW FnMorphs, what its walk needs: numbers of dots; a middle is the majority; the contracts at valid frames. -/
namespace Go.Proofs.YtajlkleoincoeacDoor
open Go.RowKit
set_option linter.unusedVariables false
set_option linter.unusedSimpArgs false
theorem ok_of_4096 {f : Nat → Nat} (h : ∀ k, f k < 4096) : okF f = true := okF_iff.2 fun y _ => by have := h y; omega
theorem lt_of_4096 {f : Nat → Nat} (h : ∀ k, f k < 4096) (k : Nat) : f k < 65536 := Nat.lt_trans (h k) (by decide)
theorem bothC_ok {f g : Nat → Nat} (hf : okF f = true) (hg : okF g = true) : bothC f g = 0 := by unfold bothC; rw [hf, hg]; rfl
theorem diffV_ok {f g : Nat → Nat} (hf : okF f = true) (hg : okF g = true) : diffV f g = (difN f g : Int) := by unfold diffV; rw [bothC_ok hf hg, if_pos rfl]; rfl
theorem differ_ok (f g : Nat → Nat) (hf : okF f = true) (hg : okF g = true) (lf : ∀ k, f k < 65536) (lg : ∀ k, g k < 65536) (w : World) :
    Calls Tryd.prog 31 #[.agg (FC f), .agg (FC g)] w fun e' w' => e' = .returned (.tuple #[.int .i64 (difN f g : Nat), .int .i64 0]) ∧ Below w.heap.size w w' := by
  have := implDifferBy_any f g lf lg w
  rw [diffV_ok hf hg, bothC_ok hf hg] at this
  exact this
theorem morC_ok {a b : Nat → Nat} (ha : okF a = true) (hb : okF b = true) {s t : Nat} (hs : s ≤ t) (h1 : 1 ≤ t) (h2 : t ≤ 200) : morC a b (s : Int) (t : Int) = 0 := by
  unfold morC
  rw [ha, hb, inB_iff.2 (show (1 : Int) ≤ (t : Int) ∧ (t : Int) ≤ 200 by omega), inB_iff.2 (show (0 : Int) ≤ (s : Int) ∧ (s : Int) ≤ (t : Int) by omega)]
  rfl
theorem morphAt_ok (a b : Nat → Nat) (s t : Nat) (sa : Nat → Addr) (w : World) (ha : okF a = true) (hb : okF b = true) (la : ∀ k, a k < 65536) (lb : ∀ k, b k < 65536) (hs : s ≤ t) (h1 : 1 ≤ t) (h2 : t ≤ 200) (hS : Sent w sa) :
    Calls Tryd.prog 33 #[.agg (FC a), .agg (FC b), .int .i64 s, .int .i64 t] w fun e w' => e = .returned (.tuple #[.agg (FC (morF a b s t)), .int .i64 0]) ∧ Below w.heap.size w w' := by
  have := implMorphAt_any a b s t sa w la lb hS
  rw [morC_ok ha hb hs h1 h2, Int.toNat_natCast, Int.toNat_natCast] at this
  exact this
theorem morphBook_ok (a b : Nat → Nat) (t : Nat) (sa : Nat → Addr) (w : World) (ha : okF a = true) (hb : okF b = true) (la : ∀ k, a k < 65536) (lb : ∀ k, b k < 65536) (h1 : 1 ≤ t) (h2 : t ≤ 39) (hS : Sent w sa) :
    Calls Tryd.prog 29 #[.agg (FC a), .agg (FC b), .int .i64 t] w (GivesL eFr 26 (tab (fun i => morF a b i t) (t + 1)) 0 w) := by
  have := implMorphBook_any a b t sa w la lb hS
  have hc : mbC a b (t : Int) = 0 := by unfold mbC; rw [ha, hb, inB_iff.2 (show (1 : Int) ≤ (t : Int) ∧ (t : Int) ≤ 39 by omega)]; rfl
  rw [hc, ifL0] at this
  unfold mbL at this
  rw [Int.toNat_natCast] at this
  exact this
theorem morphBookS_ok (a b : Nat → Nat) (t : Nat) (w : World) (ha : okF a = true) (hb : okF b = true) (la : ∀ k, a k < 65536) (lb : ∀ k, b k < 65536) (h1 : 1 ≤ t) (h2 : t ≤ 39) :
    Calls Tryd.prog 30 #[.agg (FC a), .agg (FC b), .int .i64 t] w (GivesL eFr 26 (tab (fun i => morF a b i t) (t + 1)) 0 w) := by
  have := specMorphBook_any a b t w la lb
  have hc : mbC a b (t : Int) = 0 := by unfold mbC; rw [ha, hb, inB_iff.2 (show (1 : Int) ≤ (t : Int) ∧ (t : Int) ≤ 39 by omega)]; rfl
  rw [hc, ifL0] at this
  unfold mbL at this
  rw [Int.toNat_natCast] at this
  exact this
theorem middle_ok (a b : Nat → Nat) (sa : Nat → Addr) (w : World) (ha : okF a = true) (hb : okF b = true) (la : ∀ k, a k < 65536) (lb : ∀ k, b k < 65536) (hS : Sent w sa) :
    Calls Tryd.prog 34 #[.agg (FC a), .agg (FC b)] w fun e w' => e = .returned (.tuple #[.agg (FC (morF a b 1 2)), .int .i64 0]) ∧ Below w.heap.size w w' := by
  have := implMiddleOf_any a b sa w la lb hS
  have hc : morC a b 1 2 = 0 := morC_ok (s := 1) (t := 2) ha hb (by decide) (by decide) (by decide)
  rw [hc] at this
  exact this
theorem major_ok (a b c : Nat → Nat) (w : World) (ha : okF a = true) (hb : okF b = true) (hc : okF c = true) (la : ∀ k, a k < 65536) (lb : ∀ k, b k < 65536) (lc : ∀ k, c k < 65536) :
    Calls Tryd.prog 35 #[.agg (FC a), .agg (FC b), .agg (FC c)] w fun e w' => e = .returned (.tuple #[.agg (FC (majF a b c)), .int .i64 0]) ∧ Below w.heap.size w w' := by
  have := implMajorityOf_any a b c la lb lc w
  have hm : majC a b c = 0 := by unfold majC; rw [ha, hb, hc]; rfl
  rw [hm] at this
  exact this
/-- What two frames and one between them have most is the one between them. -/
theorem maj_mor {a b : Nat → Nat} (ha : okF a = true) (hb : okF b = true) (n : Nat) : eqF (majF a b (morK a b n 144)) (morK a b n 144) = true := by
  refine eqF_iff.2 fun y hy => ?_
  have h1 := okF_iff.1 ha y hy
  have h2 := okF_iff.1 hb y hy
  apply Nat.eq_of_testBit_eq
  intro i
  have hm : (mk (unlikeF a b) n 144 y).testBit i = true → (a y).testBit i ≠ (b y).testBit i := by
    intro h
    by_cases hi : i < 12
    · rw [mk_bit (unlikeF a b) n 144 y i hi (by omega)] at h
      have : (unlikeF a b y).testBit i = true := by
        cases hu : (unlikeF a b y).testBit i with
        | true => rfl
        | false => rw [hu] at h; simp at h
      unfold unlikeF at this
      rw [Nat.testBit_xor] at this
      cases h4 : (a y).testBit i <;> cases h5 : (b y).testBit i <;> simp [h4, h5] at this ⊢
    · have h3 : mk (unlikeF a b) n 144 y < 2 ^ i := Nat.lt_of_lt_of_le (mk_lt _ _ _ y) (show 2 ^ 12 ≤ 2 ^ i from Nat.pow_le_pow_right (by decide) (by omega))
      rw [Nat.testBit_lt_two_pow h3] at h
      cases h
  unfold majF
  rw [Nat.testBit_or, Nat.testBit_or, Nat.testBit_and, Nat.testBit_and, Nat.testBit_and]
  have e : (morK a b n 144 y).testBit i = ((a y).testBit i != (mk (unlikeF a b) n 144 y).testBit i) := by
    unfold morK
    show (a y ^^^ mk (unlikeF a b) n 144 y).testBit i = _
    rw [Nat.testBit_xor]
  rw [e]
  cases h6 : (mk (unlikeF a b) n 144 y).testBit i with
  | false => cases (a y).testBit i <;> cases (b y).testBit i <;> rfl
  | true =>
    have := hm h6
    cases h4 : (a y).testBit i <;> cases h5 : (b y).testBit i <;> simp [h4, h5] at this ⊢
end Go.Proofs.YtajlkleoincoeacDoor
