import Derived.Test.YtpmlepgnokbpaaaM16
import Derived.Test.YtpmlepgnokbpaaaM2
import Derived.Test.YtpmlepgnokbpaaaM1
import Derived.Test.YtpmlepgnokbpaaaM4
/- impl: movedRow, Frame.moved, as far as 200. -/
namespace Go.Proofs.Ytpmlepgnokbpaaa
set_option maxRecDepth 100000
open Go.RowKit
set_option linter.unusedVariables false
theorem pow_min {k : Nat} (h : 16 ≤ k) : ∃ q, 2 ^ k = 65536 * q := ⟨2 ^ (k - 16), by rw [show 65536 = 2 ^ 16 from rfl, ← Nat.pow_add]; congr 1; omega⟩
theorem shr_min {r : Nat} (hr : r ≤ 4095) (k : Nat) : (r : Int) / 2 ^ min k 16 = ((r / 2 ^ k : Nat) : Int) := by
  have h1 : (r : Int) / 2 ^ min k 16 = ((r / 2 ^ min k 16 : Nat) : Int) := by rw [Int.natCast_ediv, Int.natCast_pow]; rfl
  rw [h1]
  congr 1
  by_cases h : k ≤ 16
  · rw [Nat.min_eq_left h]
  · rw [Nat.min_eq_right (by omega), Nat.div_eq_of_lt (by omega), Nat.div_eq_of_lt]
    exact Nat.lt_of_lt_of_le (show r < 2 ^ 16 by omega) (Nat.pow_le_pow_right (by decide) (by omega))
theorem u16_shlM {r : Nat} (hr : r ≤ 4095) (k : Nat) : bits .and .u16 (IntKind.u16.wrap ((r : Int) * 2 ^ min k 16)) 4095 = ((r * 2 ^ k % 4096 : Nat) : Int) := by
  have h1 : ((r : Int) * 2 ^ min k 16) = ((r * 2 ^ min k 16 : Nat) : Int) := by rw [Int.natCast_mul, Int.natCast_pow]; rfl
  have h2 : IntKind.u16.wrap ((r * 2 ^ min k 16 : Nat) : Int) = ((r * 2 ^ min k 16 % 65536 : Nat) : Int) := by rw [IntKind.wrap_u16, Int.natCast_emod]; rfl
  have h3 := u16_and_nat (r * 2 ^ min k 16 % 65536) 4095 (Nat.mod_lt _ (by decide)) (by decide)
  rw [h1, h2, show (4095 : Int) = ((4095 : Nat) : Int) from rfl, h3, show 4095 = 2 ^ 12 - 1 by rfl, Nat.and_two_pow_sub_one_eq_mod]
  congr 1
  by_cases h : k ≤ 16
  · rw [Nat.min_eq_left h]; omega
  · obtain ⟨q, hq⟩ := pow_min (show 16 ≤ k by omega)
    have e1 : r * 2 ^ k = 4096 * (16 * (r * q)) := by rw [hq, show (4096 : Nat) * (16 * (r * q)) = r * (65536 * q) by rw [← Nat.mul_assoc, Nat.mul_left_comm]]
    have e2 : r * 2 ^ min k 16 = 4096 * (16 * r) := by rw [Nat.min_eq_right (by omega)]; omega
    rw [e1, e2]
    omega
theorem u16_shlW {r : Nat} (hr : r ≤ 4095) (k : Nat) : bits .and .u16 (IntKind.u16.wrap ((r : Int) * 2 ^ k)) 4095 = ((r * 2 ^ k % 4096 : Nat) : Int) := by
  have h1 : ((r : Int) * 2 ^ k) = ((r * 2 ^ k : Nat) : Int) := by rw [Int.natCast_mul, Int.natCast_pow]; rfl
  have h2 : IntKind.u16.wrap ((r * 2 ^ k : Nat) : Int) = ((r * 2 ^ k % 65536 : Nat) : Int) := by rw [IntKind.wrap_u16, Int.natCast_emod]; rfl
  have h3 := u16_and_nat (r * 2 ^ k % 65536) 4095 (Nat.mod_lt _ (by decide)) (by decide)
  rw [h1, h2, show (4095 : Int) = ((4095 : Nat) : Int) from rfl, h3, show 4095 = 2 ^ 12 - 1 by rfl, Nat.and_two_pow_sub_one_eq_mod]
  congr 1
  omega
set_option maxHeartbeats 400000 in
theorem movedRowW_any (r : Nat) (e : Int) (hr : r ≤ 4095) (h1 : -200 ≤ e) (h2 : e ≤ 200) (w : World) :
    Calls Try.prog 115 #[.int .u16 r, .int .i64 e] w fun e' w' => e' = .returned (.int .u16 (movedRow r e)) ∧ w = w' := by
  by_cases he : e < 0
  · obtain ⟨k, hk⟩ : ∃ k : Nat, e = -(k : Int) := ⟨(-e).toNat, by omega⟩
    subst hk
    have hv : movedRow r (-(k : Int)) = r / 2 ^ k := by
      unfold movedRow; rw [if_pos he, show (-(-(k : Int))).toNat = k by omega]
    have HV := Lib.hid hv
    clear hv
    go_enter Try.func115, Try.ntmps115
    go_wp2
    go_ret
    exact ⟨ret_int (by rw [HV.out]; exact shr_min hr k), rfl⟩
  · obtain ⟨k, hk⟩ : ∃ k : Nat, e = (k : Int) := ⟨e.toNat, by omega⟩
    subst hk
    have hv : movedRow r (k : Int) = r * 2 ^ k % 4096 := by
      unfold movedRow; rw [if_neg he, Int.toNat_natCast]
    have HV := Lib.hid hv
    clear hv
    have hop := u16_shlM hr k
    go_enter Try.func115, Try.ntmps115
    go_wp2
    go_ret
    exact ⟨ret_int (by rw [HV.out]; first | exact hop | simp), rfl⟩
set_option maxHeartbeats 1000000 in
theorem movedW_any (f : Nat → Nat) (e s : Int) (ho : okF f = true) (e1 : -200 ≤ e) (e2 : e ≤ 200) (s1 : -200 ≤ s) (s2 : s ≤ 200) (w : World) :
    Calls Try.prog 101 #[.agg (FC f), .int .i64 e, .int .i64 s] w fun e' w' => e' = .returned (.agg (FC (movedI f e s 12))) ∧ Below w.heap.size w w' := by
  obtain ⟨i0, hi0⟩ : ∃ i, Try.prog.info? 22 = some i := ⟨_, rfl⟩
  have b1 := ((Blk.new w 27 f).alloc (.cells (FC zeroF) 27)).alloc (.cells (FC zeroF) 27)
  have b2 := (Blk.new (w.alloc (.cells (FC f) 27)) 27 zeroF).alloc (.cells (FC zeroF) 27)
  have b3 := Blk.new ((w.alloc (.cells (FC f) 27)).alloc (.cells (FC zeroF) 27)) 27 zeroF
  have h0 := (((Below.refl w.heap.size w).alloc (Nat.le_refl _) (.cells (FC f) 27)).alloc (by simp) (.cells (FC zeroF) 27)).alloc (by simp; omega) (.cells (FC zeroF) 27)
  rw [World.size_alloc] at b2
  rw [World.size_alloc, World.size_alloc] at b3
  rw [FC_zero] at b1 b2 b3 h0
  go_enter Try.func101, Try.ntmps101
  go_wp2_with (refine wpList_load_fr rfl 27 22 _ rfl _ rfl b1 Try.underlying27 (by kernel_rfl) ?_)
  clear b1
  generalize (((w.alloc (.cells (FC f) 27)).alloc _).alloc _) = w1 at *
  go_loopw [12] (fun i wr => ∃ k : Nat, k ≤ 12 ∧ i = .int .i64 k ∧ Blk wr (w.heap.size + 1) 27 zeroF ∧ Blk wr (w.heap.size + 1 + 1) 27 (movedI f e s k) ∧ Below w.heap.size w wr) (fun i _ => 12 - (intOf i).toNat)
  case atStart => exact ⟨0, by omega, rfl, b2, b3.ext (fun t ht => by unfold movedI zeroF; rw [if_neg (by omega)]), h0⟩
  case round =>
    obtain ⟨k, hk, rfl, b2, b3, hb⟩ := hrel
    by_cases hlt : k < 12
    · have ix := fun w => run_index_fr (P := Try.prog) w f hlt Try.underlying27 (by kernel_rfl) hi0 (by kernel_rfl)
      have hfk := okF_iff.1 ho k hlt
      have hstep : ∀ t : Nat, (t : Int) ≠ (k : Int) + s → movedI f e s ((k + 1 : Nat) : Int) t = movedI f e s (k : Int) t := fun t ht => by
        unfold movedI
        by_cases h : 0 ≤ (t : Int) - s ∧ (t : Int) - s < (k : Int)
        · rw [if_pos h, if_pos (by omega)]
        · rw [if_neg h, if_neg (by omega)]
      have HS := Lib.hid hstep
      clear hi0 hstep
      by_cases hr : 0 ≤ (k : Int) + s
      · by_cases hr2 : (k : Int) + s < 12
        · obtain ⟨t, ht⟩ : ∃ t : Nat, (k : Int) + s = (t : Int) := ⟨((k : Int) + s).toNat, by omega⟩
          have htl : t < 12 := by omega
          have hnew : movedI f e s ((k + 1 : Nat) : Int) t = movedRow (f k) e := by
            unfold movedI
            rw [if_pos (by omega), show ((t : Int) - s).toNat = k by omega]
          have HN := Lib.hid hnew
          have HT := Lib.hid ht
          clear hnew
          have f3 := b3.free t
          have c3 := b3.cell htl
          go_wp2_with (go_at_call 115; refine (movedRowW_any _ _ hfk e1 e2 _).mono ?_; rintro e' w' ⟨rfl, rfl⟩)
          go_roundw
          case rel =>
            go_light
            refine ⟨k + 1, by omega, by go_num, b2.other (a := ⟨w.heap.size + 1 + 1, t, none⟩) _ (by show w.heap.size + 1 ≠ w.heap.size + 1 + 1; omega), (b3.set htl _).ext ?_, hb.setCell (p := ⟨w.heap.size + 1 + 1, t, none⟩) (by show w.heap.size ≤ w.heap.size + 1 + 1; omega) _⟩
            intro j hj
            unfold upd
            by_cases e' : j = t
            · subst e'; rw [if_pos rfl, HN.out]
            · rw [if_neg e', HS.out j (by rw [HT.out]; omega)]
          case measure => simp [intOf]; omega
        · go_wp2
          go_roundw
          case rel =>
            go_light
            exact ⟨k + 1, by omega, by go_num, b2, b3.ext (fun j hj => (HS.out j (by omega)).symm), hb⟩
          case measure => simp [intOf]; omega
      · go_wp2
        go_roundw
        case rel =>
          go_light
          exact ⟨k + 1, by omega, by go_num, b2, b3.ext (fun j hj => (HS.out j (by omega)).symm), hb⟩
        case measure => simp [intOf]; omega
    · have h12 : k = 12 := by omega
      subst h12
      go_wp2_with (first | (refine wpList_load_fr rfl 27 22 _ rfl _ rfl b3 Try.underlying27 (by kernel_rfl) ?_) | (refine wpList_store_fr rfl 27 _ _ rfl _ rfl b2 rfl (by kernel_rfl) ?_))
      exact bodyPost_ret_fr (p := 6) (ty := 27) (e := 22) rfl rfl (b2.setRow _) Try.underlying27 (by kernel_rfl) rfl ⟨rfl, below_setRow hb (by omega) _⟩
end Go.Proofs.Ytpmlepgnokbpaaa

/- LOADS of whole frames under a guard that is met, in a region that draws its order. -/
namespace Go.Proofs.Ytpmlepgnokbpaaa
open Go.RowKit
set_option linter.unusedVariables false
set_option linter.unusedSimpArgs false
section
variable {P : Program} {ops : Array Oper} {rest : List Oper} {o : Oper} {a : Act} {w : World}
open Go.Sort in
theorem wpQuiet_load_frG {Q : Act → Prop} (hw : Region.wanted o (yielded ops a.tmps) = true) (ty e : TypeId) (x : Operand) (ho : o.op = .load ty x) (g : Nat) (hx : a.eval x = .pointer (some ⟨g, 0, none⟩))
    {t : TypeId} {f : Nat → Nat} (hb : Blk w g t f) (hu : P.underlying ty = some (.array 12 e)) (hi : (P.info? ty).map (·.size) = some 12)
    (h : wpQuiet P ops (fun w' => ∃ p : Regrown, w' = grow (redrawn w p.d) p.os) Q rest (a.put o.dst (.agg (FC f)))) : wpQuiet P ops (fun w' => ∃ p : Regrown, w' = grow (redrawn w p.d) p.os) Q (o :: rest) a := by
  unfold wpQuiet
  rw [if_pos hw]
  refine ⟨_, ?_, h⟩
  rintro w' ⟨p, rfl⟩
  have hb' : Blk (grow (redrawn w p.d) p.os) g t f := hb.below (below_regrown w p.d p.os) hb.lt
  unfold Oper.quietAt execOp
  simp only [ho, hx, Instr.loadAt, Instr.sureAddr, Sem.run_bind, Sem.run_pure, Result.andThen_ok, run_loadVar_row _ g t ty (FC f) (0, 0) _ hb' hu rfl hi]
  exact ⟨rfl, rfl⟩
open Go.Sort in
theorem wpQuiet_load_atG {Q : Act → Prop} (hw : Region.wanted o (yielded ops a.tmps) = true) (ty e : TypeId) (x : Operand) (ho : o.op = .load ty x) (b off : Nat) (hx : a.eval x = .pointer (some ⟨b, off, none⟩)) {f : Nat → Nat} (hb : w.rangeAt b off (FC f).toList) (hlt : b < w.heap.size)
    (hu : P.underlying ty = some (.array 12 e)) (hi : (P.info? ty).map (·.size) = some 12)
    (h : wpQuiet P ops (fun w' => ∃ p : Regrown, w' = grow (redrawn w p.d) p.os) Q rest (a.put o.dst (.agg (FC f)))) : wpQuiet P ops (fun w' => ∃ p : Regrown, w' = grow (redrawn w p.d) p.os) Q (o :: rest) a := by
  have hz : (P.info? ty).map (·.size) = some (FC f).toList.length := hi
  unfold wpQuiet
  rw [if_pos hw]
  refine ⟨_, ?_, h⟩
  rintro w' ⟨p, rfl⟩
  have hb' : (grow (redrawn w p.d) p.os).rangeAt b off (FC f).toList := range_below hb (below_regrown w p.d p.os) hlt
  unfold Oper.quietAt execOp
  simp only [ho, hx, Instr.loadAt, Instr.sureAddr, Sem.run_bind, Sem.run_pure, Result.andThen_ok, run_loadVar_mid _ b off ty (FC f).toList _ hb' hu rfl hz]
  exact ⟨rfl, rfl⟩
end
end Go.Proofs.Ytpmlepgnokbpaaa

/- A region's quiet walk behind a structure: so that no step reckons ahead over operations whose guard is not met. No function of the program is named. -/
namespace Go.Proofs.Ytpmlepgnokbpaaa
open Go.RowKit
set_option linter.unusedVariables false
set_option linter.unusedSimpArgs false
structure Hq (p : Prop) : Prop where
  out : p
section
variable {P : Program} {ops : Array Oper} {C : World → Prop} {Q : Act → Prop} {rest : List Oper} {o : Oper} {a : Act} {w : World}
theorem hq_nil (h : Q a) : Hq (wpQuiet P ops C Q [] a) := ⟨h⟩
theorem hq_step (h : ∀ K : Act → Prop, (∀ a, Hq (wpQuiet P ops C Q rest a) → K a) → if Region.wanted o (yielded ops a.tmps) then o.quiet P a C K else K (a.put o.dst undef)) : Hq (wpQuiet P ops C Q (o :: rest) a) :=
  ⟨wpQuiet_step (fun K hK => h K (fun a' h' => hK a' h'.out))⟩
theorem hq_skip (hw : Region.wanted o (yielded ops a.tmps) = false) (h : Hq (wpQuiet P ops C Q rest (a.put o.dst undef))) : Hq (wpQuiet P ops C Q (o :: rest) a) :=
  ⟨by unfold wpQuiet; rw [if_neg (by rw [hw]; decide)]; exact h.out⟩
theorem hq_value (r : Value) (hw : Region.wanted o (yielded ops a.tmps) = true) (hr : ∀ w, C w → Oper.quietAt P o a C w r) (h : Hq (wpQuiet P ops C Q rest (a.put o.dst r))) : Hq (wpQuiet P ops C Q (o :: rest) a) :=
  ⟨by unfold wpQuiet; rw [if_pos hw]; exact ⟨r, hr, h.out⟩⟩
end
section
variable {P : Program} {ops : Array Oper} {rest : List Oper} {o : Oper} {a : Act} {w : World} {Q : Act → Prop}
open Go.Sort
theorem hq_load_at (hw : Region.wanted o (yielded ops a.tmps) = true) (ty e : TypeId) (x : Operand) (ho : o.op = .load ty x) (b off : Nat) (hx : a.eval x = .pointer (some ⟨b, off, none⟩)) {f : Nat → Nat} (hb : w.rangeAt b off (FC f).toList) (hlt : b < w.heap.size)
    (hu : P.underlying ty = some (.array 12 e)) (hi : (P.info? ty).map (·.size) = some 12)
    (h : Hq (wpQuiet P ops (fun w' => ∃ p : Regrown, w' = grow (redrawn w p.d) p.os) Q rest (a.put o.dst (.agg (FC f))))) : Hq (wpQuiet P ops (fun w' => ∃ p : Regrown, w' = grow (redrawn w p.d) p.os) Q (o :: rest) a) :=
  ⟨wpQuiet_load_atG hw ty e x ho b off hx hb hlt hu hi h.out⟩
theorem hq_load_celIn (hw : Region.wanted o (yielded ops a.tmps) = true) (ty : TypeId) (x : Operand) (ho : o.op = .load ty x) (b off : Nat) (hx : a.eval x = .pointer (some ⟨b, off, none⟩)) {i k : Nat → Nat} (hb : CelIn w b off i k) (hlt : b < w.heap.size) {d : TypeDesc} (hu : P.underlying ty = some d) (hd : d.isRow = true) (hi : (P.info? ty).map (·.size) = some 24)
    (h : Hq (wpQuiet P ops (fun w' => ∃ p : Regrown, w' = grow (redrawn w p.d) p.os) Q rest (a.put o.dst (.agg (CC i k))))) : Hq (wpQuiet P ops (fun w' => ∃ p : Regrown, w' = grow (redrawn w p.d) p.os) Q (o :: rest) a) := by
  refine hq_value _ hw ?_ h
  rintro w' ⟨p, rfl⟩
  have hb' : (grow (redrawn w p.d) p.os).rangeAt b off (CC i k).toList := range_below hb.range (below_regrown w p.d p.os) hlt
  unfold Oper.quietAt execOp
  simp only [ho, hx, Instr.loadAt, Instr.sureAddr, Sem.run_bind, Sem.run_pure, Result.andThen_ok, run_loadVar_mid _ b off ty (CC i k).toList d hb' hu hd hi]
  exact ⟨rfl, rfl⟩
end
end Go.Proofs.Ytpmlepgnokbpaaa
