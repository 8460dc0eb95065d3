import Derived.Test.YtajlkleoincoeacDoorM4
import Derived.Test.YtajlkleoincoeacDoorM6
import Derived.Test.YtajlkleoincoeacDoorM1
import Derived.Test.YtajlkleoincoeacDoorM3
import Derived.Test.YtajlkleoincoeacDoorM2
/- MORPHS. spec: l03Morph. -/
namespace Go.Proofs.YtajlkleoincoeacDoor
set_option maxRecDepth 100000
open Go.RowKit
set_option linter.unusedVariables false
set_option linter.unusedSimpArgs false
theorem u16_xor_pow {a x : Nat} (ha : a < 65536) (hx : x < 16) : bits .xor .u16 (a : Int) (IntKind.u16.wrap ((2 : Int) ^ x)) = ((a ^^^ 2 ^ x : Nat) : Int) := by
  rw [u16_wrap_pow hx, u16_xor_nat a _ ha (pow_lt_16 hx)]
theorem hasF_nat (f : Nat → Nat) {x y : Nat} (hx : x < 12) (hy : y < 12) : hasF f x y = (f y).testBit x := by
  unfold hasF
  rw [plB_iff.2 (by omega), Bool.true_and, Int.toNat_natCast, Int.toNat_natCast]
set_option maxHeartbeats 2000000 in
theorem specMorph_nat (a b : Nat → Nat) (s t : Nat) (ha : ∀ k, a k < 65536) (hb0 : ∀ k, b k < 65536) (oa : okF a = true) (ob : okF b = true) (hs : s ≤ t) (ht : 1 ≤ t) (ht2 : t ≤ 200) (w : World) :
    Calls Tryd.prog 74 #[.agg (FC a), .agg (FC b), .int .i64 s, .int .i64 t] w fun e w' => e = .returned (.agg (FC (morF a b s t))) ∧ Below w.heap.size w w' := by
  obtain ⟨kp, kq, kz, hp, hn, kr, kt⟩ := mor_nums (difN_le a b) hs ht ht2
  have b1 := ((Blk.new w 26 a).alloc (.cells (FC b) 26)).alloc (.cells (FC zeroF) 26)
  have b2 := (Blk.new (w.alloc (.cells (FC a) 26)) 26 b).alloc (.cells (FC zeroF) 26)
  have b3 := Blk.new ((w.alloc (.cells (FC a) 26)).alloc (.cells (FC b) 26)) 26 zeroF
  rw [World.size_alloc] at b2
  rw [World.size_alloc, World.size_alloc] at b3
  have h0 := (((Below.refl w.heap.size w).alloc (Nat.le_refl _) (.cells (FC a) 26)).alloc (by simp) (.cells (FC b) 26)).alloc (by simp; omega) (.cells (FC zeroF) 26)
  rw [FC_zero] at b1 b2 b3 h0
  unfold morF
  have hN : morN a b s t = difN a b * s / t := rfl
  have hdl := difN_le a b
  rw [← hN] at kq kr hn
  clear hN
  generalize morN a b s t = n at *
  have HP := Lib.hid hp
  clear hp
  go_enter Tryd.func74, Tryd.ntmps74
  go_wp2_with fail
  refine (differAt_ok _ _ _ _ a b ha hb0 oa ob _ b1.range b1.lt b2.range b2.lt).mono ?_
  rintro e w1 ⟨rfl, hb1⟩
  replace b1 := b1.below hb1 b1.lt
  replace b2 := b2.below hb1 b2.lt
  replace b3 := b3.below hb1 b3.lt
  replace h0 := grown_below h0 hb1 h0.size
  clear hb1
  generalize difN a b * s = p at *
  generalize difN a b = d at *
  go_wp2
  clear kp kq kz kr kt
  go_loopw [9, 10] (fun c i wr => ∃ y : Nat, y ≤ 12 ∧ i = .int .i64 y ∧ c = .int .i64 ((n - rk (unlikeF a b) (12 * y) : Nat) : Int) ∧ Blk wr w.heap.size 26 (morK a b n (12 * y)) ∧ Blk wr (w.heap.size + 1) 26 b ∧ Blk wr (w.heap.size + 1 + 1) 26 zeroF ∧ Below w.heap.size w wr) (fun _ i _ => 12 - (intOf i).toNat)
  case atStart => exact ⟨0, by omega, rfl, rfl, by rw [Nat.mul_zero, morK_zero]; exact b1, b2, b3, h0⟩
  case round =>
    clear b1 b2 b3 h0
    obtain ⟨y, hy, rfl, rfl, b1, b2, b3, hb⟩ := hrel
    by_cases hlt : y < 12
    · have hd12 : decide ((y : Int) < 12) = true := decide_eq_true (by omega)
      go_wp2
      obtain ⟨wo, rfl⟩ : ∃ wo : World, wo = wr := ⟨_, rfl⟩
      go_loopw [9, 11] (fun c i wr => ∃ q : Nat, q ≤ 12 ∧ i = .int .i64 q ∧ c = .int .i64 ((n - rk (unlikeF a b) (12 * y + q) : Nat) : Int) ∧ Blk wr w.heap.size 26 (morK a b n (12 * y + q)) ∧ Blk wr (w.heap.size + 1) 26 b ∧ Blk wr (w.heap.size + 1 + 1) 26 zeroF ∧ Below w.heap.size w wr) (fun _ i _ => 12 - (intOf i).toNat)
      case atStart => exact ⟨0, by omega, rfl, rfl, b1, b2, b3, hb⟩
      case round =>
        clear b1 b2 b3 hb
        obtain ⟨q, hq, rfl, rfl, b1, b2, b3, hb⟩ := hrel
        by_cases hlq : q < 12
        · by_cases hr : rk (unlikeF a b) (12 * y + q) < n
          · have cA := has_any _ _ q y wr (morK_lt ha n (12 * y + q)) b1
            have cB := has_any _ _ q y wr hb0 b2
            rw [hasF_nat _ hlq hlt, morK_bit hlq] at cA
            rw [hasF_nat _ hlq hlt] at cB
            have hbx : (unlikeF a b y).testBit q = ((a y).testBit q ^^ (b y).testBit q) := Nat.testBit_xor ..
            generalize hce : n - rk (unlikeF a b) (12 * y + q) = c at *
            have hc0 : 0 < c := by omega
            have hc1 : c ≤ 192 := by omega
            generalize (a y).testBit q = ba at *
            generalize (b y).testBit q = bb at *
            have CB := Lib.hid cB
            clear cB
            go_wp2_with fail
            refine cA.mono ?_
            rintro e w' ⟨rfl, rfl⟩
            go_wp2_with fail
            refine (CB.out).mono ?_
            rintro e w' ⟨rfl, rfl⟩
            clear cA CB
            cases ba <;> cases bb
            case false.false =>
              have hbit : (unlikeF a b y).testBit q = false := hbx
              have hst := morK_no (n := n) hlq (.inr hbit)
              have hrk := rk_row (u := unlikeF a b) (y := y) hlq
              rw [if_neg (by rw [hbit]; decide)] at hrk
              have hcn : n - rk (unlikeF a b) (12 * y + (q + 1)) = c := by rw [hrk]; omega
              have HST := Lib.hid hst
              have HCN := Lib.hid hcn
              have B1 := Lib.hid b1
              clear hst hrk hcn b1 hr hbx hbit hce
              go_wp2
              go_roundw
              case rel =>
                go_light
                exact ⟨q + 1, by omega, by go_num, by rw [HCN.out], by rw [HST.out]; exact B1.out, b2, b3, hb⟩
              case measure => simp [intOf]; omega
            case false.true =>
              have hbit : (unlikeF a b y).testBit q = true := hbx
              have hst := morK_yes hlq hr hbit
              have hrk := rk_row (u := unlikeF a b) (y := y) hlq
              rw [if_pos hbit] at hrk
              have c1 := b1.cell hlt
              have f1 := b1.free y
              have hxo := u16_xor_pow (a := morK a b n (12 * y + q) y) (x := q) (morK_lt ha n _ y) (by omega)
              have b1' := b1.set hlt (morK a b n (12 * y + q) y ^^^ 2 ^ q)
              have b2' := b2.other (a := ⟨w.heap.size, y, none⟩) (.int .u16 ((morK a b n (12 * y + q) y ^^^ 2 ^ q : Nat) : Int)) (by show w.heap.size + 1 ≠ w.heap.size; omega)
              have b3' := b3.other (a := ⟨w.heap.size, y, none⟩) (.int .u16 ((morK a b n (12 * y + q) y ^^^ 2 ^ q : Nat) : Int)) (by show w.heap.size + 1 + 1 ≠ w.heap.size; omega)
              have hb' := hb.setCell (p := ⟨w.heap.size, y, none⟩) (Nat.le_refl _) (.int .u16 ((morK a b n (12 * y + q) y ^^^ 2 ^ q : Nat) : Int))
              have hcn : n - rk (unlikeF a b) (12 * y + (q + 1)) = c - 1 := by rw [hrk]; omega
              have HST := Lib.hid hst
              have HCN := Lib.hid hcn
              have B1 := Lib.hid b1'
              have B2 := Lib.hid b2'
              have B3 := Lib.hid b3'
              have HB := Lib.hid hb'
              clear hst hrk hcn b1 b2 b3 hb b1' b2' b3' hb' hr hbx hbit hce
              generalize morK a b n (12 * y + q) y ^^^ 2 ^ q = m2 at *
              generalize morK a b n (12 * y + q) y = m at *
              go_wp2
              go_roundw
              case rel =>
                go_light
                refine ⟨q + 1, by omega, by go_num, ?_, ?_, B2.out, B3.out, HB.out⟩
                · rw [HCN.out]; congr 1; omega
                · rw [HST.out]; exact B1.out
              case measure => simp [intOf]; omega
            case true.false =>
              have hbit : (unlikeF a b y).testBit q = true := hbx
              have hst := morK_yes hlq hr hbit
              have hrk := rk_row (u := unlikeF a b) (y := y) hlq
              rw [if_pos hbit] at hrk
              have c1 := b1.cell hlt
              have f1 := b1.free y
              have hxo := u16_xor_pow (a := morK a b n (12 * y + q) y) (x := q) (morK_lt ha n _ y) (by omega)
              have b1' := b1.set hlt (morK a b n (12 * y + q) y ^^^ 2 ^ q)
              have b2' := b2.other (a := ⟨w.heap.size, y, none⟩) (.int .u16 ((morK a b n (12 * y + q) y ^^^ 2 ^ q : Nat) : Int)) (by show w.heap.size + 1 ≠ w.heap.size; omega)
              have b3' := b3.other (a := ⟨w.heap.size, y, none⟩) (.int .u16 ((morK a b n (12 * y + q) y ^^^ 2 ^ q : Nat) : Int)) (by show w.heap.size + 1 + 1 ≠ w.heap.size; omega)
              have hb' := hb.setCell (p := ⟨w.heap.size, y, none⟩) (Nat.le_refl _) (.int .u16 ((morK a b n (12 * y + q) y ^^^ 2 ^ q : Nat) : Int))
              have hcn : n - rk (unlikeF a b) (12 * y + (q + 1)) = c - 1 := by rw [hrk]; omega
              have HST := Lib.hid hst
              have HCN := Lib.hid hcn
              have B1 := Lib.hid b1'
              have B2 := Lib.hid b2'
              have B3 := Lib.hid b3'
              have HB := Lib.hid hb'
              clear hst hrk hcn b1 b2 b3 hb b1' b2' b3' hb' hr hbx hbit hce
              generalize morK a b n (12 * y + q) y ^^^ 2 ^ q = m2 at *
              generalize morK a b n (12 * y + q) y = m at *
              go_wp2
              go_roundw
              case rel =>
                go_light
                refine ⟨q + 1, by omega, by go_num, ?_, ?_, B2.out, B3.out, HB.out⟩
                · rw [HCN.out]; congr 1; omega
                · rw [HST.out]; exact B1.out
              case measure => simp [intOf]; omega
            case true.true =>
              have hbit : (unlikeF a b y).testBit q = false := hbx
              have hst := morK_no (n := n) hlq (.inr hbit)
              have hrk := rk_row (u := unlikeF a b) (y := y) hlq
              rw [if_neg (by rw [hbit]; decide)] at hrk
              have hcn : n - rk (unlikeF a b) (12 * y + (q + 1)) = c := by rw [hrk]; omega
              have HST := Lib.hid hst
              have HCN := Lib.hid hcn
              have B1 := Lib.hid b1
              clear hst hrk hcn b1 hr hbx hbit hce
              go_wp2
              go_roundw
              case rel =>
                go_light
                exact ⟨q + 1, by omega, by go_num, by rw [HCN.out], by rw [HST.out]; exact B1.out, b2, b3, hb⟩
              case measure => simp [intOf]; omega
          · have hs : morK a b n (12 * (y + 1)) = morK a b n (12 * y + q) := morK_stop (by omega) (by omega)
            have hm := rk_mono (unlikeF a b) (12 * y + q) (12 - q)
            rw [show 12 * y + q + (12 - q) = 12 * (y + 1) by omega] at hm
            have hc0 : n - rk (unlikeF a b) (12 * y + q) = 0 := by omega
            have hc1 : n - rk (unlikeF a b) (12 * (y + 1)) = 0 := by omega
            rw [← hs] at b1
            rw [hc0]
            have HC := Lib.hid hc1
            clear hs hm hc0 hc1 hr
            go_wp2
            go_roundw
            case rel =>
              go_light
              exact ⟨y + 1, by omega, by go_num, by rw [HC.out]; rfl, b1, b2, b3, hb⟩
            case measure => simp [intOf]; omega
        · have hq12 : q = 12 := by omega
          subst hq12
          rw [show 12 * y + 12 = 12 * (y + 1) by omega] at b1
          have he : n - rk (unlikeF a b) (12 * y + 12) = n - rk (unlikeF a b) (12 * (y + 1)) := by rw [show 12 * y + 12 = 12 * (y + 1) by omega]
          rw [he]
          clear he
          go_wp2
          go_roundw
          case rel =>
            go_light
            exact ⟨y + 1, by omega, by go_num, rfl, b1, b2, b3, hb⟩
          case measure => simp [intOf]; omega
    · have h12 : y = 12 := by omega
      subst h12
      go_wp2_with (first | (refine wpList_load_fr rfl 26 24 _ rfl _ rfl b1 Tryd.underlying26 (by kernel_rfl) ?_) | (refine wpList_store_fr rfl 26 _ _ rfl _ rfl b3 rfl (by kernel_rfl) ?_))
      refine bodyPost_ret_fr (p := 8) (ty := 26) (e := 24) rfl rfl (b3.setRow _) Tryd.underlying26 (by kernel_rfl) rfl ⟨rfl, below_setRow hb (by omega) _⟩
theorem specMorph_any (a b : Nat → Nat) (s t : Int) (ha : ∀ k, a k < 65536) (hb : ∀ k, b k < 65536) (oa : okF a = true) (ob : okF b = true) (h0 : 0 ≤ s) (hs : s ≤ t) (ht : 1 ≤ t) (ht2 : t ≤ 200) (w : World) :
    Calls Tryd.prog 74 #[.agg (FC a), .agg (FC b), .int .i64 s, .int .i64 t] w fun e w' => e = .returned (.agg (FC (morF a b s.toNat t.toNat))) ∧ Below w.heap.size w w' := by
  obtain ⟨s, rfl⟩ := Int.eq_ofNat_of_zero_le h0
  obtain ⟨t, rfl⟩ := Int.eq_ofNat_of_zero_le (show 0 ≤ t by omega)
  exact specMorph_nat a b s t ha hb oa ob (by omega) (by omega) (by omega) w
end Go.Proofs.YtajlkleoincoeacDoor

/- EASES, PLAINLY: shares of ways, numbers between two. No program is named. -/
namespace Go.Proofs.YtajlkleoincoeacDoor
/-- The share of a way behind a step. -/
def shareI (e s n : Int) : Int :=
  if e = 0 then s * 1000 / n else if e = 1 then s * s * 1000 / (n * n) else if e = 2 then 1000 - (n - s) * (n - s) * 1000 / (n * n)
  else if 2 * s < n then 2 * s * s * 1000 / (n * n) else 1000 - 2 * (n - s) * (n - s) * 1000 / (n * n)
def easC (e s n : Int) : Int := if inB e 0 3 && (inB n 1 200 && inB s 0 n) then 0 else 2
def easV (e s n : Int) : Int := if easC e s n = 0 then shareI e s n else 0
def szI (n : Int) : Int := max n (-n)
/-- The number at a share between two. -/
def betI (a b s : Int) : Int := if b < a then a - (szI (b - a) * s + 500) / 1000 else a + (szI (b - a) * s + 500) / 1000
def betC (a b s : Int) : Int := if inB a (-1000) 1000 && (inB b (-1000) 1000 && inB s 0 1000) then 0 else 2
def betV (a b s : Int) : Int := if betC a b s = 0 then betI a b s else 0
theorem easC_cases (e s n : Int) : (inB e 0 3 = false ∧ easC e s n = 2) ∨ (inB e 0 3 = true ∧ inB n 1 200 = false ∧ easC e s n = 2) ∨ (inB e 0 3 = true ∧ inB n 1 200 = true ∧ inB s 0 n = false ∧ easC e s n = 2) ∨ (inB e 0 3 = true ∧ inB n 1 200 = true ∧ inB s 0 n = true ∧ easC e s n = 0) := by
  unfold easC; cases inB e 0 3 <;> cases inB n 1 200 <;> cases inB s 0 n <;> simp
theorem betC_cases (a b s : Int) : (inB a (-1000) 1000 = false ∧ betC a b s = 2) ∨ (inB a (-1000) 1000 = true ∧ inB b (-1000) 1000 = false ∧ betC a b s = 2) ∨ (inB a (-1000) 1000 = true ∧ inB b (-1000) 1000 = true ∧ inB s 0 1000 = false ∧ betC a b s = 2) ∨ (inB a (-1000) 1000 = true ∧ inB b (-1000) 1000 = true ∧ inB s 0 1000 = true ∧ betC a b s = 0) := by
  unfold betC; cases inB a (-1000) 1000 <;> cases inB b (-1000) 1000 <;> cases inB s 0 1000 <;> simp
theorem mul_bounds {a b m n : Int} (ha : 0 ≤ a ∧ a ≤ m) (hb : 0 ≤ b ∧ b ≤ n) : 0 ≤ a * b ∧ a * b ≤ m * n :=
  ⟨Int.mul_nonneg ha.1 hb.1, Int.mul_le_mul ha.2 hb.2 hb.1 (Int.le_trans ha.1 ha.2)⟩
theorem div_bounds {x m : Int} (hx : 0 ≤ x) {y : Int} (hy : 1 ≤ y) (h : x ≤ m * y) : 0 ≤ x / y ∧ x / y ≤ m :=
  ⟨Int.ediv_nonneg hx (by omega), by
    have := Int.ediv_le_ediv (a := x) (b := m * y) (c := y) (by omega) h
    rwa [Int.mul_ediv_cancel _ (by omega)] at this⟩
/-- A square's share. -/
theorem sq_share {s n : Int} (hs : 0 ≤ s ∧ s ≤ n) (hn : 1 ≤ n) : 0 ≤ s * s * 1000 / (n * n) ∧ s * s * 1000 / (n * n) ≤ 1000 := by
  have h1 := mul_bounds hs hs
  have h2 : 1 * 1 ≤ n * n := Int.mul_le_mul hn hn (by omega) (by omega)
  exact div_bounds (by omega) (by omega) (by omega)
theorem sq_share2 {s n : Int} (hs : 0 ≤ s) (h2 : 2 * s ≤ n) (hn : 1 ≤ n) : 0 ≤ 2 * s * s * 1000 / (n * n) ∧ 2 * s * s * 1000 / (n * n) ≤ 1000 := by
  have h1 := mul_bounds (a := 2 * s) (b := s) (m := n) (n := n) ⟨by omega, h2⟩ ⟨hs, by omega⟩
  have h2 : 1 * 1 ≤ n * n := Int.mul_le_mul hn hn (by omega) (by omega)
  exact div_bounds (by omega) (by omega) (by omega)
theorem shareI_bounds {e s n : Int} (hs : 0 ≤ s ∧ s ≤ n) (hn : 1 ≤ n) : 0 ≤ shareI e s n ∧ shareI e s n ≤ 1000 := by
  unfold shareI
  split
  · exact div_bounds (by omega) hn (by omega)
  · split
    · exact sq_share hs hn
    · split
      · have := sq_share (s := n - s) (n := n) ⟨by omega, by omega⟩ hn
        omega
      · split
        · exact sq_share2 hs.1 (by omega) hn
        · have := sq_share2 (s := n - s) (n := n) (by omega) (by omega) hn
          omega
theorem szI_nonneg (n : Int) : 0 ≤ szI n := by unfold szI; omega
theorem szI_le {n m : Int} (h1 : -m ≤ n) (h2 : n ≤ m) : szI n ≤ m := by unfold szI; omega
/-- What lies between two lies between them. -/
theorem betI_bounds {a b s lo hi : Int} (ha : lo ≤ a ∧ a ≤ hi) (hb : lo ≤ b ∧ b ≤ hi) (hs : 0 ≤ s ∧ s ≤ 1000) : lo ≤ betI a b s ∧ betI a b s ≤ hi := by
  have h0 := szI_nonneg (b - a)
  have h1 := mul_bounds (a := szI (b - a)) (b := s) (m := szI (b - a)) (n := 1000) ⟨h0, Int.le_refl _⟩ hs
  have h2 := div_bounds (x := szI (b - a) * s + 500) (m := szI (b - a)) (y := 1000) (by omega) (by omega)
  have h3 : (szI (b - a) * s + 500) / 1000 ≤ szI (b - a) := by omega
  have h4 : 0 ≤ (szI (b - a) * s + 500) / 1000 := by omega
  unfold betI
  split
  · have : szI (b - a) = a - b := by unfold szI; omega
    omega
  · have : szI (b - a) = b - a := by unfold szI; omega
    omega
theorem betI_zero (a b : Int) : betI a b 0 = a := by unfold betI; simp
/-- At the step 0 nothing of the way is gone. -/
theorem shareI_zero {e n : Int} (hn : 1 ≤ n) : shareI e 0 n = 0 := by
  have h2 : 1 * 1 ≤ n * n := Int.mul_le_mul hn hn (by omega) (by omega)
  have h3 : n * n * 1000 / (n * n) = 1000 := by rw [Int.mul_comm (n * n) 1000, Int.mul_ediv_cancel _ (by omega)]
  unfold shareI
  simp [h3]
  omega
end Go.Proofs.YtajlkleoincoeacDoor

/- EASES: spec: l03Ease, l03Share, EaseOf; l03Size, l03Between, BetweenOf. impl: isEase, isStep, isWithin, the four shares, shareOf, EaseOf, sizeOf, numberBetween, BetweenOf. -/
namespace Go.Proofs.YtajlkleoincoeacDoor
set_option maxRecDepth 100000
open Go.RowKit
set_option linter.unusedVariables false
set_option linter.unusedSimpArgs false
theorem specEase_any (z : Int) (w : World) : Calls Tryd.prog 119 #[.int .i64 z] w fun e w' => e = .returned (.bool (inB z 0 3)) ∧ w = w' := by
  go_enter Tryd.func119, Tryd.ntmps119
  go_wp2_with (go_at_call 73; refine (in_any _ _ _ _).mono ?_; rintro e w' ⟨rfl, rfl⟩)
  go_ret
  exact ⟨rfl, rfl⟩
/-- The products of a share, as numbers of their own. -/
theorem prods {s n : Int} (hs : 0 ≤ s ∧ s ≤ n) (hn : 1 ≤ n ∧ n ≤ 200) : ∃ a b : Int, a = s * s ∧ b = n * n ∧ 0 ≤ a ∧ a ≤ 40000 ∧ 1 ≤ b ∧ b ≤ 40000 ∧ IntKind.i64.wrap (s * s) = a ∧ IntKind.i64.wrap (n * n) = b := by
  have h1 := mul_bounds (a := s) (b := s) (m := 200) (n := 200) ⟨hs.1, by omega⟩ ⟨hs.1, by omega⟩
  have h2 := mul_bounds (a := n) (b := n) (m := 200) (n := 200) ⟨by omega, hn.2⟩ ⟨by omega, hn.2⟩
  have h3 : 1 * 1 ≤ n * n := Int.mul_le_mul hn.1 hn.1 (by omega) (by omega)
  exact ⟨_, _, rfl, rfl, by omega, by omega, by omega, by omega, IntWalk.i64_in _ (by omega), IntWalk.i64_in _ (by omega)⟩
theorem quot {x y : Int} (hx : 0 ≤ x ∧ x ≤ 1000000000) (hy : 1 ≤ y) : ∃ q : Int, q = x / y ∧ 0 ≤ q ∧ q ≤ 1000000000 ∧ wrap64 (x / y) = q ∧ (y == 0) = false := by
  have := div_bounds (x := x) (m := 1000000000) hx.1 hy (by have := Int.mul_le_mul_of_nonneg_left (a := 1) (b := y) (c := 1000000000) (by omega) (by omega); omega)
  exact ⟨_, rfl, this.1, this.2, IntWalk.wrap64_in _ (by omega), by simp; omega⟩
set_option maxHeartbeats 1000000 in
theorem specShare_any (e s n : Int) (w : World) (he : 0 ≤ e ∧ e ≤ 3) (hs : 0 ≤ s ∧ s ≤ n) (hn : 1 ≤ n ∧ n ≤ 200) :
    Calls Tryd.prog 127 #[.int .i64 e, .int .i64 s, .int .i64 n] w fun r w' => r = .returned (.int .i64 (shareI e s n)) ∧ w = w' := by
  have hs1 := hs.1
  have hs2 := hs.2
  have hn1 := hn.1
  have hn2 := hn.2
  obtain ⟨a, b, ha, hb, ha0, ha1, hb0, hb1, k1, k2⟩ := prods hs hn
  have kr : IntKind.i64.wrap (n - s) = n - s := IntWalk.i64_in _ (by omega)
  obtain ⟨c, _, hc, _, hc0, hc1, _, _, k3, _⟩ := prods (s := n - s) ⟨by omega, by omega⟩ hn
  have hcases : e = 0 ∨ e = 1 ∨ e = 2 ∨ e = 3 := by omega
  clear he
  rcases hcases with rfl | rfl | rfl | rfl
  · obtain ⟨q, hq, hq0, hq1, kq, kz⟩ := quot (x := s * 1000) (y := n) (by omega) hn1
    have k4 : IntKind.i64.wrap (s * 1000) = s * 1000 := IntWalk.i64_in _ (by omega)
    have hv : shareI 0 s n = q := by rw [hq]; rfl
    rw [hv]
    have HQ := Lib.hid hq
    clear hs hn hv hq ha hb hc
    go_enter Tryd.func127, Tryd.ntmps127
    go_wp2
    go_ret
    exact ⟨ret_int (by first | exact HQ.out.symm | (rw [← HQ.out]; exact IntWalk.wrap64_in _ (by omega))), rfl⟩
  · obtain ⟨q, hq, hq0, hq1, kq, kz⟩ := quot (x := a * 1000) (y := b) (by omega) hb0
    have hv : shareI 1 s n = q := by rw [hq, ha, hb]; rfl
    rw [hv]
    have HQ := Lib.hid hq
    clear hs hn hv hq ha hb hc
    go_enter Tryd.func127, Tryd.ntmps127
    go_wp2
    go_ret
    exact ⟨ret_int (by first | exact HQ.out.symm | (rw [← HQ.out]; exact IntWalk.wrap64_in _ (by omega))), rfl⟩
  · obtain ⟨q, hq, hq0, hq1, kq, kz⟩ := quot (x := c * 1000) (y := b) (by omega) hb0
    have hv : shareI 2 s n = 1000 - q := by rw [hq, hc, hb]; rfl
    rw [hv]
    have HQ := Lib.hid hq
    clear hs hn hv hq ha hb hc
    go_enter Tryd.func127, Tryd.ntmps127
    go_wp2
    go_ret
    exact ⟨ret_int (by first | exact HQ.out.symm | (rw [← HQ.out]; exact IntWalk.wrap64_in _ (by omega))), rfl⟩
  · by_cases h2 : 2 * s < n
    · obtain ⟨d, hd⟩ : ∃ d, d = 2 * s * s := ⟨_, rfl⟩
      have hd0 : 0 ≤ d ∧ d ≤ 200 * 200 := by rw [hd]; exact mul_bounds ⟨by omega, by omega⟩ ⟨by omega, by omega⟩
      have k5 : IntKind.i64.wrap (2 * s * s) = d := by rw [IntWalk.i64_in _ (by omega), hd]
      have hd1 := hd0.1
      have hd2 := hd0.2
      obtain ⟨q, hq, hq0, hq1, kq, kz⟩ := quot (x := d * 1000) (y := b) (by omega) hb0
      have hv : shareI 3 s n = q := by rw [hq, hd, hb]; unfold shareI; simp [h2]
      rw [hv]
      have HQ := Lib.hid hq
      clear hs hn hv hq ha hb hc hd hd0
      go_enter Tryd.func127, Tryd.ntmps127
      go_wp2
      go_ret
      exact ⟨ret_int (by first | exact HQ.out.symm | (rw [← HQ.out]; exact IntWalk.wrap64_in _ (by omega))), rfl⟩
    · obtain ⟨d, hd⟩ : ∃ d, d = 2 * (n - s) * (n - s) := ⟨_, rfl⟩
      have hd0 : 0 ≤ d ∧ d ≤ 200 * 200 := by rw [hd]; exact mul_bounds ⟨by omega, by omega⟩ ⟨by omega, by omega⟩
      have k5 : IntKind.i64.wrap (2 * (n - s) * (n - s)) = d := by rw [IntWalk.i64_in _ (by omega), hd]
      have hd1 := hd0.1
      have hd2 := hd0.2
      obtain ⟨q, hq, hq0, hq1, kq, kz⟩ := quot (x := d * 1000) (y := b) (by omega) hb0
      have hv : shareI 3 s n = 1000 - q := by rw [hq, hd, hb]; unfold shareI; simp [h2]
      rw [hv]
      have HQ := Lib.hid hq
      clear hs hn hv hq ha hb hc hd hd0
      go_enter Tryd.func127, Tryd.ntmps127
      go_wp2
      go_ret
      exact ⟨ret_int (by first | exact HQ.out.symm | (rw [← HQ.out]; exact IntWalk.wrap64_in _ (by omega))), rfl⟩
end Go.Proofs.YtajlkleoincoeacDoor

/- EASES, the program: isEase, isStep, the four shares, shareOf, EaseOf. -/
namespace Go.Proofs.YtajlkleoincoeacDoor
set_option maxRecDepth 100000
open Go.RowKit
set_option linter.unusedVariables false
set_option linter.unusedSimpArgs false
theorem isEase_any (z : Int) (w : World) : Calls Tryd.prog 121 #[.int .i64 z] w fun e w' => e = .returned (.bool (inB z 0 3)) ∧ w = w' := by
  by_cases h1 : 0 ≤ z
  · go_enter Tryd.func121, Tryd.ntmps121
    go_wp2
    go_ret
    exact ⟨ret_bool (by simp [inB, h1]), rfl⟩
  · go_enter Tryd.func121, Tryd.ntmps121
    go_wp2
    go_ret
    exact ⟨ret_bool (by rw [inB_false.2 (by omega)]), rfl⟩
theorem isStep_any (s n : Int) (w : World) : Calls Tryd.prog 113 #[.int .i64 s, .int .i64 n] w fun e w' => e = .returned (.bool (inB n 1 200 && inB s 0 n)) ∧ w = w' := by
  by_cases h1 : 1 ≤ n
  · by_cases h2 : n ≤ 200
    · by_cases h3 : 0 ≤ s
      · go_enter Tryd.func113, Tryd.ntmps113
        go_wp2
        go_ret
        exact ⟨ret_bool (by simp [inB, h1, h2, h3]), rfl⟩
      · go_enter Tryd.func113, Tryd.ntmps113
        go_wp2
        go_ret
        exact ⟨ret_bool (by rw [inB_false.2 (by omega : s < 0 ∨ n < s), Bool.and_false]), rfl⟩
    · go_enter Tryd.func113, Tryd.ntmps113
      go_wp2
      go_ret
      exact ⟨ret_bool (by rw [inB_false.2 (by omega : n < 1 ∨ 200 < n), Bool.false_and]), rfl⟩
  · go_enter Tryd.func113, Tryd.ntmps113
    go_wp2
    go_ret
    exact ⟨ret_bool (by rw [inB_false.2 (by omega : n < 1 ∨ 200 < n), Bool.false_and]), rfl⟩
theorem evenShare_any (s n : Int) (w : World) (hs : 0 ≤ s ∧ s ≤ n) (hn : 1 ≤ n ∧ n ≤ 200) :
    Calls Tryd.prog 143 #[.int .i64 s, .int .i64 n] w fun r w' => r = .returned (.int .i64 (shareI 0 s n)) ∧ w = w' := by
  have hs1 := hs.1
  have hs2 := hs.2
  have hn1 := hn.1
  have hn2 := hn.2
  obtain ⟨q, hq, hq0, hq1, kq, kz⟩ := quot (x := s * 1000) (y := n) (by omega) hn1
  have hv : shareI 0 s n = q := by rw [hq]; rfl
  rw [hv]
  have HQ := Lib.hid hq
  clear hs hn hv hq
  go_enter Tryd.func143, Tryd.ntmps143
  go_wp2
  go_ret
  exact ⟨ret_int (by first | exact HQ.out.symm | (rw [← HQ.out]; exact IntWalk.wrap64_in _ (by omega))), rfl⟩
theorem slowInShare_any (s n : Int) (w : World) (hs : 0 ≤ s ∧ s ≤ n) (hn : 1 ≤ n ∧ n ≤ 200) :
    Calls Tryd.prog 144 #[.int .i64 s, .int .i64 n] w fun r w' => r = .returned (.int .i64 (shareI 1 s n)) ∧ w = w' := by
  have hs1 := hs.1
  have hs2 := hs.2
  have hn1 := hn.1
  have hn2 := hn.2
  obtain ⟨a, b, ha, hb, ha0, ha1, hb0, hb1, k1, k2⟩ := prods hs hn
  obtain ⟨q, hq, hq0, hq1, kq, kz⟩ := quot (x := a * 1000) (y := b) (by omega) hb0
  have hv : shareI 1 s n = q := by rw [hq, ha, hb]; rfl
  rw [hv]
  have HQ := Lib.hid hq
  clear hs hn hv hq ha hb
  go_enter Tryd.func144, Tryd.ntmps144
  go_wp2
  go_ret
  exact ⟨ret_int (by first | exact HQ.out.symm | (rw [← HQ.out]; exact IntWalk.wrap64_in _ (by omega))), rfl⟩
theorem slowOutShare_any (s n : Int) (w : World) (hs : 0 ≤ s ∧ s ≤ n) (hn : 1 ≤ n ∧ n ≤ 200) :
    Calls Tryd.prog 145 #[.int .i64 s, .int .i64 n] w fun r w' => r = .returned (.int .i64 (shareI 2 s n)) ∧ w = w' := by
  have hs1 := hs.1
  have hs2 := hs.2
  have hn1 := hn.1
  have hn2 := hn.2
  have cI := fun w => slowInShare_any (n - s) n w ⟨by omega, by omega⟩ hn
  have hb := sq_share (s := n - s) (n := n) ⟨by omega, by omega⟩ hn1
  have hv : shareI 2 s n = 1000 - shareI 1 (n - s) n := rfl
  have hu : shareI 1 (n - s) n = (n - s) * (n - s) * 1000 / (n * n) := rfl
  rw [← hu] at hb
  have hb1 := hb.1
  have hb2 := hb.2
  have kr : IntKind.i64.wrap (n - s) = n - s := IntWalk.i64_in _ (by omega)
  rw [hv]
  clear hv hu hb hs hn
  generalize shareI 1 (n - s) n = q at *
  go_enter Tryd.func145, Tryd.ntmps145
  go_wp2_with (go_at_call 144; refine (cI _).mono ?_; rintro e w' ⟨rfl, rfl⟩)
  go_ret
  exact ⟨rfl, rfl⟩
set_option maxHeartbeats 1000000 in
theorem slowBothShare_any (s n : Int) (w : World) (hs : 0 ≤ s ∧ s ≤ n) (hn : 1 ≤ n ∧ n ≤ 200) :
    Calls Tryd.prog 146 #[.int .i64 s, .int .i64 n] w fun r w' => r = .returned (.int .i64 (shareI 3 s n)) ∧ w = w' := by
  have hs1 := hs.1
  have hs2 := hs.2
  have hn1 := hn.1
  have hn2 := hn.2
  obtain ⟨a, b, ha, hb, ha0, ha1, hb0, hb1, k1, k2⟩ := prods hs hn
  have kr : IntKind.i64.wrap (n - s) = n - s := IntWalk.i64_in _ (by omega)
  by_cases h2 : 2 * s < n
  · obtain ⟨d, hd⟩ : ∃ d, d = 2 * s * s := ⟨_, rfl⟩
    have hd0 : 0 ≤ d ∧ d ≤ 200 * 200 := by rw [hd]; exact mul_bounds ⟨by omega, by omega⟩ ⟨by omega, by omega⟩
    have k5 : IntKind.i64.wrap (2 * s * s) = d := by rw [IntWalk.i64_in _ (by omega), hd]
    have hd1 := hd0.1
    have hd2 := hd0.2
    obtain ⟨q, hq, hq0, hq1, kq, kz⟩ := quot (x := d * 1000) (y := b) (by omega) hb0
    have hv : shareI 3 s n = q := by rw [hq, hd, hb]; unfold shareI; simp [h2]
    rw [hv]
    have HQ := Lib.hid hq
    clear hs hn hv hq ha hb hd hd0 k1
    go_enter Tryd.func146, Tryd.ntmps146
    go_wp2
    go_ret
    exact ⟨ret_int (by first | exact HQ.out.symm | (rw [← HQ.out]; exact IntWalk.wrap64_in _ (by omega))), rfl⟩
  · obtain ⟨d, hd⟩ : ∃ d, d = 2 * (n - s) * (n - s) := ⟨_, rfl⟩
    have hd0 : 0 ≤ d ∧ d ≤ 200 * 200 := by rw [hd]; exact mul_bounds ⟨by omega, by omega⟩ ⟨by omega, by omega⟩
    have k5 : IntKind.i64.wrap (2 * (n - s) * (n - s)) = d := by rw [IntWalk.i64_in _ (by omega), hd]
    have hd1 := hd0.1
    have hd2 := hd0.2
    obtain ⟨q, hq, hq0, hq1, kq, kz⟩ := quot (x := d * 1000) (y := b) (by omega) hb0
    have hv : shareI 3 s n = 1000 - q := by rw [hq, hd, hb]; unfold shareI; simp [h2]
    rw [hv]
    have HQ := Lib.hid hq
    clear hs hn hv hq ha hb hd hd0 k1
    go_enter Tryd.func146, Tryd.ntmps146
    go_wp2
    go_ret
    exact ⟨ret_int (by first | exact HQ.out.symm | (rw [← HQ.out]; exact IntWalk.wrap64_in _ (by omega))), rfl⟩
end Go.Proofs.YtajlkleoincoeacDoor
