/- MORPHS. spec: l03Morph. -/
import Derived.Test.YtennmnkjdchbhaaIMor2
import Derived.Test.YtennmnkjdchbhaaSBook
namespace Go.Proofs.Ytennmnkjdchbhaa
set_option maxRecDepth 100000
open Go.RowKit
set_option linter.unusedVariables false
set_option linter.unusedSimpArgs false
theorem u16_xor_pow {a x : Nat} (ha : a < 65536) (hx : x < 16) : bits .xor .u16 (a : Int) (IntKind.u16.wrap ((2 : Int) ^ x)) = ((a ^^^ 2 ^ x : Nat) : Int) := by
  rw [u16_wrap_pow hx, u16_xor_nat a _ ha (pow_lt_16 hx)]
theorem hasF_nat (f : Nat → Nat) {x y : Nat} (hx : x < 12) (hy : y < 12) : hasF f x y = (f y).testBit x := by
  unfold hasF
  rw [plB_iff.2 (by omega), Bool.true_and, Int.toNat_natCast, Int.toNat_natCast]
set_option maxHeartbeats 2000000 in
theorem specMorph_nat (a b : Nat → Nat) (s t : Nat) (ha : ∀ k, a k < 65536) (hb0 : ∀ k, b k < 65536) (oa : okF a = true) (ob : okF b = true) (hs : s ≤ t) (ht : 1 ≤ t) (ht2 : t ≤ 200) (w : World) :
    Calls Try.prog 71 #[.agg (FC a), .agg (FC b), .int .i64 s, .int .i64 t] w fun e w' => e = .returned (.agg (FC (morF a b s t))) ∧ Below w.heap.size w w' := by
  obtain ⟨kp, kq, kz, hp, hn, kr, kt⟩ := mor_nums (difN_le a b) hs ht ht2
  have b1 := ((Blk.new w 50 a).alloc (.cells (FC b) 50)).alloc (.cells (FC zeroF) 50)
  have b2 := (Blk.new (w.alloc (.cells (FC a) 50)) 50 b).alloc (.cells (FC zeroF) 50)
  have b3 := Blk.new ((w.alloc (.cells (FC a) 50)).alloc (.cells (FC b) 50)) 50 zeroF
  rw [World.size_alloc] at b2
  rw [World.size_alloc, World.size_alloc] at b3
  have h0 := (((Below.refl w.heap.size w).alloc (Nat.le_refl _) (.cells (FC a) 50)).alloc (by simp) (.cells (FC b) 50)).alloc (by simp; omega) (.cells (FC zeroF) 50)
  rw [FC_zero] at b1 b2 b3 h0
  unfold morF
  have hN : morN a b s t = difN a b * s / t := rfl
  have hdl := difN_le a b
  rw [← hN] at kq kr hn
  clear hN
  generalize morN a b s t = n at *
  have HP := Lib.hid hp
  clear hp
  go_enter Try.func71, Try.ntmps71
  go_wp2_with fail
  refine (differAt_ok _ _ _ _ a b ha hb0 oa ob _ b1.range b1.lt b2.range b2.lt).mono ?_
  rintro e w1 ⟨rfl, hb1⟩
  replace b1 := b1.below hb1 b1.lt
  replace b2 := b2.below hb1 b2.lt
  replace b3 := b3.below hb1 b3.lt
  replace h0 := grown_below h0 hb1 h0.size
  clear hb1
  generalize difN a b * s = p at *
  generalize difN a b = d at *
  go_wp2
  clear kp kq kz kr kt
  go_loopw [9, 10] (fun c i wr => ∃ y : Nat, y ≤ 12 ∧ i = .int .i64 y ∧ c = .int .i64 ((n - rk (unlikeF a b) (12 * y) : Nat) : Int) ∧ Blk wr w.heap.size 50 (morK a b n (12 * y)) ∧ Blk wr (w.heap.size + 1) 50 b ∧ Blk wr (w.heap.size + 1 + 1) 50 zeroF ∧ Below w.heap.size w wr) (fun _ i _ => 12 - (intOf i).toNat)
  case atStart => exact ⟨0, by omega, rfl, rfl, by rw [Nat.mul_zero, morK_zero]; exact b1, b2, b3, h0⟩
  case round =>
    clear b1 b2 b3 h0
    obtain ⟨y, hy, rfl, rfl, b1, b2, b3, hb⟩ := hrel
    by_cases hlt : y < 12
    · have hd12 : decide ((y : Int) < 12) = true := decide_eq_true (by omega)
      go_wp2
      obtain ⟨wo, rfl⟩ : ∃ wo : World, wo = wr := ⟨_, rfl⟩
      go_loopw [9, 11] (fun c i wr => ∃ q : Nat, q ≤ 12 ∧ i = .int .i64 q ∧ c = .int .i64 ((n - rk (unlikeF a b) (12 * y + q) : Nat) : Int) ∧ Blk wr w.heap.size 50 (morK a b n (12 * y + q)) ∧ Blk wr (w.heap.size + 1) 50 b ∧ Blk wr (w.heap.size + 1 + 1) 50 zeroF ∧ Below w.heap.size w wr) (fun _ i _ => 12 - (intOf i).toNat)
      case atStart => exact ⟨0, by omega, rfl, rfl, b1, b2, b3, hb⟩
      case round =>
        clear b1 b2 b3 hb
        obtain ⟨q, hq, rfl, rfl, b1, b2, b3, hb⟩ := hrel
        by_cases hlq : q < 12
        · by_cases hr : rk (unlikeF a b) (12 * y + q) < n
          · have cA := has_any _ _ q y wr (morK_lt ha n (12 * y + q)) b1
            have cB := has_any _ _ q y wr hb0 b2
            rw [hasF_nat _ hlq hlt, morK_bit hlq] at cA
            rw [hasF_nat _ hlq hlt] at cB
            have hbx : (unlikeF a b y).testBit q = ((a y).testBit q ^^ (b y).testBit q) := Nat.testBit_xor ..
            generalize hce : n - rk (unlikeF a b) (12 * y + q) = c at *
            have hc0 : 0 < c := by omega
            have hc1 : c ≤ 192 := by omega
            generalize (a y).testBit q = ba at *
            generalize (b y).testBit q = bb at *
            have CB := Lib.hid cB
            clear cB
            go_wp2_with fail
            refine cA.mono ?_
            rintro e w' ⟨rfl, rfl⟩
            go_wp2_with fail
            refine (CB.out).mono ?_
            rintro e w' ⟨rfl, rfl⟩
            clear cA CB
            cases ba <;> cases bb
            case false.false =>
              have hbit : (unlikeF a b y).testBit q = false := hbx
              have hst := morK_no (n := n) hlq (.inr hbit)
              have hrk := rk_row (u := unlikeF a b) (y := y) hlq
              rw [if_neg (by rw [hbit]; decide)] at hrk
              have hcn : n - rk (unlikeF a b) (12 * y + (q + 1)) = c := by rw [hrk]; omega
              have HST := Lib.hid hst
              have HCN := Lib.hid hcn
              have B1 := Lib.hid b1
              clear hst hrk hcn b1 hr hbx hbit hce
              go_wp2
              go_roundw
              case rel =>
                go_light
                exact ⟨q + 1, by omega, by go_num, by rw [HCN.out], by rw [HST.out]; exact B1.out, b2, b3, hb⟩
              case measure => simp [intOf]; omega
            case false.true =>
              have hbit : (unlikeF a b y).testBit q = true := hbx
              have hst := morK_yes hlq hr hbit
              have hrk := rk_row (u := unlikeF a b) (y := y) hlq
              rw [if_pos hbit] at hrk
              have c1 := b1.cell hlt
              have f1 := b1.free y
              have hxo := u16_xor_pow (a := morK a b n (12 * y + q) y) (x := q) (morK_lt ha n _ y) (by omega)
              have b1' := b1.set hlt (morK a b n (12 * y + q) y ^^^ 2 ^ q)
              have b2' := b2.other (a := ⟨w.heap.size, y, none⟩) (.int .u16 ((morK a b n (12 * y + q) y ^^^ 2 ^ q : Nat) : Int)) (by show w.heap.size + 1 ≠ w.heap.size; omega)
              have b3' := b3.other (a := ⟨w.heap.size, y, none⟩) (.int .u16 ((morK a b n (12 * y + q) y ^^^ 2 ^ q : Nat) : Int)) (by show w.heap.size + 1 + 1 ≠ w.heap.size; omega)
              have hb' := hb.setCell (p := ⟨w.heap.size, y, none⟩) (Nat.le_refl _) (.int .u16 ((morK a b n (12 * y + q) y ^^^ 2 ^ q : Nat) : Int))
              have hcn : n - rk (unlikeF a b) (12 * y + (q + 1)) = c - 1 := by rw [hrk]; omega
              have HST := Lib.hid hst
              have HCN := Lib.hid hcn
              have B1 := Lib.hid b1'
              have B2 := Lib.hid b2'
              have B3 := Lib.hid b3'
              have HB := Lib.hid hb'
              clear hst hrk hcn b1 b2 b3 hb b1' b2' b3' hb' hr hbx hbit hce
              generalize morK a b n (12 * y + q) y ^^^ 2 ^ q = m2 at *
              generalize morK a b n (12 * y + q) y = m at *
              go_wp2
              go_roundw
              case rel =>
                go_light
                refine ⟨q + 1, by omega, by go_num, ?_, ?_, B2.out, B3.out, HB.out⟩
                · rw [HCN.out]; congr 1; omega
                · rw [HST.out]; exact B1.out
              case measure => simp [intOf]; omega
            case true.false =>
              have hbit : (unlikeF a b y).testBit q = true := hbx
              have hst := morK_yes hlq hr hbit
              have hrk := rk_row (u := unlikeF a b) (y := y) hlq
              rw [if_pos hbit] at hrk
              have c1 := b1.cell hlt
              have f1 := b1.free y
              have hxo := u16_xor_pow (a := morK a b n (12 * y + q) y) (x := q) (morK_lt ha n _ y) (by omega)
              have b1' := b1.set hlt (morK a b n (12 * y + q) y ^^^ 2 ^ q)
              have b2' := b2.other (a := ⟨w.heap.size, y, none⟩) (.int .u16 ((morK a b n (12 * y + q) y ^^^ 2 ^ q : Nat) : Int)) (by show w.heap.size + 1 ≠ w.heap.size; omega)
              have b3' := b3.other (a := ⟨w.heap.size, y, none⟩) (.int .u16 ((morK a b n (12 * y + q) y ^^^ 2 ^ q : Nat) : Int)) (by show w.heap.size + 1 + 1 ≠ w.heap.size; omega)
              have hb' := hb.setCell (p := ⟨w.heap.size, y, none⟩) (Nat.le_refl _) (.int .u16 ((morK a b n (12 * y + q) y ^^^ 2 ^ q : Nat) : Int))
              have hcn : n - rk (unlikeF a b) (12 * y + (q + 1)) = c - 1 := by rw [hrk]; omega
              have HST := Lib.hid hst
              have HCN := Lib.hid hcn
              have B1 := Lib.hid b1'
              have B2 := Lib.hid b2'
              have B3 := Lib.hid b3'
              have HB := Lib.hid hb'
              clear hst hrk hcn b1 b2 b3 hb b1' b2' b3' hb' hr hbx hbit hce
              generalize morK a b n (12 * y + q) y ^^^ 2 ^ q = m2 at *
              generalize morK a b n (12 * y + q) y = m at *
              go_wp2
              go_roundw
              case rel =>
                go_light
                refine ⟨q + 1, by omega, by go_num, ?_, ?_, B2.out, B3.out, HB.out⟩
                · rw [HCN.out]; congr 1; omega
                · rw [HST.out]; exact B1.out
              case measure => simp [intOf]; omega
            case true.true =>
              have hbit : (unlikeF a b y).testBit q = false := hbx
              have hst := morK_no (n := n) hlq (.inr hbit)
              have hrk := rk_row (u := unlikeF a b) (y := y) hlq
              rw [if_neg (by rw [hbit]; decide)] at hrk
              have hcn : n - rk (unlikeF a b) (12 * y + (q + 1)) = c := by rw [hrk]; omega
              have HST := Lib.hid hst
              have HCN := Lib.hid hcn
              have B1 := Lib.hid b1
              clear hst hrk hcn b1 hr hbx hbit hce
              go_wp2
              go_roundw
              case rel =>
                go_light
                exact ⟨q + 1, by omega, by go_num, by rw [HCN.out], by rw [HST.out]; exact B1.out, b2, b3, hb⟩
              case measure => simp [intOf]; omega
          · have hs : morK a b n (12 * (y + 1)) = morK a b n (12 * y + q) := morK_stop (by omega) (by omega)
            have hm := rk_mono (unlikeF a b) (12 * y + q) (12 - q)
            rw [show 12 * y + q + (12 - q) = 12 * (y + 1) by omega] at hm
            have hc0 : n - rk (unlikeF a b) (12 * y + q) = 0 := by omega
            have hc1 : n - rk (unlikeF a b) (12 * (y + 1)) = 0 := by omega
            rw [← hs] at b1
            rw [hc0]
            have HC := Lib.hid hc1
            clear hs hm hc0 hc1 hr
            go_wp2
            go_roundw
            case rel =>
              go_light
              exact ⟨y + 1, by omega, by go_num, by rw [HC.out]; rfl, b1, b2, b3, hb⟩
            case measure => simp [intOf]; omega
        · have hq12 : q = 12 := by omega
          subst hq12
          rw [show 12 * y + 12 = 12 * (y + 1) by omega] at b1
          have he : n - rk (unlikeF a b) (12 * y + 12) = n - rk (unlikeF a b) (12 * (y + 1)) := by rw [show 12 * y + 12 = 12 * (y + 1) by omega]
          rw [he]
          clear he
          go_wp2
          go_roundw
          case rel =>
            go_light
            exact ⟨y + 1, by omega, by go_num, rfl, b1, b2, b3, hb⟩
          case measure => simp [intOf]; omega
    · have h12 : y = 12 := by omega
      subst h12
      go_wp2_with (first | (refine wpList_load_fr rfl 50 48 _ rfl _ rfl b1 Try.underlying50 (by kernel_rfl) ?_) | (refine wpList_store_fr rfl 50 _ _ rfl _ rfl b3 rfl (by kernel_rfl) ?_))
      refine bodyPost_ret_fr (p := 8) (ty := 50) (e := 48) rfl rfl (b3.setRow _) Try.underlying50 (by kernel_rfl) rfl ⟨rfl, below_setRow hb (by omega) _⟩
theorem specMorph_any (a b : Nat → Nat) (s t : Int) (ha : ∀ k, a k < 65536) (hb : ∀ k, b k < 65536) (oa : okF a = true) (ob : okF b = true) (h0 : 0 ≤ s) (hs : s ≤ t) (ht : 1 ≤ t) (ht2 : t ≤ 200) (w : World) :
    Calls Try.prog 71 #[.agg (FC a), .agg (FC b), .int .i64 s, .int .i64 t] w fun e w' => e = .returned (.agg (FC (morF a b s.toNat t.toNat))) ∧ Below w.heap.size w w' := by
  obtain ⟨s, rfl⟩ := Int.eq_ofNat_of_zero_le h0
  obtain ⟨t, rfl⟩ := Int.eq_ofNat_of_zero_le (show 0 ≤ t by omega)
  exact specMorph_nat a b s t ha hb oa ob (by omega) (by omega) (by omega) w
end Go.Proofs.Ytennmnkjdchbhaa
