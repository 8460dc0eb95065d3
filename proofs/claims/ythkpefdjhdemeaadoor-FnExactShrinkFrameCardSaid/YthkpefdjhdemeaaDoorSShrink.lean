/- spec: ShrinkFrame; what shrunk frames are. -/
import Derived.Test.YthkpefdjhdemeaaDoorRows
import Derived.Test.YthkpefdjhdemeaaDoorSGrow
import Derived.Test.YthkpefdjhdemeaaDoorIShrunk
namespace Go.Proofs.YthkpefdjhdemeaaDoor
set_option maxRecDepth 100000
open Go.RowKit
set_option linter.unusedVariables false
def nbAt (d : Nat × Nat) (k : Nat) : Int × Int := (nb d).getD k (0, 0)
/-- One side of a dot is no hole. -/
def sideB (f : Nat → Nat) (s : Int × Int) : Bool := !plB s.1 s.2 || hasF f s.1 s.2
def fullB (f : Nat → Nat) (d : Nat × Nat) : Bool := (nb d).all (sideB f)
def fullTo (f : Nat → Nat) (d : Nat × Nat) : Nat → Bool
  | 0 => true
  | k + 1 => fullTo f d k && sideB f (nbAt d k)
theorem fullTo_4 (f : Nat → Nat) (d : Nat × Nat) : fullTo f d 4 = fullB f d := by
  simp [fullTo, fullB, nb, nbAt, Bool.and_assoc]
def shrS (f : Nat → Nat) : Nat → Nat := putAll (((dots f).filter (fullB f)).map fun d => ((d.1 : Int), (d.2 : Int))) zeroF
def SDc (d : Nat × Nat) : Array Value := #[.int .i64 ((d.1 : Int) - 1), .int .i64 d.2, .int .i64 ((d.1 : Int) + 1), .int .i64 d.2, .int .i64 d.1, .int .i64 ((d.2 : Int) - 1), .int .i64 d.1, .int .i64 ((d.2 : Int) + 1)]
theorem SDc_get (d : Nat × Nat) {k : Nat} (hk : k < 4) : (SDc d)[k * 2]? = some (.int .i64 (nbAt d k).1) ∧ (SDc d)[k * 2 + 1]? = some (.int .i64 (nbAt d k).2) := by
  have : k = 0 ∨ k = 1 ∨ k = 2 ∨ k = 3 := by omega
  rcases this with rfl | rfl | rfl | rfl <;> exact ⟨rfl, rfl⟩
theorem bit_inv {f : Nat → Nat} (h : okF f = true) {y : Nat} (hy : y < 12) (x : Nat) : (invF f y).testBit x = (decide (x < 12) && !(f y).testBit x) := by
  unfold invF
  rw [Nat.testBit_xor, show 4095 = 2 ^ 12 - 1 by rfl, Nat.testBit_two_pow_sub_one]
  by_cases hx : x < 12
  · simp [hx]
  · have := ok_bit h hy (x := x) (by omega)
    simp [hx, this]
theorem growI_hi {g : Nat → Nat} (h : okF g = true) {y : Nat} (hy : y < 12) {x : Nat} (hx : 12 ≤ x) : (growI g y).testBit x = false := by
  unfold growI joinF
  rw [Nat.testBit_or, Nat.testBit_or, Nat.testBit_or, Nat.testBit_or, testBit_movedI h _ _ hy, testBit_movedI h _ _ hy, testBit_movedI h _ _ hy, testBit_movedI h _ _ hy, ok_bit h hy hx]
  simp only [show ¬ x < 12 by omega, and_false, false_and, decide_false, Bool.false_and, Bool.or_false]
theorem side_eq {f : Nat → Nat} (h : okF f = true) (e s : Int) {x y : Nat} (hx : x < 12) (hy : y < 12) : sideB f ((x : Int) - e, (y : Int) - s) = !(movedI (invF f) e s 12 y).testBit x := by
  rw [testBit_movedI (invF_okF h) e s hy x]
  unfold sideB hasF
  by_cases hp : 0 ≤ (x : Int) - e ∧ (x : Int) - e ≤ 11 ∧ 0 ≤ (y : Int) - s ∧ (y : Int) - s ≤ 11
  · have h1 : plB ((x : Int) - e) ((y : Int) - s) = true := plB_iff.2 hp
    rw [decide_eq_true (show 0 ≤ (y : Int) - s ∧ (y : Int) - s < 12 ∧ x < 12 ∧ 0 ≤ (x : Int) - e by omega), bit_inv h (by omega), decide_eq_true (show ((x : Int) - e).toNat < 12 by omega)]
    simp only [h1, Bool.true_and, Bool.not_true, Bool.false_or, Bool.not_not]
  · have h1 : plB ((x : Int) - e) ((y : Int) - s) = false := plB_false.2 hp
    simp only [h1, Bool.not_false, Bool.true_or]
    by_cases hq : 0 ≤ (y : Int) - s ∧ (y : Int) - s < 12 ∧ x < 12 ∧ 0 ≤ (x : Int) - e
    · rw [bit_inv h (by omega), decide_eq_false (show ¬ ((x : Int) - e).toNat < 12 by omega)]
      simp
    · rw [decide_eq_false hq]; simp
theorem shr_eq {f : Nat → Nat} (h : okF f = true) : ∀ y, y < 12 → shrS f y = shrI f y := by
  refine frame_ext fun y hy x => ?_
  unfold shrS
  rw [testBit_putAll]
  have hI : (shrI f y).testBit x = Bool.xor ((growI (invF f) y).testBit x) (decide (x < 12)) := by
    unfold shrI
    conv => lhs; unfold invF
    rw [Nat.testBit_xor, show 4095 = 2 ^ 12 - 1 by rfl, Nat.testBit_two_pow_sub_one]
    rfl
  rw [hI]
  have hz : (zeroF y).testBit x = false := by simp [zeroF]
  rw [hz, Bool.false_or]
  by_cases hx : x < 12
  · have hany : ((((dots f).filter (fullB f)).map fun d => ((d.1 : Int), (d.2 : Int))).any fun d => plB d.1 d.2 && decide (d.1 = (x : Int) ∧ d.2 = (y : Int))) = ((f y).testBit x && fullB f (x, y)) := by
      apply Bool.eq_iff_iff.2
      simp only [List.any_eq_true, List.mem_map, List.mem_filter, Bool.and_eq_true, decide_eq_true_eq]
      constructor
      · rintro ⟨q, ⟨d, ⟨hd, hf⟩, rfl⟩, _, h1, h2⟩
        have e : d = (x, y) := by
          obtain ⟨a, b⟩ := d
          simp only at h1 h2
          rw [show a = x by omega, show b = y by omega]
        subst e
        exact ⟨(mem_dots.1 hd).2.2, hf⟩
      · rintro ⟨h1, h2⟩
        exact ⟨((x : Int), (y : Int)), ⟨(x, y), ⟨mem_dots.2 ⟨hx, hy, h1⟩, h2⟩, rfl⟩, plB_iff.2 (by omega), rfl, rfl⟩
    rw [hany]
    have hs1 := side_eq h 1 0 hx hy
    have hs2 := side_eq h (-1) 0 hx hy
    have hs3 := side_eq h 0 1 hx hy
    have hs4 := side_eq h 0 (-1) hx hy
    have hg := bit_inv h hy x
    rw [decide_eq_true hx, Bool.true_and] at hg
    have hfb : fullB f (x, y) = (sideB f ((x : Int) - 1, (y : Int) - 0) && sideB f ((x : Int) - (-1), (y : Int) - 0) && sideB f ((x : Int) - 0, (y : Int) - 1) && sideB f ((x : Int) - 0, (y : Int) - (-1))) := by
      simp [fullB, nb, Bool.and_assoc]
    rw [hfb, hs1, hs2, hs3, hs4]
    unfold growI joinF
    rw [Nat.testBit_or, Nat.testBit_or, Nat.testBit_or, Nat.testBit_or, hg, decide_eq_true hx]
    generalize (movedI (invF f) 1 0 12 y).testBit x = m1
    generalize (movedI (invF f) (-1) 0 12 y).testBit x = m2
    generalize (movedI (invF f) 0 1 12 y).testBit x = m3
    generalize (movedI (invF f) 0 (-1) 12 y).testBit x = m4
    generalize (f y).testBit x = b
    cases m1 <;> cases m2 <;> cases m3 <;> cases m4 <;> cases b <;> rfl
  · rw [growI_hi (invF_okF h) hy (by omega), decide_eq_false hx]
    simp only [Bool.xor_false]
    apply Bool.eq_false_iff.2
    intro hh
    obtain ⟨q, hq, h2⟩ := List.any_eq_true.1 hh
    simp only [Bool.and_eq_true, decide_eq_true_eq] at h2
    have := plB_iff.1 h2.1
    omega
theorem shrF_eq {f : Nat → Nat} (h : okF f = true) : FC (shrS f) = FC (shrI f) := FC_ext (shr_eq h)
theorem placeBl (x y : Int) (w : World) : Calls Tryd.prog 80 #[.int .i64 x, .int .i64 y] w fun e w' => e = .returned (.bool (plB x y)) ∧ Below w.heap.size w w' :=
  (place_any x y w).mono fun e w' ⟨h, e2⟩ => ⟨h, e2 ▸ Below.refl _ _⟩
theorem hasBl (B : Nat) (f : Nat → Nat) (x y : Int) (w : World) (hf : ∀ k, f k < 65536) (hB : Blk w B 27 f) : Calls Tryd.prog 73 #[.pointer (some ⟨B, 0, none⟩), .int .i64 x, .int .i64 y] w fun e w' => e = .returned (.bool (hasF f x y)) ∧ Below w.heap.size w w' :=
  (has_any B f x y w hf hB).mono fun e w' ⟨h, e2⟩ => ⟨h, e2 ▸ Below.refl _ _⟩
theorem SDc_one (d : Nat × Nat) : ∀ v ∈ (SDc d).toList, v.oneCell' = true := by
  intro v hv
  simp only [SDc, List.mem_cons, List.not_mem_nil, or_false] at hv
  rcases hv with rfl | rfl | rfl | rfl | rfl | rfl | rfl | rfl <;> rfl
def ptsTo (f : Nat → Nat) (k : Nat) : List (Int × Int) := (((dots f).take k).filter (fullB f)).map fun d => ((d.1 : Int), (d.2 : Int))
theorem ptsTo_succ {f : Nat → Nat} {k : Nat} {d : Nat × Nat} (h : (dots f)[k]? = some d) : ptsTo f (k + 1) = ptsTo f k ++ if fullB f d then [((d.1 : Int), (d.2 : Int))] else [] := by
  unfold ptsTo
  rw [List.take_add_one, h, List.filter_append, List.map_append]
  cases hb : fullB f d <;> simp [hb]
set_option maxHeartbeats 4000000 in
theorem specShrink_ok (f : Nat → Nat) (ho : okF f = true) (hf : ∀ k, f k < 65536) (w : World) :
    Calls Tryd.prog 33 #[.agg (FC f)] w fun e' w' => e' = .returned (.tuple #[.agg (FC (shrS f)), .int .i64 0]) ∧ Below w.heap.size w w' := by
  have b1 := (Blk.new w 27 f).alloc (.cells (FC zeroF) 27)
  have b2 := Blk.new (w.alloc (.cells (FC f) 27)) 27 zeroF
  rw [World.size_alloc] at b2
  have h0 := ((Below.refl w.heap.size w).alloc (Nat.le_refl _) (.cells (FC f) 27)).alloc (by simp) (.cells (FC zeroF) 27)
  have hz1 : ((w.alloc (.cells (FC f) 27)).alloc (.cells (FC zeroF) 27)).heap.size = w.heap.size + 1 + 1 := by simp
  rw [FC_zero] at b1 b2 h0 hz1
  go_enter Tryd.func33, Tryd.ntmps33
  go_wp2_with fail
  generalize ((w.alloc _).alloc _) = w1 at *
  refine (ok_any _ f _ b1).mono ?_
  rintro e' w' ⟨rfl, rfl⟩
  rw [ho]
  have b4 := Blk.new w1 27 zeroF
  have HZ := Lib.hid hz1
  clear hz1
  replace b1 := b1.alloc (.cells (FC zeroF) 27)
  replace b2 := b2.alloc (.cells (FC zeroF) 27)
  replace h0 := h0.alloc h0.size (.cells (FC zeroF) 27)
  go_wp2_with (refine wpList_store_new (f0 := zeroF) (f := zeroF) rfl 27 _ _ rfl rfl rfl (by kernel_rfl) ?_)
  generalize w1.alloc (.cells (FC zeroF) 27) = w2 at *
  have hg4 : w.heap.size + 1 < w1.heap.size := by rw [HZ.out]; omega
  clear HZ
  generalize w1.heap.size = g4 at *
  refine (dots_any _ f _ hf b1).mono ?_
  rintro e' w3 ⟨v, rfl, hown, hb1⟩
  have hlt3 := b4.lt
  have hz2 := h0.size
  replace b1 := b1.below hb1 b1.lt
  replace b2 := b2.below hb1 b2.lt
  replace b4 := b4.below hb1 b4.lt
  replace h0 := grown_below h0 hb1 h0.size
  obtain ⟨p, cap, rfl, _⟩ := dots_shape hown
  clear hb1
  go_wp2_with fail
  go_loopw [6] (fun i wr => ∃ k : Nat, k ≤ (dots f).length ∧ i = .int .i64 k ∧ Blk wr w.heap.size 27 f ∧ Blk wr (w.heap.size + 1) 27 zeroF ∧ Blk wr g4 27 (putAll (ptsTo f k) zeroF) ∧ wr.ownsRow w2.heap.size 64 2 (.slice p (dots f).length cap) (dots f).length (dotCells (dots f)) ∧ Below w.heap.size w wr) (fun i _ => (dots f).length - (intOf i).toNat)
  case atStart => exact ⟨0, by omega, rfl, b1, b2, b4, hown, h0⟩
  case round =>
    clear b1 b2 b4 hown h0
    obtain ⟨k, hk, rfl, b1, b2, b4, hown, hb⟩ := hrel
    have hlen : (dots f).length ≤ 144 := dotsTo_length f 144
    by_cases hlt' : k < (dots f).length
    · have hd : (dots f)[k]? = some (dots f)[k] := List.getElem?_eq_getElem hlt'
      generalize hdd : (dots f)[k] = d at hd
      have hm := mem_dots.1 (List.mem_of_getElem? hd)
      have HP := Lib.hid (ptsTo_succ hd)
      obtain ⟨p', cap', hpc, hsh⟩ := dots_shape hown
      cases hpc
      obtain ⟨g, rfl, c1, c2⟩ := hsh k d hd
      have hg := (hown.lt g rfl).1
      have hm1 := hm.1
      have hm2 := hm.2.1
      clear hd hdd hsh hm
      have k1 : IntKind.i64.wrap ((d.1 : Int) - 1) = (d.1 : Int) - 1 := IntWalk.i64_in _ (by omega)
      have k2 : IntKind.i64.wrap ((d.1 : Int) + 1) = (d.1 : Int) + 1 := IntWalk.i64_in _ (by omega)
      have k3 : IntKind.i64.wrap ((d.2 : Int) - 1) = (d.2 : Int) - 1 := IntWalk.i64_in _ (by omega)
      have k4 : IntKind.i64.wrap ((d.2 : Int) + 1) = (d.2 : Int) + 1 := IntWalk.i64_in _ (by omega)
      go_wp2_with (refine wpList_store_row rfl 91 _ _ rfl _ rfl (Row.new wr 91 _) rfl rfl (SDc_one d) (by kernel_rfl) ?_; rw [setRow_new])
      change Code.wp _ _ _ _ (wr.alloc (.cells (SDc d) 91))
      have rs := Row.new wr 91 (SDc d)
      replace b1 := b1.alloc (.cells (SDc d) 91)
      replace b2 := b2.alloc (.cells (SDc d) 91)
      replace b4 := b4.alloc (.cells (SDc d) 91)
      replace hown := hown.alloc (.cells (SDc d) 91)
      replace hb := hb.alloc hb.size (.cells (SDc d) 91)
      generalize wr.alloc (.cells (SDc d) 91) = w5 at *
      generalize wr.heap.size = gs at *
      clear c1 c2 k1 k2 k3 k4
      go_loopw [9, 11] (fun fu i wr => ∃ q : Nat, q ≤ 4 ∧ i = .int .i64 q ∧ fu = .bool (fullTo f d q) ∧ Row wr gs 91 (SDc d) ∧ Blk wr w.heap.size 27 f ∧ Blk wr (w.heap.size + 1) 27 zeroF ∧ Blk wr g4 27 (putAll (ptsTo f k) zeroF) ∧ wr.ownsRow w2.heap.size 64 2 (.slice (some ⟨g, 0, none⟩) (dots f).length cap) (dots f).length (dotCells (dots f)) ∧ Below w.heap.size w wr) (fun _ i _ => 4 - (intOf i).toNat)
      case atStart => exact ⟨0, by omega, rfl, rfl, rs, b1, b2, b4, hown, hb⟩
      case round =>
        clear rs b1 b2 b4 hown hb
        obtain ⟨q, hq, rfl, rfl, rs, b1, b2, b4, hown, hb⟩ := hrel
        by_cases hlq : q < 4
        · have hsd := SDc_get d hlq
          have c0 : wr.cell? ⟨gs, q * 2, none⟩ = some (.int .i64 (nbAt d q).1) := by rw [Row.cell rs]; exact hsd.1
          have c1 : wr.cell? ⟨gs, q * 2 + 1, none⟩ = some (.int .i64 (nbAt d q).2) := by rw [Row.cell rs]; exact hsd.2
          have c0' := fun dd os => cell_regrown c0 dd os
          have c1' := fun dd os => cell_regrown c1 dd os
          clear hsd c0 c1
          cases hp : plB (nbAt d q).1 (nbAt d q).2 with
          | false =>
            have hs : sideB f (nbAt d q) = true := by unfold sideB; rw [hp]; rfl
            have hst : fullTo f d (q + 1) = (fullTo f d q && sideB f (nbAt d q)) := rfl
            rw [hs, Bool.and_true] at hst
            have HST := Lib.hid hst
            clear hst hs
            have cP := fun W => placeBl (nbAt d q).1 (nbAt d q).2 W
            have cH := fun W (hW : Below wr.heap.size wr W) => hasBl w.heap.size f (nbAt d q).1 (nbAt d q).2 W hf (b1.below hW b1.lt)
            rw [hp] at cP
            clear cH
            clear hp
            generalize (nbAt d q).1 = sx at *
            generalize (nbAt d q).2 = sy at *
            go_wp2_with fail
            refine wp_region_calm (by kernel_rfl) (by kernel_rfl) ?_
            repeat (quiet_step (first | exact Calls.regrown_of (cP _)))
            refine wpQuiet_nil ?_
            intro w9 hb9
            replace b1 := b1.below hb9 b1.lt; replace b2 := b2.below hb9 b2.lt; replace b4 := b4.below hb9 b4.lt; replace hown := hown.kept (below_grownBy hb9 none) (.inr (by simp [Value.ownBlock]))
            replace rs := Row.below rs hb9 (Row.lt rs)
            replace hb := grown_below hb hb9 hb.size
            clear hb9 c0' c1' cP
            go_wp2
            go_roundw
            case rel =>
              go_light
              exact ⟨q + 1, by omega, by go_num, by rw [HST.out], rs, b1, b2, b4, hown, hb⟩
            case measure => simp [intOf]; omega
          | true =>
            cases hh : hasF f (nbAt d q).1 (nbAt d q).2 with
            | true =>
              have hs : sideB f (nbAt d q) = true := by unfold sideB; rw [hh, Bool.or_true]
              have hst : fullTo f d (q + 1) = (fullTo f d q && sideB f (nbAt d q)) := rfl
              rw [hs, Bool.and_true] at hst
              have HST := Lib.hid hst
              clear hst hs
              have cP := fun W => placeBl (nbAt d q).1 (nbAt d q).2 W
              have cH := fun W (hW : Below wr.heap.size wr W) => hasBl w.heap.size f (nbAt d q).1 (nbAt d q).2 W hf (b1.below hW b1.lt)
              rw [hp] at cP
              rw [hh] at cH
              clear hp hh
              generalize (nbAt d q).1 = sx at *
              generalize (nbAt d q).2 = sy at *
              go_wp2_with fail
              refine wp_region_calm (by kernel_rfl) (by kernel_rfl) ?_
              repeat (quiet_step (first | exact Calls.regrown_of (cP _) | exact Calls.regrown_of (cH _ (below_regrown _ _ _))))
              refine wpQuiet_nil ?_
              intro w9 hb9
              replace b1 := b1.below hb9 b1.lt; replace b2 := b2.below hb9 b2.lt; replace b4 := b4.below hb9 b4.lt; replace hown := hown.kept (below_grownBy hb9 none) (.inr (by simp [Value.ownBlock]))
              replace rs := Row.below rs hb9 (Row.lt rs)
              replace hb := grown_below hb hb9 hb.size
              clear hb9 c0' c1' cP cH
              go_wp2
              go_roundw
              case rel =>
                go_light
                exact ⟨q + 1, by omega, by go_num, by rw [HST.out], rs, b1, b2, b4, hown, hb⟩
              case measure => simp [intOf]; omega
            | false =>
              have hs : sideB f (nbAt d q) = false := by unfold sideB; rw [hp, hh]; rfl
              have hst : fullTo f d (q + 1) = (fullTo f d q && sideB f (nbAt d q)) := rfl
              rw [hs, Bool.and_false] at hst
              have HST := Lib.hid hst
              clear hst hs
              have cP := fun W => placeBl (nbAt d q).1 (nbAt d q).2 W
              have cH := fun W (hW : Below wr.heap.size wr W) => hasBl w.heap.size f (nbAt d q).1 (nbAt d q).2 W hf (b1.below hW b1.lt)
              rw [hp] at cP
              rw [hh] at cH
              clear hp hh
              generalize (nbAt d q).1 = sx at *
              generalize (nbAt d q).2 = sy at *
              go_wp2_with fail
              refine wp_region_calm (by kernel_rfl) (by kernel_rfl) ?_
              repeat (quiet_step (first | exact Calls.regrown_of (cP _) | exact Calls.regrown_of (cH _ (below_regrown _ _ _))))
              refine wpQuiet_nil ?_
              intro w9 hb9
              replace b1 := b1.below hb9 b1.lt; replace b2 := b2.below hb9 b2.lt; replace b4 := b4.below hb9 b4.lt; replace hown := hown.kept (below_grownBy hb9 none) (.inr (by simp [Value.ownBlock]))
              replace rs := Row.below rs hb9 (Row.lt rs)
              replace hb := grown_below hb hb9 hb.size
              clear hb9 c0' c1' cP cH
              go_wp2
              go_roundw
              case rel =>
                go_light
                exact ⟨q + 1, by omega, by go_num, by rw [HST.out], rs, b1, b2, b4, hown, hb⟩
              case measure => simp [intOf]; omega
        · have hq4 : q = 4 := by omega
          subst hq4
          rw [fullTo_4]
          cases hF : fullB f d with
          | false =>
            have hpt := HP.out
            rw [hF] at hpt
            simp only [Bool.false_eq_true, if_false, List.append_nil] at hpt
            have HPT := Lib.hid hpt
            clear hpt hF
            go_wp2
            go_roundw
            case rel =>
              go_light
              exact ⟨k + 1, by omega, by go_num, b1, b2, by rw [HPT.out]; exact b4, hown, hb⟩
            case measure => simp [intOf]; omega
          | true =>
            have hpt := HP.out
            rw [hF] at hpt
            simp only [if_true] at hpt
            have HPT := Lib.hid hpt
            clear hpt hF
            go_wp2_with (go_at_call 68; refine (put_any _ _ _ _ _ (putAll_lt _ zeroF_lt) b4).mono ?_; rintro e' w7 ⟨rfl, hw, b4'⟩)
            go_roundw
            case rel =>
              go_light
              refine ⟨k + 1, by omega, by go_num, hw.blk b1 (by omega), hw.blk b2 (by omega), ?_, hown.kept hw.grown (.inr (by simp [Value.ownBlock]; omega)), hw.below hb (by omega) hb.size⟩
              rw [HPT.out, putAll_snoc]
              exact b4'
            case measure => simp [intOf]; omega
    · have hk' : k = (dots f).length := by omega
      subst hk'
      go_wp2_with (first | (refine wpList_load_fr rfl 27 22 _ rfl _ rfl b4 Tryd.underlying27 (by kernel_rfl) ?_) | (refine wpList_store_fr rfl 27 _ _ rfl _ rfl b2 rfl (by kernel_rfl) ?_))
      refine bodyPost_ret_fr2 (p := 2) (u := 3) (ty := 27) (e := 22) rfl rfl (b2.setRow _) Tryd.underlying27 (by kernel_rfl) rfl ⟨?_, below_setRow hb (by omega) _⟩
      unfold ptsTo shrS
      (try rw [List.take_of_length_le (Nat.le_refl _)])
      rfl
set_option maxHeartbeats 400000 in
theorem specShrinkFrame_any (f : Nat → Nat) (hf : ∀ k, f k < 65536) (w : World) :
    Calls Tryd.prog 33 #[.agg (FC f)] w fun e' w' => e' = .returned (.tuple #[.agg (FC (ifC (okC f) (shrS f))), .int .i64 (okC f)]) ∧ Below w.heap.size w w' := by
  rcases okC_cases f with ⟨ho, ha⟩ | ⟨ho, ha⟩
  · have hv : ifC 1 (shrS f) = zeroF := by simp [ifC]
    have b1 := (Blk.new w 27 f).alloc (.cells (FC zeroF) 27)
    have b2 := Blk.new (w.alloc (.cells (FC f) 27)) 27 zeroF
    rw [World.size_alloc] at b2
    have h0 := ((Below.refl w.heap.size w).alloc (Nat.le_refl _) (.cells (FC f) 27)).alloc (by simp) (.cells (FC zeroF) 27)
    rw [FC_zero] at b1 b2 h0
    go_enter Tryd.func33, Tryd.ntmps33
    go_wp2_with fail
    generalize ((w.alloc _).alloc _) = w1 at *
    refine (ok_any _ f _ b1).mono ?_
    rintro e' w' ⟨rfl, rfl⟩
    rw [ho]
    go_wp2_with (refine wpList_store_fr (f := zeroF) rfl 27 _ _ rfl _ rfl b2 rfl (by kernel_rfl) ?_)
    exact bodyPost_ret_fr2 (p := 2) (u := 3) (ty := 27) (e := 22) rfl rfl (b2.setRow _) Tryd.underlying27 (by kernel_rfl) rfl ⟨by rw [ha, hv]; rfl, below_setRow h0 (by omega) _⟩
  · rw [ha, show ifC 0 (shrS f) = shrS f by simp [ifC]]
    exact specShrink_ok f ho hf w
theorem shrinkFrames_eq (f : Nat → Nat) : FC (ifC (okC f) (shrS f)) = FC (ifC (okC f) (shrI f)) := by
  rcases okC_cases f with ⟨ho, ha⟩ | ⟨ho, ha⟩
  · rw [ha]; rfl
  · rw [ha]; exact shrF_eq ho
end Go.Proofs.YthkpefdjhdemeaaDoor
