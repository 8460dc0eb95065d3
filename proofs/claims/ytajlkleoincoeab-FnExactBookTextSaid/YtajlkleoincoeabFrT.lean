/- TEXTS OF FRAMES: l01Text, FrameText (spec); FrameText (impl, by a strings.Builder). -/
import Derived.Test.YtajlkleoincoeabRows
import Derived.Test.YtajlkleoincoeabOrdT
import Derived.Test.YtajlkleoincoeabIValid
import Derived.Test.YtajlkleoincoeabCodeName
import Derived.Test.YtajlkleoincoeabShelf
import Derived.Lib.Builder
import Derived.Shelf.Strings.Builder1
namespace Go.Proofs.Ytajlkleoincoeab
set_option maxRecDepth 100000
open Go.RowKit
set_option linter.unusedVariables false
set_option linter.unusedSimpArgs false
def chr (f : Nat → Nat) (y x : Nat) : UInt8 := if (f y).testBit x then 35 else 46
/-- The first x signs of a row. -/
def lineT (f : Nat → Nat) (y : Nat) : Nat → List UInt8
  | 0 => []
  | x + 1 => lineT f y x ++ [chr f y x]
/-- The first y rows. -/
def txK (f : Nat → Nat) : Nat → List UInt8
  | 0 => []
  | y + 1 => txK f y ++ lineT f y 12 ++ [10]
def frT (f : Nat → Nat) : List UInt8 := txK f 12
def ftT (f : Nat → Nat) : List UInt8 := if okF f then frT f else []
theorem lineT_len (f : Nat → Nat) (y : Nat) : ∀ x, (lineT f y x).length = x
  | 0 => rfl
  | x + 1 => by rw [lineT, List.length_append, lineT_len f y x]; rfl
theorem txK_len (f : Nat → Nat) : ∀ y, (txK f y).length = 13 * y
  | 0 => rfl
  | y + 1 => by rw [txK, List.length_append, List.length_append, txK_len f y, lineT_len]; simp; omega
set_option maxHeartbeats 400000 in
theorem hasAt_any (B off : Nat) (f : Nat → Nat) (x y : Nat) (hx : x < 12) (hy : y < 12) (w : World) (hf : ∀ k, f k < 65536) (r : w.rangeAt B off (FC f).toList) :
    Calls Try.prog 52 #[.pointer (some ⟨B, off, none⟩), .int .i64 x, .int .i64 y] w fun e w' => e = .returned (.bool ((f y).testBit x)) ∧ w = w' := by
  have hp : plB (x : Int) (y : Int) = true := plB_iff.2 (by omega)
  have c1 := fr_cell r hy
  have hfy := hf y
  clear hf r
  go_enter Try.func52, Try.ntmps52
  go_wp2_with (go_at_call 62; refine (place_any _ _ _).mono ?_; rintro e w' ⟨rfl, rfl⟩)
  go_ret
  refine ⟨ret_bool ?_, rfl⟩
  go_light
  rw [tmod_bit]
/-- Lines and rows as functions of which only their steps are known (so that nothing reckons them). -/
theorem lineT_abs (f : Nat → Nat) : ∃ T : Nat → Nat → List UInt8, (∀ y, T y 0 = []) ∧ (∀ y x, T y (x + 1) = T y x ++ [chr f y x]) ∧ (∀ y x, (T y x).length = x) ∧ ∃ K : Nat → List UInt8, K 0 = [] ∧ (∀ y, K (y + 1) = K y ++ T y 12 ++ [10]) ∧ (∀ y, (K y).length = 13 * y) ∧ K 12 = frT f :=
  ⟨lineT f, fun _ => rfl, fun _ _ => rfl, lineT_len f, txK f, rfl, fun _ => rfl, txK_len f, rfl⟩
set_option maxHeartbeats 2000000 in
theorem textAt_any (B off : Nat) (f : Nat → Nat) (w : World) (hf : ∀ k, f k < 65536) (r : w.rangeAt B off (FC f).toList) :
    Calls Try.prog 34 #[.pointer (some ⟨B, off, none⟩)] w fun e w' => e = .returned (.string (bsOf (frT f))) ∧ w' = w := by
  have cH := fun (x y : Nat) (hx : x < 12) (hy : y < 12) => hasAt_any B off f x y hx hy w hf r
  obtain ⟨T, t0, t1, t2, K, k0, k1, k2, k3⟩ := lineT_abs f
  rw [← k3]
  have H := Lib.hid (And.intro t1 (And.intro t2 (And.intro k1 k2)))
  have CH := Lib.hid cH
  have HT0 := Lib.hid t0
  clear r t1 t2 k1 k2 k3 cH t0
  go_enter Try.func34, Try.ntmps34
  go_wp2
  go_loopw [3, 4] (fun s i wr => ∃ y : Nat, y ≤ 12 ∧ i = .int .i64 y ∧ s = .string (bsOf (K y)) ∧ wr = w) (fun _ i _ => 12 - (intOf i).toNat)
  case atStart => exact ⟨0, by omega, rfl, by rw [k0]; rfl, rfl⟩
  case round =>
    clear k0
    obtain ⟨y, hy, rfl, rfl, hwr⟩ := hrel
    subst hwr
    by_cases hlt : y < 12
    · have hd : decide ((y : Int) < 12) = true := by simp; omega
      have hl1 := H.out.2.2.2 y
      have HN := Lib.hid (H.out.2.2.1 y)
      generalize K y = J at *
      have e0 : bsOf J = bsOf (J ++ T y 0) := by rw [HT0.out, List.append_nil]
      rw [e0]
      clear e0
      go_wp2
      obtain ⟨wo, hwo⟩ : ∃ wo : World, wo = wr := ⟨_, rfl⟩
      go_loopw [3, 5] (fun s i wq => ∃ x : Nat, x ≤ 12 ∧ i = .int .i64 x ∧ s = .string (bsOf (J ++ T y x)) ∧ wq = wo) (fun _ i _ => 12 - (intOf i).toNat)
      case atStart => exact ⟨0, by omega, rfl, rfl, hwo.symm⟩
      case round =>
        obtain ⟨x, hx, rfl, rfl, hq⟩ := hrel
        subst hq
        subst hwo
        have hl2 := H.out.2.1 y x
        by_cases hxl : x < 12
        · have c := CH.out x y hxl hlt
          have hst : J ++ T y (x + 1) = (J ++ T y x) ++ [chr f y x] := by rw [H.out.1, List.append_assoc]
          have hc : chr f y x = if (f y).testBit x then 35 else 46 := rfl
          have hll : (J ++ T y x).length ≤ 1000 := by rw [List.length_append]; omega
          generalize J ++ T y x = M at *
          have HST := Lib.hid hst
          clear hst
          cases hb2 : (f y).testBit x with
          | false =>
            rw [hb2] at c hc
            have hc' : chr f y x = 46 := hc
            have hs := fun w => str_add M [46] (by simp only [List.length_cons, List.length_nil]; omega) w
            have hs' : ∀ w, (Op.stringOp .add (bsOf M) ⟨#[46]⟩).run Try.prog w = .ok (.string (bsOf (M ++ [46]))) w := hs
            have HC := Lib.hid hc'
            clear hc hc' hb2 hs hll
            go_wp2_with (go_at_call 52; refine c.mono ?_; rintro e w' ⟨rfl, rfl⟩)
            go_roundw
            case rel =>
              go_light
              exact ⟨x + 1, by omega, by go_num, by rw [HST.out, HC.out], by trivial⟩
            case measure => simp [intOf]; omega
          | true =>
            rw [hb2] at c hc
            have hc' : chr f y x = 35 := hc
            have hs := fun w => str_add M [35] (by simp only [List.length_cons, List.length_nil]; omega) w
            have hs' : ∀ w, (Op.stringOp .add (bsOf M) ⟨#[35]⟩).run Try.prog w = .ok (.string (bsOf (M ++ [35]))) w := hs
            have HC := Lib.hid hc'
            clear hc hc' hb2 hs hll
            go_wp2_with (go_at_call 52; refine c.mono ?_; rintro e w' ⟨rfl, rfl⟩)
            go_roundw
            case rel =>
              go_light
              exact ⟨x + 1, by omega, by go_num, by rw [HST.out, HC.out], by trivial⟩
            case measure => simp [intOf]; omega
        · have h12 : x = 12 := by omega
          subst h12
          have hll : (J ++ T y 12).length ≤ 1000 := by rw [List.length_append]; omega
          generalize J ++ T y 12 = M at *
          have hs := fun w => str_add M [10] (by simp only [List.length_cons, List.length_nil]; omega) w
          have hs' : ∀ w, (Op.stringOp .add (bsOf M) ⟨#[10]⟩).run Try.prog w = .ok (.string (bsOf (M ++ [10]))) w := hs
          clear hs hll
          go_wp2
          go_roundw
          case rel =>
            go_light
            exact ⟨y + 1, by omega, by go_num, by rw [HN.out], by trivial⟩
          case measure => simp [intOf]; omega
    · have h12 : y = 12 := by omega
      subst h12
      go_wp2
      go_ret
      exact ⟨rfl, by trivial⟩
theorem specFrameText_any (f : Nat → Nat) (hf : ∀ k, f k < 65536) (w : World) :
    Calls Try.prog 8 #[.agg (FC f)] w fun e w' => e = .returned (.string (bsOf (ftT f))) ∧ Below w.heap.size w w' := by
  have b1 := Blk.new w 25 f
  have h0 := (Below.refl w.heap.size w).alloc (Nat.le_refl _) (.cells (FC f) 25)
  have cO := ok_any w.heap.size f _ b1
  have cT := textAt_any w.heap.size 0 f _ hf b1.range
  cases ho : okF f with
  | false =>
    have e : ftT f = [] := by unfold ftT; rw [ho]; rfl
    rw [ho] at cO
    rw [e]
    clear ho e cT
    go_enter Try.func8, Try.ntmps8
    go_wp2_with (go_at_call 33; refine cO.mono ?_; rintro e w' ⟨rfl, rfl⟩)
    go_ret
    exact ⟨rfl, h0⟩
  | true =>
    have e : ftT f = frT f := by unfold ftT; rw [ho]; rfl
    rw [ho] at cO
    rw [e]
    clear ho e
    go_enter Try.func8, Try.ntmps8
    go_wp2_with (first | (go_at_call 33; refine cO.mono ?_; rintro e w' ⟨rfl, rfl⟩) | (go_at_call 34; refine cT.mono ?_; rintro e w' ⟨rfl, rfl⟩))
    go_ret
    exact ⟨rfl, h0⟩
/-- A builder of the call's own that holds these bytes. -/
def Bld (B b : Nat) (l : List UInt8) (w : World) : Prop := Lib.IsBuilder 62 5 B b (Lib.byteCells l) w
theorem writeByte_any (B b : Nat) (l : List UInt8) (c : UInt8) (w : World) (h : Bld B b l w) (hl : l.length ≤ 100000000) (hB : B ≤ w.heap.size) :
    Calls Try.prog 36 #[.pointer (some ⟨b, 0, none⟩), .int .u8 c.toNat] w fun e w' => e = .returned .nilIface ∧ Bld B b (l ++ [c]) w' ∧ Below B w w' := by
  have := Any.Builder_WriteByte Try.lays167 Try.Builder_Extra_167 B b (Lib.byteCells l) c.toNat w h (by rw [Lib.byteCells_length]; omega) hB
  refine this.mono fun e w' ⟨he, ha, hb⟩ => ⟨he, .inr ?_, hb⟩
  have e2 : Lib.byteCells (l ++ [c]) = Lib.byteCells l ++ [.int .u8 c.toNat] := by simp [Lib.byteCells]
  rw [e2]
  exact ha
theorem bString_any (B b : Nat) (l : List UInt8) (w : World) (h : Bld B b l w) (h0 : l ≠ []) :
    Calls Try.prog 37 #[.pointer (some ⟨b, 0, none⟩)] w fun e w' => e = .returned (.string (bsOf l)) ∧ Below B w w' :=
  Try.Builder_String B b l w h h0
theorem bld_new (w : World) : Bld w.heap.size w.heap.size [] (w.alloc (.cells #[.pointer none, .slice none 0 0] 62)) := Lib.fresh_isBuilder _ _ w
/-- Nothing below either bound has turned. -/
theorem below_upto {A B : Nat} {w w1 w2 : World} (h : Below A w w1) (h2 : Below B w1 w2) (hAB : A ≤ B) : Below A w w2 := h.trans (h2.mono hAB)
theorem and1_val {a : Nat} (ha : a < 65536) (x : Nat) : bits .and .u16 ((a : Int) / 2 ^ x) 1 = if a.testBit x then 1 else 0 := by
  have hlt : a / 2 ^ x < 65536 := Nat.lt_of_le_of_lt (Nat.div_le_self _ _) ha
  have h1 := u16_and_nat (a / 2 ^ x) 1 hlt (by omega)
  rw [cast_pow, ← Int.natCast_ediv]
  rw [show ((1 : Nat) : Int) = 1 from rfl] at h1
  rw [h1, Nat.and_one_is_mod, Nat.testBit_eq_decide_div_mod_eq]
  by_cases h : a / 2 ^ x % 2 = 1
  · rw [h]; simp
  · have : a / 2 ^ x % 2 = 0 := by omega
    rw [this]; simp
set_option maxHeartbeats 2000000 in
theorem implFrameText_any (f : Nat → Nat) (hf : ∀ k, f k < 65536) (w : World) :
    Calls Try.prog 10 #[.agg (FC f)] w fun e w' => e = .returned (.string (bsOf (ftT f))) ∧ Below w.heap.size w w' := by
  have b1 := Blk.new w 25 f
  have h0 := (Below.refl w.heap.size w).alloc (Nat.le_refl _) (.cells (FC f) 25)
  have cV := fun w => valid_any f hf w
  cases ho : okF f with
  | false =>
    have e : ftT f = [] := by unfold ftT; rw [ho]; rfl
    rw [ho] at cV
    rw [e]
    clear ho e
    go_enter Try.func10, Try.ntmps10
    go_wp2_with (first | (refine wpList_load_fr rfl 25 22 _ rfl _ rfl b1 Try.underlying25 (by kernel_rfl) ?_) | (go_at_call 35; refine (cV _).mono ?_; rintro e w1 ⟨rfl, hb⟩))
    go_ret
    exact ⟨rfl, grown_below h0 hb h0.size⟩
  | true =>
    have e : ftT f = frT f := by unfold ftT; rw [ho]; rfl
    rw [ho] at cV
    obtain ⟨T, t0, t1, t2, K, k0, k1, k2, k3⟩ := lineT_abs f
    rw [e, ← k3]
    have hfl := fun y => hf y
    have H := Lib.hid (And.intro t1 (And.intro t2 (And.intro k1 k2)))
    have HT0 := Lib.hid t0
    have HK0 := Lib.hid k0
    have HF := Lib.hid hf
    obtain ⟨i0, hi0⟩ : ∃ i, Try.prog.info? 22 = some i := ⟨_, rfl⟩
    have IX := Lib.hid fun (y : Nat) (hlt : y < 12) => fun w => run_index_fr (P := Try.prog) w f hlt Try.underlying25 (by kernel_rfl) hi0 (by kernel_rfl)
    clear ho e t1 t2 k1 k2 k3 t0 k0 hf hfl hi0
    go_enter Try.func10, Try.ntmps10
    go_wp2_with (first | (refine wpList_load_fr rfl 25 22 _ rfl _ rfl (by first | exact b1 | exact b1.alloc _) Try.underlying25 (by kernel_rfl) ?_) | (go_at_call 35; refine (cV _).mono ?_; rintro e w1 ⟨rfl, hb⟩; replace b1 := b1.below hb b1.lt; replace h0 := grown_below h0 hb h0.size; clear hb; have bN := bld_new w1; have hsz := h0.size; have hwb : w.heap.size ≤ w1.heap.size := hsz; have hbA := h0.alloc hsz (.cells #[.pointer none, .slice none 0 0] 62); have hle : w1.heap.size ≤ (w1.alloc (.cells #[.pointer none, .slice none 0 0] 62)).heap.size := by simp))
    generalize hbq : w1.heap.size = b at *
    generalize (w1.alloc (.cells #[.pointer none, .slice none 0 0] 62)) = w2 at *
    clear b1 h0 hbq cV
    go_loopw [11] (fun i wr => ∃ y : Nat, y ≤ 12 ∧ i = .int .i64 y ∧ Bld b b (K y) wr ∧ Below w.heap.size w wr ∧ b ≤ wr.heap.size) (fun i _ => 12 - (intOf i).toNat)
    case atStart => exact ⟨0, by omega, rfl, by rw [HK0.out]; exact bN, hbA, hle⟩
    case round =>
      clear bN hbA hle
      obtain ⟨y, hy, rfl, bN, hb, hle⟩ := hrel
      by_cases hlt : y < 12
      · have hd : decide ((y : Int) < 12) = true := by simp; omega
        have hl1 := H.out.2.2.2 y
        have HN := Lib.hid (H.out.2.2.1 y)
        have ix := IX.out y hlt
        generalize K y = J at *
        rw [show J = J ++ T y 0 by rw [HT0.out, List.append_nil]] at bN
        have hfy := HF.out y
        obtain ⟨r, hr⟩ : ∃ r, f y = r := ⟨_, rfl⟩
        have hch : ∀ x, chr f y x = if r.testBit x then 35 else 46 := fun x => by rw [← hr]; rfl
        rw [hr] at ix hfy
        have HC := Lib.hid hch
        clear hch hr
        go_wp2
        go_loopw [14] (fun i wq => ∃ x : Nat, x ≤ 12 ∧ i = .int .i64 x ∧ Bld b b (J ++ T y x) wq ∧ Below w.heap.size w wq ∧ b ≤ wq.heap.size) (fun i _ => 12 - (intOf i).toNat)
        case atStart => exact ⟨0, by omega, rfl, bN, hb, hle⟩
        case round =>
          clear bN hb hle ix
          obtain ⟨x, hx, rfl, bN, hb, hle⟩ := hrel
          have hl2 := H.out.2.1 y x
          by_cases hxl : x < 12
          · have hst : J ++ T y (x + 1) = (J ++ T y x) ++ [chr f y x] := by rw [H.out.1, List.append_assoc]
            have hll : (J ++ T y x).length ≤ 1000 := by rw [List.length_append]; omega
            have hv := and1_val hfy x
            rw [HC.out] at hst
            generalize J ++ T y x = M at *
            have HST := Lib.hid hst
            clear hst
            cases hb2 : r.testBit x with
            | false =>
              rw [hb2] at hv HST
              have hv' : bits .and .u16 ((r : Int) / 2 ^ x) 1 = 0 := hv
              have cW := writeByte_any b b M 46 wr bN (by omega) hle
              clear hv hb2 hll
              go_wp2_with (go_at_call 36; refine cW.mono ?_; rintro e w4 ⟨rfl, bN4, hb4⟩)
              go_roundw
              case rel =>
                go_light
                exact ⟨x + 1, by omega, by go_num, by rw [HST.out]; exact bN4, below_upto hb hb4 (by omega), Nat.le_trans hle hb4.size⟩
              case measure => simp [intOf]; omega
            | true =>
              rw [hb2] at hv HST
              have hv' : bits .and .u16 ((r : Int) / 2 ^ x) 1 = 1 := hv
              have cW := writeByte_any b b M 35 wr bN (by omega) hle
              clear hv hb2 hll
              go_wp2_with (go_at_call 36; refine cW.mono ?_; rintro e w4 ⟨rfl, bN4, hb4⟩)
              go_roundw
              case rel =>
                go_light
                exact ⟨x + 1, by omega, by go_num, by rw [HST.out]; exact bN4, below_upto hb hb4 (by omega), Nat.le_trans hle hb4.size⟩
              case measure => simp [intOf]; omega
          · have h12 : x = 12 := by omega
            subst h12
            have hll : (J ++ T y 12).length ≤ 1000 := by rw [List.length_append]; omega
            generalize J ++ T y 12 = M at *
            have cW := writeByte_any b b M 10 wr bN (by omega) hle
            clear hll
            go_wp2_with (go_at_call 36; refine cW.mono ?_; rintro e w4 ⟨rfl, bN4, hb4⟩)
            go_roundw
            case rel =>
              go_light
              exact ⟨y + 1, by omega, by go_num, by rw [HN.out]; exact bN4, below_upto hb hb4 (by omega), Nat.le_trans hle hb4.size⟩
            case measure => simp [intOf]; omega
      · have h12 : y = 12 := by omega
        subst h12
        have hl := H.out.2.2.2 12
        have cS := bString_any b b (K 12) wr bN (fun e => by rw [e] at hl; simp at hl)
        clear hl
        go_wp2_with (go_at_call 37; refine cS.mono ?_; rintro e w4 ⟨rfl, hb4⟩)
        go_ret
        exact ⟨rfl, below_upto hb hb4 (by omega)⟩
end Go.Proofs.Ytajlkleoincoeab
