/- impl: shifted, limited, changeTrack. -/
import Derived.Test.YtkcomhbmhgnhhaaDoorIPlaceAt
import Derived.Test.YtkcomhbmhgnhhaaDoorLI64
namespace Go.Proofs.YtkcomhbmhgnhhaaDoor
set_option maxRecDepth 100000
open Go.RowKit
set_option linter.unusedVariables false
set_option linter.unusedSimpArgs false
theorem infoKyL : (Tryd.prog.info? 50).map (fun i => (i.zero, i.size, i.bytes)) = some (some (.agg (KC zeroK)), eKy.n, 4) := by kernel_rfl
theorem run_build_kys (w : World) (s : Int × Int × Int) : (Instr.buildSlice 25 1 #[(0, .agg (KC s))]).run Tryd.prog w = .ok (.slice (some ⟨w.heap.size, 0, none⟩) 1 1) (w.alloc (.cells (KC s) 50)) := by kernel_rfl
def shF (t e s : Int) (L : List (Int × Int × Int)) (i : Nat) : Int × Int × Int := ((kAt L i).1 + t, (kAt L i).2.1 + e, (kAt L i).2.2 + s)
def shL (t e s : Int) (L : List (Int × Int × Int)) : List (Int × Int × Int) := tab (shF t e s L) L.length
set_option maxHeartbeats 4000000 in
theorem shifted_any (v : Value) (L : List (Int × Int × Int)) (t e s : Int) (w : World) (ho : okT L = true) (ht : -200 ≤ t ∧ t ≤ 200) (he : -48 ≤ e ∧ e ≤ 48) (hs : -48 ≤ s ∧ s ≤ 48) (h : SlAt eKy w w.heap.size v L) :
    Calls Tryd.prog 47 #[v, .agg (KC (t, e, s))] w (GivesV eKy 50 (shL t e s L) w) := by
  obtain ⟨A, c, rfl, h1, h2, hA⟩ := h
  have hlen := (okT_iff.1 ho).1
  obtain ⟨b1, o1, rfl, hb1, r1⟩ := hA (by omega)
  have hl1 := hlen.1
  have hl2 := hlen.2
  have r3 := Row.new w 50 (KC (t, e, s))
  have h0 := (Below.refl w.heap.size w).alloc (Nat.le_refl _) (.cells (KC (t, e, s)) 50)
  clear hA hlen h2
  go_enter Tryd.func47, Tryd.ntmps47
  go_wp2
  change Code.wp _ _ _ _ (w.alloc (.cells (KC (t, e, s)) 50))
  generalize (w.alloc (.cells (KC (t, e, s)) 50)) = w1 at *
  have hl3 := r3.lt
  have r1' := range_below r1 h0 hb1
  have hb1' : b1 < w1.heap.size := Nat.lt_of_lt_of_le hb1 h0.size
  have hown := OwnL.nil_ (E := eKy) w1 w1.heap.size 50
  have hU := Lib.hid (show shL t e s L = tab (shF t e s L) L.length from rfl)
  clear r1 hb1
  go_loopw [5, 10] (fun u i wr => ∃ k : Nat, k ≤ L.length ∧ i = .int .i64 k ∧ OwnL eKy wr w1.heap.size 50 u (tab (shF t e s L) k) ∧ Below w1.heap.size w1 wr) (fun _ i _ => L.length - (intOf i).toNat)
  case atStart => exact ⟨0, by omega, rfl, hown, Below.refl _ _⟩
  case round =>
    clear hown
    obtain ⟨k, hk, rfl, hown, hb⟩ := hrel
    by_cases hlt : k < L.length
    · have g1 := range_below (range_part r1' (kAt_get hlt)) hb hb1'
      rw [eKy_n] at g1
      have q := okT_key ho hlt
      have hF : shF t e s L k = ((kAt L k).1 + t, (kAt L k).2.1 + e, (kAt L k).2.2 + s) := rfl
      have r3' := r3.below hb hl3
      have HS := Lib.hid (tab_succ (shF t e s L) k)
      have hll : (tab (shF t e s L) k).length ≤ 1000 := by rw [tab_length]; omega
      have hsz := hb.size
      clear r1'
      generalize kAt L k = a at *
      obtain ⟨x, y, z⟩ := a
      dsimp only at q hF
      have HF := Lib.hid hF
      clear hF
      have k1 : IntKind.i16.wrap (x + t) = x + t := IntWalk.i16_in _ (by omega)
      have k2 : IntKind.i8.wrap (y + e) = y + e := IntWalk.i8_in _ (by omega)
      have k3 : IntKind.i8.wrap (z + s) = z + s := IntWalk.i8_in _ (by omega)
      have r4 := r3'.alloc (.cells #[.int .i16 x, .int .i8 y, .int .i8 z] 50)
      have d0 : (wr.alloc (.cells #[.int .i16 x, .int .i8 y, .int .i8 z] 50)).cell? ⟨w.heap.size, 0, none⟩ = some (.int .i16 t) := r4.cell 0
      have d1 : (wr.alloc (.cells #[.int .i16 x, .int .i8 y, .int .i8 z] 50)).cell? ⟨w.heap.size, 1, none⟩ = some (.int .i8 e) := r4.cell 1
      have d2 : (wr.alloc (.cells #[.int .i16 x, .int .i8 y, .int .i8 z] 50)).cell? ⟨w.heap.size, 2, none⟩ = some (.int .i8 s) := r4.cell 2
      replace hown := hown.alloc (.cells #[.int .i16 x, .int .i8 y, .int .i8 z] 50)
      replace hb := hb.alloc hb.size (.cells #[.int .i16 x, .int .i8 y, .int .i8 z] 50)
      clear q r3' r4
      go_wp2_with (first | (refine wpList_load_el (E := eKy) rfl 50 _ rfl _ _ rfl (x, y, z) #[.int .i16 x, .int .i8 y, .int .i8 z] rfl g1 Tryd.underlying50 rfl (by kernel_rfl) ?_) | (refine wpList_build1 (v := .agg (KC (x + t, y + e, z + s))) (cs := KC (x + t, y + e, z + s)) rfl 25 50 _ rfl rfl (fun w => run_build_kys w (x + t, y + e, z + s)) ?_) | (at_builtin; refine wpList_append_one rfl _ _ 25 rfl w1.heap.size 50 Tryd.underlying25 infoKyL rfl (by decide) (by omega) (hown.alloc (.cells (KC (x + t, y + e, z + s)) 50)) rfl (x + t, y + e, z + s) rfl (range_new _ _ (KC (x + t, y + e, z + s))) (by omega) (by simp; omega) ?_; intro v' w6 hown' hgrow))
      go_roundw
      case rel =>
        go_light
        refine ⟨k + 1, by omega, by go_num, ?_, (hown.alloc _).grown_below (hb.alloc hb.size _) hgrow (Nat.le_refl _) (by simp; omega)⟩
        rw [HS.out, HF.out]; exact hown'
      case measure => simp [intOf]; omega
    · have hkl : k = L.length := by omega
      subst hkl
      go_wp2
      go_ret
      exact ⟨_, rfl, by rw [hU.out]; exact hown.mono h0.size, h0.trans (hb.mono h0.size)⟩
theorem limited_any (v : Value) (M : List (Int × Int × Int)) (a : Nat → Addr) (w : World) (hM : ltK M) (h : SlAt eKy w w.heap.size v M) (hs : Sent w a) :
    Calls Tryd.prog 49 #[v] w fun r w' => r = .returned (.tuple #[(if okT M then v else .slice none 0 0), errV a (if okT M then 0 else 3)]) ∧ Below w.heap.size w w' := by
  have cO := implValidTrack_any v M w hM h
  obtain ⟨A, c, rfl⟩ := h.form
  clear h
  cases ho : okT M with
  | true =>
    rw [ho] at cO
    rw [if_pos rfl, if_pos rfl, errV0]
    clear hs ho
    go_enter Tryd.func49, Tryd.ntmps49
    go_wp2_with (go_at_call 46; refine cO.mono ?_; rintro r w' ⟨rfl, hb⟩; clear cO)
    go_ret2
    exact ⟨rfl, hb⟩
  | false =>
    rw [ho] at cO
    rw [if_neg (by decide), if_neg (by decide), errV3]
    clear ho
    go_enter Tryd.func49, Tryd.ntmps49
    go_wp2_with (go_at_call 46; refine cO.mono ?_; rintro r w' ⟨rfl, hb⟩; have q2 := (hs.below hb).var2; clear cO hs)
    go_region
    go_wp2
    go_ret2
    exact ⟨rfl, hb.drew⟩
end Go.Proofs.YtkcomhbmhgnhhaaDoor
