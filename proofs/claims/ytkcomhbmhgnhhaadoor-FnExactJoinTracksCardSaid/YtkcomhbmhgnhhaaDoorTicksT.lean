/- spec: SameTrack, TicksOf; impl: last, TicksOf. -/
import Derived.Test.YtkcomhbmhgnhhaaDoorITrack
import Derived.Test.YtkcomhbmhgnhhaaDoorPlaceM
import Derived.Test.YtkcomhbmhgnhhaaDoorQuiet2
namespace Go.Proofs.YtkcomhbmhgnhhaaDoor
set_option maxRecDepth 100000
open Go.RowKit
set_option linter.unusedVariables false
set_option linter.unusedSimpArgs false
def tkA (L : List (Int × Int × Int)) : Int := ifI (okTC L) (kAt L 0).1
def tkB (L : List (Int × Int × Int)) : Int := ifI (okTC L) (kAt L (L.length - 1)).1
set_option maxHeartbeats 1000000 in
theorem last_any (v : Value) (L : List (Int × Int × Int)) (w : World) (h0 : 0 < L.length) (hl : L.length ≤ 1000000) (h : SlAt eKy w w.heap.size v L) :
    Calls Tryd.prog 48 #[v] w fun r w' => r = .returned (.agg (KC (kAt L (L.length - 1)))) ∧ Below w.heap.size w w' := by
  obtain ⟨A, c, rfl, h1, h2, hA⟩ := h
  obtain ⟨b1, o1, rfl, hb1, r1⟩ := hA h0
  have g1 := range_part r1 (kAt_get (i := L.length - 1) (by omega))
  rw [eKy_n] at g1
  obtain ⟨m, hm⟩ : ∃ m, L.length = m + 1 := ⟨L.length - 1, by omega⟩
  have hm1 : m ≤ 1000000 := by omega
  rw [hm, Nat.add_sub_cancel] at g1 ⊢
  clear hA r1 h1 h2 h0 hl hm
  generalize kAt L m = k at *
  obtain ⟨t, x, y⟩ := k
  have hb := (Below.refl w.heap.size w).alloc (Nat.le_refl _) (.cells (KC (t, x, y)) 50)
  go_enter Tryd.func48, Tryd.ntmps48
  go_wp2_with (refine wpList_load_el (E := eKy) rfl 50 _ rfl _ _ rfl (t, x, y) #[.int .i16 t, .int .i8 x, .int .i8 y] rfl (range_below g1 ((Below.refl w.heap.size w).alloc (Nat.le_refl _) (.cells #[.int .i16 0, .int .i8 0, .int .i8 0] 50)) hb1) Tryd.underlying50 rfl (by kernel_rfl) ?_)
  refine bodyPost_ret_row (p := 2) (ty := 50) (cs := KC (t, x, y)) rfl rfl (Row.new w 50 (KC (t, x, y))) Tryd.underlying50 rfl (by kernel_rfl) rfl ⟨rfl, hb⟩
end Go.Proofs.YtkcomhbmhgnhhaaDoor
