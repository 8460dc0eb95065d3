/- slices.Grow, slices.Concat of tracks. -/
import Derived.Test.YtkcomhbmhgnhhaaDoorRows
import Derived.Test.YtkcomhbmhgnhhaaDoorShift
import Derived.Test.YtkcomhbmhgnhhaaDoorConcatG
namespace Go.Proofs.YtkcomhbmhgnhhaaDoor
set_option maxRecDepth 100000
open Go.RowKit
set_option linter.unusedVariables false
set_option linter.unusedSimpArgs false
set_option maxHeartbeats 400000 in
theorem slGrowK_any (n : Nat) (w : World) (hn : n ≤ 1000) :
    Calls Tryd.prog 67 #[.slice none 0 0, .int .i64 n] w (GivesV eKy 50 [] w) := by
  obtain ⟨i0, hi, hz0, hz1, hz2⟩ := info_parts infoKyL
  rcases Nat.eq_zero_or_pos n with rfl | hp
  · clear hi hz0 hz1 hz2
    go_enter Tryd.func67, Tryd.ntmps67
    go_wp2
    go_ret
    exact ⟨_, rfl, OwnL.nil_ _ _ _, Below.refl _ _⟩
  · have hz1' : i0.size = 3 := hz1
    have hr := Lib.run_append_nil_zeros (P := Tryd.prog) w 25 3 25 50 i0 _ .i64 .i64 Tryd.underlying25 Tryd.underlying3 hi hz0 n hp (by omega) (by omega) (by rw [hz2]; omega)
    have hc1 := grownCap_ge w n 0 50
    have hc2 := grownCap_le_maxLen w n 0 50 (by unfold maxLen; omega)
    generalize grownCap w n 0 50 = cap at *
    have hsz : (Builtin.zeroCells (Value.agg (KC zeroK)).cells n ++ Builtin.zeroCells (Value.agg (KC zeroK)).cells (cap - n)).size = cap * eKy.n := by
      rw [Array.size_append, zeroCells_size, zeroCells_size, ← Nat.add_mul, show n + (cap - n) = cap by omega]; rfl
    have hown := World.ownsRow_made (base := w.heap.size) (e := 50) (size := eKy.n) w.drew _ cap (Nat.le_refl _) hc2 hsz
    have hb := (below_drewN (Below.refl w.heap.size w) 1).alloc (Nat.le_refl _) (.cells (Builtin.zeroCells (Value.agg (KC zeroK)).cells n ++ Builtin.zeroCells (Value.agg (KC zeroK)).cells (cap - n)) 50)
    have q1 := run_slice_to (P := Tryd.prog) Tryd.underlying25 hi w.heap.size n cap 0 .i64 (Nat.zero_le _)
    have q0 := run_slice_0 (P := Tryd.prog) Tryd.underlying25 hi
    generalize (Builtin.zeroCells (Value.agg (KC zeroK)).cells n ++ Builtin.zeroCells (Value.agg (KC zeroK)).cells (cap - n)) = zs at *
    have HW := Lib.hid hown
    clear hsz hown hi hz0 hz1 hz1' hz2
    go_enter Tryd.func67, Tryd.ntmps67
    go_wp2_with (refine Lib.wpList_append_run _ rfl _ _ _ _ rfl _ _ rfl rfl _ _ hr ?_)
    go_ret
    exact ⟨_, rfl, HW.out, hb⟩
set_option maxHeartbeats 1000000 in
theorem concatK_any (b : Nat) (us : List Value) (Ls : List (List (Int × Int × Int))) (w : World) (hlen : us.length = Ls.length) (hrow : Row w b 25 us.toArray)
    (hs : ∀ (i : Nat) (u : Value) (L : List (Int × Int × Int)), us[i]? = some u → Ls[i]? = some L → SlAt eKy w w.heap.size u L) (htot : Ls.flatten.length ≤ 1000) (hn : us.length ≤ 10) :
    Calls Tryd.prog 50 #[.slice (some ⟨b, 0, none⟩) us.length us.length] w (GivesV eKy 50 Ls.flatten w) := by
  have hbl := Row.lt hrow
  have HR := Lib.hid hrow
  have HS := Lib.hid hs
  have HT := Lib.hid htot
  have get : ∀ k, k < us.length → ∃ A c L, us[k]? = some (.slice A L.length c) ∧ Ls[k]? = some L := fun k hk => by
    have h1 : us[k]? = some us[k] := List.getElem?_eq_getElem hk
    have h2 : Ls[k]? = some (Ls[k]'(by omega)) := List.getElem?_eq_getElem _
    obtain ⟨A, c, he⟩ := (HS.out k _ _ h1 h2).form
    exact ⟨A, c, _, by rw [h1, he], h2⟩
  have G := Lib.hid get
  have HLn := Lib.hid hlen
  clear hrow hs htot get hlen
  go_enter Tryd.func50, Tryd.ntmps50
  go_wp2
  go_loop [3, 11] (fun s i => ∃ k : Nat, k ≤ us.length ∧ i = .int .i64 k ∧ s = .int .i64 ((Ls.take k).flatten.length : Nat)) (fun _ i => us.length - (intOf i).toNat)
  case atStart => exact ⟨0, by omega, rfl, rfl⟩
  case round =>
    obtain ⟨k, hk, rfl, rfl⟩ := hrel
    have hle := flat_take_le Ls k
    have hT := HT.out
    by_cases hlt : k < us.length
    · obtain ⟨A, c, L, hu, hL⟩ := G.out k hlt
      have hft := flat_take Ls hL
      have hle2 := flat_take_le Ls (k + 1)
      have hl2 : (Ls.take (k + 1)).flatten.length = (Ls.take k).flatten.length + L.length := by rw [hft, List.length_append]
      have c0 : w.cell? ⟨b, k, none⟩ = some (.slice A L.length c) := by rw [Row.cell HR.out]; simpa using hu
      have HL2 := Lib.hid hl2
      have hs1 : (Ls.take k).flatten.length + L.length ≤ 1000 := by omega
      generalize (Ls.take k).flatten.length = m at *
      clear hu hL hft hle2 hl2 hle hT
      go_wp2
      go_round
      case rel =>
        go_light
        exact ⟨k + 1, by omega, by go_num, by rw [HL2.out]; go_num⟩
      case measure => simp [intOf]; omega
    · have hku : k = us.length := by omega
      subst hku
      have hm : (Ls.take us.length).flatten.length ≤ 1000 := by omega
      generalize (Ls.take us.length).flatten.length = m at *
      clear hle hT
      go_wp2_with (go_at_call 67; refine (slGrowK_any m w hm).mono ?_; rintro e w1 ⟨v', rfl, hown, hb1⟩)
      go_loopw [6, 27] (fun u i wr => ∃ k : Nat, k ≤ us.length ∧ i = .int .i64 k ∧ OwnL eKy wr w.heap.size 50 u (Ls.take k).flatten ∧ Below w.heap.size w wr) (fun _ i _ => us.length - (intOf i).toNat)
      case atStart => exact ⟨0, by omega, rfl, hown, hb1⟩
      case round =>
        clear hown hb1
        obtain ⟨k, hk, rfl, hown, hb⟩ := hrel
        by_cases hlt : k < us.length
        · obtain ⟨A, c, L, hu, hL⟩ := G.out k hlt
          have hft := flat_take Ls hL
          have hle2 := flat_take_le Ls (k + 1)
          have hl2 : (Ls.take (k + 1)).flatten.length = (Ls.take k).flatten.length + L.length := by rw [hft, List.length_append]
          have hT := HT.out
          have hs1 : (Ls.take k).flatten.length + L.length ≤ 1000000000 := by omega
          have c0 : wr.cell? ⟨b, k, none⟩ = some (.slice A L.length c) := by rw [Row.cell (Row.below HR.out hb hbl)]; simpa using hu
          have s0 := ((HS.out k _ _ hu hL).below hb)
          have HF := Lib.hid hft
          clear hu hL hft hle2 hl2 hT
          go_wp2_with (at_builtin; refine wpList_append_sl rfl _ _ 25 rfl w.heap.size 50 Tryd.underlying25 infoKyL rfl (by decide) (by omega) hown rfl rfl s0 hs1 hb.size ?_; intro v2 w4 hown' hgrow)
          go_roundw
          case rel =>
            go_light
            exact ⟨k + 1, by omega, by go_num, by rw [HF.out]; exact hown', hown.grown_below hb hgrow (Nat.le_refl _) hb.size⟩
          case measure => simp [intOf]; omega
        · have hku2 : k = us.length := by omega
          subst hku2
          go_wp2
          go_ret
          refine ⟨_, rfl, ?_, hb⟩
          rw [List.take_of_length_le (by rw [HLn.out]; exact Nat.le_refl _)] at hown
          exact hown
end Go.Proofs.YtkcomhbmhgnhhaaDoor
