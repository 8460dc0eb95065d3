/- BackBook: spec and impl; listBy of frames. -/
import Derived.Test.YthkpefdjhdemeabRows
import Derived.Test.YthkpefdjhdemeabIJumps
namespace Go.Proofs.Ythkpefdjhdemeab
set_option maxRecDepth 100000
open Go.RowKit
set_option linter.unusedVariables false
set_option linter.unusedSimpArgs false
theorem infoFrL : (Try.prog.info? 54).map (fun i => (i.zero, i.size, i.bytes)) = some (some (.agg (FC zeroF)), eFr.n, 24) := by kernel_rfl
theorem run_build_frs (w : World) (f : Nat → Nat) : (Instr.buildSlice 26 1 #[(0, .agg (FC f))]).run Try.prog w = .ok (.slice (some ⟨w.heap.size, 0, none⟩) 1 1) (w.alloc (.cells (FC f) 54)) := by kernel_rfl
theorem run_build_frsL (w : World) (f : Nat → Nat) : (Instr.buildSlice 25 1 #[(0, .agg (FC f))]).run Try.prog w = .ok (.slice (some ⟨w.heap.size, 0, none⟩) 1 1) (w.alloc (.cells (FC f) 54)) := by kernel_rfl
def backL (L : List (Nat → Nat)) : List (Nat → Nat) := tab (fun i => fAt L (L.length - 1 - i)) L.length
theorem backL_length (L : List (Nat → Nat)) : (backL L).length = L.length := tab_length _ _
theorem ifB_len (c : Int) {M : List (Nat → Nat)} (h : M.length ≤ 40) : (ifL c M).length ≤ 1000 := by have := ifL_length_le c M; omega
set_option maxHeartbeats 1000000 in
theorem l02Back_any (v : Value) (L : List (Nat → Nat)) (w : World) (hlen : L.length ≤ 40) (h : SlAt eFr w w.heap.size v L) :
    Calls Try.prog 71 #[v] w (GivesV eFr 54 (backL L) w) := by
  obtain ⟨A, c, rfl, h1, h2, hA⟩ := h
  unfold maxLen at h2
  have hown := OwnL.made (E := eFr) w w.heap.size 54 (Nat.le_refl _)
  have h0 := (Below.refl w.heap.size w).alloc (Nat.le_refl _) (.cells #[] 54)
  have k0 : IntKind.i64.wrap ((L.length : Int) - 1) = (L.length : Int) - 1 := IntWalk.i64_in _ (by omega)
  go_enter Try.func71, Try.ntmps71
  go_wp2
  clear k0
  go_loopw [3, 4] (fun u i wr => ∃ k : Nat, k ≤ L.length ∧ i = .int .i64 ((L.length : Int) - 1 - (k : Int)) ∧ OwnL eFr wr w.heap.size 54 u (tab (fun i => fAt L (L.length - 1 - i)) k) ∧ Below w.heap.size w wr) (fun _ i _ => (intOf i + 1).toNat)
  case atStart => exact ⟨0, by omega, by simp, hown, h0⟩
  case round =>
    clear hown h0
    obtain ⟨k, hk, rfl, hown, hb⟩ := hrel
    by_cases hlt : k < L.length
    · obtain ⟨b1, o1, rfl, hb1, r1⟩ := hA (by omega)
      have g1 := range_below (range_part r1 (fAt_get (show L.length - 1 - k < L.length by omega))) hb hb1
      rw [eFr_n] at g1
      have hq : (L.length : Int) - 1 - (k : Int) = ((L.length - 1 - k : Nat) : Int) := by omega
      have hlt2 : L.length - 1 - k < L.length := by omega
      have k1 : IntKind.i64.wrap (((L.length - 1 - k : Nat) : Int) - 1) = ((L.length - 1 - k : Nat) : Int) - 1 := IntWalk.i64_in _ (by omega)
      rw [hq]
      have HQ := Lib.hid hq
      clear hA r1 hq
      generalize hp : L.length - 1 - k = p at *
      have HP := Lib.hid hp
      clear hp
      go_wp2_with (first | (refine wpList_load_at rfl 54 52 _ rfl _ _ rfl g1 Try.underlying54 (by kernel_rfl) ?_) | (refine wpList_build1 (v := .agg (FC (fAt L p))) (cs := FC (fAt L p)) rfl 26 54 _ rfl rfl (fun w => run_build_frs w (fAt L p)) ?_) | (at_builtin; refine wpList_append_one rfl _ _ 26 rfl w.heap.size 54 Try.underlying26 infoFrL rfl (by decide) (by omega) (hown.alloc (.cells (FC (fAt L p)) 54)) rfl (fAt L p) rfl (range_new _ _ (FC (fAt L p))) (by rw [tab_length]; omega) (by have := hb.size; simp; omega) ?_; intro v' w4 hown' hgrow))
      go_roundw
      case rel =>
        go_light
        refine ⟨k + 1, by omega, ?_, ?_, (hown.alloc _).grown_below (hb.alloc hb.size _) hgrow (Nat.le_refl _) (by have := hb.size; simp; omega)⟩
        · rw [← HQ.out]; congr 1; omega
        · rw [tab_succ, HP.out]; exact hown'
      case measure => simp [intOf]
    · have hkl : k = L.length := by omega
      subst hkl
      have hq : (L.length : Int) - 1 - (L.length : Int) = -1 := by omega
      rw [hq]
      clear hA hq
      go_wp2
      go_ret
      exact ⟨_, rfl, hown, hb⟩
set_option maxHeartbeats 400000 in
theorem specBackBook_any (v : Value) (L : List (Nat → Nat)) (w : World) (h : SlAt eFr w w.heap.size v L) :
    Calls Try.prog 34 #[v] w (GivesL eFr 54 (ifL (okBC L) (backL L)) (okBC L) w) := by
  have cO := specOk_any v L w h
  obtain ⟨A, c, rfl⟩ := h.form
  rcases okBC_cases L with ⟨ho, hc⟩ | ⟨ho, hc⟩
  · rw [ho] at cO
    rw [hc, ifL1 _ (by decide)]
    have hm := OwnL.made (E := eFr) w w.heap.size 54 (Nat.le_refl _)
    have h0 := (Below.refl w.heap.size w).alloc (Nat.le_refl _) (.cells #[] 54)
    clear ho hc h
    go_enter Try.func34, Try.ntmps34
    go_wp2_with (go_at_call 57; refine cO.mono ?_; rintro e w' ⟨rfl, rfl⟩)
    go_ret2
    exact ⟨_, rfl, hm, h0⟩
  · rw [ho] at cO
    rw [hc, ifL0]
    have hlen := okB_len ho
    clear hc
    go_enter Try.func34, Try.ntmps34
    go_wp2_with (first | (go_at_call 57; refine cO.mono ?_; rintro e w' ⟨rfl, rfl⟩) | (go_at_call 71; refine (l02Back_any _ L _ hlen h).mono ?_; rintro e w1 ⟨v', rfl, hown, hb⟩))
    go_ret2
    exact ⟨_, rfl, hown, hb⟩
theorem fromLast_any (v : Value) (L : List (Nat → Nat)) (i : Nat) (w : World) (hlen : L.length ≤ 40) (hi : i < L.length) (h : SlAt eFr w w.heap.size v L) :
    Calls Try.prog 73 #[v, .int .i64 i] w fun e w' => e = .returned (.agg (FC (fAt L (L.length - 1 - i)))) ∧ Below w.heap.size w w' := by
  obtain ⟨A, c, rfl, h1, h2, hA⟩ := h
  obtain ⟨b1, o1, rfl, hb1, r1⟩ := hA (by omega)
  have h0 := (Below.refl w.heap.size w).alloc (Nat.le_refl _) (.cells (FC zeroF) 54)
  have g1 := range_below (range_part r1 (fAt_get (show L.length - 1 - i < L.length by omega))) h0 hb1
  have b2 := Blk.new w 54 zeroF
  rw [eFr_n] at g1
  rw [FC_zero] at g1 b2 h0
  have hlt2 : L.length - 1 - i < L.length := by omega
  have k0 : IntKind.i64.wrap ((L.length : Int) - 1) = (L.length : Int) - 1 := IntWalk.i64_in _ (by omega)
  have k1 : IntKind.i64.wrap ((L.length : Int) - 1 - (i : Int)) = ((L.length - 1 - i : Nat) : Int) := by rw [IntWalk.i64_in _ (by omega)]; omega
  generalize L.length - 1 - i = p at *
  clear hA r1
  go_enter Try.func73, Try.ntmps73
  go_wp2_with (first | (refine wpList_load_at rfl 54 52 _ rfl _ _ rfl g1 Try.underlying54 (by kernel_rfl) ?_) | (refine wpList_store_fr rfl 54 _ _ rfl _ rfl b2 rfl (by kernel_rfl) ?_))
  exact bodyPost_ret_fr (p := 4) (ty := 54) (e := 52) rfl rfl (b2.setRow _) Try.underlying54 (by kernel_rfl) rfl ⟨rfl, below_setRow h0 (Nat.le_refl _) _⟩
theorem callFromLast (v : Value) (x : Int) (w : World) : (callFunc 73 #[v, .int .i64 x]).run Try.prog w = .ok (.enter 73 #[v, .int .i64 x]) w := by kernel_rfl
set_option maxHeartbeats 400000 in
theorem listBy_fr (n : Int) (fid : FuncId) (v : Value) (F : Nat → (Nat → Nat)) (w : World) (hn1 : -1 ≤ n) (hn2 : n ≤ 1000000)
    (hcall : ∀ x w, (callFunc fid #[v, .int .i64 x]).run Try.prog w = .ok (.enter fid #[v, .int .i64 x]) w)
    (hbody : ∀ i : Nat, (i : Int) < n → ∀ w1, Below w.heap.size w w1 → Calls Try.prog fid #[v, .int .i64 i] w1 fun e w2 => e = .returned (.agg (FC (F i))) ∧ Below w1.heap.size w1 w2) :
    Calls Try.prog 72 #[.int .i64 n, .func (.func fid) #[v] #[]] w (GivesV eFr 54 (tab F n.toNat) w) := by
  have hown := OwnL.nil_ (E := eFr) w w.heap.size 54
  have HB := Lib.hid hbody
  clear hbody
  go_enter Try.func72, Try.ntmps72
  go_wp2
  go_loopw [5, 8] (fun u i wr => ∃ k : Nat, k ≤ n.toNat ∧ i = .int .i64 k ∧ OwnL eFr wr w.heap.size 54 u (tab F k) ∧ Below w.heap.size w wr) (fun _ i _ => n.toNat - (intOf i).toNat)
  case atStart => exact ⟨0, by omega, rfl, hown, Below.refl _ _⟩
  case round =>
    clear hown
    obtain ⟨k, hk, rfl, hown, hb⟩ := hrel
    by_cases hlt : (k : Int) < n
    · go_wp2_with fail
      refine (HB.out k hlt wr hb).mono ?_
      rintro e w3 ⟨rfl, hb3⟩
      replace hb := grown_below hb hb3 hb.size
      replace hown := hown.below hb3
      clear hb3
      go_wp2_with (first | (refine wpList_build1 (v := .agg (FC (F k))) (cs := FC (F k)) rfl 25 54 _ rfl rfl (fun w => run_build_frsL w (F k)) ?_) | (at_builtin; refine wpList_append_one rfl _ _ 25 rfl w.heap.size 54 Try.underlying25 infoFrL rfl (by decide) (by omega) (hown.alloc (.cells (FC (F k)) 54)) rfl (F k) rfl (range_new _ _ (FC (F k))) (by rw [tab_length]; omega) (by have := hb.size; simp; omega) ?_; intro v' w4 hown' hgrow))
      go_roundw
      case rel =>
        go_light
        refine ⟨k + 1, by omega, by go_num, ?_, (hown.alloc _).grown_below (hb.alloc hb.size _) hgrow (Nat.le_refl _) (by have := hb.size; simp; omega)⟩
        rw [tab_succ]; exact hown'
      case measure => simp [intOf]; omega
    · have hkn : k = n.toNat := by omega
      subst hkn
      go_wp2
      go_ret
      exact ⟨_, rfl, hown, hb⟩
set_option maxHeartbeats 400000 in
theorem implBackBook_any (v : Value) (L : List (Nat → Nat)) (w : World) (hL : ltL L) (h : SlAt eFr w w.heap.size v L) :
    Calls Try.prog 35 #[v] w (GivesL eFr 54 (ifL (okBC L) (backL L)) (okBC L) w) := by
  have cV := implValidBook_any v L w hL h
  rcases okBC_cases L with ⟨ho, hc⟩ | ⟨ho, hc⟩
  · rw [ho] at cV
    rw [hc, ifL1 _ (by decide)]
    obtain ⟨A, c, rfl⟩ := h.form
    clear ho hc h
    go_enter Try.func35, Try.ntmps35
    go_wp2_with (go_at_call 18; refine cV.mono ?_; rintro e w1 ⟨rfl, hb1⟩)
    go_ret2
    exact ⟨_, rfl, OwnL.nil_ _ _ _, hb1⟩
  · rw [ho] at cV
    rw [hc, ifL0]
    have hlen := okB_len ho
    have cJ := fun (w1 : World) (hb1 : Below w.heap.size w w1) => listBy_fr (L.length : Int) 73 v (fun i => fAt L (L.length - 1 - i)) w1 (by omega) (by omega) (callFromLast v) (fun i hi w2 hb2 => fromLast_any v L i w2 hlen (by omega) ((h.later hb1).later hb2))
    rw [Int.toNat_natCast] at cJ
    have CJ := Lib.hid cJ
    obtain ⟨A, c, rfl⟩ := h.form
    clear ho hc h cJ
    go_enter Try.func35, Try.ntmps35
    go_wp2_with (first | (go_at_call 18; refine cV.mono ?_; rintro e w1 ⟨rfl, hb1⟩) | (go_at_call 72; refine (CJ.out _ hb1).mono ?_; rintro e w2 ⟨u, rfl, hown, hb2⟩))
    go_ret2
    exact ⟨_, rfl, hown.mono hb1.size, hb1.trans (hb2.mono hb1.size)⟩
end Go.Proofs.Ythkpefdjhdemeab
