import Derived.Test.YtpmlepgnokbpaaaM18
import Derived.Test.YtpmlepgnokbpaaaM19
import Derived.Test.YtpmlepgnokbpaaaM3
import Derived.Test.YtpmlepgnokbpaaaM2
import Derived.Test.YtpmlepgnokbpaaaRows
import Derived.Test.YtpmlepgnokbpaaaM5
import Derived.Test.YtpmlepgnokbpaaaM7
import Derived.Test.YtpmlepgnokbpaaaM8
import Derived.Test.YtpmlepgnokbpaaaM10
import Derived.Test.YtpmlepgnokbpaaaM9
/- impl: Scene.laidBefore, Scene.flat, FlattenScene, ShowScene. -/
namespace Go.Proofs.Ytpmlepgnokbpaaa
set_option maxRecDepth 100000
open Go.RowKit
set_option linter.unusedVariables false
set_option linter.unusedSimpArgs false
structure Ld where
  i : Nat → Nat
  k : Nat → Nat
  n : Int
def zeroLd : Ld := ⟨zeroF, zeroF, 0⟩
instance : Inhabited Ld := ⟨zeroLd⟩
def DC (d : Ld) : Array Value := #[.int .u16 (d.i 0), .int .u16 (d.i 1), .int .u16 (d.i 2), .int .u16 (d.i 3), .int .u16 (d.i 4), .int .u16 (d.i 5), .int .u16 (d.i 6), .int .u16 (d.i 7), .int .u16 (d.i 8), .int .u16 (d.i 9), .int .u16 (d.i 10), .int .u16 (d.i 11), .int .u16 (d.k 0), .int .u16 (d.k 1), .int .u16 (d.k 2), .int .u16 (d.k 3), .int .u16 (d.k 4), .int .u16 (d.k 5), .int .u16 (d.k 6), .int .u16 (d.k 7), .int .u16 (d.k 8), .int .u16 (d.k 9), .int .u16 (d.k 10), .int .u16 (d.k 11), .int .i64 d.n]
theorem DC_list (d : Ld) : (DC d).toList = (CC d.i d.k).toList ++ [.int .i64 d.n] := rfl
theorem DC_one (d : Ld) : ∀ v ∈ (DC d).toList, v.oneCell' = true := by
  intro v hv
  rw [DC_list, List.mem_append] at hv
  rcases hv with h | h
  · exact CC_one _ _ v h
  · simp at h; subst h; rfl
def eLd : Enc Ld := ⟨fun d => (DC d).toList, 25, fun _ => rfl, fun d => DC_one d⟩
theorem eLd_n : eLd.n = 25 := rfl
theorem DC_zero : DC zeroLd = #[.int .u16 0, .int .u16 0, .int .u16 0, .int .u16 0, .int .u16 0, .int .u16 0, .int .u16 0, .int .u16 0, .int .u16 0, .int .u16 0, .int .u16 0, .int .u16 0, .int .u16 0, .int .u16 0, .int .u16 0, .int .u16 0, .int .u16 0, .int .u16 0, .int .u16 0, .int .u16 0, .int .u16 0, .int .u16 0, .int .u16 0, .int .u16 0, .int .i64 0] := rfl
theorem infoLd : (Try.prog.info? 138).map (fun i => (i.zero, i.size, i.bytes)) = some (some (.agg (DC zeroLd)), 25, 56) := by kernel_rfl
theorem build_ld (i k : Nat → Nat) (n : Int) (w : World) : (Instr.build 138 #[(0, .agg (CC i k)), (1, .int .i64 n)]).run Try.prog w = .ok (.agg (DC ⟨i, k, n⟩)) w := by kernel_rfl
theorem run_build_ld1 (d : Ld) (w : World) : (Instr.buildSlice 135 1 #[(0, .agg (DC d))]).run Try.prog w = .ok (.slice (some ⟨w.heap.size, 0, none⟩) 1 1) (w.alloc (.cells (DC d) 138)) := by kernel_rfl
theorem ld_cel {w : World} {b o : Nat} {d : Ld} (h : w.rangeAt b o (eLd.c d)) : CelIn w b o d.i d.k := celIn_range (fun j v hv => h j v (by
      show (DC d).toList[j]? = some v
      rw [DC_list, List.getElem?_append_left ((List.getElem?_eq_some_iff.1 hv).1)]; exact hv))
theorem wrote_setRow (w : World) (g : Nat) (cs : Array Value) : Wrote g w (w.setRow g cs) := ⟨rfl, rfl, rfl, by simp [World.setRow], fun k _ hn => setRow_other w g k cs hn⟩
set_option maxHeartbeats 1000000 in
theorem listByC_ld (n : Int) (fid : FuncId) (c1 c2 : Value) (F : Nat → Ld) (w : World) (hn1 : -1 ≤ n) (hn2 : n ≤ 1000000)
    (hcall : ∀ x w, (callFunc fid #[.int .i64 x, c1, c2]).run Try.prog w = .ok (.enter fid #[.int .i64 x, c1, c2]) w)
    (hbody : ∀ i : Nat, (i : Int) < n → ∀ w1, Below w.heap.size w w1 → Calls Try.prog fid #[.int .i64 i, c1, c2] w1 fun e w2 => e = .returned (.agg (DC (F i))) ∧ Below w1.heap.size w1 w2) :
    Calls Try.prog 116 #[.int .i64 n, .func (.func fid) #[] #[c1, c2]] w (GivesV eLd 138 (tab F n.toNat) w) := by
  have hown := OwnL.nil_ (E := eLd) w w.heap.size 138
  have HB := Lib.hid hbody
  clear hbody
  go_enter Try.func116, Try.ntmps116
  go_wp2
  go_loopw [5, 8] (fun u i wr => ∃ k : Nat, k ≤ n.toNat ∧ i = .int .i64 k ∧ OwnL eLd wr w.heap.size 138 u (tab F k) ∧ Below w.heap.size w wr) (fun _ i _ => n.toNat - (intOf i).toNat)
  case atStart => exact ⟨0, by omega, rfl, hown, Below.refl _ _⟩
  case round =>
    clear hown
    obtain ⟨k, hk, rfl, hown, hb⟩ := hrel
    by_cases hlt : (k : Int) < n
    · go_wp2_with fail
      refine (HB.out k hlt wr hb).mono ?_
      rintro e w3 ⟨rfl, hb3⟩
      replace hb := grown_below hb hb3 hb.size
      replace hown := hown.below hb3
      clear hb3
      go_wp2_with (first | (refine wpList_build1 (v := .agg (DC (F k))) (cs := DC (F k)) rfl 135 138 _ rfl rfl (fun w => run_build_ld1 (F k) w) ?_) | (at_builtin; refine wpList_append_one rfl _ _ 135 rfl w.heap.size 138 Try.underlying135 infoLd rfl (by decide) (by omega) (hown.alloc (.cells (DC (F k)) 138)) rfl (F k) rfl (range_new _ _ (DC (F k))) (by rw [tab_length]; omega) (by have := hb.size; simp; omega) ?_; intro v' w4 hown' hgrow))
      go_roundw
      case rel =>
        go_light
        refine ⟨k + 1, by omega, by go_num, ?_, (hown.alloc _).grown_below (hb.alloc hb.size _) hgrow (Nat.le_refl _) (by have := hb.size; simp; omega)⟩
        rw [tab_succ]; exact hown'
      case measure => simp [intOf]; omega
    · have hkn : k = n.toNat := by omega
      subst hkn
      go_wp2
      go_ret
      exact ⟨_, rfl, hown, hb⟩
/-- The layer at an index, as it lies before a camera. -/
def ldAt (L : List Ly) (x y : Int) (i : Nat) : Ld := ⟨movedI (lAt L i).i (offE (lAt L i) x) (offS (lAt L i) y) 12, movedI (lAt L i).k (offE (lAt L i) x) (offS (lAt L i) y) 12, (i : Int)⟩
set_option maxHeartbeats 1000000 in
theorem laidFn_any (L : List Ly) (x y : Int) (i : Nat) (hi : i < L.length) (gs gc b1 o1 c : Nat) (w : World) (hL : ltLy L) (ho : okS L = true) (cx : -100 ≤ x ∧ x ≤ 100) (cy : -100 ≤ y ∧ y ≤ 100) (hc : L.length ≤ c) (hm : c ≤ maxLen)
    (hs : w.cell? ⟨gs, 0, none⟩ = some (.slice (some ⟨b1, o1, none⟩) L.length c)) (hr : Row w gc 108 (CM x y)) (hA : w.rangeAt b1 o1 (eLy.cells L)) (lb : b1 < w.heap.size) :
    Calls Try.prog 117 #[.int .i64 i, .pointer (some ⟨gs, 0, none⟩), .pointer (some ⟨gc, 0, none⟩)] w fun e w' => e = .returned (.agg (DC (ldAt L x y i))) ∧ Below w.heap.size w w' := by
  unfold maxLen at hm
  have g1 := range_part hA (lAt_get hi)
  rw [eLy_n] at g1
  have ol := (okS_iff.1 ho).2 i hi
  have ll := lAt_lt hL i
  obtain ⟨oi, ok⟩ := okc_true (okl_true ol).1
  have be := offE_bounds ol cx.1 cx.2
  have bs := offS_bounds ol cy.1 cy.2
  have cO := fun w' => implOffset_any (lAt L i) x y ll ol cx cy w'
  have cM := fun w' => implCelMoved_any (lAt L i).i (lAt L i).k (offE (lAt L i) x) (offS (lAt L i) y) oi ok be.1 be.2 bs.1 bs.2 w'
  have hbl := build_ld (movedI (lAt L i).i (offE (lAt L i) x) (offS (lAt L i) y) 12) (movedI (lAt L i).k (offE (lAt L i) x) (offS (lAt L i) y) 12) i
  unfold ldAt
  generalize movedI (lAt L i).i (offE (lAt L i) x) (offS (lAt L i) y) 12 = mi at *
  generalize movedI (lAt L i).k (offE (lAt L i) x) (offS (lAt L i) y) 12 = mk at *
  have r := Row.new w 138 (DC zeroLd)
  have h0 := (Below.refl w.heap.size w).alloc (Nat.le_refl _) (.cells (DC zeroLd) 138)
  have lgs := World.block_lt_of_cell? w _ hs
  replace hs := (World.cell?_of_block (w := w) (h0.block gs lgs)).trans hs
  replace hr := hr.below h0 hr.lt
  replace g1 := range_below g1 h0 lb
  replace lb := Nat.lt_of_lt_of_le lb h0.size
  replace lgs := Nat.lt_of_lt_of_le lgs h0.size
  rw [DC_zero] at h0 hs hr g1 lb lgs
  have r' := r
  rw [show w.alloc (.cells (DC zeroLd) 138) = w.alloc (.cells #[.int .u16 0, .int .u16 0, .int .u16 0, .int .u16 0, .int .u16 0, .int .u16 0, .int .u16 0, .int .u16 0, .int .u16 0, .int .u16 0, .int .u16 0, .int .u16 0, .int .u16 0, .int .u16 0, .int .u16 0, .int .u16 0, .int .u16 0, .int .u16 0, .int .u16 0, .int .u16 0, .int .u16 0, .int .u16 0, .int .u16 0, .int .u16 0, .int .i64 0] 138) from rfl] at r'
  clear r hA oi ok be bs ll ol cx cy ho hL
  unfold CM at cO
  go_enter Try.func117, Try.ntmps117
  go_wp2_with fail
  generalize (w.alloc _) = w1 at *
  have c4 : _ = some (Value.int .i64 x) := hr.cell 0
  have c5 : _ = some (Value.int .i64 y) := hr.cell 1
  have d3 := fun dd os => cell_regrown hs dd os
  have d4 := fun dd os => cell_regrown c4 dd os
  have d5 := fun dd os => cell_regrown c5 dd os
  refine wp_region_calm (by kernel_rfl) (by kernel_rfl) ?_
  repeat (first | (refine wpQuiet_load_el (E := eLy) rfl 86 _ rfl _ _ rfl (lAt L i) (LC (lAt L i)) rfl (by with_reducible exact g1) lb Try.underlying86 rfl (by kernel_rfl) ?_) | quiet_step (exact Calls.regrown_of (cO _)))
  refine wpQuiet_nil ?_
  intro w3 hb3
  have s3 := (World.cell?_of_block (w := w1) (hb3.block gs lgs)).trans hs
  have g3 := (layIn (range_below g1 hb3 lb)).cel
  replace r' := Row.below r' hb3 r'.lt
  replace h0 := grown_below h0 hb3 h0.size
  clear c4 c5 d3 d4 d5 hs hr g1 hb3 cO
  go_wp2_with (first
    | (refine wpList_load_celIn rfl 29 _ rfl _ _ rfl (by with_reducible exact g3) Try.underlying29 rfl (by kernel_rfl) ?_)
    | (go_at_call 69; refine (cM _).mono ?_; rintro e w4 ⟨rfl, hb⟩; replace r' := Row.below r' hb r'.lt; replace h0 := grown_below h0 hb h0.size; clear hb)
    | (refine wpList_build2 (u := .agg (CC mi mk)) (v := .int .i64 (i : Int)) rfl 138 0 1 _ _ rfl rfl rfl hbl ?_)
    | (refine wpList_store_row (cs := DC ⟨mi, mk, (i : Int)⟩) rfl 138 _ _ rfl _ rfl r' rfl rfl (DC_one _) (by kernel_rfl) ?_))
  exact bodyPost_ret_row (p := 4) (ty := 138) rfl rfl (Row.setRow r' _) Try.underlying138 rfl (by kernel_rfl) rfl ⟨rfl, below_setRow h0 (Nat.le_refl _) _⟩
theorem laidL_get (L : List Ly) (x y : Int) {k : Nat} (h : k < L.length) : (tab (ldAt L x y) L.length)[k]? = some (ldAt L x y k) := tab_get _ h
set_option maxHeartbeats 1000000 in
theorem laidBefore_any (v : Value) (L : List Ly) (x y : Int) (w : World) (hL : ltLy L) (ho : okS L = true) (cx : -100 ≤ x ∧ x ≤ 100) (cy : -100 ≤ y ∧ y ≤ 100) (h : SlAt eLy w w.heap.size v L) :
    Calls Try.prog 106 #[v, .agg (CM x y)] w (GivesV eLd 138 (tab (ldAt L x y) L.length) w) := by
  have h8 := (okS_iff.1 ho).1
  obtain ⟨A, c, rfl, h1, h2, hA⟩ := h
  have h0 := ((Below.refl w.heap.size w).alloc (Nat.le_refl _) (.cells #[.slice A L.length c] 36)).alloc (by simp) (.cells (CM x y) 108)
  have q1 := (Row.new w 36 #[.slice A L.length c]).alloc (.cells (CM x y) 108)
  have q2 := Row.new (w.alloc (.cells #[.slice A L.length c] 36)) 108 (CM x y)
  rw [World.size_alloc] at q2
  have cB : ∀ w1, Below ((w.alloc (.cells #[.slice A L.length c] 36)).alloc (.cells (CM x y) 108)).heap.size ((w.alloc (.cells #[.slice A L.length c] 36)).alloc (.cells (CM x y) 108)) w1 → ∀ i : Nat, i < L.length →
      Calls Try.prog 117 #[.int .i64 i, .pointer (some ⟨w.heap.size, 0, none⟩), .pointer (some ⟨w.heap.size + 1, 0, none⟩)] w1 fun e w2 => e = .returned (.agg (DC (ldAt L x y i))) ∧ Below w1.heap.size w1 w2 := by
    intro w1 hb i hi
    obtain ⟨b1, o1, rfl, hb1, r1⟩ := hA (by omega)
    exact laidFn_any L x y i hi w.heap.size (w.heap.size + 1) b1 o1 c w1 hL ho cx cy h1 h2 ((Row.below q1 hb q1.lt).cell 0) (Row.below q2 hb q2.lt) (range_below (range_below r1 h0 hb1) hb (Nat.lt_of_lt_of_le hb1 h0.size)) (Nat.lt_of_lt_of_le (Nat.lt_of_lt_of_le hb1 h0.size) hb.size)
  have c1 : _ = some (Value.slice A L.length c) := q1.cell 0
  unfold maxLen at h2
  clear hA hL ho cx cy q1 q2
  unfold CM at *
  go_enter Try.func106, Try.ntmps106
  go_wp2_with fail
  generalize ((w.alloc _).alloc _) = w1 at *
  refine (listByC_ld (L.length : Int) 117 _ _ (ldAt L x y) w1 (by omega) (by omega) (fun _ _ => by kernel_rfl) (fun i hi w2 hb => cB w2 hb i (by omega))).mono ?_
  rintro e w3 ⟨u, rfl, hown, hb3⟩
  go_wp2
  go_ret
  rw [Int.toNat_natCast] at hown
  exact ⟨u, rfl, hown.mono h0.size, grown_below h0 hb3 h0.size⟩
set_option maxHeartbeats 2000000 in
theorem implFlat_any (v : Value) (L : List Ly) (x y : Int) (w : World) (hL : ltLy L) (ho : okS L = true) (cx : -100 ≤ x ∧ x ≤ 100) (cy : -100 ≤ y ∧ y ≤ 100) (h : SlAt eLy w w.heap.size v L) :
    Calls Try.prog 80 #[v, .agg (CM x y)] w fun e w' => e = .returned (.agg (CC (flatI L x y L.length).1 (flatI L x y L.length).2)) ∧ Below w.heap.size w w' := by
  have h8 := (okS_iff.1 ho).1
  have hin := h
  obtain ⟨A, c, rfl, h1, h2, hA⟩ := h
  clear hA
  unfold maxLen at h2
  have q1 := ((Row.new w 108 (CM x y)).alloc (.cells (CC zeroF zeroF) 29)).alloc (.cells (CC zeroF zeroF) 29)
  have a4 := (CelAt.new (w.alloc (.cells (CM x y) 108)) 29 zeroF zeroF).alloc (.cells (CC zeroF zeroF) 29)
  have a5 := CelAt.new ((w.alloc (.cells (CM x y) 108)).alloc (.cells (CC zeroF zeroF) 29)) 29 zeroF zeroF
  rw [World.size_alloc] at a4
  rw [World.size_alloc, World.size_alloc] at a5
  have h0 := (((Below.refl w.heap.size w).alloc (Nat.le_refl _) (.cells (CM x y) 108)).alloc (by simp) (.cells (CC zeroF zeroF) 29)).alloc (by simp; omega) (.cells (CC zeroF zeroF) 29)
  have cL := fun w' (hb : Below w.heap.size w w') => laidBefore_any _ L x y w' hL ho cx cy (hin.later hb)
  have c4 : _ = some (Value.int .i64 x) := q1.cell 0
  have c5 : _ = some (Value.int .i64 y) := q1.cell 1
  clear hin q1
  unfold CM at *
  rw [CC_zero] at a4 a5 h0 c4 c5
  have ib := h0.size
  go_enter Try.func80, Try.ntmps80
  go_wp2_with (go_at_call 106; refine (cL _ h0).mono ?_; rintro e w3 ⟨u, rfl, hown, hb3⟩; replace a4 := a4.below hb3 a4.lt; replace a5 := a5.below hb3 a5.lt; have z5 := a5.lt; replace hown := hown.mono (show w.heap.size + 1 + 1 + 1 ≤ _ by simp); replace h0 := grown_below h0 hb3 h0.size; clear hb3 c4 c5; obtain ⟨B, d, rfl⟩ := hown.val; rw [tab_length] at hown ⊢)
  go_loopw [12] (fun i wr => ∃ k : Nat, k ≤ L.length ∧ i = .int .i64 k ∧ OwnL eLd wr (w.heap.size + 1 + 1 + 1) 138 (.slice B L.length d) (tab (ldAt L x y) L.length) ∧ CelAt wr (w.heap.size + 1) 29 zeroF zeroF ∧ CelAt wr (w.heap.size + 1 + 1) 29 (flatI L x y k).1 (flatI L x y k).2 ∧ Below w.heap.size w wr) (fun i _ => L.length - (intOf i).toNat)
  case atStart => exact ⟨0, by omega, rfl, hown, a4, a5, h0⟩
  case round =>
    clear hown a4 a5 h0
    obtain ⟨k, hk, rfl, hown, a4, a5, hb⟩ := hrel
    by_cases hlt : k < L.length
    · obtain ⟨B', d', he, _, _, hA⟩ := hown.sl (by decide)
      rw [tab_length] at he
      cases he
      obtain ⟨b1, o1, rfl, hb1, r1⟩ := hA (by rw [tab_length]; omega)
      have g1 := range_part r1 (laidL_get L x y hlt)
      rw [eLd_n] at g1
      have ll := lAt_lt hL k
      have fl := flat_lt hL x y k
      have mI := movedI_lt' ll.1 (offE (lAt L k) x) (offS (lAt L k) y)
      have mK := movedI_lt' ll.2.1 (offE (lAt L k) x) (offS (lAt L k) y)
      have cU := fun w' => upon_any (flatI L x y k).1 (flatI L x y k).2 (ldAt L x y k).i (ldAt L x y k).k fl.1 fl.2 mI mK w'
      have hI : ovI (flatI L x y k).1 (flatI L x y k).2 (ldAt L x y k).i = (flatI L x y (k + 1)).1 := rfl
      have hK : joinF (flatI L x y k).2 (ldAt L x y k).k = (flatI L x y (k + 1)).2 := rfl
      rw [hI, hK] at cU
      generalize ldAt L x y k = dk at *
      clear hA r1 ll fl mI mK hI hK cL
      go_wp2_with (first
        | (refine wpList_load_mid rfl 138 _ rfl _ _ rfl (DC dk).toList _ (by exact g1) Try.underlying138 rfl (by kernel_rfl) ?_)
        | (refine wpList_store_row (cs := DC dk) rfl 138 _ _ rfl _ rfl (Row.new wr 138 (DC zeroLd)) rfl rfl (DC_one _) (by kernel_rfl) ?_; rw [setRow_new]; have bn := ld_cel (d := dk) (range_new wr 138 (DC dk)); have ln : wr.heap.size < (wr.alloc (.cells (DC dk) 138)).heap.size := (by simp); replace hown := hown.alloc (.cells (DC dk) 138); replace a4 := a4.alloc (.cells (DC dk) 138); replace a5 := a5.alloc (.cells (DC dk) 138); replace hb := hb.alloc hb.size (.cells (DC dk) 138); generalize wr.heap.size = gn at *; generalize wr.alloc (.cells (DC dk) 138) = w5 at *)
        | (refine wpList_load_cel rfl 29 _ rfl rfl (by with_reducible exact a5) Try.underlying29 rfl (by kernel_rfl) ?_)
        | (refine wpList_load_celIn rfl 29 _ rfl _ _ rfl (by with_reducible exact bn) Try.underlying29 rfl (by kernel_rfl) ?_)
        | (go_at_call 71; refine (cU _).mono ?_; rintro e w6 ⟨rfl, hb6⟩; replace hown := hown.below hb6; replace a4 := a4.below hb6 a4.lt; replace a5 := a5.below hb6 a5.lt; replace hb := grown_below hb hb6 hb.size; clear hb6 bn ln)
        | (refine wpList_store_cel rfl 29 _ _ rfl (by with_reducible exact a5) rfl rfl (by kernel_rfl) ?_; intro a5'))
      go_roundw
      case rel =>
        go_light
        exact ⟨k + 1, by omega, by go_num, hown.wrote (wrote_setRow _ _ _) (hown.ne_lo (by omega)), a4.setRowOther _ (by omega), a5', below_setRow hb (by omega) _⟩
      case measure => simp [intOf]; omega
    · have hkl : k = L.length := by omega
      subst hkl
      clear hown cL
      go_wp2_with (first
        | (refine wpList_load_cel rfl 29 _ rfl rfl (by with_reducible exact a5) Try.underlying29 rfl (by kernel_rfl) ?_)
        | (refine wpList_store_cel rfl 29 _ _ rfl (by with_reducible exact a4) rfl rfl (by kernel_rfl) ?_; intro a4'))
      exact bodyPost_ret_row (p := 4) (ty := 29) rfl rfl a4' Try.underlying29 rfl (by kernel_rfl) rfl ⟨rfl, below_setRow hb (by omega) _⟩
end Go.Proofs.Ytpmlepgnokbpaaa

/- impl: FlattenScene, ShowScene. -/
namespace Go.Proofs.Ytpmlepgnokbpaaa
set_option maxRecDepth 100000
open Go.RowKit
set_option linter.unusedVariables false
set_option linter.unusedSimpArgs false
theorem eqFrame_yes (f : Nat → Nat) (w : World) : Calls Try.prog 35 #[.agg (FC f), .agg (FC f)] w fun e w' => e = .returned (.bool true) ∧ Below w.heap.size w w' := by
  have := eqFrame_any f f w
  rw [eqF_refl] at this
  exact this
theorem chC_cam (L : List Ly) (x y : Int) : chC L (camB x y) = camC L x y := rfl
set_option maxHeartbeats 1000000 in
theorem implFlatten_any (v : Value) (L : List Ly) (x y : Int) (w : World) (hL : ltLy L) (h : SlAt eLy w w.heap.size v L) :
    Calls Try.prog 41 #[v, .int .i64 x, .int .i64 y] w fun e w' => e = .returned (.tuple #[.agg (CC (fsI L x y) (fsK L x y)), .int .i64 (camC L x y)]) ∧ Below w.heap.size w w' := by
  have a6 := (CelAt.new w 29 zeroF zeroF).alloc (.cells (CM x y) 108)
  have q1 := Row.new (w.alloc (.cells (CC zeroF zeroF) 29)) 108 (CM x y)
  rw [World.size_alloc] at q1
  have h0 := ((Below.refl w.heap.size w).alloc (Nat.le_refl _) (.cells (CC zeroF zeroF) 29)).alloc (by simp) (.cells (CM x y) 108)
  have cH := fun b w' (hb : Below w.heap.size w w') => checkScene_any v L b w' hL (h.later hb)
  have cR := fun w' => inRange_any x y w'
  have cF := fun w' (hb : Below w.heap.size w w') ho cx cy => implFlat_any v L x y w' hL ho cx cy (h.later hb)
  have e0 := chC_cam L x y
  obtain ⟨A, c, rfl, h1, h2, hA⟩ := h
  clear hA
  have c4 : _ = some (Value.int .i64 x) := q1.cell 0
  have c5 : _ = some (Value.int .i64 y) := q1.cell 1
  rw [CC_zero] at a6 h0 c4 c5 q1
  by_cases hc : camC L x y = 0
  · obtain ⟨e1, e2⟩ := camC_yes hc
    obtain ⟨o1, o2, o3⟩ := camC_zero hc
    have cF' := fun w' hb => cF w' hb o1 o2 o3
    rw [← e1, ← e2] at cF'
    rw [hc] at e0 ⊢
    generalize camB x y = bb at *
    clear hc e1 e2 o1 o2 o3 cF
    unfold CM at *
    go_enter Try.func41, Try.ntmps41
    go_wp2_with (first
      | (go_at_call 76; refine (cR _).mono ?_; rintro e w1 ⟨rfl, hb⟩; replace a6 := a6.below hb a6.lt; replace q1 := Row.below q1 hb q1.lt; replace h0 := grown_below h0 hb h0.size; clear hb c4 c5)
      | (go_at_call 75; refine (cH _ _ h0).mono ?_; rintro e w2 ⟨rfl, hb⟩; rw [e0]; replace a6 := a6.below hb a6.lt; replace q1 := Row.below q1 hb q1.lt; replace h0 := grown_below h0 hb h0.size; clear hb; have c4 : _ = some (Value.int .i64 x) := q1.cell 0; have c5 : _ = some (Value.int .i64 y) := q1.cell 1)
      | (go_at_call 80; refine (cF' _ h0).mono ?_; rintro e w3 ⟨rfl, hb⟩; replace a6 := a6.below hb a6.lt; replace h0 := grown_below h0 hb h0.size; clear hb c4 c5 q1)
      | (refine wpList_store_cel rfl 29 _ _ rfl (by with_reducible exact a6) rfl rfl (by kernel_rfl) ?_; intro a6'))
    exact bodyPost_ret_row2 (p := 6) (u := 7) (ty := 29) rfl rfl a6' Try.underlying29 rfl (by kernel_rfl) rfl ⟨rfl, below_setRow h0 (Nat.le_refl _) _⟩
  · obtain ⟨e1, e2⟩ := camC_not hc
    rw [e1, e2]
    have d : (camC L x y != 0) = true := by simp [hc]
    generalize camC L x y = cc at *
    generalize camB x y = bb at *
    clear hc e1 e2 cF
    unfold CM at *
    go_enter Try.func41, Try.ntmps41
    go_wp2_with (first
      | (go_at_call 76; refine (cR _).mono ?_; rintro e w1 ⟨rfl, hb⟩; replace a6 := a6.below hb a6.lt; replace h0 := grown_below h0 hb h0.size; clear hb c4 c5 q1)
      | (go_at_call 75; refine (cH _ _ h0).mono ?_; rintro e w2 ⟨rfl, hb⟩; rw [e0]; replace a6 := a6.below hb a6.lt; replace h0 := grown_below h0 hb h0.size; clear hb)
      | (refine wpList_store_cel (i := zeroF) (k := zeroF) rfl 29 _ _ rfl (by with_reducible exact a6) rfl rfl (by kernel_rfl) ?_; intro a6'))
    exact bodyPost_ret_row2 (p := 6) (u := 7) (ty := 29) rfl rfl a6' Try.underlying29 rfl (by kernel_rfl) rfl ⟨rfl, below_setRow h0 (Nat.le_refl _) _⟩
set_option maxHeartbeats 1000000 in
theorem implShow_any (v : Value) (L : List Ly) (x y : Int) (w : World) (hL : ltLy L) (h : SlAt eLy w w.heap.size v L) :
    Calls Try.prog 39 #[v, .int .i64 x, .int .i64 y] w fun e w' => e = .returned (.tuple #[.agg (FC (fsI L x y)), .int .i64 (camC L x y)]) ∧ Below w.heap.size w w' := by
  have a6 := Blk.new w 27 zeroF
  have h0 := (Below.refl w.heap.size w).alloc (Nat.le_refl _) (.cells (FC zeroF) 27)
  have cF := fun w' (hb : Below w.heap.size w w') => implFlatten_any v L x y w' hL (h.later hb)
  obtain ⟨A, c, rfl, h1, h2, hA⟩ := h
  clear hA
  generalize fsI L x y = fi at *
  generalize fsK L x y = fk at *
  generalize camC L x y = cc at *
  rw [FC_zero] at a6 h0
  go_enter Try.func39, Try.ntmps39
  go_wp2_with (first
    | (go_at_call 41; refine (cF _ h0).mono ?_; rintro e w2 ⟨rfl, hb⟩; replace a6 := a6.below hb a6.lt; replace h0 := grown_below h0 hb h0.size; clear hb)
    | (refine wpList_store_celNew (i0 := zeroF) (k0 := zeroF) (i := fi) (k := fk) rfl 29 _ _ rfl rfl rfl (by kernel_rfl) ?_; have bn := CelAt.new w2 29 fi fk; replace a6 := a6.alloc (.cells (CC fi fk) 29); replace h0 := h0.alloc h0.size (.cells (CC fi fk) 29); generalize w2.heap.size = gn at *; generalize w2.alloc (.cells (CC fi fk) 29) = w5 at *)
    | (refine wpList_load_at rfl 27 22 _ rfl _ _ rfl (by with_reducible exact bn.ink) Try.underlying27 (by kernel_rfl) ?_)
    | (refine wpList_store_fr rfl 27 _ _ rfl _ rfl (by with_reducible exact a6) rfl (by kernel_rfl) ?_))
  exact bodyPost_ret_fr2 (p := 6) (u := 7) (ty := 27) (e := 22) rfl rfl (a6.setRow _) Try.underlying27 (by kernel_rfl) rfl ⟨rfl, below_setRow h0 (Nat.le_refl _) _⟩
end Go.Proofs.Ytpmlepgnokbpaaa

/- PARTS: ValidPart, of the document and of the program; the laws' intactPart. -/
namespace Go.Proofs.Ytpmlepgnokbpaaa
set_option maxRecDepth 100000
open Go.RowKit
set_option linter.unusedVariables false
set_option linter.unusedSimpArgs false
def okP (f : Nat → Nat) (x : Int) (L : List (Int × Int × Int)) : Bool := okF f && inB x 0 3 && okT L
set_option maxHeartbeats 1000000 in
theorem specPart_any (b : Nat) (t : TypeId) (f : Nat → Nat) (x : Int) (hx : -128 ≤ x ∧ x ≤ 127) (v : Value) (L : List (Int × Int × Int)) (w : World) (hL : ltK L) (ha : PartAt w b t f x v) (h : SlAt eKy w w.heap.size v L) :
    Calls Try.prog 86 #[.pointer (some ⟨b, 0, none⟩)] w fun e w' => e = .returned (.bool (okP f x L)) ∧ Below w.heap.size w w' := by
  obtain ⟨A, c, rfl⟩ := h.form
  have cO := okAt_any b 0 f w ha.ink
  have cE := fun w => specEase_any x w
  have cT := specOkT_any _ L w hL h
  have c1 := ha.ce
  have c2 := ha.cv
  have hw : IntKind.i64.wrap x = x := IntWalk.i64_in _ (by omega)
  have h0 := Below.refl w.heap.size w
  clear h ha
  unfold okP
  cases h1 : okF f with
  | false =>
    rw [h1] at cO
    go_enter Try.func86, Try.ntmps86
    go_wp2_with (go_at_call 91; refine cO.mono ?_; rintro e' w' ⟨rfl, rfl⟩)
    go_ret
    exact ⟨rfl, h0⟩
  | true =>
    rw [h1] at cO
    cases h2 : inB x 0 3 with
    | false =>
      rw [h2] at cE
      go_enter Try.func86, Try.ntmps86
      go_wp2_with (first | (go_at_call 91; refine cO.mono ?_; rintro e' w' ⟨rfl, rfl⟩) | (go_at_call 107; refine (cE _).mono ?_; rintro e' w' ⟨rfl, rfl⟩))
      go_ret
      exact ⟨rfl, h0⟩
    | true =>
      rw [h2] at cE
      go_enter Try.func86, Try.ntmps86
      go_wp2_with (first | (go_at_call 91; refine cO.mono ?_; rintro e' w' ⟨rfl, rfl⟩) | (go_at_call 107; refine (cE _).mono ?_; rintro e' w' ⟨rfl, rfl⟩) | (go_at_call 108; refine cT.mono ?_; rintro e' w' ⟨rfl, hb⟩; replace h0 := hb))
      go_ret
      exact ⟨rfl, h0⟩
set_option maxHeartbeats 1000000 in
theorem specValidPart_any (f : Nat → Nat) (x : Int) (hx : -128 ≤ x ∧ x ≤ 127) (v : Value) (L : List (Int × Int × Int)) (w : World) (hL : ltK L) (h : SlAt eKy w w.heap.size v L) :
    Calls Try.prog 49 #[.agg (PC f x v)] w fun e w' => e = .returned (.bool (okP f x L)) ∧ Below w.heap.size w w' := by
  have h0 := (Below.refl w.heap.size w).alloc (Nat.le_refl _) (.cells (PC f x v) 76)
  have a1 := PartAt.new w 76 f x v
  have c := specPart_any w.heap.size 76 f x hx v L _ hL a1 ((h.below h0).mono h0.size)
  clear a1 h
  go_enter Try.func49, Try.ntmps49
  go_wp2_with (go_at_call 86; refine c.mono ?_; rintro e' w' ⟨rfl, hb⟩; replace h0 := grown_below h0 hb h0.size)
  go_ret
  exact ⟨rfl, h0⟩
set_option maxHeartbeats 1000000 in
theorem implValidPart_any (f : Nat → Nat) (hf : ∀ k, f k < 65536) (x : Int) (hx : -128 ≤ x ∧ x ≤ 127) (v : Value) (L : List (Int × Int × Int)) (w : World) (hL : ltK L) (h : SlAt eKy w w.heap.size v L) :
    Calls Try.prog 51 #[.agg (PC f x v)] w fun e w' => e = .returned (.bool (okP f x L)) ∧ Below w.heap.size w w' := by
  obtain ⟨A, c, rfl⟩ := h.form
  have h0 := (Below.refl w.heap.size w).alloc (Nat.le_refl _) (.cells (PC f x (.slice A L.length c)) 76)
  have a1 := PartAt.new w 76 f x (.slice A L.length c)
  have cO := fun w => valid_any f hf w
  have cE := fun w => isEase_any x w
  have cT := fun w' (hb : Below w.heap.size w w') => implValidTrack_any _ L w' hL (h.later hb)
  have hw : IntKind.i64.wrap x = x := IntWalk.i64_in _ (by omega)
  clear h
  unfold okP
  cases h1 : okF f with
  | false =>
    rw [h1] at cO
    go_enter Try.func51, Try.ntmps51
    go_wp2_with (first | (refine wpList_load_at rfl 27 22 _ rfl _ _ rfl (by with_reducible exact a1.ink) Try.underlying27 (by kernel_rfl) ?_) | (go_at_call 54; refine (cO _).mono ?_; rintro e' w' ⟨rfl, hb⟩; replace h0 := grown_below h0 hb h0.size))
    go_ret
    exact ⟨rfl, h0⟩
  | true =>
    rw [h1] at cO
    cases h2 : okT L with
    | false =>
      rw [h2] at cT
      rw [Bool.and_false]
      go_enter Try.func51, Try.ntmps51
      go_wp2_with (first | (refine wpList_load_at rfl 27 22 _ rfl _ _ rfl (by with_reducible exact a1.ink) Try.underlying27 (by kernel_rfl) ?_) | (go_at_call 54; refine (cO _).mono ?_; rintro e' w' ⟨rfl, hb⟩; replace a1 := a1.below hb a1.lt; have c2 := a1.cv; replace h0 := grown_below h0 hb h0.size; clear hb) | (go_at_call 88; refine (cT _ h0).mono ?_; rintro e' w' ⟨rfl, hb⟩; clear cT c2; replace h0 := grown_below h0 hb h0.size))
      go_ret
      exact ⟨rfl, h0⟩
    | true =>
      rw [h2] at cT
      rw [Bool.and_true, Bool.true_and]
      go_enter Try.func51, Try.ntmps51
      go_wp2_with (first | (refine wpList_load_at rfl 27 22 _ rfl _ _ rfl (by with_reducible exact a1.ink) Try.underlying27 (by kernel_rfl) ?_) | (go_at_call 54; refine (cO _).mono ?_; rintro e' w' ⟨rfl, hb⟩; replace a1 := a1.below hb a1.lt; have c2 := a1.cv; replace h0 := grown_below h0 hb h0.size; clear hb) | (go_at_call 88; refine (cT _ h0).mono ?_; rintro e' w' ⟨rfl, hb⟩; clear cT c2; replace a1 := a1.below hb a1.lt; have c1 := a1.ce; replace h0 := grown_below h0 hb h0.size; clear hb) | (go_at_call 89; refine (cE _).mono ?_; rintro e' w' ⟨rfl, rfl⟩))
      go_ret
      exact ⟨rfl, h0⟩
set_option maxHeartbeats 1000000 in
theorem intactPart_any (g1 g2 : Nat) (f : Nat → Nat) (x : Int) (L : List (Int × Int × Int)) (w : World) (hL : L.length ≤ 1000000) (h1 : Held eKy w g1 141 (roomy fillK L)) (h2 : Held eKy w g2 141 (roomy fillK L)) :
    Calls Try.prog 52 #[.agg (PC f x (.slice (some ⟨g1, 0, none⟩) L.length (L.length + roomN L.length))), .agg (PC f x (.slice (some ⟨g2, 0, none⟩) L.length (L.length + roomN L.length)))] w fun e w' => e = .returned (.bool true) ∧ Below w.heap.size w w' := by
  generalize hu : Value.slice (some ⟨g1, 0, none⟩) L.length (L.length + roomN L.length) = u
  generalize hv : Value.slice (some ⟨g2, 0, none⟩) L.length (L.length + roomN L.length) = v
  have a1 := (PartAt.new w 76 f x u).alloc (.cells (PC f x v) 76)
  have a2 := PartAt.new (w.alloc (.cells (PC f x u) 76)) 76 f x v
  have h0 := ((Below.refl w.heap.size w).alloc (Nat.le_refl _) (.cells (PC f x u) 76)).alloc (by simp) (.cells (PC f x v) 76)
  rw [World.size_alloc] at a2
  have cT := fun w' (hb : Below w.heap.size w w') => intactTrack_any g1 g2 L w' hL (h1.below hb h1.lt) (h2.below hb h2.lt)
  rw [hu, hv] at cT
  subst hu hv
  clear h1 h2
  have cF := fun w => eqFrame_yes f w
  go_enter Try.func52, Try.ntmps52
  go_wp2_with (first | (refine wpList_load_at rfl 27 22 _ rfl _ _ rfl (by with_reducible exact a1.ink) Try.underlying27 (by kernel_rfl) ?_) | (refine wpList_load_at rfl 27 22 _ rfl _ _ rfl (by with_reducible exact a2.ink) Try.underlying27 (by kernel_rfl) ?_) | (go_at_call 35; refine (cF _).mono ?_; rintro e' w' ⟨rfl, hb⟩; replace a1 := a1.below hb a1.lt; replace a2 := a2.below hb a2.lt; have c1 := a1.ce; have c2 := a2.ce; have d1 := a1.cv; have d2 := a2.cv; replace h0 := grown_below h0 hb h0.size; clear hb) | (go_at_call 90; refine (cT _ h0).mono ?_; rintro e' w' ⟨rfl, hb⟩; clear cT c1 c2 d1 d2; replace h0 := grown_below h0 hb h0.size; clear hb))
  go_ret
  exact ⟨rfl, h0⟩
end Go.Proofs.Ytpmlepgnokbpaaa
