import Derived.Test.YtpmlepgnokbpaaaM6
import Derived.Test.YtpmlepgnokbpaaaM4
/- The laws' own helpers over layers: toLayer, fillerCel, fillerLayer, eqLayer. -/
namespace Go.Proofs.Ytpmlepgnokbpaaa
set_option maxRecDepth 100000
open Go.RowKit
set_option linter.unusedVariables false
set_option linter.unusedSimpArgs false
def fillLy : Ly := ⟨fillF, fillF, -101, -101, -101⟩
theorem LayAt.other {w : World} {g : Nat} {t : TypeId} {l : Ly} (h : LayAt w g t l) {a : Addr} (v : Value) (hn : g ≠ a.block) : LayAt (w.setCell a v) g t l := Row.other h v hn
theorem build_cel1 (w : World) : (Instr.build 29 #[(0, .agg (FC fillF)), (1, .agg (FC fillF))]).run Try.prog w = .ok (.agg (CC fillF fillF)) w := build_cel fillF fillF w
theorem build_lay (i k : Nat → Nat) (e s h : Int) (w : World) : (Instr.build 86 #[(0, .agg (CC i k)), (1, .int .i8 e), (2, .int .i8 s), (3, .int .i8 h)]).run Try.prog w = .ok (.agg (LC ⟨i, k, e, s, h⟩)) w := by kernel_rfl
theorem wpList_build4 {P : Program} {ops : Array Oper} {rest : List Oper} {o : Oper} {a : Act} {w : World} {Q : Exit → Act → World → Prop} (hgd : o.guard = none) (T : TypeId) (m n p q : Nat) (x y x2 y2 : Operand) (ho : o.op = .build T #[(m, x), (n, y), (p, x2), (q, y2)]) {u v u2 v2 r : Value} (hx : a.eval x = u) (hy : a.eval y = v) (hx2 : a.eval x2 = u2) (hy2 : a.eval y2 = v2)
    (hr : ∀ w, (Instr.build T #[(m, u), (n, v), (p, u2), (q, v2)]).run P w = .ok r w) (h : wpList P ops Q rest (a.put o.dst r) w) : wpList P ops Q (o :: rest) a w :=
  wpList_plain hgd fun K hK => by
    unfold Oper.wp execOp
    simp only [ho, List.map_toArray, List.map_cons, List.map_nil, hx, hy, hx2, hy2, Sem.run_bind, hr, Result.andThen_ok, Sem.run_pure]
    exact hK _ _ h
set_option maxHeartbeats 1000000 in
theorem fillerCel_any (w : World) : Calls Try.prog 95 #[] w fun e w' => e = .returned (.agg (CC fillF fillF)) ∧ Below w.heap.size w w' := by
  have r := CelAt.new w 29 zeroF zeroF
  have h0 := (Below.refl w.heap.size w).alloc (Nat.le_refl _) (.cells (CC zeroF zeroF) 29)
  have hbl := build_cel1
  rw [CC_zero] at r h0
  go_enter Try.func95, Try.ntmps95
  go_wp2_with (first | (refine wpList_build2 (u := .agg (FC fillF)) (v := .agg (FC fillF)) rfl 29 0 1 _ _ rfl rfl rfl hbl ?_) | (refine wpList_store_cel (i := fillF) (k := fillF) rfl 29 _ _ rfl r rfl rfl (by kernel_rfl) ?_; intro r'))
  exact bodyPost_ret_row (p := 0) (ty := 29) rfl rfl r' Try.underlying29 rfl (by kernel_rfl) rfl ⟨rfl, below_setRow h0 (Nat.le_refl _) _⟩
set_option maxHeartbeats 1000000 in
theorem fillerLay_any (w : World) : Calls Try.prog 59 #[] w fun e w' => e = .returned (.agg (LC fillLy)) ∧ Below w.heap.size w w' := by
  have r := LayAt.new w 86 zeroLy
  have h0 := (Below.refl w.heap.size w).alloc (Nat.le_refl _) (.cells (LC zeroLy) 86)
  have hbl := build_lay fillF fillF (-101) (-101) (-101)
  rw [LC_zero] at r h0
  go_enter Try.func59, Try.ntmps59
  go_wp2_with (first | (go_at_call 95; refine (fillerCel_any _).mono ?_; rintro e w1 ⟨rfl, hb⟩; replace r := r.below hb r.lt; replace h0 := grown_below h0 hb h0.size; clear hb) | (refine wpList_build4 (u := .agg (CC fillF fillF)) (v := .int .i8 (-101)) (u2 := .int .i8 (-101)) (v2 := .int .i8 (-101)) rfl 86 0 1 2 3 _ _ _ _ rfl rfl rfl rfl rfl hbl ?_) | (refine wpList_store_lay (l := fillLy) rfl 86 _ _ rfl r rfl rfl (by kernel_rfl) ?_; intro r'))
  exact bodyPost_ret_row (p := 0) (ty := 86) rfl rfl r' Try.underlying86 rfl (by kernel_rfl) rfl ⟨rfl, below_setRow h0 (Nat.le_refl _) _⟩
set_option maxHeartbeats 1000000 in
theorem toLayer_any (l : Ly) (w : World) : Calls Try.prog 58 #[.agg (LC l)] w fun e w' => e = .returned (.agg (LC l)) ∧ Below w.heap.size w w' := by
  have a1 := ((LayAt.new w 89 l).alloc (.cells (LC zeroLy) 86)).alloc (.cells (LC zeroLy) 86)
  have a2 := (LayAt.new (w.alloc (.cells (LC l) 89)) 86 zeroLy).alloc (.cells (LC zeroLy) 86)
  have a3 := LayAt.new ((w.alloc (.cells (LC l) 89)).alloc (.cells (LC zeroLy) 86)) 86 zeroLy
  rw [World.size_alloc] at a2
  rw [World.size_alloc, World.size_alloc] at a3
  have h0 := (((Below.refl w.heap.size w).alloc (Nat.le_refl _) (.cells (LC l) 89)).alloc (by simp) (.cells (LC zeroLy) 86)).alloc (by simp; omega) (.cells (LC zeroLy) 86)
  rw [LC_zero] at a1 a2 a3 h0
  go_enter Try.func58, Try.ntmps58
  go_wp2_with (first
    | (refine wpList_load_celIn rfl 25 _ rfl _ _ rfl (by with_reducible exact a1.cel) Try.underlying25 rfl (by kernel_rfl) ?_)
    | (go_at_call 16; refine (toCel_any _ _ _).mono ?_; rintro e w2 ⟨rfl, hb⟩; replace a1 := a1.below hb a1.lt; replace a2 := a2.below hb a2.lt; replace a3 := a3.below hb a3.lt; replace h0 := grown_below h0 hb h0.size; clear hb)
    | (refine wpList_store_layCel rfl 29 _ _ rfl (by with_reducible exact a3) rfl rfl (by kernel_rfl) ?_; intro a3' hw; replace a1 := a1.wrote hw (by omega); replace a2 := a2.wrote hw (by omega); replace h0 := hw.below h0 (by omega) h0.size; clear a3; have a3 := a3'; clear hw a3'; generalize World.setCells _ _ _ _ = w3 at *; have c1 := a1.e; have d1 := a3.e; have f1 := a3.free 24; replace a1 := a1.other (a := ⟨w.heap.size + 1 + 1, 24, none⟩) (.int .i8 l.e) (by show w.heap.size ≠ w.heap.size + 1 + 1; omega); replace a2 := a2.other (a := ⟨w.heap.size + 1 + 1, 24, none⟩) (.int .i8 l.e) (by show w.heap.size + 1 ≠ w.heap.size + 1 + 1; omega); replace a3 := a3.setE l.e; have c2 := a1.s; have d2 := a3.s; have f2 := a3.free 25; replace a1 := a1.other (a := ⟨w.heap.size + 1 + 1, 25, none⟩) (.int .i8 l.s) (by show w.heap.size ≠ w.heap.size + 1 + 1; omega); replace a2 := a2.other (a := ⟨w.heap.size + 1 + 1, 25, none⟩) (.int .i8 l.s) (by show w.heap.size + 1 ≠ w.heap.size + 1 + 1; omega); replace a3 := a3.setS l.s; have c3 := a1.h; have d3 := a3.h; have f3 := a3.free 26; replace a2 := a2.other (a := ⟨w.heap.size + 1 + 1, 26, none⟩) (.int .i8 l.h) (by show w.heap.size + 1 ≠ w.heap.size + 1 + 1; omega); have a3' : LayAt _ (w.heap.size + 1 + 1) 86 l := a3.setH l.h; clear a3; have a3 := a3'; clear a3'; replace h0 := h0.setCell (p := ⟨w.heap.size + 1 + 1, 24, none⟩) (by show w.heap.size ≤ w.heap.size + 1 + 1; omega) (.int .i8 l.e); replace h0 := h0.setCell (p := ⟨w.heap.size + 1 + 1, 25, none⟩) (by show w.heap.size ≤ w.heap.size + 1 + 1; omega) (.int .i8 l.s); replace h0 := h0.setCell (p := ⟨w.heap.size + 1 + 1, 26, none⟩) (by show w.heap.size ≤ w.heap.size + 1 + 1; omega) (.int .i8 l.h))
    | (refine wpList_load_lay (l := l) rfl 86 _ rfl rfl (by with_reducible exact a3) Try.underlying86 rfl (by kernel_rfl) ?_)
    | (refine wpList_store_lay (l := l) rfl 86 _ _ rfl (by with_reducible exact a2) rfl rfl (by kernel_rfl) ?_; intro a2'))
  exact bodyPost_ret_row (p := 2) (ty := 86) rfl rfl a2' Try.underlying86 rfl (by kernel_rfl) rfl ⟨rfl, below_setRow h0 (by omega) _⟩
set_option maxHeartbeats 1000000 in
theorem eqLayer_same (l : Ly) (w : World) : Calls Try.prog 97 #[.agg (LC l), .agg (LC l)] w fun e w' => e = .returned (.bool true) ∧ Below w.heap.size w w' := by
  have a1 := (LayAt.new w 86 l).alloc (.cells (LC l) 86)
  have a2 := LayAt.new (w.alloc (.cells (LC l) 86)) 86 l
  rw [World.size_alloc] at a2
  have h0 := ((Below.refl w.heap.size w).alloc (Nat.le_refl _) (.cells (LC l) 86)).alloc (by simp) (.cells (LC l) 86)
  have e1 : (l.e != l.e) = false := by simp
  have e2 : (l.s != l.s) = false := by simp
  have e3 : (l.h != l.h) = false := by simp
  go_enter Try.func97, Try.ntmps97
  go_wp2_with (first
    | (refine wpList_load_celIn rfl 29 _ rfl _ _ rfl (by first | with_reducible exact a1.cel | with_reducible exact a2.cel) Try.underlying29 rfl (by kernel_rfl) ?_)
    | (go_at_call 28; refine (eqCel_same _ _ _).mono ?_; rintro e w2 ⟨rfl, hb⟩; replace a1 := a1.below hb a1.lt; replace a2 := a2.below hb a2.lt; replace h0 := grown_below h0 hb h0.size; clear hb; have c1 := a1.e; have c2 := a2.e; have c3 := a1.s; have c4 := a2.s; have c5 := a1.h; have c6 := a2.h))
  go_ret
  exact ⟨rfl, h0⟩
end Go.Proofs.Ytpmlepgnokbpaaa

/- The laws' own helpers over scenes: szScene, toScene, eqScene, intactScene. -/
namespace Go.Proofs.Ytpmlepgnokbpaaa
set_option maxRecDepth 100000
open Go.RowKit
set_option linter.unusedVariables false
theorem infoLy : (Try.prog.info? 86).map (fun i => (i.zero, i.size, i.bytes)) = some (some (.agg (LC zeroLy)), 27, 52) := by kernel_rfl
theorem szScene_from (A : Option Addr) (n c : Nat) (left : Int) (w : World) (hn : n ≤ maxLen) (h0 : 0 ≤ left) (h1 : left ≤ 1000000) :
    Calls Try.prog 18 #[.slice A n c, .int .i64 left] w fun e w' => e = .returned (.int .i64 (if (n : Int) ≤ left then left - (n : Int) else -1)) ∧ w = w' := by
  unfold maxLen at hn
  by_cases h : (n : Int) ≤ left
  · have h2 : 0 ≤ left - (n : Int) := by omega
    have hw : IntKind.i64.wrap (left - (n : Int)) = left - (n : Int) := IntWalk.i64_in _ (by omega)
    have hv : (if (n : Int) ≤ left then left - (n : Int) else -1) = left - (n : Int) := if_pos h
    rw [hv]
    clear hv h
    go_enter Try.func18, Try.ntmps18
    go_wp2
    go_ret
    exact ⟨rfl, rfl⟩
  · have h2 : left - (n : Int) < 0 := by omega
    have hw : IntKind.i64.wrap (left - (n : Int)) = left - (n : Int) := IntWalk.i64_in _ (by omega)
    have hv : (if (n : Int) ≤ left then left - (n : Int) else -1) = -1 := if_neg h
    rw [hv]
    clear hv h
    go_enter Try.func18, Try.ntmps18
    go_wp2
    go_ret
    exact ⟨rfl, rfl⟩
set_option maxHeartbeats 400000 in
theorem eqScene_same (u v : Value) (L : List Ly) (w : World) (hu : SlAt eLy w w.heap.size u L) (hv : SlAt eLy w w.heap.size v L) :
    Calls Try.prog 61 #[u, v] w fun e w' => e = .returned (.bool true) ∧ Below w.heap.size w w' := by
  obtain ⟨A, c, rfl, h1, h2, hA⟩ := hu
  obtain ⟨B, d, rfl, h3, h4, hB⟩ := hv
  unfold maxLen at h2 h4
  have e1 : ((L.length : Int) != (L.length : Int)) = false := by simp
  go_enter Try.func61, Try.ntmps61
  go_wp2
  go_loopw [5] (fun i wr => ∃ k : Nat, k ≤ L.length ∧ i = .int .i64 k ∧ Below w.heap.size w wr) (fun i _ => L.length - (intOf i).toNat)
  case atStart => exact ⟨0, by omega, rfl, Below.refl _ _⟩
  case round =>
    obtain ⟨k, hk, rfl, hb⟩ := hrel
    by_cases hlt : k < L.length
    · obtain ⟨b1, o1, rfl, hb1, r1⟩ := hA (by omega)
      obtain ⟨b2, o2, rfl, hb2, r2⟩ := hB (by omega)
      have g1 := range_below (range_part r1 (lAt_get hlt)) hb hb1
      have g2 := range_below (range_part r2 (lAt_get hlt)) hb hb2
      have l1 : b1 < wr.heap.size := Nat.lt_of_lt_of_le hb1 hb.size
      have l2 : b2 < wr.heap.size := Nat.lt_of_lt_of_le hb2 hb.size
      rw [eLy_n] at g1 g2
      clear hA hB r1 r2
      go_wp2_with fail
      refine wp_region_calm (by kernel_rfl) (by kernel_rfl) ?_
      repeat (first | (refine wpQuiet_load_el (E := eLy) rfl 86 _ rfl _ _ rfl (lAt L k) (LC (lAt L k)) rfl (by first | with_reducible exact g1 | with_reducible exact g2) (by first | exact l1 | exact l2) Try.underlying86 rfl (by kernel_rfl) ?_) | quiet_step (exact Calls.regrown_of (eqLayer_same _ _)))
      refine wpQuiet_nil ?_
      intro w3 hb3
      replace hb := grown_below hb hb3 hb.size
      clear g1 g2 hb3
      go_wp2
      go_roundw
      case rel =>
        go_light
        exact ⟨k + 1, by omega, by go_num, hb⟩
      case measure => simp [intOf]; omega
    · go_wp2
      go_ret
      exact ⟨rfl, hb⟩
set_option maxHeartbeats 1000000 in
theorem toScene_any (v : Value) (L : List Ly) (b : Bool) (w : World) (hL : L.length ≤ 1000000) (h : SlAt eLy w w.heap.size v L) (hb : b = false ∨ 0 < L.length) :
    Calls Try.prog 20 #[v, .bool b] w (MadeAt eLy 86 fillLy L w) := by
  obtain ⟨A, c, rfl, h1, h2, hA⟩ := h
  obtain ⟨i0, hi, hz0, hz1, hz2⟩ := info_parts infoLy
  have hr := roomN_le L.length
  generalize hR : roomN L.length = r at *
  generalize hn : L.length = n at *
  have hmk : ∀ w : World, (Instr.makeSlice 36 (.int .i64 ((n : Int) + (r : Int))) (.int .i64 ((n : Int) + (r : Int)))).run Try.prog w = .ok (.slice (some ⟨w.heap.size, 0, none⟩) (n + r) (n + r)) (w.alloc (.cells (madeCells (LC zeroLy) ((n + r) * 27)) 86)) := fun w => by
    have := run_make (P := Try.prog) w 36 86 i0 _ Try.underlying36 hi hz0 .i64 .i64 ((n + r : Nat) : Int) ((n + r : Nat) : Int) (by omega) (by omega) (by rw [hz2]; omega) (by omega)
    rw [hz1, Int.toNat_natCast, Int.natCast_add] at this
    exact this
  have hmade := fun w : World => Held.made (E := eLy) w 86 zeroLy (LC zeroLy) rfl (by decide) (n + r)
  have hsl := run_slice_to (P := Try.prog) Try.underlying36 hi w.heap.size (n + r) (n + r) n .i64 (by omega)
  have hE : b = true → ((n : Int) == 0) = false := fun e => by
    rcases hb with h | h
    · rw [h] at e; cases e
    · simp; omega
  have HR := Lib.hid hR
  have HN := Lib.hid hn
  clear hR hn hb hz0 hz1 hz2 hi
  cases b
  case' true => have e0 := hE rfl
  all_goals
    clear hE
    go_enter Try.func20, Try.ntmps20
    go_wp2_with (go_at_call 57; refine (room_any _ _ hL).mono ?_; rintro e w' ⟨rfl, rfl⟩; rw [HR.out])
    have hh := hmade w
    have h0 := (Below.refl w.heap.size w).alloc (Nat.le_refl _) (.cells (madeCells (LC zeroLy) ((n + r) * 27)) 86)
    clear hmk hmade
    rw [eLy_n] at hh
    generalize (w.alloc (.cells (madeCells (LC zeroLy) ((n + r) * 27)) 86)) = w1 at *
    rw [replicate_tab] at hh
    go_loopw [6] (fun i wr => ∃ k : Nat, k ≤ n ∧ i = .int .i64 k ∧ Held eLy wr w.heap.size 86 (tab (fun i => if i < k then lAt L i else zeroLy) (n + r)) ∧ Below w.heap.size w wr) (fun i _ => n - (intOf i).toNat)
    case atStart => exact ⟨0, by omega, rfl, by simpa using hh, h0⟩
    case round =>
      clear hh h0
      obtain ⟨k, hk, rfl, hh, hb⟩ := hrel
      by_cases hlt : k < n
      · obtain ⟨b1, o1, rfl, hb1, r1⟩ := hA (by omega)
        have hkL : k < L.length := by rw [HN.out]; exact hlt
        have g1 := range_below (range_part r1 (lAt_get hkL)) hb hb1
        rw [eLy_n] at g1
        clear hA r1 hkL
        go_wp2_with (first | (refine wpList_load_el (E := eLy) rfl 89 _ rfl _ _ rfl (lAt L k) (LC (lAt L k)) rfl g1 Try.underlying89 rfl (by kernel_rfl) ?_) | (go_at_call 58; refine (toLayer_any _ _).mono ?_; rintro e w2 ⟨rfl, hb2⟩; replace hh := hh.below hb2 hh.lt; replace hb := grown_below hb hb2 hb.size; clear hb2 g1) | (refine wpList_store_held rfl 86 _ _ rfl hh (i := k) (by rw [tab_length]; omega) rfl rfl (lAt L k) rfl rfl (by kernel_rfl) ?_; intro hh' hw'; replace hb := hw'.below hb (Nat.le_refl _) hb.size; clear hh hw'))
        go_roundw
        case rel =>
          go_light
          refine ⟨k + 1, by omega, by go_num, hh'.store_tab ?_, hb⟩
          intro i hi
          unfold updA
          by_cases e : i = k
          · subst e; simp
          · rw [if_neg e]; simp only [show i < k + 1 ↔ i < k by omega]
        case measure => simp [intOf]; omega
      · have hk' : k = n := by omega
        subst hk'
        clear hA
        go_wp2
        obtain ⟨wo, rfl⟩ : ∃ wo : World, wo = wr := ⟨_, rfl⟩
        go_loopw [7] (fun i wr => ∃ q : Nat, q ≤ r ∧ i = .int .i64 ((k + q : Nat) : Int) ∧ Held eLy wr w.heap.size 86 (tab (fun i => if i < k then lAt L i else if i < k + q then fillLy else zeroLy) (k + r)) ∧ Below w.heap.size w wr) (fun i _ => k + r - (intOf i).toNat)
        case atStart => exact ⟨0, by omega, rfl, hh.tab_congr (fun i hi => by by_cases e : i < k <;> simp [e]), hb⟩
        case round =>
          clear hh hb
          obtain ⟨q, hq, rfl, hh, hb⟩ := hrel
          by_cases hlq : q < r
          · go_wp2_with (first | (go_at_call 59; refine (fillerLay_any _).mono ?_; rintro e w2 ⟨rfl, hb2⟩; replace hh := hh.below hb2 hh.lt; replace hb := grown_below hb hb2 hb.size; clear hb2) | (refine wpList_store_held rfl 86 _ _ rfl hh (i := k + q) (by rw [tab_length]; omega) rfl rfl fillLy rfl rfl (by kernel_rfl) ?_; intro hh' hw'; replace hb := hw'.below hb (Nat.le_refl _) hb.size; clear hh hw'))
            go_roundw
            case rel =>
              go_light
              refine ⟨q + 1, by omega, by go_num, hh'.store_tab ?_, hb⟩
              intro i hi
              unfold updA
              dsimp only
              by_cases e : i = k + q
              · subst e; rw [if_pos rfl, if_neg (by omega), if_pos (by omega)]
              · rw [if_neg e]
                by_cases e2 : i < k
                · rw [if_pos e2, if_pos e2]
                · rw [if_neg e2, if_neg e2]; simp only [show i < k + (q + 1) ↔ i < k + q by omega]
            case measure => simp [intOf]; omega
          · have hqr : q = r := by omega
            subst hqr
            go_wp2
            go_ret
            refine ⟨w.heap.size, by rw [HN.out, HR.out]; rfl, Nat.le_refl _, ?_, hb⟩
            rw [roomy_tab, HN.out, HR.out]
            rw [tab_congr (g := fun i => L.getD i fillLy)] at hh
            · exact hh
            · intro i hi
              by_cases e : i < k
              · have hiL : i < L.length := by rw [HN.out]; exact e
                simp [e, lAt, hiL]
              · have hiL : ¬ i < L.length := by rw [HN.out]; exact e
                simp [e, hi, List.getElem?_eq_none (Nat.le_of_not_lt hiL)]
/-- The empty list, bare: nil. -/
theorem toScene_bare (v : Value) (L : List Ly) (w : World) (h : SlAt eLy w w.heap.size v L) (h0 : L.length = 0) :
    Calls Try.prog 20 #[v, .bool true] w fun e w' => e = .returned (.slice none 0 0) ∧ w = w' := by
  obtain ⟨A, c, rfl, h1, h2, hA⟩ := h
  clear hA h1
  rw [h0]
  clear h0
  go_enter Try.func20, Try.ntmps20
  go_wp2
  go_ret
  exact ⟨rfl, rfl⟩
theorem toScene_sl (v : Value) (L : List Ly) (b : Bool) (w : World) (hL : L.length ≤ 1000000) (h : SlAt eLy w w.heap.size v L) :
    Calls Try.prog 20 #[v, .bool b] w (GivesSl eLy L w) := by
  by_cases hb : b = false ∨ 0 < L.length
  · refine (toScene_any v L b w hL h hb).mono ?_
    rintro e w' ⟨g, rfl, hg, hh, hb'⟩
    exact ⟨_, rfl, (hh.sl (n := L.length) (by rw [roomy_length]; omega) (by omega) (by have := roomN_le L.length; unfold maxLen; omega)).roomy, hb'⟩
  · have h0 : L.length = 0 := by omega
    obtain rfl : b = true := by cases b <;> simp_all
    refine (toScene_bare v L w h h0).mono ?_
    rintro e w' ⟨rfl, rfl⟩
    obtain rfl : L = [] := List.eq_nil_of_length_eq_zero h0
    exact ⟨_, rfl, SlAt.nil_ (Nat.zero_le _) _, Below.refl _ _⟩
set_option maxHeartbeats 400000 in
theorem intactScene_any (g1 g2 : Nat) (L : List Ly) (w : World) (hL : L.length ≤ 1000000) (h1 : Held eLy w g1 86 (roomy fillLy L)) (h2 : Held eLy w g2 86 (roomy fillLy L)) :
    Calls Try.prog 22 #[.slice (some ⟨g1, 0, none⟩) L.length (L.length + roomN L.length), .slice (some ⟨g2, 0, none⟩) L.length (L.length + roomN L.length)] w fun e w' => e = .returned (.bool true) ∧ Below w.heap.size w w' := by
  obtain ⟨i0, hi, hz0, hz1, hz2⟩ := info_parts infoLy
  have hr := roomN_le L.length
  have hlen := roomy_length fillLy L
  have s1 := h1.sl (n := (roomy fillLy L).length) (c := (roomy fillLy L).length) (Nat.le_refl _) (Nat.le_refl _) (by unfold maxLen; omega)
  have s2 := h2.sl (n := (roomy fillLy L).length) (c := (roomy fillLy L).length) (Nat.le_refl _) (Nat.le_refl _) (by unfold maxLen; omega)
  rw [List.take_of_length_le (Nat.le_refl _), hlen] at s1 s2
  have cE := fun w' (hb : Below w.heap.size w w') => eqScene_same _ _ _ w' (s1.later hb) (s2.later hb)
  generalize hR : roomN L.length = r at *
  generalize L.length = n at *
  have q1 := run_slice_to (P := Try.prog) Try.underlying36 hi g1 n (n + r) (n + r) .i64 (Nat.le_refl _)
  have q2 := run_slice_to (P := Try.prog) Try.underlying36 hi g2 n (n + r) (n + r) .i64 (Nat.le_refl _)
  simp only [Int.natCast_add] at q1 q2
  have CE := Lib.hid cE
  have HR := Lib.hid hR
  clear cE hR hlen s1 s2 h1 h2 hi hz0 hz1 hz2
  go_enter Try.func22, Try.ntmps22
  go_wp2_with (go_at_call 57; refine (room_any _ _ hL).mono ?_; rintro e w' ⟨rfl, rfl⟩; rw [HR.out])
  refine wp_region_calm (by kernel_rfl) (by kernel_rfl) ?_
  repeat (quiet_step (exact Calls.regrown_of (CE.out _ (below_regrown _ _ _))))
  refine wpQuiet_nil ?_
  intro w3 hb3
  go_wp2
  go_ret
  exact ⟨rfl, hb3⟩
end Go.Proofs.Ytpmlepgnokbpaaa

/- The laws' own helpers over scenes: markScene. -/
namespace Go.Proofs.Ytpmlepgnokbpaaa
set_option maxRecDepth 100000
open Go.RowKit
set_option linter.unusedVariables false
set_option linter.unusedSimpArgs false
def scAt (k : Int) (q : Nat) : Value := if q % 27 < 24 then .int .u16 (IntKind.u16.wrap (k + q)) else .int .i8 (IntKind.i8.wrap (k + q))
theorem scAt_u16 (k : Int) {q : Nat} (h : q % 27 < 24) : (Value.int .u16 (IntKind.u16.wrap (k + (q : Int)))) = scAt k q := by unfold scAt; rw [if_pos h]
theorem scAt_i8 (k : Int) {q : Nat} (h : ¬ q % 27 < 24) : (Value.int .i8 (IntKind.i8.wrap (k + (q : Int)))) = scAt k q := by unfold scAt; rw [if_neg h]
set_option maxHeartbeats 1000000 in
theorem markScene_any (g n c : Nat) (k : Int) (w : World) (N : Nat) (hk : 0 ≤ k) (hk2 : k ≤ 1000000000) (hn : n ≤ 1000000) (hr : RowN w g 86 N) (hN : n * 27 ≤ N) :
    Calls Try.prog 45 #[.slice (some ⟨g, 0, none⟩) n c, .int .i64 k] w fun e w' => e = .returned (.int .i64 (k + ((n * 27 : Nat) : Int))) ∧ Marks w w' g 86 N (scAt k) (n * 27) := by
  have hm := Marks.start hr (scAt k)
  clear hr
  go_enter Try.func45, Try.ntmps45
  go_wp2
  go_loopw [1, 5] (fun kk i wr => ∃ p : Nat, p ≤ n ∧ i = .int .i64 p ∧ kk = .int .i64 (k + ((p * 27 : Nat) : Int)) ∧ Marks w wr g 86 N (scAt k) (p * 27)) (fun _ i _ => n - (intOf i).toNat)
  case atStart => exact ⟨0, by omega, rfl, by simp, by simpa using hm⟩
  case round =>
    clear hm
    obtain ⟨p, hp, rfl, rfl, hm⟩ := hrel
    by_cases hlt : p < n
    · go_wp2
      obtain ⟨wo, rfl⟩ : ∃ wo : World, wo = wr := ⟨_, rfl⟩
      go_loopw [1, 6] (fun kk i wr => ∃ q : Nat, q ≤ 12 ∧ i = .int .i64 q ∧ kk = .int .i64 (k + ((p * 27 + q : Nat) : Int)) ∧ Marks w wr g 86 N (scAt k) (p * 27 + q)) (fun _ i _ => 12 - (intOf i).toNat)
      case atStart => exact ⟨0, by omega, rfl, by simp, by simpa using hm⟩
      case round =>
        clear hm
        obtain ⟨q, hq, rfl, rfl, hm⟩ := hrel
        by_cases hlq : q < 12
        · obtain ⟨u0, c0⟩ := hm.row.cell (q := p * 27 + q) (by omega)
          have f0 := hm.row.free (p * 27 + q)
          go_wp2
          go_roundw
          case rel =>
            go_light
            exact ⟨q + 1, by omega, by go_num, by go_num, hm.step (by omega) (scAt_u16 (q := p * 27 + q) k (by omega))⟩
          case measure => simp [intOf]; omega
        · have hq12 : q = 12 := by omega
          subst hq12
          go_wp2
          obtain ⟨wo, rfl⟩ : ∃ wo : World, wo = wr := ⟨_, rfl⟩
          go_loopw [1, 7] (fun kk i wr => ∃ q : Nat, q ≤ 12 ∧ i = .int .i64 q ∧ kk = .int .i64 (k + ((p * 27 + 12 + q : Nat) : Int)) ∧ Marks w wr g 86 N (scAt k) (p * 27 + 12 + q)) (fun _ i _ => 12 - (intOf i).toNat)
          case atStart => exact ⟨0, by omega, rfl, by simp, by simpa using hm⟩
          case round =>
            clear hm
            obtain ⟨q, hq, rfl, rfl, hm⟩ := hrel
            by_cases hlq : q < 12
            · obtain ⟨u0, c0⟩ := hm.row.cell (q := p * 27 + 12 + q) (by omega)
              have f0 := hm.row.free (p * 27 + 12 + q)
              go_wp2
              go_roundw
              case rel =>
                go_light
                exact ⟨q + 1, by omega, by go_num, by go_num, hm.step (by omega) (scAt_u16 (q := p * 27 + 12 + q) k (by omega))⟩
              case measure => simp [intOf]; omega
            · have hq12 : q = 12 := by omega
              subst hq12
              have hm0 : Marks w wr g 86 N (scAt k) (p * 27 + 24) := hm
              clear hm
              obtain ⟨u0, c0⟩ := hm0.row.cell (q := p * 27 + 24) (by omega)
              have f0 := hm0.row.free (p * 27 + 24)
              have hm1 := hm0.step (v := .int .i8 (IntKind.i8.wrap (k + ((p * 27 + 24 : Nat) : Int)))) (by omega) (scAt_i8 k (by omega))
              obtain ⟨u1, c1⟩ := hm1.row.cell (q := p * 27 + 25) (by omega)
              have f1 := hm1.row.free (p * 27 + 25)
              have hm2 := hm1.step (v := .int .i8 (IntKind.i8.wrap (k + ((p * 27 + 25 : Nat) : Int)))) (by omega) (scAt_i8 k (by omega))
              obtain ⟨u2, c2⟩ := hm2.row.cell (q := p * 27 + 26) (by omega)
              have f2 := hm2.row.free (p * 27 + 26)
              have hm3 := hm2.step (v := .int .i8 (IntKind.i8.wrap (k + ((p * 27 + 26 : Nat) : Int)))) (by omega) (scAt_i8 k (by omega))
              have z1 : IntKind.i64.wrap (k + ((p * 27 + 24 : Nat) : Int) + 1) = k + ((p * 27 + 25 : Nat) : Int) := by rw [IntWalk.i64_in _ (by omega)]; omega
              have z2 : IntKind.i64.wrap (k + ((p * 27 + 25 : Nat) : Int) + 1) = k + ((p * 27 + 26 : Nat) : Int) := by rw [IntWalk.i64_in _ (by omega)]; omega
              have z3 : IntKind.i64.wrap (k + ((p * 27 + 26 : Nat) : Int) + 1) = k + (((p + 1) * 27 : Nat) : Int) := by rw [IntWalk.i64_in _ (by omega)]; omega
              rw [show p * 27 + 12 + 12 = p * 27 + 24 by omega]
              have HM := Lib.hid hm3
              clear hm0 hm1 hm2 hm3
              generalize hk4 : k + ((p * 27 + 24 : Nat) : Int) = k4 at *
              generalize hk5 : k + ((p * 27 + 25 : Nat) : Int) = k5 at *
              generalize hk6 : k + ((p * 27 + 26 : Nat) : Int) = k6 at *
              generalize hk7 : k + (((p + 1) * 27 : Nat) : Int) = k7 at *
              have HK := Lib.hid hk7
              clear hk4 hk5 hk6 hk7
              go_wp2
              go_roundw
              case rel =>
                go_light
                refine ⟨p + 1, by omega, by go_num, by rw [HK.out], ?_⟩
                rw [show (p + 1) * 27 = p * 27 + 24 + 1 + 1 + 1 by omega]
                exact HM.out
              case measure => simp [intOf]; omega
    · have hpn : p = n := by omega
      subst hpn
      go_wp2
      go_ret
      exact ⟨rfl, hm⟩
end Go.Proofs.Ytpmlepgnokbpaaa
