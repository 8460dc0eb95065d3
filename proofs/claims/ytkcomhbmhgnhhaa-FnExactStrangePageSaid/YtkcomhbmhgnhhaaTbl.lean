/- Slices of slices of numbers; impl.listBy at them; Book.jumpTable. -/
import Derived.Test.YtkcomhbmhgnhhaaRows
import Derived.Test.YtkcomhbmhgnhhaaIBook
import Derived.Test.YtkcomhbmhgnhhaaCellQ
import Derived.Test.YtkcomhbmhgnhhaaListByC
import Derived.Test.YtkcomhbmhgnhhaaApart
import Derived.RangeFuncBox
namespace Go.Proofs.Ytkcomhbmhgnhhaa
set_option maxRecDepth 100000
open Go.RowKit
set_option linter.unusedVariables false
set_option linter.unusedSimpArgs false
def eS : Enc (Option Addr × Nat × Nat) := ⟨fun x => [.slice x.1 x.2.1 x.2.2], 1, fun _ => rfl, fun x v hv => by simp at hv; subst hv; rfl⟩
theorem eS_cells (R : List (Option Addr × Nat × Nat)) : eS.cells R = R.map fun x => Value.slice x.1 x.2.1 x.2.2 := by
  unfold Enc.cells eS
  induction R with
  | nil => rfl
  | cons x L ih => simp only [List.flatMap_cons, List.map_cons]; rw [ih]; rfl
/-- The slice value v reads as a list of lists. -/
def SlSl (w : World) (B : Nat) (v : Value) (LL : List (List Int)) : Prop :=
  ∃ R, SlAt eS w B v R ∧ R.length = LL.length ∧ ∀ (i : Nat) x l, R[i]? = some x → LL[i]? = some l → SlAt (eI .i64) w B (.slice x.1 x.2.1 x.2.2) l
section
variable {w w' : World} {B : Nat} {v : Value} {LL : List (List Int)}
theorem SlSl.keep (h : SlSl w B v LL) (hk : ∀ b, b < B → w'.heap[b]? = w.heap[b]?) : SlSl w' B v LL := by
  obtain ⟨R, h1, h2, h3⟩ := h
  exact ⟨R, h1.keep hk, h2, fun i x l hx hl => (h3 i x l hx hl).keep hk⟩
theorem SlSl.below (h : SlSl w B v LL) (hb : Below B w w') : SlSl w' B v LL := h.keep hb.block
theorem SlSl.mono {B' : Nat} (h : SlSl w B v LL) (hB : B ≤ B') : SlSl w B' v LL := by
  obtain ⟨R, h1, h2, h3⟩ := h
  exact ⟨R, h1.mono hB, h2, fun i x l hx hl => (h3 i x l hx hl).mono hB⟩
theorem SlSl.later (h : SlSl w w.heap.size v LL) (hb : Below w.heap.size w w') : SlSl w' w'.heap.size v LL := (h.below hb).mono hb.size
theorem SlSl.form (h : SlSl w B v LL) : ∃ A c, v = .slice A LL.length c := by
  obtain ⟨R, h1, h2, _⟩ := h
  obtain ⟨A, c, hv⟩ := h1.form
  exact ⟨A, c, by rw [hv, h2]⟩
theorem SlSl.base (h : SlSl w B v LL) (hp : 0 < LL.length) : ∃ b o c, v = .slice (some ⟨b, o, none⟩) LL.length c ∧ LL.length ≤ c ∧ c ≤ maxLen ∧ b < B ∧
    ∀ (i : Nat) l, LL[i]? = some l → 0 < l.length → ∃ b' o' c', w.cell? ⟨b, o + i, none⟩ = some (.slice (some ⟨b', o', none⟩) l.length c') ∧ l.length ≤ c' ∧ c' ≤ maxLen ∧ b' < B ∧ w.rangeAt b' o' ((eI .i64).cells l) := by
  obtain ⟨R, ⟨A, c, hv, h1, h2, hA⟩, h3, h4⟩ := h
  obtain ⟨b, o, rfl, hb, hr⟩ := hA (by omega)
  refine ⟨b, o, c, by rw [hv, h3], by omega, h2, hb, fun i l hl hlp => ?_⟩
  have hi : i < R.length := by rw [h3]; exact (List.getElem?_eq_some_iff.1 hl).1
  obtain ⟨x, hx⟩ : ∃ x, R[i]? = some x := ⟨_, List.getElem?_eq_getElem hi⟩
  obtain ⟨A', c', hv', h1', h2', hA'⟩ := h4 i x l hx hl
  obtain ⟨b', o', rfl, hb', hr'⟩ := hA' hlp
  refine ⟨b', o', c', ?_, h1', h2', hb', hr'⟩
  have hc := range_part hr hx 0 _ rfl
  rw [show eS.n = 1 from rfl, Nat.mul_one, Nat.add_zero] at hc
  rw [hc, hv']
end
def OwnSl (w : World) (base : Nat) (u : Value) (LL : List (List Int)) : Prop :=
  ∃ R, OwnL eS w base 47 u R ∧ R.length = LL.length ∧ ∀ (i : Nat) x l, R[i]? = some x → LL[i]? = some l → OwnL (eI .i64) w base 2 (.slice x.1 x.2.1 x.2.2) l
theorem OwnSl.sl {w : World} {base : Nat} {u : Value} {LL : List (List Int)} (h : OwnSl w base u LL) : SlSl w w.heap.size u LL := by
  obtain ⟨R, h1, h2, h3⟩ := h
  exact ⟨R, h1.sl (by decide), h2, fun i x l hx hl => (h3 i x l hx hl).sl (by decide)⟩
theorem infoSl : (Try.prog.info? 47).map (fun i => (i.zero, i.size, i.bytes)) = some (some (.slice none 0 0), eS.n, 24) := by kernel_rfl
set_option maxHeartbeats 400000 in
theorem listByS_any (n : Int) (fid : FuncId) (c1 : Value) (F : Nat → List Int) (w : World) (hn1 : 0 ≤ n) (hn2 : n ≤ 1000000)
    (hcall : ∀ x w, (callFunc fid #[.int .i64 x, c1]).run Try.prog w = .ok (.enter fid #[.int .i64 x, c1]) w)
    (hbody : ∀ i : Nat, (i : Int) < n → ∀ w1, Below w.heap.size w w1 → Calls Try.prog fid #[.int .i64 i, c1] w1 (GivesV (eI .i64) 2 (F i) w1)) :
    Calls Try.prog 110 #[.int .i64 n, .func (.func fid) #[] #[c1]] w fun e w' => ∃ v, e = .returned v ∧ SlSl w' w'.heap.size v (tab F n.toNat) ∧ Below w.heap.size w w' := by
  have hown : OwnSl w w.heap.size (.slice none 0 0) [] := ⟨[], OwnL.nil_ _ _ _, rfl, fun i x l h => by simp at h⟩
  have HB := Lib.hid hbody
  clear hbody
  go_enter Try.func110, Try.ntmps110
  go_wp2
  go_loopw [5, 8] (fun u i wr => ∃ k : Nat, k ≤ n.toNat ∧ i = .int .i64 k ∧ OwnSl wr w.heap.size u (tab F k) ∧ Below w.heap.size w wr) (fun _ i _ => n.toNat - (intOf i).toNat)
  case atStart => exact ⟨0, by omega, rfl, hown, Below.refl _ _⟩
  case round =>
    clear hown
    obtain ⟨k, hk, rfl, ⟨R, hown, hRl, hrows⟩, hb⟩ := hrel
    rw [tab_length] at hRl
    by_cases hlt : (k : Int) < n
    · have HR := Lib.hid hRl
      have hR2 : R.length ≤ 1000000 := by omega
      clear hRl
      go_wp2_with fail
      refine (HB.out k hlt wr hb).mono ?_
      rintro e w3 ⟨v, rfl, hv, hb3⟩
      replace hv := hv.mono hb.size
      replace hb := grown_below hb hb3 hb.size
      replace hown := hown.below hb3
      have hrows3 : ∀ (i : Nat) x l, R[i]? = some x → (tab F k)[i]? = some l → OwnL (eI .i64) w3 w.heap.size 2 (.slice x.1 x.2.1 x.2.2) l := fun i x l hx hl => (hrows i x l hx hl).below hb3
      obtain ⟨A, c, rfl⟩ : ∃ A c, v = .slice A (F k).length c := hv.val
      have HV := Lib.hid hv
      have HW := Lib.hid hrows3
      clear hb3 hrows hrows3 hv
      go_wp2_with (at_builtin; refine wpList_append_one rfl _ _ 77 rfl w.heap.size 47 Try.underlying77 infoSl rfl (by decide) (by omega) (hown.alloc _) rfl (A, (F k).length, c) rfl (range_new _ _ _) (by omega) (by have := hb.size; simp; omega) ?_; intro v' w4 hown' hgrow)
      go_roundw
      case rel =>
        go_light
        refine ⟨k + 1, by omega, by go_num, ⟨R ++ [(A, (F k).length, c)], hown', by simp [HR.out, tab_length], ?_⟩, (hown.alloc _).grown_below (hb.alloc hb.size _) hgrow (Nat.le_refl _) (by have := hb.size; simp; omega)⟩
        intro i x l hx hl
        rcases Nat.lt_or_ge i R.length with hi | hi
        · rw [List.getElem?_append_left hi] at hx
          rw [tab_succ, List.getElem?_append_left (by rw [tab_length, ← HR.out]; exact hi)] at hl
          have h1 := (HW.out i x l hx hl).alloc (.cells #[Value.slice A (F k).length c] 47)
          exact h1.kept hgrow (own_apart_t h1 (hown.alloc _) (by decide))
        · have hi2 : i = k := by
            have := (List.getElem?_eq_some_iff.1 hx).1
            simp at this
            have := HR.out
            omega
          subst hi2
          rw [List.getElem?_append_right hi, HR.out, Nat.sub_self] at hx
          simp at hx
          subst hx
          rw [tab_get _ (by omega)] at hl
          cases hl
          have h1 := HV.out.alloc (.cells #[Value.slice A (F i).length c] 47)
          exact h1.kept hgrow (own_apart_t h1 (hown.alloc _) (by decide))
      case measure => simp [intOf]; omega
    · have hkn : k = n.toNat := by omega
      subst hkn
      have hs : OwnSl wr w.heap.size _ (tab F n.toNat) := ⟨R, hown, by rw [tab_length]; exact hRl, hrows⟩
      have hss := hs.sl
      clear hs hown hrows hRl
      go_wp2
      go_ret
      exact ⟨_, rfl, hss, hb⟩
/-- By how many dots two pages differ. -/
def tbl (L : List (Nat → Nat)) (i k : Nat) : Int := difN (fAt L i) (fAt L k)
theorem tbl_bounds (L : List (Nat → Nat)) (i k : Nat) : 0 ≤ tbl L i k ∧ tbl L i k ≤ 192 := by have := difN_le (fAt L i) (fAt L k); unfold tbl; omega
def tblR (L : List (Nat → Nat)) (i : Nat) : List Int := tab (tbl L i) L.length
def tblL (L : List (Nat → Nat)) : List (List Int) := tab (tblR L) L.length
theorem tblL_get {L : List (Nat → Nat)} {i : Nat} (hi : i < L.length) : (tblL L)[i]? = some (tblR L i) := tab_get _ hi
theorem tblR_len (L : List (Nat → Nat)) (i : Nat) : (tblR L i).length = L.length := tab_length _ _
theorem tblR_get {L : List (Nat → Nat)} {i k : Nat} (hk : k < L.length) : (tblR L i).getD k 0 = tbl L i k := by unfold tblR; rw [List.getD_eq_getElem?_getD, tab_get _ hk]; rfl
theorem boxIn {W W' : World} {g : Nat} {t : TypeId} {v : Value} (hb : Below W.heap.size W W') (h : Boxed W g t v) : Boxed W' g t v := (hb.block g h.lt).trans h
theorem boxAt {W W' : World} {g : Nat} {t : TypeId} {v : Value} (hb : Below W.heap.size W W') (h : Boxed W g t v) : W'.cell? ⟨g, 0, none⟩ = some v := (boxIn hb h).cell
set_option maxHeartbeats 1000000 in
theorem table11_any (v : Value) (L : List (Nat → Nat)) (i k g1 g2 : Nat) (w : World) (hL : ltL L) (hlen : L.length ≤ 40) (hi : i < L.length) (hk : k < L.length) (h : SlAt eFr w w.heap.size v L)
    (x1 : w.cell? ⟨g1, 0, none⟩ = some v) (x2 : w.cell? ⟨g2, 0, none⟩ = some (.int .i64 i)) :
    Calls Try.prog 113 #[.int .i64 k, .pointer (some ⟨g1, 0, none⟩), .pointer (some ⟨g2, 0, none⟩)] w fun e w' => e = .returned (.int .i64 (tbl L i k)) ∧ Below w.heap.size w w' := by
  obtain ⟨A, c, rfl, h1, h2, hA⟩ := h
  obtain ⟨b1, o1, rfl, hb1, r1⟩ := hA (by omega)
  unfold maxLen at h2
  have f1 := range_part r1 (fAt_get hi)
  have f2 := range_part r1 (fAt_get hk)
  rw [eFr_n] at f1 f2
  have cU := fun w => unlike_any (fAt L i) (fAt L k) (fAt_lt hL _) (fAt_lt hL _) w
  have cC := fun w => count_any (unlikeF (fAt L i) (fAt L k)) (unlikeF_lt (fAt_lt hL _) (fAt_lt hL _)) w
  have hv : ((popSum (unlikeF (fAt L i) (fAt L k)) 12 : Nat) : Int) = tbl L i k := rfl
  have HV := Lib.hid hv
  have y1 := cell_q x1
  have y2 := cell_q x2
  clear hA r1 hv
  go_enter Try.func113, Try.ntmps113
  go_wp2_with fail
  refine wp_region_calm (by kernel_rfl) (by kernel_rfl) ?_
  repeat (first | (refine wpQuiet_load_at rfl 30 22 _ rfl _ _ rfl (by first | exact f1 | exact f2) hb1 Try.underlying30 (by kernel_rfl) ?_) | quiet_step (first | with_reducible exact Calls.regrown_of (cU _) | with_reducible exact Calls.regrown_of (cC _)))
  refine wpQuiet_nil ?_
  intro w3 hb3
  go_wp2
  go_ret
  exact ⟨ret_int HV.out, hb3⟩
theorem table1_any (v : Value) (L : List (Nat → Nat)) (i g1 : Nat) (w : World) (hL : ltL L) (hlen : L.length ≤ 40) (hi : i < L.length) (h : SlAt eFr w w.heap.size v L) (x1 : Boxed w g1 43 v) :
    Calls Try.prog 111 #[.int .i64 i, .pointer (some ⟨g1, 0, none⟩)] w (GivesV (eI .i64) 2 (tblR L i) w) := by
  obtain ⟨A, c, rfl⟩ := h.form
  have b2 := Boxed.new w 3 (.int .i64 (i : Int))
  have h0 := (Below.refl w.heap.size w).alloc (Nat.le_refl _) (.cells #[.int .i64 (i : Int)] 3)
  have b1 := x1.alloc (.cells #[.int .i64 (i : Int)] 3)
  have c1 := b1.cell
  have h' := h.later h0
  have hl1 := b1.lt
  have hl2 := b2.lt
  have cJ := listByC_i64 (L.length : Int) 113 (.pointer (some ⟨g1, 0, none⟩)) (.pointer (some ⟨w.heap.size, 0, none⟩)) (tbl L i) (w.alloc (.cells #[.int .i64 (i : Int)] 3)) (by omega) (by omega) (fun x w => by kernel_rfl)
    (fun k hk w2 hb2 => table11_any _ L i k g1 w.heap.size w2 hL hlen hi (by omega) (h'.later hb2) (boxAt hb2 b1) (boxAt hb2 b2))
  rw [Int.toNat_natCast] at cJ
  have hsz : w.heap.size ≤ (w.alloc (.cells #[.int .i64 (i : Int)] 3)).heap.size := by simp
  go_enter Try.func111, Try.ntmps111
  go_wp2_with (go_at_call 112; refine cJ.mono ?_; rintro e w2 ⟨u, rfl, hown, hb2⟩)
  go_ret
  exact ⟨_, rfl, hown.mono hsz, grown_below h0 hb2 h0.size⟩
theorem jumpTable_any (v : Value) (L : List (Nat → Nat)) (w : World) (hL : ltL L) (hlen : L.length ≤ 40) (h : SlAt eFr w w.heap.size v L) :
    Calls Try.prog 57 #[v] w fun e w' => ∃ u, e = .returned u ∧ SlSl w' w'.heap.size u (tblL L) ∧ Below w.heap.size w w' := by
  obtain ⟨A, c, rfl⟩ := h.form
  have b1 := Boxed.new w 43 (.slice A L.length c)
  have h0 := (Below.refl w.heap.size w).alloc (Nat.le_refl _) (.cells #[.slice A L.length c] 43)
  have h' := h.later h0
  have cJ := listByS_any (L.length : Int) 111 (.pointer (some ⟨w.heap.size, 0, none⟩)) (tblR L) (w.alloc (.cells #[.slice A L.length c] 43)) (by omega) (by omega) (fun x w => by kernel_rfl)
    (fun k hk w2 hb2 => table1_any _ L k w.heap.size w2 hL hlen (by omega) (h'.later hb2) (boxIn hb2 b1))
  rw [Int.toNat_natCast] at cJ
  go_enter Try.func57, Try.ntmps57
  go_wp2_with (go_at_call 110; refine cJ.mono ?_; rintro e w2 ⟨u, rfl, hs, hb2⟩)
  go_ret
  exact ⟨_, rfl, hs, grown_below h0 hb2 h0.size⟩
end Go.Proofs.Ytkcomhbmhgnhhaa
