/- slices.Values over a list of numbers; impl.leastOf over whatever iterator of numbers. -/
import Derived.Test.YtkcomhbmhgnhhaaRows
import Derived.Test.YtkcomhbmhgnhhaaLst
import Derived.Test.YtkcomhbmhgnhhaaIter
import Derived.Test.YtkcomhbmhgnhhaaLI64
import Derived.Test.YtkcomhbmhgnhhaaCellQ
import Derived.Shelf.Abstract
import Derived.WalkKit
import Derived.OwnWalkIn
import Derived.TacticsInMore
import Derived.LoopNIn
import Derived.LoopIn
import Derived.RangeFuncBox
namespace Go.Proofs.Ytkcomhbmhgnhhaa
set_option maxRecDepth 100000
open Go.RowKit Go.Shelf
set_option linter.unusedVariables false
attribute [local go_sem] Oper.semAt_some
def intEnc (x : Int) : Array Value := #[.int .i64 x]
/-- What a round keeps: what lay below n₀, and one box. -/
def KeepV (n₀ Bs : Nat) (W W' : World) : Prop := Below n₀ W W' ∧ (∀ o, W.heap[Bs]? = some o → W'.heap[Bs]? = some o)
theorem KeepV.t {n₀ Bs : Nat} {A B C : World} (h : KeepV n₀ Bs A B) (k : KeepV n₀ Bs B C) : KeepV n₀ Bs A C := ⟨h.1.trans k.1, fun o ho => k.2 o (h.2 o ho)⟩
theorem KeepV.refl (n₀ Bs : Nat) (W : World) : KeepV n₀ Bs W W := ⟨Below.refl _ _, fun _ h => h⟩
theorem boxed_keepV {n₀ Bs : Nat} {t : TypeId} {v : Value} {W W' : World} (h : Boxed W Bs t v) (k : KeepV n₀ Bs W W') : Boxed W' Bs t v := k.2 _ h
theorem boxed_below' {B S : Nat} {t : TypeId} {v : Value} {W W' : World} (h : Boxed W B t v) (hb : Below S W W') (hB : B < S) : Boxed W' B t v := (hb.block B hB).trans h
set_option maxRecDepth 100000 in
set_option maxHeartbeats 2000000 in
theorem valuesI1_in (n : Nat) (hn : 1 ≤ n) (l Bs n₀ : Nat) (A : Option Addr) (c : Nat) (L : List Int) (J Jx : List Int → World → Prop) (hBs : Bs < n₀)
    (hY : ∀ pre x W, J pre W → pre ++ [x] <+: L → YieldAt Fence.wide (n - 1) Try.prog l (intEnc x) W fun e W' =>
      (e = .returned (.bool true) ∧ J (pre ++ [x]) W' ∧ Below n₀ W W') ∨ (e = .returned (.bool false) ∧ Jx (pre ++ [x]) W'))
    (W : World) (hB : Boxed W Bs 47 (.slice A L.length c)) (hl : L.length ≤ 1000000) (hS : SlAt (eI .i64) W n₀ (.slice A L.length c) L) (h0 : J [] W) :
    CallsIn Fence.wide n Try.prog 116 #[.func (.yield l) #[] #[], .pointer (some ⟨Bs, 0, none⟩)] W fun e W' => (∃ v, e = .returned v) ∧
      ((∃ ys, ys = L ∧ J ys W') ∨ (∃ pre, pre <+: L ∧ Jx pre W')) := by
  obtain ⟨A', c', hv, h1, h2, hA⟩ := hS
  cases hv
  have cB := hB.cell
  refine callsIn_of_wp Try.func116 rfl trivial ?_ rfl
  simp only [Try.ntmps116, List.size_toArray, List.length_cons, List.length_nil, Nat.reduceAdd, Nat.reduceSub, Array.replicate_succ, Array.replicate_zero, List.push_toArray, List.append_toArray, List.nil_append, List.cons_append]
  gi_wp2
  clear cB
  gi_loopw [7] (fun i wr => ∃ k : Nat, k ≤ L.length ∧ i = .int .i64 (k : Int) ∧ J (L.take k) wr ∧ Below n₀ W wr) (fun i _ => L.length - (intOf i).toNat)
  case atStart => exact ⟨0, by omega, rfl, by simpa using h0, Below.refl _ _⟩
  case round =>
    obtain ⟨k, hk, rfl, hJs, hnx⟩ := hrel
    by_cases hlt : k < L.length
    · obtain ⟨b, o, rfl, hb, r1⟩ := hA (by omega)
      have c1 := int_cell (range_below r1 hnx hb) hlt
      have hst : L.take (k + 1) = L.take k ++ [L.getD k 0] := by
        rw [List.take_add_one, getD_get (z := 0) hlt]; rfl
      obtain ⟨fn, tmps, assign, body, hyy, hR⟩ := hY _ (L.getD k 0) wr hJs (by rw [← hst]; exact List.take_prefix _ _)
      rw [← hst] at hR
      simp only [intEnc] at hyy
      generalize L.getD k 0 = x at *
      clear hst r1 hA
      gi_wp2
      refine hR.mono ?_
      rintro e W3 (⟨rfl, hJ3, hk3⟩ | ⟨rfl, hJx3⟩)
      · gi_wp2
        go_roundw
        case rel => exact ⟨k + 1, by omega, by go_num, hJ3, hnx.trans hk3⟩
        case measure => simp [intOf]; omega
      · gi_wp2
        refine bodyPost_ret (results_none rfl _ _ _) rfl ?_
        exact ⟨⟨_, rfl⟩, .inr ⟨_, List.take_prefix _ _, hJx3⟩⟩
    · obtain rfl : k = L.length := by omega
      rw [List.take_length] at hJs
      gi_wp2
      go_end0
      exact ⟨⟨_, rfl⟩, .inl ⟨_, rfl, hJs⟩⟩
theorem valuesI_any (A : Option Addr) (len c : Nat) (w : World) :
    Calls Try.prog 59 #[.slice A len c] w fun e w' => e = .returned (.func (.func 116) #[] #[.pointer (some ⟨w.heap.size, 0, none⟩)]) ∧ w' = w.alloc (.cells #[.slice A len c] 47) := by
  go_enter Try.func59, Try.ntmps59
  go_wp2
  go_ret
  exact ⟨rfl, rfl⟩
/-- An iterator over the list, for whoever is called from w on. -/
theorem valuesI_stops (n : Nat) (hn : 1 ≤ n) (Bs n₀ : Nat) (A : Option Addr) (c : Nat) (L : List Int) (w : World) (hBs : Bs < n₀) (hB : Boxed w Bs 47 (.slice A L.length c)) (hn₀ : n₀ ≤ w.heap.size) (hl : L.length ≤ 1000000) (hS : SlAt (eI .i64) w n₀ (.slice A L.length c) L) :
    StopsL n Try.prog 116 #[.pointer (some ⟨Bs, 0, none⟩)] intEnc (Below n₀) L w := fun l J Jx W hW hY h0 =>
  valuesI1_in n hn l Bs n₀ A c L J Jx hBs hY W ((hW.block Bs hB.lt).trans hB) hl (hS.keep fun b hb => hW.block b (Nat.lt_of_lt_of_le hb hn₀)) h0
/-- The first least one, or 0; its value, or 0. -/
def lsX (V : Int → Int) (L : List Int) : Int := (lst V L).getD 0
def lsV (V : Int → Int) (L : List Int) : Int := ((lst V L).map V).getD 0
def preM {L : List Int} (pre : List { x // x ∈ L }) : List Int := pre.map (·.1)
theorem preM_snoc {L : List Int} (pre : List { x // x ∈ L }) (x : { x // x ∈ L }) : preM (pre ++ [x]) = preM pre ++ [x.1] := by simp [preM]
set_option maxRecDepth 100000 in
set_option maxHeartbeats 4000000 in
theorem leastI_any (g : Nat) (lb : Array Value) (hg : ∀ args w, (callFunc g args).run Try.prog w = .ok (.enter g args) w) (encs : Int → Array Value) (hen : ∀ x, encs x = #[.int .i64 x]) (L : List Int) (hL : L.length ≤ 1000000) (fid : FuncId) (caps : Array Value) (V : Int → Int) (w : World)
    (hcall : ∀ x w, (callFunc fid (#[.int .i64 x] ++ caps)).run Try.prog w = .ok (.enter fid (#[.int .i64 x] ++ caps)) w)
    (hval : ∀ x ∈ L, ∀ w1, Below w.heap.size w w1 → Calls Try.prog fid (#[.int .i64 x] ++ caps) w1 fun e w2 => e = .returned (.int .i64 (V x)) ∧ Below w1.heap.size w1 w2)
    (hS : ∀ w', Below w.heap.size w w' → StopsL 3 Try.prog g lb encs (Below w.heap.size) L w') :
    Calls Try.prog 58 #[.func (.func g) #[] lb, .func (.func fid) #[] caps] w fun e w' => e = .returned (.tuple #[.int .i64 (lsX V L), .int .i64 (lsV V L)]) ∧ Below w.heap.size w w' := by
  refine (callsIn_wide (n := 4)).1 ?_
  refine callsIn_of_wp_marks Try.func58 rfl trivial ?_ rfl
  simp only [Try.ntmps58, List.size_toArray, List.length_cons, List.length_nil, Nat.reduceAdd, Nat.reduceSub, Array.replicate_succ, Array.replicate_zero, List.push_toArray, List.append_toArray, List.nil_append, List.cons_append]
  have bF := (((Boxed.new w 85 (.func (.func fid) #[] caps)).alloc (.cells #[.int .i64 0] 2)).alloc (.cells #[.int .i64 0] 2)).alloc (.cells #[.bool true] 4)
  have bX := ((Boxed.new (w.alloc (.cells #[.func (.func fid) #[] caps] 85)) 2 (.int .i64 0)).alloc (.cells #[.int .i64 0] 2)).alloc (.cells #[.bool true] 4)
  have bV := (Boxed.new ((w.alloc (.cells #[.func (.func fid) #[] caps] 85)).alloc (.cells #[.int .i64 0] 2)) 2 (.int .i64 0)).alloc (.cells #[.bool true] 4)
  have bN := Boxed.new (((w.alloc (.cells #[.func (.func fid) #[] caps] 85)).alloc (.cells #[.int .i64 0] 2)).alloc (.cells #[.int .i64 0] 2)) 4 (.bool true)
  have h0 := ((((Below.refl w.heap.size w).alloc (Nat.le_refl _) (.cells #[.func (.func fid) #[] caps] 85)).alloc (by simp) (.cells #[.int .i64 0] 2)).alloc (by simp; omega) (.cells #[.int .i64 0] 2)).alloc (by simp; omega) (.cells #[.bool true] 4)
  simp only [World.size_alloc] at bX bV bN
  have hsz : ((((w.alloc (.cells #[.func (.func fid) #[] caps] 85)).alloc (.cells #[.int .i64 0] 2)).alloc (.cells #[.int .i64 0] 2)).alloc (.cells #[.bool true] 4)).heap.size = w.heap.size + 1 + 1 + 1 + 1 := by simp
  gi_wp2
  generalize ((((w.alloc (.cells #[.func (.func fid) #[] caps] 85)).alloc (.cells #[.int .i64 0] 2)).alloc (.cells #[.int .i64 0] 2)).alloc (.cells #[.bool true] 4)) = w2 at *
  refine wpIn_rangeFunc_ownH rfl (by omega) (gf := g) (lb := lb) rfl trivial hg (hS w2 h0).stops belowK_t (belowK_b (by omega)) (Below.refl _ _) (fun x => by rw [hen]; rfl)
    (fun pre W => (((Boxed W w.heap.size 85 (.func (.func fid) #[] caps) ∧ Boxed W (w.heap.size + 1) 2 (.int .i64 (lsX V (preM pre)))) ∧ Boxed W (w.heap.size + 1 + 1) 2 (.int .i64 (lsV V (preM pre)))) ∧ Boxed W (w.heap.size + 1 + 1 + 1) 4 (.bool (lst V (preM pre)).isNone)) ∧ Below w.heap.size w W)
    (fun _ _ _ => False)
    (OwnFrom.and (OwnFrom.and (OwnFrom.and (OwnFrom.and (Own.from (boxed_own _ _ (fun _ => _)) _) (Own.from (boxed_own _ _ (fun pre => Value.int .i64 (lsX V (preM pre)))) _)) (Own.from (boxed_own _ _ (fun pre => Value.int .i64 (lsV V (preM pre)))) _)) (Own.from (boxed_own _ _ (fun pre => Value.bool (lst V (preM pre)).isNone)) _)) (ownFrom_below (Nat.le_refl _) (by omega)))
    (fun _ _ _ _ _ hs _ _ => hs)
    ⟨⟨⟨⟨bF, bX⟩, bV⟩, bN⟩, h0⟩
    (fun x a' W => a' = { tmps := #[.func (.func g) #[] lb, .func (.func fid) #[] caps, undef, .pointer (some ⟨w.heap.size, 0, none⟩), .int .i64 0, .int .i64 0, .pointer (some ⟨w.heap.size + 1, 0, none⟩), .pointer (some ⟨w.heap.size + 1 + 1, 0, none⟩), .pointer (some ⟨w.heap.size + 1 + 1 + 1, 0, none⟩), .int .i64 x.1, undef, .func (.func g) #[] lb, .int .i64 x.1, undef, undef, undef, undef, undef, undef, undef, undef, undef, undef, undef, undef, undef], defers := [] })
    (fun x a' _ X Y row hs hg hr => hs)
    ?assign ?body ?done ?stop
  case assign =>
    rintro l pre x W K hI hK
    rw [hen]
    gi_wp2
    exact hK _ _ ((KeepsOthers.refl _).from _) (Below.refl _ _) hI rfl
  case body =>
    rintro l pre x a' W hl _ ⟨⟨⟨⟨hF, hX⟩, hV⟩, hN⟩, hB1⟩ rfl hpl
    obtain ⟨x, hx⟩ := x
    have cV := hval x hx W hB1
    have hc := hcall x
    have cF := hF.cell
    dsimp only
    obtain ⟨M, hMp⟩ : ∃ M, preM pre = M := ⟨_, rfl⟩
    have HMP := Lib.hid hMp
    rw [hMp] at hX hV hN
    clear hMp
    clear hval hcall hS hen
    refine wpIn_block ?_
    refine wpIn_seq_k fun K hK => ?_
    refine round_list ?_
    go_wp2_with fail
    refine cV.mono ?_
    rintro e W2 ⟨rfl, hb2⟩
    have hF2 := boxed_below' hF hb2 hF.lt
    have hX2 := boxed_below' hX hb2 hX.lt
    have hV2 := boxed_below' hV hb2 hV.lt
    have hN2 := boxed_below' hN hb2 hN.lt
    have hB2 := grown_below hB1 hb2 hB1.size
    have hK2 := keepsO_below hb2
    have hBW2 := hb2.mono hB1.size
    clear hF hX hV hN hb2 cV hc cF
    have cX := hX2.cell
    have cVv := hV2.cell
    have cN := hN2.cell
    have fX := hX2.frozen
    have fV := hV2.frozen
    have fN := hN2.frozen
    have hn := lst_snoc (v := V) M x
    cases hl0 : lst V M with
    | none =>
      rw [hl0] at cN hn
      have HN : Hid (lst V (M ++ [x]) = some x) := by rw [hn]; rfl
      simp only [Option.isNone_none] at cN
      clear hn hl0
      go_wp2
      gi_wp2
      refine ⟨((hK2.trans ((KeepsOthers.setCell W2 ⟨w.heap.size + 1, 0, none⟩ (.int .i64 x)).trans ((KeepsOthers.setCell _ ⟨w.heap.size + 1 + 1, 0, none⟩ (.int .i64 (V x))).trans (KeepsOthers.setCell _ ⟨w.heap.size + 1 + 1 + 1, 0, none⟩ (.bool false)))))).from _, ((hBW2.setCell (p := ⟨w.heap.size + 1, 0, none⟩) (by dsimp only; omega) _).setCell (p := ⟨w.heap.size + 1 + 1, 0, none⟩) (by dsimp only; omega) _).setCell (p := ⟨w.heap.size + 1 + 1 + 1, 0, none⟩) (by dsimp only; omega) _, ?_⟩
      have eX : lsX V (M ++ [x]) = x := by unfold lsX; rw [HN.out]; rfl
      have eV : lsV V (M ++ [x]) = V x := by unfold lsV; rw [HN.out]; rfl
      dsimp only
      rw [preM_snoc, HMP.out, eX, eV, HN.out]
      exact ⟨⟨⟨⟨((hF2.other (by omega) _).other (by omega) _).other (by omega) _, ((hX2.set _).other (by omega) _).other (by omega) _⟩, ((hV2.other (by omega) _).set _).other (by omega) _⟩, ((hN2.other (by omega) _).other (by omega) _).set _⟩, ((hB2.setCell (p := ⟨w.heap.size + 1, 0, none⟩) (by dsimp only; omega) _).setCell (p := ⟨w.heap.size + 1 + 1, 0, none⟩) (by dsimp only; omega) _).setCell (p := ⟨w.heap.size + 1 + 1 + 1, 0, none⟩) (by dsimp only; omega) _⟩
    | some y =>
      have hyX : lsX V M = y := by unfold lsX; rw [hl0]; rfl
      have hyV : lsV V M = V y := by unfold lsV; rw [hl0]; rfl
      have HL0 := Lib.hid hl0
      rw [hl0] at cN hn
      rw [hyX] at cX
      rw [hyV] at cVv
      simp only [Option.isNone_some] at cN
      by_cases hlt : V x < V y
      · have hd : decide (V x < V y) = true := decide_eq_true hlt
        have HN : Hid (lst V (M ++ [x]) = some x) := by rw [hn]; show (if V x < V y then _ else _) = _; rw [if_pos hlt]
        clear hn hl0 hyX hyV
        go_wp2
        gi_wp2
        refine ⟨((hK2.trans ((KeepsOthers.setCell W2 ⟨w.heap.size + 1, 0, none⟩ (.int .i64 x)).trans ((KeepsOthers.setCell _ ⟨w.heap.size + 1 + 1, 0, none⟩ (.int .i64 (V x))).trans (KeepsOthers.setCell _ ⟨w.heap.size + 1 + 1 + 1, 0, none⟩ (.bool false)))))).from _, ((hBW2.setCell (p := ⟨w.heap.size + 1, 0, none⟩) (by dsimp only; omega) _).setCell (p := ⟨w.heap.size + 1 + 1, 0, none⟩) (by dsimp only; omega) _).setCell (p := ⟨w.heap.size + 1 + 1 + 1, 0, none⟩) (by dsimp only; omega) _, ?_⟩
        have eX : lsX V (M ++ [x]) = x := by unfold lsX; rw [HN.out]; rfl
        have eV : lsV V (M ++ [x]) = V x := by unfold lsV; rw [HN.out]; rfl
        dsimp only
        rw [preM_snoc, HMP.out, eX, eV, HN.out]
        exact ⟨⟨⟨⟨((hF2.other (by omega) _).other (by omega) _).other (by omega) _, ((hX2.set _).other (by omega) _).other (by omega) _⟩, ((hV2.other (by omega) _).set _).other (by omega) _⟩, ((hN2.other (by omega) _).other (by omega) _).set _⟩, ((hB2.setCell (p := ⟨w.heap.size + 1, 0, none⟩) (by dsimp only; omega) _).setCell (p := ⟨w.heap.size + 1 + 1, 0, none⟩) (by dsimp only; omega) _).setCell (p := ⟨w.heap.size + 1 + 1 + 1, 0, none⟩) (by dsimp only; omega) _⟩
      · have hd : decide (V x < V y) = false := decide_eq_false hlt
        have HN : Hid (lst V (M ++ [x]) = some y) := by rw [hn]; show (if V x < V y then _ else _) = _; rw [if_neg hlt]
        clear hn hl0 hyX hyV
        go_wp2
        gi_wp2
        refine ⟨hK2.from _, hBW2, ?_⟩
        have eX : lsX V (M ++ [x]) = lsX V M := by unfold lsX; rw [HN.out, HL0.out]
        have eV : lsV V (M ++ [x]) = lsV V M := by unfold lsV; rw [HN.out, HL0.out]
        dsimp only
        rw [preM_snoc, HMP.out, eX, eV, HN.out]
        rw [HL0.out] at hN2
        exact ⟨⟨⟨⟨hF2, hX2⟩, hV2⟩, hN2⟩, hB2⟩
  case done =>
    rintro D ys W hD hys ⟨⟨⟨⟨hF, hX⟩, hV⟩, hN⟩, hB1⟩ hK
    have hM : preM ys = L := hys
    rw [hM] at hX hV
    have cX := hX.cell
    have cVv := hV.cell
    clear hF hX hV hN
    gi_wp2
    refine wpIn_wide.2 ?_
    go_quiet (fail)
    gi_wp2
    refine ⟨by simp, .inl ⟨_, _, rfl, run_takeDeferred (w := W.drewN nq) hK, ?_⟩⟩
    exact ⟨_, results_tmp2 rfl _ _ _, rfl, (below_drewN hB1 nq).trans (belowK_b (w := w) (Nat.le_refl _) (W.drewN nq) D _ _ (by omega) hK rfl rfl)⟩
  case stop =>
    rintro D c pre W _ _ h _
    exact h.elim
end Go.Proofs.Ytkcomhbmhgnhhaa
