/- slices.Collect, slices.AppendSeq at Dot, over whatever iterator. -/
import Derived.Test.YtennmnkjdchbhacDoorRows
import Derived.Test.YtennmnkjdchbhacDoorRound
import Derived.Test.YtennmnkjdchbhacDoorIter
import Derived.Test.YtennmnkjdchbhacDoorMem
import Derived.Test.YtennmnkjdchbhacDoorLDot
import Derived.Shelf.Abstract
import Derived.RangeFuncBox
namespace Go.Proofs.YtennmnkjdchbhacDoor
set_option maxRecDepth 100000
open Go.RowKit Go.Shelf
set_option linter.unusedVariables false
attribute [local go_sem] Oper.semAt_some
theorem run_build_dts (w : World) (s : Int × Int) : (Instr.buildSlice 30 1 #[(0, .agg (eSh.c s).toArray)]).run Tryd.prog w = .ok (.slice (some ⟨w.heap.size, 0, none⟩) 1 1) (w.alloc (.cells (eSh.c s).toArray 65)) := by kernel_rfl
set_option maxRecDepth 100000 in
set_option maxHeartbeats 2000000 in
theorem appendDot_any (g : Nat) (lb : Array Value) (hg : ∀ args w, (callFunc g args).run Tryd.prog w = .ok (.enter g args) w) (encs : Int × Int → Array Value) (hen : ∀ x, encs x = #[.agg (eSh.c x).toArray]) (L : List (Int × Int)) (hL : L.length ≤ 1000000) (w : World)
    (hS : ∀ w', Below w.heap.size w w' → StopsL 3 Tryd.prog g lb encs w.heap.size L w') :
    Calls Tryd.prog 51 #[.slice none 0 0, .func (.func g) #[] lb] w (GivesV eSh 65 L w) := by
  refine (callsIn_wide (n := 4)).1 ?_
  refine callsIn_of_wp_marks Tryd.func51 rfl trivial ?_ rfl
  simp only [Tryd.ntmps51, List.size_toArray, List.length_cons, List.length_nil, Nat.reduceAdd, Nat.reduceSub, Array.replicate_succ, Array.replicate_zero, List.push_toArray, List.append_toArray, List.nil_append, List.cons_append]
  gi_wp2
  have bO := Boxed.new w 30 (.slice none 0 0)
  have h0 := (Below.refl w.heap.size w).alloc (Nat.le_refl _) (.cells #[.slice none 0 0] 30)
  have hsz : (w.alloc (.cells #[.slice none 0 0] 30)).heap.size = w.heap.size + 1 := by simp
  generalize w.alloc _ = w1 at *
  refine wpIn_rangeFunc_ownH rfl (by omega) (gf := g) (lb := lb) rfl trivial hg (hS w1 h0).stops belowK_t (belowK_b (by omega)) (Below.refl _ _) (fun x => by rw [hen]; rfl)
    (fun pre W => (∃ v, Boxed W w.heap.size 30 v ∧ OwnL eSh W w.heap.size 65 v (pre.map (·.1)) ∧ True) ∧ Below w.heap.size w W)
    (fun _ _ _ => False)
    (OwnFrom.and (Own.from (holdsRow_own w.heap.size w.heap.size 30 65 eSh.n (fun pre : List { x // x ∈ L } => (pre.map (·.1)).length) (fun pre => eSh.cells (pre.map (·.1))) (fun pre v => True)) _) (ownFrom_below (Nat.le_refl _) (by omega)))
    (fun _ _ _ _ _ hs _ _ => hs)
    ⟨⟨_, bO, OwnL.nil_ _ _ _, trivial⟩, h0⟩
    (fun x a' W => ∃ Bx, w.heap.size < Bx ∧ Row W Bx 65 (eSh.c x.1).toArray ∧ a' = { tmps := #[.slice none 0 0, .func (.func g) #[] lb, .pointer (some ⟨w.heap.size, 0, none⟩), undef, .slice none 0 0, .pointer (some ⟨Bx, 0, none⟩), .func (.func g) #[] lb, .agg (eSh.c x.1).toArray, undef, undef, undef, undef, undef], defers := [] })
    (fun x a' _ X Y row hs hg hr => by obtain ⟨Bx, h1, h2, h3⟩ := hs; exact ⟨Bx, h1, h2.kept hg (fun r e => (hr r e).2), h3⟩)
    ?assign ?body ?done ?stop
  case assign =>
    rintro l pre x W K ⟨⟨v, hv, hown, _⟩, hB1⟩ hK
    have hl3 := hv.lt
    have hone : ∀ u ∈ (eSh.c x.1).toArray.toList, u.oneCell' = true := fun u hu => eSh.one x.1 u (by simpa using hu)
    have hlen : (eSh.c x.1).toArray.size = eSh.n := by simp [eSh.len]
    rw [hen]
    obtain ⟨cs, hcs⟩ : ∃ cs, (eSh.c x.1).toArray = cs := ⟨_, rfl⟩
    rw [hcs] at hone hlen hK ⊢
    refine round_list ?_
    go_wp2_with (refine wpList_store_row rfl 65 _ _ rfl _ rfl (Row.new W 65 _) rfl hlen hone (by rw [hlen]; kernel_rfl) ?_; rw [setRow_new])
    exact hK _ _ ((KeepsOthers.alloc _ _).from _) ((Below.refl _ W).alloc hB1.size _) ⟨⟨v, hv.alloc _, hown.alloc _, trivial⟩, hB1.alloc hB1.size _⟩ ⟨W.heap.size, hl3, Row.new W _ _, rfl⟩
  case body =>
    rintro l pre x a' W hl _ ⟨⟨v, hv, hown, _⟩, hB1⟩ ⟨Bx, hBx, bX, rfl⟩ hpl
    obtain ⟨x, hx⟩ := x
    have hinf : (Tryd.prog.info? 65).map (·.size) = some ((eSh.c x).toArray).size := by rw [show ((eSh.c x).toArray).size = eSh.n by simp [eSh.len]]; kernel_rfl
    have hc := hv.cell
    have hlb := bX.lt
    have hsz2 := hB1.size
    have hpl' : (pre.map (·.1)).length ≤ 1000000000 := by rw [List.length_map]; omega
    have hmap : (pre ++ [(⟨x, hx⟩ : { x // x ∈ L })]).map (·.1) = pre.map (·.1) ++ [x] := by simp
    obtain ⟨M, hM⟩ : ∃ M, pre.map (·.1) = M := ⟨_, rfl⟩
    rw [hM] at hown hpl' hmap
    have HM := Lib.hid hmap
    clear hmap hM
    dsimp only at bX ⊢
    gi_step
    refine round_list ?_
    go_wp2_with (first | (refine wpList_load_row rfl 65 _ rfl _ rfl _ _ _ _ bX Tryd.underlying65 rfl hinf ?_) | (refine wpList_build1 (v := .agg (eSh.c x).toArray) (cs := (eSh.c x).toArray) rfl 30 65 _ rfl rfl (fun w => run_build_dts w x) ?_) | (at_builtin; refine wpList_append_one rfl _ _ 30 rfl w.heap.size 65 Tryd.underlying30 infoDt rfl (by decide) (by omega) (hown.alloc (.cells (eSh.c x).toArray 65)) rfl x rfl (range_new _ _ (eSh.c x).toArray) hpl' (by simp; omega) ?_; intro v' w4 hown' hgrow; obtain ⟨g', cap', rfl⟩ := ownsRow_succ (k := M.length) (xs := eSh.cells (M ++ [x])) (by have h' := hown'; unfold OwnL at h'; rwa [List.length_append] at h'); obtain ⟨hv1, hv2, hr2, hk2, hb2⟩ := hv.appended (by decide) hown hsz2 (Nat.le_refl _) hown' hgrow; have hc1 := hv1.cell; have hf1 := hv1.frozen))
    exact ⟨hk2.from _, hb2, ⟨⟨_, hv2, by rw [HM.out]; exact ⟨hr2, trivial⟩⟩, hB1.trans hb2⟩⟩
  case done =>
    rintro D ys W hD hys ⟨⟨v, hv, hown, _⟩, hB1⟩ hK
    rw [hys] at hown
    have hc := hv.cell
    gi_wp2
    refine ⟨by simp, .inl ⟨_, _, rfl, run_takeDeferred hK, ?_⟩⟩
    exact ⟨_, results_tmp rfl _ _ _, v, rfl, ownsRow_putObj hown _ hK rfl, hB1.trans (belowK_b (w := w) (Nat.le_refl _) W D _ _ (by omega) hK rfl rfl)⟩
  case stop =>
    rintro D c pre W _ _ h _
    exact h.elim
set_option maxHeartbeats 1000000 in
theorem collectDot_any (g : Nat) (lb : Array Value) (hg : ∀ args w, (callFunc g args).run Tryd.prog w = .ok (.enter g args) w) (encs : Int × Int → Array Value) (hen : ∀ x, encs x = #[.agg (eSh.c x).toArray]) (L : List (Int × Int)) (hL : L.length ≤ 1000000) (w : World)
    (hS : ∀ w', Below w.heap.size w w' → StopsL 3 Tryd.prog g lb encs w.heap.size L w') :
    Calls Tryd.prog 35 #[.func (.func g) #[] lb] w (GivesV eSh 65 L w) := by
  have cA := appendDot_any g lb hg encs hen L hL w hS
  go_enter Tryd.func35, Tryd.ntmps35
  go_wp2_with (go_at_call 51; refine cA.mono ?_; rintro e w' ⟨v, rfl, hown, hb⟩)
  go_ret
  exact ⟨v, rfl, hown, hb⟩
end Go.Proofs.YtennmnkjdchbhacDoor
