/- spec: l01Way, l01Moved, MoveFrame. -/
import Derived.Test.YtjbjbdkmomkclaaRows
import Derived.Test.YtjbjbdkmomkclaaS1
import Derived.Test.YtjbjbdkmomkclaaDots
import Derived.Test.YtjbjbdkmomkclaaPut
namespace Go.Proofs.Ytjbjbdkmomkclaa
set_option maxRecDepth 100000
open Go.RowKit
set_option linter.unusedVariables false
/-- The cells of a slice of dots that the call owns. -/
theorem dot_cells {w : World} {base g cap : Nat} {t : TypeId} {l : List (Nat × Nat)} (h : w.ownsRow base t 2 (.slice (some ⟨g, 0, none⟩) l.length cap) l.length (dotCells l)) {i : Nat} {d : Nat × Nat} (hi : l[i]? = some d) :
    w.cell? ⟨g, i * 2, none⟩ = some (.int .i8 (d.1 : Int)) ∧ w.cell? ⟨g, i * 2 + 1, none⟩ = some (.int .i8 (d.2 : Int)) := by
  have hlt : i < l.length := (List.getElem?_eq_some_iff.1 hi).1
  have key : ∀ (l : List (Nat × Nat)) (i : Nat) (d : Nat × Nat), l[i]? = some d → (dotCells l)[i * 2]? = some (.int .i8 (d.1 : Int)) ∧ (dotCells l)[i * 2 + 1]? = some (.int .i8 (d.2 : Int)) := by
    intro l
    induction l with
    | nil => intro i d h; simp at h
    | cons a l ih =>
      intro i d h
      cases i with
      | zero => simp at h; subst h; exact ⟨rfl, rfl⟩
      | succ i =>
        have h' : l[i]? = some d := by simpa using h
        obtain ⟨k1, k2⟩ := ih i d h'
        have e : dotCells (a :: l) = [.int .i8 (a.1 : Int), .int .i8 (a.2 : Int)] ++ dotCells l := rfl
        rw [e, show (i + 1) * 2 = (i * 2) + 1 + 1 by omega]
        exact ⟨by simpa using k1, by simpa using k2⟩
  obtain ⟨k1, k2⟩ := key l i d hi
  exact ⟨by rw [h.cellAt (i * 2) (by omega), k1], by rw [h.cellAt (i * 2 + 1) (by omega), k2]⟩
theorem dots_shape {w : World} {base : Nat} {t : TypeId} {v : Value} {l : List (Nat × Nat)} (h : w.ownsRow base t 2 v l.length (dotCells l)) :
    ∃ p cap, v = .slice p l.length cap ∧ ∀ i d, l[i]? = some d → ∃ g, p = some ⟨g, 0, none⟩ ∧ w.cell? ⟨g, i * 2, none⟩ = some (.int .i8 (d.1 : Int)) ∧ w.cell? ⟨g, i * 2 + 1, none⟩ = some (.int .i8 (d.2 : Int)) := by
  have h' := h
  obtain ⟨_, ⟨rfl, hl⟩ | ⟨g, cap, cur, rfl, _⟩⟩ := h
  · refine ⟨none, 0, by rw [hl], ?_⟩
    intro i d hi
    have := (List.getElem?_eq_some_iff.1 hi).1
    omega
  · refine ⟨some ⟨g, 0, none⟩, cap, rfl, ?_⟩
    intro i d hi
    obtain ⟨k1, k2⟩ := dot_cells h' hi
    exact ⟨g, rfl, k1, k2⟩
theorem Wrote.grown {B : Nat} {w w' : World} (k : Wrote B w w') : w.grownBy w' (some B) := ⟨k.os, k.tape, k.output, k.size, fun i hi hn => k.block i hi (fun e => hn (by rw [e]))⟩
theorem below_grownBy {w w' : World} (k : Below w.heap.size w w') (row : Option Nat) : w.grownBy w' row := ⟨k.os, k.tape, k.output, k.size, fun i hi _ => k.block i hi⟩
set_option maxHeartbeats 1000000 in
theorem specMoved_any (B : Nat) (f : Nat → Nat) (e s : Int) (e1 : -100 ≤ e) (e2 : e ≤ 100) (s1 : -100 ≤ s) (s2 : s ≤ 100) (w : World) (hf : ∀ k, f k < 65536) (hB : Blk w B 41 f) :
    Calls Try.prog 86 #[.pointer (some ⟨B, 0, none⟩), .int .i64 e, .int .i64 s] w fun e' w' => e' = .returned (.agg (FC (movedS f e s))) ∧ Below w.heap.size w w' := by
  have b1 := (Blk.new w 41 zeroF).alloc (.cells (FC zeroF) 41)
  have b2 := Blk.new (w.alloc (.cells (FC zeroF) 41)) 41 zeroF
  rw [World.size_alloc] at b2
  have h0 := ((Below.refl w.heap.size w).alloc (Nat.le_refl _) (.cells (FC zeroF) 41)).alloc (by simp) (.cells (FC zeroF) 41)
  rw [FC_zero] at b1 b2 h0
  have hlt := hB.lt
  go_enter Try.func86, Try.ntmps86
  go_wp2_with fail
  have hB1 := (hB.alloc (.cells (FC zeroF) 41)).alloc (.cells (FC zeroF) 41)
  rw [FC_zero] at hB1
  generalize ((w.alloc _).alloc _) = w1 at *
  refine (dots_any B f _ hf hB1).mono ?_
  rintro e' w2 ⟨v, rfl, hown, hb1⟩
  have hb1lt := b2.lt
  replace b1 := b1.below hb1 b1.lt
  replace b2 := b2.below hb1 b2.lt
  replace h0 := grown_below h0 hb1 h0.size
  obtain ⟨p, cap, rfl, _⟩ := dots_shape hown
  clear hb1
  go_wp2_with fail
  go_loopw [9] (fun i wr => ∃ k : Nat, k ≤ (dots f).length ∧ i = .int .i64 k ∧ Blk wr w.heap.size 41 zeroF ∧ Blk wr (w.heap.size + 1) 41 (putAll (((dots f).map fun d => ((d.1 : Int) + e, (d.2 : Int) + s)).take k) zeroF) ∧ wr.ownsRow w1.heap.size 108 2 (.slice p (dots f).length cap) (dots f).length (dotCells (dots f)) ∧ Below w.heap.size w wr) (fun i _ => (dots f).length - (intOf i).toNat)
  case atStart => exact ⟨0, by omega, rfl, b1, b2, hown, h0⟩
  case round =>
    obtain ⟨k, hk, rfl, b1, b2, hown, hb⟩ := hrel
    have hlen : (dots f).length ≤ 144 := dotsTo_length f 144
    by_cases hlt' : k < (dots f).length
    · have hd : (dots f)[k]? = some (dots f)[k] := List.getElem?_eq_getElem hlt'
      generalize hdd : (dots f)[k] = d at hd
      have hm := mem_dots.1 (List.mem_of_getElem? hd)
      have hstep : (((dots f).map fun d => ((d.1 : Int) + e, (d.2 : Int) + s)).take (k + 1)) = (((dots f).map fun d => ((d.1 : Int) + e, (d.2 : Int) + s)).take k) ++ [((d.1 : Int) + e, (d.2 : Int) + s)] := by
        rw [List.take_add_one, List.getElem?_map, hd]; rfl
      have HS := Lib.hid hstep
      obtain ⟨p', cap', hpc, hsh⟩ := dots_shape hown
      cases hpc
      obtain ⟨g, rfl, c1, c2⟩ := hsh k d hd
      have hg := (hown.lt g rfl).1
      have c1' := fun dd os => cell_regrown c1 dd os
      have c2' := fun dd os => cell_regrown c2 dd os
      have hm1 := hm.1
      have hm2 := hm.2.1
      clear hd hdd hsh hstep hm
      have k1 : IntKind.i64.wrap ((d.1 : Int) + e) = (d.1 : Int) + e := IntWalk.i64_in _ (by omega)
      have k2 : IntKind.i64.wrap ((d.2 : Int) + s) = (d.2 : Int) + s := IntWalk.i64_in _ (by omega)
      go_wp2_with fail
      refine wp_region_tail 16 (by kernel_rfl) (by kernel_rfl) ?_
      simp only [List.take_succ_cons, List.take_zero, List.drop_succ_cons, List.drop_zero]
      repeat (quiet_step (fail))
      refine wpQuiet_nil ?_
      intro w3 hb3
      replace b1 := b1.below hb3 b1.lt
      replace b2 := b2.below hb3 b2.lt
      replace hown := hown.kept (below_grownBy hb3 none) (.inr (by simp [Value.ownBlock]))
      replace hb := grown_below hb hb3 hb.size
      clear c1 c2 c1' c2' k1 k2
      go_wp2_with (go_at_call 67; refine (put_any _ _ _ _ _ (putAll_lt _ zeroF_lt) b2).mono ?_; rintro e' w4 ⟨rfl, hw, b2'⟩)
      go_roundw
      case rel =>
        go_light
        refine ⟨k + 1, by omega, by go_num, hw.blk b1 (by omega), ?_, hown.kept hw.grown (.inr (by simp [Value.ownBlock]; omega)), hw.below hb (by omega) hb.size⟩
        rw [HS.out, putAll_snoc]
        exact b2'
      case measure => simp [intOf]; omega
    · have hk' : k = (dots f).length := by omega
      subst hk'
      go_wp2_with (first | (refine wpList_load_fr rfl 41 39 _ rfl _ rfl b2 Try.underlying41 (by kernel_rfl) ?_) | (refine wpList_store_fr rfl 41 _ _ rfl _ rfl b1 rfl (by kernel_rfl) ?_))
      refine bodyPost_ret_fr (p := 6) (ty := 41) (e := 39) rfl rfl (b1.setRow _) Try.underlying41 (by kernel_rfl) rfl ⟨?_, below_setRow hb (Nat.le_refl _) _⟩
      rw [List.take_of_length_le (by simp)]
      rfl
end Go.Proofs.Ytjbjbdkmomkclaa
