import Derived.Test.YtajlkleoincoeacDoorM12
import Derived.Test.YtajlkleoincoeacDoorRows
import Derived.Test.YtajlkleoincoeacDoorM2
import Derived.Test.YtajlkleoincoeacDoorM6
import Derived.Test.YtajlkleoincoeacDoorM9
/- MiddleOf: spec and impl. -/
namespace Go.Proofs.YtajlkleoincoeacDoor
set_option maxRecDepth 100000
open Go.RowKit
set_option linter.unusedVariables false
set_option linter.unusedSimpArgs false
set_option maxHeartbeats 1000000 in
theorem implMiddleOf_any (a b : Nat → Nat) (sa : Nat → Addr) (w : World) (ha : ∀ k, a k < 65536) (hb : ∀ k, b k < 65536) (hs : Sent w sa) :
    Calls Tryd.prog 34 #[.agg (FC a), .agg (FC b)] w fun e w' => e = .returned (.tuple #[.agg (FC (ifC (morC a b 1 2) (morF a b 1 2))), .int .i64 (morC a b 1 2)]) ∧ Below w.heap.size w w' := by
  have cM := fun (W : World) (hB : Below w.heap.size w W) => implMorphAt_any a b 1 2 sa W ha hb (hs.below hB)
  rw [show (1 : Int).toNat = 1 from rfl, show (2 : Int).toNat = 2 from rfl] at cM
  have CM := Lib.hid cM
  have b1 := ((Blk.new w 26 a).alloc (.cells (FC b) 26)).alloc (.cells (FC zeroF) 26)
  have b2 := (Blk.new (w.alloc (.cells (FC a) 26)) 26 b).alloc (.cells (FC zeroF) 26)
  have b3 := Blk.new ((w.alloc (.cells (FC a) 26)).alloc (.cells (FC b) 26)) 26 zeroF
  rw [World.size_alloc] at b2
  rw [World.size_alloc, World.size_alloc] at b3
  have h0 := (((Below.refl w.heap.size w).alloc (Nat.le_refl _) (.cells (FC a) 26)).alloc (by simp) (.cells (FC b) 26)).alloc (by simp; omega) (.cells (FC zeroF) 26)
  rw [FC_zero] at b1 b2 b3 h0
  clear cM hs
  generalize ifC (morC a b 1 2) (morF a b 1 2) = r at *
  generalize morC a b 1 2 = c at *
  go_enter Tryd.func34, Tryd.ntmps34
  go_wp2_with (first | (refine wpList_load_fr rfl 26 24 _ rfl _ rfl b1 Tryd.underlying26 (by kernel_rfl) ?_) | (refine wpList_load_fr rfl 26 24 _ rfl _ rfl b2 Tryd.underlying26 (by kernel_rfl) ?_))
  generalize (((w.alloc _).alloc _).alloc _) = w0 at *
  refine (CM.out _ h0).mono ?_
  rintro e w1 ⟨rfl, hb1⟩
  replace b3 := b3.below hb1 b3.lt
  replace h0 := grown_below h0 hb1 h0.size
  clear hb1
  go_wp2_with (refine wpList_store_fr rfl 26 _ _ rfl _ rfl b3 rfl (by kernel_rfl) ?_)
  exact bodyPost_ret_fr2 (p := 4) (u := 5) (ty := 26) (e := 24) rfl rfl (b3.setRow _) Tryd.underlying26 (by kernel_rfl) rfl ⟨rfl, below_setRow h0 (by omega) _⟩
end Go.Proofs.YtajlkleoincoeacDoor

/- impl: Frame.join: two frames, place by place. -/
namespace Go.Proofs.YtajlkleoincoeacDoor
set_option maxRecDepth 100000
open Go.RowKit
set_option maxHeartbeats 400000 in
theorem join_any (f g : Nat → Nat) (hf : ∀ k, f k < 65536) (hg : ∀ k, g k < 65536) (w : World) :
    Calls Tryd.prog 89 #[.agg (FC f), .agg (FC g)] w fun e w' => e = .returned (.agg (FC (joinF f g))) ∧ Below w.heap.size w w' := by
  obtain ⟨i0, hi0⟩ : ∃ i, Tryd.prog.info? 24 = some i := ⟨_, rfl⟩
  go_enter Tryd.func89, Tryd.ntmps89
  have b1 := Blk.new w 26 f
  have b2 := Blk.new (w.alloc (.cells (FC f) 26)) 26 g
  have b3 := Blk.new ((w.alloc (.cells (FC f) 26)).alloc (.cells (FC g) 26)) 26 zeroF
  have b1' := (b1.alloc (.cells (FC g) 26)).alloc (.cells (FC zeroF) 26)
  have b2' := b2.alloc (.cells (FC zeroF) 26)
  have hb := (((Below.refl w.heap.size w).alloc (Nat.le_refl _) (.cells (FC f) 26)).alloc (by simp) (.cells (FC g) 26)).alloc (by simp; omega) (.cells (FC zeroF) 26)
  rw [World.size_alloc] at b2 b2'
  rw [World.size_alloc, World.size_alloc] at b3
  clear b1 b2
  rw [FC_zero] at b1' b2' b3 hb
  go_wp2_with (refine wpList_load_fr rfl 26 24 _ rfl _ rfl b2' Tryd.underlying26 (by kernel_rfl) ?_)
  generalize (((w.alloc (.cells (FC f) 26)).alloc (.cells (FC g) 26)).alloc _) = w1 at *
  go_loopw [8] (fun i wr => ∃ k : Nat, k ≤ 12 ∧ i = .int .i64 k ∧ Blk wr w.heap.size 26 (fun y => if y < k then joinF f g y else f y) ∧ Blk wr (w.heap.size + 1 + 1) 26 zeroF ∧ Below w.heap.size w wr) (fun i _ => 12 - (intOf i).toNat)
  case atStart => exact ⟨0, by omega, rfl, b1'.ext (by simp), b3, hb⟩
  case round =>
    obtain ⟨k, hk, rfl, h1, h3, hb⟩ := hrel
    by_cases hlt : k < 12
    · have ix := fun w => run_index_fr (P := Tryd.prog) w g hlt Tryd.underlying26 (by kernel_rfl) hi0 (by kernel_rfl)
      have c1 := h1.cell hlt
      rw [if_neg (Nat.lt_irrefl k)] at c1
      have f1 := h1.free k
      have hop := u16_or_nat (f k) (g k) (hf k) (hg k)
      clear hi0
      go_wp2
      go_roundw
      case rel =>
        go_light
        refine ⟨k + 1, by omega, by go_num, (h1.set hlt _).ext ?_, h3.other _ (by show _ ≠ w.heap.size; omega), hb.setCell (Nat.le_refl _) _⟩
        intro j hj
        unfold upd
        by_cases e : j = k
        · subst e; simp [joinF]
        · rw [if_neg e]; simp only [show j < k + 1 ↔ j < k by omega]
      case measure => simp [intOf]; omega
    · go_wp2_with (first | (refine wpList_load_fr rfl 26 24 _ rfl _ rfl h1 Tryd.underlying26 (by kernel_rfl) ?_) | (refine wpList_store_fr rfl 26 _ _ rfl _ rfl h3 rfl (by kernel_rfl) ?_))
      refine bodyPost_ret_fr (p := 4) (ty := 26) (e := 24) rfl rfl (h3.setRow _) Tryd.underlying26 (by kernel_rfl) rfl ⟨?_, below_setRow hb (by omega) _⟩
      congr 2
      exact FC_ext (fun j hj => by rw [if_pos (by omega)])
end Go.Proofs.YtajlkleoincoeacDoor

/- A region that draws its order, of which all but one chain of operations is the same in every world: those are taken first, the chain is then walked in its one order. No function of the program is named. -/
namespace Go.Proofs.YtajlkleoincoeacDoor
section
variable {P : Program} {Q : Exit → Act → World → Prop}
theorem wp_region_takes {id : Nat} {a : Act} {w : World} {l : List Oper} (hm : P.follows .mixedOrders = true)
    (h : wpAnyH P .any l.toArray (normalOnly Q) (fun _ => True) l.toArray.size (Array.replicate l.toArray.size false) a w.drew) : (Code.region id l.toArray true).wp P Q a w :=
  Code.wp_mono (Q := normalOnly Q) (fun e a' w' ⟨he, hq⟩ => by subst he; exact hq) (wp_region_any hm (wpAny_of_held _ _ _ _ h))
def forcedB (ops : Array Oper) : List Nat → Array Bool → Bool
  | [], listed => (Region.ready .any ops listed).isEmpty
  | i :: is, listed => decide (Region.ready .any ops listed = [i]) && forcedB ops is (listed.setIfInBounds i true)
theorem wpAny_of_forced {ops : Array Oper} {Q' : Exit → Act → World → Prop} : ∀ (is : List Nat) (fuel : Nat) (listed : Array Bool) (a : Act) (w : World), is.length ≤ fuel → forcedB ops is listed = true → wpList P ops Q' (is.filterMap (ops[·]?)) a w → wpAny P .any ops Q' fuel listed a w
  | [], fuel, listed, a, w, _, hB, h => by
    have hr : Region.ready .any ops listed = [] := by simpa [forcedB] using hB
    cases fuel with
    | zero => exact ⟨hr, h⟩
    | succ f => exact ⟨fun _ => h, by rw [hr]; simp⟩
  | i :: is, 0, _, _, _, hf, _, _ => by simp at hf
  | i :: is, fuel + 1, listed, a, w, hf, hB, h => by
    simp only [forcedB, Bool.and_eq_true, decide_eq_true_eq] at hB
    obtain ⟨hr, hB'⟩ := hB
    have hi : ∃ o, ops[i]? = some o := by
      obtain ⟨_, o, ho, _⟩ := mem_ready.1 (show i ∈ Region.ready .any ops listed by rw [hr]; simp)
      exact ⟨o, ho⟩
    obtain ⟨o, ho⟩ := hi
    have hfm : (i :: is).filterMap (ops[·]?) = o :: is.filterMap (ops[·]?) := by simp [ho]
    rw [hfm] at h
    refine ⟨fun h0 => by (rw [hr] at h0; cases h0), fun j hj => ?_⟩
    rw [hr] at hj
    obtain rfl : j = i := by simpa using hj
    have hw : wpOp P ops Q' j (wpList P ops Q' (is.filterMap (ops[·]?))) a w := by unfold wpOp; simp only [ho]; exact h
    exact wpOp_mono (fun a' w' h' => wpAny_of_forced is fuel _ a' w' (by simp at hf; omega) hB' h') hw
theorem forced {l : List Oper} {fuel : Nat} {listed : Array Bool} {a : Act} {w : World} (is : List Nat) (hf : is.length ≤ fuel) (hB : forcedB l.toArray is listed = true) (h : wpList P l.toArray (normalOnly Q) (is.filterMap (l.toArray[·]?)) a w) :
    wpAnyH P .any l.toArray (normalOnly Q) (fun _ => True) fuel listed a w := held_of_any _ _ _ _ (wpAny_of_forced is fuel listed a w hf hB h)
end
end Go.Proofs.YtajlkleoincoeacDoor

/- spec: JumpsOf, AllJumps, LoopJumps. -/
namespace Go.Proofs.YtajlkleoincoeacDoor
open Go.RowKit
set_option linter.unusedVariables false
set_option linter.unusedSimpArgs false
theorem jumpsL_bounds (L : List (Nat → Nat)) : ∀ x ∈ jumpsL L, 0 ≤ x ∧ x ≤ 192 := by
  intro x hx
  obtain ⟨i, _, rfl⟩ := List.mem_map.1 hx
  exact jmp_bounds L i
theorem jumpsL_length (L : List (Nat → Nat)) : (jumpsL L).length = L.length - 1 := tab_length _ _
theorem okB_len {L : List (Nat → Nat)} (h : okB L = true) : L.length ≤ 40 := (okB_iff.1 h).1
def allV (L : List (Nat → Nat)) : Int := ifI (okBC L) (sumI (jumpsL L))
def loopV (L : List (Nat → Nat)) : Int := ifI (okBC L) (sumI (tab (jmp L) L.length))
end Go.Proofs.YtajlkleoincoeacDoor
