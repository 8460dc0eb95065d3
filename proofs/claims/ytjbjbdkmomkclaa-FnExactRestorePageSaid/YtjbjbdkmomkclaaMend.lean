/- MendPage: spec and impl; slices.Clone of a book. -/
import Derived.Test.YtjbjbdkmomkclaaPg
import Derived.Test.YtjbjbdkmomkclaaMaj
import Derived.Test.YtjbjbdkmomkclaaApp
namespace Go.Proofs.Ytjbjbdkmomkclaa
set_option maxRecDepth 100000
open Go.RowKit
set_option linter.unusedVariables false
set_option linter.unusedSimpArgs false
def meC (L : List (Nat → Nat)) (p : Int) : Int := if pgC L p = 0 then (if hpB L (p - 1) && hpB L (p + 1) then 0 else 6) else pgC L p
def meL (L : List (Nat → Nat)) (p : Int) : List (Nat → Nat) := L.set p.toNat (majF (fAt L (p - 1).toNat) (fAt L p.toNat) (fAt L (p + 1).toNat))
theorem me_if_len (L : List (Nat → Nat)) (p : Int) : (ifL (meC L p) (meL L p)).length ≤ 1000 := by
  unfold ifL
  split
  · rename_i h
    unfold meC at h
    split at h
    · rename_i h0
      rcases pgC_cases L p with ⟨_, hc⟩ | ⟨_, _, hc⟩ | ⟨ho, _, hc⟩
      · omega
      · omega
      · unfold meL; rw [List.length_set]; have := okB_len ho; omega
    · rename_i h0; exact absurd h h0
  · simp
theorem infoFrD : (Try.prog.info? 41).map (fun i => (i.zero, i.size, i.bytes)) = some (some (.agg (FC zeroF)), eFr.n, 24) := by kernel_rfl
theorem cellsFrD : Try.prog.cellsOf 41 = eFr.n := by kernel_rfl
set_option maxHeartbeats 400000 in
theorem clone_any (v : Value) (L : List (Nat → Nat)) (w : World) (hl : L.length ≤ 1000) (h0 : 0 < L.length) (h : SlAt eFr w w.heap.size v L) :
    Calls Try.prog 65 #[v] w (GivesV eFr 41 L w) := by
  have h' := h
  obtain ⟨A, c, rfl, h1, h2, hA⟩ := h'
  obtain ⟨b1, o1, rfl, hb1, r1⟩ := hA h0
  have hm := OwnL.made (E := eFr) w w.heap.size 41 (Nat.le_refl _)
  have hb := (Below.refl w.heap.size w).alloc (Nat.le_refl _) (.cells #[] 41)
  have sp := h.alloc (Nat.le_refl _) (.cells #[] 41)
  have hq : ∀ w, (binOp .eql 31 (.slice (some ⟨b1, o1, none⟩) L.length c) (.slice none 0 0)).run Try.prog w = .ok (.bool false) w := fun w => Lib.run_eql_slice_nil w 31 41 (some ⟨b1, o1, none⟩) L.length c 0 0 Try.underlying31
  clear hA r1
  go_enter Try.func65, Try.ntmps65
  go_wp2_with (at_builtin; refine wpList_append_sl rfl _ _ 31 rfl w.heap.size 41 Try.underlying31 infoFrD rfl (by decide) (by omega) hm rfl rfl sp (by simp; omega) (by simp) ?_; intro v1 w1 hown hgrow)
  go_ret
  rw [List.nil_append] at hown
  exact ⟨_, rfl, hown, hm.grown_below hb hgrow (Nat.le_refl _) (by simp)⟩
end Go.Proofs.Ytjbjbdkmomkclaa
