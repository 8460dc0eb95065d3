/- A region that draws its order, of which all but one chain of operations is the same in every world: those are taken first, the chain is then walked in its one order. No function of the program is named. -/
import Derived.Test.YtjbjbdkmomkclabQuiet2
import Derived.Test.YtjbjbdkmomkclabHeld
namespace Go.Proofs.Ytjbjbdkmomkclab
section
variable {P : Program} {Q : Exit → Act → World → Prop}
theorem wp_region_takes {id : Nat} {a : Act} {w : World} {l : List Oper} (hm : P.follows .mixedOrders = true)
    (h : wpAnyH P .any l.toArray (normalOnly Q) (fun _ => True) l.toArray.size (Array.replicate l.toArray.size false) a w.drew) : (Code.region id l.toArray true).wp P Q a w :=
  Code.wp_mono (Q := normalOnly Q) (fun e a' w' ⟨he, hq⟩ => by subst he; exact hq) (wp_region_any hm (wpAny_of_held _ _ _ _ h))
def forcedB (ops : Array Oper) : List Nat → Array Bool → Bool
  | [], listed => (Region.ready .any ops listed).isEmpty
  | i :: is, listed => decide (Region.ready .any ops listed = [i]) && forcedB ops is (listed.setIfInBounds i true)
theorem wpAny_of_forced {ops : Array Oper} {Q' : Exit → Act → World → Prop} : ∀ (is : List Nat) (fuel : Nat) (listed : Array Bool) (a : Act) (w : World), is.length ≤ fuel → forcedB ops is listed = true → wpList P ops Q' (is.filterMap (ops[·]?)) a w → wpAny P .any ops Q' fuel listed a w
  | [], fuel, listed, a, w, _, hB, h => by
    have hr : Region.ready .any ops listed = [] := by simpa [forcedB] using hB
    cases fuel with
    | zero => exact ⟨hr, h⟩
    | succ f => exact ⟨fun _ => h, by rw [hr]; simp⟩
  | i :: is, 0, _, _, _, hf, _, _ => by simp at hf
  | i :: is, fuel + 1, listed, a, w, hf, hB, h => by
    simp only [forcedB, Bool.and_eq_true, decide_eq_true_eq] at hB
    obtain ⟨hr, hB'⟩ := hB
    have hi : ∃ o, ops[i]? = some o := by
      obtain ⟨_, o, ho, _⟩ := mem_ready.1 (show i ∈ Region.ready .any ops listed by rw [hr]; simp)
      exact ⟨o, ho⟩
    obtain ⟨o, ho⟩ := hi
    have hfm : (i :: is).filterMap (ops[·]?) = o :: is.filterMap (ops[·]?) := by simp [ho]
    rw [hfm] at h
    refine ⟨fun h0 => by (rw [hr] at h0; cases h0), fun j hj => ?_⟩
    rw [hr] at hj
    obtain rfl : j = i := by simpa using hj
    have hw : wpOp P ops Q' j (wpList P ops Q' (is.filterMap (ops[·]?))) a w := by unfold wpOp; simp only [ho]; exact h
    exact wpOp_mono (fun a' w' h' => wpAny_of_forced is fuel _ a' w' (by simp at hf; omega) hB' h') hw
theorem forced {l : List Oper} {fuel : Nat} {listed : Array Bool} {a : Act} {w : World} (is : List Nat) (hf : is.length ≤ fuel) (hB : forcedB l.toArray is listed = true) (h : wpList P l.toArray (normalOnly Q) (is.filterMap (l.toArray[·]?)) a w) :
    wpAnyH P .any l.toArray (normalOnly Q) (fun _ => True) fuel listed a w := held_of_any _ _ _ _ (wpAny_of_forced is fuel listed a w hf hB h)
end
end Go.Proofs.Ytjbjbdkmomkclab
