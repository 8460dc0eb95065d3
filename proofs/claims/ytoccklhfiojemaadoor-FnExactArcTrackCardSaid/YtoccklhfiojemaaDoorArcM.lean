/- ARCS, PLAINLY: keys between keys. No program is named. -/
import Derived.Test.YtoccklhfiojemaaDoorPlaceM
namespace Go.Proofs.YtoccklhfiojemaaDoor
def midK (lift : Int) (p q : Int × Int × Int) : Int × Int × Int := ((p.1 + q.1) / 2, betI p.2.1 q.2.1 500, betI p.2.2 q.2.2 500 - lift)
def gapB (L : List (Int × Int × Int)) (i : Nat) : Bool := decide (0 < i ∧ 2 ≤ (kAt L i).1 - (kAt L (i - 1)).1)
def arcS (lift : Int) (L : List (Int × Int × Int)) (i : Nat) : List (Int × Int × Int) := if gapB L i then [midK lift (kAt L (i - 1)) (kAt L i), kAt L i] else [kAt L i]
def arcTo (lift : Int) (L : List (Int × Int × Int)) : Nat → List (Int × Int × Int)
  | 0 => []
  | k + 1 => arcTo lift L k ++ arcS lift L k
def arcL (lift : Int) (L : List (Int × Int × Int)) : List (Int × Int × Int) := arcTo lift L L.length
theorem arcTo_succ (lift : Int) (L : List (Int × Int × Int)) (k : Nat) : arcTo lift L (k + 1) = arcTo lift L k ++ arcS lift L k := rfl
theorem arcTo_len (lift : Int) (L : List (Int × Int × Int)) (k : Nat) : (arcTo lift L k).length ≤ 2 * k := by
  induction k with
  | zero => simp [arcTo]
  | succ k ih =>
    rw [arcTo_succ, List.length_append]
    unfold arcS
    split <;> simp <;> omega
theorem arcS0 (lift : Int) (L : List (Int × Int × Int)) : arcS lift L 0 = [kAt L 0] := by unfold arcS gapB; simp
theorem arcS_near (lift : Int) (L : List (Int × Int × Int)) (m : Nat) (h : ¬ 2 ≤ (kAt L (m + 1)).1 - (kAt L m).1) : arcS lift L (m + 1) = [kAt L (m + 1)] := by
  unfold arcS gapB; rw [Nat.add_sub_cancel, decide_eq_false (fun hh => h hh.2)]; rfl
theorem arcS_far (lift : Int) (L : List (Int × Int × Int)) (m : Nat) (h : 2 ≤ (kAt L (m + 1)).1 - (kAt L m).1) : arcS lift L (m + 1) = [midK lift (kAt L m) (kAt L (m + 1)), kAt L (m + 1)] := by
  unfold arcS gapB; rw [Nat.add_sub_cancel, decide_eq_true ⟨by omega, h⟩]; rfl
theorem arc_lt {lift : Int} {L : List (Int × Int × Int)} (ho : okT L = true) (hl : -24 ≤ lift ∧ lift ≤ 24) (k : Nat) (hk : k ≤ L.length) : ltK (arcTo lift L k) := by
  induction k with
  | zero => intro x hx; simp [arcTo] at hx
  | succ k ih =>
    intro x hx
    rw [arcTo_succ, List.mem_append] at hx
    rcases hx with hx | hx
    · exact ih (by omega) x hx
    · have q := okT_key ho (i := k) (by omega)
      have q' := okT_key ho (i := k - 1) (by omega)
      have hx' : x = midK lift (kAt L (k - 1)) (kAt L k) ∨ x = kAt L k := by
        unfold arcS at hx
        split at hx <;> simp at hx
        · exact hx
        · exact Or.inr hx
      rcases hx' with rfl | rfl
      · have b1 := betI_bounds (a := (kAt L (k - 1)).2.1) (b := (kAt L k).2.1) (s := 500) q'.2.1 q.2.1 (by omega)
        have b2 := betI_bounds (a := (kAt L (k - 1)).2.2) (b := (kAt L k).2.2) (s := 500) q'.2.2 q.2.2 (by omega)
        unfold midK ltK1
        dsimp only
        omega
      · unfold ltK1; omega
end Go.Proofs.YtoccklhfiojemaaDoor
