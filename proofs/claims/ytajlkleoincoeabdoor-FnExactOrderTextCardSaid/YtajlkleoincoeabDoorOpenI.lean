/- An argument that is a slice of numbers, opened as a list; how long a slice can be that is read ahead of the call. -/
import Derived.Test.YtajlkleoincoeabDoorOpenL
import Derived.OpenShut
import Derived.ProofKit
import Derived.SizedLaws
namespace Go.Proofs.YtajlkleoincoeabDoor
open Go.RowKit Go.ChangeShapes Go.WideShapes Go.Deep
section
variable {H : Type} {enc : TypeId × Value → H} {P : Program} {w : World} {base : Nat} {spare : Nat → Bool} {held : Bool}
theorem elem_i64 {e : TypeId} (he : P.underlying e = some (.int .i64)) (n : Nat) (cs : List Value) (y : DataW H × List MemPlace) (_ : cs.length = 1)
    (h : DataW.trod enc P w base spare held n e cs = some y) : ∃ z : Int, cs = (eI .i64).c z ∧ (Lit.int .i64 z).wf = true := by
  obtain ⟨a, ha, _, wa⟩ := DataW.trod_int he h
  exact ⟨a, by simpa [eI] using ha, wa⟩
theorem list_sized {α : Type} {E : Enc α} {t e : TypeId} {v : Value} {d : DataW H} {p : List MemPlace} (ht : P.underlying t = some (.slice e)) (h : DataW.Trod enc P w base spare held t v d p)
    {ts : List TypeId} {ds : List (DataW H)} (hz : (DataW.weightsEach P ts ds).all (· ≤ reachBytes) = true) {j : Nat} (hts : ts[j]? = some t) (hds : ds[j]? = some d) (hb : 1 ≤ P.bytesOf e) {B : Nat} {L : List α} (hs : SlAt E w B v L) : L.length ≤ 140737488351232 := by
  obtain ⟨A, c, rfl, _, _, _⟩ := hs
  obtain ⟨fuel, hf⟩ := h
  have hc : (Value.slice A L.length c).cells.toList = [.slice A L.length c] := rfl
  rw [hc] at hf
  rcases open_slice ht hf with ⟨h0, _⟩ | ⟨a, len, cap, m, n, D, Pl, hc, _, hl, hm, hmm, hx, hi⟩
  · have : L.length = 0 := by injection h0 with h0 _; injection h0
    omega
  · have e1 : L.length = len := by injection hc with hc _; injection hc
    have hd : d = .slice ((List.range len).map D) ((List.range (m - len)).map fun j => D (len + j)) := congrArg Prod.fst hx
    rw [hd] at hds
    have := sized_slice hz hts hds ht
    simp only [List.length_map, List.length_range] at this
    have h2 : (len + (m - len)) * 1 ≤ (len + (m - len)) * P.bytesOf e := Nat.mul_le_mul_left _ hb
    have h3 : reachBytes = 140737488351232 := rfl
    omega
end
end Go.Proofs.YtajlkleoincoeabDoor
