/- STEPS: how a step lies in memory: four int8 and a slice of changes; lists of steps. No function of the program is named. -/
import Derived.Test.YtjbjbdkmomkclaaLChg
import Derived.Test.YtjbjbdkmomkclaaL1
import Derived.Test.YtjbjbdkmomkclaaMem
import Derived.Test.YtjbjbdkmomkclaaRoom
namespace Go.Proofs.Ytjbjbdkmomkclaa
open Go.RowKit
set_option linter.unusedVariables false
set_option linter.unusedSimpArgs false
abbrev Hd := Int × Int × Int × Int
abbrev Raw := Hd × Option Addr × Nat × Nat
abbrev Stp := Hd × List (Int × Int)
def StC (h : Hd) (v : Value) : Array Value := #[.int .i8 h.1, .int .i8 h.2.1, .int .i8 h.2.2.1, .int .i8 h.2.2.2, v]
theorem StC_one (h : Hd) (v : Value) (hv : v.oneCell' = true) : ∀ u ∈ (StC h v).toList, u.oneCell' = true := by
  intro u hu
  simp [StC] at hu
  rcases hu with rfl | rfl | rfl | rfl | rfl
  · rfl
  · rfl
  · rfl
  · rfl
  · exact hv
def rvOf (r : Raw) : Value := .slice r.2.1 r.2.2.1 r.2.2.2
def eSt : Enc Raw := ⟨fun r => (StC r.1 (rvOf r)).toList, 5, fun _ => rfl, fun r => StC_one r.1 (rvOf r) rfl⟩
theorem eSt_n : eSt.n = 5 := rfl
def zeroHd : Hd := (0, 0, 0, 0)
def fillHd : Hd := (-101, -101, -101, -101)
def zeroRaw : Raw := (zeroHd, none, 0, 0)
def zeroStp : Stp := (zeroHd, [])
def fillStp : Stp := (fillHd, [fillCg])
def rAt (R : List Raw) (i : Nat) : Raw := R.getD i zeroRaw
theorem rAt_get {R : List Raw} {i : Nat} (h : i < R.length) : R[i]? = some (rAt R i) := by
  unfold rAt
  rw [List.getD_eq_getElem?_getD, List.getElem?_eq_getElem h]; rfl
/-- The step at an index. -/
def tAt (L : List Stp) (i : Nat) : Stp := L.getD i zeroStp
theorem tAt_get {L : List Stp} {i : Nat} (h : i < L.length) : L[i]? = some (tAt L i) := by
  unfold tAt
  rw [List.getD_eq_getElem?_getD, List.getElem?_eq_getElem h]; rfl
/-- What a step's fields hold. -/
def ltHd (h : Hd) : Prop := (-128 ≤ h.1 ∧ h.1 ≤ 127) ∧ (-128 ≤ h.2.1 ∧ h.2.1 ≤ 127) ∧ (-128 ≤ h.2.2.1 ∧ h.2.2.1 ≤ 127) ∧ -128 ≤ h.2.2.2 ∧ h.2.2.2 ≤ 127
def ltSt1 (s : Stp) : Prop := ltHd s.1 ∧ ltCg s.2
def ltSt (L : List Stp) : Prop := ∀ s ∈ L, ltSt1 s
theorem tAt_lt {L : List Stp} (h : ltSt L) (i : Nat) : ltSt1 (tAt L i) := by
  by_cases hi : i < L.length
  · exact h _ (List.mem_of_getElem? (tAt_get hi))
  · unfold tAt
    rw [List.getD_eq_getElem?_getD, List.getElem?_eq_none (by omega)]
    refine ⟨by simp [zeroStp, zeroHd, ltHd], fun s hs => by simp [zeroStp] at hs⟩
section
variable {w w' : World} {B b o : Nat} {v z : Value} {L : List Stp} {h : Hd}
theorem st_cell0 (r : w.rangeAt b o (StC h z).toList) : w.cell? ⟨b, o, none⟩ = some (.int .i8 h.1) := r 0 _ rfl
theorem st_cell1 (r : w.rangeAt b o (StC h z).toList) : w.cell? ⟨b, o + 1, none⟩ = some (.int .i8 h.2.1) := r 1 _ rfl
theorem st_cell2 (r : w.rangeAt b o (StC h z).toList) : w.cell? ⟨b, o + 2, none⟩ = some (.int .i8 h.2.2.1) := r 2 _ rfl
theorem st_cell3 (r : w.rangeAt b o (StC h z).toList) : w.cell? ⟨b, o + 3, none⟩ = some (.int .i8 h.2.2.2) := r 3 _ rfl
theorem st_cell4 (r : w.rangeAt b o (StC h z).toList) : w.cell? ⟨b, o + 4, none⟩ = some z := r 4 _ rfl
/-- The slice value v reads as the list L of steps; all that it reads lies below block B. -/
def StsAt (w : World) (B : Nat) (v : Value) (L : List Stp) : Prop :=
  ∃ A c, v = .slice A L.length c ∧ L.length ≤ c ∧ c ≤ maxLen ∧ (0 < L.length → ∃ b o, A = some ⟨b, o, none⟩ ∧ b < B ∧ ∀ i, i < L.length → ∃ z, w.rangeAt b (o + i * 5) (StC (tAt L i).1 z).toList ∧ SlAt eCg w B z (tAt L i).2)
theorem StsAt.keep (h : StsAt w B v L) (hk : ∀ b, b < B → w'.heap[b]? = w.heap[b]?) : StsAt w' B v L := by
  obtain ⟨A, c, hv, h1, h2, h3⟩ := h
  refine ⟨A, c, hv, h1, h2, fun hp => ?_⟩
  obtain ⟨b, o, ha, hb, hr⟩ := h3 hp
  refine ⟨b, o, ha, hb, fun i hi => ?_⟩
  obtain ⟨z, r, s⟩ := hr i hi
  exact ⟨z, range_keep r (hk b hb), s.keep hk⟩
theorem StsAt.below (h : StsAt w B v L) (hb : Below B w w') : StsAt w' B v L := h.keep hb.block
theorem StsAt.mono {B' : Nat} (h : StsAt w B v L) (hB : B ≤ B') : StsAt w B' v L := by
  obtain ⟨A, c, hv, h1, h2, h3⟩ := h
  refine ⟨A, c, hv, h1, h2, fun hp => ?_⟩
  obtain ⟨b, o, ha, hb, hr⟩ := h3 hp
  refine ⟨b, o, ha, by omega, fun i hi => ?_⟩
  obtain ⟨z, r, s⟩ := hr i hi
  exact ⟨z, r, s.mono hB⟩
theorem StsAt.later (h : StsAt w w.heap.size v L) (hb : Below w.heap.size w w') : StsAt w' w'.heap.size v L := (h.below hb).mono hb.size
theorem StsAt.len (h : StsAt w B v L) : L.length ≤ maxLen := by obtain ⟨_, _, _, h1, h2, _⟩ := h; omega
theorem StsAt.form (h : StsAt w B v L) : ∃ A c, v = .slice A L.length c := by obtain ⟨A, c, hv, _⟩ := h; exact ⟨A, c, hv⟩
theorem StsAt.nil_ {c : Nat} (hc : c ≤ maxLen) (A : Option Addr) : StsAt w B (.slice A 0 c) [] := ⟨A, c, rfl, Nat.zero_le _, hc, fun h => absurd h (by simp)⟩
theorem StsAt.of_raw {R : List Raw} (hs : SlAt eSt w B v R) (hl : R.length = L.length) (he : ∀ i, i < L.length → (rAt R i).1 = (tAt L i).1 ∧ SlAt eCg w B (rvOf (rAt R i)) (tAt L i).2) : StsAt w B v L := by
  obtain ⟨A, c, hv, h1, h2, h3⟩ := hs
  refine ⟨A, c, by rw [hv, hl], by omega, h2, fun hp => ?_⟩
  obtain ⟨b, o, ha, hb, hr⟩ := h3 (by omega)
  refine ⟨b, o, ha, hb, fun i hi => ⟨rvOf (rAt R i), ?_, (he i hi).2⟩⟩
  rw [← (he i hi).1]
  exact range_part hr (rAt_get (by omega))
end
/-- A copy of a list of changes that a call has handed back: nil, if it may be; or a block of its own, with spare room. -/
def CgGiven (L : List (Int × Int)) (b : Bool) (base : Nat) (v : Value) (w : World) : Prop :=
  (b = true ∧ v = .slice none 0 0 ∧ L.length = 0) ∨ ∃ g, v = .slice (some ⟨g, 0, none⟩) L.length (L.length + roomN L.length) ∧ base ≤ g ∧ Held eCg w g 113 (roomy fillCg L)
section
variable {L : List (Int × Int)} {b : Bool} {base : Nat} {v : Value} {w w' : World}
theorem CgGiven.one (h : CgGiven L b base v w) : v.oneCell' = true := by
  rcases h with ⟨_, rfl, _⟩ | ⟨g, rfl, _⟩ <;> rfl
theorem CgGiven.slice (h : CgGiven L b base v w) : ∃ A n c, v = .slice A n c := by
  rcases h with ⟨_, rfl, _⟩ | ⟨g, rfl, _⟩ <;> exact ⟨_, _, _, rfl⟩
theorem CgGiven.below (h : CgGiven L b base v w) (hb : Below w.heap.size w w') : CgGiven L b base v w' := by
  rcases h with h | ⟨g, hv, hg, hh⟩
  · exact .inl h
  · exact .inr ⟨g, hv, hg, hh.below hb hh.lt⟩
theorem CgGiven.mono {base' : Nat} (h : CgGiven L b base v w) (hB : base' ≤ base) : CgGiven L b base' v w := by
  rcases h with h | ⟨g, hv, hg, hh⟩
  · exact .inl h
  · exact .inr ⟨g, hv, by omega, hh⟩
theorem CgGiven.wrote {B : Nat} (h : CgGiven L b base v w) (k : Wrote B w w') (hB : B < base) : CgGiven L b base v w' := by
  rcases h with h | ⟨g, hv, hg, hh⟩
  · exact .inl h
  · exact .inr ⟨g, hv, hg, Held.wrote k hh (by omega)⟩
theorem CgGiven.sl (h : CgGiven L b base v w) (hL : L.length ≤ 1000000) : SlAt eCg w w.heap.size v L := by
  rcases h with ⟨_, rfl, h0⟩ | ⟨g, rfl, hg, hh⟩
  · rw [List.eq_nil_of_length_eq_zero h0]; exact SlAt.nil_ (Nat.zero_le _) _
  · exact (hh.sl (n := L.length) (c := L.length + roomN L.length) (by rw [roomy_length]; omega) (by omega) (by have := roomN_le L.length; unfold maxLen; omega)).roomy
end
/-- The filler of a list of steps. -/
def FillAt (w : World) (base : Nat) (r : Raw) : Prop := r.1 = fillHd ∧ ∃ h, r.2 = (some ⟨h, 0, none⟩, 1, 1) ∧ base ≤ h ∧ Held eCg w h 113 [fillCg]
section
variable {w w' : World} {base B : Nat} {r : Raw}
theorem FillAt.below (h : FillAt w base r) (hb : Below w.heap.size w w') : FillAt w' base r := by
  obtain ⟨h1, g, h2, h3, hh⟩ := h
  exact ⟨h1, g, h2, h3, hh.below hb hh.lt⟩
theorem FillAt.wrote (h : FillAt w base r) (k : Wrote B w w') (hB : B < base) : FillAt w' base r := by
  obtain ⟨h1, g, h2, h3, hh⟩ := h
  exact ⟨h1, g, h2, h3, Held.wrote k hh (by omega)⟩
theorem FillAt.sl (h : FillAt w base r) : SlAt eCg w w.heap.size (rvOf r) [fillCg] := by
  obtain ⟨h1, g, h2, h3, hh⟩ := h
  have := hh.sl (n := 1) (c := 1) (by simp) (by omega) (by unfold maxLen; omega)
  unfold rvOf
  rw [h2]
  exact this
end
/-- What toStepS makes: block g holds the steps and the fillers behind them; each one's changes lie in a block of their own. -/
structure StsMade (w : World) (g : Nat) (b : Bool) (L : List Stp) (R : List Raw) : Prop where
  len : R.length = L.length + roomN L.length
  held : Held eSt w g 71 R
  ins : ∀ i, i < L.length → (rAt R i).1 = (tAt L i).1 ∧ CgGiven (tAt L i).2 b (g + 1) (rvOf (rAt R i)) w
  fills : ∀ i, L.length ≤ i → i < R.length → FillAt w (g + 1) (rAt R i)
section
variable {w w' : World} {g : Nat} {b : Bool} {L : List Stp} {R : List Raw}
theorem StsMade.below (h : StsMade w g b L R) (hb : Below w.heap.size w w') : StsMade w' g b L R :=
  ⟨h.len, h.held.below hb h.held.lt, fun i hi => ⟨(h.ins i hi).1, (h.ins i hi).2.below hb⟩, fun i h1 h2 => (h.fills i h1 h2).below hb⟩
theorem StsMade.lt (h : StsMade w g b L R) : g < w.heap.size := h.held.lt
theorem tAt_len {n : Nat} (hs : ∀ i, i < L.length → (tAt L i).2.length ≤ n) (i : Nat) : (tAt L i).2.length ≤ n := by
  by_cases hi : i < L.length
  · exact hs i hi
  · unfold tAt
    rw [List.getD_eq_getElem?_getD, List.getElem?_eq_none (by omega)]
    simp [zeroStp]
theorem StsMade.sts (h : StsMade w g b L R) (hn : L.length ≤ 1000000) (hs : ∀ i, i < L.length → (tAt L i).2.length ≤ 1000000) : StsAt w w.heap.size (.slice (some ⟨g, 0, none⟩) L.length (L.length + roomN L.length)) L := by
  have hr := roomN_le L.length
  have s1 := h.held.sl (n := L.length) (c := L.length + roomN L.length) (by rw [h.len]; omega) (by omega) (by unfold maxLen; omega)
  have hl : (R.take L.length).length = L.length := by rw [List.length_take, h.len]; omega
  refine StsAt.of_raw s1 hl fun i hi => ?_
  have e : rAt (R.take L.length) i = rAt R i := by
    unfold rAt
    rw [List.getD_eq_getElem?_getD, List.getD_eq_getElem?_getD, List.getElem?_take_of_lt hi]
  rw [e]
  exact ⟨(h.ins i hi).1, (h.ins i hi).2.sl (hs i hi)⟩
theorem range_drop {α : Type} {E : Enc α} {w : World} {b : Nat} {L : List α} (h : w.rangeAt b 0 (E.cells L)) (i : Nat) : w.rangeAt b (i * E.n) (E.cells (L.drop i)) := by
  intro j v hv
  rw [← Enc.cells_drop, List.getElem?_drop] at hv
  have := h _ v hv
  rwa [Nat.zero_add] at this
/-- The fillers behind. -/
theorem StsMade.behind (h : StsMade w g b L R) (hn : L.length ≤ 1000000) : StsAt w w.heap.size (.slice (some ⟨g, L.length * 5, none⟩) (roomN L.length) (roomN L.length)) (List.replicate (roomN L.length) fillStp) := by
  have hr := roomN_le L.length
  have hl : (R.drop L.length).length = roomN L.length := by rw [List.length_drop, h.len]; omega
  have s1 : SlAt eSt w w.heap.size (.slice (some ⟨g, L.length * 5, none⟩) (roomN L.length) (roomN L.length)) (R.drop L.length) := by
    refine ⟨some ⟨g, L.length * 5, none⟩, roomN L.length, by rw [hl], by omega, by unfold maxLen; omega, fun _ => ⟨g, L.length * 5, rfl, h.held.lt, ?_⟩⟩
    exact range_drop h.held.range L.length
  refine StsAt.of_raw s1 (by rw [hl, List.length_replicate]) fun i hi => ?_
  rw [List.length_replicate] at hi
  have e : rAt (R.drop L.length) i = rAt R (L.length + i) := by
    unfold rAt
    rw [List.getD_eq_getElem?_getD, List.getD_eq_getElem?_getD, List.getElem?_drop]
  have e2 : tAt (List.replicate (roomN L.length) fillStp) i = fillStp := by
    unfold tAt
    rw [List.getD_eq_getElem?_getD, List.getElem?_replicate, if_pos hi]; rfl
  have hf := h.fills (L.length + i) (by omega) (by rw [h.len]; omega)
  rw [e, e2]
  exact ⟨hf.1, hf.sl⟩
end
/-- What a call hands back that copies a list of steps. -/
def StsGiven (L : List Stp) (b : Bool) (base : Nat) (v : Value) (w : World) : Prop :=
  (b = true ∧ v = .slice none 0 0 ∧ L.length = 0) ∨ ∃ g R, v = .slice (some ⟨g, 0, none⟩) L.length (L.length + roomN L.length) ∧ base ≤ g ∧ StsMade w g b L R
theorem StsGiven.below {L : List Stp} {b : Bool} {base : Nat} {v : Value} {w w' : World} (h : StsGiven L b base v w) (hb : Below w.heap.size w w') : StsGiven L b base v w' := by
  rcases h with h | ⟨g, R, hv, hg, hh⟩
  · exact .inl h
  · exact .inr ⟨g, R, hv, hg, hh.below hb⟩
theorem StsGiven.sts {L : List Stp} {b : Bool} {base : Nat} {v : Value} {w : World} (h : StsGiven L b base v w) (hn : L.length ≤ 1000000) (hs : ∀ i, i < L.length → (tAt L i).2.length ≤ 1000000) : StsAt w w.heap.size v L := by
  rcases h with ⟨_, rfl, h0⟩ | ⟨g, R, rfl, _, hh⟩
  · rw [List.eq_nil_of_length_eq_zero h0]; exact StsAt.nil_ (Nat.zero_le _) _
  · exact hh.sts hn hs
/-- How many rows the first k steps have. -/
def rowsN (L : List Stp) : Nat → Nat
  | 0 => 0
  | k + 1 => rowsN L k + (tAt L k).2.length
theorem rowsN_mono (L : List Stp) {i j : Nat} (h : i ≤ j) : rowsN L i ≤ rowsN L j := by
  induction j with
  | zero => have : i = 0 := by omega
            subst this; exact Nat.le_refl _
  | succ j ih =>
    rcases Nat.lt_or_ge i (j + 1) with hlt | hge
    · have := ih (by omega)
      show rowsN L i ≤ rowsN L j + _
      omega
    · have : i = j + 1 := by omega
      subst this; exact Nat.le_refl _
/-- How large a list of steps is: its steps, and their rows. -/
def szN (L : List Stp) : Nat := L.length + rowsN L L.length
theorem szN_len (L : List Stp) : L.length ≤ szN L := by unfold szN; omega
theorem szN_row (L : List Stp) {i : Nat} (hi : i < L.length) : (tAt L i).2.length ≤ szN L := by
  have h1 : rowsN L (i + 1) ≤ rowsN L L.length := rowsN_mono L (by omega)
  have h2 : rowsN L (i + 1) = rowsN L i + (tAt L i).2.length := rfl
  unfold szN
  omega
def szR (L : List Stp) (left : Int) : Int := if (szN L : Int) ≤ left then left - (szN L : Int) else -1
end Go.Proofs.Ytjbjbdkmomkclaa
