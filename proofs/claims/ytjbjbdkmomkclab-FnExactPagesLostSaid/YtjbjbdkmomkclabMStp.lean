/- MARKS OF STEPS: the laws' markStepS of an argument: what is written lies within the argument. -/
import Derived.Test.YtjbjbdkmomkclabStp3
import Derived.Test.YtjbjbdkmomkclabMChg
namespace Go.Proofs.Ytjbjbdkmomkclab
set_option maxRecDepth 100000
open Go.RowKit
set_option linter.unusedVariables false
set_option linter.unusedSimpArgs false
/-- Only blocks from B0 to below B1 may have been written. -/
structure Within (B0 B1 : Nat) (w w' : World) : Prop where
  os : w'.os = w.os
  tape : w'.tape = w.tape
  output : w'.output = w.output
  size : w.heap.size ≤ w'.heap.size
  block : ∀ b, b < w.heap.size → (b < B0 ∨ B1 ≤ b) → w'.heap[b]? = w.heap[b]?
theorem Within.refl (B0 B1 : Nat) (w : World) : Within B0 B1 w w := ⟨rfl, rfl, rfl, Nat.le_refl _, fun _ _ _ => rfl⟩
theorem Within.trans {B0 B1 : Nat} {a b c : World} (h : Within B0 B1 a b) (k : Within B0 B1 b c) : Within B0 B1 a c :=
  ⟨k.os.trans h.os, k.tape.trans h.tape, k.output.trans h.output, Nat.le_trans h.size k.size, fun i hi hn => (k.block i (Nat.lt_of_lt_of_le hi h.size) hn).trans (h.block i hi hn)⟩
theorem Within.of_wrote {B0 B1 B : Nat} {w w' : World} (k : Wrote B w w') (h0 : B0 ≤ B) (h1 : B < B1) : Within B0 B1 w w' :=
  ⟨k.os, k.tape, k.output, k.size, fun b hb hn => k.block b hb (by omega)⟩
theorem Within.below {S B0 B1 : Nat} {a w w' : World} (k : Within B0 B1 w w') (h : Below S a w) (hS : S ≤ B0) (hw : S ≤ w.heap.size) : Below S a w' :=
  h.trans ⟨k.os, k.tape, k.output, k.size, fun i hi => k.block i (by omega) (.inl (by omega))⟩
theorem OwnL.within {α : Type} {E : Enc α} {w w' : World} {base : Nat} {t : TypeId} {v : Value} {L : List α} {B0 B1 : Nat} (h : OwnL E w base t v L) (k : Within B0 B1 w w') (hb : ∀ b, v.ownBlock = some b → b < B0 ∨ B1 ≤ b) : OwnL E w' base t v L := by
  obtain ⟨hl, ⟨hv, h0⟩ | ⟨g, cap, cur, hv, hg, hh, r⟩⟩ := h
  · exact ⟨hl, .inl ⟨hv, h0⟩⟩
  · exact ⟨hl, .inr ⟨g, cap, cur, hv, hg, (k.block g (Array.getElem?_eq_some_iff.1 hh).1 (hb g (by rw [hv]; rfl))).trans hh, r⟩⟩
theorem RowN.uniq {w : World} {g : Nat} {t : TypeId} {N M : Nat} (h : RowN w g t N) (k : RowN w g t M) : N = M := by
  obtain ⟨cs, hs, h⟩ := h
  obtain ⟨cs', hs', k⟩ := k
  have := h.symm.trans k
  simp at this
  subst this
  omega
def InB (R : List Raw) (L : List Stp) (B1 : Nat) : Prop := ∀ j, j < L.length → ∀ gj n c, rvOf (rAt R j) = .slice (some ⟨gj, 0, none⟩) n c → gj < B1
theorem StsMade.inb {w : World} {g : Nat} {L : List Stp} {R : List Raw} (h : StsMade w g false L R) : InB R L w.heap.size := by
  intro j hj gj n c e
  rcases (h.ins j hj).2 with ⟨h, _⟩ | ⟨g2, e2, _, hh⟩
  · cases h
  · rw [e] at e2
    injection e2 with e2
    injection e2 with e2
    injection e2 with e2
    subst e2
    exact hh.lt
/-- A list of steps, being marked. -/
structure MkSt (w0 w : World) (g : Nat) (L : List Stp) (R : List Raw) (B0 B1 : Nat) : Prop where
  row : RowN w g 85 (R.length * 5)
  last : ∀ j, j < L.length → w.cell? ⟨g, j * 5 + 4, none⟩ = some (rvOf (rAt R j))
  inner : ∀ j, j < L.length → ∃ gj N, rvOf (rAt R j) = .slice (some ⟨gj, 0, none⟩) (tAt L j).2.length ((tAt L j).2.length + roomN (tAt L j).2.length) ∧ g < gj ∧ gj < B1 ∧ RowN w gj 127 N ∧ (tAt L j).2.length * 2 ≤ N
  within : Within B0 B1 w0 w
section
variable {w0 w w' : World} {g : Nat} {L : List Stp} {R : List Raw} {B0 B1 : Nat}
theorem MkSt.start (h : StsMade w g false L R) (hB : InB R L B1) : MkSt w w g L R B0 B1 := by
  have hl := h.len
  refine ⟨RowN.of_held h.held, fun j hj => ?_, fun j hj => ?_, Within.refl _ _ _⟩
  · have e := h.held.elem (rAt_get (R := R) (i := j) (by omega))
    exact st_cell4 (h := (rAt R j).1) (z := rvOf (rAt R j)) e
  · rcases (h.ins j hj).2 with ⟨h, _⟩ | ⟨g2, e2, hg2, hh⟩
    · cases h
    · refine ⟨g2, _, e2, by omega, hB j hj _ _ _ e2, RowN.of_held hh, ?_⟩
      rw [roomy_length, eCg_n]
      exact Nat.mul_le_mul_right _ (by omega)
theorem MkSt.set4 (h : MkSt w0 w g L R B0 B1) (h0 : B0 ≤ g) (h1 : g < B1) {q : Nat} (hq : ∀ j, q ≠ j * 5 + 4) (u : Value) : MkSt w0 (w.setCell ⟨g, q, none⟩ u) g L R B0 B1 := by
  have hw := Wrote.setCell (Wrote.refl g w) (p := ⟨g, q, none⟩) rfl u
  obtain ⟨cs, hs, hr⟩ := h.row
  refine ⟨⟨_, by simpa using hs, hr.set q u⟩, fun j hj => ?_, fun j hj => ?_, h.within.trans (Within.of_wrote hw h0 h1)⟩
  · have e := h.last j hj
    rw [Row.cell hr] at e
    rw [Row.cell (hr.set q u), Array.getElem?_setIfInBounds_ne (hq j)]
    exact e
  · obtain ⟨gj, N, e, hg, hb, hn, hle⟩ := h.inner j hj
    exact ⟨gj, N, e, hg, hb, hn.wrote hw (by omega), hle⟩
theorem MkSt.inn (h : MkSt w0 w g L R B0 B1) {gj N : Nat} (hw : Wrote gj w w') (hg : g < gj) (h0 : B0 ≤ gj) (h1 : gj < B1) (hr0 : RowN w gj 127 N) (hr : RowN w' gj 127 N) : MkSt w0 w' g L R B0 B1 := by
  refine ⟨h.row.wrote hw (by omega), fun j hj => ?_, fun j hj => ?_, h.within.trans (Within.of_wrote hw h0 h1)⟩
  · exact (World.cell?_of_block (w := w) (a := ⟨g, j * 5 + 4, none⟩) (hw.block g h.row.lt (by omega))).trans (h.last j hj)
  · obtain ⟨gi, M, e, hgi, hb, hn, hle⟩ := h.inner j hj
    by_cases hh : gi = gj
    · subst hh
      have := hn.uniq hr0
      subst this
      exact ⟨gi, M, e, hgi, hb, hr, hle⟩
    · exact ⟨gi, M, e, hgi, hb, hn.wrote hw hh, hle⟩
end
set_option maxHeartbeats 2000000 in
theorem markStepS_args (g : Nat) (R : List Raw) (L : List Stp) (B0 B1 : Nat) (k : Int) (w : World) (hk : 0 ≤ k) (hk2 : k ≤ 1000) (h0 : B0 ≤ g) (hz : szN L ≤ 1000000) (h : StsMade w g false L R) (hB : InB R L B1) (h1 : g < B1) :
    Calls Try.prog 24 #[.slice (some ⟨g, 0, none⟩) L.length (L.length + roomN L.length), .int .i64 k] w fun e w' => ∃ kk : Int, e = .returned (.int .i64 kk) ∧ 0 ≤ kk ∧ Within B0 B1 w w' := by
  have hm := MkSt.start (B0 := B0) h hB
  have hRl := h.len
  have hll := szN_len L
  clear h
  go_enter Try.func24, Try.ntmps24
  go_wp2
  go_loopw [1, 5] (fun kk i wr => ∃ (p : Nat) (z : Int), p ≤ L.length ∧ i = .int .i64 p ∧ kk = .int .i64 z ∧ 0 ≤ z ∧ z ≤ k + 4 * (p : Int) + 2 * (rowsN L p : Int) ∧ MkSt w wr g L R B0 B1) (fun _ i _ => L.length - (intOf i).toNat)
  case atStart => exact ⟨0, k, by omega, rfl, rfl, hk, by simp [rowsN], hm⟩
  case round =>
    clear hm
    obtain ⟨p, z, hp, rfl, rfl, hz0, hz1, hm⟩ := hrel
    by_cases hlt : p < L.length
    · have hrm : rowsN L (p + 1) ≤ rowsN L L.length := rowsN_mono L hlt
      have hrk : rowsN L (p + 1) = rowsN L p + (tAt L p).2.length := rfl
      unfold szN at hz
      have k1 : IntKind.i64.wrap (z + 1) = z + 1 := IntWalk.i64_in _ (by omega)
      have k2 : IntKind.i64.wrap (z + 1 + 1) = z + 1 + 1 := IntWalk.i64_in _ (by omega)
      have k3 : IntKind.i64.wrap (z + 1 + 1 + 1) = z + 1 + 1 + 1 := IntWalk.i64_in _ (by omega)
      have k4 : IntKind.i64.wrap (z + 1 + 1 + 1 + 1) = z + 1 + 1 + 1 + 1 := IntWalk.i64_in _ (by omega)
      have hpR : p * 5 + 4 < R.length * 5 := by omega
      obtain ⟨u0, c0⟩ := hm.row.cell (q := p * 5) (by omega)
      have f0 := hm.row.free (p * 5)
      have hm1 := hm.set4 h0 h1 (q := p * 5) (fun j => by omega) (.int .i8 (IntKind.i8.wrap z))
      obtain ⟨u1, c1⟩ := hm1.row.cell (q := p * 5 + 1) (by omega)
      have f1 := hm1.row.free (p * 5 + 1)
      have hm2 := hm1.set4 h0 h1 (q := p * 5 + 1) (fun j => by omega) (.int .i8 (IntKind.i8.wrap (z + 1)))
      obtain ⟨u2, c2⟩ := hm2.row.cell (q := p * 5 + 2) (by omega)
      have f2 := hm2.row.free (p * 5 + 2)
      have hm3 := hm2.set4 h0 h1 (q := p * 5 + 2) (fun j => by omega) (.int .i8 (IntKind.i8.wrap (z + 1 + 1)))
      obtain ⟨u3, c3⟩ := hm3.row.cell (q := p * 5 + 3) (by omega)
      have f3 := hm3.row.free (p * 5 + 3)
      have hm4 := hm3.set4 h0 h1 (q := p * 5 + 3) (fun j => by omega) (.int .i8 (IntKind.i8.wrap (z + 1 + 1 + 1)))
      have c4 := hm4.last p hlt
      obtain ⟨gj, N, hrv, hgj, hgb, hrow, hle⟩ := hm4.inner p hlt
      rw [hrv] at c4
      have hn1 : (tAt L p).2.length ≤ 1000000 := by omega
      have HM4 := Lib.hid hm4
      have HROW := Lib.hid hrow
      have HZ := Lib.hid (⟨hrm, hrk, hz, hz1⟩ : rowsN L (p + 1) ≤ rowsN L L.length ∧ rowsN L (p + 1) = rowsN L p + (tAt L p).2.length ∧ L.length + rowsN L L.length ≤ 1000000 ∧ z ≤ k + 4 * (p : Int) + 2 * (rowsN L p : Int))
      have cM := markChangeS_any gj (tAt L p).2.length ((tAt L p).2.length + roomN (tAt L p).2.length) (z + 1 + 1 + 1 + 1) _ N (by omega) (by omega) hn1 hrow hle
      clear hm hm1 hm2 hm3 hm4 hrow hrv hrm hrk
      generalize (tAt L p).2.length + roomN (tAt L p).2.length = cc at *
      generalize (tAt L p).2.length = m at *
      go_wp2_with (go_at_call 62; refine cM.mono ?_; rintro e w2 ⟨rfl, hmk⟩)
      go_roundw
      case rel =>
        go_light
        have hz9 := HZ.out
        exact ⟨p + 1, _, by omega, by go_num, rfl, by omega, by omega, HM4.out.inn hmk.wrote hgj (by omega) hgb HROW.out hmk.row⟩
      case measure => simp [intOf]; omega
    · have hpn : p = L.length := by omega
      subst hpn
      go_wp2
      go_ret
      exact ⟨_, rfl, hz0, hm.within⟩
end Go.Proofs.Ytjbjbdkmomkclab
