/- THE SENTINELS, out of what is laid ahead of the call. -/
import Derived.Test.YtkcomhbmhgnhhaaDoorErrs
import Derived.LaidLaws
import Derived.ProofKit
namespace Go.Proofs.YtkcomhbmhgnhhaaDoor
open Go.RowKit
set_option linter.unusedVariables false
theorem errRow (u : TypeId) (h : Tryd.prog.typeName? 3 u = some "*errors.errorString") : u = 136 :=
  typeName_ptr_named (nm := "errors.errorString") (by rw [show "*" ++ "errors.errorString" = "*errors.errorString" by decide]; kernel_rfl) (by kernel_rfl) (by decide) u (by rw [show "*" ++ "errors.errorString" = "*errors.errorString" by decide]; exact h)
set_option maxRecDepth 100000 in
theorem sent_of_laid {W : World} {t0 t1 t2 t3 t4 : List UInt8}
    (h : laidMet Tryd.prog [("loop.example/g01340/impl.errInvalid", .iface "*errors.errorString" (.ptr (.agg [.lit (.string t0)]))), ("loop.example/g01340/impl.errRange", .iface "*errors.errorString" (.ptr (.agg [.lit (.string t1)]))),
      ("loop.example/g01340/impl.errLimit", .iface "*errors.errorString" (.ptr (.agg [.lit (.string t2)]))), ("loop.example/g01340/impl.errState", .iface "*errors.errorString" (.ptr (.agg [.lit (.string t3)]))), ("loop.example/g01340/impl.errSyntax", .iface "*errors.errorString" (.ptr (.agg [.lit (.string t4)])))] W) :
    ∃ a : Nat → Addr, Sent W a := by
  obtain ⟨ps, ⟨g0, y0, cs0, f0, p0, q0, hg0, ht0, hv0, hd0, ⟨g1, y1, cs1, f1, p1, q1, hg1, ht1, hv1, hd1, ⟨g2, y2, cs2, f2, p2, q2, hg2, ht2, hv2, hd2, ⟨g3, y3, cs3, f3, p3, q3, hg3, ht3, hv3, hd3, ⟨g4, y4, cs4, f4, p4, q4, hg4, ht4, hv4, hd4, _, e4⟩, e3⟩, e2⟩, e1⟩, e0⟩, hnd, hrows⟩ := h
  obtain rfl := Option.some.inj ((show Tryd.prog.globalNamed "loop.example/g01340/impl.errInvalid" = some 0 by kernel_rfl).symm.trans hg0)
  obtain rfl := Option.some.inj ((show Tryd.prog.globalNamed "loop.example/g01340/impl.errRange" = some 2 by kernel_rfl).symm.trans hg1)
  obtain rfl := Option.some.inj ((show Tryd.prog.globalNamed "loop.example/g01340/impl.errLimit" = some 3 by kernel_rfl).symm.trans hg2)
  obtain rfl := Option.some.inj ((show Tryd.prog.globalNamed "loop.example/g01340/impl.errState" = some 1 by kernel_rfl).symm.trans hg3)
  obtain rfl := Option.some.inj ((show Tryd.prog.globalNamed "loop.example/g01340/impl.errSyntax" = some 4 by kernel_rfl).symm.trans hg4)
  obtain rfl := Option.some.inj ((show (Tryd.prog.globals[0]?).map (·.type) = some 60 by kernel_rfl).symm.trans ht0)
  obtain rfl := Option.some.inj ((show (Tryd.prog.globals[2]?).map (·.type) = some 60 by kernel_rfl).symm.trans ht1)
  obtain rfl := Option.some.inj ((show (Tryd.prog.globals[3]?).map (·.type) = some 60 by kernel_rfl).symm.trans ht2)
  obtain rfl := Option.some.inj ((show (Tryd.prog.globals[1]?).map (·.type) = some 60 by kernel_rfl).symm.trans ht3)
  obtain rfl := Option.some.inj ((show (Tryd.prog.globals[4]?).map (·.type) = some 60 by kernel_rfl).symm.trans ht4)
  subst e4
  subst e3
  subst e2
  subst e1
  subst e0
  obtain ⟨l0⟩ := cs0
  obtain ⟨l1⟩ := cs1
  obtain ⟨l2⟩ := cs2
  obtain ⟨l3⟩ := cs3
  obtain ⟨l4⟩ := cs4
  have ok0 : ∀ u v, l0 = [.iface u v] → Value.okWide Tryd.prog W .any 0 u v := fun u v e => by
    subst e
    exact (hrows 0 0 (by simp [MemPlace.row])).2 u v (by simpa using World.var?_cell hg0 hv0 0)
  have ok1 : ∀ u v, l1 = [.iface u v] → Value.okWide Tryd.prog W .any 0 u v := fun u v e => by
    subst e
    exact (hrows 2 0 (by simp [MemPlace.row])).2 u v (by simpa using World.var?_cell hg1 hv1 0)
  have ok2 : ∀ u v, l2 = [.iface u v] → Value.okWide Tryd.prog W .any 0 u v := fun u v e => by
    subst e
    exact (hrows 3 0 (by simp [MemPlace.row])).2 u v (by simpa using World.var?_cell hg2 hv2 0)
  have ok3 : ∀ u v, l3 = [.iface u v] → Value.okWide Tryd.prog W .any 0 u v := fun u v e => by
    subst e
    exact (hrows 1 0 (by simp [MemPlace.row])).2 u v (by simpa using World.var?_cell hg3 hv3 0)
  have ok4 : ∀ u v, l4 = [.iface u v] → Value.okWide Tryd.prog W .any 0 u v := fun u v e => by
    subst e
    exact (hrows 4 0 (by simp [MemPlace.row])).2 u v (by simpa using World.var?_cell hg4 hv4 0)
  have hc1 : Tryd.prog.cellsOf 163 = 1 := by kernel_rfl
  have hc2 : Tryd.prog.cellsOf 9 = 1 := by kernel_rfl
  obtain ⟨a0, s0, rfl, _, _, _, rfl⟩ := errorString_of_trod Tryd.underlying60 errRow Tryd.underlying136 Tryd.underlying163 rfl rfl Tryd.underlying9 hc1 hc2 hd0 ok0
  obtain ⟨a1, s1, rfl, _, _, _, rfl⟩ := errorString_of_trod Tryd.underlying60 errRow Tryd.underlying136 Tryd.underlying163 rfl rfl Tryd.underlying9 hc1 hc2 hd1 ok1
  obtain ⟨a2, s2, rfl, _, _, _, rfl⟩ := errorString_of_trod Tryd.underlying60 errRow Tryd.underlying136 Tryd.underlying163 rfl rfl Tryd.underlying9 hc1 hc2 hd2 ok2
  obtain ⟨a3, s3, rfl, _, _, _, rfl⟩ := errorString_of_trod Tryd.underlying60 errRow Tryd.underlying136 Tryd.underlying163 rfl rfl Tryd.underlying9 hc1 hc2 hd3 ok3
  obtain ⟨a4, s4, rfl, _, _, _, rfl⟩ := errorString_of_trod Tryd.underlying60 errRow Tryd.underlying136 Tryd.underlying163 rfl rfl Tryd.underlying9 hc1 hc2 hd4 ok4
  have v0 := World.var?_cell hg0 hv0 0
  have v1 := World.var?_cell hg1 hv1 0
  have v2 := World.var?_cell hg2 hv2 0
  have v3 := World.var?_cell hg3 hv3 0
  have v4 := World.var?_cell hg4 hv4 0
  have r0 := (hrows a0.block a0.off (by simp [MemPlace.row])).1
  have r1 := (hrows a1.block a1.off (by simp [MemPlace.row])).1
  have r2 := (hrows a2.block a2.off (by simp [MemPlace.row])).1
  have r3 := (hrows a3.block a3.off (by simp [MemPlace.row])).1
  have r4 := (hrows a4.block a4.off (by simp [MemPlace.row])).1
  have n01 : a0 ≠ a1 := by rintro rfl; simp [MemPlace.row] at hnd
  have n02 : a0 ≠ a2 := by rintro rfl; simp [MemPlace.row] at hnd
  have n03 : a0 ≠ a3 := by rintro rfl; simp [MemPlace.row] at hnd
  have n04 : a0 ≠ a4 := by rintro rfl; simp [MemPlace.row] at hnd
  have n12 : a1 ≠ a2 := by rintro rfl; simp [MemPlace.row] at hnd
  have n13 : a1 ≠ a3 := by rintro rfl; simp [MemPlace.row] at hnd
  have n14 : a1 ≠ a4 := by rintro rfl; simp [MemPlace.row] at hnd
  have n23 : a2 ≠ a3 := by rintro rfl; simp [MemPlace.row] at hnd
  have n24 : a2 ≠ a4 := by rintro rfl; simp [MemPlace.row] at hnd
  have n34 : a3 ≠ a4 := by rintro rfl; simp [MemPlace.row] at hnd
  refine ⟨fun i => match i with | 0 => a0 | 1 => a1 | 2 => a2 | 3 => a3 | _ => a4, fun i hi => ?_, fun i hi => ?_, fun i j hi hj hij => ?_⟩
  · match i, hi with
    | 0, _ => exact v0
    | 1, _ => exact v1
    | 2, _ => exact v2
    | 3, _ => exact v3
    | 4, _ => exact v4
  · match i, hi with
    | 0, _ => exact r0
    | 1, _ => exact r1
    | 2, _ => exact r2
    | 3, _ => exact r3
    | 4, _ => exact r4
  · match i, hi, j, hj with
    | 0, _, 0, _ => omega
    | 0, _, 1, _ => exact n01
    | 0, _, 2, _ => exact n02
    | 0, _, 3, _ => exact n03
    | 0, _, 4, _ => exact n04
    | 1, _, 0, _ => exact n01.symm
    | 1, _, 1, _ => omega
    | 1, _, 2, _ => exact n12
    | 1, _, 3, _ => exact n13
    | 1, _, 4, _ => exact n14
    | 2, _, 0, _ => exact n02.symm
    | 2, _, 1, _ => exact n12.symm
    | 2, _, 2, _ => omega
    | 2, _, 3, _ => exact n23
    | 2, _, 4, _ => exact n24
    | 3, _, 0, _ => exact n03.symm
    | 3, _, 1, _ => exact n13.symm
    | 3, _, 2, _ => exact n23.symm
    | 3, _, 3, _ => omega
    | 3, _, 4, _ => exact n34
    | 4, _, 0, _ => exact n04.symm
    | 4, _, 1, _ => exact n14.symm
    | 4, _, 2, _ => exact n24.symm
    | 4, _, 3, _ => exact n34.symm
    | 4, _, 4, _ => omega
theorem trodVars_len {H : Type} {enc : TypeId × Value → H} {P : Program} {w : World} {spare : Nat → Bool} : ∀ {ns : List String} {gs : List (DataW H)} {ps : List MemPlace}, DataW.TrodVars enc P w spare ns gs ps → gs.length = ns.length
  | [], [], _, _ => rfl
  | [], _ :: _, _, h => h.elim
  | _ :: _, [], _, h => h.elim
  | n :: ns, d :: ds, ps, h => by
    obtain ⟨g, t, cs, fuel, p, q, h1, h2, h3, h4, hs, e⟩ := h
    simp [trodVars_len hs]
theorem five_of {α : Type} {l : List α} (h : l.length = 5) : ∃ a b c d e, l = [a, b, c, d, e] := by
  match l, h with
  | [a, b, c, d, e], _ => exact ⟨a, b, c, d, e, rfl⟩
end Go.Proofs.YtkcomhbmhgnhhaaDoor
