import Derived.Test.YtajlkleoincoeacDoorM5
import Derived.Deep.Slices
import Derived.Deep.Fields
import Derived.ChangeSame
import Derived.OpenShut
import Derived.ProofKit
import Derived.Test.YtajlkleoincoeacDoorM11
import Derived.LaidLaws
/- AN ARGUMENT THAT IS A SLICE, opened as a list, whatever its elements (runs of cells of one length). Plain lemmas: no function of the program is named. -/
namespace Go.Proofs.YtajlkleoincoeacDoor
open Go.RowKit Go.ChangeShapes Go.WideShapes Go.Deep
section
variable {H : Type} {enc : TypeId × Value → H} {P : Program} {w : World} {base : Nat} {spare : Nat → Bool} {held : Bool}
theorem spot_none {w : World} {a : Addr} {v : Value} (h : w.cell? a = some v) : a.spot = none := by
  unfold World.cell? at h
  split at h
  · split at h
    · cases h
    · rename_i hs; simpa using hs
  · cases h
theorem list_of {α : Type} [Inhabited α] {p : Nat → α → Prop} {n : Nat} (h : ∀ i, i < n → ∃ x, p i x) : ∃ L : List α, L.length = n ∧ ∀ i x, L[i]? = some x → p i x := by
  induction n with
  | zero => exact ⟨[], rfl, by simp⟩
  | succ n ih =>
    obtain ⟨L, hl, hp⟩ := ih (fun i hi => h i (by omega))
    obtain ⟨x, hx⟩ := h n (by omega)
    refine ⟨L ++ [x], by simp [hl], fun i y hy => ?_⟩
    rcases Nat.lt_or_ge i L.length with hi | hi
    · rw [List.getElem?_append_left hi] at hy; exact hp i y hy
    · have hlt : i < (L ++ [x]).length := (List.getElem?_eq_some_iff.1 hy).1
      have : i = n := by simp at hlt; omega
      subst this
      rw [List.getElem?_append_right hi, hl] at hy
      simp at hy
      subst hy; exact hx
theorem cells_of_all {α : Type} {E : Enc α} {w : World} {b : Nat} : ∀ (L : List α) (o : Nat), (∀ i x, L[i]? = some x → w.rangeAt b (o + i * E.n) (E.c x)) → w.rangeAt b o (E.cells L)
  | [], o, _ => fun j v hv => by simp [Enc.cells] at hv
  | x :: L, o, h => fun j v hv => by
    rw [Enc.cells_cons] at hv
    rcases Nat.lt_or_ge j E.n with hj | hj
    · rw [List.getElem?_append_left (by rw [E.len]; exact hj)] at hv
      have := h 0 x rfl j v hv
      simpa using this
    · rw [List.getElem?_append_right (by rw [E.len]; exact hj), E.len] at hv
      have := cells_of_all (E := E) (w := w) (b := b) L (o + E.n) (fun i y hy => by
        have := h (i + 1) y (by simpa using hy)
        rwa [show o + (i + 1) * E.n = o + E.n + i * E.n by rw [Nat.succ_mul]; omega] at this) (j - E.n) v hv
      rwa [show o + E.n + (j - E.n) = o + j by omega] at this
theorem open_list {α : Type} [Inhabited α] {E : Enc α} (ok : α → Prop) {t e : TypeId} {v : Value} {d : DataW H} {p : List MemPlace} (ht : P.underlying t = some (.slice e)) (hC : P.cellsOf e = E.n) (hE : 0 < E.n)
    (helem : ∀ (n : Nat) (cs : List Value) (y : DataW H × List MemPlace), cs.length = E.n → DataW.trod enc P w base spare held n e cs = some y → ∃ x, cs = E.c x ∧ ok x)
    (hv : ∃ cs, v.cells = cs ∧ cs.toList = [v]) (h : DataW.Trod enc P w base spare held t v d p) : ∃ L : List α, SlAt E w w.heap.size v L ∧ ∀ x ∈ L, ok x := by
  obtain ⟨fuel, hf⟩ := h
  obtain ⟨cs, hcs, hcl⟩ := hv
  rw [hcs, hcl] at hf
  rcases open_slice ht hf with ⟨h0, _⟩ | ⟨a, len, cap, m, n, D, Pl, hc, _, hl, hm, hmm, _, hi⟩
  · obtain rfl : v = .slice none 0 0 := by simpa using h0
    exact ⟨[], SlAt.nil_ (Nat.zero_le _) _, by simp⟩
  · obtain rfl : v = .slice (some a) len cap := by simpa using hc
    have hml : len ≤ m := by rw [hmm]; split <;> omega
    obtain ⟨L, hL, hp⟩ := list_of (α := α) (n := len) (p := fun i x => ok x ∧ ∀ j u, (E.c x)[j]? = some u → w.cell? ((a.add (i * E.n)).add j) = some u) (fun i hil => by
      obtain ⟨cs', h1, h2⟩ := hi i (by omega)
      rw [hC] at h1
      obtain ⟨_, h3, h4⟩ := World.cells?_some h1
      obtain ⟨x, rfl, hx⟩ := helem n cs' _ h3 h2
      refine ⟨x, hx, fun j u hu => ?_⟩
      have hj : j < E.n := by have := (List.getElem?_eq_some_iff.1 hu).1; rw [E.len] at this; exact this
      rw [h4 j hj, hu])
    refine ⟨L, ⟨some a, cap, by rw [hL], by omega, hm, fun hpos => ?_⟩, fun x hx => ?_⟩
    · have h0 : L[0]? = some L[0] := List.getElem?_eq_getElem (by omega)
      have hc0 : (E.c L[0])[0]? = some ((E.c L[0])[0]'(by rw [E.len]; exact hE)) := List.getElem?_eq_getElem _
      have hs := (hp 0 _ h0).2 0 _ hc0
      have hsp : a.spot = none := by
        have := spot_none hs
        rw [Nat.zero_mul] at this
        simpa [Addr.add] using this
      obtain ⟨b, o, sp⟩ := a
      obtain rfl : sp = none := hsp
      refine ⟨b, o, rfl, ?_, cells_of_all L o fun i x hx j u hu => ?_⟩
      · have := World.block_lt_of_cell? w _ hs
        rw [Addr.add_mid, Addr.add_mid] at this
        exact this
      · have := (hp i x hx).2 j u hu
        rwa [Addr.add_mid, Addr.add_mid] at this
    · obtain ⟨i, hi'⟩ := List.getElem?_of_mem hx
      exact (hp i x hi').1
/-- A frame's cells, read as data. -/
theorem elem_fr {e u : TypeId} (he : P.underlying e = some (.array 12 u)) (hu : P.underlying u = some (.int .u16)) (hcu : P.cellsOf u = 1) (n : Nat) (cs : List Value) (y : DataW H × List MemPlace) (hl : cs.length = 12)
    (h : DataW.trod enc P w base spare held n e cs = some y) : ∃ f : Nat → Nat, cs = eFr.c f ∧ ∀ k, f k < 65536 := by
  obtain ⟨xs, m, _, _, _, hxl, hx⟩ := DataW.trod_array he h
  rw [hcu] at hx
  have hc : ∀ i, i < 12 → ∃ n : Nat, n < 65536 ∧ cs[i]? = some (.int .u16 n) := by
    intro i hi
    have h1 := hx i hi
    rw [List.getElem?_eq_getElem (by omega)] at h1
    obtain ⟨n, hn, _, hw⟩ := DataW.trod_int hu h1
    have hb := bounds_u16 hw
    obtain ⟨k, rfl⟩ := Int.eq_ofNat_of_zero_le hb.1
    refine ⟨k, by omega, ?_⟩
    have hh : ((cs.drop (i * 1)).take 1)[0]? = some (.int .u16 (k : Int)) := by rw [hn]; rfl
    simpa [List.getElem?_take, List.getElem?_drop] using hh
  refine ⟨rowOf cs.toArray, ?_, ?_⟩
  · apply List.ext_getElem?
    intro i
    by_cases hi : i < 12
    · obtain ⟨n, _, hn⟩ := hc i hi
      have h2 : (FC (rowOf cs.toArray)).toList[i]? = some (.int .u16 (rowOf cs.toArray i)) := by rw [Array.getElem?_toList]; exact FC_get _ hi
      rw [hn]
      refine Eq.trans ?_ h2.symm
      simp [rowOf, hn]
    · rw [List.getElem?_eq_none (by omega), List.getElem?_eq_none]
      show (FC _).toList.length ≤ i
      rw [Array.length_toList, FC_size]; omega
  · intro k
    by_cases hk : k < 12
    · obtain ⟨n, hn, he⟩ := hc k hk
      simp [rowOf, he]; exact hn
    · have : cs[k]? = none := List.getElem?_eq_none (by omega)
      simp [rowOf, this]
end
end Go.Proofs.YtajlkleoincoeacDoor

/- An argument that is a slice of bytes, opened as a list. -/
namespace Go.Proofs.YtajlkleoincoeacDoor
open Go.RowKit Go.ChangeShapes Go.WideShapes Go.Deep
section
variable {H : Type} {enc : TypeId × Value → H} {P : Program} {w : World} {base : Nat} {spare : Nat → Bool} {held : Bool}
theorem elem_u8 {e : TypeId} (he : P.underlying e = some (.int .u8)) (n : Nat) (cs : List Value) (y : DataW H × List MemPlace) (_ : cs.length = 1)
    (h : DataW.trod enc P w base spare held n e cs = some y) : ∃ z : Int, cs = (eI .u8).c z ∧ (0 ≤ z ∧ z ≤ 255) := by
  obtain ⟨a, ha, _, wa⟩ := DataW.trod_int he h
  exact ⟨a, by simpa [eI] using ha, bounds_u8 wa⟩
end
end Go.Proofs.YtajlkleoincoeacDoor

/- THE SENTINELS, out of what is laid ahead of the call. -/
namespace Go.Proofs.YtajlkleoincoeacDoor
open Go.RowKit
set_option linter.unusedVariables false
theorem errRow (u : TypeId) (h : Tryd.prog.typeName? 3 u = some "*errors.errorString") : u = 230 :=
  typeName_ptr_named (nm := "errors.errorString") (by rw [show "*" ++ "errors.errorString" = "*errors.errorString" by decide]; kernel_rfl) (by kernel_rfl) (by decide) u (by rw [show "*" ++ "errors.errorString" = "*errors.errorString" by decide]; exact h)
set_option maxRecDepth 100000 in
theorem sent_of_laid {W : World} {t0 t1 t2 t3 t4 : List UInt8}
    (h : laidMet Tryd.prog [("loop.example/g01340/impl.errInvalid", .iface "*errors.errorString" (.ptr (.agg [.lit (.string t0)]))), ("loop.example/g01340/impl.errRange", .iface "*errors.errorString" (.ptr (.agg [.lit (.string t1)]))),
      ("loop.example/g01340/impl.errLimit", .iface "*errors.errorString" (.ptr (.agg [.lit (.string t2)]))), ("loop.example/g01340/impl.errState", .iface "*errors.errorString" (.ptr (.agg [.lit (.string t3)]))), ("loop.example/g01340/impl.errSyntax", .iface "*errors.errorString" (.ptr (.agg [.lit (.string t4)])))] W) :
    ∃ a : Nat → Addr, Sent W a := by
  obtain ⟨ps, ⟨g0, y0, cs0, f0, p0, q0, hg0, ht0, hv0, hd0, ⟨g1, y1, cs1, f1, p1, q1, hg1, ht1, hv1, hd1, ⟨g2, y2, cs2, f2, p2, q2, hg2, ht2, hv2, hd2, ⟨g3, y3, cs3, f3, p3, q3, hg3, ht3, hv3, hd3, ⟨g4, y4, cs4, f4, p4, q4, hg4, ht4, hv4, hd4, _, e4⟩, e3⟩, e2⟩, e1⟩, e0⟩, hnd, hrows⟩ := h
  obtain rfl := Option.some.inj ((show Tryd.prog.globalNamed "loop.example/g01340/impl.errInvalid" = some 0 by kernel_rfl).symm.trans hg0)
  obtain rfl := Option.some.inj ((show Tryd.prog.globalNamed "loop.example/g01340/impl.errRange" = some 1 by kernel_rfl).symm.trans hg1)
  obtain rfl := Option.some.inj ((show Tryd.prog.globalNamed "loop.example/g01340/impl.errLimit" = some 2 by kernel_rfl).symm.trans hg2)
  obtain rfl := Option.some.inj ((show Tryd.prog.globalNamed "loop.example/g01340/impl.errState" = some 3 by kernel_rfl).symm.trans hg3)
  obtain rfl := Option.some.inj ((show Tryd.prog.globalNamed "loop.example/g01340/impl.errSyntax" = some 4 by kernel_rfl).symm.trans hg4)
  obtain rfl := Option.some.inj ((show (Tryd.prog.globals[0]?).map (·.type) = some 75 by kernel_rfl).symm.trans ht0)
  obtain rfl := Option.some.inj ((show (Tryd.prog.globals[1]?).map (·.type) = some 75 by kernel_rfl).symm.trans ht1)
  obtain rfl := Option.some.inj ((show (Tryd.prog.globals[2]?).map (·.type) = some 75 by kernel_rfl).symm.trans ht2)
  obtain rfl := Option.some.inj ((show (Tryd.prog.globals[3]?).map (·.type) = some 75 by kernel_rfl).symm.trans ht3)
  obtain rfl := Option.some.inj ((show (Tryd.prog.globals[4]?).map (·.type) = some 75 by kernel_rfl).symm.trans ht4)
  subst e4
  subst e3
  subst e2
  subst e1
  subst e0
  obtain ⟨l0⟩ := cs0
  obtain ⟨l1⟩ := cs1
  obtain ⟨l2⟩ := cs2
  obtain ⟨l3⟩ := cs3
  obtain ⟨l4⟩ := cs4
  have ok0 : ∀ u v, l0 = [.iface u v] → Value.okWide Tryd.prog W .any 0 u v := fun u v e => by
    subst e
    exact (hrows 0 0 (by simp [MemPlace.row])).2 u v (by simpa using World.var?_cell hg0 hv0 0)
  have ok1 : ∀ u v, l1 = [.iface u v] → Value.okWide Tryd.prog W .any 0 u v := fun u v e => by
    subst e
    exact (hrows 1 0 (by simp [MemPlace.row])).2 u v (by simpa using World.var?_cell hg1 hv1 0)
  have ok2 : ∀ u v, l2 = [.iface u v] → Value.okWide Tryd.prog W .any 0 u v := fun u v e => by
    subst e
    exact (hrows 2 0 (by simp [MemPlace.row])).2 u v (by simpa using World.var?_cell hg2 hv2 0)
  have ok3 : ∀ u v, l3 = [.iface u v] → Value.okWide Tryd.prog W .any 0 u v := fun u v e => by
    subst e
    exact (hrows 3 0 (by simp [MemPlace.row])).2 u v (by simpa using World.var?_cell hg3 hv3 0)
  have ok4 : ∀ u v, l4 = [.iface u v] → Value.okWide Tryd.prog W .any 0 u v := fun u v e => by
    subst e
    exact (hrows 4 0 (by simp [MemPlace.row])).2 u v (by simpa using World.var?_cell hg4 hv4 0)
  have hc1 : Tryd.prog.cellsOf 232 = 1 := by kernel_rfl
  have hc2 : Tryd.prog.cellsOf 9 = 1 := by kernel_rfl
  obtain ⟨a0, s0, rfl, _, _, _, rfl⟩ := errorString_of_trod Tryd.underlying75 errRow Tryd.underlying230 Tryd.underlying232 rfl rfl Tryd.underlying9 hc1 hc2 hd0 ok0
  obtain ⟨a1, s1, rfl, _, _, _, rfl⟩ := errorString_of_trod Tryd.underlying75 errRow Tryd.underlying230 Tryd.underlying232 rfl rfl Tryd.underlying9 hc1 hc2 hd1 ok1
  obtain ⟨a2, s2, rfl, _, _, _, rfl⟩ := errorString_of_trod Tryd.underlying75 errRow Tryd.underlying230 Tryd.underlying232 rfl rfl Tryd.underlying9 hc1 hc2 hd2 ok2
  obtain ⟨a3, s3, rfl, _, _, _, rfl⟩ := errorString_of_trod Tryd.underlying75 errRow Tryd.underlying230 Tryd.underlying232 rfl rfl Tryd.underlying9 hc1 hc2 hd3 ok3
  obtain ⟨a4, s4, rfl, _, _, _, rfl⟩ := errorString_of_trod Tryd.underlying75 errRow Tryd.underlying230 Tryd.underlying232 rfl rfl Tryd.underlying9 hc1 hc2 hd4 ok4
  have v0 := World.var?_cell hg0 hv0 0
  have v1 := World.var?_cell hg1 hv1 0
  have v2 := World.var?_cell hg2 hv2 0
  have v3 := World.var?_cell hg3 hv3 0
  have v4 := World.var?_cell hg4 hv4 0
  have r0 := (hrows a0.block a0.off (by simp [MemPlace.row])).1
  have r1 := (hrows a1.block a1.off (by simp [MemPlace.row])).1
  have r2 := (hrows a2.block a2.off (by simp [MemPlace.row])).1
  have r3 := (hrows a3.block a3.off (by simp [MemPlace.row])).1
  have r4 := (hrows a4.block a4.off (by simp [MemPlace.row])).1
  have n01 : a0 ≠ a1 := by rintro rfl; simp [MemPlace.row] at hnd
  have n02 : a0 ≠ a2 := by rintro rfl; simp [MemPlace.row] at hnd
  have n03 : a0 ≠ a3 := by rintro rfl; simp [MemPlace.row] at hnd
  have n04 : a0 ≠ a4 := by rintro rfl; simp [MemPlace.row] at hnd
  have n12 : a1 ≠ a2 := by rintro rfl; simp [MemPlace.row] at hnd
  have n13 : a1 ≠ a3 := by rintro rfl; simp [MemPlace.row] at hnd
  have n14 : a1 ≠ a4 := by rintro rfl; simp [MemPlace.row] at hnd
  have n23 : a2 ≠ a3 := by rintro rfl; simp [MemPlace.row] at hnd
  have n24 : a2 ≠ a4 := by rintro rfl; simp [MemPlace.row] at hnd
  have n34 : a3 ≠ a4 := by rintro rfl; simp [MemPlace.row] at hnd
  refine ⟨fun i => match i with | 0 => a0 | 1 => a1 | 2 => a2 | 3 => a3 | _ => a4, fun i hi => ?_, fun i hi => ?_, fun i j hi hj hij => ?_⟩
  · match i, hi with
    | 0, _ => exact v0
    | 1, _ => exact v1
    | 2, _ => exact v2
    | 3, _ => exact v3
    | 4, _ => exact v4
  · match i, hi with
    | 0, _ => exact r0
    | 1, _ => exact r1
    | 2, _ => exact r2
    | 3, _ => exact r3
    | 4, _ => exact r4
  · match i, hi, j, hj with
    | 0, _, 0, _ => omega
    | 0, _, 1, _ => exact n01
    | 0, _, 2, _ => exact n02
    | 0, _, 3, _ => exact n03
    | 0, _, 4, _ => exact n04
    | 1, _, 0, _ => exact n01.symm
    | 1, _, 1, _ => omega
    | 1, _, 2, _ => exact n12
    | 1, _, 3, _ => exact n13
    | 1, _, 4, _ => exact n14
    | 2, _, 0, _ => exact n02.symm
    | 2, _, 1, _ => exact n12.symm
    | 2, _, 2, _ => omega
    | 2, _, 3, _ => exact n23
    | 2, _, 4, _ => exact n24
    | 3, _, 0, _ => exact n03.symm
    | 3, _, 1, _ => exact n13.symm
    | 3, _, 2, _ => exact n23.symm
    | 3, _, 3, _ => omega
    | 3, _, 4, _ => exact n34
    | 4, _, 0, _ => exact n04.symm
    | 4, _, 1, _ => exact n14.symm
    | 4, _, 2, _ => exact n24.symm
    | 4, _, 3, _ => exact n34.symm
    | 4, _, 4, _ => omega
theorem trodVars_len {H : Type} {enc : TypeId × Value → H} {P : Program} {w : World} {spare : Nat → Bool} : ∀ {ns : List String} {gs : List (DataW H)} {ps : List MemPlace}, DataW.TrodVars enc P w spare ns gs ps → gs.length = ns.length
  | [], [], _, _ => rfl
  | [], _ :: _, _, h => h.elim
  | _ :: _, [], _, h => h.elim
  | n :: ns, d :: ds, ps, h => by
    obtain ⟨g, t, cs, fuel, p, q, h1, h2, h3, h4, hs, e⟩ := h
    simp [trodVars_len hs]
theorem five_of {α : Type} {l : List α} (h : l.length = 5) : ∃ a b c d e, l = [a, b, c, d, e] := by
  match l, h with
  | [a, b, c, d, e], _ => exact ⟨a, b, c, d, e, rfl⟩
end Go.Proofs.YtajlkleoincoeacDoor
