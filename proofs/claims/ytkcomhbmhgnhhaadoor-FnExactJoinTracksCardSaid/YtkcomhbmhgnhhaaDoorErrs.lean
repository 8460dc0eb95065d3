/- THE SENTINELS: the five error variables of chapter 3; errors.Is at them; codeOf. -/
import Derived.Test.YtkcomhbmhgnhhaaDoorRows
import Derived.Test.YtkcomhbmhgnhhaaDoorL1
import Derived.Test.YtkcomhbmhgnhhaaDoorMem
import Derived.LaidEql
import Derived.Stop.Asserts
import Derived.Stop.LaidErr
import Derived.RowKitTokens
import Derived.ChangeBears2
import Derived.Lib.Hide
namespace Go.Proofs.YtkcomhbmhgnhhaaDoor
set_option maxRecDepth 100000
open Go.RowKit Go.Extern
set_option linter.unusedVariables false
set_option linter.unusedSimpArgs false
/-- The variable of a code, less 1. -/
def sG : Nat → Nat
  | 0 => 0
  | 1 => 2
  | 2 => 3
  | 3 => 1
  | _ => 4
/-- The five variables hold five pointers. -/
structure Sent (w : World) (a : Nat → Addr) : Prop where
  var : ∀ i, i < 5 → w.cell? ⟨sG i, 0, none⟩ = some (.iface 136 (.pointer (some (a i))))
  row : ∀ i, i < 5 → ∃ c t, w.heap[(a i).block]? = some (.cells c t (0, 0))
  ne : ∀ i j, i < 5 → j < 5 → i ≠ j → a i ≠ a j
theorem Sent.below {w w' : World} {a : Nat → Addr} (h : Sent w a) (hb : Below w.heap.size w w') : Sent w' a := by
  refine ⟨fun i hi => ?_, fun i hi => ?_, h.ne⟩
  · have hc := h.var i hi
    have hl := World.block_lt_of_cell? w _ hc
    rw [World.cell?_of_block (w := w) (hb.block _ hl)]
    exact hc
  · obtain ⟨c, t, hr⟩ := h.row i hi
    have hl : (a i).block < w.heap.size := (Array.getElem?_eq_some_iff.1 hr).1
    exact ⟨c, t, (hb.block _ hl).trans hr⟩
/-- The error of a code. -/
def errV (a : Nat → Addr) (c : Int) : Value := if c = 0 then .nilIface else .iface 136 (.pointer (some (a (c.toNat - 1))))
theorem isComp : (Tryd.prog.info? 136).map (·.comparable) = some true := by kernel_rfl
theorem isSize : (Tryd.prog.info? 163).map (·.size) = some 1 := by kernel_rfl
theorem isNoIs (v : Value) (xT : TypeId) (w : World) : (Instr.typeAssert (.iface 136 v) xT 117 true).run Tryd.prog w = .ok (.tuple #[.nilIface, .bool false]) w := run_typeAssert_lacksB Tryd.underlying117 (by kernel_rfl) (by kernel_rfl) v xT w
theorem isNoUnwrap (v : Value) (xT : TypeId) (w : World) : (Instr.typeAssert (.iface 136 v) xT 120 true).run Tryd.prog w = .ok (.tuple #[.nilIface, .bool false]) w := run_typeAssert_lacksB Tryd.underlying120 (by kernel_rfl) (by kernel_rfl) v xT w
theorem isNoUnwraps (v : Value) (xT : TypeId) (w : World) : (Instr.typeAssert (.iface 136 v) xT 122 true).run Tryd.prog w = .ok (.tuple #[.nilIface, .bool false]) w := run_typeAssert_lacksB Tryd.underlying122 (by kernel_rfl) (by kernel_rfl) v xT w
noncomputable def errN : Nat := Tryd.prog.globals.size
theorem isTypeOf (v : Value) (w : World) : (Extern.ReflectliteType.typeOf #[.iface 136 v]).run Tryd.prog w = .ok (.iface 115 (.agg #[.pointer (some ⟨errN, 136, none⟩)])) w := by kernel_rfl
/-- What the library's Comparable of a type is. -/
noncomputable def cmpX : Array Value → Sem Value := (Go.Extern.find Tryd.f115).getD (fun _ => pure (.bool false))
theorem cmpX_find : Go.Extern.find Tryd.f115 = some cmpX := by kernel_rfl
theorem isComparable (w : World) : (cmpX #[.agg #[.pointer (some ⟨errN, 136, none⟩)]]).run Tryd.prog w = .ok (.bool true) w := by kernel_rfl
theorem isMethod (v : Value) (w : World) : (Go.method 274 115 v "Comparable").run Tryd.prog w = .ok (115, v) w := by kernel_rfl
theorem errIn_same (a : Addr) (w : World) :
    Calls Tryd.prog 69 #[.iface 136 (.pointer (some a)), .iface 136 (.pointer (some a)), .bool true] w fun e w' => e = .returned (.bool true) ∧ w = w' := by
  obtain ⟨i, hi, hcmp⟩ := Option.map_eq_some_iff.1 isComp
  obtain ⟨j, hj, hjs⟩ := Option.map_eq_some_iff.1 isSize
  have heq := run_eql_iface_ptr_same (P := Tryd.prog) w a Tryd.underlying60 Tryd.underlying136 hi hcmp hj
  go_enter Tryd.func69, Tryd.ntmps69
  go_wp2
  refine wp_loop_rounds 1 ?_
  rw [rounds_succ]
  go_wp2
  go_ret
  exact ⟨rfl, rfl⟩
theorem errIn_other (a b : Addr) (ca cb : Array Value) (ta tb : TypeId) (w : World) (hne : a ≠ b) (ha : w.heap[a.block]? = some (.cells ca ta (0, 0))) (hb : w.heap[b.block]? = some (.cells cb tb (0, 0))) :
    Calls Tryd.prog 69 #[.iface 136 (.pointer (some a)), .iface 136 (.pointer (some b)), .bool true] w fun e w' => e = .returned (.bool false) ∧ w = w' := by
  obtain ⟨i, hi, hcmp⟩ := Option.map_eq_some_iff.1 isComp
  obtain ⟨j, hj, hjs⟩ := Option.map_eq_some_iff.1 isSize
  have heq := run_eql_iface_ptr_other (P := Tryd.prog) w Tryd.underlying60 Tryd.underlying136 hi hcmp hj (by rw [hjs]; decide) hne ha hb
  have nI := isNoIs
  have nU := isNoUnwrap
  have nV := isNoUnwraps
  go_enter Tryd.func69, Tryd.ntmps69
  go_wp2
  refine wp_loop_rounds 1 ?_
  rw [rounds_succ]
  go_wp2
  go_ret
  exact ⟨rfl, rfl⟩
theorem errIs_same (a : Addr) (w : World) :
    Calls Tryd.prog 51 #[.iface 136 (.pointer (some a)), .iface 136 (.pointer (some a))] w fun e w' => e = .returned (.bool true) ∧ w = w' := by
  have h8 := @run_callFunc_extern Tryd.prog 68 _ Extern.ReflectliteType.typeOf Tryd.func68 (by kernel_rfl) (by kernel_rfl) (by kernel_rfl) (by kernel_rfl)
  have h32 := @run_callFunc_extern Tryd.prog 115 _ cmpX Tryd.func115 (by kernel_rfl) (by kernel_rfl) (by kernel_rfl) cmpX_find
  have mR := isMethod
  have tT := isTypeOf
  have cT := isComparable
  go_enter Tryd.func51, Tryd.ntmps51
  go_wp2_with (go_at_call 69; refine (errIn_same _ _).mono ?_; rintro e w' ⟨rfl, rfl⟩)
  go_ret
  exact ⟨rfl, rfl⟩
theorem errIs_other (a b : Addr) (ca cb : Array Value) (ta tb : TypeId) (w : World) (hne : a ≠ b) (ha : w.heap[a.block]? = some (.cells ca ta (0, 0))) (hb : w.heap[b.block]? = some (.cells cb tb (0, 0))) :
    Calls Tryd.prog 51 #[.iface 136 (.pointer (some a)), .iface 136 (.pointer (some b))] w fun e w' => e = .returned (.bool false) ∧ w = w' := by
  have h8 := @run_callFunc_extern Tryd.prog 68 _ Extern.ReflectliteType.typeOf Tryd.func68 (by kernel_rfl) (by kernel_rfl) (by kernel_rfl) (by kernel_rfl)
  have h32 := @run_callFunc_extern Tryd.prog 115 _ cmpX Tryd.func115 (by kernel_rfl) (by kernel_rfl) (by kernel_rfl) cmpX_find
  have mR := isMethod
  have tT := isTypeOf
  have cT := isComparable
  have HO := Lib.hid (errIn_other a b ca cb ta tb w hne ha hb)
  clear hne ha hb
  go_enter Tryd.func51, Tryd.ntmps51
  go_wp2_with (go_at_call 69; refine HO.out.mono ?_; rintro e w' ⟨rfl, rfl⟩)
  go_ret
  exact ⟨rfl, rfl⟩
theorem errIs_nil (b : Addr) (w : World) :
    Calls Tryd.prog 51 #[.nilIface, .iface 136 (.pointer (some b))] w fun e w' => e = .returned (.bool false) ∧ w = w' := by
  have hn := run_eql_iface_nil_left (P := Tryd.prog) w 136 (.pointer (some b)) Tryd.underlying60
  go_enter Tryd.func51, Tryd.ntmps51
  go_wp2
  go_ret
  exact ⟨rfl, rfl⟩
theorem Sent.other {w : World} {a : Nat → Addr} (h : Sent w a) {i j : Nat} (hi : i < 5) (hj : j < 5) (hij : i ≠ j) :
    Calls Tryd.prog 51 #[.iface 136 (.pointer (some (a i))), .iface 136 (.pointer (some (a j)))] w fun e w' => e = .returned (.bool false) ∧ w = w' := by
  obtain ⟨c, t, hr⟩ := h.row i hi
  obtain ⟨d, u, hs⟩ := h.row j hj
  exact errIs_other _ _ _ _ _ _ w (h.ne i j hi hj hij) hr hs
set_option maxHeartbeats 4000000 in
theorem codeOf_any (c : Int) (a : Nat → Addr) (w : World) (h : Sent w a) (hc : 0 ≤ c ∧ c ≤ 5) :
    Calls Tryd.prog 29 #[errV a c] w fun e w' => e = .returned (.int .i64 c) ∧ w = w' := by
  have v0 : w.cell? ⟨0, 0, none⟩ = some (.iface 136 (.pointer (some (a 0)))) := h.var 0 (by decide)
  have v1 : w.cell? ⟨2, 0, none⟩ = some (.iface 136 (.pointer (some (a 1)))) := h.var 1 (by decide)
  have v2 : w.cell? ⟨3, 0, none⟩ = some (.iface 136 (.pointer (some (a 2)))) := h.var 2 (by decide)
  have v3 : w.cell? ⟨1, 0, none⟩ = some (.iface 136 (.pointer (some (a 3)))) := h.var 3 (by decide)
  have v4 : w.cell? ⟨4, 0, none⟩ = some (.iface 136 (.pointer (some (a 4)))) := h.var 4 (by decide)
  have hcs : c = 0 ∨ c = 1 ∨ c = 2 ∨ c = 3 ∨ c = 4 ∨ c = 5 := by omega
  clear hc
  rcases hcs with rfl | rfl | rfl | rfl | rfl | rfl
  · change Calls Tryd.prog 29 #[.nilIface] w _
    clear h
    go_enter Tryd.func29, Tryd.ntmps29
    go_wp2_with (go_at_call 51; refine (errIs_nil _ _).mono ?_; rintro e w' ⟨rfl, rfl⟩)
    go_ret
    exact ⟨rfl, rfl⟩
  · change Calls Tryd.prog 29 #[.iface 136 (.pointer (some (a 0)))] w _
    clear h
    go_enter Tryd.func29, Tryd.ntmps29
    go_wp2_with (go_at_call 51; first | (refine (errIs_same (a 0) _).mono ?_; rintro e w' ⟨rfl, rfl⟩))
    go_ret
    exact ⟨rfl, rfl⟩
  · change Calls Tryd.prog 29 #[.iface 136 (.pointer (some (a 1)))] w _
    have o0 := h.other (i := 1) (j := 0) (by decide) (by decide) (by decide)
    clear h
    go_enter Tryd.func29, Tryd.ntmps29
    go_wp2_with (go_at_call 51; first | (refine o0.mono ?_; rintro e w' ⟨rfl, rfl⟩; clear o0) | (refine (errIs_same (a 1) _).mono ?_; rintro e w' ⟨rfl, rfl⟩))
    go_ret
    exact ⟨rfl, rfl⟩
  · change Calls Tryd.prog 29 #[.iface 136 (.pointer (some (a 2)))] w _
    have o0 := h.other (i := 2) (j := 0) (by decide) (by decide) (by decide)
    have o1 := h.other (i := 2) (j := 1) (by decide) (by decide) (by decide)
    clear h
    go_enter Tryd.func29, Tryd.ntmps29
    go_wp2_with (go_at_call 51; first | (refine o0.mono ?_; rintro e w' ⟨rfl, rfl⟩; clear o0) | (refine o1.mono ?_; rintro e w' ⟨rfl, rfl⟩; clear o1) | (refine (errIs_same (a 2) _).mono ?_; rintro e w' ⟨rfl, rfl⟩))
    go_ret
    exact ⟨rfl, rfl⟩
  · change Calls Tryd.prog 29 #[.iface 136 (.pointer (some (a 3)))] w _
    have o0 := h.other (i := 3) (j := 0) (by decide) (by decide) (by decide)
    have o1 := h.other (i := 3) (j := 1) (by decide) (by decide) (by decide)
    have o2 := h.other (i := 3) (j := 2) (by decide) (by decide) (by decide)
    clear h
    go_enter Tryd.func29, Tryd.ntmps29
    go_wp2_with (go_at_call 51; first | (refine o0.mono ?_; rintro e w' ⟨rfl, rfl⟩; clear o0) | (refine o1.mono ?_; rintro e w' ⟨rfl, rfl⟩; clear o1) | (refine o2.mono ?_; rintro e w' ⟨rfl, rfl⟩; clear o2) | (refine (errIs_same (a 3) _).mono ?_; rintro e w' ⟨rfl, rfl⟩))
    go_ret
    exact ⟨rfl, rfl⟩
  · change Calls Tryd.prog 29 #[.iface 136 (.pointer (some (a 4)))] w _
    have o0 := h.other (i := 4) (j := 0) (by decide) (by decide) (by decide)
    have o1 := h.other (i := 4) (j := 1) (by decide) (by decide) (by decide)
    have o2 := h.other (i := 4) (j := 2) (by decide) (by decide) (by decide)
    have o3 := h.other (i := 4) (j := 3) (by decide) (by decide) (by decide)
    clear h
    go_enter Tryd.func29, Tryd.ntmps29
    go_wp2_with (go_at_call 51; first | (refine o0.mono ?_; rintro e w' ⟨rfl, rfl⟩; clear o0) | (refine o1.mono ?_; rintro e w' ⟨rfl, rfl⟩; clear o1) | (refine o2.mono ?_; rintro e w' ⟨rfl, rfl⟩; clear o2) | (refine o3.mono ?_; rintro e w' ⟨rfl, rfl⟩; clear o3) | (refine (errIs_same (a 4) _).mono ?_; rintro e w' ⟨rfl, rfl⟩))
    go_ret
    exact ⟨rfl, rfl⟩
end Go.Proofs.YtkcomhbmhgnhhaaDoor
