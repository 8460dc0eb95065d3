/- impl: checkWay, PlaceAt. -/
import Derived.Test.YtkcomhbmhgnhhaaDoorAt
import Derived.Test.YtkcomhbmhgnhhaaDoorErrs
namespace Go.Proofs.YtkcomhbmhgnhhaaDoor
open Go.RowKit
set_option linter.unusedVariables false
set_option linter.unusedSimpArgs false
theorem errV1 (a : Nat → Addr) : errV a 1 = .iface 136 (.pointer (some (a 0))) := rfl
theorem errV2 (a : Nat → Addr) : errV a 2 = .iface 136 (.pointer (some (a 1))) := rfl
theorem errV3 (a : Nat → Addr) : errV a 3 = .iface 136 (.pointer (some (a 2))) := rfl
theorem errV4 (a : Nat → Addr) : errV a 4 = .iface 136 (.pointer (some (a 3))) := rfl
theorem errV0 (a : Nat → Addr) : errV a 0 = .nilIface := rfl
theorem Sent.var0 {w : World} {a : Nat → Addr} (h : Sent w a) : w.cell? ⟨0, 0, none⟩ = some (.iface 136 (.pointer (some (a 0)))) := h.var 0 (by decide)
theorem Sent.var1 {w : World} {a : Nat → Addr} (h : Sent w a) : w.cell? ⟨2, 0, none⟩ = some (.iface 136 (.pointer (some (a 1)))) := h.var 1 (by decide)
theorem Sent.var2 {w : World} {a : Nat → Addr} (h : Sent w a) : w.cell? ⟨3, 0, none⟩ = some (.iface 136 (.pointer (some (a 2)))) := h.var 2 (by decide)
theorem Sent.var3 {w : World} {a : Nat → Addr} (h : Sent w a) : w.cell? ⟨1, 0, none⟩ = some (.iface 136 (.pointer (some (a 3)))) := h.var 3 (by decide)
end Go.Proofs.YtkcomhbmhgnhhaaDoor
