/- CodeName, of spec and of impl. -/
import Derived.Test.YtajlkleoincoeabRows
import Derived.Test.YtajlkleoincoeabS1
namespace Go.Proofs.Ytajlkleoincoeab
open Go.RowKit
def nameOf (c : Int) : ByteArray :=
  if c = 0 then ⟨#[111, 107]⟩ else if c = 1 then ⟨#[105, 110, 118, 97, 108, 105, 100]⟩ else if c = 2 then ⟨#[114, 97, 110, 103, 101]⟩ else if c = 3 then ⟨#[108, 105, 109, 105, 116]⟩
  else if c = 4 then ⟨#[115, 116, 97, 116, 101]⟩ else if c = 5 then ⟨#[115, 121, 110, 116, 97, 120]⟩ else if c = 6 then ⟨#[110, 111, 116, 102, 111, 117, 110, 100]⟩ else if c = 7 then ⟨#[98, 117, 100, 103, 101, 116]⟩
  else if c = 8 then ⟨#[112, 114, 111, 111, 102]⟩ else ⟨#[]⟩
theorem nameOf_out {c : Int} (h : c < 0 ∨ 8 < c) : nameOf c = ⟨#[]⟩ := by
  unfold nameOf
  rw [if_neg (by omega), if_neg (by omega), if_neg (by omega), if_neg (by omega), if_neg (by omega), if_neg (by omega), if_neg (by omega), if_neg (by omega), if_neg (by omega)]
theorem ret_string {a b : ByteArray} (h : a = b) : Ending.returned (.string a) = .returned (.string b) := by rw [h]
end Go.Proofs.Ytajlkleoincoeab
