/- impl: isPlace, placeIn, Frame.has, Frame.with. -/
import Derived.Test.YtjbjbdkmomkclaaRows
import Derived.Test.YtjbjbdkmomkclaaFr
import Derived.Test.YtjbjbdkmomkclaaIValid
namespace Go.Proofs.Ytjbjbdkmomkclaa
open Go.RowKit
/-- What placeIn returns beside it. -/
def dotV (x y : Int) : Value := .agg #[.int .i8 x, .int .i8 y]
def placeV (f : Nat → Nat) (x y : Int) : Value := if askF f x y = 0 then dotV x y else dotV 0 0
end Go.Proofs.Ytjbjbdkmomkclaa
