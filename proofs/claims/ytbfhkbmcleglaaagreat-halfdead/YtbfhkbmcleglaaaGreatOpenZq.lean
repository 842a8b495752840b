/- How a slice of whole numbers that came in is read (over a state's seat, without a bound of its size). -/
import Derived.Test.YtbfhkbmcleglaaaGreatG19
namespace Go.Proofs.YtbfhkbmcleglaaaGreat
open Go.ChangeShapes Go.WideShapes Go.ChangeAt Go.RowKit Go.Deep
set_option maxRecDepth 100000
theorem open_nums {H : Type} {enc : TypeId × Value → H} {w : World} {base : Nat} {spare : Nat → Bool} {held : Bool} {v : Value} {d : DataW H} {p : List MemPlace} {r : Reach} {b0 : Nat}
    (hv : Value.okWide Tryz.prog w r b0 27 v) (h : DataW.Trod enc Tryz.prog w base spare held 27 v d p) : ∃ xs, Ints w v xs := by
  obtain ⟨a, l, c, rfl⟩ := okWide_slice Tryz.underlying27 hv
  obtain ⟨fuel, h0⟩ := h
  exact open_ints (show DataW.trod enc Tryz.prog w base spare held fuel 27 [.slice a l c] = some (d, p) from h0)
end Go.Proofs.YtbfhkbmcleglaaaGreat
