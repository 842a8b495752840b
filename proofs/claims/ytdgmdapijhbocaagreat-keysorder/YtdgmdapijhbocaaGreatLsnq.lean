/- The library's sort of nothing. -/
import Derived.Test.YtdgmdapijhbocaaGreatLrsq
import Derived.Shelf.SlSortCmp.NoneTotal
namespace Go.Proofs.YtdgmdapijhbocaaGreat
theorem sort_none (a : Option Addr) (c : Nat) (w : World) : Calls Tryz.prog 107 #[.slice a 0 c, .func (.func 108) #[] #[]] w fun e w' => e = .returned (.tuple #[]) ∧ w' = w :=
  AnyF.slices_SortFunc_none sortRow a c (.func (.func 108) #[] #[]) w
end Go.Proofs.YtdgmdapijhbocaaGreat
