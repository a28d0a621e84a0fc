/- Contracts of the program's functions on memory (chapter 2): ReadMemory and WriteMemory. -/
import Derived.Test.YtnfphdpoimjcmaaMemW
namespace Go.Proofs.Ytnfphdpoimjcmaa
open Go.ChangeShapes Go.WideShapes Go.ChangeAt Go.RowKit

/-- A memory in new memory, laid behind a new block. -/
theorem mem_boxed {w1 w2 : World} {M : Mem} {A : Option Addr} {n c : Nat} {R : Option Addr} {k d : Nat} {fa fr : List Nat} {L : Nat} (i : Ints w2 A n M.ram fa) (g : Grid w2 R k M.rom fr) (nw : New L w2 (fa ++ fr)) (hw : w1 = w2.alloc (.cells #[.slice A n c, .slice R k d, .int .i64 M.bank] 26)) :
    MemIn w1 w2.heap.size A n c R k d M fa fr L := by
  subst hw
  exact ⟨Box.new w2 _ _, i.below (below1 w2 _), g.below (below1 w2 _), nw.keep (.of_below (below1 w2 _)), fun h => by have := (nw.lt _ h).2; omega⟩
end Go.Proofs.Ytnfphdpoimjcmaa
