/- Contracts of the model's functions on memory (chapter 2): a new memory. -/
import Derived.Test.YtgciaafapbaliaaGreatDoorGrow
import Derived.Test.YtgciaafapbaliaaGreatDoorMemY
import Derived.Deep.RegionLaw
namespace Go.Proofs.YtgciaafapbaliaaGreatDoor
open Go.ChangeShapes Go.WideShapes Go.ChangeAt Go.RowKit

theorem new_round {w wr w2 : World} {k j : Nat} {rs : List (List Int)} {v v' : Value} {D' : List Row} (hj : j < k) (gn : Grow w2 (w.heap.size + 3) rs (j + 1) v' D') (hz : wr.rowIs (w.heap.size + 1) 3 256 (fun _ => .int .i64 0)) (hb : Below w.heap.size w wr)
    (x0 : Box wr w.heap.size 29 [.slice none 0 0, .slice none 0 0, .int .i64 0]) (x2 : Box wr (w.heap.size + 1 + 1) 29 [.slice (some ⟨w.heap.size + 1, 0, none⟩) 256 256, v, .int .i64 0]) (b2 : Below (w.heap.size + 3) wr w2) :
    ∃ (i : Nat) (u : Value) (D : List Row), i ≤ k ∧ Value.int .i64 ((j : Int) + 1) = .int .i64 i ∧ Grow (w2.setCell ⟨w.heap.size + 1 + 1, 1, none⟩ v') (w.heap.size + 3) rs i u D ∧ (w2.setCell ⟨w.heap.size + 1 + 1, 1, none⟩ v').rowIs (w.heap.size + 1) 3 256 (fun _ => .int .i64 0) ∧ Below w.heap.size w (w2.setCell ⟨w.heap.size + 1 + 1, 1, none⟩ v') ∧
      Box (w2.setCell ⟨w.heap.size + 1 + 1, 1, none⟩ v') w.heap.size 29 [.slice none 0 0, .slice none 0 0, .int .i64 0] ∧ Box (w2.setCell ⟨w.heap.size + 1 + 1, 1, none⟩ v') (w.heap.size + 1 + 1) 29 [.slice (some ⟨w.heap.size + 1, 0, none⟩) 256 256, u, .int .i64 0] := by
  have o : Only [w.heap.size + 1 + 1] w2 (w2.setCell ⟨w.heap.size + 1 + 1, 1, none⟩ v') := (Only.refl _ w2).setCell (.inl (by simp)) _
  refine ⟨j + 1, v', D', by omega, by go_num, gn.only o (by simp), ?_, ?_, (x0.keep b2 (by omega)).far (by omega) _, (x2.keep b2 (by omega)).set 1 _⟩
  · exact (hz.of_block (b2.block _ (by omega))).setOther (show w.heap.size + 1 ≠ w.heap.size + 1 + 1 by omega) _
  · exact (hb.trans (b2.mono (by omega))).setCell (by simp; omega) _
end Go.Proofs.YtgciaafapbaliaaGreatDoor
