/- A row of the call's own while a list is drawn into it. -/
import Derived.Test.YtfbpnneegenhgaaFldR
namespace Go.Proofs.Ytfbpnneegenhgaa
open Go.ChangeShapes Go.WideShapes Go.ChangeAt Go.RowKit
set_option linter.unusedVariables false

/-- What lies in memory while a list is drawn: a row of the call's own; the reader in block q. -/
structure RowD (w0 : World) (q m : Nat) (t : TypeId) (s : Nat) (v : Value) (n : Nat) (xs : List Value) (w : World) : Prop where
  own : w.ownsRow w0.heap.size t s v n xs
  only : Only [q] w0 w
  rd : Rd w q m
  hq : q < w0.heap.size
section
variable {w0 : World} {q m : Nat} {t : TypeId} {s : Nat} {v : Value} {n : Nat} {xs : List Value} {w : World}
theorem RowD.drawn {w' : World} {m' : Nat} (h : RowD w0 q m t s v n xs w) (o : Only [q] w w') (k : Rd w' q m') : RowD w0 q m' t s v n xs w' :=
  ⟨own_only_any h.own o (by have := h.hq; simpa using this), h.only.trans o, k, h.hq⟩
theorem RowD.below {w' : World} (h : RowD w0 q m t s v n xs w) (o : Below w.heap.size w w') : RowD w0 q m t s v n xs w' := h.drawn (.of_below o) (h.rd.keep o)
theorem RowD.mono {m' : Nat} (h : RowD w0 q m t s v n xs w) (k : m ≤ m') : RowD w0 q m' t s v n xs w := ⟨h.own, h.only, h.rd.mono k, h.hq⟩
theorem RowD.grow {w' : World} {v' : Value} {n' : Nat} {xs' : List Value} (h : RowD w0 q m t s v n xs w) (ow : w'.ownsRow w0.heap.size t s v' n' xs') (g : w.grownBy w' v.ownBlock) : RowD w0 q m t s v' n' xs' w' :=
  ⟨ow, only_grown h.only g fun k e => (own_block h.own k e).1, rd_grown h.rd g fun k e => by have := (own_block h.own k e).1; have := h.hq; omega, h.hq⟩
theorem RowD.far {b i : Nat} (h : RowD w0 q m t s v n xs w) (hb : ∀ g, v.ownBlock = some g → g ≠ b) (h0 : w0.heap.size ≤ b) (u : Value) : RowD w0 q m t s v n xs (w.setCell ⟨b, i, none⟩ u) := by
  refine ⟨?_, h.only.setCell (.inr h0) u, h.rd.far (by have := h.hq; omega) u, h.hq⟩
  rcases h.own with ⟨hl, h1 | ⟨g, cap, cur, rfl, hg, hh, hr⟩⟩
  · exact ⟨hl, .inl h1⟩
  · exact ⟨hl, .inr ⟨g, cap, cur, rfl, hg, (Below.heap_setCell w ⟨b, i, none⟩ u g (hb g rfl)).trans hh, hr⟩⟩
end
end Go.Proofs.Ytfbpnneegenhgaa
