/- Regions that draw their order, whose calls may make memory but change nothing that was there: one walk in the order of the text serves every order. -/
import Derived.Test.YtlppmcflgbeolaaBase
import Derived.Deep.QuietTactic
import Derived.BigQuiet
import Derived.OpenShut
namespace Go.Proofs.Ytlppmcflgbeolaa
open Go.ChangeShapes Go.WideShapes Go.ChangeAt Go.RowKit

/-- A world behind w: all that was there is as it was. -/
structure Later (w : World) where
  now : World
  below : Below w.heap.size w now
instance (w : World) : Nonempty (Later w) := ⟨⟨w, Below.refl _ _⟩⟩
theorem later_cell {w : World} {p : Addr} {v : Value} (h : w.cell? p = some v) (u : Later w) : u.now.cell? p = some v :=
  (u.below.cell (World.block_lt_of_cell? _ _ h)).trans h
theorem wp_region_later {P : Program} {id : Nat} {Q : Exit → Act → World → Prop} {a : Act} {w : World} {l : List Oper} (hm : P.follows .mixedOrders = true) (hB : Region.lexB .any l.toArray = true)
    (h : wpQuiet P l.toArray (fun w' => ∃ u : Later w, w' = u.now) (fun a' => ∀ w', (∃ u : Later w, w' = u.now) → Q .normal a' w') l a) : (Code.region id l.toArray true).wp P Q a w :=
  wp_region_quiet (C := fun w' => ∃ u : Later w, w' = u.now) hm hB ⟨⟨w.drew, (Below.refl _ _).drew⟩, rfl⟩ (by simpa using h)
/-- A call that makes memory at most. -/
theorem Calls.later {P : Program} {f : FuncId} {args : Array Value} {w : World} {u : Later w} {v : Value}
    (h : Calls P f args u.now fun e w' => e = .returned v ∧ Below u.now.heap.size u.now w') : Calls P f args u.now fun e w'' => e = .returned v ∧ ∃ u' : Later w, w'' = u'.now :=
  h.mono fun _ w' ⟨he, hb⟩ => ⟨he, ⟨w', u.below.trans (hb.mono u.below.size)⟩, rfl⟩
/-- A call that reads in an open order. -/
theorem Calls.later_drew {P : Program} {f : FuncId} {args : Array Value} {w : World} {u : Later w} {v : Value}
    (h : Calls P f args u.now fun e w' => e = .returned v ∧ ∃ m, w' = u.now.drewN m) : Calls P f args u.now fun e w'' => e = .returned v ∧ ∃ u' : Later w, w'' = u'.now :=
  h.mono fun _ _ ⟨he, m, hm⟩ => ⟨he, ⟨u.now.drewN m, ⟨u.below.os, u.below.tape, u.below.output, u.below.size, u.below.block⟩⟩, hm⟩
/-- A call that computes only. -/
theorem Calls.later_same {P : Program} {f : FuncId} {args : Array Value} {w : World} {u : Later w} {v : Value}
    (h : Calls P f args u.now fun e w' => e = .returned v ∧ u.now = w') : Calls P f args u.now fun e w'' => e = .returned v ∧ ∃ u' : Later w, w'' = u'.now :=
  h.mono fun _ _ ⟨he, hm⟩ => ⟨he, u, hm.symm⟩
end Go.Proofs.Ytlppmcflgbeolaa
