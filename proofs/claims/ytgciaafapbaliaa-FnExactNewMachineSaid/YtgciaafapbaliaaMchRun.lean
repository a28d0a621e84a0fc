/- Several steps as plain data; a machine laid into a variable, and handed on. -/
import Derived.Test.YtgciaafapbaliaaMchC
namespace Go.Proofs.Ytgciaafapbaliaa
open Go.ChangeShapes Go.WideShapes Go.ChangeAt Go.RowKit

def stepsB (s : Int) : Bool := decide (0 ≤ s) && decide (s ≤ 500)
def runX (X : Mach) (s : Int) : Mach := if stepsB s = true ∧ machB X = true then runN X s.toNat else machZ
def untilX (X : Mach) (ad : Int) : Mach := if addrB ad = true ∧ machB X = true then (untilN ad 500 0 X).2 else machZ
def untilS (X : Mach) (ad : Int) : Int := if addrB ad = true ∧ machB X = true then (untilN ad 500 0 X).1 else 0
theorem run_good {X : Mach} (g : machB X = true) (k : Nat) (hk : k ≤ 500) : GoodX (runN X k) 1000001500 := good_more (good_run (goodX_of g) k) (by omega)
theorem runX_fits (X : Mach) (s : Int) : Fits (runX X s) 256 := by
  unfold runX
  split
  · rename_i h
    have hs : 0 ≤ s ∧ s ≤ 500 := by simpa [stepsB] using h.1
    exact fits_good (run_good h.2 s.toNat (by omega))
  · exact fits_Z _
theorem machZ_new {w w' : World} (b : Below w.heap.size w w') : MachNew machZ w (.returned (.agg #[.slice none 0 0, .slice none 0 0, .int .i64 0, .int .i64 0, .int .i64 0, .bool false, .slice none 0 0, .bool false, .int .i64 0])) w' :=
  ⟨none, 0, 0, none, 0, 0, none, 0, 0, [], [], [], rfl, ⟨Nat.le_refl _, Nat.le_refl _, Nat.le_refl _⟩, ⟨.nil _ _, .nil _ _, .nil _ _⟩, by simpa using New.nil _ _, b⟩
/-- A machine that a call has made, laid into a new variable. -/
theorem machIn_new {w : World} {A : Option Addr} {c : Nat} {R : Option Addr} {d : Nat} {B : Option Addr} {g n k m : Nat} {X : Mach} {fa fr fb : List Nat} {L : Nat} (hc : n ≤ c ∧ k ≤ d ∧ m ≤ g) (hh : MHas w A n R k B m X fa fr fb) (hn : New L w (fa ++ fr ++ fb)) (ho : w.ownsRow L 3 1 (.slice B m g) m (iv X.back)) (hs : ∀ b, (Value.slice B m g).ownBlock = some b → b ∉ fa ++ fr) (hL : L ≤ w.heap.size) :
    MachIn (w.alloc (.cells #[.slice A n c, .slice R k d, .int .i64 X.mem.bank, .int .i64 X.a, .int .i64 X.at_, .bool X.carry, .slice B m g, .bool X.stop, .int .i64 X.cyc] 28)) w.heap.size A c R d B g n k m X fa fr fb L :=
  ⟨Box.new w _ _, hh.below (below1 w _), hn.keep (.of_below (below1 w _)), own_keep ho (below1 w _), fun b hb => ⟨by have := (own_lt ho b hb).2; omega, hs b hb⟩, fun hx => by have := (hn.lt _ hx).2; omega, hL, hc⟩
/-- A machine handed on through the result's own block. -/
theorem mach_handed {w w2 w3 : World} {A : Option Addr} {c : Nat} {R : Option Addr} {d : Nat} {B : Option Addr} {g n k m : Nat} {X : Mach} {fa fr fb S : List Nat} {L : Nat} (hc : n ≤ c ∧ k ≤ d ∧ m ≤ g) (hh : MHas w2 A n R k B m X fa fr fb) (hn : New L w2 (fa ++ fr ++ fb)) (o : Only S w2 w3) (hS : ∀ b ∈ S, b < L) (hL : w.heap.size ≤ L) (b : Below w.heap.size w w3) : MachNew X w (.returned (.agg #[.slice A n c, .slice R k d, .int .i64 X.mem.bank, .int .i64 X.a, .int .i64 X.at_, .bool X.carry, .slice B m g, .bool X.stop, .int .i64 X.cyc])) w3 := by
  have d1 : ∀ b ∈ fa ++ fr ++ fb, b ∉ S := fun x hx hs => by have := hS x hs; have := (hn.lt x hx).1; omega
  have s1 : Same (fa ++ fr ++ fb) w2 w3 := .of_only o d1
  exact ⟨A, n, c, R, k, d, B, m, g, fa, fr, fb, rfl, hc, hh.keep s1, (hn.mono hL).keep s1, b⟩
end Go.Proofs.Ytgciaafapbaliaa
