/- A byte written in place, in a memory that lies in a larger struct: the program's functions and the model's. -/
import Derived.Test.YtnfphdpoimjcmaaMemS
namespace Go.Proofs.Ytnfphdpoimjcmaa
open Go.ChangeShapes Go.WideShapes Go.ChangeAt Go.RowKit

/-- The memory M lies at the head of block q, in memory of the call's own. -/
structure CelIn (w : World) (q : Nat) (t : TypeId) (cs : List Value) (A : Option Addr) (n c : Nat) (R : Option Addr) (k d : Nat) (M : Mem) (fa fr : List Nat) (L : Nat) : Prop where
  box : Box w q t (.slice A n c :: .slice R k d :: .int .i64 M.bank :: cs)
  ram : Ints w A n M.ram fa
  rom : Grid w R k M.rom fr
  new : New L w (fa ++ fr)
  off : q ∉ fa ++ fr
/-- What writing leaves. -/
def CelPut (q : Nat) (t : TypeId) (cs : List Value) (A : Option Addr) (n c : Nat) (R : Option Addr) (k d : Nat) (M : Mem) (fa fr : List Nat) (L : Nat) (w : World) (e : Ending) (w' : World) : Prop :=
  e = .returned (.tuple #[]) ∧ CelIn w' q t cs A n c R k d M fa fr L ∧ Only (q :: (fa ++ fr)) w w'
theorem New.cellSet {L : Nat} {w : World} {fp : List Nat} (h : New L w fp) (a : Addr) (v : Value) : New L (w.setCell a v) fp :=
  ⟨h.once, fun b hb => by simpa using h.lt b hb, fun b hb o => by rw [World.frozen?_setCell]; exact h.free b hb o⟩
theorem CelIn.below {w w' : World} {q : Nat} {t : TypeId} {cs : List Value} {A : Option Addr} {n c : Nat} {R : Option Addr} {k d : Nat} {M : Mem} {fa fr : List Nat} {L : Nat} (h : CelIn w q t cs A n c R k d M fa fr L) (b : Below w.heap.size w w') : CelIn w' q t cs A n c R k d M fa fr L :=
  ⟨h.box.below b, h.ram.below b, h.rom.below b, h.new.keep (.of_below b), h.off⟩
theorem CelIn.setRam {w : World} {q : Nat} {t : TypeId} {cs : List Value} {b o n c : Nat} {R : Option Addr} {k d : Nat} {M : Mem} {fa fr : List Nat} {L : Nat} (h : CelIn w q t cs (some ⟨b, o, none⟩) n c R k d M fa fr L) (hb : b ∈ fa) {p : Nat} (hp : p < n) (v : Int) :
    CelIn (w.setCell ⟨b, o + p, none⟩ (.int .i64 v)) q t cs (some ⟨b, o, none⟩) n c R k d { M with ram := M.ram.set p v } fa fr L ∧ Only (q :: (fa ++ fr)) w (w.setCell ⟨b, o + p, none⟩ (.int .i64 v)) := by
  have o1 : Only fa w (w.setCell ⟨b, o + p, none⟩ (.int .i64 v)) := (Only.refl _ w).setCell (.inl hb) _
  have nd := List.nodup_append.1 h.new.once
  have hq : q ≠ b := fun e => h.off (List.mem_append_left _ (e ▸ hb))
  exact ⟨⟨h.box.far hq _, h.ram.set hp v, h.rom.keep (.of_only o1 fun x hx hy => nd.2.2 x hy x hx rfl), h.new.cellSet _ _, h.off⟩, o1.mono fun x hx => List.mem_cons_of_mem _ (List.mem_append_left _ hx)⟩
theorem CelIn.setBank {w : World} {q : Nat} {t : TypeId} {cs : List Value} {A : Option Addr} {n c : Nat} {R : Option Addr} {k d : Nat} {M : Mem} {fa fr : List Nat} {L : Nat} (h : CelIn w q t cs A n c R k d M fa fr L) (v : Int) :
    CelIn (w.setCell ⟨q, 2, none⟩ (.int .i64 v)) q t cs A n c R k d { M with bank := v } fa fr L ∧ Only (q :: (fa ++ fr)) w (w.setCell ⟨q, 2, none⟩ (.int .i64 v)) := by
  have o1 : Only [q] w (w.setCell ⟨q, 2, none⟩ (.int .i64 v)) := (Only.refl _ w).setCell (.inl (by simp)) _
  have dd : ∀ y ∈ fa ++ fr, y ∉ [q] := fun y hy hs => by simp at hs; subst hs; exact h.off hy
  exact ⟨⟨h.box.set 2 _, h.ram.keep (.of_only o1 fun x hx => dd x (List.mem_append_left _ hx)), h.rom.keep (.of_only o1 fun x hx => dd x (List.mem_append_right _ hx)), h.new.cellSet _ _, h.off⟩, o1.mono fun x hx => by simp at hx; simp [hx]⟩
end Go.Proofs.Ytnfphdpoimjcmaa
