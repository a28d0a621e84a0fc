/- A drawn instruction. -/
import Derived.Test.YtlppmcflgbeolaaOrderD
namespace Go.Proofs.Ytlppmcflgbeolaa
open Go.ChangeShapes Go.WideShapes Go.ChangeAt Go.RowKit

theorem Sole.only {q : Nat} {w w' : World} (h : Sole q w w') : Only [q] w w' := ⟨h.os, h.tape, h.output, h.size, fun k hk hn => h.block k hk (by simpa using hn)⟩
theorem Only.sole {q : Nat} {w w' : World} (h : Only [q] w w') : Sole q w w' := ⟨h.os, h.tape, h.output, h.size, fun k hk hn => h.block k hk (by simpa using hn)⟩
theorem Rd.stay {w w' : World} {q m : Nat} (h : Rd w q m) (k : Below (q + 1) w w') : Rd w' q m := by
  obtain ⟨p, a, len, cap, h1, h2, h3, h4, h5, h6, h7, h8⟩ := h
  refine ⟨p, a, len, cap, Nat.lt_of_lt_of_le h1 k.size, h2, (k.cell (by simp)).trans h3, (k.cell (by simp)).trans h4, (k.frozen (by simp)).trans h5, h6, h7, ?_⟩
  rcases h8 with h8 | ⟨b, off, rfl, hb, hc⟩
  · exact .inl h8
  · exact .inr ⟨b, off, rfl, hb, fun i hi => by obtain ⟨z, z0, z1, hz⟩ := hc i hi; exact ⟨z, z0, z1, (k.cell (by show b < _; omega)).trans hz⟩⟩
theorem Rd.far {w : World} {q m : Nat} (h : Rd w q m) {b i : Nat} (hb : q < b) (v : Value) : Rd (w.setCell ⟨b, i, none⟩ v) q m := h.stay ((Below.refl _ _).setCell (show q + 1 ≤ b by omega) v)
theorem Rd.alloc {w : World} {q m : Nat} (h : Rd w q m) (o : Obj) : Rd (w.alloc o) q m := h.keep (below1 w o)
theorem odd_zero (q : Nat) (w : World) : Calls Try.prog 64 #[.pointer (some ⟨q, 0, none⟩), .int .i64 0] w fun e w' => e = .returned (.bool false) ∧ w = w' := by
  go_enter Try.func64, Try.ntmps64
  go_wp2_with fail
  go_ret
  exact ⟨rfl, rfl⟩
/-- What drawing an instruction leaves. -/
def OrdDrawn (q m : Nat) (w : World) (e : Ending) (w' : World) : Prop := ∃ op arg : Int, e = .returned (.agg #[.int .i64 op, .int .i64 arg]) ∧ Only [q] w w' ∧ Rd w' q (m + 8)
theorem five (v x0 x1 x2 x3 x4 : Int) (d0 : 0 ≤ v) (d1 : v < 5) : ∃ u : Int, (#[Value.int .i64 x0, .int .i64 x1, .int .i64 x2, .int .i64 x3, .int .i64 x4] : Array Value)[v.toNat]? = some (.int .i64 u) := by
  have h : v = 0 ∨ v = 1 ∨ v = 2 ∨ v = 3 ∨ v = 4 := by omega
  rcases h with rfl | rfl | rfl | rfl | rfl <;> exact ⟨_, rfl⟩
end Go.Proofs.Ytlppmcflgbeolaa
