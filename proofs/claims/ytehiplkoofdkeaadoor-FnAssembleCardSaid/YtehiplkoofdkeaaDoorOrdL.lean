/- The drawn laws of chapter 3 on lengths, valid instructions. -/
import Derived.Test.YtehiplkoofdkeaaDoorOrderF
import Derived.Test.YtehiplkoofdkeaaDoorDecI
namespace Go.Proofs.YtehiplkoofdkeaaDoor
open Go.ChangeShapes Go.WideShapes Go.ChangeAt Go.RowKit

theorem isRow_stays {k : IntKind} {w w' : World} {a : Option Addr} {len cap : Nat} {zs : List Int} (h : IsRow k w a len cap zs) (b : Below w.heap.size w w') : IsRow k w' a len cap zs := by
  rcases h with h | ⟨x, rfl, hl, hm, hz, hc, hw⟩
  · exact .inl h
  · exact .inr ⟨x, rfl, hl, hm, hz, fun i hi => (b.cell (World.block_lt_of_cell? _ _ (hc i hi))).trans (hc i hi), hw⟩
theorem isRow_len {k : IntKind} {w : World} {a : Option Addr} {len cap : Nat} {zs : List Int} (h : IsRow k w a len cap zs) : len ≤ 9223372036854775807 := by
  rcases h with ⟨_, h, _⟩ | ⟨x, _, hl, hm, _⟩
  · omega
  · unfold maxLen at hm; omega
/-- What drawing a number leaves. -/
def NumGot (lo hi : Int) (w : World) (e : Ending) (w' : World) : Prop := ∃ v : Int, lo ≤ v ∧ v ≤ hi ∧ e = .returned (.int .i64 v) ∧ Below w.heap.size w w'
/-- What drawing an instruction leaves. -/
def OrdGot (w : World) (e : Ending) (w' : World) : Prop := ∃ op arg : Int, e = .returned (.agg #[.int .i64 op, .int .i64 arg]) ∧ Below w.heap.size w w'
theorem ord_top (op : Int) : ordB op 1024 = false := by
  rw [ordB_top]
  have : topN op ≤ 1023 := by unfold topN; split <;> (try split) <;> omega
  simp; omega
theorem ord_sixteen (arg : Int) : ordB 16 arg = false := by rw [ordB_top]; simp [betB]
end Go.Proofs.YtehiplkoofdkeaaDoor
