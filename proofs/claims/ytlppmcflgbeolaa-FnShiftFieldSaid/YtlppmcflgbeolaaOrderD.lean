/- Instructions as the draws make them: their bytes are bytes, at most three. -/
import Derived.Test.YtlppmcflgbeolaaOwn
import Derived.Test.YtlppmcflgbeolaaIn
import Derived.Test.YtlppmcflgbeolaaDrawB
import Derived.Deep.RegionHeld3
namespace Go.Proofs.Ytlppmcflgbeolaa
open Go.ChangeShapes Go.WideShapes Go.ChangeAt Go.RowKit

/-- The length of an operation's instruction. -/
def lenN (op : Int) : Int := if betB op 0 15 = true then (#[1, 2, 3, 3, 3, 3, 3, 3, 1, 1, 3, 3, 3, 3, 1, 1] : Array Int).getD op.toNat 0 else 0
theorem lenN_bd (op : Int) : 0 ≤ lenN op ∧ lenN op ≤ 3 := by
  unfold lenN
  split
  · rename_i h
    obtain ⟨h0, h1⟩ := betB_yes h
    have hc : op = 0 ∨ op = 1 ∨ op = 2 ∨ op = 3 ∨ op = 4 ∨ op = 5 ∨ op = 6 ∨ op = 7 ∨ op = 8 ∨ op = 9 ∨ op = 10 ∨ op = 11 ∨ op = 12 ∨ op = 13 ∨ op = 14 ∨ op = 15 := by omega
    rcases hc with rfl | rfl | rfl | rfl | rfl | rfl | rfl | rfl | rfl | rfl | rfl | rfl | rfl | rfl | rfl | rfl <;> decide
  · omega
theorem len_lit (op : Int) (h0 : 0 ≤ op) (h1 : op ≤ 15) : (#[Value.int .i64 1, .int .i64 2, .int .i64 3, .int .i64 3, .int .i64 3, .int .i64 3, .int .i64 3, .int .i64 3, .int .i64 1, .int .i64 1, .int .i64 3, .int .i64 3, .int .i64 3, .int .i64 3, .int .i64 1, .int .i64 1] : Array Value)[op.toNat]? = some (.int .i64 (lenN op)) := by
  have hc : op = 0 ∨ op = 1 ∨ op = 2 ∨ op = 3 ∨ op = 4 ∨ op = 5 ∨ op = 6 ∨ op = 7 ∨ op = 8 ∨ op = 9 ∨ op = 10 ∨ op = 11 ∨ op = 12 ∨ op = 13 ∨ op = 14 ∨ op = 15 := by omega
  rcases hc with rfl | rfl | rfl | rfl | rfl | rfl | rfl | rfl | rfl | rfl | rfl | rfl | rfl | rfl | rfl | rfl <;> rfl
def ordB (op arg : Int) : Bool := if lenN op = 1 then decide (arg = 0) else if lenN op = 2 then byteB arg else if lenN op = 3 then addrB arg else false
/-- The bytes of an instruction. -/
def ordN (op arg : Int) : List Int := if ordB op arg = true then ([op, arg % 256, arg / 256] : List Int).take (lenN op).toNat else []
theorem ordB_len {op arg : Int} (h : ordB op arg = true) : 1 ≤ lenN op ∧ 0 ≤ op ∧ op ≤ 15 ∧ 0 ≤ arg ∧ arg ≤ 1023 := by
  have hb : betB op 0 15 = true := by
    by_cases hb : betB op 0 15 = true
    · exact hb
    · have : lenN op = 0 := by simp [lenN, hb]
      simp [ordB, this] at h
  obtain ⟨h0, h1⟩ := betB_yes hb
  unfold ordB at h
  split at h
  · rename_i hl; simp at h; subst h; omega
  · split at h
    · rename_i hl; have := byteB_yes h; omega
    · split at h
      · rename_i hl; have := addrB_yes h; omega
      · cases h
theorem ordN_bytes (op arg : Int) : (ordN op arg).length ≤ 3 ∧ ∀ i, i < (ordN op arg).length → byteB ((ordN op arg).getD i 0) = true := by
  unfold ordN
  split
  · rename_i h
    obtain ⟨h1, h2, h3, h4, h5⟩ := ordB_len h
    have hl := lenN_bd op
    refine ⟨by simp; omega, fun i hi => ?_⟩
    have hi3 : i < 3 ∧ i < (lenN op).toNat := by simp at hi; omega
    have e : (([op, arg % 256, arg / 256] : List Int).take (lenN op).toNat).getD i 0 = ([op, arg % 256, arg / 256] : List Int).getD i 0 := by
      simp only [List.getD_eq_getElem?_getD, List.getElem?_take, if_pos hi3.2]
    rw [e]
    have hc : i = 0 ∨ i = 1 ∨ i = 2 := by omega
    rcases hc with rfl | rfl | rfl
    · exact byteB_mk (by simp; omega) (by simp; omega)
    · exact byteB_mk (by simp; omega) (by simp; omega)
    · exact byteB_mk (by simp; omega) (by simp; omega)
  · exact ⟨by simp, by simp⟩
theorem cell_new {w1 : World} {b i : Nat} {y : Value} {o : Obj} (h : w1.cell? ⟨b, i, none⟩ = some y) : (w1.alloc o).drew.cell? ⟨b, i, none⟩ = some y := by
  show (w1.alloc o).cell? _ = _
  rw [World.cell?_alloc_lt _ _ _ (World.block_lt_of_cell? _ _ h)]; exact h
/-- A literal of three numbers, cut. -/
theorem copied_lit {w w2 : World} {g L : Nat} {t : TypeId} {x0 x1 x2 : Int} (h : Box w2 g t [.int .i64 x0, .int .i64 x1, .int .i64 x2]) (hg : w.heap.size ≤ g) (h1 : 1 ≤ L) (h3 : L ≤ 3) (b : Below w.heap.size w w2) :
    Copied (([x0, x1, x2] : List Int).take L) L w (.returned (.slice (some ⟨g, 0, none⟩) L 3)) w2 := by
  refine ⟨_, 3, [g], rfl, h3, ⟨by simp; omega, .inr ⟨by omega, g, 0, rfl, rfl, h.lt, fun i hi => ?_⟩⟩, .one hg h.lt h.frozen, b⟩
  have e : (([x0, x1, x2] : List Int).take L).getD i 0 = ([x0, x1, x2] : List Int).getD i 0 := by
    simp only [List.getD_eq_getElem?_getD, List.getElem?_take, if_pos hi]
  rw [e, Nat.zero_add, h.cell i]
  have hc : i = 0 ∨ i = 1 ∨ i = 2 := by omega
  rcases hc with rfl | rfl | rfl <;> rfl
end Go.Proofs.Ytlppmcflgbeolaa
