/- The laws' own functions on slices of tiles, and on backgrounds. -/
import Derived.Test.YtfbpnneegenhgaaTypedF
import Derived.Test.YtfbpnneegenhgaaTilS
namespace Go.Proofs.Ytfbpnneegenhgaa
open Go.ChangeShapes Go.WideShapes Go.ChangeAt Go.RowKit
set_option linter.unusedVariables false

section
variable {ops : Array Oper} {Q : Exit → Act → World → Prop} {T : Nat → Value → World → Prop} {a0 : Act} {w0 : World} {i : Nat} {o : Oper}
end
section
variable {ops : Array Oper} {rest : List Oper} {o : Oper} {a : Act} {w : World} {Q : Exit → Act → World → Prop}
end
/-- A row of m tiles of which k stand. -/
def tkZ (zs : List Int) (k m : Nat) : List Int := zs.take (64 * k) ++ List.replicate (64 * m - 64 * k) 0
theorem tkZ_len {zs : List Int} {k m : Nat} (h : zs.length = 64 * m) (hk : k ≤ m) : (tkZ zs k m).length = 64 * m := by
  unfold tkZ; rw [List.length_append, List.length_take, List.length_replicate]; omega
theorem tkZ_all {zs : List Int} {m : Nat} (h : zs.length = 64 * m) : tkZ zs m m = zs := by
  unfold tkZ; rw [Nat.sub_self, List.replicate_zero, List.append_nil, List.take_of_length_le (by omega)]
theorem tkZ_step {zs : List Int} {k m : Nat} (h : zs.length = 64 * m) (hk : k < m) : (tkZ zs k m).take (k * 64) ++ tl zs k ++ (tkZ zs k m).drop (k * 64 + 64) = tkZ zs (k + 1) m := by
  have l1 : (zs.take (64 * k)).length = k * 64 := by rw [List.length_take]; omega
  have e1 : (tkZ zs k m).take (k * 64) = zs.take (64 * k) := by
    unfold tkZ
    rw [← l1, List.take_left]
  have e2 : (tkZ zs k m).drop (k * 64 + 64) = List.replicate (64 * m - 64 * (k + 1)) 0 := by
    unfold tkZ
    rw [← List.drop_drop, ← l1, List.drop_left, List.drop_replicate]
    congr 1
  rw [e1, e2]
  unfold tkZ tl
  congr 1
  rw [show 64 * (k + 1) = 64 * k + 64 by omega, List.take_add]
theorem rep_at (n q : Nat) (v : Value) (h : q < n) : (List.replicate n v).toArray[q]! = v := by simp [h]
theorem made_tiles (n : Nat) : madeCells (Value.agg (iv z64).toArray).cells (n * 64) = (iv (List.replicate (64 * n) 0)).toArray := by
  apply Array.ext
  · rw [size_madeCells]; simp; omega
  · intro j h1 h2
    simp only [madeCells, Value.cells, Array.getElem_map, Array.getElem_range]
    have h3 : j % (iv z64).toArray.size < 64 := by
      have : (iv z64).toArray.size = 64 := by simp [z64_len]
      rw [this]; omega
    generalize j % (iv z64).toArray.size = q at h3
    have h4 : (iv z64).toArray[q]! = .int .i64 0 := by
      simp only [iv, z64, List.map_replicate]
      exact rep_at 64 q _ h3
    rw [h4]
    simp
end Go.Proofs.Ytfbpnneegenhgaa
