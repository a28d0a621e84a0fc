/- Decoding instructions: what a list of numbers holds at a place; the model's DecodeOrder. -/
import Derived.Test.YtnfphdpoimjcmaaOrderD
import Derived.RegionTactic
import Derived.ChangeAlike
namespace Go.Proofs.Ytnfphdpoimjcmaa
open Go.ChangeShapes Go.WideShapes Go.ChangeAt Go.RowKit

/-- The instruction whose bytes begin a list at a place: its operation and its argument. -/
def decN (xs : List Int) (i : Int) : Option (Int × Int) :=
  if betB i 0 (xs.length - 1) = true ∧ lenN (xs.getD i.toNat 0) ≠ 0 ∧ i ≤ xs.length - lenN (xs.getD i.toNat 0) then
    if lenN (xs.getD i.toNat 0) = 1 then some (xs.getD i.toNat 0, 0)
    else if lenN (xs.getD i.toNat 0) = 2 then (if byteB (xs.getD (i.toNat + 1) 0) = true then some (xs.getD i.toNat 0, xs.getD (i.toNat + 1) 0) else none)
    else if byteB (xs.getD (i.toNat + 1) 0) = true ∧ betB (xs.getD (i.toNat + 2) 0) 0 3 = true then some (xs.getD i.toNat 0, xs.getD (i.toNat + 1) 0 + 256 * xs.getD (i.toNat + 2) 0) else none
  else none
def decV : Option (Int × Int) → Value
  | some (op, arg) => .tuple #[.agg #[.int .i64 op, .int .i64 arg], .int .i64 (lenN op), .bool true]
  | none => .tuple #[.agg #[.int .i64 0, .int .i64 0], .int .i64 0, .bool false]
def Decoded (d : Option (Int × Int)) (w : World) (e : Ending) (w' : World) : Prop := e = .returned (decV d) ∧ Below w.heap.size w w'
theorem decoded_none {d : Option (Int × Int)} {w w' : World} (h : d = none) (b : Below w.heap.size w w') : Decoded d w (.returned (.tuple #[.agg #[.int .i64 0, .int .i64 0], .int .i64 0, .bool false])) w' := by
  subst h; exact ⟨rfl, b⟩
theorem decoded_some {d : Option (Int × Int)} {w w' : World} {op arg L : Int} (h : d = some (op, arg)) (hL : lenN op = L) (b : Below w.heap.size w w') : Decoded d w (.returned (.tuple #[.agg #[.int .i64 op, .int .i64 arg], .int .i64 L, .bool true])) w' := by
  subst h; subst hL; exact ⟨rfl, b⟩
theorem dec_out {xs : List Int} {i : Int} (h : betB i 0 (xs.length - 1) = false) : decN xs i = none := by simp [decN, h]
theorem dec_zero {xs : List Int} {k : Nat} (h : lenN (xs.getD k 0) = 0) : decN xs k = none := by
  unfold decN; rw [if_neg]; rintro ⟨_, h2, _⟩; exact h2 (by rw [Int.toNat_natCast]; exact h)
theorem dec_far {xs : List Int} {k : Nat} (h : (xs.length : Int) - lenN (xs.getD k 0) < k) : decN xs k = none := by
  unfold decN; rw [if_neg]; rintro ⟨_, _, h3⟩; rw [Int.toNat_natCast] at h3; omega
theorem dec_in {xs : List Int} {k : Nat} (h0 : k < xs.length) (h1 : lenN (xs.getD k 0) ≠ 0) (h2 : (k : Int) ≤ xs.length - lenN (xs.getD k 0)) : betB k 0 (xs.length - 1) = true ∧ lenN (xs.getD (k : Int).toNat 0) ≠ 0 ∧ (k : Int) ≤ xs.length - lenN (xs.getD (k : Int).toNat 0) :=
  ⟨by simp [betB]; omega, by simpa using h1, by simpa using h2⟩
theorem dec_one {xs : List Int} {k : Nat} (h0 : k < xs.length) (h1 : lenN (xs.getD k 0) = 1) : decN xs k = some (xs.getD k 0, 0) := by
  unfold decN; rw [if_pos (dec_in h0 (by omega) (by omega))]; simp only [Int.toNat_natCast]; rw [if_pos h1]
theorem dec_two {xs : List Int} {k : Nat} (h0 : k < xs.length) (h1 : lenN (xs.getD k 0) = 2) (h2 : (k : Int) ≤ xs.length - 2) : decN xs k = if byteB (xs.getD (k + 1) 0) = true then some (xs.getD k 0, xs.getD (k + 1) 0) else none := by
  unfold decN; rw [if_pos (dec_in h0 (by omega) (by omega))]; simp only [Int.toNat_natCast]; rw [if_neg (by omega), if_pos h1]
theorem dec_three {xs : List Int} {k : Nat} (h0 : k < xs.length) (h1 : lenN (xs.getD k 0) = 3) (h2 : (k : Int) ≤ xs.length - 3) : decN xs k = if byteB (xs.getD (k + 1) 0) = true ∧ betB (xs.getD (k + 2) 0) 0 3 = true then some (xs.getD k 0, xs.getD (k + 1) 0 + 256 * xs.getD (k + 2) 0) else none := by
  unfold decN; rw [if_pos (dec_in h0 (by omega) (by omega))]; simp only [Int.toNat_natCast]; rw [if_neg (by omega), if_neg (by omega)]
theorem byteB_bet (x : Int) : betB x 0 255 = byteB x := rfl
end Go.Proofs.Ytnfphdpoimjcmaa
