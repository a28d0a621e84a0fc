/- Plain arithmetic of bytes: what the functions of chapter 1 compute, as Lean functions on integers; nothing of the program is imported. -/
import GoSem.Claim
namespace Go.Proofs.Ytlppmcflgbeolaa
/-- 1 for true, 0 for false. -/
def digi (c : Bool) : Int := if c then 1 else 0
/-- A byte as a signed number. -/
def sgn (a : Int) : Int := if 128 ≤ a then a - 256 else a
def addN (a b : Int) (c : Bool) : Int := (a + b + digi c) % 256
def addC (a b : Int) (c : Bool) : Bool := decide (255 < a + b + digi c)
def addV (a b : Int) (c : Bool) : Bool := decide (sgn a + sgn b + digi c < -128) || decide (127 < sgn a + sgn b + digi c)
def subN (a b : Int) (c : Bool) : Int := (a - b - digi c) % 256
def subC (a b : Int) (c : Bool) : Bool := decide (a - b - digi c < 0)
def rolN (a : Int) (c : Bool) : Int := (2 * a + digi c) % 256
def rolC (a : Int) : Bool := decide (128 ≤ a)
def rorN (a : Int) (c : Bool) : Int := a / 2 + 128 * digi c
def rorC (a : Int) : Bool := decide (a % 2 = 1)
def onesN (a : Int) : Int := a % 2 + a / 2 % 2 + a / 4 % 2 + a / 8 % 2 + a / 16 % 2 + a / 32 % 2 + a / 64 % 2 + a / 128 % 2
/-- The ones among the lowest k binary digits. -/
def onesUpto : Nat → Int → Int
  | 0, _ => 0
  | k + 1, a => onesUpto k a + a / 2 ^ k % 2
theorem onesUpto_bd (k : Nat) (a : Int) : 0 ≤ onesUpto k a ∧ onesUpto k a ≤ k := by
  induction k with
  | zero => simp [onesUpto]
  | succ k ih => simp only [onesUpto]; omega
theorem onesUpto_8 (a : Int) : onesUpto 8 a = onesN a := by simp [onesUpto, onesN]
def inB (n lo hi : Int) : Bool := decide (lo ≤ n) && decide (n ≤ hi)
theorem not_inB (n lo hi : Int) : (!inB n lo hi) = (decide (n < lo) || decide (hi < n)) := by
  unfold inB
  by_cases h : lo ≤ n <;> by_cases k : n ≤ hi <;> simp [h, k] <;> omega
theorem inB_yes {n lo hi : Int} (h : lo ≤ n) (k : n ≤ hi) : inB n lo hi = true := by simp [inB, h, k]
theorem inB_no {n lo hi : Int} (h : n < lo ∨ hi < n) : inB n lo hi = false := by
  unfold inB; rcases h with h | h
  · simp [show ¬ lo ≤ n by omega]
  · simp [show ¬ n ≤ hi by omega]
end Go.Proofs.Ytlppmcflgbeolaa
