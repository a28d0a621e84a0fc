/- What the laws of chapter 8 need of the program's functions on tiles. -/
import Derived.Test.YtihohmmfgamecaaTilM
namespace Go.Proofs.Ytihohmmfgamecaa
open Go.ChangeShapes Go.WideShapes Go.ChangeAt Go.RowKit

structure TilOk : Prop where
  valid : ∀ (px : List Int) (w : World), px.length = 64 → Calls Try.prog 18 #[tilV px] w fun e w' => e = .returned (.bool (tilB px)) ∧ Below w.heap.size w w'
  flip : ∀ (px : List Int) (a d : Bool) (w : World), px.length = 64 → Calls Try.prog 29 #[tilV px, .bool a, .bool d] w fun e w' => e = .returned (tilV (flipT px a d)) ∧ Below w.heap.size w w'
  turn : ∀ (px : List Int) (w : World), px.length = 64 → Calls Try.prog 31 #[tilV px] w fun e w' => e = .returned (tilV (turnT px)) ∧ Below w.heap.size w w'
  used : ∀ (px : List Int) (w : World), px.length = 64 → Calls Try.prog 34 #[tilV px] w fun e w' => e = .returned (.int .i64 (usedT px)) ∧ Below w.heap.size w w'
  bytes : ∀ (px : List Int) (w : World), px.length = 64 → Calls Try.prog 22 #[tilV px] w (Copied (bytesT px) (bytesT px).length w)
  read : ∀ (A : Option Addr) (n c : Nat) (xs : List Int) (fa : List Nat) (w : World), Ints w A n xs fa → n ≤ 1000000000 → n ≤ c → Calls Try.prog 25 #[.slice A n c] w (ReadGot xs w)
end Go.Proofs.Ytihohmmfgamecaa
