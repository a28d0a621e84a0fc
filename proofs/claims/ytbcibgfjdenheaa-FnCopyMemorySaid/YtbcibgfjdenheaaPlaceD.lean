/- A drawn address. -/
import Derived.Test.YtbcibgfjdenheaaRomD
namespace Go.Proofs.Ytbcibgfjdenheaa
open Go.ChangeShapes Go.WideShapes Go.ChangeAt Go.RowKit

/-- What drawing an address leaves. -/
def PlaceDrawn (q m : Nat) (w : World) (e : Ending) (w' : World) : Prop := ∃ v : Int, -1 ≤ v ∧ v ≤ 1024 ∧ e = .returned (.int .i64 v) ∧ Only [q] w w' ∧ Rd w' q (m + 7)
theorem fiveB (v x0 x1 x2 x3 x4 lo hi : Int) (d0 : 0 ≤ v) (d1 : v < 5) (a0 : lo ≤ x0 ∧ x0 ≤ hi) (a1 : lo ≤ x1 ∧ x1 ≤ hi) (a2 : lo ≤ x2 ∧ x2 ≤ hi) (a3 : lo ≤ x3 ∧ x3 ≤ hi) (a4 : lo ≤ x4 ∧ x4 ≤ hi) :
    ∃ u : Int, (#[Value.int .i64 x0, .int .i64 x1, .int .i64 x2, .int .i64 x3, .int .i64 x4] : Array Value)[v.toNat]? = some (.int .i64 u) ∧ lo ≤ u ∧ u ≤ hi := by
  have h : v = 0 ∨ v = 1 ∨ v = 2 ∨ v = 3 ∨ v = 4 := by omega
  rcases h with rfl | rfl | rfl | rfl | rfl
  · exact ⟨_, rfl, a0⟩
  · exact ⟨_, rfl, a1⟩
  · exact ⟨_, rfl, a2⟩
  · exact ⟨_, rfl, a3⟩
  · exact ⟨_, rfl, a4⟩
theorem twoB (v x0 x1 lo hi : Int) (d0 : 0 ≤ v) (d1 : v < 2) (a0 : lo ≤ x0 ∧ x0 ≤ hi) (a1 : lo ≤ x1 ∧ x1 ≤ hi) : ∃ u : Int, (#[Value.int .i64 x0, .int .i64 x1] : Array Value)[v.toNat]? = some (.int .i64 u) ∧ lo ≤ u ∧ u ≤ hi := by
  have h : v = 0 ∨ v = 1 := by omega
  rcases h with rfl | rfl
  · exact ⟨_, rfl, a0⟩
  · exact ⟨_, rfl, a1⟩
/-- A cell of a literal that was laid ahead of a pick. -/
theorem lit_at {w w' : World} {q : Nat} {cs : Array Value} {T : TypeId} {i : Nat} {v : Value} (hs : Sole q (w.alloc (.cells cs T)) w') (hq : q < w.heap.size) (hv : cs[i]? = some v) : w'.cell? ⟨w.heap.size, i, none⟩ = some v := by
  rw [World.cell?_of_block (a := ⟨w.heap.size, i, none⟩) (w := w.alloc (.cells cs T)) (hs.block w.heap.size (by simp) (by omega)), World.cell?_alloc_new]; exact hv
theorem place_any (q m : Nat) (n : Int) (w : World) (h : Rd w q m) (hm : m ≤ 1000000) (hn : 1 ≤ n) (hn2 : n ≤ 1000) : Calls Try.prog 25 #[.pointer (some ⟨q, 0, none⟩), .int .i64 n] w (PlaceDrawn q m w) := by
  have H := Lib.hid h
  clear h
  go_enter Try.func25, Try.ntmps25
  go_wp2_with fail
  refine (odd_any q m n _ H.out (by omega) hn (by omega)).mono ?_
  rintro e w1 ⟨b, rfl, s1, r1⟩
  have O1 := Lib.hid s1.only
  have R1 := Lib.hid r1
  have q1 : q < w1.heap.size := r1.lt
  clear s1 r1
  cases b
  · skip
    go_wp2_with fail
    refine (pick_any q (m + 1) 256 _ R1.out (by omega) (by omega) (by omega)).mono ?_
    rintro e w2 ⟨ya, ya0, ya1, rfl, s3, r3⟩
    have O2 := Lib.hid (O1.out.trans s3.only)
    have R2 := Lib.hid r3
    clear s3 r3
    go_wp2_with fail
    refine (pick_any q (m + 2) 16 _ R2.out (by omega) (by omega) (by omega)).mono ?_
    rintro e w3 ⟨yb, yb0, yb1, rfl, s3, r3⟩
    have O3 := Lib.hid (O2.out.trans s3.only)
    have R3 := Lib.hid r3
    clear s3 r3
    go_wp2_with fail
    refine (pick_any q (m + 3) 32 _ R3.out (by omega) (by omega) (by omega)).mono ?_
    rintro e w4 ⟨yc, yc0, yc1, rfl, s3, r3⟩
    have O4 := Lib.hid (O3.out.trans s3.only)
    have R4 := Lib.hid r3
    clear s3 r3
    go_wp2_with fail
    refine (pick_any q (m + 4) 40 _ R4.out (by omega) (by omega) (by omega)).mono ?_
    rintro e w5 ⟨yd, yd0, yd1, rfl, s3, r3⟩
    have O5 := Lib.hid (O4.out.trans s3.only)
    have R5 := Lib.hid r3
    clear s3 r3
    go_wp2_with fail
    refine (pick_any q (m + 5) 20 _ R5.out (by omega) (by omega) (by omega)).mono ?_
    rintro e w6 ⟨ye, ye0, ye1, rfl, s3, r3⟩
    have O6 := Lib.hid (O5.out.trans s3.only)
    have R6 := Lib.hid r3
    clear s3 r3
    have q6 : q < w6.heap.size := R6.out.lt
    go_wp2_with fail
    refine (pick_any q (m + 6) 5 _ (R6.out.alloc _) (by omega) (by omega) (by omega)).mono ?_
    rintro e w7 ⟨z, z0, z1, rfl, s7, r7⟩
    obtain ⟨u, hu, u0, u1⟩ := fiveB z (ya * 4) yb (240 + yc) (500 + yd) (760 + ye) (-1) 1024 z0 z1 (by omega) (by omega) (by omega) (by omega) (by omega)
    have cu := lit_at s7 q6 hu
    have O7 := Lib.hid ((O6.out.alloc _).trans s7.only)
    have R7 := Lib.hid r7
    clear s7 r7 hu
    go_wp2_with fail
    go_ret
    exact ⟨u, u0, u1, rfl, O7.out, R7.out⟩
  · go_wp2_with fail
    refine (pick_any q (m + 1) 2 _ (R1.out.alloc _) (by omega) (by omega) (by omega)).mono ?_
    rintro e w7 ⟨z, z0, z1, rfl, s7, r7⟩
    obtain ⟨u, hu, u0, u1⟩ := twoB z (-1) 1024 (-1) 1024 z0 z1 (by omega) (by omega)
    have cu := lit_at s7 q1 hu
    have O7 := Lib.hid ((O1.out.alloc _).trans s7.only)
    have R7 := Lib.hid (r7.mono (show _ ≤ m + 7 by omega))
    clear s7 r7 hu
    go_wp2_with fail
    go_ret
    exact ⟨u, u0, u1, rfl, O7.out, R7.out⟩
end Go.Proofs.Ytbcibgfjdenheaa
