/- New machines: the program's function and the model's. -/
import Derived.Test.YtcapfafglikcmaaDoorKH
import Derived.Test.YtcapfafglikcmaaDoorKE
import Derived.Test.YtcapfafglikcmaaDoorKF
namespace Go.Proofs.YtcapfafglikcmaaDoor
open Go.ChangeShapes Go.WideShapes Go.ChangeAt Go.RowKit

theorem newX_fits (rs : List (List Int)) : Fits (newX rs) 256 := by
  unfold newX
  split
  · have s := small_new rs
    exact ⟨s.ram, s.rom, s.row, by simp⟩
  · exact fits_Z _
theorem impl_newMach (R : Option Addr) (k d : Nat) (rs : List (List Int)) (fr : List Nat) (w : World) (hg : Grid w R k rs fr) (hk : k ≤ 1000000000) (hs : ∀ i, (rs.getD i []).length ≤ 1000000000) :
    Calls Tryd.prog 24 #[.slice R k d] w (MachNew (newX rs) w) := by
  have HS := Lib.hid hs
  have X0 : Hid (Box (w.alloc (.cells #[.slice none 0 0, .slice none 0 0, .int .i64 0, .int .i64 0, .int .i64 0, .bool false, .slice none 0 0, .bool false, .int .i64 0] 28)) w.heap.size 28 [.slice none 0 0, .slice none 0 0, .int .i64 0, .int .i64 0, .int .i64 0, .bool false, .slice none 0 0, .bool false, .int .i64 0]) := Box.new w _ _
  have G0 := Lib.hid (hg.below (below1 w (.cells #[.slice none 0 0, .slice none 0 0, .int .i64 0, .int .i64 0, .int .i64 0, .bool false, .slice none 0 0, .bool false, .int .i64 0] 28)))
  have B0 : Hid (Below w.heap.size w (w.alloc (.cells #[.slice none 0 0, .slice none 0 0, .int .i64 0, .int .i64 0, .int .i64 0, .bool false, .slice none 0 0, .bool false, .int .i64 0] 28))) := below1 w _
  clear hg hs
  go_enter Tryd.func24, Tryd.ntmps24
  go_wp2_with fail
  refine (impl_new R k d rs fr _ G0.out hk HS.out).mono ?_
  rintro e w1 ⟨A1, n1, c1, R1, k1, d1, fa1, fr1, rfl, hc, hd, i1, g1', nw, b1⟩
  have SM := Lib.hid (small_new rs)
  have n256 : n1 ≤ 256 := by have := i1.1; have := SM.out.ram; omega
  have k256 : k1 ≤ 256 := by have := g1'.len; have := SM.out.rom; omega
  have B1 := Lib.hid (B0.out.trans (b1.mono B0.out.size))
  have l1 : w.heap.size + 1 ≤ w1.heap.size := by have := b1.size; simpa using this
  have Y0 := Lib.hid ((X0.out.below b1).alloc (.cells #[.slice A1 n1 c1, .slice R1 k1 d1, .int .i64 (newM rs).bank] 26))
  have Y1 := Lib.hid (Box.new w1 #[.slice A1 n1 c1, .slice R1 k1 d1, .int .i64 (newM rs).bank] 26)
  have B1a := Lib.hid (B1.out.alloc B1.out.size (.cells #[.slice A1 n1 c1, .slice R1 k1 d1, .int .i64 (newM rs).bank] 26))
  have I1 := Lib.hid (i1.below (below1 w1 (.cells #[.slice A1 n1 c1, .slice R1 k1 d1, .int .i64 (newM rs).bank] 26)))
  have G1 := Lib.hid (g1'.below (below1 w1 (.cells #[.slice A1 n1 c1, .slice R1 k1 d1, .int .i64 (newM rs).bank] 26)))
  have N1 := Lib.hid (show New (w.heap.size + 1) (w1.alloc (.cells #[.slice A1 n1 c1, .slice R1 k1 d1, .int .i64 (newM rs).bank] 26)) (fa1 ++ fr1) from by
    have h := nw.keep (.of_below (below1 w1 (.cells #[.slice A1 n1 c1, .slice R1 k1 d1, .int .i64 (newM rs).bank] 26)))
    simpa using h)
  clear i1 g1' nw b1 X0 B0
  go_wp2_with fail
  refine (impl_valid A1 n1 c1 R1 k1 d1 (newM rs) fa1 fr1 _ I1.out G1.out (by omega) (by omega) (fun i => by have := SM.out.row i; omega)).mono ?_
  rintro e w2 ⟨rfl, b2⟩
  have Z0 := Lib.hid (Y0.out.below b2)
  have Z1 : Hid (Box w2 w1.heap.size 26 [.slice A1 n1 c1, .slice R1 k1 d1, .int .i64 (newM rs).bank]) := Y1.out.below b2
  have B2 := Lib.hid (B1a.out.trans (b2.mono B1a.out.size))
  have I2 := Lib.hid (I1.out.below b2)
  have G2 := Lib.hid (G1.out.below b2)
  have N2 := Lib.hid (N1.out.keep (.of_below b2))
  clear b2
  have e0 : w2.cell? ⟨w.heap.size, 0, none⟩ = some (.slice none 0 0) := Z0.out.cell 0
  have e1 : w2.cell? ⟨w.heap.size, 1, none⟩ = some (.slice none 0 0) := Z0.out.cell 1
  have e2 : w2.cell? ⟨w.heap.size, 2, none⟩ = some (.int .i64 0) := Z0.out.cell 2
  have e3 : w2.cell? ⟨w.heap.size, 3, none⟩ = some (.int .i64 0) := Z0.out.cell 3
  have e4 : w2.cell? ⟨w.heap.size, 4, none⟩ = some (.int .i64 0) := Z0.out.cell 4
  have e5 : w2.cell? ⟨w.heap.size, 5, none⟩ = some (.bool false) := Z0.out.cell 5
  have e6 : w2.cell? ⟨w.heap.size, 6, none⟩ = some (.slice none 0 0) := Z0.out.cell 6
  have e7 : w2.cell? ⟨w.heap.size, 7, none⟩ = some (.bool false) := Z0.out.cell 7
  have e8 : w2.cell? ⟨w.heap.size, 8, none⟩ = some (.int .i64 0) := Z0.out.cell 8
  have f0 := Z0.out.frozen 0
  have f1 := Z0.out.frozen 1
  have f2 := Z0.out.frozen 2
  have f3 := Z0.out.frozen 3
  have f4 := Z0.out.frozen 4
  have f5 := Z0.out.frozen 5
  have f6 := Z0.out.frozen 6
  have f7 := Z0.out.frozen 7
  have f8 := Z0.out.frozen 8
  have m0 : w2.cell? ⟨w1.heap.size, 0, none⟩ = some (.slice A1 n1 c1) := Z1.out.cell 0
  have m1 : w2.cell? ⟨w1.heap.size, 1, none⟩ = some (.slice R1 k1 d1) := Z1.out.cell 1
  have m2 : w2.cell? ⟨w1.heap.size, 2, none⟩ = some (.int .i64 (newM rs).bank) := Z1.out.cell 2
  rcases hv : validB (newM rs) with _ | _
  · have HE := Lib.hid (show newX rs = machZ by unfold newX; rw [hv]; rfl)
    clear hv
    go_wp2_with fail
    refine bodyPost_ret (v := .agg #[.slice none 0 0, .slice none 0 0, .int .i64 0, .int .i64 0, .int .i64 0, .bool false, .slice none 0 0, .bool false, .int .i64 0]) (by simp [results, Tryd.results24, go_sem, e0, e1, e2, e3, e4, e5, e6, e7, e8]) rfl ?_
    rw [HE.out]
    exact machZ_new (((((((((B2.out.setCell (Nat.le_refl _) _).setCell (Nat.le_refl _) _).setCell (Nat.le_refl _) _).setCell (Nat.le_refl _) _).setCell (Nat.le_refl _) _).setCell (Nat.le_refl _) _).setCell (Nat.le_refl _) _).setCell (Nat.le_refl _) _).setCell (Nat.le_refl _) _)
  · have HE := Lib.hid (show newX rs = ⟨newM rs, 0, 512, false, [], false, 0⟩ by unfold newX; rw [hv]; rfl)
    clear hv
    go_wp2_with fail
    refine bodyPost_ret (v := .agg #[.slice A1 n1 c1, .slice R1 k1 d1, .int .i64 (newM rs).bank, .int .i64 0, .int .i64 512, .bool false, .slice none 0 0, .bool false, .int .i64 0]) (by simp [results, Tryd.results24, go_sem, e0, e1, e2, e3, e4, e5, e6, e7, e8]) rfl ?_
    rw [HE.out]
    refine mach_handed (w := w) (S := [w.heap.size]) (L := w.heap.size + 1) (X := ⟨newM rs, 0, 512, false, [], false, 0⟩) (fb := []) ⟨hc, hd, Nat.le_refl _⟩ ⟨I2.out, G2.out, .nil _ _⟩ (by rw [List.append_nil]; exact N2.out) ?_ (by intro b hb; simp at hb; omega) (by omega) ?_
    · exact ((((((((((Only.refl _ w2).setCell (.inl (by simp)) _).setCell (.inl (by simp)) _).setCell (.inl (by simp)) _).setCell (.inl (by simp)) _).setCell (.inl (by simp)) _).setCell (.inl (by simp)) _).setCell (.inl (by simp)) _).setCell (.inl (by simp)) _).setCell (.inl (by simp)) _)
    · exact (((((((((B2.out.setCell (Nat.le_refl _) _).setCell (Nat.le_refl _) _).setCell (Nat.le_refl _) _).setCell (Nat.le_refl _) _).setCell (Nat.le_refl _) _).setCell (Nat.le_refl _) _).setCell (Nat.le_refl _) _).setCell (Nat.le_refl _) _).setCell (Nat.le_refl _) _)
end Go.Proofs.YtcapfafglikcmaaDoor
