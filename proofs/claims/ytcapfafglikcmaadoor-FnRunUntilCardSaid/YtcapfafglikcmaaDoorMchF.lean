/- What the program reads at an address: three bytes. -/
import Derived.Test.YtcapfafglikcmaaDoorMchI
import Derived.Test.YtcapfafglikcmaaDoorDecI
namespace Go.Proofs.YtcapfafglikcmaaDoor
open Go.ChangeShapes Go.WideShapes Go.ChangeAt Go.RowKit

theorem wrap_any (a : Int) (w : World) (h0 : 0 ≤ a) :
    Calls Tryd.prog 58 #[.int .i64 a] w fun e w' => e = .returned (.int .i64 (a % 1024)) ∧ w = w' := by
  have ht : a.tmod 1024 = a % 1024 := Int.tmod_eq_emod_of_nonneg h0
  go_enter Tryd.func58, Tryd.ntmps58
  go_wp2
  go_ret
  exact ⟨rfl, rfl⟩
theorem wrap_two (t j : Nat) (w : World) :
    Calls Tryd.prog 58 #[.int .i64 ((t : Int) + (j : Int))] w fun e w' => e = .returned (.int .i64 (((t + j) % 1024 : Nat) : Int)) ∧ w = w' := by
  refine (wrap_any _ _ (by omega)).mono ?_
  rintro e w' ⟨rfl, rfl⟩
  exact ⟨by rw [show (((t : Int) + (j : Int)) % 1024) = (((t + j) % 1024 : Nat) : Int) by omega], rfl⟩
/-- The first k numbers of xs, then zeros, three in all. -/
def bcells (xs : List Int) (k : Nat) : List Value := (List.range 3).map fun j => .int .i64 (if j < k then xs.getD j 0 else 0)
theorem bcells_set (xs : List Int) (k : Nat) (hk : k < 3) : (bcells xs k).set k (.int .i64 (xs.getD k 0)) = bcells xs (k + 1) := by
  obtain rfl | rfl | rfl : k = 0 ∨ k = 1 ∨ k = 2 := by omega
  · rfl
  · rfl
  · rfl
theorem bcells_at (xs : List Int) (k : Nat) (hk : k < 3) : (bcells xs k)[k]? = some (.int .i64 0) := by
  obtain rfl | rfl | rfl : k = 0 ∨ k = 1 ∨ k = 2 := by omega
  · rfl
  · rfl
  · rfl
theorem bytesN_at (M : Mem) (t j : Nat) (hj : j < 3) : (bytesN M t).getD j 0 = readN M ((t + j) % 1024) := by
  obtain rfl | rfl | rfl : j = 0 ∨ j = 1 ∨ j = 2 := by omega
  · rfl
  · rfl
  · rfl
theorem readAt_two (A : Option Addr) (n c : Nat) (R : Option Addr) (k d : Nat) (M : Mem) (fa fr : List Nat) (t j : Nat) (w : World) (hi : Ints w A n M.ram fa) (hg : Grid w R k M.rom fr) (gd : Good M) :
    Calls Tryd.prog 38 #[.agg #[.slice A n c, .slice R k d, .int .i64 M.bank], .int .i64 (((t : Int) + (j : Int)) % 1024)] w (Got (readN M ((t + j) % 1024)) w) := by
  rw [show (((t : Int) + (j : Int)) % 1024) = (((t + j) % 1024 : Nat) : Int) by omega]
  exact readAt_any A n c R k d M fa fr ((t + j) % 1024) w hi hg gd (by omega)
theorem make3 (W : World) : (Instr.makeSlice 23 (.int .i64 3) (.int .i64 3)).run Tryd.prog W = .ok (.slice (some ⟨W.heap.size, 0, none⟩) 3 3) (W.alloc (.cells (madeCells #[.int .i64 0] 3) 3)) :=
  Go.run_make_row' (P := Tryd.prog) 23 3 (.int .i64 0) 8 Tryd.underlying23 infoInt rfl .i64 .i64 3 (by omega) (by omega) W
theorem impl_bytesAt (A : Option Addr) (n c : Nat) (R : Option Addr) (k d : Nat) (M : Mem) (fa fr : List Nat) (t : Nat) (w : World) (hi : Ints w A n M.ram fa) (hg : Grid w R k M.rom fr) (gd : Good M) (h1 : t < 1024) :
    Calls Tryd.prog 57 #[.agg #[.slice A n c, .slice R k d, .int .i64 M.bank], .int .i64 t] w (Copied (bytesN M t) 3 w) := by
  have HI := Lib.hid hi
  have HG := Lib.hid hg
  have HM := Lib.hid gd
  have hmk := make3
  have XB : Hid (Box ((w.alloc (.cells #[.slice A n c, .slice R k d, .int .i64 M.bank] 26)).alloc (.cells (madeCells #[.int .i64 0] 3) 3)) (w.heap.size + 1) 3 (bcells (bytesN M t) 0)) := by
    have h := Box.new_at (w.alloc (.cells #[.slice A n c, .slice R k d, .int .i64 M.bank] 26)) (madeCells #[.int .i64 0] 3) 3 (w.heap.size + 1) (by simp)
    rw [show (madeCells #[Value.int .i64 0] 3).toList = bcells (bytesN M t) 0 by simp [madeCells, bcells, Nat.mod_one]] at h
    exact Lib.hid h
  clear hi hg gd
  go_enter Tryd.func57, Tryd.ntmps57
  go_wp2_with fail
  go_loopw [10] (fun i wr => ∃ j : Nat, j ≤ 3 ∧ i = .int .i64 j ∧ Box wr (w.heap.size + 1) 3 (bcells (bytesN M t) j) ∧ Box wr w.heap.size 26 [.slice A n c, .slice R k d, .int .i64 M.bank] ∧ Below w.heap.size w wr) (fun i _ => 3 - (intOf i).toNat)
  case atStart => exact ⟨0, by omega, rfl, XB.out, (Box.new w _ _).alloc _, below2 w _ _⟩
  case round =>
    obtain ⟨j, hj, rfl, hx, hm, hb⟩ := hrel
    have HX := Lib.hid hx
    have HY := Lib.hid hm
    have HB := Lib.hid hb
    clear hx hm hb hmk XB
    by_cases hlt : j < 3
    · have HV := Lib.hid (bytesN_at M t j hlt)
      have c0 : wr.cell? ⟨w.heap.size, 0, none⟩ = some (.slice A n c) := HY.out.cell 0
      have c1 : wr.cell? ⟨w.heap.size, 1, none⟩ = some (.slice R k d) := HY.out.cell 1
      have c2 : wr.cell? ⟨w.heap.size, 2, none⟩ = some (.int .i64 M.bank) := HY.out.cell 2
      have HI1 := Lib.hid (HI.out.below (HB.out.drew))
      have HG1 := Lib.hid (HG.out.below (HB.out.drew))
      have HX1 : Hid (Box wr.drew (w.heap.size + 1) 3 (bcells (bytesN M t) j)) := HX.out
      have HY1 : Hid (Box wr.drew w.heap.size 26 [.slice A n c, .slice R k d, .int .i64 M.bank]) := HY.out
      have hs := HB.out.size
      have hwr : IntKind.i64.wrap ((t : Int) + (j : Int)) = (t : Int) + (j : Int) := by rw [IntKind.wrap_i64]; omega
      go_wp2_with fail
      go_region_law (first
        | (go_simp; go_at_call 58; refine (wrap_two t j _).mono ?_; rintro e w' ⟨rfl, rfl⟩)
        | (go_simp; go_at_call 38; refine (readAt_two A n c R k d M fa fr t j _ HI1.out HG1.out HM.out).mono ?_; rintro e w1 ⟨rfl, b1⟩; have Y1 := Lib.hid (HY1.out.below b1); have Z1 := Lib.hid (HX1.out.below b1); have B1 : Hid (Below w.heap.size w w1) := HB.out.drew.trans (b1.mono hs); have s1 : w1.cell? ⟨w.heap.size + 1, j, none⟩ = some (.int .i64 0) := (Z1.out.cell j).trans (bcells_at _ j hlt); have s2 := Z1.out.frozen j; clear b1))
      all_goals
        go_wp2_with fail
        go_roundw
        case rel => exact ⟨j + 1, by omega, by go_num, by rw [← bcells_set _ j hlt, HV.out]; exact Z1.out.set j _, Y1.out.far (by omega) _, B1.out.setCell (by simp) _⟩
        case measure => simp [intOf]; omega
    · obtain rfl : j = 3 := by omega
      go_wp2_with fail
      go_ret
      exact copied_lit (L := 3) (x0 := (bytesN M t).getD 0 0) (x1 := (bytesN M t).getD 1 0) (x2 := (bytesN M t).getD 2 0) HX.out (by omega) (by omega) (by omega) HB.out
end Go.Proofs.YtcapfafglikcmaaDoor
