/- The model's l13With, BeamLine. -/
import Derived.Test.YtddllcgbdgpkbaaBmS
import Derived.Test.YtddllcgbdgpkbaaFldE
import Derived.Test.YtddllcgbdgpkbaaFldH
import Derived.Test.YtddllcgbdgpkbaaTypedF
namespace Go.Proofs.Ytddllcgbdgpkbaa
open Go.ChangeShapes Go.WideShapes Go.ChangeAt Go.RowKit
set_option linter.unusedVariables false

theorem spec_with (F : Fld) (A : Option Addr) (c : Nat) (T : Option Addr) (d : Nat) (x y : Int) (w : World) :
    Calls Try.prog 45 #[fv F A c T d, .int .i64 x, .int .i64 y] w fun e w' => e = .returned (fldV F.w A F.xs.length c T F.nt d x y) ∧ Below w.heap.size w w' := by
  obtain ⟨w1, hw1⟩ : ∃ w1, w1 = (w.alloc (.cells #[.int .i64 F.w, .slice A F.xs.length c, .slice T F.nt d, .int .i64 F.sx, .int .i64 F.sy] 33)).alloc (.cells #[.int .i64 0, .slice none 0 0, .slice none 0 0, .int .i64 0, .int .i64 0] 33) := ⟨_, rfl⟩
  have X1 : Hid (Box w1 w.heap.size 33 (fcs F.w A F.xs.length c T F.nt d F.sx F.sy)) := Lib.hid (by rw [hw1]; exact (Box.new w _ _).alloc _)
  have Y1 : Hid (Box w1 (w.heap.size + 1) 33 (fcs 0 none 0 0 none 0 0 0 0)) := Lib.hid (by rw [hw1]; exact Box.new_at _ _ _ _ (by simp))
  have B1 : Hid (Below w.heap.size w w1) := Lib.hid (by rw [hw1]; exact below2 w _ _)
  go_enter Try.func45, Try.ntmps45
  go_upto_region 1 with (fail)
  rw [← hw1]
  clear hw1
  have k0 := X1.out.cell 0
  have k1 := X1.out.cell 1
  have k2 := X1.out.cell 2
  go_wp2_with (first | (refine fs_store (by rfl) _ _ rfl (w.heap.size + 1) rfl rfl _ Y1.out rfl ?_))
  exact bodyPost_ret (fld_ret rfl rfl (Box.row Y1.out)) rfl ⟨rfl, below_row B1.out (by omega) _⟩
end Go.Proofs.Ytddllcgbdgpkbaa
