/- The walk of FnBankSwitch. -/
import Derived.Test.YtlfmagjgplijgaaMemI
namespace Go.Proofs.Ytlfmagjgplijgaa
open Go.ChangeShapes Go.WideShapes Go.ChangeAt Go.RowKit

theorem writeM_in {M : Mem} (hv : validB M = true) {a v : Int} (h0 : 0 ≤ a) (h1 : a ≤ 1023) (v0 : 0 ≤ v) (v1 : v ≤ 255) : writeM M a v = writeN M a.toNat v := by
  have ha : addrB a = true := by simp [addrB, h0, h1]
  have hb : byteB v = true := byteB_mk v0 v1
  simp [writeM, ha, hb, hv]
theorem write_valid {M : Mem} (g : Good M) (p : Nat) {v : Int} (v0 : 0 ≤ v) (v1 : v ≤ 255) : validB (writeN M p v) = true := valid_of (good_write g p v v0 v1)
end Go.Proofs.Ytlfmagjgplijgaa
