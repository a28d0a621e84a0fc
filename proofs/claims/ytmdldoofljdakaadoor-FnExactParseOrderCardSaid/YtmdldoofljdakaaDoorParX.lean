/- The walk of the exact law of ParseOrder. -/
import Derived.Test.YtmdldoofljdakaaDoorSPar
import Derived.Test.YtmdldoofljdakaaDoorDecX
namespace Go.Proofs.YtmdldoofljdakaaDoor
open Go.ChangeShapes Go.WideShapes Go.ChangeAt Go.RowKit

theorem walk_FnExactParseOrder (s : List UInt8) (w : World) (hs : s.length ≤ 9223372036854775807) (h : NumEnv w) : Calls Tryd.prog 8 #[.string ⟨s.toArray⟩] w fun e w' => e = .returned (.bool true) ∧ Below w.heap.size w w' := by
  have H := Lib.hid h
  clear h
  obtain ⟨op, arg, ok, hV⟩ : ∃ op arg ok, parV (parN s) = .tuple #[.agg #[.int .i64 op, .int .i64 arg], .bool ok] := ⟨_, _, _, rfl⟩
  have HV := Lib.hid hV
  clear hV
  obtain ⟨SS, hSS⟩ : ∃ SS : ByteArray, SS = ⟨s.toArray⟩ := ⟨_, rfl⟩
  have HSS := Lib.hid hSS
  have hsz : SS.size = s.length := by rw [hSS]; simp [ByteArray.size]
  rw [← hSS]
  clear hSS
  by_cases hb : s.length ≤ 1048576
  · go_enter Tryd.func8, Tryd.ntmps8
    go_wp2_with fail
    rw [HSS.out]
    refine (spec_par s _).mono ?_; rintro e w1 ⟨rfl, b1⟩
    rw [HV.out, ← HSS.out]
    have B1 := Lib.hid b1
    clear b1
    go_wp2_with fail
    rw [HSS.out]
    have Ba : Hid (Below w.heap.size w (w1.alloc (.cells #[.int .i64 op, .int .i64 arg] 24))) := B1.out.alloc B1.out.size _
    refine (impl_par s (by omega) _ (H.out.below Ba.out)).mono ?_; rintro e w2 ⟨rfl, b2⟩
    rw [HV.out, ← HSS.out]
    have W2 : Hid (Box w2 w1.heap.size 24 [.int .i64 op, .int .i64 arg]) := (Box.new w1 _ _).below b2
    have B2 := Lib.hid (below_then Ba.out b2)
    clear b2
    have c0 : w2.cell? ⟨w1.heap.size, 0, none⟩ = some (.int .i64 op) := W2.out.cell 0
    have c1 : w2.cell? ⟨w1.heap.size, 1, none⟩ = some (.int .i64 arg) := W2.out.cell 1
    have z2 : w1.heap.size < w2.heap.size := W2.out.lt
    go_wp2_with fail
    refine (eqOrder_same _ _ _).mono ?_; rintro e w3 ⟨rfl, b3⟩
    have B3 : Hid (Below w.heap.size w w3) := below_then (B2.out.alloc B2.out.size _) b3
    clear b3 c0 c1
    cases ok
    all_goals
      go_wp2_with fail
      go_ret
      exact ⟨rfl, B3.out⟩
  · go_enter Tryd.func8, Tryd.ntmps8
    go_wp2_with fail
    go_ret
    exact ⟨rfl, Below.refl _ _⟩
end Go.Proofs.YtmdldoofljdakaaDoor
