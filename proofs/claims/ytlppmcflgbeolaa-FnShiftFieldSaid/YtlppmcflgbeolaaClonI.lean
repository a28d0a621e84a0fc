/- The library's Clone on slices of integers. -/
import Derived.Test.YtlppmcflgbeolaaOwn
import Derived.Lib.SliceRun
namespace Go.Proofs.Ytlppmcflgbeolaa
open Go.ChangeShapes Go.WideShapes Go.ChangeAt Go.RowKit

theorem clone_ints (A : Option Addr) (n c : Nat) (xs : List Int) (fa : List Nat) (w : World) (ha : Ints w A n xs fa) (hn : n ≤ 1000000000) :
    Calls Try.prog 69 #[.slice A n c] w (Copied xs n w) := by
  have HA := Lib.hid ha
  rcases A with _ | ad
  · have hx : xs = [] ∧ n = 0 := by
      obtain ⟨hl, ⟨h, _⟩ | ⟨_, b, o, h, _⟩⟩ := ha
      · exact ⟨List.eq_nil_of_length_eq_zero (by omega), h⟩
      · cases h
    obtain ⟨rfl, rfl⟩ := hx
    clear ha
    have hq := fun W => Lib.run_eql_slice_nil (P := Try.prog) W 23 3 none 0 c 0 0 Try.underlying23
    go_enter Try.func69, Try.ntmps69
    go_wp2
    go_ret
    exact ⟨none, 0, [], rfl, Nat.le_refl _, .nil _ _, .nil _ _, Below.refl _ _⟩
  · clear ha
    have hq := fun W => Lib.run_eql_slice_nil (P := Try.prog) W 23 3 (some ad) n c 0 0 Try.underlying23
    go_enter Try.func69, Try.ntmps69
    go_wp2_with (at_builtin; refine wpList_append_ints rfl _ _ rfl w.heap.size _ 0 [] rfl (own_empty w _ _ (Nat.le_refl _)) _ _ _ xs fa rfl (HA.out.below (below1 w _)) (by omega) (by simp) ?_; intro v' w1 hown hgrow hat)
    have HO : Hid (w1.ownsRow w.heap.size 3 1 v' n (iv xs)) := by
      simp only [Nat.zero_add, List.nil_append] at hown
      exact hown
    have HB := Lib.hid (below_grown (below1 w _) hgrow (by simp) (fun k hk => by have h : some w.heap.size = some k := hk; injection h; omega))
    clear hown hgrow hat hq
    go_wp2
    go_ret
    exact copied_own HO.out HB.out
end Go.Proofs.Ytlppmcflgbeolaa
