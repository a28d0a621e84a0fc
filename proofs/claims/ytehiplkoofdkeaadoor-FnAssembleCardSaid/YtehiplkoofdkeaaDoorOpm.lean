/- The program's table of operations by their names: a map that a call makes. -/
import Derived.Test.YtehiplkoofdkeaaDoorTxt
import Derived.Maps.OwnSet
import Derived.Deep.MidRow
import Derived.Deep.DeepCutAuto
namespace Go.Proofs.YtehiplkoofdkeaaDoor
open Go.ChangeShapes Go.WideShapes Go.ChangeAt Go.RowKit Go.WideMaps

/-- The map as it reads when k operations are stored. -/
def opD : Nat → DataW Unit
  | 0 => .map []
  | k + 1 => (opD k).put (.string (nameN k)) (.lit (.int .i64 k))
theorem opD_map : ∀ k, Maps.IsMap (opD k)
  | 0 => Maps.isMap_empty
  | k + 1 => (opD_map k).put _ _
theorem opD_miss (l : List UInt8) (h : ∀ j : Nat, j < 16 → l ≠ nameN j) : ∀ k, k ≤ 16 → Maps.has (opD k) (.string l) = false
  | 0, _ => rfl
  | k + 1, hk => by
    rw [opD, Maps.has_put_other (fun e => by injection e with e; exact h k (by omega) e)]
    exact opD_miss l h k (by omega)
theorem opD_hit (j : Nat) (hj : j < 16) (z : DataW Unit) : ∀ k, j < k → k ≤ 16 → Maps.has (opD k) (.string (nameN j)) = true ∧ (opD k).atKey (.string (nameN j)) z = .lit (.int .i64 j)
  | 0, h, _ => by omega
  | k + 1, h, hk => by
    by_cases e : j = k
    · subst e
      have hl : WideAt.IsKeyLit (.string (nameN j)) := trivial
      exact ⟨Maps.has_put_same (opD_map j) hl _, Maps.atKey_put_same (opD_map j) hl _ _⟩
    · have hne : (Lit.string (nameN j)) ≠ .string (nameN k) := fun e' => by injection e' with e'; exact e (name_inj hj (by omega) e')
      rw [opD, Maps.has_put_other hne, Maps.atKey_put_other hne]
      exact opD_hit j hj z k (by omega) (by omega)
theorem strKeyed : Maps.Keyed Tryd.prog 9 := Maps.string_keyed Tryd.underlying9
theorem run_opIndex (k : Nat) (hk : k < 16) (w : World) : (Instr.index 55 (.agg opsCells.toArray) (.int .i64 k)).run Tryd.prog w = .ok (.agg #[.string ⟨(nameN k).toArray⟩, .int .i64 (lenN k), .int .i64 (topN k)]) w := by
  rcases sixteen hk with rfl | rfl | rfl | rfl | rfl | rfl | rfl | rfl | rfl | rfl | rfl | rfl | rfl | rfl | rfl | rfl <;> kernel_rfl
theorem ops_range {w : World} (h : Ops w) : w.rangeAt 0 0 opsCells := fun j v hv => by
  have hj : j < 48 := by
    have := (List.getElem?_eq_some_iff.1 hv).1
    simpa [opsCells] using this
  rw [Nat.zero_add, h j hj, hv]
set_option maxRecDepth 100000 in
set_option maxHeartbeats 1000000 in
theorem impl_newOps (w : World) (h : Ops w) : Calls Tryd.prog 14 #[] w fun e w' => e = .returned (.map (some w.heap.size)) ∧ w'.ownsMap Tryd.prog 9 (plainElem Tryd.prog 3) w.heap.size 16 (opD 16) ∧ Below w.heap.size w w' := by
  have hmm := @run_makeMap Tryd.prog
  have HR := Lib.hid (ops_range (h.below ((Below.refl w.heap.size w).alloc (Nat.le_refl _) (.map #[] 0))))
  have HI := Lib.hid run_opIndex
  have hlc : opsCells.length = 48 := rfl
  clear h
  generalize opsCells = OC at HR HI hlc
  go_enter Tryd.func14, Tryd.ntmps14
  go_upto_region 2 with (fail)
  apply wp_region_lit
  refine wpList_load_mid rfl 55 _ rfl 0 0 rfl OC _ HR.out Tryd.underlying55 rfl (by rw [hlc]; kernel_rfl) ?_
  go_wp2
  go_loopw [6] (fun i wr => ∃ k : Nat, k ≤ 16 ∧ i = .int .i64 k ∧ wr.ownsMap Tryd.prog 9 (plainElem Tryd.prog 3) w.heap.size k (opD k) ∧ Below w.heap.size w wr) (fun i _ => 16 - (intOf i).toNat)
  case atStart => exact ⟨0, by omega, rfl, World.ownsMap_made _ _ _ _, (Below.refl _ _).alloc (Nat.le_refl _) _⟩
  case round =>
    obtain ⟨k, hk, rfl, hown, hnx⟩ := hrel
    by_cases hlt : k < 16
    · have hix : ∀ w', (Instr.index 55 (.agg OC.toArray) (.int .i64 k)).run Tryd.prog w' = .ok (.agg #[.string ⟨(nameN k).toArray⟩, .int .i64 (lenN k), .int .i64 (topN k)]) w' := fun w' => HI.out k hlt w'
      have hkey : keyOf Tryd.prog 9 (.string ⟨(nameN k).toArray⟩) = some (.string (nameN k)) := keyOf_string_mk Tryd.underlying9 (by have := name_len (k : Int); simp [ByteArray.size, maxLen]; omega)
      have HD := Lib.hid (show opD (k + 1) = (opD k).put (.string (nameN k)) (.lit (.int .i64 k)) from rfl)
      generalize nameN (k : Int) = NM at hix hkey HD
      generalize lenN (k : Int) = L at hix
      generalize topN (k : Int) = T at hix
      clear HI
      go_wp2_with (first
        | (at_mapUpdate; refine wpList_mapUpdate_own _ rfl _ _ _ 42 rfl 9 3 strKeyed Tryd.underlying42 _ w.heap.size k _ rfl (hown.alloc _) (by unfold maxLen; omega) _ _ _ rfl rfl hkey _ [] (plainElem_int Tryd.underlying3 (WalkArith.wf_i64 (by omega))) ?_)
        | go_in)
      intro w1 hown1 hgrow1
      have R1 := HD.out.symm ▸ hown1
      have R2 := (hnx.alloc hnx.size _).grown hgrow1 (by have := hnx.size; simp; omega) (fun j hj => by cases hj; exact Nat.le_refl _)
      clear hown1 hgrow1 hown hix hkey
      go_wp2
      go_roundw
      case rel => exact ⟨k + 1, by omega, by go_num, R1, R2⟩
      case measure => simp [intOf]; omega
    · obtain rfl : k = 16 := by omega
      go_wp2
      go_ret
      exact ⟨rfl, hown, hnx⟩
end Go.Proofs.YtehiplkoofdkeaaDoor
