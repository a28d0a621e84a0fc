/- The drawn laws of chapter 3 on the bytes of instructions. -/
import Derived.Test.YtehiplkoofdkeaaDoorOrdL
import Derived.Test.YtehiplkoofdkeaaDoorDecX
import Derived.Test.YtehiplkoofdkeaaDoorRomD
namespace Go.Proofs.YtehiplkoofdkeaaDoor
open Go.ChangeShapes Go.WideShapes Go.ChangeAt Go.RowKit

theorem ordN_len {op arg : Int} (h : ordB op arg = true) : (ordN op arg).length = (lenN op).toNat := by
  have := lenN_bd op
  simp [ordN, h]; omega
theorem ordN_at {op arg : Int} (h : ordB op arg = true) (i : Nat) (hi : (i : Int) < lenN op) : (ordN op arg).getD i 0 = ([op, arg % 256, arg / 256] : List Int).getD i 0 := by
  simp only [ordN, h, if_true, List.getD_eq_getElem?_getD, List.getElem?_take]
  rw [if_pos (by omega)]
theorem getD_mid (p m t : List Int) (i : Nat) (hi : i < m.length) : (p ++ m ++ t).getD (p.length + i) 0 = m.getD i 0 := by
  rw [List.append_assoc, List.getD_eq_getElem?_getD, List.getElem?_append_right (by omega), show p.length + i - p.length = i by omega, List.getElem?_append_left hi, ← List.getD_eq_getElem?_getD]
theorem ordB_parts {op arg : Int} (h : ordB op arg = true) : (lenN op = 1 ∧ arg = 0) ∨ (lenN op = 2 ∧ byteB arg = true) ∨ (lenN op = 3 ∧ addrB arg = true) := by
  unfold ordB at h
  split at h
  · rename_i hl; exact .inl ⟨hl, by simpa using h⟩
  · split at h
    · rename_i hl; exact .inr (.inl ⟨hl, h⟩)
    · split at h
      · rename_i hl; exact .inr (.inr ⟨hl, h⟩)
      · cases h
theorem dec_put (p t : List Int) {op arg : Int} (h : ordB op arg = true) : decN (p ++ ordN op arg ++ t) p.length = some (op, arg) := by
  have hl := ordN_len h
  have hb := lenN_bd op
  have h1 := (ordB_len h).1
  have g : ∀ i : Nat, (i : Int) < lenN op → (p ++ ordN op arg ++ t).getD (p.length + i) 0 = ([op, arg % 256, arg / 256] : List Int).getD i 0 := fun i hi => by
    rw [getD_mid _ _ _ _ (by omega), ordN_at h i hi]
  have g0 : (p ++ ordN op arg ++ t).getD p.length 0 = op := by simpa using g 0 (by omega)
  have hlen : (p ++ ordN op arg ++ t).length = p.length + (lenN op).toNat + t.length := by simp [hl]; omega
  rcases ordB_parts h with ⟨e, rfl⟩ | ⟨e, ha⟩ | ⟨e, ha⟩
  · rw [dec_one (by omega) (by rw [g0]; exact e), g0]
  · have g1 : (p ++ ordN op arg ++ t).getD (p.length + 1) 0 = arg := by
      have := byteB_yes ha
      rw [g 1 (by omega)]; simp; omega
    rw [dec_two (by omega) (by rw [g0]; exact e) (by omega), g0, g1, if_pos ha]
  · have hA := addrB_yes ha
    have g1 : (p ++ ordN op arg ++ t).getD (p.length + 1) 0 = arg % 256 := by rw [g 1 (by omega)]; rfl
    have g2 : (p ++ ordN op arg ++ t).getD (p.length + 2) 0 = arg / 256 := by rw [g 2 (by omega)]; rfl
    rw [dec_three (by omega) (by rw [g0]; exact e) (by omega), g0, g1, g2, if_pos ⟨byteB_mk (by omega) (by omega), by simp [betB]; omega⟩]
    congr 2; omega
theorem ordN_inj {op arg op' arg' : Int} (h : ordB op arg = true) (e : ordN op arg = ordN op' arg') : op = op' ∧ arg = arg' := by
  have hl := ordN_len h
  have h1 := (ordB_len h).1
  have h' : ordB op' arg' = true := by
    by_cases h' : ordB op' arg' = true
    · exact h'
    · have : ordN op' arg' = [] := by simp [ordN, h']
      rw [this] at e; rw [e] at hl; simp at hl; omega
  have a := dec_put [] [] h
  have b := dec_put [] [] h'
  rw [e] at a
  have := Option.some.inj (a.symm.trans b)
  simpa using this
theorem drewN_twice (w : World) (m k : Nat) : (w.drewN m).drewN k = w.drewN (m + k) := by
  simp [World.drewN, Nat.add_assoc]
theorem same_diff (A B : Option Addr) (n k c d : Nat) (xs ys : List Int) (fa fb : List Nat) (w : World) (ha : Ints w A n xs fa) (hb : Ints w B k ys fb) (hn : n ≤ 1000000000) (hk : k ≤ 1000000000) (hd : xs ≠ ys) :
    Calls Tryd.prog 7 #[.slice A n c, .slice B k d] w fun e w' => e = .returned (.bool false) ∧ ∃ m, w' = w.drewN m := by
  have HA := Lib.hid ha
  have HB := Lib.hid hb
  by_cases hnk : n = k
  · subst hnk
    have hx : Hid (∃ i, i < n ∧ xs.getD i 0 ≠ ys.getD i 0) := by
      by_cases h : ∃ i, i < n ∧ xs.getD i 0 ≠ ys.getD i 0
      · exact h
      · exact absurd (list_ext0 xs ys (by rw [HA.out.1, HB.out.1]) fun i hi => by
          by_cases h2 : xs.getD i 0 = ys.getD i 0
          · exact h2
          · exact absurd ⟨i, by rw [HB.out.1] at hi; exact hi, h2⟩ h) hd
    clear ha hb hd
    go_enter Tryd.func7, Tryd.ntmps7
    go_wp2
    go_loopw [5] (fun i wr => ∃ k m : Nat, k ≤ n ∧ i = .int .i64 k ∧ wr = w.drewN m ∧ ∀ j, j < k → xs.getD j 0 = ys.getD j 0) (fun i _ => n - (intOf i).toNat)
    case atStart => exact ⟨0, 0, Nat.zero_le _, rfl, rfl, fun j hj => by omega⟩
    case round =>
      obtain ⟨k, m, hk', rfl, rfl, hm⟩ := hrel
      have HM := Lib.hid hm
      clear hm
      by_cases hlt : k < n
      · obtain ⟨p, o, rfl, _, _, hc⟩ := HA.out.at_ (by omega)
        obtain ⟨q, u, rfl, _, _, he⟩ := HB.out.at_ (by omega)
        have c1 := hc k hlt
        have c2 := he k hlt
        clear hc he
        by_cases hxy : xs.getD k 0 = ys.getD k 0
        · have HX := Lib.hid hxy
          rw [← hxy] at c2
          clear hxy
          generalize xs.getD k 0 = x at c1 c2
          go_wp2
          go_quiet (fail)
          go_wp2
          go_roundw
          case rel => exact ⟨k + 1, _, by omega, by go_num, rfl, fun j hj => by
            by_cases h : j = k
            · subst h; exact HX.out
            · exact HM.out j (by omega)⟩
          case measure => simp [intOf]; omega
        · have hne : (xs.getD k 0 != ys.getD k 0) = true := by simpa using hxy
          clear hxy
          generalize xs.getD k 0 = x at c1 hne
          generalize ys.getD k 0 = y at c2 hne
          go_wp2
          go_quiet (fail)
          go_wp2
          go_ret
          exact ⟨rfl, _, drewN_twice w m nq⟩
      · obtain ⟨i, hi, hne⟩ := hx.out
        exact absurd (HM.out i (by omega)) hne
  · have hq : ((n : Int) != (k : Int)) = true := by simp; omega
    have hq2 : (n != k) = true := by simpa using hnk
    clear ha hb hd hnk
    go_enter Tryd.func7, Tryd.ntmps7
    go_wp2
    go_ret
    exact ⟨rfl, 0, rfl⟩
theorem own_lit2 (w : World) (t : TypeId) (x y : Int) (base : Nat) (h : base ≤ w.heap.size) : (w.alloc (.cells #[.int .i64 x, .int .i64 y] t)).ownsRow base t 1 (.slice (some ⟨w.heap.size, 0, none⟩) 2 2) 2 (iv [x, y]) :=
  ⟨by simp [iv], .inr ⟨w.heap.size, 2, #[.int .i64 x, .int .i64 y], rfl, h, heap_alloc_new w _, Nat.le_refl _, by unfold maxLen; omega, by simp, by simp [iv]⟩⟩
end Go.Proofs.YtehiplkoofdkeaaDoor
