/- ParseOrder: the model's. -/
import Derived.Test.YtehiplkoofdkeaaDoorSFmt
import Derived.Test.YtehiplkoofdkeaaDoorPar
namespace Go.Proofs.YtehiplkoofdkeaaDoor
open Go.ChangeShapes Go.WideShapes Go.ChangeAt Go.RowKit

theorem digF_take {l : List UInt8} {k : Nat} {c : UInt8} (h : l[k]? = some c) : digF (l.take (k + 1)) = digStep (digF (l.take k)) c := by
  rw [← digF_snoc, List.take_add_one, h]; rfl
theorem parN_find {l : List UInt8} (h0 : l ≠ []) (k : Nat) (he : fmtN k (digF l) = l) : parN l = some ((k : Int), digF l) := by
  have hv := fmt_valid (op := (k : Int)) (arg := digF l) (by rw [he]; exact h0)
  have := par_fmt hv
  rwa [he] at this
theorem parN_miss {l : List UInt8} (hb : ∀ j : Nat, j < 16 → fmtN j (digF l) ≠ l) : parN l = none := by
  unfold parN
  split
  · rfl
  · rw [Option.map_eq_none_iff, List.find?_eq_none]
    intro j hj
    have := hb j (List.mem_range.1 hj)
    simpa using this
set_option maxRecDepth 100000 in
set_option maxHeartbeats 2000000 in
theorem spec_par (s : List UInt8) (w : World) : Calls Tryd.prog 17 #[.string ⟨s.toArray⟩] w fun e w' => e = .returned (parV (parN s)) ∧ Below w.heap.size w w' := by
  have X0 := Lib.hid (Box.new w #[.int .i64 0, .int .i64 0] 30)
  obtain ⟨SS, hSS⟩ : ∃ SS : ByteArray, SS = ⟨s.toArray⟩ := ⟨_, rfl⟩
  have HSS := Lib.hid hSS
  have hsz : SS.size = s.length := by rw [hSS]; simp [ByteArray.size]
  rw [← hSS]
  clear hSS
  by_cases h0 : s = []
  · have HP := Lib.hid (show parN s = none by rw [h0]; rfl)
    subst h0
    have hne : (SS.toList == []) = true := by rw [ByteArray.toList_eq, HSS.out]; rfl
    go_enter Tryd.func17, Tryd.ntmps17
    go_wp2_with fail
    refine bodyPost_ret (v := .tuple #[.agg #[.int .i64 0, .int .i64 0], .bool false]) (by simp [results, Tryd.results17, go_sem]) rfl ?_
    exact par_ret_none HP.out (below1 w _)
  · by_cases h1 : 12 < s.length
    · have HP := Lib.hid (show parN s = none by unfold parN; rw [if_pos (.inr h1)])
      have hne : (SS.toList == []) = false := by rw [ByteArray.toList_eq, HSS.out]; cases s <;> simp_all
      go_enter Tryd.func17, Tryd.ntmps17
      go_wp2_with fail
      refine bodyPost_ret (v := .tuple #[.agg #[.int .i64 0, .int .i64 0], .bool false]) (by simp [results, Tryd.results17, go_sem]) rfl ?_
      exact par_ret_none HP.out (below1 w _)
    · have hne : (SS.toList == []) = false := by rw [ByteArray.toList_eq, HSS.out]; cases s <;> simp_all
      go_enter Tryd.func17, Tryd.ntmps17
      go_wp2_with fail
      go_loopw [4, 5] (fun a i wr => ∃ k : Nat, k ≤ s.length ∧ i = .int .i64 k ∧ a = .int .i64 (digF (s.take k)) ∧ Box wr w.heap.size 30 [.int .i64 0, .int .i64 0] ∧ Below w.heap.size w wr) (fun _ i _ => s.length - (intOf i).toNat)
      case atStart => exact ⟨0, by omega, rfl, rfl, X0.out, below1 w _⟩
      case round =>
        obtain ⟨k, hk, rfl, rfl, hX, hB⟩ := hrel
        have X1 := Lib.hid hX
        have B1 := Lib.hid hB
        clear hX hB
        by_cases hlt : k < s.length
        · obtain ⟨c, hc⟩ : ∃ c, s[k]? = some c := ⟨s[k], by simp [hlt]⟩
          have hix : ∀ w', (Instr.index 9 (.string SS) (.int .i64 k)).run Tryd.prog w' = .ok (.int .u8 c.toNat) w' := fun w' => by
            have hk2 : (0 : Int) ≤ (k : Int) ∧ (k : Int) < SS.size := by omega
            rw [run_index_string w' 9 SS .i64 k Tryd.underlying9, dif_pos hk2]
            have e : SS[(k : Int).toNat]'(by omega) = c := by
              have h2 : s[k]'hlt = c := by simpa [hlt] using hc
              simp only [HSS.out, Int.toNat_natCast]
              rw [← h2]
              rfl
            rw [e]
          have HS := Lib.hid (digF_take hc)
          obtain ⟨d0, d1⟩ := digF_bd (s.take k)
          have cb : c.toNat < 256 := c.toNat_lt
          unfold digStep at HS
          generalize c.toNat = cn at hix HS cb
          generalize hD : digF (s.take k) = D at HS d0 d1
          clear hD hc
          by_cases a1 : 48 ≤ cn
          · by_cases a2 : cn ≤ 57
            · by_cases a3 : D < 10000
              · have HE := Lib.hid (show digF (s.take (k + 1)) = 10 * D + ((cn : Int) - 48) by rw [HS.out, if_pos ⟨by omega, by omega, a3⟩])
                clear HS
                go_wp2
                go_roundw
                case rel => exact ⟨k + 1, by omega, by go_num, by rw [HE.out], X1.out, B1.out⟩
                case measure => simp [intOf]; omega
              · have HE := Lib.hid (show digF (s.take (k + 1)) = D by rw [HS.out, if_neg (by omega)])
                clear HS
                go_wp2
                go_roundw
                case rel => exact ⟨k + 1, by omega, by go_num, by rw [HE.out], X1.out, B1.out⟩
                case measure => simp [intOf]; omega
            · have HE := Lib.hid (show digF (s.take (k + 1)) = D by rw [HS.out, if_neg (by omega)])
              clear HS
              go_wp2
              go_roundw
              case rel => exact ⟨k + 1, by omega, by go_num, by rw [HE.out], X1.out, B1.out⟩
              case measure => simp [intOf]; omega
          · have HE := Lib.hid (show digF (s.take (k + 1)) = D by rw [HS.out, if_neg (by omega)])
            clear HS
            go_wp2
            go_roundw
            case rel => exact ⟨k + 1, by omega, by go_num, by rw [HE.out], X1.out, B1.out⟩
            case measure => simp [intOf]; omega
        · obtain rfl : k = s.length := by omega
          have e0 : s.take s.length = s := by simp
          rw [e0]
          have hd := digF_bd s
          go_wp2
          go_loopw [6] (fun i wr => ∃ k : Nat, k ≤ 16 ∧ i = .int .i64 k ∧ (∀ j : Nat, j < k → fmtN j (digF s) ≠ s) ∧ Box wr w.heap.size 30 [.int .i64 0, .int .i64 0] ∧ Below w.heap.size w wr) (fun i _ => 16 - (intOf i).toNat)
          case atStart => exact ⟨0, by omega, rfl, by omega, X1.out, B1.out⟩
          case round =>
            obtain ⟨k, hk, rfl, hm, hX, hB⟩ := hrel
            have HM := Lib.hid hm
            have X2 := Lib.hid hX
            have B2 := Lib.hid hB
            clear hX hB hm X1 B1
            by_cases hlt : k < 16
            · generalize hD : digF s = D at hd HM
              have HD := Lib.hid hD
              clear hD
              have zr : w.heap.size < wr.heap.size := X2.out.lt
              go_wp2_with fail
              refine (spec_fmt _ _ _).mono ?_; rintro e w3 ⟨rfl, b3⟩
              have X3 := Lib.hid ((X2.out.below (below1 wr (.cells #[.int .i64 k, .int .i64 D] 30))).below b3)
              have Y3 : Hid (Box w3 wr.heap.size 30 [.int .i64 k, .int .i64 D]) := (Box.new wr _ _).below b3
              have B3 : Hid (Below w.heap.size w w3) := (B2.out.alloc B2.out.size _).trans (b3.mono (by have := B2.out.size; simp; omega))
              clear b3 X2 B2
              have c0 : w3.cell? ⟨w.heap.size, 0, none⟩ = some (.int .i64 0) := X3.out.cell 0
              have c1 : w3.cell? ⟨w.heap.size, 1, none⟩ = some (.int .i64 0) := X3.out.cell 1
              have f0 : w3.frozen? ⟨w.heap.size, 0, none⟩ = false := X3.out.frozen 0
              have f1 : w3.frozen? ⟨w.heap.size, 1, none⟩ = false := X3.out.frozen 1
              have z1 : w.heap.size < w3.heap.size := X3.out.lt
              have z3 : wr.heap.size < w3.heap.size := Y3.out.lt
              have d0 : w3.cell? ⟨wr.heap.size, 0, none⟩ = some (.int .i64 k) := Y3.out.cell 0
              have d1 : w3.cell? ⟨wr.heap.size, 1, none⟩ = some (.int .i64 D) := Y3.out.cell 1
              have FIN : Hid (∀ u v : Value, Below w.heap.size w ((w3.setCell ⟨w.heap.size, 0, none⟩ u).setCell ⟨w.heap.size, 1, none⟩ v)) := fun u v => (B3.out.setCell (show w.heap.size ≤ w.heap.size from Nat.le_refl _) u).setCell (show w.heap.size ≤ w.heap.size from Nat.le_refl _) v
              obtain ⟨SF, hSF⟩ : ∃ SF : ByteArray, SF = ⟨(fmtN k D).toArray⟩ := ⟨_, rfl⟩
              rw [← hSF]
              have HSF := Lib.hid hSF
              clear hSF
              by_cases hq : SF = SS
              · have HP := Lib.hid (show parN s = some ((k : Int), D) by
                  have e1 : fmtN k D = s := ba_inj.1 (by rw [← HSF.out, hq, HSS.out])
                  rw [← HD.out] at e1 ⊢
                  exact parN_find h0 k e1)
                clear HSF HSS
                subst hq
                go_wp2_with fail
                refine bodyPost_ret (v := .tuple #[.agg #[.int .i64 k, .int .i64 D], .bool true]) (by simp [results, Tryd.results17, go_sem, c0, c1]) rfl ?_
                exact par_ret_some HP.out (FIN.out _ _)
              · have hq' : (SF.toList == SS.toList) = false := ba_ne hq
                have hm' : ∀ j : Nat, j < k + 1 → fmtN j D ≠ s := fun j hj => by
                  by_cases e : j = k
                  · subst e; exact fun e => hq (by rw [HSF.out, HSS.out, e])
                  · exact HM.out j (by omega)
                have HM' := Lib.hid hm'
                clear hm' hq HSF
                go_wp2_with fail
                go_roundw
                case rel => exact ⟨k + 1, by omega, by go_num, HM'.out, X3.out, B3.out⟩
                case measure => simp [intOf]; omega
            · obtain rfl : k = 16 := by omega
              have c0 : wr.cell? ⟨w.heap.size, 0, none⟩ = some (.int .i64 0) := X2.out.cell 0
              have c1 : wr.cell? ⟨w.heap.size, 1, none⟩ = some (.int .i64 0) := X2.out.cell 1
              have f0 : wr.frozen? ⟨w.heap.size, 0, none⟩ = false := X2.out.frozen 0
              have f1 : wr.frozen? ⟨w.heap.size, 1, none⟩ = false := X2.out.frozen 1
              have z1 : w.heap.size < wr.heap.size := X2.out.lt
              have FIN : Hid (∀ u v : Value, Below w.heap.size w ((wr.setCell ⟨w.heap.size, 0, none⟩ u).setCell ⟨w.heap.size, 1, none⟩ v)) := fun u v => (B2.out.setCell (show w.heap.size ≤ w.heap.size from Nat.le_refl _) u).setCell (show w.heap.size ≤ w.heap.size from Nat.le_refl _) v
              have HP := Lib.hid (parN_miss HM.out)
              go_wp2_with fail
              refine bodyPost_ret (v := .tuple #[.agg #[.int .i64 0, .int .i64 0], .bool false]) (by simp [results, Tryd.results17, go_sem, c0, c1]) rfl ?_
              exact par_ret_none HP.out (FIN.out _ _)
end Go.Proofs.YtehiplkoofdkeaaDoor
