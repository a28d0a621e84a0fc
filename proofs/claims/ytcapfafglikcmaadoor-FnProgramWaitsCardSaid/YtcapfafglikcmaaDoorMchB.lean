/- Machines tested: the model's function. -/
import Derived.Test.YtcapfafglikcmaaDoorMchA
namespace Go.Proofs.YtcapfafglikcmaaDoor
open Go.ChangeShapes Go.WideShapes Go.ChangeAt Go.RowKit

theorem betB_cyc (X : Mach) : machB X = (addrsB X.back && (validB X.mem && byteB X.a && betB X.at_ 0 1023 && decide (X.back.length ≤ 8) && betB X.cyc 0 1000000000)) := by
  have e : betB X.at_ 0 1023 = addrB X.at_ := rfl
  rw [e]
  simp only [machB, betB]
  cases byteB X.a <;> cases addrB X.at_ <;> cases decide (0 ≤ X.cyc) <;> cases decide (X.cyc ≤ 1000000000) <;> cases decide (X.back.length ≤ 8) <;> cases addrsB X.back <;> cases validB X.mem <;> rfl
theorem spec_machValid (A : Option Addr) (c : Nat) (R : Option Addr) (d : Nat) (B : Option Addr) (g : Nat) (n k m : Nat) (X : Mach) (fa fr fb : List Nat) (w : World) (h : MHas w A n R k B m X fa fr fb) (f : Fits X 1000000000) :
    Calls Tryd.prog 12 #[.agg #[.slice A n c, .slice R k d, .int .i64 X.mem.bank, .int .i64 X.a, .int .i64 X.at_, .bool X.carry, .slice B m g, .bool X.stop, .int .i64 X.cyc]] w fun e w' => e = .returned (.bool (machB X)) ∧ Below w.heap.size w w' := by
  have hn := f.n h
  have hk := f.k h
  have hm := f.m h
  have HL := Lib.hid h.back.1
  have H1 := Lib.hid (h.below (below1 w (.cells #[.slice A n c, .slice R k d, .int .i64 X.mem.bank, .int .i64 X.a, .int .i64 X.at_, .bool X.carry, .slice B m g, .bool X.stop, .int .i64 X.cyc] 28)))
  have HS := Lib.hid f.row
  clear h f
  go_enter Tryd.func12, Tryd.ntmps12
  go_wp2
  go_loop [3] (fun i => ∃ j : Nat, j ≤ m ∧ i = .int .i64 j ∧ ∀ q, q < j → addrB (X.back.getD q 0) = true) (fun i => m - (intOf i).toNat)
  case atStart => exact ⟨0, Nat.zero_le _, rfl, fun j hj => by omega⟩
  case round =>
    obtain ⟨j, hj, rfl, hma⟩ := hrel
    have HM := Lib.hid hma
    clear hma
    by_cases hlt : j < m
    · obtain ⟨p, o, rfl, hfp, hp, hc⟩ := H1.out.back.at_ (by omega)
      have c1 := hc j hlt
      obtain ⟨x, hx⟩ : ∃ x, x = X.back.getD j 0 := ⟨_, rfl⟩
      rw [← hx] at c1
      have HX := Lib.hid hx
      clear hc hfp hx
      by_cases hb : addrB x = true
      · have HB := Lib.hid hb
        clear hb
        go_wp2_with fail
        refine (l1In_any _ _ _ _).mono ?_; rintro e w' ⟨rfl, rfl⟩
        rw [show betB x 0 1023 = true from HB.out]
        go_wp2_with fail
        go_round
        case rel => exact ⟨j + 1, by omega, by go_num, fun q hq => by
          by_cases h : q = j
          · subst h; rw [← HX.out]; exact HB.out
          · exact HM.out q (by omega)⟩
        case measure => simp [intOf]; omega
      · have HB := Lib.hid (show addrB x = false by simpa using hb)
        have HF := Lib.hid (show machB X = false by simp [machB, addrsB_no X.back j (by rw [HL.out]; exact hlt) (by rw [← HX.out]; exact HB.out)])
        clear hb
        go_wp2_with fail
        refine (l1In_any _ _ _ _).mono ?_; rintro e w' ⟨rfl, rfl⟩
        rw [show betB x 0 1023 = false from HB.out]
        go_wp2_with fail
        go_ret
        exact ⟨ret_bool HF.out.symm, below1 w _⟩
    · have HA := Lib.hid ((addrsB_iff X.back).2 fun i hi => HM.out i (by have := HL.out; omega))
      have HF := Lib.hid (show machB X = (validB X.mem && byteB X.a && betB X.at_ 0 1023 && decide (X.back.length ≤ 8) && betB X.cyc 0 1000000000) by rw [betB_cyc, HA.out]; rfl)
      clear HM
      go_wp2_with fail
      refine (spec_valid _ _ _ _ _ _ _ _ _ _ H1.out.ram H1.out.rom hn hk HS.out).mono ?_; rintro e w2 ⟨rfl, b2⟩
      have X2 : Hid (Box w2 w.heap.size 28 [.slice A n c, .slice R k d, .int .i64 X.mem.bank, .int .i64 X.a, .int .i64 X.at_, .bool X.carry, .slice B m g, .bool X.stop, .int .i64 X.cyc]) := (Box.new w _ _).below b2
      have B2 : Hid (Below w.heap.size w w2) := (below1 w _).trans (b2.mono (by simp))
      have d0 : w2.cell? ⟨w.heap.size, 0, none⟩ = some (.slice A n c) := X2.out.cell 0
      have d1 : w2.cell? ⟨w.heap.size, 1, none⟩ = some (.slice R k d) := X2.out.cell 1
      have d2 : w2.cell? ⟨w.heap.size, 2, none⟩ = some (.int .i64 X.mem.bank) := X2.out.cell 2
      have d3 : w2.cell? ⟨w.heap.size, 3, none⟩ = some (.int .i64 X.a) := X2.out.cell 3
      have d4 : w2.cell? ⟨w.heap.size, 4, none⟩ = some (.int .i64 X.at_) := X2.out.cell 4
      have d5 : w2.cell? ⟨w.heap.size, 5, none⟩ = some (.bool X.carry) := X2.out.cell 5
      have d6 : w2.cell? ⟨w.heap.size, 6, none⟩ = some (.slice B m g) := X2.out.cell 6
      have d7 : w2.cell? ⟨w.heap.size, 7, none⟩ = some (.bool X.stop) := X2.out.cell 7
      have d8 : w2.cell? ⟨w.heap.size, 8, none⟩ = some (.int .i64 X.cyc) := X2.out.cell 8
      clear b2
      rcases hv : validB X.mem with _ | _
      · rw [hv] at HF
        have HF := Lib.hid (show machB X = false by rw [HF.out]; rfl)
        clear hv
        go_wp2_with fail
        go_ret
        exact ⟨ret_bool HF.out.symm, B2.out⟩
      · rw [hv] at HF
        clear hv
        go_wp2_with fail
        refine (l1Byte_any _ _).mono ?_; rintro e w' ⟨rfl, rfl⟩
        rcases hv : byteB X.a with _ | _
        · rw [hv] at HF
          have HF := Lib.hid (show machB X = false by rw [HF.out]; rfl)
          clear hv
          go_wp2_with fail
          go_ret
          exact ⟨ret_bool HF.out.symm, B2.out⟩
        · rw [hv] at HF
          clear hv
          go_wp2_with fail
          refine (l1In_any _ _ _ _).mono ?_; rintro e w' ⟨rfl, rfl⟩
          rcases hv : betB X.at_ 0 1023 with _ | _
          · rw [hv] at HF
            have HF := Lib.hid (show machB X = false by rw [HF.out]; rfl)
            clear hv
            go_wp2_with fail
            go_ret
            exact ⟨ret_bool HF.out.symm, B2.out⟩
          · rw [hv] at HF
            clear hv
            by_cases h8 : m ≤ 8
            · have HF := Lib.hid (show machB X = betB X.cyc 0 1000000000 by rw [HF.out]; have := HL.out; simp [show X.back.length ≤ 8 by omega])
              go_wp2_with fail
              refine (l1In_any _ _ _ _).mono ?_; rintro e w' ⟨rfl, rfl⟩
              generalize betB X.cyc 0 1000000000 = u at HF
              go_wp2_with fail
              go_ret
              exact ⟨ret_bool HF.out.symm, B2.out⟩
            · have HF := Lib.hid (show machB X = false by rw [HF.out]; have := HL.out; simp [show ¬ X.back.length ≤ 8 by omega])
              go_wp2_with fail
              go_ret
              exact ⟨ret_bool HF.out.symm, B2.out⟩
end Go.Proofs.YtcapfafglikcmaaDoor
