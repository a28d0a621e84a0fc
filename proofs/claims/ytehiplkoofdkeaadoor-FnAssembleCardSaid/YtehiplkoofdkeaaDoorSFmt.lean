/- FormatOrder: the model's. -/
import Derived.Test.YtehiplkoofdkeaaDoorTxt
import Derived.Test.YtehiplkoofdkeaaDoorNam
import Derived.Deep.RegionHeld3
import Derived.Deep.DeepCutAuto
namespace Go.Proofs.YtehiplkoofdkeaaDoor
open Go.ChangeShapes Go.WideShapes Go.ChangeAt Go.RowKit

theorem ret_str {a b : List UInt8} (h : a = b) : Ending.returned (.string ⟨a.toArray⟩) = .returned (.string ⟨b.toArray⟩) := by rw [h]
theorem ret_sb {a b : ByteArray} (h : a = b) : Ending.returned (.string a) = .returned (.string b) := by rw [h]
theorem name_cell (k : Nat) (hk : k < 16) (w : World) : (w.alloc (.cells nameCells.toArray 9)).cell? ⟨w.heap.size, k, none⟩ = some (.string ⟨(nameN (k : Int)).toArray⟩) := by
  have h : nameCells[k]? = some (.string ⟨(nameN (k : Int)).toArray⟩) := by
    rcases sixteen hk with rfl | rfl | rfl | rfl | rfl | rfl | rfl | rfl | rfl | rfl | rfl | rfl | rfl | rfl | rfl | rfl <;> rfl
  simp [h]
set_option maxHeartbeats 1000000 in
theorem spec_fmt (op arg : Int) (w : World) : Calls Tryd.prog 29 #[.agg #[.int .i64 op, .int .i64 arg]] w fun e w' => e = .returned (.string ⟨(fmtN op arg).toArray⟩) ∧ Below w.heap.size w w' := by
  by_cases hv : ordB op arg = true
  · obtain ⟨k, hk, rfl, a0, a1, a5⟩ := fmt_ne hv
    have HF := Lib.hid (fmt_parts hv)
    have HV := Lib.hid hv
    have hnl := name_len (k : Int)
    have hlb := (ordB_len hv).1
    clear hv a5
    obtain ⟨m, rfl⟩ := Int.eq_ofNat_of_zero_le a0
    rw [Int.toNat_natCast] at HF
    go_enter Tryd.func29, Tryd.ntmps29
    go_wp2_with fail
    refine (spec_ordValid _ _ _).mono ?_; rintro e w1 ⟨rfl, b1⟩
    rw [HV.out]
    have X1 : Hid (Box w1 w.heap.size 30 [.int .i64 k, .int .i64 m]) := (Box.new w _ _).below b1
    have B1 : Hid (Below w.heap.size w w1) := (below1 w _).trans (b1.mono (by simp))
    clear b1
    have e0 : w1.cell? ⟨w.heap.size, 0, none⟩ = some (.int .i64 k) := X1.out.cell 0
    have z1 : w.heap.size < w1.heap.size := X1.out.lt
    have hN : ∀ w' : World, w'.heap.size = w1.heap.size → (w'.alloc (.cells nameCells.toArray 9)).cell? ⟨w1.heap.size, k, none⟩ = some (.string ⟨(nameN (k : Int)).toArray⟩) := fun w' e => e ▸ name_cell k hk w'
    have HL := Lib.hid (spec_len (k : Int))
    generalize nameN (k : Int) = NM at hN HF hnl
    generalize lenN (k : Int) = L at HL HF hlb
    have HN := Lib.hid hN
    clear hN
    obtain ⟨SN, hSN⟩ : ∃ SN : ByteArray, SN = ⟨NM.toArray⟩ := ⟨_, rfl⟩
    have HSN := Lib.hid hSN
    clear hSN
    have K1 : Hid (w1.cell? ⟨w.heap.size, 0, none⟩ = some (.int .i64 k)) := e0
    have K1d : Hid (w1.drew.cell? ⟨w.heap.size, 0, none⟩ = some (.int .i64 k)) := e0
    go_upto_region 3 with (fail)
    have hk16 : ((k : Nat) : Int) < 16 := by omega
    have hk0 : (0 : Int) ≤ ((k : Nat) : Int) := by omega
    go_region_with (first
        | (go_at_call 42; refine (spec_names _).mono ?_; rintro e w2 ⟨rfl, hw2⟩; have d0 : w2.cell? ⟨w1.heap.size, k, none⟩ = some (.string SN) := (by rw [hw2, HSN.out]; exact HN.out _ rfl); have HB2 : Below w1.heap.size w1 w2 := (by rw [hw2]; exact (Below.refl _ _).drew.alloc (Nat.le_refl _) _); clear hw2; have c2 : w2.cell? ⟨w.heap.size, 0, none⟩ = some (.int .i64 k) := (HB2.cell z1).trans e0; have HB2 := Lib.hid HB2))
    all_goals
      clear e0 z1 K1 K1d HN d0 c2
      have X2 := Lib.hid (X1.out.below HB2.out)
      have B2 := Lib.hid (B1.out.trans (HB2.out.mono B1.out.size))
      have c0 : w2.cell? ⟨w.heap.size, 0, none⟩ = some (.int .i64 k) := X2.out.cell 0
      clear HB2 X1 B1
      go_wp2_with fail
      refine (HL.out _).mono ?_; rintro e w3 ⟨rfl, b3⟩
      have X3 := Lib.hid (X2.out.below b3)
      have B3 := Lib.hid (B2.out.trans (b3.mono B2.out.size))
      have c1 : w3.cell? ⟨w.heap.size, 1, none⟩ = some (.int .i64 m) := X3.out.cell 1
      clear b3 X2 B2 HL c0
      by_cases hl : L = 1
      · subst hl
        have HE := Lib.hid (show fmtN (k : Int) m = NM by rcases HF.out with ⟨_, _, e⟩ | ⟨e, _⟩; exact e; exact absurd rfl e)
        go_wp2
        go_ret
        exact ⟨ret_sb (HSN.out.trans (by rw [HE.out])), B3.out⟩
      · have HE := Lib.hid (show fmtN (k : Int) m = NM ++ 32 :: Lib.decDigits m by rcases HF.out with ⟨e, _⟩ | ⟨_, e⟩; exact absurd e hl; exact e)
        have hl1 : 1 < L := by omega
        have hmm : m ≤ 1023 := by omega
        obtain ⟨SD, hSD⟩ : ∃ SD : ByteArray, SD = ⟨(Lib.decDigits m).toArray⟩ := ⟨_, rfl⟩
        obtain ⟨S1, hS1⟩ : ∃ S1 : ByteArray, S1 = ⟨(NM ++ [32]).toArray⟩ := ⟨_, rfl⟩
        obtain ⟨S2, hS2⟩ : ∃ S2 : ByteArray, S2 = ⟨(NM ++ 32 :: Lib.decDigits m).toArray⟩ := ⟨_, rfl⟩
        obtain ⟨_, dl, _⟩ := dec_plain m hmm
        have hadd1 : ∀ w', (Op.stringOp .add SN ⟨#[32]⟩).run Tryd.prog w' = .ok (.string S1) w' := fun w' => by
          rw [HSN.out, hS1]; exact run_string_add_lists w' NM [32] (by omega) (by simp)
        have hadd2 : ∀ w', (Op.stringOp .add S1 SD).run Tryd.prog w' = .ok (.string S2) w' := fun w' => by
          rw [hS1, hSD, hS2, run_string_add_lists w' (NM ++ [32]) _ (by simp; omega) (by omega)]; simp
        have HSD := Lib.hid hSD
        have HS2 := Lib.hid hS2
        clear hSD hS1 hS2 dl hnl
        go_wp2_with fail
        refine (spec_digits m hmm _).mono ?_; rintro e w4 ⟨rfl, b4⟩
        have B4 := Lib.hid (B3.out.trans (b4.mono B3.out.size))
        rw [← HSD.out]
        clear b4
        go_wp2
        go_ret
        exact ⟨ret_sb (HS2.out.trans (by rw [HE.out])), B4.out⟩
  · have HV := Lib.hid (show ordB op arg = false by simpa using hv)
    have HE := Lib.hid (show fmtN op arg = [] by simp [fmtN, hv])
    rw [HE.out]
    clear hv HE
    go_enter Tryd.func29, Tryd.ntmps29
    go_wp2_with fail
    refine (spec_ordValid _ _ _).mono ?_; rintro e w1 ⟨rfl, b1⟩
    rw [HV.out]
    go_wp2_with fail
    go_ret
    exact ⟨rfl, (below1 w _).trans (b1.mono (by simp))⟩
end Go.Proofs.YtehiplkoofdkeaaDoor
