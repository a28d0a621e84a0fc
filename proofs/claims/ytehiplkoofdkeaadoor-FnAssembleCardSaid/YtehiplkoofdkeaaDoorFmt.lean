/- FormatOrder: the program's and the model's. -/
import Derived.Test.YtehiplkoofdkeaaDoorTxt
import Derived.Test.YtehiplkoofdkeaaDoorShelf
import Derived.Test.YtehiplkoofdkeaaDoorSFmt
import Derived.Deep.RegionHeld3
import Derived.Lib.LaidTab
import Derived.Deep.DeepCutAuto
namespace Go.Proofs.YtehiplkoofdkeaaDoor
open Go.ChangeShapes Go.WideShapes Go.ChangeAt Go.RowKit

theorem gPow : Tryd.prog.globalNamed "internal/strconv.uint64pow10" = some 4 := by kernel_rfl
/-- What FormatOrder reads beside its argument: the program's table of operations, and the library's powers of ten. -/
def Env (w : World) : Prop := Ops w ∧ Lib.TabIs Tryd.prog w "internal/strconv.uint64pow10" .u64 Lib.pow10Tab
theorem var_block {w : World} {n : String} {g : Nat} {cs : Array Value} (hg : Tryd.prog.globalNamed n = some g) (h : w.var? Tryd.prog n = some cs) : g < w.heap.size := by
  unfold World.var? at h
  rw [hg] at h
  simp only [Option.bind_some] at h
  by_cases hl : g < w.heap.size
  · exact hl
  · rw [Array.getElem?_eq_none (by omega)] at h; cases h
theorem var_same {w w' : World} {n : String} {g : Nat} {cs : Array Value} (hg : Tryd.prog.globalNamed n = some g) (h : w.var? Tryd.prog n = some cs) (k : w'.heap[g]? = w.heap[g]?) : w'.var? Tryd.prog n = some cs := by
  unfold World.var? at h ⊢
  rw [hg] at h ⊢
  simp only [Option.bind_some] at h ⊢
  rw [k]; exact h
theorem Env.below {w w' : World} (h : Env w) (k : Below w.heap.size w w') : Env w' := ⟨h.1.below k, var_same gPow h.2 (k.block _ (var_block gPow h.2))⟩
theorem below_grow {w : World} {n : Nat} {os : Array Obj} : Below w.heap.size w (Sort.grow (w.drewN n) os) :=
  ⟨rfl, rfl, rfl, by simp [Sort.grow, World.drewN], fun k hk => by simp only [Sort.grow, World.drewN]; rw [Array.getElem?_append_left hk]⟩
theorem itoa_any (n : Int) (h0 : 0 ≤ n) (h1 : n ≤ 1023) (w : World) (he : Env w) : Calls Tryd.prog 40 #[.int .i64 n] w fun e w' => e = .returned (.string ⟨(Lib.decDigits n.toNat).toArray⟩) ∧ Below w.heap.size w w' := by
  refine (Tryd.strconv_Itoa n (by omega) (by omega) w he.2).mono ?_
  rintro e w' ⟨rfl, k, os, rfl⟩
  refine ⟨?_, below_grow⟩
  rw [Lib.itoa, if_neg (by omega)]
set_option maxHeartbeats 1000000 in
theorem impl_fmt (op arg : Int) (w : World) (h : Env w) : Calls Tryd.prog 26 #[.agg #[.int .i64 op, .int .i64 arg]] w fun e w' => e = .returned (.string ⟨(fmtN op arg).toArray⟩) ∧ Below w.heap.size w w' := by
  have H := Lib.hid (h.below (below1 w (.cells #[.int .i64 op, .int .i64 arg] 30)))
  clear h
  by_cases hv : ordB op arg = true
  · obtain ⟨k, hk, rfl, a0, a1, a5⟩ := fmt_ne hv
    have HF := Lib.hid (fmt_parts hv)
    have HV := Lib.hid hv
    have hnl := name_len (k : Int)
    clear hv a5
    go_enter Tryd.func26, Tryd.ntmps26
    go_wp2_with fail
    refine (impl_ordValid _ _ _ H.out.1).mono ?_; rintro e w1 ⟨rfl, b1⟩
    rw [HV.out]
    have H1 := Lib.hid (H.out.below b1)
    have X1 : Hid (Box w1 w.heap.size 30 [.int .i64 k, .int .i64 arg]) := (Box.new w _ _).below b1
    have B1 : Hid (Below w.heap.size w w1) := (below1 w _).trans (b1.mono (by simp))
    clear b1
    obtain ⟨c0, c1, c2⟩ := H1.out.1.at_ k hk
    have e0 : w1.cell? ⟨w.heap.size, 0, none⟩ = some (.int .i64 k) := X1.out.cell 0
    have e1 : w1.cell? ⟨w.heap.size, 1, none⟩ = some (.int .i64 arg) := X1.out.cell 1
    have z1 : w.heap.size < w1.heap.size := X1.out.lt
    have zg := H1.out.1.lt
    generalize hN : nameN (k : Int) = NM at c0 HF hnl
    generalize hL : lenN (k : Int) = L at c1 HF
    generalize topN (k : Int) = T at c2
    have HN := Lib.hid hN
    have HL := Lib.hid hL
    clear hN hL
    by_cases hl : L = 1
    · subst hl
      have HE := Lib.hid (show fmtN (k : Int) arg = NM by rcases HF.out with ⟨_, _, e⟩ | ⟨e, _⟩; exact e; exact absurd rfl e)
      clear HF
      go_wp2_with fail
      go_ret
      exact ⟨ret_str HE.out.symm, B1.out.alloc B1.out.size _⟩
    · have HE := Lib.hid (show fmtN (k : Int) arg = NM ++ 32 :: Lib.decDigits arg.toNat by rcases HF.out with ⟨e, _⟩ | ⟨_, e⟩; exact absurd e hl; exact e)
      have hq : (L == 1) = false := by simpa using hl
      clear HF hl
      go_upto_region 6 with (fail)
      obtain ⟨W, hW⟩ : ∃ W, W = w1.alloc (.cells #[.string ⟨NM.toArray⟩, .int .i64 L, .int .i64 T] 54) := ⟨_, rfl⟩
      rw [← hW]
      have f0 : W.cell? ⟨w1.heap.size, 0, none⟩ = some (.string ⟨NM.toArray⟩) := by rw [hW]; exact (Box.new w1 _ _).cell 0
      have f1 : W.cell? ⟨w.heap.size, 1, none⟩ = some (.int .i64 arg) := by rw [hW]; exact (X1.out.alloc _).cell 1
      have HW : Hid (Env W) := by rw [hW]; exact H1.out.below (below1 w1 _)
      have BW : Hid (Below w.heap.size w W) := by rw [hW]; exact B1.out.alloc B1.out.size _
      have zW : w1.heap.size < W.heap.size := by rw [hW]; simp
      have K1 : Hid (W.cell? ⟨w1.heap.size, 0, none⟩ = some (.string ⟨NM.toArray⟩) ∧ W.cell? ⟨w.heap.size, 1, none⟩ = some (.int .i64 arg)) := ⟨f0, f1⟩
      have K1d : Hid (W.drew.cell? ⟨w1.heap.size, 0, none⟩ = some (.string ⟨NM.toArray⟩) ∧ W.drew.cell? ⟨w.heap.size, 1, none⟩ = some (.int .i64 arg)) := ⟨f0, f1⟩
      clear hW e0 e1 c0 c1 c2 zg
      obtain ⟨SN, hSN⟩ : ∃ SN : ByteArray, SN = ⟨NM.toArray⟩ := ⟨_, rfl⟩
      obtain ⟨SD, hSD⟩ : ∃ SD : ByteArray, SD = ⟨(Lib.decDigits arg.toNat).toArray⟩ := ⟨_, rfl⟩
      obtain ⟨S1, hS1⟩ : ∃ S1 : ByteArray, S1 = ⟨(NM ++ [32]).toArray⟩ := ⟨_, rfl⟩
      obtain ⟨S2, hS2⟩ : ∃ S2 : ByteArray, S2 = ⟨(NM ++ 32 :: Lib.decDigits arg.toNat).toArray⟩ := ⟨_, rfl⟩
      obtain ⟨_, dl, _⟩ := dec_plain arg.toNat (by omega)
      have hadd1 : ∀ w', (Op.stringOp .add SN ⟨#[32]⟩).run Tryd.prog w' = .ok (.string S1) w' := fun w' => by
        rw [hSN, hS1]; exact run_string_add_lists w' NM [32] (by omega) (by simp)
      have hadd2 : ∀ w', (Op.stringOp .add S1 SD).run Tryd.prog w' = .ok (.string S2) w' := fun w' => by
        rw [hS1, hSD, hS2, run_string_add_lists w' (NM ++ [32]) _ (by simp; omega) (by omega)]; simp
      rw [← hSN] at f0 K1 K1d
      have HSD := Lib.hid hSD
      have HS2 := Lib.hid hS2
      have HWd : Hid (Env W.drew) := HW.out
      simp only [← hSN]
      clear hSN hSD hS1 hS2 dl hnl
      go_region_held3 (fun w' => w'.cell? ⟨w1.heap.size, 0, none⟩ = some (.string SN) ∧ w'.cell? ⟨w.heap.size, 1, none⟩ = some (.int .i64 arg))
        (first
          | (with_reducible exact K1.out)
          | (with_reducible exact K1d.out)
          | (with_reducible exact K2.out)
          | go_keep)
        (first
          | (go_at_call 40; refine (itoa_any _ (by omega) (by omega) _ HWd.out).mono ?_; rintro e w2 ⟨rfl, b2⟩; rw [← HSD.out]; have K2 : Hid (w2.cell? ⟨w1.heap.size, 0, none⟩ = some (.string SN) ∧ w2.cell? ⟨w.heap.size, 1, none⟩ = some (.int .i64 arg)) := ⟨(b2.cell (by simp; omega)).trans f0, (b2.cell (by simp; omega)).trans f1⟩; have HB2 := Lib.hid b2; clear b2))
      all_goals
        go_wp2
        go_ret
        exact ⟨ret_sb (HS2.out.trans (by rw [HE.out])), BW.out.drew.trans (HB2.out.mono BW.out.size)⟩
  · have HV := Lib.hid (show ordB op arg = false by simpa using hv)
    have HE := Lib.hid (show fmtN op arg = [] by simp [fmtN, hv])
    rw [HE.out]
    clear hv HE
    go_enter Tryd.func26, Tryd.ntmps26
    go_wp2_with fail
    refine (impl_ordValid _ _ _ H.out.1).mono ?_; rintro e w1 ⟨rfl, b1⟩
    rw [HV.out]
    go_wp2_with fail
    go_ret
    exact ⟨rfl, (below1 w _).trans (b1.mono (by simp))⟩
end Go.Proofs.YtehiplkoofdkeaaDoor
