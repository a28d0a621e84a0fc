/- Contracts of the model's functions on memory (chapter 2): a byte read, a byte written in place. -/
import Derived.Test.YtcapfafglikcmaaDoorKF
namespace Go.Proofs.YtcapfafglikcmaaDoor
open Go.ChangeShapes Go.WideShapes Go.ChangeAt Go.RowKit

theorem betB_addr (a : Int) : betB a 0 1023 = addrB a := rfl
set_option maxRecDepth 100000 in
theorem l2Read_any (A : Option Addr) (n c : Nat) (R : Option Addr) (k d : Nat) (M : Mem) (fa fr : List Nat) (p : Nat) (w : World) (hi : Ints w A n M.ram fa) (hg : Grid w R k M.rom fr) (gd : Good M) (h1 : p < 1024) :
    Calls Tryd.prog 62 #[.agg #[.slice A n c, .slice R k d, .int .i64 M.bank], .int .i64 p] w (Got (readN M p) w) := by
  have b00 := below1 w (.cells #[.slice A n c, .slice R k d, .int .i64 M.bank] 26)
  have hn : n = 256 := by have := hi.1; have := gd.ram; omega
  have hk : k = M.rom.length := hg.len.symm
  have k1 : 1 ≤ k := by have := gd.one; omega
  have k4 : k ≤ 4 := by have := gd.four; omega
  have m0 := gd.bank0
  have m1 : M.bank < k := by have := gd.bank1; omega
  subst hn
  by_cases a2 : p < 512
  · have HE := Lib.hid (show readN M p = M.ram.getD (p % 256) 0 by unfold readN; rw [if_pos a2])
    obtain ⟨b, o, rfl, _, hb, hc⟩ := (hi.below b00).at_ (by omega)
    have c1 := hc (p % 256) (by omega)
    have t1 : ((p : Int) % 256).toNat = p % 256 := by omega
    clear hc hi hg gd b00 hk
    generalize M.ram.getD (p % 256) 0 = x at c1 HE
    go_enter Tryd.func62, Tryd.ntmps62
    go_wp2
    go_ret
    exact ⟨ret_int HE.out.symm, below1 w _⟩
  · by_cases a3 : p < 768
    · have HE := Lib.hid (show readN M p = (M.rom.getD 0 []).getD (p - 512) 0 by unfold readN; rw [if_neg a2, if_pos a3])
      obtain ⟨b, o, a, m, e, f', rfl, hb, c1, _, i1, _⟩ := (hg.below b00).row (i := 0) (by omega)
      have hl : m = 256 := by have := i1.1; have := gd.rom 0 (by omega); omega
      subst hl
      obtain ⟨b', o', rfl, _, hb', hc⟩ := i1.at_ (by omega)
      have c2 := hc (p - 512) (by omega)
      have t1 : ((p : Int) - 512).toNat = p - 512 := by omega
      rw [Nat.add_zero] at c1
      clear hc i1 hi hg gd b00 hk
      generalize (M.rom.getD 0 []).getD (p - 512) 0 = x at c2 HE
      go_enter Tryd.func62, Tryd.ntmps62
      go_wp2
      go_ret
      exact ⟨ret_int HE.out.symm, below1 w _⟩
    · have HE := Lib.hid (show readN M p = (M.rom.getD M.bank.toNat []).getD (p - 768) 0 by unfold readN; rw [if_neg a2, if_neg a3])
      obtain ⟨b, o, a, m, e, f', rfl, hb, c1, _, i1, _⟩ := (hg.below b00).row (i := M.bank.toNat) (by omega)
      have hl : m = 256 := by have := i1.1; have := gd.rom M.bank.toNat (by omega); omega
      subst hl
      obtain ⟨b', o', rfl, _, hb', hc⟩ := i1.at_ (by omega)
      have c2 := hc (p - 768) (by omega)
      have t1 : ((p : Int) - 768).toNat = p - 768 := by omega
      clear hc i1 hi hg gd b00 hk
      generalize (M.rom.getD M.bank.toNat []).getD (p - 768) 0 = x at c2 HE
      go_enter Tryd.func62, Tryd.ntmps62
      go_wp2
      go_ret
      exact ⟨ret_int HE.out.symm, below1 w _⟩
set_option maxRecDepth 100000 in
theorem l2Write_any (q : Nat) (A : Option Addr) (n c : Nat) (R : Option Addr) (k d : Nat) (M : Mem) (fa fr : List Nat) (L p : Nat) (v : Int) (w : World) (h : MemIn w q A n c R k d M fa fr L) (gd : Good M) (hp : p < 1024) (v0 : 0 ≤ v) (v1 : v ≤ 255) :
    Calls Tryd.prog 65 #[.pointer (some ⟨q, 0, none⟩), .int .i64 p, .int .i64 v] w (Put q A n c R k d (writeN M p v) fa fr L w) := by
  have H := Lib.hid h
  have hn : n = 256 := by have := h.ram.1; have := gd.ram; omega
  have HK := Lib.hid (show k = M.rom.length from h.rom.len.symm)
  have k1 : 1 ≤ k := by have := gd.one; have := HK.out; omega
  have k4 : k ≤ 4 := by have := gd.four; have := HK.out; omega
  subst hn
  by_cases a2 : p < 512
  · have HE := Lib.hid (show writeN M p v = { M with ram := M.ram.set (p % 256) v } by unfold writeN; rw [if_pos a2])
    obtain ⟨b, o, rfl, hfa, hb, hc⟩ := h.ram.at_ (by omega)
    have HF := Lib.hid (show b ∈ fa by rw [hfa]; simp)
    have c1 := hc (p % 256) (by omega)
    have c2 := h.new.free b (List.mem_append_left _ HF.out) (o + p % 256)
    have c3 : w.cell? ⟨q, 0, none⟩ = some (.slice (some ⟨b, o, none⟩) 256 c) := h.box.cell 0
    have t1 : ((p : Int) % 256).toNat = p % 256 := by omega
    clear hc h hfa gd
    generalize M.ram.getD (p % 256) 0 = x at c1
    go_enter Tryd.func65, Tryd.ntmps65
    go_wp2
    go_end0
    exact ⟨rfl, by rw [HE.out]; exact H.out.setRam HF.out (by omega) v⟩
  · by_cases a3 : p < 768
    · have HE := Lib.hid (show writeN M p v = M by unfold writeN; rw [if_neg a2, if_pos a3])
      have a4 : ¬ 768 ≤ p := by omega
      clear h gd
      go_enter Tryd.func65, Tryd.ntmps65
      go_wp2
      go_end0
      exact ⟨rfl, by rw [HE.out]; exact H.out, Only.refl _ _⟩
    · have HE := Lib.hid (show writeN M p v = { M with bank := v % k } by unfold writeN; rw [if_neg a2, if_neg a3, HK.out])
      have c1 : w.cell? ⟨q, 1, none⟩ = some (.slice R k d) := h.box.cell 1
      have c2 : w.cell? ⟨q, 2, none⟩ = some (.int .i64 M.bank) := h.box.cell 2
      have c3 := h.box.frozen 2
      have hz : ¬ k = 0 := by omega
      have hz2 : ((k : Int) == 0) = false := by simp; omega
      have a4 : 768 ≤ p := by omega
      clear h gd
      go_enter Tryd.func65, Tryd.ntmps65
      go_wp2
      go_end0
      exact ⟨rfl, by rw [HE.out]; exact H.out.setBank _⟩
end Go.Proofs.YtcapfafglikcmaaDoor
