/- Contracts on memories that lie here; the walk of FnReadMemory. -/
import Derived.Test.YtbcibgfjdenheaaMemH
import Derived.Test.YtbcibgfjdenheaaMemZ
import Derived.Deep.RegionHeld3
namespace Go.Proofs.Ytbcibgfjdenheaa
open Go.ChangeShapes Go.WideShapes Go.ChangeAt Go.RowKit

section
variable {w : World} {A : Option Addr} {n c : Nat} {R : Option Addr} {k d : Nat} {M : Mem}
theorem MemHere.parts (h : MemHere w A n c R k d M) : ∃ fa fr, Ints w A n M.ram fa ∧ Grid w R k M.rom fr ∧ n ≤ 1000000000 ∧ k ≤ 1000000000 ∧ ∀ i, (M.rom.getD i []).length ≤ 1000000000 := by
  have hr := h.ram_len
  have hk := h.rom_len
  obtain ⟨_, _, ⟨fa, h3⟩, ⟨fr, h4⟩, h5⟩ := h
  exact ⟨fa, fr, h3, h4, by omega, by omega, fun i => by have := h5.row i; omega⟩
theorem hv_impl (h : MemHere w A n c R k d M) : Calls Try.prog 13 #[.agg #[.slice A n c, .slice R k d, .int .i64 M.bank]] w fun e w' => e = .returned (.bool (validB M)) ∧ Below w.heap.size w w' := by
  obtain ⟨fa, fr, h1, h2, h3, h4, h5⟩ := h.parts
  exact impl_valid A n c R k d M fa fr w h1 h2 h3 h4 h5
theorem hv_spec (h : MemHere w A n c R k d M) : Calls Try.prog 17 #[.agg #[.slice A n c, .slice R k d, .int .i64 M.bank]] w fun e w' => e = .returned (.bool (validB M)) ∧ Below w.heap.size w w' := by
  obtain ⟨fa, fr, h1, h2, h3, h4, h5⟩ := h.parts
  exact spec_valid A n c R k d M fa fr w h1 h2 h3 h4 h5
theorem hr_impl (h : MemHere w A n c R k d M) (a : Int) : Calls Try.prog 12 #[.agg #[.slice A n c, .slice R k d, .int .i64 M.bank], .int .i64 a] w (Got (readM M a) w) := by
  obtain ⟨fa, fr, h1, h2, h3, h4, h5⟩ := h.parts
  exact impl_read A n c R k d M fa fr a w h1 h2 h3 h4 h5
theorem hc_impl (h : MemHere w A n c R k d M) (f t m : Int) : Calls Try.prog 8 #[.agg #[.slice A n c, .slice R k d, .int .i64 M.bank], .int .i64 f, .int .i64 t, .int .i64 m] w (MemNew (copyM M f t m) w) := by
  obtain ⟨fa, fr, h1, h2, h3, h4, h5⟩ := h.parts
  exact impl_copy A n c R k d M fa fr f t m w h1 h2 h3 h4 h5
theorem hc_spec (h : MemHere w A n c R k d M) (f t m : Int) : Calls Try.prog 10 #[.agg #[.slice A n c, .slice R k d, .int .i64 M.bank], .int .i64 f, .int .i64 t, .int .i64 m] w (MemNew (copyM M f t m) w) := by
  obtain ⟨fa, fr, h1, h2, h3, h4, h5⟩ := h.parts
  exact spec_copy A n c R k d M fa fr f t m w h1 h2 h3 h4 h5
theorem hs_same {A' : Option Addr} {n' c' : Nat} {R' : Option Addr} {k' d' : Nat} (h : MemHere w A n c R k d M) (h' : MemHere w A' n' c' R' k' d' M) : Calls Try.prog 9 #[.agg #[.slice A n c, .slice R k d, .int .i64 M.bank], .agg #[.slice A' n' c', .slice R' k' d', .int .i64 M.bank]] w fun e w' => e = .returned (.bool true) ∧ Below w.heap.size w w' := by
  obtain rfl : n = n' := by have := h.ram_len; have := h'.ram_len; omega
  obtain rfl : k = k' := by have := h.rom_len; have := h'.rom_len; omega
  obtain ⟨fa, fr, h1, h2, h3, h4, h5⟩ := h.parts
  obtain ⟨fa', fr', h1', h2', _, _, _⟩ := h'.parts
  exact same_mem A A' n c c' R R' k d d' M fa fr fa' fr' w h1 h1' h2 h2' h3 h4 h5
theorem MemNew.here {e : Ending} {w' : World} (h : MemNew M w e w') (hs : Small M 256) : ∃ (A : Option Addr) (n c : Nat) (R : Option Addr) (k d : Nat), e = .returned (.agg #[.slice A n c, .slice R k d, .int .i64 M.bank]) ∧ MemHere w' A n c R k d M ∧ Below w.heap.size w w' := by
  obtain ⟨A, n, c, R, k, d, fa, fr, rfl, h1, h2, h3, h4, _, h5⟩ := h
  exact ⟨A, n, c, R, k, d, rfl, ⟨h1, h2, ⟨fa, h3⟩, ⟨fr, h4⟩, hs⟩, h5⟩
end
theorem keeps {w w' : World} (b : Below w.heap.size w w') {a : Addr} {v : Value} (h : w.cell? a = some v) : w'.cell? a = some v := (b.cell (World.block_lt_of_cell? _ _ h)).trans h
/-- The cell of the working memory with a number. -/
theorem MemHere.ramAt {w : World} {A : Option Addr} {n c : Nat} {R : Option Addr} {k d : Nat} {M : Mem} (h : MemHere w A n c R k d M) (hn : n = 256) : ∃ b o, A = some ⟨b, o, none⟩ ∧ ∀ i, i < 256 → w.cell? ⟨b, o + i, none⟩ = some (.int .i64 (M.ram.getD i 0)) := by
  obtain ⟨_, _, ⟨fa, h3⟩, _, _⟩ := h
  subst hn
  obtain ⟨b, o, rfl, _, _, hc⟩ := h3.at_ (by omega)
  exact ⟨b, o, rfl, hc⟩
/-- A bank's header, and its cells. -/
theorem MemHere.romAt {w : World} {A : Option Addr} {n c : Nat} {R : Option Addr} {k d : Nat} {M : Mem} (h : MemHere w A n c R k d M) (g : Good M) {i : Nat} (hi : i < k) : ∃ b o a c1 p q, R = some ⟨b, o, none⟩ ∧ w.cell? ⟨b, o + i, none⟩ = some (.slice a 256 c1) ∧ a = some ⟨p, q, none⟩ ∧ ∀ j, j < 256 → w.cell? ⟨p, q + j, none⟩ = some (.int .i64 ((M.rom.getD i []).getD j 0)) := by
  have hk := h.rom_len
  obtain ⟨_, _, _, ⟨fr, h4⟩, _⟩ := h
  obtain ⟨b, o, a, m, c1, f1, rfl, _, hcell, _, hints, _⟩ := h4.row hi
  have hm : m = 256 := by rw [← hints.1]; exact g.rom i (by omega)
  subst hm
  obtain ⟨p, q, rfl, _, _, hc⟩ := hints.at_ (by omega)
  exact ⟨b, o, _, c1, p, q, rfl, hcell, rfl, hc⟩
theorem readM_in {M : Mem} (hv : validB M = true) {a : Int} (h0 : 0 ≤ a) (h1 : a ≤ 1023) : readM M a = readN M a.toNat := by
  have ha : addrB a = true := by simp [addrB, h0, h1]
  simp [readM, ha, hv]
theorem readM_out {M : Mem} {a : Int} (h : validB M = false ∨ a < 0 ∨ 1023 < a) : readM M a = 0 := by
  unfold readM
  rw [if_neg]
  rintro ⟨h1, h2⟩
  have := addrB_yes h1
  rcases h with h | h | h
  · rw [h] at h2; cases h2
  · omega
  · omega
end Go.Proofs.Ytbcibgfjdenheaa
