/- Contracts of the program's functions on memory (chapter 2): copies. -/
import Derived.Test.YtbcibgfjdenheaaMemB
import Derived.Test.YtbcibgfjdenheaaOwn
import Derived.Lib.SliceRun
import Derived.Deep.RegionHeld3
namespace Go.Proofs.Ytbcibgfjdenheaa
open Go.ChangeShapes Go.WideShapes Go.ChangeAt Go.RowKit

theorem clone_ints (A : Option Addr) (n c : Nat) (xs : List Int) (fa : List Nat) (w : World) (ha : Ints w A n xs fa) (hn : n ≤ 1000000000) :
    Calls Try.prog 57 #[.slice A n c] w (Copied xs n w) := by
  have HA := Lib.hid ha
  rcases A with _ | ad
  · have hx : xs = [] ∧ n = 0 := by
      obtain ⟨hl, ⟨h, _⟩ | ⟨_, b, o, h, _⟩⟩ := ha
      · exact ⟨List.eq_nil_of_length_eq_zero (by omega), h⟩
      · cases h
    obtain ⟨rfl, rfl⟩ := hx
    clear ha
    have hq := fun W => Lib.run_eql_slice_nil (P := Try.prog) W 23 3 none 0 c 0 0 Try.underlying23
    go_enter Try.func57, Try.ntmps57
    go_wp2
    go_ret
    exact ⟨none, 0, [], rfl, Nat.le_refl _, .nil _ _, .nil _ _, Below.refl _ _⟩
  · clear ha
    have hq := fun W => Lib.run_eql_slice_nil (P := Try.prog) W 23 3 (some ad) n c 0 0 Try.underlying23
    go_enter Try.func57, Try.ntmps57
    go_wp2_with (at_builtin; refine wpList_append_ints rfl _ _ rfl w.heap.size _ 0 [] rfl (own_empty w _ _ (Nat.le_refl _)) _ _ _ xs fa rfl (HA.out.below (below1 w _)) (by omega) (by simp) ?_; intro v' w1 hown hgrow hat)
    have HO : Hid (w1.ownsRow w.heap.size 3 1 v' n (iv xs)) := by
      simp only [Nat.zero_add, List.nil_append] at hown
      exact hown
    have HB := Lib.hid (below_grown (below1 w _) hgrow (by simp) (fun k hk => by have h : some w.heap.size = some k := hk; injection h; omega))
    clear hown hgrow hat hq
    go_wp2
    go_ret
    exact copied_own HO.out HB.out
theorem clone_mem (A : Option Addr) (n c : Nat) (R : Option Addr) (k d : Nat) (M : Mem) (fa fr : List Nat) (w : World) (hi : Ints w A n M.ram fa) (hg : Grid w R k M.rom fr) (hn : n ≤ 1000000000) (hk : k ≤ 1000000000) (hs : ∀ i, (M.rom.getD i []).length ≤ 1000000000) :
    Calls Try.prog 28 #[.agg #[.slice A n c, .slice R k d, .int .i64 M.bank]] w (MemNew M w) := by
  have HI := Lib.hid hi
  have HG := Lib.hid hg
  have HS := Lib.hid hs
  have HL := Lib.hid hg.len
  clear hi hg hs
  have hmk := Go.run_make_row' (P := Try.prog) 24 23 (.slice none 0 0) 24 Try.underlying24 infoInts rfl .i64 .i64 k (by omega) (by omega)
  go_enter Try.func28, Try.ntmps28
  go_wp2_with fail
  go_loopw [13] (fun i wr => ∃ (j : Nat) (D : List Row), j ≤ k ∧ i = .int .i64 j ∧ Fill wr (w.heap.size + 1 + 1) k M.rom j D ∧ Below w.heap.size w wr ∧ Box wr w.heap.size 26 [.slice A n c, .slice R k d, .int .i64 M.bank] ∧ Box wr (w.heap.size + 1) 26 [.slice none 0 0, .slice none 0 0, .int .i64 0]) (fun i _ => k - (intOf i).toNat)
  case atStart => exact ⟨0, [], Nat.zero_le _, rfl, by simpa using Fill.none_ ((w.alloc _).alloc _) k M.rom, below3 w _ _ _, ((Box.new w _ _).alloc _).alloc _, (Box.new_at (w.alloc _) _ _ _ (by simp)).alloc _⟩
  case round =>
    obtain ⟨j, D, hj, rfl, hf, hb, hx0, hx1⟩ := hrel
    have HF := Lib.hid hf
    have HB := Lib.hid hb
    have X0 := Lib.hid hx0
    have X1 := Lib.hid hx1
    clear hf hb hmk hx0 hx1
    by_cases hlt : j < k
    · obtain ⟨p, o, a, m, e, fr', rfl, hp, c1, _, i1, _⟩ := (HG.out.below HB.out).row hlt
      have I1 := Lib.hid i1
      have hm : m ≤ 1000000000 := by have := i1.1; have := HS.out j; omega
      clear i1
      go_wp2_with fail
      refine (clone_ints _ _ _ _ _ _ I1.out hm).mono ?_
      rintro e w1 ⟨A', c', fp, rfl, hmc, i2, n2, b2⟩
      have H1 := Lib.hid (HF.out.next (by have := HL.out; omega) b2 hmc i2 n2)
      have c2 := (HF.out.keep b2).row.cell hlt
      have c3 := (HF.out.keep b2).row.frozen j
      have B2 := Lib.hid (HB.out.trans (b2.mono HB.out.size))
      have Y0 := Lib.hid (X0.out.below b2)
      have Y1 := Lib.hid (X1.out.below b2)
      clear i2 n2 b2 HF HB I1 c1 X0 X1
      go_wp2
      go_roundw
      case rel => exact ⟨j + 1, _, by omega, by go_num, H1.out, B2.out.setCell (by simp; omega) _, Y0.out.far (by omega) _, Y1.out.far (by omega) _⟩
      case measure => simp [intOf]; omega
    · obtain rfl : j = k := by omega
      have a0 : wr.cell? ⟨w.heap.size, 0, none⟩ = some (.slice A n c) := X0.out.cell 0
      have a2 : wr.cell? ⟨w.heap.size, 2, none⟩ = some (.int .i64 M.bank) := X0.out.cell 2
      go_wp2_with fail
      have i0 : Hid (Ints wr.drew A n M.ram fa) := HI.out.below HB.out.drew
      have x0 : Hid (Box wr.drew w.heap.size 26 [.slice A n c, .slice R j d, .int .i64 M.bank]) := X0.out
      have x1 : Hid (Box wr.drew (w.heap.size + 1) 26 [.slice none 0 0, .slice none 0 0, .int .i64 0]) := X1.out
      go_region_held3 (fun w' => w'.cell? ⟨w.heap.size, 0, none⟩ = some (.slice A n c) ∧ w'.cell? ⟨w.heap.size, 2, none⟩ = some (.int .i64 M.bank))
        (first
          | go_keep
          | exact ⟨(x0.out.below b2).cell 0, (x0.out.below b2).cell 2⟩)
        (first
          | (go_at_call 57; refine (clone_ints A n c M.ram fa _ ?_ hn).mono ?_; (exact i0.out); rintro e w1 ⟨A', c', fp, rfl, hmc, i2, n2, b2⟩; have s0 : w1.cell? ⟨w.heap.size + 1, 0, none⟩ = some (.slice none 0 0) := (x1.out.below b2).cell 0; have s1 : w1.cell? ⟨w.heap.size + 1, 1, none⟩ = some (.slice none 0 0) := (x1.out.below b2).cell 1; have s2 : w1.cell? ⟨w.heap.size + 1, 2, none⟩ = some (.int .i64 0) := (x1.out.below b2).cell 2; have s3 := (x1.out.below b2).frozen 0; have s4 := (x1.out.below b2).frozen 1; have s5 := (x1.out.below b2).frozen 2))
      obtain ⟨fq, gq, nq⟩ := HF.out.both HL.out
      have R1 := Lib.hid (mem_new_rows (w := w) (M := M) (c := c') (d := j) (gq.below (w' := wr.drew) ((Below.refl _ _).drew)) (nq.keep (.of_below (w' := wr.drew) ((Below.refl _ _).drew))) i2 n2 b2 (show w.heap.size + 1 < w.heap.size + 1 + 1 by omega) hmc (Nat.le_refl _) (by omega) (Nat.le_of_lt HF.out.row.lt))
      have B3 : Hid (Below w.heap.size w w1) := HB.out.drew.trans (b2.mono HB.out.size)
      clear i2 n2 b2 gq nq s3 s4 s5 i0 x0 a0 a2
      go_wp2_with fail
      refine bodyPost_ret (v := .agg #[.slice A' n c', .slice (some ⟨w.heap.size + 1 + 1, 0, none⟩) j j, .int .i64 M.bank]) (by simp [results, Try.results28, go_sem, s0, s1, s2]) rfl (R1.out _ ?_ ?_)
      · exact (((Only.refl _ w1).setCell (.inl (by simp)) _).setCell (.inl (by simp)) _).setCell (.inl (by simp)) _
      · exact ((B3.out.setCell (by simp) _).setCell (by simp) _).setCell (by simp) _
end Go.Proofs.Ytbcibgfjdenheaa
