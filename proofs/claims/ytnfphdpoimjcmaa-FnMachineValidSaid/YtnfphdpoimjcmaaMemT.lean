/- Contracts of the model's functions on memory (chapter 2): a new memory. -/
import Derived.Test.YtnfphdpoimjcmaaGrow
import Derived.Test.YtnfphdpoimjcmaaMemY
import Derived.Deep.RegionLaw
namespace Go.Proofs.Ytnfphdpoimjcmaa
open Go.ChangeShapes Go.WideShapes Go.ChangeAt Go.RowKit

theorem new_round {w wr w2 : World} {k j : Nat} {rs : List (List Int)} {v v' : Value} {D' : List Row} (hj : j < k) (gn : Grow w2 (w.heap.size + 3) rs (j + 1) v' D') (hz : wr.rowIs (w.heap.size + 1) 3 256 (fun _ => .int .i64 0)) (hb : Below w.heap.size w wr)
    (x0 : Box wr w.heap.size 26 [.slice none 0 0, .slice none 0 0, .int .i64 0]) (x2 : Box wr (w.heap.size + 1 + 1) 26 [.slice (some ⟨w.heap.size + 1, 0, none⟩) 256 256, v, .int .i64 0]) (b2 : Below (w.heap.size + 3) wr w2) :
    ∃ (i : Nat) (u : Value) (D : List Row), i ≤ k ∧ Value.int .i64 ((j : Int) + 1) = .int .i64 i ∧ Grow (w2.setCell ⟨w.heap.size + 1 + 1, 1, none⟩ v') (w.heap.size + 3) rs i u D ∧ (w2.setCell ⟨w.heap.size + 1 + 1, 1, none⟩ v').rowIs (w.heap.size + 1) 3 256 (fun _ => .int .i64 0) ∧ Below w.heap.size w (w2.setCell ⟨w.heap.size + 1 + 1, 1, none⟩ v') ∧
      Box (w2.setCell ⟨w.heap.size + 1 + 1, 1, none⟩ v') w.heap.size 26 [.slice none 0 0, .slice none 0 0, .int .i64 0] ∧ Box (w2.setCell ⟨w.heap.size + 1 + 1, 1, none⟩ v') (w.heap.size + 1 + 1) 26 [.slice (some ⟨w.heap.size + 1, 0, none⟩) 256 256, u, .int .i64 0] := by
  have o : Only [w.heap.size + 1 + 1] w2 (w2.setCell ⟨w.heap.size + 1 + 1, 1, none⟩ v') := (Only.refl _ w2).setCell (.inl (by simp)) _
  refine ⟨j + 1, v', D', by omega, by go_num, gn.only o (by simp), ?_, ?_, (x0.keep b2 (by omega)).far (by omega) _, (x2.keep b2 (by omega)).set 1 _⟩
  · exact (hz.of_block (b2.block _ (by omega))).setOther (show w.heap.size + 1 ≠ w.heap.size + 1 + 1 by omega) _
  · exact (hb.trans (b2.mono (by omega))).setCell (by simp; omega) _
theorem spec_new (R : Option Addr) (k d : Nat) (rs : List (List Int)) (fr : List Nat) (w : World) (hg : Grid w R k rs fr) (hk : k ≤ 1000000000) (hs : ∀ i, (rs.getD i []).length ≤ 1000000000) :
    Calls Try.prog 25 #[.slice R k d] w (MemNew (newM rs) w) := by
  have HG := Lib.hid hg
  have HS := Lib.hid hs
  have HL := Lib.hid hg.len
  clear hg hs
  have hmk := make256
  obtain ⟨i0, hi0, hz0, hz1, hz2⟩ := info_parts infoInts
  go_enter Try.func25, Try.ntmps25
  go_wp2_with fail
  go_loopw [4] (fun i wr => ∃ (j : Nat) (v : Value) (D : List Row), j ≤ k ∧ i = .int .i64 j ∧ Grow wr (w.heap.size + 3) rs j v D ∧ wr.rowIs (w.heap.size + 1) 3 256 (fun _ => .int .i64 0) ∧ Below w.heap.size w wr ∧ Box wr w.heap.size 26 [.slice none 0 0, .slice none 0 0, .int .i64 0] ∧ Box wr (w.heap.size + 1 + 1) 26 [.slice (some ⟨w.heap.size + 1, 0, none⟩) 256 256, v, .int .i64 0]) (fun i _ => k - (intOf i).toNat)
  case atStart =>
    refine ⟨0, .slice none 0 0, [], Nat.zero_le _, rfl, Grow.none_ _ _ _, ?_, below3 w _ _ _, ((Box.new w _ _).alloc _).alloc _, Box.new_at ((w.alloc _).alloc _) _ _ _ (by simp)⟩
    have := (World.rowIs_made (w.alloc (.cells #[.slice none 0 0, .slice none 0 0, .int .i64 0] 26)) (.int .i64 0) 256 3).alloc (.cells #[.slice (some ⟨w.heap.size + 1, 0, none⟩) 256 256, .slice none 0 0, .int .i64 0] 26)
    rwa [show (w.alloc (.cells #[.slice none 0 0, .slice none 0 0, .int .i64 0] 26)).heap.size = w.heap.size + 1 from by simp] at this
  case round =>
    obtain ⟨j, v, D, hj, rfl, hw, hz, hb, hx0, hx2⟩ := hrel
    have HW := Lib.hid hw
    have HZ := Lib.hid hz
    have HB := Lib.hid hb
    have X0 := Lib.hid hx0
    have X2 := Lib.hid hx2
    have z2 : w.heap.size + 1 + 1 < wr.heap.size := hx2.lt
    clear hw hz hb hx0 hx2 hmk
    by_cases hlt : j < k
    · obtain ⟨p, o, a, m, e, fr', rfl, hp, c1', _, i1', _⟩ := HG.out.row hlt
      have c1 := (HB.out.cell (p := ⟨p, o + j, none⟩) hp).trans c1'
      have i1 := i1'.keep (w' := wr) ⟨HB.out.size, fun b _ hl => HB.out.block b hl⟩
      have I1 := Lib.hid i1
      clear c1' i1'
      have zL : w.heap.size + 3 ≤ wr.heap.size := by omega
      have hp2 : p < wr.heap.size := by omega
      have hm : m ≤ 1000000000 := by have := i1.1; have := HS.out j; omega
      have a1 : wr.cell? ⟨w.heap.size + 1 + 1, 1, none⟩ = some v := X2.out.cell 1
      have a2 := X2.out.frozen 1
      have l1 : (j : Int) < (k : Int) := by omega
      have l0 : (0 : Int) ≤ (j : Int) := by omega
      clear i1
      go_wp2_with fail
      have E1 : Hid ((wr.alloc (.cells #[] 3)).drew.ownsRow wr.heap.size 3 1 (.slice (some ⟨wr.heap.size, 0, none⟩) 0 0) 0 (iv [])) := (own_empty wr 3 wr.heap.size (Nat.le_refl _)).drew
      have J1 : Hid (Ints (wr.alloc (.cells #[] 3)).drew a m (rs.getD j []) fr') := I1.out.below (below1 wr _).drew
      have BR : Hid (Below wr.heap.size wr (wr.alloc (.cells #[] 3)).drew) := (below1 wr _).drew
      have zr : wr.heap.size ≤ (wr.alloc (.cells #[] 3)).drew.heap.size := BR.out.size
      go_region_law (first
          | (refine step_append_ints (by rfl) (.tmp 15) (.tmp 19) (by rfl) wr.heap.size _ 0 [] (by rfl) E1.out a m e (rs.getD j []) fr' (by rfl) J1.out (by omega) zr ?_; intro v1 w1 own1 gr1 _; have b1 : Below wr.heap.size wr w1 := below_grown BR.out gr1 zr (fun b hb => by have h : some wr.heap.size = some b := hb; injection h; omega); have own1' : w1.ownsRow wr.heap.size 3 1 v1 m (iv (rs.getD j [])) := by { simp only [Nat.zero_add, List.nil_append] at own1; exact own1 }; obtain ⟨A1, d1, fp1, rfl, hc1, _, hi1, hn1, _⟩ := own_ints own1'; have t1 : w1.cell? ⟨w.heap.size + 1 + 1, 1, none⟩ = some v := (X2.out.below b1).cell 1; have t2 : w.heap.size + 1 + 1 < w1.heap.size := (X2.out.below b1).lt; have HC1 := Lib.hid hc1; have HI1 := Lib.hid hi1; have HN1 := Lib.hid hn1; have HB1 := Lib.hid b1; clear own1 gr1 own1' hc1 hi1 hn1 b1)
          | (refine step_append_lies _ (by rfl) (.tmp 14) (.tmp 21) 24 (by rfl) (w.heap.size + 3) 23 i0 _ 1 24 Try.underlying24 hi0 hz0 hz1 hz2 rfl (by omega) v j (D.map Row.val) (by rfl) (by exact own_keep (HW.out.below HB1.out).own (below1 w1 _)) ⟨w1.heap.size, 0, none⟩ 1 1 [.slice A1 m d1] (by rfl) (by rfl) (World.news_of_block (cs := #[.slice A1 m d1]) (t := 23) (fr := (0, 0)) (heap_alloc_new w1 _)) (by simp [Value.oneCell']) (by omega) (by unfold maxLen; omega) (by omega) (by have := HB1.out.size; simp; omega) _ rfl ?_; intro g cap w2 own2 gr2 hat hlt2; have b2 : Below (w.heap.size + 3) wr w2 := ((HB1.out.mono zL).alloc (Nat.le_trans zL HB1.out.size) _).grown gr2 (by have := HB1.out.size; simp; omega) (fun b hb => (own_lt HW.out.own b hb).1); have s1 : w2.cell? ⟨w.heap.size + 1 + 1, 1, none⟩ = some v := (Box.keep X2.out b2 (by omega)).cell 1; have s2 := (Box.keep X2.out b2 (by omega)).frozen 1; have GN := Lib.hid (HW.out.next zL (by have := HL.out; omega) HB1.out HC1.out HI1.out HN1.out (below1 w1 _) own2 gr2 hat); have B2 := Lib.hid b2; clear own2 gr2 hat b2))
      all_goals go_wp2
      all_goals
        go_roundw
        case rel => exact new_round hlt GN.out HZ.out HB.out X0.out X2.out B2.out
        case measure => simp [intOf]; omega
    · obtain rfl : j = k := by omega
      obtain ⟨R', d', fr', rfl, hd', gG, nG⟩ := HW.out.grid HL.out
      have G1 := Lib.hid gG
      have N1 := Lib.hid nG
      clear gG nG
      have a0 : wr.cell? ⟨w.heap.size + 1 + 1, 0, none⟩ = some (.slice (some ⟨w.heap.size + 1, 0, none⟩) 256 256) := X2.out.cell 0
      have a1 : wr.cell? ⟨w.heap.size + 1 + 1, 1, none⟩ = some (.slice R' j d') := X2.out.cell 1
      have a2 : wr.cell? ⟨w.heap.size + 1 + 1, 2, none⟩ = some (.int .i64 0) := X2.out.cell 2
      go_wp2_with fail
      refine (spec_valid _ 256 256 R' j d' ⟨zeros, rs, 0⟩ _ fr' _ (zeros_ints HZ.out) G1.out (by omega) hk HS.out).mono ?_
      rintro e w1 ⟨rfl, b1⟩
      have Y0 := Lib.hid (X0.out.below b1)
      have Y2 := Lib.hid (X2.out.below b1)
      have I2 := Lib.hid ((zeros_ints HZ.out).below b1)
      have G2 := Lib.hid (G1.out.below b1)
      have B2 := Lib.hid (HB.out.trans (b1.mono HB.out.size))
      have N2 : Hid (New (w.heap.size + 1) w1 ([w.heap.size + 1] ++ fr')) := ((New.one (Nat.le_refl _) HZ.out.lt HZ.out.frozen).keep (.of_below b1)).append ((N1.out.mono (by omega)).keep (.of_below b1)) (fun x hx hy => by have := (N1.out.lt x hy).1; simp at hx; omega)
      clear b1 a0 a1 a2
      have e0 : w1.cell? ⟨w.heap.size, 0, none⟩ = some (.slice none 0 0) := Y0.out.cell 0
      have e1 : w1.cell? ⟨w.heap.size, 1, none⟩ = some (.slice none 0 0) := Y0.out.cell 1
      have e2 : w1.cell? ⟨w.heap.size, 2, none⟩ = some (.int .i64 0) := Y0.out.cell 2
      have e3 := Y0.out.frozen 0
      have e4 := Y0.out.frozen 1
      have e5 := Y0.out.frozen 2
      by_cases hv : validB ⟨zeros, rs, 0⟩ = true
      · have HV := Lib.hid hv
        have HN := Lib.hid (show newM rs = ⟨zeros, rs, 0⟩ by simp [newM, hv])
        clear hv
        rw [HV.out]
        have a0 : w1.cell? ⟨w.heap.size + 1 + 1, 0, none⟩ = some (.slice (some ⟨w.heap.size + 1, 0, none⟩) 256 256) := Y2.out.cell 0
        have a1 : w1.cell? ⟨w.heap.size + 1 + 1, 1, none⟩ = some (.slice R' j d') := Y2.out.cell 1
        have a2 : w1.cell? ⟨w.heap.size + 1 + 1, 2, none⟩ = some (.int .i64 0) := Y2.out.cell 2
        go_wp2_with fail
        refine bodyPost_ret (v := .agg #[.slice (some ⟨w.heap.size + 1, 0, none⟩) 256 256, .slice R' j d', .int .i64 0]) (by simp [results, Try.results25, go_sem, e0, e1, e2]) rfl ?_
        rw [HN.out]
        exact mem_handed (M := ⟨zeros, rs, 0⟩) I2.out G2.out N2.out (by omega) hd' B2.out (by omega)
      · have HV := Lib.hid (show validB ⟨zeros, rs, 0⟩ = false by simpa using hv)
        have HN := Lib.hid (show newM rs = memZ by simp [newM, hv])
        clear hv
        rw [HV.out]
        go_wp2_with fail
        refine bodyPost_ret (v := .agg #[.slice none 0 0, .slice none 0 0, .int .i64 0]) (by simp [results, Try.results25, go_sem, e0, e1, e2]) rfl ?_
        rw [HN.out]
        exact memZ_new (((B2.out.setCell (by simp) _).setCell (by simp) _).setCell (by simp) _)
end Go.Proofs.Ytnfphdpoimjcmaa
