/- Drawn lists of sound channels. -/
import Derived.Test.YtfbpnneegenhgaaVocE
import Derived.Test.YtfbpnneegenhgaaVocJ
import Derived.Test.YtfbpnneegenhgaaRowE
namespace Go.Proofs.Ytfbpnneegenhgaa
open Go.ChangeShapes Go.WideShapes Go.ChangeAt Go.RowKit
set_option linter.unusedVariables false

def VocsInt (w : World) (e : Ending) (w' : World) : Prop := ∃ (A : Option Addr) (m c : Nat) (L : List Int) (fp : List Nat) (n : Int), e = .returned (.tuple #[.slice A m c, .int .i64 n]) ∧ m ≤ 5 ∧ m ≤ c ∧ (-1 ≤ n ∧ n ≤ 39) ∧ Ints w' A (5 * m) L fp ∧ Below w.heap.size w w'
set_option maxRecDepth 100000 in
set_option maxHeartbeats 4000000 in
theorem draw_MixVoices (a : Option Addr) (len cap : Nat) (zs : List Int) (w : World) (h : IsRow .u8 w a len cap zs) : Calls Try.prog 25 #[.slice a len cap] w (VocsInt w) := by
  have H := Lib.hid h
  clear h
  go_enter Try.func25, Try.ntmps25
  go_wp2_with fail
  refine (open_any a len cap zs _ H.out).mono ?_
  rintro e w1 ⟨rfl, b1, r1⟩
  have B1 := Lib.hid b1
  have R1 := Lib.hid r1
  clear b1 r1
  obtain ⟨q, hq⟩ : ∃ q, w.heap.size = q := ⟨_, rfl⟩
  rw [hq] at R1 B1 ⊢
  have HQ := Lib.hid hq
  clear hq
  have zq : q < w1.heap.size := R1.out.lt
  have D1 : Hid (RowD w1 q 0 24 5 (.slice (some ⟨w1.heap.size, 0, none⟩) 0 0) 0 (iv []) (w1.alloc (.cells #[] 24))) := Lib.hid ⟨own_empty5 w1 _ _ (Nat.le_refl _), (Only.refl _ w1).alloc _, R1.out.alloc _, zq⟩
  clear R1
  go_wp2_with fail
  generalize w1.alloc (.cells #[] 24) = w2 at D1 ⊢
  refine (pick_any q _ 5 _ D1.out.rd (by omega) (by omega) (by omega)).mono ?_
  rintro e w3 ⟨K0, v0, v1, rfl, s2, r2⟩
  have D2 := Lib.hid (D1.out.drawn s2.only r2)
  clear s2 r2 D1
  obtain ⟨K, rfl⟩ : ∃ K : Nat, K0 = K := ⟨K0.toNat, by omega⟩
  have K5 : K ≤ 4 := by omega
  go_wp2_with fail
  clear v0 v1
  generalize (Value.slice (some ⟨w1.heap.size, 0, none⟩) 0 0) = ov at D2 ⊢
  go_loopw [5, 6] (fun ov i wr => ∃ (rr j : Nat) (L : List Int), i = .int .i64 rr ∧ rr + j = K ∧ RowD w1 q (1 + 41 * j) 24 5 ov j (iv L) wr) (fun _ i _ => (intOf i).toNat)
  case atStart => exact ⟨K, 0, [], rfl, by omega, D2.out⟩
  case round =>
    obtain ⟨rr, j, L, rfl, hrj, hd⟩ := hrel
    have DR := Lib.hid hd
    clear hd D2
    obtain ⟨A, c, fs, rfl, hdc, his, hns, hob⟩ := own_vocs DR.out.own
    have IS := Lib.hid his
    have NS := Lib.hid hns
    clear his hns hob
    by_cases h0 : 0 < rr
    · have i0 : (0 : Int) < rr := by omega
      go_wp2_with fail
      refine (voice_draw q (1 + 41 * j) 40 _ DR.out.rd (by omega) (by omega) (by omega)).mono ?_
      rintro e w4 ⟨u, rfl, hu, o4, r4⟩
      have D4 := Lib.hid (DR.out.drawn o4 r4)
      clear o4 r4 DR IS NS hu
      go_wp2_with (at_builtin; refine wpList_append_vocs rfl _ _ rfl w1.heap.size (.slice A j c) j L rfl (D4.out.below (below1 _ _)).own _ 1 1 (vocN u) [w4.heap.size] rfl (lone_voc w4 u) (by omega) (by have := D4.out.only.size; simp; omega) ?_; intro v' w9 own9 gr9 _; have DF := Lib.hid ((D4.out.below (below1 _ _)).grow own9 gr9); clear own9 gr9)
      go_roundw
      case rel => exact ⟨rr - 1, j + 1, _, by go_num, by omega, DF.out.mono (by omega)⟩
      case measure => simp [intOf]; omega
    · obtain rfl : rr = 0 := by omega
      obtain rfl : j = K := by omega
      go_wp2_with fail
      refine (odd_any q _ 20 _ DR.out.rd (by omega) (by omega) (by omega)).mono ?_
      rintro e w5 ⟨bb, rfl, s5, r5⟩
      have I5 := Lib.hid (IS.out.keep (Same.of_only s5.only fun b hb => by have := (NS.out.lt b hb).1; simp; omega))
      have N5 : Hid (∀ b ∈ fs, b ∉ [q]) := Lib.hid fun b hb => by have := (NS.out.lt b hb).1; simp; omega
      have D5 := Lib.hid (DR.out.drawn s5.only r5)
      have BW : Hid (Below q w w5) := Lib.hid (B1.out.trans (D5.out.only.below (B := q) (fun b hb => by simp at hb; omega) (by omega)))
      have zs5 : w1.heap.size ≤ w5.heap.size := D5.out.only.size
      have RD5 := Lib.hid D5.out.rd
      clear s5 r5 DR IS NS D5 B1
      cases bb
      · go_upto_region 9 with (fail)
        go_wp2_with fail
        refine (pick_any q _ 40 _ RD5.out (by omega) (by omega) (by omega)).mono ?_
        rintro e wx ⟨x, x0, x1, rfl, sx, rx⟩
        have IX := Lib.hid (I5.out.keep (Same.of_only sx.only N5.out))
        have BX := Lib.hid (BW.out.trans (sx.only.below (B := q) (fun b hb => by simp at hb; omega) (by omega)))
        have RX := Lib.hid rx
        have zx : q ≤ wx.heap.size := Nat.le_trans (by omega) sx.only.size
        clear sx rx
        go_wp2_with fail
        refine (pick_any q _ 14 _ RX.out (by omega) (by omega) (by omega)).mono ?_
        rintro e wy ⟨y, y0, y1, rfl, sy, ry⟩
        have IY := Lib.hid (IX.out.keep (Same.of_only sy.only N5.out))
        have BY := Lib.hid (BX.out.trans (sy.only.below (B := q) (fun b hb => by simp at hb; omega) zx))
        clear sy ry IX BX RX
        have hq13 : y.tdiv 13 = y / 13 := Int.tdiv_eq_ediv_of_nonneg y0
        obtain ⟨d, hd⟩ : ∃ d, y / 13 = d := ⟨_, rfl⟩
        rw [hd] at hq13
        have d0 : 0 ≤ d ∧ d ≤ 1 := by omega
        have hwd : IntKind.i64.wrap d = d := by rw [IntKind.wrap_i64]; omega
        have hwx : IntKind.i64.wrap (x - d) = x - d := by rw [IntKind.wrap_i64]; omega
        go_wp2_with fail
        refine bodyPost_ret (v := .tuple #[.slice A j c, .int .i64 (x - d)]) (by simp [results, Try.results25, go_sem]) rfl ?_
        exact ⟨_, _, _, _, _, x - d, rfl, by omega, by omega, ⟨by omega, by omega⟩, IY.out, by rw [HQ.out]; exact BY.out⟩
      · have hmk : ∀ w : World, (Instr.makeSlice 36 (.int .i64 5) (.int .i64 5)).run Try.prog w = .ok (.slice (some ⟨w.heap.size, 0, none⟩) 5 5) (w.alloc (.cells (tkO [] 0 5).toArray 24)) := fun w => run_make_vocs 5 (by omega) w
        have hb5 : Below w5.heap.size w5 (w5.alloc (.cells (tkO [] 0 5).toArray 24)) := below1 w5 _
        have IZ : Hid (Ints (w5.alloc (.cells (tkO [] 0 5).toArray 24)) (some ⟨w5.heap.size, 0, none⟩) (5 * 5) (tkP [] 0 5) [w5.heap.size]) := Lib.hid (by
          have X : Box (w5.alloc (.cells (tkO [] 0 5).toArray 24)) w5.heap.size 24 (iv (tkP [] 0 5)) := Box.new w5 _ _
          refine ⟨rfl, .inr ⟨by omega, w5.heap.size, 0, rfl, rfl, by simp, fun k hk => ?_⟩⟩
          rw [Nat.zero_add, X.cell k]
          exact iv_at (tkP [] 0 5) k (by show k < 25; omega))
        have RZ := Lib.hid (RD5.out.stay (hb5.mono (show q + 1 ≤ w5.heap.size by omega)))
        have BW6 := Lib.hid (BW.out.trans (hb5.mono (by omega)))
        have NZ : Hid (∀ b ∈ [w5.heap.size], b ∉ [q]) := Lib.hid fun b hb => by simp at hb; simp; omega
        go_upto_region 9 with (fail)
        clear hmk hb5 BW I5 N5 RD5
        have BW := BW6
        clear BW6
        have zs6 : q ≤ (w5.alloc (.cells (tkO [] 0 5).toArray 24)).heap.size := by simp; omega
        generalize tkP [] 0 5 = LZ at IZ
        generalize w5.alloc (.cells (tkO [] 0 5).toArray 24) = w6 at IZ RZ BW zs6 ⊢
        generalize w5.heap.size = bz at IZ NZ ⊢
        go_wp2_with fail
        refine (pick_any q _ 40 _ RZ.out (by omega) (by omega) (by omega)).mono ?_
        rintro e wx ⟨x, x0, x1, rfl, sx, rx⟩
        have IX := Lib.hid (IZ.out.keep (Same.of_only sx.only NZ.out))
        have BX := Lib.hid (BW.out.trans (sx.only.below (B := q) (fun b hb => by simp at hb; omega) (by omega)))
        have RX := Lib.hid rx
        have zx : q ≤ wx.heap.size := Nat.le_trans (by omega) sx.only.size
        clear sx rx
        go_wp2_with fail
        refine (pick_any q _ 14 _ RX.out (by omega) (by omega) (by omega)).mono ?_
        rintro e wy ⟨y, y0, y1, rfl, sy, ry⟩
        have IY := Lib.hid (IX.out.keep (Same.of_only sy.only NZ.out))
        have BY := Lib.hid (BX.out.trans (sy.only.below (B := q) (fun b hb => by simp at hb; omega) zx))
        clear sy ry IX BX RX
        have hq13 : y.tdiv 13 = y / 13 := Int.tdiv_eq_ediv_of_nonneg y0
        obtain ⟨d, hd⟩ : ∃ d, y / 13 = d := ⟨_, rfl⟩
        rw [hd] at hq13
        have d0 : 0 ≤ d ∧ d ≤ 1 := by omega
        have hwd : IntKind.i64.wrap d = d := by rw [IntKind.wrap_i64]; omega
        have hwx : IntKind.i64.wrap (x - d) = x - d := by rw [IntKind.wrap_i64]; omega
        go_wp2_with fail
        refine bodyPost_ret (v := .tuple #[.slice (some ⟨bz, 0, none⟩) 5 5, .int .i64 (x - d)]) (by simp [results, Try.results25, go_sem]) rfl ?_
        exact ⟨_, _, _, _, _, x - d, rfl, by omega, by omega, ⟨by omega, by omega⟩, IY.out, by rw [HQ.out]; exact BY.out⟩
end Go.Proofs.Ytfbpnneegenhgaa
