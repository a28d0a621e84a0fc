/- The laws' comparison of backgrounds. -/
import Derived.Test.YtacebhncecninaaGD
import Derived.Test.YtacebhncecninaaGH
import Derived.Test.YtacebhncecninaaFldL
namespace Go.Proofs.Ytacebhncecninaa
open Go.ChangeShapes Go.WideShapes Go.ChangeAt Go.RowKit
set_option linter.unusedVariables false

set_option maxRecDepth 100000 in
set_option maxHeartbeats 4000000 in
theorem same_fld (F : Fld) (A B : Option Addr) (c c' : Nat) (T U : Option Addr) (d d' : Nat) (fa ft ga gt : List Nat) (w : World) (ha : FHas w A T F fa ft) (hb : FHas w B U F ga gt) (hs : FSmall F) :
    Calls Try.prog 23 #[fv F A c T d, fv F B c' U d'] w fun e w' => e = .returned (.bool true) ∧ Below w.heap.size w w' := by
  obtain ⟨W, xs, m, zs, sx, sy⟩ := F
  obtain ⟨hx, hm⟩ := hs
  replace hx : xs.length ≤ 1000000000 := hx
  replace hm : m ≤ 1000000000 := hm
  obtain ⟨n, hn⟩ : ∃ n : Nat, xs.length = n := ⟨_, rfl⟩
  have IA : Hid (∀ W', Below w.heap.size w W' → Ints W' A n xs fa) := Lib.hid fun W' h => by rw [← hn]; exact ha.1.below h
  have IB : Hid (∀ W', Below w.heap.size w W' → Ints W' B n xs ga) := Lib.hid fun W' h => by rw [← hn]; exact hb.1.below h
  have HA : Hid (Ints w T (64 * m) zs ft) := Lib.hid ha.2
  have HB : Hid (Ints w U (64 * m) zs gt) := Lib.hid hb.2
  have HZ := Lib.hid ha.2.1
  show Calls _ _ #[fldV W A xs.length c T m d sx sy, fldV W B xs.length c' U m d' sx sy] _ _
  rw [hn] at hx ⊢
  clear ha hb hn
  obtain ⟨w1, hw1⟩ : ∃ w1, w1 = (w.alloc (.cells #[.int .i64 W, .slice A n c, .slice T m d, .int .i64 sx, .int .i64 sy] 26)).alloc (.cells #[.int .i64 W, .slice B n c', .slice U m d', .int .i64 sx, .int .i64 sy] 26) := ⟨_, rfl⟩
  have XA : Hid (Box w1 w.heap.size 26 (fcs W A n c T m d sx sy)) := by rw [hw1]; exact (Box.new w _ _).alloc _
  have XB : Hid (Box w1 (w.heap.size + 1) 26 (fcs W B n c' U m d' sx sy)) := by rw [hw1]; exact Box.new_at _ _ _ _ (by simp)
  have B1 : Hid (Below w.heap.size w w1) := by rw [hw1]; exact below2 w _ _
  go_enter Try.func23, Try.ntmps23
  go_upto_region 1 with (fail)
  rw [← hw1]
  clear hw1
  obtain ⟨s, hs⟩ : ∃ s, w.heap.size = s := ⟨_, rfl⟩
  rw [hs] at XA XB
  try rw [hs]
  have a2 : w1.cell? ⟨s, 2, none⟩ = some (.slice T m d) := XA.out.cell 2
  have b2 : w1.cell? ⟨s + 1, 2, none⟩ = some (.slice U m d') := XB.out.cell 2
  go_wp2_with fail
  clear a2 b2
  go_loopw [5] (fun i wr => ∃ k : Nat, k ≤ m ∧ i = .int .i64 k ∧ Below w1.heap.size w1 wr) (fun i _ => m - (intOf i).toNat)
  case atStart => exact ⟨0, by omega, rfl, Below.refl _ _⟩
  case round =>
    obtain ⟨k, hk, rfl, hbl⟩ := hrel
    have BR := Lib.hid hbl
    clear hbl
    have XAR := Lib.hid (XA.out.below BR.out)
    have XBR := Lib.hid (XB.out.below BR.out)
    have BWR : Hid (Below w.heap.size w wr) := Lib.hid (below_then B1.out BR.out)
    have a2 : wr.cell? ⟨s, 2, none⟩ = some (.slice T m d) := XAR.out.cell 2
    by_cases hlt : k < m
    · obtain ⟨p, o, rfl, _, _, hc⟩ := HA.out.at_ (by omega)
      obtain ⟨q, u, rfl, _, _, hd⟩ := HB.out.at_ (by omega)
      clear hc hd
      have RA : Hid (∀ w', Below wr.heap.size wr w' → w'.rangeAt p (o + k * 64) (iv (tl zs k))) := Lib.hid fun w' hw' => til_range ((HA.out.below BWR.out).below hw') hlt
      have RB : Hid (∀ w', Below wr.heap.size wr w' → w'.rangeAt q (u + k * 64) (iv (tl zs k))) := Lib.hid fun w' hw' => til_range ((HB.out.below BWR.out).below hw') hlt
      have h64 := Lib.hid (tl_len HZ.out hlt)
      generalize tl zs k = px at RA RB h64
      have hkm : (k : Int) < m := by omega
      have hk0 : 0 ≤ (k : Int) := by omega
      go_wp2_with fail
      clear a2
      refine wp_region_typed (ClB wr) RlB (Ty [TV (.pointer (some ⟨s, 2, none⟩)), TV (.slice (some ⟨p, o, none⟩) m d), TV (.int .i64 k), TV (.pointer (some ⟨p, o + k * 64, none⟩)), TV (tilV px), TV (.pointer (some ⟨s + 1, 2, none⟩)), TV (.slice (some ⟨q, u, none⟩) m d'), TV (.int .i64 k), TV (.pointer (some ⟨q, u + k * 64, none⟩)), TV (tilV px), TV (.bool false)])
        (by kernel_rfl) (by kernel_rfl) (stab_ty _ ⟨stabB_k _, stabB_k _, stabB_k _, stabB_k _, stabB_k _, stabB_k _, stabB_k _, stabB_k _, stabB_k _, stabB_k _, stabB_k _, trivial⟩) (Below.refl _ _).drew ?_ ?_
      · refine ⟨?_, ?_, ?_, ?_, ?_, ?_, ?_, ?_, ?_, ?_, ?_, trivial⟩
        · refine lb_val (.pointer (some ⟨s, 2, none⟩)) (fun _ _ _ => want_none rfl) fun ρ wx hb hc hx hp => ⟨?_, rfl⟩
          have h1 : ρ (.tmp 2) = .pointer (some ⟨s, 0, none⟩) := hx 2 rfl
          unfold execOp
          simp only [h1]
          clear h1 hx hp hc hb
          go_simp
        · refine lb_val (.slice (some ⟨p, o, none⟩) m d) (fun _ _ _ => want_none rfl) fun ρ wx hb hc hx hp => ⟨?_, rfl⟩
          have h1 : ρ (.tmp 20) = .pointer (some ⟨s, 2, none⟩) := hp.1 rfl
          have c1 : wx.cell? ⟨s, 2, none⟩ = some (.slice (some ⟨p, o, none⟩) m d) := (XAR.out.below hb).cell 2
          unfold execOp
          simp only [h1]
          clear h1 hx hp hc hb
          go_simp
        · exact lb_move (.tmp 5) (.inl rfl) (fun _ _ _ => want_none rfl) fun ρ wx hc hx hp => hx 5 rfl
        · refine lb_val (.pointer (some ⟨p, o + k * 64, none⟩)) (fun _ _ _ => want_none rfl) fun ρ wx hb hc hx hp => ⟨?_, rfl⟩
          have h0 : ρ (.tmp 21) = .slice (some ⟨p, o, none⟩) m d := hp.1 rfl
          have h1 : ρ (.tmp 22) = .int .i64 k := hp.2.1 rfl
          unfold execOp
          simp only [h0, h1]
          clear h0 h1 hx hc hp hb
          go_simp
        · exact lb_tilm (.tmp 23) p (o + k * 64) px rfl h64.out RA.out (fun _ _ _ => want_none rfl) fun ρ wx hx hp => ⟨hp.1 rfl, rfl⟩
        · refine lb_val (.pointer (some ⟨s + 1, 2, none⟩)) (fun _ _ _ => want_none rfl) fun ρ wx hb hc hx hp => ⟨?_, rfl⟩
          have h1 : ρ (.tmp 3) = .pointer (some ⟨s + 1, 0, none⟩) := hx 3 rfl
          unfold execOp
          simp only [h1]
          clear h1 hx hp hc hb
          go_simp
        · refine lb_val (.slice (some ⟨q, u, none⟩) m d') (fun _ _ _ => want_none rfl) fun ρ wx hb hc hx hp => ⟨?_, rfl⟩
          have h1 : ρ (.tmp 25) = .pointer (some ⟨s + 1, 2, none⟩) := hp.1 rfl
          have c1 : wx.cell? ⟨s + 1, 2, none⟩ = some (.slice (some ⟨q, u, none⟩) m d') := (XBR.out.below hb).cell 2
          unfold execOp
          simp only [h1]
          clear h1 hx hp hc hb
          go_simp
        · exact lb_move (.tmp 5) (.inl rfl) (fun _ _ _ => want_none rfl) fun ρ wx hc hx hp => hx 5 rfl
        · refine lb_val (.pointer (some ⟨q, u + k * 64, none⟩)) (fun _ _ _ => want_none rfl) fun ρ wx hb hc hx hp => ⟨?_, rfl⟩
          have h0 : ρ (.tmp 26) = .slice (some ⟨q, u, none⟩) m d' := hp.1 rfl
          have h1 : ρ (.tmp 27) = .int .i64 k := hp.2.1 rfl
          unfold execOp
          simp only [h0, h1]
          clear h0 h1 hx hc hp hb
          go_simp
        · exact lb_tilm (.tmp 28) q (u + k * 64) px rfl h64.out RB.out (fun _ _ _ => want_none rfl) fun ρ wx hx hp => ⟨hp.1 rfl, rfl⟩
        · refine lb_val (.bool false) (fun _ _ _ => want_none rfl) fun ρ wx hb hc hx hp => ⟨?_, rfl⟩
          have h0 : ρ (.tmp 24) = tilV px := hp.1 rfl
          have h1 : ρ (.tmp 29) = tilV px := hp.2.1 rfl
          rw [exec_tilNeq ρ _ _ _ _ px px h64.out h64.out rfl h0 h1 wx]
          simp
      intro vs wx hI hF
      obtain ⟨_, _, _, _, _, _, _, _, _, _, h10, _⟩ := hF
      replace h10 : vs 10 = .bool false := h10
      have HI : Hid (Below wr.heap.size wr wx) := hI
      simp only [putAll, Act.put, List.setIfInBounds_toArray, List.set_cons_zero, List.set_cons_succ, h10]
      clear hI h10
      have BX := Lib.hid (below_then BR.out HI.out)
      go_wp2_with fail
      go_roundw
      case rel => exact ⟨k + 1, by omega, by go_num, BX.out⟩
      case measure => simp [intOf]; omega
    · have a0 : wr.cell? ⟨s, 0, none⟩ = some (.int .i64 W) := XAR.out.cell 0
      have a1 : wr.cell? ⟨s, 1, none⟩ = some (.slice A n c) := XAR.out.cell 1
      have b0 : wr.cell? ⟨s + 1, 0, none⟩ = some (.int .i64 W) := XBR.out.cell 0
      have b1 : wr.cell? ⟨s + 1, 1, none⟩ = some (.slice B n c') := XBR.out.cell 1
      go_wp2_with fail
      refine (same_ints A B n c c' xs fa ga _ (IA.out _ BWR.out) (IB.out _ BWR.out) hx).mono ?_; rintro e w2 ⟨rfl, z, hz⟩
      have bl : Below wr.heap.size wr w2 := by rw [hz]; exact below_drewN (Below.refl _ _) _
      have X2 := Lib.hid (XAR.out.below bl)
      have Y2 := Lib.hid (XBR.out.below bl)
      have B2 := Lib.hid (below_then BWR.out bl)
      clear hz bl a0 a1 a2 b0 b1
      have a3 : w2.cell? ⟨s, 3, none⟩ = some (.int .i64 sx) := X2.out.cell 3
      have a4 : w2.cell? ⟨s, 4, none⟩ = some (.int .i64 sy) := X2.out.cell 4
      have b3 : w2.cell? ⟨s + 1, 3, none⟩ = some (.int .i64 sx) := Y2.out.cell 3
      have b4 : w2.cell? ⟨s + 1, 4, none⟩ = some (.int .i64 sy) := Y2.out.cell 4
      go_wp2_with fail
      go_ret
      exact ⟨rfl, B2.out⟩
end Go.Proofs.Ytacebhncecninaa
