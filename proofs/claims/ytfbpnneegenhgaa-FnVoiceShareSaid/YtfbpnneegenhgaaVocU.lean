/- The model's functions on sound channels: playing. -/
import Derived.Test.YtfbpnneegenhgaaVocT
import Derived.Test.YtfbpnneegenhgaaGA
import Derived.Test.YtfbpnneegenhgaaGrow
namespace Go.Proofs.Ytfbpnneegenhgaa
open Go.ChangeShapes Go.WideShapes Go.ChangeAt Go.RowKit
set_option linter.unusedVariables false

theorem lone_intV (w : World) (u : Int) : Ints (w.alloc (.cells #[.int .i64 u] 3)) (some ⟨w.heap.size, 0, none⟩) 1 [u] [w.heap.size] := by
  refine ⟨rfl, .inr ⟨by omega, w.heap.size, 0, rfl, rfl, by simp, fun i hi => ?_⟩⟩
  obtain rfl : i = 0 := by omega
  rw [World.cell?_alloc_new]
  rfl
theorem exec_loadV {ρ : Operand → Value} {o : Oper} (x : Operand) (w : World) (b : Nat) {t : TypeId} (u : Voc) (ho : o.op = .load 24 x) (hx : ρ x = .pointer (some ⟨b, 0, none⟩)) (hb : Box w b t (vcs u)) : (execOp ρ o).run Try.prog w = .ok (.value (vocV u)) w := by
  have hl := run_loadVar_row w b t 24 (vcs u).toArray (0, 0) _ hb Try.underlying24 rfl voc_info
  unfold execOp
  simp only [ho, hx, Instr.loadAt, Instr.sureAddr, Sem.run_bind, Sem.run_pure, Result.andThen_ok, hl]
/-- Samples of the call's own, and a channel. -/
def Played (L : List Int) (v : Voc) (w : World) (e : Ending) (w' : World) : Prop :=
  ∃ (A : Option Addr) (c : Nat) (fp : List Nat), e = .returned (.tuple #[.slice A L.length c, vocV v]) ∧ L.length ≤ c ∧ Ints w' A L.length L fp ∧ New w.heap.size w' fp ∧ Below w.heap.size w w'
theorem played_own {w w' : World} {A : Option Addr} {c : Nat} {L : List Int} {v : Voc} {base n : Nat} (hn : L.length = n) (h : w'.ownsRow base 3 1 (.slice A n c) n (iv L)) (hb : w.heap.size ≤ base) (hB : Below w.heap.size w w') : Played L v w (.returned (.tuple #[.slice A n c, vocV v])) w' := by
  subst hn
  obtain ⟨A', c', fp, he, h1, h2, h3, h4⟩ := copied_own (own_down h hb) hB
  injection he with he
  injection he with e1 e2 e3
  subst e1 e3
  exact ⟨_, _, fp, rfl, h1, h2, h3, h4⟩
set_option maxRecDepth 100000 in
set_option maxHeartbeats 4000000 in
theorem spec_play (x : Voc) (n : Int) (w : World) : Calls Try.prog 20 #[vocV x, .int .i64 n] w (Played (playL x n) (playV x n) w) := by
  obtain ⟨w1, hw1⟩ : ∃ w1, w1 = ((w.alloc (.cells #[.int .i64 x.l, .int .i64 x.h, .int .i64 x.v, .int .i64 x.s, .int .i64 x.e] 24)).alloc (.cells #[.int .i64 0, .int .i64 0, .int .i64 0, .int .i64 0, .int .i64 0] 24)).alloc (.cells #[] 3) := ⟨_, rfl⟩
  have X1 : Hid (Box w1 w.heap.size 24 (vcs x)) := Lib.hid (by rw [hw1]; exact ((Box.new w _ _).alloc _).alloc _)
  have Y1 : Hid (Box w1 (w.heap.size + 1) 24 (vcs .zero)) := Lib.hid (by rw [hw1]; exact (Box.new_at _ _ _ _ (by simp)).alloc _)
  have B1 : Hid (Below w.heap.size w w1) := Lib.hid (by rw [hw1]; exact below3 w _ _ _)
  have E1 : Hid (w1.ownsRow (w.heap.size + 2) 3 1 (.slice (some ⟨w.heap.size + 2, 0, none⟩) 0 0) 0 (iv [])) := Lib.hid (by
    rw [hw1]
    have := own_empty ((w.alloc (.cells #[.int .i64 x.l, .int .i64 x.h, .int .i64 x.v, .int .i64 x.s, .int .i64 x.e] 24)).alloc (.cells #[.int .i64 0, .int .i64 0, .int .i64 0, .int .i64 0, .int .i64 0] 24)) 3 (w.heap.size + 2) (by simp)
    simpa using this)
  have hs1 : w1.heap.size = w.heap.size + 3 := by rw [hw1]; simp
  show Calls Try.prog 20 #[.agg #[.int .i64 x.l, .int .i64 x.h, .int .i64 x.v, .int .i64 x.s, .int .i64 x.e], .int .i64 n] w _
  go_enter Try.func20, Try.ntmps20
  go_upto_region 2 with (fail)
  rw [← hw1]
  clear hw1
  generalize hb0 : w.heap.size = b0 at X1 Y1 B1 E1 hs1 ⊢
  have HB0 := Lib.hid hb0
  clear hb0
  go_wp2_with (first | (refine vo_load (by rfl) _ rfl b0 rfl x X1.out ?_))
  refine (spec_voiceValid x _).mono ?_; rintro e' w2 ⟨rfl, b1⟩
  have X2 := Lib.hid (X1.out.below b1)
  have Y2 := Lib.hid (Y1.out.below b1)
  have E2 := Lib.hid (own_keep E1.out b1)
  have B2 := Lib.hid (below_via B1.out b1 (by omega))
  clear b1 X1 Y1 B1 E1 hs1
  cases hv : vocB x
  · have HT := Lib.hid (play_no (x := x) (n := n) (by unfold playB; rw [hv]; rfl))
    clear hv
    go_wp2_with (first | (refine vo_store (by rfl) _ _ rfl (b0 + 1) rfl .zero rfl (vcs .zero) Y2.out rfl ?_))
    refine bodyPost_ret (voc_ret2 (u := .zero) (v := .slice (some ⟨b0 + 2, 0, none⟩) 0 0) rfl rfl rfl (Box.row Y2.out)) rfl ?_
    rw [HT.out.1, HT.out.2]
    exact played_own (base := b0 + 2) rfl (rowFar_own E2.out (fun g hg => by have := own_lt E2.out g hg; omega) _) (by rw [HB0.out]; omega) (by rw [HB0.out]; exact below_row B2.out (by omega) _)
  have HV := Lib.hid hv
  clear hv
  go_wp2_with fail
  refine (l1In_any n 0 400 _).mono ?_; rintro e' w' ⟨rfl, rfl⟩
  cases hn : betB n 0 400
  · have HT := Lib.hid (play_no (x := x) (n := n) (by unfold playB; rw [hn]; simp))
    clear hn
    go_wp2_with (first | (refine vo_store (by rfl) _ _ rfl (b0 + 1) rfl .zero rfl (vcs .zero) Y2.out rfl ?_))
    refine bodyPost_ret (voc_ret2 (u := .zero) (v := .slice (some ⟨b0 + 2, 0, none⟩) 0 0) rfl rfl rfl (Box.row Y2.out)) rfl ?_
    rw [HT.out.1, HT.out.2]
    exact played_own (base := b0 + 2) rfl (rowFar_own E2.out (fun g hg => by have := own_lt E2.out g hg; omega) _) (by rw [HB0.out]; omega) (by rw [HB0.out]; exact below_row B2.out (by omega) _)
  have HT := Lib.hid (play_yes (x := x) (n := n) (by unfold playB; rw [HV.out, hn]; rfl))
  obtain ⟨n0, n1⟩ := betB_iff.1 hn
  obtain ⟨m, rfl⟩ := Int.eq_ofNat_of_zero_le n0
  have hm : m ≤ 400 := by omega
  rw [Int.toNat_natCast] at HT
  clear hn n0 n1
  go_wp2_with fail
  go_loopw [6, 7] (fun v i wr => ∃ (k : Nat) (A2 : Option Addr) (d2 : Nat), k ≤ m ∧ v = .slice A2 k d2 ∧ i = .int .i64 k ∧ wr.ownsRow (b0 + 2) 3 1 (.slice A2 k d2) k (iv (smp x k)) ∧ Box wr b0 24 (vcs (adv x k)) ∧ Box wr (b0 + 1) 24 (vcs .zero) ∧ Below b0 w wr) (fun _ i _ => m - (intOf i).toNat)
  case atStart => exact ⟨0, _, _, by omega, rfl, rfl, E2.out, X2.out, Y2.out, B2.out⟩
  case round =>
    obtain ⟨k, A2, d2, hk, rfl, rfl, ho, hx, hy, hb⟩ := hrel
    have OR := Lib.hid ho
    have XR := Lib.hid hx
    have YR := Lib.hid hy
    have BR := Lib.hid hb
    clear ho hx hy hb X2 Y2 E2 B2
    by_cases hkm : k < m
    · have hkm' : (k : Int) < (m : Int) := by omega
      have HVA := Lib.hid (adv_ok HV.out k)
      have HSM := Lib.hid (smp_succ x k)
      have HAD := Lib.hid (adv_succ x k)
      generalize adv x k = y at XR HVA HSM HAD
      go_wp2_with (first | (refine vo_load (by rfl) _ rfl b0 rfl y XR.out ?_))
      refine (spec_level y _).mono ?_; rintro e' w6 ⟨rfl, b6⟩
      generalize lev y = a at HSM ⊢
      have s6 : b0 + 2 ≤ w6.heap.size := by have := YR.out.lt; have := b6.size; omega
      have O6 := Lib.hid (own_keep (own_keep OR.out b6) (below1 w6 (.cells #[.int .i64 a] 3)))
      have I6 : Hid (Ints (w6.alloc (.cells #[.int .i64 a] 3)) (some ⟨w6.heap.size, 0, none⟩) 1 [a] [w6.heap.size]) := Lib.hid (lone_intV w6 a)
      have X6 := Lib.hid ((XR.out.below b6).alloc (.cells #[.int .i64 a] 3))
      have Y6 := Lib.hid ((YR.out.below b6).alloc (.cells #[.int .i64 a] 3))
      have B6 : Hid (Below b0 w (w6.alloc (.cells #[.int .i64 a] 3))) := Lib.hid ((below_via BR.out b6 (by have := YR.out.lt; omega)).alloc (by omega) (.cells #[.int .i64 a] 3))
      have hb1 : b0 + 2 ≤ (w6.alloc (.cells #[.int .i64 a] 3)).heap.size := by simp; omega
      clear b6 XR YR BR OR
      go_upto_region 8 with (at_builtin; refine wpList_append_ints rfl _ _ rfl (b0 + 2) _ k _ rfl O6.out _ _ _ [a] _ rfl I6.out (by omega) hb1 ?_; intro v' w7 own7 gr7 ob7; obtain ⟨A7, d7, _, rfl, _⟩ := own_ints own7; have b7 := below_grown (Below.refl (b0 + 2) _) gr7 hb1 (fun b hb => (own_lt O6.out b hb).1); have X7 := Lib.hid (X6.out.keep b7 (by omega)); have Y7 := Lib.hid (Y6.out.keep b7 (by omega)); have B7 := Lib.hid (B6.out.trans (b7.mono (by omega))); have O7 := Lib.hid own7; have s7 : b0 + 2 ≤ w7.heap.size := (by have := b7.size; omega); clear own7 gr7 b7 X6 Y6 B6 O6 I6 ob7 hb1 s6)
      go_wp2_with (first | (refine vo_load (by rfl) _ rfl b0 rfl y X7.out ?_))
      refine (spec_next y _ HVA.out).mono ?_; rintro e' w8 ⟨rfl, b8⟩
      have X8 := Lib.hid (X7.out.below b8)
      have Y8 := Lib.hid (Y7.out.below b8)
      have O8 := Lib.hid (own_keep O7.out b8)
      have B8 := Lib.hid (below_via B7.out b8 (by omega))
      clear b8 X7 Y7 O7 B7 s7
      generalize nxt y = z at HAD ⊢
      go_wp2_with (first | (refine vo_store (by rfl) _ _ rfl b0 rfl z rfl (vcs y) X8.out rfl ?_))
      go_roundw
      case rel => exact ⟨k + 1, _, _, by omega, rfl, by go_num, by rw [HSM.out]; exact rowFar_own O8.out (fun g hg => by have := own_lt O8.out g hg; omega) _, by rw [HAD.out]; exact Box.row X8.out, Y8.out.rowFar (by omega), below_row B8.out (by omega) _⟩
      case measure => simp [intOf]; omega
    · obtain rfl : k = m := by omega
      generalize hy0 : adv x k = y at XR
      have HY := Lib.hid hy0
      clear hy0
      go_upto_region 9 with (fail)
      refine wp_region_end (by dsimp only [List.dropLast]) rfl (ClB wr) RlB (Ty [TV (.slice A2 k d2), TV (vocV y), TV (.slice A2 k d2)])
        (by kernel_rfl) (by kernel_rfl) (by kernel_rfl) (stab_ty _ ⟨stabB_k _, stabB_k _, stabB_k _, trivial⟩) (Below.refl _ _).drew ?_ ?_
      · refine ⟨?_, ?_, ?_, trivial⟩
        · exact lb_move (.tmp 6) (.inl rfl) (fun _ _ _ => want_none rfl) fun ρ wx hc hx hp => hx 6 rfl
        · refine lb_val (vocV y) (fun _ _ _ => want_none rfl) fun ρ wx hb hc hx hp => ⟨?_, rfl⟩
          exact exec_loadV (.tmp 2) wx b0 y rfl (hx 2 rfl) (XR.out.below hb)
        · exact lb_move (.tmp 31) (.inr rfl) (fun _ _ _ => want_none rfl) fun ρ wx hc hx hp => hp.1 rfl
      intro vs wx hI hF
      obtain ⟨-, h1, h2, -⟩ := hF
      replace h1 : vs 1 = vocV y := h1
      replace h2 : vs 2 = .slice A2 k d2 := h2
      simp only [putAll, Act.put, List.setIfInBounds_toArray, List.set_cons_zero, List.set_cons_succ, h1, h2]
      have Y9 := YR.out.below hI
      refine ⟨_, exec_storeV (.tmp 5) (.tmp 32) wx (b0 + 1) y rfl rfl rfl Y9 rfl, ?_⟩
      have O9 := Lib.hid (rowFar_own (own_keep OR.out hI) (b := b0 + 1) (fun g hg => by have := own_lt OR.out g hg; omega) (vcs y).toArray)
      have Z9 := Lib.hid (Box.row (ds := vcs y) Y9)
      have B9 := Lib.hid (below_row (below_via BR.out hI (by have := YR.out.lt; omega)) (g := b0 + 1) (by omega) (vcs y).toArray)
      generalize wx.setRow (b0 + 1) (vcs y).toArray = w9 at O9 Z9 B9 ⊢
      go_wp2_with fail
      refine bodyPost_ret (voc_ret2 (u := y) (v := .slice A2 k d2) rfl rfl rfl Z9.out) rfl ?_
      rw [HT.out.1, HT.out.2, HY.out]
      exact played_own (base := b0 + 2) (smp_len x k) O9.out (by rw [HB0.out]; omega) (by rw [HB0.out]; exact B9.out)
end Go.Proofs.Ytfbpnneegenhgaa
