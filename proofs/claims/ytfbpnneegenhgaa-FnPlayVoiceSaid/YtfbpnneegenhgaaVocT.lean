/- The model's functions on sound channels: skipping, playing. -/
import Derived.Test.YtfbpnneegenhgaaVocS
import Derived.Test.YtfbpnneegenhgaaGC
import Derived.Test.YtfbpnneegenhgaaFldG
namespace Go.Proofs.Ytfbpnneegenhgaa
open Go.ChangeShapes Go.WideShapes Go.ChangeAt Go.RowKit
set_option linter.unusedVariables false

theorem wrapV (x : Int) (h0 : -1000000 ≤ x) (h1 : x ≤ 1000000) : IntKind.i64.wrap x = x := by
  simp [IntKind.wrap, IntKind.bits, IntKind.signed]
  omega
theorem below_via {b3 : Nat} {w w1 w2 : World} (h : Below b3 w w1) (k : Below w1.heap.size w1 w2) (hs : b3 ≤ w1.heap.size) : Below b3 w w2 := h.trans (k.mono hs)
theorem rowFar_own {w : World} {base : Nat} {e : TypeId} {s : Nat} {v : Value} {n : Nat} {xs : List Value} (h : w.ownsRow base e s v n xs) {b : Nat} (hb : ∀ g, v.ownBlock = some g → g ≠ b) (cs : Array Value) : (w.setRow b cs).ownsRow base e s v n xs := by
  rcases h with ⟨hl, h | ⟨g, cap, cur, rfl, hg, hh, hr⟩⟩
  · exact ⟨hl, .inl h⟩
  · exact ⟨hl, .inr ⟨g, cap, cur, rfl, hg, (setRow_other w b g cs (hb g rfl)).trans hh, hr⟩⟩
theorem exec_storeI {ρ : Operand → Value} {o : Oper} (x y : Operand) (w : World) (b i : Nat) (a c : Int) {t : TypeId} {cs : List Value} (ho : o.op = .store 3 x y) (hx : ρ x = .pointer (some ⟨b, i, none⟩)) (hy : ρ y = .int .i64 a) (hb : Box w b t cs) (hc : cs[i]? = some (.int .i64 c)) :
    (execOp ρ o).run Try.prog w = .ok .skip (w.setCell ⟨b, i, none⟩ (.int .i64 a)) := by
  have h1 : w.cell? ⟨b, i, none⟩ = some (.int .i64 c) := (hb.cell i).trans hc
  have h2 := hb.frozen i
  unfold execOp
  simp only [ho, hx, hy]
  clear ho hx hy hc hb
  go_simp
theorem exec_storeV {ρ : Operand → Value} {o : Oper} (x y : Operand) (w : World) (b : Nat) {t : TypeId} {cs : List Value} (u : Voc) (ho : o.op = .store 24 x y) (hx : ρ x = .pointer (some ⟨b, 0, none⟩)) (hy : ρ y = vocV u) (hb : Box w b t cs) (hc : cs.length = 5) :
    (execOp ρ o).run Try.prog w = .ok .skip (w.setRow b (vcs u).toArray) := by
  have hs : (storeVar 24 ⟨b, 0, none⟩ (vocV u)).run Try.prog w = .ok () (w.setRow b (vcs u).toArray) := run_storeVar_row (P := Try.prog) w b t 24 cs.toArray (vcs u).toArray hb voc_info (by simpa using hc) (by simp [Value.oneCell'])
  unfold execOp
  simp only [ho, hx, hy, Instr.storeAt, Instr.sureAddr, Sem.run_bind, Sem.run_pure, Result.andThen_ok, hs]
theorem voc_ret2 {fn : Func} {q p : Tmp} {tmps : Array Value} {w : World} {b : Nat} {t : TypeId} {u : Voc} {v : Value} (hr : fn.results = #[.tmp q, .cell p 24]) (hq : tmps.getD q undef = v) (hp : tmps.getD p undef = .pointer (some ⟨b, 0, none⟩)) (hb : Box w b t (vcs u)) : (results fn tmps).run Try.prog w = .ok (.tuple #[v, vocV u]) w := by
  have hp' : tmps[p]?.getD undef = .pointer (some ⟨b, 0, none⟩) := by simpa using hp
  have hq' : tmps[q]?.getD undef = v := by simpa using hq
  simp [results, hr, hp', hq', asAddr, run_loadVar_row w b t 24 (vcs u).toArray (0, 0) _ hb Try.underlying24 rfl voc_info]
theorem skipT_no {x : Voc} {n : Int} (h : (vocB x && betB n 0 100000) = false) : skipT x n = .zero := if_neg (by rw [h]; simp)
theorem skipT_yes {x : Voc} {n : Int} (h1 : vocB x = true) (h2 : betB n 0 100000 = true) : skipT x n = skipF x n := if_pos (by rw [h1, h2]; rfl)
set_option maxHeartbeats 4000000 in
theorem spec_skip (x : Voc) (n : Int) (w : World) : Calls Try.prog 24 #[vocV x, .int .i64 n] w fun e w' => e = .returned (vocV (skipT x n)) ∧ Below w.heap.size w w' := by
  obtain ⟨l, h, v, s, e⟩ := x
  obtain ⟨w1, hw1⟩ : ∃ w1, w1 = (w.alloc (.cells #[.int .i64 l, .int .i64 h, .int .i64 v, .int .i64 s, .int .i64 e] 24)).alloc (.cells #[.int .i64 0, .int .i64 0, .int .i64 0, .int .i64 0, .int .i64 0] 24) := ⟨_, rfl⟩
  have X1 : Hid (Box w1 w.heap.size 24 (vcs ⟨l, h, v, s, e⟩)) := Lib.hid (by rw [hw1]; exact (Box.new w _ _).alloc _)
  have Y1 : Hid (Box w1 (w.heap.size + 1) 24 (vcs .zero)) := Lib.hid (by rw [hw1]; exact Box.new_at _ _ _ _ (by simp))
  have B1 : Hid (Below w.heap.size w w1) := Lib.hid (by rw [hw1]; exact below2 w _ _)
  have hs1 : w1.heap.size = w.heap.size + 2 := by rw [hw1]; simp
  show Calls Try.prog 24 #[.agg #[.int .i64 l, .int .i64 h, .int .i64 v, .int .i64 s, .int .i64 e], .int .i64 n] w _
  go_enter Try.func24, Try.ntmps24
  go_upto_region 1 with (fail)
  rw [← hw1]
  clear hw1
  generalize hb0 : w.heap.size = b0 at X1 Y1 B1 hs1 ⊢
  have HB0 := Lib.hid hb0
  clear hb0
  go_wp2_with (first | (refine vo_load (by rfl) _ rfl b0 rfl ⟨l, h, v, s, e⟩ X1.out ?_))
  refine (spec_voiceValid ⟨l, h, v, s, e⟩ _).mono ?_; rintro e' w2 ⟨rfl, b1⟩
  have X2 := Lib.hid (X1.out.below b1)
  have Y2 := Lib.hid (Y1.out.below b1)
  have B2 := Lib.hid (below_via B1.out b1 (by omega))
  clear b1 X1 Y1 B1 hs1
  cases hv : vocB ⟨l, h, v, s, e⟩
  · have HT : Hid (skipT ⟨l, h, v, s, e⟩ n = .zero) := Lib.hid (skipT_no (by rw [hv]; rfl))
    clear hv
    go_wp2_with (first | (refine vo_store (by rfl) _ _ rfl (b0 + 1) rfl .zero rfl (vcs .zero) Y2.out rfl ?_))
    exact bodyPost_ret (voc_ret (u := .zero) rfl rfl (Box.row Y2.out)) rfl ⟨by rw [HT.out], by rw [HB0.out]; exact below_row B2.out (by omega) _⟩
  have HV := Lib.hid hv
  clear hv
  go_wp2_with fail
  refine (l1In_any n 0 100000 _).mono ?_; rintro e' w' ⟨rfl, rfl⟩
  cases hn : betB n 0 100000
  · have HT : Hid (skipT ⟨l, h, v, s, e⟩ n = .zero) := Lib.hid (skipT_no (by rw [hn]; simp))
    clear hn
    go_wp2_with (first | (refine vo_store (by rfl) _ _ rfl (b0 + 1) rfl .zero rfl (vcs .zero) Y2.out rfl ?_))
    exact bodyPost_ret (voc_ret (u := .zero) rfl rfl (Box.row Y2.out)) rfl ⟨by rw [HT.out], by rw [HB0.out]; exact below_row B2.out (by omega) _⟩
  have HT := Lib.hid (skipT_yes HV.out hn)
  obtain ⟨n0, n1⟩ := betB_iff.1 hn
  obtain ⟨⟨l0, l1⟩, -, -, ⟨s0, s1⟩, e0, e1⟩ := vocB_iff.1 HV.out
  simp only at l0 l1 s0 s1 e0 e1
  clear hn
  by_cases hlt : n < e
  · have HT2 : Hid (skipT ⟨l, h, v, s, e⟩ n = ⟨l, h, v, s, e - n⟩) := Lib.hid (HT.out.trans (if_pos hlt))
    clear HT
    have x4 : w2.cell? ⟨b0, 4, none⟩ = some (.int .i64 e) := X2.out.cell 4
    have f4 := X2.out.frozen 4
    have X4 := Lib.hid (X2.out.set 4 (.int .i64 (e - n)))
    have Y4 := Lib.hid (Y2.out.far (b' := b0) (i := 4) (by omega) (.int .i64 (e - n)))
    have B4 := Lib.hid (B2.out.setCell (p := ⟨b0, 4, none⟩) (Nat.le_refl _) (.int .i64 (e - n)))
    go_upto_region 5 with (fail)
    go_wp2_with (first | (refine vo_load (by rfl) _ rfl b0 rfl ⟨l, h, v, s, e - n⟩ X4.out ?_) | (refine vo_store (by rfl) _ _ rfl (b0 + 1) rfl ⟨l, h, v, s, e - n⟩ rfl (vcs .zero) Y4.out rfl ?_))
    exact bodyPost_ret (voc_ret (u := ⟨l, h, v, s, e - n⟩) rfl rfl (Box.row Y4.out)) rfl ⟨by rw [HT2.out], by rw [HB0.out]; exact below_row B4.out (by omega) _⟩
  · have hge : e ≤ n := by omega
    have HT2 : Hid (skipT ⟨l, h, v, s, e⟩ n = ⟨l, h, v, (s + 1 + (n - e) / l) % 8, l - (n - e) % l⟩) := Lib.hid (HT.out.trans (if_neg hlt))
    clear HT
    have x4 : w2.cell? ⟨b0, 4, none⟩ = some (.int .i64 e) := X2.out.cell 4
    go_upto_region 7 with (fail)
    clear x4
    obtain ⟨rest, hr⟩ : ∃ rest, n - e = rest := ⟨_, rfl⟩
    rw [hr] at HT2 ⊢
    have r0 : 0 ≤ rest := by omega
    have r1 : rest ≤ 100000 := by omega
    have HD0 : rest.tdiv l = rest / l := Int.tdiv_eq_ediv_of_nonneg r0
    have HE0 : rest.tmod l = rest % l := Int.tmod_eq_emod_of_nonneg r0
    have d1 : 0 ≤ rest / l := Int.ediv_nonneg r0 (by omega)
    have d2 : rest / l ≤ rest := Int.ediv_le_self _ r0
    have d3 : 0 ≤ rest % l := Int.emod_nonneg _ (by omega)
    have d4 : rest % l < l := Int.emod_lt_of_pos _ (by omega)
    generalize rest / l = R at HT2 HD0 d1 d2
    generalize rest % l = M at HT2 HE0 d3 d4
    have HD := Lib.hid HD0
    have HE := Lib.hid HE0
    have HS := Lib.hid (show 0 ≤ s ∧ s ≤ 7 from ⟨s0, s1⟩)
    have HL := Lib.hid (show 1 ≤ l ∧ l ≤ 100 from ⟨l0, l1⟩)
    have HR := Lib.hid (show 0 ≤ R ∧ R ≤ 100000 from ⟨d1, by omega⟩)
    have HM := Lib.hid (show 0 ≤ M ∧ M < 100 from ⟨d3, by omega⟩)
    have HT := HT2
    clear HT2 HD0 HE0 d1 d2 d3 d4 hr r0 r1 hge hlt n0 n1 l0 l1 s0 s1 e0 e1
    refine wp_region_end (by dsimp only [List.dropLast]) rfl (ClB w2) RlB (Ty [TV (.pointer (some ⟨b0, 3, none⟩)), TV (.int .i64 s), TV (.int .i64 (s + 1)), TV (.int .i64 rest), TV (.pointer (some ⟨b0, 0, none⟩)), TV (.int .i64 l), TV (.int .i64 R), TV (.int .i64 (s + 1 + R)), TV (.int .i64 ((s + 1 + R) % 8)), TV (.pointer (some ⟨b0, 3, none⟩))])
      (by kernel_rfl) (by kernel_rfl) (by kernel_rfl) (stab_ty _ ⟨stabB_k _, stabB_k _, stabB_k _, stabB_k _, stabB_k _, stabB_k _, stabB_k _, stabB_k _, stabB_k _, stabB_k _, trivial⟩) (Below.refl _ _).drew ?_ ?_
    · refine ⟨?_, ?_, ?_, ?_, ?_, ?_, ?_, ?_, ?_, ?_, trivial⟩
      · refine lb_val (.pointer (some ⟨b0, 3, none⟩)) (fun _ _ _ => want_none rfl) fun ρ wx hb hc hx hp => ⟨?_, rfl⟩
        have h2 : ρ (.tmp 2) = .pointer (some ⟨b0, 0, none⟩) := hx 2 rfl
        unfold execOp
        simp only [h2]
        clear h2 hx hp hc hb
        go_simp
      · refine lb_val (.int .i64 s) (fun _ _ _ => want_none rfl) fun ρ wx hb hc hx hp => ⟨?_, rfl⟩
        have h29 : ρ (.tmp 29) = .pointer (some ⟨b0, 3, none⟩) := hp.1 rfl
        have cc : wx.cell? ⟨b0, 3, none⟩ = some (.int .i64 s) := (X2.out.below hb).cell 3
        unfold execOp
        simp only [h29]
        clear h29 hx hp hc hb
        go_simp
      · refine lb_val (.int .i64 (s + 1)) (fun _ _ _ => want_none rfl) fun ρ wx hb hc hx hp => ⟨?_, rfl⟩
        have h30 : ρ (.tmp 30) = .int .i64 s := hp.1 rfl
        have hk0 := hc (.int .i64 1)
        have g1 := wrapV (s + 1) (by have := HS.out; omega) (by have := HS.out; omega)
        unfold execOp
        simp only [h30, hk0]
        clear h30 hk0 hx hp hc hb
        go_simp
      · exact lb_move (.tmp 5) (.inl rfl) (fun _ _ _ => want_none rfl) fun ρ wx hc hx hp => hx 5 rfl
      · refine lb_val (.pointer (some ⟨b0, 0, none⟩)) (fun _ _ _ => want_none rfl) fun ρ wx hb hc hx hp => ⟨?_, rfl⟩
        have h2 : ρ (.tmp 2) = .pointer (some ⟨b0, 0, none⟩) := hx 2 rfl
        unfold execOp
        simp only [h2]
        clear h2 hx hp hc hb
        go_simp
      · refine lb_val (.int .i64 l) (fun _ _ _ => want_none rfl) fun ρ wx hb hc hx hp => ⟨?_, rfl⟩
        have h33 : ρ (.tmp 33) = .pointer (some ⟨b0, 0, none⟩) := hp.1 rfl
        have cc : wx.cell? ⟨b0, 0, none⟩ = some (.int .i64 l) := (X2.out.below hb).cell 0
        unfold execOp
        simp only [h33]
        clear h33 hx hp hc hb
        go_simp
      · refine lb_val (.int .i64 R) (fun _ _ _ => want_none rfl) fun ρ wx hb hc hx hp => ⟨?_, rfl⟩
        have h32 : ρ (.tmp 32) = .int .i64 rest := hp.1 rfl
        have h34 : ρ (.tmp 34) = .int .i64 l := hp.2.1 rfl
        obtain ⟨g1, k1⟩ := HL.out
        obtain ⟨g2, k2⟩ := HR.out
        have g3 := HD.out
        have g5 := wrapV R (by omega) (by omega)
        have g4 : l ≠ 0 := by omega
        unfold execOp
        simp only [h32, h34]
        clear h32 h34 hx hp hc hb
        go_simp
      · refine lb_val (.int .i64 (s + 1 + R)) (fun _ _ _ => want_none rfl) fun ρ wx hb hc hx hp => ⟨?_, rfl⟩
        have h31 : ρ (.tmp 31) = .int .i64 (s + 1) := hp.1 rfl
        have h35 : ρ (.tmp 35) = .int .i64 R := hp.2.1 rfl
        have g1 := wrapV (s + 1 + R) (by have := HS.out; have := HR.out; omega) (by have := HS.out; have := HR.out; omega)
        unfold execOp
        simp only [h31, h35]
        clear h31 h35 hx hp hc hb
        go_simp
      · refine lb_val (.int .i64 ((s + 1 + R) % 8)) (fun _ _ _ => want_none rfl) fun ρ wx hb hc hx hp => ⟨?_, rfl⟩
        have h36 : ρ (.tmp 36) = .int .i64 (s + 1 + R) := hp.1 rfl
        have hk0 := hc (.int .i64 8)
        have g1 : (s + 1 + R).tmod 8 = (s + 1 + R) % 8 := Int.tmod_eq_emod_of_nonneg (by have := HS.out; have := HR.out; omega)
        have g2 := wrapV ((s + 1 + R) % 8) (by omega) (by omega)
        unfold execOp
        simp only [h36, hk0]
        clear h36 hk0 hx hp hc hb
        go_simp
      · refine lb_val (.pointer (some ⟨b0, 3, none⟩)) (fun _ _ _ => want_none rfl) fun ρ wx hb hc hx hp => ⟨?_, rfl⟩
        have h2 : ρ (.tmp 2) = .pointer (some ⟨b0, 0, none⟩) := hx 2 rfl
        unfold execOp
        simp only [h2]
        clear h2 hx hp hc hb
        go_simp
    intro vs wx hI hF
    obtain ⟨-, -, -, -, -, -, -, -, h8, h9, -⟩ := hF
    replace h8 : vs 8 = .int .i64 ((s + 1 + R) % 8) := h8
    replace h9 : vs 9 = .pointer (some ⟨b0, 3, none⟩) := h9
    simp only [putAll, Act.put, List.setIfInBounds_toArray, List.set_cons_zero, List.set_cons_succ, h8, h9]
    have X2x := X2.out.below hI
    refine ⟨_, exec_storeI (.tmp 38) (.tmp 37) wx b0 3 ((s + 1 + R) % 8) s rfl rfl rfl X2x rfl, ?_⟩
    obtain ⟨w3, hw3⟩ : ∃ w3, w3 = wx.setCell ⟨b0, 3, none⟩ (.int .i64 ((s + 1 + R) % 8)) := ⟨_, rfl⟩
    have X3 : Hid (Box w3 b0 24 (vcs ⟨l, h, v, (s + 1 + R) % 8, e⟩)) := Lib.hid (by rw [hw3]; exact X2x.set 3 _)
    have Y3 : Hid (Box w3 (b0 + 1) 24 (vcs .zero)) := Lib.hid (by rw [hw3]; exact (Y2.out.below hI).far (by omega) _)
    have B3 : Hid (Below b0 w w3) := Lib.hid (by rw [hw3]; exact (below_via B2.out hI (by have := X2.out.lt; omega)).setCell (p := ⟨b0, 3, none⟩) (Nat.le_refl _) _)
    rw [← hw3]
    clear hw3 X2x hI h8 h9 X2 Y2 B2
    go_upto_region 8 with (fail)
    refine wp_region_end (by dsimp only [List.dropLast]) rfl (ClB w3) RlB (Ty [TV (.pointer (some ⟨b0, 0, none⟩)), TV (.int .i64 l), TV (.int .i64 rest), TV (.pointer (some ⟨b0, 0, none⟩)), TV (.int .i64 l), TV (.int .i64 M), TV (.int .i64 (l - M)), TV (.pointer (some ⟨b0, 4, none⟩))])
      (by kernel_rfl) (by kernel_rfl) (by kernel_rfl) (stab_ty _ ⟨stabB_k _, stabB_k _, stabB_k _, stabB_k _, stabB_k _, stabB_k _, stabB_k _, stabB_k _, trivial⟩) (Below.refl _ _).drew ?_ ?_
    · refine ⟨?_, ?_, ?_, ?_, ?_, ?_, ?_, ?_, trivial⟩
      · refine lb_val (.pointer (some ⟨b0, 0, none⟩)) (fun _ _ _ => want_none rfl) fun ρ wx hb hc hx hp => ⟨?_, rfl⟩
        have h2 : ρ (.tmp 2) = .pointer (some ⟨b0, 0, none⟩) := hx 2 rfl
        unfold execOp
        simp only [h2]
        clear h2 hx hp hc hb
        go_simp
      · refine lb_val (.int .i64 l) (fun _ _ _ => want_none rfl) fun ρ wx hb hc hx hp => ⟨?_, rfl⟩
        have h39 : ρ (.tmp 39) = .pointer (some ⟨b0, 0, none⟩) := hp.1 rfl
        have cc : wx.cell? ⟨b0, 0, none⟩ = some (.int .i64 l) := (X3.out.below hb).cell 0
        unfold execOp
        simp only [h39]
        clear h39 hx hp hc hb
        go_simp
      · exact lb_move (.tmp 5) (.inl rfl) (fun _ _ _ => want_none rfl) fun ρ wx hc hx hp => hx 5 rfl
      · refine lb_val (.pointer (some ⟨b0, 0, none⟩)) (fun _ _ _ => want_none rfl) fun ρ wx hb hc hx hp => ⟨?_, rfl⟩
        have h2 : ρ (.tmp 2) = .pointer (some ⟨b0, 0, none⟩) := hx 2 rfl
        unfold execOp
        simp only [h2]
        clear h2 hx hp hc hb
        go_simp
      · refine lb_val (.int .i64 l) (fun _ _ _ => want_none rfl) fun ρ wx hb hc hx hp => ⟨?_, rfl⟩
        have h42 : ρ (.tmp 42) = .pointer (some ⟨b0, 0, none⟩) := hp.1 rfl
        have cc : wx.cell? ⟨b0, 0, none⟩ = some (.int .i64 l) := (X3.out.below hb).cell 0
        unfold execOp
        simp only [h42]
        clear h42 hx hp hc hb
        go_simp
      · refine lb_val (.int .i64 M) (fun _ _ _ => want_none rfl) fun ρ wx hb hc hx hp => ⟨?_, rfl⟩
        have h41 : ρ (.tmp 41) = .int .i64 rest := hp.1 rfl
        have h43 : ρ (.tmp 43) = .int .i64 l := hp.2.1 rfl
        obtain ⟨g1, k1⟩ := HL.out
        obtain ⟨g2, k2⟩ := HM.out
        have g5 := wrapV M (by omega) (by omega)
        have g3 := HE.out
        have g4 : l ≠ 0 := by omega
        unfold execOp
        simp only [h41, h43]
        clear h41 h43 hx hp hc hb
        go_simp
      · refine lb_val (.int .i64 (l - M)) (fun _ _ _ => want_none rfl) fun ρ wx hb hc hx hp => ⟨?_, rfl⟩
        have h40 : ρ (.tmp 40) = .int .i64 l := hp.1 rfl
        have h44 : ρ (.tmp 44) = .int .i64 M := hp.2.1 rfl
        have g1 := wrapV (l - M) (by have := HL.out; have := HM.out; omega) (by have := HL.out; have := HM.out; omega)
        unfold execOp
        simp only [h40, h44]
        clear h40 h44 hx hp hc hb
        go_simp
      · refine lb_val (.pointer (some ⟨b0, 4, none⟩)) (fun _ _ _ => want_none rfl) fun ρ wx hb hc hx hp => ⟨?_, rfl⟩
        have h2 : ρ (.tmp 2) = .pointer (some ⟨b0, 0, none⟩) := hx 2 rfl
        unfold execOp
        simp only [h2]
        clear h2 hx hp hc hb
        go_simp
    intro vs wx hI hF
    obtain ⟨-, -, -, -, -, -, h6, h7, -⟩ := hF
    replace h6 : vs 6 = .int .i64 (l - M) := h6
    replace h7 : vs 7 = .pointer (some ⟨b0, 4, none⟩) := h7
    simp only [putAll, Act.put, List.setIfInBounds_toArray, List.set_cons_zero, List.set_cons_succ, h6, h7]
    have X3x := X3.out.below hI
    refine ⟨_, exec_storeI (.tmp 46) (.tmp 45) wx b0 4 (l - M) e rfl rfl rfl X3x rfl, ?_⟩
    obtain ⟨w4, hw4⟩ : ∃ w4, w4 = wx.setCell ⟨b0, 4, none⟩ (.int .i64 (l - M)) := ⟨_, rfl⟩
    have X4 : Hid (Box w4 b0 24 (vcs ⟨l, h, v, (s + 1 + R) % 8, l - M⟩)) := Lib.hid (by rw [hw4]; exact X3x.set 4 _)
    have Y4 : Hid (Box w4 (b0 + 1) 24 (vcs .zero)) := Lib.hid (by rw [hw4]; exact (Y3.out.below hI).far (by omega) _)
    have B4 : Hid (Below b0 w w4) := Lib.hid (by rw [hw4]; exact (below_via B3.out hI (by have := X3.out.lt; omega)).setCell (p := ⟨b0, 4, none⟩) (Nat.le_refl _) _)
    rw [← hw4]
    clear hw4 X3x hI h6 h7 X3 Y3 B3
    go_wp2_with (first | (refine vo_load (by rfl) _ rfl b0 rfl ⟨l, h, v, (s + 1 + R) % 8, l - M⟩ X4.out ?_) | (refine vo_store (by rfl) _ _ rfl (b0 + 1) rfl ⟨l, h, v, (s + 1 + R) % 8, l - M⟩ rfl (vcs .zero) Y4.out rfl ?_))
    exact bodyPost_ret (voc_ret (u := ⟨l, h, v, (s + 1 + R) % 8, l - M⟩) rfl rfl (Box.row Y4.out)) rfl ⟨by rw [HT.out], by rw [HB0.out]; exact below_row B4.out (by omega) _⟩
end Go.Proofs.Ytfbpnneegenhgaa
