/- The exact laws of chapter 13, walked. -/
import Derived.Test.YtddllcgbdgpkbaaBmV
import Derived.Test.YtddllcgbdgpkbaaBmJ
import Derived.Test.YtddllcgbdgpkbaaBmW
import Derived.Test.YtddllcgbdgpkbaaFldS
import Derived.Test.YtddllcgbdgpkbaaTypedF
import Derived.Test.YtddllcgbdgpkbaaBmI
namespace Go.Proofs.Ytddllcgbdgpkbaa
open Go.ChangeShapes Go.WideShapes Go.ChangeAt Go.RowKit
set_option linter.unusedVariables false

theorem fld_infoL : (Try.prog.info? 50).map (·.size) = some 5 := by kernel_rfl
section
variable {ops : Array Oper} {rest : List Oper} {o : Oper} {a : Act} {w : World} {Q : Exit → Act → World → Prop} {W : Int} {A : Option Addr} {n c : Nat} {T : Option Addr} {m d : Nat} {sx sy : Int}
theorem fsL_load {t : TypeId} (hw : Region.wanted o (yielded ops a.tmps) = true) (x : Operand) (ho : o.op = .load 50 x) (b : Nat) (hx : a.eval x = .pointer (some ⟨b, 0, none⟩)) (hb : Box w b t (fcs W A n c T m d sx sy))
    (h : wpList Try.prog ops Q rest (a.put o.dst (fldV W A n c T m d sx sy)) w) : wpList Try.prog ops Q (o :: rest) a w :=
  wpList_step fun K hK => by
    rw [if_pos hw]
    exact wp_load_row _ x ho b hx t (fcs W A n c T m d sx sy).toArray (0, 0) _ hb Try.underlying50 rfl fld_infoL (hK _ _ h)
end
section
variable {ops : Array Oper} {Q : Exit → Act → World → Prop} {T : Nat → Value → World → Prop} {a0 : Act} {w0 : World} {i : Nat} {o : Oper}
theorem lb_fldL (x : Operand) (b : Nat) {t : TypeId} {W : Int} {A : Option Addr} {n c : Nat} {Tt : Option Addr} {m d : Nat} {sx sy : Int} (hop : o.op = .load 50 x) (hb : Box w0 b t (fcs W A n c Tt m d sx sy)) (hw : ∀ (ρ : Operand → Value) w, PreR ops T ρ w o.after.toList → wantV ops (slotR ρ) o = true)
    (h : ∀ (ρ : Operand → Value) w, (∀ n, (ops.toList.all fun o => o.dst != some n) = true → ρ (.tmp n) = a0.eval (.tmp n)) → PreR ops T ρ w o.after.toList → ρ x = .pointer (some ⟨b, 0, none⟩) ∧ T i (dstV o (fldV W A n c Tt m d sx sy)) w) : Ob Try.prog ops Q (ClB w0) RlB T a0 i o :=
  lb_val (fldV W A n c Tt m d sx sy) hw fun ρ w hbl _ hx hp => by
    obtain ⟨h1, h2⟩ := h ρ w hx hp
    refine ⟨?_, h2⟩
    have hl := run_loadVar_row (P := Try.prog) w b t 50 (fcs W A n c Tt m d sx sy).toArray (0, 0) _ (hb.below hbl) Try.underlying50 rfl fld_infoL
    unfold execOp
    simp only [hop, h1, Instr.loadAt, Instr.sureAddr, Sem.run_bind, Sem.run_pure, Result.andThen_ok, hl]
end
theorem bmT_le (F : Fld) (L : List Int) (n : Nat) (y : Int) : (bmT F L n y).length ≤ 32 := by
  unfold bmT
  split
  · rw [bmL_len]; omega
  · simp
theorem ptK_le (L : List Int) (n : Nat) (x y : Int) : ∀ k, (ptK L n x y k).1.length ≤ k
  | 0 => Nat.le_refl _
  | k + 1 => by
    have ih := ptK_le L n x y k
    rw [ptK]
    split
    · omega
    · show (if _ then _ else _ : List Int).length ≤ k + 1
      split
      · rw [List.length_append]; simp; omega
      · omega
theorem ptT_le (L : List Int) (n : Nat) (x y : Int) : (ptT L n x y).length ≤ n := by
  unfold ptT
  split
  · exact ptK_le L n x y n
  · simp
set_option maxRecDepth 100000 in
set_option maxHeartbeats 4000000 in
theorem walk_FnExactChangesValid (Al : Option Addr) (n c' : Nat) (L : List Int) (w : World) (hin : InChgs w Al n L) : Calls Try.prog 7 #[.slice Al n c'] w fun e w' => e = .returned (.bool true) ∧ Below w.heap.size w w' := by
  obtain ⟨hn, fl, hL⟩ := hin
  have HLR : Hid (∀ W, Below w.heap.size w W → Ints W Al (3 * n) L fl) := Lib.hid fun W h => hL.below h
  clear hL
  go_enter Try.func7, Try.ntmps7
  go_wp2_with fail
  by_cases hsz : (n : Int) ≤ 1048576
  · refine (sz_chgs_yes Al n c' 1048576 _ hsz (by omega)).mono ?_; rintro e w' ⟨rfl, rfl⟩
    have hl0 : 0 ≤ 1048576 - (n : Int) := by omega
    obtain ⟨lf, hlf⟩ : ∃ lf, 1048576 - (n : Int) = lf := ⟨_, rfl⟩
    rw [hlf] at hl0 ⊢
    have hn9 : n ≤ 1000000000 := by omega
    have hn2 : n ≤ 1048576 := by omega
    clear hlf hsz hn
    have BB0 := Lib.hid (Below.refl w.heap.size w)
    go_wp2_with fail
    refine (to_chgs Al n c' L fl _ (HLR.out _ BB0.out) hn9).mono ?_; rintro e w1 ⟨Au, cu, fu, rfl, hcu, hsu, hnu, bl⟩
    have Ru := Lib.hid (fun b (hb : b ∈ fu) => hnu.lt b hb)
    have BB1 := Lib.hid (below_then BB0.out bl)
    have HZ0 := Lib.hid (bl.size)
    clear BB0 bl
    have Su1 := Lib.hid (hsu)
    clear hsu hnu hcu
    go_wp2_with fail
    refine (spec_chgValid Au n cu L fu _ Su1.out hn9).mono ?_; rintro e w2 ⟨rfl, bl⟩
    have BB2 := Lib.hid (below_then BB1.out bl)
    have HZ1 := Lib.hid (bl.size)
    clear BB1 bl
    obtain ⟨V, hV⟩ : ∃ V, chgB L n = V := ⟨_, rfl⟩
    have HV := Lib.hid hV
    rw [hV]
    clear hV
    go_wp2_with fail
    refine (to_chgs Al n c' L fl _ (HLR.out _ BB2.out) hn9).mono ?_; rintro e w3 ⟨At, ct, ft, rfl, hct, hst, hnt, bl⟩
    have Rt := Lib.hid (fun b (hb : b ∈ ft) => hnt.lt b hb)
    have BB3 := Lib.hid (below_then BB2.out bl)
    have HZ2 := Lib.hid (bl.size)
    clear BB2 bl
    have St3 := Lib.hid (hst)
    clear hst hnt hct
    go_wp2_with fail
    refine (im_chgValid At n ct L ft _ St3.out hn9).mono ?_; rintro e w4 ⟨rfl, bl⟩
    have BB4 := Lib.hid (below_then BB3.out bl)
    have St4 := Lib.hid (St3.out.below bl)
    have HZ3 := Lib.hid (bl.size)
    clear BB3 St3 bl
    rw [HV.out]
    clear HV
    cases V
    all_goals
      go_wp2_with fail
      refine (to_chgs Al n c' L fl _ (HLR.out _ BB4.out) hn9).mono ?_; rintro e w5 ⟨Ap, cp, fp, rfl, hcp, hsp, hnp, bl⟩
      have Rp := Lib.hid (fun b (hb : b ∈ fp) => hnp.lt b hb)
      have BB5 := Lib.hid (below_then BB4.out bl)
      have St5 := Lib.hid (St4.out.below bl)
      have HZ4 := Lib.hid (bl.size)
      clear BB4 St4 bl
      have Sp5 := Lib.hid (hsp)
      clear hsp hnp hcp
      go_wp2_with fail
      refine (eq_chgs At Ap n ct cp L ft fp _ St5.out Sp5.out hn9).mono ?_; rintro e w6 ⟨rfl, bl⟩
      have BB6 := Lib.hid (below_then BB5.out bl)
      have St6 := Lib.hid (St5.out.below bl)
      have Sp6 := Lib.hid (Sp5.out.below bl)
      have HZ5 := Lib.hid (bl.size)
      clear BB5 St5 Sp5 bl
      go_wp2_with fail
      go_ret
      exact ⟨rfl, BB6.out⟩
  · refine (sz_chgs_no Al n c' 1048576 _ (by omega) (by omega) hn).mono ?_; rintro e w' ⟨rfl, rfl⟩
    go_wp2_with fail
    go_ret
    exact ⟨rfl, Below.refl _ _⟩
set_option maxRecDepth 100000 in
set_option maxHeartbeats 4000000 in
theorem walk_FnExactBeamParts (x y : Int) (Al : Option Addr) (n c' : Nat) (L : List Int) (w : World) (hin : InChgs w Al n L) : Calls Try.prog 9 #[.int .i64 x, .int .i64 y, .slice Al n c'] w fun e w' => e = .returned (.bool true) ∧ Below w.heap.size w w' := by
  obtain ⟨hn, fl, hL⟩ := hin
  have HLR : Hid (∀ W, Below w.heap.size w W → Ints W Al (3 * n) L fl) := Lib.hid fun W h => hL.below h
  clear hL
  go_enter Try.func9, Try.ntmps9
  go_wp2_with fail
  by_cases hsz : (n : Int) ≤ 1048576
  · refine (sz_chgs_yes Al n c' 1048576 _ hsz (by omega)).mono ?_; rintro e w' ⟨rfl, rfl⟩
    have hl0 : 0 ≤ 1048576 - (n : Int) := by omega
    obtain ⟨lf, hlf⟩ : ∃ lf, 1048576 - (n : Int) = lf := ⟨_, rfl⟩
    rw [hlf] at hl0 ⊢
    have hn9 : n ≤ 1000000000 := by omega
    have hn2 : n ≤ 1048576 := by omega
    clear hlf hsz hn
    have BB0 := Lib.hid (Below.refl w.heap.size w)
    obtain ⟨q, hq⟩ : ∃ q, (ptT L n x y).length = q := ⟨_, rfl⟩
    have q4 : q ≤ n := by rw [← hq]; exact ptT_le L n x y
    have HN := Lib.hid hq
    clear hq
    obtain ⟨X, hX⟩ : ∃ X, ptT L n x y = X := ⟨_, rfl⟩
    have HX := Lib.hid hX
    clear hX
    go_wp2_with fail
    refine (to_chgs Al n c' L fl _ (HLR.out _ BB0.out) hn9).mono ?_; rintro e w1 ⟨Au, cu, fu, rfl, hcu, hsu, hnu, bl⟩
    have Ru := Lib.hid (fun b (hb : b ∈ fu) => hnu.lt b hb)
    have BB1 := Lib.hid (below_then BB0.out bl)
    have HZ0 := Lib.hid (bl.size)
    clear BB0 bl
    have Su1 := Lib.hid (hsu)
    clear hsu hnu hcu
    go_wp2_with fail
    refine (spec_bmParts Au n cu L fu x y _ Su1.out hn9).mono ?_; rw [HN.out, HX.out]; rintro e w2 ⟨Aw, cw, fw, rfl, hcw, hsw, hnw, bl⟩
    have Rw := Lib.hid (fun b (hb : b ∈ fw) => hnw.lt b hb)
    have BB2 := Lib.hid (below_then BB1.out bl)
    have Su2 := Lib.hid (Su1.out.below bl)
    have HZ1 := Lib.hid (bl.size)
    clear BB1 Su1 bl
    have Iw2 := Lib.hid (hsw)
    clear hsw hnw hcw
    go_wp2_with fail
    refine (to_chgs Al n c' L fl _ (HLR.out _ BB2.out) hn9).mono ?_; rintro e w3 ⟨At, ct, ft, rfl, hct, hst, hnt, bl⟩
    have Rt := Lib.hid (fun b (hb : b ∈ ft) => hnt.lt b hb)
    have BB3 := Lib.hid (below_then BB2.out bl)
    have Iw3 := Lib.hid (Iw2.out.below bl)
    have HZ2 := Lib.hid (bl.size)
    clear BB2 Iw2 bl
    have St3 := Lib.hid (hst)
    have Nt3 := Lib.hid (hnt)
    clear hst hnt hct
    go_wp2_with fail
    refine (im_bmParts At n ct L ft x y _ St3.out hn9).mono ?_; rw [HN.out, HX.out]; rintro e w4 ⟨Ag, cg, fg, rfl, hcg, hsg, hng, bl⟩
    have Rg := Lib.hid (fun b (hb : b ∈ fg) => hng.lt b hb)
    have BB4 := Lib.hid (below_then BB3.out bl)
    have Iw4 := Lib.hid (Iw3.out.below bl)
    have St4 := Lib.hid (St3.out.below bl)
    have Nt4 := Lib.hid (Nt3.out.keep (.of_below bl))
    have HZ3 := Lib.hid (bl.size)
    clear BB3 Iw3 St3 Nt3 bl
    have Ig4 := Lib.hid (hsg)
    have Ng4 := Lib.hid (hng)
    clear hsg hng hcg
    go_wp2_with fail
    refine (eq_ints Ag Aw q cg cw X fg fw _ Ig4.out Iw4.out (by omega)).mono ?_; rintro e w5 ⟨rfl, qq, hqq⟩
    have bl : Below w4.heap.size w4 w5 := by rw [hqq]; exact below_drewN (Below.refl _ _) _
    clear hqq
    have BB5 := Lib.hid (below_then BB4.out bl)
    have Iw5 := Lib.hid (Iw4.out.below bl)
    have St5 := Lib.hid (St4.out.below bl)
    have Nt5 := Lib.hid (Nt4.out.keep (.of_below bl))
    have Ig5 := Lib.hid (Ig4.out.below bl)
    have Ng5 := Lib.hid (Ng4.out.keep (.of_below bl))
    have HZ4 := Lib.hid (bl.size)
    clear BB4 Iw4 St4 Nt4 Ig4 Ng4 bl
    go_wp2_with fail
    refine (to_chgs Al n c' L fl _ (HLR.out _ BB5.out) hn9).mono ?_; rintro e w6 ⟨Ap, cp, fp, rfl, hcp, hsp, hnp, bl⟩
    have Rp := Lib.hid (fun b (hb : b ∈ fp) => hnp.lt b hb)
    have BB6 := Lib.hid (below_then BB5.out bl)
    have Iw6 := Lib.hid (Iw5.out.below bl)
    have St6 := Lib.hid (St5.out.below bl)
    have Nt6 := Lib.hid (Nt5.out.keep (.of_below bl))
    have Ig6 := Lib.hid (Ig5.out.below bl)
    have Ng6 := Lib.hid (Ng5.out.keep (.of_below bl))
    have HZ5 := Lib.hid (bl.size)
    clear BB5 Iw5 St5 Nt5 Ig5 Ng5 bl
    have Sp6 := Lib.hid (hsp)
    clear hsp hnp hcp
    go_wp2_with fail
    refine (eq_chgs At Ap n ct cp L ft fp _ St6.out Sp6.out hn9).mono ?_; rintro e w7 ⟨rfl, bl⟩
    have BB7 := Lib.hid (below_then BB6.out bl)
    have Iw7 := Lib.hid (Iw6.out.below bl)
    have St7 := Lib.hid (St6.out.below bl)
    have Nt7 := Lib.hid (Nt6.out.keep (.of_below bl))
    have Ig7 := Lib.hid (Ig6.out.below bl)
    have Ng7 := Lib.hid (Ng6.out.keep (.of_below bl))
    have HZ6 := Lib.hid (bl.size)
    clear BB6 Iw6 St6 Nt6 Ig6 Ng6 bl
    go_wp2_with fail
    refine (mark_chgs At n ct 1 L ft _ St7.out (fun b hb o => Nt7.out.free b hb o) (by omega) (by omega) (by omega)).mono ?_; rintro e w8 ⟨rfl, o⟩
    have HZ7 := Lib.hid (o.size)
    have Ig8 := Lib.hid (Ig7.out.keep (.of_only o fun b hb hx => by have h1 := Rg.out b hb; have h2 := Rt.out b hx; omega))
    have Ng8 := Lib.hid (Ng7.out.keep (.of_only o fun b hb hx => by have h1 := Rg.out b hb; have h2 := Rt.out b hx; omega))
    have Iw8 := Lib.hid (Iw7.out.keep (.of_only o fun b hb hx => by have h1 := Rw.out b hb; have h2 := Rt.out b hx; omega))
    have BB8 := Lib.hid (BB7.out.trans (o.below (fun b hb => by have h1 := Rt.out b hb; have z0 := HZ0.out; have z1 := HZ1.out; omega) BB7.out.size))
    clear o BB7 Iw7 St7 Nt7 Ig7 Ng7
    have k1 : 0 ≤ (1 : Int) + 3 * n := by omega
    generalize (1 : Int) + 3 * n = k1v at k1
    have k1d : decide (k1v < 0) = false := by simp; omega
    go_wp2_with fail
    refine (eq_ints Ag Aw q cg cw X fg fw _ Ig8.out Iw8.out (by omega)).mono ?_; rintro e w9 ⟨rfl, qq, hqq⟩
    have bl : Below w8.heap.size w8 w9 := by rw [hqq]; exact below_drewN (Below.refl _ _) _
    clear hqq
    have BB9 := Lib.hid (below_then BB8.out bl)
    have Ig9 := Lib.hid (Ig8.out.below bl)
    have Ng9 := Lib.hid (Ng8.out.keep (.of_below bl))
    have Iw9 := Lib.hid (Iw8.out.below bl)
    have HZ8 := Lib.hid (bl.size)
    clear BB8 Ig8 Ng8 Iw8 bl
    go_wp2_with fail
    refine (mark_ints Ag q cg 1 X fg _ Ig9.out (fun b hb o => Ng9.out.free b hb o) (by omega) (by omega) (by omega)).mono ?_; rintro e w10 ⟨rfl, o, hig, frg⟩
    have HZ9 := Lib.hid (o.size)
    have Iw10 := Lib.hid (Iw9.out.keep (.of_only o fun b hb hx => by have h1 := Rw.out b hb; have h2 := Rg.out b hx; have z2 := HZ2.out; omega))
    have BB10 := Lib.hid (BB9.out.trans (o.below (fun b hb => by have h1 := Rg.out b hb; have z0 := HZ0.out; have z1 := HZ1.out; have z2 := HZ2.out; omega) BB9.out.size))
    clear o BB9 Ig9 Ng9 Iw9
    have Ig10 := Lib.hid (hig)
    clear hig frg
    have hn1 : 0 ≤ (1 : Int) + q := by omega
    go_wp2_with fail
    refine (held_ints Ag q cg 1 fg _ Ig10.out (by omega) (by omega) (by omega)).mono ?_; rintro e w11 ⟨rfl, rfl⟩
    go_wp2_with fail
    refine (to_chgs Al n c' L fl _ (HLR.out _ BB10.out) hn9).mono ?_; rintro e w11 ⟨Aj, cj, fj, rfl, hcj, hsj, hnj, bl⟩
    have Rj := Lib.hid (fun b (hb : b ∈ fj) => hnj.lt b hb)
    have BB11 := Lib.hid (below_then BB10.out bl)
    have Iw11 := Lib.hid (Iw10.out.below bl)
    have Ig11 := Lib.hid (Ig10.out.below bl)
    have HZ10 := Lib.hid (bl.size)
    clear BB10 Iw10 Ig10 bl
    have Sj11 := Lib.hid (hsj)
    clear hsj hnj hcj
    go_wp2_with fail
    refine (im_bmParts Aj n cj L fj x y _ Sj11.out hn9).mono ?_; rw [HN.out, HX.out]; rintro e w12 ⟨Ah, ch, fh, rfl, hch, hsh, hnh, bl⟩
    have Rh := Lib.hid (fun b (hb : b ∈ fh) => hnh.lt b hb)
    have BB12 := Lib.hid (below_then BB11.out bl)
    have Iw12 := Lib.hid (Iw11.out.below bl)
    have Ig12 := Lib.hid (Ig11.out.below bl)
    have Sj12 := Lib.hid (Sj11.out.below bl)
    have HZ11 := Lib.hid (bl.size)
    clear BB11 Iw11 Ig11 Sj11 bl
    have Ih12 := Lib.hid (hsh)
    clear hsh hnh hch
    go_wp2_with fail
    refine (eq_ints Ah Aw q ch cw X fh fw _ Ih12.out Iw12.out (by omega)).mono ?_; rintro e w13 ⟨rfl, qq, hqq⟩
    have bl : Below w12.heap.size w12 w13 := by rw [hqq]; exact below_drewN (Below.refl _ _) _
    clear hqq
    have BB13 := Lib.hid (below_then BB12.out bl)
    have Iw13 := Lib.hid (Iw12.out.below bl)
    have Ig13 := Lib.hid (Ig12.out.below bl)
    have Ih13 := Lib.hid (Ih12.out.below bl)
    have HZ12 := Lib.hid (bl.size)
    clear BB12 Iw12 Ig12 Ih12 bl
    go_wp2_with fail
    refine (held_ints Ag q cg 1 fg _ Ig13.out (by omega) (by omega) (by omega)).mono ?_; rintro e w14 ⟨rfl, rfl⟩
    go_wp2_with fail
    go_ret
    exact ⟨rfl, BB13.out⟩
  · refine (sz_chgs_no Al n c' 1048576 _ (by omega) (by omega) hn).mono ?_; rintro e w' ⟨rfl, rfl⟩
    go_wp2_with fail
    go_ret
    exact ⟨rfl, Below.refl _ _⟩
set_option maxRecDepth 100000 in
set_option maxHeartbeats 4000000 in
theorem walk_FnExactBeamLine (A : Option Addr) (c : Nat) (T : Option Addr) (d : Nat) (F : Fld) (y : Int) (Al : Option Addr) (n c' : Nat) (L : List Int) (w : World) (hi1 : InFld w A T F) (hi2 : InChgs w Al n L) : Calls Try.prog 8 #[fv F A c T d, .int .i64 y, .slice Al n c'] w fun e w' => e = .returned (.bool true) ∧ Below w.heap.size w w' := by
  obtain ⟨hl, hm, fa, ft, hF⟩ := hi1
  obtain ⟨hn, fl, hL⟩ := hi2
  have PB1 := Lib.hid (Box.new w #[.int .i64 F.w, .slice A F.xs.length c, .slice T F.nt d, .int .i64 F.sx, .int .i64 F.sy] 50)
  have BB1 := Lib.hid (below1 w (.cells #[.int .i64 F.w, .slice A F.xs.length c, .slice T F.nt d, .int .i64 F.sx, .int .i64 F.sy] 50))
  have HFR : Hid (∀ W, Below w.heap.size w W → FHas W A T F fa ft) := Lib.hid fun W h => hF.below h
  have HLR : Hid (∀ W, Below w.heap.size w W → Ints W Al (3 * n) L fl) := Lib.hid fun W h => hL.below h
  clear hF hL
  go_enter Try.func8, Try.ntmps8
  go_upto_region 2 with (fail)
  generalize w.alloc (.cells #[.int .i64 F.w, .slice A F.xs.length c, .slice T F.nt d, .int .i64 F.sx, .int .i64 F.sy] 50) = w1 at PB1 BB1 ⊢
  have HPL := Lib.hid PB1.out.lt
  go_wp2_with (first | (refine fsL_load (by rfl) _ rfl w.heap.size rfl PB1.out ?_))
  by_cases hsz : (F.xs.length : Int) + F.nt ≤ 1048576
  · have HS : Hid (FSmall F) := Lib.hid ⟨by omega, by omega⟩
    refine (sz_fld_yes F.w A F.xs.length c T F.nt d F.sx F.sy 1048576 _ hsz (by omega)).mono ?_; rintro e w2 ⟨rfl, bl⟩
    have hl0 : 0 ≤ 1048576 - (F.xs.length : Int) - F.nt := by omega
    obtain ⟨lf, hlf⟩ : ∃ lf, 1048576 - (F.xs.length : Int) - F.nt = lf := ⟨_, rfl⟩
    rw [hlf] at hl0 ⊢
    have hl1 : lf ≤ 1048576 := by omega
    clear hlf
    have PB2 := Lib.hid (PB1.out.below bl)
    have BB2 := Lib.hid (below_then BB1.out bl)
    have HZ1 := Lib.hid (bl.size)
    clear PB1 BB1 bl
    go_wp2_with fail
    by_cases hst : (n : Int) ≤ lf
    · refine (sz_chgs_yes Al n c' lf _ hst (by omega)).mono ?_; rintro e w' ⟨rfl, rfl⟩
      have hl2 : 0 ≤ lf - (n : Int) := by omega
      obtain ⟨lg, hlg⟩ : ∃ lg, lf - (n : Int) = lg := ⟨_, rfl⟩
      rw [hlg] at hl2 ⊢
      have hn9 : n ≤ 1000000000 := by omega
      have hn2 : n ≤ 1048576 := by omega
      have hx2 : F.xs.length ≤ 1048576 := by omega
      have hm2 : F.nt ≤ 1048576 := by omega
      clear hlg hst hl0 hl1 hsz hn hl hm
      obtain ⟨q, hq⟩ : ∃ q, (bmT F L n y).length = q := ⟨_, rfl⟩
      have q4 : q ≤ 32 := by rw [← hq]; exact bmT_le F L n y
      have HN := Lib.hid hq
      clear hq
      obtain ⟨X, hX⟩ : ∃ X, bmT F L n y = X := ⟨_, rfl⟩
      have HX := Lib.hid hX
      clear hX
      go_wp2_with (first | (refine fsL_load (by rfl) _ rfl w.heap.size rfl PB2.out ?_))
      refine (to_fld F A c T d fa ft _ (HFR.out _ BB2.out) HS.out).mono ?_; rintro e w3 ⟨Au, cu, Tu, du, fu, gu, rfl, hcu, hdu, hfu, hnu, bl⟩
      have Ru := Lib.hid (fun b (hb : b ∈ fu ++ gu) => hnu.lt b hb)
      have PB3 := Lib.hid (PB2.out.below bl)
      have BB3 := Lib.hid (below_then BB2.out bl)
      have HZ2 := Lib.hid (bl.size)
      clear PB2 BB2 bl
      have Fu3 := Lib.hid (hfu)
      clear hfu hnu hcu hdu
      go_wp2_with fail
      refine (to_chgs Al n c' L fl _ (HLR.out _ BB3.out) hn9).mono ?_; rintro e w4 ⟨Av, cv, fv_, rfl, hcv, hsv, hnv, bl⟩
      have Rv := Lib.hid (fun b (hb : b ∈ fv_) => hnv.lt b hb)
      have PB4 := Lib.hid (PB3.out.below bl)
      have BB4 := Lib.hid (below_then BB3.out bl)
      have Fu4 := Lib.hid (Fu3.out.below bl)
      have HZ3 := Lib.hid (bl.size)
      clear PB3 BB3 Fu3 bl
      have Sv4 := Lib.hid (hsv)
      clear hsv hnv hcv
      go_wp2_with fail
      refine (spec_bmLine F Au cu Tu du fu gu Av n cv L fv_ y _ Fu4.out Sv4.out HS.out hn9).mono ?_; rw [HN.out, HX.out]; rintro e w5 ⟨Aw, cw, fw, rfl, hcw, hsw, hnw, bl⟩
      have Rw := Lib.hid (fun b (hb : b ∈ fw) => hnw.lt b hb)
      have PB5 := Lib.hid (PB4.out.below bl)
      have BB5 := Lib.hid (below_then BB4.out bl)
      have Fu5 := Lib.hid (Fu4.out.below bl)
      have Sv5 := Lib.hid (Sv4.out.below bl)
      have HZ4 := Lib.hid (bl.size)
      clear PB4 BB4 Fu4 Sv4 bl
      have Iw5 := Lib.hid (hsw)
      clear hsw hnw hcw
      go_wp2_with (first | (refine fsL_load (by rfl) _ rfl w.heap.size rfl PB5.out ?_))
      refine (to_fld F A c T d fa ft _ (HFR.out _ BB5.out) HS.out).mono ?_; rintro e w6 ⟨Ax, cx, Tx, dx, fx, gx, rfl, hcx, hdx, hfx, hnx, bl⟩
      have Rx := Lib.hid (fun b (hb : b ∈ fx ++ gx) => hnx.lt b hb)
      have PB6 := Lib.hid (PB5.out.below bl)
      have BB6 := Lib.hid (below_then BB5.out bl)
      have Iw6 := Lib.hid (Iw5.out.below bl)
      have HZ5 := Lib.hid (bl.size)
      clear PB5 BB5 Iw5 bl
      have Fx6 := Lib.hid (hfx)
      have Nx6 := Lib.hid (hnx)
      clear hfx hnx hcx hdx
      go_wp2_with fail
      obtain ⟨bx, hbx⟩ : ∃ b, b = w6.heap.size := ⟨_, rfl⟩
      obtain ⟨w7, hw7⟩ : ∃ W, W = w6.alloc (.cells #[.int .i64 F.w, .slice Ax F.xs.length cx, .slice Tx F.nt dx, .int .i64 F.sx, .int .i64 F.sy] 33) := ⟨_, rfl⟩
      have bl : Below w6.heap.size w6 w7 := by rw [hw7]; exact below1 _ _
      have htx : Hid (Box w7 bx 33 [.int .i64 F.w, .slice Ax F.xs.length cx, .slice Tx F.nt dx, .int .i64 F.sx, .int .i64 F.sy]) := Lib.hid (by rw [hw7, hbx]; exact Box.new _ _ _)
      rw [← hw7, ← hbx]
      clear hw7 hbx
      have PB7 := Lib.hid (PB6.out.below bl)
      have BB7 := Lib.hid (below_then BB6.out bl)
      have Iw7 := Lib.hid (Iw6.out.below bl)
      have Fx7 := Lib.hid (Fx6.out.below bl)
      have Nx7 := Lib.hid (Nx6.out.keep (.of_below bl))
      have HZ6 := Lib.hid (bl.size)
      clear PB6 BB6 Iw6 Fx6 Nx6 bl
      have XB7 := Lib.hid (htx.out)
      clear htx
      go_wp2_with (first | (refine fsL_load (by rfl) _ rfl w.heap.size rfl PB7.out ?_) | (refine fs_load (by rfl) _ rfl bx rfl XB7.out ?_))
      refine (to_chgs Al n c' L fl _ (HLR.out _ BB7.out) hn9).mono ?_; rintro e w8 ⟨At, ct, ft_, rfl, hct, hst, hnt, bl⟩
      have Rt := Lib.hid (fun b (hb : b ∈ ft_) => hnt.lt b hb)
      have PB8 := Lib.hid (PB7.out.below bl)
      have BB8 := Lib.hid (below_then BB7.out bl)
      have Iw8 := Lib.hid (Iw7.out.below bl)
      have Fx8 := Lib.hid (Fx7.out.below bl)
      have Nx8 := Lib.hid (Nx7.out.keep (.of_below bl))
      have XB8 := Lib.hid (XB7.out.below bl)
      have HZ7 := Lib.hid (bl.size)
      clear PB7 BB7 Iw7 Fx7 Nx7 XB7 bl
      have St8 := Lib.hid (hst)
      have Nt8 := Lib.hid (hnt)
      clear hst hnt hct
      go_wp2_with (first | (refine fsL_load (by rfl) _ rfl w.heap.size rfl PB8.out ?_) | (refine fs_load (by rfl) _ rfl bx rfl XB8.out ?_))
      refine (im_bmLine F Ax cx Tx dx fx gx At n ct L ft_ y _ Fx8.out St8.out HS.out hn9).mono ?_; rw [HN.out, HX.out]; rintro e w9 ⟨Ag, cg, fg, rfl, hcg, hsg, hng, bl⟩
      have Rg := Lib.hid (fun b (hb : b ∈ fg) => hng.lt b hb)
      have PB9 := Lib.hid (PB8.out.below bl)
      have BB9 := Lib.hid (below_then BB8.out bl)
      have Iw9 := Lib.hid (Iw8.out.below bl)
      have Fx9 := Lib.hid (Fx8.out.below bl)
      have Nx9 := Lib.hid (Nx8.out.keep (.of_below bl))
      have XB9 := Lib.hid (XB8.out.below bl)
      have St9 := Lib.hid (St8.out.below bl)
      have Nt9 := Lib.hid (Nt8.out.keep (.of_below bl))
      have HZ8 := Lib.hid (bl.size)
      clear PB8 BB8 Iw8 Fx8 Nx8 XB8 St8 Nt8 bl
      have Ig9 := Lib.hid (hsg)
      have Ng9 := Lib.hid (hng)
      clear hsg hng hcg
      go_wp2_with fail
      refine (eq_ints Ag Aw q cg cw X fg fw _ Ig9.out Iw9.out (by omega)).mono ?_; rintro e w10 ⟨rfl, qq, hqq⟩
      have bl : Below w9.heap.size w9 w10 := by rw [hqq]; exact below_drewN (Below.refl _ _) _
      clear hqq
      have PB10 := Lib.hid (PB9.out.below bl)
      have BB10 := Lib.hid (below_then BB9.out bl)
      have Iw10 := Lib.hid (Iw9.out.below bl)
      have Fx10 := Lib.hid (Fx9.out.below bl)
      have Nx10 := Lib.hid (Nx9.out.keep (.of_below bl))
      have XB10 := Lib.hid (XB9.out.below bl)
      have St10 := Lib.hid (St9.out.below bl)
      have Nt10 := Lib.hid (Nt9.out.keep (.of_below bl))
      have Ig10 := Lib.hid (Ig9.out.below bl)
      have Ng10 := Lib.hid (Ng9.out.keep (.of_below bl))
      have HZ9 := Lib.hid (bl.size)
      clear PB9 BB9 Iw9 Fx9 Nx9 XB9 St9 Nt9 Ig9 Ng9 bl
      go_wp2_with fail
      refine wp_region_typed (ClB w10) RlB (Ty [TV (fv F Ax cx Tx dx), TV (fv F A c T d), TFld w10.heap.size F, TV (.bool true), TV (.bool false)])
        (by kernel_rfl) (by kernel_rfl) (stab_ty _ ⟨stabB_k _, stabB_k _, stabB_fld _ _, stabB_k _, stabB_k _, trivial⟩) (Below.refl _ _).drew ?_ ?_
      · refine ⟨?_, ?_, ?_, ?_, ?_, trivial⟩
        · exact lb_fld (.tmp 9) bx rfl XB10.out (fun _ _ _ => want_none rfl) fun ρ wx hx hp => ⟨hx 9 rfl, rfl⟩
        · exact lb_fldL (.tmp 3) w.heap.size rfl PB10.out (fun _ _ _ => want_none rfl) fun ρ wx hx hp => ⟨hx 3 rfl, rfl⟩
        · refine lb_call _ _ _ (fun _ _ => by simp [go_sem]) rfl (fun _ _ _ => want_none rfl) fun ρ wx hb hc hp => ?_
          have h0 : ρ (.tmp 45) = fv F A c T d := hp.1 rfl
          refine ⟨#[fv F A c T d], by simp only [List.map_toArray, List.map_cons, List.map_nil, h0], (to_fld F A c T d fa ft wx (HFR.out _ (below_then BB10.out hb)) HS.out).mono ?_⟩
          intro e w' hn
          obtain ⟨v, rfl⟩ := hn.parts
          have hq := fnew_fld hn hb.size
          exact ⟨v, rfl, hq.1, hq.2⟩
        · refine lb_call _ _ _ (fun _ _ => by simp [go_sem]) rfl (fun _ _ _ => want_none rfl) fun ρ wx hb hc hp => ?_
          have h0 : ρ (.tmp 44) = fv F Ax cx Tx dx := hp.1 rfl
          obtain ⟨A2, c2, T2, d2, f2, g2, h1, _, _, hf2, _⟩ : TFld w10.heap.size F (ρ (.tmp 46)) wx := hp.2.1 rfl
          refine ⟨#[fv F Ax cx Tx dx, fv F A2 c2 T2 d2], by simp only [List.map_toArray, List.map_cons, List.map_nil, h0, h1], (eq_fld F Ax A2 cx c2 Tx T2 dx d2 fx gx f2 g2 wx (Fx10.out.below hb) hf2 HS.out).mono ?_⟩
          rintro e w' ⟨rfl, b⟩
          exact ⟨_, rfl, b, rfl⟩
        · exact lb_unot (.tmp 47) _ true rfl (fun _ _ _ => want_none rfl) fun ρ wx hp => ⟨hp.1 rfl, rfl⟩
      intro vs w11 hI hF
      obtain ⟨_, _, _, _, h4, _⟩ := hF
      replace h4 : vs 4 = .bool false := h4
      have bl : Below w10.heap.size w10 w11 := hI
      simp only [putAll, Act.put, List.setIfInBounds_toArray, List.set_cons_zero, List.set_cons_succ, h4]
      clear hI h4
      have PB11 := Lib.hid (PB10.out.below bl)
      have BB11 := Lib.hid (below_then BB10.out bl)
      have Iw11 := Lib.hid (Iw10.out.below bl)
      have Fx11 := Lib.hid (Fx10.out.below bl)
      have Nx11 := Lib.hid (Nx10.out.keep (.of_below bl))
      have XB11 := Lib.hid (XB10.out.below bl)
      have St11 := Lib.hid (St10.out.below bl)
      have Nt11 := Lib.hid (Nt10.out.keep (.of_below bl))
      have Ig11 := Lib.hid (Ig10.out.below bl)
      have Ng11 := Lib.hid (Ng10.out.keep (.of_below bl))
      have HZ10 := Lib.hid (bl.size)
      clear PB10 BB10 Iw10 Fx10 Nx10 XB10 St10 Nt10 Ig10 Ng10 bl
      go_wp2_with fail
      refine (to_chgs Al n c' L fl _ (HLR.out _ BB11.out) hn9).mono ?_; rintro e w12 ⟨Ap, cp, fp, rfl, hcp, hsp, hnp, bl⟩
      have Rp := Lib.hid (fun b (hb : b ∈ fp) => hnp.lt b hb)
      have PB12 := Lib.hid (PB11.out.below bl)
      have BB12 := Lib.hid (below_then BB11.out bl)
      have Iw12 := Lib.hid (Iw11.out.below bl)
      have Fx12 := Lib.hid (Fx11.out.below bl)
      have Nx12 := Lib.hid (Nx11.out.keep (.of_below bl))
      have XB12 := Lib.hid (XB11.out.below bl)
      have St12 := Lib.hid (St11.out.below bl)
      have Nt12 := Lib.hid (Nt11.out.keep (.of_below bl))
      have Ig12 := Lib.hid (Ig11.out.below bl)
      have Ng12 := Lib.hid (Ng11.out.keep (.of_below bl))
      have HZ11 := Lib.hid (bl.size)
      clear PB11 BB11 Iw11 Fx11 Nx11 XB11 St11 Nt11 Ig11 Ng11 bl
      have Sp12 := Lib.hid (hsp)
      clear hsp hnp hcp
      go_wp2_with fail
      refine (eq_chgs At Ap n ct cp L ft_ fp _ St12.out Sp12.out hn9).mono ?_; rintro e w13 ⟨rfl, bl⟩
      have PB13 := Lib.hid (PB12.out.below bl)
      have BB13 := Lib.hid (below_then BB12.out bl)
      have Iw13 := Lib.hid (Iw12.out.below bl)
      have Fx13 := Lib.hid (Fx12.out.below bl)
      have Nx13 := Lib.hid (Nx12.out.keep (.of_below bl))
      have XB13 := Lib.hid (XB12.out.below bl)
      have St13 := Lib.hid (St12.out.below bl)
      have Nt13 := Lib.hid (Nt12.out.keep (.of_below bl))
      have Ig13 := Lib.hid (Ig12.out.below bl)
      have Ng13 := Lib.hid (Ng12.out.keep (.of_below bl))
      have HZ12 := Lib.hid (bl.size)
      clear PB12 BB12 Iw12 Fx12 Nx12 XB12 St12 Nt12 Ig12 Ng12 bl
      go_wp2_with (first | (refine fsL_load (by rfl) _ rfl w.heap.size rfl PB13.out ?_) | (refine fs_load (by rfl) _ rfl bx rfl XB13.out ?_))
      refine (mark_fld F Ax cx Tx dx 1 fx gx _ Fx13.out (Nx13.out.mono (Nat.zero_le _)) (by omega) (by omega) (by omega) (by omega)).mono ?_; rintro e w14 ⟨rfl, o, _, _⟩
      have HZ13 := Lib.hid (o.size)
      have St14 := Lib.hid (St13.out.keep (.of_only o fun b hb hx => by have h1 := Rt.out b hb; have h2 := Rx.out b hx; have z6 := HZ6.out; omega))
      have Nt14 := Lib.hid (Nt13.out.keep (.of_only o fun b hb hx => by have h1 := Rt.out b hb; have h2 := Rx.out b hx; have z6 := HZ6.out; omega))
      have Ig14 := Lib.hid (Ig13.out.keep (.of_only o fun b hb hx => by have h1 := Rg.out b hb; have h2 := Rx.out b hx; have z6 := HZ6.out; have z7 := HZ7.out; omega))
      have Ng14 := Lib.hid (Ng13.out.keep (.of_only o fun b hb hx => by have h1 := Rg.out b hb; have h2 := Rx.out b hx; have z6 := HZ6.out; have z7 := HZ7.out; omega))
      have Iw14 := Lib.hid (Iw13.out.keep (.of_only o fun b hb hx => by have h1 := Rw.out b hb; have h2 := Rx.out b hx; omega))
      have PB14 := Lib.hid (PB13.out.only o fun hx => by have h1 := Rx.out _ hx; have h3 := HPL.out; have z1 := HZ1.out; have z2 := HZ2.out; have z3 := HZ3.out; have z4 := HZ4.out; omega)
      have BB14 := Lib.hid (BB13.out.trans (o.below (fun b hb => by have h1 := Rx.out b hb; have h3 := HPL.out; have z1 := HZ1.out; have z2 := HZ2.out; have z3 := HZ3.out; have z4 := HZ4.out; omega) BB13.out.size))
      clear o PB13 BB13 Iw13 Fx13 Nx13 XB13 St13 Nt13 Ig13 Ng13
      have hmk : 0 ≤ 1 + (F.xs.length : Int) + ((64 * F.nt : Nat) : Int) := by omega
      have hmk2 : 1 + (F.xs.length : Int) + ((64 * F.nt : Nat) : Int) ≤ 1000000000 := by omega
      generalize 1 + (F.xs.length : Int) + ((64 * F.nt : Nat) : Int) = mk at hmk hmk2
      go_wp2_with fail
      refine (mark_chgs At n ct mk L ft_ _ St14.out (fun b hb o => Nt14.out.free b hb o) (by omega) (by omega) (by omega)).mono ?_; rintro e w15 ⟨rfl, o⟩
      have HZ14 := Lib.hid (o.size)
      have Ig15 := Lib.hid (Ig14.out.keep (.of_only o fun b hb hx => by have h1 := Rg.out b hb; have h2 := Rt.out b hx; omega))
      have Ng15 := Lib.hid (Ng14.out.keep (.of_only o fun b hb hx => by have h1 := Rg.out b hb; have h2 := Rt.out b hx; omega))
      have Iw15 := Lib.hid (Iw14.out.keep (.of_only o fun b hb hx => by have h1 := Rw.out b hb; have h2 := Rt.out b hx; have z5 := HZ5.out; have z6 := HZ6.out; omega))
      have PB15 := Lib.hid (PB14.out.only o fun hx => by have h1 := Rt.out _ hx; have h3 := HPL.out; have z1 := HZ1.out; have z2 := HZ2.out; have z3 := HZ3.out; have z4 := HZ4.out; have z5 := HZ5.out; have z6 := HZ6.out; omega)
      have BB15 := Lib.hid (BB14.out.trans (o.below (fun b hb => by have h1 := Rt.out b hb; have h3 := HPL.out; have z1 := HZ1.out; have z2 := HZ2.out; have z3 := HZ3.out; have z4 := HZ4.out; have z5 := HZ5.out; have z6 := HZ6.out; omega) BB14.out.size))
      clear o PB14 BB14 St14 Nt14 Ig14 Ng14 Iw14
      have k1 : 0 ≤ mk + 3 * n := by omega
      generalize mk + 3 * (n : Int) = k1v at k1
      have k1d : decide (k1v < 0) = false := by simp; omega
      go_wp2_with fail
      refine (eq_ints Ag Aw q cg cw X fg fw _ Ig15.out Iw15.out (by omega)).mono ?_; rintro e w16 ⟨rfl, qq, hqq⟩
      have bl : Below w15.heap.size w15 w16 := by rw [hqq]; exact below_drewN (Below.refl _ _) _
      clear hqq
      have PB16 := Lib.hid (PB15.out.below bl)
      have BB16 := Lib.hid (below_then BB15.out bl)
      have Ig16 := Lib.hid (Ig15.out.below bl)
      have Ng16 := Lib.hid (Ng15.out.keep (.of_below bl))
      have Iw16 := Lib.hid (Iw15.out.below bl)
      have HZ15 := Lib.hid (bl.size)
      clear PB15 BB15 Ig15 Ng15 Iw15 bl
      go_wp2_with fail
      refine (mark_ints Ag q cg 1 X fg _ Ig16.out (fun b hb o => Ng16.out.free b hb o) (by omega) (by omega) (by omega)).mono ?_; rintro e w17 ⟨rfl, o, hig, frg⟩
      have HZ16 := Lib.hid (o.size)
      have Iw17 := Lib.hid (Iw16.out.keep (.of_only o fun b hb hx => by have h1 := Rw.out b hb; have h2 := Rg.out b hx; have z5 := HZ5.out; have z6 := HZ6.out; have z7 := HZ7.out; omega))
      have PB17 := Lib.hid (PB16.out.only o fun hx => by have h1 := Rg.out _ hx; have h3 := HPL.out; have z1 := HZ1.out; have z2 := HZ2.out; have z3 := HZ3.out; have z4 := HZ4.out; have z5 := HZ5.out; have z6 := HZ6.out; have z7 := HZ7.out; omega)
      have BB17 := Lib.hid (BB16.out.trans (o.below (fun b hb => by have h1 := Rg.out b hb; have h3 := HPL.out; have z1 := HZ1.out; have z2 := HZ2.out; have z3 := HZ3.out; have z4 := HZ4.out; have z5 := HZ5.out; have z6 := HZ6.out; have z7 := HZ7.out; omega) BB16.out.size))
      clear o PB16 BB16 Ig16 Ng16 Iw16
      have Ig17 := Lib.hid (hig)
      clear hig frg
      have hn1 : 0 ≤ (1 : Int) + q := by omega
      go_wp2_with fail
      refine (held_ints Ag q cg 1 fg _ Ig17.out (by omega) (by omega) (by omega)).mono ?_; rintro e w18 ⟨rfl, rfl⟩
      go_wp2_with (first | (refine fsL_load (by rfl) _ rfl w.heap.size rfl PB17.out ?_))
      refine (to_fld F A c T d fa ft _ (HFR.out _ BB17.out) HS.out).mono ?_; rintro e w18 ⟨Ai, ci, Ti, di, fi, gi, rfl, hci, hdi, hfi, hni, bl⟩
      have Ri := Lib.hid (fun b (hb : b ∈ fi ++ gi) => hni.lt b hb)
      have PB18 := Lib.hid (PB17.out.below bl)
      have BB18 := Lib.hid (below_then BB17.out bl)
      have Iw18 := Lib.hid (Iw17.out.below bl)
      have Ig18 := Lib.hid (Ig17.out.below bl)
      have HZ17 := Lib.hid (bl.size)
      clear PB17 BB17 Iw17 Ig17 bl
      have Fi18 := Lib.hid (hfi)
      clear hfi hni hci hdi
      go_wp2_with fail
      refine (to_chgs Al n c' L fl _ (HLR.out _ BB18.out) hn9).mono ?_; rintro e w19 ⟨Aj, cj, fj, rfl, hcj, hsj, hnj, bl⟩
      have Rj := Lib.hid (fun b (hb : b ∈ fj) => hnj.lt b hb)
      have PB19 := Lib.hid (PB18.out.below bl)
      have BB19 := Lib.hid (below_then BB18.out bl)
      have Iw19 := Lib.hid (Iw18.out.below bl)
      have Ig19 := Lib.hid (Ig18.out.below bl)
      have Fi19 := Lib.hid (Fi18.out.below bl)
      have HZ18 := Lib.hid (bl.size)
      clear PB18 BB18 Iw18 Ig18 Fi18 bl
      have Sj19 := Lib.hid (hsj)
      clear hsj hnj hcj
      go_wp2_with fail
      refine (im_bmLine F Ai ci Ti di fi gi Aj n cj L fj y _ Fi19.out Sj19.out HS.out hn9).mono ?_; rw [HN.out, HX.out]; rintro e w20 ⟨Ah, ch, fh, rfl, hch, hsh, hnh, bl⟩
      have Rh := Lib.hid (fun b (hb : b ∈ fh) => hnh.lt b hb)
      have PB20 := Lib.hid (PB19.out.below bl)
      have BB20 := Lib.hid (below_then BB19.out bl)
      have Iw20 := Lib.hid (Iw19.out.below bl)
      have Ig20 := Lib.hid (Ig19.out.below bl)
      have Fi20 := Lib.hid (Fi19.out.below bl)
      have Sj20 := Lib.hid (Sj19.out.below bl)
      have HZ19 := Lib.hid (bl.size)
      clear PB19 BB19 Iw19 Ig19 Fi19 Sj19 bl
      have Ih20 := Lib.hid (hsh)
      clear hsh hnh hch
      go_wp2_with fail
      refine (eq_ints Ah Aw q ch cw X fh fw _ Ih20.out Iw20.out (by omega)).mono ?_; rintro e w21 ⟨rfl, qq, hqq⟩
      have bl : Below w20.heap.size w20 w21 := by rw [hqq]; exact below_drewN (Below.refl _ _) _
      clear hqq
      have PB21 := Lib.hid (PB20.out.below bl)
      have BB21 := Lib.hid (below_then BB20.out bl)
      have Iw21 := Lib.hid (Iw20.out.below bl)
      have Ig21 := Lib.hid (Ig20.out.below bl)
      have Ih21 := Lib.hid (Ih20.out.below bl)
      have HZ20 := Lib.hid (bl.size)
      clear PB20 BB20 Iw20 Ig20 Ih20 bl
      go_wp2_with fail
      refine (held_ints Ag q cg 1 fg _ Ig21.out (by omega) (by omega) (by omega)).mono ?_; rintro e w22 ⟨rfl, rfl⟩
      go_wp2_with fail
      go_ret
      exact ⟨rfl, BB21.out⟩
    · refine (sz_chgs_no Al n c' lf _ (by omega) (by omega) hn).mono ?_; rintro e w' ⟨rfl, rfl⟩
      go_wp2_with fail
      go_ret
      exact ⟨rfl, BB2.out⟩
  · refine (sz_fld_no F.w A F.xs.length c T F.nt d F.sx F.sy 1048576 _ (by omega) (by omega) (by omega) hl hm).mono ?_; rintro e w2 ⟨rfl, bl⟩
    have BB2 := Lib.hid (below_then BB1.out bl)
    clear bl
    go_wp2_with fail
    go_ret
    exact ⟨rfl, BB2.out⟩
end Go.Proofs.Ytddllcgbdgpkbaa
