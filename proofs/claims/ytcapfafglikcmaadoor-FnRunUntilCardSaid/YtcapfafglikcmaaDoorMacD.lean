/- A drawn machine: the walk. -/
import Derived.Test.YtcapfafglikcmaaDoorMacA
import Derived.Deep.DeepCutAuto
namespace Go.Proofs.YtcapfafglikcmaaDoor
open Go.ChangeShapes Go.WideShapes Go.ChangeAt Go.RowKit
set_option linter.unusedVariables false

set_option maxRecDepth 100000 in
set_option maxHeartbeats 8000000 in
theorem mach_any (q m : Nat) (nn : Int) (w : World) (h : Rd w q m) (hm : m ≤ 20000) (hn : 1 ≤ nn) (hn2 : nn ≤ 1000) : Calls Tryd.prog 26 #[.pointer (some ⟨q, 0, none⟩), .int .i64 nn] w (MacDrawn q m w) := by
  have hq := h.lt
  obtain ⟨w1, hw1⟩ : ∃ w1, w1 = w.alloc (.cells #[.slice none 0 0, .slice none 0 0, .int .i64 0, .int .i64 0, .int .i64 0, .bool false, .slice none 0 0, .bool false, .int .i64 0] 28) := ⟨_, rfl⟩
  have R1 : Hid (Rd w1 q m) := by rw [hw1]; exact h.alloc _
  have X1 : Hid (Box w1 w.heap.size 28 [.slice none 0 0, .slice none 0 0, .int .i64 0, .int .i64 0, .int .i64 0, .bool false, .slice none 0 0, .bool false, .int .i64 0]) := by rw [hw1]; exact Box.new w _ _
  have O1 : Hid (Only [q] w w1) := by rw [hw1]; exact (Only.refl _ w).alloc _
  have z1 : w.heap.size < w1.heap.size := X1.out.lt
  clear h
  go_enter Tryd.func26, Tryd.ntmps26
  go_wp2_with fail
  rw [← hw1]
  clear hw1
  have hqS : q ∈ [q] := by simp
  have hS1 : ∀ b ∈ [q], b < w1.heap.size := by simp; omega
  have hJ : Kept q (fun _ => True) := fun _ _ _ _ => trivial
  refine wp_region_end (by dsimp only [List.dropLast]) rfl (fun k => Cls [q] q m w1 (fun _ => True) (800 * k)) (Rel [q] fun _ => True)
    (Ty [TV (.pointer (some ⟨q, 0, none⟩)), TV (.int .i64 nn), TMem w1.heap.size, TV (.pointer (some ⟨q, 0, none⟩)), TI 0 255, TV (.pointer (some ⟨q, 0, none⟩)), TI 0 29, TI 512 541, TV (.pointer (some ⟨q, 0, none⟩)), TI 0 255, TI 0 1020, TL [q] 3 0 1020, TV (.pointer (some ⟨q, 0, none⟩)), TI 0 2, TP [q] 0 1020, TI 0 1020, TV (.pointer (some ⟨q, 0, none⟩)), TI 0 1, TB, TV (.pointer (some ⟨q, 0, none⟩)), TI 0 99, TMac w1.heap.size, TVar w1.heap.size 28 [.slice none 0 0, .slice none 0 0, .int .i64 0, .int .i64 0, .int .i64 0, .bool false, .slice none 0 0, .bool false, .int .i64 0]])
    (by kernel_rfl) (by kernel_rfl) (by kernel_rfl) (stab_ty _ ⟨stab_tv _, stab_tv _, stab_tmem hS1, stab_tv _, stab_ti _ _, stab_tv _, stab_ti _ _, stab_ti _ _, stab_tv _, stab_ti _ _, stab_ti _ _, stab_tl _ _ _, stab_tv _, stab_ti _ _, stab_tp _ _, stab_ti _ _, stab_tv _, stab_ti _ _, stab_tb, stab_tv _, stab_ti _ _, stab_tmac hS1, stab_tvar hS1, trivial⟩)
    ⟨(Only.refl _ w1).trans (.of_below (Below.refl _ _).drew), R1.out.stay (Below.refl _ _).drew, trivial⟩ ?_ ?_
  · refine ⟨?_, ?_, ?_, ?_, ?_, ?_, ?_, ?_, ?_, ?_, ?_, ?_, ?_, ?_, ?_, ?_, ?_, ?_, ?_, ?_, ?_, ?_, ?_, trivial⟩
    · exact ob_wide fun m' hm' => ob_move rfl (.tmp 0) (.inl rfl) hqS hJ hJ fun ρ wx _ hx _ => hx 0 rfl
    · exact ob_wide fun m' hm' => ob_move rfl (.tmp 1) (.inl rfl) hqS hJ hJ fun ρ wx _ hx _ => hx 1 rfl
    · exact ob_mem rfl (.tmp 7) (.tmp 8) nn _ rfl hqS hJ hJ (by simp; omega) hn hn2 (fun ρ wx hp => ⟨hp.1 rfl, hp.2.1 rfl⟩) (fun _ _ h => h)
    · exact ob_wide fun m' hm' => ob_move rfl (.tmp 0) (.inl rfl) hqS hJ hJ fun ρ wx _ hx _ => hx 0 rfl
    · exact ob_wide fun m' hm' => ob_pick rfl (.tmp 10) 256 _ rfl hqS hJ hJ (by simp at hm' ⊢; omega) (by omega) (by omega) (fun ρ wx hp => hp.1 rfl) (fun _ _ h => h)
    · exact ob_wide fun m' hm' => ob_move rfl (.tmp 0) (.inl rfl) hqS hJ hJ fun ρ wx _ hx _ => hx 0 rfl
    · exact ob_wide fun m' hm' => ob_pick rfl (.tmp 12) 30 _ rfl hqS hJ hJ (by simp at hm' ⊢; omega) (by omega) (by omega) (fun ρ wx hp => hp.1 rfl) (fun _ _ h => h)
    · exact ob_wide fun m' hm' => ob_add rfl (.const (.int .i64 512)) (.tmp 13) 512 0 29 512 541 _ _ rfl rfl hqS hJ hJ (fun ρ wx hc hp => .inr ⟨hp.1 rfl, hc _⟩) (by omega) (by omega) (by omega) (by omega) (fun _ _ h => h)
    · exact ob_wide fun m' hm' => ob_move rfl (.tmp 0) (.inl rfl) hqS hJ hJ fun ρ wx _ hx _ => hx 0 rfl
    · exact ob_wide fun m' hm' => ob_pick rfl (.tmp 15) 256 _ rfl hqS hJ hJ (by simp at hm' ⊢; omega) (by omega) (by omega) (fun ρ wx hp => hp.1 rfl) (fun _ _ h => h)
    · exact ob_wide fun m' hm' => ob_mul rfl (.tmp 16) (.const (.int .i64 4)) 4 0 255 0 1020 _ _ rfl rfl hqS hJ hJ (fun ρ wx hc hp => ⟨hp.1 rfl, hc _⟩) (by omega) (by omega) (by omega) (by omega) (by omega) (fun _ _ h => h)
    · refine ob_wide fun m' hm' => ob_build rfl 3 0 1020 hqS hJ hJ hS1 (fun ρ wx hc hx hp => ?_) (fun _ _ h => h)
      obtain ⟨z, hz, z0, z1⟩ : TI 512 541 (ρ (.tmp 14)) wx := hp.1 rfl
      obtain ⟨z', hz', z0', z1'⟩ : TI 0 1020 (ρ (.tmp 17)) wx := hp.2.1 rfl
      refine ⟨#[.int .i64 512, .int .i64 z, .int .i64 z'], ?_, ?_⟩
      · unfold execOp
        simp only [List.map_toArray, List.map_cons, List.map_nil, hc, hz, hz']
        clear hx hp hc hz hz'
        go_simp
      · intro j hj
        have h : j = 0 ∨ j = 1 ∨ j = 2 := by omega
        rcases h with rfl | rfl | rfl <;> exact ⟨_, rfl, by omega, by omega⟩
    · exact ob_wide fun m' hm' => ob_move rfl (.tmp 0) (.inl rfl) hqS hJ hJ fun ρ wx _ hx _ => hx 0 rfl
    · exact ob_wide fun m' hm' => ob_pick rfl (.tmp 19) 3 _ rfl hqS hJ hJ (by simp at hm' ⊢; omega) (by omega) (by omega) (fun ρ wx hp => hp.1 rfl) (fun _ _ h => h)
    · exact ob_wide fun m' hm' => ob_index rfl (.tmp 18) (.tmp 20) 3 0 1020 rfl hqS hJ hJ (fun ρ wx hp => ⟨hp.1 rfl, hp.2.1 rfl⟩) (fun _ _ h => h)
    · exact ob_wide fun m' hm' => ob_load rfl (.tmp 21) 0 1020 rfl hqS hJ hJ (fun ρ wx hp => hp.1 rfl) (fun _ _ h => h)
    · exact ob_wide fun m' hm' => ob_move rfl (.tmp 0) (.inl rfl) hqS hJ hJ fun ρ wx _ hx _ => hx 0 rfl
    · exact ob_wide fun m' hm' => ob_pick rfl (.tmp 23) 2 _ rfl hqS hJ hJ (by simp at hm' ⊢; omega) (by omega) (by omega) (fun ρ wx hp => hp.1 rfl) (fun _ _ h => h)
    · refine ob_wide fun m' hm' => ob_some rfl hqS hJ hJ fun ρ kk wx hI hc hx hp => ?_
      obtain ⟨z, hz, z0, z1⟩ : TI 0 1 (ρ (.tmp 24)) wx := hp.1 rfl
      refine ⟨.bool (z == 0), ?_, _, rfl⟩
      have hk := hc (.int .i64 0)
      unfold execOp
      simp only [hz, hk]
      clear hx hp hc hI hz hk
      go_simp
    · exact ob_wide fun m' hm' => ob_move rfl (.tmp 0) (.inl rfl) hqS hJ hJ fun ρ wx _ hx _ => hx 0 rfl
    · exact ob_wide fun m' hm' => ob_pick rfl (.tmp 26) 100 _ rfl hqS hJ hJ (by simp at hm' ⊢; omega) (by omega) (by omega) (fun ρ wx hp => hp.1 rfl) (fun _ _ h => h)
    · refine ob_wide fun m' hm' => ob_some rfl hqS hJ hJ fun ρ kk wx hI hc hx hp => ?_
      obtain ⟨A, n, c, R, k, d, M, fa, fr, h9, mo⟩ : TMem w1.heap.size (ρ (.tmp 9)) wx := hp.1 rfl
      obtain ⟨a, h11, _, _⟩ : TI 0 255 (ρ (.tmp 11)) wx := hp.2.1 rfl
      obtain ⟨t, h22, _, _⟩ : TI 0 1020 (ρ (.tmp 22)) wx := hp.2.2.1 rfl
      obtain ⟨y, h25⟩ : TB (ρ (.tmp 25)) wx := hp.2.2.2.1 rfl
      obtain ⟨z, h27, _, hz9⟩ : TI 0 99 (ρ (.tmp 27)) wx := hp.2.2.2.2.1 rfl
      refine ⟨.agg #[.slice A n c, .slice R k d, .int .i64 M.bank, .int .i64 a, .int .i64 t, .bool y, .slice none 0 0, .bool false, .int .i64 z], ?_, A, n, c, R, k, d, M, fa, fr, a, t, z, y, rfl, hz9, mo⟩
      clear mo
      unfold execOp
      simp only [List.map_toArray, List.map_cons, List.map_nil, h9, h11, h22, h25, h27]
      clear hx hp hc hI h9 h11 h22 h25 h27
      go_simp
    · refine ob_wide fun m' hm' => ob_var rfl hqS hJ hJ (fun ρ wx => ?_) (fun _ _ h => h)
      unfold execOp
      go_simp
  · intro vs wx hI hF
    obtain ⟨_, _, _, _, _, _, _, _, _, _, _, _, _, _, _, _, _, _, _, _, _, ⟨A, n, c, R, k, d, M, fa, fr, a, t, z, y, h21, hz9, mo⟩, ⟨b, h22, hL, hb⟩, _⟩ := hF
    have hof := mo.off hb
    have H2 := Lib.hid (And.intro hI.only hI.rd)
    have BX := Lib.hid hb
    have MO := Lib.hid mo
    replace h21 : vs 21 = .agg #[.slice A n c, .slice R k d, .int .i64 M.bank, .int .i64 a, .int .i64 t, .bool y, .slice none 0 0, .bool false, .int .i64 z] := h21
    replace h22 : vs 22 = .pointer (some ⟨b, 0, none⟩) := h22
    simp only [putAll, Act.put, List.setIfInBounds_toArray, List.set_cons_zero, List.set_cons_succ, h21, h22]
    have c0 := hb.cell 0
    have e0 := hb.frozen 0
    have c1 := hb.cell 1
    have e1 := hb.frozen 1
    have c2 := hb.cell 2
    have e2 := hb.frozen 2
    have c3 := hb.cell 3
    have e3 := hb.frozen 3
    have c4 := hb.cell 4
    have e4 := hb.frozen 4
    have c5 := hb.cell 5
    have e5 := hb.frozen 5
    have c6 := hb.cell 6
    have e6 := hb.frozen 6
    have c7 := hb.cell 7
    have e7 := hb.frozen 7
    have c8 := hb.cell 8
    have e8 := hb.frozen 8
    clear hI hb h21 h22 mo
    refine ⟨(((((((((wx.setCell ⟨b, 0, none⟩ (.slice A n c)).setCell ⟨b, 1, none⟩ (.slice R k d)).setCell ⟨b, 2, none⟩ (.int .i64 M.bank)).setCell ⟨b, 3, none⟩ (.int .i64 a)).setCell ⟨b, 4, none⟩ (.int .i64 t)).setCell ⟨b, 5, none⟩ (.bool y)).setCell ⟨b, 6, none⟩ (.slice none 0 0)).setCell ⟨b, 7, none⟩ (.bool false)).setCell ⟨b, 8, none⟩ (.int .i64 z)), ?_, ?_⟩
    · unfold execOp
      go_simp
    have sz := H2.out.1.size
    have OB : Only [b] wx (((((((((wx.setCell ⟨b, 0, none⟩ (.slice A n c)).setCell ⟨b, 1, none⟩ (.slice R k d)).setCell ⟨b, 2, none⟩ (.int .i64 M.bank)).setCell ⟨b, 3, none⟩ (.int .i64 a)).setCell ⟨b, 4, none⟩ (.int .i64 t)).setCell ⟨b, 5, none⟩ (.bool y)).setCell ⟨b, 6, none⟩ (.slice none 0 0)).setCell ⟨b, 7, none⟩ (.bool false)).setCell ⟨b, 8, none⟩ (.int .i64 z)) := ((((((((((Only.refl [b] wx).setCell (.inl (by simp)) _).setCell (.inl (by simp)) _).setCell (.inl (by simp)) _).setCell (.inl (by simp)) _).setCell (.inl (by simp)) _).setCell (.inl (by simp)) _).setCell (.inl (by simp)) _).setCell (.inl (by simp)) _).setCell (.inl (by simp)) _)
    have MI : Hid (MachIn (((((((((wx.setCell ⟨b, 0, none⟩ (.slice A n c)).setCell ⟨b, 1, none⟩ (.slice R k d)).setCell ⟨b, 2, none⟩ (.int .i64 M.bank)).setCell ⟨b, 3, none⟩ (.int .i64 a)).setCell ⟨b, 4, none⟩ (.int .i64 t)).setCell ⟨b, 5, none⟩ (.bool y)).setCell ⟨b, 6, none⟩ (.slice none 0 0)).setCell ⟨b, 7, none⟩ (.bool false)).setCell ⟨b, 8, none⟩ (.int .i64 z)) b A c R d none 0 n k 0 ⟨M, a, t, y, [], false, z⟩ fa fr [] w1.heap.size) :=
      ⟨(((((((((BX.out.set 0 _).set 1 _).set 2 _).set 3 _).set 4 _).set 5 _).set 6 _).set 7 _).set 8 _), ⟨(MO.out.same (.of_only OB fun x hx hs => by simp at hs; subst hs; exact hof hx)).ram, (MO.out.same (.of_only OB fun x hx hs => by simp at hs; subst hs; exact hof hx)).rom, .nil _ _⟩, by rw [List.append_nil]; exact (MO.out.same (.of_only OB fun x hx hs => by simp at hs; subst hs; exact hof hx)).new, ⟨rfl, .inl ⟨rfl, rfl⟩⟩, by simp [Value.ownBlock], by rw [List.append_nil]; exact hof, hL, MO.out.n, MO.out.k, Nat.le_refl _⟩
    have lb : w.heap.size < b := by omega
    have MA : Hid (MacAt w (((((((((wx.setCell ⟨b, 0, none⟩ (.slice A n c)).setCell ⟨b, 1, none⟩ (.slice R k d)).setCell ⟨b, 2, none⟩ (.int .i64 M.bank)).setCell ⟨b, 3, none⟩ (.int .i64 a)).setCell ⟨b, 4, none⟩ (.int .i64 t)).setCell ⟨b, 5, none⟩ (.bool y)).setCell ⟨b, 6, none⟩ (.slice none 0 0)).setCell ⟨b, 7, none⟩ (.bool false)).setCell ⟨b, 8, none⟩ (.int .i64 z)) q (m + 18400) b w1.heap.size ⟨M, a, t, y, [], false, z⟩) :=
      ⟨MI.out.here, ((((((((((X1.out.only H2.out.1 (by simp; omega)).far (Nat.ne_of_lt lb) _).far (Nat.ne_of_lt lb) _).far (Nat.ne_of_lt lb) _).far (Nat.ne_of_lt lb) _).far (Nat.ne_of_lt lb) _).far (Nat.ne_of_lt lb) _).far (Nat.ne_of_lt lb) _).far (Nat.ne_of_lt lb) _).far (Nat.ne_of_lt lb) _), ((((((((((O1.out.trans H2.out.1).setCell (.inr (Nat.le_of_lt lb)) _).setCell (.inr (Nat.le_of_lt lb)) _).setCell (.inr (Nat.le_of_lt lb)) _).setCell (.inr (Nat.le_of_lt lb)) _).setCell (.inr (Nat.le_of_lt lb)) _).setCell (.inr (Nat.le_of_lt lb)) _).setCell (.inr (Nat.le_of_lt lb)) _).setCell (.inr (Nat.le_of_lt lb)) _).setCell (.inr (Nat.le_of_lt lb)) _), ((((((((((H2.out.2.far (by omega) _).far (by omega) _).far (by omega) _).far (by omega) _).far (by omega) _).far (by omega) _).far (by omega) _).far (by omega) _).far (by omega) _).mono (by simp)), z1, hq, ⟨MO.out.small.ram, MO.out.small.rom, MO.out.small.row, by simp⟩, hz9⟩
    generalize (((((((((wx.setCell ⟨b, 0, none⟩ (.slice A n c)).setCell ⟨b, 1, none⟩ (.slice R k d)).setCell ⟨b, 2, none⟩ (.int .i64 M.bank)).setCell ⟨b, 3, none⟩ (.int .i64 a)).setCell ⟨b, 4, none⟩ (.int .i64 t)).setCell ⟨b, 5, none⟩ (.bool y)).setCell ⟨b, 6, none⟩ (.slice none 0 0)).setCell ⟨b, 7, none⟩ (.bool false)).setCell ⟨b, 8, none⟩ (.int .i64 z)) = w3 at MA MI
    clear H2 BX MO OB MI hof c0 c1 c2 c3 c4 c5 c6 c7 c8 e0 e1 e2 e3 e4 e5 e6 e7 e8
    go_wp2_with fail
    refine (pick_any q _ 9 _ MA.out.rd (by omega) (by omega) (by omega)).mono ?_
    rintro e w4 ⟨jj, j0, j1, rfl, s4, r4⟩
    obtain ⟨J, rfl⟩ := Int.eq_ofNat_of_zero_le j0
    have M4 := Lib.hid (MA.out.other s4.only r4)
    clear s4 r4 MA j0
    go_wp2_with fail
    go_loopw [6] (fun v wr => ∃ (j : Nat) (X : Mach), j ≤ 8 ∧ v = .int .i64 j ∧ X.back.length + j ≤ 8 ∧ X.stop = false ∧ MacAt w wr q (m + 18401 + 2 * (8 - j)) b w1.heap.size X) (fun v _ => (intOf v).toNat)
    case atStart => exact ⟨J, _, by omega, rfl, by simp; omega, rfl, M4.out.other (Only.refl _ _) (M4.out.rd.mono (by omega))⟩
    case round =>
      obtain ⟨j, X, hj, rfl, hlen, hst, hma⟩ := hrel
      have MA := Lib.hid hma
      have HS := Lib.hid hst
      clear hma hst M4
      by_cases hjp : 0 < j
      · have t2 : (0 : Int) < (j : Int) := by omega
        go_wp2_with fail
        refine (pick_any q _ 2 _ MA.out.rd (by omega) (by omega) (by omega)).mono ?_
        rintro e w5 ⟨z5, z50, z51, rfl, s5, r5⟩
        have M5 := Lib.hid (MA.out.other s5.only r5)
        clear s5 r5 MA
        by_cases hz5 : z5 = 0
        · subst hz5
          obtain ⟨A, cp, R, d, B, g, n, k, mm, fa, fr, fb, hmi⟩ := M5.out.mach
          have MI := Lib.hid hmi
          have hml := Lib.hid (show mm = X.back.length from hmi.has.back.1.symm)
          have zb : b < w5.heap.size := hmi.box.lt
          clear hmi
          have mm8 : mm ≤ 8 := by have := hml.out; omega
          have MD : Hid (MachIn w5.drew b A cp R d B g n k mm X fa fr fb w1.heap.size) := MI.out.below (Below.refl _ _).drew
          have RD : Hid (Rd w5.drew q (m + 18401 + 2 * (8 - j) + 1)) := M5.out.rd.stay (Below.refl _ _).drew
          have e6 : w5.cell? ⟨b, 6, none⟩ = some (.slice B mm g) := MI.out.box.cell 6
          go_wp2_with fail
          go_region_law (first
            | (go_simp; go_at_call 39; refine (pick_any q _ 30 _ RD.out (by omega) (by omega) (by omega)).mono ?_; rintro e w6 ⟨v, v0, v1, rfl, s6, r6⟩; have MI6 := Lib.hid (MD.out.only s6.only (by simp; omega)); have RD6 := Lib.hid r6; have t6 : w6.cell? ⟨b, 6, none⟩ = some (.slice B mm g) := MI6.out.box.cell 6; have zb6 : b < w6.heap.size := MI6.out.box.lt; have hw : IntKind.i64.wrap (512 + v) = 512 + v := IntWalk.i64_in _ (by omega); have OS := Lib.hid s6.only; have hL6 : w1.heap.size ≤ (w6.alloc (.cells #[.int .i64 (512 + v)] 3)).heap.size := Nat.le_trans MI6.out.lt (below1 w6 _).size; have O6 := Lib.hid (own_keep MI6.out.own (below1 w6 (.cells #[.int .i64 (512 + v)] 3))); have I6 : Hid (Ints (w6.alloc (.cells #[.int .i64 (512 + v)] 3)) (some ⟨w6.heap.size, 0, none⟩) 1 [512 + v] [w6.heap.size]) := ints_one (Box.new w6 #[.int .i64 (512 + v)] 3); clear s6 r6)
            | ((with_reducible refine step_append_ints ?_ (.tmp 41) (.tmp 45) ?_ w1.heap.size (.slice B mm g) mm X.back ?_ O6.out (some ⟨w6.heap.size, 0, none⟩) 1 1 [512 + v] [w6.heap.size] ?_ I6.out ?_ hL6 ?_); rfl; rfl; rfl; rfl; omega; intro v7 w7 own7 gr7 at7; obtain ⟨B7, g7, _, rfl, _⟩ := own_ints own7; have O7 : Hid (Only (Value.slice B mm g).ownBlock.toList w6 w7) := (Only.of_below (below1 w6 _)).trans (grown_only gr7 fun b hb => by rw [hb]; simp); have qo : b ∉ (Value.slice B mm g).ownBlock.toList := fun hq => (MI6.out.sole b (by simpa using hq)).1 rfl; have X7 := Lib.hid (MI6.out.box.only O7.out qo); have y6 : w7.cell? ⟨b, 6, none⟩ = some (.slice B mm g) := X7.out.cell 6; have z6 := X7.out.frozen 6; have OW := Lib.hid own7; have AT := Lib.hid at7; clear own7 gr7 at7 qo))
          all_goals
            obtain ⟨h8, b8⟩ := MI6.out.rest (xs := X.back ++ [512 + v]) OW.out O7.out (fun b hb => by simpa using hb) (fun b hb => by
              rcases AT.out with e | e
              · rw [e] at hb; exact .inl hb
              · rw [e] at hb; injection hb with hb; have := (below1 w6 (.cells #[.int .i64 (512 + v)] 3)).size; exact .inr (by omega))
            have M6 : Hid (MacAt w w6 q (m + 18401 + 2 * (8 - j) + 1 + 1) b w1.heap.size X) := (M5.out.other (Only.refl _ _) M5.out.rd).other ((Only.of_below (Below.refl _ _).drew).trans OS.out) RD6.out
            have M8 := Lib.hid (M6.out.turn h8 b8 ⟨M6.out.fit.ram, M6.out.fit.rom, M6.out.fit.row, by have := hml.out; simp; omega⟩ M6.out.cyc)
            clear h8 b8
            go_wp2_with fail
            go_roundw
            case rel => exact ⟨j - 1, { X with back := X.back ++ [512 + v] }, by omega, int_eq (by omega), by simp; omega, HS.out, M8.out.other (Only.refl _ _) (M8.out.rd.mono (by omega))⟩
            case measure => simp [intOf]; omega
        · have hz6 : (z5 == 0) = false := by simpa using hz5
          obtain ⟨C5, hC5, hC6⟩ : ∃ C5, C5 ≤ m + 18500 ∧ m + 18401 + 2 * (8 - j) + 1 = C5 := ⟨_, by omega, rfl⟩
          rw [hC6] at M5
          clear hC6
          go_wp2_with fail
          refine (odd_any q _ 12 _ M5.out.rd (by omega) (by omega) (by omega)).mono ?_
          rintro e w6 ⟨bb, rfl, s6, r6⟩
          have M6 := Lib.hid (M5.out.other s6.only r6)
          clear s6 r6 M5
          obtain ⟨A, cp, R, d, B, g, n, k, mm, fa, fr, fb, hmi⟩ := M6.out.mach
          have h7 := Lib.hid (hmi.store 7 (.bool bb) { X with stop := bb } rfl rfl rfl rfl)
          have M7 := Lib.hid (M6.out.turn h7.out.here (hmi.stored 7 (.bool bb)) ⟨M6.out.fit.ram, M6.out.fit.rom, M6.out.fit.row, M6.out.fit.back⟩ M6.out.cyc)
          have k0 := hmi.box.cell 7
          have k1 := hmi.box.frozen 7
          clear hmi h7
          go_upto_region 7 with (fail)
          generalize hX7 : ({ X with stop := bb } : Mach) = X7 at M7
          generalize w6.setCell ⟨b, 7, none⟩ (.bool bb) = w7 at M7 ⊢
          clear k0 k1 M6 hX7 A cp R d B g n k mm fa fr fb
          go_wp2_with fail
          refine (odd_any q _ nn _ M7.out.rd (by omega) hn (by omega)).mono ?_
          rintro e w8 ⟨bc, rfl, s8, r8⟩
          have M8 := Lib.hid (M7.out.other s8.only r8)
          clear s8 r8 M7
          cases bc
          · obtain ⟨A, cp, R, d, B, g, n, k, mm, fa, fr, fb, hmi⟩ := M8.out.mach
            have MI := Lib.hid hmi
            have MA := M8
            have zb : b < w8.heap.size := hmi.box.lt
            have zq : q < w8.heap.size := MA.out.rd.lt
            clear hmi M8
            have c0 : w8.cell? ⟨b, 0, none⟩ = some (.slice A n cp) := MI.out.box.cell 0
            have c1 : w8.cell? ⟨b, 1, none⟩ = some (.slice R k d) := MI.out.box.cell 1
            have c2 : w8.cell? ⟨b, 2, none⟩ = some (.int .i64 X7.mem.bank) := MI.out.box.cell 2
            have c3 : w8.cell? ⟨b, 3, none⟩ = some (.int .i64 X7.a) := MI.out.box.cell 3
            have c4 : w8.cell? ⟨b, 4, none⟩ = some (.int .i64 X7.at_) := MI.out.box.cell 4
            have c5 : w8.cell? ⟨b, 5, none⟩ = some (.bool X7.carry) := MI.out.box.cell 5
            have c6 : w8.cell? ⟨b, 6, none⟩ = some (.slice B mm g) := MI.out.box.cell 6
            have c7 : w8.cell? ⟨b, 7, none⟩ = some (.bool X7.stop) := MI.out.box.cell 7
            have c8 : w8.cell? ⟨b, 8, none⟩ = some (.int .i64 X7.cyc) := MI.out.box.cell 8
            have e0 : w8.cell? ⟨w.heap.size, 0, none⟩ = some (.slice none 0 0) := MA.out.res.cell 0
            have f0 := MA.out.res.frozen 0
            have e1 : w8.cell? ⟨w.heap.size, 1, none⟩ = some (.slice none 0 0) := MA.out.res.cell 1
            have f1 := MA.out.res.frozen 1
            have e2 : w8.cell? ⟨w.heap.size, 2, none⟩ = some (.int .i64 0) := MA.out.res.cell 2
            have f2 := MA.out.res.frozen 2
            have e3 : w8.cell? ⟨w.heap.size, 3, none⟩ = some (.int .i64 0) := MA.out.res.cell 3
            have f3 := MA.out.res.frozen 3
            have e4 : w8.cell? ⟨w.heap.size, 4, none⟩ = some (.int .i64 0) := MA.out.res.cell 4
            have f4 := MA.out.res.frozen 4
            have e5 : w8.cell? ⟨w.heap.size, 5, none⟩ = some (.bool false) := MA.out.res.cell 5
            have f5 := MA.out.res.frozen 5
            have e6 : w8.cell? ⟨w.heap.size, 6, none⟩ = some (.slice none 0 0) := MA.out.res.cell 6
            have f6 := MA.out.res.frozen 6
            have e7 : w8.cell? ⟨w.heap.size, 7, none⟩ = some (.bool false) := MA.out.res.cell 7
            have f7 := MA.out.res.frozen 7
            have e8 : w8.cell? ⟨w.heap.size, 8, none⟩ = some (.int .i64 0) := MA.out.res.cell 8
            have f8 := MA.out.res.frozen 8
            go_wp2_with fail
            refine bodyPost_ret (v := .agg #[.slice A n cp, .slice R k d, .int .i64 X7.mem.bank, .int .i64 X7.a, .int .i64 X7.at_, .bool X7.carry, .slice B mm g, .bool X7.stop, .int .i64 X7.cyc]) (by simp [results, Tryd.results26, go_sem, e0, e1, e2, e3, e4, e5, e6, e7, e8]) rfl ?_
            exact MA.out.end_ (by omega) MI.out ((((((((((Only.refl [w.heap.size] w8).setCell (.inl (by simp)) _).setCell (.inl (by simp)) _).setCell (.inl (by simp)) _).setCell (.inl (by simp)) _).setCell (.inl (by simp)) _).setCell (.inl (by simp)) _).setCell (.inl (by simp)) _).setCell (.inl (by simp)) _).setCell (.inl (by simp)) _)
          · go_wp2_with fail
            refine (pick_any q _ 4 _ M8.out.rd (by omega) (by omega) (by omega)).mono ?_
            rintro e w9 ⟨sw, sw0, sw1, rfl, s9, r9⟩
            have M9 := Lib.hid (M8.out.other s9.only r9)
            clear s9 r9 M8
            have M8 := M9
            clear M9
            have hsw : sw = 0 ∨ sw = 1 ∨ sw = 2 ∨ sw = 3 := by omega
            rcases hsw with rfl | rfl | rfl | rfl
            · clear sw0 sw1
              go_wp2_with fail
              refine (pick_any q _ 2 _ (M8.out.rd.alloc _) (by omega) (by omega) (by omega)).mono ?_
              rintro e w10 ⟨v, v0, v1, rfl, s9, r9⟩
              obtain ⟨u, hu⟩ := pick_pair (-1) 256 v v0 v1
              have cu := lit_at2 s9 M8.out.rd.lt hu
              have M9 := Lib.hid (M8.out.other (((Only.refl _ _).alloc _).trans s9.only) r9)
              have vn : v < ((2 : Nat) : Int) := by omega
              clear s9 r9 M8 hu
              obtain ⟨A, cp, R, d, B, g, n, k, mm, fa, fr, fb, hmi⟩ := M9.out.mach
              have MI := Lib.hid hmi
              have MA := M9
              have zb : b < w10.heap.size := hmi.box.lt
              have zq : q < w10.heap.size := MA.out.rd.lt
              clear hmi M9
              have k0 := MI.out.box.cell 3
              have k1 := MI.out.box.frozen 3
              have MI9 := Lib.hid (MI.out.store 3 (.int .i64 u) { X7 with a := u } rfl rfl rfl rfl)
              have MA9 := Lib.hid (MA.out.turn MI9.out.here (MI.out.stored 3 (.int .i64 u)) ⟨MA.out.fit.ram, MA.out.fit.rom, MA.out.fit.row, MA.out.fit.back⟩ MA.out.cyc)
              go_upto_region 16 with (fail)
              generalize hY : ({ X7 with a := u } : Mach) = Y at MI9 MA9
              generalize w10.setCell ⟨b, 3, none⟩ (.int .i64 u) = W9 at MI9 MA9 ⊢
              clear hY
              clear k0 k1 cu MI MA
              have c0 : W9.cell? ⟨b, 0, none⟩ = some (.slice A n cp) := MI9.out.box.cell 0
              have c1 : W9.cell? ⟨b, 1, none⟩ = some (.slice R k d) := MI9.out.box.cell 1
              have c2 : W9.cell? ⟨b, 2, none⟩ = some (.int .i64 Y.mem.bank) := MI9.out.box.cell 2
              have c3 : W9.cell? ⟨b, 3, none⟩ = some (.int .i64 Y.a) := MI9.out.box.cell 3
              have c4 : W9.cell? ⟨b, 4, none⟩ = some (.int .i64 Y.at_) := MI9.out.box.cell 4
              have c5 : W9.cell? ⟨b, 5, none⟩ = some (.bool Y.carry) := MI9.out.box.cell 5
              have c6 : W9.cell? ⟨b, 6, none⟩ = some (.slice B mm g) := MI9.out.box.cell 6
              have c7 : W9.cell? ⟨b, 7, none⟩ = some (.bool Y.stop) := MI9.out.box.cell 7
              have c8 : W9.cell? ⟨b, 8, none⟩ = some (.int .i64 Y.cyc) := MI9.out.box.cell 8
              have e0 : W9.cell? ⟨w.heap.size, 0, none⟩ = some (.slice none 0 0) := MA9.out.res.cell 0
              have f0 := MA9.out.res.frozen 0
              have e1 : W9.cell? ⟨w.heap.size, 1, none⟩ = some (.slice none 0 0) := MA9.out.res.cell 1
              have f1 := MA9.out.res.frozen 1
              have e2 : W9.cell? ⟨w.heap.size, 2, none⟩ = some (.int .i64 0) := MA9.out.res.cell 2
              have f2 := MA9.out.res.frozen 2
              have e3 : W9.cell? ⟨w.heap.size, 3, none⟩ = some (.int .i64 0) := MA9.out.res.cell 3
              have f3 := MA9.out.res.frozen 3
              have e4 : W9.cell? ⟨w.heap.size, 4, none⟩ = some (.int .i64 0) := MA9.out.res.cell 4
              have f4 := MA9.out.res.frozen 4
              have e5 : W9.cell? ⟨w.heap.size, 5, none⟩ = some (.bool false) := MA9.out.res.cell 5
              have f5 := MA9.out.res.frozen 5
              have e6 : W9.cell? ⟨w.heap.size, 6, none⟩ = some (.slice none 0 0) := MA9.out.res.cell 6
              have f6 := MA9.out.res.frozen 6
              have e7 : W9.cell? ⟨w.heap.size, 7, none⟩ = some (.bool false) := MA9.out.res.cell 7
              have f7 := MA9.out.res.frozen 7
              have e8 : W9.cell? ⟨w.heap.size, 8, none⟩ = some (.int .i64 0) := MA9.out.res.cell 8
              have f8 := MA9.out.res.frozen 8
              go_wp2_with fail
              refine bodyPost_ret (v := .agg #[.slice A n cp, .slice R k d, .int .i64 Y.mem.bank, .int .i64 Y.a, .int .i64 Y.at_, .bool Y.carry, .slice B mm g, .bool Y.stop, .int .i64 Y.cyc]) (by simp [results, Tryd.results26, go_sem, e0, e1, e2, e3, e4, e5, e6, e7, e8]) rfl ?_
              exact MA9.out.end_ (by omega) MI9.out ((((((((((Only.refl [w.heap.size] W9).setCell (.inl (by simp)) _).setCell (.inl (by simp)) _).setCell (.inl (by simp)) _).setCell (.inl (by simp)) _).setCell (.inl (by simp)) _).setCell (.inl (by simp)) _).setCell (.inl (by simp)) _).setCell (.inl (by simp)) _).setCell (.inl (by simp)) _)
            · clear sw0 sw1
              go_wp2_with fail
              refine (pick_any q _ 2 _ (M8.out.rd.alloc _) (by omega) (by omega) (by omega)).mono ?_
              rintro e w10 ⟨v, v0, v1, rfl, s9, r9⟩
              obtain ⟨u, hu⟩ := pick_pair (-1) 1024 v v0 v1
              have cu := lit_at2 s9 M8.out.rd.lt hu
              have M9 := Lib.hid (M8.out.other (((Only.refl _ _).alloc _).trans s9.only) r9)
              have vn : v < ((2 : Nat) : Int) := by omega
              clear s9 r9 M8 hu
              obtain ⟨A, cp, R, d, B, g, n, k, mm, fa, fr, fb, hmi⟩ := M9.out.mach
              have MI := Lib.hid hmi
              have MA := M9
              have zb : b < w10.heap.size := hmi.box.lt
              have zq : q < w10.heap.size := MA.out.rd.lt
              clear hmi M9
              have k0 := MI.out.box.cell 4
              have k1 := MI.out.box.frozen 4
              have MI9 := Lib.hid (MI.out.store 4 (.int .i64 u) { X7 with at_ := u } rfl rfl rfl rfl)
              have MA9 := Lib.hid (MA.out.turn MI9.out.here (MI.out.stored 4 (.int .i64 u)) ⟨MA.out.fit.ram, MA.out.fit.rom, MA.out.fit.row, MA.out.fit.back⟩ MA.out.cyc)
              go_upto_region 16 with (fail)
              generalize hY : ({ X7 with at_ := u } : Mach) = Y at MI9 MA9
              generalize w10.setCell ⟨b, 4, none⟩ (.int .i64 u) = W9 at MI9 MA9 ⊢
              clear hY
              clear k0 k1 cu MI MA
              have c0 : W9.cell? ⟨b, 0, none⟩ = some (.slice A n cp) := MI9.out.box.cell 0
              have c1 : W9.cell? ⟨b, 1, none⟩ = some (.slice R k d) := MI9.out.box.cell 1
              have c2 : W9.cell? ⟨b, 2, none⟩ = some (.int .i64 Y.mem.bank) := MI9.out.box.cell 2
              have c3 : W9.cell? ⟨b, 3, none⟩ = some (.int .i64 Y.a) := MI9.out.box.cell 3
              have c4 : W9.cell? ⟨b, 4, none⟩ = some (.int .i64 Y.at_) := MI9.out.box.cell 4
              have c5 : W9.cell? ⟨b, 5, none⟩ = some (.bool Y.carry) := MI9.out.box.cell 5
              have c6 : W9.cell? ⟨b, 6, none⟩ = some (.slice B mm g) := MI9.out.box.cell 6
              have c7 : W9.cell? ⟨b, 7, none⟩ = some (.bool Y.stop) := MI9.out.box.cell 7
              have c8 : W9.cell? ⟨b, 8, none⟩ = some (.int .i64 Y.cyc) := MI9.out.box.cell 8
              have e0 : W9.cell? ⟨w.heap.size, 0, none⟩ = some (.slice none 0 0) := MA9.out.res.cell 0
              have f0 := MA9.out.res.frozen 0
              have e1 : W9.cell? ⟨w.heap.size, 1, none⟩ = some (.slice none 0 0) := MA9.out.res.cell 1
              have f1 := MA9.out.res.frozen 1
              have e2 : W9.cell? ⟨w.heap.size, 2, none⟩ = some (.int .i64 0) := MA9.out.res.cell 2
              have f2 := MA9.out.res.frozen 2
              have e3 : W9.cell? ⟨w.heap.size, 3, none⟩ = some (.int .i64 0) := MA9.out.res.cell 3
              have f3 := MA9.out.res.frozen 3
              have e4 : W9.cell? ⟨w.heap.size, 4, none⟩ = some (.int .i64 0) := MA9.out.res.cell 4
              have f4 := MA9.out.res.frozen 4
              have e5 : W9.cell? ⟨w.heap.size, 5, none⟩ = some (.bool false) := MA9.out.res.cell 5
              have f5 := MA9.out.res.frozen 5
              have e6 : W9.cell? ⟨w.heap.size, 6, none⟩ = some (.slice none 0 0) := MA9.out.res.cell 6
              have f6 := MA9.out.res.frozen 6
              have e7 : W9.cell? ⟨w.heap.size, 7, none⟩ = some (.bool false) := MA9.out.res.cell 7
              have f7 := MA9.out.res.frozen 7
              have e8 : W9.cell? ⟨w.heap.size, 8, none⟩ = some (.int .i64 0) := MA9.out.res.cell 8
              have f8 := MA9.out.res.frozen 8
              go_wp2_with fail
              refine bodyPost_ret (v := .agg #[.slice A n cp, .slice R k d, .int .i64 Y.mem.bank, .int .i64 Y.a, .int .i64 Y.at_, .bool Y.carry, .slice B mm g, .bool Y.stop, .int .i64 Y.cyc]) (by simp [results, Tryd.results26, go_sem, e0, e1, e2, e3, e4, e5, e6, e7, e8]) rfl ?_
              exact MA9.out.end_ (by omega) MI9.out ((((((((((Only.refl [w.heap.size] W9).setCell (.inl (by simp)) _).setCell (.inl (by simp)) _).setCell (.inl (by simp)) _).setCell (.inl (by simp)) _).setCell (.inl (by simp)) _).setCell (.inl (by simp)) _).setCell (.inl (by simp)) _).setCell (.inl (by simp)) _).setCell (.inl (by simp)) _)
            · clear sw0 sw1
              have hmk := make9
              obtain ⟨A, cp, R, d, B, g, n, k, mm, fa, fr, fb, hmi⟩ := M8.out.mach
              have MI := Lib.hid hmi
              have MA := M8
              have zb : b < w9.heap.size := hmi.box.lt
              have zq : q < w9.heap.size := MA.out.rd.lt
              clear hmi M8
              have k0 := MI.out.box.cell 6
              have k1 := MI.out.box.frozen 6
              obtain ⟨h9, b9⟩ := MI.out.rest (xs := nines) (S := []) (own_made9 w9 w1.heap.size MI.out.lt) (.of_below (below1 w9 _)) (by simp) (fun x hx => .inr (by have h : some w9.heap.size = some x := hx; injection h; omega))
              have eW : (w9.alloc (.cells (madeCells #[.int .i64 0] 9) 3)).setCell ⟨b, 6, none⟩ (.slice (some ⟨w9.heap.size, 0, none⟩) 9 9) = (w9.setCell ⟨b, 6, none⟩ (.slice (some ⟨w9.heap.size, 0, none⟩) 9 9)).alloc (.cells (madeCells #[.int .i64 0] 9) 3) := by go_simp
              rw [eW] at h9 b9
              clear eW
              have MA9 := Lib.hid (MA.out.turn h9 b9 ⟨MA.out.fit.ram, MA.out.fit.rom, MA.out.fit.row, by show nines.length ≤ 256; decide⟩ MA.out.cyc)
              go_upto_region 16 with (fail)
              generalize hY : ({ X7 with back := nines } : Mach) = Y at MA9 h9
              generalize (w9.setCell ⟨b, 6, none⟩ (.slice (some ⟨w9.heap.size, 0, none⟩) 9 9)).alloc (.cells (madeCells #[.int .i64 0] 9) 3) = W9 at MA9 h9 ⊢
              clear hY k0 k1 MI MA b9 hmk
              obtain ⟨A, cp, R, d, B, g, n, k, mm, fa, fr, fb, hmi⟩ := h9
              have MI9 := Lib.hid hmi
              clear hmi
              have c0 : W9.cell? ⟨b, 0, none⟩ = some (.slice A n cp) := MI9.out.box.cell 0
              have c1 : W9.cell? ⟨b, 1, none⟩ = some (.slice R k d) := MI9.out.box.cell 1
              have c2 : W9.cell? ⟨b, 2, none⟩ = some (.int .i64 Y.mem.bank) := MI9.out.box.cell 2
              have c3 : W9.cell? ⟨b, 3, none⟩ = some (.int .i64 Y.a) := MI9.out.box.cell 3
              have c4 : W9.cell? ⟨b, 4, none⟩ = some (.int .i64 Y.at_) := MI9.out.box.cell 4
              have c5 : W9.cell? ⟨b, 5, none⟩ = some (.bool Y.carry) := MI9.out.box.cell 5
              have c6 : W9.cell? ⟨b, 6, none⟩ = some (.slice B mm g) := MI9.out.box.cell 6
              have c7 : W9.cell? ⟨b, 7, none⟩ = some (.bool Y.stop) := MI9.out.box.cell 7
              have c8 : W9.cell? ⟨b, 8, none⟩ = some (.int .i64 Y.cyc) := MI9.out.box.cell 8
              have e0 : W9.cell? ⟨w.heap.size, 0, none⟩ = some (.slice none 0 0) := MA9.out.res.cell 0
              have f0 := MA9.out.res.frozen 0
              have e1 : W9.cell? ⟨w.heap.size, 1, none⟩ = some (.slice none 0 0) := MA9.out.res.cell 1
              have f1 := MA9.out.res.frozen 1
              have e2 : W9.cell? ⟨w.heap.size, 2, none⟩ = some (.int .i64 0) := MA9.out.res.cell 2
              have f2 := MA9.out.res.frozen 2
              have e3 : W9.cell? ⟨w.heap.size, 3, none⟩ = some (.int .i64 0) := MA9.out.res.cell 3
              have f3 := MA9.out.res.frozen 3
              have e4 : W9.cell? ⟨w.heap.size, 4, none⟩ = some (.int .i64 0) := MA9.out.res.cell 4
              have f4 := MA9.out.res.frozen 4
              have e5 : W9.cell? ⟨w.heap.size, 5, none⟩ = some (.bool false) := MA9.out.res.cell 5
              have f5 := MA9.out.res.frozen 5
              have e6 : W9.cell? ⟨w.heap.size, 6, none⟩ = some (.slice none 0 0) := MA9.out.res.cell 6
              have f6 := MA9.out.res.frozen 6
              have e7 : W9.cell? ⟨w.heap.size, 7, none⟩ = some (.bool false) := MA9.out.res.cell 7
              have f7 := MA9.out.res.frozen 7
              have e8 : W9.cell? ⟨w.heap.size, 8, none⟩ = some (.int .i64 0) := MA9.out.res.cell 8
              have f8 := MA9.out.res.frozen 8
              go_wp2_with fail
              refine bodyPost_ret (v := .agg #[.slice A n cp, .slice R k d, .int .i64 Y.mem.bank, .int .i64 Y.a, .int .i64 Y.at_, .bool Y.carry, .slice B mm g, .bool Y.stop, .int .i64 Y.cyc]) (by simp [results, Tryd.results26, go_sem, e0, e1, e2, e3, e4, e5, e6, e7, e8]) rfl ?_
              exact MA9.out.end_ (by omega) MI9.out ((((((((((Only.refl [w.heap.size] W9).setCell (.inl (by simp)) _).setCell (.inl (by simp)) _).setCell (.inl (by simp)) _).setCell (.inl (by simp)) _).setCell (.inl (by simp)) _).setCell (.inl (by simp)) _).setCell (.inl (by simp)) _).setCell (.inl (by simp)) _).setCell (.inl (by simp)) _)
            · clear sw0 sw1
              obtain ⟨A, cp, R, d, B, g, n, k, mm, fa, fr, fb, hmi⟩ := M8.out.mach
              have MI := Lib.hid hmi
              have MA := M8
              have zb : b < w9.heap.size := hmi.box.lt
              have zq : q < w9.heap.size := MA.out.rd.lt
              clear hmi M8
              have k0 := MI.out.box.cell 8
              have k1 := MI.out.box.frozen 8
              have MI9 := Lib.hid (MI.out.store 8 (.int .i64 (-1)) { X7 with cyc := -1 } rfl rfl rfl rfl)
              have MA9 := Lib.hid (MA.out.turn MI9.out.here (MI.out.stored 8 (.int .i64 (-1))) ⟨MA.out.fit.ram, MA.out.fit.rom, MA.out.fit.row, MA.out.fit.back⟩ (by show (-1 : Int) ≤ 99; omega))
              go_upto_region 16 with (fail)
              generalize hY : ({ X7 with cyc := -1 } : Mach) = Y at MI9 MA9
              generalize w9.setCell ⟨b, 8, none⟩ (.int .i64 (-1)) = W9 at MI9 MA9 ⊢
              clear hY
              clear k0 k1 MI MA
              have c0 : W9.cell? ⟨b, 0, none⟩ = some (.slice A n cp) := MI9.out.box.cell 0
              have c1 : W9.cell? ⟨b, 1, none⟩ = some (.slice R k d) := MI9.out.box.cell 1
              have c2 : W9.cell? ⟨b, 2, none⟩ = some (.int .i64 Y.mem.bank) := MI9.out.box.cell 2
              have c3 : W9.cell? ⟨b, 3, none⟩ = some (.int .i64 Y.a) := MI9.out.box.cell 3
              have c4 : W9.cell? ⟨b, 4, none⟩ = some (.int .i64 Y.at_) := MI9.out.box.cell 4
              have c5 : W9.cell? ⟨b, 5, none⟩ = some (.bool Y.carry) := MI9.out.box.cell 5
              have c6 : W9.cell? ⟨b, 6, none⟩ = some (.slice B mm g) := MI9.out.box.cell 6
              have c7 : W9.cell? ⟨b, 7, none⟩ = some (.bool Y.stop) := MI9.out.box.cell 7
              have c8 : W9.cell? ⟨b, 8, none⟩ = some (.int .i64 Y.cyc) := MI9.out.box.cell 8
              have e0 : W9.cell? ⟨w.heap.size, 0, none⟩ = some (.slice none 0 0) := MA9.out.res.cell 0
              have f0 := MA9.out.res.frozen 0
              have e1 : W9.cell? ⟨w.heap.size, 1, none⟩ = some (.slice none 0 0) := MA9.out.res.cell 1
              have f1 := MA9.out.res.frozen 1
              have e2 : W9.cell? ⟨w.heap.size, 2, none⟩ = some (.int .i64 0) := MA9.out.res.cell 2
              have f2 := MA9.out.res.frozen 2
              have e3 : W9.cell? ⟨w.heap.size, 3, none⟩ = some (.int .i64 0) := MA9.out.res.cell 3
              have f3 := MA9.out.res.frozen 3
              have e4 : W9.cell? ⟨w.heap.size, 4, none⟩ = some (.int .i64 0) := MA9.out.res.cell 4
              have f4 := MA9.out.res.frozen 4
              have e5 : W9.cell? ⟨w.heap.size, 5, none⟩ = some (.bool false) := MA9.out.res.cell 5
              have f5 := MA9.out.res.frozen 5
              have e6 : W9.cell? ⟨w.heap.size, 6, none⟩ = some (.slice none 0 0) := MA9.out.res.cell 6
              have f6 := MA9.out.res.frozen 6
              have e7 : W9.cell? ⟨w.heap.size, 7, none⟩ = some (.bool false) := MA9.out.res.cell 7
              have f7 := MA9.out.res.frozen 7
              have e8 : W9.cell? ⟨w.heap.size, 8, none⟩ = some (.int .i64 0) := MA9.out.res.cell 8
              have f8 := MA9.out.res.frozen 8
              go_wp2_with fail
              refine bodyPost_ret (v := .agg #[.slice A n cp, .slice R k d, .int .i64 Y.mem.bank, .int .i64 Y.a, .int .i64 Y.at_, .bool Y.carry, .slice B mm g, .bool Y.stop, .int .i64 Y.cyc]) (by simp [results, Tryd.results26, go_sem, e0, e1, e2, e3, e4, e5, e6, e7, e8]) rfl ?_
              exact MA9.out.end_ (by omega) MI9.out ((((((((((Only.refl [w.heap.size] W9).setCell (.inl (by simp)) _).setCell (.inl (by simp)) _).setCell (.inl (by simp)) _).setCell (.inl (by simp)) _).setCell (.inl (by simp)) _).setCell (.inl (by simp)) _).setCell (.inl (by simp)) _).setCell (.inl (by simp)) _).setCell (.inl (by simp)) _)
      · obtain rfl : j = 0 := by omega
        obtain ⟨C5, hC5, hC6⟩ : ∃ C5, C5 ≤ m + 18500 ∧ m + 18401 + 2 * (8 - 0) = C5 := ⟨_, by omega, rfl⟩
        rw [hC6] at MA
        clear hC6
        go_wp2_with fail
        refine (odd_any q _ 12 _ MA.out.rd (by omega) (by omega) (by omega)).mono ?_
        rintro e w6 ⟨bb, rfl, s6, r6⟩
        have M6 := Lib.hid (MA.out.other s6.only r6)
        clear s6 r6 MA
        obtain ⟨A, cp, R, d, B, g, n, k, mm, fa, fr, fb, hmi⟩ := M6.out.mach
        have h7 := Lib.hid (hmi.store 7 (.bool bb) { X with stop := bb } rfl rfl rfl rfl)
        have M7 := Lib.hid (M6.out.turn h7.out.here (hmi.stored 7 (.bool bb)) ⟨M6.out.fit.ram, M6.out.fit.rom, M6.out.fit.row, M6.out.fit.back⟩ M6.out.cyc)
        have k0 := hmi.box.cell 7
        have k1 := hmi.box.frozen 7
        clear hmi h7
        go_upto_region 7 with (fail)
        generalize hX7 : ({ X with stop := bb } : Mach) = X7 at M7
        generalize w6.setCell ⟨b, 7, none⟩ (.bool bb) = w7 at M7 ⊢
        clear k0 k1 M6 hX7 A cp R d B g n k mm fa fr fb
        go_wp2_with fail
        refine (odd_any q _ nn _ M7.out.rd (by omega) hn (by omega)).mono ?_
        rintro e w8 ⟨bc, rfl, s8, r8⟩
        have M8 := Lib.hid (M7.out.other s8.only r8)
        clear s8 r8 M7
        cases bc
        · obtain ⟨A, cp, R, d, B, g, n, k, mm, fa, fr, fb, hmi⟩ := M8.out.mach
          have MI := Lib.hid hmi
          have MA := M8
          have zb : b < w8.heap.size := hmi.box.lt
          have zq : q < w8.heap.size := MA.out.rd.lt
          clear hmi M8
          have c0 : w8.cell? ⟨b, 0, none⟩ = some (.slice A n cp) := MI.out.box.cell 0
          have c1 : w8.cell? ⟨b, 1, none⟩ = some (.slice R k d) := MI.out.box.cell 1
          have c2 : w8.cell? ⟨b, 2, none⟩ = some (.int .i64 X7.mem.bank) := MI.out.box.cell 2
          have c3 : w8.cell? ⟨b, 3, none⟩ = some (.int .i64 X7.a) := MI.out.box.cell 3
          have c4 : w8.cell? ⟨b, 4, none⟩ = some (.int .i64 X7.at_) := MI.out.box.cell 4
          have c5 : w8.cell? ⟨b, 5, none⟩ = some (.bool X7.carry) := MI.out.box.cell 5
          have c6 : w8.cell? ⟨b, 6, none⟩ = some (.slice B mm g) := MI.out.box.cell 6
          have c7 : w8.cell? ⟨b, 7, none⟩ = some (.bool X7.stop) := MI.out.box.cell 7
          have c8 : w8.cell? ⟨b, 8, none⟩ = some (.int .i64 X7.cyc) := MI.out.box.cell 8
          have e0 : w8.cell? ⟨w.heap.size, 0, none⟩ = some (.slice none 0 0) := MA.out.res.cell 0
          have f0 := MA.out.res.frozen 0
          have e1 : w8.cell? ⟨w.heap.size, 1, none⟩ = some (.slice none 0 0) := MA.out.res.cell 1
          have f1 := MA.out.res.frozen 1
          have e2 : w8.cell? ⟨w.heap.size, 2, none⟩ = some (.int .i64 0) := MA.out.res.cell 2
          have f2 := MA.out.res.frozen 2
          have e3 : w8.cell? ⟨w.heap.size, 3, none⟩ = some (.int .i64 0) := MA.out.res.cell 3
          have f3 := MA.out.res.frozen 3
          have e4 : w8.cell? ⟨w.heap.size, 4, none⟩ = some (.int .i64 0) := MA.out.res.cell 4
          have f4 := MA.out.res.frozen 4
          have e5 : w8.cell? ⟨w.heap.size, 5, none⟩ = some (.bool false) := MA.out.res.cell 5
          have f5 := MA.out.res.frozen 5
          have e6 : w8.cell? ⟨w.heap.size, 6, none⟩ = some (.slice none 0 0) := MA.out.res.cell 6
          have f6 := MA.out.res.frozen 6
          have e7 : w8.cell? ⟨w.heap.size, 7, none⟩ = some (.bool false) := MA.out.res.cell 7
          have f7 := MA.out.res.frozen 7
          have e8 : w8.cell? ⟨w.heap.size, 8, none⟩ = some (.int .i64 0) := MA.out.res.cell 8
          have f8 := MA.out.res.frozen 8
          go_wp2_with fail
          refine bodyPost_ret (v := .agg #[.slice A n cp, .slice R k d, .int .i64 X7.mem.bank, .int .i64 X7.a, .int .i64 X7.at_, .bool X7.carry, .slice B mm g, .bool X7.stop, .int .i64 X7.cyc]) (by simp [results, Tryd.results26, go_sem, e0, e1, e2, e3, e4, e5, e6, e7, e8]) rfl ?_
          exact MA.out.end_ (by omega) MI.out ((((((((((Only.refl [w.heap.size] w8).setCell (.inl (by simp)) _).setCell (.inl (by simp)) _).setCell (.inl (by simp)) _).setCell (.inl (by simp)) _).setCell (.inl (by simp)) _).setCell (.inl (by simp)) _).setCell (.inl (by simp)) _).setCell (.inl (by simp)) _).setCell (.inl (by simp)) _)
        · go_wp2_with fail
          refine (pick_any q _ 4 _ M8.out.rd (by omega) (by omega) (by omega)).mono ?_
          rintro e w9 ⟨sw, sw0, sw1, rfl, s9, r9⟩
          have M9 := Lib.hid (M8.out.other s9.only r9)
          clear s9 r9 M8
          have M8 := M9
          clear M9
          have hsw : sw = 0 ∨ sw = 1 ∨ sw = 2 ∨ sw = 3 := by omega
          rcases hsw with rfl | rfl | rfl | rfl
          · clear sw0 sw1
            go_wp2_with fail
            refine (pick_any q _ 2 _ (M8.out.rd.alloc _) (by omega) (by omega) (by omega)).mono ?_
            rintro e w10 ⟨v, v0, v1, rfl, s9, r9⟩
            obtain ⟨u, hu⟩ := pick_pair (-1) 256 v v0 v1
            have cu := lit_at2 s9 M8.out.rd.lt hu
            have M9 := Lib.hid (M8.out.other (((Only.refl _ _).alloc _).trans s9.only) r9)
            have vn : v < ((2 : Nat) : Int) := by omega
            clear s9 r9 M8 hu
            obtain ⟨A, cp, R, d, B, g, n, k, mm, fa, fr, fb, hmi⟩ := M9.out.mach
            have MI := Lib.hid hmi
            have MA := M9
            have zb : b < w10.heap.size := hmi.box.lt
            have zq : q < w10.heap.size := MA.out.rd.lt
            clear hmi M9
            have k0 := MI.out.box.cell 3
            have k1 := MI.out.box.frozen 3
            have MI9 := Lib.hid (MI.out.store 3 (.int .i64 u) { X7 with a := u } rfl rfl rfl rfl)
            have MA9 := Lib.hid (MA.out.turn MI9.out.here (MI.out.stored 3 (.int .i64 u)) ⟨MA.out.fit.ram, MA.out.fit.rom, MA.out.fit.row, MA.out.fit.back⟩ MA.out.cyc)
            go_upto_region 16 with (fail)
            generalize hY : ({ X7 with a := u } : Mach) = Y at MI9 MA9
            generalize w10.setCell ⟨b, 3, none⟩ (.int .i64 u) = W9 at MI9 MA9 ⊢
            clear hY
            clear k0 k1 cu MI MA
            have c0 : W9.cell? ⟨b, 0, none⟩ = some (.slice A n cp) := MI9.out.box.cell 0
            have c1 : W9.cell? ⟨b, 1, none⟩ = some (.slice R k d) := MI9.out.box.cell 1
            have c2 : W9.cell? ⟨b, 2, none⟩ = some (.int .i64 Y.mem.bank) := MI9.out.box.cell 2
            have c3 : W9.cell? ⟨b, 3, none⟩ = some (.int .i64 Y.a) := MI9.out.box.cell 3
            have c4 : W9.cell? ⟨b, 4, none⟩ = some (.int .i64 Y.at_) := MI9.out.box.cell 4
            have c5 : W9.cell? ⟨b, 5, none⟩ = some (.bool Y.carry) := MI9.out.box.cell 5
            have c6 : W9.cell? ⟨b, 6, none⟩ = some (.slice B mm g) := MI9.out.box.cell 6
            have c7 : W9.cell? ⟨b, 7, none⟩ = some (.bool Y.stop) := MI9.out.box.cell 7
            have c8 : W9.cell? ⟨b, 8, none⟩ = some (.int .i64 Y.cyc) := MI9.out.box.cell 8
            have e0 : W9.cell? ⟨w.heap.size, 0, none⟩ = some (.slice none 0 0) := MA9.out.res.cell 0
            have f0 := MA9.out.res.frozen 0
            have e1 : W9.cell? ⟨w.heap.size, 1, none⟩ = some (.slice none 0 0) := MA9.out.res.cell 1
            have f1 := MA9.out.res.frozen 1
            have e2 : W9.cell? ⟨w.heap.size, 2, none⟩ = some (.int .i64 0) := MA9.out.res.cell 2
            have f2 := MA9.out.res.frozen 2
            have e3 : W9.cell? ⟨w.heap.size, 3, none⟩ = some (.int .i64 0) := MA9.out.res.cell 3
            have f3 := MA9.out.res.frozen 3
            have e4 : W9.cell? ⟨w.heap.size, 4, none⟩ = some (.int .i64 0) := MA9.out.res.cell 4
            have f4 := MA9.out.res.frozen 4
            have e5 : W9.cell? ⟨w.heap.size, 5, none⟩ = some (.bool false) := MA9.out.res.cell 5
            have f5 := MA9.out.res.frozen 5
            have e6 : W9.cell? ⟨w.heap.size, 6, none⟩ = some (.slice none 0 0) := MA9.out.res.cell 6
            have f6 := MA9.out.res.frozen 6
            have e7 : W9.cell? ⟨w.heap.size, 7, none⟩ = some (.bool false) := MA9.out.res.cell 7
            have f7 := MA9.out.res.frozen 7
            have e8 : W9.cell? ⟨w.heap.size, 8, none⟩ = some (.int .i64 0) := MA9.out.res.cell 8
            have f8 := MA9.out.res.frozen 8
            go_wp2_with fail
            refine bodyPost_ret (v := .agg #[.slice A n cp, .slice R k d, .int .i64 Y.mem.bank, .int .i64 Y.a, .int .i64 Y.at_, .bool Y.carry, .slice B mm g, .bool Y.stop, .int .i64 Y.cyc]) (by simp [results, Tryd.results26, go_sem, e0, e1, e2, e3, e4, e5, e6, e7, e8]) rfl ?_
            exact MA9.out.end_ (by omega) MI9.out ((((((((((Only.refl [w.heap.size] W9).setCell (.inl (by simp)) _).setCell (.inl (by simp)) _).setCell (.inl (by simp)) _).setCell (.inl (by simp)) _).setCell (.inl (by simp)) _).setCell (.inl (by simp)) _).setCell (.inl (by simp)) _).setCell (.inl (by simp)) _).setCell (.inl (by simp)) _)
          · clear sw0 sw1
            go_wp2_with fail
            refine (pick_any q _ 2 _ (M8.out.rd.alloc _) (by omega) (by omega) (by omega)).mono ?_
            rintro e w10 ⟨v, v0, v1, rfl, s9, r9⟩
            obtain ⟨u, hu⟩ := pick_pair (-1) 1024 v v0 v1
            have cu := lit_at2 s9 M8.out.rd.lt hu
            have M9 := Lib.hid (M8.out.other (((Only.refl _ _).alloc _).trans s9.only) r9)
            have vn : v < ((2 : Nat) : Int) := by omega
            clear s9 r9 M8 hu
            obtain ⟨A, cp, R, d, B, g, n, k, mm, fa, fr, fb, hmi⟩ := M9.out.mach
            have MI := Lib.hid hmi
            have MA := M9
            have zb : b < w10.heap.size := hmi.box.lt
            have zq : q < w10.heap.size := MA.out.rd.lt
            clear hmi M9
            have k0 := MI.out.box.cell 4
            have k1 := MI.out.box.frozen 4
            have MI9 := Lib.hid (MI.out.store 4 (.int .i64 u) { X7 with at_ := u } rfl rfl rfl rfl)
            have MA9 := Lib.hid (MA.out.turn MI9.out.here (MI.out.stored 4 (.int .i64 u)) ⟨MA.out.fit.ram, MA.out.fit.rom, MA.out.fit.row, MA.out.fit.back⟩ MA.out.cyc)
            go_upto_region 16 with (fail)
            generalize hY : ({ X7 with at_ := u } : Mach) = Y at MI9 MA9
            generalize w10.setCell ⟨b, 4, none⟩ (.int .i64 u) = W9 at MI9 MA9 ⊢
            clear hY
            clear k0 k1 cu MI MA
            have c0 : W9.cell? ⟨b, 0, none⟩ = some (.slice A n cp) := MI9.out.box.cell 0
            have c1 : W9.cell? ⟨b, 1, none⟩ = some (.slice R k d) := MI9.out.box.cell 1
            have c2 : W9.cell? ⟨b, 2, none⟩ = some (.int .i64 Y.mem.bank) := MI9.out.box.cell 2
            have c3 : W9.cell? ⟨b, 3, none⟩ = some (.int .i64 Y.a) := MI9.out.box.cell 3
            have c4 : W9.cell? ⟨b, 4, none⟩ = some (.int .i64 Y.at_) := MI9.out.box.cell 4
            have c5 : W9.cell? ⟨b, 5, none⟩ = some (.bool Y.carry) := MI9.out.box.cell 5
            have c6 : W9.cell? ⟨b, 6, none⟩ = some (.slice B mm g) := MI9.out.box.cell 6
            have c7 : W9.cell? ⟨b, 7, none⟩ = some (.bool Y.stop) := MI9.out.box.cell 7
            have c8 : W9.cell? ⟨b, 8, none⟩ = some (.int .i64 Y.cyc) := MI9.out.box.cell 8
            have e0 : W9.cell? ⟨w.heap.size, 0, none⟩ = some (.slice none 0 0) := MA9.out.res.cell 0
            have f0 := MA9.out.res.frozen 0
            have e1 : W9.cell? ⟨w.heap.size, 1, none⟩ = some (.slice none 0 0) := MA9.out.res.cell 1
            have f1 := MA9.out.res.frozen 1
            have e2 : W9.cell? ⟨w.heap.size, 2, none⟩ = some (.int .i64 0) := MA9.out.res.cell 2
            have f2 := MA9.out.res.frozen 2
            have e3 : W9.cell? ⟨w.heap.size, 3, none⟩ = some (.int .i64 0) := MA9.out.res.cell 3
            have f3 := MA9.out.res.frozen 3
            have e4 : W9.cell? ⟨w.heap.size, 4, none⟩ = some (.int .i64 0) := MA9.out.res.cell 4
            have f4 := MA9.out.res.frozen 4
            have e5 : W9.cell? ⟨w.heap.size, 5, none⟩ = some (.bool false) := MA9.out.res.cell 5
            have f5 := MA9.out.res.frozen 5
            have e6 : W9.cell? ⟨w.heap.size, 6, none⟩ = some (.slice none 0 0) := MA9.out.res.cell 6
            have f6 := MA9.out.res.frozen 6
            have e7 : W9.cell? ⟨w.heap.size, 7, none⟩ = some (.bool false) := MA9.out.res.cell 7
            have f7 := MA9.out.res.frozen 7
            have e8 : W9.cell? ⟨w.heap.size, 8, none⟩ = some (.int .i64 0) := MA9.out.res.cell 8
            have f8 := MA9.out.res.frozen 8
            go_wp2_with fail
            refine bodyPost_ret (v := .agg #[.slice A n cp, .slice R k d, .int .i64 Y.mem.bank, .int .i64 Y.a, .int .i64 Y.at_, .bool Y.carry, .slice B mm g, .bool Y.stop, .int .i64 Y.cyc]) (by simp [results, Tryd.results26, go_sem, e0, e1, e2, e3, e4, e5, e6, e7, e8]) rfl ?_
            exact MA9.out.end_ (by omega) MI9.out ((((((((((Only.refl [w.heap.size] W9).setCell (.inl (by simp)) _).setCell (.inl (by simp)) _).setCell (.inl (by simp)) _).setCell (.inl (by simp)) _).setCell (.inl (by simp)) _).setCell (.inl (by simp)) _).setCell (.inl (by simp)) _).setCell (.inl (by simp)) _).setCell (.inl (by simp)) _)
          · clear sw0 sw1
            have hmk := make9
            obtain ⟨A, cp, R, d, B, g, n, k, mm, fa, fr, fb, hmi⟩ := M8.out.mach
            have MI := Lib.hid hmi
            have MA := M8
            have zb : b < w9.heap.size := hmi.box.lt
            have zq : q < w9.heap.size := MA.out.rd.lt
            clear hmi M8
            have k0 := MI.out.box.cell 6
            have k1 := MI.out.box.frozen 6
            obtain ⟨h9, b9⟩ := MI.out.rest (xs := nines) (S := []) (own_made9 w9 w1.heap.size MI.out.lt) (.of_below (below1 w9 _)) (by simp) (fun x hx => .inr (by have h : some w9.heap.size = some x := hx; injection h; omega))
            have eW : (w9.alloc (.cells (madeCells #[.int .i64 0] 9) 3)).setCell ⟨b, 6, none⟩ (.slice (some ⟨w9.heap.size, 0, none⟩) 9 9) = (w9.setCell ⟨b, 6, none⟩ (.slice (some ⟨w9.heap.size, 0, none⟩) 9 9)).alloc (.cells (madeCells #[.int .i64 0] 9) 3) := by go_simp
            rw [eW] at h9 b9
            clear eW
            have MA9 := Lib.hid (MA.out.turn h9 b9 ⟨MA.out.fit.ram, MA.out.fit.rom, MA.out.fit.row, by show nines.length ≤ 256; decide⟩ MA.out.cyc)
            go_upto_region 16 with (fail)
            generalize hY : ({ X7 with back := nines } : Mach) = Y at MA9 h9
            generalize (w9.setCell ⟨b, 6, none⟩ (.slice (some ⟨w9.heap.size, 0, none⟩) 9 9)).alloc (.cells (madeCells #[.int .i64 0] 9) 3) = W9 at MA9 h9 ⊢
            clear hY k0 k1 MI MA b9 hmk
            obtain ⟨A, cp, R, d, B, g, n, k, mm, fa, fr, fb, hmi⟩ := h9
            have MI9 := Lib.hid hmi
            clear hmi
            have c0 : W9.cell? ⟨b, 0, none⟩ = some (.slice A n cp) := MI9.out.box.cell 0
            have c1 : W9.cell? ⟨b, 1, none⟩ = some (.slice R k d) := MI9.out.box.cell 1
            have c2 : W9.cell? ⟨b, 2, none⟩ = some (.int .i64 Y.mem.bank) := MI9.out.box.cell 2
            have c3 : W9.cell? ⟨b, 3, none⟩ = some (.int .i64 Y.a) := MI9.out.box.cell 3
            have c4 : W9.cell? ⟨b, 4, none⟩ = some (.int .i64 Y.at_) := MI9.out.box.cell 4
            have c5 : W9.cell? ⟨b, 5, none⟩ = some (.bool Y.carry) := MI9.out.box.cell 5
            have c6 : W9.cell? ⟨b, 6, none⟩ = some (.slice B mm g) := MI9.out.box.cell 6
            have c7 : W9.cell? ⟨b, 7, none⟩ = some (.bool Y.stop) := MI9.out.box.cell 7
            have c8 : W9.cell? ⟨b, 8, none⟩ = some (.int .i64 Y.cyc) := MI9.out.box.cell 8
            have e0 : W9.cell? ⟨w.heap.size, 0, none⟩ = some (.slice none 0 0) := MA9.out.res.cell 0
            have f0 := MA9.out.res.frozen 0
            have e1 : W9.cell? ⟨w.heap.size, 1, none⟩ = some (.slice none 0 0) := MA9.out.res.cell 1
            have f1 := MA9.out.res.frozen 1
            have e2 : W9.cell? ⟨w.heap.size, 2, none⟩ = some (.int .i64 0) := MA9.out.res.cell 2
            have f2 := MA9.out.res.frozen 2
            have e3 : W9.cell? ⟨w.heap.size, 3, none⟩ = some (.int .i64 0) := MA9.out.res.cell 3
            have f3 := MA9.out.res.frozen 3
            have e4 : W9.cell? ⟨w.heap.size, 4, none⟩ = some (.int .i64 0) := MA9.out.res.cell 4
            have f4 := MA9.out.res.frozen 4
            have e5 : W9.cell? ⟨w.heap.size, 5, none⟩ = some (.bool false) := MA9.out.res.cell 5
            have f5 := MA9.out.res.frozen 5
            have e6 : W9.cell? ⟨w.heap.size, 6, none⟩ = some (.slice none 0 0) := MA9.out.res.cell 6
            have f6 := MA9.out.res.frozen 6
            have e7 : W9.cell? ⟨w.heap.size, 7, none⟩ = some (.bool false) := MA9.out.res.cell 7
            have f7 := MA9.out.res.frozen 7
            have e8 : W9.cell? ⟨w.heap.size, 8, none⟩ = some (.int .i64 0) := MA9.out.res.cell 8
            have f8 := MA9.out.res.frozen 8
            go_wp2_with fail
            refine bodyPost_ret (v := .agg #[.slice A n cp, .slice R k d, .int .i64 Y.mem.bank, .int .i64 Y.a, .int .i64 Y.at_, .bool Y.carry, .slice B mm g, .bool Y.stop, .int .i64 Y.cyc]) (by simp [results, Tryd.results26, go_sem, e0, e1, e2, e3, e4, e5, e6, e7, e8]) rfl ?_
            exact MA9.out.end_ (by omega) MI9.out ((((((((((Only.refl [w.heap.size] W9).setCell (.inl (by simp)) _).setCell (.inl (by simp)) _).setCell (.inl (by simp)) _).setCell (.inl (by simp)) _).setCell (.inl (by simp)) _).setCell (.inl (by simp)) _).setCell (.inl (by simp)) _).setCell (.inl (by simp)) _).setCell (.inl (by simp)) _)
          · clear sw0 sw1
            obtain ⟨A, cp, R, d, B, g, n, k, mm, fa, fr, fb, hmi⟩ := M8.out.mach
            have MI := Lib.hid hmi
            have MA := M8
            have zb : b < w9.heap.size := hmi.box.lt
            have zq : q < w9.heap.size := MA.out.rd.lt
            clear hmi M8
            have k0 := MI.out.box.cell 8
            have k1 := MI.out.box.frozen 8
            have MI9 := Lib.hid (MI.out.store 8 (.int .i64 (-1)) { X7 with cyc := -1 } rfl rfl rfl rfl)
            have MA9 := Lib.hid (MA.out.turn MI9.out.here (MI.out.stored 8 (.int .i64 (-1))) ⟨MA.out.fit.ram, MA.out.fit.rom, MA.out.fit.row, MA.out.fit.back⟩ (by show (-1 : Int) ≤ 99; omega))
            go_upto_region 16 with (fail)
            generalize hY : ({ X7 with cyc := -1 } : Mach) = Y at MI9 MA9
            generalize w9.setCell ⟨b, 8, none⟩ (.int .i64 (-1)) = W9 at MI9 MA9 ⊢
            clear hY
            clear k0 k1 MI MA
            have c0 : W9.cell? ⟨b, 0, none⟩ = some (.slice A n cp) := MI9.out.box.cell 0
            have c1 : W9.cell? ⟨b, 1, none⟩ = some (.slice R k d) := MI9.out.box.cell 1
            have c2 : W9.cell? ⟨b, 2, none⟩ = some (.int .i64 Y.mem.bank) := MI9.out.box.cell 2
            have c3 : W9.cell? ⟨b, 3, none⟩ = some (.int .i64 Y.a) := MI9.out.box.cell 3
            have c4 : W9.cell? ⟨b, 4, none⟩ = some (.int .i64 Y.at_) := MI9.out.box.cell 4
            have c5 : W9.cell? ⟨b, 5, none⟩ = some (.bool Y.carry) := MI9.out.box.cell 5
            have c6 : W9.cell? ⟨b, 6, none⟩ = some (.slice B mm g) := MI9.out.box.cell 6
            have c7 : W9.cell? ⟨b, 7, none⟩ = some (.bool Y.stop) := MI9.out.box.cell 7
            have c8 : W9.cell? ⟨b, 8, none⟩ = some (.int .i64 Y.cyc) := MI9.out.box.cell 8
            have e0 : W9.cell? ⟨w.heap.size, 0, none⟩ = some (.slice none 0 0) := MA9.out.res.cell 0
            have f0 := MA9.out.res.frozen 0
            have e1 : W9.cell? ⟨w.heap.size, 1, none⟩ = some (.slice none 0 0) := MA9.out.res.cell 1
            have f1 := MA9.out.res.frozen 1
            have e2 : W9.cell? ⟨w.heap.size, 2, none⟩ = some (.int .i64 0) := MA9.out.res.cell 2
            have f2 := MA9.out.res.frozen 2
            have e3 : W9.cell? ⟨w.heap.size, 3, none⟩ = some (.int .i64 0) := MA9.out.res.cell 3
            have f3 := MA9.out.res.frozen 3
            have e4 : W9.cell? ⟨w.heap.size, 4, none⟩ = some (.int .i64 0) := MA9.out.res.cell 4
            have f4 := MA9.out.res.frozen 4
            have e5 : W9.cell? ⟨w.heap.size, 5, none⟩ = some (.bool false) := MA9.out.res.cell 5
            have f5 := MA9.out.res.frozen 5
            have e6 : W9.cell? ⟨w.heap.size, 6, none⟩ = some (.slice none 0 0) := MA9.out.res.cell 6
            have f6 := MA9.out.res.frozen 6
            have e7 : W9.cell? ⟨w.heap.size, 7, none⟩ = some (.bool false) := MA9.out.res.cell 7
            have f7 := MA9.out.res.frozen 7
            have e8 : W9.cell? ⟨w.heap.size, 8, none⟩ = some (.int .i64 0) := MA9.out.res.cell 8
            have f8 := MA9.out.res.frozen 8
            go_wp2_with fail
            refine bodyPost_ret (v := .agg #[.slice A n cp, .slice R k d, .int .i64 Y.mem.bank, .int .i64 Y.a, .int .i64 Y.at_, .bool Y.carry, .slice B mm g, .bool Y.stop, .int .i64 Y.cyc]) (by simp [results, Tryd.results26, go_sem, e0, e1, e2, e3, e4, e5, e6, e7, e8]) rfl ?_
            exact MA9.out.end_ (by omega) MI9.out ((((((((((Only.refl [w.heap.size] W9).setCell (.inl (by simp)) _).setCell (.inl (by simp)) _).setCell (.inl (by simp)) _).setCell (.inl (by simp)) _).setCell (.inl (by simp)) _).setCell (.inl (by simp)) _).setCell (.inl (by simp)) _).setCell (.inl (by simp)) _).setCell (.inl (by simp)) _)
end Go.Proofs.YtcapfafglikcmaaDoor
