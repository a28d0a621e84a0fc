/- Drawn laws of chapter 13, walked: validity, a single change. -/
import Derived.Test.YtddllcgbdgpkbaaBmX
import Derived.Test.YtddllcgbdgpkbaaBmK
import Derived.Test.YtddllcgbdgpkbaaBmE
import Derived.Test.YtddllcgbdgpkbaaBmI
namespace Go.Proofs.Ytddllcgbdgpkbaa
open Go.ChangeShapes Go.WideShapes Go.ChangeAt Go.RowKit
set_option linter.unusedVariables false

theorem below_grownC {L : Nat} {a w w' : World} {row : Option Nat} (h : Below L a w) (g : w.grownBy w' row) (hr : ∀ k, row = some k → L ≤ k) (hL : L ≤ a.heap.size) : Below L a w' :=
  ⟨g.os.trans h.os, g.tape.trans h.tape, g.output.trans h.output, Nat.le_trans h.size g.size, fun k hk => (g.block k (Nat.lt_of_lt_of_le hk (Nat.le_trans hL h.size)) (fun e => by have := hr k e.symm; omega)).trans (h.block k hk)⟩
theorem exec_storeH {ρ : Operand → Value} {o : Oper} (x y : Operand) (w : World) (b : Nat) {t : TypeId} {cs : List Value} (u v z : Int) (ho : o.op = .store 27 x y) (hx : ρ x = .pointer (some ⟨b, 0, none⟩)) (hy : ρ y = chgV u v z) (hb : Box w b t cs) (hc : cs.length = 3) :
    (execOp ρ o).run Try.prog w = .ok .skip (w.setRow b (iv [u, v, z]).toArray) := by
  have hs : (storeVar 27 ⟨b, 0, none⟩ (chgV u v z)).run Try.prog w = .ok () (w.setRow b (iv [u, v, z]).toArray) := run_storeVar_row (P := Try.prog) w b t 27 cs.toArray (iv [u, v, z]).toArray hb chg_info (by simpa [iv] using hc) (by simp [iv, Value.oneCell'])
  unfold execOp
  simp only [ho, hx, hy, Instr.storeAt, Instr.sureAddr, Sem.run_bind, Sem.run_pure, Result.andThen_ok, hs]
theorem run_allocChg (w : World) : (Instr.alloc 27 true (.tuple #[])).run Try.prog w = .ok (.pointer (some ⟨w.heap.size, 0, none⟩)) (w.alloc (.cells (iv [0, 0, 0]).toArray 27)) := by
  have e : (iv [0, 0, 0]).toArray = #[.int .i64 0, .int .i64 0, .int .i64 0] := rfl
  rw [e]
  go_simp
/-- The first changes of a list. -/
theorem ints_part3 {w : World} {A : Option Addr} {n : Nat} {L : List Int} {fp : List Nat} (h : Ints w A (3 * n) L fp) {q : Nat} (hq : q ≤ n) : ∃ fq, Ints w A (3 * q) (L.take (3 * q)) fq := by
  by_cases h0 : q = 0
  · subst h0
    exact ⟨[], by simpa using Ints.nil w A⟩
  · obtain ⟨p, o, rfl, hf, hp, hc⟩ := h.at_ (by omega)
    refine ⟨[p], by rw [List.length_take, h.1]; omega, .inr ⟨by omega, p, o, rfl, rfl, hp, fun i hi => ?_⟩⟩
    rw [hc i (by omega), getD_take hi]
set_option maxRecDepth 100000 in
set_option maxHeartbeats 8000000 in
theorem walk_FnChangesValid (a0 : Option Addr) (len0 cap0 : Nat) (z0 : List Int) (w : World) (w0 : IsRow .u8 w a0 len0 cap0 z0) :
    Calls Try.prog 3 #[.slice a0 len0 cap0] w fun e w' => e = .returned (.bool true) ∧ Below w.heap.size w w' := by
  have H := Lib.hid w0
  have hl := isRow_len w0
  clear w0
  by_cases hs : len0 ≤ 1048576
  · go_enter Try.func3, Try.ntmps3
    go_wp2_with fail
    refine (draw_changesValid _ _ _ _ _ H.out).mono ?_; rintro e w1 ⟨A, n, c, L, fs, rfl, hn, hc, hi, hb⟩
    have I1 := Lib.hid hi
    have B1 := Lib.hid hb
    have HL := Lib.hid hi.1
    have hn9 : n ≤ 1000000000 := by omega
    clear hi hb
    go_wp2_with fail
    refine (im_chgValid A n c L fs _ I1.out hn9).mono ?_; rintro e w2 ⟨rfl, bl⟩
    obtain ⟨V, hV⟩ : ∃ V, chgB L n = V := ⟨_, rfl⟩
    have HV := Lib.hid hV
    rw [hV]
    clear hV
    have I2 := Lib.hid (I1.out.below bl)
    have B2 := Lib.hid (below_then B1.out bl)
    clear I1 B1 bl
    go_wp2_with fail
    refine (spec_chgValid A n c L fs _ I2.out hn9).mono ?_; rintro e w3 ⟨rfl, bl⟩
    rw [HV.out]
    have I3 := Lib.hid (I2.out.below bl)
    have B3 := Lib.hid (below_then B2.out bl)
    clear I2 B2 bl
    have HU : Hid (chgB (L ++ [5, 0, 0, 4, 0, 0]) (n + 2) = false) := Lib.hid (chgB_back HL.out)
    cases V
    all_goals
      go_upto_region 8 with (first
        | (at_builtin; refine wpList_append_chgs rfl _ _ rfl w3.heap.size (.slice (some ⟨w3.heap.size, 0, none⟩) 0 0) 0 [] rfl (own_empty3 w3 _ _ (Nat.le_refl _)) A n c L fs rfl (I3.out.below (below1 w3 _)) (by omega) (by simp) ?_; intro v1 wy own1 gr1 _; have O1 := Lib.hid own1; have BY : Hid (Below w3.heap.size w3 wy) := Lib.hid (below_grownC (below1 w3 _) gr1 (fun q hq => by have := (own_block (own_empty3 w3 27 w3.heap.size (Nat.le_refl _)) q hq).1; exact this) (Nat.le_refl _)); have hyl := BY.out.size; clear own1 gr1)
        | (at_builtin; refine wpList_append_chgs rfl _ _ rfl w3.heap.size v1 (0 + n) ([] ++ L) rfl (own_keep_any O1.out (below1 wy _)) _ 2 2 [5, 0, 0, 4, 0, 0] [wy.heap.size] rfl (two_chgs wy 5 0 0 4 0 0) (by omega) (by simp; omega) ?_; intro v2 wz own2 gr2 _; obtain ⟨A3, c3, f3, rfl, hc3, hs3, _, _⟩ := own_chgs own2; have SZ := Lib.hid hs3; have BZ : Hid (Below w3.heap.size w3 wz) := Lib.hid (below_grownC (BY.out.alloc BY.out.size _) gr2 (fun q hq => (own_block O1.out q hq).1) (Nat.le_refl _)); clear own2 gr2 hs3))
      rw [Nat.zero_add, List.nil_append] at SZ
      have IZ := Lib.hid (I3.out.below BZ.out)
      have B4 := Lib.hid (below_then B3.out BZ.out)
      clear I3 B3 BZ BY O1
    · go_wp2_with fail
      refine (im_chgValid A3 (n + 2) c3 (L ++ [5, 0, 0, 4, 0, 0]) f3 _ SZ.out (by omega)).mono ?_; rintro e w9 ⟨rfl, bl⟩
      rw [HU.out]
      have B9 := Lib.hid (below_then B4.out bl)
      clear bl
      go_wp2_with fail
      refine (alive_any _).mono ?_; rintro e w' ⟨rfl, rfl⟩
      go_wp2_with fail
      go_ret
      exact ⟨rfl, B9.out⟩
    · have hq2 : n / 2 ≤ n := by omega
      obtain ⟨q, hq⟩ : ∃ q, n / 2 = q := ⟨_, rfl⟩
      rw [hq] at hq2
      have hqt : (n : Int).tdiv 2 = (q : Int) := by rw [Int.tdiv_eq_ediv_of_nonneg (by omega)]; omega
      have hqc : (q : Int) ≤ c := by omega
      have hq0 : 0 ≤ (q : Int) := by omega
      obtain ⟨fq, hsq⟩ : ∃ fq, Ints _ A (3 * q) (L.take (3 * q)) fq := ints_part3 IZ.out hq2
      have SQ := Lib.hid hsq
      have HP : Hid (chgB (L.take (3 * q)) q = true) := Lib.hid (chgB_part HV.out hq2)
      clear hsq hq
      go_wp2_with fail
      refine (im_chgValid A q c (L.take (3 * q)) fq _ SQ.out (by omega)).mono ?_; rintro e w5 ⟨rfl, bl⟩
      rw [HP.out]
      have S5 := Lib.hid (SZ.out.below bl)
      have B5 := Lib.hid (below_then B4.out bl)
      clear bl hqt hqc hq0 SQ SZ B4 IZ
      go_wp2_with fail
      refine (im_chgValid A3 (n + 2) c3 (L ++ [5, 0, 0, 4, 0, 0]) f3 _ S5.out (by omega)).mono ?_; rintro e w9 ⟨rfl, bl⟩
      rw [HU.out]
      have B9 := Lib.hid (below_then B5.out bl)
      clear bl
      go_wp2_with fail
      refine (alive_any _).mono ?_; rintro e w' ⟨rfl, rfl⟩
      go_wp2_with fail
      go_ret
      exact ⟨rfl, B9.out⟩
  · have hs' : 1048576 < len0 := by omega
    go_enter Try.func3, Try.ntmps3
    go_wp2_with fail
    go_ret
    exact ⟨rfl, Below.refl _ _⟩
theorem lineT_len32 (F : Fld) (y : Int) : (lineT F y).length ≤ 32 := by
  unfold lineT
  split
  · rw [lineF_len]; omega
  · simp
set_option maxRecDepth 100000 in
set_option maxHeartbeats 8000000 in
theorem walk_FnBeamFirst (a0 : Option Addr) (len0 cap0 : Nat) (z0 : List Int) (w : World) (w0 : IsRow .u8 w a0 len0 cap0 z0) :
    Calls Try.prog 6 #[.slice a0 len0 cap0] w fun e w' => e = .returned (.bool true) ∧ Below w.heap.size w w' := by
  have H := Lib.hid w0
  have hl := isRow_len w0
  clear w0
  by_cases hs : len0 ≤ 1048576
  · go_enter Try.func6, Try.ntmps6
    go_wp2_with fail
    refine (draw_beamLine _ _ _ _ _ H.out).mono ?_; rintro e w1 ⟨F, A, c, T, d, fa, ft, y, Al, n, c', L, fl, rfl, hy, hx1, ht1, hxc, htd, hn, hnc, hF, hL, hb⟩
    have HS : Hid (FSmall F) := Lib.hid ⟨by omega, by omega⟩
    obtain ⟨w2, hw2⟩ : ∃ W, W = w1.alloc (.cells #[.int .i64 F.w, .slice A F.xs.length c, .slice T F.nt d, .int .i64 F.sx, .int .i64 F.sy] 33) := ⟨_, rfl⟩
    have hbt : w.heap.size ≤ w1.heap.size := hb.size
    have X2 : Hid (Box w2 w1.heap.size 33 (fcs F.w A F.xs.length c T F.nt d F.sx F.sy)) := Lib.hid (by rw [hw2]; exact Box.new _ _ _)
    have F2 : Hid (FHas w2 A T F fa ft) := Lib.hid (by rw [hw2]; exact hF.below (below1 _ _))
    have L2 : Hid (Ints w2 Al (3 * n) L fl) := Lib.hid (by rw [hw2]; exact hL.below (below1 _ _))
    have B2 : Hid (Below w.heap.size w w2) := Lib.hid (by rw [hw2]; exact hb.alloc hb.size _)
    have hn9 : n ≤ 1000000000 := by omega
    clear hF hL hb
    go_upto_region 4 with (fail)
    rw [← hw2]
    generalize w1.heap.size = bs at X2 hbt
    clear hw2
    go_wp2_with (first | (refine fs_load (by rfl) _ rfl bs rfl X2.out ?_))
    refine (spec_fieldValid F A c T d fa ft _ F2.out HS.out).mono ?_; rintro e w3 ⟨rfl, bl⟩
    have X3 := Lib.hid (X2.out.below bl)
    have F3 := Lib.hid (F2.out.below bl)
    have L3 := Lib.hid (L2.out.below bl)
    have B3 := Lib.hid (below_then B2.out bl)
    clear X2 F2 L2 B2 bl
    cases hv : fldB F
    · clear hv
      go_wp2_with fail
      refine (alive_any _).mono ?_; rintro e w' ⟨rfl, rfl⟩
      go_wp2_with fail
      go_ret
      exact ⟨rfl, B3.out⟩
    have HV := Lib.hid hv
    clear hv
    by_cases hy0 : y < 0
    · go_wp2_with fail
      refine (alive_any _).mono ?_; rintro e w' ⟨rfl, rfl⟩
      go_wp2_with fail
      go_ret
      exact ⟨rfl, B3.out⟩
    have hy0d : decide (y < 0) = false := decide_eq_false hy0
    by_cases hy1 : 16 ≤ y
    · go_wp2_with fail
      refine (alive_any _).mono ?_; rintro e w' ⟨rfl, rfl⟩
      go_wp2_with fail
      go_ret
      exact ⟨rfl, B3.out⟩
    have hy1d : decide (16 ≤ y) = false := decide_eq_false hy1
    by_cases hn0 : n = 0
    · subst hn0
      go_wp2_with fail
      refine (alive_any _).mono ?_; rintro e w' ⟨rfl, rfl⟩
      go_wp2_with fail
      go_ret
      exact ⟨rfl, B3.out⟩
    have hn0d : decide ((n : Int) = 0) = false := decide_eq_false (by omega)
    go_wp2_with fail
    refine (spec_chgValid Al n c' L fl _ L3.out hn9).mono ?_; rintro e w5 ⟨rfl, bl⟩
    have X5 := Lib.hid (X3.out.below bl)
    have F5 := Lib.hid (F3.out.below bl)
    have L5 := Lib.hid (L3.out.below bl)
    have B5 := Lib.hid (below_then B3.out bl)
    clear X3 F3 L3 B3 bl
    cases hc : chgB L n
    · clear hc
      go_wp2_with fail
      refine (alive_any _).mono ?_; rintro e w' ⟨rfl, rfl⟩
      go_wp2_with fail
      go_ret
      exact ⟨rfl, B5.out⟩
    have h1 := chg1_iff.1 (chgK_iff.1 (show chgK L n = true by unfold chgB at hc; rw [Bool.and_eq_true] at hc; exact hc.1) 0 (by omega))
    clear hc hy0d hy1d hn0d
    obtain ⟨p, o, rfl, _, _, hcc⟩ := L5.out.at_ (by omega)
    clear hcc
    have HC1 : Hid (∀ wx, Below w5.heap.size w5 wx → wx.cell? ⟨p, o + 1, none⟩ = some (.int .i64 (cX L 0))) := Lib.hid fun wx hb => by have := (chg_cell (L5.out.below hb) (show 0 < n by omega)).2.1; simpa using this
    have HC2 : Hid (∀ wx, Below w5.heap.size w5 wx → wx.cell? ⟨p, o + 2, none⟩ = some (.int .i64 (cY L 0))) := Lib.hid fun wx hb => by have := (chg_cell (L5.out.below hb) (show 0 < n by omega)).2.2; simpa using this
    have hsx := h1.2.2.1
    have hsy := h1.2.2.2
    generalize cX L 0 = sx at HC1 hsx
    generalize cY L 0 = sy at HC2 hsy
    clear h1
    have HONE := Lib.hid (bmT_one (x := 0) (y := y) HV.out hsx hsy)
    go_upto_region 6 with fail
    refine wp_region_end (by dsimp only [List.dropLast]) rfl (ClB w5) RlB (Ty [TV (.slice (some ⟨p, o, none⟩) n c'), TV (.pointer (some ⟨p, o, none⟩)), TV (.pointer (some ⟨p, o + 1, none⟩)), TV (.int .i64 sx), TV (.slice (some ⟨p, o, none⟩) n c'), TV (.pointer (some ⟨p, o, none⟩)), TV (.pointer (some ⟨p, o + 2, none⟩)), TV (.int .i64 sy), TV (chgV 0 sx sy), TVar w5.heap.size 27 (iv [0, 0, 0])])
      (by kernel_rfl) (by kernel_rfl) (by kernel_rfl) (stab_ty _ ⟨stabB_k _, stabB_k _, stabB_k _, stabB_k _, stabB_k _, stabB_k _, stabB_k _, stabB_k _, stabB_k _, stabB_var, trivial⟩) (Below.refl _ _).drew ?_ ?_
    · refine ⟨?_, ?_, ?_, ?_, ?_, ?_, ?_, ?_, ?_, ?_, trivial⟩
      · exact lb_move (.tmp 5) (.inl rfl) (fun _ _ _ => want_none rfl) fun ρ wx hc hx hp => hx 5 rfl
      · refine lb_val (.pointer (some ⟨p, o, none⟩)) (fun _ _ _ => want_none rfl) fun ρ wx hb hc hx hp => ⟨?_, rfl⟩
        have h40 : ρ (.tmp 40) = .slice (some ⟨p, o, none⟩) n c' := hp.1 rfl
        have hk0 := hc (.int .i64 0)
        have hn0 : (0 : Int) < n := by omega
        unfold execOp
        simp only [h40, hk0]
        clear h40 hk0 hx hp hc hb
        go_simp
      · refine lb_val (.pointer (some ⟨p, o + 1, none⟩)) (fun _ _ _ => want_none rfl) fun ρ wx hb hc hx hp => ⟨?_, rfl⟩
        have h41 : ρ (.tmp 41) = .pointer (some ⟨p, o, none⟩) := hp.1 rfl
        unfold execOp
        simp only [h41]
        clear h41 hx hp hc hb
        go_simp
      · refine lb_val (.int .i64 sx) (fun _ _ _ => want_none rfl) fun ρ wx hb hc hx hp => ⟨?_, rfl⟩
        have h42 : ρ (.tmp 42) = .pointer (some ⟨p, o + 1, none⟩) := hp.1 rfl
        have c1 := HC1.out wx hb
        unfold execOp
        simp only [h42]
        clear h42 hx hp hc hb
        go_simp
      · exact lb_move (.tmp 5) (.inl rfl) (fun _ _ _ => want_none rfl) fun ρ wx hc hx hp => hx 5 rfl
      · refine lb_val (.pointer (some ⟨p, o, none⟩)) (fun _ _ _ => want_none rfl) fun ρ wx hb hc hx hp => ⟨?_, rfl⟩
        have h44 : ρ (.tmp 44) = .slice (some ⟨p, o, none⟩) n c' := hp.1 rfl
        have hk0 := hc (.int .i64 0)
        have hn0 : (0 : Int) < n := by omega
        unfold execOp
        simp only [h44, hk0]
        clear h44 hk0 hx hp hc hb
        go_simp
      · refine lb_val (.pointer (some ⟨p, o + 2, none⟩)) (fun _ _ _ => want_none rfl) fun ρ wx hb hc hx hp => ⟨?_, rfl⟩
        have h45 : ρ (.tmp 45) = .pointer (some ⟨p, o, none⟩) := hp.1 rfl
        unfold execOp
        simp only [h45]
        clear h45 hx hp hc hb
        go_simp
      · refine lb_val (.int .i64 sy) (fun _ _ _ => want_none rfl) fun ρ wx hb hc hx hp => ⟨?_, rfl⟩
        have h46 : ρ (.tmp 46) = .pointer (some ⟨p, o + 2, none⟩) := hp.1 rfl
        have c1 := HC2.out wx hb
        unfold execOp
        simp only [h46]
        clear h46 hx hp hc hb
        go_simp
      · refine lb_val (chgV 0 sx sy) (fun _ _ _ => want_none rfl) fun ρ wx hb hc hx hp => ⟨?_, rfl⟩
        have h43 : ρ (.tmp 43) = .int .i64 sx := hp.1 rfl
        have h47 : ρ (.tmp 47) = .int .i64 sy := hp.2.1 rfl
        unfold execOp
        simp only [h43, h47, List.map_toArray, List.map_cons, List.map_nil]
        clear h43 h47 hx hp hc hb
        go_simp
      · exact lb_var (fun _ _ _ => want_none rfl) (fun ρ wx => by
          unfold execOp
          simp only [Sem.run_bind, run_allocChg, Result.andThen_ok, Sem.run_pure]) (fun _ _ h => h)
    intro vs wx hI hF
    obtain ⟨-, -, -, -, -, -, -, -, h8, ⟨b6, h9, hL6, hb6⟩, -⟩ := hF
    replace h8 : vs 8 = chgV 0 sx sy := h8
    replace h9 : vs 9 = .pointer (some ⟨b6, 0, none⟩) := h9
    have HI : Hid (Below w5.heap.size w5 wx) := hI
    simp only [putAll, Act.put, List.setIfInBounds_toArray, List.set_cons_zero, List.set_cons_succ, h8, h9]
    clear hI h8 h9
    have hx5 := X5.out.lt
    have C6 := Lib.hid (Box.row (ds := iv [0, sx, sy]) hb6)
    have X6 := Lib.hid ((X5.out.below HI.out).rowFar (g := b6) (ds := (iv [0, sx, sy]).toArray) (by omega))
    have B56 := Lib.hid (below_row HI.out hL6 (iv [0, sx, sy]).toArray)
    have F6 := Lib.hid (F5.out.below B56.out)
    have B6 := Lib.hid (below_then B5.out B56.out)
    have s6 := C6.out.lt
    refine ⟨wx.setRow b6 (iv [0, sx, sy]).toArray, exec_storeH (.tmp 6) (.tmp 48) wx b6 0 sx sy rfl rfl rfl hb6 rfl, ?_⟩
    have hb56 : bs ≠ b6 := by omega
    have hb6s : w.heap.size ≤ b6 := by have := B5.out.size; omega
    generalize wx.setRow b6 (iv [0, sx, sy]).toArray = w6 at C6 X6 F6 B6 s6 ⊢
    clear hb6 HI B56 X5 F5 L5 B5 HC1 HC2 hx5 hL6
    obtain ⟨w7, hw7⟩ : ∃ W, W = w6.alloc (.cells #[.int .i64 F.w, .slice A F.xs.length c, .slice T F.nt d, .int .i64 F.sx, .int .i64 F.sy] 33) := ⟨_, rfl⟩
    have G7 : Hid (Box w7 w6.heap.size 33 (fcs F.w A F.xs.length c T F.nt d F.sx F.sy)) := Lib.hid (by rw [hw7]; exact Box.new _ _ _)
    have C7 : Hid (Box w7 b6 27 (iv [0, sx, sy])) := Lib.hid (by rw [hw7]; exact C6.out.alloc _)
    have X7 : Hid (Box w7 bs 33 (fcs F.w A F.xs.length c T F.nt d F.sx F.sy)) := Lib.hid (by rw [hw7]; exact X6.out.alloc _)
    have F7 : Hid (FHas w7 A T F fa ft) := Lib.hid (by rw [hw7]; exact F6.out.below (below1 _ _))
    have B7 : Hid (Below w.heap.size w w7) := Lib.hid (by rw [hw7]; exact B6.out.alloc B6.out.size _)
    go_upto_region 8 with (first | (refine fs_load (by rfl) _ rfl bs rfl X6.out ?_))
    rw [← hw7]
    have hgs : b6 ≠ w6.heap.size := by omega
    have hgb : bs ≠ w6.heap.size := by have := X6.out.lt; omega
    have hgw : w.heap.size ≤ w6.heap.size := B6.out.size
    have HFB : Hid (∀ b ∈ fa ++ ft, b < w6.heap.size) := Lib.hid fun b hb => by rcases List.mem_append.1 hb with h | h; exact F6.out.1.lt b h; exact F6.out.2.lt b h
    generalize w6.heap.size = bg at G7 hgs hgb hgw HFB ⊢
    clear hw7 C6 X6 F6 B6 s6
    have c1 : w7.cell? ⟨b6, 1, none⟩ = some (.int .i64 sx) := C7.out.cell 1
    have e3 : w7.cell? ⟨bg, 3, none⟩ = some (.int .i64 F.sx) := G7.out.cell 3
    have g3 := G7.out.frozen 3
    have G8 := Lib.hid (G7.out.set 3 (.int .i64 sx))
    have C8 := Lib.hid (C7.out.far hgs (i := 3) (.int .i64 sx))
    have X8 := Lib.hid (X7.out.far hgb (i := 3) (.int .i64 sx))
    have FA : Hid (∀ S : World, Only [bg] w7 S → FHas S A T F fa ft) := Lib.hid fun S ho => ⟨F7.out.1.keep (.of_only ho fun b hb hx => by have := HFB.out b (List.mem_append_left _ hb); simp at hx; omega), F7.out.2.keep (.of_only ho fun b hb hx => by have := HFB.out b (List.mem_append_right _ hb); simp at hx; omega)⟩
    have B8 := Lib.hid (B7.out.setCell (p := ⟨bg, 3, none⟩) (by exact hgw) (.int .i64 sx))
    have O8 : Hid (Only [bg] w7 (w7.setCell ⟨bg, 3, none⟩ (.int .i64 sx))) := Lib.hid ((Only.refl _ _).setCell (.inl (by simp)) _)
    go_upto_region 9 with fail
    generalize w7.setCell ⟨bg, 3, none⟩ (.int .i64 sx) = w8 at G8 C8 X8 B8 O8 ⊢
    clear c1 e3 g3 G7 C7 X7 B7 F7
    have c2 : w8.cell? ⟨b6, 2, none⟩ = some (.int .i64 sy) := C8.out.cell 2
    have e4 : w8.cell? ⟨bg, 4, none⟩ = some (.int .i64 F.sy) := G8.out.cell 4
    have g4 := G8.out.frozen 4
    have G9 : Hid (Box (w8.setCell ⟨bg, 4, none⟩ (.int .i64 sy)) bg 33 (fcs F.w A F.xs.length c T F.nt d sx sy)) := Lib.hid (G8.out.set 4 (.int .i64 sy))
    have C9 := Lib.hid (C8.out.far hgs (i := 4) (.int .i64 sy))
    have X9 := Lib.hid (X8.out.far hgb (i := 4) (.int .i64 sy))
    have F9 := Lib.hid (FA.out _ (O8.out.setCell (q := bg) (j := 4) (.inl (by simp)) (.int .i64 sy)))
    have B9 := Lib.hid (B8.out.setCell (p := ⟨bg, 4, none⟩) (by exact hgw) (.int .i64 sy))
    go_upto_region 10 with fail
    generalize w8.setCell ⟨bg, 4, none⟩ (.int .i64 sy) = w9 at G9 C9 X9 F9 B9 ⊢
    clear c2 e4 g4 G8 C8 X8 B8 O8 FA
    have IA := Lib.hid (lone_chg w9 0 sx sy)
    have FA := Lib.hid (F9.out.below (below1 w9 (.cells #[.int .i64 0, .int .i64 sx, .int .i64 sy] 27)))
    have GA := Lib.hid (G9.out.alloc (.cells #[.int .i64 0, .int .i64 sx, .int .i64 sy] 27))
    have CA := Lib.hid (C9.out.alloc (.cells #[.int .i64 0, .int .i64 sx, .int .i64 sy] 27))
    have XA := Lib.hid (X9.out.alloc (.cells #[.int .i64 0, .int .i64 sx, .int .i64 sy] 27))
    have BA := Lib.hid (B9.out.alloc B9.out.size (.cells #[.int .i64 0, .int .i64 sx, .int .i64 sy] 27))
    go_wp2_with (first | (refine fs_load (by rfl) _ rfl bs rfl X9.out ?_) | (refine ch_load (by rfl) _ rfl b6 rfl 0 sx sy C9.out ?_))
    refine (im_bmLine F A c T d fa ft (some ⟨w9.heap.size, 0, none⟩) 1 1 [0, sx, sy] [w9.heap.size] y _ FA.out IA.out HS.out (by omega)).mono ?_
    rw [HONE.out.1]
    rintro e wB ⟨R, r, lr, rfl, hr, hi, hnw, bl⟩
    have IB := Lib.hid hi
    have FB := Lib.hid (FA.out.below bl)
    have GB := Lib.hid (GA.out.below bl)
    have CB := Lib.hid (CA.out.below bl)
    have XB := Lib.hid (XA.out.below bl)
    have BB := Lib.hid (below_then BA.out bl)
    clear hi hnw bl IA FA GA CA XA BA G9 C9 X9 F9 B9
    go_wp2_with (first | (refine fs_load (by rfl) _ rfl bg rfl GB.out ?_))
    refine (im_fieldLine ⟨F.w, F.xs, F.nt, F.zs, sx, sy⟩ A c T d fa ft y _ FB.out HS.out).mono ?_
    rintro e wC ⟨R2, r2, l2, rfl, _, hi2, _, bl⟩
    have JC := Lib.hid hi2
    have IC := Lib.hid (IB.out.below bl)
    have FC := Lib.hid (FB.out.below bl)
    have CC := Lib.hid (CB.out.below bl)
    have XC := Lib.hid (XB.out.below bl)
    have BC := Lib.hid (below_then BB.out bl)
    clear hi2 bl IB FB GB CB XB BB
    go_wp2_with fail
    refine (same_ints R R2 _ r r2 (lineT ⟨F.w, F.xs, F.nt, F.zs, sx, sy⟩ y) lr l2 _ IC.out JC.out (by have := lineT_len32 ⟨F.w, F.xs, F.nt, F.zs, sx, sy⟩ y; omega)).mono ?_; rintro e wD ⟨rfl, q, hq⟩
    have bl : Below wC.heap.size wC wD := by rw [hq]; exact below_drewN (Below.refl _ _) _
    clear hq JC
    have ID := Lib.hid (IC.out.below bl)
    have FD := Lib.hid (FC.out.below bl)
    have CD := Lib.hid (CC.out.below bl)
    have XD := Lib.hid (XC.out.below bl)
    have BD := Lib.hid (below_then BC.out bl)
    clear bl IC FC CC XC BC
    have KE := Lib.hid (lone_chg wD 0 sx sy)
    have FE := Lib.hid (FD.out.below (below1 wD (.cells #[.int .i64 0, .int .i64 sx, .int .i64 sy] 27)))
    have IE := Lib.hid (ID.out.below (below1 wD (.cells #[.int .i64 0, .int .i64 sx, .int .i64 sy] 27)))
    have BE := Lib.hid (BD.out.alloc BD.out.size (.cells #[.int .i64 0, .int .i64 sx, .int .i64 sy] 27))
    go_wp2_with (first | (refine fs_load (by rfl) _ rfl bs rfl XD.out ?_) | (refine ch_load (by rfl) _ rfl b6 rfl 0 sx sy CD.out ?_))
    refine (spec_bmLine F A c T d fa ft (some ⟨wD.heap.size, 0, none⟩) 1 1 [0, sx, sy] [wD.heap.size] y _ FE.out KE.out HS.out (by omega)).mono ?_
    rw [HONE.out.1]
    rintro e wF ⟨R3, r3, l3, rfl, _, hi3, _, bl⟩
    have IF := Lib.hid (IE.out.below bl)
    have JF := Lib.hid hi3
    have BF := Lib.hid (below_then BE.out bl)
    clear hi3 bl IE BE FE KE
    go_wp2_with fail
    refine (same_ints R R3 _ r r3 (lineT ⟨F.w, F.xs, F.nt, F.zs, sx, sy⟩ y) lr l3 _ IF.out JF.out (by have := lineT_len32 ⟨F.w, F.xs, F.nt, F.zs, sx, sy⟩ y; omega)).mono ?_; rintro e wG ⟨rfl, q, hq⟩
    have bl : Below wF.heap.size wF wG := by rw [hq]; exact below_drewN (Below.refl _ _) _
    clear hq
    have BG := Lib.hid (below_then BF.out bl)
    clear bl
    go_wp2_with fail
    go_ret
    exact ⟨rfl, BG.out⟩
  · have hs' : 1048576 < len0 := by omega
    go_enter Try.func6, Try.ntmps6
    go_wp2_with fail
    go_ret
    exact ⟨rfl, Below.refl _ _⟩
end Go.Proofs.Ytddllcgbdgpkbaa
