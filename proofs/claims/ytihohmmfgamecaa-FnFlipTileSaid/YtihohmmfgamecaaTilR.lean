/- A tile out of its bytes: the model's function. -/
import Derived.Test.YtihohmmfgamecaaTilH
import Derived.Test.YtihohmmfgamecaaTilC
import Derived.Test.YtihohmmfgamecaaTypedJ
namespace Go.Proofs.Ytihohmmfgamecaa
open Go.ChangeShapes Go.WideShapes Go.ChangeAt Go.RowKit
set_option linter.unusedVariables false

/-- A list of sixteen bytes. -/
def sixB (xs : List Int) : Bool := bytesB xs && decide (xs.length = 16)
theorem sixB_iff {xs : List Int} : sixB xs = true ↔ bytesB xs = true ∧ xs.length = 16 := by simp [sixB]
theorem l2Six_any (A : Option Addr) (n c : Nat) (xs : List Int) (fa : List Nat) (w : World) (ha : Ints w A n xs fa) (hn : n ≤ 1000000000) :
    Calls Try.prog 53 #[.slice A n c, .int .i64 16] w fun e w' => e = .returned (.bool (sixB xs)) ∧ w = w' := by
  have HA := Lib.hid ha
  have HL := Lib.hid ha.1
  clear ha
  go_enter Try.func53, Try.ntmps53
  go_wp2
  go_loop [5] (fun i => ∃ k : Nat, k ≤ n ∧ i = .int .i64 k ∧ ∀ j, j < k → byteB (xs.getD j 0) = true) (fun i => n - (intOf i).toNat)
  case atStart => exact ⟨0, Nat.zero_le _, rfl, fun j hj => by omega⟩
  case round =>
    obtain ⟨k, hk, rfl, hm⟩ := hrel
    have HM := Lib.hid hm
    clear hm
    by_cases hlt : k < n
    · obtain ⟨p, o, rfl, hfp, hp, hc⟩ := HA.out.at_ (by omega)
      have c1 := hc k hlt
      obtain ⟨x, hx⟩ : ∃ x, x = xs.getD k 0 := ⟨_, rfl⟩
      rw [← hx] at c1
      have HX := Lib.hid hx
      clear hc hfp hx
      by_cases hb : byteB x = true
      · have HB := Lib.hid hb
        clear hb
        go_wp2_with fail
        refine (l1Byte_any _ _).mono ?_; rintro e w' ⟨rfl, rfl⟩
        rw [HB.out]
        go_wp2_with fail
        go_round
        case rel => exact ⟨k + 1, by omega, by go_num, fun j hj => by
          by_cases h : j = k
          · subst h; rw [← HX.out]; exact HB.out
          · exact HM.out j (by omega)⟩
        case measure => simp [intOf]; omega
      · have HB := Lib.hid (show byteB x = false by simpa using hb)
        have HF := Lib.hid (show sixB xs = false by simp [sixB, bytesB_no xs k (by rw [HL.out]; exact hlt) (by rw [← HX.out]; exact HB.out)])
        clear hb
        go_wp2_with fail
        refine (l1Byte_any _ _).mono ?_; rintro e w' ⟨rfl, rfl⟩
        rw [HB.out]
        go_wp2_with fail
        go_ret
        exact ⟨ret_bool HF.out.symm, rfl⟩
    · have HF := Lib.hid ((bytesB_iff xs).2 fun i hi => HM.out i (by have := HL.out; omega))
      by_cases h : n = 16
      · have HE := Lib.hid (show sixB xs = true by simp [sixB, HF.out, HL.out, h])
        have hq : ((n : Int) == 16) = true := by simp; omega
        clear h
        go_wp2
        go_ret
        exact ⟨ret_bool HE.out.symm, rfl⟩
      · have HE := Lib.hid (show sixB xs = false by simp [sixB, HL.out, h])
        have hq : ((n : Int) == 16) = false := by simp; omega
        clear h
        go_wp2
        go_ret
        exact ⟨ret_bool HE.out.symm, rfl⟩
/-- Pixel k of the tile that has these bytes. -/
def readP (xs : List Int) (k : Nat) : Int := xs.getD (k / 8) 0 / 2 ^ (7 - k % 8) % 2 + 2 * (xs.getD (8 + k / 8) 0 / 2 ^ (7 - k % 8) % 2)
def readT (xs : List Int) : List Int := if sixB xs = true then mkT id (readP xs) 64 else z64
theorem six_px {xs : List Int} (h : sixB xs = true) (i : Nat) (hi : i < 16) : 0 ≤ xs.getD i 0 ∧ xs.getD i 0 ≤ 255 := by
  obtain ⟨h1, h2⟩ := sixB_iff.1 h
  exact byteB_yes ((bytesB_iff xs).1 h1 i (by omega))
/-- What reading a tile hands back. -/
def ReadGot (xs : List Int) (w : World) (e : Ending) (w' : World) : Prop := e = .returned (.tuple #[tilV (readT xs), .bool (sixB xs)]) ∧ Below w.heap.size w w'
/-- What holds in the round that lays pixel k. -/
def RoundJ (b k : Nat) (z : Int) (ys : List Int) (w wx : World) : Prop := Only [b] w wx ∧ ∃ xs, xs.length = 64 ∧ xs.set k z = ys ∧ Box wx b 25 (iv xs)
set_option maxRecDepth 100000 in
set_option maxHeartbeats 8000000 in
theorem spec_read (A : Option Addr) (n c : Nat) (xs : List Int) (fa : List Nat) (w : World) (ha : Ints w A n xs fa) (hn : n ≤ 1000000000) (hnc : n ≤ c) : Calls Try.prog 27 #[.slice A n c] w (ReadGot xs w) := by
  have HA := Lib.hid ha
  clear ha
  go_enter Try.func27, Try.ntmps27
  go_wp2_with (first | (refine st_alloc (by rfl) rfl ?_) | (refine st_build (by rfl) rfl ?_) | (refine st_store (by rfl) _ _ rfl _ rfl z64 rfl z64_len (iv z64) (Box.new_at _ _ _ _ (by simp)) (by simp [z64_len]) ?_))
  obtain ⟨w1, hw1⟩ : ∃ w1, w1 = ((w.alloc (.cells (iv z64).toArray 25)).alloc (.cells (iv z64).toArray 25)).setRow (w.heap.size + 1) (iv z64).toArray := ⟨_, rfl⟩
  have X1 : Hid (Box w1 w.heap.size 25 (iv z64)) := by rw [hw1]; exact ((Box.new w _ _).alloc _).rowFar (by omega)
  have Y1 : Hid (Box w1 (w.heap.size + 1) 25 (iv z64)) := by rw [hw1]; exact Box.row (cs := iv z64) (Box.new_at _ _ _ _ (by simp))
  have B1 : Hid (Below w.heap.size w w1) := by rw [hw1]; exact below_row (below2 w _ _) (by omega) _
  have I1 := Lib.hid (HA.out.below B1.out)
  have HFA := Lib.hid HA.out.lt
  rw [← hw1]
  clear hw1 HA
  refine (l2Six_any _ _ _ _ _ _ I1.out hn).mono ?_; rintro e w' ⟨rfl, rfl⟩
  by_cases hv : sixB xs = true
  · have HV := Lib.hid hv
    have HR := Lib.hid (show readT xs = mkT id (readP xs) 64 from if_pos hv)
    have h16 : n = 16 := by have := (sixB_iff.1 hv).2; have := I1.out.1; omega
    subst h16
    rw [HV.out]
    clear hv
    obtain ⟨g, oo, rfl, hfp, hg, hcell⟩ := I1.out.at_ (by omega)
    have HC := Lib.hid hcell
    have HNE : Hid (g ≠ w.heap.size + 1) := by have := HFA.out g (by rw [hfp]; simp); exact Lib.hid (by omega)
    clear hcell hfp I1
    go_wp2_with fail
    go_loopw [5] (fun i wr => ∃ k : Nat, k ≤ 64 ∧ i = .int .i64 k ∧ Box wr w.heap.size 25 (iv z64) ∧ Box wr (w.heap.size + 1) 25 (iv (mkT id (readP xs) k)) ∧ Below w.heap.size w wr ∧ (∀ i, i < 16 → wr.cell? ⟨g, oo + i, none⟩ = some (.int .i64 (xs.getD i 0))) ∧ g ≠ w.heap.size + 1) (fun i _ => 64 - (intOf i).toNat)
    case atStart => exact ⟨0, by omega, rfl, X1.out, by rw [mkT_zero]; exact Y1.out, B1.out, HC.out, HNE.out⟩
    case round =>
      obtain ⟨k, hk, rfl, hx, hy, hb, hcl, hne⟩ := hrel
      have XR := Lib.hid hx
      have YR := Lib.hid hy
      have BR := Lib.hid hb
      have CR := Lib.hid hcl
      clear hx hy hb hcl X1 Y1 B1 HC
      by_cases h64 : k < 64
      · have i64' : (k : Int) < 64 := by omega
        have k0 : 0 ≤ (k : Int) := by omega
        obtain ⟨q, r, hq, hr, q8, r8, hq', hr'⟩ : ∃ q r : Nat, (k : Int) / 8 = q ∧ (k : Int) % 8 = r ∧ q < 8 ∧ r < 8 ∧ k / 8 = q ∧ k % 8 = r := ⟨k / 8, k % 8, by omega, by omega, by omega, by omega, rfl, rfl⟩
        obtain ⟨j, hj⟩ : ∃ j : Nat, j = 7 - r := ⟨_, rfl⟩
        have e1 : (7 : Int) - r = j := by omega
        have HJ := Lib.hid (And.intro hj (And.intro hq' hr'))
        clear hj hq' hr'
        go_upto_region 9 with (fail)
        obtain ⟨x, hx⟩ : ∃ x, xs.getD q 0 = x := ⟨_, rfl⟩
        obtain ⟨y, hy⟩ : ∃ y, xs.getD (8 + q) 0 = y := ⟨_, rfl⟩
        obtain ⟨x0, x1⟩ := six_px HV.out q (by omega)
        obtain ⟨y0, y1⟩ := six_px HV.out (8 + q) (by omega)
        have HP : Hid (readP xs k = x / 2 ^ j % 2 + 2 * (y / 2 ^ j % 2)) := by
          rw [← hx, ← hy, HJ.out.1, ← HJ.out.2.1, ← HJ.out.2.2]; exact Lib.hid rfl
        have cx := CR.out q (by omega)
        have cy := CR.out (8 + q) (by omega)
        rw [hx] at cx x0 x1
        rw [hy] at cy y0 y1
        have hu0 : 0 ≤ x / 2 ^ j := Int.ediv_nonneg x0 (Int.le_of_lt (Int.pow_pos (by decide)))
        have hv0 : 0 ≤ y / 2 ^ j := Int.ediv_nonneg y0 (Int.le_of_lt (Int.pow_pos (by decide)))
        obtain ⟨ux, hux⟩ : ∃ u, x / 2 ^ j = u := ⟨_, rfl⟩
        obtain ⟨uy, huy⟩ : ∃ u, y / 2 ^ j = u := ⟨_, rfl⟩
        rw [hux] at hu0 HP
        rw [huy] at hv0 HP
        obtain ⟨p, hp⟩ : ∃ p : Nat, p = 8 + q := ⟨_, rfl⟩
        have e2 : (8 : Int) + q = p := by omega
        have p16 : (p : Int) < 16 := by omega
        have p0 : 0 ≤ (p : Int) := by omega
        have q16 : (q : Int) < 16 := by omega
        have q0 : 0 ≤ (q : Int) := by omega
        rw [← hp] at cy
        have j0 : 0 ≤ (j : Int) := by omega
        have yk := til_cell YR.out k (by rw [mkT_len]; exact h64)
        rw [mkT_get _ _ _ _ h64, id, if_neg (by omega)] at yk
        have gk := YR.out.frozen k
        clear hx hy hp
        generalize hbx : w.heap.size + 1 = bx at YR yk gk hne ⊢
        obtain ⟨va, ha⟩ : ∃ va, va = ux % 2 := ⟨_, rfl⟩
        obtain ⟨vb, hb⟩ : ∃ vb, vb = uy % 2 := ⟨_, rfl⟩
        rw [← ha, ← hb] at HP
        have ha' : ux % 2 = va := ha.symm
        have hb' : uy % 2 = vb := hb.symm
        have a0 : 0 ≤ va ∧ va ≤ 1 := by omega
        have b0 : 0 ≤ vb ∧ vb ≤ 1 := by omega
        obtain ⟨a0, a1⟩ := a0
        obtain ⟨b0, b1⟩ := b0
        clear ha hb
        have t1 : ux.tmod 2 = va := by rw [Int.tmod_eq_emod_of_nonneg hu0]; exact ha'
        have t2 : uy.tmod 2 = vb := by rw [Int.tmod_eq_emod_of_nonneg hv0]; exact hb'
        have t3 : IntKind.i64.wrap (p : Int) = p := IntWalk.i64_in _ (by omega)
        have t4 : IntKind.i64.wrap (2 * vb) = 2 * vb := IntWalk.i64_in _ (by omega)
        have t5 : IntKind.i64.wrap (va + 2 * vb) = va + 2 * vb := IntWalk.i64_in _ (by omega)
        obtain ⟨ys, hys⟩ : ∃ ys, ys = mkT id (readP xs) (k + 1) := ⟨_, rfl⟩
        have HS : Hid ((mkT id (readP xs) k).set k (va + 2 * vb) = ys ∧ ys.set k (va + 2 * vb) = ys) := by
          have h1 : (mkT id (readP xs) k).set k (va + 2 * vb) = ys := by rw [hys, ← HP.out]; exact mkT_set id (readP xs) k k h64 fun i _ => Iff.rfl
          exact ⟨h1, by rw [← h1, List.set_set]⟩
        have HY := Lib.hid hys
        clear hys yk gk
        refine wp_region_typed (ClJ (RoundJ bx k (va + 2 * vb) ys wr)) (RlJ fun wx => Box wx bx 25 (iv ys))
          (Ty [TV (.int .i64 (k : Int)), TV (.slice (some ⟨g, oo, none⟩) 16 c), TV (.int .i64 (q : Int)), TV (.pointer (some ⟨g, oo + q, none⟩)), TV (.int .i64 x), TV (.int .i64 (j : Int)), TV (.int .i64 ux), TV (.int .i64 va), TV (.slice (some ⟨g, oo, none⟩) 16 c), TV (.int .i64 (q : Int)), TV (.int .i64 (p : Int)), TV (.pointer (some ⟨g, oo + p, none⟩)), TV (.int .i64 y), TV (.int .i64 (j : Int)), TV (.int .i64 uy), TV (.int .i64 vb), TV (.int .i64 (2 * vb)), TV (.int .i64 (va + 2 * vb)), TV (.pointer (some ⟨bx, 0, none⟩)), TV (.pointer (some ⟨bx, k, none⟩)), fun _ wx => Box wx bx 25 (iv ys)])
          (by kernel_rfl) (by kernel_rfl) (stab_ty _ ⟨stabJ_v _ _, stabJ_v _ _, stabJ_v _ _, stabJ_v _ _, stabJ_v _ _, stabJ_v _ _, stabJ_v _ _, stabJ_v _ _, stabJ_v _ _, stabJ_v _ _, stabJ_v _ _, stabJ_v _ _, stabJ_v _ _, stabJ_v _ _, stabJ_v _ _, stabJ_v _ _, stabJ_v _ _, stabJ_v _ _, stabJ_v _ _, stabJ_v _ _, stabJ_d _, trivial⟩) ⟨(Only.refl _ wr).trans (.of_below (Below.refl _ _).drew), _, mkT_len _ _ _, HS.out.1, YR.out⟩ ?_ ?_
        · refine ⟨?_, ?_, ?_, ?_, ?_, ?_, ?_, ?_, ?_, ?_, ?_, ?_, ?_, ?_, ?_, ?_, ?_, ?_, ?_, ?_, ?_, trivial⟩
          · exact lj_move (.tmp 5) (.inl rfl) (fun _ _ _ => want_none rfl) fun ρ wx _ hx _ => hx 5 rfl
          · exact lj_move (.tmp 0) (.inl rfl) (fun _ _ _ => want_none rfl) fun ρ wx _ hx _ => hx 0 rfl
          · exact lj_move (.tmp 6) (.inl rfl) (fun _ _ _ => want_none rfl) fun ρ wx _ hx _ => hx 6 rfl
          · refine lj_val (.pointer (some ⟨g, oo + q, none⟩)) (fun _ _ _ => want_none rfl) fun ρ wx hb hc hx hp => ⟨?_, rfl⟩
            have d0 : ρ (.tmp 23) = .slice (some ⟨g, oo, none⟩) 16 c := hp.1 rfl
            have d1 : ρ (.tmp 24) = .int .i64 (q : Int) := hp.2.1 rfl
            unfold execOp
            simp only [d0, d1]
            clear d0 d1 hx hc hp hb cx cy
            go_simp
          · refine lj_val (.int .i64 x) (fun _ _ _ => want_none rfl) fun ρ wx hb hc hx hp => ⟨?_, rfl⟩
            have d0 : ρ (.tmp 25) = .pointer (some ⟨g, oo + q, none⟩) := hp.1 rfl
            have ck := only_cell hb.1 cx (by simpa using hne)
            unfold execOp
            simp only [d0]
            clear d0 hx hc hp hb cx cy
            go_simp
          · exact lj_move (.tmp 7) (.inl rfl) (fun _ _ _ => want_none rfl) fun ρ wx _ hx _ => hx 7 rfl
          · refine lj_val (.int .i64 ux) (fun _ _ _ => want_none rfl) fun ρ wx hb hc hx hp => ⟨?_, rfl⟩
            have d0 : ρ (.tmp 26) = .int .i64 x := hp.1 rfl
            have d1 : ρ (.tmp 27) = .int .i64 (j : Int) := hp.2.1 rfl
            unfold execOp
            simp only [d0, d1]
            clear d0 d1 hx hc hp hb cx cy
            go_simp
          · refine lj_val (.int .i64 va) (fun _ _ _ => want_none rfl) fun ρ wx hb hc hx hp => ⟨?_, rfl⟩
            have d0 : ρ (.tmp 28) = .int .i64 ux := hp.1 rfl
            unfold execOp
            simp only [d0, hc]
            clear d0 hx hc hp hb cx cy
            go_simp
          · exact lj_move (.tmp 0) (.inl rfl) (fun _ _ _ => want_none rfl) fun ρ wx _ hx _ => hx 0 rfl
          · exact lj_move (.tmp 6) (.inl rfl) (fun _ _ _ => want_none rfl) fun ρ wx _ hx _ => hx 6 rfl
          · refine lj_val (.int .i64 (p : Int)) (fun _ _ _ => want_none rfl) fun ρ wx hb hc hx hp => ⟨?_, rfl⟩
            have d0 : ρ (.tmp 31) = .int .i64 (q : Int) := hp.1 rfl
            unfold execOp
            simp only [d0, hc]
            clear d0 hx hc hp hb cx cy
            go_simp
          · refine lj_val (.pointer (some ⟨g, oo + p, none⟩)) (fun _ _ _ => want_none rfl) fun ρ wx hb hc hx hp => ⟨?_, rfl⟩
            have d0 : ρ (.tmp 30) = .slice (some ⟨g, oo, none⟩) 16 c := hp.1 rfl
            have d1 : ρ (.tmp 32) = .int .i64 (p : Int) := hp.2.1 rfl
            unfold execOp
            simp only [d0, d1]
            clear d0 d1 hx hc hp hb cx cy
            go_simp
          · refine lj_val (.int .i64 y) (fun _ _ _ => want_none rfl) fun ρ wx hb hc hx hp => ⟨?_, rfl⟩
            have d0 : ρ (.tmp 33) = .pointer (some ⟨g, oo + p, none⟩) := hp.1 rfl
            have ck := only_cell hb.1 cy (by simpa using hne)
            unfold execOp
            simp only [d0]
            clear d0 hx hc hp hb cx cy
            go_simp
          · exact lj_move (.tmp 7) (.inl rfl) (fun _ _ _ => want_none rfl) fun ρ wx _ hx _ => hx 7 rfl
          · refine lj_val (.int .i64 uy) (fun _ _ _ => want_none rfl) fun ρ wx hb hc hx hp => ⟨?_, rfl⟩
            have d0 : ρ (.tmp 34) = .int .i64 y := hp.1 rfl
            have d1 : ρ (.tmp 35) = .int .i64 (j : Int) := hp.2.1 rfl
            unfold execOp
            simp only [d0, d1]
            clear d0 d1 hx hc hp hb cx cy
            go_simp
          · refine lj_val (.int .i64 vb) (fun _ _ _ => want_none rfl) fun ρ wx hb hc hx hp => ⟨?_, rfl⟩
            have d0 : ρ (.tmp 36) = .int .i64 uy := hp.1 rfl
            unfold execOp
            simp only [d0, hc]
            clear d0 hx hc hp hb cx cy
            go_simp
          · refine lj_val (.int .i64 (2 * vb)) (fun _ _ _ => want_none rfl) fun ρ wx hb hc hx hp => ⟨?_, rfl⟩
            have d0 : ρ (.tmp 37) = .int .i64 vb := hp.1 rfl
            unfold execOp
            simp only [d0, hc]
            clear d0 hx hc hp hb cx cy
            go_simp
          · refine lj_val (.int .i64 (va + 2 * vb)) (fun _ _ _ => want_none rfl) fun ρ wx hb hc hx hp => ⟨?_, rfl⟩
            have d0 : ρ (.tmp 29) = .int .i64 va := hp.1 rfl
            have d1 : ρ (.tmp 38) = .int .i64 (2 * vb) := hp.2.1 rfl
            unfold execOp
            simp only [d0, d1]
            clear d0 d1 hx hc hp hb cx cy
            go_simp
          · refine lj_val (.pointer (some ⟨bx, 0, none⟩)) (fun _ _ _ => want_none rfl) fun ρ wx hb hc hx hp => ⟨?_, rfl⟩
            have d0 : ρ (.tmp 4) = .pointer (some ⟨bx, 0, none⟩) := hx 4 rfl
            unfold execOp
            simp only [d0]
            clear d0 hx hc hp hb cx cy
            go_simp
          · refine lj_val (.pointer (some ⟨bx, k, none⟩)) (fun _ _ _ => want_none rfl) fun ρ wx hb hc hx hp => ⟨?_, rfl⟩
            have d0 : ρ (.tmp 40) = .pointer (some ⟨bx, 0, none⟩) := hp.1 rfl
            have d1 : ρ (.tmp 22) = .int .i64 (k : Int) := hp.2.1 rfl
            unfold execOp
            simp only [d0, d1]
            clear d0 d1 hx hc hp hb cx cy
            go_simp
          · refine lj_put (fun _ _ _ => want_none rfl) fun ρ wx hJ hx hp => ?_
            have d0 : ρ (.tmp 41) = .pointer (some ⟨bx, k, none⟩) := hp.1 rfl
            have d1 : ρ (.tmp 39) = .int .i64 (va + 2 * vb) := hp.2.1 rfl
            obtain ⟨ho, zs, hz, hset, hbz⟩ := hJ
            have yk := til_cell hbz k (by rw [hz]; exact h64)
            have gk := hbz.frozen k
            have hb2 : Box (wx.setCell ⟨bx, k, none⟩ (.int .i64 (va + 2 * vb))) bx 25 (iv ys) := by
              rw [← hset, ← iv_put]; exact hbz.set k _
            refine ⟨wx.setCell ⟨bx, k, none⟩ (.int .i64 (va + 2 * vb)), ?_, fun _ => hb2, ⟨ho.setCell (.inl (by simp)) _, ys, by rw [HY.out]; exact mkT_len _ _ _, HS.out.2, hb2⟩, hb2⟩
            unfold execOp
            simp only [d0, d1]
            clear d0 d1 hx hp ho hbz hset hb2 cx cy
            go_simp
        · intro vs wx hI hF
          obtain ⟨_, _, _, _, _, _, _, _, _, _, _, _, _, _, _, _, _, _, _, _, hd, _⟩ := hF
          have HO : Hid (Only [bx] wr wx) := hI.1
          have Y2 : Hid (Box wx bx 25 (iv ys)) := hd
          have X2 := Lib.hid (XR.out.only HO.out (by simp; omega))
          have B2 : Hid (Below w.heap.size w wx) := BR.out.trans (HO.out.below (B := w.heap.size) (fun b hb => by simp at hb; omega) BR.out.size)
          have C2 : Hid (∀ i, i < 16 → wx.cell? ⟨g, oo + i, none⟩ = some (.int .i64 (xs.getD i 0))) := fun i hi => only_cell HO.out (CR.out i hi) (by simpa using hne)
          simp only [putAll, Act.put, List.setIfInBounds_toArray, List.set_cons_zero, List.set_cons_succ]
          clear hI hd cx cy XR YR BR CR
          subst hbx
          go_wp2_with fail
          go_roundw
          case rel => exact ⟨k + 1, by omega, by go_num, X2.out, by rw [← HY.out]; exact Y2.out, B2.out, C2.out, hne⟩
          case measure => simp [intOf]; omega
      · obtain rfl : k = 64 := by omega
        have hl : (mkT id (readP xs) 64).length = 64 := mkT_len _ _ _
        go_wp2_with (first | (refine st_load (by rfl) _ rfl _ rfl (mkT id (readP xs) 64) hl YR.out ?_) | (refine st_store (by rfl) _ _ rfl _ rfl (mkT id (readP xs) 64) rfl hl (iv z64) XR.out (by simp [z64_len]) ?_))
        have RF : Hid (Box (wr.setRow w.heap.size (iv (mkT id (readP xs) 64)).toArray) w.heap.size 25 (iv (mkT id (readP xs) 64))) := Box.row XR.out
        refine bodyPost_ret (v := .tuple #[tilV (mkT id (readP xs) 64), .bool true]) (til_ret2 rfl rfl RF.out hl _ rfl) rfl ⟨by rw [HR.out, HV.out], below_row BR.out (Nat.le_refl _) _⟩
  · have HV := Lib.hid (show sixB xs = false by simpa using hv)
    have HR := Lib.hid (show readT xs = z64 from if_neg hv)
    rw [HV.out]
    clear hv
    have hl := z64_len
    go_wp2_with (first | (refine st_load (by rfl) _ rfl _ rfl z64 hl Y1.out ?_) | (refine st_store (by rfl) _ _ rfl _ rfl z64 rfl hl (iv z64) X1.out (by simp [z64_len]) ?_))
    have RF : Hid (Box (w1.setRow w.heap.size (iv z64).toArray) w.heap.size 25 (iv z64)) := Box.row X1.out
    refine bodyPost_ret (v := .tuple #[tilV z64, .bool false]) (til_ret2 rfl rfl RF.out hl _ rfl) rfl ⟨by rw [HR.out, HV.out], below_row B1.out (Nat.le_refl _) _⟩
end Go.Proofs.Ytihohmmfgamecaa
