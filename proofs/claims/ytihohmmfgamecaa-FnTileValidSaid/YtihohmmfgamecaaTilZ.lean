/- The law of chapter 8 on planes, walked. -/
import Derived.Test.YtihohmmfgamecaaTilO
import Derived.Test.YtihohmmfgamecaaTypedT
import Derived.Test.YtihohmmfgamecaaLater
import Derived.Test.YtihohmmfgamecaaTilK
import Derived.Deep.DeepCutAuto
namespace Go.Proofs.Ytihohmmfgamecaa
open Go.ChangeShapes Go.WideShapes Go.ChangeAt Go.RowKit
set_option linter.unusedVariables false

/-- A tile's lower and higher digits. -/
def lowF (px : List Int) (i : Nat) : Int := px.getD i 0 % 2
def highF (px : List Int) (i : Nat) : Int := px.getD i 0 / 2 * 2
def z8 : List Int := List.replicate 8 0
theorem low_get (px : List Int) (i : Nat) (hi : i < 64) : (mkT id (lowF px) 64).getD i 0 = lowF px i := mkT_at id (fun i h => h) _ i hi
theorem high_get (px : List Int) (i : Nat) (hi : i < 64) : (mkT id (highF px) 64).getD i 0 = highF px i := mkT_at id (fun i h => h) _ i hi
theorem low_valid (px : List Int) : tilB (mkT id (lowF px) 64) = true := by
  rw [tilB_iff, mkT_len]
  intro i hi
  rw [low_get px i hi]
  unfold lowF
  rw [betB]
  simp only [Bool.and_eq_true, decide_eq_true_eq]
  omega
theorem high_valid {px : List Int} (hp : px.length = 64) (hv : tilB px = true) : tilB (mkT id (highF px) 64) = true := by
  rw [tilB_iff, mkT_len]
  intro i hi
  rw [high_get px i hi]
  obtain ⟨h0, h1⟩ := til_px hp hv i hi
  unfold highF
  rw [betB]
  simp only [Bool.and_eq_true, decide_eq_true_eq]
  omega
theorem plane_congr {px py : List Int} (k l : Nat) (h : ∀ x, x < 8 → px.getD (k % 8 * 8 + x) 0 / 2 ^ (k / 8) % 2 = py.getD (l % 8 * 8 + x) 0 / 2 ^ (l / 8) % 2) : plane px k 8 = plane py l 8 := by
  rw [plane_8 px k (fun x => py.getD (l % 8 * 8 + x) 0 / 2 ^ (l / 8) % 2) h, plane_8 py l _ (fun x _ => rfl)]
theorem plane_none {px : List Int} (k : Nat) (h : ∀ x, x < 8 → px.getD (k % 8 * 8 + x) 0 / 2 ^ (k / 8) % 2 = 0) : plane px k 8 = 0 := by
  rw [plane_8 px k (fun _ => 0) h]; rfl
theorem list_ext {a b : List Int} {n : Nat} (ha : a.length = n) (hb : b.length = n) (h : ∀ i, i < n → a.getD i 0 = b.getD i 0) : a = b := by
  apply List.ext_getElem (by omega)
  intro i h1 h2
  have := h i (by omega)
  rwa [List.getD_eq_getElem?_getD, List.getD_eq_getElem?_getD, List.getElem?_eq_getElem h1, List.getElem?_eq_getElem h2] at this
theorem drop_get (xs : List Int) (i : Nat) : (xs.drop 8).getD i 0 = xs.getD (8 + i) 0 := by simp [List.getD_eq_getElem?_getD]
theorem take_get (xs : List Int) (i : Nat) (hi : i < 8) : (xs.take 8).getD i 0 = xs.getD i 0 := by simp [List.getD_eq_getElem?_getD, hi]
theorem z8_get (i : Nat) : z8.getD i 0 = 0 := by
  unfold z8
  rw [List.getD_eq_getElem?_getD, List.getElem?_replicate]
  split <;> rfl
theorem low_high (px : List Int) : (bytT (mkT id (lowF px) 64)).drop 8 = z8 :=
  list_ext (n := 8) (by simp [bytT_len]) (by simp [z8]) fun i hi => by
    rw [drop_get, bytT_get _ _ (by omega), z8_get]
    refine plane_none _ fun x hx => ?_
    rw [low_get px _ (by omega), show (8 + i) / 8 = 1 by omega]
    unfold lowF
    rw [Int.pow_one]
    omega
theorem high_low (px : List Int) : (bytT (mkT id (highF px) 64)).take 8 = z8 :=
  list_ext (n := 8) (by simp [bytT_len]) (by simp [z8]) fun i hi => by
    rw [take_get _ _ hi, bytT_get _ _ (by omega), z8_get]
    refine plane_none _ fun x hx => ?_
    rw [high_get px _ (by omega), show i / 8 = 0 by omega]
    unfold highF
    rw [Int.pow_zero, Int.ediv_one]
    omega
theorem low_low (px : List Int) : (bytT (mkT id (lowF px) 64)).take 8 = (bytT px).take 8 :=
  list_ext (n := 8) (by simp [bytT_len]) (by simp [bytT_len]) fun i hi => by
    rw [take_get _ _ hi, take_get _ _ hi, bytT_get _ _ (by omega), bytT_get _ _ (by omega)]
    refine plane_congr _ _ fun x hx => ?_
    rw [low_get px _ (by omega), show i / 8 = 0 by omega]
    unfold lowF
    rw [Int.pow_zero, Int.ediv_one, Int.ediv_one]
    omega
theorem high_high (px : List Int) : (bytT (mkT id (highF px) 64)).drop 8 = (bytT px).drop 8 :=
  list_ext (n := 8) (by simp [bytT_len]) (by simp [bytT_len]) fun i hi => by
    rw [drop_get, drop_get, bytT_get _ _ (by omega), bytT_get _ _ (by omega)]
    refine plane_congr _ _ fun x hx => ?_
    rw [high_get px _ (by omega), show (8 + i) / 8 = 1 by omega]
    unfold highF
    rw [Int.pow_one]
    omega
theorem new_z8 (w : World) : Ints (w.alloc (.cells (iv z8).toArray 3)) (some ⟨w.heap.size, 0, none⟩) 8 z8 [w.heap.size] := by
  refine ⟨by simp [z8], .inr ⟨by omega, w.heap.size, 0, rfl, rfl, by simp, fun i hi => ?_⟩⟩
  rw [Nat.zero_add, World.cell?_alloc_new]
  simpa using iv_at z8 i (by simp [z8]; exact hi)
/-- Eight zeros of a new slice. -/
def TZ8 : Value → World → Prop := fun v w => ∃ A c fp, v = .slice A 8 c ∧ Ints w A 8 z8 fp
theorem stabB_z8 : Stab RlB TZ8 := fun _ _ _ hR ⟨A, c, fp, hv, hi⟩ => ⟨A, c, fp, hv, hi.below hR⟩
section
variable {ops : Array Oper} {Q : Exit → Act → World → Prop} {T : Nat → Value → World → Prop} {a0 : Act} {w0 : World} {i : Nat} {o : Oper}
theorem lb_same (x y : Nat) (ty : Array TypeId) (hop : o.op = .call { callee := .value (.func 23), args := #[.tmp x, .tmp y], argTypes := ty }) (hw : ∀ (ρ : Operand → Value) w, PreR ops T ρ w o.after.toList → wantV ops (slotR ρ) o = true)
    (h : ∀ (ρ : Operand → Value) w, Below w0.heap.size w0 w → PreR ops T ρ w o.after.toList → ∃ (A B : Option Addr) (n c d : Nat) (xs : List Int) (fa fb : List Nat), ρ (.tmp x) = .slice A n c ∧ ρ (.tmp y) = .slice B n d ∧ Ints w A n xs fa ∧ Ints w B n xs fb ∧ n ≤ 1000000000) (hT : ∀ w, T i (dstV o (.bool true)) w) : Ob Try.prog ops Q (ClB w0) RlB T a0 i o :=
  lb_gen hw fun ρ w hbl _ hf _ hp => by
    obtain ⟨A, B, n, c, d, xs, fa, fb, h1, h2, h3, h4, h5⟩ := h ρ w hbl hp
    have e : (execOp ρ o).run Try.prog w = .ok (.enter 23 #[.slice A n c, .slice B n d]) w := by
      have h6 := hf 23
      unfold execOp; rw [hop]
      simp [go_sem, h1, h2, h6]
    rw [e, UponT_enter]
    refine (same_ints A B n c d xs fa fb w h3 h4 h5).mono ?_
    rintro e w' ⟨rfl, m, rfl⟩
    exact ⟨_, rfl, below_drewN (Below.refl _ _) m, hT _⟩
theorem make8 (W : World) : (Instr.makeSlice 30 (.int .i64 8) (.int .i64 8)).run Try.prog W = .ok (.slice (some ⟨W.heap.size, 0, none⟩) 8 8) (W.alloc (.cells (madeCells #[.int .i64 0] 8) 3)) :=
  Go.run_make_row' (P := Try.prog) 30 3 (.int .i64 0) 8 Try.underlying30 infoInt rfl .i64 .i64 8 (by omega) (by omega) W
theorem lb_make8 (x y : Operand) (hop : o.op = .makeSlice 30 x y) (hw : ∀ (ρ : Operand → Value) w, PreR ops T ρ w o.after.toList → wantV ops (slotR ρ) o = true)
    (h : ∀ (ρ : Operand → Value), (∀ v, ρ (.const v) = v) → ρ x = .int .i64 8 ∧ ρ y = .int .i64 8) (hT : ∀ v w, TZ8 v w → T i (dstV o v) w) : Ob Try.prog ops Q (ClB w0) RlB T a0 i o :=
  lb_gen hw fun ρ w hb hc _ hx hp => by
    obtain ⟨h1, h2⟩ := h ρ hc
    have e : (execOp ρ o).run Try.prog w = .ok (.value (.slice (some ⟨w.heap.size, 0, none⟩) 8 8)) (w.alloc (.cells (iv z8).toArray 3)) := by
      have e8 : (iv z8).toArray = madeCells #[.int .i64 0] 8 := by kernel_rfl
      rw [e8]
      unfold execOp
      rw [hop]
      simp only [h1, h2, Sem.run_bind, make8, Result.andThen_ok]
      rfl
    rw [e, UponT_value]
    exact ⟨below1 w _, hT _ _ ⟨_, 8, [w.heap.size], rfl, new_z8 w⟩⟩
end
set_option maxRecDepth 100000 in
set_option maxHeartbeats 8000000 in
theorem walk_FnTilePlanes (TK : TilOk) (a0 : Option Addr) (len0 cap0 : Nat) (z0 : List Int) (w : World) (w0 : IsRow .u8 w a0 len0 cap0 z0) :
    Calls Try.prog 9 #[.slice a0 len0 cap0] w fun e w' => e = .returned (.bool true) ∧ Below w.heap.size w w' := by
  have H := Lib.hid w0
  have hl0 := isRow_len w0
  clear w0
  by_cases hs : len0 ≤ 1048576
  case neg =>
    have hs' : 1048576 < len0 := by omega
    go_enter Try.func9, Try.ntmps9
    go_wp2_with fail
    go_ret
    exact ⟨rfl, Below.refl _ _⟩
  go_enter Try.func9, Try.ntmps9
  go_wp2_with fail
  refine (draw_tileBytes _ _ _ _ _ H.out).mono ?_; rintro e w1 ⟨px, hpx, rfl, b1⟩
  have hl := hpx.1
  have X1 : Hid (Box (w1.alloc (.cells (iv px).toArray 25)) w1.heap.size 25 (iv px)) := Box.new w1 _ _
  have B1 : Hid (Below w.heap.size w (w1.alloc (.cells (iv px).toArray 25))) := b1.alloc b1.size _
  have HB1 := Lib.hid b1.size
  clear b1
  go_upto_region 4 with (first | (refine st_alloc (by rfl) rfl ?_) | (refine st_store (by rfl) _ _ rfl _ rfl px rfl hl (iv z64) (Box.new _ _ _) (by simp [z64_len]) ?_))
  rw [World.setRow_alloc_new]
  generalize w1.alloc (.cells (iv px).toArray 25) = W1 at X1 B1 ⊢
  have HBT : Hid (w.heap.size ≤ w1.heap.size) := HB1.out
  generalize w1.heap.size = bt at X1 HBT ⊢
  obtain ⟨V, hV⟩ : ∃ V, tilB px = V := ⟨_, rfl⟩
  have HV := Lib.hid hV
  clear hV
  obtain ⟨n, hn⟩ : ∃ n, (bytesT px).length = n := ⟨_, rfl⟩
  have hn16 : n ≤ 16 := by
    rw [← hn]; unfold bytesT
    split
    · rw [bytT_len]; omega
    · simp
  go_wp2_with (first | (refine st_load (by rfl) _ rfl _ rfl px hl X1.out ?_))
  refine (TK.bytes px _ hl).mono ?_; rintro e w2 ⟨A, c, fp, rfl, hc, hi, _, b2⟩
  rw [hn] at hc hi ⊢
  have X2 := Lib.hid (X1.out.below b2)
  have B2 := Lib.hid (below_then B1.out b2)
  have I2 := Lib.hid hi
  clear b2 hi X1 B1
  go_wp2_with (first | (refine st_load (by rfl) _ rfl _ rfl px hl X2.out ?_))
  refine (spec_bytes px hl _).mono ?_; rintro e w3 ⟨A', c', fp', rfl, hc', hi', _, b3⟩
  rw [hn] at hc' hi' ⊢
  have X3 := Lib.hid (X2.out.below b3)
  have B3 := Lib.hid (below_then B2.out b3)
  have I3 := Lib.hid (I2.out.below b3)
  have J3 := Lib.hid hi'
  clear b3 hi' X2 B2 I2
  go_wp2_with fail
  refine (same_ints _ _ _ _ _ _ _ _ _ I3.out J3.out (by omega)).mono ?_; rintro e w4 ⟨rfl, mm, rfl⟩
  have X5 : Hid (Box (w3.drewN mm) bt 25 (iv px)) := X3.out
  have B5 : Hid (Below w.heap.size w (w3.drewN mm)) := below_drewN B3.out mm
  have I5 : Hid (Ints (w3.drewN mm) A n (bytesT px) fp) := I3.out
  generalize w3.drewN mm = w5 at X5 B5 I5 ⊢
  clear X3 B3 I3 J3
  cases V
  · obtain rfl : n = 0 := by rw [← hn, show bytesT px = [] from if_neg (by rw [HV.out]; simp)]; rfl
    go_wp2_with fail
    refine (alive_any _).mono ?_; rintro e w' ⟨rfl, rfl⟩
    go_wp2_with fail
    go_ret
    exact ⟨rfl, B5.out⟩
  · have hv := HV.out
    have EB : bytesT px = bytT px := if_pos hv
    obtain rfl : n = 16 := by rw [← hn, EB, bytT_len]
    rw [EB] at I5
    clear hn EB
    obtain ⟨gp, op, rfl, _, zg, _⟩ := I5.out.at_ (by omega)
    go_upto_region 11 with (first | (refine st_alloc (by rfl) rfl ?_) | (refine st_build (by rfl) rfl ?_) | (refine st_store (by rfl) _ _ rfl _ rfl z64 rfl z64_len (iv z64) (Box.new _ _ _) (by simp [z64_len]) ?_))
    simp only [World.setRow_alloc_new]
    have X6 := Lib.hid ((X5.out.alloc (.cells (iv z64).toArray 25)).alloc (.cells (iv z64).toArray 25))
    have L6 : Hid (Box ((w5.alloc (.cells (iv z64).toArray 25)).alloc (.cells (iv z64).toArray 25)) w5.heap.size 25 (iv (mkT id (lowF px) 0))) := by rw [mkT_zero]; exact (Box.new w5 _ _).alloc _
    have H6 : Hid (Box ((w5.alloc (.cells (iv z64).toArray 25)).alloc (.cells (iv z64).toArray 25)) (w5.alloc (.cells (iv z64).toArray 25)).heap.size 25 (iv (mkT id (highF px) 0))) := by rw [mkT_zero]; exact Box.new _ _ _
    have B6 := Lib.hid ((B5.out.alloc B5.out.size (.cells (iv z64).toArray 25)).alloc (B5.out.alloc B5.out.size (.cells (iv z64).toArray 25)).size (.cells (iv z64).toArray 25))
    have I6 := Lib.hid ((I5.out.below (below1 w5 (.cells (iv z64).toArray 25))).below (below1 _ (.cells (iv z64).toArray 25)))
    have zt : bt < w5.heap.size := X5.out.lt
    have HF5 : Hid (∀ b ∈ fp, b < w5.heap.size) := I5.out.lt
    have zw : w.heap.size ≤ w5.heap.size := B5.out.size
    have zl : w5.heap.size < (w5.alloc (.cells (iv z64).toArray 25)).heap.size := by simp
    generalize (w5.alloc (.cells (iv z64).toArray 25)).heap.size = bh at H6 zl ⊢
    generalize (w5.alloc (.cells (iv z64).toArray 25)).alloc (.cells (iv z64).toArray 25) = w6 at X6 L6 H6 B6 I6 ⊢
    generalize w5.heap.size = bl at L6 zt zw zl zg HF5 ⊢
    have HFP : Hid (∀ b ∈ fp, b ≠ bl ∧ b ≠ bh) := fun b hb => by have := HF5.out b hb; omega
    have HN : Hid (bt ≠ bl ∧ bt ≠ bh ∧ bl ≠ bh ∧ w.heap.size ≤ bl ∧ w.heap.size ≤ bh ∧ gp ≠ bl ∧ gp ≠ bh) := ⟨by omega, by omega, by omega, by omega, by omega, by omega, by omega⟩
    clear X5 B5 I5 zt zw zl zg
    have HVV := Lib.hid hv
    clear hv
    go_wp2_with fail
    go_loopw [7] (fun i wr => ∃ k : Nat, k ≤ 64 ∧ i = .int .i64 k ∧ Box wr bt 25 (iv px) ∧ Box wr bl 25 (iv (mkT id (lowF px) k)) ∧ Box wr bh 25 (iv (mkT id (highF px) k)) ∧ Below w.heap.size w wr ∧ Ints wr (some ⟨gp, op, none⟩) 16 (bytT px) fp ∧ ∀ b ∈ fp, b ≠ bl ∧ b ≠ bh) (fun i _ => 64 - (intOf i).toNat)
    case atStart => exact ⟨0, by omega, rfl, X6.out, L6.out, H6.out, B6.out, I6.out, HFP.out⟩
    case round =>
      obtain ⟨k, hk, rfl, hx, hlo, hhi, hb, hii, hfp⟩ := hrel
      have XR := Lib.hid hx
      have LR := Lib.hid hlo
      have HR := Lib.hid hhi
      have BR := Lib.hid hb
      have IR := Lib.hid hii
      have FR := Lib.hid hfp
      clear hx hlo hhi hb hii hfp X6 L6 H6 B6 I6
      by_cases h64 : k < 64
      · have i64' : (k : Int) < 64 := by omega
        have k0 : 0 ≤ (k : Int) := by omega
        obtain ⟨y, hy⟩ : ∃ y, px.getD k 0 = y := ⟨_, rfl⟩
        obtain ⟨y0, y1⟩ := til_px hl HVV.out k h64
        have c0 := til_cell XR.out k (by omega)
        rw [hy] at y0 y1 c0
        have e0 := til_cell LR.out k (by rw [mkT_len]; exact h64)
        rw [mkT_get _ _ _ _ h64, id, if_neg (by omega)] at e0
        have g0 := LR.out.frozen k
        obtain ⟨u, hu⟩ : ∃ u, y % 2 = u := ⟨_, rfl⟩
        obtain ⟨v, hv⟩ : ∃ v, y / 2 * 2 = v := ⟨_, rfl⟩
        have HU : Hid (lowF px k = u ∧ highF px k = v) := ⟨by unfold lowF; rw [hy, hu], by unfold highF; rw [hy, hv]⟩
        have HY := Lib.hid hy
        clear hy
        go_upto_region 15 with (fail)
        have X7 := Lib.hid (XR.out.far (b' := bl) (i := k) HN.out.1 (.int .i64 u))
        have L7 : Hid (Box (wr.setCell ⟨bl, k, none⟩ (.int .i64 u)) bl 25 (iv (mkT id (lowF px) (k + 1)))) := by rw [← mkT_set id (lowF px) k k h64 (fun i _ => Iff.rfl), ← iv_put, HU.out.1]; exact LR.out.set k _
        have H7 := Lib.hid (HR.out.far (b' := bl) (i := k) (fun e => HN.out.2.2.1 e.symm) (.int .i64 u))
        have B7 : Hid (Below w.heap.size w (wr.setCell ⟨bl, k, none⟩ (.int .i64 u))) := BR.out.setCell (show w.heap.size ≤ bl from HN.out.2.2.2.1) _
        have I7 : Hid (Ints (wr.setCell ⟨bl, k, none⟩ (.int .i64 u)) (some ⟨gp, op, none⟩) 16 (bytT px) fp) := IR.out.keep (.of_only (S := [bl]) ((Only.refl _ wr).setCell (.inl (by simp)) _) fun b hb => by simpa using (FR.out b hb).1)
        generalize wr.setCell ⟨bl, k, none⟩ (.int .i64 u) = w7 at X7 L7 H7 B7 I7 ⊢
        clear c0 e0 g0 XR LR HR BR IR
        have c0 := til_cell X7.out k (by omega)
        have e0 := til_cell H7.out k (by rw [mkT_len]; exact h64)
        rw [mkT_get _ _ _ _ h64, id, if_neg (by omega)] at e0
        have g0 := H7.out.frozen k
        obtain ⟨y', hy'⟩ : ∃ y', px.getD k 0 = y' := ⟨_, rfl⟩
        rw [hy'] at c0
        obtain rfl : y' = y := by rw [← hy']; exact HY.out
        clear hy'
        go_wp2_with fail
        go_roundw
        case rel => exact ⟨k + 1, by omega, by go_num, X7.out.far HN.out.2.1 _, L7.out.far HN.out.2.2.1 _, by rw [← mkT_set id (highF px) k k h64 (fun i _ => Iff.rfl), ← iv_put, HU.out.2]; exact H7.out.set k (.int .i64 v), B7.out.setCell (show w.heap.size ≤ bh from HN.out.2.2.2.2.1) _, I7.out.keep (.of_only (S := [bh]) ((Only.refl _ w7).setCell (.inl (by simp)) _) fun b hb => by simpa using (FR.out b hb).2), FR.out⟩
        case measure => simp [intOf]; omega
      · obtain rfl : k = 64 := by omega
        clear h64
        have hll : (mkT id (lowF px) 64).length = 64 := mkT_len _ _ _
        have hlh : (mkT id (highF px) 64).length = 64 := mkT_len _ _ _
        have EL : bytesT (mkT id (lowF px) 64) = bytT (mkT id (lowF px) 64) := if_pos (low_valid px)
        have EH : bytesT (mkT id (highF px) 64) = bytT (mkT id (highF px) 64) := if_pos (high_valid hl HVV.out)
        have E1 := Lib.hid (low_high px)
        have E2 := Lib.hid (high_low px)
        have E3 := Lib.hid (low_low px)
        have E4 := Lib.hid (high_high px)
        have M1 := Lib.hid (bytT_len (mkT id (lowF px) 64))
        have M2 := Lib.hid (bytT_len (mkT id (highF px) 64))
        have M3 := Lib.hid (bytT_len px)
        go_wp2_with (first | (refine st_load (by rfl) _ rfl _ rfl (mkT id (lowF px) 64) hll LR.out ?_))
        refine (TK.bytes _ _ hll).mono ?_; rintro e w8 ⟨A1, c1, f1, rfl, hc1, hi1, _, b8⟩
        rw [EL] at hc1 hi1 ⊢
        rw [M1.out] at hc1 hi1 ⊢
        have H8 := Lib.hid (HR.out.below b8)
        have B8 := Lib.hid (below_then BR.out b8)
        have I8 := Lib.hid (IR.out.below b8)
        have J8 := Lib.hid hi1
        clear b8 hi1 XR LR HR BR IR
        go_wp2_with (first | (refine st_load (by rfl) _ rfl _ rfl (mkT id (highF px) 64) hlh H8.out ?_))
        refine (TK.bytes _ _ hlh).mono ?_; rintro e w9 ⟨A2, c2, f2, rfl, hc2, hi2, _, b9⟩
        rw [EH] at hc2 hi2 ⊢
        rw [M2.out] at hc2 hi2 ⊢
        have B9 := Lib.hid (below_then B8.out b9)
        have I9 := Lib.hid (I8.out.below b9)
        have J9 := Lib.hid (J8.out.below b9)
        have K9 := Lib.hid hi2
        clear b9 hi2 H8 B8 I8 J8 EL EH
        obtain ⟨g1, o1, rfl, _, _, _⟩ := J9.out.at_ (by omega)
        obtain ⟨g2, o2, rfl, _, _, _⟩ := K9.out.at_ (by omega)
        generalize bytT (mkT id (lowF px) 64) = xl at J9 E1 E3 M1
        generalize bytT (mkT id (highF px) 64) = xh at K9 E2 E4 M2
        generalize bytT px = xp at I9 E3 E4 M3
        have P1 : Hid (∃ f, Ints w9 (some ⟨g1, o1 + 8, none⟩) 8 z8 f) := ⟨_, by have h := ints_off J9.out (k := 8) (L := 8) (by omega) (by omega); rw [E1.out] at h; simpa [z8] using h⟩
        have P2 : Hid (∃ f, Ints w9 (some ⟨g2, o2, none⟩) 8 z8 f) := ⟨_, by have h := ints_off K9.out (k := 0) (L := 8) (by omega) (by omega); rw [List.drop_zero, E2.out] at h; simpa using h⟩
        have P3 : Hid (∃ f, Ints w9 (some ⟨g1, o1, none⟩) 8 (xp.take 8) f) := ⟨_, by have h := ints_off J9.out (k := 0) (L := 8) (by omega) (by omega); rw [List.drop_zero, E3.out] at h; simpa using h⟩
        have P4 : Hid (∃ f, Ints w9 (some ⟨gp, op, none⟩) 8 (xp.take 8) f) := ⟨_, by have h := ints_off I9.out (k := 0) (L := 8) (by omega) (by omega); rw [List.drop_zero] at h; simpa using h⟩
        have P5 : Hid (∃ f, Ints w9 (some ⟨g2, o2 + 8, none⟩) 8 (xp.drop 8) f) := ⟨_, by have h := ints_off K9.out (k := 8) (L := 8) (by omega) (by omega); rw [E4.out, List.take_of_length_le (by rw [List.length_drop, M3.out]; omega)] at h; exact h⟩
        have P6 : Hid (∃ f, Ints w9 (some ⟨gp, op + 8, none⟩) 8 (xp.drop 8) f) := ⟨_, by have h := ints_off I9.out (k := 8) (L := 8) (by omega) (by omega); rw [List.take_of_length_le (by rw [List.length_drop, M3.out]; omega)] at h; exact h⟩
        have n1 : ¬ c1 = 8 := by omega
        have n2 : ¬ c2 = 8 := by omega
        have n3 : ¬ c = 8 := by omega
        have n4 : 8 ≤ c1 := by omega
        have n5 : 8 ≤ c2 := by omega
        have n6 : 8 ≤ c := by omega
        have n7 : ¬ (c1 : Int) < 8 := by omega
        have n8 : ¬ (c2 : Int) < 8 := by omega
        have n9 : ¬ (c : Int) < 8 := by omega
        clear I9 J9 K9 E1 E2 E3 E4 M1 M2 M3 hll hlh
        go_upto_region 18 with (fail)
        refine wp_region_typed (ClB w9) RlB (Ty [TV (.slice (some ⟨g1, o1, none⟩) 16 c1), TV (.slice (some ⟨g1, o1 + 8, none⟩) 8 (c1 - 8)), TZ8, TV (.bool true), TV (.bool true), TV (.slice (some ⟨g2, o2, none⟩) 16 c2), TV (.slice (some ⟨g2, o2, none⟩) 8 c2), TZ8, TV (.bool true), TV (.bool true), TV (.bool true), TV (.slice (some ⟨g1, o1, none⟩) 16 c1), TV (.slice (some ⟨g1, o1, none⟩) 8 c1), TV (.slice (some ⟨gp, op, none⟩) 16 c), TV (.slice (some ⟨gp, op, none⟩) 8 c), TV (.bool true), TV (.bool true), TV (.bool true), TV (.slice (some ⟨g2, o2, none⟩) 16 c2), TV (.slice (some ⟨g2, o2 + 8, none⟩) 8 (c2 - 8)), TV (.slice (some ⟨gp, op, none⟩) 16 c), TV (.slice (some ⟨gp, op + 8, none⟩) 8 (c - 8)), TV (.bool true), TV (.bool true), TV (.bool true)])
          (by kernel_rfl) (by kernel_rfl) (stab_ty _ ⟨stabB_k _, stabB_k _, stabB_z8, stabB_k _, stabB_k _, stabB_k _, stabB_k _, stabB_z8, stabB_k _, stabB_k _, stabB_k _, stabB_k _, stabB_k _, stabB_k _, stabB_k _, stabB_k _, stabB_k _, stabB_k _, stabB_k _, stabB_k _, stabB_k _, stabB_k _, stabB_k _, stabB_k _, stabB_k _, trivial⟩) (Below.refl _ _).drew ?_ ?_
        · refine ⟨?_, ?_, ?_, ?_, ?_, ?_, ?_, ?_, ?_, ?_, ?_, ?_, ?_, ?_, ?_, ?_, ?_, ?_, ?_, ?_, ?_, ?_, ?_, ?_, ?_, trivial⟩
          · exact lb_move (.tmp 8) (.inl rfl) (fun _ _ _ => want_none rfl) fun ρ wx hc hx hp => hx 8 rfl
          · refine lb_val (.slice (some ⟨g1, o1 + 8, none⟩) 8 (c1 - 8)) (fun _ _ _ => want_none rfl) fun ρ wx hb hc hx hp => ⟨?_, rfl⟩
            have h0 : ρ (.tmp 53) = .slice (some ⟨g1, o1, none⟩) 16 c1 := hp.1 rfl
            have h1 : ρ (.const (.int .i64 8)) = .int .i64 8 := hc _
            unfold execOp
            simp only [Option.map_some, Option.map_none, h0, h1]
            clear h0 h1 hx hc hp hb
            go_simp
          · exact lb_make8 _ _ rfl (fun _ _ _ => want_none rfl) (fun ρ hc => ⟨hc _, hc _⟩) (fun _ _ h => h)
          · refine lb_same 54 55 _ rfl (fun _ _ _ => want_none rfl) (fun ρ wx hb hp => ?_) (fun _ => rfl)
            have h0 : ρ (.tmp 54) = .slice (some ⟨g1, o1 + 8, none⟩) 8 (c1 - 8) := hp.1 rfl
            obtain ⟨B, d, fb, h1, h2⟩ : TZ8 (ρ (.tmp 55)) wx := hp.2.1 rfl
            obtain ⟨f, hf⟩ := P1.out
            exact ⟨_, B, 8, _, d, z8, f, fb, h0, h1, hf.below hb, h2, by omega⟩
          · exact lb_move (.tmp 56) (.inl rfl) (fun _ _ _ => want_none rfl) fun ρ wx hc hx hp => hp.1 rfl
          · exact lb_move (.tmp 9) (.inl rfl) (fun ρ wx hp => want_of 4 true 57 rfl rfl (hp.1 rfl)) fun ρ wx hc hx hp => hx 9 rfl
          · refine lb_val (.slice (some ⟨g2, o2, none⟩) 8 c2) (fun ρ wx hp => want_of 4 true 57 rfl rfl (hp.2.1 rfl)) fun ρ wx hb hc hx hp => ⟨?_, rfl⟩
            have h0 : ρ (.tmp 58) = .slice (some ⟨g2, o2, none⟩) 16 c2 := hp.1 rfl
            have h1 : ρ (.const (.int .i64 8)) = .int .i64 8 := hc _
            unfold execOp
            simp only [Option.map_some, Option.map_none, h0, h1]
            clear h0 h1 hx hc hp hb
            go_simp
          · exact lb_make8 _ _ rfl (fun ρ wx hp => want_of 4 true 57 rfl rfl (hp.1 rfl)) (fun ρ hc => ⟨hc _, hc _⟩) (fun _ _ h => h)
          · refine lb_same 59 60 _ rfl (fun ρ wx hp => want_of 4 true 57 rfl rfl (hp.2.2.1 rfl)) (fun ρ wx hb hp => ?_) (fun _ => rfl)
            have h0 : ρ (.tmp 59) = .slice (some ⟨g2, o2, none⟩) 8 c2 := hp.1 rfl
            obtain ⟨B, d, fb, h1, h2⟩ : TZ8 (ρ (.tmp 60)) wx := hp.2.1 rfl
            obtain ⟨f, hf⟩ := P2.out
            exact ⟨_, B, 8, _, d, z8, f, fb, h0, h1, hf.below hb, h2, by omega⟩
          · exact lb_pick (.tmp 57) _ _ rfl true (fun _ _ _ => want_none rfl) fun ρ wx hc hp => ⟨hp.1 rfl, hp.2.1 rfl⟩
          · exact lb_move (.tmp 62) (.inl rfl) (fun _ _ _ => want_none rfl) fun ρ wx hc hx hp => hp.1 rfl
          · exact lb_move (.tmp 8) (.inl rfl) (fun ρ wx hp => want_of 10 true 63 rfl rfl (hp.1 rfl)) fun ρ wx hc hx hp => hx 8 rfl
          · refine lb_val (.slice (some ⟨g1, o1, none⟩) 8 c1) (fun ρ wx hp => want_of 10 true 63 rfl rfl (hp.2.1 rfl)) fun ρ wx hb hc hx hp => ⟨?_, rfl⟩
            have h0 : ρ (.tmp 64) = .slice (some ⟨g1, o1, none⟩) 16 c1 := hp.1 rfl
            have h1 : ρ (.const (.int .i64 8)) = .int .i64 8 := hc _
            unfold execOp
            simp only [Option.map_some, Option.map_none, h0, h1]
            clear h0 h1 hx hc hp hb
            go_simp
          · exact lb_move (.tmp 4) (.inl rfl) (fun ρ wx hp => want_of 10 true 63 rfl rfl (hp.1 rfl)) fun ρ wx hc hx hp => hx 4 rfl
          · refine lb_val (.slice (some ⟨gp, op, none⟩) 8 c) (fun ρ wx hp => want_of 10 true 63 rfl rfl (hp.2.1 rfl)) fun ρ wx hb hc hx hp => ⟨?_, rfl⟩
            have h0 : ρ (.tmp 66) = .slice (some ⟨gp, op, none⟩) 16 c := hp.1 rfl
            have h1 : ρ (.const (.int .i64 8)) = .int .i64 8 := hc _
            unfold execOp
            simp only [Option.map_some, Option.map_none, h0, h1]
            clear h0 h1 hx hc hp hb
            go_simp
          · refine lb_same 65 67 _ rfl (fun ρ wx hp => want_of 10 true 63 rfl rfl (hp.2.2.1 rfl)) (fun ρ wx hb hp => ?_) (fun _ => rfl)
            have h0 : ρ (.tmp 65) = .slice (some ⟨g1, o1, none⟩) 8 c1 := hp.1 rfl
            have h1 : ρ (.tmp 67) = .slice (some ⟨gp, op, none⟩) 8 c := hp.2.1 rfl
            obtain ⟨f, hf⟩ := P3.out
            obtain ⟨f', hf'⟩ := P4.out
            exact ⟨_, _, 8, _, _, _, f, f', h0, h1, hf.below hb, hf'.below hb, by omega⟩
          · exact lb_pick (.tmp 63) _ _ rfl true (fun _ _ _ => want_none rfl) fun ρ wx hc hp => ⟨hp.1 rfl, hp.2.1 rfl⟩
          · exact lb_move (.tmp 69) (.inl rfl) (fun _ _ _ => want_none rfl) fun ρ wx hc hx hp => hp.1 rfl
          · exact lb_move (.tmp 9) (.inl rfl) (fun ρ wx hp => want_of 17 true 70 rfl rfl (hp.1 rfl)) fun ρ wx hc hx hp => hx 9 rfl
          · refine lb_val (.slice (some ⟨g2, o2 + 8, none⟩) 8 (c2 - 8)) (fun ρ wx hp => want_of 17 true 70 rfl rfl (hp.2.1 rfl)) fun ρ wx hb hc hx hp => ⟨?_, rfl⟩
            have h0 : ρ (.tmp 71) = .slice (some ⟨g2, o2, none⟩) 16 c2 := hp.1 rfl
            have h1 : ρ (.const (.int .i64 8)) = .int .i64 8 := hc _
            unfold execOp
            simp only [Option.map_some, Option.map_none, h0, h1]
            clear h0 h1 hx hc hp hb
            go_simp
          · exact lb_move (.tmp 4) (.inl rfl) (fun ρ wx hp => want_of 17 true 70 rfl rfl (hp.1 rfl)) fun ρ wx hc hx hp => hx 4 rfl
          · refine lb_val (.slice (some ⟨gp, op + 8, none⟩) 8 (c - 8)) (fun ρ wx hp => want_of 17 true 70 rfl rfl (hp.2.1 rfl)) fun ρ wx hb hc hx hp => ⟨?_, rfl⟩
            have h0 : ρ (.tmp 73) = .slice (some ⟨gp, op, none⟩) 16 c := hp.1 rfl
            have h1 : ρ (.const (.int .i64 8)) = .int .i64 8 := hc _
            unfold execOp
            simp only [Option.map_some, Option.map_none, h0, h1]
            clear h0 h1 hx hc hp hb
            go_simp
          · refine lb_same 72 74 _ rfl (fun ρ wx hp => want_of 17 true 70 rfl rfl (hp.2.2.1 rfl)) (fun ρ wx hb hp => ?_) (fun _ => rfl)
            have h0 : ρ (.tmp 72) = .slice (some ⟨g2, o2 + 8, none⟩) 8 (c2 - 8) := hp.1 rfl
            have h1 : ρ (.tmp 74) = .slice (some ⟨gp, op + 8, none⟩) 8 (c - 8) := hp.2.1 rfl
            obtain ⟨f, hf⟩ := P5.out
            obtain ⟨f', hf'⟩ := P6.out
            exact ⟨_, _, 8, _, _, _, f, f', h0, h1, hf.below hb, hf'.below hb, by omega⟩
          · exact lb_pick (.tmp 70) _ _ rfl true (fun _ _ _ => want_none rfl) fun ρ wx hc hp => ⟨hp.1 rfl, hp.2.1 rfl⟩
          · exact lb_move (.tmp 76) (.inr rfl) (fun _ _ _ => want_none rfl) fun ρ wx hc hx hp => hp.1 rfl
        intro vs wx hI hF
        obtain ⟨_, _, _, _, _, _, _, _, _, _, _, _, _, _, _, _, _, _, _, _, _, _, _, _, h24, _⟩ := hF
        replace h24 : vs 24 = .bool true := h24
        have HI : Hid (Below w9.heap.size w9 wx) := hI
        simp only [putAll, Act.put, List.setIfInBounds_toArray, List.set_cons_zero, List.set_cons_succ, h24]
        clear hI h24
        have B10 := Lib.hid (below_then B9.out HI.out)
        go_wp2_with fail
        go_ret
        exact ⟨rfl, B10.out⟩
end Go.Proofs.Ytihohmmfgamecaa
