import Derived.Test.YtihohmmfgamecaaPln
import Derived.Test.YtihohmmfgamecaaTypedT
import Derived.Test.YtihohmmfgamecaaTypedG
import Derived.BigRegion
import Derived.Laws.BitsAllLaws
import Derived.Test.YtihohmmfgamecaaTilR
import Derived.Test.YtihohmmfgamecaaIn
import Derived.Test.YtihohmmfgamecaaTilP

section
/- A tile put together from its two planes: the program's function. -/
namespace Go.Proofs.Ytihohmmfgamecaa
open Go.ChangeShapes Go.WideShapes Go.ChangeAt Go.RowKit
set_option linter.unusedVariables false

section
variable {ops : Array Oper} {Q : Exit → Act → World → Prop} {T : Nat → Value → World → Prop} {a0 : Act} {w0 : World} {i : Nat} {o : Oper} {ty : TypeId} {n : Nat}
/-- An array is loaded, out of a place of a block. -/
theorem lb_part (A : ArrTy ty n) (x : Operand) (b off : Nat) {t : TypeId} (cs ds : List Value) (hop : o.op = .load ty x) (hl : ds.length = n) (hb : Box w0 b t cs) (hs : ∀ j v, ds[j]? = some v → cs[off + j]? = some v)
    (hw : ∀ (ρ : Operand → Value) w, PreR ops T ρ w o.after.toList → wantV ops (slotR ρ) o = true)
    (h : ∀ (ρ : Operand → Value) w, (∀ n, (ops.toList.all fun o => o.dst != some n) = true → ρ (.tmp n) = a0.eval (.tmp n)) → PreR ops T ρ w o.after.toList → ρ x = .pointer (some ⟨b, off, none⟩) ∧ T i (dstV o (.agg ds.toArray)) w) : Ob Try.prog ops Q (ClB w0) RlB T a0 i o :=
  lb_val (.agg ds.toArray) hw fun ρ w hbl _ hx hp => by
    obtain ⟨h1, h2⟩ := h ρ w hx hp
    refine ⟨?_, h2⟩
    obtain ⟨d, hu, hd⟩ := A.agg
    unfold execOp
    rw [hop]
    simp only [h1, Instr.loadAt, Instr.sureAddr, Sem.run_bind, Sem.run_pure, Result.andThen_ok, run_loadVar_part w b off t ty cs ds d (hb.below hbl) hu hd (by rw [hl]; exact A.info) hs]
/-- The address of one of the planes. -/
theorem lb_side (x : Operand) (k : IntKind) (b p : Nat) (hp : p < 2) (hop : o.op = .indexAddr 58 x (.const (.int .i64 (p : Int)))) (hw : ∀ (ρ : Operand → Value) w, PreR ops T ρ w o.after.toList → wantV ops (slotR ρ) o = true)
    (h : ∀ (ρ : Operand → Value) w, (∀ n, (ops.toList.all fun o => o.dst != some n) = true → ρ (.tmp n) = a0.eval (.tmp n)) → PreR ops T ρ w o.after.toList → ρ x = .pointer (some ⟨b, 0, none⟩) ∧ T i (dstV o (.pointer (some ⟨b, 8 * p, none⟩))) w) : Ob Try.prog ops Q (ClB w0) RlB T a0 i o :=
  lb_val (.pointer (some ⟨b, 8 * p, none⟩)) hw fun ρ w _ hc hx hpr => by
    obtain ⟨h1, h2⟩ := h ρ w hx hpr
    refine ⟨?_, h2⟩
    have h3 := hc (.int .i64 (p : Int))
    unfold execOp
    rw [hop]
    simp only [h1, h3]
    clear h1 h3 hx hpr hc hw h
    have p2 : p = 0 ∨ p = 1 := by omega
    rcases p2 with rfl | rfl <;> go_simp
end
theorem half0 (xs : List Int) (j : Nat) (v : Value) (h : (uv (xs.take 8))[j]? = some v) : (uv xs)[0 + j]? = some v := by
  unfold uv at h ⊢
  rw [List.map_take] at h
  rw [Nat.zero_add]
  rw [List.getElem?_take] at h
  split at h
  · exact h
  · cases h
theorem half1 (xs : List Int) (j : Nat) (v : Value) (h : (uv (xs.drop 8))[j]? = some v) : (uv xs)[8 + j]? = some v := by
  unfold uv at h ⊢
  rw [List.map_drop, List.getElem?_drop] at h
  exact h
theorem pix_all : ∀ a b : Fin 2, wrap64 (bits .or .u8 ((b.val : Int) * 2) (a.val : Int)) = (a.val : Int) + 2 * (b.val : Int) := by decide +kernel
theorem pix_bits (a b : Int) (a0 : 0 ≤ a) (a1 : a ≤ 1) (b0 : 0 ≤ b) (b1 : b ≤ 1) : wrap64 (bits .or .u8 (b * 2) a) = a + 2 * b := by
  obtain ⟨m, rfl⟩ := Int.eq_ofNat_of_zero_le a0
  obtain ⟨z, rfl⟩ := Int.eq_ofNat_of_zero_le b0
  exact pix_all ⟨m, by omega⟩ ⟨z, by omega⟩
set_option maxHeartbeats 8000000 in
set_option maxRecDepth 100000 in
theorem pl_tile (xs : List Int) (hx : BytN 16 xs) (w : World) :
    Calls Try.prog 49 #[octV xs] w fun e w' => e = .returned (tilV (tileP xs)) ∧ Below w.heap.size w w' := by
  have HX := Lib.hid hx
  have hl := hx.1
  have H0 := Lib.hid (half_ok hx).1
  have H1 := Lib.hid (half_ok hx).2
  clear hx
  go_enter Try.func49, Try.ntmps49
  go_wp2_with (first | (refine st_alloc (by rfl) rfl ?_))
  obtain ⟨w1, hw1⟩ : ∃ w1, w1 = ((w.alloc (.cells (uv xs).toArray 58)).alloc (.cells (iv z64).toArray 25)).alloc (.cells (iv z64).toArray 25) := ⟨_, rfl⟩
  have X1 : Hid (Box w1 w.heap.size 58 (uv xs)) := by rw [hw1]; exact ((Box.new w _ _).alloc _).alloc _
  have R1 : Hid (Box w1 (w.heap.size + 1) 25 (iv z64)) := by rw [hw1]; exact (Box.new_at _ _ _ _ (by simp)).alloc _
  have Y1 : Hid (Box w1 (w.heap.size + 1 + 1) 25 (iv z64)) := by rw [hw1]; exact Box.new_at _ _ _ _ (by simp)
  have B1 : Hid (Below w.heap.size w w1) := by rw [hw1]; exact below3 w _ _ _
  rw [← hw1]
  clear hw1
  have HL : Hid (w.heap.size ≤ w.heap.size + 1 + 1) := Lib.hid (by omega)
  go_loopw [9] (fun i wr => ∃ k : Nat, k ≤ 64 ∧ i = .int .i64 k ∧ Box wr w.heap.size 58 (uv xs) ∧ Box wr (w.heap.size + 1) 25 (iv z64) ∧ Box wr (w.heap.size + 1 + 1) 25 (iv (mkT id (readP xs) k)) ∧ Below w.heap.size w wr) (fun i _ => 64 - (intOf i).toNat)
  case atStart => exact ⟨0, by omega, rfl, X1.out, R1.out, by rw [mkT_zero]; exact Y1.out, B1.out⟩
  case round =>
    obtain ⟨k, hk, rfl, hx, hr, hy, hb⟩ := hrel
    have XR := Lib.hid hx
    have RR := Lib.hid hr
    have YR := Lib.hid hy
    have BR := Lib.hid hb
    clear hx hr hy hb X1 R1 Y1 B1
    by_cases h64 : k < 64
    · have i64' : (k : Int) < 64 := by omega
      have k0 : 0 ≤ (k : Int) := by omega
      obtain ⟨r, c, hr, hc, r8, c8, hrc⟩ : ∃ r c : Nat, (k : Int) / 8 = r ∧ (k : Int) % 8 = c ∧ r < 8 ∧ c < 8 ∧ (k / 8 = r ∧ k % 8 = c) := ⟨k / 8, k % 8, by omega, by omega, by omega, by omega, rfl, rfl⟩
      have HP : Hid (readP xs k = dig ((xs.take 8).getD r 0) c + 2 * dig ((xs.drop 8).getD r 0) c) := by
        rw [readP_dig, hrc.1, hrc.2, tak8_get _ _ r8, dro8_get]; exact Lib.hid rfl
      clear hrc
      obtain ⟨d0, hd0⟩ : ∃ d, dig ((xs.take 8).getD r 0) c = d := ⟨_, rfl⟩
      obtain ⟨d1, hd1⟩ : ∃ d, dig ((xs.drop 8).getD r 0) c = d := ⟨_, rfl⟩
      obtain ⟨a0, a1⟩ := dig_bd ((xs.take 8).getD r 0) c
      obtain ⟨b0, b1⟩ := dig_bd ((xs.drop 8).getD r 0) c
      have C0 : Hid (∀ wq : World, Calls Try.prog 65 #[octV (xs.take 8), .int .i64 (r : Int), .int .i64 (c : Int)] wq fun e w' => e = .returned (.int .u8 d0) ∧ Below wq.heap.size wq w') := by
        rw [← hd0]; exact Lib.hid fun wq => pl_digit _ H0.out r c r8 c8 wq
      have C1 : Hid (∀ wq : World, Calls Try.prog 65 #[octV (xs.drop 8), .int .i64 (r : Int), .int .i64 (c : Int)] wq fun e w' => e = .returned (.int .u8 d1) ∧ Below wq.heap.size wq w') := by
        rw [← hd1]; exact Lib.hid fun wq => pl_digit _ H1.out r c r8 c8 wq
      rw [hd0] at a0 a1 HP
      rw [hd1] at b0 b1 HP
      rw [← pix_bits d0 d1 a0 a1 b0 b1] at HP
      clear hd0 hd1
      have l0 : (uv (xs.take 8)).length = 8 := by simp [hl]
      have l1 : (uv (xs.drop 8)).length = 8 := by simp [hl]
      go_upto_region 6 with (fail)
      rw [hc]
      refine wp_region_typed (ClB wr) RlB (Ty [TV (.pointer (some ⟨w.heap.size, 8 * 0, none⟩)), TV (octV (xs.take 8)), TV (.int .i64 (r : Int)), TV (.int .i64 (c : Int)), TV (.int .u8 d0), TV (.pointer (some ⟨w.heap.size, 8 * 1, none⟩)), TV (octV (xs.drop 8)), TV (.int .i64 (r : Int)), TV (.int .i64 (c : Int)), TV (.int .u8 d1), TV (.int .u8 d0), TV (.int .u8 d1)])
        (by kernel_rfl) (by kernel_rfl) (stab_ty _ ⟨stabB_k _, stabB_k _, stabB_k _, stabB_k _, stabB_k _, stabB_k _, stabB_k _, stabB_k _, stabB_k _, stabB_k _, stabB_k _, stabB_k _, trivial⟩) (Below.refl _ _).drew ?_ ?_
      · refine ⟨?_, ?_, ?_, ?_, ?_, ?_, ?_, ?_, ?_, ?_, ?_, ?_, trivial⟩
        · exact lb_side (.tmp 1) .i64 w.heap.size 0 (by omega) rfl (fun _ _ _ => want_none rfl) fun ρ wx hx hp => ⟨hx 1 rfl, rfl⟩
        · exact lb_part ty_plane (.tmp 16) w.heap.size (8 * 0) (uv xs) (uv (xs.take 8)) rfl l0 XR.out (half0 xs) (fun _ _ _ => want_none rfl) fun ρ wx hx hp => ⟨hp.1 rfl, rfl⟩
        · exact lb_move (.tmp 5) (.inl rfl) (fun _ _ _ => want_none rfl) fun ρ wx hc hx hp => hx 5 rfl
        · exact lb_move (.tmp 6) (.inl rfl) (fun _ _ _ => want_none rfl) fun ρ wx hc hx hp => hx 6 rfl
        · refine lb_known _ _ _ (.int .u8 d0) (fun _ _ => by simp [go_sem]) rfl (fun _ _ _ => want_none rfl) #[octV (xs.take 8), .int .i64 (r : Int), .int .i64 (c : Int)] (fun w hb => C0.out w) (fun ρ wx hc hx hp => ?_) (fun _ => rfl)
          have h0 : ρ (.tmp 17) = octV (xs.take 8) := hp.1 rfl
          have h1 : ρ (.tmp 18) = .int .i64 (r : Int) := hp.2.1 rfl
          have h2 : ρ (.tmp 19) = .int .i64 (c : Int) := hp.2.2.1 rfl
          simp only [List.map_toArray, List.map_cons, List.map_nil, h0, h1, h2]
        · exact lb_side (.tmp 1) .i64 w.heap.size 1 (by omega) rfl (fun _ _ _ => want_none rfl) fun ρ wx hx hp => ⟨hx 1 rfl, rfl⟩
        · exact lb_part ty_plane (.tmp 21) w.heap.size (8 * 1) (uv xs) (uv (xs.drop 8)) rfl l1 XR.out (half1 xs) (fun _ _ _ => want_none rfl) fun ρ wx hx hp => ⟨hp.1 rfl, rfl⟩
        · exact lb_move (.tmp 5) (.inl rfl) (fun _ _ _ => want_none rfl) fun ρ wx hc hx hp => hx 5 rfl
        · exact lb_move (.tmp 6) (.inl rfl) (fun _ _ _ => want_none rfl) fun ρ wx hc hx hp => hx 6 rfl
        · refine lb_known _ _ _ (.int .u8 d1) (fun _ _ => by simp [go_sem]) rfl (fun _ _ _ => want_none rfl) #[octV (xs.drop 8), .int .i64 (r : Int), .int .i64 (c : Int)] (fun w hb => C1.out w) (fun ρ wx hc hx hp => ?_) (fun _ => rfl)
          have h0 : ρ (.tmp 22) = octV (xs.drop 8) := hp.1 rfl
          have h1 : ρ (.tmp 23) = .int .i64 (r : Int) := hp.2.1 rfl
          have h2 : ρ (.tmp 24) = .int .i64 (c : Int) := hp.2.2.1 rfl
          simp only [List.map_toArray, List.map_cons, List.map_nil, h0, h1, h2]
        · exact lb_move (.tmp 20) (.inr rfl) (fun _ _ _ => want_none rfl) fun ρ wx hc hx hp => hp.1 rfl
        · exact lb_move (.tmp 25) (.inr rfl) (fun _ _ _ => want_none rfl) fun ρ wx hc hx hp => hp.1 rfl
      intro vs wx hI hF
      obtain ⟨_, _, _, _, _, _, _, _, _, _, h10, h11, _⟩ := hF
      replace h10 : vs 10 = .int .u8 d0 := h10
      replace h11 : vs 11 = .int .u8 d1 := h11
      have HI : Hid (Below wr.heap.size wr wx) := hI
      simp only [putAll, Act.put, List.setIfInBounds_toArray, List.set_cons_zero, List.set_cons_succ, h10, h11]
      clear hI h10 h11 C0 C1
      have X2 := Lib.hid (XR.out.below HI.out)
      have R2 := Lib.hid (RR.out.below HI.out)
      have Y2 := Lib.hid (YR.out.below HI.out)
      have B2 := Lib.hid (below_then BR.out HI.out)
      clear HI XR RR YR BR
      have y0 := til_cell Y2.out k (by rw [mkT_len]; exact h64)
      rw [mkT_get _ _ _ _ h64, id, if_neg (by omega)] at y0
      have g0 := Y2.out.frozen k
      go_wp2_with fail
      go_roundw
      case rel => exact ⟨k + 1, by omega, by go_num, X2.out.far (by omega) _, R2.out.far (by omega) _, by rw [← mkT_set id (readP xs) k k h64 (fun i _ => Iff.rfl), ← iv_set, HP.out]; exact Y2.out.set k _, B2.out.setCell HL.out _⟩
      case measure => simp [intOf]; omega
    · obtain rfl : k = 64 := by omega
      have hq : (mkT id (readP xs) 64).length = 64 := mkT_len _ _ _
      go_wp2_with (first | (refine st_load (by rfl) _ rfl _ rfl (mkT id (readP xs) 64) hq YR.out ?_) | (refine st_store (by rfl) _ _ rfl _ rfl (mkT id (readP xs) 64) rfl hq (iv z64) RR.out (by simp [z64_len]) ?_))
      have RF : Hid (Box (wr.setRow (w.heap.size + 1) (iv (mkT id (readP xs) 64)).toArray) (w.heap.size + 1) 25 (iv (mkT id (readP xs) 64))) := Box.row RR.out
      exact bodyPost_ret (v := tilV (mkT id (readP xs) 64)) (til_ret rfl rfl RF.out hq) rfl ⟨rfl, below_row BR.out (by omega) _⟩
end Go.Proofs.Ytihohmmfgamecaa
end

section
/- Both planes moved in the same way: the program's function, for any function on a plane. -/
namespace Go.Proofs.Ytihohmmfgamecaa
open Go.ChangeShapes Go.WideShapes Go.ChangeAt Go.RowKit
set_option linter.unusedVariables false

section
variable {ops : Array Oper} {Q : Exit → Act → World → Prop} {T : Nat → Value → World → Prop} {a0 : Act} {w0 : World} {i : Nat} {o : Oper}
/-- A call of a function that is a value. -/
theorem lb_fn (f : FuncId) (x : Operand) (xs : Array Operand) (ty : Array TypeId) (v : Value) (hcf : ∀ (args : Array Value) (w : World), (callFunc f args).run Try.prog w = .ok (.enter f args) w) (hop : o.op = .call { callee := .value x, args := xs, argTypes := ty }) (hw : ∀ (ρ : Operand → Value) w, PreR ops T ρ w o.after.toList → wantV ops (slotR ρ) o = true)
    (args : Array Value) (hC : ∀ w, Below w0.heap.size w0 w → Calls Try.prog f args w fun e w' => e = .returned v ∧ Below w.heap.size w w')
    (h : ∀ (ρ : Operand → Value) w, (∀ v, ρ (.const v) = v) → (∀ n, (ops.toList.all fun o => o.dst != some n) = true → ρ (.tmp n) = a0.eval (.tmp n)) → PreR ops T ρ w o.after.toList → ρ x = .func (.func f) #[] #[] ∧ xs.map ρ = args) (hT : ∀ w, T i (dstV o v) w) : Ob Try.prog ops Q (ClB w0) RlB T a0 i o :=
  lb_gen hw fun ρ w hbl hc hf hx hp => by
    obtain ⟨h3, ha⟩ := h ρ w hc hx hp
    have e : (execOp ρ o).run Try.prog w = .ok (.enter f args) w := by
      unfold execOp; rw [hop]
      simp [go_sem, h3, ha, hcf]
    rw [e, UponT_enter]
    refine (hC w hbl).mono ?_
    rintro e w' ⟨rfl, h1⟩
    exact ⟨v, rfl, h1, hT _⟩
end
theorem exec_store {ty : TypeId} {n : Nat} (A : ArrTy ty n) (ρ : Operand → Value) (o : Oper) (x y : Operand) (w : World) (b : Nat) (t : TypeId) (cs ds : List Value) (ho : o.op = .store ty x y) (hx : ρ x = .pointer (some ⟨b, 0, none⟩)) (hy : ρ y = .agg ds.toArray)
    (hb : Box w b t cs) (hc : cs.length = n) (hl : ds.length = n) (h1 : ds.toArray.all (·.oneCell') = true) : (execOp ρ o).run Try.prog w = .ok .skip (w.setRow b ds.toArray) := by
  unfold execOp
  simp only [ho, hx, hy, Instr.storeAt, Instr.sureAddr, Sem.run_bind, Sem.run_pure, Result.andThen_ok, run_storeVar_row w b t ty cs.toArray ds.toArray hb (by rw [List.size_toArray, hl]; exact A.info) (by simp [hc, hl]) h1]
theorem list8 {xs : List Int} (h : xs.length = 8) : ∃ a b c d e f g i, xs = [a, b, c, d, e, f, g, i] := by
  match xs, h with
  | [a, b, c, d, e, f, g, i], _ => exact ⟨a, b, c, d, e, f, g, i, rfl⟩
theorem built_planes (a b : List Int) (ha : a.length = 8) (hb : b.length = 8) : Try.prog.built 58 [(0, octV a), (1, octV b)] = some (uv (a ++ b)).toArray := by
  obtain ⟨a0, a1, a2, a3, a4, a5, a6, a7, rfl⟩ := list8 ha
  obtain ⟨b0, b1, b2, b3, b4, b5, b6, b7, rfl⟩ := list8 hb
  kernel_rfl
/-- What is asked of a function on a plane. -/
structure PlOk (f : FuncId) (F : List Int → List Int) : Prop where
  enter : ∀ (args : Array Value) (w : World), (callFunc f args).run Try.prog w = .ok (.enter f args) w
  len : ∀ ys, (F ys).length = 8
  call : ∀ ys w, BytN 8 ys → Calls Try.prog f #[octV ys] w fun e w' => e = .returned (octV (F ys)) ∧ Below w.heap.size w w'
set_option maxHeartbeats 8000000 in
set_option maxRecDepth 100000 in
theorem pl_each (f : FuncId) (F : List Int → List Int) (O : PlOk f F) (xs : List Int) (hx : BytN 16 xs) (w : World) :
    Calls Try.prog 54 #[octV xs, .func (.func f) #[] #[]] w fun e w' => e = .returned (octV (eachP F xs)) ∧ Below w.heap.size w w' := by
  have hl := hx.1
  have C0 := Lib.hid (fun wq : World => O.call (xs.take 8) wq (half_ok hx).1)
  have C1 := Lib.hid (fun wq : World => O.call (xs.drop 8) wq (half_ok hx).2)
  have hen := Lib.hid O.enter
  have n0 := O.len (xs.take 8)
  have n1 := O.len (xs.drop 8)
  clear hx O
  have HE := Lib.hid (show F (xs.take 8) ++ F (xs.drop 8) = eachP F xs from rfl)
  have l0 : (uv (xs.take 8)).length = 8 := by simp [hl]
  have l1 : (uv (xs.drop 8)).length = 8 := by simp [hl]
  obtain ⟨A, hA⟩ : ∃ A, F (xs.take 8) = A := ⟨_, rfl⟩
  obtain ⟨B, hB⟩ : ∃ B, F (xs.drop 8) = B := ⟨_, rfl⟩
  rw [hA] at n0 HE C0
  rw [hB] at n1 HE C1
  clear hA hB
  go_enter Try.func54, Try.ntmps54
  go_upto_region 1 with (fail)
  rw [zr16_lit]
  obtain ⟨w1, hw1⟩ : ∃ w1, w1 = (w.alloc (.cells (uv xs).toArray 58)).alloc (.cells (uv zr16).toArray 58) := ⟨_, rfl⟩
  have X1 : Hid (Box w1 w.heap.size 58 (uv xs)) := by rw [hw1]; exact (Box.new w _ _).alloc _
  have R1 : Hid (Box w1 (w.heap.size + 1) 58 (uv zr16)) := by rw [hw1]; exact Box.new_at _ _ _ _ (by simp)
  have B1 : Hid (Below w.heap.size w w1) := by rw [hw1]; exact below2 w _ _
  rw [← hw1]
  clear hw1
  refine wp_region_end (by dsimp only [List.dropLast]) rfl (ClB w1) RlB (Ty [TV (.func (.func f) #[] #[]), TV (.pointer (some ⟨w.heap.size, 8 * 0, none⟩)), TV (octV (xs.take 8)), TV (octV A), TV (.func (.func f) #[] #[]), TV (.pointer (some ⟨w.heap.size, 8 * 1, none⟩)), TV (octV (xs.drop 8)), TV (octV B), TV (octV (A ++ B))])
    (by kernel_rfl) (by kernel_rfl) (by kernel_rfl) (stab_ty _ ⟨stabB_k _, stabB_k _, stabB_k _, stabB_k _, stabB_k _, stabB_k _, stabB_k _, stabB_k _, stabB_k _, trivial⟩) (Below.refl _ _).drew ?_ ?_
  · refine ⟨?_, ?_, ?_, ?_, ?_, ?_, ?_, ?_, ?_, trivial⟩
    · exact lb_move (.tmp 1) (.inl rfl) (fun _ _ _ => want_none rfl) fun ρ wx hc hx hp => hx 1 rfl
    · exact lb_side (.tmp 2) .i64 w.heap.size 0 (by omega) rfl (fun _ _ _ => want_none rfl) fun ρ wx hx hp => ⟨hx 2 rfl, rfl⟩
    · exact lb_part ty_plane (.tmp 6) w.heap.size (8 * 0) (uv xs) (uv (xs.take 8)) rfl l0 X1.out (half0 xs) (fun _ _ _ => want_none rfl) fun ρ wx hx hp => ⟨hp.1 rfl, rfl⟩
    · refine lb_fn f (.tmp 5) _ _ (octV A) hen.out rfl (fun _ _ _ => want_none rfl) #[octV (xs.take 8)] (fun w hb => C0.out w) (fun ρ wx hc hx hp => ⟨hp.1 rfl, ?_⟩) (fun _ => rfl)
      have h0 : ρ (.tmp 7) = octV (xs.take 8) := hp.2.1 rfl
      simp only [List.map_toArray, List.map_cons, List.map_nil, h0]
    · exact lb_move (.tmp 1) (.inl rfl) (fun _ _ _ => want_none rfl) fun ρ wx hc hx hp => hx 1 rfl
    · exact lb_side (.tmp 2) .i64 w.heap.size 1 (by omega) rfl (fun _ _ _ => want_none rfl) fun ρ wx hx hp => ⟨hx 2 rfl, rfl⟩
    · exact lb_part ty_plane (.tmp 10) w.heap.size (8 * 1) (uv xs) (uv (xs.drop 8)) rfl l1 X1.out (half1 xs) (fun _ _ _ => want_none rfl) fun ρ wx hx hp => ⟨hp.1 rfl, rfl⟩
    · refine lb_fn f (.tmp 9) _ _ (octV B) hen.out rfl (fun _ _ _ => want_none rfl) #[octV (xs.drop 8)] (fun w hb => C1.out w) (fun ρ wx hc hx hp => ⟨hp.1 rfl, ?_⟩) (fun _ => rfl)
      have h0 : ρ (.tmp 11) = octV (xs.drop 8) := hp.2.1 rfl
      simp only [List.map_toArray, List.map_cons, List.map_nil, h0]
    · refine lb_val (octV (A ++ B)) (fun _ _ _ => want_none rfl) fun ρ wx hb hc hx hp => ⟨?_, rfl⟩
      have h0 : ρ (.tmp 8) = octV A := hp.1 rfl
      have h1 : ρ (.tmp 12) = octV B := hp.2.1 rfl
      unfold execOp
      simp only [List.map_toArray, List.map_cons, List.map_nil, h0, h1, Sem.run_bind, run_build wx 58 #[(0, octV A), (1, octV B)] (uv (A ++ B)).toArray (built_planes A B n0 n1), Result.andThen_ok]
      rfl
  intro vs wx hI hF
  obtain ⟨_, _, _, _, _, _, _, _, h8, _⟩ := hF
  replace h8 : vs 8 = octV (A ++ B) := h8
  have HI : Hid (Below w1.heap.size w1 wx) := hI
  have R2 := Lib.hid (R1.out.below HI.out)
  have B2 := Lib.hid (below_then B1.out HI.out)
  clear hI X1 R1 B1 HI C0 C1
  simp only [putAll, Act.put, List.setIfInBounds_toArray, List.set_cons_zero, List.set_cons_succ, h8]
  clear h8
  have hz := zr16_len
  have nn : (uv (A ++ B)).length = 16 := by simp [n0, n1]
  have RF : Hid (Box (wx.setRow (w.heap.size + 1) (uv (A ++ B)).toArray) (w.heap.size + 1) 58 (uv (A ++ B))) := Box.row R2.out
  refine ⟨wx.setRow (w.heap.size + 1) (uv (A ++ B)).toArray, exec_store ty_planes _ _ (.tmp 4) (.tmp 13) wx (w.heap.size + 1) _ (uv zr16) (uv (A ++ B)) rfl rfl rfl R2.out (by simp [hz]) nn (uv_one _), ?_⟩
  go_wp2_with fail
  exact bodyPost_ret (v := octV (A ++ B)) (arr_ret ty_planes rfl rfl RF.out nn) rfl ⟨by rw [HE.out], below_row B2.out (by omega) _⟩
theorem ok_across : PlOk 55 acrossP := ⟨fun _ _ => by simp [go_sem], across_len, fun ys w h => pl_across ys h w⟩
theorem ok_down : PlOk 56 downP := ⟨fun _ _ => by simp [go_sem], down_len, fun ys w h => pl_down ys h.1 w⟩
theorem ok_turn : PlOk 57 turnB := ⟨fun _ _ => by simp [go_sem], turnB_len, fun ys w h => pl_turn ys h w⟩
end Go.Proofs.Ytihohmmfgamecaa
end

section
/- Which places of a row have which value: the program's function. -/
namespace Go.Proofs.Ytihohmmfgamecaa
open Go.ChangeShapes Go.WideShapes Go.ChangeAt Go.RowKit
set_option linter.unusedVariables false

theorem not_u8 : ∀ x : Fin 256, bits .xor .u8 IntKind.u8.max (x.val : Int) = ((255 - x.val : Nat) : Int) := by decide +kernel
theorem not_u8' (x : Nat) (h : x < 256) : bits .xor .u8 IntKind.u8.max (x : Int) = ((255 - x : Nat) : Int) := not_u8 ⟨x, h⟩
theorem val_0 (l m : Nat) (hl : l < 256) (hm : m < 256) : bits .and .u8 (bits .xor .u8 IntKind.u8.max (m : Int)) (bits .xor .u8 IntKind.u8.max (l : Int)) = (placesN l m 0 : Nat) := by
  rw [not_u8' l hl, not_u8' m hm, u8_and_nat _ _ (by omega) (by omega)]; rfl
theorem val_1 (l m : Nat) (hl : l < 256) (hm : m < 256) : bits .and .u8 (bits .xor .u8 IntKind.u8.max (m : Int)) (l : Int) = (placesN l m 1 : Nat) := by
  rw [not_u8' m hm, u8_and_nat _ _ (by omega) (by omega)]; rfl
theorem val_2 (l m : Nat) (hl : l < 256) (hm : m < 256) : bits .and .u8 (m : Int) (bits .xor .u8 IntKind.u8.max (l : Int)) = (placesN l m 2 : Nat) := by
  rw [not_u8' l hl, u8_and_nat _ _ (by omega) (by omega)]; rfl
theorem val_3 (l m : Nat) (hl : l < 256) (hm : m < 256) : bits .and .u8 (m : Int) (l : Int) = (placesN l m 3 : Nat) := by
  rw [u8_and_nat _ _ (by omega) (by omega)]; rfl
set_option maxHeartbeats 4000000 in
theorem pl_values (xs : List Int) (hx : BytN 16 xs) (r l m : Nat) (hr : r < 8) (hlo : xs.getD r 0 = (l : Int)) (hhi : xs.getD (8 + r) 0 = (m : Int)) (w : World) :
    Calls Try.prog 58 #[octV xs, .int .i64 (r : Int)] w fun e w' => e = .returned (octV [(placesN l m 0 : Nat), (placesN l m 1 : Nat), (placesN l m 2 : Nat), (placesN l m 3 : Nat)]) ∧ Below w.heap.size w w' := by
  have hl := hx.1
  have bl := hx.2 r (by omega)
  have bh := hx.2 (8 + r) (by omega)
  rw [hlo] at bl
  rw [hhi] at bh
  clear hx
  go_enter Try.func58, Try.ntmps58
  go_upto_region 1 with (fail)
  obtain ⟨w1, hw1⟩ : ∃ w1, w1 = (w.alloc (.cells (uv xs).toArray 58)).alloc (.cells #[.int .u8 0, .int .u8 0, .int .u8 0, .int .u8 0] 67) := ⟨_, rfl⟩
  have X1 : Hid (Box w1 w.heap.size 58 (uv xs)) := by rw [hw1]; exact (Box.new w _ _).alloc _
  have R1 : Hid (Box w1 (w.heap.size + 1) 67 (uv [0, 0, 0, 0])) := by rw [hw1]; exact Box.new_at _ _ _ _ (by simp)
  have B1 : Hid (Below w.heap.size w w1) := by rw [hw1]; exact below2 w _ _
  rw [← hw1]
  clear hw1
  have r8 : (r : Int) < 8 := by omega
  have r0 : 0 ≤ (r : Int) := by omega
  have cl := oct_cell X1.out r (by omega)
  have ch := oct_cell X1.out (8 + r) (by omega)
  rw [hlo] at cl
  rw [hhi] at ch
  go_quiet (fail)
  have P0 := Lib.hid (And.intro (val_0 l m (by omega) (by omega)) (And.intro (val_1 l m (by omega) (by omega)) (And.intro (val_2 l m (by omega) (by omega)) (val_3 l m (by omega) (by omega)))))
  generalize hw2 : w1.drewN _ = w2
  have R2 : Hid (Box w2 (w.heap.size + 1) 67 (uv [0, 0, 0, 0])) := by rw [← hw2]; exact R1.out.drewN _
  have B2 : Hid (Below w.heap.size w w2) := by rw [← hw2]; exact below_drewN B1.out _
  clear hw2 X1 R1 B1 cl ch
  go_wp2_with (refine sa_store ty_four (by rfl) _ _ rfl (w.heap.size + 1) rfl _ (uv [0, 0, 0, 0]) [_, _, _, _] rfl R2.out rfl rfl (by simp [Value.oneCell']) ?_)
  rw [P0.out.1, P0.out.2.1, P0.out.2.2.1, P0.out.2.2.2]
  have RF : Hid (Box (w2.setRow (w.heap.size + 1) (uv [(placesN l m 0 : Nat), (placesN l m 1 : Nat), (placesN l m 2 : Nat), (placesN l m 3 : Nat)]).toArray) (w.heap.size + 1) 67 (uv [(placesN l m 0 : Nat), (placesN l m 1 : Nat), (placesN l m 2 : Nat), (placesN l m 3 : Nat)])) := Box.row R2.out
  exact bodyPost_ret (v := octV [(placesN l m 0 : Nat), (placesN l m 1 : Nat), (placesN l m 2 : Nat), (placesN l m 3 : Nat)]) (arr_ret ty_four rfl rfl RF.out rfl) rfl ⟨rfl, below_row B2.out (by omega) _⟩
end Go.Proofs.Ytihohmmfgamecaa
end

section
/- The program's TileValid, FlipTile and TurnTile. -/
namespace Go.Proofs.Ytihohmmfgamecaa
open Go.ChangeShapes Go.WideShapes Go.ChangeAt Go.RowKit
set_option linter.unusedVariables false

set_option maxHeartbeats 2000000 in
theorem im_valid (px : List Int) (hp : px.length = 64) (w : World) : Calls Try.prog 18 #[tilV px] w fun e w' => e = .returned (.bool (tilB px)) ∧ Below w.heap.size w w' := by
  go_enter Try.func18, Try.ntmps18
  go_wp2_with (refine sa_load ty_pixels (by rfl) _ rfl w.heap.size 0 rfl _ (iv px) (iv px) (Box.new w _ _) (by simp [hp]) (fun j v h => by simpa using h) ?_)
  have BB := Lib.hid (below1 w (.cells (iv px).toArray 25))
  generalize w.alloc (.cells (iv px).toArray 25) = w1 at BB ⊢
  go_loopw [7] (fun i wr => ∃ k : Nat, k ≤ 64 ∧ i = .int .i64 k ∧ wr = w1 ∧ ∀ j, j < k → betB (px.getD j 0) 0 3 = true) (fun i _ => 64 - (intOf i).toNat)
  case atStart => exact ⟨0, by omega, rfl, rfl, fun j hj => by omega⟩
  case round =>
    obtain ⟨k, hk, rfl, rfl, hall⟩ := hrel
    have HA := Lib.hid hall
    clear hall
    by_cases h64 : k < 64
    · have i64' : (k : Int) < 64 := by omega
      have k0 : 0 ≤ (k : Int) := by omega
      obtain ⟨x, hx⟩ : ∃ x, px.getD k 0 = x := ⟨_, rfl⟩
      have hI : ∀ wq, (Instr.index 23 (tilV px) (.int .i64 (k : Int))).run Try.prog wq = .ok (.int .i64 x) wq := fun wq => by rw [← hx]; exact run_index_pixels wq px hp k h64
      have HX := Lib.hid hx
      clear hx
      by_cases hb : betB x 0 3 = true
      · have HB := Lib.hid hb
        obtain ⟨x0, x3⟩ := betB_yes hb
        have nx0 : ¬ x < 0 := by omega
        have nx3 : ¬ 3 < x := by omega
        clear hb
        go_wp2_with fail
        go_roundw
        case rel => exact ⟨k + 1, by omega, by go_num, trivial, fun j hj => by
          by_cases e : j = k
          · subst e; rw [HX.out]; exact HB.out
          · exact HA.out j (by omega)⟩
        case measure => simp [intOf]; omega
      · have hb' : betB x 0 3 = false := by simpa using hb
        have HF := Lib.hid (tilB_no (px := px) k (by omega) (by rw [HX.out]; exact hb'))
        have hx : x < 0 ∨ ¬ x < 0 ∧ 3 < x := by
          have : ¬ (0 ≤ x ∧ x ≤ 3) := fun ⟨h0, h3⟩ => hb (by simp [betB, h0, h3])
          omega
        clear hb hb'
        rcases hx with hx | ⟨hx, hy⟩
        all_goals
          go_wp2_with fail
          go_ret
          exact ⟨ret_bool HF.out.symm, BB.out⟩
    · obtain rfl : k = 64 := by omega
      have HF := Lib.hid (tilB_iff.2 fun j hj => HA.out j (by omega))
      go_wp2_with fail
      go_ret
      exact ⟨ret_bool HF.out.symm, BB.out⟩
set_option maxHeartbeats 4000000 in
theorem im_turn (px : List Int) (hp : px.length = 64) (w : World) : Calls Try.prog 31 #[tilV px] w fun e w' => e = .returned (tilV (turnT px)) ∧ Below w.heap.size w w' := by
  go_enter Try.func31, Try.ntmps31
  go_upto_region 1 with (first | (refine st_alloc (by rfl) rfl ?_))
  obtain ⟨w1, hw1⟩ : ∃ w1, w1 = (w.alloc (.cells (iv px).toArray 25)).alloc (.cells (iv z64).toArray 25) := ⟨_, rfl⟩
  have X1 : Hid (Box w1 w.heap.size 25 (iv px)) := by rw [hw1]; exact (Box.new w _ _).alloc _
  have R1 : Hid (Box w1 (w.heap.size + 1) 25 (iv z64)) := by rw [hw1]; exact Box.new_at _ _ _ _ (by simp)
  have B1 : Hid (Below w.heap.size w w1) := by rw [hw1]; exact below2 w _ _
  rw [← hw1]
  clear hw1
  go_wp2_with (first | (refine st_load (by rfl) _ rfl _ rfl px hp X1.out ?_))
  refine (im_valid px hp _).mono ?_; rintro e w2 ⟨rfl, b2⟩
  have X2 := Lib.hid (X1.out.below b2)
  have R2 := Lib.hid (R1.out.below b2)
  have B2 := Lib.hid (below_then B1.out b2)
  clear b2 X1 R1 B1
  by_cases hv : tilB px = true
  · have HR := Lib.hid (turn_planes hp hv)
    rw [hv]
    go_wp2_with (first | (refine st_load (by rfl) _ rfl _ rfl px hp X2.out ?_))
    refine (pl_planes px hp hv _).mono ?_; rintro e w3 ⟨rfl, b3⟩
    have R3 := Lib.hid (R2.out.below b3)
    have B3 := Lib.hid (below_then B2.out b3)
    clear b3 X2 R2 B2
    go_wp2_with fail
    refine (pl_each _ _ ok_turn _ (bytT_ok px) _).mono ?_; rintro e w4 ⟨rfl, b4⟩
    have R4 := Lib.hid (R3.out.below b4)
    have B4 := Lib.hid (below_then B3.out b4)
    clear b4 R3 B3
    go_wp2_with fail
    refine (pl_tile _ (each_ok _ (fun _ _ => turnB_ok _) (bytT_ok px)) _).mono ?_; rintro e w5 ⟨rfl, b5⟩
    have R5 := Lib.hid (R4.out.below b5)
    have B5 := Lib.hid (below_then B4.out b5)
    clear b5 R4 B4
    rw [HR.out]
    have hq := turn_len px
    go_wp2_with (first | (refine st_store (by rfl) _ _ rfl _ rfl (turnT px) rfl hq (iv z64) R5.out (by simp [z64_len]) ?_))
    have RF : Hid (Box (w5.setRow (w.heap.size + 1) (iv (turnT px)).toArray) (w.heap.size + 1) 25 (iv (turnT px))) := Box.row R5.out
    exact bodyPost_ret (v := tilV (turnT px)) (til_ret rfl rfl RF.out hq) rfl ⟨rfl, below_row B5.out (by omega) _⟩
  · have HR := Lib.hid (show turnT px = z64 from if_neg hv)
    rw [show tilB px = false by simpa using hv]
    clear hv
    have hq := z64_len
    go_wp2_with (first | (refine st_build (by rfl) rfl ?_) | (refine st_store (by rfl) _ _ rfl _ rfl z64 rfl hq (iv z64) R2.out (by simp [z64_len]) ?_))
    have RF : Hid (Box (w2.setRow (w.heap.size + 1) (iv z64).toArray) (w.heap.size + 1) 25 (iv z64)) := Box.row R2.out
    exact bodyPost_ret (v := tilV z64) (til_ret rfl rfl RF.out hq) rfl ⟨by rw [HR.out], below_row B2.out (by omega) _⟩
end Go.Proofs.Ytihohmmfgamecaa
end

section
/- The program's FlipTile. -/
namespace Go.Proofs.Ytihohmmfgamecaa
open Go.ChangeShapes Go.WideShapes Go.ChangeAt Go.RowKit
set_option linter.unusedVariables false

set_option maxHeartbeats 8000000 in
theorem im_flip (px : List Int) (a d : Bool) (hp : px.length = 64) (w : World) : Calls Try.prog 29 #[tilV px, .bool a, .bool d] w fun e w' => e = .returned (tilV (flipT px a d)) ∧ Below w.heap.size w w' := by
  go_enter Try.func29, Try.ntmps29
  go_upto_region 1 with (first | (refine st_alloc (by rfl) rfl ?_))
  obtain ⟨w1, hw1⟩ : ∃ w1, w1 = (w.alloc (.cells (iv px).toArray 25)).alloc (.cells (iv z64).toArray 25) := ⟨_, rfl⟩
  have X1 : Hid (Box w1 w.heap.size 25 (iv px)) := by rw [hw1]; exact (Box.new w _ _).alloc _
  have R1 : Hid (Box w1 (w.heap.size + 1) 25 (iv z64)) := by rw [hw1]; exact Box.new_at _ _ _ _ (by simp)
  have B1 : Hid (Below w.heap.size w w1) := by rw [hw1]; exact below2 w _ _
  rw [← hw1]
  clear hw1
  have hL1 := Lib.hid R1.out.lt
  go_wp2_with (first | (refine st_load (by rfl) _ rfl _ rfl px hp X1.out ?_))
  refine (im_valid px hp _).mono ?_; rintro e w2 ⟨rfl, b2⟩
  have X2 := Lib.hid (X1.out.below b2)
  have R2 := Lib.hid (R1.out.below b2)
  have B2 := Lib.hid (below_then B1.out b2)
  clear b2 X1 R1 B1
  by_cases hv : tilB px = true
  · have HR := Lib.hid (flip_planes hp hv a d)
    rw [hv]
    go_wp2_with (first | (refine st_load (by rfl) _ rfl _ rfl px hp X2.out ?_))
    refine (pl_planes px hp hv _).mono ?_; rintro e w3 ⟨rfl, b3⟩
    have R3 := Lib.hid (R2.out.below b3)
    have B3 := Lib.hid (below_then B2.out b3)
    have hL3 := Lib.hid R3.out.lt
    clear b3 X2 R2 B2
    have s0 := bytT_len px
    go_upto_region 4 with (first | (refine sa_store ty_planes (by rfl) _ _ rfl _ rfl _ _ (uv (bytT px)) rfl (Box.new _ _ _) (by rfl) (by simp [s0]) (uv_one _) ?_))
    rw [World.setRow_alloc_new]
    have X4 : Hid (Box (w3.alloc (.cells (uv (bytT px)).toArray 58)) w3.heap.size 58 (uv (bytT px))) := Box.new w3 _ _
    have R4 := Lib.hid (R3.out.alloc (.cells (uv (bytT px)).toArray 58))
    have B4 := Lib.hid (B3.out.alloc B3.out.size (.cells (uv (bytT px)).toArray 58))
    have HB : Hid (w.heap.size + 1 ≠ w3.heap.size ∧ w.heap.size ≤ w3.heap.size) := by have := hL3.out; exact Lib.hid (by omega)
    generalize w3.alloc (.cells (uv (bytT px)).toArray 58) = w4 at X4 R4 B4 ⊢
    generalize w3.heap.size = bx at X4 HB ⊢
    clear R3 B3 hL3
    cases a
    · cases d
      · have q9 := ((bytT_ok px)).1
        go_wp2_with (first | (refine sa_load ty_planes (by rfl) _ rfl bx 0 rfl _ (uv (bytT px)) (uv (bytT px)) X4.out (by simp [q9]) (fun j v h => by simpa using h) ?_))
        refine (pl_tile _ (bytT_ok px) _).mono ?_; rintro e w9 ⟨rfl, b9⟩
        have R9 := Lib.hid (R4.out.below b9)
        have B9 := Lib.hid (below_then B4.out b9)
        clear b9 X4 R4 B4
        rw [show tileP (bytT px) = flipT px false false from HR.out]
        have hq := flip_len px false false
        go_wp2_with (first | (refine st_store (by rfl) _ _ rfl _ rfl (flipT px false false) rfl hq (iv z64) R9.out (by simp [z64_len]) ?_))
        have RF : Hid (Box (w9.setRow (w.heap.size + 1) (iv (flipT px false false)).toArray) (w.heap.size + 1) 25 (iv (flipT px false false))) := Box.row R9.out
        exact bodyPost_ret (v := tilV (flipT px false false)) (til_ret rfl rfl RF.out hq) rfl ⟨rfl, below_row B9.out (by omega) _⟩
      · have q7 := ((bytT_ok px)).1
        go_wp2_with (first | (refine sa_load ty_planes (by rfl) _ rfl bx 0 rfl _ (uv (bytT px)) (uv (bytT px)) X4.out (by simp [q7]) (fun j v h => by simpa using h) ?_))
        refine (pl_each _ _ ok_down _ (bytT_ok px) _).mono ?_; rintro e v7 ⟨rfl, c7⟩
        have Y7 := Lib.hid (X4.out.below c7)
        have R12 := Lib.hid (R4.out.below c7)
        have B12 := Lib.hid (below_then B4.out c7)
        clear c7 X4 R4 B4
        have p7 := ((each_ok downP (fun _ h => down_ok h) (bytT_ok px))).1
        go_upto_region 8 with (first | (refine sa_store ty_planes (by rfl) _ _ rfl bx rfl _ (uv (bytT px)) (uv (eachP downP (bytT px))) rfl Y7.out (by simp [q7]) (by simp [p7]) (uv_one _) ?_))
        have X12 : Hid (Box (v7.setRow bx (uv (eachP downP (bytT px))).toArray) bx 58 (uv (eachP downP (bytT px)))) := Box.row Y7.out
        have RR7 := Lib.hid (R12.out.rowFar (g := bx) (ds := (uv (eachP downP (bytT px))).toArray) HB.out.1)
        have BB7 := Lib.hid (below_row B12.out (g := bx) HB.out.2 (uv (eachP downP (bytT px))).toArray)
        clear Y7 R12 B12
        generalize v7.setRow bx (uv (eachP downP (bytT px))).toArray = u7 at X12 RR7 BB7 ⊢
        have R12 := RR7
        have B12 := BB7
        clear RR7 BB7
        have q9 := ((each_ok downP (fun _ h => down_ok h) (bytT_ok px))).1
        go_wp2_with (first | (refine sa_load ty_planes (by rfl) _ rfl bx 0 rfl _ (uv (eachP downP (bytT px))) (uv (eachP downP (bytT px))) X12.out (by simp [q9]) (fun j v h => by simpa using h) ?_))
        refine (pl_tile _ (each_ok downP (fun _ h => down_ok h) (bytT_ok px)) _).mono ?_; rintro e w9 ⟨rfl, b9⟩
        have R9 := Lib.hid (R12.out.below b9)
        have B9 := Lib.hid (below_then B12.out b9)
        clear b9 X12 R12 B12
        rw [show tileP (eachP downP (bytT px)) = flipT px false true from HR.out]
        have hq := flip_len px false true
        go_wp2_with (first | (refine st_store (by rfl) _ _ rfl _ rfl (flipT px false true) rfl hq (iv z64) R9.out (by simp [z64_len]) ?_))
        have RF : Hid (Box (w9.setRow (w.heap.size + 1) (iv (flipT px false true)).toArray) (w.heap.size + 1) 25 (iv (flipT px false true))) := Box.row R9.out
        exact bodyPost_ret (v := tilV (flipT px false true)) (til_ret rfl rfl RF.out hq) rfl ⟨rfl, below_row B9.out (by omega) _⟩
    · have q5 := ((bytT_ok px)).1
      go_wp2_with (first | (refine sa_load ty_planes (by rfl) _ rfl bx 0 rfl _ (uv (bytT px)) (uv (bytT px)) X4.out (by simp [q5]) (fun j v h => by simpa using h) ?_))
      refine (pl_each _ _ ok_across _ (bytT_ok px) _).mono ?_; rintro e v5 ⟨rfl, c5⟩
      have Y5 := Lib.hid (X4.out.below c5)
      have R10 := Lib.hid (R4.out.below c5)
      have B10 := Lib.hid (below_then B4.out c5)
      clear c5 X4 R4 B4
      have p5 := ((each_ok acrossP (fun _ h => across_ok _) (bytT_ok px))).1
      go_upto_region 6 with (first | (refine sa_store ty_planes (by rfl) _ _ rfl bx rfl _ (uv (bytT px)) (uv (eachP acrossP (bytT px))) rfl Y5.out (by simp [q5]) (by simp [p5]) (uv_one _) ?_))
      have X10 : Hid (Box (v5.setRow bx (uv (eachP acrossP (bytT px))).toArray) bx 58 (uv (eachP acrossP (bytT px)))) := Box.row Y5.out
      have RR5 := Lib.hid (R10.out.rowFar (g := bx) (ds := (uv (eachP acrossP (bytT px))).toArray) HB.out.1)
      have BB5 := Lib.hid (below_row B10.out (g := bx) HB.out.2 (uv (eachP acrossP (bytT px))).toArray)
      clear Y5 R10 B10
      generalize v5.setRow bx (uv (eachP acrossP (bytT px))).toArray = u5 at X10 RR5 BB5 ⊢
      have R10 := RR5
      have B10 := BB5
      clear RR5 BB5
      cases d
      · have q9 := ((each_ok acrossP (fun _ h => across_ok _) (bytT_ok px))).1
        go_wp2_with (first | (refine sa_load ty_planes (by rfl) _ rfl bx 0 rfl _ (uv (eachP acrossP (bytT px))) (uv (eachP acrossP (bytT px))) X10.out (by simp [q9]) (fun j v h => by simpa using h) ?_))
        refine (pl_tile _ (each_ok acrossP (fun _ h => across_ok _) (bytT_ok px)) _).mono ?_; rintro e w9 ⟨rfl, b9⟩
        have R9 := Lib.hid (R10.out.below b9)
        have B9 := Lib.hid (below_then B10.out b9)
        clear b9 X10 R10 B10
        rw [show tileP (eachP acrossP (bytT px)) = flipT px true false from HR.out]
        have hq := flip_len px true false
        go_wp2_with (first | (refine st_store (by rfl) _ _ rfl _ rfl (flipT px true false) rfl hq (iv z64) R9.out (by simp [z64_len]) ?_))
        have RF : Hid (Box (w9.setRow (w.heap.size + 1) (iv (flipT px true false)).toArray) (w.heap.size + 1) 25 (iv (flipT px true false))) := Box.row R9.out
        exact bodyPost_ret (v := tilV (flipT px true false)) (til_ret rfl rfl RF.out hq) rfl ⟨rfl, below_row B9.out (by omega) _⟩
      · have q7 := ((each_ok acrossP (fun _ h => across_ok _) (bytT_ok px))).1
        go_wp2_with (first | (refine sa_load ty_planes (by rfl) _ rfl bx 0 rfl _ (uv (eachP acrossP (bytT px))) (uv (eachP acrossP (bytT px))) X10.out (by simp [q7]) (fun j v h => by simpa using h) ?_))
        refine (pl_each _ _ ok_down _ (each_ok acrossP (fun _ h => across_ok _) (bytT_ok px)) _).mono ?_; rintro e v7 ⟨rfl, c7⟩
        have Y7 := Lib.hid (X10.out.below c7)
        have R12 := Lib.hid (R10.out.below c7)
        have B12 := Lib.hid (below_then B10.out c7)
        clear c7 X10 R10 B10
        have p7 := ((each_ok downP (fun _ h => down_ok h) (each_ok acrossP (fun _ h => across_ok _) (bytT_ok px)))).1
        go_upto_region 8 with (first | (refine sa_store ty_planes (by rfl) _ _ rfl bx rfl _ (uv (eachP acrossP (bytT px))) (uv (eachP downP (eachP acrossP (bytT px)))) rfl Y7.out (by simp [q7]) (by simp [p7]) (uv_one _) ?_))
        have X12 : Hid (Box (v7.setRow bx (uv (eachP downP (eachP acrossP (bytT px)))).toArray) bx 58 (uv (eachP downP (eachP acrossP (bytT px))))) := Box.row Y7.out
        have RR7 := Lib.hid (R12.out.rowFar (g := bx) (ds := (uv (eachP downP (eachP acrossP (bytT px)))).toArray) HB.out.1)
        have BB7 := Lib.hid (below_row B12.out (g := bx) HB.out.2 (uv (eachP downP (eachP acrossP (bytT px)))).toArray)
        clear Y7 R12 B12
        generalize v7.setRow bx (uv (eachP downP (eachP acrossP (bytT px)))).toArray = u7 at X12 RR7 BB7 ⊢
        have R12 := RR7
        have B12 := BB7
        clear RR7 BB7
        have q9 := ((each_ok downP (fun _ h => down_ok h) (each_ok acrossP (fun _ h => across_ok _) (bytT_ok px)))).1
        go_wp2_with (first | (refine sa_load ty_planes (by rfl) _ rfl bx 0 rfl _ (uv (eachP downP (eachP acrossP (bytT px)))) (uv (eachP downP (eachP acrossP (bytT px)))) X12.out (by simp [q9]) (fun j v h => by simpa using h) ?_))
        refine (pl_tile _ (each_ok downP (fun _ h => down_ok h) (each_ok acrossP (fun _ h => across_ok _) (bytT_ok px))) _).mono ?_; rintro e w9 ⟨rfl, b9⟩
        have R9 := Lib.hid (R12.out.below b9)
        have B9 := Lib.hid (below_then B12.out b9)
        clear b9 X12 R12 B12
        rw [show tileP (eachP downP (eachP acrossP (bytT px))) = flipT px true true from HR.out]
        have hq := flip_len px true true
        go_wp2_with (first | (refine st_store (by rfl) _ _ rfl _ rfl (flipT px true true) rfl hq (iv z64) R9.out (by simp [z64_len]) ?_))
        have RF : Hid (Box (w9.setRow (w.heap.size + 1) (iv (flipT px true true)).toArray) (w.heap.size + 1) 25 (iv (flipT px true true))) := Box.row R9.out
        exact bodyPost_ret (v := tilV (flipT px true true)) (til_ret rfl rfl RF.out hq) rfl ⟨rfl, below_row B9.out (by omega) _⟩
  · have HR := Lib.hid (show flipT px a d = z64 from if_neg hv)
    rw [show tilB px = false by simpa using hv]
    clear hv
    have hq := z64_len
    go_wp2_with (first | (refine st_build (by rfl) rfl ?_) | (refine st_store (by rfl) _ _ rfl _ rfl z64 rfl hq (iv z64) R2.out (by simp [z64_len]) ?_))
    have RF : Hid (Box (w2.setRow (w.heap.size + 1) (iv z64).toArray) (w.heap.size + 1) 25 (iv z64)) := Box.row R2.out
    exact bodyPost_ret (v := tilV z64) (til_ret rfl rfl RF.out hq) rfl ⟨by rw [HR.out], below_row B2.out (by omega) _⟩
end Go.Proofs.Ytihohmmfgamecaa
end

section
/- The program's UsedValues. -/
namespace Go.Proofs.Ytihohmmfgamecaa
open Go.ChangeShapes Go.WideShapes Go.ChangeAt Go.RowKit
set_option linter.unusedVariables false

def dgt (c : Bool) : Int := if c then 1 else 0
theorem im_digit (c : Bool) (w : World) : Calls Try.prog 59 #[.bool c] w fun e w' => e = .returned (.int .i64 (dgt c)) ∧ w = w' := by
  cases c
  all_goals
    go_enter Try.func59, Try.ntmps59
    go_wp2
    go_ret
    exact ⟨rfl, rfl⟩
set_option maxHeartbeats 8000000 in
theorem im_used (px : List Int) (hp : px.length = 64) (w : World) : Calls Try.prog 34 #[tilV px] w fun e w' => e = .returned (.int .i64 (usedT px)) ∧ Below w.heap.size w w' := by
  have X1 : Hid (Box (w.alloc (.cells (iv px).toArray 25)) w.heap.size 25 (iv px)) := Box.new w _ _
  have B1 := Lib.hid (below1 w (.cells (iv px).toArray 25))
  go_enter Try.func34, Try.ntmps34
  go_upto_region 1 with (fail)
  generalize w.alloc (.cells (iv px).toArray 25) = w1 at X1 B1 ⊢
  go_wp2_with (first | (refine st_load (by rfl) _ rfl _ rfl px hp X1.out ?_))
  refine (im_valid px hp _).mono ?_; rintro e w2 ⟨rfl, b2⟩
  have X2 := Lib.hid (X1.out.below b2)
  have B2 := Lib.hid (below_then B1.out b2)
  clear b2 X1 B1
  by_cases hv : tilB px = true
  · have HV := Lib.hid hv
    have HR := Lib.hid (show usedT px = (usedU px 64 : Int) from if_pos hv)
    rw [hv]
    go_wp2_with (first | (refine st_load (by rfl) _ rfl _ rfl px hp X2.out ?_))
    refine (pl_planes px hp hv _).mono ?_; rintro e w3 ⟨rfl, b3⟩
    have B3 := Lib.hid (below_then B2.out b3)
    clear b3 X2 B2
    have s0 := bytT_len px
    go_upto_region 4 with (first | (refine sa_store ty_planes (by rfl) _ _ rfl _ rfl _ _ (uv (bytT px)) rfl (Box.new _ _ _) (by rfl) (by simp [s0]) (uv_one _) ?_))
    rw [World.setRow_alloc_new]
    have X4 : Hid (Box (w3.alloc (.cells (uv (bytT px)).toArray 58)) w3.heap.size 58 (uv (bytT px))) := Box.new w3 _ _
    have B4 := Lib.hid (B3.out.alloc B3.out.size (.cells (uv (bytT px)).toArray 58))
    generalize w3.alloc (.cells (uv (bytT px)).toArray 58) = w4 at X4 B4 ⊢
    generalize w3.heap.size = bx at X4 ⊢
    clear B3 hv
    go_wp2_with fail
    go_loopw [4, 13] (fun u i wr => ∃ k : Nat, k ≤ 8 ∧ u = .int .i64 (usedU px (8 * k) : Nat) ∧ i = .int .i64 k ∧ Box wr bx 58 (uv (bytT px)) ∧ Below w.heap.size w wr) (fun _ i _ => 8 - (intOf i).toNat)
    case atStart => exact ⟨0, by omega, rfl, rfl, X4.out, B4.out⟩
    case round =>
      obtain ⟨k, hk, rfl, rfl, hx, hb⟩ := hrel
      have XR := Lib.hid hx
      have BR := Lib.hid hb
      clear hx hb X4 B4
      by_cases h8 : k < 8
      · have k8 : (k : Int) < 8 := by omega
        have k0 : 0 ≤ (k : Int) := by omega
        obtain ⟨l0, l1⟩ := (bytT_ok px).2 k (by omega)
        obtain ⟨m0, m1⟩ := (bytT_ok px).2 (8 + k) (by omega)
        obtain ⟨l, hl⟩ := Int.eq_ofNat_of_zero_le l0
        obtain ⟨m, hm⟩ := Int.eq_ofNat_of_zero_le m0
        have HH : Hid (∀ v, v < 4 → (((placesN l m v : Nat) : Int) != 0) = hasV px k v) := Lib.hid fun v h4 => by
          have h := has_places hp HV.out k v h8 h4 l m hl hm
          cases e : hasV px k v
          · have : placesN l m v = 0 := Classical.byContradiction fun c => by rw [h.1 c] at e; cases e
            rw [this]; rfl
          · have := h.2 e
            simp; omega
        have HC := Lib.hid (fun wq : World => pl_values (bytT px) (bytT_ok px) k l m h8 hl hm wq)
        have HW := Lib.hid (rowU_4 hp HV.out k h8)
        have HLT := Lib.hid (rowU_lt hp HV.out k h8)
        clear l0 l1 m0 m1 hl hm
        go_wp2_with (first | (refine sa_load ty_planes (by rfl) _ rfl bx 0 rfl _ (uv (bytT px)) (uv (bytT px)) XR.out (by simp [s0]) (fun j v h => by simpa using h) ?_))
        refine (HC.out _).mono ?_; rintro e w5 ⟨rfl, b5⟩
        have X5 := Lib.hid (XR.out.below b5)
        have B5 := Lib.hid (below_then BR.out b5)
        clear b5 XR BR HC
        go_wp2_with fail
        go_loopw [4, 19] (fun u j wr => ∃ v : Nat, v ≤ 4 ∧ u = .int .i64 (rowU px k v : Nat) ∧ j = .int .i64 v ∧ wr = w5) (fun _ j _ => 4 - (intOf j).toNat)
        case atStart => exact ⟨0, by omega, rfl, rfl, rfl⟩
        case round =>
          obtain ⟨v, hv, rfl, rfl, rfl⟩ := hrel
          by_cases h4 : v < 4
          · have v4 : (v : Int) < 4 := by omega
            have v0 : 0 ≤ (v : Int) := by omega
            have hI : ∀ wq, (Instr.index 67 (octV [(placesN l m 0 : Nat), (placesN l m 1 : Nat), (placesN l m 2 : Nat), (placesN l m 3 : Nat)]) (.int .i64 (v : Int))).run Try.prog wq = .ok (.int .u8 ((placesN l m v : Nat) : Int)) wq := fun wq => by
              rw [run_index_four wq _ rfl v h4]
              have h : v = 0 ∨ v = 1 ∨ v = 2 ∨ v = 3 := by omega
              rcases h with rfl | rfl | rfl | rfl <;> rfl
            have HV2 := Lib.hid (HH.out v h4)
            have hu := HLT.out v (by omega)
            have HU : Hid (rowU px k (v + 1) = rowU px k v ||| (if hasV px k v = true then 2 ^ v else 0)) := Lib.hid rfl
            generalize rowU px k v = q at hu HU ⊢
            obtain ⟨n, hn⟩ : ∃ n, n = v + 1 := ⟨_, rfl⟩
            rw [← hn] at HU
            have hn4 : n ≤ 4 := by omega
            generalize ((placesN l m v : Nat) : Int) = y at hI HV2
            go_wp2_with fail
            rw [HV2.out]
            refine (im_digit _ _).mono ?_; rintro e w' ⟨rfl, rfl⟩
            clear hI HV2
            cases hh : hasV px k v
            · rw [hh, if_neg (by simp)] at HU
              simp only [dgt]
              clear hh
              have h : v = 0 ∨ v = 1 ∨ v = 2 ∨ v = 3 := by omega
              rcases h with rfl | rfl | rfl | rfl
              all_goals
                go_wp2_with fail
                go_roundw
                case rel => exact ⟨n, hn4, by rw [HU.out]; congr 1; exact or_64 q _ (by omega) (by decide), by rw [hn]; rfl, trivial⟩
                case measure => simp [intOf]
            · rw [hh, if_pos rfl] at HU
              simp only [dgt]
              clear hh
              have h : v = 0 ∨ v = 1 ∨ v = 2 ∨ v = 3 := by omega
              rcases h with rfl | rfl | rfl | rfl
              all_goals
                go_wp2_with fail
                go_roundw
                case rel => exact ⟨n, hn4, by rw [HU.out]; congr 1; exact or_64 q _ (by omega) (by decide), by rw [hn]; rfl, trivial⟩
                case measure => simp [intOf]
          · obtain rfl : v = 4 := by omega
            rw [HW.out]
            go_wp2_with fail
            go_roundw
            case rel => exact ⟨k + 1, by omega, rfl, by go_num, X5.out, B5.out⟩
            case measure => simp [intOf]; omega
      · obtain rfl : k = 8 := by omega
        go_wp2_with fail
        go_ret
        exact ⟨ret_int HR.out.symm, BR.out⟩
  · have HR := Lib.hid (show usedT px = 0 from if_neg hv)
    rw [show tilB px = false by simpa using hv]
    clear hv
    go_wp2_with fail
    go_ret
    exact ⟨ret_int HR.out.symm, B2.out⟩
end Go.Proofs.Ytihohmmfgamecaa
end

section
/- The program's ReadTile. -/
namespace Go.Proofs.Ytihohmmfgamecaa
open Go.ChangeShapes Go.WideShapes Go.ChangeAt Go.RowKit
set_option linter.unusedVariables false

/-- Sixteen cells once the first k bytes have come in. -/
def inK (xs : List Int) (k : Nat) : List Int := rowsOf (fun i => if i < k then xs.getD i 0 else 0) 16
theorem inK_len (xs : List Int) (k : Nat) : (inK xs k).length = 16 := rows_len _ _
theorem inK_get (xs : List Int) (k i : Nat) (hi : i < 16) : (inK xs k).getD i 0 = if i < k then xs.getD i 0 else 0 := by unfold inK; rw [rows_get _ _ _ hi]
theorem inK_zero (xs : List Int) : inK xs 0 = zr16 := rfl
theorem inK_all (xs : List Int) (h : xs.length = 16) : inK xs 16 = xs := rows_ext (inK_len _ _) h fun i hi => by rw [inK_get _ _ _ hi, if_pos hi]
theorem inK_set (xs : List Int) (k : Nat) (hk : k < 16) : (inK xs k).set k (xs.getD k 0) = inK xs (k + 1) := by
  refine rows_ext (n := 16) (by simp [inK_len]) (inK_len _ _) fun i hi => ?_
  rw [inK_get _ _ _ hi, List.getD_eq_getElem?_getD, List.getElem?_set]
  by_cases e : k = i
  · subst e
    rw [if_pos rfl, if_pos (by rw [inK_len]; exact hi), if_pos (by omega)]; rfl
  · rw [if_neg e, ← List.getD_eq_getElem?_getD, inK_get _ _ _ hi]
    by_cases l : i < k
    · rw [if_pos l, if_pos (by omega)]
    · rw [if_neg l, if_neg (by omega)]
set_option maxHeartbeats 8000000 in
theorem im_read (A : Option Addr) (n c : Nat) (xs : List Int) (fa : List Nat) (w : World) (ha : Ints w A n xs fa) (hn : n ≤ 1000000000) (hnc : n ≤ c) : Calls Try.prog 25 #[.slice A n c] w (ReadGot xs w) := by
  have HA := Lib.hid ha
  clear ha
  go_enter Try.func25, Try.ntmps25
  go_upto_region 2 with (first | (refine st_alloc (by rfl) rfl ?_))
  rw [zr16_lit]
  obtain ⟨w1, hw1⟩ : ∃ w1, w1 = (w.alloc (.cells (iv z64).toArray 25)).alloc (.cells (uv zr16).toArray 58) := ⟨_, rfl⟩
  have X1 : Hid (Box w1 w.heap.size 25 (iv z64)) := by rw [hw1]; exact (Box.new w _ _).alloc _
  have Y1 : Hid (Box w1 (w.heap.size + 1) 58 (uv zr16)) := by rw [hw1]; exact Box.new_at _ _ _ _ (by simp)
  have B1 : Hid (Below w.heap.size w w1) := by rw [hw1]; exact below2 w _ _
  have I1 := Lib.hid (HA.out.below B1.out)
  rw [← hw1]
  clear hw1
  have hz := z64_len
  by_cases h16 : n = 16
  · have hq : ((n : Int) == 16) = true := by simp; omega
    have hq2 : ((n : Int) != 16) = false := by simp; omega
    subst h16
    go_wp2_with fail
    refine (allBytes_any _ _ _ _ _ _ I1.out hn).mono ?_; rintro e w' ⟨rfl, rfl⟩
    by_cases hb : bytesB xs = true
    · have hv : sixB xs = true := sixB_iff.2 ⟨hb, HA.out.1⟩
      have HV := Lib.hid hv
      have HR := Lib.hid (show readT xs = mkT id (readP xs) 64 from if_pos hv)
      have hx16 := HA.out.1
      have HOK : Hid (BytN 16 xs) := Lib.hid ⟨hx16, fun i hi => six_px hv i hi⟩
      rw [hb]
      clear hb hv
      obtain ⟨g, oo, rfl, hfp, hg, hcell⟩ := HA.out.at_ (by omega)
      have HC := Lib.hid hcell
      clear hcell hfp I1 HA
      go_wp2_with fail
      go_loopw [18] (fun i wr => ∃ k : Nat, k ≤ 16 ∧ i = .int .i64 k ∧ Box wr w.heap.size 25 (iv z64) ∧ Box wr (w.heap.size + 1) 58 (uv (inK xs k)) ∧ Below w.heap.size w wr) (fun i _ => 16 - (intOf i).toNat)
      case atStart => exact ⟨0, by omega, rfl, X1.out, by rw [inK_zero]; exact Y1.out, B1.out⟩
      case round =>
        obtain ⟨k, hk, rfl, hx, hy, hb⟩ := hrel
        have XR := Lib.hid hx
        have YR := Lib.hid hy
        have BR := Lib.hid hb
        clear hx hy hb X1 Y1 B1
        by_cases hk16 : k < 16
        · have i16 : (k : Int) < 16 := by omega
          have k0 : 0 ≤ (k : Int) := by omega
          obtain ⟨q, r, hq', hr', q2, r8, hqr⟩ : ∃ q r : Nat, (k : Int) / 8 = q ∧ (k : Int) % 8 = r ∧ q < 2 ∧ r < 8 ∧ q * 8 + r = k := ⟨k / 8, k % 8, by omega, by omega, by omega, by omega, by omega⟩
          have q2' : (q : Int) < 2 := by omega
          have q0 : 0 ≤ (q : Int) := by omega
          have r8' : (r : Int) < 8 := by omega
          have r0 : 0 ≤ (r : Int) := by omega
          obtain ⟨x0, x1⟩ := HOK.out.2 k hk16
          have cx := (World.cell?_of_block (a := ⟨g, oo + k, none⟩) (BR.out.block g hg)).trans (HC.out k hk16)
          obtain ⟨x, hx⟩ : ∃ x, xs.getD k 0 = x := ⟨_, rfl⟩
          rw [hx] at cx x0 x1
          have HX := Lib.hid hx
          have cy := oct_cell YR.out k (by rw [inK_len]; exact hk16)
          have gy := YR.out.frozen k
          rw [inK_get _ _ _ hk16, if_neg (by omega)] at cy
          have cy' : wr.cell? ⟨w.heap.size + 1, q * 8 + r, none⟩ = some (.int .u8 0) := by rw [hqr]; exact cy
          have gy' : wr.frozen? ⟨w.heap.size + 1, q * 8 + r, none⟩ = false := by rw [hqr]; exact gy
          have HQ := Lib.hid hqr
          clear hx cy gy hqr
          go_wp2_with fail
          go_roundw
          case rel => exact ⟨k + 1, by omega, by go_num, XR.out.far (by omega) _, by rw [HQ.out, ← inK_set xs k hk16, HX.out, ← uv_set]; exact YR.out.set k _, BR.out.setCell (Nat.le_succ _) _⟩
          case measure => simp [intOf]; omega
        · obtain rfl : k = 16 := by omega
          have HI := Lib.hid (inK_all xs hx16)
          go_wp2_with (first | (refine sa_load ty_planes (by rfl) _ rfl (w.heap.size + 1) 0 rfl _ (uv (inK xs 16)) (uv (inK xs 16)) YR.out (by simp [inK_len]) (fun j v h => by simpa using h) ?_))
          rw [HI.out]
          refine (pl_tile _ HOK.out _).mono ?_; rintro e w3 ⟨rfl, b3⟩
          have X3 := Lib.hid (XR.out.below b3)
          have B3 := Lib.hid (below_then BR.out b3)
          clear b3 XR YR BR
          have hl := tileP_len xs
          go_wp2_with (first | (refine st_store (by rfl) _ _ rfl _ rfl (tileP xs) rfl hl (iv z64) X3.out (by simp [z64_len]) ?_))
          have RF : Hid (Box (w3.setRow w.heap.size (iv (tileP xs)).toArray) w.heap.size 25 (iv (tileP xs))) := Box.row X3.out
          refine bodyPost_ret (v := .tuple #[tilV (tileP xs), .bool true]) (til_ret2 rfl rfl RF.out hl _ rfl) rfl ⟨by rw [HR.out, HV.out]; rfl, below_row B3.out (Nat.le_refl _) _⟩
    · have HV := Lib.hid (show sixB xs = false by cases e : sixB xs; · rfl
                                                  · exact absurd (sixB_iff.1 e).1 hb)
      have HR := Lib.hid (show readT xs = z64 from if_neg (by rw [HV.out]; simp))
      rw [show bytesB xs = false by simpa using hb]
      clear hb
      go_wp2_with (first | (refine st_build (by rfl) rfl ?_) | (refine st_store (by rfl) _ _ rfl _ rfl z64 rfl hz (iv z64) X1.out (by simp [z64_len]) ?_))
      have RF : Hid (Box (w1.setRow w.heap.size (iv z64).toArray) w.heap.size 25 (iv z64)) := Box.row X1.out
      refine bodyPost_ret (v := .tuple #[tilV z64, .bool false]) (til_ret2 rfl rfl RF.out hz _ rfl) rfl ⟨by rw [HR.out, HV.out], below_row B1.out (Nat.le_refl _) _⟩
  · have hq : ((n : Int) == 16) = false := by simp; omega
    have hq2 : ((n : Int) != 16) = true := by simp; omega
    have HV := Lib.hid (show sixB xs = false by cases e : sixB xs; · rfl
                                                · exact absurd ((HA.out.1).symm.trans (sixB_iff.1 e).2) h16)
    have HR := Lib.hid (show readT xs = z64 from if_neg (by rw [HV.out]; simp))
    clear h16
    go_wp2_with (first | (refine st_build (by rfl) rfl ?_) | (refine st_store (by rfl) _ _ rfl _ rfl z64 rfl hz (iv z64) X1.out (by simp [z64_len]) ?_))
    have RF : Hid (Box (w1.setRow w.heap.size (iv z64).toArray) w.heap.size 25 (iv z64)) := Box.row X1.out
    refine bodyPost_ret (v := .tuple #[tilV z64, .bool false]) (til_ret2 rfl rfl RF.out hz _ rfl) rfl ⟨by rw [HR.out, HV.out], below_row B1.out (Nat.le_refl _) _⟩
end Go.Proofs.Ytihohmmfgamecaa
end

section
/- The program's TileBytes. -/
namespace Go.Proofs.Ytihohmmfgamecaa
open Go.ChangeShapes Go.WideShapes Go.ChangeAt Go.RowKit
set_option linter.unusedVariables false

set_option maxHeartbeats 8000000 in
theorem im_bytes (px : List Int) (hp : px.length = 64) (w : World) : Calls Try.prog 22 #[tilV px] w (Copied (bytesT px) (bytesT px).length w) := by
  have X1 : Hid (Box (w.alloc (.cells (iv px).toArray 25)) w.heap.size 25 (iv px)) := Box.new w _ _
  have B1 := Lib.hid (below1 w (.cells (iv px).toArray 25))
  go_enter Try.func22, Try.ntmps22
  go_upto_region 1 with (fail)
  generalize w.alloc (.cells (iv px).toArray 25) = w1 at X1 B1 ⊢
  go_wp2_with (first | (refine st_load (by rfl) _ rfl _ rfl px hp X1.out ?_))
  refine (im_valid px hp _).mono ?_; rintro e w2 ⟨rfl, b2⟩
  have X2 := Lib.hid (X1.out.below b2)
  have B2 := Lib.hid (below_then B1.out b2)
  clear b2 X1 B1
  by_cases hv : tilB px = true
  · have HR := Lib.hid (show bytesT px = bytT px from if_pos hv)
    rw [hv]
    go_wp2_with (first | (refine st_load (by rfl) _ rfl _ rfl px hp X2.out ?_))
    refine (pl_planes px hp hv _).mono ?_; rintro e w3 ⟨rfl, b3⟩
    have B3 := Lib.hid (below_then B2.out b3)
    clear b3 X2 B2 hv
    have E3 : Hid (w3.ownsRow w.heap.size 3 1 (.slice none 0 0) 0 (iv ((bytT px).take 0))) := Lib.hid ⟨by simp, .inl ⟨rfl, rfl⟩⟩
    have s0 := bytT_len px
    go_wp2_with fail
    go_loopw [3, 13] (fun v i wr => ∃ (k : Nat) (A2 : Option Addr) (d2 : Nat), k ≤ 2 ∧ i = .int .i64 k ∧ v = .slice A2 (8 * k) d2 ∧ wr.ownsRow w.heap.size 3 1 v (8 * k) (iv ((bytT px).take (8 * k))) ∧ Below w.heap.size w wr) (fun _ i _ => 2 - (intOf i).toNat)
    case atStart => exact ⟨0, _, _, by omega, rfl, rfl, E3.out, B3.out⟩
    case round =>
      obtain ⟨k, A2, d2, hk, rfl, rfl, ho, hb⟩ := hrel
      have OR := Lib.hid ho
      have BR := Lib.hid hb
      clear ho hb E3 B3
      by_cases h2 : k < 2
      · have k2 : (k : Int) < 2 := by omega
        have k0 : 0 ≤ (k : Int) := by omega
        obtain ⟨ys, hys⟩ : ∃ ys, ((bytT px).drop (8 * k)).take 8 = ys := ⟨_, rfl⟩
        have hI : ∀ wq, (Instr.index 58 (octV (bytT px)) (.int .i64 (k : Int))).run Try.prog wq = .ok (octV ys) wq := fun wq => by rw [← hys]; exact run_index_planes wq _ s0 k h2
        have hyl : ys.length = 8 := by rw [← hys]; simp [s0]; omega
        have HY : Hid (∀ j, j < 8 → ys.getD j 0 = plane px (8 * k + j) 8) := Lib.hid fun j hj => by
          rw [← hys, tak8_get _ _ hj, List.getD_eq_getElem?_getD, List.getElem?_drop, ← List.getD_eq_getElem?_getD, bytT_get _ _ (by omega)]
        clear hys
        go_upto_region 7 with (first | (refine sa_store ty_plane (by rfl) _ _ rfl _ rfl _ _ (uv ys) rfl (Box.new _ _ _) (by rfl) (by simp [hyl]) (uv_one _) ?_))
        rw [World.setRow_alloc_new]
        have Y4 : Hid (Box (wr.alloc (.cells (uv ys).toArray 56)) wr.heap.size 56 (uv ys)) := Box.new wr _ _
        have O4 := Lib.hid (own_keep OR.out (below1 wr (.cells (uv ys).toArray 56)))
        have B4 := Lib.hid (BR.out.alloc BR.out.size (.cells (uv ys).toArray 56))
        generalize wr.alloc (.cells (uv ys).toArray 56) = w4 at Y4 O4 B4 ⊢
        generalize wr.heap.size = bx at Y4 ⊢
        clear OR BR hI
        go_wp2_with (first | (refine sa_load ty_plane (by rfl) _ rfl bx 0 rfl _ (uv ys) (uv ys) Y4.out (by simp [hyl]) (fun j v h => by simpa using h) ?_))
        clear Y4
        go_loopw [3, 17] (fun v i wr => ∃ (j : Nat) (A2 : Option Addr) (d2 : Nat), j ≤ 8 ∧ i = .int .i64 j ∧ v = .slice A2 (8 * k + j) d2 ∧ wr.ownsRow w.heap.size 3 1 v (8 * k + j) (iv ((bytT px).take (8 * k + j))) ∧ Below w.heap.size w wr) (fun _ i _ => 8 - (intOf i).toNat)
        case atStart => exact ⟨0, _, _, by omega, rfl, rfl, O4.out, B4.out⟩
        case round =>
          obtain ⟨j, A3, d3, hj, rfl, rfl, ho, hb⟩ := hrel
          clear O4 B4
          have OR := Lib.hid ho
          have BR := Lib.hid hb
          clear ho hb
          by_cases h8 : j < 8
          · have j8 : (j : Int) < 8 := by omega
            have j0 : 0 ≤ (j : Int) := by omega
            have HB := Lib.hid (bytT_take px (8 * k + j) (by omega))
            obtain ⟨p0, p1⟩ := plane_255 px (8 * k + j) 8 (by omega)
            have hI : ∀ wq, (Instr.index 56 (octV ys) (.int .i64 (j : Int))).run Try.prog wq = .ok (.int .u8 (plane px (8 * k + j) 8)) wq := fun wq => by rw [← HY.out j h8]; exact run_index_plane wq ys hyl j h8
            generalize plane px (8 * k + j) 8 = n at p0 p1 HB hI
            have O5 := Lib.hid (own_keep OR.out (below1 wr (.cells #[.int .i64 n] 3)))
            have I5 : Hid (Ints (wr.alloc (.cells #[.int .i64 n] 3)) (some ⟨wr.heap.size, 0, none⟩) 1 [n] [wr.heap.size]) := lone_cell wr n
            have B5 := Lib.hid (BR.out.alloc BR.out.size (.cells #[.int .i64 n] 3))
            have hb1 : w.heap.size ≤ (wr.alloc (.cells #[.int .i64 n] 3)).heap.size := B5.out.size
            clear OR BR
            go_wp2_with (at_builtin; refine wpList_append_ints rfl _ _ rfl w.heap.size _ (8 * k + j) _ rfl O5.out _ _ _ [n] _ rfl I5.out (by omega) hb1 ?_; intro v' w5 own5 gr5 _; obtain ⟨A5, d5, _, rfl, _⟩ := own_ints own5; have b5 := below_grown (Below.refl w.heap.size _) gr5 hb1 (fun b hb => (own_lt O5.out b hb).1); have B6 := Lib.hid (B5.out.trans b5); have O6 := Lib.hid own5; clear own5 gr5 b5 B5 O5 I5)
            go_roundw
            case rel => exact ⟨j + 1, _, _, by omega, by go_num, rfl, by rw [show 8 * k + (j + 1) = 8 * k + j + 1 by omega, HB.out]; exact O6.out, B6.out⟩
            case measure => simp [intOf]; omega
          · obtain rfl : j = 8 := by omega
            go_wp2_with fail
            go_roundw
            case rel => exact ⟨k + 1, _, _, by omega, by go_num, rfl, OR.out, BR.out⟩
            case measure => simp [intOf]; omega
      · obtain rfl : k = 2 := by omega
        have OF : Hid (Copied (bytesT px) (bytesT px).length w (.returned (.slice A2 16 d2)) wr) := by
          have h := OR.out
          rw [List.take_of_length_le (by rw [bytT_len]; omega)] at h
          rw [HR.out, bytT_len]
          exact copied_own h BR.out
        go_wp2_with fail
        go_ret
        exact OF.out
  · have HR := Lib.hid (show bytesT px = [] from if_neg hv)
    rw [show tilB px = false by simpa using hv]
    clear hv
    go_wp2_with fail
    go_ret
    rw [HR.out]
    show Copied [] 0 w _ _
    exact ⟨_, 0, [], rfl, by omega, Ints.nil _ _, .nil _ _, B2.out⟩
end Go.Proofs.Ytihohmmfgamecaa
end
