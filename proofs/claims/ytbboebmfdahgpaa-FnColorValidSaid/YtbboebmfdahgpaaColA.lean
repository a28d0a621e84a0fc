/- The program's functions on colors. -/
import Derived.Test.YtbboebmfdahgpaaColM
import Derived.IntWalk
import Derived.Deep.QuietTactic
import Derived.BigQuiet
import Derived.Deep.RegionLaw
namespace Go.Proofs.Ytbboebmfdahgpaa
open Go.ChangeShapes Go.WideShapes Go.ChangeAt Go.RowKit
set_option linter.unusedVariables false

theorem isComp_any (x : Int) (w : World) : Calls Try.prog 42 #[.int .i64 x] w fun e w' => e = .returned (.bool (betB x 0 31)) ∧ w = w' := by
  by_cases h0 : 0 ≤ x
  · by_cases h1 : x ≤ 31
    · have e : betB x 0 31 = true := by simp [betB, h0, h1]
      rw [e]
      clear e
      go_enter Try.func42, Try.ntmps42
      go_wp2
      go_ret
      exact ⟨rfl, rfl⟩
    · have e : betB x 0 31 = false := by simp [betB, h1]
      have hd : decide (x ≤ 31) = false := by simp; omega
      rw [e]
      clear e h1
      go_enter Try.func42, Try.ntmps42
      go_wp2
      go_ret
      exact ⟨rfl, rfl⟩
  · have e : betB x 0 31 = false := by simp [betB, h0]
    have hd : decide (0 ≤ x) = false := by simp; omega
    rw [e]
    clear e h0
    go_enter Try.func42, Try.ntmps42
    go_wp2
    go_ret
    exact ⟨rfl, rfl⟩
theorem packed_yes (r g b : Int) (w : World) (k : colB r g b = true) : Calls Try.prog 34 #[.agg #[.int .i64 r, .int .i64 g, .int .i64 b]] w fun e w' => e = .returned (.tuple #[.int .u16 (packI r g b), .bool true]) ∧ Below w.heap.size w w' := by
  obtain ⟨⟨r0, r1⟩, ⟨g0, g1⟩, b0, b1⟩ := colB_iff.1 k
  have K0 := Lib.hid (show betB r 0 31 = true by simp [betB, r0, r1])
  have K1 := Lib.hid (show betB g 0 31 = true by simp [betB, g0, g1])
  have K2 := Lib.hid (show betB b 0 31 = true by simp [betB, b0, b1])
  have HW := Lib.hid (pack_wrap k)
  clear k
  go_enter Try.func34, Try.ntmps34
  go_wp2_with fail
  refine (isComp_any _ _).mono ?_; rintro e w' ⟨rfl, rfl⟩
  rw [K0.out]
  go_wp2_with fail
  refine (isComp_any _ _).mono ?_; rintro e w' ⟨rfl, rfl⟩
  rw [K1.out]
  go_wp2_with fail
  refine (isComp_any _ _).mono ?_; rintro e w' ⟨rfl, rfl⟩
  rw [K2.out]
  go_wp2_with fail
  go_ret2
  refine ⟨?_, below1 w _⟩
  show Ending.returned (.tuple #[.int .u16 (IntKind.u16.wrap (bits .or .i64 (bits .or .i64 r (g * 32)) (b * 1024))), .bool true]) = _
  rw [HW.out]
theorem packed_no (r g b : Int) (w : World) (k : colB r g b = false) : Calls Try.prog 34 #[.agg #[.int .i64 r, .int .i64 g, .int .i64 b]] w fun e w' => e = .returned (.tuple #[.int .u16 0, .bool false]) ∧ Below w.heap.size w w' := by
  by_cases h0 : betB r 0 31 = true
  · have K0 := Lib.hid h0
    clear h0
    by_cases h1 : betB g 0 31 = true
    · have K1 := Lib.hid h1
      clear h1
      have h2 : betB b 0 31 = false := by simpa [colB, K0.out, K1.out] using k
      have K2 := Lib.hid h2
      clear h2 k
      go_enter Try.func34, Try.ntmps34
      go_wp2_with fail
      refine (isComp_any _ _).mono ?_; rintro e w' ⟨rfl, rfl⟩
      rw [K0.out]
      go_wp2_with fail
      refine (isComp_any _ _).mono ?_; rintro e w' ⟨rfl, rfl⟩
      rw [K1.out]
      go_wp2_with fail
      refine (isComp_any _ _).mono ?_; rintro e w' ⟨rfl, rfl⟩
      rw [K2.out]
      go_wp2_with fail
      go_ret2
      exact ⟨rfl, below1 w _⟩
    · have K1 := Lib.hid (show betB g 0 31 = false by simpa using h1)
      clear h1
      clear k
      go_enter Try.func34, Try.ntmps34
      go_wp2_with fail
      refine (isComp_any _ _).mono ?_; rintro e w' ⟨rfl, rfl⟩
      rw [K0.out]
      go_wp2_with fail
      refine (isComp_any _ _).mono ?_; rintro e w' ⟨rfl, rfl⟩
      rw [K1.out]
      go_wp2_with fail
      go_ret2
      exact ⟨rfl, below1 w _⟩
  · have K0 := Lib.hid (show betB r 0 31 = false by simpa using h0)
    clear h0
    clear k
    go_enter Try.func34, Try.ntmps34
    go_wp2_with fail
    refine (isComp_any _ _).mono ?_; rintro e w' ⟨rfl, rfl⟩
    rw [K0.out]
    go_wp2_with fail
    go_ret2
    exact ⟨rfl, below1 w _⟩
theorem comp_0 (x : Int) (w : World) (h0 : 0 ≤ x) (h1 : x ≤ 32767) : Calls Try.prog 45 #[.int .u16 x, .int .i64 0] w fun e w' => e = .returned (.int .i64 (x % 32)) ∧ w = w' := by
  have HW : Hid (wrap64 (bits .and .u16 (x) 31) = x % 32) := by
    apply Lib.hid
    rw [comp_and (by omega) (by omega)]
    unfold wrap64
    omega
  go_enter Try.func45, Try.ntmps45
  go_wp2_with fail
  go_ret
  refine ⟨?_, rfl⟩
  show Ending.returned (.int .i64 (wrap64 (bits .and .u16 (x) 31))) = _
  rw [HW.out]
theorem comp_1 (x : Int) (w : World) (h0 : 0 ≤ x) (h1 : x ≤ 32767) : Calls Try.prog 45 #[.int .u16 x, .int .i64 1] w fun e w' => e = .returned (.int .i64 (x / 32 % 32)) ∧ w = w' := by
  have HW : Hid (wrap64 (bits .and .u16 (x / 32) 31) = x / 32 % 32) := by
    apply Lib.hid
    rw [comp_and (by omega) (by omega)]
    unfold wrap64
    omega
  go_enter Try.func45, Try.ntmps45
  go_wp2_with fail
  go_ret
  refine ⟨?_, rfl⟩
  show Ending.returned (.int .i64 (wrap64 (bits .and .u16 (x / 32) 31))) = _
  rw [HW.out]
theorem comp_2 (x : Int) (w : World) (h0 : 0 ≤ x) (h1 : x ≤ 32767) : Calls Try.prog 45 #[.int .u16 x, .int .i64 2] w fun e w' => e = .returned (.int .i64 (x / 1024 % 32)) ∧ w = w' := by
  have HW : Hid (wrap64 (bits .and .u16 (x / 1024) 31) = x / 1024 % 32) := by
    apply Lib.hid
    rw [comp_and (by omega) (by omega)]
    unfold wrap64
    omega
  go_enter Try.func45, Try.ntmps45
  go_wp2_with fail
  go_ret
  refine ⟨?_, rfl⟩
  show Ending.returned (.int .i64 (wrap64 (bits .and .u16 (x / 1024) 31))) = _
  rw [HW.out]
theorem color_any (x : Int) (w : World) (h0 : 0 ≤ x) (h1 : x ≤ 32767) : Calls Try.prog 37 #[.int .u16 x] w fun e w' => e = .returned (.agg #[.int .i64 (x % 32), .int .i64 (x / 32 % 32), .int .i64 (x / 1024 % 32)]) ∧ Below w.heap.size w w' := by
  go_enter Try.func37, Try.ntmps37
  go_wp2_with fail
  refine (comp_0 _ _ h0 h1).mono ?_; rintro e w' ⟨rfl, rfl⟩
  go_wp2_with fail
  refine (comp_1 _ _ h0 h1).mono ?_; rintro e w' ⟨rfl, rfl⟩
  go_wp2_with fail
  refine (comp_2 _ _ h0 h1).mono ?_; rintro e w' ⟨rfl, rfl⟩
  go_wp2_with fail
  refine bodyPost_ret (v := .agg #[.int .i64 (x % 32), .int .i64 (x / 32 % 32), .int .i64 (x / 1024 % 32)]) (by simp [results, Try.results37, go_sem]) rfl ⟨rfl, ?_⟩
  repeat (first | with_reducible exact below1 w _ | with_reducible refine Below.setCell ?_ (by simp <;> omega) _ | with_reducible refine Below.drew ?_ | with_reducible refine below_drewN ?_ _)
theorem mix_at (r g b r' g' b' : Int) (w : World) (k : colB r g b = true) (k' : colB r' g' b' = true) : Calls Try.prog 39 #[.int .u16 (packI r g b), .int .u16 (packI r' g' b')] w fun e w' => e = .returned (.int .u16 (packI ((r + r') / 2) ((g + g') / 2) ((b + b') / 2))) ∧ w = w' := by
  have HM := Lib.hid (mix_pack k k')
  obtain ⟨p0, p1⟩ := pack_bd k
  obtain ⟨q0, q1⟩ := pack_bd k'
  have HB := Lib.hid (mix_bd k k')
  clear k k'
  generalize packI r g b = P at HM p0 p1 HB ⊢
  generalize packI r' g' b' = Q at HM q0 q1 HB ⊢
  generalize (packI ((r + r') / 2) ((g + g') / 2) ((b + b') / 2)) = M at HM HB ⊢
  obtain ⟨a0, a1⟩ := Hid.out (Lib.hid (show 0 ≤ bits .and .u16 P Q ∧ bits .and .u16 P Q ≤ 65535 from ⟨bits_lo_u16 _ _ _, bits_hi_u16 _ _ _⟩))
  go_enter Try.func39, Try.ntmps39
  go_wp2_with fail
  go_ret
  refine ⟨?_, rfl⟩
  have e : IntKind.u16.wrap (bits .and .u16 P Q + bits .andNot .u16 (bits .xor .u16 P Q) 1057 / 2) = M := by
    have := HB.out
    rw [HM.out, IntKind.wrap_u16]
    omega
  show Ending.returned (.int .u16 (IntKind.u16.wrap (bits .and .u16 P Q + bits .andNot .u16 (bits .xor .u16 P Q) 1057 / 2))) = _
  rw [e]
theorem fade_at (r g b l : Int) (w : World) (k : colB r g b = true) (l0 : 0 ≤ l) (l1 : l ≤ 16) : Calls Try.prog 40 #[.int .u16 (packI r g b), .int .i64 l] w fun e w' => e = .returned (.int .u16 (packI (r * l / 16) (g * l / 16) (b * l / 16))) ∧ w = w' := by
  obtain ⟨⟨r0, r1⟩, ⟨g0, g1⟩, b0, b1⟩ := colB_iff.1 k
  obtain ⟨p0, p1⟩ := pack_bd k
  have HP := Lib.hid (pack_parts k)
  have FR := Lib.hid (fade_bd r0 r1 l0 l1)
  have FG := Lib.hid (fade_bd g0 g1 l0 l1)
  have FB := Lib.hid (fade_bd b0 b1 l0 l1)
  clear k
  generalize packI r g b = P at p0 p1 HP ⊢
  go_enter Try.func40, Try.ntmps40
  go_wp2_with fail
  go_loopw [5, 6, 7] (fun u p i wr => ((i = .int .i64 0 ∧ u = .int .u16 0) ∨ (i = .int .i64 1 ∧ u = .int .u16 (r * l / 16)) ∨ (i = .int .i64 2 ∧ u = .int .u16 (r * l / 16 + 32 * (g * l / 16))) ∨ (i = .int .i64 3 ∧ u = .int .u16 (packI (r * l / 16) (g * l / 16) (b * l / 16)))) ∧ wr = w) (fun _ _ i _ => 3 - (intOf i).toNat)
  case atStart => exact ⟨.inl ⟨rfl, rfl⟩, rfl⟩
  case round =>
    obtain ⟨hk, rfl⟩ := hrel
    rcases hk with ⟨rfl, rfl⟩ | ⟨rfl, rfl⟩ | ⟨rfl, rfl⟩ | ⟨rfl, rfl⟩
    · obtain ⟨f0, f1, f2, f3⟩ := FR.out
      have EO := Lib.hid (fade_or0 (v := r * l / 16) (by omega) (by omega))
      have EP := Lib.hid HP.out.1
      clear HP FG FB FR
      go_wp2_with fail
      refine (comp_0 _ _ p0 p1).mono ?_; rintro e w' ⟨rfl, rfl⟩
      rw [EP.out]
      go_wp2_with fail
      exact ⟨⟨.inr (.inl ⟨rfl, by rw [EO.out]⟩), trivial⟩, by simp [intOf]⟩
    · obtain ⟨f0, f1, f2, f3⟩ := FR.out
      obtain ⟨h0, h1, h2, h3⟩ := FG.out
      have EO := Lib.hid (fade_or1 (r := r * l / 16) (g := g * l / 16) (by omega) (by omega) (by omega) (by omega))
      have EP := Lib.hid HP.out.2.1
      clear HP FG FB FR
      go_wp2_with fail
      refine (comp_1 _ _ p0 p1).mono ?_; rintro e w' ⟨rfl, rfl⟩
      rw [EP.out]
      go_wp2_with fail
      exact ⟨⟨.inr (.inr (.inl ⟨rfl, by rw [EO.out]⟩)), trivial⟩, by simp [intOf]⟩
    · obtain ⟨f0, f1, f2, f3⟩ := FR.out
      obtain ⟨h0, h1, h2, h3⟩ := FG.out
      obtain ⟨i0, i1, i2, i3⟩ := FB.out
      have EO := Lib.hid (fade_or2 (x := r * l / 16 + 32 * (g * l / 16)) (b := b * l / 16) (by omega) (by omega) (by omega) (by omega))
      have EP := Lib.hid (show P / 1024 % 32 = b by have := HP.out.2.2; omega)
      clear HP FG FB FR
      go_wp2_with fail
      refine (comp_2 _ _ p0 p1).mono ?_; rintro e w' ⟨rfl, rfl⟩
      rw [EP.out]
      go_wp2_with fail
      exact ⟨⟨.inr (.inr (.inr ⟨rfl, by rw [EO.out]; rfl⟩)), trivial⟩, by simp [intOf]⟩
    · go_wp2_with fail
      go_ret
      exact ⟨rfl, rfl⟩
/-- A color as the program packs it. -/
def packT (r g b : Int) : Int := if colB r g b = true then packI r g b else -1
theorem packT_yes {r g b : Int} (k : colB r g b = true) : packT r g b = packI r g b := if_pos k
theorem packT_no {r g b : Int} (k : colB r g b = false) : packT r g b = -1 := if_neg (by rw [k]; simp)
theorem impl_valid (r g b : Int) (w : World) : Calls Try.prog 15 #[.agg #[.int .i64 r, .int .i64 g, .int .i64 b]] w fun e w' => e = .returned (.bool (colB r g b)) ∧ Below w.heap.size w w' := by
  by_cases k : colB r g b = true
  · have K := Lib.hid k
    clear k
    go_enter Try.func15, Try.ntmps15
    go_wp2_with fail
    refine (packed_yes _ _ _ _ K.out).mono ?_; rintro e w1 ⟨rfl, b1⟩
    have B1 : Hid (Below w.heap.size w w1) := (below1 w _).trans (b1.mono (by simp))
    clear b1
    go_wp2_with fail
    go_ret
    exact ⟨ret_bool K.out.symm, B1.out⟩
  · have K := Lib.hid (show colB r g b = false by simpa using k)
    clear k
    go_enter Try.func15, Try.ntmps15
    go_wp2_with fail
    refine (packed_no _ _ _ _ K.out).mono ?_; rintro e w1 ⟨rfl, b1⟩
    have B1 : Hid (Below w.heap.size w w1) := (below1 w _).trans (b1.mono (by simp))
    clear b1
    go_wp2_with fail
    go_ret
    exact ⟨ret_bool K.out.symm, B1.out⟩
theorem impl_pack (r g b : Int) (w : World) : Calls Try.prog 19 #[.agg #[.int .i64 r, .int .i64 g, .int .i64 b]] w fun e w' => e = .returned (.int .i64 (packT r g b)) ∧ Below w.heap.size w w' := by
  by_cases k : colB r g b = true
  · have K := Lib.hid k
    rw [packT_yes k]
    obtain ⟨p0, p1⟩ := pack_bd k
    have EW := Lib.hid (show wrap64 (packI r g b) = packI r g b by unfold wrap64; omega)
    clear k
    go_enter Try.func19, Try.ntmps19
    go_wp2_with fail
    refine (packed_yes _ _ _ _ K.out).mono ?_; rintro e w1 ⟨rfl, b1⟩
    have B1 : Hid (Below w.heap.size w w1) := (below1 w _).trans (b1.mono (by simp))
    clear b1
    go_wp2_with fail
    go_ret
    refine ⟨?_, B1.out⟩
    first
      | rfl
      | (show Ending.returned (.int .i64 (wrap64 (packI r g b))) = _; rw [EW.out])
  · rw [packT_no (show colB r g b = false by simpa using k)]
    have K := Lib.hid (show colB r g b = false by simpa using k)
    clear k
    go_enter Try.func19, Try.ntmps19
    go_wp2_with fail
    refine (packed_no _ _ _ _ K.out).mono ?_; rintro e w1 ⟨rfl, b1⟩
    have B1 : Hid (Below w.heap.size w w1) := (below1 w _).trans (b1.mono (by simp))
    clear b1
    go_wp2_with fail
    go_ret
    exact ⟨rfl, B1.out⟩
theorem impl_unp (n x0 x1 x2 : Int) (v : Bool) (w : World) (h : UnpTo n x0 x1 x2 v) : Calls Try.prog 21 #[.int .i64 n] w fun e w' => e = .returned (.tuple #[.agg #[.int .i64 x0, .int .i64 x1, .int .i64 x2], .bool v]) ∧ Below w.heap.size w w' := by
  by_cases k : betB n 0 32767 = true
  · obtain ⟨rfl, rfl, rfl, rfl⟩ := unp_yes h k
    obtain ⟨n0, n1⟩ := betB_yes k
    have EX := Lib.hid (show n / 1024 % 32 = n / 1024 by omega)
    clear h k
    go_enter Try.func21, Try.ntmps21
    go_wp2_with fail
    refine (color_any _ _ n0 n1).mono ?_; rintro e w1 ⟨rfl, b1⟩
    have X1 : Hid (Box w1 w.heap.size 24 [.int .i64 0, .int .i64 0, .int .i64 0]) := (Box.new w _ _).below b1
    have B1 : Hid (Below w.heap.size w w1) := (below1 w _).trans (b1.mono (by simp))
    rw [EX.out]
    clear b1
    have c0x : w1.cell? ⟨w.heap.size, 0, none⟩ = some (.int .i64 0) := X1.out.cell 0
    have f0x := X1.out.frozen 0
    have c1x : w1.cell? ⟨w.heap.size, 1, none⟩ = some (.int .i64 0) := X1.out.cell 1
    have f1x := X1.out.frozen 1
    have c2x : w1.cell? ⟨w.heap.size, 2, none⟩ = some (.int .i64 0) := X1.out.cell 2
    have f2x := X1.out.frozen 2
    go_wp2_with fail
    refine bodyPost_ret (v := .tuple #[.agg #[.int .i64 (n % 32), .int .i64 (n / 32 % 32), .int .i64 (n / 1024)], .bool true]) (by simp [results, Try.results21, go_sem, c0x, c1x, c2x]) rfl ⟨rfl, ?_⟩
    repeat (first | with_reducible exact B1.out | with_reducible exact below1 w _ | with_reducible exact below2 w _ _ | with_reducible exact below3 w _ _ _ | with_reducible refine Below.setCell ?_ (by simp <;> omega) _ | with_reducible refine Below.drew ?_ | with_reducible refine below_drewN ?_ _)
  · have k' : betB n 0 32767 = false := by simpa using k
    obtain ⟨rfl, rfl, rfl, rfl⟩ := unp_no h k'
    have hn : n < 0 ∨ 32767 < n := by
      by_cases h0 : 0 ≤ n
      · by_cases h1 : n ≤ 32767
        · exact absurd (by simp [betB, h0, h1]) k
        · exact .inr (by omega)
      · exact .inl (by omega)
    clear h k k'
    have BB := Lib.hid (below1 w (.cells #[.int .i64 0, .int .i64 0, .int .i64 0] 24))
    by_cases h0 : n < 0
    · clear hn
      go_enter Try.func21, Try.ntmps21
      go_wp2_with fail
      refine bodyPost_ret (v := .tuple #[.agg #[.int .i64 0, .int .i64 0, .int .i64 0], .bool false]) (by simp [results, Try.results21, go_sem]) rfl ⟨rfl, ?_⟩
      repeat (first | with_reducible exact BB.out | with_reducible exact below1 w _ | with_reducible exact below2 w _ _ | with_reducible exact below3 w _ _ _ | with_reducible refine Below.setCell ?_ (by simp <;> omega) _ | with_reducible refine Below.drew ?_ | with_reducible refine below_drewN ?_ _)
    · have h0' : 0 ≤ n := by omega
      have h1 : 32767 < n := by omega
      have hd : decide (n < 0) = false := by simpa using h0
      clear hn h0
      go_enter Try.func21, Try.ntmps21
      go_wp2_with fail
      refine bodyPost_ret (v := .tuple #[.agg #[.int .i64 0, .int .i64 0, .int .i64 0], .bool false]) (by simp [results, Try.results21, go_sem]) rfl ⟨rfl, ?_⟩
      repeat (first | with_reducible exact BB.out | with_reducible exact below1 w _ | with_reducible exact below2 w _ _ | with_reducible exact below3 w _ _ _ | with_reducible refine Below.setCell ?_ (by simp <;> omega) _ | with_reducible refine Below.drew ?_ | with_reducible refine below_drewN ?_ _)
theorem impl_mix (r g b r' g' b' x0 x1 x2 : Int) (w : World) (h : MixTo r g b r' g' b' x0 x1 x2) : Calls Try.prog 25 #[.agg #[.int .i64 r, .int .i64 g, .int .i64 b], .agg #[.int .i64 r', .int .i64 g', .int .i64 b']] w fun e w' => e = .returned (.agg #[.int .i64 x0, .int .i64 x1, .int .i64 x2]) ∧ Below w.heap.size w w' := by
  have BB := Lib.hid (below3 w (.cells #[.int .i64 r, .int .i64 g, .int .i64 b] 24) (.cells #[.int .i64 r', .int .i64 g', .int .i64 b'] 24) (.cells #[.int .i64 0, .int .i64 0, .int .i64 0] 24))
  by_cases k : colB r g b = true
  · have K := Lib.hid k
    by_cases k' : colB r' g' b' = true
    · obtain ⟨rfl, rfl, rfl⟩ := mix_yes h k k'
      have K' := Lib.hid k'
      have V := Lib.hid (mix_parts k k')
      have MB := Lib.hid (mix_bd k k')
      clear h k k'
      go_enter Try.func25, Try.ntmps25
      go_wp2_with fail
      refine (packed_yes _ _ _ _ K.out).mono ?_; rintro e w1 ⟨rfl, b1⟩
      have X1 : Hid (Box w1 (w.heap.size + 1) 24 [.int .i64 r', .int .i64 g', .int .i64 b']) := ((Box.new_at _ _ _ _ (by simp)).alloc _).below b1
      have Y1 : Hid (Box w1 (w.heap.size + 2) 24 [.int .i64 0, .int .i64 0, .int .i64 0]) := (Box.new_at _ _ _ _ (by simp)).below b1
      have B1 : Hid (Below w.heap.size w w1) := BB.out.trans (b1.mono (by simp; omega))
      clear b1
      have c0x : w1.cell? ⟨w.heap.size + 1, 0, none⟩ = some (.int .i64 r') := X1.out.cell 0
      have f0x := X1.out.frozen 0
      have c1x : w1.cell? ⟨w.heap.size + 1, 1, none⟩ = some (.int .i64 g') := X1.out.cell 1
      have f1x := X1.out.frozen 1
      have c2x : w1.cell? ⟨w.heap.size + 1, 2, none⟩ = some (.int .i64 b') := X1.out.cell 2
      have f2x := X1.out.frozen 2
      have c0y : w1.cell? ⟨w.heap.size + 2, 0, none⟩ = some (.int .i64 0) := Y1.out.cell 0
      have f0y := Y1.out.frozen 0
      have c1y : w1.cell? ⟨w.heap.size + 2, 1, none⟩ = some (.int .i64 0) := Y1.out.cell 1
      have f1y := Y1.out.frozen 1
      have c2y : w1.cell? ⟨w.heap.size + 2, 2, none⟩ = some (.int .i64 0) := Y1.out.cell 2
      have f2y := Y1.out.frozen 2
      have z1 : w.heap.size + 2 < w1.heap.size := Y1.out.lt
      go_wp2_with fail
      refine (packed_yes _ _ _ _ K'.out).mono ?_; rintro e w2 ⟨rfl, b2⟩
      have Y2 := Lib.hid (Y1.out.below b2)
      have B2 := Lib.hid (below_then B1.out b2)
      have z2 : w.heap.size + 2 < w2.heap.size := Y2.out.lt
      clear b2
      clear c0x c1x c2x f0x f1x f2x c0y c1y c2y f0y f1y f2y
      have c0y : w2.cell? ⟨w.heap.size + 2, 0, none⟩ = some (.int .i64 0) := Y2.out.cell 0
      have f0y := Y2.out.frozen 0
      have c1y : w2.cell? ⟨w.heap.size + 2, 1, none⟩ = some (.int .i64 0) := Y2.out.cell 1
      have f1y := Y2.out.frozen 1
      have c2y : w2.cell? ⟨w.heap.size + 2, 2, none⟩ = some (.int .i64 0) := Y2.out.cell 2
      have f2y := Y2.out.frozen 2
      go_wp2_with fail
      refine (mix_at _ _ _ _ _ _ _ K.out K'.out).mono ?_; rintro e w' ⟨rfl, rfl⟩
      go_wp2_with fail
      refine (color_any _ _ MB.out.1 MB.out.2).mono ?_; rintro e w3 ⟨rfl, b3⟩
      have Y3 := Lib.hid (Y2.out.below b3)
      have B3 := Lib.hid (below_then B2.out b3)
      rw [V.out.1, V.out.2.1, V.out.2.2]
      clear b3 c0y c1y c2y f0y f1y f2y
      have z3 : w.heap.size + 2 < w3.heap.size := Y3.out.lt
      have c0y : w3.cell? ⟨w.heap.size + 2, 0, none⟩ = some (.int .i64 0) := Y3.out.cell 0
      have f0y := Y3.out.frozen 0
      have c1y : w3.cell? ⟨w.heap.size + 2, 1, none⟩ = some (.int .i64 0) := Y3.out.cell 1
      have f1y := Y3.out.frozen 1
      have c2y : w3.cell? ⟨w.heap.size + 2, 2, none⟩ = some (.int .i64 0) := Y3.out.cell 2
      have f2y := Y3.out.frozen 2
      go_wp2_with fail
      refine bodyPost_ret (v := .agg #[.int .i64 ((r + r') / 2), .int .i64 ((g + g') / 2), .int .i64 ((b + b') / 2)]) (by simp [results, Try.results25, go_sem, c0y, c1y, c2y]) rfl ⟨rfl, ?_⟩
      repeat (first | with_reducible exact B3.out | with_reducible exact below1 w _ | with_reducible exact below2 w _ _ | with_reducible exact below3 w _ _ _ | with_reducible refine Below.setCell ?_ (by simp <;> omega) _ | with_reducible refine Below.drew ?_ | with_reducible refine below_drewN ?_ _)
    · have K' := Lib.hid (show colB r' g' b' = false by simpa using k')
      obtain ⟨rfl, rfl, rfl⟩ := mix_no h (.inr K'.out)
      clear h k k'
      go_enter Try.func25, Try.ntmps25
      go_wp2_with fail
      refine (packed_yes _ _ _ _ K.out).mono ?_; rintro e w1 ⟨rfl, b1⟩
      have X1 : Hid (Box w1 (w.heap.size + 1) 24 [.int .i64 r', .int .i64 g', .int .i64 b']) := ((Box.new_at _ _ _ _ (by simp)).alloc _).below b1
      have Y1 : Hid (Box w1 (w.heap.size + 2) 24 [.int .i64 0, .int .i64 0, .int .i64 0]) := (Box.new_at _ _ _ _ (by simp)).below b1
      have B1 : Hid (Below w.heap.size w w1) := BB.out.trans (b1.mono (by simp; omega))
      clear b1
      have c0x : w1.cell? ⟨w.heap.size + 1, 0, none⟩ = some (.int .i64 r') := X1.out.cell 0
      have f0x := X1.out.frozen 0
      have c1x : w1.cell? ⟨w.heap.size + 1, 1, none⟩ = some (.int .i64 g') := X1.out.cell 1
      have f1x := X1.out.frozen 1
      have c2x : w1.cell? ⟨w.heap.size + 1, 2, none⟩ = some (.int .i64 b') := X1.out.cell 2
      have f2x := X1.out.frozen 2
      have c0y : w1.cell? ⟨w.heap.size + 2, 0, none⟩ = some (.int .i64 0) := Y1.out.cell 0
      have f0y := Y1.out.frozen 0
      have c1y : w1.cell? ⟨w.heap.size + 2, 1, none⟩ = some (.int .i64 0) := Y1.out.cell 1
      have f1y := Y1.out.frozen 1
      have c2y : w1.cell? ⟨w.heap.size + 2, 2, none⟩ = some (.int .i64 0) := Y1.out.cell 2
      have f2y := Y1.out.frozen 2
      have z1 : w.heap.size + 2 < w1.heap.size := Y1.out.lt
      go_wp2_with fail
      refine (packed_no _ _ _ _ K'.out).mono ?_; rintro e w2 ⟨rfl, b2⟩
      have Y2 := Lib.hid (Y1.out.below b2)
      have B2 := Lib.hid (below_then B1.out b2)
      have z2 : w.heap.size + 2 < w2.heap.size := Y2.out.lt
      clear b2
      clear c0x c1x c2x f0x f1x f2x c0y c1y c2y f0y f1y f2y
      have c0y : w2.cell? ⟨w.heap.size + 2, 0, none⟩ = some (.int .i64 0) := Y2.out.cell 0
      have f0y := Y2.out.frozen 0
      have c1y : w2.cell? ⟨w.heap.size + 2, 1, none⟩ = some (.int .i64 0) := Y2.out.cell 1
      have f1y := Y2.out.frozen 1
      have c2y : w2.cell? ⟨w.heap.size + 2, 2, none⟩ = some (.int .i64 0) := Y2.out.cell 2
      have f2y := Y2.out.frozen 2
      go_wp2_with fail
      refine bodyPost_ret (v := .agg #[.int .i64 0, .int .i64 0, .int .i64 0]) (by simp [results, Try.results25, go_sem, c0y, c1y, c2y]) rfl ⟨rfl, ?_⟩
      repeat (first | with_reducible exact B2.out | with_reducible exact below1 w _ | with_reducible exact below2 w _ _ | with_reducible exact below3 w _ _ _ | with_reducible refine Below.setCell ?_ (by simp <;> omega) _ | with_reducible refine Below.drew ?_ | with_reducible refine below_drewN ?_ _)
  · have K := Lib.hid (show colB r g b = false by simpa using k)
    obtain ⟨rfl, rfl, rfl⟩ := mix_no h (.inl K.out)
    clear h k
    go_enter Try.func25, Try.ntmps25
    go_wp2_with fail
    refine (packed_no _ _ _ _ K.out).mono ?_; rintro e w1 ⟨rfl, b1⟩
    have X1 : Hid (Box w1 (w.heap.size + 1) 24 [.int .i64 r', .int .i64 g', .int .i64 b']) := ((Box.new_at _ _ _ _ (by simp)).alloc _).below b1
    have Y1 : Hid (Box w1 (w.heap.size + 2) 24 [.int .i64 0, .int .i64 0, .int .i64 0]) := (Box.new_at _ _ _ _ (by simp)).below b1
    have B1 : Hid (Below w.heap.size w w1) := BB.out.trans (b1.mono (by simp; omega))
    clear b1
    have c0x : w1.cell? ⟨w.heap.size + 1, 0, none⟩ = some (.int .i64 r') := X1.out.cell 0
    have f0x := X1.out.frozen 0
    have c1x : w1.cell? ⟨w.heap.size + 1, 1, none⟩ = some (.int .i64 g') := X1.out.cell 1
    have f1x := X1.out.frozen 1
    have c2x : w1.cell? ⟨w.heap.size + 1, 2, none⟩ = some (.int .i64 b') := X1.out.cell 2
    have f2x := X1.out.frozen 2
    have c0y : w1.cell? ⟨w.heap.size + 2, 0, none⟩ = some (.int .i64 0) := Y1.out.cell 0
    have f0y := Y1.out.frozen 0
    have c1y : w1.cell? ⟨w.heap.size + 2, 1, none⟩ = some (.int .i64 0) := Y1.out.cell 1
    have f1y := Y1.out.frozen 1
    have c2y : w1.cell? ⟨w.heap.size + 2, 2, none⟩ = some (.int .i64 0) := Y1.out.cell 2
    have f2y := Y1.out.frozen 2
    have z1 : w.heap.size + 2 < w1.heap.size := Y1.out.lt
    go_wp2_with fail
    refine bodyPost_ret (v := .agg #[.int .i64 0, .int .i64 0, .int .i64 0]) (by simp [results, Try.results25, go_sem, c0y, c1y, c2y]) rfl ⟨rfl, ?_⟩
    repeat (first | with_reducible exact B1.out | with_reducible exact below1 w _ | with_reducible exact below2 w _ _ | with_reducible exact below3 w _ _ _ | with_reducible refine Below.setCell ?_ (by simp <;> omega) _ | with_reducible refine Below.drew ?_ | with_reducible refine below_drewN ?_ _)
theorem impl_fade (r g b l x0 x1 x2 : Int) (w : World) (h : FadeTo r g b l x0 x1 x2) : Calls Try.prog 28 #[.agg #[.int .i64 r, .int .i64 g, .int .i64 b], .int .i64 l] w fun e w' => e = .returned (.agg #[.int .i64 x0, .int .i64 x1, .int .i64 x2]) ∧ Below w.heap.size w w' := by
  have BB := Lib.hid (below2 w (.cells #[.int .i64 r, .int .i64 g, .int .i64 b] 24) (.cells #[.int .i64 0, .int .i64 0, .int .i64 0] 24))
  by_cases k : colB r g b = true
  · have K := Lib.hid k
    by_cases k' : betB l 0 16 = true
    · obtain ⟨rfl, rfl, rfl⟩ := fade_yes h k k'
      obtain ⟨l0, l1⟩ := betB_yes k'
      have V := Lib.hid (fade_parts k l0 l1)
      have MB := Lib.hid (fade_pbd k l0 l1)
      clear h k k'
      go_enter Try.func28, Try.ntmps28
      go_wp2_with fail
      refine (packed_yes _ _ _ _ K.out).mono ?_; rintro e w1 ⟨rfl, b1⟩
      have Y1 : Hid (Box w1 (w.heap.size + 1) 24 [.int .i64 0, .int .i64 0, .int .i64 0]) := (Box.new_at _ _ _ _ (by simp)).below b1
      have B1 : Hid (Below w.heap.size w w1) := BB.out.trans (b1.mono (by simp; omega))
      clear b1
      have c0y : w1.cell? ⟨w.heap.size + 1, 0, none⟩ = some (.int .i64 0) := Y1.out.cell 0
      have f0y := Y1.out.frozen 0
      have c1y : w1.cell? ⟨w.heap.size + 1, 1, none⟩ = some (.int .i64 0) := Y1.out.cell 1
      have f1y := Y1.out.frozen 1
      have c2y : w1.cell? ⟨w.heap.size + 1, 2, none⟩ = some (.int .i64 0) := Y1.out.cell 2
      have f2y := Y1.out.frozen 2
      have z1 : w.heap.size + 1 < w1.heap.size := Y1.out.lt
      go_wp2_with fail
      refine (fade_at _ _ _ _ _ K.out l0 l1).mono ?_; rintro e w' ⟨rfl, rfl⟩
      go_wp2_with fail
      refine (color_any _ _ MB.out.1 MB.out.2).mono ?_; rintro e w3 ⟨rfl, b3⟩
      have Y3 := Lib.hid (Y1.out.below b3)
      have B3 := Lib.hid (below_then B1.out b3)
      rw [V.out.1, V.out.2.1, V.out.2.2]
      clear b3 c0y c1y c2y f0y f1y f2y
      have z3 : w.heap.size + 1 < w3.heap.size := Y3.out.lt
      have c0y : w3.cell? ⟨w.heap.size + 1, 0, none⟩ = some (.int .i64 0) := Y3.out.cell 0
      have f0y := Y3.out.frozen 0
      have c1y : w3.cell? ⟨w.heap.size + 1, 1, none⟩ = some (.int .i64 0) := Y3.out.cell 1
      have f1y := Y3.out.frozen 1
      have c2y : w3.cell? ⟨w.heap.size + 1, 2, none⟩ = some (.int .i64 0) := Y3.out.cell 2
      have f2y := Y3.out.frozen 2
      go_wp2_with fail
      refine bodyPost_ret (v := .agg #[.int .i64 (r * l / 16), .int .i64 (g * l / 16), .int .i64 (b * l / 16)]) (by simp [results, Try.results28, go_sem, c0y, c1y, c2y]) rfl ⟨rfl, ?_⟩
      repeat (first | with_reducible exact B3.out | with_reducible exact below1 w _ | with_reducible exact below2 w _ _ | with_reducible exact below3 w _ _ _ | with_reducible refine Below.setCell ?_ (by simp <;> omega) _ | with_reducible refine Below.drew ?_ | with_reducible refine below_drewN ?_ _)
    · have hl : betB l 0 16 = false := by simpa using k'
      obtain ⟨rfl, rfl, rfl⟩ := fade_no h (.inr hl)
      have hn : l < 0 ∨ 16 < l := by
        by_cases h0 : 0 ≤ l
        · by_cases h1 : l ≤ 16
          · exact absurd (by simp [betB, h0, h1]) k'
          · exact .inr (by omega)
        · exact .inl (by omega)
      clear h k k' hl
      by_cases h0 : l < 0
      · clear hn
        go_enter Try.func28, Try.ntmps28
        go_wp2_with fail
        refine (packed_yes _ _ _ _ K.out).mono ?_; rintro e w1 ⟨rfl, b1⟩
        have Y1 : Hid (Box w1 (w.heap.size + 1) 24 [.int .i64 0, .int .i64 0, .int .i64 0]) := (Box.new_at _ _ _ _ (by simp)).below b1
        have B1 : Hid (Below w.heap.size w w1) := BB.out.trans (b1.mono (by simp; omega))
        clear b1
        have c0y : w1.cell? ⟨w.heap.size + 1, 0, none⟩ = some (.int .i64 0) := Y1.out.cell 0
        have f0y := Y1.out.frozen 0
        have c1y : w1.cell? ⟨w.heap.size + 1, 1, none⟩ = some (.int .i64 0) := Y1.out.cell 1
        have f1y := Y1.out.frozen 1
        have c2y : w1.cell? ⟨w.heap.size + 1, 2, none⟩ = some (.int .i64 0) := Y1.out.cell 2
        have f2y := Y1.out.frozen 2
        have z1 : w.heap.size + 1 < w1.heap.size := Y1.out.lt
        go_wp2_with fail
        refine bodyPost_ret (v := .agg #[.int .i64 0, .int .i64 0, .int .i64 0]) (by simp [results, Try.results28, go_sem, c0y, c1y, c2y]) rfl ⟨rfl, ?_⟩
        repeat (first | with_reducible exact B1.out | with_reducible exact below1 w _ | with_reducible exact below2 w _ _ | with_reducible exact below3 w _ _ _ | with_reducible refine Below.setCell ?_ (by simp <;> omega) _ | with_reducible refine Below.drew ?_ | with_reducible refine below_drewN ?_ _)
      · have h0' : 0 ≤ l := by omega
        have h1 : 16 < l := by omega
        have hd : decide (l < 0) = false := by simpa using h0
        clear hn h0
        go_enter Try.func28, Try.ntmps28
        go_wp2_with fail
        refine (packed_yes _ _ _ _ K.out).mono ?_; rintro e w1 ⟨rfl, b1⟩
        have Y1 : Hid (Box w1 (w.heap.size + 1) 24 [.int .i64 0, .int .i64 0, .int .i64 0]) := (Box.new_at _ _ _ _ (by simp)).below b1
        have B1 : Hid (Below w.heap.size w w1) := BB.out.trans (b1.mono (by simp; omega))
        clear b1
        have c0y : w1.cell? ⟨w.heap.size + 1, 0, none⟩ = some (.int .i64 0) := Y1.out.cell 0
        have f0y := Y1.out.frozen 0
        have c1y : w1.cell? ⟨w.heap.size + 1, 1, none⟩ = some (.int .i64 0) := Y1.out.cell 1
        have f1y := Y1.out.frozen 1
        have c2y : w1.cell? ⟨w.heap.size + 1, 2, none⟩ = some (.int .i64 0) := Y1.out.cell 2
        have f2y := Y1.out.frozen 2
        have z1 : w.heap.size + 1 < w1.heap.size := Y1.out.lt
        go_wp2_with fail
        refine bodyPost_ret (v := .agg #[.int .i64 0, .int .i64 0, .int .i64 0]) (by simp [results, Try.results28, go_sem, c0y, c1y, c2y]) rfl ⟨rfl, ?_⟩
        repeat (first | with_reducible exact B1.out | with_reducible exact below1 w _ | with_reducible exact below2 w _ _ | with_reducible exact below3 w _ _ _ | with_reducible refine Below.setCell ?_ (by simp <;> omega) _ | with_reducible refine Below.drew ?_ | with_reducible refine below_drewN ?_ _)
  · have K := Lib.hid (show colB r g b = false by simpa using k)
    obtain ⟨rfl, rfl, rfl⟩ := fade_no h (.inl K.out)
    clear h k
    go_enter Try.func28, Try.ntmps28
    go_wp2_with fail
    refine (packed_no _ _ _ _ K.out).mono ?_; rintro e w1 ⟨rfl, b1⟩
    have Y1 : Hid (Box w1 (w.heap.size + 1) 24 [.int .i64 0, .int .i64 0, .int .i64 0]) := (Box.new_at _ _ _ _ (by simp)).below b1
    have B1 : Hid (Below w.heap.size w w1) := BB.out.trans (b1.mono (by simp; omega))
    clear b1
    have c0y : w1.cell? ⟨w.heap.size + 1, 0, none⟩ = some (.int .i64 0) := Y1.out.cell 0
    have f0y := Y1.out.frozen 0
    have c1y : w1.cell? ⟨w.heap.size + 1, 1, none⟩ = some (.int .i64 0) := Y1.out.cell 1
    have f1y := Y1.out.frozen 1
    have c2y : w1.cell? ⟨w.heap.size + 1, 2, none⟩ = some (.int .i64 0) := Y1.out.cell 2
    have f2y := Y1.out.frozen 2
    have z1 : w.heap.size + 1 < w1.heap.size := Y1.out.lt
    go_wp2_with fail
    refine bodyPost_ret (v := .agg #[.int .i64 0, .int .i64 0, .int .i64 0]) (by simp [results, Try.results28, go_sem, c0y, c1y, c2y]) rfl ⟨rfl, ?_⟩
    repeat (first | with_reducible exact B1.out | with_reducible exact below1 w _ | with_reducible exact below2 w _ _ | with_reducible exact below3 w _ _ _ | with_reducible refine Below.setCell ?_ (by simp <;> omega) _ | with_reducible refine Below.drew ?_ | with_reducible refine below_drewN ?_ _)
end Go.Proofs.Ytbboebmfdahgpaa
