/- The program's SpriteAt. -/
import Derived.Test.YtacebhncecninaaSprQ
import Derived.Test.YtacebhncecninaaSprG
namespace Go.Proofs.Ytacebhncecninaa
open Go.ChangeShapes Go.WideShapes Go.ChangeAt Go.RowKit
set_option linter.unusedVariables false

set_option maxRecDepth 100000 in
theorem run_index_line (w : World) (L : List Int) (f : Nat → Int × Int) (hl : LineIs L f) (X : Nat) (hX : X < 32) : (Instr.index 96 (.agg (iv L).toArray) (.int .i64 (X : Int))).run Try.prog w = .ok (.agg #[.int .i64 (f X).1, .int .i64 (f X).2]) w := by
  have hd : ∀ w, (isAgg 94).run Try.prog w = .ok true w := fun w => by
    unfold isAgg
    rw [Sem.run_bind, run_underlying Try.underlying94 w]; rfl
  have hi : (Try.prog.info? 94).map (·.size) = some 2 := by kernel_rfl
  rw [run_index_rows w _ _ 32 2 _ _ X Try.underlying96 hd hi hX]
  congr 2
  have h1 := hl.2 X hX
  have e0 := iv_at L (2 * X) (by rw [hl.1]; omega)
  have e1 := iv_at L (2 * X + 1) (by rw [hl.1]; omega)
  rw [h1.1] at e0
  rw [h1.2] at e1
  apply Array.ext
  · simp [hl.1]; omega
  · intro i h2 h3
    have hi2 : i < 2 := by simpa using h3
    rw [Array.getElem_extract]
    have h : i = 0 ∨ i = 1 := by omega
    rcases h with rfl | rfl
    · have := List.getElem_eq_iff (h := by simp [hl.1]; omega) |>.2 e0
      simpa [Nat.mul_comm X 2] using this
    · have := List.getElem_eq_iff (h := by simp [hl.1]; omega) |>.2 e1
      simpa [Nat.mul_comm X 2] using this
set_option maxRecDepth 100000 in
set_option maxHeartbeats 4000000 in
theorem im_at (A : Option Addr) (n c : Nat) (S : List Spr) (fs : List Nat) (T : Option Addr) (m d : Nat) (zs : List Int) (ft : List Nat) (x y : Int) (w : World) (hS : Sprs w A n S fs) (hT : Ints w T (64 * m) zs ft) (hn : n ≤ 1000000000) (hm : m ≤ 1000000000) :
    Calls Try.prog 29 #[.slice A n c, .slice T m d, .int .i64 x, .int .i64 y] w fun e w' => e = .returned (pairV (atR S zs x y (atT S m zs x y))) ∧ Below w.heap.size w w' := by
  have HS := Lib.hid hS
  have HT := Lib.hid hT
  clear hS hT
  obtain ⟨R, hR⟩ : ∃ R, pairV (atR S zs x y (atT S m zs x y)) = R := ⟨_, rfl⟩
  have HR := Lib.hid hR
  rw [hR]
  clear hR
  go_enter Try.func29, Try.ntmps29
  go_wp2_with fail
  refine (im_isColumn x _).mono ?_; rintro e w1 ⟨rfl, rfl⟩
  cases hx : betB x 0 31
  · have HE : Hid (R = .tuple #[.int .i64 (-1), .int .i64 0]) := Lib.hid (by rw [← HR.out]; unfold atT; rw [hx]; simp [atR, pairV])
    go_wp2_with fail
    refine bodyPost_ret (v := .tuple #[.int .i64 (-1), .int .i64 0]) (by simp [results, Try.results29, go_sem]) rfl ⟨by rw [HE.out], Below.refl _ _⟩
  go_wp2_with fail
  refine (im_isLine y _).mono ?_; rintro e w1 ⟨rfl, rfl⟩
  cases hy : betB y 0 15
  · have HE : Hid (R = .tuple #[.int .i64 (-1), .int .i64 0]) := Lib.hid (by rw [← HR.out]; unfold atT; rw [hy]; simp [atR, pairV])
    go_wp2_with fail
    refine bodyPost_ret (v := .tuple #[.int .i64 (-1), .int .i64 0]) (by simp [results, Try.results29, go_sem]) rfl ⟨by rw [HE.out], Below.refl _ _⟩
  go_wp2_with fail
  refine (im_sprValid A n c S fs T m d zs ft _ HS.out HT.out hn hm).mono ?_; rintro e w1 ⟨rfl, b1⟩
  have B1 := Lib.hid b1
  clear b1
  cases hv : sprB S m zs
  · have HE : Hid (R = .tuple #[.int .i64 (-1), .int .i64 0]) := Lib.hid (by rw [← HR.out]; unfold atT; rw [hv]; simp [atR, pairV])
    go_wp2_with fail
    refine bodyPost_ret (v := .tuple #[.int .i64 (-1), .int .i64 0]) (by simp [results, Try.results29, go_sem]) rfl ⟨by rw [HE.out], B1.out⟩
  have xb := betB_iff.1 hx
  obtain ⟨X, rfl⟩ : ∃ X : Nat, x = X := ⟨x.toNat, by omega⟩
  have hX : X < 32 := by omega
  have HE : Hid (R = .tuple #[.int .i64 (dotF S zs y (onF S y) X).1, .int .i64 (dotF S zs y (onF S y) X).2]) := Lib.hid (by rw [← HR.out, dotF_on]; unfold atT; rw [hv, hx, hy]; rfl)
  have HV := Lib.hid hv
  clear hv hx hy xb HR
  go_wp2_with fail
  refine (im_drawAll A n c S fs T m d zs ft y _ (HS.out.below B1.out) (HT.out.below B1.out) hn hm HV.out).mono ?_
  rintro e w2 ⟨L, rfl, hl, b2⟩
  have B2 := Lib.hid (below_then B1.out b2)
  have hix := fun wq => run_index_line wq L _ hl X hX
  clear b2 hl
  obtain ⟨a, ha⟩ : ∃ a, (dotF S zs y (onF S y) X).1 = a := ⟨_, rfl⟩
  obtain ⟨b, hb⟩ : ∃ b, (dotF S zs y (onF S y) X).2 = b := ⟨_, rfl⟩
  rw [ha, hb] at hix HE
  clear ha hb
  go_upto_region 4 with (fail)

  have X4 : Hid (Box (w2.alloc (.cells #[.int .i64 a, .int .i64 b] 94)) w2.heap.size 94 [.int .i64 a, .int .i64 b]) := Lib.hid (Box.new _ _ _)
  have B4 := Lib.hid (B2.out.alloc B2.out.size (.cells #[.int .i64 a, .int .i64 b] 94))
  generalize w2.alloc (.cells #[.int .i64 a, .int .i64 b] 94) = w4 at X4 B4 ⊢
  generalize w2.heap.size = b0 at X4 ⊢
  refine wp_region_typed (ClB w4) RlB (Ty [TV (.pointer (some ⟨b0, 0, none⟩)), TV (.int .i64 a), TV (.pointer (some ⟨b0, 1, none⟩)), TV (.int .i64 b), TV (.int .i64 a), TV (.int .i64 b)])
    (by kernel_rfl) (by kernel_rfl) (stab_ty _ ⟨stabB_k _, stabB_k _, stabB_k _, stabB_k _, stabB_k _, stabB_k _, trivial⟩) (Below.refl _ _).drew ?_ ?_
  · refine ⟨?_, ?_, ?_, ?_, ?_, ?_, trivial⟩
    · refine lb_val (.pointer (some ⟨b0, 0, none⟩)) (fun _ _ _ => want_none rfl) fun ρ wx hb hc hx hp => ⟨?_, rfl⟩
      have h1 : ρ (.tmp 10) = .pointer (some ⟨b0, 0, none⟩) := hx 10 rfl
      unfold execOp
      simp only [h1]
      clear h1 hx hp hc hb
      go_simp
    · refine lb_val (.int .i64 a) (fun _ _ _ => want_none rfl) fun ρ wx hb hc hx hp => ⟨?_, rfl⟩
      have h1 : ρ (.tmp 31) = .pointer (some ⟨b0, 0, none⟩) := hp.1 rfl
      have c1 : wx.cell? ⟨b0, 0, none⟩ = some (.int .i64 a) := (X4.out.below hb).cell 0
      unfold execOp
      simp only [h1]
      clear h1 hx hp hc hb
      go_simp
    · refine lb_val (.pointer (some ⟨b0, 1, none⟩)) (fun _ _ _ => want_none rfl) fun ρ wx hb hc hx hp => ⟨?_, rfl⟩
      have h1 : ρ (.tmp 10) = .pointer (some ⟨b0, 0, none⟩) := hx 10 rfl
      unfold execOp
      simp only [h1]
      clear h1 hx hp hc hb
      go_simp
    · refine lb_val (.int .i64 b) (fun _ _ _ => want_none rfl) fun ρ wx hb hc hx hp => ⟨?_, rfl⟩
      have h1 : ρ (.tmp 33) = .pointer (some ⟨b0, 1, none⟩) := hp.1 rfl
      have c1 : wx.cell? ⟨b0, 1, none⟩ = some (.int .i64 b) := (X4.out.below hb).cell 1
      unfold execOp
      simp only [h1]
      clear h1 hx hp hc hb
      go_simp
    · exact lb_move (.tmp 32) (.inr rfl) (fun _ _ _ => want_none rfl) fun ρ wx hc hx hp => hp.1 rfl
    · exact lb_move (.tmp 34) (.inr rfl) (fun _ _ _ => want_none rfl) fun ρ wx hc hx hp => hp.1 rfl
  intro vs wx hI hF
  obtain ⟨-, -, -, -, h4, h5, -⟩ := hF
  replace h4 : vs 4 = .int .i64 a := h4
  replace h5 : vs 5 = .int .i64 b := h5
  have HI : Hid (Below w4.heap.size w4 wx) := hI
  simp only [putAll, Act.put, List.setIfInBounds_toArray, List.set_cons_zero, List.set_cons_succ, h4, h5]
  clear hI h4 h5
  go_wp2_with fail
  refine bodyPost_ret (v := .tuple #[.int .i64 a, .int .i64 b]) (by simp [results, Try.results29, go_sem]) rfl ⟨by rw [HE.out], below_then B4.out HI.out⟩
end Go.Proofs.Ytacebhncecninaa
