/- The model's SpriteAt, whole. -/
import Derived.Test.YtpmeppknbpoibaaSprF
namespace Go.Proofs.Ytpmeppknbpoibaa
open Go.ChangeShapes Go.WideShapes Go.ChangeAt Go.RowKit
set_option linter.unusedVariables false

/-- A pair of numbers as a result. -/
def pairV (r : Int × Int) : Value := .tuple #[.int .i64 r.1, .int .i64 r.2]
set_option maxRecDepth 100000 in
set_option maxHeartbeats 4000000 in
theorem spec_at (A : Option Addr) (n c : Nat) (S : List Spr) (fs : List Nat) (T : Option Addr) (m d : Nat) (zs : List Int) (ft : List Nat) (x y : Int) (w : World) (hS : Sprs w A n S fs) (hT : Ints w T (64 * m) zs ft) (hn : n ≤ 1000000000) (hm : m ≤ 1000000000) :
    Calls Try.prog 24 #[.slice A n c, .slice T m d, .int .i64 x, .int .i64 y] w fun e w' => e = .returned (pairV (atR S zs x y (atT S m zs x y))) ∧ Below w.heap.size w w' := by
  have HS := Lib.hid hS
  have HT := Lib.hid hT
  have HL := Lib.hid hS.1
  clear hS hT
  obtain ⟨R, hR⟩ : ∃ R, atT S m zs x y = R := ⟨_, rfl⟩
  have HR := Lib.hid hR
  rw [hR]
  clear hR
  go_enter Try.func24, Try.ntmps24
  go_wp2_with fail
  refine (spec_sprValid A n c S fs T m d zs ft _ HS.out HT.out hn hm).mono ?_; rintro e w1 ⟨rfl, b1⟩
  have B1 := Lib.hid b1
  clear b1
  cases hv : sprB S m zs
  · have HE : Hid (R = none) := Lib.hid (by rw [← HR.out]; unfold atT; rw [hv]; rfl)
    go_wp2_with fail
    refine bodyPost_ret (v := .tuple #[.int .i64 (-1), .int .i64 0]) (by simp [results, Try.results24, go_sem]) rfl ⟨by rw [HE.out]; rfl, B1.out⟩
  go_wp2_with fail
  refine (l1In_any x 0 31 _).mono ?_; rintro e w2 ⟨rfl, rfl⟩
  cases hx : betB x 0 31
  · have HE : Hid (R = none) := Lib.hid (by rw [← HR.out]; unfold atT; rw [hv, hx]; rfl)
    go_wp2_with fail
    refine bodyPost_ret (v := .tuple #[.int .i64 (-1), .int .i64 0]) (by simp [results, Try.results24, go_sem]) rfl ⟨by rw [HE.out]; rfl, B1.out⟩
  go_wp2_with fail
  refine (l1In_any y 0 15 _).mono ?_; rintro e w2 ⟨rfl, rfl⟩
  cases hy : betB y 0 15
  · have HE : Hid (R = none) := Lib.hid (by rw [← HR.out]; unfold atT; rw [hv, hx, hy]; rfl)
    go_wp2_with fail
    refine bodyPost_ret (v := .tuple #[.int .i64 (-1), .int .i64 0]) (by simp [results, Try.results24, go_sem]) rfl ⟨by rw [HE.out]; rfl, B1.out⟩
  have HE : Hid (atF S zs x y = R) := Lib.hid (by rw [← HR.out]; unfold atT; rw [hv, hx, hy]; rfl)
  have xb := betB_iff.1 hx
  have yb := betB_iff.1 hy
  have HO := Lib.hid (fun i (hi : i < n) => (sprB_iff.1 hv).2.1 i (by rw [HL.out]; exact hi))
  have HY := Lib.hid (fun i (hi : i < n) => spr_y hv i (by rw [HL.out]; exact hi))
  clear hv hx hy
  go_wp2_with fail
  refine (spec_on A n c S fs y _ (HS.out.below B1.out) hn (by omega) HY.out).mono ?_
  rintro e w3 ⟨A3, c3, f3, rfl, h1, h2, h3, b3⟩
  have B3 := Lib.hid (below_then B1.out b3)
  have I3 := Lib.hid h2
  have l4 := onF_len S y
  have HM : Hid (∀ k, k ∈ onF S y → k < n) := Lib.hid fun k hk => by rw [← HL.out]; exact (onN_mem.1 (List.mem_of_mem_take hk)).1
  have HF : Hid (((onF S y).find? fun k => decide (valF (S.getD k .zero) zs x y ≠ 0)) = R) := Lib.hid HE.out
  clear h1 h2 h3 b3
  obtain ⟨L, hL⟩ : ∃ L, onF S y = L := ⟨_, rfl⟩
  rw [hL] at I3 l4 HM HF ⊢
  clear hL
  obtain ⟨q, hq⟩ : ∃ q : Nat, L.length = q := ⟨_, rfl⟩
  rw [hq] at I3 l4 ⊢
  clear hq
  go_wp2_with fail
  refine (spec_first A n c S fs T m d zs ft A3 q c3 L f3 x y _ (HS.out.below B3.out) (HT.out.below B3.out) I3.out HM.out HO.out hn hm (by omega) (by omega) (by omega)).mono ?_
  rintro e w4 ⟨rfl, b4⟩
  have B4 := Lib.hid (below_then B3.out b4)
  clear b4
  rw [HF.out]
  cases R with
  | none =>
    rw [show noN none = -1 from rfl]
    go_wp2_with fail
    refine bodyPost_ret (v := .tuple #[.int .i64 (-1), .int .i64 0]) (by simp [results, Try.results24, go_sem]) rfl ⟨rfl, B4.out⟩
  | some k =>
    rw [show noN (some k) = (k : Int) from rfl]
    have hkn : k < n := HM.out k (List.mem_of_find?_eq_some HF.out)
    have hkn' : (k : Int) < n := by omega
    have hk0 : ¬ (k : Int) < 0 := by omega
    obtain ⟨p, o, rfl, _, hpl, hc⟩ := HS.out.at_ (by omega)
    have cc : ∀ j v, (scs (S.getD k .zero))[j]? = some v → w4.cell? ⟨p, o + k * 6 + j, none⟩ = some v := fun j v hv => by
      rw [B4.out.cell (by exact hpl)]
      have := hc k hkn j v hv
      rwa [show o + (6 * k + j) = o + k * 6 + j by omega] at this
    have HOK := Lib.hid (HO.out k hkn)
    have HW : Hid (pairV (atR S zs x y (some k)) = .tuple #[.int .i64 (k : Int), .int .i64 (valF (S.getD k .zero) zs x y)]) := Lib.hid rfl
    generalize S.getD k .zero = s at cc HOK HW
    have c0 : w4.cell? ⟨p, o + k * 6, none⟩ = some (.int .i64 s.x) := cc 0 _ rfl
    have c1 : w4.cell? ⟨p, o + k * 6 + 1, none⟩ = some (.int .i64 s.y) := cc 1 _ rfl
    have c2 : w4.cell? ⟨p, o + k * 6 + 2, none⟩ = some (.int .i64 s.n) := cc 2 _ rfl
    have c3 : w4.cell? ⟨p, o + k * 6 + 3, none⟩ = some (.bool s.ac) := cc 3 _ rfl
    have c4 : w4.cell? ⟨p, o + k * 6 + 4, none⟩ = some (.bool s.dn) := cc 4 _ rfl
    have c5 : w4.cell? ⟨p, o + k * 6 + 5, none⟩ = some (.bool s.bh) := cc 5 _ rfl
    clear cc hc
    go_wp2_with fail
    refine (spec_val s T d m zs ft x y _ (HT.out.below B4.out) HOK.out hm (by omega) (by omega)).mono ?_; rintro e w5 ⟨rfl, b5⟩
    have B5 := Lib.hid (below_then B4.out b5)
    clear b5
    go_wp2_with fail
    refine bodyPost_ret (v := .tuple #[.int .i64 (k : Int), .int .i64 (valF s zs x y)]) (by simp [results, Try.results24, go_sem]) rfl ⟨by rw [HW.out], B5.out⟩
end Go.Proofs.Ytpmeppknbpoibaa
