/- The model's functions on scenes: lines, the number of a picture. -/
import Derived.Test.YtacebhncecninaaScnS
namespace Go.Proofs.Ytacebhncecninaa
open Go.ChangeShapes Go.WideShapes Go.ChangeAt Go.RowKit
set_option linter.unusedVariables false

theorem ints_grown {w w' : World} {A : Option Addr} {n : Nat} {xs : List Int} {fp : List Nat} {row : Option Nat} (h : Ints w A n xs fp) (g : w.grownBy w' row) (hr : ∀ k, row = some k → k ∉ fp) : Ints w' A n xs fp :=
  h.keep ⟨g.size, fun b hb hl => g.block b hl fun e => hr b e.symm hb⟩
theorem own_apart {w : World} {A : Option Addr} {n : Nat} {xs : List Int} {f : List Nat} {v v' : Value} (h : Ints w A n xs f) (s : ∀ g, v.ownBlock = some g → g ∉ f) (o : v'.ownBlock = v.ownBlock ∨ v'.ownBlock = some w.heap.size) : ∀ g, v'.ownBlock = some g → g ∉ f := fun g hg hm => by
  rcases o with e | e
  · exact s g (by rw [← e]; exact hg) hm
  · have hlt := h.lt g hm
    have h' := e.symm.trans hg
    injection h' with h'
    omega
theorem ints_at {w : World} {A : Option Addr} {n : Nat} {xs : List Int} {fp : List Nat} (h : Ints w A n xs fp) : ∀ b ∈ fp, b < w.heap.size := h.lt
set_option maxHeartbeats 4000000 in
theorem spec_scnLine (F : Fld) (A : Option Addr) (c : Nat) (T : Option Addr) (d : Nat) (S : List Spr) (O : Option Addr) (e0 : Nat) (fa ft fo : List Nat) (y : Int) (w : World) (h : SHas w A T O F S fa ft fo) (hs : SSmall F S) :
    Calls Try.prog 32 #[sv F A c T d S O e0, .int .i64 y] w (Copied (scLT F S y) (scLT F S y).length w) := by
  obtain ⟨w1, hw1⟩ : ∃ w1, w1 = (w.alloc (.cells #[.int .i64 F.w, .slice A F.xs.length c, .slice T F.nt d, .int .i64 F.sx, .int .i64 F.sy, .slice O S.length e0] 41)).alloc (.cells #[] 3) := ⟨_, rfl⟩
  have X1 : Hid (Box w1 w.heap.size 41 (ccs F.w A F.xs.length c T F.nt d F.sx F.sy O S.length e0)) := by rw [hw1]; exact (Box.new w _ _).alloc _
  have E1 : Hid (w1.ownsRow (w.heap.size + 1) 3 1 (.slice (some ⟨w.heap.size + 1, 0, none⟩) 0 0) 0 (iv [])) := by
    rw [hw1]
    have := own_empty (w.alloc (.cells #[.int .i64 F.w, .slice A F.xs.length c, .slice T F.nt d, .int .i64 F.sx, .int .i64 F.sy, .slice O S.length e0] 41)) 3 (w.heap.size + 1) (by simp)
    exact Lib.hid (by simpa using this)
  have B1 : Hid (Below w.heap.size w w1) := by rw [hw1]; exact below2 w _ _
  have hw1s : w.heap.size + 2 = w1.heap.size := by rw [hw1]; simp
  have HH := Lib.hid h
  have HS := Lib.hid hs
  clear h hs
  go_enter Try.func32, Try.ntmps32
  go_upto_region 2 with (fail)
  rw [← hw1]
  clear hw1
  have HFR : Hid (∀ W, Below w.heap.size w W → SHas W A T O F S fa ft fo) := Lib.hid fun W h => HH.out.below h
  go_wp2_with (first | (refine sc_load (by rfl) _ rfl w.heap.size rfl X1.out ?_))
  refine (spec_scnValid F A c T d S O e0 fa ft fo _ (HFR.out _ B1.out) HS.out).mono ?_; rintro e w2 ⟨rfl, bl⟩
  have X2 := Lib.hid (X1.out.below bl)
  have E2 := Lib.hid (own_keep E1.out bl)
  have B2 := Lib.hid (below_then B1.out bl)
  have hw2s : w.heap.size + 2 ≤ w2.heap.size := by have := bl.size; omega
  clear bl X1 E1 B1 hw1s
  cases hv : scnB F S
  · have HT : Hid (scLT F S y = []) := Lib.hid (scLT_no (by rw [hv]; rfl))
    clear hv
    go_wp2_with fail
    go_ret
    rw [HT.out]
    show Copied [] 0 w _ _
    exact ⟨_, 0, [], rfl, by omega, Ints.nil _ _, .nil _ _, B2.out⟩
  have HV := Lib.hid hv
  go_wp2_with fail
  refine (l1In_any y 0 15 _).mono ?_; rintro e w3 ⟨rfl, rfl⟩
  cases hy : betB y 0 15
  · have HT : Hid (scLT F S y = []) := Lib.hid (scLT_no (by rw [hy, Bool.and_false]))
    clear hv
    go_wp2_with fail
    go_ret
    rw [HT.out]
    show Copied [] 0 w _ _
    exact ⟨_, 0, [], rfl, by omega, Ints.nil _ _, .nil _ _, B2.out⟩
  have HT := Lib.hid (scLT_yes hv hy)
  have hyb := betB_iff.1 hy
  have HY := Lib.hid (fun i (hi : i < S.length) => spr_y (by unfold scnB at hv; rw [Bool.and_eq_true] at hv; exact hv.2) i hi)
  have HL : Hid ((scL F S y).take 0 = []) := Lib.hid (List.take_zero)
  clear hv hy
  have k5 := X2.out.cell 5
  go_wp2_with fail
  clear k5
  refine (spec_on O S.length e0 S fo y _ (HFR.out _ B2.out).2 HS.out.2 (by omega) HY.out).mono ?_
  rintro e w3 ⟨A3, c3, f3, rfl, _, hi3, hn3, bl⟩
  have X3 := Lib.hid (X2.out.below bl)
  have E3 := Lib.hid (own_keep E2.out bl)
  have B3 := Lib.hid (below_then B2.out bl)
  have I3 := Lib.hid hi3
  have N3 : Hid (∀ b ∈ f3, w.heap.size + 2 ≤ b) := Lib.hid fun b hb => by have := (hn3.lt b hb).1; omega
  have l4 := onF_len S y
  have HM : Hid (∀ k, k ∈ onF S y → k < S.length) := Lib.hid fun k hk => (onN_mem.1 (List.mem_of_mem_take hk)).1
  have HSC : Hid (∀ x : Nat, mixF F S x y ((onF S y).find? fun k => decide (valF (S.getD k .zero) F.zs x y ≠ 0)) = scF F S x y) := Lib.hid fun x => rfl
  obtain ⟨L, hL⟩ : ∃ L, onF S y = L := ⟨_, rfl⟩
  rw [hL] at I3 l4 HM HSC ⊢
  clear hL
  obtain ⟨q, hq⟩ : ∃ q : Nat, L.length = q := ⟨_, rfl⟩
  rw [hq] at I3 l4 ⊢
  clear hq hi3 hn3 bl X2 E2 B2
  go_wp2_with fail
  go_loopw [5, 7] (fun v i wr => ∃ (k : Nat) (A2 : Option Addr) (d2 : Nat), k ≤ 32 ∧ v = .slice A2 k d2 ∧ i = .int .i64 k ∧ wr.ownsRow (w.heap.size + 1) 3 1 (.slice A2 k d2) k (iv ((scL F S y).take k)) ∧ Box wr w.heap.size 41 (ccs F.w A F.xs.length c T F.nt d F.sx F.sy O S.length e0) ∧ Below w.heap.size w wr ∧ Ints wr A3 q (nums L) f3 ∧ ∀ g, (Value.slice A2 k d2).ownBlock = some g → g ∉ f3) (fun _ i _ => 32 - (intOf i).toNat)
  case atStart => exact ⟨0, _, _, by omega, rfl, rfl, by rw [HL.out]; exact E3.out, X3.out, B3.out, I3.out, fun g hg hm => by have h1 := N3.out g hm; have h2 : some (w.heap.size + 1) = some g := hg; injection h2 with h2; omega⟩
  case round =>
    obtain ⟨k, A2, d2, hk, rfl, rfl, ho, hx, hb, hi, hsep⟩ := hrel
    have OR := Lib.hid ho
    have XR := Lib.hid hx
    have BR := Lib.hid hb
    have IR := Lib.hid hi
    have SR := Lib.hid hsep
    clear ho hx hb hi hsep X3 E3 B3 I3
    by_cases h32 : k < 32
    · have i32 : (k : Int) < 32 := by omega
      go_wp2_with (first | (refine sc_load (by rfl) _ rfl w.heap.size rfl XR.out ?_))
      refine (spec_mix F A c T d S O e0 fa ft fo A3 q c3 L f3 (k : Int) y _ (HFR.out _ BR.out) HS.out HV.out IR.out HM.out (by omega) (by omega) (by omega) hyb.1 hyb.2).mono ?_; rintro e w4 ⟨rfl, b4⟩
      rw [HSC.out]
      have HN := Lib.hid (scL_take F S y k h32)
      generalize scF F S (k : Int) y = n at HN ⊢
      have s4 : w.heap.size + 1 ≤ w4.heap.size := by have := XR.out.lt; have := b4.size; omega
      have O4 := Lib.hid (own_keep (own_keep OR.out b4) (below1 w4 (.cells #[.int .i64 n] 3)))
      have I4 : Hid (Ints (w4.alloc (.cells #[.int .i64 n] 3)) (some ⟨w4.heap.size, 0, none⟩) 1 [n] [w4.heap.size]) := Lib.hid (lone_int w4 n)
      have J4 := Lib.hid ((IR.out.below b4).below (below1 w4 (.cells #[.int .i64 n] 3)))
      have X4 := Lib.hid ((XR.out.below b4).alloc (.cells #[.int .i64 n] 3))
      have B4 := Lib.hid ((below_then BR.out b4).alloc (by omega) (.cells #[.int .i64 n] 3))
      have hb1 : w.heap.size + 1 ≤ (w4.alloc (.cells #[.int .i64 n] 3)).heap.size := by simp; omega
      clear b4 XR BR OR IR
      go_wp2_with (at_builtin; refine wpList_append_ints rfl _ _ rfl (w.heap.size + 1) _ k _ rfl O4.out _ _ _ [n] _ rfl I4.out (by omega) hb1 ?_; intro v' w5 own5 gr5 ob5; obtain ⟨A5, d5, _, rfl, _⟩ := own_ints own5; have b5 := below_grown (Below.refl (w.heap.size + 1) _) gr5 hb1 (fun b hb => (own_lt O4.out b hb).1); have X5 := Lib.hid (X4.out.keep b5 (by omega)); have B5 := Lib.hid (B4.out.trans (b5.mono (by omega))); have J5 := Lib.hid (ints_grown J4.out gr5 SR.out); have S5 := Lib.hid (own_apart J4.out SR.out ob5); have O5 := Lib.hid own5; clear own5 gr5 b5 X4 B4 O4 I4 J4 ob5 SR)
      go_roundw
      case rel => exact ⟨k + 1, _, _, by omega, rfl, by go_num, by rw [HN.out]; exact O5.out, X5.out, B5.out, J5.out, S5.out⟩
      case measure => simp [intOf]; omega
    · obtain rfl : k = 32 := by omega
      have OF : Hid (Copied (scLT F S y) (scLT F S y).length w (.returned (.slice A2 32 d2)) wr) := by
        have h := OR.out
        rw [List.take_of_length_le (by rw [scL_len]; omega)] at h
        rw [HT.out, scL_len]
        exact copied_own (own_down h (by omega)) BR.out
      go_wp2_with fail
      go_ret
      exact OF.out
set_option maxHeartbeats 4000000 in
theorem spec_scnHash (F : Fld) (A : Option Addr) (c : Nat) (T : Option Addr) (d : Nat) (S : List Spr) (O : Option Addr) (e0 : Nat) (fa ft fo : List Nat) (w : World) (h : SHas w A T O F S fa ft fo) (hs : SSmall F S) :
    Calls Try.prog 35 #[sv F A c T d S O e0] w fun e w' => e = .returned (.int .i64 (hashT F S)) ∧ Below w.heap.size w w' := by
  have BB := Lib.hid (below1 w (.cells #[.int .i64 F.w, .slice A F.xs.length c, .slice T F.nt d, .int .i64 F.sx, .int .i64 F.sy, .slice O S.length e0] 41))
  have X1 := Lib.hid (Box.new w #[.int .i64 F.w, .slice A F.xs.length c, .slice T F.nt d, .int .i64 F.sx, .int .i64 F.sy, .slice O S.length e0] 41)
  have H1 := Lib.hid (SHas.below h BB.out)
  have HS := Lib.hid hs
  clear h hs
  go_enter Try.func35, Try.ntmps35
  go_upto_region 1 with (fail)
  generalize w.alloc (.cells #[.int .i64 F.w, .slice A F.xs.length c, .slice T F.nt d, .int .i64 F.sx, .int .i64 F.sy, .slice O S.length e0] 41) = w1 at X1 BB H1 ⊢
  generalize hbb : w.heap.size = bb at X1 ⊢
  have HBB := Lib.hid hbb
  clear hbb
  go_wp2_with (first | (refine sc_load (by rfl) _ rfl bb rfl X1.out ?_))
  refine (spec_scnValid F A c T d S O e0 fa ft fo _ H1.out HS.out).mono ?_; rintro e w2 ⟨rfl, bl⟩
  have X2 := Lib.hid (X1.out.below bl)
  have H2 := Lib.hid (H1.out.below bl)
  have B2 := Lib.hid (below_then BB.out bl)
  clear bl
  cases hv : scnB F S
  · have HT : Hid (hashT F S = -1) := Lib.hid (by unfold hashT; rw [hv]; rfl)
    clear hv
    go_wp2_with fail
    go_ret
    exact ⟨ret_int HT.out.symm, B2.out⟩
  have HV := Lib.hid hv
  have HT : Hid (hashT F S = hashN F S 16) := Lib.hid (by unfold hashT; rw [hv]; rfl)
  have HZ := Lib.hid H2.out.1.2.1
  have HB := Lib.hid (fun k => hashN_b HZ.out hv k)
  have H0 := Lib.hid (hashN_zero F S)
  clear hv
  go_wp2_with fail
  go_loopw [3, 4, 5, 6] (fun n i l x wr => ∃ k : Nat, k ≤ 16 ∧ i = .int .i64 k ∧ n = .int .i64 (hashN F S k) ∧ Below w2.heap.size w2 wr) (fun _ i _ _ _ => 16 - (intOf i).toNat)
  case atStart => exact ⟨0, by omega, rfl, by rw [H0.out], Below.refl _ _⟩
  case round =>
    obtain ⟨k, hk, rfl, rfl, hb⟩ := hrel
    have BR := Lib.hid hb
    clear hb
    by_cases h16 : k < 16
    · have i16 : (k : Int) < 16 := by omega
      have XR := Lib.hid (X2.out.below BR.out)
      have HR := Lib.hid (H2.out.below BR.out)
      go_wp2_with (first | (refine sc_load (by rfl) _ rfl bb rfl XR.out ?_))
      refine (spec_scnLine F A c T d S O e0 fa ft fo (k : Int) _ HR.out HS.out).mono ?_
      rintro e w3 ⟨A3, c3, f3, rfl, _, hi3, hn3, bl⟩
      rw [scLT_yes HV.out (betB_iff.2 ⟨by omega, by omega⟩), scL_len] at hi3
      rw [scLT_yes HV.out (betB_iff.2 ⟨by omega, by omega⟩), scL_len]
      have B3 := Lib.hid (below_then BR.out bl)
      obtain ⟨p, o, rfl, _, hpl, hc⟩ := hi3.at_ (by omega)
      have HC := Lib.hid hc
      have HN := Lib.hid (hashN_step F S k)
      have H1b := HB.out k
      have HPB : Hid (∀ p, p ∈ scL F S (k : Int) → 0 ≤ p) := Lib.hid fun p hp => by
        obtain ⟨x, _, rfl⟩ := List.mem_map.1 hp
        exact (scF_b HZ.out HV.out _ _).1
      have HP7 : Hid (∀ j, j < 32 → 0 ≤ (scL F S (k : Int)).getD j 0 ∧ (scL F S (k : Int)).getD j 0 ≤ 7) := Lib.hid fun j hj => by
        rw [scL_get F S k j hj]
        exact scF_b HZ.out HV.out _ _
      have HLL := Lib.hid (scL_len F S (k : Int))
      generalize scL F S (k : Int) = l at HC HN HPB HP7 HLL
      obtain ⟨n0, hn0⟩ : ∃ n0, hashN F S k = n0 := ⟨_, rfl⟩
      rw [hn0] at HN H1b ⊢
      clear hi3 hn3 bl hc hn0 XR HR BR
      go_wp2_with fail
      go_loopw [3, 6] (fun n x wr => ∃ j : Nat, j ≤ 32 ∧ x = .int .i64 j ∧ n = .int .i64 (hashL n0 (l.take j)) ∧ wr = w3) (fun _ x _ => 32 - (intOf x).toNat)
      case atStart => exact ⟨0, by omega, rfl, by rw [List.take_zero, hashL_nil], rfl⟩
      case round =>
        obtain ⟨j, hj, rfl, rfl, rfl⟩ := hrel
        by_cases h32 : j < 32
        · have j32 : (j : Int) < 32 := by omega
          have c1 : wr.cell? ⟨p, o + j, none⟩ = some (.int .i64 (l.getD j 0)) := HC.out j h32
          have hp7 := HP7.out j h32
          have hm := hashL_b (l.take j) n0 H1b fun p hp => HPB.out p (List.mem_of_mem_take hp)
          have HNX := Lib.hid (hashL_take n0 l j (by rw [HLL.out]; exact h32))
          generalize hashL n0 (l.take j) = m at hm HNX ⊢
          generalize l.getD j 0 = pz at c1 hp7 HNX
          have w1' : IntKind.i64.wrap (31 * m) = 31 * m := by rw [IntKind.wrap_i64]; omega
          have w2' : IntKind.i64.wrap (31 * m + pz) = 31 * m + pz := by rw [IntKind.wrap_i64]; omega
          have hpos : 0 ≤ 31 * m + pz := by omega
          have w3' : (31 * m + pz).tmod 65521 = (31 * m + pz) % 65521 := Int.tmod_eq_emod_of_nonneg hpos
          have w4' : IntKind.i64.wrap ((31 * m + pz) % 65521) = (31 * m + pz) % 65521 := by rw [IntKind.wrap_i64]; omega
          have HNY : Hid (hashL n0 (l.take (j + 1)) = (31 * m + pz) % 65521) := Lib.hid (by rw [HNX.out]; unfold hashS; rfl)
          clear HNX
          go_wp2_with fail
          clear c1
          go_roundw
          case rel => exact ⟨j + 1, by omega, by go_num, by rw [HNY.out], by first | rfl | trivial⟩
          case measure => simp [intOf]; omega
        · obtain rfl : j = 32 := by omega
          have HE : Hid (hashN F S (k + 1) = hashL n0 (l.take 32)) := Lib.hid (by rw [HN.out, List.take_of_length_le (by rw [HLL.out]; omega)])
          go_wp2_with fail
          go_roundw
          case rel => exact ⟨k + 1, by omega, by go_num, by rw [HE.out], B3.out⟩
          case measure => simp [intOf]; omega
    · obtain rfl : k = 16 := by omega
      go_wp2_with fail
      go_ret
      exact ⟨ret_int HT.out.symm, below_then B2.out BR.out⟩
end Go.Proofs.Ytacebhncecninaa
