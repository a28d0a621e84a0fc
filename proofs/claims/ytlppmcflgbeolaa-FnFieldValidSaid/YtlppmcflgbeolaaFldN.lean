/- The law of chapter 10 on valid backgrounds, walked. -/
import Derived.Test.YtlppmcflgbeolaaFldL
import Derived.Deep.RegionLaw
namespace Go.Proofs.Ytlppmcflgbeolaa
open Go.ChangeShapes Go.WideShapes Go.ChangeAt Go.RowKit
set_option linter.unusedVariables false

theorem below_grownF {L : Nat} {a w w' : World} {row : Option Nat} (h : Below L a w) (g : w.grownBy w' row) (hr : ∀ k, row = some k → L ≤ k) (hL : L ≤ a.heap.size) : Below L a w' :=
  ⟨g.os.trans h.os, g.tape.trans h.tape, g.output.trans h.output, Nat.le_trans h.size g.size, fun k hk => (g.block k (Nat.lt_of_lt_of_le hk (Nat.le_trans hL h.size)) (fun e => by have := hr k e.symm; omega)).trans (h.block k hk)⟩
theorem ints_cell {w : World} {A : Option Addr} {n : Nat} {xs : List Int} {fp : List Nat} (h : Ints w A n xs fp) {b : Nat} (hb : ∀ z ∈ fp, z < b) (i : Nat) (v : Value) : Ints (w.setCell ⟨b, i, none⟩ v) A n xs fp := by
  have o : Only [b] w (w.setCell ⟨b, i, none⟩ v) := (Only.refl _ _).setCell (.inl (by simp)) _
  exact h.keep (.of_only o fun x hx hs => by
    have := hb x hx
    simp at hs; omega)
theorem ints_far {w : World} {A : Option Addr} {n : Nat} {xs : List Int} {fp : List Nat} (h : Ints w A n xs fp) {b : Nat} (hb : ∀ z ∈ fp, b < z) (i : Nat) (v : Value) : Ints (w.setCell ⟨b, i, none⟩ v) A n xs fp := by
  have o : Only [b] w (w.setCell ⟨b, i, none⟩ v) := (Only.refl _ _).setCell (.inl (by simp)) _
  exact h.keep (.of_only o fun x hx hs => by
    have := hb x hx
    simp at hs; omega)
theorem own_lit {w : World} {base : Nat} (hb : base ≤ w.heap.size) : (w.alloc (.cells #[] 3)).ownsRow base 3 1 (.slice (some ⟨w.heap.size, 0, none⟩) 0 0) 0 (iv []) :=
  ⟨rfl, .inr ⟨w.heap.size, 0, #[], rfl, hb, heap_alloc_new w _, by omega, by unfold maxLen; omega, rfl, rfl⟩⟩
theorem own_lit1 {w : World} (x : Obj) : ((w.alloc x).alloc (.cells #[] 3)).ownsRow w.heap.size 3 1 (.slice (some ⟨w.heap.size + 1, 0, none⟩) 0 0) 0 (iv []) := by
  have h := own_lit (w := w.alloc x) (base := w.heap.size) (by simp)
  rwa [show (w.alloc x).heap.size = w.heap.size + 1 by simp] at h
theorem lone_num1 (w : World) (x : Obj) (u : Int) : Ints ((w.alloc x).alloc (.cells #[.int .i64 u] 3)) (some ⟨w.heap.size + 1, 0, none⟩) 1 [u] [w.heap.size + 1] := by
  have h := lone_num (w.alloc x) u
  rwa [show (w.alloc x).heap.size = w.heap.size + 1 by simp] at h
theorem ints_grown {w w' : World} {A : Option Addr} {n : Nat} {xs : List Int} {fp : List Nat} {row : Option Nat} (h : Ints w A n xs fp) (g : w.grownBy w' row) (hr : ∀ b ∈ fp, row ≠ some b) : Ints w' A n xs fp :=
  h.keep ⟨g.size, fun b hb _ => g.block b (h.lt b hb) (fun e => hr b hb e.symm)⟩
theorem im_valid_of (W : Int) (A : Option Addr) (n c : Nat) (T : Option Addr) (nt d : Nat) (sx sy : Int) (xs zs : List Int) (fa ft : List Nat) (w : World) (hi : Ints w A n xs fa) (ht : Ints w T (64 * nt) zs ft) (hn : n ≤ 1000000000) (hm : nt ≤ 1000000000) :
    Calls Try.prog 13 #[fldV W A n c T nt d sx sy] w fun e w' => e = .returned (.bool (fldB ⟨W, xs, nt, zs, sx, sy⟩)) ∧ Below w.heap.size w w' := by
  have hl := hi.1
  subst hl
  exact im_fieldValid ⟨W, xs, nt, zs, sx, sy⟩ A c T d fa ft w ⟨hi, ht⟩ ⟨hn, hm⟩
/-- A table that lacks its first number; one with an unknown tile. -/
theorem short_no {F : Fld} (h : FOk F) (hw : F.w ≠ 1) : fldB ⟨F.w, F.xs.drop 1, F.nt, F.zs, F.sx, F.sy⟩ = false := by
  cases e : fldB ⟨F.w, F.xs.drop 1, F.nt, F.zs, F.sx, F.sy⟩
  · rfl
  · have k := (fldB_iff.1 e).rem
    have r := h.rem
    have w1 := h.w1
    have w8 := h.w8
    have n1 := h.r1
    have n0 : 1 ≤ F.xs.length := by
      rcases Nat.eq_zero_or_pos F.xs.length with h0 | h0
      · rw [h0] at n1; simp at n1
      · exact h0
    have k' : ((F.xs.drop 1).length : Int) % F.w = 0 := k
    rw [List.length_drop, show ((F.xs.length - 1 : Nat) : Int) = (F.xs.length : Int) - 1 by omega] at k'
    have := Int.emod_emod_of_dvd
    have d1 := Int.dvd_of_emod_eq_zero r
    have d2 := Int.dvd_of_emod_eq_zero k'
    have d3 : F.w ∣ 1 := by
      have := Int.dvd_sub d1 d2
      rwa [show (F.xs.length : Int) - ((F.xs.length : Int) - 1) = 1 by omega] at this
    have := Int.le_of_dvd (by omega) d3
    omega
theorem unknown_no {W : Int} {nt : Nat} {ys zs : List Int} {sx sy : Int} : fldB ⟨W, ys ++ [(nt : Int)], nt, zs, sx, sy⟩ = false := by
  cases e : fldB ⟨W, ys ++ [(nt : Int)], nt, zs, sx, sy⟩
  · rfl
  · have k := knownB_iff.1 (fldB_iff.1 e).known ys.length (by show ys.length < (ys ++ [(nt : Int)]).length; simp)
    have k' : betB ((ys ++ [(nt : Int)]).getD ys.length 0) 0 ((nt : Int) - 1) = true := k
    have h1 : (ys ++ [(nt : Int)]).getD ys.length 0 = nt := by simp [List.getD_eq_getElem?_getD]
    rw [h1] at k'
    have := betB_iff.1 k'
    omega
set_option maxRecDepth 100000 in
set_option maxHeartbeats 8000000 in
theorem walk_FnFieldValid (a0 : Option Addr) (len0 cap0 : Nat) (z0 : List Int) (w : World) (w0 : IsRow .u8 w a0 len0 cap0 z0) :
    Calls Try.prog 3 #[.slice a0 len0 cap0] w fun e w' => e = .returned (.bool true) ∧ Below w.heap.size w w' := by
  have H := Lib.hid w0
  have hl := isRow_len w0
  clear w0
  by_cases hs : len0 ≤ 1048576
  · go_enter Try.func3, Try.ntmps3
    go_wp2_with fail
    refine (draw_fieldValid _ _ _ _ _ H.out).mono ?_; rintro e w1 ⟨F, A, c, T, d, fa, ft, rfl, hx, ht, hxc, htd, hf, b1⟩
    obtain ⟨WX, hWX⟩ : ∃ WX, WX = w1.alloc (.cells #[.int .i64 F.w, .slice A F.xs.length c, .slice T F.nt d, .int .i64 F.sx, .int .i64 F.sy] 26) := ⟨_, rfl⟩
    have B1 : Hid (Below w.heap.size w WX) := by rw [hWX]; exact b1.alloc b1.size _
    have X1 : Hid (Box WX w1.heap.size 26 (fcs F.w A F.xs.length c T F.nt d F.sx F.sy)) := by rw [hWX]; exact Box.new w1 _ _
    have F1 : Hid (FHas WX A T F fa ft) := by rw [hWX]; exact hf.below (below1 _ _)
    have HS : Hid (FSmall F) := Lib.hid ⟨by omega, by omega⟩
    have hbt : w.heap.size ≤ w1.heap.size := b1.size
    clear b1 hf
    go_upto_region 4 with (fail)
    rw [← hWX]
    generalize w1.heap.size = bt at X1 hbt
    clear hWX
    have HX1 := X1
    go_wp2_with (first | (refine fs_load (by rfl) _ rfl bt rfl X1.out ?_))
    refine (im_fieldValid F A c T d fa ft _ F1.out HS.out).mono ?_; rintro e w2 ⟨rfl, bl⟩
    have X2 := Lib.hid (X1.out.below bl)
    have F2 := Lib.hid (F1.out.below bl)
    have B2 := Lib.hid (below_then B1.out bl)
    clear X1 F1 B1 bl HX1
    go_wp2_with (first | (refine fs_load (by rfl) _ rfl bt rfl X2.out ?_))
    refine (spec_fieldValid F A c T d fa ft _ F2.out HS.out).mono ?_; rintro e w3 ⟨rfl, bl⟩
    have X3 := Lib.hid (X2.out.below bl)
    have F3 := Lib.hid (F2.out.below bl)
    have B3 := Lib.hid (below_then B2.out bl)
    clear X2 F2 B2 bl
    obtain ⟨V, hV⟩ : ∃ V, fldB F = V := ⟨_, rfl⟩
    have HV := Lib.hid hV
    rw [hV]
    clear hV
    cases V
    · go_wp2_with fail
      refine (alive_any _).mono ?_; rintro e w' ⟨rfl, rfl⟩
      go_wp2_with fail
      go_ret
      exact ⟨rfl, B3.out⟩
    · have HK := Lib.hid (fldB_iff.1 HV.out)
      have n1 : 1 ≤ F.xs.length := by
        have h1 := HK.out.r1
        rcases Nat.eq_zero_or_pos F.xs.length with h0 | h0
        · rw [h0] at h1; simp at h1
        · exact h0
      obtain ⟨p, o, rfl, hfa, hpl, -⟩ := F3.out.1.at_ n1
      obtain ⟨fp', hIt, hfp⟩ := ints_tail F3.out.1 n1
      have HIT := Lib.hid hIt
      have HFP := Lib.hid hfp
      clear hIt hfp hfa
      obtain ⟨n, hn⟩ : ∃ n : Nat, F.xs.length = n := ⟨_, rfl⟩
      have HN := Lib.hid hn
      rw [hn] at n1 hx hxc HIT
      obtain ⟨nt, hnt⟩ : ∃ nt : Nat, F.nt = nt := ⟨_, rfl⟩
      have HT := Lib.hid hnt
      rw [hnt] at ht htd
      rw [hn, hnt] at X3
      rw [hn, hnt]
      clear hn hnt
      clear hpl HFP
      by_cases hc1 : c = 1
      · subst hc1
        obtain rfl : n = 1 := by omega
        have HIB : Hid (Ints w3 (some ⟨p, o, none⟩) 0 (F.xs.drop 1) []) := Lib.hid (by
          have : F.xs.drop 1 = [] := List.length_eq_zero_iff.1 (by rw [List.length_drop, HN.out])
          rw [this]; exact .nil _ _)
        clear HIT
        obtain ⟨W4, hW4⟩ : ∃ W, W = w3.alloc (.cells #[.int .i64 F.w, .slice (some ⟨p, o, none⟩) 1 1, .slice T nt d, .int .i64 F.sx, .int .i64 F.sy] 26) := ⟨_, rfl⟩
        obtain ⟨b5, hb5⟩ : ∃ b, b = w3.heap.size := ⟨_, rfl⟩
        have bl : Below w3.heap.size w3 W4 := by rw [hW4]; exact below1 _ _
        have Y4 : Hid (Box W4 b5 26 (fcs F.w (some ⟨p, o, none⟩) 1 1 T nt d F.sx F.sy)) := by rw [hW4, hb5]; exact Box.new w3 _ _
        have hz5 : w.heap.size ≤ b5 := by rw [hb5]; exact B3.out.size
        have hb35 : bt < b5 := by rw [hb5]; exact X3.out.lt
        have NF4 : Hid (∀ z ∈ fa ++ ft, z < b5) := Lib.hid fun z hz => by rw [hb5]; exact fhas_lt F3.out z hz
        have NI4 : Hid (∀ z ∈ [], z < b5) := Lib.hid fun z hz => by rw [hb5]; exact HIB.out.lt z hz
        have X4 := Lib.hid (X3.out.below bl)
        have F4 := Lib.hid (F3.out.below bl)
        have I4 := Lib.hid (HIB.out.below bl)
        have B4 := Lib.hid (below_then B3.out bl)
        have HX3 := X3
        clear F3 B3 bl X3 HIB
        go_upto_region 10 with (first | (refine fs_load (by rfl) _ rfl bt rfl HX3.out ?_))
        rw [← hW4, ← hb5]
        clear hW4 hb5 HX3
        have s1 : W4.cell? ⟨bt, 1, none⟩ = some (.slice (some ⟨p, o, none⟩) 1 1) := X4.out.cell 1
        have y1 := Y4.out.cell 1
        have g1 := Y4.out.frozen 1
        go_upto_region 11 with (fail)
        have Y5 : Hid (Box (W4.setCell ⟨b5, 1, none⟩ (.slice (some ⟨p, o, none⟩) 0 0)) b5 26 (fcs F.w (some ⟨p, o, none⟩) 0 0 T nt d F.sx F.sy)) := Y4.out.set 1 _
        have X5 := Lib.hid (X4.out.far (b' := b5) (i := 1) (by omega) (.slice (some ⟨p, o, none⟩) 0 0))
        have B5 := Lib.hid (B4.out.setCell (p := ⟨b5, 1, none⟩) hz5 (.slice (some ⟨p, o, none⟩) 0 0))
        have F5 := Lib.hid (F4.out.cell NF4.out 1 (.slice (some ⟨p, o, none⟩) 0 0))
        have I5 := Lib.hid (ints_cell I4.out NI4.out 1 (.slice (some ⟨p, o, none⟩) 0 0))
        clear s1 y1 g1 X4 F4 B4 Y4 I4
        generalize W4.setCell ⟨b5, 1, none⟩ (.slice (some ⟨p, o, none⟩) 0 0) = W5 at X5 F5 B5 Y5 I5 ⊢
        obtain ⟨W6, hW6⟩ : ∃ W, W = W5.alloc (.cells #[.int .i64 F.w, .slice (some ⟨p, o, none⟩) 1 1, .slice T nt d, .int .i64 F.sx, .int .i64 F.sy] 26) := ⟨_, rfl⟩
        obtain ⟨b6, hb6⟩ : ∃ b, b = W5.heap.size := ⟨_, rfl⟩
        have bl : Below W5.heap.size W5 W6 := by rw [hW6]; exact below1 _ _
        have Z6 : Hid (Box W6 b6 26 (fcs F.w (some ⟨p, o, none⟩) 1 1 T nt d F.sx F.sy)) := by rw [hW6, hb6]; exact Box.new W5 _ _
        have hz6 : w.heap.size ≤ b6 := by rw [hb6]; exact B5.out.size
        have hb36 : bt < b6 := by rw [hb6]; exact X5.out.lt
        have hb56 : b5 < b6 := by rw [hb6]; exact Y5.out.lt
        have NF6 : Hid (∀ z ∈ fa ++ ft, z < b6) := Lib.hid fun z hz => by rw [hb6]; exact fhas_lt F5.out z hz
        have NI6 : Hid (∀ z ∈ [], z < b6) := Lib.hid fun z hz => by rw [hb6]; exact I5.out.lt z hz
        have X6 := Lib.hid (X5.out.below bl)
        have F6 := Lib.hid (F5.out.below bl)
        have I6 := Lib.hid (I5.out.below bl)
        have B6 := Lib.hid (below_then B5.out bl)
        have Y6 := Lib.hid (Y5.out.below bl)
        have HX5 := X5
        clear X5 F5 B5 Y5 bl I5
        go_upto_region 12 with (first | (refine fs_load (by rfl) _ rfl bt rfl HX5.out ?_))
        rw [← hW6, ← hb6]
        clear hW6 hb6 HX5
        have zb6 : b6 < W6.heap.size := Z6.out.lt
        have s1 : W6.cell? ⟨bt, 1, none⟩ = some (.slice (some ⟨p, o, none⟩) 1 1) := X6.out.cell 1
        have s2 : W6.cell? ⟨bt, 2, none⟩ = some (.slice T nt d) := X6.out.cell 2
        have btl : bt < W6.heap.size := X6.out.lt
        have z1 := Z6.out.cell 1
        have g1 := Z6.out.frozen 1
        have hk1 : (1 : Int) ≤ 1 := by omega
        obtain ⟨s, hs6⟩ : ∃ s, W6.heap.size = s := ⟨_, rfl⟩
        rw [hs6] at btl zb6
        have ht1 : nt ≤ 1000 := ht
        have FIN : Hid (∀ (w7 : World), Below s W6 w7 → w7.cell? ⟨bt, 1, none⟩ = some (.slice (some ⟨p, o, none⟩) 1 1) ∧ w7.cell? ⟨bt, 2, none⟩ = some (.slice T nt d) ∧ w7.cell? ⟨b6, 1, none⟩ = some (.slice (some ⟨p, o, none⟩) 1 1) ∧ w7.frozen? ⟨b6, 1, none⟩ = false ∧ bt < w7.heap.size ∧ b6 < w7.heap.size) := Lib.hid fun w7 h7 => by
          subst hs6
          exact ⟨(X6.out.below h7).cell 1, (X6.out.below h7).cell 2, (Z6.out.below h7).cell 1, (Z6.out.below h7).frozen 1, (X6.out.below h7).lt, (Z6.out.below h7).lt⟩
        have eN : 0 + 1 = 1 := by omega
        go_cut [6] (fun t6 wc => t6 = .pointer (some ⟨b6, 0, none⟩) ∧ ∃ A8 c8 f8, Box wc b6 26 (fcs F.w A8 1 c8 T nt d F.sx F.sy) ∧ Box wc b5 26 (fcs F.w (some ⟨p, o, none⟩) 0 0 T nt d F.sx F.sy) ∧ Box wc bt 26 (fcs F.w (some ⟨p, o, none⟩) 1 1 T nt d F.sx F.sy) ∧ Ints wc T (64 * nt) F.zs ft ∧ Ints wc (some ⟨p, o, none⟩) 0 (F.xs.drop 1) [] ∧ Ints wc A8 1 (F.xs.drop 1 ++ [(nt : Int)]) f8 ∧ Below w.heap.size w wc)
        case first =>
          go_region_law (first
            | (refine step_append_ints rfl _ _ rfl s (.slice (some ⟨s, 0, none⟩) 0 0) 0 [] rfl (show World.ownsRow _ _ _ _ _ _ _ from by subst hs6; exact own_lit (w := W6) (Nat.le_refl _)) (some ⟨p, o, none⟩) 0 0 (F.xs.drop 1) [] rfl (I6.out.below (by rw [hs6]; exact ((Below.refl s W6).alloc (by omega) (.cells #[] 3)).drew)) (by omega) (by simp; omega) ?_; intro v7 w7 own7 gr7 _; have OW7 : Hid (w7.ownsRow s 3 1 v7 0 (iv (F.xs.drop 1))) := Lib.hid (by simpa using own7); have B7 : Hid (Below s W6 w7) := Lib.hid (below_grownF (L := s) (((Below.refl s W6).alloc (by omega) (.cells #[] 3)).drew) gr7 (fun k hk => by simp [Value.ownBlock] at hk; omega) (by omega)); obtain ⟨y1, y2, y3, y4, y5, y6⟩ := FIN.out w7 B7.out; clear own7 gr7)
            | (refine step_append_ints rfl _ _ rfl s (.slice (some ⟨s, 0, none⟩) 0 0) 0 [] rfl (show World.ownsRow _ _ _ _ _ _ _ from by subst hs6; exact own_keep_any (own_lit (w := W6) (Nat.le_refl _)) (below1 (W6.alloc (.cells #[] 3)) (.cells #[.int .i64 (nt : Int)] 3)).drew) (some ⟨p, o, none⟩) 0 0 (F.xs.drop 1) [] rfl (I6.out.below (by rw [hs6]; exact (((Below.refl s W6).alloc (by omega) (.cells #[] 3)).alloc (by simp; omega) (.cells #[.int .i64 (nt : Int)] 3)).drew)) (by omega) (by simp; omega) ?_; intro v7 w7 own7 gr7 _; have OW7 : Hid (w7.ownsRow s 3 1 v7 0 (iv (F.xs.drop 1))) := Lib.hid (by simpa using own7); have B7 : Hid (Below s W6 w7) := Lib.hid (below_grownF (L := s) ((((Below.refl s W6).alloc (by omega) (.cells #[] 3)).alloc (by simp; omega) (.cells #[.int .i64 (nt : Int)] 3)).drew) gr7 (fun k hk => by simp [Value.ownBlock] at hk; omega) (by omega)); have KL : Hid (Ints w7 (some ⟨s + 1, 0, none⟩) 1 [(nt : Int)] [s + 1]) := Lib.hid (by subst hs6; exact ints_grown ((lone_num1 W6 (.cells #[] 3) (nt : Int)).below (Below.refl _ _).drew) gr7 (by simp [Value.ownBlock])); obtain ⟨y1, y2, y3, y4, y5, y6⟩ := FIN.out w7 B7.out; clear own7 gr7)
            | (refine step_append_ints rfl _ _ rfl s (.slice (some ⟨s + 1, 0, none⟩) 0 0) 0 [] rfl (show World.ownsRow _ _ _ _ _ _ _ from by subst hs6; exact own_lit1 (w := W6) (.cells #[.int .i64 (nt : Int)] 3)) (some ⟨p, o, none⟩) 0 0 (F.xs.drop 1) [] rfl (I6.out.below (by rw [hs6]; exact (((Below.refl s W6).alloc (by omega) (.cells #[.int .i64 (nt : Int)] 3)).alloc (by simp; omega) (.cells #[] 3)).drew)) (by omega) (by simp; omega) ?_; intro v7 w7 own7 gr7 _; have OW7 : Hid (w7.ownsRow s 3 1 v7 0 (iv (F.xs.drop 1))) := Lib.hid (by simpa using own7); have B7 : Hid (Below s W6 w7) := Lib.hid (below_grownF (L := s) ((((Below.refl s W6).alloc (by omega) (.cells #[.int .i64 (nt : Int)] 3)).alloc (by simp; omega) (.cells #[] 3)).drew) gr7 (fun k hk => by simp [Value.ownBlock] at hk; omega) (by omega)); have KL : Hid (Ints w7 (some ⟨s, 0, none⟩) 1 [(nt : Int)] [s]) := Lib.hid (by subst hs6; exact ints_grown (((lone_num W6 (nt : Int)).below (below1 _ (.cells #[] 3))).below (Below.refl _ _).drew) gr7 (by simp [Value.ownBlock])); obtain ⟨y1, y2, y3, y4, y5, y6⟩ := FIN.out w7 B7.out; clear own7 gr7)
            | (refine step_append_ints rfl _ _ rfl s v7 0 (F.xs.drop 1) rfl OW7.out _ 1 1 [(nt : Int)] _ rfl KL.out (by omega) (by have := B7.out.size; omega) ?_; intro v8 w8 own8 gr8 _; obtain ⟨A8, c8, f8, rfl, hc8, _, hi8, hn8, _⟩ := own_ints own8; have I8 := Lib.hid hi8; have N8 := Lib.hid hn8; have B8 : Hid (Below s W6 w8) := Lib.hid (below_grownF (L := s) (B7.out) gr8 (fun k hk => (own_block OW7.out k hk).1) (by omega)); obtain ⟨u1, u2, u3, u4, u5, u6⟩ := FIN.out w8 B8.out; clear own8 gr8 hi8 hn8)
            | (refine step_append_ints rfl _ _ rfl s v7 0 (F.xs.drop 1) rfl (own_keep_any OW7.out (below1 _ _)) (some ⟨w7.heap.size, 0, none⟩) 1 1 [(nt : Int)] [w7.heap.size] rfl (lone_num w7 (nt : Int)) (by omega) (by have := B7.out.size; simp; omega) ?_; intro v8 w8 own8 gr8 _; obtain ⟨A8, c8, f8, rfl, hc8, _, hi8, hn8, _⟩ := own_ints own8; have I8 := Lib.hid hi8; have N8 := Lib.hid hn8; have B8 : Hid (Below s W6 w8) := Lib.hid (below_grownF (L := s) (B7.out.alloc (by have := B7.out.size; omega) (.cells #[.int .i64 (nt : Int)] 3)) gr8 (fun k hk => (own_block OW7.out k hk).1) (by omega)); obtain ⟨u1, u2, u3, u4, u5, u6⟩ := FIN.out w8 B8.out; clear own8 gr8 hi8 hn8))
          all_goals
            rw [eN] at I8
            have Z9 : Hid (Box (w8.setCell ⟨b6, 1, none⟩ (.slice A8 1 c8)) b6 26 (fcs F.w A8 1 c8 T nt d F.sx F.sy)) := Box.set (Z6.out.below (hs6 ▸ B8.out)) 1 _
            have Y9 := Lib.hid ((Y6.out.below (hs6 ▸ B8.out)).far (b' := b6) (i := 1) (by omega) (.slice A8 1 c8))
            have X9 := Lib.hid ((X6.out.below (hs6 ▸ B8.out)).far (b' := b6) (i := 1) (by omega) (.slice A8 1 c8))
            have F9 := Lib.hid ((F6.out.below (hs6 ▸ B8.out)).cell NF6.out 1 (.slice A8 1 c8))
            have J9 := Lib.hid (ints_cell (I6.out.below (hs6 ▸ B8.out)) NI6.out 1 (.slice A8 1 c8))
            have I9 : Hid (Ints (w8.setCell ⟨b6, 1, none⟩ (.slice A8 1 c8)) A8 1 (F.xs.drop 1 ++ [(nt : Int)]) f8) := Lib.hid (ints_far I8.out (fun z hz => by have := (N8.out.lt z hz).1; omega) 1 _)
            have B9 := Lib.hid ((below_then B6.out (hs6 ▸ B8.out)).setCell (p := ⟨b6, 1, none⟩) hz6 (.slice A8 1 c8))
            generalize w8.setCell ⟨b6, 1, none⟩ (.slice A8 1 c8) = w9 at Z9 Y9 X9 F9 J9 I9 B9 ⊢
            go_wp2
            go_meet
            case rel => exact ⟨rfl, A8, c8, f8, Z9.out, Y9.out, X9.out, HT.out ▸ F9.out.2, J9.out, I9.out, B9.out⟩
        case rest =>
          obtain ⟨rfl, A8, c8, f8, hZ, hY, hX, hT, hJ, hI, hB⟩ := hcut
          have Z9 := Lib.hid hZ
          have Y9 := Lib.hid hY
          have X9 := Lib.hid hX
          have T9 := Lib.hid hT
          have J9 := Lib.hid hJ
          have I9 := Lib.hid hI
          have B9 := Lib.hid hB
          clear hZ hY hX hT hJ hI hB
          have hT := HT.out
          subst hT
          have c0 : wc.cell? ⟨bt, 0, none⟩ = some (.int .i64 F.w) := X9.out.cell 0
          have y0 : wc.cell? ⟨b5, 0, none⟩ = some (.int .i64 F.w) := Y9.out.cell 0
          have y1 : wc.cell? ⟨b5, 1, none⟩ = some (.slice (some ⟨p, o, none⟩) 0 0) := Y9.out.cell 1
          have y2 : wc.cell? ⟨b5, 2, none⟩ = some (.slice T F.nt d) := Y9.out.cell 2
          have y3 : wc.cell? ⟨b5, 3, none⟩ = some (.int .i64 F.sx) := Y9.out.cell 3
          have y4 : wc.cell? ⟨b5, 4, none⟩ = some (.int .i64 F.sy) := Y9.out.cell 4
          have z0 : wc.cell? ⟨b6, 0, none⟩ = some (.int .i64 F.w) := Z9.out.cell 0
          have z1 : wc.cell? ⟨b6, 1, none⟩ = some (.slice A8 1 c8) := Z9.out.cell 1
          have z2 : wc.cell? ⟨b6, 2, none⟩ = some (.slice T F.nt d) := Z9.out.cell 2
          have z3 : wc.cell? ⟨b6, 3, none⟩ = some (.int .i64 F.sx) := Z9.out.cell 3
          have z4 : wc.cell? ⟨b6, 4, none⟩ = some (.int .i64 F.sy) := Z9.out.cell 4
          by_cases hw1 : F.w = 1
          · go_wp2_with fail
            refine (im_valid_of _ A8 1 c8 T F.nt d F.sx F.sy (F.xs.drop 1 ++ [(F.nt : Int)]) F.zs f8 ft _ I9.out T9.out (by omega) (by omega)).mono ?_; rintro e w10 ⟨rfl, bl⟩
            rw [unknown_no]
            have B10 := Lib.hid (below_then B9.out bl)
            clear bl c0 y0 y1 y2 y3 y4 z0 z1 z2 z3 z4
            go_wp2_with fail
            go_ret
            exact ⟨rfl, B10.out⟩
          · go_wp2_with fail
            refine (im_valid_of _ (some ⟨p, o, none⟩) 0 0 T F.nt d F.sx F.sy (F.xs.drop 1) F.zs [] ft _ J9.out T9.out (by omega) (by omega)).mono ?_; rintro e w10 ⟨rfl, bl⟩
            rw [short_no HK.out hw1]
            have Z10 := Lib.hid (Z9.out.below bl)
            have I10 := Lib.hid (I9.out.below bl)
            have T10 := Lib.hid (T9.out.below bl)
            have B10 := Lib.hid (below_then B9.out bl)
            clear bl c0 y0 y1 y2 y3 y4 z0 z1 z2 z3 z4
            have z0 : w10.cell? ⟨b6, 0, none⟩ = some (.int .i64 F.w) := Z10.out.cell 0
            have z1 : w10.cell? ⟨b6, 1, none⟩ = some (.slice A8 1 c8) := Z10.out.cell 1
            have z2 : w10.cell? ⟨b6, 2, none⟩ = some (.slice T F.nt d) := Z10.out.cell 2
            have z3 : w10.cell? ⟨b6, 3, none⟩ = some (.int .i64 F.sx) := Z10.out.cell 3
            have z4 : w10.cell? ⟨b6, 4, none⟩ = some (.int .i64 F.sy) := Z10.out.cell 4
            go_wp2_with fail
            refine (im_valid_of _ A8 1 c8 T F.nt d F.sx F.sy (F.xs.drop 1 ++ [(F.nt : Int)]) F.zs f8 ft _ I10.out T10.out (by omega) (by omega)).mono ?_; rintro e w11 ⟨rfl, bl⟩
            rw [unknown_no]
            have B11 := Lib.hid (below_then B10.out bl)
            clear bl z0 z1 z2 z3 z4
            go_wp2_with fail
            go_ret
            exact ⟨rfl, B11.out⟩
      · have hc2 : ¬ c = 1 := hc1
        have HIB := Lib.hid HIT.out
        clear HIT
        obtain ⟨W4, hW4⟩ : ∃ W, W = w3.alloc (.cells #[.int .i64 F.w, .slice (some ⟨p, o, none⟩) n c, .slice T nt d, .int .i64 F.sx, .int .i64 F.sy] 26) := ⟨_, rfl⟩
        obtain ⟨b5, hb5⟩ : ∃ b, b = w3.heap.size := ⟨_, rfl⟩
        have bl : Below w3.heap.size w3 W4 := by rw [hW4]; exact below1 _ _
        have Y4 : Hid (Box W4 b5 26 (fcs F.w (some ⟨p, o, none⟩) n c T nt d F.sx F.sy)) := by rw [hW4, hb5]; exact Box.new w3 _ _
        have hz5 : w.heap.size ≤ b5 := by rw [hb5]; exact B3.out.size
        have hb35 : bt < b5 := by rw [hb5]; exact X3.out.lt
        have NF4 : Hid (∀ z ∈ fa ++ ft, z < b5) := Lib.hid fun z hz => by rw [hb5]; exact fhas_lt F3.out z hz
        have NI4 : Hid (∀ z ∈ fp', z < b5) := Lib.hid fun z hz => by rw [hb5]; exact HIB.out.lt z hz
        have X4 := Lib.hid (X3.out.below bl)
        have F4 := Lib.hid (F3.out.below bl)
        have I4 := Lib.hid (HIB.out.below bl)
        have B4 := Lib.hid (below_then B3.out bl)
        have HX3 := X3
        clear F3 B3 bl X3 HIB
        go_upto_region 10 with (first | (refine fs_load (by rfl) _ rfl bt rfl HX3.out ?_))
        rw [← hW4, ← hb5]
        clear hW4 hb5 HX3
        have s1 : W4.cell? ⟨bt, 1, none⟩ = some (.slice (some ⟨p, o, none⟩) n c) := X4.out.cell 1
        have y1 := Y4.out.cell 1
        have g1 := Y4.out.frozen 1
        go_upto_region 11 with (fail)
        have Y5 : Hid (Box (W4.setCell ⟨b5, 1, none⟩ (.slice (some ⟨p, o + 1, none⟩) (n - 1) (c - 1))) b5 26 (fcs F.w (some ⟨p, o + 1, none⟩) (n - 1) (c - 1) T nt d F.sx F.sy)) := Y4.out.set 1 _
        have X5 := Lib.hid (X4.out.far (b' := b5) (i := 1) (by omega) (.slice (some ⟨p, o + 1, none⟩) (n - 1) (c - 1)))
        have B5 := Lib.hid (B4.out.setCell (p := ⟨b5, 1, none⟩) hz5 (.slice (some ⟨p, o + 1, none⟩) (n - 1) (c - 1)))
        have F5 := Lib.hid (F4.out.cell NF4.out 1 (.slice (some ⟨p, o + 1, none⟩) (n - 1) (c - 1)))
        have I5 := Lib.hid (ints_cell I4.out NI4.out 1 (.slice (some ⟨p, o + 1, none⟩) (n - 1) (c - 1)))
        clear s1 y1 g1 X4 F4 B4 Y4 I4
        generalize W4.setCell ⟨b5, 1, none⟩ (.slice (some ⟨p, o + 1, none⟩) (n - 1) (c - 1)) = W5 at X5 F5 B5 Y5 I5 ⊢
        obtain ⟨W6, hW6⟩ : ∃ W, W = W5.alloc (.cells #[.int .i64 F.w, .slice (some ⟨p, o, none⟩) n c, .slice T nt d, .int .i64 F.sx, .int .i64 F.sy] 26) := ⟨_, rfl⟩
        obtain ⟨b6, hb6⟩ : ∃ b, b = W5.heap.size := ⟨_, rfl⟩
        have bl : Below W5.heap.size W5 W6 := by rw [hW6]; exact below1 _ _
        have Z6 : Hid (Box W6 b6 26 (fcs F.w (some ⟨p, o, none⟩) n c T nt d F.sx F.sy)) := by rw [hW6, hb6]; exact Box.new W5 _ _
        have hz6 : w.heap.size ≤ b6 := by rw [hb6]; exact B5.out.size
        have hb36 : bt < b6 := by rw [hb6]; exact X5.out.lt
        have hb56 : b5 < b6 := by rw [hb6]; exact Y5.out.lt
        have NF6 : Hid (∀ z ∈ fa ++ ft, z < b6) := Lib.hid fun z hz => by rw [hb6]; exact fhas_lt F5.out z hz
        have NI6 : Hid (∀ z ∈ fp', z < b6) := Lib.hid fun z hz => by rw [hb6]; exact I5.out.lt z hz
        have X6 := Lib.hid (X5.out.below bl)
        have F6 := Lib.hid (F5.out.below bl)
        have I6 := Lib.hid (I5.out.below bl)
        have B6 := Lib.hid (below_then B5.out bl)
        have Y6 := Lib.hid (Y5.out.below bl)
        have HX5 := X5
        clear X5 F5 B5 Y5 bl I5
        go_upto_region 12 with (first | (refine fs_load (by rfl) _ rfl bt rfl HX5.out ?_))
        rw [← hW6, ← hb6]
        clear hW6 hb6 HX5
        have zb6 : b6 < W6.heap.size := Z6.out.lt
        have s1 : W6.cell? ⟨bt, 1, none⟩ = some (.slice (some ⟨p, o, none⟩) n c) := X6.out.cell 1
        have s2 : W6.cell? ⟨bt, 2, none⟩ = some (.slice T nt d) := X6.out.cell 2
        have btl : bt < W6.heap.size := X6.out.lt
        have z1 := Z6.out.cell 1
        have g1 := Z6.out.frozen 1
        have hk1 : (1 : Int) ≤ n := by omega
        obtain ⟨s, hs6⟩ : ∃ s, W6.heap.size = s := ⟨_, rfl⟩
        rw [hs6] at btl zb6
        have ht1 : nt ≤ 1000 := ht
        have FIN : Hid (∀ (w7 : World), Below s W6 w7 → w7.cell? ⟨bt, 1, none⟩ = some (.slice (some ⟨p, o, none⟩) n c) ∧ w7.cell? ⟨bt, 2, none⟩ = some (.slice T nt d) ∧ w7.cell? ⟨b6, 1, none⟩ = some (.slice (some ⟨p, o, none⟩) n c) ∧ w7.frozen? ⟨b6, 1, none⟩ = false ∧ bt < w7.heap.size ∧ b6 < w7.heap.size) := Lib.hid fun w7 h7 => by
          subst hs6
          exact ⟨(X6.out.below h7).cell 1, (X6.out.below h7).cell 2, (Z6.out.below h7).cell 1, (Z6.out.below h7).frozen 1, (X6.out.below h7).lt, (Z6.out.below h7).lt⟩
        have eN : (n - 1) + 1 = n := by omega
        go_cut [6] (fun t6 wc => t6 = .pointer (some ⟨b6, 0, none⟩) ∧ ∃ A8 c8 f8, Box wc b6 26 (fcs F.w A8 n c8 T nt d F.sx F.sy) ∧ Box wc b5 26 (fcs F.w (some ⟨p, o + 1, none⟩) (n - 1) (c - 1) T nt d F.sx F.sy) ∧ Box wc bt 26 (fcs F.w (some ⟨p, o, none⟩) n c T nt d F.sx F.sy) ∧ Ints wc T (64 * nt) F.zs ft ∧ Ints wc (some ⟨p, o + 1, none⟩) (n - 1) (F.xs.drop 1) fp' ∧ Ints wc A8 n (F.xs.drop 1 ++ [(nt : Int)]) f8 ∧ Below w.heap.size w wc)
        case first =>
          go_region_law (first
            | (refine step_append_ints rfl _ _ rfl s (.slice (some ⟨s, 0, none⟩) 0 0) 0 [] rfl (show World.ownsRow _ _ _ _ _ _ _ from by subst hs6; exact own_lit (w := W6) (Nat.le_refl _)) (some ⟨p, o + 1, none⟩) (n - 1) (c - 1) (F.xs.drop 1) fp' rfl (I6.out.below (by rw [hs6]; exact ((Below.refl s W6).alloc (by omega) (.cells #[] 3)).drew)) (by omega) (by simp; omega) ?_; intro v7 w7 own7 gr7 _; have OW7 : Hid (w7.ownsRow s 3 1 v7 (n - 1) (iv (F.xs.drop 1))) := Lib.hid (by simpa using own7); have B7 : Hid (Below s W6 w7) := Lib.hid (below_grownF (L := s) (((Below.refl s W6).alloc (by omega) (.cells #[] 3)).drew) gr7 (fun k hk => by simp [Value.ownBlock] at hk; omega) (by omega)); obtain ⟨y1, y2, y3, y4, y5, y6⟩ := FIN.out w7 B7.out; clear own7 gr7)
            | (refine step_append_ints rfl _ _ rfl s (.slice (some ⟨s, 0, none⟩) 0 0) 0 [] rfl (show World.ownsRow _ _ _ _ _ _ _ from by subst hs6; exact own_keep_any (own_lit (w := W6) (Nat.le_refl _)) (below1 (W6.alloc (.cells #[] 3)) (.cells #[.int .i64 (nt : Int)] 3)).drew) (some ⟨p, o + 1, none⟩) (n - 1) (c - 1) (F.xs.drop 1) fp' rfl (I6.out.below (by rw [hs6]; exact (((Below.refl s W6).alloc (by omega) (.cells #[] 3)).alloc (by simp; omega) (.cells #[.int .i64 (nt : Int)] 3)).drew)) (by omega) (by simp; omega) ?_; intro v7 w7 own7 gr7 _; have OW7 : Hid (w7.ownsRow s 3 1 v7 (n - 1) (iv (F.xs.drop 1))) := Lib.hid (by simpa using own7); have B7 : Hid (Below s W6 w7) := Lib.hid (below_grownF (L := s) ((((Below.refl s W6).alloc (by omega) (.cells #[] 3)).alloc (by simp; omega) (.cells #[.int .i64 (nt : Int)] 3)).drew) gr7 (fun k hk => by simp [Value.ownBlock] at hk; omega) (by omega)); have KL : Hid (Ints w7 (some ⟨s + 1, 0, none⟩) 1 [(nt : Int)] [s + 1]) := Lib.hid (by subst hs6; exact ints_grown ((lone_num1 W6 (.cells #[] 3) (nt : Int)).below (Below.refl _ _).drew) gr7 (by simp [Value.ownBlock])); obtain ⟨y1, y2, y3, y4, y5, y6⟩ := FIN.out w7 B7.out; clear own7 gr7)
            | (refine step_append_ints rfl _ _ rfl s (.slice (some ⟨s + 1, 0, none⟩) 0 0) 0 [] rfl (show World.ownsRow _ _ _ _ _ _ _ from by subst hs6; exact own_lit1 (w := W6) (.cells #[.int .i64 (nt : Int)] 3)) (some ⟨p, o + 1, none⟩) (n - 1) (c - 1) (F.xs.drop 1) fp' rfl (I6.out.below (by rw [hs6]; exact (((Below.refl s W6).alloc (by omega) (.cells #[.int .i64 (nt : Int)] 3)).alloc (by simp; omega) (.cells #[] 3)).drew)) (by omega) (by simp; omega) ?_; intro v7 w7 own7 gr7 _; have OW7 : Hid (w7.ownsRow s 3 1 v7 (n - 1) (iv (F.xs.drop 1))) := Lib.hid (by simpa using own7); have B7 : Hid (Below s W6 w7) := Lib.hid (below_grownF (L := s) ((((Below.refl s W6).alloc (by omega) (.cells #[.int .i64 (nt : Int)] 3)).alloc (by simp; omega) (.cells #[] 3)).drew) gr7 (fun k hk => by simp [Value.ownBlock] at hk; omega) (by omega)); have KL : Hid (Ints w7 (some ⟨s, 0, none⟩) 1 [(nt : Int)] [s]) := Lib.hid (by subst hs6; exact ints_grown (((lone_num W6 (nt : Int)).below (below1 _ (.cells #[] 3))).below (Below.refl _ _).drew) gr7 (by simp [Value.ownBlock])); obtain ⟨y1, y2, y3, y4, y5, y6⟩ := FIN.out w7 B7.out; clear own7 gr7)
            | (refine step_append_ints rfl _ _ rfl s v7 (n - 1) (F.xs.drop 1) rfl OW7.out _ 1 1 [(nt : Int)] _ rfl KL.out (by omega) (by have := B7.out.size; omega) ?_; intro v8 w8 own8 gr8 _; obtain ⟨A8, c8, f8, rfl, hc8, _, hi8, hn8, _⟩ := own_ints own8; have I8 := Lib.hid hi8; have N8 := Lib.hid hn8; have B8 : Hid (Below s W6 w8) := Lib.hid (below_grownF (L := s) (B7.out) gr8 (fun k hk => (own_block OW7.out k hk).1) (by omega)); obtain ⟨u1, u2, u3, u4, u5, u6⟩ := FIN.out w8 B8.out; clear own8 gr8 hi8 hn8)
            | (refine step_append_ints rfl _ _ rfl s v7 (n - 1) (F.xs.drop 1) rfl (own_keep_any OW7.out (below1 _ _)) (some ⟨w7.heap.size, 0, none⟩) 1 1 [(nt : Int)] [w7.heap.size] rfl (lone_num w7 (nt : Int)) (by omega) (by have := B7.out.size; simp; omega) ?_; intro v8 w8 own8 gr8 _; obtain ⟨A8, c8, f8, rfl, hc8, _, hi8, hn8, _⟩ := own_ints own8; have I8 := Lib.hid hi8; have N8 := Lib.hid hn8; have B8 : Hid (Below s W6 w8) := Lib.hid (below_grownF (L := s) (B7.out.alloc (by have := B7.out.size; omega) (.cells #[.int .i64 (nt : Int)] 3)) gr8 (fun k hk => (own_block OW7.out k hk).1) (by omega)); obtain ⟨u1, u2, u3, u4, u5, u6⟩ := FIN.out w8 B8.out; clear own8 gr8 hi8 hn8))
          all_goals
            rw [eN] at I8
            have Z9 : Hid (Box (w8.setCell ⟨b6, 1, none⟩ (.slice A8 n c8)) b6 26 (fcs F.w A8 n c8 T nt d F.sx F.sy)) := Box.set (Z6.out.below (hs6 ▸ B8.out)) 1 _
            have Y9 := Lib.hid ((Y6.out.below (hs6 ▸ B8.out)).far (b' := b6) (i := 1) (by omega) (.slice A8 n c8))
            have X9 := Lib.hid ((X6.out.below (hs6 ▸ B8.out)).far (b' := b6) (i := 1) (by omega) (.slice A8 n c8))
            have F9 := Lib.hid ((F6.out.below (hs6 ▸ B8.out)).cell NF6.out 1 (.slice A8 n c8))
            have J9 := Lib.hid (ints_cell (I6.out.below (hs6 ▸ B8.out)) NI6.out 1 (.slice A8 n c8))
            have I9 : Hid (Ints (w8.setCell ⟨b6, 1, none⟩ (.slice A8 n c8)) A8 n (F.xs.drop 1 ++ [(nt : Int)]) f8) := Lib.hid (ints_far I8.out (fun z hz => by have := (N8.out.lt z hz).1; omega) 1 _)
            have B9 := Lib.hid ((below_then B6.out (hs6 ▸ B8.out)).setCell (p := ⟨b6, 1, none⟩) hz6 (.slice A8 n c8))
            generalize w8.setCell ⟨b6, 1, none⟩ (.slice A8 n c8) = w9 at Z9 Y9 X9 F9 J9 I9 B9 ⊢
            go_wp2
            go_meet
            case rel => exact ⟨rfl, A8, c8, f8, Z9.out, Y9.out, X9.out, HT.out ▸ F9.out.2, J9.out, I9.out, B9.out⟩
        case rest =>
          obtain ⟨rfl, A8, c8, f8, hZ, hY, hX, hT, hJ, hI, hB⟩ := hcut
          have Z9 := Lib.hid hZ
          have Y9 := Lib.hid hY
          have X9 := Lib.hid hX
          have T9 := Lib.hid hT
          have J9 := Lib.hid hJ
          have I9 := Lib.hid hI
          have B9 := Lib.hid hB
          clear hZ hY hX hT hJ hI hB
          have hT := HT.out
          subst hT
          have c0 : wc.cell? ⟨bt, 0, none⟩ = some (.int .i64 F.w) := X9.out.cell 0
          have y0 : wc.cell? ⟨b5, 0, none⟩ = some (.int .i64 F.w) := Y9.out.cell 0
          have y1 : wc.cell? ⟨b5, 1, none⟩ = some (.slice (some ⟨p, o + 1, none⟩) (n - 1) (c - 1)) := Y9.out.cell 1
          have y2 : wc.cell? ⟨b5, 2, none⟩ = some (.slice T F.nt d) := Y9.out.cell 2
          have y3 : wc.cell? ⟨b5, 3, none⟩ = some (.int .i64 F.sx) := Y9.out.cell 3
          have y4 : wc.cell? ⟨b5, 4, none⟩ = some (.int .i64 F.sy) := Y9.out.cell 4
          have z0 : wc.cell? ⟨b6, 0, none⟩ = some (.int .i64 F.w) := Z9.out.cell 0
          have z1 : wc.cell? ⟨b6, 1, none⟩ = some (.slice A8 n c8) := Z9.out.cell 1
          have z2 : wc.cell? ⟨b6, 2, none⟩ = some (.slice T F.nt d) := Z9.out.cell 2
          have z3 : wc.cell? ⟨b6, 3, none⟩ = some (.int .i64 F.sx) := Z9.out.cell 3
          have z4 : wc.cell? ⟨b6, 4, none⟩ = some (.int .i64 F.sy) := Z9.out.cell 4
          by_cases hw1 : F.w = 1
          · go_wp2_with fail
            refine (im_valid_of _ A8 n c8 T F.nt d F.sx F.sy (F.xs.drop 1 ++ [(F.nt : Int)]) F.zs f8 ft _ I9.out T9.out (by omega) (by omega)).mono ?_; rintro e w10 ⟨rfl, bl⟩
            rw [unknown_no]
            have B10 := Lib.hid (below_then B9.out bl)
            clear bl c0 y0 y1 y2 y3 y4 z0 z1 z2 z3 z4
            go_wp2_with fail
            go_ret
            exact ⟨rfl, B10.out⟩
          · go_wp2_with fail
            refine (im_valid_of _ (some ⟨p, o + 1, none⟩) (n - 1) (c - 1) T F.nt d F.sx F.sy (F.xs.drop 1) F.zs fp' ft _ J9.out T9.out (by omega) (by omega)).mono ?_; rintro e w10 ⟨rfl, bl⟩
            rw [short_no HK.out hw1]
            have Z10 := Lib.hid (Z9.out.below bl)
            have I10 := Lib.hid (I9.out.below bl)
            have T10 := Lib.hid (T9.out.below bl)
            have B10 := Lib.hid (below_then B9.out bl)
            clear bl c0 y0 y1 y2 y3 y4 z0 z1 z2 z3 z4
            have z0 : w10.cell? ⟨b6, 0, none⟩ = some (.int .i64 F.w) := Z10.out.cell 0
            have z1 : w10.cell? ⟨b6, 1, none⟩ = some (.slice A8 n c8) := Z10.out.cell 1
            have z2 : w10.cell? ⟨b6, 2, none⟩ = some (.slice T F.nt d) := Z10.out.cell 2
            have z3 : w10.cell? ⟨b6, 3, none⟩ = some (.int .i64 F.sx) := Z10.out.cell 3
            have z4 : w10.cell? ⟨b6, 4, none⟩ = some (.int .i64 F.sy) := Z10.out.cell 4
            go_wp2_with fail
            refine (im_valid_of _ A8 n c8 T F.nt d F.sx F.sy (F.xs.drop 1 ++ [(F.nt : Int)]) F.zs f8 ft _ I10.out T10.out (by omega) (by omega)).mono ?_; rintro e w11 ⟨rfl, bl⟩
            rw [unknown_no]
            have B11 := Lib.hid (below_then B10.out bl)
            clear bl z0 z1 z2 z3 z4
            go_wp2_with fail
            go_ret
            exact ⟨rfl, B11.out⟩
  · have hs' : 1048576 < len0 := by omega
    go_enter Try.func3, Try.ntmps3
    go_wp2_with fail
    go_ret
    exact ⟨rfl, Below.refl _ _⟩
end Go.Proofs.Ytlppmcflgbeolaa
