/- The program's pixels: a run of them, a line, FieldPixel, FieldLine. -/
import Derived.Test.YtddllcgbdgpkbaaColI
import Derived.Test.YtddllcgbdgpkbaaFldB
import Derived.Test.YtddllcgbdgpkbaaGC
import Derived.Deep.RegionHeld3
import Derived.Deep.Cut
namespace Go.Proofs.Ytddllcgbdgpkbaa
open Go.ChangeShapes Go.WideShapes Go.ChangeAt Go.RowKit
set_option linter.unusedVariables false

/-- What a run leaves: a slice of a tile's own memory. -/
def RunGot (F : Fld) (x y : Int) (ft : List Nat) (w : World) (e : Ending) (w' : World) : Prop :=
  ∃ A c, e = .returned (.slice A (runN F x) c) ∧ runN F x ≤ c ∧ Ints w' A (runN F x) (runF F x y) ft ∧ Below w.heap.size w w'
theorem run_lies {F : Fld} (h : FOk F) {w : World} {b o : Nat} {ft : List Nat} (ht : Ints w (some ⟨b, o, none⟩) (64 * F.nt) F.zs ft) (x y : Int) (s : Nat) (hs : (64 * tileN F x y + partN F x y : Int) = s) : Ints w (some ⟨b, o + s, none⟩) (runN F x) (runF F x y) ft := by
  obtain ⟨a, c⟩ := tileN_b h x y
  obtain ⟨b', o', he, rfl, hb, hc⟩ := ht.at_ (by omega)
  injection he with he
  injection he with e1 e2 _
  subst e1 e2
  have hr := runN_b F x
  refine ⟨runF_len _ _ _, .inr ⟨by omega, b, o + s, rfl, rfl, hb, fun i hi => ?_⟩⟩
  have hi' : atX F x % 8 + i < 8 := by unfold runN at hi; omega
  obtain ⟨p0, p1⟩ := partN_b h x y
  have hp : partN F x y % 8 + i < 8 := by unfold partN; omega
  rw [Nat.add_assoc, hc (s + i) (by omega), runF_get _ _ _ _ hi, pix_right h x y i hi', hs]
  congr 4
set_option maxHeartbeats 4000000 in
theorem run_raw (W : Int) (p o n c q o2 m d : Nat) (sx sy x y i j : Int) (s t : Nat) (w : World) (h1 : 1 ≤ W) (h8 : W ≤ 8) (hn : n ≤ 64) (hi : (x + sx) % (8 * W) = i) (i0 : 0 ≤ i) (i1 : i < 64) (hj : (y + sy) % (8 * ((n : Int) / W)) = j) (j0 : 0 ≤ j) (j1 : j < 64)
    (x0 : 0 ≤ x + sx) (x1 : x + sx ≤ 300) (y0 : 0 ≤ y + sy) (y1 : y + sy ≤ 300) (r1 : 1 ≤ (n : Int) / W) (r8 : (n : Int) / W ≤ 8) (hs : j / 8 * W + i / 8 = s) (s1 : s < n) (hp : p < w.heap.size) (hc : w.cell? ⟨p, o + s, none⟩ = some (.int .i64 (t : Int))) (t1 : t < m) (m1 : m ≤ 16) :
    Calls Try.prog 67 #[fldV W (some ⟨p, o, none⟩) n c (some ⟨q, o2, none⟩) m d sx sy, .int .i64 x, .int .i64 y] w fun e w' => e = .returned (.slice (some ⟨q, o2 + t * 64 + (j % 8 * 8 + i % 8).toNat, none⟩) (8 - i % 8).toNat (64 - (j % 8 * 8 + i % 8)).toNat) ∧ Below w.heap.size w w' := by
  have B1 := Lib.hid (below1 w (.cells #[.int .i64 W, .slice (some ⟨p, o, none⟩) n c, .slice (some ⟨q, o2, none⟩) m d, .int .i64 sx, .int .i64 sy] 33))
  have X1 := Lib.hid (Box.new w #[.int .i64 W, .slice (some ⟨p, o, none⟩) n c, .slice (some ⟨q, o2, none⟩) m d, .int .i64 sx, .int .i64 sy] 33)
  have HC := Lib.hid ((B1.out.cell (p := ⟨p, o + s, none⟩) hp).trans hc)
  clear hc
  obtain ⟨R, hR⟩ : ∃ R, R = (n : Int) / W := ⟨_, rfl⟩
  have HR := Lib.hid hR
  rw [← hR] at hj r1 r8
  clear hR
  go_enter Try.func67, Try.ntmps67
  go_upto_region 1 with (fail)
  generalize w.alloc (.cells #[.int .i64 W, .slice (some ⟨p, o, none⟩) n c, .slice (some ⟨q, o2, none⟩) m d, .int .i64 sx, .int .i64 sy] 33) = w1 at X1 B1 HC ⊢
  generalize hbb : w.heap.size = bb at X1 B1 ⊢
  have c0 : ∀ u : Later w1, u.now.cell? ⟨bb, 0, none⟩ = some (.int .i64 W) := later_cell (X1.out.cell 0)
  have c1 : ∀ u : Later w1, u.now.cell? ⟨bb, 1, none⟩ = some (.slice (some ⟨p, o, none⟩) n c) := later_cell (X1.out.cell 1)
  have c2 : ∀ u : Later w1, u.now.cell? ⟨bb, 2, none⟩ = some (.slice (some ⟨q, o2, none⟩) m d) := later_cell (X1.out.cell 2)
  have c3 : ∀ u : Later w1, u.now.cell? ⟨bb, 3, none⟩ = some (.int .i64 sx) := later_cell (X1.out.cell 3)
  have c4 : ∀ u : Later w1, u.now.cell? ⟨bb, 4, none⟩ = some (.int .i64 sy) := later_cell (X1.out.cell 4)
  have V1 : Hid (∀ u : Later w1, Calls Try.prog 72 #[fldV W (some ⟨p, o, none⟩) n c (some ⟨q, o2, none⟩) m d sx sy] u.now fun e w' => e = .returned (.int .i64 (8 * W)) ∧ Below u.now.heap.size u.now w') := Lib.hid fun u => im_width W _ n c _ m d sx sy _ h1 h8
  have V2 : Hid (∀ u : Later w1, Calls Try.prog 73 #[fldV W (some ⟨p, o, none⟩) n c (some ⟨q, o2, none⟩) m d sx sy] u.now fun e w' => e = .returned (.int .i64 (8 * R)) ∧ Below u.now.heap.size u.now w') := Lib.hid fun u => by rw [HR.out]; exact im_height W _ n c _ m d sx sy _ h1 h8 (by omega)
  have hw0 : 8 * W ≠ 0 := by omega
  have hr0 : 8 * R ≠ 0 := by omega
  refine wp_region_later (by kernel_rfl) (by kernel_rfl) ?_
  repeat (go_big_quiet_step ((first
    | (go_at_call 72; exact Calls.later (V1.out _))
    | (go_at_call 73; exact Calls.later (V2.out _)))))
  refine wpQuiet_nil ?_
  rintro _ ⟨u, rfl⟩
  have d0 := c0 u
  have d1 := c1 u
  have d2 := c2 u
  have d3 := c3 u
  have d4 := c4 u
  have e1 := later_cell HC.out u
  have BU : Hid (Below bb w u.now) := Lib.hid (B1.out.trans (u.below.mono (by have := B1.out.size; have := X1.out.lt; omega)))
  clear c0 c1 c2 c3 c4 V1 V2 HC X1 B1
  generalize u.now = w2 at d0 d1 d2 d3 d4 e1 BU ⊢
  clear u
  rw [hi, hj]
  have p0 : 0 ≤ j / 8 * W := Int.mul_nonneg (by omega) (by omega)
  have p1 : j / 8 * W ≤ 64 := by omega
  obtain ⟨jq, hjq⟩ : ∃ jq, j / 8 = jq := ⟨_, rfl⟩
  rw [hjq] at p0 p1 hs
  obtain ⟨pw, hpw⟩ : ∃ pw, jq * W = pw := ⟨_, rfl⟩
  rw [hpw] at p0 p1 hs
  obtain ⟨iq, hiq⟩ : ∃ iq, i / 8 = iq := ⟨_, rfl⟩
  rw [hiq] at hs
  obtain ⟨f, hf⟩ : ∃ f : Nat, j % 8 * 8 = f := ⟨(j % 8 * 8).toNat, by omega⟩
  obtain ⟨jr, hjr⟩ : ∃ jr, j % 8 = jr := ⟨_, rfl⟩
  rw [hjr] at hf
  have f1 : f ≤ 56 := by omega
  obtain ⟨g, hg⟩ : ∃ g : Nat, f + i % 8 = g := ⟨(f + i % 8).toNat, by omega⟩
  obtain ⟨ir, hir⟩ : ∃ ir, i % 8 = ir := ⟨_, rfl⟩
  have ir1 : 0 ≤ ir ∧ ir < 8 := by omega
  rw [hir] at hg
  have g1 : g ≤ 63 ∧ f ≤ g := by omega
  have HE : Hid (j % 8 * 8 + i % 8 = g ∧ i % 8 = g - f) := Lib.hid ⟨by omega, by omega⟩
  clear HR hi hj
  obtain ⟨g1, g2⟩ := g1
  have hsl : ∀ wq, (Instr.sliceAt 72 (.pointer (some ⟨q, o2 + t * 64, none⟩)) (some (.int .i64 (g : Int))) (some (.int .i64 ((f : Int) + 8))) none).run Try.prog wq = .ok (.slice (some ⟨q, o2 + t * 64 + g, none⟩) (f + 8 - g) (64 - g)) wq := fun wq => run_slice_pixels wq q (o2 + t * 64) g (f + 8) (by omega) (by omega) (by omega)
  go_wp2_with fail
  go_ret
  refine ⟨?_, by first | exact BU.out | (rw [hbb]; exact BU.out)⟩
  rw [HE.out.1, HE.out.2, Int.toNat_natCast, show (8 - ((g : Int) - f)).toNat = f + 8 - g by omega, show (64 - (g : Int)).toNat = 64 - g by omega]
  rfl
theorem im_run (F : Fld) (A : Option Addr) (c : Nat) (T : Option Addr) (d : Nat) (fa ft : List Nat) (x y : Int) (w : World) (hF : FHas w A T F fa ft) (h : FOk F) (x0 : 0 ≤ x) (x1 : x ≤ 31) (y0 : 0 ≤ y) (y1 : y ≤ 15) :
    Calls Try.prog 67 #[fv F A c T d, .int .i64 x, .int .i64 y] w (RunGot F x y ft w) := by
  obtain ⟨a0, a1⟩ := atX_b h x
  obtain ⟨b0, b1⟩ := atY_b h y
  obtain ⟨k0, k1⟩ := cellN_b h x y
  obtain ⟨t0, t1⟩ := tileN_b h x y
  obtain ⟨p0, p1⟩ := partN_b h x y
  obtain ⟨hrw, r1, r8⟩ := h.rows
  have w1 := h.w1
  have w8 := h.w8
  have n16 := h.n16
  have sx0 := h.x0
  have sx1 := h.x1
  have sy0 := h.y0
  have sy1 := h.y1
  have hn : F.xs.length ≤ 64 := by
    have := mul8 (F.rw_ - 1) F.w (by omega) 8 (by omega) (by omega)
    have e : F.rw_ * F.w = (F.rw_ - 1) * F.w + F.w := by rw [Int.sub_mul]; omega
    omega
  obtain ⟨p, o, hA, rfl, hp, hc⟩ := hF.1.at_ (by omega)
  obtain ⟨q, o2, hT, rfl, hq, _⟩ := hF.2.at_ (by omega)
  have HT := hF.2
  rw [hT] at HT
  obtain ⟨s, hs⟩ := Int.eq_ofNat_of_zero_le k0
  obtain ⟨t, ht⟩ := Int.eq_ofNat_of_zero_le t0
  have c1 := hc s (by omega)
  have ex : F.xs.getD s 0 = (t : Int) := by
    rw [← ht]; unfold tileN; rw [hs]; rfl
  rw [ex] at c1
  subst hA hT
  refine (run_raw F.w p o F.xs.length c q o2 F.nt d F.sx F.sy x y (atX F x) (atY F y) s t w w1 w8 hn rfl a0 (by omega) rfl b0 (by omega) (by omega) (by omega) (by omega) (by omega) r1 r8 hs (by omega) hp c1 (by omega) n16).mono ?_
  rintro e w' ⟨rfl, b⟩
  have he : (8 - atX F x % 8).toNat = runN F x := rfl
  have hpt : atY F y % 8 * 8 + atX F x % 8 = partN F x y := rfl
  rw [he, hpt]
  refine ⟨_, _, rfl, ?_, ?_, b⟩
  · unfold runN; omega
  · have := run_lies h HT x y (64 * t + (partN F x y).toNat) (by rw [ht]; omega)
    rw [show o2 + t * 64 + (partN F x y).toNat = o2 + (64 * t + (partN F x y).toNat) by omega]
    exact this.below b
/-- A row in which the pixels from a up to k stand, the rest as it was. -/
def fillK (F : Fld) (y : Int) (cur : List Int) (a k : Nat) : List Int := (List.range 32).map fun j : Nat => if a ≤ j ∧ j < k then pixF F j y else cur.getD j 0
theorem fillK_len (F : Fld) (y : Int) (cur : List Int) (a k : Nat) : (fillK F y cur a k).length = 32 := by simp [fillK]
theorem fillK_get (F : Fld) (y : Int) (cur : List Int) (a k i : Nat) (h : i < 32) : (fillK F y cur a k)[i]? = some (if a ≤ i ∧ i < k then pixF F i y else cur.getD i 0) := by
  unfold fillK
  rw [List.getElem?_map, List.getElem?_range h]
  rfl
theorem fillK_zero (F : Fld) (y : Int) (cur : List Int) (a : Nat) (hl : cur.length = 32) : fillK F y cur a a = cur := by
  apply List.ext_getElem?
  intro i
  by_cases h : i < 32
  · rw [fillK_get _ _ _ _ _ _ h, if_neg (by omega), List.getD_eq_getElem?_getD, List.getElem?_eq_getElem (by omega)]; rfl
  · rw [List.getElem?_eq_none (by rw [fillK_len]; omega), List.getElem?_eq_none (by omega)]
theorem fillK_all (F : Fld) (y : Int) (cur : List Int) : fillK F y cur 0 32 = lineF F y := by
  unfold fillK lineF
  apply List.map_congr_left
  intro j hj
  rw [if_pos ⟨by omega, List.mem_range.1 hj⟩]
theorem fillK_step (F : Fld) (y : Int) (cur : List Int) (a k c : Nat) (ha : a ≤ k) (hc : c ≤ runN F k) (hk : k + c ≤ 32) : (fillK F y cur a k).take k ++ (runF F k y).take c ++ (fillK F y cur a k).drop (k + c) = fillK F y cur a (k + c) := by
  have l1 : ((fillK F y cur a k).take k).length = k := by rw [List.length_take, fillK_len]; omega
  have l2 : ((runF F k y).take c).length = c := by rw [List.length_take, runF_len]; omega
  apply List.ext_getElem?
  intro i
  by_cases h : i < 32
  · rw [fillK_get _ _ _ _ _ _ h]
    by_cases h1 : i < k
    · rw [List.getElem?_append_left (by rw [List.length_append]; omega), List.getElem?_append_left (by omega), List.getElem?_take, if_pos h1, fillK_get _ _ _ _ _ _ h]
      by_cases h3 : a ≤ i
      · rw [if_pos ⟨h3, h1⟩, if_pos ⟨h3, by omega⟩]
      · rw [if_neg (by omega), if_neg (by omega)]
    · by_cases h2 : i < k + c
      · rw [List.getElem?_append_left (by rw [List.length_append]; omega), List.getElem?_append_right (by omega), l1, List.getElem?_take, if_pos (by omega), if_pos ⟨by omega, h2⟩]
        have := runF_get F k y (i - k) (by omega)
        rw [List.getD_eq_getElem?_getD, List.getElem?_eq_getElem (by rw [runF_len]; omega)] at this
        rw [List.getElem?_eq_getElem (by rw [runF_len]; omega)]
        simp only [Option.getD_some] at this
        rw [this, show (k : Int) + ((i - k : Nat) : Int) = (i : Int) by omega]
      · rw [List.getElem?_append_right (by rw [List.length_append]; omega), List.getElem?_drop, List.length_append, l1, l2, show k + c + (i - (k + c)) = i by omega, fillK_get _ _ _ _ _ _ h, if_neg (by omega), if_neg (by omega)]
  · rw [List.getElem?_eq_none (by simp only [List.length_append, l1, l2, List.length_drop, fillK_len]; omega), List.getElem?_eq_none (by rw [fillK_len]; omega)]
theorem ints_aside {w w' : World} {A : Option Addr} {n g : Nat} {xs : List Int} {fp : List Nat} (h : Ints w A n xs fp) (k : Only [g] w w') (hb : ∀ b ∈ fp, b ≠ g) : Ints w' A n xs fp :=
  h.keep (.of_only k fun b hb' he => hb b hb' (by simpa using he))
def z32 : List Int := List.replicate 32 0
/-- copy into a row of the call's own, as one step of a region. -/
theorem step_copy {ops : Array Oper} {o : Oper} {a : Act} {w : World} {K : Act → World → Prop} {Q : Exit → Act → World → Prop} {E : Prop} (hg : o.guard = none) (d s : Operand)
    (ho : o.op = .call { callee := .builtin .copy, args := #[d, s], argTypes := #[30, 30] }) (g off dLen dCap : Nat) (ad : Addr) (sLen sCap : Nat) (hd : a.eval d = .slice (some ⟨g, off, none⟩) dLen dCap) (hs : a.eval s = .slice (some ad) sLen sCap)
    (cur : List Int) (t : TypeId) (hb : Box w g t (iv cur)) (cs : List Int) (m : Nat) (hm : cs.length = m) (hn : m = Nat.min sLen dLen) (hsrc : ∀ j v, (iv cs)[j]? = some v → w.cell? (ad.add j) = some v) (hfit : off + m ≤ cur.length) (res : List Int) (hres : cur.take off ++ cs ++ cur.drop (off + m) = res)
    (h : K (a.put o.dst (.int .i64 (m : Int))) (w.setRow g (iv res).toArray)) :
    if Region.wanted o (yielded ops a.tmps) = true then Oper.wp Try.prog o a w K Q else E := by
  subst hm hres
  have hw : Region.wanted o (yielded ops a.tmps) = true := by simp [Region.wanted, hg]
  rw [if_pos hw]
  have hrun := Go.run_copy_row (P := Try.prog) w 30 30 o.type 3 g off dLen dCap ad sLen sCap (iv cur).toArray t (iv cs) Try.underlying30 int_size hb (by simpa using hn) hsrc (by simpa using hfit) (iv_one cs)
  have e : ((iv cur).toArray.toList.take off ++ iv cs ++ (iv cur).toArray.toList.drop (off + (iv cs).length)).toArray = (iv (cur.take off ++ cs ++ cur.drop (off + cs.length))).toArray := by
    simp [List.map_append, List.map_take, List.map_drop]
  have el : (iv cs).length = cs.length := by simp
  rw [e, el] at hrun
  unfold Oper.wp execOp
  simp only [ho, resolve, invoke, builtin, Sem.run_bind, Sem.run_pure, Result.andThen_ok, List.map_toArray, List.map_cons, List.map_nil, hs, hd, hrun]
  exact h
theorem ints_head {w : World} {ad : Addr} {n m : Nat} {ys : List Int} {fp : List Nat} (h : Ints w (some ad) n ys fp) (hm : m ≤ n) : ∀ j u, (iv (ys.take m))[j]? = some u → w.cell? (ad.add j) = some u := by
  intro j u hu
  refine ints_news h j u ?_
  rw [← hu]
  have hj : j < m := by have := (List.getElem?_eq_some_iff.1 hu).1; simp at this; omega
  rw [List.getElem?_map, List.getElem?_map, List.getElem?_take, if_pos hj]
theorem fitN (r k m : Nat) (hr : 1 ≤ r) (hk : k < m) : ∃ cc, cc ≤ r ∧ k + cc ≤ m ∧ 1 ≤ cc ∧ cc = Nat.min r (m - k) :=
  ⟨min r (m - k), by omega, by omega, by omega, rfl⟩
theorem made32 : madeCells #[.int .i64 0] 32 = (iv (z32)).toArray := by kernel_rfl
theorem run_make32 (w : World) : (Instr.makeSlice 30 (.int .i64 32) (.int .i64 32)).run Try.prog w = .ok (.slice (some ⟨w.heap.size, 0, none⟩) 32 32) (w.alloc (.cells (iv (z32)).toArray 3)) := by
  have h := Go.run_make_row' (P := Try.prog) 30 3 (.int .i64 0) 8 Try.underlying30 infoInt rfl .i64 .i64 32 (by omega) (by omega) w
  rw [made32] at h
  exact h
theorem copied_box {w w' : World} {n g : Nat} {t : TypeId} {xs : List Int} (h : Box w' g t (iv xs)) (hl : xs.length = n) (hg : w.heap.size ≤ g) (hb : Below w.heap.size w w') : Copied xs n w (.returned (.slice (some ⟨g, 0, none⟩) n n)) w' := by
  by_cases h0 : n = 0
  · subst h0
    have : xs = [] := List.eq_nil_of_length_eq_zero hl
    subst this
    exact ⟨_, _, [], rfl, Nat.le_refl _, .nil _ _, .nil _ _, hb⟩
  · refine ⟨_, _, [g], rfl, Nat.le_refl _, ⟨hl, .inr ⟨by omega, g, 0, rfl, rfl, h.lt, fun i hi => ?_⟩⟩, .one hg h.lt h.frozen, hb⟩
    rw [Nat.zero_add, h.cell i]
    exact iv_at xs i (by omega)
set_option maxHeartbeats 4000000 in
theorem im_fill (F : Fld) (A : Option Addr) (c : Nat) (T : Option Addr) (d : Nat) (fa ft : List Nat) (g a m : Nat) (cur : List Int) (y : Int) (w : World) (hF : FHas w A T F fa ft) (h : FOk F) (y0 : 0 ≤ y) (y1 : y ≤ 15) (hg : Box w g 3 (iv cur)) (hl : cur.length = 32) (ham : a ≤ m) (hm : m ≤ 32) (hfa : ∀ b ∈ fa, b ≠ g) (hft : ∀ b ∈ ft, b ≠ g) :
    Calls Try.prog 44 #[fv F A c T d, .slice (some ⟨g, 0, none⟩) m 32, .int .i64 a, .int .i64 y] w fun e w' => (∃ v, e = .returned v) ∧ Box w' g 3 (iv (fillK F y cur a m)) ∧ Only [g] w w' := by
  have HO := Lib.hid h
  have HF := Lib.hid hF
  have HFA := Lib.hid hfa
  have HFT := Lib.hid hft
  have HGL := Lib.hid hg.lt
  have X1 : Hid (Box (w.alloc (.cells #[.int .i64 F.w, .slice A F.xs.length c, .slice T F.nt d, .int .i64 F.sx, .int .i64 F.sy] 33)) w.heap.size 33 [.int .i64 F.w, .slice A F.xs.length c, .slice T F.nt d, .int .i64 F.sx, .int .i64 F.sy]) := Lib.hid (Box.new w _ _)
  have Y1 : Hid (Box (w.alloc (.cells #[.int .i64 F.w, .slice A F.xs.length c, .slice T F.nt d, .int .i64 F.sx, .int .i64 F.sy] 33)) g 3 (iv (fillK F y cur a a))) := Lib.hid (by rw [fillK_zero _ _ _ _ hl]; exact hg.alloc _)
  have B1 : Hid (Only [g] w (w.alloc (.cells #[.int .i64 F.w, .slice A F.xs.length c, .slice T F.nt d, .int .i64 F.sx, .int .i64 F.sy] 33))) := Lib.hid (.of_below (below1 w _))
  clear hF h hfa hft hg hl
  obtain ⟨bb, hbb⟩ : ∃ bb, w.heap.size = bb := ⟨_, rfl⟩
  have HBB := Lib.hid hbb
  go_enter Try.func44, Try.ntmps44
  go_wp2_with fail
  rw [hbb] at X1 HGL
  try rw [hbb]
  generalize w.alloc (.cells #[.int .i64 F.w, .slice A F.xs.length c, .slice T F.nt d, .int .i64 F.sx, .int .i64 F.sy] 33) = w1 at X1 Y1 B1 ⊢
  clear hbb
  have HGB := Lib.hid HGL.out
  go_loopw [8] (fun i wr => ∃ k : Nat, a ≤ k ∧ k ≤ m ∧ i = .int .i64 k ∧ Box wr bb 33 [.int .i64 F.w, .slice A F.xs.length c, .slice T F.nt d, .int .i64 F.sx, .int .i64 F.sy] ∧ Box wr g 3 (iv (fillK F y cur a k)) ∧ Only [g] w wr) (fun i _ => m - (intOf i).toNat)
  case atStart => exact ⟨a, Nat.le_refl _, ham, rfl, X1.out, Y1.out, B1.out⟩
  case round =>
    obtain ⟨k, hak, hk, rfl, hx, hy, hb⟩ := hrel
    have XR := Lib.hid hx
    have YR := Lib.hid hy
    have BR := Lib.hid hb
    have XD : Hid (Box wr.drew bb 33 [.int .i64 F.w, .slice A F.xs.length c, .slice T F.nt d, .int .i64 F.sx, .int .i64 F.sy]) := Lib.hid hx
    have YD : Hid (Box wr.drew g 3 (iv (fillK F y cur a k))) := Lib.hid hy
    have BD : Hid (Only [g] w wr.drew) := Lib.hid ⟨hb.os, hb.tape, hb.output, hb.size, hb.block⟩
    clear hx hy hb X1 Y1 B1
    by_cases h32 : k < m
    · have i32 : (k : Int) < m := by omega
      have c0 := XR.out.cell 0
      have c1 := XR.out.cell 1
      have c2 := XR.out.cell 2
      have c3 := XR.out.cell 3
      have c4 := XR.out.cell 4
      go_wp2_with fail
      have HN := Lib.hid (runN_b F k)
      obtain ⟨cc, hcc⟩ := fitN (runN F k) k m HN.out.1 h32
      have HC := Lib.hid hcc
      have c32 : cc ≤ 32 := by have := HC.out.2.1; omega
      have i33 : (k : Int) ≤ 32 := by omega
      have im : (k : Int) ≤ m := by omega
      have m32 : (m : Int) ≤ 32 := by omega
      have k32 : (k : Int) + cc ≤ 32 := by have := HC.out.2.1; omega
      have hne : ¬ 32 = k := by omega
      have HS := Lib.hid (fillK_step F y cur a k cc hak HC.out.1 (by have := HC.out.2.1; omega))
      clear hcc
      go_region_law (first
        | (go_simp; go_at_call 67; refine (im_run F A c T d fa ft (k : Int) y _ ⟨ints_aside HF.out.1 BD.out HFA.out, ints_aside HF.out.2 BD.out HFT.out⟩ HO.out (by omega) (by omega) y0 y1).mono ?_; rintro e w2 ⟨Ar, cr, rfl, hcr, hi, b2⟩; obtain ⟨p, o, rfl, _, hp, hc⟩ := hi.at_ (by have := HN.out.1; omega); have HI := Lib.hid hi; have X2 := Lib.hid (XD.out.below b2); have Y2 := Lib.hid (YD.out.below b2); have B2 := Lib.hid (BD.out.trans (.of_below b2)); clear hc hi b2)
        | (refine step_copy rfl _ _ rfl g k (m - k) (32 - k) ⟨p, o, none⟩ (runN F k) cr rfl rfl (fillK F y cur a k) _ Y2.out ((runF F k y).take cc) cc (by rw [List.length_take, runF_len]; exact Nat.min_eq_left HC.out.1) HC.out.2.2.2 (ints_head HI.out HC.out.1) (by rw [fillK_len]; have := HC.out.2.1; omega) (fillK F y cur a (k + cc)) HS.out ?_))
      have cc1 : 1 ≤ cc := HC.out.2.2.1
      have hkw : IntKind.i64.wrap ((k : Int) + cc) = (k + cc : Nat) := by
        rw [← Int.natCast_add]
        have k33 : ((k + cc : Nat) : Int) ≤ 32 := by omega
        generalize k + cc = kc at k33
        simp [IntKind.wrap, IntKind.bits, IntKind.signed]
        omega
      simp only [List.getElem_toArray, List.getElem_cons_succ, List.getElem_cons_zero, Act.put, List.setIfInBounds_toArray, List.set_cons_succ, List.set_cons_zero, hkw]
      go_roundw
      case rel => first | exact ⟨_, _, _, _, _, _, _, _, _, _, _, _, _, ⟨k + cc, by omega, HC.out.2.1, rfl, X2.out.rowFar (by have := HGB.out; omega), Box.row Y2.out, Only.row B2.out (.inl (by simp)) _⟩, rfl⟩ | exact ⟨_, _, _, _, _, _, _, _, _, _, _, _, _, _, ⟨k + cc, by omega, HC.out.2.1, rfl, X2.out.rowFar (by have := HGB.out; omega), Box.row Y2.out, Only.row B2.out (.inl (by simp)) _⟩, rfl⟩ | exact ⟨_, _, _, _, _, _, _, _, _, _, _, _, _, _, _, ⟨k + cc, by omega, HC.out.2.1, rfl, X2.out.rowFar (by have := HGB.out; omega), Box.row Y2.out, Only.row B2.out (.inl (by simp)) _⟩, rfl⟩ | exact ⟨_, _, _, _, _, _, _, _, _, _, _, _, _, _, _, _, ⟨k + cc, by omega, HC.out.2.1, rfl, X2.out.rowFar (by have := HGB.out; omega), Box.row Y2.out, Only.row B2.out (.inl (by simp)) _⟩, rfl⟩ | exact ⟨_, _, _, _, _, _, _, _, _, _, _, _, _, _, _, _, _, ⟨k + cc, by omega, HC.out.2.1, rfl, X2.out.rowFar (by have := HGB.out; omega), Box.row Y2.out, Only.row B2.out (.inl (by simp)) _⟩, rfl⟩
      case measure => have := HC.out.2.1; simp [intOf]; omega
    · have i32 : ¬ (k : Int) < m := by omega
      have HK : Hid (k = m) := Lib.hid (by omega)
      have HY : Hid (Box wr g 3 (iv (fillK F y cur a m))) := Lib.hid (by rw [← HK.out]; exact YR.out)
      go_wp2_with fail
      go_end0
      exact ⟨⟨_, rfl⟩, HY.out, BR.out⟩
set_option maxHeartbeats 4000000 in
theorem im_lineB (F : Fld) (A : Option Addr) (c : Nat) (T : Option Addr) (d : Nat) (fa ft : List Nat) (y : Int) (w : World) (hF : FHas w A T F fa ft) (h : FOk F) (y0 : 0 ≤ y) (y1 : y ≤ 15) :
    Calls Try.prog 48 #[fv F A c T d, .int .i64 y] w fun e w' => ∃ g, e = .returned (.slice (some ⟨g, 0, none⟩) 32 32) ∧ w.heap.size ≤ g ∧ Box w' g 3 (iv (lineF F y)) ∧ Below w.heap.size w w' := by
  have hmk := run_make32
  have HO := Lib.hid h
  have HF := Lib.hid hF
  have HZ := Lib.hid (fillK_all F y z32)
  clear hF h
  go_enter Try.func48, Try.ntmps48
  go_wp2_with fail
  obtain ⟨w1, hw1⟩ : ∃ w1, w1 = (w.alloc (.cells #[.int .i64 F.w, .slice A F.xs.length c, .slice T F.nt d, .int .i64 F.sx, .int .i64 F.sy] 33)).alloc (.cells (iv (z32)).toArray 3) := ⟨_, rfl⟩
  have X1 : Hid (Box w1 w.heap.size 33 [.int .i64 F.w, .slice A F.xs.length c, .slice T F.nt d, .int .i64 F.sx, .int .i64 F.sy]) := by rw [hw1]; exact (Box.new w _ _).alloc _
  have Y1 : Hid (Box w1 (w.heap.size + 1) 3 (iv z32)) := by rw [hw1]; exact Box.new_at _ _ _ _ (by simp)
  have B1 : Hid (Below w.heap.size w w1) := by rw [hw1]; exact below2 w _ _
  rw [← hw1]
  clear hw1 hmk
  have c0 := X1.out.cell 0
  have c1 := X1.out.cell 1
  have c2 := X1.out.cell 2
  have c3 := X1.out.cell 3
  have c4 := X1.out.cell 4
  go_wp2_with fail
  refine (im_fill F A c T d fa ft (w.heap.size + 1) 0 32 z32 y _ ⟨HF.out.1.below B1.out, HF.out.2.below B1.out⟩ HO.out y0 y1 Y1.out (by simp [z32]) (by omega) (by omega) (fun b hb => by have := HF.out.1.lt b hb; omega) (fun b hb => by have := HF.out.2.lt b hb; omega)).mono ?_
  rintro e w2 ⟨⟨v, rfl⟩, hy, b2⟩
  have Y2 := Lib.hid hy
  have B2 : Hid (Below w.heap.size w w2) := Lib.hid (B1.out.trans (b2.below (by simp) B1.out.size))
  clear hy b2
  go_wp2_with fail
  go_ret
  exact ⟨_, rfl, by omega, by rw [← HZ.out]; exact Y2.out, B2.out⟩
theorem im_line (F : Fld) (A : Option Addr) (c : Nat) (T : Option Addr) (d : Nat) (fa ft : List Nat) (y : Int) (w : World) (hF : FHas w A T F fa ft) (h : FOk F) (y0 : 0 ≤ y) (y1 : y ≤ 15) :
    Calls Try.prog 48 #[fv F A c T d, .int .i64 y] w (Copied (lineF F y) 32 w) :=
  (im_lineB F A c T d fa ft y w hF h y0 y1).mono fun _ _ ⟨_, he, hg, hb, bl⟩ => he ▸ copied_box hb (lineF_len F y) hg bl
theorem and_last {a b c : Bool} (h : b = c) : (a && b) = (a && c) := by rw [h]
set_option maxHeartbeats 1000000 in
theorem im_fieldLine (F : Fld) (A : Option Addr) (c : Nat) (T : Option Addr) (d : Nat) (fa ft : List Nat) (y : Int) (w : World) (hF : FHas w A T F fa ft) (hs : FSmall F) :
    Calls Try.prog 19 #[fv F A c T d, .int .i64 y] w (Copied (lineT F y) (lineT F y).length w) := by
  have BB := Lib.hid (below1 w (.cells #[.int .i64 F.w, .slice A F.xs.length c, .slice T F.nt d, .int .i64 F.sx, .int .i64 F.sy] 33))
  have X1 := Lib.hid (Box.new w #[.int .i64 F.w, .slice A F.xs.length c, .slice T F.nt d, .int .i64 F.sx, .int .i64 F.sy] 33)
  have HF := Lib.hid (FHas.below hF BB.out)
  have HS := Lib.hid hs
  clear hF hs
  go_enter Try.func19, Try.ntmps19
  go_wp2_with fail
  generalize w.alloc (.cells #[.int .i64 F.w, .slice A F.xs.length c, .slice T F.nt d, .int .i64 F.sx, .int .i64 F.sy] 33) = w1 at X1 BB HF ⊢
  generalize hbb : w.heap.size = bb at X1 ⊢
  have HBB := Lib.hid hbb
  clear hbb
  refine (im_isLine y _).mono ?_; rintro e w2 ⟨rfl, rfl⟩
  cases hy : betB y 0 15
  · have HT : Hid (lineT F y = []) := Lib.hid (by unfold lineT; rw [hy]; simp)
    clear hy
    go_wp2_with fail
    go_ret
    rw [HT.out]
    exact ⟨none, 0, [], rfl, Nat.le_refl _, .nil _ _, .nil _ _, BB.out⟩
  · have HY := Lib.hid hy
    clear hy
    have k0 := X1.out.cell 0
    have k1 := X1.out.cell 1
    have k2 := X1.out.cell 2
    have k3 := X1.out.cell 3
    have k4 := X1.out.cell 4
    go_wp2_with fail
    clear k0 k1 k2 k3 k4
    refine (im_fieldValid F A c T d fa ft _ HF.out HS.out).mono ?_; rintro e w2 ⟨rfl, b2⟩
    have X2 := Lib.hid (X1.out.below b2)
    have B2 := Lib.hid (below_then BB.out b2)
    have HF2 := Lib.hid (HF.out.below b2)
    clear b2
    cases hv : fldB F
    · have HT : Hid (lineT F y = []) := Lib.hid (by unfold lineT; rw [hv]; simp)
      clear hv
      go_wp2_with fail
      go_ret
      rw [HT.out]
      exact ⟨none, 0, [], rfl, Nat.le_refl _, .nil _ _, .nil _ _, B2.out⟩
    · have HV := Lib.hid (fldB_iff.1 hv)
      have HT := Lib.hid (lineT_yes hv HY.out)
      clear hv
      have k0 := X2.out.cell 0
      have k1 := X2.out.cell 1
      have k2 := X2.out.cell 2
      have k3 := X2.out.cell 3
      have k4 := X2.out.cell 4
      go_wp2_with fail
      clear k0 k1 k2 k3 k4
      have hy := betB_iff.1 HY.out
      refine (im_line F A c T d fa ft y _ HF2.out HV.out hy.1 hy.2).mono ?_; rintro e w3 ⟨R, cc, fr, rfl, hcc, hi, hn, b3⟩
      have B3 := Lib.hid (below_then B2.out b3)
      have HI := Lib.hid hi
      have HN := Lib.hid (hn.mono B2.out.size)
      clear hi hn b3 hy
      go_wp2_with fail
      go_ret
      rw [HT.out, lineF_len]
      exact ⟨R, cc, fr, rfl, hcc, HI.out, HN.out, B3.out⟩
end Go.Proofs.Ytddllcgbdgpkbaa
