/- The program's pixels: a run of them, a line, FieldPixel, FieldLine. -/
import Derived.Test.YtlppmcflgbeolaaFldB
import Derived.Test.YtlppmcflgbeolaaLater
import Derived.Deep.RegionHeld3
import Derived.Deep.Cut
namespace Go.Proofs.Ytlppmcflgbeolaa
open Go.ChangeShapes Go.WideShapes Go.ChangeAt Go.RowKit
set_option linter.unusedVariables false

/-- What a run leaves: a slice of a tile's own memory. -/
def RunGot (F : Fld) (x y : Int) (ft : List Nat) (w : World) (e : Ending) (w' : World) : Prop :=
  ∃ A c, e = .returned (.slice A (runN F x) c) ∧ runN F x ≤ c ∧ Ints w' A (runN F x) (runF F x y) ft ∧ Below w.heap.size w w'
theorem run_lies {F : Fld} (h : FOk F) {w : World} {b o : Nat} {ft : List Nat} (ht : Ints w (some ⟨b, o, none⟩) (64 * F.nt) F.zs ft) (x y : Int) (s : Nat) (hs : (64 * tileN F x y + partN F x y : Int) = s) : Ints w (some ⟨b, o + s, none⟩) (runN F x) (runF F x y) ft := by
  obtain ⟨a, c⟩ := tileN_b h x y
  obtain ⟨b', o', he, rfl, hb, hc⟩ := ht.at_ (by omega)
  injection he with he
  injection he with e1 e2 _
  subst e1 e2
  have hr := runN_b F x
  refine ⟨runF_len _ _ _, .inr ⟨by omega, b, o + s, rfl, rfl, hb, fun i hi => ?_⟩⟩
  have hi' : atX F x % 8 + i < 8 := by unfold runN at hi; omega
  obtain ⟨p0, p1⟩ := partN_b h x y
  have hp : partN F x y % 8 + i < 8 := by unfold partN; omega
  rw [Nat.add_assoc, hc (s + i) (by omega), runF_get _ _ _ _ hi, pix_right h x y i hi', hs]
  congr 4
/-- A part of a tile's own pixels. -/
theorem run_slice_pixels (w : World) (q k g h : Nat) (hg : g ≤ h) (h64 : h ≤ 64) (g64 : g < 64) :
    (Instr.sliceAt 40 (.pointer (some ⟨q, k, none⟩)) (some (.int .i64 (g : Int))) (some (.int .i64 (h : Int))) none).run Try.prog w = .ok (.slice (some ⟨q, k + g, none⟩) (h - g) (64 - g)) w := by
  have ha : Try.prog.arrayLen 40 = 64 := by kernel_rfl
  have he : Try.prog.elem 40 = 3 := by kernel_rfl
  have ht : Try.prog.underlying 40 = some (.array (Try.prog.arrayLen 40) (Try.prog.elem 40)) := by rw [ha, he]; exact Try.underlying40
  have hso : (sizeOf 3).run Try.prog w = .ok 1 w := by
    have hz := int_size
    cases hq : Try.prog.info? 3 with
    | none => simp [hq] at hz
    | some q => simp [hq] at hz; simp [sizeOf, typeInfo, hq, hz]
  rw [run_sliceAt_array_lh w _ _ ht .i64 .i64 (g : Int) (h : Int) (by omega) (by omega) (by rw [ha]; omega), ha, he, hso]
  have hne : ¬ 64 = g := by omega
  simp only [Result.andThen_ok, slicedAt, Int.toNat_natCast, if_neg hne, Nat.mul_one, add_none]
set_option maxHeartbeats 4000000 in
theorem run_raw (W : Int) (p o n c q o2 m d : Nat) (sx sy x y i j : Int) (s t : Nat) (w : World) (h1 : 1 ≤ W) (h8 : W ≤ 8) (hn : n ≤ 64) (hi : (x + sx) % (8 * W) = i) (i0 : 0 ≤ i) (i1 : i < 64) (hj : (y + sy) % (8 * ((n : Int) / W)) = j) (j0 : 0 ≤ j) (j1 : j < 64)
    (x0 : 0 ≤ x + sx) (x1 : x + sx ≤ 300) (y0 : 0 ≤ y + sy) (y1 : y + sy ≤ 300) (r1 : 1 ≤ (n : Int) / W) (r8 : (n : Int) / W ≤ 8) (hs : j / 8 * W + i / 8 = s) (s1 : s < n) (hp : p < w.heap.size) (hc : w.cell? ⟨p, o + s, none⟩ = some (.int .i64 (t : Int))) (t1 : t < m) (m1 : m ≤ 16) :
    Calls Try.prog 47 #[fldV W (some ⟨p, o, none⟩) n c (some ⟨q, o2, none⟩) m d sx sy, .int .i64 x, .int .i64 y] w fun e w' => e = .returned (.slice (some ⟨q, o2 + t * 64 + (j % 8 * 8 + i % 8).toNat, none⟩) (8 - i % 8).toNat (64 - (j % 8 * 8 + i % 8)).toNat) ∧ Below w.heap.size w w' := by
  have B1 := Lib.hid (below1 w (.cells #[.int .i64 W, .slice (some ⟨p, o, none⟩) n c, .slice (some ⟨q, o2, none⟩) m d, .int .i64 sx, .int .i64 sy] 26))
  have X1 := Lib.hid (Box.new w #[.int .i64 W, .slice (some ⟨p, o, none⟩) n c, .slice (some ⟨q, o2, none⟩) m d, .int .i64 sx, .int .i64 sy] 26)
  have HC := Lib.hid ((B1.out.cell (p := ⟨p, o + s, none⟩) hp).trans hc)
  clear hc
  obtain ⟨R, hR⟩ : ∃ R, R = (n : Int) / W := ⟨_, rfl⟩
  have HR := Lib.hid hR
  rw [← hR] at hj r1 r8
  clear hR
  go_enter Try.func47, Try.ntmps47
  go_upto_region 1 with (fail)
  generalize w.alloc (.cells #[.int .i64 W, .slice (some ⟨p, o, none⟩) n c, .slice (some ⟨q, o2, none⟩) m d, .int .i64 sx, .int .i64 sy] 26) = w1 at X1 B1 HC ⊢
  generalize hbb : w.heap.size = bb at X1 B1 ⊢
  have c0 : ∀ u : Later w1, u.now.cell? ⟨bb, 0, none⟩ = some (.int .i64 W) := later_cell (X1.out.cell 0)
  have c1 : ∀ u : Later w1, u.now.cell? ⟨bb, 1, none⟩ = some (.slice (some ⟨p, o, none⟩) n c) := later_cell (X1.out.cell 1)
  have c2 : ∀ u : Later w1, u.now.cell? ⟨bb, 2, none⟩ = some (.slice (some ⟨q, o2, none⟩) m d) := later_cell (X1.out.cell 2)
  have c3 : ∀ u : Later w1, u.now.cell? ⟨bb, 3, none⟩ = some (.int .i64 sx) := later_cell (X1.out.cell 3)
  have c4 : ∀ u : Later w1, u.now.cell? ⟨bb, 4, none⟩ = some (.int .i64 sy) := later_cell (X1.out.cell 4)
  have V1 : Hid (∀ u : Later w1, Calls Try.prog 54 #[fldV W (some ⟨p, o, none⟩) n c (some ⟨q, o2, none⟩) m d sx sy] u.now fun e w' => e = .returned (.int .i64 (8 * W)) ∧ Below u.now.heap.size u.now w') := Lib.hid fun u => im_width W _ n c _ m d sx sy _ h1 h8
  have V2 : Hid (∀ u : Later w1, Calls Try.prog 55 #[fldV W (some ⟨p, o, none⟩) n c (some ⟨q, o2, none⟩) m d sx sy] u.now fun e w' => e = .returned (.int .i64 (8 * R)) ∧ Below u.now.heap.size u.now w') := Lib.hid fun u => by rw [HR.out]; exact im_height W _ n c _ m d sx sy _ h1 h8 (by omega)
  have hw0 : 8 * W ≠ 0 := by omega
  have hr0 : 8 * R ≠ 0 := by omega
  refine wp_region_later (by kernel_rfl) (by kernel_rfl) ?_
  repeat (go_big_quiet_step ((first
    | (go_at_call 54; exact Calls.later (V1.out _))
    | (go_at_call 55; exact Calls.later (V2.out _)))))
  refine wpQuiet_nil ?_
  rintro _ ⟨u, rfl⟩
  have d0 := c0 u
  have d1 := c1 u
  have d2 := c2 u
  have d3 := c3 u
  have d4 := c4 u
  have e1 := later_cell HC.out u
  have BU : Hid (Below bb w u.now) := Lib.hid (B1.out.trans (u.below.mono (by have := B1.out.size; have := X1.out.lt; omega)))
  clear c0 c1 c2 c3 c4 V1 V2 HC X1 B1
  generalize u.now = w2 at d0 d1 d2 d3 d4 e1 BU ⊢
  clear u
  rw [hi, hj]
  have p0 : 0 ≤ j / 8 * W := Int.mul_nonneg (by omega) (by omega)
  have p1 : j / 8 * W ≤ 64 := by omega
  obtain ⟨jq, hjq⟩ : ∃ jq, j / 8 = jq := ⟨_, rfl⟩
  rw [hjq] at p0 p1 hs
  obtain ⟨pw, hpw⟩ : ∃ pw, jq * W = pw := ⟨_, rfl⟩
  rw [hpw] at p0 p1 hs
  obtain ⟨iq, hiq⟩ : ∃ iq, i / 8 = iq := ⟨_, rfl⟩
  rw [hiq] at hs
  obtain ⟨f, hf⟩ : ∃ f : Nat, j % 8 * 8 = f := ⟨(j % 8 * 8).toNat, by omega⟩
  obtain ⟨jr, hjr⟩ : ∃ jr, j % 8 = jr := ⟨_, rfl⟩
  rw [hjr] at hf
  have f1 : f ≤ 56 := by omega
  obtain ⟨g, hg⟩ : ∃ g : Nat, f + i % 8 = g := ⟨(f + i % 8).toNat, by omega⟩
  obtain ⟨ir, hir⟩ : ∃ ir, i % 8 = ir := ⟨_, rfl⟩
  have ir1 : 0 ≤ ir ∧ ir < 8 := by omega
  rw [hir] at hg
  have g1 : g ≤ 63 ∧ f ≤ g := by omega
  have HE : Hid (j % 8 * 8 + i % 8 = g ∧ i % 8 = g - f) := Lib.hid ⟨by omega, by omega⟩
  clear HR hi hj
  obtain ⟨g1, g2⟩ := g1
  have hsl : ∀ wq, (Instr.sliceAt 40 (.pointer (some ⟨q, o2 + t * 64, none⟩)) (some (.int .i64 (g : Int))) (some (.int .i64 ((f : Int) + 8))) none).run Try.prog wq = .ok (.slice (some ⟨q, o2 + t * 64 + g, none⟩) (f + 8 - g) (64 - g)) wq := fun wq => run_slice_pixels wq q (o2 + t * 64) g (f + 8) (by omega) (by omega) (by omega)
  go_wp2_with fail
  go_ret
  refine ⟨?_, by first | exact BU.out | (rw [hbb]; exact BU.out)⟩
  rw [HE.out.1, HE.out.2, Int.toNat_natCast, show (8 - ((g : Int) - f)).toNat = f + 8 - g by omega, show (64 - (g : Int)).toNat = 64 - g by omega]
  rfl
theorem im_run (F : Fld) (A : Option Addr) (c : Nat) (T : Option Addr) (d : Nat) (fa ft : List Nat) (x y : Int) (w : World) (hF : FHas w A T F fa ft) (h : FOk F) (x0 : 0 ≤ x) (x1 : x ≤ 31) (y0 : 0 ≤ y) (y1 : y ≤ 15) :
    Calls Try.prog 47 #[fv F A c T d, .int .i64 x, .int .i64 y] w (RunGot F x y ft w) := by
  obtain ⟨a0, a1⟩ := atX_b h x
  obtain ⟨b0, b1⟩ := atY_b h y
  obtain ⟨k0, k1⟩ := cellN_b h x y
  obtain ⟨t0, t1⟩ := tileN_b h x y
  obtain ⟨p0, p1⟩ := partN_b h x y
  obtain ⟨hrw, r1, r8⟩ := h.rows
  have w1 := h.w1
  have w8 := h.w8
  have n16 := h.n16
  have sx0 := h.x0
  have sx1 := h.x1
  have sy0 := h.y0
  have sy1 := h.y1
  have hn : F.xs.length ≤ 64 := by
    have := mul8 (F.rw_ - 1) F.w (by omega) 8 (by omega) (by omega)
    have e : F.rw_ * F.w = (F.rw_ - 1) * F.w + F.w := by rw [Int.sub_mul]; omega
    omega
  obtain ⟨p, o, hA, rfl, hp, hc⟩ := hF.1.at_ (by omega)
  obtain ⟨q, o2, hT, rfl, hq, _⟩ := hF.2.at_ (by omega)
  have HT := hF.2
  rw [hT] at HT
  obtain ⟨s, hs⟩ := Int.eq_ofNat_of_zero_le k0
  obtain ⟨t, ht⟩ := Int.eq_ofNat_of_zero_le t0
  have c1 := hc s (by omega)
  have ex : F.xs.getD s 0 = (t : Int) := by
    rw [← ht]; unfold tileN; rw [hs]; rfl
  rw [ex] at c1
  subst hA hT
  refine (run_raw F.w p o F.xs.length c q o2 F.nt d F.sx F.sy x y (atX F x) (atY F y) s t w w1 w8 hn rfl a0 (by omega) rfl b0 (by omega) (by omega) (by omega) (by omega) (by omega) r1 r8 hs (by omega) hp c1 (by omega) n16).mono ?_
  rintro e w' ⟨rfl, b⟩
  have he : (8 - atX F x % 8).toNat = runN F x := rfl
  have hpt : atY F y % 8 * 8 + atX F x % 8 = partN F x y := rfl
  rw [he, hpt]
  refine ⟨_, _, rfl, ?_, ?_, b⟩
  · unfold runN; omega
  · have := run_lies h HT x y (64 * t + (partN F x y).toNat) (by rw [ht]; omega)
    rw [show o2 + t * 64 + (partN F x y).toNat = o2 + (64 * t + (partN F x y).toNat) by omega]
    exact this.below b
/-- A line of which k pixels stand. -/
def lineK (F : Fld) (y : Int) (k : Nat) : List Int := (List.range 32).map fun j : Nat => if j < k then pixF F j y else 0
theorem lineK_len (F : Fld) (y : Int) (k : Nat) : (lineK F y k).length = 32 := by simp [lineK]
theorem lineK_get (F : Fld) (y : Int) (k i : Nat) (h : i < 32) : (lineK F y k)[i]? = some (if i < k then pixF F i y else 0) := by
  unfold lineK
  rw [List.getElem?_map, List.getElem?_range h]
  rfl
def z32 : List Int := List.replicate 32 0
theorem lineK_zero (F : Fld) (y : Int) : lineK F y 0 = z32 := by
  unfold z32
  apply List.ext_getElem?
  intro i
  by_cases h : i < 32
  · rw [lineK_get _ _ _ _ h, List.getElem?_replicate, if_pos h]; simp
  · rw [List.getElem?_eq_none (by rw [lineK_len]; omega), List.getElem?_eq_none (by simp; omega)]
theorem lineK_all (F : Fld) (y : Int) : lineK F y 32 = lineF F y := by
  unfold lineK lineF
  apply List.map_congr_left
  intro j hj
  rw [if_pos (List.mem_range.1 hj)]
theorem lineK_step (F : Fld) (y : Int) (k c : Nat) (hc : c ≤ runN F k) (hk : k + c ≤ 32) : (lineK F y k).take k ++ (runF F k y).take c ++ (lineK F y k).drop (k + c) = lineK F y (k + c) := by
  have l1 : ((lineK F y k).take k).length = k := by rw [List.length_take, lineK_len]; omega
  have l2 : ((runF F k y).take c).length = c := by rw [List.length_take, runF_len]; omega
  apply List.ext_getElem?
  intro i
  by_cases h : i < 32
  · rw [lineK_get _ _ _ _ h]
    by_cases h1 : i < k
    · rw [List.getElem?_append_left (by rw [List.length_append]; omega), List.getElem?_append_left (by omega), List.getElem?_take, if_pos h1, lineK_get _ _ _ _ h, if_pos h1, if_pos (by omega)]
    · by_cases h2 : i < k + c
      · rw [List.getElem?_append_left (by rw [List.length_append]; omega), List.getElem?_append_right (by omega), l1, List.getElem?_take, if_pos (by omega), if_pos h2]
        have := runF_get F k y (i - k) (by omega)
        rw [List.getD_eq_getElem?_getD, List.getElem?_eq_getElem (by rw [runF_len]; omega)] at this
        rw [List.getElem?_eq_getElem (by rw [runF_len]; omega)]
        simp only [Option.getD_some] at this
        rw [this, show (k : Int) + ((i - k : Nat) : Int) = (i : Int) by omega]
      · rw [List.getElem?_append_right (by rw [List.length_append]; omega), List.getElem?_drop, List.length_append, l1, l2, show k + c + (i - (k + c)) = i by omega, lineK_get _ _ _ _ h, if_neg (by omega), if_neg (by omega)]
  · rw [List.getElem?_eq_none (by simp only [List.length_append, l1, l2, List.length_drop, lineK_len]; omega), List.getElem?_eq_none (by rw [lineK_len]; omega)]
/-- copy into a row of the call's own, as one step of a region. -/
theorem step_copy {ops : Array Oper} {o : Oper} {a : Act} {w : World} {K : Act → World → Prop} {Q : Exit → Act → World → Prop} {E : Prop} (hg : o.guard = none) (d s : Operand)
    (ho : o.op = .call { callee := .builtin .copy, args := #[d, s], argTypes := #[23, 23] }) (g off dLen dCap : Nat) (ad : Addr) (sLen sCap : Nat) (hd : a.eval d = .slice (some ⟨g, off, none⟩) dLen dCap) (hs : a.eval s = .slice (some ad) sLen sCap)
    (cur : List Int) (t : TypeId) (hb : Box w g t (iv cur)) (cs : List Int) (m : Nat) (hm : cs.length = m) (hn : m = Nat.min sLen dLen) (hsrc : ∀ j v, (iv cs)[j]? = some v → w.cell? (ad.add j) = some v) (hfit : off + m ≤ cur.length) (res : List Int) (hres : cur.take off ++ cs ++ cur.drop (off + m) = res)
    (h : K (a.put o.dst (.int .i64 (m : Int))) (w.setRow g (iv res).toArray)) :
    if Region.wanted o (yielded ops a.tmps) = true then Oper.wp Try.prog o a w K Q else E := by
  subst hm hres
  have hw : Region.wanted o (yielded ops a.tmps) = true := by simp [Region.wanted, hg]
  rw [if_pos hw]
  have hrun := Go.run_copy_row (P := Try.prog) w 23 23 o.type 3 g off dLen dCap ad sLen sCap (iv cur).toArray t (iv cs) Try.underlying23 int_size hb (by simpa using hn) hsrc (by simpa using hfit) (iv_one cs)
  have e : ((iv cur).toArray.toList.take off ++ iv cs ++ (iv cur).toArray.toList.drop (off + (iv cs).length)).toArray = (iv (cur.take off ++ cs ++ cur.drop (off + cs.length))).toArray := by
    simp [List.map_append, List.map_take, List.map_drop]
  have el : (iv cs).length = cs.length := by simp
  rw [e, el] at hrun
  unfold Oper.wp execOp
  simp only [ho, resolve, invoke, builtin, Sem.run_bind, Sem.run_pure, Result.andThen_ok, List.map_toArray, List.map_cons, List.map_nil, hs, hd, hrun]
  exact h
theorem ints_head {w : World} {ad : Addr} {n m : Nat} {ys : List Int} {fp : List Nat} (h : Ints w (some ad) n ys fp) (hm : m ≤ n) : ∀ j u, (iv (ys.take m))[j]? = some u → w.cell? (ad.add j) = some u := by
  intro j u hu
  refine ints_news h j u ?_
  rw [← hu]
  have hj : j < m := by have := (List.getElem?_eq_some_iff.1 hu).1; simp at this; omega
  rw [List.getElem?_map, List.getElem?_map, List.getElem?_take, if_pos hj]
theorem fitN (r k : Nat) (hr : 1 ≤ r) (hk : k < 32) : ∃ cc, cc ≤ r ∧ k + cc ≤ 32 ∧ 1 ≤ cc ∧ cc = Nat.min r (32 - k) :=
  ⟨min r (32 - k), by omega, by omega, by omega, rfl⟩
theorem made32 : madeCells #[.int .i64 0] 32 = (iv (z32)).toArray := by kernel_rfl
theorem run_make32 (w : World) : (Instr.makeSlice 23 (.int .i64 32) (.int .i64 32)).run Try.prog w = .ok (.slice (some ⟨w.heap.size, 0, none⟩) 32 32) (w.alloc (.cells (iv (z32)).toArray 3)) := by
  have h := Go.run_make_row' (P := Try.prog) 23 3 (.int .i64 0) 8 Try.underlying23 infoInt rfl .i64 .i64 32 (by omega) (by omega) w
  rw [made32] at h
  exact h
theorem copied_box {w w' : World} {n g : Nat} {t : TypeId} {xs : List Int} (h : Box w' g t (iv xs)) (hl : xs.length = n) (hg : w.heap.size ≤ g) (hb : Below w.heap.size w w') : Copied xs n w (.returned (.slice (some ⟨g, 0, none⟩) n n)) w' := by
  by_cases h0 : n = 0
  · subst h0
    have : xs = [] := List.eq_nil_of_length_eq_zero hl
    subst this
    exact ⟨_, _, [], rfl, Nat.le_refl _, .nil _ _, .nil _ _, hb⟩
  · refine ⟨_, _, [g], rfl, Nat.le_refl _, ⟨hl, .inr ⟨by omega, g, 0, rfl, rfl, h.lt, fun i hi => ?_⟩⟩, .one hg h.lt h.frozen, hb⟩
    rw [Nat.zero_add, h.cell i]
    exact iv_at xs i (by omega)
set_option maxHeartbeats 4000000 in
theorem im_line (F : Fld) (A : Option Addr) (c : Nat) (T : Option Addr) (d : Nat) (fa ft : List Nat) (y : Int) (w : World) (hF : FHas w A T F fa ft) (h : FOk F) (y0 : 0 ≤ y) (y1 : y ≤ 15) :
    Calls Try.prog 50 #[fv F A c T d, .int .i64 y] w (Copied (lineF F y) 32 w) := by
  have hmk := run_make32
  have HO := Lib.hid h
  have HF := Lib.hid hF
  have HZ := Lib.hid (lineK_zero F y)
  clear hF h
  go_enter Try.func50, Try.ntmps50
  go_wp2_with fail
  obtain ⟨w1, hw1⟩ : ∃ w1, w1 = (w.alloc (.cells #[.int .i64 F.w, .slice A F.xs.length c, .slice T F.nt d, .int .i64 F.sx, .int .i64 F.sy] 26)).alloc (.cells (iv (z32)).toArray 3) := ⟨_, rfl⟩
  have X1 : Hid (Box w1 w.heap.size 26 [.int .i64 F.w, .slice A F.xs.length c, .slice T F.nt d, .int .i64 F.sx, .int .i64 F.sy]) := by rw [hw1]; exact (Box.new w _ _).alloc _
  have Y1 : Hid (Box w1 (w.heap.size + 1) 3 (iv (lineK F y 0))) := by rw [hw1, HZ.out]; exact Box.new_at _ _ _ _ (by simp)
  have B1 : Hid (Below w.heap.size w w1) := by rw [hw1]; exact below2 w _ _
  rw [← hw1]
  clear hw1 hmk
  go_loopw [6] (fun i wr => ∃ k : Nat, k ≤ 32 ∧ i = .int .i64 k ∧ Box wr w.heap.size 26 [.int .i64 F.w, .slice A F.xs.length c, .slice T F.nt d, .int .i64 F.sx, .int .i64 F.sy] ∧ Box wr (w.heap.size + 1) 3 (iv (lineK F y k)) ∧ Below w.heap.size w wr) (fun i _ => 32 - (intOf i).toNat)
  case atStart => exact ⟨0, by omega, rfl, X1.out, Y1.out, B1.out⟩
  case round =>
    obtain ⟨k, hk, rfl, hx, hy, hb⟩ := hrel
    have XR := Lib.hid hx
    have YR := Lib.hid hy
    have BR := Lib.hid hb
    have XD : Hid (Box wr.drew w.heap.size 26 [.int .i64 F.w, .slice A F.xs.length c, .slice T F.nt d, .int .i64 F.sx, .int .i64 F.sy]) := Lib.hid hx
    have YD : Hid (Box wr.drew (w.heap.size + 1) 3 (iv (lineK F y k))) := Lib.hid hy
    have BD : Hid (Below w.heap.size w wr.drew) := Lib.hid hb.drew
    clear hx hy hb X1 Y1 B1
    by_cases h32 : k < 32
    · have i32 : (k : Int) < 32 := by omega
      have c0 := XR.out.cell 0
      have c1 := XR.out.cell 1
      have c2 := XR.out.cell 2
      have c3 := XR.out.cell 3
      have c4 := XR.out.cell 4
      go_wp2_with fail
      have HN := Lib.hid (runN_b F k)
      obtain ⟨cc, hcc⟩ := fitN (runN F k) k HN.out.1 h32
      have HC := Lib.hid hcc
      have c32 : cc ≤ 32 := by have := HC.out.2.1; omega
      have i33 : (k : Int) ≤ 32 := by omega
      have k32 : (k : Int) + cc ≤ 32 := by have := HC.out.2.1; omega
      have hne : ¬ 32 = k := by omega
      have HS := Lib.hid (lineK_step F y k cc HC.out.1 HC.out.2.1)
      clear hcc
      go_region_law (first
        | (go_simp; go_at_call 47; refine (im_run F A c T d fa ft (k : Int) y _ ⟨HF.out.1.below BD.out, HF.out.2.below BD.out⟩ HO.out (by omega) (by omega) y0 y1).mono ?_; rintro e w2 ⟨Ar, cr, rfl, hcr, hi, b2⟩; obtain ⟨p, o, rfl, _, hp, hc⟩ := hi.at_ (by have := HN.out.1; omega); have HI := Lib.hid hi; have X2 := Lib.hid (XD.out.below b2); have Y2 := Lib.hid (YD.out.below b2); have B2 := Lib.hid (below_then BD.out b2); clear hc hi b2)
        | (refine step_copy rfl _ _ rfl (w.heap.size + 1) k (32 - k) (32 - k) ⟨p, o, none⟩ (runN F k) cr rfl rfl (lineK F y k) _ Y2.out ((runF F k y).take cc) cc (by rw [List.length_take, runF_len]; exact Nat.min_eq_left HC.out.1) HC.out.2.2.2 (ints_head HI.out HC.out.1) (by rw [lineK_len]; exact HC.out.2.1) (lineK F y (k + cc)) HS.out ?_))
      have cc1 : 1 ≤ cc := HC.out.2.2.1
      have hkw : IntKind.i64.wrap ((k : Int) + cc) = (k + cc : Nat) := by
        rw [← Int.natCast_add]
        have k33 : ((k + cc : Nat) : Int) ≤ 32 := by omega
        generalize k + cc = kc at k33
        simp [IntKind.wrap, IntKind.bits, IntKind.signed]
        omega
      simp only [List.getElem_toArray, List.getElem_cons_succ, List.getElem_cons_zero, Act.put, List.setIfInBounds_toArray, List.set_cons_succ, List.set_cons_zero, hkw]
      go_roundw
      case rel => exact ⟨_, _, _, _, _, _, _, _, _, _, _, _, _, ⟨k + cc, HC.out.2.1, rfl, X2.out.rowFar (by omega), Box.row Y2.out, below_row B2.out (by omega) _⟩, rfl⟩
      case measure => simp [intOf]; omega
    · obtain rfl : k = 32 := by omega
      have HL := Lib.hid (lineK_all F y)
      go_wp2_with fail
      go_ret
      exact copied_box (xs := lineF F y) (by rw [← HL.out]; exact YR.out) (lineF_len F y) (by omega) BR.out
theorem betB_no {a l h : Int} (k : ¬ (l ≤ a ∧ a ≤ h)) : betB a l h = false := by
  cases e : betB a l h
  · rfl
  · exact absurd (betB_iff.1 e) k
theorem im_isColumn (x : Int) (w : World) : Calls Try.prog 45 #[.int .i64 x] w fun e w' => e = .returned (.bool (betB x 0 31)) ∧ w = w' := by
  by_cases h0 : 0 ≤ x
  · by_cases h1 : x < 32
    · have HB := Lib.hid (betB_iff.2 (show 0 ≤ x ∧ x ≤ 31 by omega))
      go_enter Try.func45, Try.ntmps45
      go_wp2_with fail
      go_ret
      exact ⟨ret_bool HB.out.symm, rfl⟩
    · have HB := Lib.hid (betB_no (show ¬ (0 ≤ x ∧ x ≤ 31) by omega))
      have hd : decide (x < 32) = false := by simp; omega
      clear h1
      go_enter Try.func45, Try.ntmps45
      go_wp2_with fail
      go_ret
      exact ⟨ret_bool HB.out.symm, rfl⟩
  · have HB := Lib.hid (betB_no (show ¬ (0 ≤ x ∧ x ≤ 31) by omega))
    have hd : decide (0 ≤ x) = false := by simp; omega
    clear h0
    go_enter Try.func45, Try.ntmps45
    go_wp2_with fail
    go_ret
    exact ⟨ret_bool HB.out.symm, rfl⟩
theorem im_isLine (x : Int) (w : World) : Calls Try.prog 46 #[.int .i64 x] w fun e w' => e = .returned (.bool (betB x 0 15)) ∧ w = w' := by
  by_cases h0 : 0 ≤ x
  · by_cases h1 : x < 16
    · have HB := Lib.hid (betB_iff.2 (show 0 ≤ x ∧ x ≤ 15 by omega))
      go_enter Try.func46, Try.ntmps46
      go_wp2_with fail
      go_ret
      exact ⟨ret_bool HB.out.symm, rfl⟩
    · have HB := Lib.hid (betB_no (show ¬ (0 ≤ x ∧ x ≤ 15) by omega))
      have hd : decide (x < 16) = false := by simp; omega
      clear h1
      go_enter Try.func46, Try.ntmps46
      go_wp2_with fail
      go_ret
      exact ⟨ret_bool HB.out.symm, rfl⟩
  · have HB := Lib.hid (betB_no (show ¬ (0 ≤ x ∧ x ≤ 15) by omega))
    have hd : decide (0 ≤ x) = false := by simp; omega
    clear h0
    go_enter Try.func46, Try.ntmps46
    go_wp2_with fail
    go_ret
    exact ⟨ret_bool HB.out.symm, rfl⟩
theorem and_last {a b c : Bool} (h : b = c) : (a && b) = (a && c) := by rw [h]
set_option maxHeartbeats 1000000 in
theorem im_fieldLine (F : Fld) (A : Option Addr) (c : Nat) (T : Option Addr) (d : Nat) (fa ft : List Nat) (y : Int) (w : World) (hF : FHas w A T F fa ft) (hs : FSmall F) :
    Calls Try.prog 20 #[fv F A c T d, .int .i64 y] w (Copied (lineT F y) (lineT F y).length w) := by
  have BB := Lib.hid (below1 w (.cells #[.int .i64 F.w, .slice A F.xs.length c, .slice T F.nt d, .int .i64 F.sx, .int .i64 F.sy] 26))
  have X1 := Lib.hid (Box.new w #[.int .i64 F.w, .slice A F.xs.length c, .slice T F.nt d, .int .i64 F.sx, .int .i64 F.sy] 26)
  have HF := Lib.hid (FHas.below hF BB.out)
  have HS := Lib.hid hs
  clear hF hs
  go_enter Try.func20, Try.ntmps20
  go_wp2_with fail
  generalize w.alloc (.cells #[.int .i64 F.w, .slice A F.xs.length c, .slice T F.nt d, .int .i64 F.sx, .int .i64 F.sy] 26) = w1 at X1 BB HF ⊢
  generalize hbb : w.heap.size = bb at X1 ⊢
  have HBB := Lib.hid hbb
  clear hbb
  refine (im_isLine y _).mono ?_; rintro e w2 ⟨rfl, rfl⟩
  cases hy : betB y 0 15
  · have HT : Hid (lineT F y = []) := Lib.hid (by unfold lineT; rw [hy]; simp)
    clear hy
    go_wp2_with fail
    go_ret
    rw [HT.out]
    exact ⟨none, 0, [], rfl, Nat.le_refl _, .nil _ _, .nil _ _, BB.out⟩
  · have HY := Lib.hid hy
    clear hy
    have k0 := X1.out.cell 0
    have k1 := X1.out.cell 1
    have k2 := X1.out.cell 2
    have k3 := X1.out.cell 3
    have k4 := X1.out.cell 4
    go_wp2_with fail
    clear k0 k1 k2 k3 k4
    refine (im_fieldValid F A c T d fa ft _ HF.out HS.out).mono ?_; rintro e w2 ⟨rfl, b2⟩
    have X2 := Lib.hid (X1.out.below b2)
    have B2 := Lib.hid (below_then BB.out b2)
    have HF2 := Lib.hid (HF.out.below b2)
    clear b2
    cases hv : fldB F
    · have HT : Hid (lineT F y = []) := Lib.hid (by unfold lineT; rw [hv]; simp)
      clear hv
      go_wp2_with fail
      go_ret
      rw [HT.out]
      exact ⟨none, 0, [], rfl, Nat.le_refl _, .nil _ _, .nil _ _, B2.out⟩
    · have HV := Lib.hid (fldB_iff.1 hv)
      have HT := Lib.hid (lineT_yes hv HY.out)
      clear hv
      have k0 := X2.out.cell 0
      have k1 := X2.out.cell 1
      have k2 := X2.out.cell 2
      have k3 := X2.out.cell 3
      have k4 := X2.out.cell 4
      go_wp2_with fail
      clear k0 k1 k2 k3 k4
      have hy := betB_iff.1 HY.out
      refine (im_line F A c T d fa ft y _ HF2.out HV.out hy.1 hy.2).mono ?_; rintro e w3 ⟨R, cc, fr, rfl, hcc, hi, hn, b3⟩
      have B3 := Lib.hid (below_then B2.out b3)
      have HI := Lib.hid hi
      have HN := Lib.hid (hn.mono B2.out.size)
      clear hi hn b3 hy
      go_wp2_with fail
      go_ret
      rw [HT.out, lineF_len]
      exact ⟨R, cc, fr, rfl, hcc, HI.out, HN.out, B3.out⟩
set_option maxHeartbeats 1000000 in
theorem im_fieldPixel (F : Fld) (A : Option Addr) (c : Nat) (T : Option Addr) (d : Nat) (fa ft : List Nat) (x y : Int) (w : World) (hF : FHas w A T F fa ft) (hs : FSmall F) :
    Calls Try.prog 17 #[fv F A c T d, .int .i64 x, .int .i64 y] w fun e w' => e = .returned (.int .i64 (pixT F x y)) ∧ Below w.heap.size w w' := by
  have BB := Lib.hid (below1 w (.cells #[.int .i64 F.w, .slice A F.xs.length c, .slice T F.nt d, .int .i64 F.sx, .int .i64 F.sy] 26))
  have X1 := Lib.hid (Box.new w #[.int .i64 F.w, .slice A F.xs.length c, .slice T F.nt d, .int .i64 F.sx, .int .i64 F.sy] 26)
  have HF := Lib.hid (FHas.below hF BB.out)
  have HS := Lib.hid hs
  clear hF hs
  go_enter Try.func17, Try.ntmps17
  go_wp2_with fail
  generalize w.alloc (.cells #[.int .i64 F.w, .slice A F.xs.length c, .slice T F.nt d, .int .i64 F.sx, .int .i64 F.sy] 26) = w1 at X1 BB HF ⊢
  generalize hbb : w.heap.size = bb at X1 ⊢
  have HBB := Lib.hid hbb
  clear hbb
  refine (im_isColumn x _).mono ?_; rintro e w2 ⟨rfl, rfl⟩
  cases hx : betB x 0 31
  · have HT : Hid (pixT F x y = -1) := Lib.hid (by unfold pixT; rw [hx]; simp)
    clear hx
    go_wp2_with fail
    go_ret
    exact ⟨ret_int HT.out.symm, BB.out⟩
  · have HX := Lib.hid hx
    clear hx
    go_wp2_with fail
    refine (im_isLine y _).mono ?_; rintro e w2 ⟨rfl, rfl⟩
    cases hy : betB y 0 15
    · have HT : Hid (pixT F x y = -1) := Lib.hid (by unfold pixT; rw [hy]; simp)
      clear hy
      go_wp2_with fail
      go_ret
      exact ⟨ret_int HT.out.symm, BB.out⟩
    · have HY := Lib.hid hy
      clear hy
      have k0 := X1.out.cell 0
      have k1 := X1.out.cell 1
      have k2 := X1.out.cell 2
      have k3 := X1.out.cell 3
      have k4 := X1.out.cell 4
      go_wp2_with fail
      clear k0 k1 k2 k3 k4
      refine (im_fieldValid F A c T d fa ft _ HF.out HS.out).mono ?_; rintro e w2 ⟨rfl, b2⟩
      have X2 := Lib.hid (X1.out.below b2)
      have B2 := Lib.hid (below_then BB.out b2)
      have HF2 := Lib.hid (HF.out.below b2)
      clear b2
      cases hv : fldB F
      · have HT : Hid (pixT F x y = -1) := Lib.hid (by unfold pixT; rw [hv]; simp)
        clear hv
        go_wp2_with fail
        go_ret
        exact ⟨ret_int HT.out.symm, B2.out⟩
      · have HV := Lib.hid (fldB_iff.1 hv)
        have HT := Lib.hid (pixT_yes hv HX.out HY.out)
        clear hv
        have k0 := X2.out.cell 0
        have k1 := X2.out.cell 1
        have k2 := X2.out.cell 2
        have k3 := X2.out.cell 3
        have k4 := X2.out.cell 4
        go_wp2_with fail
        clear k0 k1 k2 k3 k4
        have hy := betB_iff.1 HY.out
        have hx := betB_iff.1 HX.out
        refine (im_run F A c T d fa ft x y _ HF2.out HV.out hx.1 hx.2 hy.1 hy.2).mono ?_; rintro e w3 ⟨R, cc, rfl, hcc, hi, b3⟩
        have B3 := Lib.hid (below_then B2.out b3)
        have hr := runN_b F x
        obtain ⟨p, o, rfl, _, _, hc⟩ := hi.at_ (by omega)
        have c0 := hc 0 (by omega)
        rw [runF_get _ _ _ _ (by omega), show x + ((0 : Nat) : Int) = x by omega, Nat.add_zero] at c0
        have hr0 : 0 < runN F x := by omega
        have hr1 : (0 : Int) < runN F x := by omega
        have hr2 : runN F x ≠ 0 := by omega
        clear hi hc b3 hx hy
        go_wp2_with fail
        go_ret
        exact ⟨ret_int HT.out.symm, B3.out⟩
end Go.Proofs.Ytlppmcflgbeolaa
