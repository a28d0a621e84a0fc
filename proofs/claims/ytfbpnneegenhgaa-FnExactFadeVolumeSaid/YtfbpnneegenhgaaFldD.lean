/- The program's pixels: a run of them, a line, FieldPixel, FieldLine. -/
import Derived.Test.YtfbpnneegenhgaaColI
import Derived.Test.YtfbpnneegenhgaaFldB
import Derived.Test.YtfbpnneegenhgaaGC
import Derived.Deep.RegionHeld3
import Derived.Deep.Cut
namespace Go.Proofs.Ytfbpnneegenhgaa
open Go.ChangeShapes Go.WideShapes Go.ChangeAt Go.RowKit
set_option linter.unusedVariables false

/-- What a run leaves: a slice of a tile's own memory. -/
def RunGot (F : Fld) (x y : Int) (ft : List Nat) (w : World) (e : Ending) (w' : World) : Prop :=
  ∃ A c, e = .returned (.slice A (runN F x) c) ∧ runN F x ≤ c ∧ Ints w' A (runN F x) (runF F x y) ft ∧ Below w.heap.size w w'
theorem run_lies {F : Fld} (h : FOk F) {w : World} {b o : Nat} {ft : List Nat} (ht : Ints w (some ⟨b, o, none⟩) (64 * F.nt) F.zs ft) (x y : Int) (s : Nat) (hs : (64 * tileN F x y + partN F x y : Int) = s) : Ints w (some ⟨b, o + s, none⟩) (runN F x) (runF F x y) ft := by
  obtain ⟨a, c⟩ := tileN_b h x y
  obtain ⟨b', o', he, rfl, hb, hc⟩ := ht.at_ (by omega)
  injection he with he
  injection he with e1 e2 _
  subst e1 e2
  have hr := runN_b F x
  refine ⟨runF_len _ _ _, .inr ⟨by omega, b, o + s, rfl, rfl, hb, fun i hi => ?_⟩⟩
  have hi' : atX F x % 8 + i < 8 := by unfold runN at hi; omega
  obtain ⟨p0, p1⟩ := partN_b h x y
  have hp : partN F x y % 8 + i < 8 := by unfold partN; omega
  rw [Nat.add_assoc, hc (s + i) (by omega), runF_get _ _ _ _ hi, pix_right h x y i hi', hs]
  congr 4
/-- A row in which the pixels from a up to k stand, the rest as it was. -/
def fillK (F : Fld) (y : Int) (cur : List Int) (a k : Nat) : List Int := (List.range 32).map fun j : Nat => if a ≤ j ∧ j < k then pixF F j y else cur.getD j 0
theorem fillK_len (F : Fld) (y : Int) (cur : List Int) (a k : Nat) : (fillK F y cur a k).length = 32 := by simp [fillK]
theorem fillK_get (F : Fld) (y : Int) (cur : List Int) (a k i : Nat) (h : i < 32) : (fillK F y cur a k)[i]? = some (if a ≤ i ∧ i < k then pixF F i y else cur.getD i 0) := by
  unfold fillK
  rw [List.getElem?_map, List.getElem?_range h]
  rfl
theorem fillK_zero (F : Fld) (y : Int) (cur : List Int) (a : Nat) (hl : cur.length = 32) : fillK F y cur a a = cur := by
  apply List.ext_getElem?
  intro i
  by_cases h : i < 32
  · rw [fillK_get _ _ _ _ _ _ h, if_neg (by omega), List.getD_eq_getElem?_getD, List.getElem?_eq_getElem (by omega)]; rfl
  · rw [List.getElem?_eq_none (by rw [fillK_len]; omega), List.getElem?_eq_none (by omega)]
theorem fillK_all (F : Fld) (y : Int) (cur : List Int) : fillK F y cur 0 32 = lineF F y := by
  unfold fillK lineF
  apply List.map_congr_left
  intro j hj
  rw [if_pos ⟨by omega, List.mem_range.1 hj⟩]
theorem fillK_step (F : Fld) (y : Int) (cur : List Int) (a k c : Nat) (ha : a ≤ k) (hc : c ≤ runN F k) (hk : k + c ≤ 32) : (fillK F y cur a k).take k ++ (runF F k y).take c ++ (fillK F y cur a k).drop (k + c) = fillK F y cur a (k + c) := by
  have l1 : ((fillK F y cur a k).take k).length = k := by rw [List.length_take, fillK_len]; omega
  have l2 : ((runF F k y).take c).length = c := by rw [List.length_take, runF_len]; omega
  apply List.ext_getElem?
  intro i
  by_cases h : i < 32
  · rw [fillK_get _ _ _ _ _ _ h]
    by_cases h1 : i < k
    · rw [List.getElem?_append_left (by rw [List.length_append]; omega), List.getElem?_append_left (by omega), List.getElem?_take, if_pos h1, fillK_get _ _ _ _ _ _ h]
      by_cases h3 : a ≤ i
      · rw [if_pos ⟨h3, h1⟩, if_pos ⟨h3, by omega⟩]
      · rw [if_neg (by omega), if_neg (by omega)]
    · by_cases h2 : i < k + c
      · rw [List.getElem?_append_left (by rw [List.length_append]; omega), List.getElem?_append_right (by omega), l1, List.getElem?_take, if_pos (by omega), if_pos ⟨by omega, h2⟩]
        have := runF_get F k y (i - k) (by omega)
        rw [List.getD_eq_getElem?_getD, List.getElem?_eq_getElem (by rw [runF_len]; omega)] at this
        rw [List.getElem?_eq_getElem (by rw [runF_len]; omega)]
        simp only [Option.getD_some] at this
        rw [this, show (k : Int) + ((i - k : Nat) : Int) = (i : Int) by omega]
      · rw [List.getElem?_append_right (by rw [List.length_append]; omega), List.getElem?_drop, List.length_append, l1, l2, show k + c + (i - (k + c)) = i by omega, fillK_get _ _ _ _ _ _ h, if_neg (by omega), if_neg (by omega)]
  · rw [List.getElem?_eq_none (by simp only [List.length_append, l1, l2, List.length_drop, fillK_len]; omega), List.getElem?_eq_none (by rw [fillK_len]; omega)]
theorem ints_aside {w w' : World} {A : Option Addr} {n g : Nat} {xs : List Int} {fp : List Nat} (h : Ints w A n xs fp) (k : Only [g] w w') (hb : ∀ b ∈ fp, b ≠ g) : Ints w' A n xs fp :=
  h.keep (.of_only k fun b hb' he => hb b hb' (by simpa using he))
def z32 : List Int := List.replicate 32 0
/-- copy into a row of the call's own, as one step of a region. -/
theorem step_copy {ops : Array Oper} {o : Oper} {a : Act} {w : World} {K : Act → World → Prop} {Q : Exit → Act → World → Prop} {E : Prop} (hg : o.guard = none) (d s : Operand)
    (ho : o.op = .call { callee := .builtin .copy, args := #[d, s], argTypes := #[31, 31] }) (g off dLen dCap : Nat) (ad : Addr) (sLen sCap : Nat) (hd : a.eval d = .slice (some ⟨g, off, none⟩) dLen dCap) (hs : a.eval s = .slice (some ad) sLen sCap)
    (cur : List Int) (t : TypeId) (hb : Box w g t (iv cur)) (cs : List Int) (m : Nat) (hm : cs.length = m) (hn : m = Nat.min sLen dLen) (hsrc : ∀ j v, (iv cs)[j]? = some v → w.cell? (ad.add j) = some v) (hfit : off + m ≤ cur.length) (res : List Int) (hres : cur.take off ++ cs ++ cur.drop (off + m) = res)
    (h : K (a.put o.dst (.int .i64 (m : Int))) (w.setRow g (iv res).toArray)) :
    if Region.wanted o (yielded ops a.tmps) = true then Oper.wp Try.prog o a w K Q else E := by
  subst hm hres
  have hw : Region.wanted o (yielded ops a.tmps) = true := by simp [Region.wanted, hg]
  rw [if_pos hw]
  have hrun := Go.run_copy_row (P := Try.prog) w 31 31 o.type 3 g off dLen dCap ad sLen sCap (iv cur).toArray t (iv cs) Try.underlying31 int_size hb (by simpa using hn) hsrc (by simpa using hfit) (iv_one cs)
  have e : ((iv cur).toArray.toList.take off ++ iv cs ++ (iv cur).toArray.toList.drop (off + (iv cs).length)).toArray = (iv (cur.take off ++ cs ++ cur.drop (off + cs.length))).toArray := by
    simp [List.map_append, List.map_take, List.map_drop]
  have el : (iv cs).length = cs.length := by simp
  rw [e, el] at hrun
  unfold Oper.wp execOp
  simp only [ho, resolve, invoke, builtin, Sem.run_bind, Sem.run_pure, Result.andThen_ok, List.map_toArray, List.map_cons, List.map_nil, hs, hd, hrun]
  exact h
theorem ints_head {w : World} {ad : Addr} {n m : Nat} {ys : List Int} {fp : List Nat} (h : Ints w (some ad) n ys fp) (hm : m ≤ n) : ∀ j u, (iv (ys.take m))[j]? = some u → w.cell? (ad.add j) = some u := by
  intro j u hu
  refine ints_news h j u ?_
  rw [← hu]
  have hj : j < m := by have := (List.getElem?_eq_some_iff.1 hu).1; simp at this; omega
  rw [List.getElem?_map, List.getElem?_map, List.getElem?_take, if_pos hj]
theorem fitN (r k m : Nat) (hr : 1 ≤ r) (hk : k < m) : ∃ cc, cc ≤ r ∧ k + cc ≤ m ∧ 1 ≤ cc ∧ cc = Nat.min r (m - k) :=
  ⟨min r (m - k), by omega, by omega, by omega, rfl⟩
theorem made32 : madeCells #[.int .i64 0] 32 = (iv (z32)).toArray := by kernel_rfl
theorem run_make32 (w : World) : (Instr.makeSlice 31 (.int .i64 32) (.int .i64 32)).run Try.prog w = .ok (.slice (some ⟨w.heap.size, 0, none⟩) 32 32) (w.alloc (.cells (iv (z32)).toArray 3)) := by
  have h := Go.run_make_row' (P := Try.prog) 31 3 (.int .i64 0) 8 Try.underlying31 infoInt rfl .i64 .i64 32 (by omega) (by omega) w
  rw [made32] at h
  exact h
theorem copied_box {w w' : World} {n g : Nat} {t : TypeId} {xs : List Int} (h : Box w' g t (iv xs)) (hl : xs.length = n) (hg : w.heap.size ≤ g) (hb : Below w.heap.size w w') : Copied xs n w (.returned (.slice (some ⟨g, 0, none⟩) n n)) w' := by
  by_cases h0 : n = 0
  · subst h0
    have : xs = [] := List.eq_nil_of_length_eq_zero hl
    subst this
    exact ⟨_, _, [], rfl, Nat.le_refl _, .nil _ _, .nil _ _, hb⟩
  · refine ⟨_, _, [g], rfl, Nat.le_refl _, ⟨hl, .inr ⟨by omega, g, 0, rfl, rfl, h.lt, fun i hi => ?_⟩⟩, .one hg h.lt h.frozen, hb⟩
    rw [Nat.zero_add, h.cell i]
    exact iv_at xs i (by omega)
theorem and_last {a b c : Bool} (h : b = c) : (a && b) = (a && c) := by rw [h]
end Go.Proofs.Ytfbpnneegenhgaa
