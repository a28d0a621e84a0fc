/- Touches: the first pixel at which sprite number 0 and the background are both seen; the program's and the model's. -/
import Derived.Test.YtacebhncecninaaScnI
namespace Go.Proofs.Ytacebhncecninaa
open Go.ChangeShapes Go.WideShapes Go.ChangeAt Go.RowKit
set_option linter.unusedVariables false

/-- Sprite number 0 and the background at a place. -/
def tchB (F : Fld) (S : List Spr) (x y : Int) : Bool := decide (0 < S.length) && decide (valF (S.getD 0 .zero) F.zs x y ≠ 0) && decide (pixF F x y ≠ 0)
def lineTch (F : Fld) (S : List Spr) (y : Int) : Option Nat := (List.range 32).find? fun x : Nat => tchB F S x y
def touK (F : Fld) (S : List Spr) (k : Nat) : Bool := tchB F S ((k % 32 : Nat) : Int) ((k / 32 : Nat) : Int)
def touF (F : Fld) (S : List Spr) : Option Nat := (List.range 512).find? (touK F S)
def touT (F : Fld) (S : List Spr) : Int := if scnB F S = true then noN (touF F S) else -1
theorem find_hit {n k : Nat} {p : Nat → Bool} (hk : k < n) (h1 : ∀ j, j < k → p j = false) (h2 : p k = true) : (List.range n).find? p = some k :=
  List.find?_range_eq_some.2 ⟨h2, List.mem_range.2 hk, fun j hj => by rw [h1 j hj]; rfl⟩
theorem find_miss {n : Nat} {p : Nat → Bool} (h1 : ∀ j, j < n → p j = false) : (List.range n).find? p = none :=
  List.find?_range_eq_none.2 fun j hj => by rw [h1 j hj]; rfl
theorem find_no {n : Nat} {p : Nat → Bool} (h : (List.range n).find? p = none) (j : Nat) (hj : j < n) : p j = false := by
  have := List.find?_range_eq_none.1 h j hj
  simpa using this
theorem find_yes {n k : Nat} {p : Nat → Bool} (h : (List.range n).find? p = some k) : k < n ∧ p k = true ∧ ∀ j, j < k → p j = false := by
  obtain ⟨h1, h2, h3⟩ := List.find?_range_eq_some.1 h
  exact ⟨List.mem_range.1 h2, h1, fun j hj => by simpa using h3 j hj⟩
theorem tou_none {F : Fld} {S : List Spr} (h : S.length = 0) : touF F S = none := find_miss fun j _ => by
  unfold touK tchB
  rw [h]
  rfl
/-- The dot of a place is that of sprite number 0 where it has a pixel. -/
theorem dot_first (S : List Spr) (zs : List Int) (y : Int) (x : Nat) : decide ((dotF S zs y (onF S y) x).1 = 0) = (decide (0 < S.length) && decide (valF (S.getD 0 .zero) zs x y ≠ 0)) := by
  rw [dotF_on]
  by_cases h : 0 < S.length ∧ valF (S.getD 0 .zero) zs x y ≠ 0
  · obtain ⟨hl, hv⟩ := h
    have hy : covB S y 0 = true := by
      cases e : covB S y 0
      · refine absurd ?_ hv
        unfold covB at e
        unfold valF
        rw [e]
        simp
      · rfl
    have ho : ∃ r, onF S y = 0 :: r := by
      obtain ⟨m, hm⟩ : ∃ m, S.length = m + 1 := ⟨S.length - 1, by omega⟩
      unfold onF allF onN
      rw [hm, List.range_succ_eq_map, List.filter_cons_of_pos hy]
      exact ⟨_, List.take_succ_cons ..⟩
    obtain ⟨r, hr⟩ := ho
    have ha : atF S zs x y = some 0 := by
      unfold atF
      rw [hr, List.find?_cons_of_pos (by simpa using hv)]
    rw [ha, decide_eq_true hl, decide_eq_true hv]
    rfl
  · have hr : (decide (0 < S.length) && decide (valF (S.getD 0 .zero) zs x y ≠ 0)) = false := by
      simpa using h
    rw [hr]
    cases e : atF S zs x y with
    | none => rfl
    | some k =>
      have hm := atF_some e
      have hkl := (onN_mem.1 (List.mem_of_mem_take hm.1)).1
      have hk : ¬ (k : Int) = 0 := fun h0 => by
        obtain rfl : k = 0 := by omega
        exact h ⟨hkl, hm.2⟩
      exact decide_eq_false hk
theorem tch_dot (F : Fld) (S : List Spr) (y : Int) (x : Nat) : tchB F S x y = (decide ((dotF S F.zs y (onF S y) x).1 = 0) && decide (pixF F x y ≠ 0)) := by
  rw [dot_first]
  rfl
theorem touK_line (F : Fld) (S : List Spr) (k i : Nat) (hi : i < 32) : touK F S (32 * k + i) = tchB F S i k := by
  unfold touK
  rw [show (32 * k + i) % 32 = i by omega, show (32 * k + i) / 32 = k by omega]
/-- A line without a touch; a line with one. -/
theorem tou_next {F : Fld} {S : List Spr} {k : Nat} (h : ∀ j, j < 32 * k → touK F S j = false) (hn : lineTch F S k = none) : ∀ j, j < 32 * (k + 1) → touK F S j = false := fun j hj => by
  by_cases e : j < 32 * k
  · exact h j e
  · obtain ⟨i, rfl⟩ : ∃ i, j = 32 * k + i := ⟨j - 32 * k, by omega⟩
    rw [touK_line F S k i (by omega)]
    exact find_no hn i (by omega)
theorem tou_at {F : Fld} {S : List Spr} {k x : Nat} (hk : k < 16) (h : ∀ j, j < 32 * k → touK F S j = false) (hn : lineTch F S k = some x) : x < 32 ∧ touF F S = some (32 * k + x) := by
  obtain ⟨h1, h2, h3⟩ := find_yes hn
  refine ⟨h1, find_hit (by omega) (fun j hj => ?_) (by rw [touK_line F S k x h1]; exact h2)⟩
  by_cases e : j < 32 * k
  · exact h j e
  · obtain ⟨i, rfl⟩ : ∃ i, j = 32 * k + i := ⟨j - 32 * k, by omega⟩
    rw [touK_line F S k i (by omega)]
    exact h3 i (by omega)
set_option maxRecDepth 100000 in
set_option maxHeartbeats 8000000 in
theorem im_touch (F : Fld) (A : Option Addr) (c : Nat) (T : Option Addr) (d : Nat) (S : List Spr) (O : Option Addr) (e0 : Nat) (fa ft fo : List Nat) (y : Int) (w : World) (h : SHas w A T O F S fa ft fo) (hs : SSmall F S) (hok : scnB F S = true) (y0 : 0 ≤ y) (y1 : y ≤ 15) :
    Calls Try.prog 79 #[sv F A c T d S O e0, .int .i64 y] w fun e w' => e = .returned (.int .i64 (noN (lineTch F S y))) ∧ Below w.heap.size w w' := by
  have BB := Lib.hid (below1 w (.cells #[.int .i64 F.w, .slice A F.xs.length c, .slice T F.nt d, .int .i64 F.sx, .int .i64 F.sy, .slice O S.length e0] 41))
  have X1 := Lib.hid (Box.new w #[.int .i64 F.w, .slice A F.xs.length c, .slice T F.nt d, .int .i64 F.sx, .int .i64 F.sy, .slice O S.length e0] 41)
  have H1 := Lib.hid (SHas.below h BB.out)
  have HS := Lib.hid hs
  have HW := Lib.hid h
  have hboth : fldB F = true ∧ sprB S F.nt F.zs = true := by unfold scnB at hok; rwa [Bool.and_eq_true] at hok
  have HOK := Lib.hid (fldB_iff.1 hboth.1)
  have HSP := Lib.hid hboth.2
  have HB7 := Lib.hid (fun x : Int => scF_b h.1.2.1 hok x y)
  clear h hs hok hboth
  go_enter Try.func79, Try.ntmps79
  go_upto_region 1 with (fail)
  generalize w.alloc (.cells #[.int .i64 F.w, .slice A F.xs.length c, .slice T F.nt d, .int .i64 F.sx, .int .i64 F.sy, .slice O S.length e0] 41) = w1 at X1 BB H1 ⊢
  generalize hbb : w.heap.size = bb at X1 ⊢
  have HBB := Lib.hid hbb
  clear hbb
  go_wp2_with (first | (refine sc_back (by rfl) _ rfl bb rfl X1.out ?_))
  refine (im_lineB F A c T d fa ft y _ H1.out.1 HOK.out y0 y1).mono ?_; rintro e w2 ⟨g, rfl, hg, hG, bl⟩
  have G2 := Lib.hid hG
  have X2 := Lib.hid (X1.out.below bl)
  have H2 := Lib.hid (H1.out.below bl)
  have B2 := Lib.hid (below_then BB.out bl)
  have HG : Hid (bb < g ∧ w.heap.size ≤ g) := Lib.hid (by have := X1.out.lt; have := HBB.out; omega)
  clear bl hG hg X1 H1 BB
  have k2 := X2.out.cell 2
  have k5 := X2.out.cell 5
  go_wp2_with fail
  clear k2 k5
  refine (im_drawAll O S.length e0 S fo T F.nt d F.zs ft y _ H2.out.2 H2.out.1.2 HS.out.2 HS.out.1.2 HSP.out).mono ?_
  rintro e w3 ⟨L, rfl, hl, bl⟩
  have G3 : Hid (Box w3 g 3 (iv (lineF F y))) := Lib.hid (G2.out.below bl)
  have X3 := Lib.hid (X2.out.below bl)
  have H3 := Lib.hid (H2.out.below bl)
  have B3 := Lib.hid (below_then B2.out bl)
  have hix := fun wq X hX => run_index_line wq L _ hl X hX
  have HIX := Lib.hid hix
  clear bl hl hix G2 X2 H2 B2
  go_wp2_with fail
  go_loopw [19] (fun i wr => ∃ k : Nat, k ≤ 32 ∧ i = .int .i64 k ∧ (∀ j, j < k → tchB F S (j : Int) y = false) ∧ Box wr g 3 (iv (lineF F y)) ∧ Below w.heap.size w wr) (fun i _ => 32 - (intOf i).toNat)
  case atStart => exact ⟨0, by omega, rfl, fun j hj => by omega, G3.out, B3.out⟩
  case round =>
    obtain ⟨k, hk, rfl, hall, hg3, hb⟩ := hrel
    have KR := Lib.hid hall
    have GR := Lib.hid hg3
    have BR := Lib.hid hb
    clear hall hg3 hb X3 G3 B3
    by_cases h32 : k < 32
    · have k32 : (k : Int) < 32 := by omega
      have hix := fun wq => HIX.out wq k h32
      have HTB := Lib.hid (tch_dot F S y k)
      have HL := Lib.hid (lineF_get F y k h32)
      have HIT : Hid (tchB F S (k : Int) y = true → lineTch F S y = some k) := Lib.hid fun h => find_hit h32 KR.out h
      have HNX : Hid (tchB F S (k : Int) y = false → ∀ j, j < k + 1 → tchB F S (j : Int) y = false) := Lib.hid fun h j hj => by
        by_cases e : j = k
        · subst e; exact h
        · exact KR.out j (by omega)
      generalize (dotF S F.zs y (onF S y) k).1 = a at hix HTB
      generalize (dotF S F.zs y (onF S y) k).2 = p at hix
      generalize pixF F k y = q at HTB HL
      generalize tchB F S (k : Int) y = tb at HTB HIT HNX
      go_upto_region 5 with (first | (refine dt_store (by rfl) _ _ rfl _ rfl a p rfl _ (Box.new _ _ _) (by rfl) ?_))
      obtain ⟨w4, hw4⟩ : ∃ w4, w4 = (wr.alloc (.cells #[.int .i64 0, .int .i64 0] 94)).setRow wr.heap.size #[.int .i64 a, .int .i64 p] := ⟨_, rfl⟩
      have hgl := GR.out.lt
      have D4 : Hid (Box w4 wr.heap.size 94 [.int .i64 a, .int .i64 p]) := Lib.hid (by rw [hw4]; exact Box.row (Box.new _ _ _))
      have G4 : Hid (Box w4 g 3 (iv (lineF F y))) := Lib.hid (by rw [hw4]; exact (GR.out.alloc _).rowFar (by omega))
      have B4 : Hid (Below w.heap.size w w4) := Lib.hid (by rw [hw4]; exact below_row (BR.out.alloc BR.out.size _) BR.out.size _)
      rw [← hw4]
      clear hw4
      generalize wr.heap.size = bd at D4 ⊢
      clear hgl hix HIX GR BR
      have d0 : w4.cell? ⟨bd, 0, none⟩ = some (.int .i64 a) := D4.out.cell 0
      have c1 : w4.cell? ⟨g, k, none⟩ = some (.int .i64 q) := by
        rw [G4.out.cell k, iv_at _ _ (by rw [lineF_len]; exact h32), HL.out]
      by_cases ha : a = 0
      · subst ha
        by_cases hq : q = 0
        · subst hq
          have HN := Lib.hid (HNX.out (by rw [HTB.out]; rfl))
          go_wp2_with fail
          go_roundw
          case rel => exact ⟨k + 1, by omega, by go_num, HN.out, G4.out, B4.out⟩
          case measure => simp [intOf]; omega
        · have hqd : decide (q = 0) = false := decide_eq_false hq
          have HH := Lib.hid (HIT.out (by rw [HTB.out]; simp [hq]))
          go_wp2_with fail
          go_ret
          exact ⟨ret_int (by rw [HH.out]; rfl), B4.out⟩
      · have had : decide (a = 0) = false := decide_eq_false ha
        have HN := Lib.hid (HNX.out (by rw [HTB.out, had]; rfl))
        go_wp2_with fail
        go_roundw
        case rel => exact ⟨k + 1, by omega, by go_num, HN.out, G4.out, B4.out⟩
        case measure => simp [intOf]; omega
    · obtain rfl : k = 32 := by omega
      have HM : Hid (lineTch F S y = none) := Lib.hid (find_miss KR.out)
      go_wp2_with fail
      go_ret
      exact ⟨ret_int (by rw [HM.out]; rfl), BR.out⟩
set_option maxHeartbeats 4000000 in
theorem im_scnTouch (F : Fld) (A : Option Addr) (c : Nat) (T : Option Addr) (d : Nat) (S : List Spr) (O : Option Addr) (e0 : Nat) (fa ft fo : List Nat) (w : World) (h : SHas w A T O F S fa ft fo) (hs : SSmall F S) :
    Calls Try.prog 37 #[sv F A c T d S O e0] w fun e w' => e = .returned (.int .i64 (touT F S)) ∧ Below w.heap.size w w' := by
  have BB := Lib.hid (below1 w (.cells #[.int .i64 F.w, .slice A F.xs.length c, .slice T F.nt d, .int .i64 F.sx, .int .i64 F.sy, .slice O S.length e0] 41))
  have X1 := Lib.hid (Box.new w #[.int .i64 F.w, .slice A F.xs.length c, .slice T F.nt d, .int .i64 F.sx, .int .i64 F.sy, .slice O S.length e0] 41)
  have H1 := Lib.hid (SHas.below h BB.out)
  have HS := Lib.hid hs
  clear h hs
  go_enter Try.func37, Try.ntmps37
  go_upto_region 1 with (fail)
  generalize w.alloc (.cells #[.int .i64 F.w, .slice A F.xs.length c, .slice T F.nt d, .int .i64 F.sx, .int .i64 F.sy, .slice O S.length e0] 41) = w1 at X1 BB H1 ⊢
  generalize hbb : w.heap.size = bb at X1 ⊢
  have HBB := Lib.hid hbb
  clear hbb
  go_wp2_with (first | (refine sc_load (by rfl) _ rfl bb rfl X1.out ?_))
  refine (im_scnValid F A c T d S O e0 fa ft fo _ H1.out HS.out).mono ?_; rintro e w2 ⟨rfl, bl⟩
  have X2 := Lib.hid (X1.out.below bl)
  have H2 := Lib.hid (H1.out.below bl)
  have B2 := Lib.hid (below_then BB.out bl)
  clear bl
  cases hv : scnB F S
  · have HT : Hid (touT F S = -1) := Lib.hid (by unfold touT; rw [hv]; rfl)
    clear hv
    go_wp2_with fail
    go_ret
    exact ⟨ret_int HT.out.symm, B2.out⟩
  have HV := Lib.hid hv
  have HT : Hid (touT F S = noN (touF F S)) := Lib.hid (by unfold touT; rw [if_pos hv])
  clear hv
  go_wp2_with fail
  go_loopw [8] (fun i wr => ∃ k : Nat, k ≤ 16 ∧ i = .int .i64 k ∧ (∀ j, j < 32 * k → touK F S j = false) ∧ Below w2.heap.size w2 wr) (fun i _ => 16 - (intOf i).toNat)
  case atStart => exact ⟨0, by omega, rfl, fun j hj => by omega, Below.refl _ _⟩
  case round =>
    obtain ⟨k, hk, rfl, hall, hb⟩ := hrel
    have KR := Lib.hid hall
    have BR := Lib.hid hb
    clear hall hb
    by_cases h16 : k < 16
    · have i16 : (k : Int) < 16 := by omega
      have XR := Lib.hid (X2.out.below BR.out)
      have HR := Lib.hid (H2.out.below BR.out)
      go_wp2_with (first | (refine sc_load (by rfl) _ rfl bb rfl XR.out ?_))
      refine (im_touch F A c T d S O e0 fa ft fo (k : Int) _ HR.out HS.out HV.out (by omega) (by omega)).mono ?_
      rintro e w3 ⟨rfl, bl⟩
      have B3 := Lib.hid (below_then BR.out bl)
      clear bl XR HR BR
      cases hl : lineTch F S (k : Int) with
      | none =>
        have HN := Lib.hid (tou_next KR.out hl)
        rw [show noN none = -1 from rfl]
        clear hl
        go_wp2_with fail
        go_roundw
        case rel => exact ⟨k + 1, by omega, by go_num, HN.out, B3.out⟩
        case measure => simp [intOf]; omega
      | some x =>
        have HA := Lib.hid (tou_at h16 KR.out hl)
        have hx := HA.out.1
        rw [show noN (some x) = (x : Int) from rfl]
        have hne : decide ((x : Int) = -1) = false := decide_eq_false (by omega)
        have w1' : IntKind.i64.wrap (32 * (k : Int)) = 32 * (k : Int) := by rw [IntKind.wrap_i64]; omega
        have w2' : IntKind.i64.wrap ((x : Int) + 32 * (k : Int)) = (x : Int) + 32 * (k : Int) := by rw [IntKind.wrap_i64]; omega
        clear hl
        go_wp2_with fail
        go_ret
        exact ⟨ret_int (by rw [HT.out, HA.out.2]; show _ = ((32 * k + x : Nat) : Int); omega), below_then B2.out B3.out⟩
    · obtain rfl : k = 16 := by omega
      have HM : Hid (touF F S = none) := Lib.hid (find_miss KR.out)
      go_wp2_with fail
      go_ret
      exact ⟨ret_int (by rw [HT.out, HM.out]; rfl), below_then B2.out BR.out⟩
section
variable {ops : Array Oper} {Q : Exit → Act → World → Prop} {T' : Nat → Value → World → Prop} {a0 : Act} {w0 : World} {i : Nat} {o : Oper}
/-- A scene's background is loaded. -/
theorem lb_scnBack (x : Operand) (b : Nat) {t : TypeId} {W : Int} {A : Option Addr} {n c : Nat} {T : Option Addr} {m d : Nat} {sx sy : Int} {O : Option Addr} {k e : Nat} (hop : o.op = .load 26 x) (hb : Box w0 b t (ccs W A n c T m d sx sy O k e)) (hw : ∀ (ρ : Operand → Value) w, PreR ops T' ρ w o.after.toList → wantV ops (slotR ρ) o = true)
    (h : ∀ (ρ : Operand → Value) w, (∀ n, (ops.toList.all fun o => o.dst != some n) = true → ρ (.tmp n) = a0.eval (.tmp n)) → PreR ops T' ρ w o.after.toList → ρ x = .pointer (some ⟨b, 0, none⟩) ∧ T' i (dstV o (fldV W A n c T m d sx sy)) w) : Ob Try.prog ops Q (ClB w0) RlB T' a0 i o :=
  lb_val (fldV W A n c T m d sx sy) hw fun ρ w hbl _ hx hp => by
    obtain ⟨h1, h2⟩ := h ρ w hx hp
    refine ⟨?_, h2⟩
    have hl := run_loadAt_mid (P := Try.prog) w b 0 26 (fcs W A n c T m d sx sy) _ (sc_part (hb.below hbl)) Try.underlying26 rfl fld_info
    unfold execOp
    simp only [hop, h1]
    simp only [Sem.run_bind, hl, Result.andThen_ok, Sem.run_pure]
end
set_option maxRecDepth 100000 in
set_option maxHeartbeats 4000000 in
theorem spec_scnTouch (F : Fld) (A : Option Addr) (c : Nat) (T : Option Addr) (d : Nat) (S : List Spr) (O : Option Addr) (e0 : Nat) (fa ft fo : List Nat) (w : World) (h : SHas w A T O F S fa ft fo) (hs : SSmall F S) :
    Calls Try.prog 38 #[sv F A c T d S O e0] w fun e w' => e = .returned (.int .i64 (touT F S)) ∧ Below w.heap.size w w' := by
  have BB := Lib.hid (below1 w (.cells #[.int .i64 F.w, .slice A F.xs.length c, .slice T F.nt d, .int .i64 F.sx, .int .i64 F.sy, .slice O S.length e0] 41))
  have X1 := Lib.hid (Box.new w #[.int .i64 F.w, .slice A F.xs.length c, .slice T F.nt d, .int .i64 F.sx, .int .i64 F.sy, .slice O S.length e0] 41)
  have H1 := Lib.hid (SHas.below h BB.out)
  have HS := Lib.hid hs
  clear h hs
  go_enter Try.func38, Try.ntmps38
  go_upto_region 1 with (fail)
  generalize w.alloc (.cells #[.int .i64 F.w, .slice A F.xs.length c, .slice T F.nt d, .int .i64 F.sx, .int .i64 F.sy, .slice O S.length e0] 41) = w1 at X1 BB H1 ⊢
  generalize hbb : w.heap.size = bb at X1 ⊢
  have HBB := Lib.hid hbb
  clear hbb
  go_wp2_with (first | (refine sc_load (by rfl) _ rfl bb rfl X1.out ?_))
  refine (spec_scnValid F A c T d S O e0 fa ft fo _ H1.out HS.out).mono ?_; rintro e w2 ⟨rfl, bl⟩
  have X2 := Lib.hid (X1.out.below bl)
  have H2 := Lib.hid (H1.out.below bl)
  have B2 := Lib.hid (below_then BB.out bl)
  clear bl
  cases hv : scnB F S
  · have HT : Hid (touT F S = -1) := Lib.hid (by unfold touT; rw [hv]; rfl)
    clear hv
    go_wp2_with fail
    go_ret
    exact ⟨ret_int HT.out.symm, B2.out⟩
  have hboth : fldB F = true ∧ sprB S F.nt F.zs = true := by unfold scnB at hv; rwa [Bool.and_eq_true] at hv
  have HOK := Lib.hid (fldB_iff.1 hboth.1)
  have HSP := Lib.hid (sprB_iff.1 hboth.2)
  have HT : Hid (touT F S = noN (touF F S)) := Lib.hid (by unfold touT; rw [if_pos hv])
  clear hv hboth
  have k5 := X2.out.cell 5
  by_cases hlen : 0 < S.length
  · have hl0 : decide ((S.length : Int) = 0) = false := decide_eq_false (by omega)
    have HL := Lib.hid hlen
    go_wp2_with fail
    clear k5 hl0
    go_loopw [3] (fun i wr => ∃ k : Nat, k ≤ 512 ∧ i = .int .i64 k ∧ (∀ j, j < k → touK F S j = false) ∧ Below w2.heap.size w2 wr) (fun i _ => 512 - (intOf i).toNat)
    case atStart => exact ⟨0, by omega, rfl, fun j hj => by omega, Below.refl _ _⟩
    case round =>
      obtain ⟨k, hk, rfl, hall, hb⟩ := hrel
      have KR := Lib.hid hall
      have BR := Lib.hid hb
      clear hall hb
      by_cases h5 : k < 512
      · have i5 : (k : Int) < 512 := by omega
        have XR := Lib.hid (X2.out.below BR.out)
        have HR := Lib.hid (H2.out.below BR.out)
        have HIT : Hid (touK F S k = true → touF F S = some k) := Lib.hid fun h => find_hit h5 KR.out h
        have HNX : Hid (touK F S k = false → ∀ j, j < k + 1 → touK F S j = false) := Lib.hid fun h j hj => by
          by_cases e : j = k
          · subst e; exact h
          · exact KR.out j (by omega)
        have HTB0 : Hid (touK F S k = (decide (valF (S.getD 0 .zero) F.zs ((k % 32 : Nat) : Int) ((k / 32 : Nat) : Int) ≠ 0) && decide (pixF F ((k % 32 : Nat) : Int) ((k / 32 : Nat) : Int) ≠ 0))) := Lib.hid (by unfold touK tchB; rw [decide_eq_true HL.out]; rfl)
        have hm32 : k % 32 < 32 := Nat.mod_lt _ (by omega)
        have hd32 : k / 32 < 16 := by omega
        have m1 : (k : Int).tmod 32 = ((k % 32 : Nat) : Int) := by rw [Int.tmod_eq_emod_of_nonneg (by omega)]; omega
        have q1 : (k : Int).tdiv 32 = ((k / 32 : Nat) : Int) := by rw [Int.tdiv_eq_ediv_of_nonneg (by omega)]; omega
        have m2 : IntKind.i64.wrap ((k % 32 : Nat) : Int) = ((k % 32 : Nat) : Int) := by rw [IntKind.wrap_i64]; omega
        have q2 : IntKind.i64.wrap ((k / 32 : Nat) : Int) = ((k / 32 : Nat) : Int) := by rw [IntKind.wrap_i64]; omega
        obtain ⟨p, o, rfl, _, hpl, hc⟩ := HR.out.2.at_ (by omega)
        have HOKS := Lib.hid (HSP.out.2.1 0 hlen)
        obtain ⟨s, hse⟩ : ∃ s, S.getD 0 .zero = s := ⟨_, rfl⟩
        have HSE := Lib.hid hse
        obtain ⟨v, hve⟩ : ∃ v, valF s F.zs ((k % 32 : Nat) : Int) ((k / 32 : Nat) : Int) = v := ⟨_, rfl⟩
        have HVE := Lib.hid hve
        obtain ⟨q, hqe⟩ : ∃ q, pixF F ((k % 32 : Nat) : Int) ((k / 32 : Nat) : Int) = q := ⟨_, rfl⟩
        have HQE := Lib.hid hqe
        rw [hse] at HOKS HTB0
        rw [hve, hqe] at HTB0
        clear hc hse hve hqe
        go_upto_region 8 with fail
        by_cases hv0 : v = 0
        · have HVD : Hid (decide (v = 0) = true) := Lib.hid (decide_eq_true hv0)
          have HN := Lib.hid (HNX.out (by rw [HTB0.out, hv0]; rfl))
          refine wp_region_typed (ClB wr) RlB (Ty [TV (.pointer (some ⟨bb, 5, none⟩)), TV (.slice (some ⟨p, o, none⟩) S.length e0), TV (.pointer (some ⟨p, o, none⟩)), TV (sprV s), TV (.pointer (some ⟨bb, 0, none⟩)), TV (.pointer (some ⟨bb, 2, none⟩)), TV (.slice T F.nt d), TV (.int .i64 ((k % 32 : Nat) : Int)), TV (.int .i64 ((k / 32 : Nat) : Int)), TV (.int .i64 v), TV (.bool false), TV (.bool false), TV undef, TV undef, TV undef, TV undef, TV undef, TV undef, TV (.bool false)])
            (by kernel_rfl) (by kernel_rfl) (stab_ty _ ⟨stabB_k _, stabB_k _, stabB_k _, stabB_k _, stabB_k _, stabB_k _, stabB_k _, stabB_k _, stabB_k _, stabB_k _, stabB_k _, stabB_k _, stabB_k _, stabB_k _, stabB_k _, stabB_k _, stabB_k _, stabB_k _, stabB_k _, trivial⟩) (Below.refl _ _).drew ?_ ?_
          · refine ⟨?_, ?_, ?_, ?_, ?_, ?_, ?_, ?_, ?_, ?_, ?_, ?_, ?_, ?_, ?_, ?_, ?_, ?_, ?_, trivial⟩
            · refine lb_val (.pointer (some ⟨bb, 5, none⟩)) (fun _ _ _ => want_none rfl) fun ρ wx hb hc hx hp => ⟨?_, rfl⟩
              have h1 : ρ (.tmp 1) = .pointer (some ⟨bb, 0, none⟩) := hx 1 rfl
              unfold execOp
              simp only [h1]
              clear h1 hx hp hc hb
              go_simp
            · refine lb_val (.slice (some ⟨p, o, none⟩) S.length e0) (fun _ _ _ => want_none rfl) fun ρ wx hb hc hx hp => ⟨?_, rfl⟩
              have h23 : ρ (.tmp 23) = .pointer (some ⟨bb, 5, none⟩) := hp.1 rfl
              have c1 : wx.cell? ⟨bb, 5, none⟩ = some (.slice (some ⟨p, o, none⟩) S.length e0) := (XR.out.below hb).cell 5
              unfold execOp
              simp only [h23]
              clear h23 hx hp hc hb
              go_simp
            · refine lb_val (.pointer (some ⟨p, o, none⟩)) (fun _ _ _ => want_none rfl) fun ρ wx hb hc hx hp => ⟨?_, rfl⟩
              have h24 : ρ (.tmp 24) = .slice (some ⟨p, o, none⟩) S.length e0 := hp.1 rfl
              have hk0 := hc (.int .i64 0)
              have hl0 : (0 : Int) < S.length := by omega
              unfold execOp
              simp only [h24, hk0]
              clear h24 hk0 hx hp hc hb
              go_simp
            · refine lb_sprm (.tmp 25) p o s rfl (fun wq hb => by have := spr_range (HR.out.2.below hb) hlen; rw [HSE.out] at this; simpa using this) (fun _ _ _ => want_none rfl) fun ρ wx hx hp => ⟨hp.1 rfl, rfl⟩
            · refine lb_val (.pointer (some ⟨bb, 0, none⟩)) (fun _ _ _ => want_none rfl) fun ρ wx hb hc hx hp => ⟨?_, rfl⟩
              have h1 : ρ (.tmp 1) = .pointer (some ⟨bb, 0, none⟩) := hx 1 rfl
              unfold execOp
              simp only [h1]
              clear h1 hx hp hc hb
              go_simp
            · refine lb_val (.pointer (some ⟨bb, 2, none⟩)) (fun _ _ _ => want_none rfl) fun ρ wx hb hc hx hp => ⟨?_, rfl⟩
              have h27 : ρ (.tmp 27) = .pointer (some ⟨bb, 0, none⟩) := hp.1 rfl
              unfold execOp
              simp only [h27]
              clear h27 hx hp hc hb
              go_simp
            · refine lb_val (.slice T F.nt d) (fun _ _ _ => want_none rfl) fun ρ wx hb hc hx hp => ⟨?_, rfl⟩
              have h28 : ρ (.tmp 28) = .pointer (some ⟨bb, 2, none⟩) := hp.1 rfl
              have c1 : wx.cell? ⟨bb, 2, none⟩ = some (.slice T F.nt d) := (XR.out.below hb).cell 2
              unfold execOp
              simp only [h28]
              clear h28 hx hp hc hb
              go_simp
            · exact lb_move (.tmp 4) (.inl rfl) (fun _ _ _ => want_none rfl) fun ρ wx hc hx hp => hx 4 rfl
            · exact lb_move (.tmp 5) (.inl rfl) (fun _ _ _ => want_none rfl) fun ρ wx hc hx hp => hx 5 rfl
            · refine lb_known _ _ _ (.int .i64 v) (fun _ _ => by simp [go_sem]) rfl (fun _ _ _ => want_none rfl) #[sprV s, .slice T F.nt d, .int .i64 ((k % 32 : Nat) : Int), .int .i64 ((k / 32 : Nat) : Int)] (fun wq hb => ?_) (fun ρ wx hc hx hp => ?_) (fun _ => rfl)
              · rw [← HVE.out]
                exact spec_val s T d F.nt F.zs ft _ _ wq (HR.out.1.2.below hb) HOKS.out HS.out.1.2 (by omega) (by omega)
              · have h0 : ρ (.tmp 26) = sprV s := hp.1 rfl
                have h1 : ρ (.tmp 29) = .slice T F.nt d := hp.2.1 rfl
                have h2 : ρ (.tmp 30) = .int .i64 ((k % 32 : Nat) : Int) := hp.2.2.1 rfl
                have h3 : ρ (.tmp 31) = .int .i64 ((k / 32 : Nat) : Int) := hp.2.2.2.1 rfl
                simp only [List.map_toArray, List.map_cons, List.map_nil, h0, h1, h2, h3]
            · refine lb_val (.bool false) (fun _ _ _ => want_none rfl) fun ρ wx hb hc hx hp => ⟨?_, rfl⟩
              have h32 : ρ (.tmp 32) = .int .i64 v := hp.1 rfl
              have hk0 := hc (.int .i64 0)
              have hvd : decide (v = 0) = true := HVD.out
              unfold execOp
              simp only [h32, hk0]
              clear h32 hk0 hx hp hc hb
              go_simp
            · exact lb_move (.tmp 33) (.inl rfl) (fun _ _ _ => want_none rfl) fun ρ wx hc hx hp => hp.1 rfl
            · exact lb_not (fun ρ wx hp => want_not 11 true 34 rfl rfl (hp.1 rfl)) (fun _ => rfl)
            · exact lb_not (fun ρ wx hp => want_not 11 true 34 rfl rfl (hp.2.1 rfl)) (fun _ => rfl)
            · exact lb_not (fun ρ wx hp => want_not 11 true 34 rfl rfl (hp.1 rfl)) (fun _ => rfl)
            · exact lb_not (fun ρ wx hp => want_not 11 true 34 rfl rfl (hp.1 rfl)) (fun _ => rfl)
            · exact lb_not (fun ρ wx hp => want_not 11 true 34 rfl rfl (hp.2.2.2.1 rfl)) (fun _ => rfl)
            · exact lb_not (fun ρ wx hp => want_not 11 true 34 rfl rfl (hp.2.1 rfl)) (fun _ => rfl)
            · exact lb_pick (.tmp 34) (.tmp 40) (.const (.bool false)) rfl false (fun _ _ _ => want_none rfl) fun ρ wx hc hp => ⟨hp.1 rfl, hc _⟩
          intro vs wx hI hF
          obtain ⟨-, -, -, -, -, -, -, -, -, -, -, -, -, -, -, -, -, -, h18, -⟩ := hF
          replace h18 : vs 18 = .bool false := h18
          have bl : Below wr.heap.size wr wx := hI
          simp only [putAll, Act.put, List.setIfInBounds_toArray, List.set_cons_zero, List.set_cons_succ, h18]
          clear hI h18
          have BX := Lib.hid (below_then BR.out bl)
          clear bl
          go_wp2_with fail
          go_roundw
          case rel => exact ⟨k + 1, by omega, by go_num, HN.out, BX.out⟩
          case measure => simp [intOf]; omega
        · have HVD : Hid (decide (v = 0) = false) := Lib.hid (decide_eq_false hv0)
          obtain ⟨qb, hqb⟩ : ∃ qb, decide (q ≠ 0) = qb := ⟨_, rfl⟩
          have HQD : Hid ((q != 0) = qb) := Lib.hid (by rw [← hqb]; by_cases h : q = 0 <;> simp [h])
          have HTB : Hid (touK F S k = qb) := Lib.hid (by rw [HTB0.out, hqb]; simp [hv0])
          clear hqb
          refine wp_region_typed (ClB wr) RlB (Ty [TV (.pointer (some ⟨bb, 5, none⟩)), TV (.slice (some ⟨p, o, none⟩) S.length e0), TV (.pointer (some ⟨p, o, none⟩)), TV (sprV s), TV (.pointer (some ⟨bb, 0, none⟩)), TV (.pointer (some ⟨bb, 2, none⟩)), TV (.slice T F.nt d), TV (.int .i64 ((k % 32 : Nat) : Int)), TV (.int .i64 ((k / 32 : Nat) : Int)), TV (.int .i64 v), TV (.bool true), TV (.bool true), TV (.pointer (some ⟨bb, 0, none⟩)), TV (fv F A c T d), TV (.int .i64 ((k % 32 : Nat) : Int)), TV (.int .i64 ((k / 32 : Nat) : Int)), TV (.int .i64 q), TV (.bool qb), TV (.bool qb)])
            (by kernel_rfl) (by kernel_rfl) (stab_ty _ ⟨stabB_k _, stabB_k _, stabB_k _, stabB_k _, stabB_k _, stabB_k _, stabB_k _, stabB_k _, stabB_k _, stabB_k _, stabB_k _, stabB_k _, stabB_k _, stabB_k _, stabB_k _, stabB_k _, stabB_k _, stabB_k _, stabB_k _, trivial⟩) (Below.refl _ _).drew ?_ ?_
          · refine ⟨?_, ?_, ?_, ?_, ?_, ?_, ?_, ?_, ?_, ?_, ?_, ?_, ?_, ?_, ?_, ?_, ?_, ?_, ?_, trivial⟩
            · refine lb_val (.pointer (some ⟨bb, 5, none⟩)) (fun _ _ _ => want_none rfl) fun ρ wx hb hc hx hp => ⟨?_, rfl⟩
              have h1 : ρ (.tmp 1) = .pointer (some ⟨bb, 0, none⟩) := hx 1 rfl
              unfold execOp
              simp only [h1]
              clear h1 hx hp hc hb
              go_simp
            · refine lb_val (.slice (some ⟨p, o, none⟩) S.length e0) (fun _ _ _ => want_none rfl) fun ρ wx hb hc hx hp => ⟨?_, rfl⟩
              have h23 : ρ (.tmp 23) = .pointer (some ⟨bb, 5, none⟩) := hp.1 rfl
              have c1 : wx.cell? ⟨bb, 5, none⟩ = some (.slice (some ⟨p, o, none⟩) S.length e0) := (XR.out.below hb).cell 5
              unfold execOp
              simp only [h23]
              clear h23 hx hp hc hb
              go_simp
            · refine lb_val (.pointer (some ⟨p, o, none⟩)) (fun _ _ _ => want_none rfl) fun ρ wx hb hc hx hp => ⟨?_, rfl⟩
              have h24 : ρ (.tmp 24) = .slice (some ⟨p, o, none⟩) S.length e0 := hp.1 rfl
              have hk0 := hc (.int .i64 0)
              have hl0 : (0 : Int) < S.length := by omega
              unfold execOp
              simp only [h24, hk0]
              clear h24 hk0 hx hp hc hb
              go_simp
            · refine lb_sprm (.tmp 25) p o s rfl (fun wq hb => by have := spr_range (HR.out.2.below hb) hlen; rw [HSE.out] at this; simpa using this) (fun _ _ _ => want_none rfl) fun ρ wx hx hp => ⟨hp.1 rfl, rfl⟩
            · refine lb_val (.pointer (some ⟨bb, 0, none⟩)) (fun _ _ _ => want_none rfl) fun ρ wx hb hc hx hp => ⟨?_, rfl⟩
              have h1 : ρ (.tmp 1) = .pointer (some ⟨bb, 0, none⟩) := hx 1 rfl
              unfold execOp
              simp only [h1]
              clear h1 hx hp hc hb
              go_simp
            · refine lb_val (.pointer (some ⟨bb, 2, none⟩)) (fun _ _ _ => want_none rfl) fun ρ wx hb hc hx hp => ⟨?_, rfl⟩
              have h27 : ρ (.tmp 27) = .pointer (some ⟨bb, 0, none⟩) := hp.1 rfl
              unfold execOp
              simp only [h27]
              clear h27 hx hp hc hb
              go_simp
            · refine lb_val (.slice T F.nt d) (fun _ _ _ => want_none rfl) fun ρ wx hb hc hx hp => ⟨?_, rfl⟩
              have h28 : ρ (.tmp 28) = .pointer (some ⟨bb, 2, none⟩) := hp.1 rfl
              have c1 : wx.cell? ⟨bb, 2, none⟩ = some (.slice T F.nt d) := (XR.out.below hb).cell 2
              unfold execOp
              simp only [h28]
              clear h28 hx hp hc hb
              go_simp
            · exact lb_move (.tmp 4) (.inl rfl) (fun _ _ _ => want_none rfl) fun ρ wx hc hx hp => hx 4 rfl
            · exact lb_move (.tmp 5) (.inl rfl) (fun _ _ _ => want_none rfl) fun ρ wx hc hx hp => hx 5 rfl
            · refine lb_known _ _ _ (.int .i64 v) (fun _ _ => by simp [go_sem]) rfl (fun _ _ _ => want_none rfl) #[sprV s, .slice T F.nt d, .int .i64 ((k % 32 : Nat) : Int), .int .i64 ((k / 32 : Nat) : Int)] (fun wq hb => ?_) (fun ρ wx hc hx hp => ?_) (fun _ => rfl)
              · rw [← HVE.out]
                exact spec_val s T d F.nt F.zs ft _ _ wq (HR.out.1.2.below hb) HOKS.out HS.out.1.2 (by omega) (by omega)
              · have h0 : ρ (.tmp 26) = sprV s := hp.1 rfl
                have h1 : ρ (.tmp 29) = .slice T F.nt d := hp.2.1 rfl
                have h2 : ρ (.tmp 30) = .int .i64 ((k % 32 : Nat) : Int) := hp.2.2.1 rfl
                have h3 : ρ (.tmp 31) = .int .i64 ((k / 32 : Nat) : Int) := hp.2.2.2.1 rfl
                simp only [List.map_toArray, List.map_cons, List.map_nil, h0, h1, h2, h3]
            · refine lb_val (.bool true) (fun _ _ _ => want_none rfl) fun ρ wx hb hc hx hp => ⟨?_, rfl⟩
              have h32 : ρ (.tmp 32) = .int .i64 v := hp.1 rfl
              have hk0 := hc (.int .i64 0)
              have hvd : decide (v = 0) = false := HVD.out
              unfold execOp
              simp only [h32, hk0]
              clear h32 hk0 hx hp hc hb
              go_simp
            · exact lb_move (.tmp 33) (.inl rfl) (fun _ _ _ => want_none rfl) fun ρ wx hc hx hp => hp.1 rfl
            · refine lb_val (.pointer (some ⟨bb, 0, none⟩)) (fun ρ wx hp => want_of 11 true 34 rfl rfl (hp.1 rfl)) fun ρ wx hb hc hx hp => ⟨?_, rfl⟩
              have h1 : ρ (.tmp 1) = .pointer (some ⟨bb, 0, none⟩) := hx 1 rfl
              unfold execOp
              simp only [h1]
              clear h1 hx hp hc hb
              go_simp
            · exact lb_scnBack (.tmp 35) bb rfl XR.out (fun ρ wx hp => want_of 11 true 34 rfl rfl (hp.2.1 rfl)) fun ρ wx hx hp => ⟨hp.1 rfl, rfl⟩
            · exact lb_move (.tmp 4) (.inl rfl) (fun ρ wx hp => want_of 11 true 34 rfl rfl (hp.1 rfl)) fun ρ wx hc hx hp => hx 4 rfl
            · exact lb_move (.tmp 5) (.inl rfl) (fun ρ wx hp => want_of 11 true 34 rfl rfl (hp.1 rfl)) fun ρ wx hc hx hp => hx 5 rfl
            · refine lb_known _ _ _ (.int .i64 q) (fun _ _ => by simp [go_sem]) rfl (fun ρ wx hp => want_of 11 true 34 rfl rfl (hp.2.2.2.1 rfl)) #[fv F A c T d, .int .i64 ((k % 32 : Nat) : Int), .int .i64 ((k / 32 : Nat) : Int)] (fun wq hb => ?_) (fun ρ wx hc hx hp => ?_) (fun _ => rfl)
              · rw [← HQE.out]
                exact spec_pix F A c T d fa ft _ _ wq (HR.out.1.below hb) HOK.out (by omega) (by omega) (by omega) (by omega)
              · have h0 : ρ (.tmp 36) = fv F A c T d := hp.1 rfl
                have h2 : ρ (.tmp 37) = .int .i64 ((k % 32 : Nat) : Int) := hp.2.1 rfl
                have h3 : ρ (.tmp 38) = .int .i64 ((k / 32 : Nat) : Int) := hp.2.2.1 rfl
                simp only [List.map_toArray, List.map_cons, List.map_nil, h0, h2, h3]
            · refine lb_val (.bool qb) (fun ρ wx hp => want_of 11 true 34 rfl rfl (hp.2.1 rfl)) fun ρ wx hb hc hx hp => ⟨?_, rfl⟩
              have h39 : ρ (.tmp 39) = .int .i64 q := hp.1 rfl
              have hk0 := hc (.int .i64 0)
              have hqd : (q != 0) = qb := HQD.out
              unfold execOp
              simp only [h39, hk0]
              clear h39 hk0 hx hp hc hb
              go_simp
            · exact lb_pick (.tmp 34) (.tmp 40) (.const (.bool false)) rfl true (fun _ _ _ => want_none rfl) fun ρ wx hc hp => ⟨hp.1 rfl, hp.2.1 rfl⟩
          intro vs wx hI hF
          obtain ⟨-, -, -, -, -, -, -, -, -, -, -, -, -, -, -, -, -, -, h18, -⟩ := hF
          replace h18 : vs 18 = .bool qb := h18
          have bl : Below wr.heap.size wr wx := hI
          simp only [putAll, Act.put, List.setIfInBounds_toArray, List.set_cons_zero, List.set_cons_succ, h18]
          clear hI h18
          have BX := Lib.hid (below_then BR.out bl)
          clear bl
          cases qb
          · have HN := Lib.hid (HNX.out HTB.out)
            go_wp2_with fail
            go_roundw
            case rel => exact ⟨k + 1, by omega, by go_num, HN.out, BX.out⟩
            case measure => simp [intOf]; omega
          · have HH := Lib.hid (HIT.out HTB.out)
            go_wp2_with fail
            go_ret
            exact ⟨ret_int (by rw [HT.out, HH.out]; rfl), below_then B2.out BX.out⟩
      · obtain rfl : k = 512 := by omega
        have HM : Hid (touF F S = none) := Lib.hid (find_miss KR.out)
        go_wp2_with fail
        go_ret
        exact ⟨ret_int (by rw [HT.out, HM.out]; rfl), below_then B2.out BR.out⟩
  · have hl0 : S.length = 0 := by omega
    have HM := Lib.hid (tou_none (F := F) hl0)
    rw [hl0] at k5
    go_wp2_with fail
    go_ret
    exact ⟨ret_int (by rw [HT.out, HM.out]; rfl), B2.out⟩
end Go.Proofs.Ytacebhncecninaa
