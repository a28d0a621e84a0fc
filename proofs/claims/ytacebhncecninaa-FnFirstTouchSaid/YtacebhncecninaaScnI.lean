/- The program's scenes: what is seen, a line composed from two buffers, pixels, lines and numbers. -/
import Derived.Test.YtacebhncecninaaScnS
import Derived.Test.YtacebhncecninaaSprT
namespace Go.Proofs.Ytacebhncecninaa
open Go.ChangeShapes Go.WideShapes Go.ChangeAt Go.RowKit
set_option linter.unusedVariables false

/-- Whether a dot is seen in front of a pixel of the background. -/
def seenB (S : List Spr) (a b : Int) : Bool := decide (a ≠ -1) && (decide (b = 0) || !(S.getD a.toNat .zero).bh)
theorem seen_none (S : List Spr) (b : Int) : seenB S (-1) b = false := by simp [seenB]
theorem seen_some (S : List Spr) (k : Nat) (b : Int) : seenB S k b = (decide (b = 0) || !(S.getD k .zero).bh) := by
  have h : ((k : Int) ≠ -1) := by omega
  simp [seenB, h]
theorem put_sc (F : Fld) (S : List Spr) (x : Nat) (y : Int) : (if seenB S (dotF S F.zs y (onF S y) x).1 (pixF F x y) = true then 4 + (dotF S F.zs y (onF S y) x).2 else pixF F x y) = scF F S x y := by
  rw [dotF_on]
  unfold scF
  cases atF S F.zs x y with
  | none => simp [atR, seen_none, mixF]
  | some k =>
    rw [mixF_some]
    simp only [atR, seen_some]
    by_cases h0 : pixF F x y = 0 <;> cases (S.getD k .zero).bh <;> simp [h0]
theorem dot_num (S : List Spr) (zs : List Int) (y : Int) (x : Nat) : (dotF S zs y (onF S y) x).1 = -1 ∨ ∃ k : Nat, k < S.length ∧ (dotF S zs y (onF S y) x).1 = k := by
  rw [dotF_on]
  cases h : atF S zs x y with
  | none => exact .inl rfl
  | some k => exact .inr ⟨k, (onN_mem.1 (List.mem_of_mem_take (atF_some h).1)).1, rfl⟩
/-- The background's line, composed up to a column. -/
def cmpK (F : Fld) (S : List Spr) (y : Int) (k : Nat) : List Int := (List.range 32).map fun j : Nat => if j < k then scF F S j y else pixF F j y
theorem cmpK_len (F : Fld) (S : List Spr) (y : Int) (k : Nat) : (cmpK F S y k).length = 32 := by simp [cmpK]
theorem cmpK_at (F : Fld) (S : List Spr) (y : Int) (k i : Nat) (h : i < 32) : (cmpK F S y k)[i]? = some (if i < k then scF F S i y else pixF F i y) := by
  unfold cmpK
  rw [List.getElem?_map, List.getElem?_range h]
  rfl
theorem cmpK_get (F : Fld) (S : List Spr) (y : Int) (k : Nat) (h : k < 32) : (cmpK F S y k).getD k 0 = pixF F k y := by
  rw [List.getD_eq_getElem?_getD, cmpK_at F S y k k h, if_neg (Nat.lt_irrefl k)]
  rfl
theorem cmpK_zero (F : Fld) (S : List Spr) (y : Int) : cmpK F S y 0 = lineF F y := by unfold cmpK lineF; simp
theorem cmpK_all (F : Fld) (S : List Spr) (y : Int) : cmpK F S y 32 = scL F S y := by
  unfold cmpK scL
  refine List.map_congr_left fun x hx => ?_
  rw [if_pos (List.mem_range.1 hx)]
theorem cmpK_set (F : Fld) (S : List Spr) (y : Int) (k : Nat) (h : k < 32) : (cmpK F S y k).set k (scF F S k y) = cmpK F S y (k + 1) := by
  apply List.ext_getElem?
  intro i
  rw [List.getElem?_set, cmpK_len, if_pos h]
  by_cases hi : i < 32
  · rw [cmpK_at F S y k i hi, cmpK_at F S y (k + 1) i hi]
    by_cases e : k = i
    · subst e
      simp
    · rw [if_neg e]
      by_cases hlt : i < k
      · rw [if_pos hlt, if_pos (by omega)]
      · rw [if_neg hlt, if_neg (by omega)]
  · rw [if_neg (by omega), List.getElem?_eq_none (by rw [cmpK_len]; omega), List.getElem?_eq_none (by rw [cmpK_len]; omega)]
theorem cmpK_keep (F : Fld) (S : List Spr) (y : Int) (k : Nat) (h : k < 32) (e : pixF F k y = scF F S k y) : cmpK F S y k = cmpK F S y (k + 1) := by
  rw [← cmpK_set F S y k h, ← e]
  apply List.ext_getElem?
  intro i
  rw [List.getElem?_set, cmpK_len, if_pos h]
  by_cases e2 : k = i
  · subst e2
    rw [if_pos rfl, cmpK_at F S y k k h, if_neg (Nat.lt_irrefl k)]
  · rw [if_neg e2]
/-- The pixels of a dot in memory. -/
theorem dt_info : (Try.prog.info? 94).map (·.size) = some 2 := by kernel_rfl
section
variable {ops : Array Oper} {rest : List Oper} {o : Oper} {a : Act} {w : World} {Q : Exit → Act → World → Prop}
theorem dt_store {t : TypeId} (hw : Region.wanted o (yielded ops a.tmps) = true) (x y : Operand) (ho : o.op = .store 94 x y) (b : Nat) (hx : a.eval x = .pointer (some ⟨b, 0, none⟩)) (u p : Int) (hy : a.eval y = .agg #[.int .i64 u, .int .i64 p]) (cs : List Value) (hb : Box w b t cs) (hc : cs.length = 2)
    (h : wpList Try.prog ops Q rest (a.put o.dst undef) (w.setRow b #[.int .i64 u, .int .i64 p])) : wpList Try.prog ops Q (o :: rest) a w :=
  wpList_step fun K hK => by
    rw [if_pos hw]
    exact wp_store_row _ x y ho b #[.int .i64 u, .int .i64 p] hx hy t cs.toArray hb dt_info (by show cs.toArray.size = 2; simpa using hc) (by simp [Value.oneCell']) (hK _ _ h)
end
section
variable {ops : Array Oper} {Q : Exit → Act → World → Prop} {T' : Nat → Value → World → Prop} {a0 : Act} {w0 : World} {i : Nat} {o : Oper}
theorem lb_dot (x : Operand) (b : Nat) {t : TypeId} (u p : Int) (hop : o.op = .load 94 x) (hb : Box w0 b t [.int .i64 u, .int .i64 p]) (hw : ∀ (ρ : Operand → Value) w, PreR ops T' ρ w o.after.toList → wantV ops (slotR ρ) o = true)
    (h : ∀ (ρ : Operand → Value) w, (∀ n, (ops.toList.all fun o => o.dst != some n) = true → ρ (.tmp n) = a0.eval (.tmp n)) → PreR ops T' ρ w o.after.toList → ρ x = .pointer (some ⟨b, 0, none⟩) ∧ T' i (dstV o (.agg #[.int .i64 u, .int .i64 p])) w) : Ob Try.prog ops Q (ClB w0) RlB T' a0 i o :=
  lb_val (.agg #[.int .i64 u, .int .i64 p]) hw fun ρ w hbl _ hx hp => by
    obtain ⟨h1, h2⟩ := h ρ w hx hp
    refine ⟨?_, h2⟩
    have hl := run_loadVar_row (P := Try.prog) w b t 94 #[.int .i64 u, .int .i64 p] (0, 0) _ (hb.below hbl) Try.underlying94 rfl dt_info
    unfold execOp
    simp only [hop, h1, Instr.loadAt, Instr.sureAddr, Sem.run_bind, Sem.run_pure, Result.andThen_ok, hl]
end
set_option maxHeartbeats 2000000 in
theorem im_scnValid (F : Fld) (A : Option Addr) (c : Nat) (T : Option Addr) (d : Nat) (S : List Spr) (O : Option Addr) (e0 : Nat) (fa ft fo : List Nat) (w : World) (h : SHas w A T O F S fa ft fo) (hs : SSmall F S) :
    Calls Try.prog 73 #[sv F A c T d S O e0] w fun e w' => e = .returned (.bool (scnB F S)) ∧ Below w.heap.size w w' := by
  have BB := Lib.hid (below1 w (.cells #[.int .i64 F.w, .slice A F.xs.length c, .slice T F.nt d, .int .i64 F.sx, .int .i64 F.sy, .slice O S.length e0] 41))
  have X1 := Lib.hid (Box.new w #[.int .i64 F.w, .slice A F.xs.length c, .slice T F.nt d, .int .i64 F.sx, .int .i64 F.sy, .slice O S.length e0] 41)
  have H1 := Lib.hid (SHas.below h BB.out)
  have HS := Lib.hid hs
  clear h hs
  go_enter Try.func73, Try.ntmps73
  go_upto_region 1 with (fail)
  generalize w.alloc (.cells #[.int .i64 F.w, .slice A F.xs.length c, .slice T F.nt d, .int .i64 F.sx, .int .i64 F.sy, .slice O S.length e0] 41) = w1 at X1 BB H1 ⊢
  generalize hbb : w.heap.size = bb at X1 ⊢
  have HBB := Lib.hid hbb
  clear hbb
  go_wp2_with (first | (refine sc_back (by rfl) _ rfl bb rfl X1.out ?_))
  refine (im_fieldValid F A c T d fa ft _ H1.out.1 HS.out.1).mono ?_; rintro e w2 ⟨rfl, bl⟩
  have X2 := Lib.hid (X1.out.below bl)
  have H2 := Lib.hid (H1.out.below bl)
  have B2 := Lib.hid (below_then BB.out bl)
  clear bl
  cases hv : fldB F
  · have HT : Hid (scnB F S = false) := Lib.hid (by unfold scnB; rw [hv]; rfl)
    clear hv
    go_wp2_with fail
    go_ret
    exact ⟨ret_bool HT.out.symm, B2.out⟩
  · have HT : Hid (scnB F S = sprB S F.nt F.zs) := Lib.hid (by unfold scnB; rw [hv]; rfl)
    clear hv
    have k2 := X2.out.cell 2
    have k5 := X2.out.cell 5
    go_wp2_with fail
    clear k2 k5
    refine (im_sprValid O S.length e0 S fo T F.nt d F.zs ft _ H2.out.2 H2.out.1.2 HS.out.2 HS.out.1.2).mono ?_; rintro e w3 ⟨rfl, bl⟩
    rw [← HT.out]
    have X3 := Lib.hid (X2.out.below bl)
    have H3 := Lib.hid (H2.out.below bl)
    have B3 := Lib.hid (below_then B2.out bl)
    clear bl
    go_wp2_with fail
    go_ret
    exact ⟨rfl, B3.out⟩
set_option maxHeartbeats 2000000 in
theorem im_isSeen (F : Fld) (A : Option Addr) (c : Nat) (T : Option Addr) (d : Nat) (S : List Spr) (O : Option Addr) (e0 : Nat) (fo : List Nat) (a p b : Int) (w : World) (hS : Sprs w O S.length S fo) (hn : S.length ≤ 1000000000) (ha : a = -1 ∨ ∃ k : Nat, k < S.length ∧ a = k) :
    Calls Try.prog 103 #[sv F A c T d S O e0, .agg #[.int .i64 a, .int .i64 p], .int .i64 b] w fun e w' => e = .returned (.bool (seenB S a b)) ∧ Below w.heap.size w w' := by
  obtain ⟨w1, hw1⟩ : ∃ w1, w1 = (w.alloc (.cells #[.int .i64 F.w, .slice A F.xs.length c, .slice T F.nt d, .int .i64 F.sx, .int .i64 F.sy, .slice O S.length e0] 41)).alloc (.cells #[.int .i64 a, .int .i64 p] 94) := ⟨_, rfl⟩
  have X1 : Hid (Box w1 w.heap.size 41 (ccs F.w A F.xs.length c T F.nt d F.sx F.sy O S.length e0)) := Lib.hid (by rw [hw1]; exact (Box.new w _ _).alloc _)
  have Y1 : Hid (Box w1 (w.heap.size + 1) 94 [.int .i64 a, .int .i64 p]) := Lib.hid (by rw [hw1]; exact Box.new_at _ _ _ _ (by simp))
  have B1 : Hid (Below w.heap.size w w1) := Lib.hid (by rw [hw1]; exact below2 w _ _)
  have S1 := Lib.hid (hS.below B1.out)
  clear hS
  go_enter Try.func103, Try.ntmps103
  go_upto_region 1 with (fail)
  rw [← hw1]
  clear hw1
  rcases ha with rfl | ⟨k, hk, rfl⟩
  · have d0 : w1.cell? ⟨w.heap.size + 1, 0, none⟩ = some (.int .i64 (-1)) := Y1.out.cell 0
    go_wp2_with fail
    go_ret
    exact ⟨ret_bool (seen_none S b).symm, B1.out⟩
  · have d0 : w1.cell? ⟨w.heap.size + 1, 0, none⟩ = some (.int .i64 k) := Y1.out.cell 0
    have hne : ¬ (k : Int) = -1 := by omega
    have hned : decide ((k : Int) = -1) = false := decide_eq_false hne
    have HE := Lib.hid (seen_some S k b)
    obtain ⟨q, o, rfl, _, hpl, hc⟩ := S1.out.at_ (by omega)
    have c5 : w1.cell? ⟨q, o + k * 6 + 5, none⟩ = some (.bool (S.getD k .zero).bh) := by
      have := hc k hk 5 (.bool (S.getD k .zero).bh) rfl
      rwa [show o + (6 * k + 5) = o + k * 6 + 5 by omega] at this
    generalize (S.getD k .zero).bh = bh at c5 HE
    have k5 : w1.cell? ⟨w.heap.size, 5, none⟩ = some (.slice (some ⟨q, o, none⟩) S.length e0) := X1.out.cell 5
    have hkS : (k : Int) < S.length := by omega
    have hk0 : ¬ (k : Int) < 0 := by omega
    clear hc
    by_cases hb : b = 0
    · subst hb
      go_wp2_with fail
      go_ret
      exact ⟨ret_bool (by rw [HE.out]; simp), B1.out⟩
    · have hbd : decide (b = 0) = false := by simpa using hb
      go_wp2_with fail
      go_ret
      exact ⟨ret_bool (by rw [HE.out]; simp [hb]), B1.out⟩
set_option maxRecDepth 100000 in
set_option maxHeartbeats 8000000 in
theorem im_scnComp (F : Fld) (A : Option Addr) (c : Nat) (T : Option Addr) (d : Nat) (S : List Spr) (O : Option Addr) (e0 : Nat) (fa ft fo : List Nat) (y : Int) (w : World) (h : SHas w A T O F S fa ft fo) (hs : SSmall F S) (hok : scnB F S = true) (y0 : 0 ≤ y) (y1 : y ≤ 15) :
    Calls Try.prog 74 #[sv F A c T d S O e0, .int .i64 y] w (Copied (scL F S y) 32 w) := by
  have BB := Lib.hid (below1 w (.cells #[.int .i64 F.w, .slice A F.xs.length c, .slice T F.nt d, .int .i64 F.sx, .int .i64 F.sy, .slice O S.length e0] 41))
  have X1 := Lib.hid (Box.new w #[.int .i64 F.w, .slice A F.xs.length c, .slice T F.nt d, .int .i64 F.sx, .int .i64 F.sy, .slice O S.length e0] 41)
  have H1 := Lib.hid (SHas.below h BB.out)
  have HS := Lib.hid hs
  have HW := Lib.hid h
  have hboth : fldB F = true ∧ sprB S F.nt F.zs = true := by unfold scnB at hok; rwa [Bool.and_eq_true] at hok
  have HOK := Lib.hid (fldB_iff.1 hboth.1)
  have HSP := Lib.hid hboth.2
  have HB7 := Lib.hid (fun x : Int => scF_b h.1.2.1 hok x y)
  clear h hs hok hboth
  go_enter Try.func74, Try.ntmps74
  go_upto_region 1 with (fail)
  generalize w.alloc (.cells #[.int .i64 F.w, .slice A F.xs.length c, .slice T F.nt d, .int .i64 F.sx, .int .i64 F.sy, .slice O S.length e0] 41) = w1 at X1 BB H1 ⊢
  generalize hbb : w.heap.size = bb at X1 ⊢
  have HBB := Lib.hid hbb
  clear hbb
  go_wp2_with (first | (refine sc_back (by rfl) _ rfl bb rfl X1.out ?_))
  refine (im_lineB F A c T d fa ft y _ H1.out.1 HOK.out y0 y1).mono ?_; rintro e w2 ⟨g, rfl, hg, hG, bl⟩
  have G2 := Lib.hid hG
  have X2 := Lib.hid (X1.out.below bl)
  have H2 := Lib.hid (H1.out.below bl)
  have B2 := Lib.hid (below_then BB.out bl)
  have HG : Hid (bb < g ∧ w.heap.size ≤ g) := Lib.hid (by have := X1.out.lt; have := HBB.out; omega)
  clear bl hG hg X1 H1 BB
  have k2 := X2.out.cell 2
  have k5 := X2.out.cell 5
  go_wp2_with fail
  clear k2 k5
  refine (im_drawAll O S.length e0 S fo T F.nt d F.zs ft y _ H2.out.2 H2.out.1.2 HS.out.2 HS.out.1.2 HSP.out).mono ?_
  rintro e w3 ⟨L, rfl, hl, bl⟩
  have G3 : Hid (Box w3 g 3 (iv (cmpK F S y 0))) := Lib.hid (by rw [cmpK_zero]; exact G2.out.below bl)
  have X3 := Lib.hid (X2.out.below bl)
  have H3 := Lib.hid (H2.out.below bl)
  have B3 := Lib.hid (below_then B2.out bl)
  have hix := fun wq X hX => run_index_line wq L _ hl X hX
  have HIX := Lib.hid hix
  clear bl hl hix G2 X2 H2 B2
  go_wp2_with fail
  go_loopw [19] (fun i wr => ∃ k : Nat, k ≤ 32 ∧ i = .int .i64 k ∧ Box wr bb 41 (ccs F.w A F.xs.length c T F.nt d F.sx F.sy O S.length e0) ∧ Box wr g 3 (iv (cmpK F S y k)) ∧ Below w.heap.size w wr) (fun i _ => 32 - (intOf i).toNat)
  case atStart => exact ⟨0, by omega, rfl, X3.out, G3.out, B3.out⟩
  case round =>
    obtain ⟨k, hk, rfl, hx, hg3, hb⟩ := hrel
    have XR := Lib.hid hx
    have GR := Lib.hid hg3
    have BR := Lib.hid hb
    clear hx hg3 hb X3 G3 B3
    by_cases h32 : k < 32
    · have k32 : (k : Int) < 32 := by omega
      have hix := fun wq => HIX.out wq k h32
      have HSN := Lib.hid (put_sc F S k y)
      have HDN := Lib.hid (dot_num S F.zs y k)
      have hc7 := HB7.out k
      have HC := Lib.hid (cmpK_get F S y k h32)
      have HSET := Lib.hid (cmpK_set F S y k h32)
      have HKP := Lib.hid (cmpK_keep F S y k h32)
      generalize (dotF S F.zs y (onF S y) k).1 = a at hix HSN HDN
      generalize (dotF S F.zs y (onF S y) k).2 = p at hix HSN
      generalize pixF F k y = q at HSN HC HKP
      generalize scF F S k y = v at HSN HC HSET HKP hc7
      have c1 : wr.cell? ⟨g, k, none⟩ = some (.int .i64 q) := by
        rw [GR.out.cell k, iv_at _ _ (by rw [cmpK_len]; exact h32), HC.out]
      go_upto_region 5 with (first | (refine dt_store (by rfl) _ _ rfl _ rfl a p rfl _ (Box.new _ _ _) (by rfl) ?_))
      obtain ⟨w4, hw4⟩ : ∃ w4, w4 = (wr.alloc (.cells #[.int .i64 0, .int .i64 0] 94)).setRow wr.heap.size #[.int .i64 a, .int .i64 p] := ⟨_, rfl⟩
      have hgl := GR.out.lt
      have hxl := XR.out.lt
      have D4 : Hid (Box w4 wr.heap.size 94 [.int .i64 a, .int .i64 p]) := Lib.hid (by rw [hw4]; exact Box.row (Box.new _ _ _))
      have G4 : Hid (Box w4 g 3 (iv (cmpK F S y k))) := Lib.hid (by rw [hw4]; exact (GR.out.alloc _).rowFar (by omega))
      have X4 : Hid (Box w4 bb 41 (ccs F.w A F.xs.length c T F.nt d F.sx F.sy O S.length e0)) := Lib.hid (by rw [hw4]; exact (XR.out.alloc _).rowFar (by omega))
      have B4 : Hid (Below w.heap.size w w4) := Lib.hid (by rw [hw4]; exact below_row (BR.out.alloc BR.out.size _) BR.out.size _)
      have S4 := Lib.hid (HW.out.2.below B4.out)
      rw [← hw4]
      clear hw4
      have HD : Hid (g ≠ wr.heap.size) := Lib.hid (by omega)
      generalize wr.heap.size = bd at D4 HD ⊢
      clear hgl hxl c1 hix HIX XR GR BR
      obtain ⟨sb, hsb⟩ : ∃ sb, seenB S a q = sb := ⟨_, rfl⟩
      have HSB := Lib.hid hsb
      rw [hsb] at HSN
      clear hsb
      simp only [Act.put]
      refine wp_region_typed (ClB w4) RlB (Ty [TV (sv F A c T d S O e0), TV (.agg #[.int .i64 a, .int .i64 p]), TV (.slice (some ⟨g, 0, none⟩) 32 32), TV (.int .i64 (k : Int)), TV (.pointer (some ⟨g, k, none⟩)), TV (.int .i64 q), TV (.bool sb)])
        (by kernel_rfl) (by kernel_rfl) (stab_ty _ ⟨stabB_k _, stabB_k _, stabB_k _, stabB_k _, stabB_k _, stabB_k _, stabB_k _, trivial⟩) (Below.refl _ _).drew ?_ ?_
      · refine ⟨?_, ?_, ?_, ?_, ?_, ?_, ?_, trivial⟩
        · exact lb_scn (.tmp 2) bb rfl X4.out (fun _ _ _ => want_none rfl) fun ρ wx hx hp => ⟨hx 2 rfl, rfl⟩
        · exact lb_dot (.tmp 7) bd a p rfl D4.out (fun _ _ _ => want_none rfl) fun ρ wx hx hp => ⟨hx 7 rfl, rfl⟩
        · exact lb_move (.tmp 5) (.inl rfl) (fun _ _ _ => want_none rfl) fun ρ wx hc hx hp => hx 5 rfl
        · exact lb_move (.tmp 6) (.inl rfl) (fun _ _ _ => want_none rfl) fun ρ wx hc hx hp => hx 6 rfl
        · refine lb_val (.pointer (some ⟨g, k, none⟩)) (fun _ _ _ => want_none rfl) fun ρ wx hb hc hx hp => ⟨?_, rfl⟩
          have h1 : ρ (.tmp 25) = .slice (some ⟨g, 0, none⟩) 32 32 := hp.1 rfl
          have h2 : ρ (.tmp 26) = .int .i64 (k : Int) := hp.2.1 rfl
          unfold execOp
          simp only [h1, h2]
          clear h1 h2 hx hp hc hb
          go_simp
        · refine lb_val (.int .i64 q) (fun _ _ _ => want_none rfl) fun ρ wx hb hc hx hp => ⟨?_, rfl⟩
          have h1 : ρ (.tmp 27) = .pointer (some ⟨g, k, none⟩) := hp.1 rfl
          have c1 : wx.cell? ⟨g, k, none⟩ = some (.int .i64 q) := by
            rw [(G4.out.below hb).cell k, iv_at _ _ (by rw [cmpK_len]; exact h32), HC.out]
          unfold execOp
          simp only [h1]
          clear h1 hx hp hc hb
          go_simp
        · refine lb_known _ _ _ (.bool sb) (fun _ _ => by simp [go_sem]) rfl (fun _ _ _ => want_none rfl) #[sv F A c T d S O e0, .agg #[.int .i64 a, .int .i64 p], .int .i64 q] (fun wq hb => ?_) (fun ρ wx hc hx hp => ?_) (fun _ => rfl)
          · rw [← HSB.out]
            exact im_isSeen F A c T d S O e0 fo a p q wq (S4.out.below hb) HS.out.2 HDN.out
          · have h0 : ρ (.tmp 23) = sv F A c T d S O e0 := hp.1 rfl
            have h1 : ρ (.tmp 24) = .agg #[.int .i64 a, .int .i64 p] := hp.2.1 rfl
            have h2 : ρ (.tmp 28) = .int .i64 q := hp.2.2.1 rfl
            simp only [List.map_toArray, List.map_cons, List.map_nil, h0, h1, h2]
      intro vs wx hI hF
      obtain ⟨-, -, -, -, -, -, h6, -⟩ := hF
      replace h6 : vs 6 = .bool sb := h6
      have HI : Hid (Below w4.heap.size w4 wx) := hI
      simp only [putAll, Act.put, List.setIfInBounds_toArray, List.set_cons_zero, List.set_cons_succ, h6]
      clear hI h6
      have D5 := Lib.hid (D4.out.below HI.out)
      have G5 := Lib.hid (G4.out.below HI.out)
      have X5 := Lib.hid (X4.out.below HI.out)
      have B5 := Lib.hid (below_then B4.out HI.out)
      clear D4 G4 X4 B4 S4 HI
      cases sb
      · have HV : Hid (q = v) := Lib.hid HSN.out
        have HK := Lib.hid (HKP.out HV.out)
        go_wp2_with fail
        go_roundw
        case rel => exact ⟨k + 1, by omega, by go_num, X5.out, by rw [← HK.out]; exact G5.out, B5.out⟩
        case measure => simp [intOf]; omega
      · have hv : 4 + p = v := HSN.out
        have d1 : wx.cell? ⟨bd, 1, none⟩ = some (.int .i64 p) := D5.out.cell 1
        have c1 : wx.cell? ⟨g, k, none⟩ = some (.int .i64 q) := by
          rw [G5.out.cell k, iv_at _ _ (by rw [cmpK_len]; exact h32), HC.out]
        have g1 := G5.out.frozen k
        have hwv : IntKind.i64.wrap (4 + p) = v := by rw [IntKind.wrap_i64]; omega
        have G6 := Lib.hid (G5.out.set k (.int .i64 v))
        have X6 := Lib.hid (X5.out.far (b' := g) (i := k) (by have := HG.out.1; omega) (.int .i64 v))
        have B6 := Lib.hid (B5.out.setCell (p := ⟨g, k, none⟩) (by exact HG.out.2) (.int .i64 v))
        have G7 : Hid (Box (wx.setCell ⟨g, k, none⟩ (.int .i64 v)) g 3 (iv (cmpK F S y (k + 1)))) := Lib.hid (by rw [← HSET.out, ← iv_set]; exact G6.out)
        clear hv
        go_wp2_with fail
        go_roundw
        case rel => exact ⟨k + 1, by omega, by go_num, X6.out, G7.out, B6.out⟩
        case measure => simp [intOf]; omega
    · obtain rfl : k = 32 := by omega
      have HL := Lib.hid (cmpK_all F S y)
      go_wp2_with fail
      go_ret
      exact copied_box (xs := scL F S y) (by rw [← HL.out]; exact GR.out) (scL_len F S y) HG.out.2 BR.out
set_option maxHeartbeats 4000000 in
theorem im_scnPixel (F : Fld) (A : Option Addr) (c : Nat) (T : Option Addr) (d : Nat) (S : List Spr) (O : Option Addr) (e0 : Nat) (fa ft fo : List Nat) (x y : Int) (w : World) (h : SHas w A T O F S fa ft fo) (hs : SSmall F S) :
    Calls Try.prog 27 #[sv F A c T d S O e0, .int .i64 x, .int .i64 y] w fun e w' => e = .returned (.int .i64 (scT F S x y)) ∧ Below w.heap.size w w' := by
  have BB := Lib.hid (below1 w (.cells #[.int .i64 F.w, .slice A F.xs.length c, .slice T F.nt d, .int .i64 F.sx, .int .i64 F.sy, .slice O S.length e0] 41))
  have X1 := Lib.hid (Box.new w #[.int .i64 F.w, .slice A F.xs.length c, .slice T F.nt d, .int .i64 F.sx, .int .i64 F.sy, .slice O S.length e0] 41)
  have H1 := Lib.hid (SHas.below h BB.out)
  have HS := Lib.hid hs
  have HZ := Lib.hid h.1.2.1
  clear h hs
  go_enter Try.func27, Try.ntmps27
  go_upto_region 1 with (fail)
  generalize w.alloc (.cells #[.int .i64 F.w, .slice A F.xs.length c, .slice T F.nt d, .int .i64 F.sx, .int .i64 F.sy, .slice O S.length e0] 41) = w1 at X1 BB H1 ⊢
  generalize hbb : w.heap.size = bb at X1 ⊢
  have HBB := Lib.hid hbb
  clear hbb
  go_wp2_with fail
  refine (im_isColumn x _).mono ?_; rintro e w2 ⟨rfl, rfl⟩
  cases hx : betB x 0 31
  · have HT : Hid (scT F S x y = -1) := Lib.hid (by unfold scT; rw [hx]; simp)
    clear hx
    go_wp2_with fail
    go_ret
    exact ⟨ret_int HT.out.symm, BB.out⟩
  have HX := Lib.hid hx
  clear hx
  go_wp2_with fail
  refine (im_isLine y _).mono ?_; rintro e w2 ⟨rfl, rfl⟩
  cases hy : betB y 0 15
  · have HT : Hid (scT F S x y = -1) := Lib.hid (by unfold scT; rw [hy]; simp)
    clear hy
    go_wp2_with fail
    go_ret
    exact ⟨ret_int HT.out.symm, BB.out⟩
  have HY := Lib.hid hy
  clear hy
  go_wp2_with (first | (refine sc_load (by rfl) _ rfl bb rfl X1.out ?_))
  refine (im_scnValid F A c T d S O e0 fa ft fo _ H1.out HS.out).mono ?_; rintro e w2 ⟨rfl, bl⟩
  have X2 := Lib.hid (X1.out.below bl)
  have H2 := Lib.hid (H1.out.below bl)
  have B2 := Lib.hid (below_then BB.out bl)
  clear bl
  cases hv : scnB F S
  · have HT : Hid (scT F S x y = -1) := Lib.hid (by unfold scT; rw [hv]; rfl)
    clear hv
    go_wp2_with fail
    go_ret
    exact ⟨ret_int HT.out.symm, B2.out⟩
  have HV := Lib.hid hv
  have HT := Lib.hid (scT_yes hv HX.out HY.out)
  clear hv
  go_wp2_with (first | (refine sc_load (by rfl) _ rfl bb rfl X2.out ?_))
  have hyb := betB_iff.1 HY.out
  refine (im_scnComp F A c T d S O e0 fa ft fo y _ H2.out HS.out HV.out hyb.1 hyb.2).mono ?_
  rintro e w3 ⟨R, cc, fr, rfl, hcc, hi, hn, bl⟩
  have B3 := Lib.hid (below_then B2.out bl)
  clear bl hn
  have hxb := betB_iff.1 HX.out
  obtain ⟨k, rfl⟩ : ∃ k : Nat, x = k := ⟨x.toNat, by omega⟩
  have hk : k < 32 := by omega
  have hk' : (k : Int) < 32 := by omega
  obtain ⟨p, o, rfl, _, hpl, hc⟩ := hi.at_ (by omega)
  have c1 : w3.cell? ⟨p, o + k, none⟩ = some (.int .i64 (scT F S k y)) := by
    rw [hc k hk, scL_get F S y k hk, HT.out]
  clear hc hi
  obtain ⟨v, hv⟩ : ∃ v, scT F S k y = v := ⟨_, rfl⟩
  have HVV := Lib.hid hv
  rw [hv] at c1
  clear hv
  go_wp2_with fail
  go_ret
  exact ⟨ret_int HVV.out.symm, B3.out⟩
set_option maxHeartbeats 4000000 in
theorem im_scnLine (F : Fld) (A : Option Addr) (c : Nat) (T : Option Addr) (d : Nat) (S : List Spr) (O : Option Addr) (e0 : Nat) (fa ft fo : List Nat) (y : Int) (w : World) (h : SHas w A T O F S fa ft fo) (hs : SSmall F S) :
    Calls Try.prog 31 #[sv F A c T d S O e0, .int .i64 y] w (Copied (scLT F S y) (scLT F S y).length w) := by
  have BB := Lib.hid (below1 w (.cells #[.int .i64 F.w, .slice A F.xs.length c, .slice T F.nt d, .int .i64 F.sx, .int .i64 F.sy, .slice O S.length e0] 41))
  have X1 := Lib.hid (Box.new w #[.int .i64 F.w, .slice A F.xs.length c, .slice T F.nt d, .int .i64 F.sx, .int .i64 F.sy, .slice O S.length e0] 41)
  have H1 := Lib.hid (SHas.below h BB.out)
  have HS := Lib.hid hs
  have HZ := Lib.hid h.1.2.1
  clear h hs
  go_enter Try.func31, Try.ntmps31
  go_upto_region 1 with (fail)
  generalize w.alloc (.cells #[.int .i64 F.w, .slice A F.xs.length c, .slice T F.nt d, .int .i64 F.sx, .int .i64 F.sy, .slice O S.length e0] 41) = w1 at X1 BB H1 ⊢
  generalize hbb : w.heap.size = bb at X1 ⊢
  have HBB := Lib.hid hbb
  clear hbb
  go_wp2_with fail
  refine (im_isLine y _).mono ?_; rintro e w2 ⟨rfl, rfl⟩
  cases hy : betB y 0 15
  · have HT : Hid (scLT F S y = []) := Lib.hid (scLT_no (by rw [hy]; simp))
    clear hy
    go_wp2_with fail
    go_ret
    rw [HT.out]
    exact ⟨none, 0, [], rfl, Nat.le_refl _, .nil _ _, .nil _ _, BB.out⟩
  have HY := Lib.hid hy
  clear hy
  go_wp2_with (first | (refine sc_load (by rfl) _ rfl bb rfl X1.out ?_))
  refine (im_scnValid F A c T d S O e0 fa ft fo _ H1.out HS.out).mono ?_; rintro e w2 ⟨rfl, bl⟩
  have X2 := Lib.hid (X1.out.below bl)
  have H2 := Lib.hid (H1.out.below bl)
  have B2 := Lib.hid (below_then BB.out bl)
  clear bl
  cases hv : scnB F S
  · have HT : Hid (scLT F S y = []) := Lib.hid (scLT_no (by rw [hv]; rfl))
    clear hv
    go_wp2_with fail
    go_ret
    rw [HT.out]
    exact ⟨none, 0, [], rfl, Nat.le_refl _, .nil _ _, .nil _ _, B2.out⟩
  have HV := Lib.hid hv
  have HT := Lib.hid (scLT_yes hv HY.out)
  clear hv
  go_wp2_with (first | (refine sc_load (by rfl) _ rfl bb rfl X2.out ?_))
  have hyb := betB_iff.1 HY.out
  refine (im_scnComp F A c T d S O e0 fa ft fo y _ H2.out HS.out HV.out hyb.1 hyb.2).mono ?_
  rintro e w3 ⟨R, cc, fr, rfl, hcc, hi, hn, bl⟩
  have B3 := Lib.hid (below_then B2.out bl)
  have HI := Lib.hid hi
  have HN := Lib.hid (hn.mono B2.out.size)
  clear bl hn hi
  go_wp2_with fail
  go_ret
  rw [HT.out, scL_len]
  exact ⟨R, cc, fr, rfl, hcc, HI.out, HN.out, B3.out⟩
set_option maxHeartbeats 4000000 in
theorem im_scnHash (F : Fld) (A : Option Addr) (c : Nat) (T : Option Addr) (d : Nat) (S : List Spr) (O : Option Addr) (e0 : Nat) (fa ft fo : List Nat) (w : World) (h : SHas w A T O F S fa ft fo) (hs : SSmall F S) :
    Calls Try.prog 34 #[sv F A c T d S O e0] w fun e w' => e = .returned (.int .i64 (hashT F S)) ∧ Below w.heap.size w w' := by
  have BB := Lib.hid (below1 w (.cells #[.int .i64 F.w, .slice A F.xs.length c, .slice T F.nt d, .int .i64 F.sx, .int .i64 F.sy, .slice O S.length e0] 41))
  have X1 := Lib.hid (Box.new w #[.int .i64 F.w, .slice A F.xs.length c, .slice T F.nt d, .int .i64 F.sx, .int .i64 F.sy, .slice O S.length e0] 41)
  have H1 := Lib.hid (SHas.below h BB.out)
  have HS := Lib.hid hs
  have HZ := Lib.hid h.1.2.1
  clear h hs
  go_enter Try.func34, Try.ntmps34
  go_upto_region 1 with (fail)
  generalize w.alloc (.cells #[.int .i64 F.w, .slice A F.xs.length c, .slice T F.nt d, .int .i64 F.sx, .int .i64 F.sy, .slice O S.length e0] 41) = w1 at X1 BB H1 ⊢
  generalize hbb : w.heap.size = bb at X1 ⊢
  have HBB := Lib.hid hbb
  clear hbb
  go_wp2_with (first | (refine sc_load (by rfl) _ rfl bb rfl X1.out ?_))
  refine (im_scnValid F A c T d S O e0 fa ft fo _ H1.out HS.out).mono ?_; rintro e w2 ⟨rfl, bl⟩
  have X2 := Lib.hid (X1.out.below bl)
  have H2 := Lib.hid (H1.out.below bl)
  have B2 := Lib.hid (below_then BB.out bl)
  clear bl
  cases hv : scnB F S
  · have HT : Hid (hashT F S = -1) := Lib.hid (by unfold hashT; rw [hv]; rfl)
    clear hv
    go_wp2_with fail
    go_ret
    exact ⟨ret_int HT.out.symm, B2.out⟩
  have HV := Lib.hid hv
  have HT : Hid (hashT F S = hashN F S 16) := Lib.hid (by unfold hashT; rw [hv]; rfl)
  have HB := Lib.hid (fun k => hashN_b HZ.out hv k)
  have H0 := Lib.hid (hashN_zero F S)
  clear hv
  go_wp2_with fail
  go_loopw [3, 10] (fun n i wr => ∃ k : Nat, k ≤ 16 ∧ i = .int .i64 k ∧ n = .int .i64 (hashN F S k) ∧ Below w2.heap.size w2 wr) (fun _ i _ => 16 - (intOf i).toNat)
  case atStart => exact ⟨0, by omega, rfl, by rw [H0.out], Below.refl _ _⟩
  case round =>
    obtain ⟨k, hk, rfl, rfl, hb⟩ := hrel
    have BR := Lib.hid hb
    clear hb
    by_cases h16 : k < 16
    · have i16 : (k : Int) < 16 := by omega
      have XR := Lib.hid (X2.out.below BR.out)
      have HR := Lib.hid (H2.out.below BR.out)
      go_wp2_with (first | (refine sc_load (by rfl) _ rfl bb rfl XR.out ?_))
      refine (im_scnComp F A c T d S O e0 fa ft fo (k : Int) _ HR.out HS.out HV.out (by omega) (by omega)).mono ?_
      rintro e w3 ⟨A3, c3, f3, rfl, _, hi3, hn3, bl⟩
      have B3 := Lib.hid (below_then BR.out bl)
      obtain ⟨p, o, rfl, _, hpl, hc⟩ := hi3.at_ (by omega)
      have HC := Lib.hid hc
      have HN := Lib.hid (hashN_step F S k)
      have H1b := HB.out k
      have HPB : Hid (∀ p, p ∈ scL F S (k : Int) → 0 ≤ p) := Lib.hid fun p hp => by
        obtain ⟨x, _, rfl⟩ := List.mem_map.1 hp
        exact (scF_b HZ.out HV.out _ _).1
      have HP7 : Hid (∀ j, j < 32 → 0 ≤ (scL F S (k : Int)).getD j 0 ∧ (scL F S (k : Int)).getD j 0 ≤ 7) := Lib.hid fun j hj => by
        rw [scL_get F S k j hj]
        exact scF_b HZ.out HV.out _ _
      have HLL := Lib.hid (scL_len F S (k : Int))
      generalize scL F S (k : Int) = l at HC HN HPB HP7 HLL
      obtain ⟨n0, hn0⟩ : ∃ n0, hashN F S k = n0 := ⟨_, rfl⟩
      rw [hn0] at HN H1b ⊢
      clear hi3 hn3 bl hc hn0 XR HR BR
      go_wp2_with fail
      go_loopw [3, 17] (fun n x wr => ∃ j : Nat, j ≤ 32 ∧ x = .int .i64 j ∧ n = .int .i64 (hashL n0 (l.take j)) ∧ wr = w3) (fun _ x _ => 32 - (intOf x).toNat)
      case atStart => exact ⟨0, by omega, rfl, by rw [List.take_zero, hashL_nil], rfl⟩
      case round =>
        obtain ⟨j, hj, rfl, rfl, rfl⟩ := hrel
        by_cases h32 : j < 32
        · have j32 : (j : Int) < 32 := by omega
          have c1 : wr.cell? ⟨p, o + j, none⟩ = some (.int .i64 (l.getD j 0)) := HC.out j h32
          have hp7 := HP7.out j h32
          have hm := hashL_b (l.take j) n0 H1b fun p hp => HPB.out p (List.mem_of_mem_take hp)
          have HNX := Lib.hid (hashL_take n0 l j (by rw [HLL.out]; exact h32))
          generalize hashL n0 (l.take j) = m at hm HNX ⊢
          generalize l.getD j 0 = pz at c1 hp7 HNX
          have w1' : IntKind.i64.wrap (31 * m) = 31 * m := by rw [IntKind.wrap_i64]; omega
          have w2' : IntKind.i64.wrap (31 * m + pz) = 31 * m + pz := by rw [IntKind.wrap_i64]; omega
          have hpos : 0 ≤ 31 * m + pz := by omega
          have w3' : (31 * m + pz).tmod 65521 = (31 * m + pz) % 65521 := Int.tmod_eq_emod_of_nonneg hpos
          have w4' : IntKind.i64.wrap ((31 * m + pz) % 65521) = (31 * m + pz) % 65521 := by rw [IntKind.wrap_i64]; omega
          have HNY : Hid (hashL n0 (l.take (j + 1)) = (31 * m + pz) % 65521) := Lib.hid (by rw [HNX.out]; unfold hashS; rfl)
          clear HNX
          go_wp2_with fail
          clear c1
          go_roundw
          case rel => exact ⟨j + 1, by omega, by go_num, by rw [HNY.out], by first | rfl | trivial⟩
          case measure => simp [intOf]; omega
        · obtain rfl : j = 32 := by omega
          have HE : Hid (hashN F S (k + 1) = hashL n0 (l.take 32)) := Lib.hid (by rw [HN.out, List.take_of_length_le (by rw [HLL.out]; omega)])
          go_wp2_with fail
          go_roundw
          case rel => exact ⟨k + 1, by omega, by go_num, by rw [HE.out], B3.out⟩
          case measure => simp [intOf]; omega
    · obtain rfl : k = 16 := by omega
      go_wp2_with fail
      go_ret
      exact ⟨ret_int HT.out.symm, below_then B2.out BR.out⟩
end Go.Proofs.Ytacebhncecninaa
