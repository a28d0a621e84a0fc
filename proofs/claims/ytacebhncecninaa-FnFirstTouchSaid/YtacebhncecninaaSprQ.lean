/- The program's sprites of a line, drawn from the last one to the first. -/
import Derived.Test.YtacebhncecninaaSprI
import Derived.Test.YtacebhncecninaaSprP
import Derived.Test.YtacebhncecninaaBackI
namespace Go.Proofs.Ytacebhncecninaa
open Go.ChangeShapes Go.WideShapes Go.ChangeAt Go.RowKit
set_option linter.unusedVariables false
attribute [local go_sem] Oper.semAt_some

/-- The variables of the function while sprites are drawn: the two lists, the line's number, the result, the line. -/
structure DrawAt (w0 : World) (A : Option Addr) (n c : Nat) (T : Option Addr) (m d : Nat) (y : Int) (r b7 : Nat) (W : World) : Prop where
  x3 : Box W r 39 [.slice A n c]
  x4 : Box W (r + 1) 24 [.slice T m d]
  x5 : Box W (r + 2) 3 [.int .i64 y]
  x6 : Box W (r + 3) 96 (iv z64)
  lt : r + 3 < b7
  hr : r = w0.heap.size
  below : Below w0.heap.size w0 W
theorem DrawAt.keep {w0 : World} {A : Option Addr} {n c : Nat} {T : Option Addr} {m d : Nat} {y : Int} {r b7 : Nat} {W W' : World} (h : DrawAt w0 A n c T m d y r b7 W) (o : Only [b7] W W') : DrawAt w0 A n c T m d y r b7 W' := by
  have := h.lt
  have := h.hr
  exact ⟨h.x3.only o (by simp; omega), h.x4.only o (by simp; omega), h.x5.only o (by simp; omega), h.x6.only o (by simp; omega), h.lt, h.hr, h.below.trans (o.below (B := w0.heap.size) (fun b hb => by simp at hb; omega) h.below.size)⟩
theorem DrawAt.on {w0 : World} {A : Option Addr} {n c : Nat} {T : Option Addr} {m d : Nat} {y : Int} {r b7 : Nat} {W W' : World} (h : DrawAt w0 A n c T m d y r b7 W) (o : Below W.heap.size W W') : DrawAt w0 A n c T m d y r b7 W' := h.keep (.of_below o)
theorem DrawAt.grown {w0 : World} {A : Option Addr} {n c : Nat} {T : Option Addr} {m d : Nat} {y : Int} {r b7 : Nat} {W W' : World} {row : Option Nat} (h : DrawAt w0 A n c T m d y r b7 W) (g : W.grownBy W' row) (hr : ∀ k, row = some k → b7 < k) : DrawAt w0 A n c T m d y r b7 W' := by
  have h1 := h.lt
  have h2 := h.hr
  exact ⟨box_grown h.x3 g fun k e => by have := hr k e; omega, box_grown h.x4 g fun k e => by have := hr k e; omega, box_grown h.x5 g fun k e => by have := hr k e; omega, box_grown h.x6 g fun k e => by have := hr k e; omega, h.lt, h.hr, below_grown2 h.below g (fun k e => by have := hr k e; omega) (Nat.le_refl _)⟩
/-- The numbers that have come, the last one first. -/
def bringL {p : Nat → Prop} (pre : List (Nat × {k // p k})) : List Nat := (pre.map fun x => x.2.1).reverse
theorem bringL_snoc {p : Nat → Prop} (pre : List (Nat × {k // p k})) (i k : Nat) (hk : p k) : bringL (pre ++ [(i, ⟨k, hk⟩)]) = k :: bringL pre := by unfold bringL; rw [List.map_append, List.reverse_append]; rfl
theorem bringL_all {p : Nat → Prop} {pre : List (Nat × {k // p k})} {L : List {k // p k}} (h : pre.map (·.2) = L.reverse) : bringL pre = L.map (·.1) := by
  unfold bringL
  have e : (pre.map fun x => x.2.1) = (pre.map (·.2)).map (·.1) := by rw [List.map_map]; rfl
  rw [e, h, List.map_reverse, List.reverse_reverse]
theorem drawK_twice (k sx : Int) (xs : List Int) (f : Nat → Int × Int) (c : Nat) : drawK k sx xs (drawK k sx xs f c) c = drawK k sx xs f c := by
  funext x
  unfold drawK
  split <;> rfl
/-- The worlds of the region that draws: the line alone changes, and is drawn into once. -/
def CDr (b7 : Nat) (W1 : World) (G G1 : Nat → Int × Int) (_ : Nat) (W : World) : Prop := Only [b7] W1 W ∧ ∃ L, Box W b7 96 (iv L) ∧ (LineIs L G ∨ LineIs L G1)
def TDone (b7 : Nat) (G1 : Nat → Int × Int) : Value → World → Prop := fun _ W => ∃ L, Box W b7 96 (iv L) ∧ LineIs L G1
def RDr (b7 : Nat) (G1 : Nat → Int × Int) (W W' : World) : Prop := Only [b7] W W' ∧ (TDone b7 G1 undef W → TDone b7 G1 undef W')
/-- A row of eight, not in the line's own block. -/
def TRow (b7 : Nat) (xs : List Int) : Value → World → Prop := fun v W => ∃ A c fp, v = .slice A 8 c ∧ Ints W A 8 xs fp ∧ b7 ∉ fp
theorem stab_row (b7 : Nat) (G1 : Nat → Int × Int) (xs : List Int) : Stab (RDr b7 G1) (TRow b7 xs) := by
  rintro v w w' hR ⟨A, c, fp, rfl, hi, hb⟩
  exact ⟨A, c, fp, rfl, hi.keep (.of_only hR.1 fun x hx hs => by simp at hs; subst hs; exact hb hx), hb⟩
theorem stab_done7 (b7 : Nat) (G1 : Nat → Int × Int) : Stab (RDr b7 G1) (TDone b7 G1) := fun _ _ _ hR h => hR.2 h
theorem stab_tvd (b7 : Nat) (G1 : Nat → Int × Int) (x : Value) : Stab (RDr b7 G1) (TV x) := fun _ _ _ _ h => h
section
variable {P : Program} {ops : Array Oper} {Q : Exit → Act → World → Prop} {T : Nat → Value → World → Prop} {a0 : Act} {i : Nat} {o : Oper}
theorem ob_cls {I : Nat → World → Prop} {R : World → World → Prop} (hg : o.guard = none) (h : ∀ (ρ : Operand → Value) k w, k < ops.size → I k w → (∀ v, ρ (.const v) = v) → (∀ f, ρ (.func f) = .func (.func f) #[] #[]) → (∀ n, (ops.toList.all fun o => o.dst != some n) = true → ρ (.tmp n) = a0.eval (.tmp n)) → PreR ops T ρ w o.after.toList →
      UponT P (fun v w' => R w w' ∧ I (k + 1) w' ∧ T i (dstV o v) w') ((execOp ρ o).run P w)) : Ob P ops Q I R T a0 i o := by
  intro k a w hk hI hF hp
  have h1 := h a.eval k w hk hI (fun _ => rfl) (fun _ => rfl) (fun n hn => fr_eval hF n hn) (pre_eq _ hp)
  have hw : wantV ops (slotV a) o = true := by unfold wantV; rw [hg]
  refine ⟨fun _ => ?_, fun hn => by rw [hw] at hn; cases hn⟩
  unfold Oper.wp
  exact upon_of_T h1
/-- An operation of the region that yields a value and leaves the world alone. -/
theorem od_val {b7 : Nat} {W1 : World} {G G1 : Nat → Int × Int} (hg : o.guard = none) (v : Value) (h : ∀ (ρ : Operand → Value) w, Only [b7] W1 w → (∀ n, (ops.toList.all fun o => o.dst != some n) = true → ρ (.tmp n) = a0.eval (.tmp n)) → PreR ops T ρ w o.after.toList → (execOp ρ o).run P w = .ok (.value v) w ∧ T i (dstV o v) w) :
    Ob P ops Q (CDr b7 W1 G G1) (RDr b7 G1) T a0 i o :=
  ob_cls hg fun ρ k w _ hI _ _ hx hp => by
    obtain ⟨e, ht⟩ := h ρ w hI.1 hx hp
    rw [e]
    exact ⟨⟨Only.refl _ _, fun h => h⟩, hI, ht⟩
end
theorem below_rdr {b7 : Nat} {W1 W W' : World} {G G1 : Nat → Int × Int} {k : Nat} (h : CDr b7 W1 G G1 k W) (hb : Below W.heap.size W W') : RDr b7 G1 W W' ∧ CDr b7 W1 G G1 (k + 1) W' := by
  obtain ⟨o, L, x, hl⟩ := h
  exact ⟨⟨.of_below hb, fun ⟨L, x, hl⟩ => ⟨L, x.below hb, hl⟩⟩, o.trans (.of_below hb), L, x.below hb, hl⟩
set_option maxRecDepth 100000 in
set_option maxHeartbeats 4000000 in
theorem im_drawAll (A : Option Addr) (n c : Nat) (S : List Spr) (fs : List Nat) (T : Option Addr) (m d : Nat) (zs : List Int) (ft : List Nat) (y : Int) (w : World) (hS : Sprs w A n S fs) (hT : Ints w T (64 * m) zs ft) (hn : n ≤ 1000000000) (hm : m ≤ 1000000000) (hv : sprB S m zs = true) :
    Calls Try.prog 78 #[.slice A n c, .slice T m d, .int .i64 y] w fun e w' => ∃ L, e = .returned (.agg (iv L).toArray) ∧ LineIs L (dotF S zs y (onF S y)) ∧ Below w.heap.size w w' := by
  have HS := Lib.hid hS
  have HT := Lib.hid hT
  have HL := Lib.hid hS.1
  have HV := Lib.hid hv
  have HY := Lib.hid (fun i (hi : i < n) => spr_y hv i (by rw [hS.1]; exact hi))
  clear hS hT hv
  refine (callsIn_wide (n := 9)).1 ?_
  refine callsIn_of_wp_marks Try.func78 rfl trivial ?_ rfl
  simp only [Try.ntmps78, List.size_toArray, List.length_cons, List.length_nil, Nat.reduceAdd, Nat.reduceSub, Array.replicate_succ, Array.replicate_zero, List.push_toArray, List.append_toArray, List.nil_append, List.cons_append]
  refine wpIn_wide.2 ?_
  go_upto_region 1 with (refine sl_alloc (by rfl) rfl ?_)
  obtain ⟨w1, hw1⟩ : ∃ w1, w1 = (((w.alloc (.cells #[.slice A n c] 39)).alloc (.cells #[.slice T m d] 24)).alloc (.cells #[.int .i64 y] 3)).alloc (.cells (iv z64).toArray 96) := ⟨_, rfl⟩
  have D1 : Hid (DrawAt w A n c T m d y w.heap.size (w.heap.size + 4) w1) := by
    rw [hw1]
    refine Lib.hid ⟨?_, ?_, ?_, ?_, by omega, rfl, ?_⟩
    · exact (((Box.new w _ _).alloc _).alloc _).alloc _
    · exact ((Box.new_at _ _ _ _ (by simp)).alloc _).alloc _
    · exact (Box.new_at _ _ _ _ (by simp)).alloc _
    · exact Box.new_at _ _ _ _ (by simp)
    · exact (((below1 w _).alloc (by simp) _).alloc (by simp; omega) _).alloc (by simp; omega) _
  have Z1 : Hid (w1.heap.size = w.heap.size + 4) := by rw [hw1]; exact Lib.hid (by simp)
  rw [← hw1]
  clear hw1
  go_wp2_with fail
  refine (im_newLine _).mono ?_; rintro e w2 ⟨L0, rfl, hl0, b2⟩
  have hb7 : w.heap.size + 3 < w2.heap.size := by have := Z1.out; have := b2.size; omega
  have L2 := Lib.hid hl0
  have D2 : Hid (DrawAt w A n c T m d y w.heap.size w2.heap.size w2) := by
    have h := D1.out.on b2
    exact Lib.hid ⟨h.x3, h.x4, h.x5, h.x6, hb7, rfl, h.below⟩
  clear b2 hl0 D1 Z1
  go_upto_region 2 with (first | (refine sl_alloc (by rfl) rfl ?_) | (refine sa_store ty_line (by rfl) _ _ rfl _ rfl _ _ (iv L0) rfl (Box.new _ _ _) (by simp [z64_len]) (by simp [L2.out.1]) (iv_all _) ?_))
  rw [World.setRow_alloc_new]
  have X3 : Hid (Box (w2.alloc (.cells (iv L0).toArray 96)) w2.heap.size 96 (iv L0)) := Lib.hid (Box.new _ _ _)
  have D3 := Lib.hid (D2.out.on (below1 w2 (.cells (iv L0).toArray 96)))
  have z7 : w2.heap.size < (w2.alloc (.cells (iv L0).toArray 96)).heap.size := by simp
  generalize w2.alloc (.cells (iv L0).toArray 96) = w3 at X3 D3 z7 ⊢
  clear D2
  generalize w2.heap.size = b7 at X3 D3 hb7 z7 ⊢
  have c3 : w3.cell? ⟨w.heap.size, 0, none⟩ = some (.slice A n c) := D3.out.x3.cell 0
  have c5 : w3.cell? ⟨w.heap.size + 2, 0, none⟩ = some (.int .i64 y) := D3.out.x5.cell 0
  go_wp2_with fail
  refine (im_cover A n c S fs y _ (HS.out.below D3.out.below) hn HY.out).mono ?_
  rintro e w4 ⟨A2, c2, f2, rfl, hc2, i2, n2, b4⟩
  have D4 := Lib.hid (D3.out.on b4)
  have X4 := Lib.hid (X3.out.below b4)
  have z47 : b7 < w4.heap.size := X4.out.lt
  have I4 := Lib.hid i2
  have N4 := Lib.hid n2
  have LL : Hid ((allF S y).length ≤ n) := Lib.hid (by have := onN_le S y S.length; rw [HL.out] at this; unfold allF; rw [HL.out]; exact this)
  clear b4 i2 n2 c3 c5
  obtain ⟨q, hq⟩ : ∃ q : Nat, (allF S y).length = q := ⟨_, rfl⟩
  rw [hq] at I4 hc2 LL ⊢
  clear hq
  have q9 : q ≤ 1000000000 := by have := LL.out; omega
  go_wp2_with fail
  refine (im_shown A2 q c2 _ f2 _ I4.out hc2 q9).mono ?_
  rintro e w5 ⟨⟨c3, rfl, hc3⟩, rfl⟩
  obtain ⟨i3, l3⟩ := onF_ints I4.out
  have I5 := Lib.hid i3
  rw [← l3]
  rw [← l3] at I5
  clear i3 I4
  obtain ⟨r, hr⟩ : ∃ r : Nat, (onF S y).length = r := ⟨_, rfl⟩
  have HR := Lib.hid hr
  rw [hr] at I5 ⊢
  have r9 : r ≤ 1000000000 := by omega
  clear hr l3
  go_wp2_with fail
  refine (back_any A2 r c3 _).mono ?_
  rintro e w6 ⟨rfl, rfl⟩
  go_wp2_with fail
  simp only [Nat.add_assoc, Nat.reduceAdd]
  have D7 := Lib.hid (D4.out.on (below1 w4 (.cells #[.slice A2 r c3] 23)))
  have X7 := Lib.hid (X4.out.below (below1 w4 (.cells #[.slice A2 r c3] 23)))
  have I7 := Lib.hid (I5.out.below (below1 w4 (.cells #[.slice A2 r c3] 23)))
  have Y7 : Hid (Box (w4.alloc (.cells #[.slice A2 r c3] 23)) w4.heap.size 23 [.slice A2 r c3]) := Lib.hid (Box.new _ _ _)
  have Z7 : Hid ((w4.alloc (.cells #[.slice A2 r c3] 23)).heap.size = w4.heap.size + 1) := Lib.hid (by simp)
  have F2 : Hid (∀ b, b ∈ w4.heap.size :: f2 → b < w4.heap.size + 1 ∧ b7 < b) := Lib.hid fun b hb => by
    rcases List.mem_cons.1 hb with rfl | hb
    · exact ⟨by omega, z47⟩
    · have := N4.out.lt b hb; omega
  generalize w4.alloc (.cells #[.slice A2 r c3] 23) = w7 at D7 X7 I7 Y7 Z7 ⊢
  generalize w4.heap.size = Bs at Y7 Z7 F2 z47 ⊢
  clear D4 X4 I5 N4
  obtain ⟨LA, hLA⟩ : ∃ LA : List {k // k ∈ onF S y}, LA = (onF S y).attach := ⟨_, rfl⟩
  have hLv : LA.map (·.1) = onF S y := by rw [hLA]; simp
  have hLl : LA.length = r := by rw [hLA, List.length_attach, HR.out]
  have I8 : Ints w7 A2 r (nums (LA.map (·.1))) f2 := by rw [hLv]; exact I7.out
  clear hLA
  have b7l : b7 < w7.heap.size := by rw [Z7.out]; omega
  refine wpIn_wide.1 (wpIn_rangeFunc_ownG (n := 9) (F := Fence.wide) rfl (by omega) (gf := 117) (lb := #[.pointer (some ⟨Bs, 0, none⟩)]) rfl trivial (enters_of Try.func117 (by kernel_rfl) rfl)
    (back_stops (9 - 1) Bs (fun k => k ∈ onF S y) A2 r c3 LA f2 (by omega) hLl r9 w7 (by rw [Z7.out]; omega) (Y7.out.cell 0) I8) (fun h k => same_then h k)
    (fun W l o o' hl ho _ _ => ⟨(grownBy_putObj' W l o').size, fun b hb hlt => (grownBy_putObj' W l o').block b hlt fun e => by injection e with e; have := (F2.out b hb).1; rw [Z7.out] at hl; omega⟩)
    (Below.refl _ _) (fun _ => rfl)
    (fun (pre : List (Nat × {k // k ∈ onF S y})) W => DrawAt w A n c T m d y w.heap.size b7 W ∧ ∃ L, Box W b7 96 (iv L) ∧ LineIs L (dotF S zs y (bringL pre)))
    (fun _ _ _ => False)
    (fun s W W' row ⟨hd, L, hx, hl⟩ hg hr => ⟨hd.grown hg fun k e => by have := (hr k e).1; omega, L, box_grown hx hg fun k e => by have := (hr k e).1; omega, hl⟩)
    (fun _ _ _ _ _ hs _ _ => hs)
    ⟨D7.out, L0, X7.out, empty_all L2.out S zs y⟩
    (fun x => { tmps := #[.slice A n c, .slice T m d, .int .i64 y, .pointer (some ⟨w.heap.size, 0, none⟩), .pointer (some ⟨w.heap.size + 1, 0, none⟩), .pointer (some ⟨w.heap.size + 2, 0, none⟩), .pointer (some ⟨w.heap.size + 3, 0, none⟩), .pointer (some ⟨b7, 0, none⟩), undef, .int .i64 (x.2.1 : Int), undef, .agg (iv L0).toArray, .slice A n c, .int .i64 y, .slice A2 q c2, .slice A2 r c3, .func (.func 117) #[] #[.pointer (some ⟨Bs, 0, none⟩)], .int .i64 (x.1 : Int), .int .i64 (x.2.1 : Int), undef, undef, undef, undef, undef, undef, undef, undef, undef, undef, undef, undef, undef], defers := [] }) ?assign ?body ?done ?stop)
  case assign =>
    intro l x W K hK
    gi_wp2
    exact hK
  case body =>
    rintro l pre ⟨xi, k, hk⟩ W ⟨hd, L, hx, hl⟩ _
    have hkn : k < n := by rw [← HL.out]; exact (onN_mem.1 (List.mem_of_mem_take hk)).1
    have hcov : covB S y k = true := (onN_mem.1 (List.mem_of_mem_take hk)).2
    have hok := (sprB_iff.1 HV.out).2.1 k (by rw [HL.out]; exact hkn)
    have hkn' : (k : Int) < n := by omega
    have HG : Hid (∀ L, LineIs L (drawK k (S.getD k .zero).x (rowF (S.getD k .zero) zs y) (dotF S zs y (bringL pre)) 8) → LineIs L (dotF S zs y (bringL (pre ++ [(xi, (⟨k, hk⟩ : {k // k ∈ onF S y}))])))) := Lib.hid fun L h => by
      rw [bringL_snoc]
      exact line_drawn HT.out.1 (sprB_iff.1 HV.out).1 hok (betB_iff.1 hcov) h
    have hyb : 0 ≤ y - (S.getD k .zero).y ∧ y - (S.getD k .zero).y ≤ 7 := betB_iff.1 hcov
    obtain ⟨p, o, rfl, hfs, hpl, _⟩ := HS.out.at_ (by omega)
    have DW := Lib.hid hd
    have XW := Lib.hid hx
    have LW := Lib.hid hl
    have RG := Lib.hid (spr_range (HS.out.below hd.below) hkn)
    have c3 : W.cell? ⟨w.heap.size, 0, none⟩ = some (.slice (some ⟨p, o, none⟩) n c) := hd.x3.cell 0
    clear hd hx hl hcov
    generalize dotF S zs y (bringL pre) = G at LW HG
    generalize S.getD k .zero = s at RG HG hok hyb
    refine wpIn_block ?_
    refine wpIn_seq_k fun K hK => ?_
    refine region_round (by rintro ⟨a, w, h⟩; exact h) (by kernel_rfl) ?_
    go_wp2_with (first | (refine sp_loadm (by rfl) _ rfl _ _ rfl s RG.out ?_) | (refine sp_store (by rfl) _ _ rfl _ rfl s rfl _ (Box.new _ _ _) (by rfl) ?_))
    have BW := Lib.hid (below_spr W s)
    have XS : Hid (Box ((W.alloc (.cells #[.int .i64 0, .int .i64 0, .int .i64 0, .bool false, .bool false, .bool false] 48)).setRow W.heap.size (scs s).toArray) W.heap.size 48 (scs s)) := Lib.hid (Box.row (Box.new _ _ _))
    have D1 := Lib.hid (DW.out.on BW.out)
    have X1 := Lib.hid (XW.out.below BW.out)
    have hbW : b7 < W.heap.size := XW.out.lt
    generalize (W.alloc (.cells #[.int .i64 0, .int .i64 0, .int .i64 0, .bool false, .bool false, .bool false] 48)).setRow W.heap.size (scs s).toArray = W1 at BW XS D1 X1 ⊢
    have hbs : W.heap.size ∉ [b7] := by simp; omega
    have hbW1 : b7 < W1.heap.size := X1.out.lt
    obtain ⟨bs, hbse⟩ : ∃ bs, W.heap.size = bs := ⟨_, rfl⟩
    rw [hbse] at XS hbs ⊢
    have hsx : -1000 ≤ s.x ∧ s.x ≤ 1000 := by
      have h := hok
      unfold sprOk at h
      simp only [Bool.and_eq_true, betB_iff] at h
      omega
    have hr1 : w.heap.size + 1 ∉ [b7] := by simp; omega
    have hr2 : w.heap.size + 2 ∉ [b7] := by simp; omega
    obtain ⟨G1, hG1⟩ : ∃ G1, drawK k s.x (rowF s zs y) G 8 = G1 := ⟨_, rfl⟩
    have HG2 : Hid (drawK k s.x (rowF s zs y) G1 8 = G1) := Lib.hid (by rw [← hG1, drawK_twice])
    rw [hG1] at HG
    clear RG c3
    refine round_typed (by rintro ⟨a, w, h⟩; exact h) (by kernel_rfl) (CDr b7 W1 G G1) (RDr b7 G1)
      (Ty [TV (.int .i64 k), TV (.pointer (some ⟨bs, 0, none⟩)), TV (.int .i64 s.x), TV (sprV s), TV (.slice T m d), TV (.int .i64 y), TRow b7 (rowF s zs y), TDone b7 G1])
      (by kernel_rfl) (by kernel_rfl) (stab_ty _ ⟨stab_tvd _ _ _, stab_tvd _ _ _, stab_tvd _ _ _, stab_tvd _ _ _, stab_tvd _ _ _, stab_tvd _ _ _, stab_row _ _ _, stab_done7 _ _, trivial⟩)
      ⟨.of_below (Below.refl _ _).drew, L, X1.out.below (Below.refl _ _).drew, .inl LW.out⟩ ?_ ?_
    · refine ⟨?_, ?_, ?_, ?_, ?_, ?_, ?_, ?_, trivial⟩
      · refine od_val rfl (.int .i64 k) fun ρ wx ho hx hp => ⟨?_, rfl⟩
        have h1 : ρ (.tmp 9) = .int .i64 k := hx 9 rfl
        unfold execOp
        simp only [h1]
        clear h1 hx hp ho
        go_simp
      · refine od_val rfl (.pointer (some ⟨bs, 0, none⟩)) fun ρ wx ho hx hp => ⟨?_, rfl⟩
        have h1 : ρ (.tmp 10) = .pointer (some ⟨bs, 0, none⟩) := hx 10 rfl
        unfold execOp
        simp only [h1]
        clear h1 hx hp ho
        go_simp
      · refine od_val rfl (.int .i64 s.x) fun ρ wx ho hx hp => ⟨?_, rfl⟩
        have h1 : ρ (.tmp 24) = .pointer (some ⟨bs, 0, none⟩) := hp.1 rfl
        have c1 : wx.cell? ⟨bs, 0, none⟩ = some (.int .i64 s.x) := (XS.out.only ho hbs).cell 0
        unfold execOp
        simp only [h1]
        clear h1 hx hp ho
        go_simp
      · refine od_val rfl (sprV s) fun ρ wx ho hx hp => ⟨?_, rfl⟩
        have h1 : ρ (.tmp 10) = .pointer (some ⟨bs, 0, none⟩) := hx 10 rfl
        have hl := run_loadVar_row (P := Try.prog) wx bs 48 48 (scs s).toArray (0, 0) _ (XS.out.only ho hbs) Try.underlying48 rfl spr_info
        unfold execOp
        simp only [h1, Instr.loadAt, Instr.sureAddr, Sem.run_bind, Sem.run_pure, Result.andThen_ok, hl]
        rfl
      · refine od_val rfl (.slice T m d) fun ρ wx ho hx hp => ⟨?_, rfl⟩
        have h1 : ρ (.tmp 4) = .pointer (some ⟨w.heap.size + 1, 0, none⟩) := hx 4 rfl
        have c1 : wx.cell? ⟨w.heap.size + 1, 0, none⟩ = some (.slice T m d) := (D1.out.x4.only ho hr1).cell 0
        unfold execOp
        simp only [h1]
        clear h1 hx hp ho
        go_simp
      · refine od_val rfl (.int .i64 y) fun ρ wx ho hx hp => ⟨?_, rfl⟩
        have h1 : ρ (.tmp 5) = .pointer (some ⟨w.heap.size + 2, 0, none⟩) := hx 5 rfl
        have c1 : wx.cell? ⟨w.heap.size + 2, 0, none⟩ = some (.int .i64 y) := (D1.out.x5.only ho hr2).cell 0
        unfold execOp
        simp only [h1]
        clear h1 hx hp ho
        go_simp
      · refine ob_cls rfl fun ρ kk wx _ hI hc hf hx hp => ?_
        have h3 : ρ (.tmp 26) = sprV s := hp.1 rfl
        have h4 : ρ (.tmp 27) = .slice T m d := hp.2.1 rfl
        have h5 : ρ (.tmp 28) = .int .i64 y := hp.2.2.1 rfl
        have e : ∀ o : Oper, o.op = .call { callee := .value (.func 111), args := #[.tmp 26, .tmp 27, .tmp 28], argTypes := #[48, 24, 3] } → (execOp ρ o).run Try.prog wx = .ok (.enter 111 #[sprV s, .slice T m d, .int .i64 y]) wx := fun o hop => by
          have h6 := hf 111
          unfold execOp
          rw [hop]
          simp [go_sem, h3, h4, h5, h6]
        rw [e _ rfl, UponT_enter]
        refine (im_row s T m d zs ft y wx (HT.out.below (D1.out.keep hI.1).below) hm (sprB_iff.1 HV.out).1 hok hyb).mono ?_
        rintro e w' ⟨A', c', fp', rfl, _, i', n', b'⟩
        obtain ⟨r1, r2⟩ := below_rdr hI b'
        exact ⟨_, rfl, r1, r2, A', c', fp', rfl, i', fun hb => by have := (n'.lt b7 hb).1; have := hI.1.size; omega⟩
      · refine ob_cls rfl fun ρ kk wx _ hI hc hf hx hp => ?_
        have h2 : ρ (.tmp 7) = .pointer (some ⟨b7, 0, none⟩) := hx 7 rfl
        have h3 : ρ (.tmp 23) = .int .i64 k := hp.1 rfl
        have h4 : ρ (.tmp 25) = .int .i64 s.x := hp.2.1 rfl
        obtain ⟨A', c', fp', h5, i', hb'⟩ : TRow b7 (rowF s zs y) (ρ (.tmp 29)) wx := hp.2.2.1 rfl
        have e : ∀ o : Oper, o.op = .call { callee := .value (.func 110), args := #[.tmp 7, .tmp 23, .tmp 25, .tmp 29], argTypes := #[96, 3, 3, 23] } → (execOp ρ o).run Try.prog wx = .ok (.enter 110 #[.pointer (some ⟨b7, 0, none⟩), .int .i64 k, .int .i64 s.x, .slice A' 8 c']) wx := fun o hop => by
          have h6 := hf 110
          unfold execOp
          rw [hop]
          simp [go_sem, h2, h3, h4, h5, h6]
        rw [e _ rfl, UponT_enter]
        obtain ⟨ho, L', x', hl'⟩ := hI
        have hcall : Calls Try.prog 110 #[.pointer (some ⟨b7, 0, none⟩), .int .i64 k, .int .i64 s.x, .slice A' 8 c'] wx fun e w' => (∃ v, e = .returned v) ∧ Only [b7] wx w' ∧ ∃ L', Box w' b7 96 (iv L') ∧ LineIs L' G1 := by
          rcases hl' with hl' | hl'
          · have h := im_draw b7 k s.x A' c' (rowF s zs y) fp' L' G wx i' hb' x' hl' hsx
            rw [hG1] at h
            exact h
          · have h := im_draw b7 k s.x A' c' (rowF s zs y) fp' L' G1 wx i' hb' x' hl' hsx
            rw [HG2.out] at h
            exact h
        refine hcall.mono ?_
        rintro e w' ⟨⟨v, rfl⟩, o', L2, x2, hl2⟩
        exact ⟨v, rfl, ⟨o', fun _ => ⟨L2, x2, hl2⟩⟩, ⟨ho.trans o', L2, x2, .inr hl2⟩, L2, x2, hl2⟩
    · intro vs wx hI hF
      obtain ⟨-, -, -, -, -, -, -, ⟨L2, x2, hl2⟩, -⟩ := hF
      have oW : Only [b7] W wx := (Only.of_below BW.out).trans hI.1
      refine ⟨⟨oW.size, fun k o hB hk _ => (oW.block k (Array.getElem?_eq_some_iff.1 hk).1 (by simp; omega)).trans hk⟩, .of_only oW fun b hb hs => ?_, DW.out.keep oW, L2, x2, HG.out L2 hl2⟩
      simp at hs
      have := (F2.out b hb).2
      omega
  case done =>
    rintro D ys W hD hys ⟨hd, L, hx, hl⟩ hK
    have hbl : bringL ys = onF S y := by rw [bringL_all hys, hLv]
    rw [hbl] at hl
    have hl64 : L.length = 64 := hl.1
    have DD := Lib.hid hd
    have XX := Lib.hid hx
    have HLL := Lib.hid hl
    have hDr : D ≠ w.heap.size + 3 := by omega
    have hDr2 : w.heap.size ≤ D := by omega
    have KK : Hid ((W.setRow (w.heap.size + 3) (iv L).toArray).heap[D]? = some (.deferred (some []))) := Lib.hid ((setRow_other W (w.heap.size + 3) D _ hDr).trans hK)
    clear hd hx hl hK hbl hys
    go_wp2_with (first | (refine sa_load ty_line (by rfl) _ rfl b7 0 rfl _ (iv L) (iv L) XX.out (by simp [hl64]) (fun j v h => by simpa using h) ?_) | (refine sa_store ty_line (by rfl) _ _ rfl (w.heap.size + 3) rfl _ _ (iv L) rfl DD.out.x6 (by simp [z64_len]) (by simp [hl64]) (iv_all _) ?_))
    refine ⟨by simp, .inl ⟨_, _, rfl, run_takeDeferred KK.out, ?_⟩⟩
    exact ⟨.agg (iv L).toArray, arr_ret ty_line rfl rfl (box_grown (Box.row DD.out.x6) (grownBy_putObj' _ D _) fun k e => by injection e with e; omega) (by simp [hl64]), L, rfl, HLL.out, below_grown2 (below_row DD.out.below (by omega) _) (grownBy_putObj' _ D _) (fun k e => by injection e with e; omega) (Nat.le_refl _)⟩
  case stop =>
    rintro D c pre W _ _ h _
    exact h.elim
end Go.Proofs.Ytacebhncecninaa
