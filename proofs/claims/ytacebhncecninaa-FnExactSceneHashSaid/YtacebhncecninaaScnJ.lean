/- The laws' own functions on scenes: size, copy, comparison, marks. -/
import Derived.Test.YtacebhncecninaaScnD
import Derived.Test.YtacebhncecninaaGD
import Derived.Test.YtacebhncecninaaSprK
namespace Go.Proofs.Ytacebhncecninaa
open Go.ChangeShapes Go.WideShapes Go.ChangeAt Go.RowKit
set_option linter.unusedVariables false

theorem fld_infoL2 : (Try.prog.info? 60).map (·.size) = some 5 := by kernel_rfl
section
variable {ops : Array Oper} {rest : List Oper} {o : Oper} {a : Act} {w : World} {Q : Exit → Act → World → Prop} {W : Int} {A : Option Addr} {n c : Nat} {T : Option Addr} {m d : Nat} {sx sy : Int} {O : Option Addr} {k e : Nat}
/-- The background of a scene of the laws' own type is loaded. -/
theorem sc_backL {t : TypeId} (hw : Region.wanted o (yielded ops a.tmps) = true) (x : Operand) (ho : o.op = .load 60 x) (b : Nat) (hx : a.eval x = .pointer (some ⟨b, 0, none⟩)) (hb : Box w b t (ccs W A n c T m d sx sy O k e))
    (h : wpList Try.prog ops Q rest (a.put o.dst (fldV W A n c T m d sx sy)) w) : wpList Try.prog ops Q (o :: rest) a w :=
  wpList_step fun K hK => by
    rw [if_pos hw]
    exact wp_load_mid _ x ho b 0 hx (fcs W A n c T m d sx sy) _ (sc_part hb) Try.underlying60 rfl fld_infoL2 (hK _ _ h)
/-- A background is stored into a scene. -/
theorem sc_put (hw : Region.wanted o (yielded ops a.tmps) = true) (x y : Operand) (ho : o.op = .store 26 x y) (g : Nat) (hx : a.eval x = .pointer (some ⟨g, 0, none⟩)) (hy : a.eval y = fldV W A n c T m d sx sy) (t : TypeId) {W' : Int} {A' : Option Addr} {n' c' : Nat} {T' : Option Addr} {m' d' : Nat} {sx' sy' : Int} (hb : Box w g t (ccs W' A' n' c' T' m' d' sx' sy' O k e))
    (h : wpList Try.prog ops Q rest (a.put o.dst undef) (w.setRow g (ccs W A n c T m d sx sy O k e).toArray)) : wpList Try.prog ops Q (o :: rest) a w :=
  wpList_step fun K hK => by
    rw [if_pos hw]
    have h5 : (fcs W A n c T m d sx sy).length = 5 := rfl
    have hst := run_storeCells_at Try.prog g 0 t (fcs W A n c T m d sx sy) 0 (ccs W' A' n' c' T' m' d' sx' sy' O k e).toArray w hb (by simp) (by simp [Value.oneCell'])
    have e' : ((ccs W' A' n' c' T' m' d' sx' sy' O k e).toArray.toList.take (0 + 0) ++ fcs W A n c T m d sx sy ++ (ccs W' A' n' c' T' m' d' sx' sy' O k e).toArray.toList.drop (0 + 0 + (fcs W A n c T m d sx sy).length)).toArray = (ccs W A n c T m d sx sy O k e).toArray := by simp
    rw [e'] at hst
    have hsv : (storeVar 26 ⟨g, 0, none⟩ (fldV W A n c T m d sx sy)).run Try.prog w = .ok () (w.setRow g (ccs W A n c T m d sx sy O k e).toArray) := by
      have hi := fld_info
      cases hq : Try.prog.info? 26 with
      | none => simp [hq] at hi
      | some i =>
        have hs : i.size = 5 := by simpa [hq] using hi
        have hc2 : (fldV W A n c T m d sx sy).cells = (fcs W A n c T m d sx sy).toArray := rfl
        simp [storeVar, sizeOf, typeInfo, hq, hc2, hs, hst]
    unfold Oper.wp execOp
    simp only [ho, hx, hy, Instr.storeAt, Instr.sureAddr, Sem.run_bind, Sem.run_pure, Result.andThen_ok, hsv]
    exact hK _ _ h
end
/-- Scenes' size. -/
theorem sz_scn_yes (W : Int) (A : Option Addr) (n c : Nat) (T : Option Addr) (m d : Nat) (sx sy : Int) (O : Option Addr) (k e0 : Nat) (left : Int) (w : World) (h : (n : Int) + m + k ≤ left) (hl : left ≤ 1000000000) :
    Calls Try.prog 47 #[scV W A n c T m d sx sy O k e0, .int .i64 left] w fun e w' => e = .returned (.int .i64 (left - n - m - k)) ∧ Below w.heap.size w w' := by
  have BB := Lib.hid (below1 w (.cells #[.int .i64 W, .slice A n c, .slice T m d, .int .i64 sx, .int .i64 sy, .slice O k e0] 68))
  have X1 := Lib.hid (Box.new w #[.int .i64 W, .slice A n c, .slice T m d, .int .i64 sx, .int .i64 sy, .slice O k e0] 68)
  go_enter Try.func47, Try.ntmps47
  go_upto_region 1 with (fail)
  generalize w.alloc (.cells #[.int .i64 W, .slice A n c, .slice T m d, .int .i64 sx, .int .i64 sy, .slice O k e0] 68) = w1 at X1 BB ⊢
  generalize hbb : w.heap.size = bb at X1 ⊢
  have HBB := Lib.hid hbb
  clear hbb
  go_wp2_with (first | (refine sc_backL (by rfl) _ rfl bb rfl X1.out ?_))
  refine (sz_fld_yes W A n c T m d sx sy left _ (by omega) hl).mono ?_; rintro e w2 ⟨rfl, bl⟩
  have X2 := Lib.hid (X1.out.below bl)
  have B2 := Lib.hid (below_then BB.out bl)
  clear bl X1
  have k5 := X2.out.cell 5
  have hnn : ¬ left - n - m < 0 := by omega
  go_wp2_with fail
  refine (sz_sprs_yes O k e0 (left - n - m) _ (by omega) (by omega)).mono ?_; rintro e w3 ⟨rfl, rfl⟩
  have hnk : ¬ left - n - m - k < 0 := by omega
  go_wp2_with fail
  go_ret
  exact ⟨rfl, B2.out⟩
theorem sz_scn_no (W : Int) (A : Option Addr) (n c : Nat) (T : Option Addr) (m d : Nat) (sx sy : Int) (O : Option Addr) (k e0 : Nat) (left : Int) (w : World) (h : left < (n : Int) + m + k) (h0 : 0 ≤ left) (hl : left ≤ 1000000000) (hn : n ≤ 9223372036854775807) (hm : m ≤ 9223372036854775807) (hk : k ≤ 9223372036854775807) :
    Calls Try.prog 47 #[scV W A n c T m d sx sy O k e0, .int .i64 left] w fun e w' => e = .returned (.int .i64 (-1)) ∧ Below w.heap.size w w' := by
  have BB := Lib.hid (below1 w (.cells #[.int .i64 W, .slice A n c, .slice T m d, .int .i64 sx, .int .i64 sy, .slice O k e0] 68))
  have X1 := Lib.hid (Box.new w #[.int .i64 W, .slice A n c, .slice T m d, .int .i64 sx, .int .i64 sy, .slice O k e0] 68)
  go_enter Try.func47, Try.ntmps47
  go_upto_region 1 with (fail)
  generalize w.alloc (.cells #[.int .i64 W, .slice A n c, .slice T m d, .int .i64 sx, .int .i64 sy, .slice O k e0] 68) = w1 at X1 BB ⊢
  generalize hbb : w.heap.size = bb at X1 ⊢
  have HBB := Lib.hid hbb
  clear hbb
  go_wp2_with (first | (refine sc_backL (by rfl) _ rfl bb rfl X1.out ?_))
  by_cases hf : left < (n : Int) + m
  · refine (sz_fld_no W A n c T m d sx sy left _ hf h0 hl hn hm).mono ?_; rintro e w2 ⟨rfl, bl⟩
    have B2 := Lib.hid (below_then BB.out bl)
    clear bl X1
    go_wp2_with fail
    go_ret
    exact ⟨rfl, B2.out⟩
  · refine (sz_fld_yes W A n c T m d sx sy left _ (by omega) hl).mono ?_; rintro e w2 ⟨rfl, bl⟩
    have X2 := Lib.hid (X1.out.below bl)
    have B2 := Lib.hid (below_then BB.out bl)
    clear bl X1
    have k5 := X2.out.cell 5
    have hnn : ¬ left - n - m < 0 := by omega
    go_wp2_with fail
    refine (sz_sprs_no O k e0 (left - n - m) _ (by omega) (by omega) hk).mono ?_; rintro e w3 ⟨rfl, rfl⟩
    go_wp2_with fail
    go_ret
    exact ⟨rfl, B2.out⟩
/-- A new scene as a result. -/
def SNew (F : Fld) (S : List Spr) (w : World) (e : Ending) (w' : World) : Prop :=
  ∃ (A : Option Addr) (c : Nat) (T : Option Addr) (d : Nat) (O : Option Addr) (e0 : Nat) (fa ft fo : List Nat), e = .returned (sv F A c T d S O e0) ∧ F.xs.length ≤ c ∧ F.nt ≤ d ∧ S.length ≤ e0 ∧ SHas w' A T O F S fa ft fo ∧ New w.heap.size w' (fa ++ ft ++ fo) ∧ Below w.heap.size w w'
set_option maxRecDepth 100000 in
set_option maxHeartbeats 2000000 in
theorem to_scn (F : Fld) (A : Option Addr) (c : Nat) (T : Option Addr) (d : Nat) (S : List Spr) (O : Option Addr) (e0 : Nat) (fa ft fo : List Nat) (w : World) (h : SHas w A T O F S fa ft fo) (hs : SSmall F S) :
    Calls Try.prog 48 #[sv F A c T d S O e0] w (SNew F S w) := by
  obtain ⟨w1, hw1⟩ : ∃ w1, w1 = ((w.alloc (.cells #[.int .i64 F.w, .slice A F.xs.length c, .slice T F.nt d, .int .i64 F.sx, .int .i64 F.sy, .slice O S.length e0] 68)).alloc (.cells #[.int .i64 0, .slice none 0 0, .slice none 0 0, .int .i64 0, .int .i64 0, .slice none 0 0] 41)).alloc (.cells #[.int .i64 0, .slice none 0 0, .slice none 0 0, .int .i64 0, .int .i64 0, .slice none 0 0] 41) := ⟨_, rfl⟩
  have X1 : Hid (Box w1 w.heap.size 68 (ccs F.w A F.xs.length c T F.nt d F.sx F.sy O S.length e0)) := Lib.hid (by rw [hw1]; exact ((Box.new w _ _).alloc _).alloc _)
  have Y1 : Hid (Box w1 (w.heap.size + 1) 41 (ccs 0 none 0 0 none 0 0 0 0 none 0 0)) := Lib.hid (by rw [hw1]; exact (Box.new_at _ _ _ _ (by simp)).alloc _)
  have Z1 : Hid (Box w1 (w.heap.size + 1 + 1) 41 (ccs 0 none 0 0 none 0 0 0 0 none 0 0)) := Lib.hid (by rw [hw1]; exact Box.new_at _ _ _ _ (by simp))
  have B1 : Hid (Below w.heap.size w w1) := Lib.hid (by rw [hw1]; exact below3 w _ _ _)
  have HFR : Hid (∀ W, Below w.heap.size w W → SHas W A T O F S fa ft fo) := Lib.hid fun W h' => h.below h'
  have HS := Lib.hid hs
  clear h hs
  generalize hb0 : w.heap.size = b0 at X1 Y1 Z1 B1 HFR
  generalize hb1 : b0 + 1 = b1 at Y1 Z1
  generalize hb2 : b1 + 1 = b2 at Z1
  have HBB := Lib.hid (And.intro hb0 (And.intro hb1 hb2))
  have n12 : b1 ≠ b2 := by omega
  have l12 : b1 < b2 := by omega
  go_enter Try.func48, Try.ntmps48
  go_upto_region 2 with (fail)
  rw [← hw1]
  clear hw1 hb0 hb1 hb2
  go_wp2_with (first | (refine sc_backL (by rfl) _ rfl b0 rfl X1.out ?_))
  refine (to_fld F A c T d fa ft _ (HFR.out _ B1.out).1 HS.out.1).mono ?_
  rintro e w2 ⟨A2, c2, T2, d2, fa2, ft2, rfl, hc2, hd2, hf2, hn2, bl⟩
  have X2 := Lib.hid (X1.out.below bl)
  have Y2 := Lib.hid (Y1.out.below bl)
  have Z2 := Lib.hid (Z1.out.below bl)
  have L2 : b2 < w1.heap.size := Z1.out.lt
  have h12 : w1.heap.size ≤ w2.heap.size := bl.size
  have B2 : Hid (Below b0 w w2) := Lib.hid (B1.out.trans (bl.mono (by have := X1.out.lt; omega)))
  have F2 := Lib.hid hf2
  have N2 := Lib.hid hn2
  clear X1 Y1 Z1 B1 bl hf2 hn2
  go_upto_region 3 with (first | (refine sc_put (W := F.w) (A := A2) (n := F.xs.length) (c := c2) (T := T2) (m := F.nt) (d := d2) (sx := F.sx) (sy := F.sy) (by rfl) _ _ rfl b2 rfl rfl _ Z2.out ?_))
  obtain ⟨w3, hw3⟩ : ∃ w3, w3 = w2.setRow b2 (ccs F.w A2 F.xs.length c2 T2 F.nt d2 F.sx F.sy none 0 0).toArray := ⟨_, rfl⟩
  have o3 : Only [b2] w2 w3 := by rw [hw3]; exact (Only.refl _ _).row (.inl (by simp)) _
  have h23 : w2.heap.size ≤ w3.heap.size := o3.size
  have X3 : Hid (Box w3 b0 68 (ccs F.w A F.xs.length c T F.nt d F.sx F.sy O S.length e0)) := Lib.hid (X2.out.only o3 (by have := HBB.out; simp; omega))
  have Y3 : Hid (Box w3 b1 41 (ccs 0 none 0 0 none 0 0 0 0 none 0 0)) := Lib.hid (Y2.out.only o3 (by simp; omega))
  have Z3 : Hid (Box w3 b2 41 (ccs F.w A2 F.xs.length c2 T2 F.nt d2 F.sx F.sy none 0 0)) := Lib.hid (by rw [hw3]; exact Box.row Z2.out)
  have B3 : Hid (Below b0 w w3) := Lib.hid (by rw [hw3]; exact below_row B2.out (by have := HBB.out; omega) _)
  have s3 : Same (fa2 ++ ft2) w2 w3 := .of_only o3 fun x hx hs => by have := (N2.out.lt x hx).1; simp at hs; omega
  have F3 : Hid (FHas w3 A2 T2 F fa2 ft2) := Lib.hid ⟨F2.out.1.keep (s3.sub fun x hx => List.mem_append_left _ hx), F2.out.2.keep (s3.sub fun x hx => List.mem_append_right _ hx)⟩
  have N3 : Hid (New w1.heap.size w3 (fa2 ++ ft2)) := Lib.hid (N2.out.keep s3)
  rw [← hw3]
  clear hw3 o3 s3 X2 Y2 Z2 B2 F2 N2
  have k5 := X3.out.cell 5
  go_wp2_with fail
  clear k5
  refine (to_sprs O S.length e0 S fo _ (HFR.out _ B3.out).2 HS.out.2).mono ?_
  rintro e w4 ⟨O4, e4, fo4, rfl, he4, hs4, hn4, bl⟩
  have Y4 := Lib.hid (Y3.out.below bl)
  have Z4 := Lib.hid (Z3.out.below bl)
  have L3 : b2 < w3.heap.size := Z3.out.lt
  have B4 : Hid (Below b0 w w4) := Lib.hid (B3.out.trans (bl.mono (by have := HBB.out; omega)))
  have F4 := Lib.hid (F3.out.below bl)
  have N4 : Hid (New w1.heap.size w4 (fa2 ++ ft2 ++ fo4)) := Lib.hid ((N3.out.keep (.of_below bl)).append (hn4.mono (by omega)) fun b hb hc => by
    have h1 := (N3.out.lt b hb).2
    have h2 := (hn4.lt b hc).1
    omega)
  have S4 := Lib.hid hs4
  clear X3 Y3 Z3 B3 F3 N3 bl hs4 hn4
  have z5 := Z4.out.cell 5
  have fz := Z4.out.frozen
  go_upto_region 4 with (fail)
  obtain ⟨w5, hw5⟩ : ∃ w5, w5 = w4.setCell ⟨b2, 5, none⟩ (.slice O4 S.length e4) := ⟨_, rfl⟩
  have o5 : Only [b2] w4 w5 := by rw [hw5]; exact (Only.refl _ _).setCell (.inl (by simp)) _
  have Y5 : Hid (Box w5 b1 41 (ccs 0 none 0 0 none 0 0 0 0 none 0 0)) := Lib.hid (by rw [hw5]; exact Y4.out.far n12 _)
  have Z5 : Hid (Box w5 b2 41 (ccs F.w A2 F.xs.length c2 T2 F.nt d2 F.sx F.sy O4 S.length e4)) := Lib.hid (by rw [hw5]; exact Z4.out.set 5 _)
  have B5 : Hid (Below b0 w w5) := Lib.hid (by rw [hw5]; exact B4.out.setCell (by show b0 ≤ b2; have := HBB.out; omega) _)
  have s5 : Same (fa2 ++ ft2 ++ fo4) w4 w5 := .of_only o5 fun x hx hs => by have := (N4.out.lt x hx).1; simp at hs; omega
  have H5 : Hid (SHas w5 A2 T2 O4 F S fa2 ft2 fo4) := Lib.hid (SHas.stay ⟨F4.out, S4.out⟩ o5 fun x hx hs => by have := (N4.out.lt x hx).1; simp at hs; omega)
  have N5 : Hid (New w1.heap.size w5 (fa2 ++ ft2 ++ fo4)) := Lib.hid (N4.out.keep s5)
  rw [← hw5]
  clear hw5 o5 s5 z5 fz Y4 Z4 B4 F4 S4 N4
  go_wp2_with (first | (refine sc_load (by rfl) _ rfl b2 rfl Z5.out ?_) | (refine sc_store (by rfl) _ _ rfl b1 rfl rfl _ Y5.out rfl ?_))
  obtain ⟨w6, hw6⟩ : ∃ w6, w6 = w5.setRow b1 (ccs F.w A2 F.xs.length c2 T2 F.nt d2 F.sx F.sy O4 S.length e4).toArray := ⟨_, rfl⟩
  have o6 : Only [b1] w5 w6 := by rw [hw6]; exact (Only.refl _ _).row (.inl (by simp)) _
  have RF : Hid (Box w6 b1 41 (ccs F.w A2 F.xs.length c2 T2 F.nt d2 F.sx F.sy O4 S.length e4)) := Lib.hid (by rw [hw6]; exact Box.row Y5.out)
  have B6 : Hid (Below b0 w w6) := Lib.hid (by rw [hw6]; exact below_row B5.out (by have := HBB.out; omega) _)
  rw [← hw6]
  refine bodyPost_ret (scn_ret rfl rfl RF.out) rfl ⟨A2, c2, T2, d2, O4, e4, fa2, ft2, fo4, rfl, hc2, hd2, he4, H5.out.stay o6 fun x hx hs => ?_, (N5.out.keep (.of_only o6 fun x hx hs => ?_)).mono ?_, ?_⟩
  · have := (N5.out.lt x hx).1; simp at hs; omega
  · have := (N5.out.lt x hx).1; simp at hs; omega
  · have := HBB.out; omega
  · have h6 := B6.out
    rwa [← HBB.out.1] at h6
set_option maxRecDepth 100000 in
set_option maxHeartbeats 2000000 in
theorem eq_scn (F : Fld) (A A' : Option Addr) (c c' : Nat) (T T' : Option Addr) (d d' : Nat) (S : List Spr) (O O' : Option Addr) (e0 e1 : Nat) (fa ft fo ga gt go_ : List Nat) (w : World) (h : SHas w A T O F S fa ft fo) (h' : SHas w A' T' O' F S ga gt go_) (hs : SSmall F S) :
    Calls Try.prog 49 #[sv F A c T d S O e0, sv F A' c' T' d' S O' e1] w fun e w' => e = .returned (.bool true) ∧ Below w.heap.size w w' := by
  obtain ⟨w1, hw1⟩ : ∃ w1, w1 = (w.alloc (.cells #[.int .i64 F.w, .slice A F.xs.length c, .slice T F.nt d, .int .i64 F.sx, .int .i64 F.sy, .slice O S.length e0] 41)).alloc (.cells #[.int .i64 F.w, .slice A' F.xs.length c', .slice T' F.nt d', .int .i64 F.sx, .int .i64 F.sy, .slice O' S.length e1] 41) := ⟨_, rfl⟩
  have X1 : Hid (Box w1 w.heap.size 41 (ccs F.w A F.xs.length c T F.nt d F.sx F.sy O S.length e0)) := Lib.hid (by rw [hw1]; exact (Box.new w _ _).alloc _)
  have Y1 : Hid (Box w1 (w.heap.size + 1) 41 (ccs F.w A' F.xs.length c' T' F.nt d' F.sx F.sy O' S.length e1)) := Lib.hid (by rw [hw1]; exact Box.new_at _ _ _ _ (by simp))
  have B1 : Hid (Below w.heap.size w w1) := Lib.hid (by rw [hw1]; exact below2 w _ _)
  have H1 := Lib.hid (h.below B1.out)
  have G1 := Lib.hid (h'.below B1.out)
  have HS := Lib.hid hs
  clear h h' hs
  go_enter Try.func49, Try.ntmps49
  go_upto_region 1 with (fail)
  rw [← hw1]
  clear hw1
  go_wp2_with (first | (refine sc_back (by rfl) _ rfl w.heap.size rfl X1.out ?_) | (refine sc_back (by rfl) _ rfl (w.heap.size + 1) rfl Y1.out ?_))
  refine (eq_fld F A A' c c' T T' d d' fa ft ga gt _ H1.out.1 G1.out.1 HS.out.1).mono ?_; rintro e w2 ⟨rfl, bl⟩
  have X2 := Lib.hid (X1.out.below bl)
  have Y2 := Lib.hid (Y1.out.below bl)
  have B2 := Lib.hid (below_then B1.out bl)
  have H2 := Lib.hid (H1.out.below bl)
  have G2 := Lib.hid (G1.out.below bl)
  clear bl X1 Y1 B1 H1 G1
  have k5 := X2.out.cell 5
  have j5 := Y2.out.cell 5
  go_wp2_with fail
  refine (eq_sprs O O' S.length e0 e1 S fo go_ _ H2.out.2 G2.out.2 HS.out.2).mono ?_; rintro e w3 ⟨rfl, bl⟩
  have B3 := Lib.hid (below_then B2.out bl)
  clear bl k5 j5
  go_wp2_with fail
  go_ret
  exact ⟨rfl, B3.out⟩
/-- What marking a scene leaves. -/
def MarkedC (F : Fld) (S : List Spr) (k : Int) (fp : List Nat) (w : World) (e : Ending) (w' : World) : Prop := e = .returned (.int .i64 (k + F.xs.length + (64 * F.nt : Nat) + 6 * S.length)) ∧ Only fp w w'
set_option maxRecDepth 100000 in
set_option maxHeartbeats 2000000 in
theorem mark_scn (F : Fld) (A : Option Addr) (c : Nat) (T : Option Addr) (d : Nat) (S : List Spr) (O : Option Addr) (e0 : Nat) (fa ft fo : List Nat) (k : Int) (w : World) (h : SHas w A T O F S fa ft fo) (hn : New 0 w (fa ++ ft ++ fo)) (h1 : F.xs.length ≤ 10000000) (h2 : F.nt ≤ 10000000) (h3 : S.length ≤ 10000000) (k0 : 0 ≤ k) (k1 : k ≤ 1000000000) :
    Calls Try.prog 50 #[sv F A c T d S O e0, .int .i64 k] w (MarkedC F S k (fa ++ ft ++ fo) w) := by
  have BB := Lib.hid (below1 w (.cells #[.int .i64 F.w, .slice A F.xs.length c, .slice T F.nt d, .int .i64 F.sx, .int .i64 F.sy, .slice O S.length e0] 41))
  have X1 := Lib.hid (Box.new w #[.int .i64 F.w, .slice A F.xs.length c, .slice T F.nt d, .int .i64 F.sx, .int .i64 F.sy, .slice O S.length e0] 41)
  have H1 := Lib.hid (SHas.below h BB.out)
  have N1 := Lib.hid (hn.keep (.of_below BB.out))
  have NL := Lib.hid (fun b hb => (hn.lt b hb).2)
  clear h hn
  go_enter Try.func50, Try.ntmps50
  go_upto_region 1 with (fail)
  generalize w.alloc (.cells #[.int .i64 F.w, .slice A F.xs.length c, .slice T F.nt d, .int .i64 F.sx, .int .i64 F.sy, .slice O S.length e0] 41) = w1 at X1 BB H1 N1 ⊢
  generalize hbb : w.heap.size = bb at X1 NL ⊢
  have HBB := Lib.hid hbb
  clear hbb
  go_wp2_with (first | (refine sc_back (by rfl) _ rfl bb rfl X1.out ?_))
  refine (mark_fld F A c T d k fa ft _ H1.out.1 ⟨(List.nodup_append.1 N1.out.once).1, fun b hb => N1.out.lt b (List.mem_append_left _ hb), fun b hb => N1.out.free b (List.mem_append_left _ hb)⟩ (by omega) (by omega) k0 k1).mono ?_
  rintro e w2 ⟨rfl, o2, _, _⟩
  have hbbN : bb ∉ fa ++ ft := fun hb => by have := NL.out bb (List.mem_append_left _ hb); omega
  have X2 := Lib.hid (X1.out.only o2 hbbN)
  have HD : Hid (∀ b ∈ fo, b ∉ fa ++ ft) := Lib.hid fun b hb hc => (List.nodup_append.1 N1.out.once).2.2 b hc b hb rfl
  have S2 := Lib.hid (H1.out.2.keep (.of_only o2 fun b hb hx => HD.out b hb hx))
  have FR2 : Hid (∀ b ∈ fo, ∀ o, w2.frozen? ⟨b, o, none⟩ = false) := Lib.hid fun b hb o => by
    rw [World.frozen?_of_block (a := ⟨b, o, none⟩) (o2.block b (N1.out.lt b (List.mem_append_right _ hb)).2 (HD.out b hb))]
    exact N1.out.free b (List.mem_append_right _ hb) o
  have O2 : Hid (Only (fa ++ ft ++ fo) w w2) := Lib.hid ((Only.of_below (by have h := BB.out; exact h)).trans (o2.mono fun x hx => List.mem_append_left _ hx))
  clear o2 X1
  have k5 := X2.out.cell 5
  go_wp2_with fail
  refine (mark_sprs O S.length e0 (k + F.xs.length + (64 * F.nt : Nat)) S fo _ S2.out FR2.out (by omega) (by omega) (by omega)).mono ?_
  rintro e w3 ⟨rfl, o3⟩
  have O3 := Lib.hid (O2.out.trans (o3.mono fun x hx => List.mem_append_right _ hx))
  clear o3 k5
  go_wp2_with fail
  go_ret
  exact ⟨rfl, O3.out⟩
end Go.Proofs.Ytacebhncecninaa
