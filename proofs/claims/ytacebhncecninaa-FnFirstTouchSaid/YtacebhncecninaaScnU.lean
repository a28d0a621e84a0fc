/- What the laws draw: scenes, a column, a line. -/
import Derived.Test.YtacebhncecninaaScnD
namespace Go.Proofs.Ytacebhncecninaa
open Go.ChangeShapes Go.WideShapes Go.ChangeAt Go.RowKit
set_option linter.unusedVariables false

/-- A scene as a law got it. -/
structure GotS (w w' : World) (F : Fld) (S : List Spr) (A : Option Addr) (c : Nat) (T : Option Addr) (d : Nat) (O : Option Addr) (e0 : Nat) (fa ft fo : List Nat) : Prop where
  x1 : F.xs.length ≤ 1000
  t1 : F.nt ≤ 1000
  s1 : S.length ≤ 100
  xc : F.xs.length ≤ c
  td : F.nt ≤ d
  se : S.length ≤ e0
  has : SHas w' A T O F S fa ft fo
  below : Below w.heap.size w w'
def ScnGot (w : World) (e : Ending) (w' : World) : Prop := ∃ (F : Fld) (S : List Spr) (A : Option Addr) (c : Nat) (T : Option Addr) (d : Nat) (O : Option Addr) (e0 : Nat) (fa ft fo : List Nat), e = .returned (sv F A c T d S O e0) ∧ GotS w w' F S A c T d O e0 fa ft fo
def ScnGot1 (w : World) (e : Ending) (w' : World) : Prop := ∃ (F : Fld) (S : List Spr) (A : Option Addr) (c : Nat) (T : Option Addr) (d : Nat) (O : Option Addr) (e0 : Nat) (fa ft fo : List Nat) (y : Int), e = .returned (.tuple #[sv F A c T d S O e0, .int .i64 y]) ∧ (-1 ≤ y ∧ y ≤ 16) ∧ GotS w w' F S A c T d O e0 fa ft fo
def ScnGot2 (w : World) (e : Ending) (w' : World) : Prop := ∃ (F : Fld) (S : List Spr) (A : Option Addr) (c : Nat) (T : Option Addr) (d : Nat) (O : Option Addr) (e0 : Nat) (fa ft fo : List Nat) (x y : Int), e = .returned (.tuple #[sv F A c T d S O e0, .int .i64 x, .int .i64 y]) ∧ (-1 ≤ x ∧ x ≤ 32) ∧ (-1 ≤ y ∧ y ≤ 32) ∧ GotS w w' F S A c T d O e0 fa ft fo
section
variable {ρ : Operand → Value} {o : Oper} {w : World} {b : Nat} {t : TypeId} {W : Int} {A : Option Addr} {n c : Nat} {T : Option Addr} {m d : Nat} {sx sy : Int} {O : Option Addr} {k e : Nat}
theorem exec_loadScn (x : Operand) (hop : o.op = .load 41 x) (hx : ρ x = .pointer (some ⟨b, 0, none⟩)) (hb : Box w b t (ccs W A n c T m d sx sy O k e)) :
    (execOp ρ o).run Try.prog w = .ok (.value (scV W A n c T m d sx sy O k e)) w := by
  have hl := run_loadVar_row (P := Try.prog) w b t 41 (ccs W A n c T m d sx sy O k e).toArray (0, 0) _ hb Try.underlying41 rfl sc_info
  unfold execOp
  simp only [hop, hx, Instr.loadAt, Instr.sureAddr, Sem.run_bind, Sem.run_pure, Result.andThen_ok, hl]
theorem plain_ccs : ∀ v ∈ ccs W A n c T m d sx sy O k e, plainV v := by
  intro v hv z
  simp [ccs] at hv
  rcases hv with rfl | rfl | rfl | rfl | rfl | rfl <;> simp
theorem exec_storeScn {cs : List Value} (p x : Operand) (b : Nat) (hop : o.op = .store 41 p x) (hp : ρ p = .pointer (some ⟨b, 0, none⟩)) (hx : ρ x = scV W A n c T m d sx sy O k e) (hb : Box w b t cs) (hc : cs.length = 6) :
    (execOp ρ o).run Try.prog w = .ok .skip (w.setRow b (ccs W A n c T m d sx sy O k e).toArray) := by
  have hs := run_storeVar_row (P := Try.prog) w b t 41 cs.toArray (ccs W A n c T m d sx sy O k e).toArray hb sc_info (by simpa using hc) (by simp [Value.oneCell'])
  unfold execOp
  simp only [hop, hp, hx, Instr.storeAt, Instr.sureAddr, Sem.run_bind, Sem.run_pure, Result.andThen_ok, hs]
end
set_option maxRecDepth 100000 in
set_option maxHeartbeats 4000000 in
theorem draw_sceneHash (a : Option Addr) (len cap : Nat) (zs : List Int) (w : World) (h : IsRow .u8 w a len cap zs) : Calls Try.prog 33 #[.slice a len cap] w (ScnGot w) := by
  have H := Lib.hid (isRow_stays h (below1 w (.cells #[.int .i64 0, .slice none 0 0, .slice none 0 0, .int .i64 0, .int .i64 0, .slice none 0 0] 41)))
  clear h
  go_enter Try.func33, Try.ntmps33
  go_wp2_with fail
  refine (open_any a len cap zs _ H.out).mono ?_
  rintro e w1 ⟨rfl, b1, r1⟩
  have X1 : Hid (Box w1 w.heap.size 41 (ccs 0 none 0 0 none 0 0 0 0 none 0 0)) := Lib.hid ((Box.new w _ _).below b1)
  have B1 : Hid (Below w.heap.size w w1) := Lib.hid ((below1 w (.cells #[.int .i64 0, .slice none 0 0, .slice none 0 0, .int .i64 0, .int .i64 0, .slice none 0 0] 41)).trans (b1.mono (by simp)))
  have R1 := Lib.hid r1
  have zq : w.heap.size < (w.alloc (.cells #[.int .i64 0, .slice none 0 0, .slice none 0 0, .int .i64 0, .int .i64 0, .slice none 0 0] 41)).heap.size := by simp
  generalize (w.alloc (.cells #[.int .i64 0, .slice none 0 0, .slice none 0 0, .int .i64 0, .int .i64 0, .slice none 0 0] 41)).heap.size = q at R1 zq
  have zq1 : q < w1.heap.size := R1.out.lt
  clear b1 r1
  go_wp2_with fail
  refine (scene_any q 0 9 _ R1.out (by omega) (by omega) (by omega)).mono ?_
  rintro e w2 ⟨F, S, A, c, T, d, O, e0, fa, ft, fo, rfl, hx, ht, hs1, hxc, htd, hse, hf, hnew, o2, r2⟩
  have X2 := Lib.hid (X1.out.only o2 (by simp; omega))
  have B2 := Lib.hid (B1.out.trans (o2.below (B := w.heap.size) (fun b hb => by simp at hb; omega) B1.out.size))
  have z12 : w1.heap.size ≤ w2.heap.size := o2.size
  have R2 := Lib.hid r2
  have F2 := Lib.hid hf
  have N2 := Lib.hid hnew
  have zr : w.heap.size < w1.heap.size := X1.out.lt
  clear o2 r2 hf hnew X1 B1 R1
  go_wp2_with (first | (refine sc_store (by rfl) _ _ rfl w.heap.size rfl rfl _ X2.out rfl ?_))
  have RF : Hid (Box (w2.setRow w.heap.size (ccs F.w A F.xs.length c T F.nt d F.sx F.sy O S.length e0).toArray) w.heap.size 41 (ccs F.w A F.xs.length c T F.nt d F.sx F.sy O S.length e0)) := Lib.hid (Box.row X2.out)
  have o3 : Only [w.heap.size] w2 (w2.setRow w.heap.size (ccs F.w A F.xs.length c T F.nt d F.sx F.sy O S.length e0).toArray) := (Only.refl _ _).row (.inl (by simp)) _
  exact bodyPost_ret (scn_ret rfl rfl RF.out) rfl ⟨F, S, A, c, T, d, O, e0, fa, ft, fo, rfl, hx, ht, hs1, hxc, htd, hse, F2.out.stay o3 (fun b hb hx => by have := N2.out b hb; simp at hx; omega), below_row B2.out (Nat.le_refl _) _⟩
set_option maxRecDepth 100000 in
set_option maxHeartbeats 4000000 in
theorem draw_scenePixel (a : Option Addr) (len cap : Nat) (zs : List Int) (w : World) (h : IsRow .u8 w a len cap zs) : Calls Try.prog 26 #[.slice a len cap] w (ScnGot2 w) := by
  have H := Lib.hid (isRow_stays h (below1 w (.cells #[.int .i64 0, .slice none 0 0, .slice none 0 0, .int .i64 0, .int .i64 0, .slice none 0 0] 41)))
  clear h
  go_enter Try.func26, Try.ntmps26
  go_wp2_with fail
  refine (open_any a len cap zs _ H.out).mono ?_
  rintro e w1 ⟨rfl, b1, r1⟩
  have X1 : Hid (Box w1 w.heap.size 41 (ccs 0 none 0 0 none 0 0 0 0 none 0 0)) := Lib.hid ((Box.new w _ _).below b1)
  have B1 : Hid (Below w.heap.size w w1) := Lib.hid ((below1 w (.cells #[.int .i64 0, .slice none 0 0, .slice none 0 0, .int .i64 0, .int .i64 0, .slice none 0 0] 41)).trans (b1.mono (by simp)))
  have R1 := Lib.hid r1
  have zq : w.heap.size < (w.alloc (.cells #[.int .i64 0, .slice none 0 0, .slice none 0 0, .int .i64 0, .int .i64 0, .slice none 0 0] 41)).heap.size := by simp
  generalize (w.alloc (.cells #[.int .i64 0, .slice none 0 0, .slice none 0 0, .int .i64 0, .int .i64 0, .slice none 0 0] 41)).heap.size = q at R1 zq
  have zq1 : q < w1.heap.size := R1.out.lt
  clear b1 r1
  go_wp2_with fail
  refine (scene_any q 0 14 _ R1.out (by omega) (by omega) (by omega)).mono ?_
  rintro e w2 ⟨F, S, A, c, T, d, O, e0, fa, ft, fo, rfl, hx, ht, hs1, hxc, htd, hse, hf, hnew, o2, r2⟩
  have X2 := Lib.hid (X1.out.only o2 (by simp; omega))
  have B2 := Lib.hid (B1.out.trans (o2.below (B := w.heap.size) (fun b hb => by simp at hb; omega) B1.out.size))
  have z12 : w1.heap.size ≤ w2.heap.size := o2.size
  have R2 := Lib.hid r2
  have F2 := Lib.hid hf
  have N2 := Lib.hid hnew
  have zr : w.heap.size < w1.heap.size := X1.out.lt
  clear o2 r2 hf hnew X1 B1 R1
  have X3 := Lib.hid (X2.out.alloc (.cells (ccs F.w A F.xs.length c T F.nt d F.sx F.sy O S.length e0).toArray 41))
  have Y3 : Hid (Box (w2.alloc (.cells (ccs F.w A F.xs.length c T F.nt d F.sx F.sy O S.length e0).toArray 41)) w2.heap.size 41 (ccs F.w A F.xs.length c T F.nt d F.sx F.sy O S.length e0)) := Lib.hid (Box.new w2 _ _)
  have B3 := Lib.hid (B2.out.alloc B2.out.size (.cells (ccs F.w A F.xs.length c T F.nt d F.sx F.sy O S.length e0).toArray 41))
  have R3 := Lib.hid (R2.out.alloc (.cells (ccs F.w A F.xs.length c T F.nt d F.sx F.sy O S.length e0).toArray 41))
  have F3 := Lib.hid (F2.out.below (below1 w2 (.cells (ccs F.w A F.xs.length c T F.nt d F.sx F.sy O S.length e0).toArray 41)))
  go_upto_region 3 with (fail)
  have za : w.heap.size < w2.heap.size := X2.out.lt
  have zb : q < w2.heap.size := R2.out.lt
  generalize w2.alloc (.cells #[.int .i64 F.w, .slice A F.xs.length c, .slice T F.nt d, .int .i64 F.sx, .int .i64 F.sy, .slice O S.length e0] 41) = w3 at X3 Y3 B3 R3 F3 ⊢
  generalize w2.heap.size = bk at Y3 za zb z12 ⊢
  go_wp2_with fail
  refine (xy_any14 q (0 + 1200) w3 R3.out (by omega)).mono ?_
  rintro e w4 ⟨x, y, rfl, hxx, hyy, o4, r4⟩
  have X4 := Lib.hid (X3.out.only o4 (by simp; omega))
  have Y4 := Lib.hid (Y3.out.only o4 (by simp; omega))
  have F4 := Lib.hid (F3.out.stay o4 (fun b hb hx => by have := N2.out b hb; simp at hx; omega))
  have B4 := Lib.hid (B3.out.trans (o4.below (B := w.heap.size) (fun b hb => by simp at hb; omega) B3.out.size))
  clear o4 r4 X3 Y3 F3 B3 R3
  go_wp2_with (first | (refine sc_load (by rfl) _ rfl bk rfl Y4.out ?_) | (refine sc_store (by rfl) _ _ rfl w.heap.size rfl rfl _ X4.out rfl ?_))
  have RF : Hid (Box (w4.setRow w.heap.size (ccs F.w A F.xs.length c T F.nt d F.sx F.sy O S.length e0).toArray) w.heap.size 41 (ccs F.w A F.xs.length c T F.nt d F.sx F.sy O S.length e0)) := Lib.hid (Box.row X4.out)
  have o5 : Only [w.heap.size] w4 (w4.setRow w.heap.size (ccs F.w A F.xs.length c T F.nt d F.sx F.sy O S.length e0).toArray) := (Only.refl _ _).row (.inl (by simp)) _
  exact bodyPost_ret (scn_ret3 rfl rfl RF.out _ _ rfl rfl) rfl ⟨F, S, A, c, T, d, O, e0, fa, ft, fo, x, y, rfl, hxx, hyy, hx, ht, hs1, hxc, htd, hse, F4.out.stay o5 (fun b hb hx => by have := N2.out b hb; simp at hx; omega), below_row B4.out (Nat.le_refl _) _⟩
set_option maxRecDepth 100000 in
set_option maxHeartbeats 4000000 in
theorem draw_sceneLine (a : Option Addr) (len cap : Nat) (zs : List Int) (w : World) (h : IsRow .u8 w a len cap zs) : Calls Try.prog 30 #[.slice a len cap] w (ScnGot1 w) := by
  have H := Lib.hid (isRow_stays h (below1 w (.cells #[.int .i64 0, .slice none 0 0, .slice none 0 0, .int .i64 0, .int .i64 0, .slice none 0 0] 41)))
  clear h
  go_enter Try.func30, Try.ntmps30
  go_wp2_with fail
  refine (open_any a len cap zs _ H.out).mono ?_
  rintro e w1 ⟨rfl, b1, r1⟩
  have X1 : Hid (Box w1 w.heap.size 41 (ccs 0 none 0 0 none 0 0 0 0 none 0 0)) := Lib.hid ((Box.new w _ _).below b1)
  have B1 : Hid (Below w.heap.size w w1) := Lib.hid ((below1 w (.cells #[.int .i64 0, .slice none 0 0, .slice none 0 0, .int .i64 0, .int .i64 0, .slice none 0 0] 41)).trans (b1.mono (by simp)))
  have R1 := Lib.hid r1
  have zq : w.heap.size < (w.alloc (.cells #[.int .i64 0, .slice none 0 0, .slice none 0 0, .int .i64 0, .int .i64 0, .slice none 0 0] 41)).heap.size := by simp
  generalize (w.alloc (.cells #[.int .i64 0, .slice none 0 0, .slice none 0 0, .int .i64 0, .int .i64 0, .slice none 0 0] 41)).heap.size = q at R1 zq
  have zq1 : q < w1.heap.size := R1.out.lt
  clear b1 r1
  go_wp2_with fail
  refine (scene_any q 0 14 _ R1.out (by omega) (by omega) (by omega)).mono ?_
  rintro e w2 ⟨F, S, A, c, T, d, O, e0, fa, ft, fo, rfl, hx, ht, hs1, hxc, htd, hse, hf, hnew, o2, r2⟩
  have X2 := Lib.hid (X1.out.only o2 (by simp; omega))
  have B2 := Lib.hid (B1.out.trans (o2.below (B := w.heap.size) (fun b hb => by simp at hb; omega) B1.out.size))
  have z12 : w1.heap.size ≤ w2.heap.size := o2.size
  have R2 := Lib.hid r2
  have F2 := Lib.hid hf
  have N2 := Lib.hid hnew
  have zr : w.heap.size < w1.heap.size := X1.out.lt
  clear o2 r2 hf hnew X1 B1 R1
  have X3 := Lib.hid (X2.out.alloc (.cells (ccs F.w A F.xs.length c T F.nt d F.sx F.sy O S.length e0).toArray 41))
  have Y3 : Hid (Box (w2.alloc (.cells (ccs F.w A F.xs.length c T F.nt d F.sx F.sy O S.length e0).toArray 41)) w2.heap.size 41 (ccs F.w A F.xs.length c T F.nt d F.sx F.sy O S.length e0)) := Lib.hid (Box.new w2 _ _)
  have B3 := Lib.hid (B2.out.alloc B2.out.size (.cells (ccs F.w A F.xs.length c T F.nt d F.sx F.sy O S.length e0).toArray 41))
  have R3 := Lib.hid (R2.out.alloc (.cells (ccs F.w A F.xs.length c T F.nt d F.sx F.sy O S.length e0).toArray 41))
  have F3 := Lib.hid (F2.out.below (below1 w2 (.cells (ccs F.w A F.xs.length c T F.nt d F.sx F.sy O S.length e0).toArray 41)))
  go_upto_region 3 with (fail)
  have za : w.heap.size < w2.heap.size := X2.out.lt
  have zb : q < w2.heap.size := R2.out.lt
  generalize w2.alloc (.cells #[.int .i64 F.w, .slice A F.xs.length c, .slice T F.nt d, .int .i64 F.sx, .int .i64 F.sy, .slice O S.length e0] 41) = w3 at X3 Y3 B3 R3 F3 ⊢
  generalize w2.heap.size = bk at Y3 za zb z12 ⊢
  have zr4 : w.heap.size < w3.heap.size := X3.out.lt
  have zq4 : q < w3.heap.size := R3.out.lt
  obtain ⟨r, hr⟩ : ∃ r, w.heap.size = r := ⟨_, rfl⟩
  have zrq : r ≠ q := by omega
  have zrb : r ≠ bk := by omega
  have zqb : q ≠ bk := by omega
  have X3r : Hid (Box w3 r 41 (ccs 0 none 0 0 none 0 0 0 0 none 0 0)) := by rw [← hr]; exact X3
  have hS : ∀ b ∈ [q, r], b < w3.heap.size := by simp; omega
  have hJ : Kept q (Res r 41 (ccs F.w A F.xs.length c T F.nt d F.sx F.sy O S.length e0).length) := Res.kept zrq
  have hD : Kept q (fun wx => Box wx r 41 (ccs F.w A F.xs.length c T F.nt d F.sx F.sy O S.length e0)) := box_kept zrq
  have hqS : q ∈ [q, r] := by simp
  rw [hr]
  refine wp_region_typed (Cls [q, r] q (0 + 1200) w3 (Res r 41 (ccs F.w A F.xs.length c T F.nt d F.sx F.sy O S.length e0).length)) (Rel [q, r] (fun wx => Box wx r 41 (ccs F.w A F.xs.length c T F.nt d F.sx F.sy O S.length e0)))
    (Ty [TV (sv F A c T d S O e0), TV (.pointer (some ⟨q, 0, none⟩)), TI 0 17, TI (-1) 16, fun _ wx => Box wx r 41 (ccs F.w A F.xs.length c T F.nt d F.sx F.sy O S.length e0), TI (-1) 16])
    (by kernel_rfl) (by kernel_rfl) (stab_ty _ ⟨stab_tv _, stab_tv _, stab_ti _ _, stab_ti _ _, stab_done _ (fun _ h => h) (fun _ h => h), stab_ti _ _, trivial⟩)
    ⟨(Only.refl _ w3).trans (.of_below (Below.refl _ _).drew), R3.out.stay (Below.refl _ _).drew, (ccs 0 none 0 0 none 0 0 0 0 none 0 0), rfl, X3r.out, plain_ccs⟩ ?_ ?_
  · refine ⟨?_, ?_, ?_, ?_, ?_, ?_, trivial⟩
    · refine ob_val rfl (sv F A c T d S O e0) hqS hJ hD fun ρ kk wx hI _ hx _ => ⟨?_, rfl⟩
      exact exec_loadScn (.tmp 5) rfl (hx 5 rfl) (Y3.out.only hI.only (by simp; omega))
    · exact ob_move rfl (.tmp 4) (.inl rfl) hqS hJ hD fun ρ wx _ hx _ => hx 4 rfl
    · exact ob_pick rfl (.tmp 11) 18 _ rfl hqS hJ hD (by simp) (by omega) (by omega) (fun ρ wx hp => hp.1 rfl) (fun _ _ h => h)
    · exact ob_some rfl hqS hJ hD fun ρ kk wx hI hc hx hp => by
        obtain ⟨z, hz, z0, z1⟩ : TI (0) 17 (ρ (.tmp 12)) wx := hp.1 rfl
        have hw : IntKind.i64.wrap (z - 1) = z - 1 := by rw [IntKind.wrap_i64]; omega
        have h0 := hc (.int .i64 1)
        refine ⟨.int .i64 (z - 1), ?_, z - 1, rfl, by omega, by omega⟩
        unfold execOp
        simp only [hz, h0]
        clear hx hp hc hI hz h0
        go_simp
    · refine ob_put rfl r _ (ccs F.w A F.xs.length c T F.nt d F.sx F.sy O S.length e0) (by simp) zrq plain_ccs (fun ρ wx cs hb hl' _ hx hp => ?_) (fun _ _ h => h)
      have hr' := setAll_fld (ccs F.w A F.xs.length c T F.nt d F.sx F.sy O S.length e0) [] cs wx hb hl'
      simp only [List.nil_append, List.length_nil] at hr'
      rw [hr']
      exact exec_storeScn (.tmp 2) (.tmp 10) r rfl (hx 2 rfl) (hp.1 rfl) hb hl'
    · exact ob_some rfl hqS hJ hD fun ρ kk wx hI hc hx hp => by
        obtain ⟨z, hz, z0, z1⟩ : TI (-1) 16 (ρ (.tmp 13)) wx := hp.1 rfl
        refine ⟨.int .i64 z, ?_, z, rfl, z0, z1⟩
        unfold execOp
        simp only [hz]
        clear hx hp hc hI hz
        go_simp
  · intro vs wx hI hF
    obtain ⟨-, -, -, -, hd, ⟨y, h5, y0, y1⟩, -⟩ := hF
    have O5 := Lib.hid hI.only
    have DB : Hid (Box wx r 41 (ccs F.w A F.xs.length c T F.nt d F.sx F.sy O S.length e0)) := Lib.hid hd
    replace h5 : vs 5 = .int .i64 y := h5
    simp only [putAll, Act.put, List.setIfInBounds_toArray, List.set_cons_zero, List.set_cons_succ, h5]
    have F5 := Lib.hid (F3.out.stay O5.out (fun b hb hx => by have := N2.out b hb; simp at hx; omega))
    have B5 := Lib.hid (B3.out.trans (O5.out.below (B := w.heap.size) (fun b hb => by simp at hb; omega) B3.out.size))
    clear hI hd h5
    go_wp2_with fail
    exact bodyPost_ret (scn_ret2 rfl rfl DB.out _ rfl) rfl ⟨F, S, A, c, T, d, O, e0, fa, ft, fo, y, rfl, ⟨y0, y1⟩, hx, ht, hs1, hxc, htd, hse, F5.out, B5.out⟩
end Go.Proofs.Ytacebhncecninaa
