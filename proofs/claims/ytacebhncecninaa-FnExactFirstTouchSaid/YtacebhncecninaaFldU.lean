/- What the laws of chapter 10 draw. -/
import Derived.Test.YtacebhncecninaaFldT
namespace Go.Proofs.Ytacebhncecninaa
open Go.ChangeShapes Go.WideShapes Go.ChangeAt Go.RowKit
set_option linter.unusedVariables false

/-- A background that a law got. -/
def FldGot (w : World) (e : Ending) (w' : World) : Prop := ∃ (F : Fld) (A : Option Addr) (c : Nat) (T : Option Addr) (d : Nat) (fa ft : List Nat), e = .returned (fv F A c T d) ∧ F.xs.length ≤ 1000 ∧ F.nt ≤ 1000 ∧ F.xs.length ≤ c ∧ F.nt ≤ d ∧ FHas w' A T F fa ft ∧ Below w.heap.size w w'
/-- A background and numbers that a law got. -/
def FldGot1 (w : World) (e : Ending) (w' : World) : Prop := ∃ (F : Fld) (A : Option Addr) (c : Nat) (T : Option Addr) (d : Nat) (fa ft : List Nat) (y : Int), e = .returned (.tuple #[fv F A c T d, .int .i64 y]) ∧ (-1 ≤ y ∧ y ≤ 1000) ∧ F.xs.length ≤ 1000 ∧ F.nt ≤ 1000 ∧ F.xs.length ≤ c ∧ F.nt ≤ d ∧ FHas w' A T F fa ft ∧ Below w.heap.size w w'
def FldGot2 (w : World) (e : Ending) (w' : World) : Prop := ∃ (F : Fld) (A : Option Addr) (c : Nat) (T : Option Addr) (d : Nat) (fa ft : List Nat) (x y : Int), e = .returned (.tuple #[fv F A c T d, .int .i64 x, .int .i64 y]) ∧ (-1000 ≤ x ∧ x ≤ 1000) ∧ (-1000 ≤ y ∧ y ≤ 1000) ∧ F.xs.length ≤ 1000 ∧ F.nt ≤ 1000 ∧ F.xs.length ≤ c ∧ F.nt ≤ d ∧ FHas w' A T F fa ft ∧ Below w.heap.size w w'
/-- A background stays where another block changes. -/
theorem FHas.row {w : World} {A T : Option Addr} {F : Fld} {fa ft : List Nat} (h : FHas w A T F fa ft) {b : Nat} (hb : b ∉ fa ++ ft) (cs : Array Value) : FHas (w.setRow b cs) A T F fa ft := by
  have o : Only [b] w (w.setRow b cs) := (Only.refl _ _).row (.inl (by simp)) _
  have s : Same (fa ++ ft) w (w.setRow b cs) := .of_only o fun x hx hs => by
    simp at hs; subst hs; exact hb hx
  exact ⟨h.1.keep (s.sub fun x hx => List.mem_append_left _ hx), h.2.keep (s.sub fun x hx => List.mem_append_right _ hx)⟩
/-- A background stays where only older blocks change. -/
theorem FHas.stay {w0 w w' : World} {A T : Option Addr} {F : Fld} {fa ft : List Nat} {L : Nat} {S : List Nat} (h : FHas w A T F fa ft) (n : New L w0 (fa ++ ft)) (o : Only S w w') (hS : ∀ b ∈ S, b < L) : FHas w' A T F fa ft := by
  have s : Same (fa ++ ft) w w' := .of_only o fun x hx hs => by
    have h1 := (n.lt x hx).1
    have h2 := hS x hs
    omega
  exact ⟨h.1.keep (s.sub fun x hx => List.mem_append_left _ hx), h.2.keep (s.sub fun x hx => List.mem_append_right _ hx)⟩
theorem exec_loadF (ρ : Operand → Value) (o : Oper) (x : Operand) (w : World) (b : Nat) {t : TypeId} {W : Int} {A : Option Addr} {n c : Nat} {Tt : Option Addr} {m d : Nat} {sx sy : Int} (hop : o.op = .load 26 x) (hx : ρ x = .pointer (some ⟨b, 0, none⟩)) (hb : Box w b t (fcs W A n c Tt m d sx sy)) :
    (execOp ρ o).run Try.prog w = .ok (.value (fldV W A n c Tt m d sx sy)) w := by
  have hl := run_loadVar_row (P := Try.prog) w b t 26 (fcs W A n c Tt m d sx sy).toArray (0, 0) _ hb Try.underlying26 rfl fld_info
  unfold execOp
  simp only [hop, hx, Instr.loadAt, Instr.sureAddr, Sem.run_bind, Sem.run_pure, Result.andThen_ok, hl]
/-- What a function with a background and one or two values for its results hands back. -/
theorem fld_ret2 {fn : Func} {p u : Tmp} {tmps : Array Value} {w : World} {b : Nat} {t : TypeId} {W : Int} {A : Option Addr} {n c : Nat} {T : Option Addr} {m d : Nat} {sx sy : Int} (hr : fn.results = #[.cell p 26, .tmp u]) (hp : tmps.getD p undef = .pointer (some ⟨b, 0, none⟩)) (hb : Box w b t (fcs W A n c T m d sx sy)) (x : Value) (hx : tmps.getD u undef = x) : (results fn tmps).run Try.prog w = .ok (.tuple #[fldV W A n c T m d sx sy, x]) w := by
  subst hx
  have hp' : tmps[p]?.getD undef = .pointer (some ⟨b, 0, none⟩) := by simpa using hp
  have h1 := run_loadVar_row (P := Try.prog) w b t 26 (fcs W A n c T m d sx sy).toArray (0, 0) _ hb Try.underlying26 rfl fld_info
  simp only [results, hr]
  simp [hp', asAddr, h1, Result.andThen]
theorem fld_ret3 {fn : Func} {p u v : Tmp} {tmps : Array Value} {w : World} {b : Nat} {t : TypeId} {W : Int} {A : Option Addr} {n c : Nat} {T : Option Addr} {m d : Nat} {sx sy : Int} (hr : fn.results = #[.cell p 26, .tmp u, .tmp v]) (hp : tmps.getD p undef = .pointer (some ⟨b, 0, none⟩)) (hb : Box w b t (fcs W A n c T m d sx sy)) (x y : Value) (hx : tmps.getD u undef = x) (hy : tmps.getD v undef = y) : (results fn tmps).run Try.prog w = .ok (.tuple #[fldV W A n c T m d sx sy, x, y]) w := by
  subst hx hy
  have hp' : tmps[p]?.getD undef = .pointer (some ⟨b, 0, none⟩) := by simpa using hp
  have h1 := run_loadVar_row (P := Try.prog) w b t 26 (fcs W A n c T m d sx sy).toArray (0, 0) _ hb Try.underlying26 rfl fld_info
  simp only [results, hr]
  simp [hp', asAddr, h1, Result.andThen]
theorem setAll_fld {b : Nat} {t : TypeId} : ∀ (vs pre cs : List Value) (w : World), Box w b t (pre ++ cs) → cs.length = vs.length → setAll w b pre.length vs = w.setRow b (pre ++ vs).toArray
  | [], pre, cs, w, h, hl => by
    obtain rfl : cs = [] := List.length_eq_zero_iff.1 hl
    show w = _
    simpa using (setRow_self w b pre.toArray t (0, 0) (by simpa [Box] using h)).symm
  | v :: r, pre, cs, w, h, hl => by
    match cs, hl with
    | c :: cs', hl =>
      have h1 := h.set pre.length v
      rw [List.set_append_right _ _ (Nat.le_refl _), Nat.sub_self, List.set_cons_zero] at h1
      have h2 := setAll_fld r (pre ++ [v]) cs' _ (by simpa using h1) (by simpa using hl)
      have h3 := setCell_eq_setRow w b pre.length (pre ++ c :: cs').toArray t (0, 0) v h
      simp only [setAll]
      rw [show pre.length + 1 = (pre ++ [v]).length by simp, h2, h3, setRow_setRow]
      simp
theorem plain_fcs {W : Int} {A : Option Addr} {n c : Nat} {T : Option Addr} {m d : Nat} {sx sy : Int} : ∀ v ∈ fcs W A n c T m d sx sy, plainV v := by
  intro v hv z
  simp [fcs] at hv
  rcases hv with rfl | rfl | rfl | rfl | rfl <;> simp
set_option maxRecDepth 100000 in
set_option maxHeartbeats 4000000 in
theorem xy_any (q m : Nat) (w : World) (h : Rd w q m) (hm : m ≤ 90000) : Calls Try.prog 72 #[.pointer (some ⟨q, 0, none⟩), .int .i64 12] w (fun e w' => ∃ x y : Int, e = .returned (.tuple #[.int .i64 x, .int .i64 y]) ∧ (-1 ≤ x ∧ x ≤ 32) ∧ (-1 ≤ y ∧ y ≤ 32) ∧ Only [q] w w' ∧ Rd w' q (m + 20)) := by
  have hq := h.lt
  have H := Lib.hid h
  clear h
  go_enter Try.func72, Try.ntmps72
  go_wp2_with fail
  refine (odd_any q m 12 _ H.out (by omega) (by omega) (by omega)).mono ?_
  rintro e w1 ⟨bb, rfl, s1, r1⟩
  have O1 := Lib.hid s1.only
  have R1 := Lib.hid r1
  have zq1 : q < w1.heap.size := R1.out.lt
  clear s1 r1 H
  have hqS : q ∈ [q] := by simp
  have hS1 : ∀ b ∈ [q], b < w1.heap.size := by simp; omega
  have hJ : Kept q (fun _ => True) := fun _ _ _ _ => trivial
  cases bb
  · go_wp2_with fail
    refine (pick_any q _ 32 _ R1.out (by omega) (by omega) (by omega)).mono ?_
    rintro e w2 ⟨x, x0, x1, rfl, s2, r2⟩
    have O2 := Lib.hid (O1.out.trans s2.only)
    have R2 := Lib.hid r2
    clear s2 r2 O1 R1
    go_wp2_with fail
    refine (pick_any q _ 16 _ R2.out (by omega) (by omega) (by omega)).mono ?_
    rintro e w3 ⟨y, y0, y1, rfl, s3, r3⟩
    have O3 := Lib.hid (O2.out.trans s3.only)
    have R3 := Lib.hid r3
    clear s3 r3 O2 R2
    go_wp2_with fail
    refine bodyPost_ret (v := .tuple #[.int .i64 x, .int .i64 y]) (by simp [results, Try.results72, go_sem]) rfl ?_
    exact ⟨x, y, rfl, by omega, by omega, O3.out, R3.out.mono (by omega)⟩
  · go_upto_region 2 with (fail)
    refine wp_region_typed (Cls [q] q (m + 1) w1 fun _ => True) (Rel [q] fun _ => True)
      (Ty [TL [q] 3 (-1) 32, TV (.pointer (some ⟨q, 0, none⟩)), TI 0 2, TP [q] (-1) 32, TI (-1) 32, TL [q] 3 (-1) 32, TV (.pointer (some ⟨q, 0, none⟩)), TI 0 2, TP [q] (-1) 32, TI (-1) 32, TI (-1) 32, TI (-1) 32])
      (by kernel_rfl) (by kernel_rfl) (stab_ty _ ⟨stab_tl _ _ _, stab_tv _, stab_ti _ _, stab_tp _ _, stab_ti _ _, stab_tl _ _ _, stab_tv _, stab_ti _ _, stab_tp _ _, stab_ti _ _, stab_ti _ _, stab_ti _ _, trivial⟩)
      ⟨(Only.refl _ w1).trans (.of_below (Below.refl _ _).drew), R1.out.stay (Below.refl _ _).drew, trivial⟩ ?_ ?_
    · refine ⟨?_, ?_, ?_, ?_, ?_, ?_, ?_, ?_, ?_, ?_, ?_, ?_, trivial⟩
      · refine ob_build rfl 3 (-1) 32 hqS hJ hJ hS1 (fun ρ wx hc hx hp => ?_) (fun _ _ h => h)
        refine ⟨#[.int .i64 (-1), .int .i64 32, .int .i64 3], ?_, ?_⟩
        · unfold execOp
          simp only [List.map_toArray, List.map_cons, List.map_nil, hc]
          clear hx hp hc
          go_simp
        · intro j hj
          have h : j = 0 ∨ j = 1 ∨ j = 2 := by omega
          rcases h with rfl | rfl | rfl <;> exact ⟨_, rfl, by omega, by omega⟩
      · exact ob_move rfl (.tmp 0) (.inl rfl) hqS hJ hJ fun ρ wx _ hx _ => hx 0 rfl
      · exact ob_pick rfl (.tmp 10) 3 _ rfl hqS hJ hJ (by simp; omega) (by omega) (by omega) (fun ρ wx hp => hp.1 rfl) (fun _ _ h => h)
      · exact ob_index rfl (.tmp 9) (.tmp 11) 3 (-1) 32 rfl hqS hJ hJ (fun ρ wx hp => ⟨hp.1 rfl, hp.2.1 rfl⟩) (fun _ _ h => h)
      · exact ob_load rfl (.tmp 12) (-1) 32 rfl hqS hJ hJ (fun ρ wx hp => hp.1 rfl) (fun _ _ h => h)
      · refine ob_build rfl 3 (-1) 32 hqS hJ hJ hS1 (fun ρ wx hc hx hp => ?_) (fun _ _ h => h)
        refine ⟨#[.int .i64 (-1), .int .i64 16, .int .i64 3], ?_, ?_⟩
        · unfold execOp
          simp only [List.map_toArray, List.map_cons, List.map_nil, hc]
          clear hx hp hc
          go_simp
        · intro j hj
          have h : j = 0 ∨ j = 1 ∨ j = 2 := by omega
          rcases h with rfl | rfl | rfl <;> exact ⟨_, rfl, by omega, by omega⟩
      · exact ob_move rfl (.tmp 0) (.inl rfl) hqS hJ hJ fun ρ wx _ hx _ => hx 0 rfl
      · exact ob_pick rfl (.tmp 15) 3 _ rfl hqS hJ hJ (by simp; omega) (by omega) (by omega) (fun ρ wx hp => hp.1 rfl) (fun _ _ h => h)
      · exact ob_index rfl (.tmp 14) (.tmp 16) 3 (-1) 32 rfl hqS hJ hJ (fun ρ wx hp => ⟨hp.1 rfl, hp.2.1 rfl⟩) (fun _ _ h => h)
      · exact ob_load rfl (.tmp 17) (-1) 32 rfl hqS hJ hJ (fun ρ wx hp => hp.1 rfl) (fun _ _ h => h)
      · exact ob_some rfl hqS hJ hJ fun ρ kk wx hI hc hx hp => by
          obtain ⟨z, hz, z0, z1⟩ : TI (-1) 32 (ρ (.tmp 13)) wx := hp.1 rfl
          refine ⟨.int .i64 z, ?_, z, rfl, z0, z1⟩
          unfold execOp
          simp only [hz]
          clear hx hp hc hI hz
          go_simp
      · exact ob_some rfl hqS hJ hJ fun ρ kk wx hI hc hx hp => by
          obtain ⟨z, hz, z0, z1⟩ : TI (-1) 32 (ρ (.tmp 18)) wx := hp.1 rfl
          refine ⟨.int .i64 z, ?_, z, rfl, z0, z1⟩
          unfold execOp
          simp only [hz]
          clear hx hp hc hI hz
          go_simp
    · intro vs wx hI hF
      obtain ⟨-, -, -, -, -, -, -, -, -, -, ⟨x, h10, x0, x1⟩, ⟨y, h11, y0, y1⟩, -⟩ := hF
      have O5 := Lib.hid (O1.out.trans hI.only)
      have R5 := Lib.hid hI.rd
      replace h10 : vs 10 = .int .i64 x := h10
      replace h11 : vs 11 = .int .i64 y := h11
      simp only [putAll, Act.put, List.setIfInBounds_toArray, List.set_cons_zero, List.set_cons_succ, h10, h11]
      clear hI h10 h11
      go_wp2_with fail
      refine bodyPost_ret (v := .tuple #[.int .i64 x, .int .i64 y]) (by simp [results, Try.results72, go_sem]) rfl ?_
      exact ⟨x, y, rfl, by omega, by omega, O5.out, R5.out.mono (by simp)⟩
set_option maxRecDepth 100000 in
set_option maxHeartbeats 4000000 in
theorem draw_fieldLine (a : Option Addr) (len cap : Nat) (zs : List Int) (w : World) (h : IsRow .u8 w a len cap zs) : Calls Try.prog 15 #[.slice a len cap] w (FldGot1 w) := by
  have H := Lib.hid (isRow_stays h (below1 w (.cells #[.int .i64 0, .slice none 0 0, .slice none 0 0, .int .i64 0, .int .i64 0] 26)))
  clear h
  go_enter Try.func15, Try.ntmps15
  go_wp2_with fail
  refine (open_any a len cap zs _ H.out).mono ?_
  rintro e w1 ⟨rfl, b1, r1⟩
  have X1 : Hid (Box w1 w.heap.size 26 (fcs 0 none 0 0 none 0 0 0 0)) := (Box.new w _ _).below b1
  have B1 : Hid (Below w.heap.size w w1) := (below1 w (.cells #[.int .i64 0, .slice none 0 0, .slice none 0 0, .int .i64 0, .int .i64 0] 26)).trans (b1.mono (by simp))
  have R1 := Lib.hid r1
  have zq : w.heap.size < (w.alloc (.cells #[.int .i64 0, .slice none 0 0, .slice none 0 0, .int .i64 0, .int .i64 0] 26)).heap.size := by simp
  generalize (w.alloc (.cells #[.int .i64 0, .slice none 0 0, .slice none 0 0, .int .i64 0, .int .i64 0] 26)).heap.size = q at R1 zq
  have zq1 : q < w1.heap.size := R1.out.lt
  clear b1 r1
  go_wp2_with fail
  refine (field_any q 0 12 _ R1.out (by omega) (by omega) (by omega)).mono ?_
  rintro e w2 ⟨F, A, c, T, d, fa, ft, rfl, hx, ht, hxc, htd, hf, hnew, o2, r2⟩
  have X2 := Lib.hid (X1.out.only o2 (by simp; omega))
  have B2 := Lib.hid (B1.out.trans (o2.below (B := w.heap.size) (fun b hb => by simp at hb; omega) B1.out.size))
  have z12 : w1.heap.size ≤ w2.heap.size := o2.size
  have R2 := Lib.hid r2
  have F2 := Lib.hid hf
  have N2 := Lib.hid hnew
  have zr : w.heap.size < w1.heap.size := X1.out.lt
  clear o2 r2 hf hnew X1 B1 R1
  have X3 := Lib.hid (X2.out.alloc (.cells (fcs F.w A F.xs.length c T F.nt d F.sx F.sy).toArray 26))
  have Y3 : Hid (Box (w2.alloc (.cells (fcs F.w A F.xs.length c T F.nt d F.sx F.sy).toArray 26)) w2.heap.size 26 (fcs F.w A F.xs.length c T F.nt d F.sx F.sy)) := Box.new w2 _ _
  have B3 := Lib.hid (B2.out.alloc B2.out.size (.cells (fcs F.w A F.xs.length c T F.nt d F.sx F.sy).toArray 26))
  have R3 := Lib.hid (R2.out.alloc (.cells (fcs F.w A F.xs.length c T F.nt d F.sx F.sy).toArray 26))
  have F3 := Lib.hid (F2.out.below (below1 w2 (.cells (fcs F.w A F.xs.length c T F.nt d F.sx F.sy).toArray 26)))
  go_upto_region 3 with (fail)
  have za : w.heap.size < w2.heap.size := X2.out.lt
  have zb : q < w2.heap.size := R2.out.lt
  generalize w2.alloc (.cells #[.int .i64 F.w, .slice A F.xs.length c, .slice T F.nt d, .int .i64 F.sx, .int .i64 F.sy] 26) = w3 at X3 Y3 B3 R3 F3 ⊢
  generalize w2.heap.size = bk at Y3 za zb z12 ⊢
  have zr4 : w.heap.size < w3.heap.size := X3.out.lt
  have zq4 : q < w3.heap.size := R3.out.lt
  obtain ⟨r, hr⟩ : ∃ r, w.heap.size = r := ⟨_, rfl⟩
  have zrq : r ≠ q := by omega
  have zrb : r ≠ bk := by omega
  have zqb : q ≠ bk := by omega
  have X3r : Hid (Box w3 r 26 (fcs 0 none 0 0 none 0 0 0 0)) := by rw [← hr]; exact X3
  have hS : ∀ b ∈ [q, r], b < w3.heap.size := by simp; omega
  have hJ : Kept q (Res r 26 (fcs F.w A F.xs.length c T F.nt d F.sx F.sy).length) := Res.kept zrq
  have hD : Kept q (fun wx => Box wx r 26 (fcs F.w A F.xs.length c T F.nt d F.sx F.sy)) := box_kept zrq
  have hqS : q ∈ [q, r] := by simp
  rw [hr]
  refine wp_region_typed (Cls [q, r] q (0 + 1000) w3 (Res r 26 (fcs F.w A F.xs.length c T F.nt d F.sx F.sy).length)) (Rel [q, r] (fun wx => Box wx r 26 (fcs F.w A F.xs.length c T F.nt d F.sx F.sy)))
    (Ty [TV (fv F A c T d), TV (.pointer (some ⟨q, 0, none⟩)), TI 0 17, TI (-1) 16, fun _ wx => Box wx r 26 (fcs F.w A F.xs.length c T F.nt d F.sx F.sy), TI (-1) 16])
    (by kernel_rfl) (by kernel_rfl) (stab_ty _ ⟨stab_tv _, stab_tv _, stab_ti _ _, stab_ti _ _, stab_done _ (fun _ h => h) (fun _ h => h), stab_ti _ _, trivial⟩)
    ⟨(Only.refl _ w3).trans (.of_below (Below.refl _ _).drew), R3.out.stay (Below.refl _ _).drew, fcs 0 none 0 0 none 0 0 0 0, rfl, X3r.out, plain_fcs⟩ ?_ ?_
  · refine ⟨?_, ?_, ?_, ?_, ?_, ?_, trivial⟩
    · refine ob_val rfl (fv F A c T d) hqS hJ hD fun ρ kk wx hI _ hx _ => ⟨?_, rfl⟩
      exact exec_loadF ρ _ (.tmp 5) wx bk rfl (hx 5 rfl) (Y3.out.only hI.only (by simp; omega))
    · exact ob_move rfl (.tmp 4) (.inl rfl) hqS hJ hD fun ρ wx _ hx _ => hx 4 rfl
    · exact ob_pick rfl (.tmp 11) 18 _ rfl hqS hJ hD (by simp) (by omega) (by omega) (fun ρ wx hp => hp.1 rfl) (fun _ _ h => h)
    · exact ob_some rfl hqS hJ hD fun ρ kk wx hI hc hx hp => by
        obtain ⟨z, hz, z0, z1⟩ : TI (0) 17 (ρ (.tmp 12)) wx := hp.1 rfl
        have hw : IntKind.i64.wrap (z - 1) = z - 1 := by rw [IntKind.wrap_i64]; omega
        have h0 := hc (.int .i64 1)
        refine ⟨.int .i64 (z - 1), ?_, z - 1, rfl, by omega, by omega⟩
        unfold execOp
        simp only [hz, h0]
        clear hx hp hc hI hz h0
        go_simp
    · refine ob_put rfl r _ (fcs F.w A F.xs.length c T F.nt d F.sx F.sy) (by simp) zrq plain_fcs (fun ρ wx cs hb hl' _ hx hp => ?_) (fun _ _ h => h)
      have hr' := setAll_fld (fcs F.w A F.xs.length c T F.nt d F.sx F.sy) [] cs wx hb hl'
      simp only [List.nil_append, List.length_nil] at hr'
      rw [hr']
      exact exec_storeF ρ _ (.tmp 2) (.tmp 10) wx r rfl (hx 2 rfl) (hp.1 rfl) hb hl'
    · exact ob_some rfl hqS hJ hD fun ρ kk wx hI hc hx hp => by
        obtain ⟨z, hz, z0, z1⟩ : TI (-1) 16 (ρ (.tmp 13)) wx := hp.1 rfl
        refine ⟨.int .i64 z, ?_, z, rfl, z0, z1⟩
        unfold execOp
        simp only [hz]
        clear hx hp hc hI hz
        go_simp
  · intro vs wx hI hF
    obtain ⟨-, -, -, -, hd, ⟨y, h5, y0, y1⟩, -⟩ := hF
    have O5 := Lib.hid hI.only
    have DB : Hid (Box wx r 26 (fcs F.w A F.xs.length c T F.nt d F.sx F.sy)) := hd
    replace h5 : vs 5 = .int .i64 y := h5
    simp only [putAll, Act.put, List.setIfInBounds_toArray, List.set_cons_zero, List.set_cons_succ, h5]
    have F5 := Lib.hid (F3.out.stay N2.out O5.out (by simp; omega))
    have B5 := Lib.hid (B3.out.trans (O5.out.below (B := w.heap.size) (fun b hb => by simp at hb; omega) B3.out.size))
    clear hI hd h5
    go_wp2_with fail
    exact bodyPost_ret (fld_ret2 rfl rfl DB.out _ rfl) rfl ⟨F, A, c, T, d, fa, ft, y, rfl, by omega, hx, ht, hxc, htd, F5.out, B5.out⟩
set_option maxRecDepth 100000 in
set_option maxHeartbeats 4000000 in
theorem draw_shiftField (a : Option Addr) (len cap : Nat) (zs : List Int) (w : World) (h : IsRow .u8 w a len cap zs) : Calls Try.prog 21 #[.slice a len cap] w (FldGot2 w) := by
  have H := Lib.hid (isRow_stays h (below1 w (.cells #[.int .i64 0, .slice none 0 0, .slice none 0 0, .int .i64 0, .int .i64 0] 26)))
  clear h
  go_enter Try.func21, Try.ntmps21
  go_wp2_with fail
  refine (open_any a len cap zs _ H.out).mono ?_
  rintro e w1 ⟨rfl, b1, r1⟩
  have X1 : Hid (Box w1 w.heap.size 26 (fcs 0 none 0 0 none 0 0 0 0)) := (Box.new w _ _).below b1
  have B1 : Hid (Below w.heap.size w w1) := (below1 w (.cells #[.int .i64 0, .slice none 0 0, .slice none 0 0, .int .i64 0, .int .i64 0] 26)).trans (b1.mono (by simp))
  have R1 := Lib.hid r1
  have zq : w.heap.size < (w.alloc (.cells #[.int .i64 0, .slice none 0 0, .slice none 0 0, .int .i64 0, .int .i64 0] 26)).heap.size := by simp
  generalize (w.alloc (.cells #[.int .i64 0, .slice none 0 0, .slice none 0 0, .int .i64 0, .int .i64 0] 26)).heap.size = q at R1 zq
  have zq1 : q < w1.heap.size := R1.out.lt
  clear b1 r1
  go_wp2_with fail
  refine (field_any q 0 12 _ R1.out (by omega) (by omega) (by omega)).mono ?_
  rintro e w2 ⟨F, A, c, T, d, fa, ft, rfl, hx, ht, hxc, htd, hf, hnew, o2, r2⟩
  have X2 := Lib.hid (X1.out.only o2 (by simp; omega))
  have B2 := Lib.hid (B1.out.trans (o2.below (B := w.heap.size) (fun b hb => by simp at hb; omega) B1.out.size))
  have z12 : w1.heap.size ≤ w2.heap.size := o2.size
  have R2 := Lib.hid r2
  have F2 := Lib.hid hf
  have N2 := Lib.hid hnew
  have zr : w.heap.size < w1.heap.size := X1.out.lt
  clear o2 r2 hf hnew X1 B1 R1
  have X3 := Lib.hid (X2.out.alloc (.cells (fcs F.w A F.xs.length c T F.nt d F.sx F.sy).toArray 26))
  have Y3 : Hid (Box (w2.alloc (.cells (fcs F.w A F.xs.length c T F.nt d F.sx F.sy).toArray 26)) w2.heap.size 26 (fcs F.w A F.xs.length c T F.nt d F.sx F.sy)) := Box.new w2 _ _
  have B3 := Lib.hid (B2.out.alloc B2.out.size (.cells (fcs F.w A F.xs.length c T F.nt d F.sx F.sy).toArray 26))
  have R3 := Lib.hid (R2.out.alloc (.cells (fcs F.w A F.xs.length c T F.nt d F.sx F.sy).toArray 26))
  have F3 := Lib.hid (F2.out.below (below1 w2 (.cells (fcs F.w A F.xs.length c T F.nt d F.sx F.sy).toArray 26)))
  go_upto_region 3 with (fail)
  have za : w.heap.size < w2.heap.size := X2.out.lt
  have zb : q < w2.heap.size := R2.out.lt
  generalize w2.alloc (.cells #[.int .i64 F.w, .slice A F.xs.length c, .slice T F.nt d, .int .i64 F.sx, .int .i64 F.sy] 26) = w3 at X3 Y3 B3 R3 F3 ⊢
  generalize w2.heap.size = bk at Y3 za zb z12 ⊢
  have zr4 : w.heap.size < w3.heap.size := X3.out.lt
  have zq4 : q < w3.heap.size := R3.out.lt
  obtain ⟨r, hr⟩ : ∃ r, w.heap.size = r := ⟨_, rfl⟩
  have zrq : r ≠ q := by omega
  have zrb : r ≠ bk := by omega
  have zqb : q ≠ bk := by omega
  have X3r : Hid (Box w3 r 26 (fcs 0 none 0 0 none 0 0 0 0)) := by rw [← hr]; exact X3
  have hS : ∀ b ∈ [q, r], b < w3.heap.size := by simp; omega
  have hJ : Kept q (Res r 26 (fcs F.w A F.xs.length c T F.nt d F.sx F.sy).length) := Res.kept zrq
  have hD : Kept q (fun wx => Box wx r 26 (fcs F.w A F.xs.length c T F.nt d F.sx F.sy)) := box_kept zrq
  have hqS : q ∈ [q, r] := by simp
  rw [hr]
  refine wp_region_typed (Cls [q, r] q (0 + 1000) w3 (Res r 26 (fcs F.w A F.xs.length c T F.nt d F.sx F.sy).length)) (Rel [q, r] (fun wx => Box wx r 26 (fcs F.w A F.xs.length c T F.nt d F.sx F.sy)))
    (Ty [TV (fv F A c T d), TV (.pointer (some ⟨q, 0, none⟩)), TI 0 255, TI (-128) 127, TV (.pointer (some ⟨q, 0, none⟩)), TI 0 13, TI 0 1, TI 0 400, TI (-128) 527, TV (.pointer (some ⟨q, 0, none⟩)), TI 0 255, TI (-128) 127, fun _ wx => Box wx r 26 (fcs F.w A F.xs.length c T F.nt d F.sx F.sy), TI (-128) 527, TI (-128) 127])
    (by kernel_rfl) (by kernel_rfl) (stab_ty _ ⟨stab_tv _, stab_tv _, stab_ti _ _, stab_ti _ _, stab_tv _, stab_ti _ _, stab_ti _ _, stab_ti _ _, stab_ti _ _, stab_tv _, stab_ti _ _, stab_ti _ _, stab_done _ (fun _ h => h) (fun _ h => h), stab_ti _ _, stab_ti _ _, trivial⟩)
    ⟨(Only.refl _ w3).trans (.of_below (Below.refl _ _).drew), R3.out.stay (Below.refl _ _).drew, fcs 0 none 0 0 none 0 0 0 0, rfl, X3r.out, plain_fcs⟩ ?_ ?_
  · refine ⟨?_, ?_, ?_, ?_, ?_, ?_, ?_, ?_, ?_, ?_, ?_, ?_, ?_, ?_, ?_, trivial⟩
    · refine ob_val rfl (fv F A c T d) hqS hJ hD fun ρ kk wx hI _ hx _ => ⟨?_, rfl⟩
      exact exec_loadF ρ _ (.tmp 6) wx bk rfl (hx 6 rfl) (Y3.out.only hI.only (by simp; omega))
    · exact ob_move rfl (.tmp 5) (.inl rfl) hqS hJ hD fun ρ wx _ hx _ => hx 5 rfl
    · exact ob_pick rfl (.tmp 12) 256 _ rfl hqS hJ hD (by simp) (by omega) (by omega) (fun ρ wx hp => hp.1 rfl) (fun _ _ h => h)
    · exact ob_some rfl hqS hJ hD fun ρ kk wx hI hc hx hp => by
        obtain ⟨z, hz, z0, z1⟩ : TI (0) 255 (ρ (.tmp 13)) wx := hp.1 rfl
        have hw : IntKind.i64.wrap (z - 128) = z - 128 := by rw [IntKind.wrap_i64]; omega
        have h0 := hc (.int .i64 128)
        refine ⟨.int .i64 (z - 128), ?_, z - 128, rfl, by omega, by omega⟩
        unfold execOp
        simp only [hz, h0]
        clear hx hp hc hI hz h0
        go_simp
    · exact ob_move rfl (.tmp 5) (.inl rfl) hqS hJ hD fun ρ wx _ hx _ => hx 5 rfl
    · exact ob_pick rfl (.tmp 15) 14 _ rfl hqS hJ hD (by simp) (by omega) (by omega) (fun ρ wx hp => hp.1 rfl) (fun _ _ h => h)
    · exact ob_some rfl hqS hJ hD fun ρ kk wx hI hc hx hp => by
        obtain ⟨z, hz, z0, z1⟩ : TI (0) 13 (ρ (.tmp 16)) wx := hp.1 rfl
        have hw : IntKind.i64.wrap (Int.tdiv z 13) = z / 13 := by rw [Int.tdiv_eq_ediv_of_nonneg z0, IntKind.wrap_i64] <;> omega
        have h0 := hc (.int .i64 13)
        refine ⟨.int .i64 (z / 13), ?_, z / 13, rfl, by omega, by omega⟩
        unfold execOp
        simp only [hz, h0]
        clear hx hp hc hI hz h0
        go_simp
    · exact ob_some rfl hqS hJ hD fun ρ kk wx hI hc hx hp => by
        obtain ⟨z, hz, z0, z1⟩ : TI (0) 1 (ρ (.tmp 17)) wx := hp.1 rfl
        have hw : IntKind.i64.wrap (z * 400) = z * 400 := by rw [IntKind.wrap_i64]; omega
        have h0 := hc (.int .i64 400)
        refine ⟨.int .i64 (z * 400), ?_, z * 400, rfl, by omega, by omega⟩
        unfold execOp
        simp only [hz, h0]
        clear hx hp hc hI hz h0
        go_simp
    · exact ob_some rfl hqS hJ hD fun ρ kk wx hI hc hx hp => by
        obtain ⟨z, hz, z0, z1⟩ : TI (-128) 127 (ρ (.tmp 14)) wx := hp.1 rfl
        obtain ⟨y, hy, y0, y1⟩ : TI 0 400 (ρ (.tmp 18)) wx := hp.2.1 rfl
        have hw : IntKind.i64.wrap (z + y) = z + y := by rw [IntKind.wrap_i64]; omega
        refine ⟨.int .i64 (z + y), ?_, z + y, rfl, by omega, by omega⟩
        unfold execOp
        simp only [hz, hy]
        clear hx hp hc hI hz hy
        go_simp
    · exact ob_move rfl (.tmp 5) (.inl rfl) hqS hJ hD fun ρ wx _ hx _ => hx 5 rfl
    · exact ob_pick rfl (.tmp 20) 256 _ rfl hqS hJ hD (by simp) (by omega) (by omega) (fun ρ wx hp => hp.1 rfl) (fun _ _ h => h)
    · exact ob_some rfl hqS hJ hD fun ρ kk wx hI hc hx hp => by
        obtain ⟨z, hz, z0, z1⟩ : TI (0) 255 (ρ (.tmp 21)) wx := hp.1 rfl
        have hw : IntKind.i64.wrap (z - 128) = z - 128 := by rw [IntKind.wrap_i64]; omega
        have h0 := hc (.int .i64 128)
        refine ⟨.int .i64 (z - 128), ?_, z - 128, rfl, by omega, by omega⟩
        unfold execOp
        simp only [hz, h0]
        clear hx hp hc hI hz h0
        go_simp
    · refine ob_put rfl r _ (fcs F.w A F.xs.length c T F.nt d F.sx F.sy) (by simp) zrq plain_fcs (fun ρ wx cs hb hl' _ hx hp => ?_) (fun _ _ h => h)
      have hr' := setAll_fld (fcs F.w A F.xs.length c T F.nt d F.sx F.sy) [] cs wx hb hl'
      simp only [List.nil_append, List.length_nil] at hr'
      rw [hr']
      exact exec_storeF ρ _ (.tmp 2) (.tmp 11) wx r rfl (hx 2 rfl) (hp.1 rfl) hb hl'
    · exact ob_some rfl hqS hJ hD fun ρ kk wx hI hc hx hp => by
        obtain ⟨z, hz, z0, z1⟩ : TI (-128) 527 (ρ (.tmp 19)) wx := hp.1 rfl
        refine ⟨.int .i64 z, ?_, z, rfl, z0, z1⟩
        unfold execOp
        simp only [hz]
        clear hx hp hc hI hz
        go_simp
    · exact ob_some rfl hqS hJ hD fun ρ kk wx hI hc hx hp => by
        obtain ⟨z, hz, z0, z1⟩ : TI (-128) 127 (ρ (.tmp 22)) wx := hp.1 rfl
        refine ⟨.int .i64 z, ?_, z, rfl, z0, z1⟩
        unfold execOp
        simp only [hz]
        clear hx hp hc hI hz
        go_simp
  · intro vs wx hI hF
    obtain ⟨-, -, -, -, -, -, -, -, -, -, -, -, hd, ⟨x, h13, x0, x1⟩, ⟨y, h14, y0, y1⟩, -⟩ := hF
    have O5 := Lib.hid hI.only
    have DB : Hid (Box wx r 26 (fcs F.w A F.xs.length c T F.nt d F.sx F.sy)) := hd
    replace h13 : vs 13 = .int .i64 x := h13
    replace h14 : vs 14 = .int .i64 y := h14
    simp only [putAll, Act.put, List.setIfInBounds_toArray, List.set_cons_zero, List.set_cons_succ, h13, h14]
    have F5 := Lib.hid (F3.out.stay N2.out O5.out (by simp; omega))
    have B5 := Lib.hid (B3.out.trans (O5.out.below (B := w.heap.size) (fun b hb => by simp at hb; omega) B3.out.size))
    clear hI hd h13 h14
    go_wp2_with fail
    exact bodyPost_ret (fld_ret3 rfl rfl DB.out _ _ rfl rfl) rfl ⟨F, A, c, T, d, fa, ft, x, y, rfl, by omega, by omega, hx, ht, hxc, htd, F5.out, B5.out⟩
end Go.Proofs.Ytacebhncecninaa
