/- Tiles that the laws draw. -/
import Derived.Test.YtihohmmfgamecaaTilG
import Derived.Laws.CopyRow
namespace Go.Proofs.Ytihohmmfgamecaa
open Go.ChangeShapes Go.WideShapes Go.ChangeAt Go.RowKit
set_option linter.unusedVariables false

theorem setAll_row {b : Nat} {t : TypeId} : ∀ (vs pre cs : List Value) (w : World), Box w b t (pre ++ cs) → cs.length = vs.length → setAll w b pre.length vs = w.setRow b (pre ++ vs).toArray
  | [], pre, cs, w, h, hl => by
    obtain rfl : cs = [] := List.length_eq_zero_iff.1 hl
    show w = _
    simpa using (setRow_self w b pre.toArray t (0, 0) (by simpa [Box] using h)).symm
  | v :: r, pre, cs, w, h, hl => by
    match cs, hl with
    | c :: cs', hl =>
      have h1 := h.set pre.length v
      rw [List.set_append_right _ _ (Nat.le_refl _), Nat.sub_self, List.set_cons_zero] at h1
      have h2 := setAll_row r (pre ++ [v]) cs' _ (by simpa using h1) (by simpa using hl)
      have h3 := setCell_eq_setRow w b pre.length (pre ++ c :: cs').toArray t (0, 0) v h
      simp only [setAll]
      rw [show pre.length + 1 = (pre ++ [v]).length by simp, h2, h3, setRow_setRow]
      simp
theorem exec_tilLoad {w : World} {b : Nat} {t : TypeId} {px : List Int} (hp : px.length = 64) (hb : Box w b t (iv px)) : (Instr.loadAt 25 (.pointer (some ⟨b, 0, none⟩))).run Try.prog w = .ok (tilV px) w := by
  simp only [Instr.loadAt, Instr.sureAddr, Sem.run_bind, Sem.run_pure, Result.andThen_ok]
  exact run_loadVar_row w b t _ (iv px).toArray (0, 0) _ hb Try.underlying25 rfl (by rw [iv_len px hp]; exact til_info)
theorem exec_tilStore {w : World} {b : Nat} {t : TypeId} {px : List Int} {cs : List Value} (hp : px.length = 64) (hb : Box w b t cs) (hc : cs.length = 64) : (Instr.storeAt 25 (.pointer (some ⟨b, 0, none⟩)) (tilV px)).run Try.prog w = .ok () (w.setRow b (iv px).toArray) := by
  simp only [Instr.storeAt, Instr.sureAddr, Sem.run_bind, Sem.run_pure, Result.andThen_ok]
  exact run_storeVar_row w b t _ cs.toArray (iv px).toArray hb (by rw [iv_len px hp]; exact til_info) (by rw [iv_len px hp]; simpa using hc) (iv_all px)
/-- What a function with a tile and two values for its results hands back. -/
theorem til_ret3 {fn : Func} {p u v : Tmp} {tmps : Array Value} {w : World} {b : Nat} {t : TypeId} {px : List Int} (hr : fn.results = #[.cell p 25, .tmp u, .tmp v]) (hp : tmps.getD p undef = .pointer (some ⟨b, 0, none⟩)) (hb : Box w b t (iv px)) (hl : px.length = 64) (x y : Value) (hx : tmps.getD u undef = x) (hy : tmps.getD v undef = y) : (results fn tmps).run Try.prog w = .ok (.tuple #[tilV px, x, y]) w := by
  subst hx hy
  have hp' : tmps[p]?.getD undef = .pointer (some ⟨b, 0, none⟩) := by simpa using hp
  have h1 := run_loadVar_row (P := Try.prog) w b t 25 (iv px).toArray (0, 0) _ hb Try.underlying25 rfl (by rw [iv_len px hl]; exact til_info)
  simp only [results, hr]
  simp [hp', asAddr, h1, Result.andThen]
theorem til_ret2 {fn : Func} {p u : Tmp} {tmps : Array Value} {w : World} {b : Nat} {t : TypeId} {px : List Int} (hr : fn.results = #[.cell p 25, .tmp u]) (hp : tmps.getD p undef = .pointer (some ⟨b, 0, none⟩)) (hb : Box w b t (iv px)) (hl : px.length = 64) (x : Value) (hx : tmps.getD u undef = x) : (results fn tmps).run Try.prog w = .ok (.tuple #[tilV px, x]) w := by
  subst hx
  have hp' : tmps[p]?.getD undef = .pointer (some ⟨b, 0, none⟩) := by simpa using hp
  have h1 := run_loadVar_row (P := Try.prog) w b t 25 (iv px).toArray (0, 0) _ hb Try.underlying25 rfl (by rw [iv_len px hl]; exact til_info)
  simp only [results, hr]
  simp [hp', asAddr, h1, Result.andThen]
theorem plain_iv (px : List Int) : ∀ v ∈ iv px, plainV v := by
  intro v hv z e
  obtain ⟨x, _, rfl⟩ := List.mem_map.1 hv
  cases e
/-- A tile that a law got; with two values. -/
def TilGot (w : World) (e : Ending) (w' : World) : Prop := ∃ px, PxIn (-1) 4 px ∧ e = .returned (tilV px) ∧ Below w.heap.size w w'
def TilGot3 (w : World) (e : Ending) (w' : World) : Prop := ∃ px a d, PxIn (-1) 4 px ∧ e = .returned (.tuple #[tilV px, .bool a, .bool d]) ∧ Below w.heap.size w w'
set_option maxRecDepth 100000 in
set_option maxHeartbeats 4000000 in
theorem draw_tileValid (a : Option Addr) (len cap : Nat) (zs : List Int) (w : World) (h : IsRow .u8 w a len cap zs) : Calls Try.prog 17 #[.slice a len cap] w (TilGot w) := by
  have H := Lib.hid (isRow_stays h (below1 w (.cells (iv z64).toArray 25)))
  clear h
  go_enter Try.func17, Try.ntmps17
  go_wp2_with (refine st_alloc (by rfl) rfl ?_)
  refine (open_any a len cap zs _ H.out).mono ?_
  rintro e w1 ⟨rfl, b1, r1⟩
  have X1 : Hid (Box w1 w.heap.size 25 (iv z64)) := (Box.new w _ _).below b1
  have B1 : Hid (Below w.heap.size w w1) := (below1 w _).trans (b1.mono (by simp))
  have R1 := Lib.hid r1
  have zq : w.heap.size < (w.alloc (.cells (iv z64).toArray 25)).heap.size := by simp
  generalize (w.alloc (.cells (iv z64).toArray 25)).heap.size = q at R1 zq
  have zq1 : q < w1.heap.size := R1.out.lt
  clear b1 r1
  go_wp2_with fail
  refine (tile_any q 0 2 _ R1.out (by omega) (by omega) (by omega)).mono ?_
  rintro e w2 ⟨px, hpx, rfl, o2, r2⟩
  have HP := Lib.hid hpx
  have hl := hpx.1
  have X2 := Lib.hid (X1.out.only o2 (by simp; omega))
  have B2 := Lib.hid (B1.out.trans (o2.below (B := w.heap.size) (fun b hb => by simp at hb; omega) B1.out.size))
  have R2 := Lib.hid r2
  have ZW : Hid (w1.heap.size ≤ w2.heap.size) := o2.size
  clear o2 r2 hpx
  go_wp2_with (refine st_store (by rfl) _ _ rfl _ rfl px rfl hl (iv z64) X2.out (by simp [z64_len]) ?_)
  have RF : Hid (Box (w2.setRow w.heap.size (iv px).toArray) w.heap.size 25 (iv px)) := Box.row X2.out
  refine bodyPost_ret (v := tilV px) (til_ret rfl rfl RF.out hl) rfl ⟨px, HP.out, rfl, below_row B2.out (Nat.le_refl _) _⟩
set_option maxRecDepth 100000 in
set_option maxHeartbeats 4000000 in
theorem draw_tileBytes (a : Option Addr) (len cap : Nat) (zs : List Int) (w : World) (h : IsRow .u8 w a len cap zs) : Calls Try.prog 21 #[.slice a len cap] w (TilGot w) := by
  have H := Lib.hid (isRow_stays h (below1 w (.cells (iv z64).toArray 25)))
  clear h
  go_enter Try.func21, Try.ntmps21
  go_wp2_with (refine st_alloc (by rfl) rfl ?_)
  refine (open_any a len cap zs _ H.out).mono ?_
  rintro e w1 ⟨rfl, b1, r1⟩
  have X1 : Hid (Box w1 w.heap.size 25 (iv z64)) := (Box.new w _ _).below b1
  have B1 : Hid (Below w.heap.size w w1) := (below1 w _).trans (b1.mono (by simp))
  have R1 := Lib.hid r1
  have zq : w.heap.size < (w.alloc (.cells (iv z64).toArray 25)).heap.size := by simp
  generalize (w.alloc (.cells (iv z64).toArray 25)).heap.size = q at R1 zq
  have zq1 : q < w1.heap.size := R1.out.lt
  clear b1 r1
  go_wp2_with fail
  refine (tile_any q 0 9 _ R1.out (by omega) (by omega) (by omega)).mono ?_
  rintro e w2 ⟨px, hpx, rfl, o2, r2⟩
  have HP := Lib.hid hpx
  have hl := hpx.1
  have X2 := Lib.hid (X1.out.only o2 (by simp; omega))
  have B2 := Lib.hid (B1.out.trans (o2.below (B := w.heap.size) (fun b hb => by simp at hb; omega) B1.out.size))
  have R2 := Lib.hid r2
  have ZW : Hid (w1.heap.size ≤ w2.heap.size) := o2.size
  clear o2 r2 hpx
  go_wp2_with (refine st_store (by rfl) _ _ rfl _ rfl px rfl hl (iv z64) X2.out (by simp [z64_len]) ?_)
  have RF : Hid (Box (w2.setRow w.heap.size (iv px).toArray) w.heap.size 25 (iv px)) := Box.row X2.out
  refine bodyPost_ret (v := tilV px) (til_ret rfl rfl RF.out hl) rfl ⟨px, HP.out, rfl, below_row B2.out (Nat.le_refl _) _⟩
set_option maxRecDepth 100000 in
set_option maxHeartbeats 4000000 in
theorem draw_turn (a : Option Addr) (len cap : Nat) (zs : List Int) (w : World) (h : IsRow .u8 w a len cap zs) : Calls Try.prog 32 #[.slice a len cap] w (TilGot w) := by
  have H := Lib.hid (isRow_stays h (below1 w (.cells (iv z64).toArray 25)))
  clear h
  go_enter Try.func32, Try.ntmps32
  go_wp2_with (refine st_alloc (by rfl) rfl ?_)
  refine (open_any a len cap zs _ H.out).mono ?_
  rintro e w1 ⟨rfl, b1, r1⟩
  have X1 : Hid (Box w1 w.heap.size 25 (iv z64)) := (Box.new w _ _).below b1
  have B1 : Hid (Below w.heap.size w w1) := (below1 w _).trans (b1.mono (by simp))
  have R1 := Lib.hid r1
  have zq : w.heap.size < (w.alloc (.cells (iv z64).toArray 25)).heap.size := by simp
  generalize (w.alloc (.cells (iv z64).toArray 25)).heap.size = q at R1 zq
  have zq1 : q < w1.heap.size := R1.out.lt
  clear b1 r1
  go_wp2_with fail
  refine (tile_any q 0 9 _ R1.out (by omega) (by omega) (by omega)).mono ?_
  rintro e w2 ⟨px, hpx, rfl, o2, r2⟩
  have HP := Lib.hid hpx
  have hl := hpx.1
  have X2 := Lib.hid (X1.out.only o2 (by simp; omega))
  have B2 := Lib.hid (B1.out.trans (o2.below (B := w.heap.size) (fun b hb => by simp at hb; omega) B1.out.size))
  have R2 := Lib.hid r2
  have ZW : Hid (w1.heap.size ≤ w2.heap.size) := o2.size
  clear o2 r2 hpx
  go_wp2_with (refine st_store (by rfl) _ _ rfl _ rfl px rfl hl (iv z64) X2.out (by simp [z64_len]) ?_)
  have RF : Hid (Box (w2.setRow w.heap.size (iv px).toArray) w.heap.size 25 (iv px)) := Box.row X2.out
  refine bodyPost_ret (v := tilV px) (til_ret rfl rfl RF.out hl) rfl ⟨px, HP.out, rfl, below_row B2.out (Nat.le_refl _) _⟩
set_option maxRecDepth 100000 in
set_option maxHeartbeats 4000000 in
theorem draw_used (a : Option Addr) (len cap : Nat) (zs : List Int) (w : World) (h : IsRow .u8 w a len cap zs) : Calls Try.prog 35 #[.slice a len cap] w (TilGot w) := by
  have H := Lib.hid (isRow_stays h (below1 w (.cells (iv z64).toArray 25)))
  clear h
  go_enter Try.func35, Try.ntmps35
  go_wp2_with (refine st_alloc (by rfl) rfl ?_)
  refine (open_any a len cap zs _ H.out).mono ?_
  rintro e w1 ⟨rfl, b1, r1⟩
  have X1 : Hid (Box w1 w.heap.size 25 (iv z64)) := (Box.new w _ _).below b1
  have B1 : Hid (Below w.heap.size w w1) := (below1 w _).trans (b1.mono (by simp))
  have R1 := Lib.hid r1
  have zq : w.heap.size < (w.alloc (.cells (iv z64).toArray 25)).heap.size := by simp
  generalize (w.alloc (.cells (iv z64).toArray 25)).heap.size = q at R1 zq
  have zq1 : q < w1.heap.size := R1.out.lt
  clear b1 r1
  go_wp2_with fail
  refine (tile_any q 0 9 _ R1.out (by omega) (by omega) (by omega)).mono ?_
  rintro e w2 ⟨px, hpx, rfl, o2, r2⟩
  have HP := Lib.hid hpx
  have hl := hpx.1
  have X2 := Lib.hid (X1.out.only o2 (by simp; omega))
  have B2 := Lib.hid (B1.out.trans (o2.below (B := w.heap.size) (fun b hb => by simp at hb; omega) B1.out.size))
  have R2 := Lib.hid r2
  have ZW : Hid (w1.heap.size ≤ w2.heap.size) := o2.size
  clear o2 r2 hpx
  go_wp2_with (refine st_store (by rfl) _ _ rfl _ rfl px rfl hl (iv z64) X2.out (by simp [z64_len]) ?_)
  have RF : Hid (Box (w2.setRow w.heap.size (iv px).toArray) w.heap.size 25 (iv px)) := Box.row X2.out
  refine bodyPost_ret (v := tilV px) (til_ret rfl rfl RF.out hl) rfl ⟨px, HP.out, rfl, below_row B2.out (Nat.le_refl _) _⟩
set_option maxRecDepth 100000 in
set_option maxHeartbeats 4000000 in
theorem draw_flip (a : Option Addr) (len cap : Nat) (zs : List Int) (w : World) (h : IsRow .u8 w a len cap zs) : Calls Try.prog 28 #[.slice a len cap] w (TilGot3 w) := by
  have H := Lib.hid (isRow_stays h (below1 w (.cells (iv z64).toArray 25)))
  clear h
  go_enter Try.func28, Try.ntmps28
  go_wp2_with (refine st_alloc (by rfl) rfl ?_)
  refine (open_any a len cap zs _ H.out).mono ?_
  rintro e w1 ⟨rfl, b1, r1⟩
  have X1 : Hid (Box w1 w.heap.size 25 (iv z64)) := (Box.new w _ _).below b1
  have B1 : Hid (Below w.heap.size w w1) := (below1 w _).trans (b1.mono (by simp))
  have R1 := Lib.hid r1
  have zq : w.heap.size < (w.alloc (.cells (iv z64).toArray 25)).heap.size := by simp
  generalize (w.alloc (.cells (iv z64).toArray 25)).heap.size = q at R1 zq
  have zq1 : q < w1.heap.size := R1.out.lt
  clear b1 r1
  go_wp2_with fail
  refine (tile_any q 0 12 _ R1.out (by omega) (by omega) (by omega)).mono ?_
  rintro e w2 ⟨px, hpx, rfl, o2, r2⟩
  have HP := Lib.hid hpx
  have hl := hpx.1
  have X2 := Lib.hid (X1.out.only o2 (by simp; omega))
  have B2 := Lib.hid (B1.out.trans (o2.below (B := w.heap.size) (fun b hb => by simp at hb; omega) B1.out.size))
  have R2 := Lib.hid r2
  have ZW : Hid (w1.heap.size ≤ w2.heap.size) := o2.size
  clear o2 r2 hpx
  have X3 := Lib.hid (X2.out.alloc (.cells (iv px).toArray 25))
  have Y3 : Hid (Box (w2.alloc (.cells (iv px).toArray 25)) w2.heap.size 25 (iv px)) := Box.new w2 _ _
  have B3 := Lib.hid (B2.out.alloc B2.out.size (.cells (iv px).toArray 25))
  have R3 := Lib.hid (R2.out.alloc (.cells (iv px).toArray 25))
  go_upto_region 3 with (first | (refine st_alloc (by rfl) rfl ?_) | (refine st_store (by rfl) _ _ rfl _ rfl px rfl hl (iv z64) (Box.new _ _ _) (by simp [z64_len]) ?_))
  rw [World.setRow_alloc_new]
  generalize w2.alloc (.cells (iv px).toArray 25) = w3 at X3 Y3 B3 R3 ⊢
  have zb : w.heap.size < w2.heap.size := X2.out.lt
  have zb2 : q < w2.heap.size := R2.out.lt
  generalize w2.heap.size = b at Y3 zb zb2 ⊢
  have z3 : b < w3.heap.size := Y3.out.lt
  clear X2 B2 R2 ZW
  go_wp2_with fail
  refine (pick_any q _ 2 _ R3.out (by omega) (by omega) (by omega)).mono ?_
  rintro e w4 ⟨v, v0, v1, rfl, s4, r4⟩
  have X4 := Lib.hid (X3.out.only s4.only (by simp; omega))
  have Y4 := Lib.hid (Y3.out.only s4.only (by simp; omega))
  have B4 := Lib.hid (B3.out.trans (s4.only.below (B := w.heap.size) (fun b hb => by simp at hb; omega) B3.out.size))
  have R4 := Lib.hid r4
  clear s4 r4 X3 Y3 B3 R3
  go_upto_region 4 with (fail)
  generalize (v == 0) = aa
  have zr : w.heap.size < w4.heap.size := X4.out.lt
  have zqq : q < w4.heap.size := R4.out.lt
  have zrq : w.heap.size ≠ q := by omega
  have hJ : Kept q (Res w.heap.size 25 (iv px).length) := Res.kept zrq
  have hD : Kept q (fun wx => Box wx w.heap.size 25 (iv px)) := box_kept zrq
  have hq : q ∈ [q, w.heap.size] := by simp
  have hS : ∀ b ∈ [q, w.heap.size], b < w4.heap.size := by simp; omega
  have hlv : (iv px).length = 64 := by simp [hl]
  refine wp_region_typed (Cls [q, w.heap.size] q 141 w4 (Res w.heap.size 25 (iv px).length)) (Rel [q, w.heap.size] (fun wx => Box wx w.heap.size 25 (iv px)))
    (Ty [TV (tilV px), TV (.bool aa), TV (.pointer (some ⟨q, 0, none⟩)), TI 0 1, TB, fun _ wx => Box wx w.heap.size 25 (iv px), TV (.bool aa), TB])
    (by kernel_rfl) (by kernel_rfl) (stab_ty _ ⟨stab_tv _, stab_tv _, stab_tv _, stab_ti _ _, stab_tb, stab_done _ (fun _ h => h) (fun _ h => h), stab_tv _, stab_tb, trivial⟩)
    ⟨(Only.refl _ w4).trans (.of_below (Below.refl _ _).drew), R4.out.stay (Below.refl _ _).drew, iv z64, by simp [hl, z64_len], X4.out, plain_iv _⟩ ?_ ?_
  · refine ⟨?_, ?_, ?_, ?_, ?_, ?_, ?_, ?_, trivial⟩
    · refine ob_val rfl (tilV px) hq hJ hD fun ρ kk wx hI _ hx _ => ⟨?_, rfl⟩
      have e6 : ρ (.tmp 6) = .pointer (some ⟨b, 0, none⟩) := hx 6 rfl
      have Y := Y4.out.only hI.only (by simp; omega)
      unfold execOp
      simp only [e6, Sem.run_bind, exec_tilLoad hl Y, Result.andThen_ok]
      rfl
    · exact ob_move rfl (.tmp 7) (.inl rfl) hq hJ hD fun ρ wx _ hx _ => hx 7 rfl
    · exact ob_move rfl (.tmp 5) (.inl rfl) hq hJ hD fun ρ wx _ hx _ => hx 5 rfl
    · exact ob_pick rfl (.tmp 17) 2 _ rfl hq hJ hD (by simp) (by omega) (by omega) (fun ρ wx hp => hp.1 rfl) (fun _ _ h => h)
    · refine ob_some rfl hq hJ hD fun ρ kk wx hI hc hx hp => ?_
      obtain ⟨z, hz, z0, z1⟩ : TI 0 1 (ρ (.tmp 18)) wx := hp.1 rfl
      refine ⟨.bool (z == 0), ?_, z == 0, rfl⟩
      have e0 := hc (.int .i64 0)
      unfold execOp
      simp only [hz, e0]
      clear hx hp hc hI hz
      go_simp
    · refine ob_put rfl w.heap.size _ (iv px) (by simp) zrq (plain_iv _) (fun ρ wx cs hb hl' _ hx hp => ?_) (fun _ _ h => h)
      have e2 : ρ (.tmp 2) = .pointer (some ⟨w.heap.size, 0, none⟩) := hx 2 rfl
      have e15 : ρ (.tmp 15) = tilV px := hp.1 rfl
      have hr := setAll_row (iv px) [] cs wx hb hl'
      simp only [List.nil_append, List.length_nil] at hr
      unfold execOp
      simp only [e2, e15, Sem.run_bind, exec_tilStore hl hb (by rw [hl', hlv]), Result.andThen_ok]
      rw [hr]
      rfl
    · exact ob_move rfl (.tmp 16) (.inr rfl) hq hJ hD fun ρ wx _ _ hp => hp.1 rfl
    · exact ob_move rfl (.tmp 19) (.inr rfl) hq hJ hD fun ρ wx _ _ hp => hp.1 rfl
  · intro vs wx hI hF
    obtain ⟨_, _, _, _, _, hd, h6, ⟨dd, h7⟩, _⟩ := hF
    have O5 := Lib.hid hI.only
    have DB : Hid (Box wx w.heap.size 25 (iv px)) := hd
    replace h6 : vs 6 = .bool aa := h6
    replace h7 : vs 7 = .bool dd := h7
    simp only [putAll, Act.put, List.setIfInBounds_toArray, List.set_cons_zero, List.set_cons_succ, h6, h7]
    clear hI hd h6 h7 hJ hD
    go_wp2
    refine bodyPost_ret (v := .tuple #[tilV px, .bool aa, .bool dd]) (til_ret3 rfl rfl DB.out hl _ _ rfl rfl) rfl ?_
    exact ⟨px, aa, dd, HP.out, rfl, B4.out.trans (O5.out.below (B := w.heap.size) (by simp; omega) B4.out.size)⟩
end Go.Proofs.Ytihohmmfgamecaa
