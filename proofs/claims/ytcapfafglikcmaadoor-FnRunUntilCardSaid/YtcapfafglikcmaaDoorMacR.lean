/- Machines that the laws draw with a number: of steps, or an address. -/
import Derived.Test.YtcapfafglikcmaaDoorMacH
import Derived.Test.YtcapfafglikcmaaDoorKJ
import Derived.Test.YtcapfafglikcmaaDoorKI
namespace Go.Proofs.YtcapfafglikcmaaDoor
open Go.ChangeShapes Go.WideShapes Go.ChangeAt Go.RowKit
set_option linter.unusedVariables false

/-- A machine and a number. -/
def MacGotS (lo hi : Int) (w : World) (e : Ending) (w' : World) : Prop := ∃ (A : Option Addr) (n c : Nat) (R : Option Addr) (k d : Nat) (B : Option Addr) (m g : Nat) (X : Mach) (s : Int), (lo ≤ s ∧ s ≤ hi) ∧ e = .returned (.tuple #[.agg #[.slice A n c, .slice R k d, .int .i64 X.mem.bank, .int .i64 X.a, .int .i64 X.at_, .bool X.carry, .slice B m g, .bool X.stop, .int .i64 X.cyc], .int .i64 s]) ∧ MacHere w' A n c R k d B m g X ∧ Below w.heap.size w w' ∧ X.cyc ≤ 99
section
variable {ops : Array Oper} {Q : Exit → Act → World → Prop} {T : Nat → Value → World → Prop} {a0 : Act} {S : List Nat} {q m : Nat} {w0 : World} {J D : World → Prop} {i : Nat} {o : Oper}
/-- An address is drawn. -/
theorem ob_place (hg : o.guard = none) (x y : Operand) (n : Int) (ty : Array TypeId) (hop : o.op = .call { callee := .value (.func 42), args := #[x, y], argTypes := ty }) (hq : q ∈ S) (hJ : Kept q J) (hD : Kept q D) (hm : m + 800 * ops.size ≤ 50000) (hn : 1 ≤ n) (hn2 : n ≤ 1000)
    (hx : ∀ (ρ : Operand → Value) w, (∀ v, ρ (.const v) = v) → PreR ops T ρ w o.after.toList → ρ x = .pointer (some ⟨q, 0, none⟩) ∧ ρ y = .int .i64 n) (hT : ∀ v w, TI (-1) 1024 v w → T i (dstV o v) w) :
    Ob Tryd.prog ops Q (fun k => Cls S q m w0 J (800 * k)) (Rel S D) T a0 i o := by
  intro k a w hk hI hF hp
  have hw : wantV ops (slotV a) o = true := by unfold wantV; rw [hg]
  refine ⟨fun _ => ?_, fun hn => by rw [hw] at hn; cases hn⟩
  unfold Oper.wp
  refine upon_of_T (K := fun v w' => Rel S D w w' ∧ Cls S q m w0 J (800 * (k + 1)) w' ∧ T i (dstV o v) w') ?_
  obtain ⟨h1, h2⟩ := hx a.eval w (fun _ => rfl) (pre_eq _ hp)
  have h3 : a.eval (.func 42) = .func (.func 42) #[] #[] := rfl
  have e : (execOp a.eval o).run Tryd.prog w = .ok (.enter 42 #[.pointer (some ⟨q, 0, none⟩), .int .i64 n]) w := by
    generalize a.eval = ρ at h1 h2 h3
    unfold execOp; rw [hop]
    simp [go_sem, h1, h2, h3]
  rw [e, UponT_enter]
  refine (place_any q (m + 800 * k) n w hI.rd (by omega) hn hn2).mono ?_
  rintro e w' ⟨x, x0, x1, rfl, ho, hr⟩
  have hoS : Only S w w' := ho.mono (by simp; exact hq)
  exact ⟨_, rfl, ⟨hoS, hD w w' ho⟩, ⟨hI.only.trans hoS, hr.mono (by omega), hJ w w' ho hI.more⟩, hT _ _ ⟨x, rfl, x0, x1⟩⟩
end
set_option maxRecDepth 100000 in
set_option maxHeartbeats 4000000 in
theorem draw_macRun (a : Option Addr) (len cap : Nat) (zs : List Int) (w : World) (h : IsRow .u8 w a len cap zs) :
    Calls Tryd.prog 18 #[.slice a len cap] w (MacGotS (-1) 501 w) := by
  have H := Lib.hid (isRow_stays h (below1 w (.cells #[.slice none 0 0, .slice none 0 0, .int .i64 0, .int .i64 0, .int .i64 0, .bool false, .slice none 0 0, .bool false, .int .i64 0] 28)))
  clear h
  go_enter Tryd.func18, Tryd.ntmps18
  go_wp2_with fail
  refine (open_any a len cap zs _ H.out).mono ?_
  rintro e w1 ⟨rfl, b1, r1⟩
  have X1 : Hid (Box w1 w.heap.size 28 [.slice none 0 0, .slice none 0 0, .int .i64 0, .int .i64 0, .int .i64 0, .bool false, .slice none 0 0, .bool false, .int .i64 0]) := (Box.new w _ _).below b1
  have B1 : Hid (Below w.heap.size w w1) := (below1 w _).trans (b1.mono (by simp))
  have R1 := Lib.hid r1
  have zq : w.heap.size < (w.alloc (.cells #[.slice none 0 0, .slice none 0 0, .int .i64 0, .int .i64 0, .int .i64 0, .bool false, .slice none 0 0, .bool false, .int .i64 0] 28)).heap.size := by simp
  generalize (w.alloc (.cells #[.slice none 0 0, .slice none 0 0, .int .i64 0, .int .i64 0, .int .i64 0, .bool false, .slice none 0 0, .bool false, .int .i64 0] 28)).heap.size = q at R1 zq
  have zq1 : q < w1.heap.size := R1.out.lt
  clear b1 r1
  go_wp2_with fail
  refine (mach_any q 0 14 _ R1.out (by omega) (by omega) (by omega)).mono ?_
  rintro e w2 ⟨A, n, c, R, k, d, B, m, g, X, fa, fr, fb, rfl, hc, hh, nw, ⟨hf, hy⟩, o2, r2⟩
  have X2 := Lib.hid (X1.out.only o2 (by simp; omega))
  have B2 := Lib.hid (B1.out.trans (o2.below (B := w.heap.size) (fun b hb => by simp at hb; omega) B1.out.size))
  have HH : Hid (∀ (S : List Nat) (w' : World), Only S w2 w' → (∀ b ∈ S, b < w1.heap.size) → MacHere w' A n c R k d B m g X) := fun S w' o h => here_mac hc hh nw hf o h
  have R2 := Lib.hid r2
  have HY := Lib.hid hy
  have ZW : Hid (w1.heap.size ≤ w2.heap.size) := o2.size
  clear hc hh nw hf hy o2 r2
  go_wp2_with fail
  have X3 := Lib.hid (X2.out.alloc (.cells #[.slice A n c, .slice R k d, .int .i64 X.mem.bank, .int .i64 X.a, .int .i64 X.at_, .bool X.carry, .slice B m g, .bool X.stop, .int .i64 X.cyc] 28))
  have Y3 : Hid (Box (w2.alloc (.cells #[.slice A n c, .slice R k d, .int .i64 X.mem.bank, .int .i64 X.a, .int .i64 X.at_, .bool X.carry, .slice B m g, .bool X.stop, .int .i64 X.cyc] 28)) w2.heap.size 28 [.slice A n c, .slice R k d, .int .i64 X.mem.bank, .int .i64 X.a, .int .i64 X.at_, .bool X.carry, .slice B m g, .bool X.stop, .int .i64 X.cyc]) := Box.new w2 _ _
  have O3 : Hid (Only [q] w2 (w2.alloc (.cells #[.slice A n c, .slice R k d, .int .i64 X.mem.bank, .int .i64 X.a, .int .i64 X.at_, .bool X.carry, .slice B m g, .bool X.stop, .int .i64 X.cyc] 28))) := (Only.refl _ w2).alloc _
  have R3 := Lib.hid (R2.out.alloc (.cells #[.slice A n c, .slice R k d, .int .i64 X.mem.bank, .int .i64 X.a, .int .i64 X.at_, .bool X.carry, .slice B m g, .bool X.stop, .int .i64 X.cyc] 28))
  have z3 : w2.heap.size < (w2.alloc (.cells #[.slice A n c, .slice R k d, .int .i64 X.mem.bank, .int .i64 X.a, .int .i64 X.at_, .bool X.carry, .slice B m g, .bool X.stop, .int .i64 X.cyc] 28)).heap.size := by simp
  have zw : w1.heap.size ≤ w2.heap.size := ZW.out
  generalize w2.alloc (.cells #[.slice A n c, .slice R k d, .int .i64 X.mem.bank, .int .i64 X.a, .int .i64 X.at_, .bool X.carry, .slice B m g, .bool X.stop, .int .i64 X.cyc] 28) = w3 at X3 Y3 O3 R3 z3
  have zr : w.heap.size < w3.heap.size := X3.out.lt
  have zqq : q < w3.heap.size := R3.out.lt
  have zrq : w.heap.size ≠ q := by omega
  have zbr : w2.heap.size ≠ w.heap.size ∧ w2.heap.size ≠ q := by omega
  let J : World → Prop := Res w.heap.size 28 9
  let D : World → Prop := fun wx => Box wx w.heap.size 28 [.slice A n c, .slice R k d, .int .i64 X.mem.bank, .int .i64 X.a, .int .i64 X.at_, .bool X.carry, .slice B m g, .bool X.stop, .int .i64 X.cyc]
  have hJ : Kept q J := Res.kept zrq
  have hD : Kept q D := box_kept zrq
  have hq : q ∈ [q, w.heap.size] := by simp
  have hS : ∀ b ∈ [q, w.heap.size], b < w3.heap.size := by simp; omega
  refine wp_region_typed (Cls [q, w.heap.size] q (0 + 20000) w3 J) (Rel [q, w.heap.size] D)
    (Ty [TV (.agg #[.slice A n c, .slice R k d, .int .i64 X.mem.bank, .int .i64 X.a, .int .i64 X.at_, .bool X.carry, .slice B m g, .bool X.stop, .int .i64 X.cyc]), TV (.pointer (some ⟨q, 0, none⟩)), TI 0 39, TL [q, w.heap.size] 4 (-1) 501, TL [q, w.heap.size] 7 0 3, TV (.pointer (some ⟨q, 0, none⟩)), TI 0 6, TP [q, w.heap.size] 0 3, TI 0 3, TP [q, w.heap.size] (-1) 501, TI (-1) 501, fun _ wx => D wx, TI (-1) 501])
    (by kernel_rfl) (by kernel_rfl) (stab_ty _ ⟨stab_tv _, stab_tv _, stab_ti _ _, stab_tl _ _ _, stab_tl _ _ _, stab_tv _, stab_ti _ _, stab_tp _ _, stab_ti _ _, stab_tp _ _, stab_ti _ _, stab_done _ (fun _ h => h) (fun _ h => h), stab_ti _ _, trivial⟩)
    ⟨(Only.refl _ w3).trans (.of_below (Below.refl _ _).drew), R3.out.stay (Below.refl _ _).drew, _, rfl, X3.out, by simp [plainV]⟩ ?_ ?_
  · refine ⟨?_, ?_, ?_, ?_, ?_, ?_, ?_, ?_, ?_, ?_, ?_, ?_, ?_, trivial⟩
    · refine ob_val rfl (.agg #[.slice A n c, .slice R k d, .int .i64 X.mem.bank, .int .i64 X.a, .int .i64 X.at_, .bool X.carry, .slice B m g, .bool X.stop, .int .i64 X.cyc]) hq hJ hD fun ρ kk wx hI _ hx _ => ⟨?_, rfl⟩
      have e5 : ρ (.tmp 5) = .pointer (some ⟨w2.heap.size, 0, none⟩) := hx 5 rfl
      have Y := Y3.out.only hI.only (by simp; omega)
      have c0 : wx.cell? ⟨w2.heap.size, 0, none⟩ = some (.slice A n c) := Y.cell 0
      have c1 : wx.cell? ⟨w2.heap.size, 1, none⟩ = some (.slice R k d) := Y.cell 1
      have c2 : wx.cell? ⟨w2.heap.size, 2, none⟩ = some (.int .i64 X.mem.bank) := Y.cell 2
      have c3 : wx.cell? ⟨w2.heap.size, 3, none⟩ = some (.int .i64 X.a) := Y.cell 3
      have c4 : wx.cell? ⟨w2.heap.size, 4, none⟩ = some (.int .i64 X.at_) := Y.cell 4
      have c5 : wx.cell? ⟨w2.heap.size, 5, none⟩ = some (.bool X.carry) := Y.cell 5
      have c6 : wx.cell? ⟨w2.heap.size, 6, none⟩ = some (.slice B m g) := Y.cell 6
      have c7 : wx.cell? ⟨w2.heap.size, 7, none⟩ = some (.bool X.stop) := Y.cell 7
      have c8 : wx.cell? ⟨w2.heap.size, 8, none⟩ = some (.int .i64 X.cyc) := Y.cell 8
      unfold execOp
      simp only [e5]
      clear e5 hx Y hI
      go_simp
    · exact ob_move rfl (.tmp 4) (.inl rfl) hq hJ hD fun ρ wx _ hx _ => hx 4 rfl
    · exact ob_pick rfl (.tmp 11) 40 _ rfl hq hJ hD (by simp) (by omega) (by omega) (fun ρ wx hp => hp.1 rfl) (fun _ _ h => h)
    · refine ob_build rfl 4 (-1) 501 hq hJ hD hS (fun ρ wx hc hx hp => ?_) (fun _ _ h => h)
      obtain ⟨z, hz, z0, z1⟩ : TI 0 39 (ρ (.tmp 12)) wx := hp.1 rfl
      refine ⟨#[.int .i64 z, .int .i64 500, .int .i64 (-1), .int .i64 501], ?_, ?_⟩
      · unfold execOp
        simp only [List.map_toArray, List.map_cons, List.map_nil, hz, hc]
        clear hz hx hp hc
        go_simp
      · intro j hj
        have h : j = 0 ∨ j = 1 ∨ j = 2 ∨ j = 3 := by omega
        rcases h with rfl | rfl | rfl | rfl <;> exact ⟨_, rfl, by omega, by omega⟩
    · refine ob_build rfl 7 0 3 hq hJ hD hS (fun ρ wx hc hx hp => ?_) (fun _ _ h => h)
      refine ⟨#[.int .i64 0, .int .i64 0, .int .i64 0, .int .i64 0, .int .i64 1, .int .i64 2, .int .i64 3], ?_, ?_⟩
      · unfold execOp
        simp only [List.map_toArray, List.map_cons, List.map_nil, hc]
        clear hx hp hc
        go_simp
      · intro j hj
        have h : j = 0 ∨ j = 1 ∨ j = 2 ∨ j = 3 ∨ j = 4 ∨ j = 5 ∨ j = 6 := by omega
        rcases h with rfl | rfl | rfl | rfl | rfl | rfl | rfl <;> exact ⟨_, rfl, by omega, by omega⟩
    · exact ob_move rfl (.tmp 4) (.inl rfl) hq hJ hD fun ρ wx _ hx _ => hx 4 rfl
    · exact ob_pick rfl (.tmp 15) 7 _ rfl hq hJ hD (by simp) (by omega) (by omega) (fun ρ wx hp => hp.1 rfl) (fun _ _ h => h)
    · exact ob_index rfl (.tmp 14) (.tmp 16) 7 0 3 rfl hq hJ hD (fun ρ wx hp => ⟨hp.1 rfl, hp.2.1 rfl⟩) (fun _ _ h => h)
    · exact ob_load rfl (.tmp 17) 0 3 rfl hq hJ hD (fun ρ wx hp => hp.1 rfl) (fun _ _ h => h)
    · exact ob_index rfl (.tmp 13) (.tmp 18) 4 (-1) 501 rfl hq hJ hD (fun ρ wx hp => ⟨hp.1 rfl, hp.2.1 rfl⟩) (fun _ _ h => h)
    · exact ob_load rfl (.tmp 19) (-1) 501 rfl hq hJ hD (fun ρ wx hp => hp.1 rfl) (fun _ _ h => h)
    · refine ob_put rfl w.heap.size _ [.slice A n c, .slice R k d, .int .i64 X.mem.bank, .int .i64 X.a, .int .i64 X.at_, .bool X.carry, .slice B m g, .bool X.stop, .int .i64 X.cyc] (by simp) zrq (by simp [plainV]) (fun ρ wx cs hb hl _ hx hp => ?_) (fun _ _ h => h)
      have e2 : ρ (.tmp 2) = .pointer (some ⟨w.heap.size, 0, none⟩) := hx 2 rfl
      have es : ρ (.tmp 10) = .agg #[.slice A n c, .slice R k d, .int .i64 X.mem.bank, .int .i64 X.a, .int .i64 X.at_, .bool X.carry, .slice B m g, .bool X.stop, .int .i64 X.cyc] := hp.1 rfl
      obtain ⟨v0, v1, v2, v3, v4, v5, v6, v7, v8, rfl⟩ : ∃ v0 v1 v2 v3 v4 v5 v6 v7 v8, cs = [v0, v1, v2, v3, v4, v5, v6, v7, v8] := by
        match cs, hl with
        | [v0, v1, v2, v3, v4, v5, v6, v7, v8], _ => exact ⟨v0, v1, v2, v3, v4, v5, v6, v7, v8, rfl⟩
      have c0 := hb.cell 0
      have c1 := hb.cell 1
      have c2 := hb.cell 2
      have c3 := hb.cell 3
      have c4 := hb.cell 4
      have c5 := hb.cell 5
      have c6 := hb.cell 6
      have c7 := hb.cell 7
      have c8 := hb.cell 8
      have f0 := hb.frozen 0
      have f1 := hb.frozen 1
      have f2 := hb.frozen 2
      have f3 := hb.frozen 3
      have f4 := hb.frozen 4
      have f5 := hb.frozen 5
      have f6 := hb.frozen 6
      have f7 := hb.frozen 7
      have f8 := hb.frozen 8
      show _ = Result.ok _ (((((((((wx.setCell ⟨w.heap.size, 0, none⟩ (.slice A n c)).setCell ⟨w.heap.size, 1, none⟩ (.slice R k d)).setCell ⟨w.heap.size, 2, none⟩ (.int .i64 X.mem.bank)).setCell ⟨w.heap.size, 3, none⟩ (.int .i64 X.a)).setCell ⟨w.heap.size, 4, none⟩ (.int .i64 X.at_)).setCell ⟨w.heap.size, 5, none⟩ (.bool X.carry)).setCell ⟨w.heap.size, 6, none⟩ (.slice B m g)).setCell ⟨w.heap.size, 7, none⟩ (.bool X.stop)).setCell ⟨w.heap.size, 8, none⟩ (.int .i64 X.cyc))
      unfold execOp
      simp only [e2, es]
      clear e2 es hx hp hb
      go_simp
    · exact ob_move rfl (.tmp 20) (.inr rfl) hq hJ hD fun ρ wx _ _ hp => hp.1 rfl
  · intro vs wx hI hF
    obtain ⟨_, _, _, _, _, _, _, _, _, _, _, hd, ⟨s, hs, s0, s1⟩, _⟩ := hF
    have O3' := Lib.hid (O3.out.mono (T := [q, w.heap.size]) (by simp))
    have O4 := Lib.hid (O3'.out.trans hI.only)
    have DB : Hid (Box wx w.heap.size 28 [.slice A n c, .slice R k d, .int .i64 X.mem.bank, .int .i64 X.a, .int .i64 X.at_, .bool X.carry, .slice B m g, .bool X.stop, .int .i64 X.cyc]) := hd
    replace hs : vs 12 = .int .i64 s := hs
    simp only [putAll, Act.put, List.setIfInBounds_toArray, List.set_cons_zero, List.set_cons_succ, hs]
    have e0 : wx.cell? ⟨w.heap.size, 0, none⟩ = some (.slice A n c) := DB.out.cell 0
    have e1 : wx.cell? ⟨w.heap.size, 1, none⟩ = some (.slice R k d) := DB.out.cell 1
    have e2 : wx.cell? ⟨w.heap.size, 2, none⟩ = some (.int .i64 X.mem.bank) := DB.out.cell 2
    have e3 : wx.cell? ⟨w.heap.size, 3, none⟩ = some (.int .i64 X.a) := DB.out.cell 3
    have e4 : wx.cell? ⟨w.heap.size, 4, none⟩ = some (.int .i64 X.at_) := DB.out.cell 4
    have e5 : wx.cell? ⟨w.heap.size, 5, none⟩ = some (.bool X.carry) := DB.out.cell 5
    have e6 : wx.cell? ⟨w.heap.size, 6, none⟩ = some (.slice B m g) := DB.out.cell 6
    have e7 : wx.cell? ⟨w.heap.size, 7, none⟩ = some (.bool X.stop) := DB.out.cell 7
    have e8 : wx.cell? ⟨w.heap.size, 8, none⟩ = some (.int .i64 X.cyc) := DB.out.cell 8
    clear hI hd hs hJ hD
    go_wp2
    refine bodyPost_ret (v := .tuple #[.agg #[.slice A n c, .slice R k d, .int .i64 X.mem.bank, .int .i64 X.a, .int .i64 X.at_, .bool X.carry, .slice B m g, .bool X.stop, .int .i64 X.cyc], .int .i64 s]) (by simp [results, Tryd.results18, go_sem, e0, e1, e2, e3, e4, e5, e6, e7, e8]) rfl ?_
    exact ⟨A, n, c, R, k, d, B, m, g, X, s, ⟨s0, s1⟩, rfl, HH.out [q, w.heap.size] _ O4.out (by simp; omega), B2.out.trans (O4.out.below (B := w.heap.size) (by simp; omega) B2.out.size), HY.out⟩
set_option maxRecDepth 100000 in
set_option maxHeartbeats 4000000 in
theorem draw_macUntil (a : Option Addr) (len cap : Nat) (zs : List Int) (w : World) (h : IsRow .u8 w a len cap zs) :
    Calls Tryd.prog 21 #[.slice a len cap] w (MacGotS (-1) 1024 w) := by
  have H := Lib.hid (isRow_stays h (below1 w (.cells #[.slice none 0 0, .slice none 0 0, .int .i64 0, .int .i64 0, .int .i64 0, .bool false, .slice none 0 0, .bool false, .int .i64 0] 28)))
  clear h
  go_enter Tryd.func21, Tryd.ntmps21
  go_wp2_with fail
  refine (open_any a len cap zs _ H.out).mono ?_
  rintro e w1 ⟨rfl, b1, r1⟩
  have X1 : Hid (Box w1 w.heap.size 28 [.slice none 0 0, .slice none 0 0, .int .i64 0, .int .i64 0, .int .i64 0, .bool false, .slice none 0 0, .bool false, .int .i64 0]) := (Box.new w _ _).below b1
  have B1 : Hid (Below w.heap.size w w1) := (below1 w _).trans (b1.mono (by simp))
  have R1 := Lib.hid r1
  have zq : w.heap.size < (w.alloc (.cells #[.slice none 0 0, .slice none 0 0, .int .i64 0, .int .i64 0, .int .i64 0, .bool false, .slice none 0 0, .bool false, .int .i64 0] 28)).heap.size := by simp
  generalize (w.alloc (.cells #[.slice none 0 0, .slice none 0 0, .int .i64 0, .int .i64 0, .int .i64 0, .bool false, .slice none 0 0, .bool false, .int .i64 0] 28)).heap.size = q at R1 zq
  have zq1 : q < w1.heap.size := R1.out.lt
  clear b1 r1
  go_wp2_with fail
  refine (mach_any q 0 14 _ R1.out (by omega) (by omega) (by omega)).mono ?_
  rintro e w2 ⟨A, n, c, R, k, d, B, m, g, X, fa, fr, fb, rfl, hc, hh, nw, ⟨hf, hy⟩, o2, r2⟩
  have X2 := Lib.hid (X1.out.only o2 (by simp; omega))
  have B2 := Lib.hid (B1.out.trans (o2.below (B := w.heap.size) (fun b hb => by simp at hb; omega) B1.out.size))
  have HH : Hid (∀ (S : List Nat) (w' : World), Only S w2 w' → (∀ b ∈ S, b < w1.heap.size) → MacHere w' A n c R k d B m g X) := fun S w' o h => here_mac hc hh nw hf o h
  have R2 := Lib.hid r2
  have HY := Lib.hid hy
  have ZW : Hid (w1.heap.size ≤ w2.heap.size) := o2.size
  clear hc hh nw hf hy o2 r2
  go_wp2_with fail
  have X3 := Lib.hid (X2.out.alloc (.cells #[.slice A n c, .slice R k d, .int .i64 X.mem.bank, .int .i64 X.a, .int .i64 X.at_, .bool X.carry, .slice B m g, .bool X.stop, .int .i64 X.cyc] 28))
  have Y3 : Hid (Box (w2.alloc (.cells #[.slice A n c, .slice R k d, .int .i64 X.mem.bank, .int .i64 X.a, .int .i64 X.at_, .bool X.carry, .slice B m g, .bool X.stop, .int .i64 X.cyc] 28)) w2.heap.size 28 [.slice A n c, .slice R k d, .int .i64 X.mem.bank, .int .i64 X.a, .int .i64 X.at_, .bool X.carry, .slice B m g, .bool X.stop, .int .i64 X.cyc]) := Box.new w2 _ _
  have O3 : Hid (Only [q] w2 (w2.alloc (.cells #[.slice A n c, .slice R k d, .int .i64 X.mem.bank, .int .i64 X.a, .int .i64 X.at_, .bool X.carry, .slice B m g, .bool X.stop, .int .i64 X.cyc] 28))) := (Only.refl _ w2).alloc _
  have R3 := Lib.hid (R2.out.alloc (.cells #[.slice A n c, .slice R k d, .int .i64 X.mem.bank, .int .i64 X.a, .int .i64 X.at_, .bool X.carry, .slice B m g, .bool X.stop, .int .i64 X.cyc] 28))
  have z3 : w2.heap.size < (w2.alloc (.cells #[.slice A n c, .slice R k d, .int .i64 X.mem.bank, .int .i64 X.a, .int .i64 X.at_, .bool X.carry, .slice B m g, .bool X.stop, .int .i64 X.cyc] 28)).heap.size := by simp
  have zw : w1.heap.size ≤ w2.heap.size := ZW.out
  generalize w2.alloc (.cells #[.slice A n c, .slice R k d, .int .i64 X.mem.bank, .int .i64 X.a, .int .i64 X.at_, .bool X.carry, .slice B m g, .bool X.stop, .int .i64 X.cyc] 28) = w3 at X3 Y3 O3 R3 z3
  have zr : w.heap.size < w3.heap.size := X3.out.lt
  have zqq : q < w3.heap.size := R3.out.lt
  have zrq : w.heap.size ≠ q := by omega
  have zbr : w2.heap.size ≠ w.heap.size ∧ w2.heap.size ≠ q := by omega
  let J : World → Prop := Res w.heap.size 28 9
  let D : World → Prop := fun wx => Box wx w.heap.size 28 [.slice A n c, .slice R k d, .int .i64 X.mem.bank, .int .i64 X.a, .int .i64 X.at_, .bool X.carry, .slice B m g, .bool X.stop, .int .i64 X.cyc]
  have hJ : Kept q J := Res.kept zrq
  have hD : Kept q D := box_kept zrq
  have hq : q ∈ [q, w.heap.size] := by simp
  have hS : ∀ b ∈ [q, w.heap.size], b < w3.heap.size := by simp; omega
  refine wp_region_typed (fun k => Cls [q, w.heap.size] q (0 + 20000) w3 J (800 * k)) (Rel [q, w.heap.size] D)
    (Ty [TV (.agg #[.slice A n c, .slice R k d, .int .i64 X.mem.bank, .int .i64 X.a, .int .i64 X.at_, .bool X.carry, .slice B m g, .bool X.stop, .int .i64 X.cyc]), TV (.pointer (some ⟨q, 0, none⟩)), TI 0 29, TI 512 541, TV (.pointer (some ⟨q, 0, none⟩)), TI (-1) 1024, TL [q, w.heap.size] 2 (-1) 1024, TV (.pointer (some ⟨q, 0, none⟩)), TI 0 2, TI 0 1, TP [q, w.heap.size] (-1) 1024, TI (-1) 1024, fun _ wx => D wx, TI (-1) 1024])
    (by kernel_rfl) (by kernel_rfl) (stab_ty _ ⟨stab_tv _, stab_tv _, stab_ti _ _, stab_ti _ _, stab_tv _, stab_ti _ _, stab_tl _ _ _, stab_tv _, stab_ti _ _, stab_ti _ _, stab_tp _ _, stab_ti _ _, stab_done _ (fun _ h => h) (fun _ h => h), stab_ti _ _, trivial⟩)
    ⟨(Only.refl _ w3).trans (.of_below (Below.refl _ _).drew), R3.out.stay (Below.refl _ _).drew, _, rfl, X3.out, by simp [plainV]⟩ ?_ ?_
  · refine ⟨?_, ?_, ?_, ?_, ?_, ?_, ?_, ?_, ?_, ?_, ?_, ?_, ?_, ?_, trivial⟩
    · refine ob_wide fun m' hm' => ob_val rfl (.agg #[.slice A n c, .slice R k d, .int .i64 X.mem.bank, .int .i64 X.a, .int .i64 X.at_, .bool X.carry, .slice B m g, .bool X.stop, .int .i64 X.cyc]) hq hJ hD fun ρ kk wx hI _ hx _ => ⟨?_, rfl⟩
      have e5 : ρ (.tmp 5) = .pointer (some ⟨w2.heap.size, 0, none⟩) := hx 5 rfl
      have Y := Y3.out.only hI.only (by simp; omega)
      have c0 : wx.cell? ⟨w2.heap.size, 0, none⟩ = some (.slice A n c) := Y.cell 0
      have c1 : wx.cell? ⟨w2.heap.size, 1, none⟩ = some (.slice R k d) := Y.cell 1
      have c2 : wx.cell? ⟨w2.heap.size, 2, none⟩ = some (.int .i64 X.mem.bank) := Y.cell 2
      have c3 : wx.cell? ⟨w2.heap.size, 3, none⟩ = some (.int .i64 X.a) := Y.cell 3
      have c4 : wx.cell? ⟨w2.heap.size, 4, none⟩ = some (.int .i64 X.at_) := Y.cell 4
      have c5 : wx.cell? ⟨w2.heap.size, 5, none⟩ = some (.bool X.carry) := Y.cell 5
      have c6 : wx.cell? ⟨w2.heap.size, 6, none⟩ = some (.slice B m g) := Y.cell 6
      have c7 : wx.cell? ⟨w2.heap.size, 7, none⟩ = some (.bool X.stop) := Y.cell 7
      have c8 : wx.cell? ⟨w2.heap.size, 8, none⟩ = some (.int .i64 X.cyc) := Y.cell 8
      unfold execOp
      simp only [e5]
      clear e5 hx Y hI
      go_simp
    · exact ob_wide fun m' hm' => ob_move rfl (.tmp 4) (.inl rfl) hq hJ hD fun ρ wx _ hx _ => hx 4 rfl
    · exact ob_wide fun m' hm' => ob_pick rfl (.tmp 11) 30 _ rfl hq hJ hD (by simp at hm' ⊢; omega) (by omega) (by omega) (fun ρ wx hp => hp.1 rfl) (fun _ _ h => h)
    · exact ob_wide fun m' hm' => ob_add rfl (.const (.int .i64 512)) (.tmp 12) 512 0 29 512 541 _ _ rfl rfl hq hJ hD (fun ρ wx hc hp => .inr ⟨hp.1 rfl, hc _⟩) (by omega) (by omega) (by omega) (by omega) (fun _ _ h => h)
    · exact ob_wide fun m' hm' => ob_move rfl (.tmp 4) (.inl rfl) hq hJ hD fun ρ wx _ hx _ => hx 4 rfl
    · exact ob_place rfl (.tmp 14) (.const (.int .i64 5)) 5 _ rfl hq hJ hD (by simp) (by omega) (by omega) (fun ρ wx hc hp => ⟨hp.1 rfl, hc _⟩) (fun _ _ h => h)
    · refine ob_wide fun m' hm' => ob_build rfl 2 (-1) 1024 hq hJ hD hS (fun ρ wx hc hx hp => ?_) (fun _ _ h => h)
      obtain ⟨z, hz, z0, z1⟩ : TI 512 541 (ρ (.tmp 13)) wx := hp.1 rfl
      obtain ⟨z', hz', z0', z1'⟩ : TI (-1) 1024 (ρ (.tmp 15)) wx := hp.2.1 rfl
      refine ⟨#[.int .i64 z, .int .i64 z'], ?_, ?_⟩
      · unfold execOp
        simp only [List.map_toArray, List.map_cons, List.map_nil, hz, hz']
        clear hz hz' hx hp hc
        go_simp
      · intro j hj
        have h : j = 0 ∨ j = 1 := by omega
        rcases h with rfl | rfl <;> exact ⟨_, rfl, by omega, by omega⟩
    · exact ob_wide fun m' hm' => ob_move rfl (.tmp 4) (.inl rfl) hq hJ hD fun ρ wx _ hx _ => hx 4 rfl
    · exact ob_wide fun m' hm' => ob_pick rfl (.tmp 17) 3 _ rfl hq hJ hD (by simp at hm' ⊢; omega) (by omega) (by omega) (fun ρ wx hp => hp.1 rfl) (fun _ _ h => h)
    · refine ob_wide fun m' hm' => ob_some rfl hq hJ hD fun ρ kk wx hI hc hx hp => ?_
      obtain ⟨z, hz, z0, z1⟩ : TI 0 2 (ρ (.tmp 18)) wx := hp.1 rfl
      have hk := hc (.int .i64 2)
      have hz3 : z = 0 ∨ z = 1 ∨ z = 2 := by omega
      clear z0 z1
      rcases hz3 with rfl | rfl | rfl
      · refine ⟨.int .i64 0, ?_, 0, rfl, by omega, by omega⟩
        unfold execOp
        simp only [hz, hk]
        clear hx hp hc hI hz hk
        go_simp
        exact IntWalk.i64_in _ (by omega)
      · refine ⟨.int .i64 0, ?_, 0, rfl, by omega, by omega⟩
        unfold execOp
        simp only [hz, hk]
        clear hx hp hc hI hz hk
        go_simp
        exact IntWalk.i64_in _ (by omega)
      · refine ⟨.int .i64 1, ?_, 1, rfl, by omega, by omega⟩
        unfold execOp
        simp only [hz, hk]
        clear hx hp hc hI hz hk
        go_simp
        exact IntWalk.i64_in _ (by omega)
    · exact ob_wide fun m' hm' => ob_index rfl (.tmp 16) (.tmp 19) 2 (-1) 1024 rfl hq hJ hD (fun ρ wx hp => ⟨hp.1 rfl, hp.2.1 rfl⟩) (fun _ _ h => h)
    · exact ob_wide fun m' hm' => ob_load rfl (.tmp 20) (-1) 1024 rfl hq hJ hD (fun ρ wx hp => hp.1 rfl) (fun _ _ h => h)
    · refine ob_wide fun m' hm' => ob_put rfl w.heap.size _ [.slice A n c, .slice R k d, .int .i64 X.mem.bank, .int .i64 X.a, .int .i64 X.at_, .bool X.carry, .slice B m g, .bool X.stop, .int .i64 X.cyc] (by simp) zrq (by simp [plainV]) (fun ρ wx cs hb hl _ hx hp => ?_) (fun _ _ h => h)
      have e2 : ρ (.tmp 2) = .pointer (some ⟨w.heap.size, 0, none⟩) := hx 2 rfl
      have es : ρ (.tmp 10) = .agg #[.slice A n c, .slice R k d, .int .i64 X.mem.bank, .int .i64 X.a, .int .i64 X.at_, .bool X.carry, .slice B m g, .bool X.stop, .int .i64 X.cyc] := hp.1 rfl
      obtain ⟨v0, v1, v2, v3, v4, v5, v6, v7, v8, rfl⟩ : ∃ v0 v1 v2 v3 v4 v5 v6 v7 v8, cs = [v0, v1, v2, v3, v4, v5, v6, v7, v8] := by
        match cs, hl with
        | [v0, v1, v2, v3, v4, v5, v6, v7, v8], _ => exact ⟨v0, v1, v2, v3, v4, v5, v6, v7, v8, rfl⟩
      have c0 := hb.cell 0
      have c1 := hb.cell 1
      have c2 := hb.cell 2
      have c3 := hb.cell 3
      have c4 := hb.cell 4
      have c5 := hb.cell 5
      have c6 := hb.cell 6
      have c7 := hb.cell 7
      have c8 := hb.cell 8
      have f0 := hb.frozen 0
      have f1 := hb.frozen 1
      have f2 := hb.frozen 2
      have f3 := hb.frozen 3
      have f4 := hb.frozen 4
      have f5 := hb.frozen 5
      have f6 := hb.frozen 6
      have f7 := hb.frozen 7
      have f8 := hb.frozen 8
      show _ = Result.ok _ (((((((((wx.setCell ⟨w.heap.size, 0, none⟩ (.slice A n c)).setCell ⟨w.heap.size, 1, none⟩ (.slice R k d)).setCell ⟨w.heap.size, 2, none⟩ (.int .i64 X.mem.bank)).setCell ⟨w.heap.size, 3, none⟩ (.int .i64 X.a)).setCell ⟨w.heap.size, 4, none⟩ (.int .i64 X.at_)).setCell ⟨w.heap.size, 5, none⟩ (.bool X.carry)).setCell ⟨w.heap.size, 6, none⟩ (.slice B m g)).setCell ⟨w.heap.size, 7, none⟩ (.bool X.stop)).setCell ⟨w.heap.size, 8, none⟩ (.int .i64 X.cyc))
      unfold execOp
      simp only [e2, es]
      clear e2 es hx hp hb
      go_simp
    · exact ob_wide fun m' hm' => ob_move rfl (.tmp 21) (.inr rfl) hq hJ hD fun ρ wx _ _ hp => hp.1 rfl
  · intro vs wx hI hF
    obtain ⟨_, _, _, _, _, _, _, _, _, _, _, _, hd, ⟨s, hs, s0, s1⟩, _⟩ := hF
    have O3' := Lib.hid (O3.out.mono (T := [q, w.heap.size]) (by simp))
    have O4 := Lib.hid (O3'.out.trans hI.only)
    have DB : Hid (Box wx w.heap.size 28 [.slice A n c, .slice R k d, .int .i64 X.mem.bank, .int .i64 X.a, .int .i64 X.at_, .bool X.carry, .slice B m g, .bool X.stop, .int .i64 X.cyc]) := hd
    replace hs : vs 13 = .int .i64 s := hs
    simp only [putAll, Act.put, List.setIfInBounds_toArray, List.set_cons_zero, List.set_cons_succ, hs]
    have e0 : wx.cell? ⟨w.heap.size, 0, none⟩ = some (.slice A n c) := DB.out.cell 0
    have e1 : wx.cell? ⟨w.heap.size, 1, none⟩ = some (.slice R k d) := DB.out.cell 1
    have e2 : wx.cell? ⟨w.heap.size, 2, none⟩ = some (.int .i64 X.mem.bank) := DB.out.cell 2
    have e3 : wx.cell? ⟨w.heap.size, 3, none⟩ = some (.int .i64 X.a) := DB.out.cell 3
    have e4 : wx.cell? ⟨w.heap.size, 4, none⟩ = some (.int .i64 X.at_) := DB.out.cell 4
    have e5 : wx.cell? ⟨w.heap.size, 5, none⟩ = some (.bool X.carry) := DB.out.cell 5
    have e6 : wx.cell? ⟨w.heap.size, 6, none⟩ = some (.slice B m g) := DB.out.cell 6
    have e7 : wx.cell? ⟨w.heap.size, 7, none⟩ = some (.bool X.stop) := DB.out.cell 7
    have e8 : wx.cell? ⟨w.heap.size, 8, none⟩ = some (.int .i64 X.cyc) := DB.out.cell 8
    clear hI hd hs hJ hD
    go_wp2
    refine bodyPost_ret (v := .tuple #[.agg #[.slice A n c, .slice R k d, .int .i64 X.mem.bank, .int .i64 X.a, .int .i64 X.at_, .bool X.carry, .slice B m g, .bool X.stop, .int .i64 X.cyc], .int .i64 s]) (by simp [results, Tryd.results21, go_sem, e0, e1, e2, e3, e4, e5, e6, e7, e8]) rfl ?_
    exact ⟨A, n, c, R, k, d, B, m, g, X, s, ⟨s0, s1⟩, rfl, HH.out [q, w.heap.size] _ O4.out (by simp; omega), B2.out.trans (O4.out.below (B := w.heap.size) (by simp; omega) B2.out.size), HY.out⟩
end Go.Proofs.YtcapfafglikcmaaDoor
