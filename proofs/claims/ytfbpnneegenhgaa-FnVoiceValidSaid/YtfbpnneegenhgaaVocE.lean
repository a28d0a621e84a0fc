/- The laws' draws of sound channels. -/
import Derived.Test.YtfbpnneegenhgaaVocD
import Derived.Test.YtfbpnneegenhgaaVocT
import Derived.Test.YtfbpnneegenhgaaTilH
import Derived.Test.YtfbpnneegenhgaaGC
namespace Go.Proofs.Ytfbpnneegenhgaa
open Go.ChangeShapes Go.WideShapes Go.ChangeAt Go.RowKit
set_option linter.unusedVariables false

def VocGot (w : World) (e : Ending) (w' : World) : Prop := ∃ u : Voc, e = .returned (vocV u) ∧ VD u ∧ Below w.heap.size w w'
def VocInt (N : Int) (w : World) (e : Ending) (w' : World) : Prop := ∃ (u : Voc) (n : Int), e = .returned (.tuple #[vocV u, .int .i64 n]) ∧ VD u ∧ (-1 ≤ n ∧ n ≤ N) ∧ Below w.heap.size w w'
def ThreeInts (w : World) (e : Ending) (w' : World) : Prop := ∃ a b c : Int, e = .returned (.tuple #[.int .i64 a, .int .i64 b, .int .i64 c]) ∧ (-1 ≤ a ∧ a ≤ 16) ∧ (-1 ≤ b ∧ b ≤ 1001) ∧ (0 ≤ c ∧ c ≤ 101) ∧ Below w.heap.size w w'
theorem plain_vcs {u : Voc} : ∀ v ∈ vcs u, plainV v := by
  intro v hv z
  simp [vcs] at hv
  rcases hv with rfl | rfl | rfl | rfl | rfl <;> simp
theorem exec_loadW {ρ : Operand → Value} {o : Oper} (x : Operand) (w : World) (b : Nat) {t : TypeId} (u : Voc) (ho : o.op = .load 24 x) (hx : ρ x = .pointer (some ⟨b, 0, none⟩)) (hb : Box w b t (vcs u)) : (execOp ρ o).run Try.prog w = .ok (.value (vocV u)) w := by
  have hl := run_loadVar_row w b t 24 (vcs u).toArray (0, 0) _ hb Try.underlying24 rfl voc_info
  unfold execOp
  simp only [ho, hx, Instr.loadAt, Instr.sureAddr, Sem.run_bind, Sem.run_pure, Result.andThen_ok, hl]
theorem voc_retI {fn : Func} {p q : Tmp} {tmps : Array Value} {w : World} {b : Nat} {t : TypeId} {u : Voc} {v : Value} (hr : fn.results = #[.cell p 24, .tmp q]) (hp : tmps.getD p undef = .pointer (some ⟨b, 0, none⟩)) (hb : Box w b t (vcs u)) (hq : tmps.getD q undef = v) : (results fn tmps).run Try.prog w = .ok (.tuple #[vocV u, v]) w := by
  have hp' : tmps[p]?.getD undef = .pointer (some ⟨b, 0, none⟩) := by simpa using hp
  have hq' : tmps[q]?.getD undef = v := by simpa using hq
  simp [results, hr, hp', hq', asAddr, run_loadVar_row w b t 24 (vcs u).toArray (0, 0) _ hb Try.underlying24 rfl voc_info]
set_option maxRecDepth 100000 in
set_option maxHeartbeats 4000000 in
theorem draw_VoiceValid (a : Option Addr) (len cap : Nat) (zs : List Int) (w : World) (h : IsRow .u8 w a len cap zs) : Calls Try.prog 14 #[.slice a len cap] w (VocGot w) := by
  have H := Lib.hid (isRow_stays h (below1 w (.cells #[.int .i64 0, .int .i64 0, .int .i64 0, .int .i64 0, .int .i64 0] 24)))
  clear h
  go_enter Try.func14, Try.ntmps14
  go_wp2_with fail
  refine (open_any a len cap zs _ H.out).mono ?_
  rintro e w1 ⟨rfl, b1, r1⟩
  have X1 : Hid (Box w1 w.heap.size 24 (vcs .zero)) := Lib.hid ((Box.new w _ _).below b1)
  have B1 : Hid (Below w.heap.size w w1) := Lib.hid ((below1 w (.cells #[.int .i64 0, .int .i64 0, .int .i64 0, .int .i64 0, .int .i64 0] 24)).trans (b1.mono (by simp)))
  have R1 := Lib.hid r1
  have zq : w.heap.size < (w.alloc (.cells #[.int .i64 0, .int .i64 0, .int .i64 0, .int .i64 0, .int .i64 0] 24)).heap.size := by simp
  generalize (w.alloc (.cells #[.int .i64 0, .int .i64 0, .int .i64 0, .int .i64 0, .int .i64 0] 24)).heap.size = q at R1 zq
  have zq1 : q < w1.heap.size := R1.out.lt
  clear b1 r1
  go_wp2_with fail
  refine (voice_draw q 0 2 _ R1.out (by omega) (by omega) (by omega)).mono ?_
  rintro e w2 ⟨u, rfl, hu, o2, r2⟩
  have X2 := Lib.hid (X1.out.only o2 (by simp; omega))
  have B2 := Lib.hid (B1.out.trans (o2.below (B := w.heap.size) (fun b hb => by simp at hb; omega) B1.out.size))
  clear o2 r2 X1 B1 R1
  go_wp2_with (first | (refine vo_store (by rfl) _ _ rfl w.heap.size rfl u rfl (vcs .zero) X2.out rfl ?_))
  exact bodyPost_ret (voc_ret (u := u) rfl rfl (Box.row X2.out)) rfl ⟨u, rfl, hu, below_row B2.out (Nat.le_refl _) _⟩
set_option maxRecDepth 100000 in
set_option maxHeartbeats 4000000 in
theorem draw_PlayVoice (a : Option Addr) (len cap : Nat) (zs : List Int) (w : World) (h : IsRow .u8 w a len cap zs) : Calls Try.prog 18 #[.slice a len cap] w (VocInt 401 w) := by
  have H := Lib.hid (isRow_stays h (below1 w (.cells #[.int .i64 0, .int .i64 0, .int .i64 0, .int .i64 0, .int .i64 0] 24)))
  clear h
  go_enter Try.func18, Try.ntmps18
  go_wp2_with fail
  refine (open_any a len cap zs _ H.out).mono ?_
  rintro e w1 ⟨rfl, b1, r1⟩
  have X1 : Hid (Box w1 w.heap.size 24 (vcs .zero)) := Lib.hid ((Box.new w _ _).below b1)
  have B1 : Hid (Below w.heap.size w w1) := Lib.hid ((below1 w (.cells #[.int .i64 0, .int .i64 0, .int .i64 0, .int .i64 0, .int .i64 0] 24)).trans (b1.mono (by simp)))
  have R1 := Lib.hid r1
  have zq : w.heap.size < (w.alloc (.cells #[.int .i64 0, .int .i64 0, .int .i64 0, .int .i64 0, .int .i64 0] 24)).heap.size := by simp
  generalize (w.alloc (.cells #[.int .i64 0, .int .i64 0, .int .i64 0, .int .i64 0, .int .i64 0] 24)).heap.size = q at R1 zq
  have zq1 : q < w1.heap.size := R1.out.lt
  clear b1 r1
  go_wp2_with fail
  refine (voice_draw q 0 12 _ R1.out (by omega) (by omega) (by omega)).mono ?_
  rintro e w2 ⟨u, rfl, hu, o2, r2⟩
  have HU := Lib.hid hu
  have X2 := Lib.hid (X1.out.only o2 (by simp; omega))
  have B2 := Lib.hid (B1.out.trans (o2.below (B := w.heap.size) (fun b hb => by simp at hb; omega) B1.out.size))
  have R2 := Lib.hid r2
  have zw : w1.heap.size ≤ w2.heap.size := o2.size
  have zr1 : w.heap.size < w1.heap.size := X1.out.lt
  clear o2 r2 X1 B1 R1 hu
  have BN : Hid (Box (w2.alloc (.cells #[.int .i64 0, .int .i64 0, .int .i64 0, .int .i64 0, .int .i64 0] 24)) w2.heap.size 24 (vcs .zero)) := Lib.hid (Box.new w2 _ _)
  go_upto_region 3 with (first | (refine vo_store (by rfl) _ _ rfl w2.heap.size rfl u rfl (vcs .zero) BN.out rfl ?_))
  have b3 : Below w2.heap.size w2 ((w2.alloc (.cells #[.int .i64 0, .int .i64 0, .int .i64 0, .int .i64 0, .int .i64 0] 24)).setRow w2.heap.size (vcs u).toArray) := below_row (below1 w2 _) (Nat.le_refl _) _
  have X3 := Lib.hid (X2.out.below b3)
  have B3 := Lib.hid (below_via B2.out b3 B2.out.size)
  have R3 := Lib.hid (R2.out.stay (b3.mono (by omega)))
  have Y3 : Hid (Box ((w2.alloc (.cells #[.int .i64 0, .int .i64 0, .int .i64 0, .int .i64 0, .int .i64 0] 24)).setRow w2.heap.size (vcs u).toArray) w2.heap.size 24 (vcs u)) := Lib.hid (Box.row BN.out)
  generalize (w2.alloc (.cells #[.int .i64 0, .int .i64 0, .int .i64 0, .int .i64 0, .int .i64 0] 24)).setRow w2.heap.size (vcs u).toArray = w3 at X3 B3 R3 Y3 ⊢
  have zk : q < w2.heap.size := by omega
  have zr : w.heap.size < w2.heap.size := by omega
  generalize w2.heap.size = bk at Y3 zk zr ⊢
  clear b3 X2 B2 R2 BN zw zq1
  obtain ⟨r, hr⟩ : ∃ r, w.heap.size = r := ⟨_, rfl⟩
  rw [hr] at X3 B3 zq zr zr1 ⊢
  have HR := Lib.hid hr
  clear hr
  have zrq : r ≠ q := by omega
  have zr4 : r < w3.heap.size := X3.out.lt
  have zq4 : q < w3.heap.size := R3.out.lt
  have hS : ∀ b ∈ [q, r], b < w3.heap.size := by simp; omega
  have hJ : Kept q (Res r 24 (vcs u).length) := Res.kept zrq
  have hD : Kept q (fun wx => Box wx r 24 (vcs u)) := box_kept zrq
  have hqS : q ∈ [q, r] := by simp
  refine wp_region_typed (Cls [q, r] q (0 + 1000) w3 (Res r 24 (vcs u).length)) (Rel [q, r] (fun wx => Box wx r 24 (vcs u)))
    (Ty [TV (vocV u), TV (.pointer (some ⟨q, 0, none⟩)), TI 0 59, TL [q, r] 4 (-1) 401, TL [q, r] 7 0 3, TV (.pointer (some ⟨q, 0, none⟩)), TI 0 6, TP [q, r] 0 3, TI 0 3, TP [q, r] (-1) 401, TI (-1) 401, fun _ wx => Box wx r 24 (vcs u), TI (-1) 401])
    (by kernel_rfl) (by kernel_rfl) (stab_ty _ ⟨stab_tv _, stab_tv _, stab_ti _ _, stab_tl _ _ _, stab_tl _ _ _, stab_tv _, stab_ti _ _, stab_tp _ _, stab_ti _ _, stab_tp _ _, stab_ti _ _, stab_done _ (fun _ h => h) (fun _ h => h), stab_ti _ _, trivial⟩)
    ⟨(Only.refl _ w3).trans (.of_below (Below.refl _ _).drew), (R3.out.stay (Below.refl _ _).drew).mono (by omega), vcs .zero, rfl, X3.out, plain_vcs⟩ ?_ ?_
  · refine ⟨?_, ?_, ?_, ?_, ?_, ?_, ?_, ?_, ?_, ?_, ?_, ?_, ?_, trivial⟩
    · refine ob_val rfl (vocV u) hqS hJ hD fun ρ kk wx hI _ hx _ => ⟨?_, rfl⟩
      exact exec_loadW (.tmp 5) wx bk u rfl (hx 5 rfl) (Y3.out.only hI.only (by simp; omega))
    · exact ob_move rfl (.tmp 4) (.inl rfl) hqS hJ hD fun ρ wx _ hx _ => hx 4 rfl
    · exact ob_pick rfl (.tmp 11) 60 _ rfl hqS hJ hD (by simp <;> omega) (by omega) (by omega) (fun ρ wx hp => hp.1 rfl) (fun _ _ h => h)
    · refine ob_build rfl 4 (-1) 401 hqS hJ hD hS (fun ρ wx hc hx hp => ?_) (fun _ _ h => h)
      obtain ⟨z12, hz12, z12a, z12b⟩ : TI 0 59 (ρ (.tmp 12)) wx := hp.1 rfl
      refine ⟨#[.int .i64 z12, .int .i64 400, .int .i64 (-1), .int .i64 401], ?_, ?_⟩
      · unfold execOp
        simp only [List.map_toArray, List.map_cons, List.map_nil, hc, hz12]
        clear hx hp hc hz12
        go_simp
      · intro i hi
        have h : i = 0 ∨ i = 1 ∨ i = 2 ∨ i = 3 := by omega
        rcases h with rfl | rfl | rfl | rfl <;> exact ⟨_, rfl, by omega, by omega⟩
    · refine ob_build rfl 7 0 3 hqS hJ hD hS (fun ρ wx hc hx hp => ?_) (fun _ _ h => h)
      refine ⟨#[.int .i64 0, .int .i64 0, .int .i64 0, .int .i64 0, .int .i64 1, .int .i64 2, .int .i64 3], ?_, ?_⟩
      · unfold execOp
        simp only [List.map_toArray, List.map_cons, List.map_nil, hc]
        clear hx hp hc 
        go_simp
      · intro i hi
        have h : i = 0 ∨ i = 1 ∨ i = 2 ∨ i = 3 ∨ i = 4 ∨ i = 5 ∨ i = 6 := by omega
        rcases h with rfl | rfl | rfl | rfl | rfl | rfl | rfl <;> exact ⟨_, rfl, by omega, by omega⟩
    · exact ob_move rfl (.tmp 4) (.inl rfl) hqS hJ hD fun ρ wx _ hx _ => hx 4 rfl
    · exact ob_pick rfl (.tmp 15) 7 _ rfl hqS hJ hD (by simp <;> omega) (by omega) (by omega) (fun ρ wx hp => hp.1 rfl) (fun _ _ h => h)
    · exact ob_index rfl (.tmp 14) (.tmp 16) 7 0 3 rfl hqS hJ hD (fun ρ wx hp => ⟨hp.1 rfl, hp.2.1 rfl⟩) (fun _ _ h => h)
    · exact ob_load rfl (.tmp 17) 0 3 rfl hqS hJ hD (fun ρ wx hp => hp.1 rfl) (fun _ _ h => h)
    · exact ob_index rfl (.tmp 13) (.tmp 18) 4 (-1) 401 rfl hqS hJ hD (fun ρ wx hp => ⟨hp.1 rfl, hp.2.1 rfl⟩) (fun _ _ h => h)
    · exact ob_load rfl (.tmp 19) (-1) 401 rfl hqS hJ hD (fun ρ wx hp => hp.1 rfl) (fun _ _ h => h)
    · refine ob_put rfl r _ (vcs u) (by simp) zrq plain_vcs (fun ρ wx cs hb hl' _ hx hp => ?_) (fun _ _ h => h)
      have hr' := setAll_row (vcs u) [] cs wx hb hl'
      simp only [List.nil_append, List.length_nil] at hr'
      rw [hr']
      exact exec_storeV (.tmp 2) (.tmp 10) wx r u rfl (hx 2 rfl) (hp.1 rfl) hb hl'
    · exact ob_some rfl hqS hJ hD fun ρ kk wx hI hc hx hp => by
        obtain ⟨z, hz, z0, z1⟩ : TI (-1) 401 (ρ (.tmp 20)) wx := hp.1 rfl
        refine ⟨.int .i64 z, ?_, z, rfl, z0, z1⟩
        unfold execOp
        simp only [hz]
        clear hx hp hc hI hz
        go_simp
  · intro vs wx hI hF
    obtain ⟨-, -, -, -, -, -, -, -, -, -, -, hd, ⟨n, hL, n0, n1⟩, -⟩ := hF
    have DB : Hid (Box wx r 24 (vcs u)) := Lib.hid hd
    have B5 := Lib.hid (B3.out.trans (hI.only.below (B := r) (fun b hb => by simp at hb; omega) (by omega)))
    replace hL : vs 12 = .int .i64 n := hL
    simp only [putAll, Act.put, List.setIfInBounds_toArray, List.set_cons_zero, List.set_cons_succ, hL]
    clear hI hd hL
    go_wp2_with fail
    exact bodyPost_ret (voc_retI (u := u) (v := .int .i64 n) rfl rfl DB.out rfl) rfl ⟨u, n, rfl, HU.out, ⟨by omega, by omega⟩, by rw [HR.out]; exact B5.out⟩
set_option maxRecDepth 100000 in
set_option maxHeartbeats 4000000 in
theorem draw_SkipVoice (a : Option Addr) (len cap : Nat) (zs : List Int) (w : World) (h : IsRow .u8 w a len cap zs) : Calls Try.prog 22 #[.slice a len cap] w (VocInt 100001 w) := by
  have H := Lib.hid (isRow_stays h (below1 w (.cells #[.int .i64 0, .int .i64 0, .int .i64 0, .int .i64 0, .int .i64 0] 24)))
  clear h
  go_enter Try.func22, Try.ntmps22
  go_wp2_with fail
  refine (open_any a len cap zs _ H.out).mono ?_
  rintro e w1 ⟨rfl, b1, r1⟩
  have X1 : Hid (Box w1 w.heap.size 24 (vcs .zero)) := Lib.hid ((Box.new w _ _).below b1)
  have B1 : Hid (Below w.heap.size w w1) := Lib.hid ((below1 w (.cells #[.int .i64 0, .int .i64 0, .int .i64 0, .int .i64 0, .int .i64 0] 24)).trans (b1.mono (by simp)))
  have R1 := Lib.hid r1
  have zq : w.heap.size < (w.alloc (.cells #[.int .i64 0, .int .i64 0, .int .i64 0, .int .i64 0, .int .i64 0] 24)).heap.size := by simp
  generalize (w.alloc (.cells #[.int .i64 0, .int .i64 0, .int .i64 0, .int .i64 0, .int .i64 0] 24)).heap.size = q at R1 zq
  have zq1 : q < w1.heap.size := R1.out.lt
  clear b1 r1
  go_wp2_with fail
  refine (voice_draw q 0 12 _ R1.out (by omega) (by omega) (by omega)).mono ?_
  rintro e w2 ⟨u, rfl, hu, o2, r2⟩
  have HU := Lib.hid hu
  have X2 := Lib.hid (X1.out.only o2 (by simp; omega))
  have B2 := Lib.hid (B1.out.trans (o2.below (B := w.heap.size) (fun b hb => by simp at hb; omega) B1.out.size))
  have R2 := Lib.hid r2
  have zw : w1.heap.size ≤ w2.heap.size := o2.size
  have zr1 : w.heap.size < w1.heap.size := X1.out.lt
  clear o2 r2 X1 B1 R1 hu
  have BN : Hid (Box (w2.alloc (.cells #[.int .i64 0, .int .i64 0, .int .i64 0, .int .i64 0, .int .i64 0] 24)) w2.heap.size 24 (vcs .zero)) := Lib.hid (Box.new w2 _ _)
  go_upto_region 3 with (first | (refine vo_store (by rfl) _ _ rfl w2.heap.size rfl u rfl (vcs .zero) BN.out rfl ?_))
  have b3 : Below w2.heap.size w2 ((w2.alloc (.cells #[.int .i64 0, .int .i64 0, .int .i64 0, .int .i64 0, .int .i64 0] 24)).setRow w2.heap.size (vcs u).toArray) := below_row (below1 w2 _) (Nat.le_refl _) _
  have X3 := Lib.hid (X2.out.below b3)
  have B3 := Lib.hid (below_via B2.out b3 B2.out.size)
  have R3 := Lib.hid (R2.out.stay (b3.mono (by omega)))
  have Y3 : Hid (Box ((w2.alloc (.cells #[.int .i64 0, .int .i64 0, .int .i64 0, .int .i64 0, .int .i64 0] 24)).setRow w2.heap.size (vcs u).toArray) w2.heap.size 24 (vcs u)) := Lib.hid (Box.row BN.out)
  generalize (w2.alloc (.cells #[.int .i64 0, .int .i64 0, .int .i64 0, .int .i64 0, .int .i64 0] 24)).setRow w2.heap.size (vcs u).toArray = w3 at X3 B3 R3 Y3 ⊢
  have zk : q < w2.heap.size := by omega
  have zr : w.heap.size < w2.heap.size := by omega
  generalize w2.heap.size = bk at Y3 zk zr ⊢
  clear b3 X2 B2 R2 BN zw zq1
  obtain ⟨r, hr⟩ : ∃ r, w.heap.size = r := ⟨_, rfl⟩
  rw [hr] at X3 B3 zq zr zr1 ⊢
  have HR := Lib.hid hr
  clear hr
  have zrq : r ≠ q := by omega
  have zr4 : r < w3.heap.size := X3.out.lt
  have zq4 : q < w3.heap.size := R3.out.lt
  have hS : ∀ b ∈ [q, r], b < w3.heap.size := by simp; omega
  have hJ : Kept q (Res r 24 (vcs u).length) := Res.kept zrq
  have hD : Kept q (fun wx => Box wx r 24 (vcs u)) := box_kept zrq
  have hqS : q ∈ [q, r] := by simp
  refine wp_region_typed (Cls [q, r] q (0 + 1000) w3 (Res r 24 (vcs u).length)) (Rel [q, r] (fun wx => Box wx r 24 (vcs u)))
    (Ty [TV (vocV u), TV (.pointer (some ⟨q, 0, none⟩)), TI 0 59, TV (.pointer (some ⟨q, 0, none⟩)), TI 0 255, TI 0 99450, TL [q, r] 4 (-1) 100001, TL [q, r] 7 0 3, TV (.pointer (some ⟨q, 0, none⟩)), TI 0 6, TP [q, r] 0 3, TI 0 3, TP [q, r] (-1) 100001, TI (-1) 100001, fun _ wx => Box wx r 24 (vcs u), TI (-1) 100001])
    (by kernel_rfl) (by kernel_rfl) (stab_ty _ ⟨stab_tv _, stab_tv _, stab_ti _ _, stab_tv _, stab_ti _ _, stab_ti _ _, stab_tl _ _ _, stab_tl _ _ _, stab_tv _, stab_ti _ _, stab_tp _ _, stab_ti _ _, stab_tp _ _, stab_ti _ _, stab_done _ (fun _ h => h) (fun _ h => h), stab_ti _ _, trivial⟩)
    ⟨(Only.refl _ w3).trans (.of_below (Below.refl _ _).drew), (R3.out.stay (Below.refl _ _).drew).mono (by omega), vcs .zero, rfl, X3.out, plain_vcs⟩ ?_ ?_
  · refine ⟨?_, ?_, ?_, ?_, ?_, ?_, ?_, ?_, ?_, ?_, ?_, ?_, ?_, ?_, ?_, ?_, trivial⟩
    · refine ob_val rfl (vocV u) hqS hJ hD fun ρ kk wx hI _ hx _ => ⟨?_, rfl⟩
      exact exec_loadW (.tmp 5) wx bk u rfl (hx 5 rfl) (Y3.out.only hI.only (by simp; omega))
    · exact ob_move rfl (.tmp 4) (.inl rfl) hqS hJ hD fun ρ wx _ hx _ => hx 4 rfl
    · exact ob_pick rfl (.tmp 11) 60 _ rfl hqS hJ hD (by simp <;> omega) (by omega) (by omega) (fun ρ wx hp => hp.1 rfl) (fun _ _ h => h)
    · exact ob_move rfl (.tmp 4) (.inl rfl) hqS hJ hD fun ρ wx _ hx _ => hx 4 rfl
    · exact ob_pick rfl (.tmp 13) 256 _ rfl hqS hJ hD (by simp <;> omega) (by omega) (by omega) (fun ρ wx hp => hp.1 rfl) (fun _ _ h => h)
    · exact ob_some rfl hqS hJ hD fun ρ kk wx hI hc hx hp => by
        obtain ⟨z14, hz14, z14a, z14b⟩ : TI 0 255 (ρ (.tmp 14)) wx := hp.1 rfl
        have hk := hc (.int .i64 390)
        have hw : IntKind.i64.wrap (z14 * 390) = z14 * 390 := by rw [IntKind.wrap_i64]; omega
        refine ⟨.int .i64 (z14 * 390), ?_, z14 * 390, rfl, by omega, by omega⟩
        unfold execOp
        simp only [hz14, hk]
        clear hx hp hc hI hz14 hk
        go_simp
    · refine ob_build rfl 4 (-1) 100001 hqS hJ hD hS (fun ρ wx hc hx hp => ?_) (fun _ _ h => h)
      obtain ⟨z12, hz12, z12a, z12b⟩ : TI 0 59 (ρ (.tmp 12)) wx := hp.1 rfl
      obtain ⟨z15, hz15, z15a, z15b⟩ : TI 0 99450 (ρ (.tmp 15)) wx := hp.2.1 rfl
      refine ⟨#[.int .i64 z12, .int .i64 z15, .int .i64 (-1), .int .i64 100001], ?_, ?_⟩
      · unfold execOp
        simp only [List.map_toArray, List.map_cons, List.map_nil, hc, hz12, hz15]
        clear hx hp hc hz12 hz15
        go_simp
      · intro i hi
        have h : i = 0 ∨ i = 1 ∨ i = 2 ∨ i = 3 := by omega
        rcases h with rfl | rfl | rfl | rfl <;> exact ⟨_, rfl, by omega, by omega⟩
    · refine ob_build rfl 7 0 3 hqS hJ hD hS (fun ρ wx hc hx hp => ?_) (fun _ _ h => h)
      refine ⟨#[.int .i64 0, .int .i64 0, .int .i64 0, .int .i64 0, .int .i64 1, .int .i64 2, .int .i64 3], ?_, ?_⟩
      · unfold execOp
        simp only [List.map_toArray, List.map_cons, List.map_nil, hc]
        clear hx hp hc 
        go_simp
      · intro i hi
        have h : i = 0 ∨ i = 1 ∨ i = 2 ∨ i = 3 ∨ i = 4 ∨ i = 5 ∨ i = 6 := by omega
        rcases h with rfl | rfl | rfl | rfl | rfl | rfl | rfl <;> exact ⟨_, rfl, by omega, by omega⟩
    · exact ob_move rfl (.tmp 4) (.inl rfl) hqS hJ hD fun ρ wx _ hx _ => hx 4 rfl
    · exact ob_pick rfl (.tmp 18) 7 _ rfl hqS hJ hD (by simp <;> omega) (by omega) (by omega) (fun ρ wx hp => hp.1 rfl) (fun _ _ h => h)
    · exact ob_index rfl (.tmp 17) (.tmp 19) 7 0 3 rfl hqS hJ hD (fun ρ wx hp => ⟨hp.1 rfl, hp.2.1 rfl⟩) (fun _ _ h => h)
    · exact ob_load rfl (.tmp 20) 0 3 rfl hqS hJ hD (fun ρ wx hp => hp.1 rfl) (fun _ _ h => h)
    · exact ob_index rfl (.tmp 16) (.tmp 21) 4 (-1) 100001 rfl hqS hJ hD (fun ρ wx hp => ⟨hp.1 rfl, hp.2.1 rfl⟩) (fun _ _ h => h)
    · exact ob_load rfl (.tmp 22) (-1) 100001 rfl hqS hJ hD (fun ρ wx hp => hp.1 rfl) (fun _ _ h => h)
    · refine ob_put rfl r _ (vcs u) (by simp) zrq plain_vcs (fun ρ wx cs hb hl' _ hx hp => ?_) (fun _ _ h => h)
      have hr' := setAll_row (vcs u) [] cs wx hb hl'
      simp only [List.nil_append, List.length_nil] at hr'
      rw [hr']
      exact exec_storeV (.tmp 2) (.tmp 10) wx r u rfl (hx 2 rfl) (hp.1 rfl) hb hl'
    · exact ob_some rfl hqS hJ hD fun ρ kk wx hI hc hx hp => by
        obtain ⟨z, hz, z0, z1⟩ : TI (-1) 100001 (ρ (.tmp 23)) wx := hp.1 rfl
        refine ⟨.int .i64 z, ?_, z, rfl, z0, z1⟩
        unfold execOp
        simp only [hz]
        clear hx hp hc hI hz
        go_simp
  · intro vs wx hI hF
    obtain ⟨-, -, -, -, -, -, -, -, -, -, -, -, -, -, hd, ⟨n, hL, n0, n1⟩, -⟩ := hF
    have DB : Hid (Box wx r 24 (vcs u)) := Lib.hid hd
    have B5 := Lib.hid (B3.out.trans (hI.only.below (B := r) (fun b hb => by simp at hb; omega) (by omega)))
    replace hL : vs 15 = .int .i64 n := hL
    simp only [putAll, Act.put, List.setIfInBounds_toArray, List.set_cons_zero, List.set_cons_succ, hL]
    clear hI hd hL
    go_wp2_with fail
    exact bodyPost_ret (voc_retI (u := u) (v := .int .i64 n) rfl rfl DB.out rfl) rfl ⟨u, n, rfl, HU.out, ⟨by omega, by omega⟩, by rw [HR.out]; exact B5.out⟩
set_option maxRecDepth 100000 in
set_option maxHeartbeats 4000000 in
theorem draw_FadeVolume (a : Option Addr) (len cap : Nat) (zs : List Int) (w : World) (h : IsRow .u8 w a len cap zs) : Calls Try.prog 28 #[.slice a len cap] w (ThreeInts w) := by
  have H := Lib.hid h
  clear h
  go_enter Try.func28, Try.ntmps28
  go_wp2_with fail
  refine (open_any a len cap zs _ H.out).mono ?_
  rintro e w1 ⟨rfl, b1, r1⟩
  have B1 := Lib.hid b1
  have R1 := Lib.hid r1
  clear b1 r1
  obtain ⟨q, hq⟩ : ∃ q, w.heap.size = q := ⟨_, rfl⟩
  rw [hq] at R1 B1 ⊢
  have HQ := Lib.hid hq
  clear hq
  have zq : q < w1.heap.size := R1.out.lt
  have hS : ∀ b ∈ [q], b < w1.heap.size := by simp; omega
  have hJ : Kept q (fun _ => True) := fun _ _ _ _ => trivial
  have hD : Kept q (fun _ => True) := fun _ _ _ _ => trivial
  have hqS : q ∈ [q] := by simp
  go_upto_region 2 with (fail)
  refine wp_region_typed (Cls [q] q 1000 w1 fun _ => True) (Rel [q] fun _ => True)
    (Ty [TV (.pointer (some ⟨q, 0, none⟩)), TI 0 17, TI (-1) 16, TV (.pointer (some ⟨q, 0, none⟩)), TI 0 59, TL [q] 4 (-1) 1001, TL [q] 7 0 3, TV (.pointer (some ⟨q, 0, none⟩)), TI 0 6, TP [q] 0 3, TI 0 3, TP [q] (-1) 1001, TI (-1) 1001, TV (.pointer (some ⟨q, 0, none⟩)), TI 0 8, TI 1 9, TL [q] 4 0 101, TL [q] 7 0 3, TV (.pointer (some ⟨q, 0, none⟩)), TI 0 6, TP [q] 0 3, TI 0 3, TP [q] 0 101, TI 0 101, TI (-1) 16, TI (-1) 1001, TI 0 101])
    (by kernel_rfl) (by kernel_rfl) (stab_ty _ ⟨stab_tv _, stab_ti _ _, stab_ti _ _, stab_tv _, stab_ti _ _, stab_tl _ _ _, stab_tl _ _ _, stab_tv _, stab_ti _ _, stab_tp _ _, stab_ti _ _, stab_tp _ _, stab_ti _ _, stab_tv _, stab_ti _ _, stab_ti _ _, stab_tl _ _ _, stab_tl _ _ _, stab_tv _, stab_ti _ _, stab_tp _ _, stab_ti _ _, stab_tp _ _, stab_ti _ _, stab_ti _ _, stab_ti _ _, stab_ti _ _, trivial⟩)
    ⟨(Only.refl _ w1).trans (.of_below (Below.refl _ _).drew), (R1.out.stay (Below.refl _ _).drew).mono (by omega), trivial⟩ ?_ ?_
  · refine ⟨?_, ?_, ?_, ?_, ?_, ?_, ?_, ?_, ?_, ?_, ?_, ?_, ?_, ?_, ?_, ?_, ?_, ?_, ?_, ?_, ?_, ?_, ?_, ?_, ?_, ?_, ?_, trivial⟩
    · exact ob_move rfl (.tmp 5) (.inl rfl) hqS hJ hD fun ρ wx _ hx _ => hx 5 rfl
    · exact ob_pick rfl (.tmp 8) 18 _ rfl hqS hJ hD (by simp <;> omega) (by omega) (by omega) (fun ρ wx hp => hp.1 rfl) (fun _ _ h => h)
    · exact ob_some rfl hqS hJ hD fun ρ kk wx hI hc hx hp => by
        obtain ⟨z9, hz9, z9a, z9b⟩ : TI 0 17 (ρ (.tmp 9)) wx := hp.1 rfl
        have hk := hc (.int .i64 1)
        have hw : IntKind.i64.wrap (z9 - 1) = z9 - 1 := by rw [IntKind.wrap_i64]; omega
        refine ⟨.int .i64 (z9 - 1), ?_, z9 - 1, rfl, by omega, by omega⟩
        unfold execOp
        simp only [hz9, hk]
        clear hx hp hc hI hz9 hk
        go_simp
    · exact ob_move rfl (.tmp 5) (.inl rfl) hqS hJ hD fun ρ wx _ hx _ => hx 5 rfl
    · exact ob_pick rfl (.tmp 11) 60 _ rfl hqS hJ hD (by simp <;> omega) (by omega) (by omega) (fun ρ wx hp => hp.1 rfl) (fun _ _ h => h)
    · refine ob_build rfl 4 (-1) 1001 hqS hJ hD hS (fun ρ wx hc hx hp => ?_) (fun _ _ h => h)
      obtain ⟨z12, hz12, z12a, z12b⟩ : TI 0 59 (ρ (.tmp 12)) wx := hp.1 rfl
      refine ⟨#[.int .i64 z12, .int .i64 1000, .int .i64 1001, .int .i64 (-1)], ?_, ?_⟩
      · unfold execOp
        simp only [List.map_toArray, List.map_cons, List.map_nil, hc, hz12]
        clear hx hp hc hz12
        go_simp
      · intro i hi
        have h : i = 0 ∨ i = 1 ∨ i = 2 ∨ i = 3 := by omega
        rcases h with rfl | rfl | rfl | rfl <;> exact ⟨_, rfl, by omega, by omega⟩
    · refine ob_build rfl 7 0 3 hqS hJ hD hS (fun ρ wx hc hx hp => ?_) (fun _ _ h => h)
      refine ⟨#[.int .i64 0, .int .i64 0, .int .i64 0, .int .i64 0, .int .i64 1, .int .i64 2, .int .i64 3], ?_, ?_⟩
      · unfold execOp
        simp only [List.map_toArray, List.map_cons, List.map_nil, hc]
        clear hx hp hc 
        go_simp
      · intro i hi
        have h : i = 0 ∨ i = 1 ∨ i = 2 ∨ i = 3 ∨ i = 4 ∨ i = 5 ∨ i = 6 := by omega
        rcases h with rfl | rfl | rfl | rfl | rfl | rfl | rfl <;> exact ⟨_, rfl, by omega, by omega⟩
    · exact ob_move rfl (.tmp 5) (.inl rfl) hqS hJ hD fun ρ wx _ hx _ => hx 5 rfl
    · exact ob_pick rfl (.tmp 15) 7 _ rfl hqS hJ hD (by simp <;> omega) (by omega) (by omega) (fun ρ wx hp => hp.1 rfl) (fun _ _ h => h)
    · exact ob_index rfl (.tmp 14) (.tmp 16) 7 0 3 rfl hqS hJ hD (fun ρ wx hp => ⟨hp.1 rfl, hp.2.1 rfl⟩) (fun _ _ h => h)
    · exact ob_load rfl (.tmp 17) 0 3 rfl hqS hJ hD (fun ρ wx hp => hp.1 rfl) (fun _ _ h => h)
    · exact ob_index rfl (.tmp 13) (.tmp 18) 4 (-1) 1001 rfl hqS hJ hD (fun ρ wx hp => ⟨hp.1 rfl, hp.2.1 rfl⟩) (fun _ _ h => h)
    · exact ob_load rfl (.tmp 19) (-1) 1001 rfl hqS hJ hD (fun ρ wx hp => hp.1 rfl) (fun _ _ h => h)
    · exact ob_move rfl (.tmp 5) (.inl rfl) hqS hJ hD fun ρ wx _ hx _ => hx 5 rfl
    · exact ob_pick rfl (.tmp 21) 9 _ rfl hqS hJ hD (by simp <;> omega) (by omega) (by omega) (fun ρ wx hp => hp.1 rfl) (fun _ _ h => h)
    · exact ob_some rfl hqS hJ hD fun ρ kk wx hI hc hx hp => by
        have hk := hc (.int .i64 1)
        obtain ⟨z22, hz22, z22a, z22b⟩ : TI 0 8 (ρ (.tmp 22)) wx := hp.1 rfl
        have hw : IntKind.i64.wrap (1 + z22) = 1 + z22 := by rw [IntKind.wrap_i64]; omega
        refine ⟨.int .i64 (1 + z22), ?_, 1 + z22, rfl, by omega, by omega⟩
        unfold execOp
        simp only [hk, hz22]
        clear hx hp hc hI hk hz22
        go_simp
    · refine ob_build rfl 4 0 101 hqS hJ hD hS (fun ρ wx hc hx hp => ?_) (fun _ _ h => h)
      obtain ⟨z23, hz23, z23a, z23b⟩ : TI 1 9 (ρ (.tmp 23)) wx := hp.1 rfl
      refine ⟨#[.int .i64 z23, .int .i64 0, .int .i64 101, .int .i64 100], ?_, ?_⟩
      · unfold execOp
        simp only [List.map_toArray, List.map_cons, List.map_nil, hc, hz23]
        clear hx hp hc hz23
        go_simp
      · intro i hi
        have h : i = 0 ∨ i = 1 ∨ i = 2 ∨ i = 3 := by omega
        rcases h with rfl | rfl | rfl | rfl <;> exact ⟨_, rfl, by omega, by omega⟩
    · refine ob_build rfl 7 0 3 hqS hJ hD hS (fun ρ wx hc hx hp => ?_) (fun _ _ h => h)
      refine ⟨#[.int .i64 0, .int .i64 0, .int .i64 0, .int .i64 0, .int .i64 1, .int .i64 2, .int .i64 3], ?_, ?_⟩
      · unfold execOp
        simp only [List.map_toArray, List.map_cons, List.map_nil, hc]
        clear hx hp hc 
        go_simp
      · intro i hi
        have h : i = 0 ∨ i = 1 ∨ i = 2 ∨ i = 3 ∨ i = 4 ∨ i = 5 ∨ i = 6 := by omega
        rcases h with rfl | rfl | rfl | rfl | rfl | rfl | rfl <;> exact ⟨_, rfl, by omega, by omega⟩
    · exact ob_move rfl (.tmp 5) (.inl rfl) hqS hJ hD fun ρ wx _ hx _ => hx 5 rfl
    · exact ob_pick rfl (.tmp 26) 7 _ rfl hqS hJ hD (by simp <;> omega) (by omega) (by omega) (fun ρ wx hp => hp.1 rfl) (fun _ _ h => h)
    · exact ob_index rfl (.tmp 25) (.tmp 27) 7 0 3 rfl hqS hJ hD (fun ρ wx hp => ⟨hp.1 rfl, hp.2.1 rfl⟩) (fun _ _ h => h)
    · exact ob_load rfl (.tmp 28) 0 3 rfl hqS hJ hD (fun ρ wx hp => hp.1 rfl) (fun _ _ h => h)
    · exact ob_index rfl (.tmp 24) (.tmp 29) 4 0 101 rfl hqS hJ hD (fun ρ wx hp => ⟨hp.1 rfl, hp.2.1 rfl⟩) (fun _ _ h => h)
    · exact ob_load rfl (.tmp 30) 0 101 rfl hqS hJ hD (fun ρ wx hp => hp.1 rfl) (fun _ _ h => h)
    · exact ob_some rfl hqS hJ hD fun ρ kk wx hI hc hx hp => by
        obtain ⟨z, hz, z0, z1⟩ : TI (-1) 16 (ρ (.tmp 10)) wx := hp.1 rfl
        refine ⟨.int .i64 z, ?_, z, rfl, z0, z1⟩
        unfold execOp
        simp only [hz]
        clear hx hp hc hI hz
        go_simp
    · exact ob_some rfl hqS hJ hD fun ρ kk wx hI hc hx hp => by
        obtain ⟨z, hz, z0, z1⟩ : TI (-1) 1001 (ρ (.tmp 20)) wx := hp.1 rfl
        refine ⟨.int .i64 z, ?_, z, rfl, z0, z1⟩
        unfold execOp
        simp only [hz]
        clear hx hp hc hI hz
        go_simp
    · exact ob_some rfl hqS hJ hD fun ρ kk wx hI hc hx hp => by
        obtain ⟨z, hz, z0, z1⟩ : TI 0 101 (ρ (.tmp 31)) wx := hp.1 rfl
        refine ⟨.int .i64 z, ?_, z, rfl, z0, z1⟩
        unfold execOp
        simp only [hz]
        clear hx hp hc hI hz
        go_simp
  · intro vs wx hI hF
    obtain ⟨-, -, -, -, -, -, -, -, -, -, -, -, -, -, -, -, -, -, -, -, -, -, -, -, ⟨x, h24, x0, x1⟩, ⟨y, h25, y0, y1⟩, ⟨z, h26, z0, z1⟩, -⟩ := hF
    have B5 := Lib.hid (B1.out.trans (hI.only.below (B := q) (fun b hb => by simp at hb; omega) (by omega)))
    replace h24 : vs 24 = .int .i64 x := h24
    replace h25 : vs 25 = .int .i64 y := h25
    replace h26 : vs 26 = .int .i64 z := h26
    simp only [putAll, Act.put, List.setIfInBounds_toArray, List.set_cons_zero, List.set_cons_succ, h24, h25, h26]
    clear hI h24 h25 h26
    go_wp2_with fail
    refine bodyPost_ret (v := .tuple #[.int .i64 x, .int .i64 y, .int .i64 z]) (by simp [results, Try.results28, go_sem]) rfl ?_
    exact ⟨x, y, z, rfl, ⟨by omega, by omega⟩, ⟨by omega, by omega⟩, ⟨by omega, by omega⟩, by rw [HQ.out]; exact B5.out⟩
end Go.Proofs.Ytfbpnneegenhgaa
