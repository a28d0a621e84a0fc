import Derived.Test.YtacebhncecninaaGB
import Derived.Test.YtacebhncecninaaGD
import Derived.Deep.DeepCutAuto
import Derived.Test.YtacebhncecninaaGA

section
/- What a walk is told of an argument that is a list of sprites, or of tiles. -/
namespace Go.Proofs.Ytacebhncecninaa
open Go.ChangeShapes Go.WideShapes Go.ChangeAt Go.RowKit
set_option linter.unusedVariables false

/-- Sprites, tiles that came in. -/
def InSprs (w : World) (A : Option Addr) (n : Nat) (S : List Spr) : Prop := n ≤ 9223372036854775807 ∧ ∃ fs, Sprs w A n S fs
def InTls (w : World) (T : Option Addr) (m : Nat) (zs : List Int) : Prop := m ≤ 9223372036854775807 ∧ ∃ ft, Ints w T (64 * m) zs ft
section
variable {H : Type} {enc : TypeId × Value → H} {w : World} {base : Nat} {held : Bool}
theorem sixL {α : Type} (l : List α) (h : l.length = 6) : ∃ c0 c1 c2 c3 c4 c5, l = [c0, c1, c2, c3, c4, c5] := by
  match l, h with
  | [c0, c1, c2, c3, c4, c5], _ => exact ⟨c0, c1, c2, c3, c4, c5, rfl⟩
set_option maxRecDepth 100000 in
/-- The cells of a sprite. -/
theorem spr_cells {fuel : Nat} {cs : List Value} {y : DataW H × List MemPlace} (hl : cs.length = 6) (h : DataW.trod enc Try.prog w base (fun _ => true) held fuel 130 cs = some y) : ∃ s : Spr, cs = scs s := by
  have kI : Try.prog.cellsOf 3 = 1 := by kernel_rfl
  have kB : Try.prog.cellsOf 4 = 1 := by kernel_rfl
  obtain ⟨c0, c1, c2, c3, c4, c5, rfl⟩ := sixL cs hl
  obtain ⟨xs, n0, _, _, _, hlen, hff⟩ := DataW.trod_struct Try.underlying130 h
  obtain ⟨y0, y1, y2, y3, y4, y5, rfl⟩ := sixL xs hlen
  have t0 : DataW.trod enc Try.prog w base (fun _ => true) held n0 3 [c0] = some y0 := by simpa [Value.cells, kI] using hff 0 _ rfl
  have t1 : DataW.trod enc Try.prog w base (fun _ => true) held n0 3 [c1] = some y1 := by simpa [Value.cells, kI] using hff 1 _ rfl
  have t2 : DataW.trod enc Try.prog w base (fun _ => true) held n0 3 [c2] = some y2 := by simpa [Value.cells, kI] using hff 2 _ rfl
  have t3 : DataW.trod enc Try.prog w base (fun _ => true) held n0 4 [c3] = some y3 := by simpa [Value.cells, kB] using hff 3 _ rfl
  have t4 : DataW.trod enc Try.prog w base (fun _ => true) held n0 4 [c4] = some y4 := by simpa [Value.cells, kB] using hff 4 _ rfl
  have t5 : DataW.trod enc Try.prog w base (fun _ => true) held n0 4 [c5] = some y5 := by simpa [Value.cells, kB] using hff 5 _ rfl
  obtain ⟨z0, e0, _⟩ := DataW.trod_int Try.underlying3 t0
  obtain rfl : c0 = .int .i64 z0 := by simpa using e0
  obtain ⟨z1, e1, _⟩ := DataW.trod_int Try.underlying3 t1
  obtain rfl : c1 = .int .i64 z1 := by simpa using e1
  obtain ⟨z2, e2, _⟩ := DataW.trod_int Try.underlying3 t2
  obtain rfl : c2 = .int .i64 z2 := by simpa using e2
  obtain ⟨z3, e3, _⟩ := DataW.trod_bool Try.underlying4 t3
  obtain rfl : c3 = .bool z3 := by simpa using e3
  obtain ⟨z4, e4, _⟩ := DataW.trod_bool Try.underlying4 t4
  obtain rfl : c4 = .bool z4 := by simpa using e4
  obtain ⟨z5, e5, _⟩ := DataW.trod_bool Try.underlying4 t5
  obtain rfl : c5 = .bool z5 := by simpa using e5
  exact ⟨⟨z0, z1, z2, z3, z4, z5⟩, rfl⟩
theorem addr_plain {w : World} {a : Addr} {v : Value} (h : w.cell? a = some v) : a = ⟨a.block, a.off, none⟩ ∧ a.block < w.heap.size := by
  unfold World.cell? at h
  split at h
  · rename_i c _ _ hb
    refine ⟨?_, (Array.getElem?_eq_some_iff.1 hb).1⟩
    split at h
    · cases h
    · rename_i hs
      obtain ⟨b, o, s⟩ := a
      cases s with
      | none => rfl
      | some s => simp at hs
  · cases h
theorem add_plain (b o j : Nat) : (⟨b, o, none⟩ : Addr).add j = ⟨b, o + j, none⟩ := by unfold Addr.add; split <;> simp_all
theorem sprs_of {w : World} {a : Addr} {n : Nat} (f : Nat → Spr) (h : ∀ i, i < n → ∀ j v, (scs (f i))[j]? = some v → w.cell? (a.add (i * 6 + j)) = some v) : ∃ S fs, Sprs w (some a) n S fs := by
  by_cases h0 : n = 0
  · subst h0; exact ⟨[], [], .nil _ _⟩
  · have h1 := h 0 (by omega) 0 _ rfl
    have h2 : w.cell? a = some (.int .i64 (f 0).x) := by simpa [Addr.add] using h1
    obtain ⟨e, hb⟩ := addr_plain h2
    obtain ⟨b, o, s⟩ := a
    obtain rfl : s = none := by injection e
    refine ⟨(List.range n).map f, [b], by simp, .inr ⟨by omega, b, o, rfl, rfl, hb, fun k v hv => ?_⟩⟩
    have hk : k < 6 * n := by
      have := (List.getElem?_eq_some_iff.1 hv).1
      rw [svs_len] at this
      simpa using this
    have e6 : 6 * (k / 6) + k % 6 = k := Nat.div_add_mod k 6
    rw [← e6, svs_get _ _ _ (by simp; omega) (Nat.mod_lt _ (by omega))] at hv
    have e7 : ((List.range n).map f).getD (k / 6) .zero = f (k / 6) := by
      rw [List.getD_eq_getElem?_getD, List.getElem?_map, List.getElem?_range (by omega)]
      rfl
    rw [e7] at hv
    have := h (k / 6) (by omega) (k % 6) v hv
    rw [add_plain] at this
    rw [← this]
    congr 2
    omega
set_option maxRecDepth 100000 in
theorem sprs_came {fuel : Nat} {A : Option Addr} {m d : Nat} {x : DataW H × List MemPlace} (h : DataW.trod enc Try.prog w base (fun _ => true) held fuel 66 [.slice A m d] = some x) : ∃ S, InSprs w A m S := by
  have hc6 : Try.prog.cellsOf 130 = 6 := by kernel_rfl
  rcases Go.Deep.open_slice Try.underlying66 h with ⟨hcs, _⟩ | ⟨a, len, cap, mm, n, D, Pl, hcs, _, hl, hm, hmm, _, hel⟩
  · simp at hcs
    obtain ⟨rfl, rfl, _⟩ := hcs
    exact ⟨[], by omega, [], .nil _ _⟩
  · simp at hcs
    obtain ⟨rfl, rfl, rfl⟩ := hcs
    simp only [if_true] at hmm
    unfold maxLen at hm
    rw [hc6] at hel
    haveI : Inhabited Spr := ⟨.zero⟩
    obtain ⟨f, hf⟩ := Go.Deep.choose_lt (n := mm) (p := fun i (s : Spr) => ∀ j v, (scs s)[j]? = some v → w.cell? (a.add (i * 6 + j)) = some v) fun i hi => by
      obtain ⟨cs', hcs', htr⟩ := hel i hi
      obtain ⟨_, hlen, hcell⟩ := World.cells?_some hcs'
      obtain ⟨s, rfl⟩ := spr_cells hlen htr
      refine ⟨s, fun j v hv => ?_⟩
      have hj : j < 6 := (List.getElem?_eq_some_iff.1 hv).1
      have := hcell j hj
      rw [Go.Deep.add_add] at this
      rw [this]
      exact hv
    obtain ⟨S, fs, hS⟩ := sprs_of (n := m) f fun i hi => hf i (by omega)
    exact ⟨S, by omega, fs, hS⟩
set_option maxRecDepth 100000 in
theorem sprs_in {r : Reach} {b0 : Nat} {v : Value} {dd : DataW H} {p : List MemPlace} (hv : Value.okWide Try.prog w r b0 66 v) (h : DataW.Trod enc Try.prog w base (fun _ => true) held 66 v dd p) :
    ∃ A n c S, v = .slice A n c ∧ InSprs w A n S := by
  obtain ⟨A, n, c, rfl⟩ := okWide_slice Try.underlying66 hv
  obtain ⟨fuel, hf⟩ := h
  obtain ⟨S, hS⟩ := sprs_came hf
  exact ⟨A, n, c, S, rfl, hS⟩
set_option maxRecDepth 100000 in
theorem tls_in {r : Reach} {b0 : Nat} {v : Value} {dd : DataW H} {p : List MemPlace} (hv : Value.okWide Try.prog w r b0 58 v) (h : DataW.Trod enc Try.prog w base (fun _ => true) held 58 v dd p) :
    ∃ T m d zs, v = .slice T m d ∧ InTls w T m zs := by
  obtain ⟨T, m, d, rfl⟩ := okWide_slice Try.underlying58 hv
  obtain ⟨fuel, hf⟩ := h
  obtain ⟨hm, zs, ft, hT⟩ := tiles_came hf
  exact ⟨T, m, d, zs, rfl, hm, ft, hT⟩
end
end Go.Proofs.Ytacebhncecninaa
end

section
/- The model's sprites: a pixel, the sprites of a line. -/
namespace Go.Proofs.Ytacebhncecninaa
open Go.ChangeShapes Go.WideShapes Go.ChangeAt Go.RowKit
set_option linter.unusedVariables false

set_option maxRecDepth 100000 in
set_option maxHeartbeats 4000000 in
theorem spec_val (s : Spr) (T : Option Addr) (d nt : Nat) (zs : List Int) (ft : List Nat) (x y : Int) (w : World) (hT : Ints w T (64 * nt) zs ft) (hs : sprOk nt s = true) (hn : nt ≤ 1000000000) (hx : -1000000000 ≤ x ∧ x ≤ 1000000000) (hy : -1000000000 ≤ y ∧ y ≤ 1000000000) :
    Calls Try.prog 80 #[sprV s, .slice T nt d, .int .i64 x, .int .i64 y] w fun e w' => e = .returned (.int .i64 (valF s zs x y)) ∧ Below w.heap.size w w' := by
  obtain ⟨sx, sy, sn, ac, dn, bh⟩ := s
  unfold sprOk at hs
  simp only [Bool.and_eq_true, betB_iff] at hs
  obtain ⟨⟨⟨hx0, hx1⟩, hy0, hy1⟩, hn0, hn1⟩ := hs
  obtain ⟨N, rfl⟩ : ∃ N : Nat, sn = N := ⟨sn.toNat, by omega⟩
  obtain ⟨pT, oT, rfl, _, hpl, hct⟩ := hT.at_ (by omega)
  have HC := Lib.hid hct
  have hpT : pT < w.heap.size := hpl
  clear hct
  obtain ⟨i, hi⟩ : ∃ i, x - sx = i := ⟨_, rfl⟩
  obtain ⟨j, hj⟩ : ∃ j, y - sy = j := ⟨_, rfl⟩
  have hv : valF ⟨sx, sy, N, ac, dn, bh⟩ zs x y = if (betB i 0 7 && betB j 0 7) = true then zs.getD (64 * (N : Int) + (8 * offI dn j + offI ac i)).toNat 0 else 0 := by unfold valF; rw [hi, hj]
  have HV := Lib.hid hv
  clear hv
  generalize valF ⟨sx, sy, N, ac, dn, bh⟩ zs x y = R at HV ⊢
  have bl : Below w.heap.size w (w.alloc (.cells #[.int .i64 sx, .int .i64 sy, .int .i64 (N : Int), .bool ac, .bool dn, .bool bh] 48)) := below1 _ _
  have X1 : Hid (Box (w.alloc (.cells #[.int .i64 sx, .int .i64 sy, .int .i64 (N : Int), .bool ac, .bool dn, .bool bh] 48)) w.heap.size 48 [.int .i64 sx, .int .i64 sy, .int .i64 (N : Int), .bool ac, .bool dn, .bool bh]) := Box.new w _ _
  go_enter Try.func80, Try.ntmps80
  go_upto_region 1 with (fail)
  have HC1 := Lib.hid fun k (hk : k < 64 * nt) => (bl.cell (by exact hpT)).trans (HC.out k hk)
  have B1 := Lib.hid bl
  generalize w.alloc (.cells #[.int .i64 sx, .int .i64 sy, .int .i64 (N : Int), .bool ac, .bool dn, .bool bh] 48) = w1 at X1 HC1 B1 bl ⊢
  generalize hbb : w.heap.size = bb at X1 B1 ⊢
  have k0 : w1.cell? ⟨bb, 0, none⟩ = some (.int .i64 sx) := X1.out.cell 0
  have k1 : w1.cell? ⟨bb, 1, none⟩ = some (.int .i64 sy) := X1.out.cell 1
  have k2 : w1.cell? ⟨bb, 2, none⟩ = some (.int .i64 (N : Int)) := X1.out.cell 2
  have k3 : w1.cell? ⟨bb, 3, none⟩ = some (.bool ac) := X1.out.cell 3
  have k4 : w1.cell? ⟨bb, 4, none⟩ = some (.bool dn) := X1.out.cell 4
  clear HC
  have jb : -1000000064 ≤ j ∧ j ≤ 1000000016 := by omega
  have ib : -1000000064 ≤ i ∧ i ≤ 1000000016 := by omega
  go_wp2_with fail
  refine (l1In_any i 0 7 _).mono ?_; rintro e w2 ⟨rfl, rfl⟩
  cases hbx : betB i 0 7
  · go_wp2_with fail
    go_ret
    exact ⟨by rw [HV.out, hbx]; simp, by first | exact B1.out | (rw [hbb]; exact B1.out)⟩
  go_wp2_with fail
  refine (l1In_any j 0 7 _).mono ?_; rintro e w2 ⟨rfl, rfl⟩
  cases hby : betB j 0 7
  · go_wp2_with fail
    go_ret
    exact ⟨by rw [HV.out, hbx, hby]; simp, by first | exact B1.out | (rw [hbb]; exact B1.out)⟩
  obtain ⟨i0, i7⟩ := betB_iff.1 hbx
  obtain ⟨j0, j7⟩ := betB_iff.1 hby
  clear hi hj
  obtain ⟨I, rfl⟩ : ∃ I : Nat, i = I := ⟨i.toNat, by omega⟩
  obtain ⟨J, rfl⟩ : ∃ J : Nat, j = J := ⟨j.toNat, by omega⟩
  have fin : ∀ I' J' : Nat, I' < 8 → J' < 8 → w1.cell? ⟨pT, oT + (64 * N + (8 * J' + I')), none⟩ = some (.int .i64 (zs.getD (64 * N + (8 * J' + I')) 0)) := fun I' J' h1 h2 => HC1.out _ (by omega)
  have FIN := Lib.hid fin
  clear fin
  obtain ⟨I2, hI2⟩ : ∃ I2 : Nat, 7 - (I : Int) = I2 := ⟨7 - I, by omega⟩
  obtain ⟨J2, hJ2⟩ : ∃ J2 : Nat, 7 - (J : Int) = J2 := ⟨7 - J, by omega⟩
  have l1 : I2 < 8 := by omega
  have l2 : J2 < 8 := by omega
  cases ac <;> cases dn
  · have HR : Hid (R = zs.getD (64 * N + (8 * J + I)) 0) := Lib.hid (by
      rw [HV.out, hbx, hby]
      simp only [Bool.and_self, if_true, offI, Bool.false_eq_true, if_false]
      first | omega | (congr 1; done) | (congr 1; omega))
    have e1 : (8 * (J : Int) + (I : Int)).toNat = 8 * J + I := by omega
    have e2 : 8 * (J : Int) + (I : Int) < 64 := by omega
    have e3 : 0 ≤ 8 * (J : Int) + (I : Int) := by omega
    have hN : (N : Int) < nt := by omega
    have cc : w1.cell? ⟨pT, oT + N * 64 + (8 * J + I), none⟩ = some (.int .i64 (zs.getD (64 * N + (8 * J + I)) 0)) := by
      have h := FIN.out I J (by omega) (by omega)
      rwa [show oT + (64 * N + (8 * J + I)) = oT + N * 64 + (8 * J + I) by omega] at h
    go_wp2_with fail
    go_ret
    exact ⟨by rw [HR.out]; simp, by first | exact B1.out | (rw [hbb]; exact B1.out)⟩
  · have HR : Hid (R = zs.getD (64 * N + (8 * J2 + I)) 0) := Lib.hid (by
      rw [HV.out, hbx, hby]
      simp only [Bool.and_self, if_true, offI, Bool.false_eq_true, if_false, hJ2]
      first | omega | (congr 1; done) | (congr 1; omega))
    have e1 : (8 * (J2 : Int) + (I : Int)).toNat = 8 * J2 + I := by omega
    have e2 : 8 * (J2 : Int) + (I : Int) < 64 := by omega
    have e3 : 0 ≤ 8 * (J2 : Int) + (I : Int) := by omega
    have hN : (N : Int) < nt := by omega
    have cc : w1.cell? ⟨pT, oT + N * 64 + (8 * J2 + I), none⟩ = some (.int .i64 (zs.getD (64 * N + (8 * J2 + I)) 0)) := by
      have h := FIN.out I J2 (by omega) (by omega)
      rwa [show oT + (64 * N + (8 * J2 + I)) = oT + N * 64 + (8 * J2 + I) by omega] at h
    go_wp2_with fail
    go_ret
    exact ⟨by rw [HR.out]; simp, by first | exact B1.out | (rw [hbb]; exact B1.out)⟩
  · have HR : Hid (R = zs.getD (64 * N + (8 * J + I2)) 0) := Lib.hid (by
      rw [HV.out, hbx, hby]
      simp only [Bool.and_self, if_true, offI, Bool.false_eq_true, if_false, hI2]
      first | omega | (congr 1; done) | (congr 1; omega))
    have e1 : (8 * (J : Int) + (I2 : Int)).toNat = 8 * J + I2 := by omega
    have e2 : 8 * (J : Int) + (I2 : Int) < 64 := by omega
    have e3 : 0 ≤ 8 * (J : Int) + (I2 : Int) := by omega
    have hN : (N : Int) < nt := by omega
    have cc : w1.cell? ⟨pT, oT + N * 64 + (8 * J + I2), none⟩ = some (.int .i64 (zs.getD (64 * N + (8 * J + I2)) 0)) := by
      have h := FIN.out I2 J (by omega) (by omega)
      rwa [show oT + (64 * N + (8 * J + I2)) = oT + N * 64 + (8 * J + I2) by omega] at h
    go_wp2_with fail
    go_ret
    exact ⟨by rw [HR.out]; simp, by first | exact B1.out | (rw [hbb]; exact B1.out)⟩
  · have HR : Hid (R = zs.getD (64 * N + (8 * J2 + I2)) 0) := Lib.hid (by
      rw [HV.out, hbx, hby]
      simp only [Bool.and_self, if_true, offI, hI2, hJ2]
      first | omega | (congr 1; done) | (congr 1; omega))
    have e1 : (8 * (J2 : Int) + (I2 : Int)).toNat = 8 * J2 + I2 := by omega
    have e2 : 8 * (J2 : Int) + (I2 : Int) < 64 := by omega
    have e3 : 0 ≤ 8 * (J2 : Int) + (I2 : Int) := by omega
    have hN : (N : Int) < nt := by omega
    have cc : w1.cell? ⟨pT, oT + N * 64 + (8 * J2 + I2), none⟩ = some (.int .i64 (zs.getD (64 * N + (8 * J2 + I2)) 0)) := by
      have h := FIN.out I2 J2 (by omega) (by omega)
      rwa [show oT + (64 * N + (8 * J2 + I2)) = oT + N * 64 + (8 * J2 + I2) by omega] at h
    go_wp2_with fail
    go_ret
    exact ⟨by rw [HR.out]; simp, by first | exact B1.out | (rw [hbb]; exact B1.out)⟩
end Go.Proofs.Ytacebhncecninaa
end

section
/- The model's sprites of a line. -/
namespace Go.Proofs.Ytacebhncecninaa
open Go.ChangeShapes Go.WideShapes Go.ChangeAt Go.RowKit
set_option linter.unusedVariables false

/-- Numbers of sprites as integers. -/
def nums (l : List Nat) : List Int := l.map fun k : Nat => (k : Int)
theorem nums_len (l : List Nat) : (nums l).length = l.length := by simp [nums]
def onK (S : List Spr) (y : Int) (k : Nat) : List Nat := (onN S y k).take 4
theorem onK_len (S : List Spr) (y : Int) (k : Nat) : (onK S y k).length ≤ 4 := by unfold onK; rw [List.length_take]; omega
theorem onK_no {S : List Spr} {y : Int} {k : Nat} (h : covB S y k = false) : onK S y (k + 1) = onK S y k := by unfold onK; rw [onN_no h]
theorem onK_yes {S : List Spr} {y : Int} {k : Nat} (h : covB S y k = true) (hl : (onK S y k).length < 4) : onK S y (k + 1) = onK S y k ++ [k] := by
  unfold onK at *
  rw [List.length_take] at hl
  rw [onN_yes h, List.take_of_length_le (by rw [List.length_append]; simp; omega), List.take_of_length_le (by omega)]
theorem onK_stop {S : List Spr} {y : Int} {k : Nat} (h : k = S.length ∨ 4 ≤ (onK S y k).length) (hk : k ≤ S.length) : onK S y k = onF S y := by
  rcases h with rfl | h
  · rfl
  · obtain ⟨r, hr⟩ := onN_mono S y hk
    unfold onK at h
    rw [List.length_take] at h
    unfold onF allF onK
    rw [hr, List.take_append_of_le_length (by omega)]
section
private theorem lone_numC (w : World) (u : Int) : Ints (w.alloc (.cells #[.int .i64 u] 3)) (some ⟨w.heap.size, 0, none⟩) 1 [u] [w.heap.size] := by
  refine ⟨rfl, .inr ⟨by omega, w.heap.size, 0, rfl, rfl, by simp, fun i hi => ?_⟩⟩
  obtain rfl : i = 0 := by omega
  rw [World.cell?_alloc_new]
  rfl
private theorem own_blockC {w : World} {base : Nat} {e : TypeId} {s : Nat} {v : Value} {n : Nat} {xs : List Value} (h : w.ownsRow base e s v n xs) : ∀ g, v.ownBlock = some g → base ≤ g ∧ g < w.heap.size ∧ ∃ cur, w.heap[g]? = some (.cells cur e (0, 0)) := by
  intro g hg
  rcases h.2 with ⟨rfl, _⟩ | ⟨g', cap, cur, rfl, hb, hh, _⟩
  · simp [Value.ownBlock] at hg
  · have e : some g' = some g := hg
    injection e with e
    subst e
    refine ⟨hb, ?_, cur, hh⟩
    by_cases hl : g' < w.heap.size
    · exact hl
    · rw [Array.getElem?_eq_none (by omega)] at hh; cases hh
private theorem own_keep_anyC {w w' : World} {base : Nat} {e : TypeId} {s : Nat} {v : Value} {n : Nat} {xs : List Value} (h : w.ownsRow base e s v n xs) (k : Below w.heap.size w w') : w'.ownsRow base e s v n xs := by
  rcases h with ⟨hl, h | ⟨g, cap, cur, rfl, hb, hh, hr⟩⟩
  · exact ⟨hl, .inl h⟩
  · have hg : g < w.heap.size := by
      by_cases hl : g < w.heap.size
      · exact hl
      · rw [Array.getElem?_eq_none (by omega)] at hh; cases hh
    exact ⟨hl, .inr ⟨g, cap, cur, rfl, hb, (k.block g hg).trans hh, hr⟩⟩
theorem below_grown2 {L : Nat} {a w w' : World} {row : Option Nat} (h : Below L a w) (g : w.grownBy w' row) (hr : ∀ k, row = some k → L ≤ k) (hL : L ≤ a.heap.size) : Below L a w' :=
  ⟨g.os.trans h.os, g.tape.trans h.tape, g.output.trans h.output, Nat.le_trans h.size g.size, fun k hk => (g.block k (Nat.lt_of_lt_of_le hk (Nat.le_trans hL h.size)) (fun e => by have := hr k e.symm; omega)).trans (h.block k hk)⟩
end
set_option maxRecDepth 100000 in
set_option maxHeartbeats 4000000 in
theorem spec_on (A : Option Addr) (n c : Nat) (S : List Spr) (fp : List Nat) (y : Int) (w : World) (h : Sprs w A n S fp) (hn : n ≤ 1000000000) (hy : -1000000000 ≤ y ∧ y ≤ 1000000000) (hs : ∀ i, i < n → -1000000000 ≤ (S.getD i .zero).y ∧ (S.getD i .zero).y ≤ 1000000000) :
    Calls Try.prog 76 #[.slice A n c, .int .i64 y] w (Copied (nums (onF S y)) (onF S y).length w) := by
  have H := Lib.hid h
  have HY := Lib.hid hs
  have hl := Lib.hid h.1
  clear h hs
  go_enter Try.func76, Try.ntmps76
  go_wp2_with fail
  go_loopw [5, 6] (fun v i wr => ∃ k : Nat, k ≤ n ∧ i = .int .i64 k ∧ wr.ownsRow w.heap.size 3 1 v (onK S y k).length (iv (nums (onK S y k))) ∧ Below w.heap.size w wr) (fun _ i _ => n - (intOf i).toNat)
  case atStart => exact ⟨0, by omega, rfl, ⟨by simp [nums, onK, onN], .inr ⟨w.heap.size, 0, #[], rfl, Nat.le_refl _, heap_alloc_new w _, by simp [onK, onN], by unfold maxLen; omega, rfl, by simp [nums, onK, onN]⟩⟩, below1 w _⟩
  case round =>
    obtain ⟨k, hk, rfl, how, hbl⟩ := hrel
    have OW := Lib.hid how
    have BR := Lib.hid hbl
    clear how hbl
    obtain ⟨A2, c2, f2, rfl, hc2, _, hi2, hn2, _⟩ := own_ints OW.out
    have I2 := Lib.hid hi2
    have N2 := Lib.hid hn2
    have L4 := Lib.hid (onK_len S y k)
    clear hi2 hn2
    obtain ⟨m, hm⟩ : ∃ m : Nat, (onK S y k).length = m := ⟨_, rfl⟩
    have HM := Lib.hid hm
    have m4 : m ≤ 4 := by have := L4.out; omega
    rw [hm] at OW I2 hc2 ⊢
    clear hm
    by_cases hlt : k < n
    · by_cases h4 : m < 4
      · obtain ⟨p, o, rfl, _, hpl, hc⟩ := H.out.at_ (by omega)
        have c1 : wr.cell? ⟨p, o + k * 6 + 1, none⟩ = some (.int .i64 (S.getD k .zero).y) := by
          rw [BR.out.cell (by exact hpl)]
          have := hc k hlt 1 _ rfl
          rwa [show o + (6 * k + 1) = o + k * 6 + 1 by omega] at this
        have hyk := HY.out k hlt
        have HCV : Hid (covB S y k = betB (y - (S.getD k .zero).y) 0 7) := Lib.hid rfl
        generalize (S.getD k .zero).y = sy at c1 hyk HCV
        clear hc
        have hk' : (k : Int) < n := by omega
        have h4' : (m : Int) < 4 := by omega
        go_wp2_with fail
        refine (l1In_any (y - sy) 0 7 _).mono ?_; rintro e w2 ⟨rfl, rfl⟩
        rw [← HCV.out]
        cases hcv : covB S y k
        · go_wp2_with fail
          go_roundw
          case rel => exact ⟨k + 1, by omega, by go_num, by rw [onK_no hcv, HM.out]; exact OW.out, BR.out⟩
          case measure => simp [intOf]; omega
        · go_wp2_with (at_builtin; refine wpList_append_ints rfl _ _ rfl w.heap.size (.slice A2 m c2) m (nums (onK S y k)) rfl (own_keep_anyC OW.out (below1 _ _)) _ 1 1 [(k : Int)] [wr.heap.size] rfl (lone_numC wr k) (by omega) (by have := BR.out.size; simp; omega) ?_; intro v' w3 own3 gr3 _; have O3 := Lib.hid own3; have B3 : Hid (Below w.heap.size w w3) := Lib.hid (below_grown2 (BR.out.alloc BR.out.size _) gr3 (fun q hq => (own_blockC OW.out q hq).1) (Nat.le_refl _)); clear own3 gr3)
          go_roundw
          case rel => exact ⟨k + 1, by omega, by go_num, by rw [onK_yes hcv (by rw [HM.out]; exact h4)]; simpa [nums, HM.out] using O3.out, B3.out⟩
          case measure => simp [intOf]; omega
      · have h4' : ¬ (m : Int) < 4 := by omega
        have hE : onK S y k = onF S y := onK_stop (.inr (by rw [HM.out]; omega)) (by rw [hl.out]; exact hk)
        go_wp2_with fail
        go_ret
        exact ⟨A2, c2, f2, by rw [← hE, HM.out]; rfl, by rw [← hE, HM.out]; exact hc2, by rw [← hE, HM.out]; exact I2.out, N2.out, BR.out⟩
    · obtain rfl : k = n := by omega
      have hE : onK S y k = onF S y := onK_stop (.inl hl.out.symm) (by rw [hl.out]; exact Nat.le_refl _)
      go_wp2_with fail
      go_ret
      exact ⟨A2, c2, f2, by rw [← hE, HM.out]; rfl, by rw [← hE, HM.out]; exact hc2, by rw [← hE, HM.out]; exact I2.out, N2.out, BR.out⟩
end Go.Proofs.Ytacebhncecninaa
end

section
/- The model's SpritesValid. -/
namespace Go.Proofs.Ytacebhncecninaa
open Go.ChangeShapes Go.WideShapes Go.ChangeAt Go.RowKit
set_option linter.unusedVariables false

theorem spr_bad {S : List Spr} {m : Nat} (k : Nat) (hk : k < S.length) (h : sprOk m (S.getD k .zero) = false) : S.all (sprOk m) = false := by
  cases e : S.all (sprOk m)
  · rfl
  · have := List.all_eq_true.1 e (S[k]) (List.getElem_mem hk)
    rw [List.getD_eq_getElem?_getD, List.getElem?_eq_getElem hk] at h
    have h' : sprOk m S[k] = false := h
    rw [this] at h'; cases h'
theorem spr_good {S : List Spr} {m : Nat} (h : ∀ j, j < S.length → sprOk m (S.getD j .zero) = true) : S.all (sprOk m) = true := by
  rw [List.all_eq_true]
  intro s hs
  obtain ⟨i, hi, rfl⟩ := List.mem_iff_getElem.1 hs
  have := h i hi
  rwa [List.getD_eq_getElem?_getD, List.getElem?_eq_getElem hi] at this
set_option maxRecDepth 100000 in
set_option maxHeartbeats 4000000 in
theorem spec_sprValid (A : Option Addr) (n c : Nat) (S : List Spr) (fs : List Nat) (T : Option Addr) (m d : Nat) (zs : List Int) (ft : List Nat) (w : World) (hS : Sprs w A n S fs) (hT : Ints w T (64 * m) zs ft) (hn : n ≤ 1000000000) (hm : m ≤ 1000000000) :
    Calls Try.prog 81 #[.slice A n c, .slice T m d] w fun e w' => e = .returned (.bool (sprB S m zs)) ∧ Below w.heap.size w w' := by
  have HL := Lib.hid hS.1
  have HE : Hid (sprB S m zs = (tilB zs && S.all (sprOk m) && decide (n ≤ 12) && decide (m ≤ 16))) := Lib.hid (by unfold sprB; rw [hS.1])
  have HS := Lib.hid hS
  have HT := Lib.hid hT
  have HZ := Lib.hid hT.1
  clear hS hT
  generalize sprB S m zs = R at HE ⊢
  go_enter Try.func81, Try.ntmps81
  go_wp2_with fail
  go_loopw [5] (fun i wr => ∃ k : Nat, k ≤ m ∧ i = .int .i64 k ∧ Below w.heap.size w wr ∧ ∀ j, j < k → tilB (tl zs j) = true) (fun i _ => m - (intOf i).toNat)
  case atStart => exact ⟨0, by omega, rfl, Below.refl _ _, fun j hj => by omega⟩
  case round =>
    obtain ⟨k, hk, rfl, hb, hall⟩ := hrel
    have HK := Lib.hid hall
    have HB := Lib.hid hb
    clear hall hb
    by_cases hlt : k < m
    · obtain ⟨p, o, rfl, _, _, hc⟩ := HT.out.at_ (by omega)
      clear hc
      have RG := Lib.hid (til_range (HT.out.below HB.out) hlt)
      have h64 := Lib.hid (tl_len HZ.out hlt)
      obtain ⟨px, hpx⟩ : ∃ px, tl zs k = px := ⟨_, rfl⟩
      rw [hpx] at RG h64
      have HP := Lib.hid hpx
      clear hpx
      go_wp2_with (first | (refine st_loadm (by rfl) _ rfl _ _ rfl px h64.out RG.out ?_))
      refine (spec_tileValid px h64.out _).mono ?_; rintro e w2 ⟨rfl, b2⟩
      have B2 := Lib.hid (below_then HB.out b2)
      clear b2
      cases hv : tilB px
      · have HF := Lib.hid (tls_no HZ.out k hlt (by rw [HP.out]; exact hv))
        go_wp2_with fail
        go_ret
        exact ⟨by rw [HE.out, HF.out]; rfl, B2.out⟩
      · have HV := Lib.hid hv
        clear hv
        go_wp2_with fail
        go_roundw
        case rel => exact ⟨k + 1, by omega, by go_num, B2.out, fun j hj => by
          by_cases e : j = k
          · subst e; rw [HP.out]; exact HV.out
          · exact HK.out j (by omega)⟩
        case measure => simp [intOf]; omega
    · have HF := Lib.hid (tls_yes HZ.out fun j hj => HK.out j (by omega))
      have hge : ¬ (k : Int) < m := by omega
      go_wp2_with fail
      clear HK hge hlt hk
      go_loopw [6] (fun i ws => ∃ q : Nat, q ≤ n ∧ i = .int .i64 q ∧ Below w.heap.size w ws ∧ ∀ j, j < q → sprOk m (S.getD j .zero) = true) (fun i _ => n - (intOf i).toNat)
      case atStart => exact ⟨0, by omega, rfl, HB.out, fun j hj => by omega⟩
      case round =>
        obtain ⟨q, hq, rfl, hb, hall⟩ := hrel
        have HK := Lib.hid hall
        have HC := Lib.hid hb
        clear hall hb
        by_cases hlt : q < n
        · obtain ⟨p, o, rfl, _, hpl, hc⟩ := HS.out.at_ (by omega)
          have cc : ∀ j v, (scs (S.getD q .zero))[j]? = some v → wr.cell? ⟨p, o + q * 6 + j, none⟩ = some v := fun j v hv => by
            rw [HC.out.cell (by exact hpl)]
            have := hc q hlt j v hv
            rwa [show o + (6 * q + j) = o + q * 6 + j by omega] at this
          have c0 : wr.cell? ⟨p, o + q * 6, none⟩ = some (.int .i64 (S.getD q .zero).x) := cc 0 _ rfl
          have c1 : wr.cell? ⟨p, o + q * 6 + 1, none⟩ = some (.int .i64 (S.getD q .zero).y) := cc 1 _ rfl
          have c2 : wr.cell? ⟨p, o + q * 6 + 2, none⟩ = some (.int .i64 (S.getD q .zero).n) := cc 2 _ rfl
          clear cc hc
          have HO : Hid (sprOk m (S.getD q .zero) = (betB (S.getD q .zero).x (-16) 64 && betB (S.getD q .zero).y (-16) 64 && betB (S.getD q .zero).n 0 ((m : Int) - 1))) := Lib.hid rfl
          have HQ : Hid (sprOk m (S.getD q .zero) = false → S.all (sprOk m) = false) := Lib.hid (spr_bad q (by rw [HL.out]; exact hlt))
          have HG : Hid (sprOk m (S.getD q .zero) = true → ∀ j, j < q + 1 → sprOk m (S.getD j .zero) = true) := Lib.hid fun h j hj => by
            by_cases e : j = q
            · subst e; exact h
            · exact HK.out j (by omega)
          generalize sprOk m (S.getD q .zero) = OK at HO HQ HG
          generalize (S.getD q .zero).x = sx at c0 HO
          generalize (S.getD q .zero).y = sy at c1 HO
          generalize (S.getD q .zero).n = sn at c2 HO
          have hq' : (q : Int) < n := by omega
          go_wp2_with fail
          refine (l1In_any sx (-16) 64 _).mono ?_; rintro e w2 ⟨rfl, rfl⟩
          cases hbx : betB sx (-16) 64
          · go_wp2_with fail
            go_ret
            exact ⟨by rw [HE.out, HQ.out (by rw [HO.out, hbx]; rfl)]; simp, HC.out⟩
          go_wp2_with fail
          refine (l1In_any sy (-16) 64 _).mono ?_; rintro e w2 ⟨rfl, rfl⟩
          cases hby : betB sy (-16) 64
          · go_wp2_with fail
            go_ret
            exact ⟨by rw [HE.out, HQ.out (by rw [HO.out, hbx, hby]; rfl)]; simp, HC.out⟩
          go_wp2_with fail
          refine (l1In_any sn 0 ((m : Int) - 1) _).mono ?_; rintro e w2 ⟨rfl, rfl⟩
          cases hbn : betB sn 0 ((m : Int) - 1)
          · go_wp2_with fail
            go_ret
            exact ⟨by rw [HE.out, HQ.out (by rw [HO.out, hbx, hby, hbn]; rfl)]; simp, HC.out⟩
          have HY := Lib.hid (HG.out (by rw [HO.out, hbx, hby, hbn]; rfl))
          go_wp2_with fail
          go_roundw
          case rel => exact ⟨q + 1, by omega, by go_num, HC.out, HY.out⟩
          case measure => simp [intOf]; omega
        · obtain rfl : q = n := by omega
          have HA := Lib.hid (spr_good (S := S) (m := m) fun j hj => HK.out j (by rw [HL.out] at hj; exact hj))
          by_cases h12 : q ≤ 12
          · have h12' : (q : Int) ≤ 12 := by omega
            by_cases h16 : m ≤ 16
            · have h16' : (m : Int) ≤ 16 := by omega
              go_wp2_with fail
              go_ret
              exact ⟨by rw [HE.out, HF.out, HA.out]; simp [h12, h16], HC.out⟩
            · have h16' : ¬ (m : Int) ≤ 16 := by omega
              go_wp2_with fail
              go_ret
              exact ⟨by rw [HE.out, HF.out, HA.out]; simp [h16], HC.out⟩
          · have h12' : ¬ (q : Int) ≤ 12 := by omega
            go_wp2_with fail
            go_ret
            exact ⟨by rw [HE.out, HF.out, HA.out]; simp [h12], HC.out⟩
end Go.Proofs.Ytacebhncecninaa
end

section
/- The model's SpritesOnLine and SpritesHidden. -/
namespace Go.Proofs.Ytacebhncecninaa
open Go.ChangeShapes Go.WideShapes Go.ChangeAt Go.RowKit
set_option linter.unusedVariables false

theorem spr_y {S : List Spr} {m : Nat} {zs : List Int} (h : sprB S m zs = true) : ∀ i, i < S.length → -1000000000 ≤ (S.getD i .zero).y ∧ (S.getD i .zero).y ≤ 1000000000 := fun i hi => by
  have := (sprB_iff.1 h).2.1 i hi
  unfold sprOk at this
  simp only [Bool.and_eq_true, betB_iff] at this
  omega
end Go.Proofs.Ytacebhncecninaa
end
