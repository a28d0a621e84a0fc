/- The laws' own functions on sprites. -/
import Derived.Test.YtacebhncecninaaSprH
import Derived.Test.YtacebhncecninaaGD
namespace Go.Proofs.Ytacebhncecninaa
open Go.ChangeShapes Go.WideShapes Go.ChangeAt Go.RowKit
set_option linter.unusedVariables false

theorem to_spr (s : Spr) (w : World) : Calls Try.prog 114 #[sprV s] w fun e w' => e = .returned (sprV s) ∧ Below w.heap.size w w' := by
  obtain ⟨x, y, n, ac, dn, bh⟩ := s
  show Calls Try.prog 114 #[.agg #[.int .i64 x, .int .i64 y, .int .i64 n, .bool ac, .bool dn, .bool bh]] w fun e w' => e = .returned (.agg #[.int .i64 x, .int .i64 y, .int .i64 n, .bool ac, .bool dn, .bool bh]) ∧ Below w.heap.size w w'
  go_enter Try.func114, Try.ntmps114
  go_wp2
  exact bodyPost_ret (v := .agg #[.int .i64 x, .int .i64 y, .int .i64 n, .bool ac, .bool dn, .bool bh]) (by simp [results, Try.results114, go_sem]) rfl ⟨rfl, below3 w _ _ _⟩
theorem eq_spr (s : Spr) (w : World) : Calls Try.prog 115 #[sprV s, sprV s] w fun e w' => e = .returned (.bool true) ∧ Below w.heap.size w w' := by
  obtain ⟨x, y, n, ac, dn, bh⟩ := s
  show Calls Try.prog 115 #[.agg #[.int .i64 x, .int .i64 y, .int .i64 n, .bool ac, .bool dn, .bool bh], .agg #[.int .i64 x, .int .i64 y, .int .i64 n, .bool ac, .bool dn, .bool bh]] w fun e w' => e = .returned (.bool true) ∧ Below w.heap.size w w'
  go_enter Try.func115, Try.ntmps115
  go_wp2
  go_ret
  exact ⟨rfl, below2 w _ _⟩
theorem spr_infoL : (Try.prog.info? 130).map (·.size) = some 6 := by kernel_rfl
section
variable {ops : Array Oper} {rest : List Oper} {o : Oper} {a : Act} {w : World} {Q : Exit → Act → World → Prop}
theorem sp_loadmL (hw : Region.wanted o (yielded ops a.tmps) = true) (x : Operand) (ho : o.op = .load 130 x) (b k : Nat) (hx : a.eval x = .pointer (some ⟨b, k, none⟩)) (s : Spr) (hb : w.rangeAt b k (scs s))
    (h : wpList Try.prog ops Q rest (a.put o.dst (sprV s)) w) : wpList Try.prog ops Q (o :: rest) a w :=
  wpList_step fun K hK => by
    rw [if_pos hw]
    exact wp_load_mid _ x ho b k hx (scs s) _ hb Try.underlying130 rfl spr_infoL (hK _ _ h)
/-- A sprite is stored into the middle of a row of the call's own. -/
theorem sp_storem (hw : Region.wanted o (yielded ops a.tmps) = true) (x y : Operand) (ho : o.op = .store 48 x y) (g k : Nat) (hx : a.eval x = .pointer (some ⟨g, k, none⟩)) (s : Spr) (hy : a.eval y = sprV s) (t : TypeId) (cur : List Value) (hb : Box w g t cur) (hfit : k + 6 ≤ cur.length) (res : List Value) (hres : cur.take k ++ scs s ++ cur.drop (k + 6) = res)
    (h : wpList Try.prog ops Q rest (a.put o.dst undef) (w.setRow g res.toArray)) : wpList Try.prog ops Q (o :: rest) a w :=
  wpList_step fun K hK => by
    rw [if_pos hw]
    have h6 : (scs s).length = 6 := rfl
    have hst := run_storeCells_at Try.prog g k t (scs s) 0 cur.toArray w hb (by simp [h6]; omega) (by simp [scs, Value.oneCell'])
    have e : (cur.toArray.toList.take (k + 0) ++ scs s ++ cur.toArray.toList.drop (k + 0 + (scs s).length)).toArray = res.toArray := by
      rw [← hres]
      simp [h6]
    rw [e] at hst
    have hsv : (storeVar 48 ⟨g, k, none⟩ (sprV s)).run Try.prog w = .ok () (w.setRow g res.toArray) := by
      have hi := spr_info
      cases hq : Try.prog.info? 48 with
      | none => simp [hq] at hi
      | some i =>
        have hs : i.size = 6 := by simpa [hq] using hi
        have hcs : (scs s).toArray.size = i.size := by simp [h6, hs]
        have hc2 : (sprV s).cells = (scs s).toArray := rfl
        simp [storeVar, sizeOf, typeInfo, hq, hc2, hs, h6, hst]
    unfold Oper.wp execOp
    simp only [ho, hx, hy, Instr.storeAt, Instr.sureAddr, Sem.run_bind, Sem.run_pure, Result.andThen_ok, hsv]
    exact hK _ _ h
end
/-- A row of m sprites of which k stand. -/
def tkS (S : List Spr) (k m : Nat) : List Value := svs (S.take k) ++ svs (List.replicate (m - k) .zero)
theorem tkS_len {S : List Spr} {k m : Nat} (h : S.length = m) (hk : k ≤ m) : (tkS S k m).length = 6 * m := by
  unfold tkS; rw [List.length_append, svs_len, svs_len, List.length_take, List.length_replicate]; omega
theorem tkS_all {S : List Spr} {m : Nat} (h : S.length = m) : tkS S m m = svs S := by
  unfold tkS; rw [Nat.sub_self, List.replicate_zero, svs_nil, List.append_nil, List.take_of_length_le (by omega)]
theorem tkS_step {S : List Spr} {k m : Nat} (h : S.length = m) (hk : k < m) : (tkS S k m).take (k * 6) ++ scs (S.getD k .zero) ++ (tkS S k m).drop (k * 6 + 6) = tkS S (k + 1) m := by
  have l1 : (svs (S.take k)).length = k * 6 := by rw [svs_len, List.length_take]; omega
  have e1 : (tkS S k m).take (k * 6) = svs (S.take k) := by
    unfold tkS
    rw [← l1, List.take_left]
  have e2 : (tkS S k m).drop (k * 6 + 6) = svs (List.replicate (m - (k + 1)) .zero) := by
    unfold tkS
    rw [← List.drop_drop, ← l1, List.drop_left, show m - k = (m - (k + 1)) + 1 by omega, List.replicate_succ, svs_cons]
    rfl
  have e3 : S.take (k + 1) = S.take k ++ [S.getD k .zero] := by
    rw [List.take_add_one, List.getD_eq_getElem?_getD, List.getElem?_eq_getElem (by omega)]
    rfl
  rw [e1, e2]
  unfold tkS
  rw [e3, svs_app]
  rfl
theorem made_sprs (n : Nat) : madeCells (sprV .zero).cells (n * 6) = (svs (List.replicate n .zero)).toArray := by
  apply Array.ext
  · rw [size_madeCells]; simp [svs_len]; omega
  · intro j h1 h2
    have hj : j < n * 6 := by simpa [size_madeCells] using h1
    have hg := svs_get (List.replicate n Spr.zero) (j / 6) (j % 6) (by simp; omega) (Nat.mod_lt _ (by omega))
    rw [Nat.div_add_mod, List.getD_eq_getElem?_getD, List.getElem?_replicate, if_pos (by omega)] at hg
    have h3 : j % 6 < 6 := Nat.mod_lt _ (by omega)
    simp only [madeCells, Value.cells, Array.getElem_map, Array.getElem_range, List.getElem_toArray]
    rw [List.getElem?_eq_getElem (by simpa using h2)] at hg
    have e : ((scs Spr.zero).toArray : Array Value)[j % 6]! = (svs (List.replicate n Spr.zero))[j]'(by simpa using h2) := by
      have : ((scs Spr.zero).toArray : Array Value)[j % 6]? = some ((svs (List.replicate n Spr.zero))[j]'(by simpa using h2)) := by
        rw [hg]; simp
      rw [Array.getElem!_eq_getD, Array.getD_eq_getD_getElem?, this]
      rfl
    exact e
theorem run_make_sprs (n : Nat) (hn : n ≤ 1000000000) (w : World) : (Instr.makeSlice 39 (.int .i64 (n : Int)) (.int .i64 (n : Int))).run Try.prog w = .ok (.slice (some ⟨w.heap.size, 0, none⟩) n n) (w.alloc (.cells (tkS [] 0 n).toArray 48)) := by
  obtain ⟨i, hi, hz, hs, hb⟩ := spr_parts
  have hr := run_make (P := Try.prog) w 39 48 i (sprV .zero) Try.underlying39 hi hz .i64 .i64 n n (by omega) (Int.le_refl _) (by rw [hb]; omega) (by omega)
  rw [hs] at hr
  simp only [Int.toNat_natCast, made_sprs] at hr
  rw [hr]
  rfl
/-- What a copy of sprites leaves. -/
def CopiedS (S : List Spr) (n : Nat) (w : World) (e : Ending) (w' : World) : Prop :=
  ∃ (A : Option Addr) (c : Nat) (fp : List Nat), e = .returned (.slice A n c) ∧ n ≤ c ∧ Sprs w' A n S fp ∧ New w.heap.size w' fp ∧ Below w.heap.size w w'
set_option maxHeartbeats 2000000 in
theorem to_sprs (A : Option Addr) (m c : Nat) (S : List Spr) (fa : List Nat) (w : World) (ha : Sprs w A m S fa) (hn : m ≤ 1000000000) :
    Calls Try.prog 89 #[.slice A m c] w (CopiedS S m w) := by
  have HA := Lib.hid ha
  have HZ := Lib.hid ha.1
  clear ha
  have hmk := run_make_sprs m hn
  have h00 : Hid (tkS [] 0 m = tkS S 0 m) := Lib.hid (by simp [tkS])
  go_enter Try.func89, Try.ntmps89
  go_wp2_with fail
  obtain ⟨w1, hw1⟩ : ∃ w1, w1 = w.alloc (.cells (tkS [] 0 m).toArray 48) := ⟨_, rfl⟩
  have Y1 : Hid (Box w1 w.heap.size 48 (tkS S 0 m)) := by rw [hw1, h00.out]; exact Box.new _ _ _
  have B1 : Hid (Below w.heap.size w w1) := by rw [hw1]; exact below1 w _
  rw [← hw1]
  clear hw1 hmk
  go_loopw [4] (fun i wr => ∃ k : Nat, k ≤ m ∧ i = .int .i64 k ∧ Box wr w.heap.size 48 (tkS S k m) ∧ Below w.heap.size w wr) (fun i _ => m - (intOf i).toNat)
  case atStart => exact ⟨0, by omega, rfl, Y1.out, B1.out⟩
  case round =>
    obtain ⟨k, hk, rfl, hy, hb⟩ := hrel
    have YR := Lib.hid hy
    have BR := Lib.hid hb
    clear hy hb Y1 B1
    by_cases hlt : k < m
    · obtain ⟨p, o, rfl, _, _, hc⟩ := HA.out.at_ (by omega)
      clear hc
      have RG := Lib.hid (spr_range (HA.out.below BR.out) hlt)
      have HST := Lib.hid (tkS_step HZ.out hlt)
      have HTL := Lib.hid (tkS_len HZ.out hk)
      generalize S.getD k .zero = s at RG HST
      go_wp2_with (first | (refine sp_loadmL (by rfl) _ rfl _ _ rfl s RG.out ?_))
      refine (to_spr s _).mono ?_; rintro e w2 ⟨rfl, b2⟩
      have Y2 := Lib.hid (YR.out.below b2)
      have B2 := Lib.hid (below_then BR.out b2)
      clear b2
      go_wp2_with (first | (refine sp_storem (by rfl) _ _ rfl w.heap.size (k * 6) rfl s rfl _ (tkS S k m) Y2.out (by rw [HTL.out]; omega) (tkS S (k + 1) m) HST.out ?_))
      go_roundw
      case rel => exact ⟨k + 1, by omega, by go_num, Box.row Y2.out, below_row B2.out (Nat.le_refl _) _⟩
      case measure => simp [intOf]; omega
    · obtain rfl : k = m := by omega
      have HAL := Lib.hid (tkS_all HZ.out)
      go_wp2_with fail
      go_ret
      have YF := YR.out
      rw [HAL.out] at YF
      refine ⟨_, _, if k = 0 then [] else [w.heap.size], rfl, Nat.le_refl _, ⟨HZ.out, ?_⟩, ?_, BR.out⟩
      · by_cases h0 : k = 0
        · exact .inl ⟨by omega, if_pos h0⟩
        · exact .inr ⟨by omega, w.heap.size, 0, rfl, if_neg h0, YF.lt, fun i v hv => by rw [Nat.zero_add, YF.cell i]; exact hv⟩
      · by_cases h0 : k = 0
        · rw [if_pos h0]; exact .nil _ _
        · rw [if_neg h0]; exact .one (Nat.le_refl _) YF.lt YF.frozen
theorem sz_sprs_yes (A : Option Addr) (n c : Nat) (left : Int) (w : World) (h : (n : Int) ≤ left) (hl : left ≤ 1000000000) :
    Calls Try.prog 88 #[.slice A n c, .int .i64 left] w fun e w' => e = .returned (.int .i64 (left - n)) ∧ w = w' := by
  go_enter Try.func88, Try.ntmps88
  go_wp2
  go_ret
  exact ⟨rfl, rfl⟩
theorem sz_sprs_no (A : Option Addr) (n c : Nat) (left : Int) (w : World) (h : left < n) (hl : -1 ≤ left) (hn : n ≤ 9223372036854775807) :
    Calls Try.prog 88 #[.slice A n c, .int .i64 left] w fun e w' => e = .returned (.int .i64 (-1)) ∧ w = w' := by
  go_enter Try.func88, Try.ntmps88
  go_wp2
  go_ret
  exact ⟨rfl, rfl⟩
end Go.Proofs.Ytacebhncecninaa
